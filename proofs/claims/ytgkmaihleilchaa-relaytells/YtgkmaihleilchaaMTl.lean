/- 'hedgelaw9.RelayTells' returns true for every input, and leaves it as it was. Conditions: none beyond the form's own. -/
import Derived.Test.YtgkmaihleilchaaYLc
import Derived.Test.YtgkmaihleilchaaMTa
import Derived.Test.YtgkmaihleilchaaMTc
import Derived.Test.YtgkmaihleilchaaBS8
import Derived.Test.YtgkmaihleilchaaMFr
namespace Go.Proofs.Ytgkmaihleilchaa
open Go.RowKit
open Bk (E at')
open Rl (G gat F O R)

theorem fa_neq9 (a b : Int) (w : World) : (binOp .neq 33 (.agg #[.int .i64 a, .int .i64 b]) (.agg #[.int .i64 a, .int .i64 b])).run Try.prog w = .ok (.bool false) w := by
  go_simp
set_option maxRecDepth 20000 in
set_option maxHeartbeats 8000000 in
theorem rtells_law (r : R) (ao : Option Addr) (cap : Nat) (l : List G) (bo : Option Addr) (bcap : Nat) (bk : List E) (p : Int) (f : F) (w : World) (hin : RelIn w r ao cap l bo bcap bk f) :
    Calls Try.prog 3 #[.agg #[.string r.name, .int .i64 r.rev, .slice r.ao r.n r.cap], .slice ao l.length cap, .slice bo bk.length bcap, .int .i64 p, .agg #[.int .u64 f.dst, .int .u64 f.src, .bool f.tagged, .int .i64 f.prio, .bool f.drop, .int .i64 f.vid, .int .i64 f.type, .slice f.ao f.n f.cap]] w fun e w' => e = .returned (.bool true) ∧ Below w.heap.size w w' := by
  obtain ⟨W0, HW0⟩ : ∃ W0, Hid (W0 = (w.alloc (.cells #[.string r.name, .int .i64 r.rev, .slice r.ao r.n r.cap] 24)).alloc (.cells #[.int .u64 f.dst, .int .u64 f.src, .bool f.tagged, .int .i64 f.prio, .bool f.drop, .int .i64 f.vid, .int .i64 f.type, .slice f.ao f.n f.cap] 30)) := ⟨_, rfl⟩
  have CX : Hid (Cx W0 w r ao cap l bo bcap bk f) := by rw [HW0.out]; exact cx_of hin
  have HB0 : Hid (Below W0.heap.size W0 W0) := Below.refl _ _
  clear hin
  have hne : ∀ (a b : Int) (W : World), (binOp .neq 33 (.agg #[.int .i64 a, .int .i64 b]) (.agg #[.int .i64 a, .int .i64 b])).run Try.prog W = .ok (.bool false) W := fa_neq9
  have HP : Hid (∀ W, Below W0.heap.size W0 W → Calls Try.prog 9 #[.slice ao l.length cap] W fun e w' => e = .returned (.agg #[.int .i64 (Rl.wrong l).1, .int .i64 (Rl.wrong l).2]) ∧ Hid (Below W0.heap.size W0 w')) := fun W hW => (gwrong9_any ao cap l W (CX.out.inn W hW).gates).mono (fun e w' h => ⟨h.1, below_up hW h.2⟩)
  have HQ : Hid (∀ W, Below W0.heap.size W0 W → Calls Try.prog 10 #[.slice ao l.length cap] W fun e w' => e = .returned (.agg #[.int .i64 (Rl.wrong l).1, .int .i64 (Rl.wrong l).2]) ∧ Hid (Below W0.heap.size W0 w')) := fun W hW => (rwrong9_any ao cap l W (CX.out.inn W hW).gates).mono (fun e w' h => ⟨h.1, below_up hW h.2⟩)
  have HD : Hid (∀ W, Below W0.heap.size W0 W → Calls Try.prog 12 #[.agg #[.string r.name, .int .i64 r.rev, .slice r.ao r.n r.cap], .slice ao l.length cap, .slice bo bk.length bcap, .int .i64 p, .agg #[.int .u64 f.dst, .int .u64 f.src, .bool f.tagged, .int .i64 f.prio, .bool f.drop, .int .i64 f.vid, .int .i64 f.type, .slice f.ao f.n f.cap]] W fun e w' => ∃ oo oc os bo' bc', e = .returned (.tuple #[.slice oo os.length oc, .slice bo' (Rl.relay r l bk p f).book.length bc', .int .i64 (Rl.relay r l bk p f).err]) ∧ Hid (RelDoc W w' f (Rl.relay r l bk p f) oo oc os bo' bc') ∧ Hid (Below W0.heap.size W0 w')) := fun W hW => by
    refine (rrelay_any r ao cap l bo bcap bk p f W (CX.out.inn W hW)).mono ?_
    rintro e w' ⟨oo, oc, os, bo', bc', rfl, h⟩
    exact ⟨oo, oc, os, bo', bc', rfl, h, below_up hW h.low⟩
  generalize (Rl.wrong l).1 = e1 at *
  generalize (Rl.wrong l).2 = e2 at *
  go_enter Try.func3, Try.ntmps3
  go_wp2_with fail
  rw [← HW0.out]
  refine (HP.out W0 HB0.out).mono ?_
  rintro e w1 ⟨rfl, HB1⟩
  go_wp2_with fail
  refine (HQ.out w1 HB1.out).mono ?_
  rintro e w2 ⟨rfl, HB2⟩
  obtain ⟨c0, c1, c2⟩ := CX.out.reg w2 HB2.out
  obtain ⟨d0, d1, d2, d3, d4, d5, d6, d7⟩ := CX.out.frm w2 HB2.out
  clear HP HQ
  go_wp2_with fail
  refine (CX.out.relay p w2 HB2.out).mono ?_
  rintro e w3 ⟨oo, oc, os, bo', bc', rfl, HO, HB3⟩
  clear c0 c1 c2 d0 d1 d2 d3 d4 d5 d6 d7
  obtain ⟨c0, c1, c2⟩ := CX.out.reg w3 HB3.out
  obtain ⟨d0, d1, d2, d3, d4, d5, d6, d7⟩ := CX.out.frm w3 HB3.out
  go_wp2_with fail
  refine (HD.out w3 HB3.out).mono ?_
  rintro e w4 ⟨oo2, oc2, os2, bo2, bc2, rfl, HO2, HB4⟩
  clear c0 c1 c2 d0 d1 d2 d3 d4 d5 d6 d7 HD
  have hos : os.length ≤ 1000 ∧ (Rl.relay r l bk p f).book.length ≤ 30 := by
    have h1 : os.length = (Rl.relay r l bk p f).out.length := by rw [← HO.out.out, List.length_map]
    rcases Rl.relay_cases r l bk p f with ⟨_, h3, h4⟩ | ⟨_, h2, ⟨_, h3⟩ | ⟨_, h3⟩⟩
    · rw [h1, h3, h4]; simp
    · rw [h1, h3]; exact ⟨by simp, h2.book.many⟩
    · rw [h1, h3]
      refine ⟨?_, (Bk.learn_book h2.book _).many⟩
      show (Rl.outs r l bk p f).length ≤ 1000
      unfold Rl.outs
      rw [List.length_map]
      have := h2.right.many
      exact Nat.le_trans (List.length_filter_le _ _) (by omega)
  have HSO : Hid (Calls Try.prog 13 #[.slice oo os.length oc, .slice oo2 os2.length oc2] w4 fun e w' => e = .returned (.bool true) ∧ Hid (Below w4.heap.size w4 w')) := (rsameout_yes oo oc oo2 oc2 f os os2 w4 (HO.out.row.below HO2.out.low) HO2.out.row (HO.out.out.trans HO2.out.out.symm) hos.1).mono (fun _ _ h => ⟨h.1, h.2⟩)
  have HSM : Hid (∀ W, Below w4.heap.size w4 W → Calls Try.prog 14 #[.slice bo' (Rl.relay r l bk p f).book.length bc', .slice bo2 (Rl.relay r l bk p f).book.length bc2] W fun e w' => e = .returned (.bool true) ∧ Hid (Below W.heap.size W w')) := fun W hW => (rsame8_yes bo' bc' bo2 bc2 _ _ _ _ W rfl rfl rfl (by omega) (BEL.below (BEL.below HO.out.book HO2.out.low) hW) (BEL.below HO2.out.book hW)).mono (fun _ _ h => ⟨h.1, h.2⟩)
  have e5 : ((Rl.relay r l bk p f).err == (Rl.relay r l bk p f).err) = true := by simp
  clear hos HO HO2
  generalize (Rl.relay r l bk p f).err = er at *
  go_wp2_with fail
  refine HSO.out.mono ?_
  rintro e w5 ⟨rfl, HB5⟩
  go_wp2_with fail
  refine (HSM.out w5 HB5.out).mono ?_
  rintro e w6 ⟨rfl, HB6⟩
  go_wp2_with fail
  go_ret
  exact ⟨rfl, CX.out.low _ (below_up (below_up HB4.out HB5.out) HB6.out)⟩
end Go.Proofs.Ytgkmaihleilchaa

namespace Go.Proofs.Ytgkmaihleilchaa.relayTells
open Go.ChangeShapes Go.WideShapes Go.ChangeAt Go.RowKit

set_option maxRecDepth 100000 in
theorem lifted (os : Os) (started : os.Started) (H : Type) (enc : TypeId × Value → H) :
    ReturnsInHanded {} Try.checked os 3 .any (Rows.relayTellsSpec.pre6 enc Try.prog Try.f3 Rows.relayTellsRow.domain false) (Rows.relayTellsSpec.post enc Try.prog Try.f3 false true false false) := by
  refine returnsInHanded_of_change (C := Try.checked) own started (by kernel_rfl) Try.func3
    (ChangeSpec.witness6 (enc := enc) (C := Try.checked) false ⟨#[], #[.agg #[.string ⟨#[]⟩, .int .i64 0, .slice none 0 0], .slice none 0 0, .slice none 0 0, .int .i64 0, .agg #[.int .u64 0, .int .u64 0, .bool false, .int .i64 0, .bool false, .int .i64 0, .int .i64 0, .slice none 0 0]], []⟩ 8 (by kernel_rfl) (by kernel_rfl) (by kernel_rfl) (by kernel_rfl)) ?_
  intro W base args ds gs before hval0 hW hcnd _
  have hval : ∀ (j : Nat) t v, Try.f3.params[j]? = some t → args[j]? = some v → Value.okWide Try.prog W .any base t v := hval0
  have hW' := hW
  obtain ⟨p, q, hA0, hV, rfl, hfz, hnd⟩ := hW
  have hA : DataW.TrodAll enc Try.prog W 0 (fun _ => true) true Try.f3.params.toList args.toList ds p := hA0
  rw [Try.params3] at hA hval
  obtain ⟨v0, vs0, d0, ds0, p0, q0, hargs, rfl, rfl, h0, r0⟩ := trodAll_cons hA
  obtain ⟨v1, vs1, d1, ds1, p1, q1, rfl, rfl, rfl, h1, r1⟩ := trodAll_cons r0
  obtain ⟨v2, vs2, d2, ds2, p2, q2, rfl, rfl, rfl, h2, r2⟩ := trodAll_cons r1
  obtain ⟨v3, vs3, d3, ds3, p3, q3, rfl, rfl, rfl, h3, r3⟩ := trodAll_cons r2
  obtain ⟨v4, vs4, d4, ds4, p4, q4, rfl, rfl, rfl, h4, r4⟩ := trodAll_cons r3
  obtain ⟨rfl, rfl, rfl⟩ := trodAll_nil r4
  obtain rfl : args = #[v0, v1, v2, v3, v4] := by cases args; simp_all
  obtain ⟨rfl, rfl⟩ := trodVars_none hV
  have lt0 : ∀ x ∈ p0, x.block < W.heap.size := by obtain ⟨m, hm⟩ := h0; exact DataW.trod_lt m _ _ _ hm
  obtain ⟨rg0, rfl, hr0, hn0⟩ := region_in9 (hval 0 24 v0 rfl rfl) h0
  have lt1 : ∀ x ∈ p1, x.block < W.heap.size := by obtain ⟨m, hm⟩ := h1; exact DataW.trod_lt m _ _ _ hm
  obtain ⟨ao1, cap1, l1, rfl, hr1⟩ := gates_in (hval 1 25 v1 rfl rfl) h1
  have lt2 : ∀ x ∈ p2, x.block < W.heap.size := by obtain ⟨m, hm⟩ := h2; exact DataW.trod_lt m _ _ _ hm
  obtain ⟨ao2, cap2, l2, rfl, hr2, hnil2, hn2⟩ := entries_in (hval 2 26 v2 rfl rfl) h2
  have lt3 : ∀ x ∈ p3, x.block < W.heap.size := by obtain ⟨m, hm⟩ := h3; exact DataW.trod_lt m _ _ _ hm
  obtain ⟨z3, rfl⟩ := okWide_int Try.underlying3 (hval 3 3 v3 rfl rfl)
  have lt4 : ∀ x ∈ p4, x.block < W.heap.size := by obtain ⟨m, hm⟩ := h4; exact DataW.trod_lt m _ _ _ hm
  obtain ⟨f4, rfl, hr4, hnil4, hd4, hs4⟩ := frame_in9 (hval 4 30 v4 rfl rfl) h4
  clear hA0 hval0
  refine (rtells_law rg0 ao1 cap1 l1 ao2 cap2 l2 z3 f4 W ⟨hr0, hn0, hr1, hr2, hn2, hnil2, hr4, hnil4, hd4, hs4⟩).mono fun e W' ⟨he, bel⟩ => ?_
  subst he
  exact ⟨_, rfl, _, _, _, [], _, [], hW', trodAll_mk1 (shut_bool Try.underlying4 _), (trodAll_cons_mk (Below.trod laidOut (by kernel_rfl) (of_decide_eq_true (by kernel_rfl)) h0 bel lt0) (trodAll_cons_mk (Below.trod laidOut (by kernel_rfl) (of_decide_eq_true (by kernel_rfl)) h1 bel lt1) (trodAll_cons_mk (Below.trod laidOut (by kernel_rfl) (of_decide_eq_true (by kernel_rfl)) h2 bel lt2) (trodAll_cons_mk (Below.trod laidOut (by kernel_rfl) (of_decide_eq_true (by kernel_rfl)) h3 bel lt3) (trodAll_cons_mk (Below.trod laidOut (by kernel_rfl) (of_decide_eq_true (by kernel_rfl)) h4 bel lt4) trodAll_mk0))))), rfl, bel.frame _, fun h => by cases h⟩

theorem over : Rows.relayTellsRow.holds Try.pinned (OpenSpec.ofChange Rows.relayTellsSpec) :=
  OpenClaim.holds_of_wide 3 Try.f3 rfl rfl rfl rfl rfl rfl rfl ⟨rfl, rfl, rfl, rfl, rfl⟩ rfl rfl rfl rfl rfl (by kernel_rfl) Try.func3 (by kernel_rfl)
    (of_decide_eq_true (by kernel_rfl)) (by unfold Func.isWrapper; first | (rw [if_pos (by decide +kernel)]; kernel_rfl) | (rw [if_neg (by decide +kernel)]; exact ⟨rfl, rfl⟩))
    (fun os started H enc _ => lifted os started H enc)
end Go.Proofs.Ytgkmaihleilchaa.relayTells
namespace Go.Proofs.Ytgkmaihleilchaa
/-- The document tells of relays: the statement, as it was given. -/
theorem relayTells_said : Rows.RelayTellsSaid := relayTells.over
#print axioms relayTells_said
end Go.Proofs.Ytgkmaihleilchaa
