/- 'hedgelaw7.TalkAges' returns true for every net, every number of trees and whatever is done, and leaves it as it was: the row and its tied card. Conditions: none beyond the form's own (the tables lie as the program's text lays them: the card's tie). -/
import Derived.Test.YtaneiffnhphkhaaGreatDoorK36
import Derived.Test.YtaneiffnhphkhaaGreatDoorCards
import Derived.Test.YtaneiffnhphkhaaGreatDoorTie
import Derived.Test.YtaneiffnhphkhaaGreatDoorK37
namespace Go.Proofs.YtaneiffnhphkhaaGreatDoor
open Go.RowKit
open Vc (V Of)
open Pl (Br Net Pc Lk En St)
open Tk (Md Mnd Cn Sc Dn)

theorem start_aged (n : Net) (k K : Nat) : Tk.Aged (startMs n k) K := fun i _ => ⟨⟨Int.le_refl _, by show (0 : Int) ≤ 20; omega⟩, ⟨fun _ => by show (-1 : Int) < 0; omega, fun _ => rfl⟩, ⟨fun _ => by show (-1 : Int) < 0; omega, fun _ => rfl⟩⟩
/-- A talk whose tales are no older than they may be. -/
def AgeT (t : List Tr) : Prop := ∀ k, k < t.length → ∀ i, i < (tat t k).l.length → (0 ≤ (mat (tat t k).l i).md.age ∧ (mat (tat t k).l i).md.age ≤ 20) ∧ ((mat (tat t k).l i).md.age = 0 ↔ (mat (tat t k).l i).md.rp < 0) ∧ ((mat (tat t k).l i).md.v.root = (mat (tat t k).l i).md.v.bridge ↔ (mat (tat t k).l i).md.rp < 0)
theorem sn_aged {V : World} {n : Net} {T : Nat} {ds : Nat → Dn} {dn : Nat} {n' : Net} {oa : Option Addr} {oc : Nat} {t' : List Tr} (h : SnOut V n T ((n.sc (startMs n)).all n.cn ds dn) n' oa oc t') : AgeT t' := fun k hk i hi => by
  rw [h.len] at hk
  obtain ⟨e1, e2⟩ := h.each k hk
  rw [e1] at hi
  obtain ⟨e3, _⟩ := e2 i hi
  have := Tk.all_aged n.cn (s := n.sc (startMs n)) (T := T) (fun k _ => start_aged n k _) ds dn k hk i hi
  rw [← e3] at this
  exact this
set_option maxRecDepth 100000 in
set_option maxHeartbeats 4000000 in
theorem tages_any (n : Net) (trees : Int) (dao : Option Addr) (dn dcap : Nat) (ds : Nat → Dn) (w : World) (hwf : n.Wf) (hat : n.at' w) (hdn : dn ≤ 9223372036854775807) (hds : DRow w dao dn dcap ds) (htb : Tabs w) (hbt : 2 ≤ w.heap.size) :
    Calls Tryz.prog 9 #[n.val, .int .i64 trees, .slice dao dn dcap] w fun e w' => e = .returned (.bool true) ∧ Below w.heap.size w w' := by
  obtain ⟨X, HX⟩ : ∃ X, Hid (X = w.alloc (.cells #[.slice n.bao n.K n.bcap, .slice n.lao n.L n.lcap] 25)) := ⟨_, rfl⟩
  have hXB : Below w.heap.size w X := by rw [HX.out]; exact below_alloc1 _ _
  have hX0 : X.heap[w.heap.size]? = some (.cells #[.slice n.bao n.K n.bcap, .slice n.lao n.L n.lcap] 25 (0, 0)) := by rw [HX.out]; exact heap_alloc_last _ _
  have HTB : Hid (∀ V, Below X.heap.size X V → (Tabs V ∧ 2 ≤ V.heap.size) ∧ n.at' V ∧ DRow V dao dn dcap ds ∧ (V.cell? ⟨w.heap.size, 0, none⟩ = some (.slice n.bao n.K n.bcap) ∧ V.cell? ⟨w.heap.size, 1, none⟩ = some (.slice n.lao n.L n.lcap)) ∧ Below w.heap.size w V) := fun V hV => by
    have h := hXB.trans (hV.mono hXB.size)
    exact ⟨⟨htb.below h hbt, Nat.le_trans hbt h.size⟩, hat.below h, CRow.below hds h, two_cells2 (keep hX0 hV), h⟩
  have HWF : Hid n.Wf := hwf
  clear hwf hat hds htb hbt hXB hX0
  simp only [Pl.Net.val]
  go_enter Tryz.func9, Tryz.ntmps9
  go_wp2_with fail
  rw [← HX.out]
  obtain ⟨⟨t1, t2⟩, _⟩ := HTB.out X (Below.refl _ _)
  refine (t7alive_any X t1 t2).mono ?_
  rintro e w1 ⟨rfl, HB1⟩
  have H1 : Hid (Below X.heap.size X w1) := HB1
  obtain ⟨⟨t1, t2⟩, a1, a2, ⟨c0, c1⟩, _⟩ := HTB.out w1 H1.out
  have HP : Hid (Calls Tryz.prog 15 #[.agg #[.slice n.bao n.K n.bcap, .slice n.lao n.L n.lcap], .int .i64 trees, .slice dao dn dcap] w1 fun e w' => ∃ na nk nc la lk lc oa ol oc f1 f2, e = .returned (.tuple #[.agg #[.slice na nk nc, .slice la lk lc], .agg #[.slice oa ol oc], .agg #[.int .i64 f1, .int .i64 f2]]) ∧ Hid (Below w.heap.size w w' ∧ ((f1 ≠ 0 ∧ ol = 0) ∨ (f1 = 0 ∧ ∃ t' : List Tr, ol = t'.length ∧ TrRow w' oa oc t' ∧ AgeT t')))) := by
    refine (tplay_flat n trees dao dn dcap ds w1 HWF.out a1 hdn a2 t1 t2).mono ?_
    rintro e w' ⟨na, nk, nc, la, lk, lc, oa, ol, oc, f1, f2, rfl, H⟩
    refine ⟨na, nk, nc, la, lk, lc, oa, ol, oc, f1, f2, rfl, (HTB.out _ (H1.out.trans (H.out.1.mono H1.out.size))).2.2.2.2, ?_⟩
    rcases H.out.2 with ⟨z1, ⟨rfl, _⟩, _, _, _, z2, _⟩ | ⟨_, ⟨z1, _⟩, n', t', _, _, z2, b, _, z3⟩
    · exact Or.inl ⟨z1, z2⟩
    · exact Or.inr ⟨z1, t', z2, z3.here.row, sn_aged z3.here⟩
  clear t1 t2 a1 a2 HB1 HTB HWF H1
  go_wp2_with fail
  refine HP.out.mono ?_
  rintro e w2 ⟨na, nk, nc, la, lk, lc, oa, ol, oc, f1, f2, rfl, H2⟩
  clear HP c0 c1
  obtain ⟨Z, HZ⟩ : ∃ Z, Hid (Z = ((w2.alloc (.cells #[.slice na nk nc, .slice la lk lc] 25)).alloc (.cells #[.slice oa ol oc] 29)).alloc (.cells #[.int .i64 f1, .int .i64 f2] 32)) := ⟨_, rfl⟩
  have hZ2 : Below w2.heap.size w2 Z := by rw [HZ.out]; exact (below_alloc2 _ _ _).alloc (by simp; omega) _
  have HBZ : Hid (Below w.heap.size w Z) := H2.out.1.trans (hZ2.mono H2.out.1.size)
  rcases H2.out.2 with ⟨q, rfl⟩ | ⟨rfl, t', rfl, hr, hg⟩
  · have q1 : (f1 != 0) = true := by simpa using q
    clear H2 hZ2
    go_wp2_with fail
    rw [← HZ.out]
    go_ret
    exact ⟨rfl, HBZ.out⟩
  · have HR : Hid (∀ V, Below Z.heap.size Z V → TrRow V oa oc t' ∧ Below w.heap.size w V) := fun V hV => ⟨(hr.below hZ2).below hV, HBZ.out.trans (hV.mono HBZ.out.size)⟩
    have HG : Hid (AgeT t') := hg
    have hmany := hr.many
    have hcap := hr.row.1
    clear H2 hZ2 hr hg HBZ
    go_wp2_with fail
    rw [← HZ.out]
    go_loopw [34] (fun i wr => ∃ k : Nat, k ≤ t'.length ∧ i = .int .i64 k ∧ Hid (Below Z.heap.size Z wr)) (fun i _ => t'.length - (intOf i).toNat)
    case atStart => exact ⟨0, by omega, rfl, Below.refl _ _⟩
    case round =>
      obtain ⟨k, hk, rfl, hB⟩ := hrel
      by_cases hlt : k < t'.length
      · have hrow := (HR.out wr hB.out).1
        obtain ⟨b, off, rfl, _⟩ := hrow.place (by omega)
        have c0 := hrow.cell hlt
        have ik : (0 : Int) ≤ (k : Int) := by omega
        have nk : (k : Int) < (t'.length : Int) := by omega
        have HGK : Hid (∀ i, i < (tat t' k).l.length → (0 ≤ (mat (tat t' k).l i).md.age ∧ (mat (tat t' k).l i).md.age ≤ 20) ∧ ((mat (tat t' k).l i).md.age = 0 ↔ (mat (tat t' k).l i).md.rp < 0) ∧ ((mat (tat t' k).l i).md.v.root = (mat (tat t' k).l i).md.v.bridge ↔ (mat (tat t' k).l i).md.rp < 0)) := HG.out k hlt
        have HRK : Hid (∀ V, Below Z.heap.size Z V → MiRow V (tat t' k).ao (tat t' k).cap (tat t' k).l ∧ Below w.heap.size w V) := fun V hV => ⟨(HR.out V hV).1.each k hlt, (HR.out V hV).2⟩
        have hm := hrow.each k hlt
        have hmm := hm.many
        have hmc := hm.row.1
        clear hrow hm
        generalize tat t' k = x at *
        obtain ⟨xa, xc, xl⟩ := x
        simp only at *
        go_wp2_with fail
        clear c0
        obtain ⟨wo, hwo⟩ : ∃ wo : World, wo = wr := ⟨wr, rfl⟩
        subst hwo
        go_loopw [40] (fun i wr => ∃ j : Nat, j ≤ xl.length ∧ i = .int .i64 j ∧ Hid (Below Z.heap.size Z wr)) (fun i _ => xl.length - (intOf i).toNat)
        case atStart => exact ⟨0, by omega, rfl, hB⟩
        case round =>
          obtain ⟨j, hj, rfl, hB2⟩ := hrel
          by_cases hlt2 : j < xl.length
          · have hm := (HRK.out wr hB2.out).1
            obtain ⟨mb, moff, rfl, _⟩ := hm.place (by omega)
            obtain ⟨d0, d1, d2, d3, d4, d5, d6, d7, d8⟩ := hm.cells hlt2
            obtain ⟨⟨a1, a2⟩, a3, a4⟩ := HGK.out j hlt2
            have ij : (0 : Int) ≤ (j : Int) := by omega
            have nj : (j : Int) < (xl.length : Int) := by omega
            clear hm
            generalize mat xl j = m at *
            have HBN : Hid (∀ o, Below Z.heap.size Z (wr.alloc o)) := fun o => hB2.out.alloc hB2.out.size o
            have e1 : ¬ m.md.age < 0 := by omega
            have e2 : ¬ m.md.age > 20 := by omega
            have e2' : ¬ 20 < m.md.age := by omega
            by_cases q : m.md.rp < 0
            · have e3 : (m.md.age == 0) = true := by simpa using a3.2 q
              have e4 : (m.md.v.root == m.md.v.bridge) = true := by simpa using a4.2 q
              clear a3 a4 HR HG HGK HRK
              go_wp2_with fail
              exact ⟨⟨j + 1, by omega, by go_num, HBN.out _⟩, by simp [intOf]; omega⟩
            · have e3 : (m.md.age == 0) = false := by simpa using fun z => q (a3.1 z)
              have e4 : (m.md.v.root == m.md.v.bridge) = false := by simpa using fun z => q (a4.1 z)
              clear a3 a4 HR HG HGK HRK
              go_wp2_with fail
              exact ⟨⟨j + 1, by omega, by go_num, HBN.out _⟩, by simp [intOf]; omega⟩
          · obtain rfl : j = xl.length := by omega
            clear HR HG HGK HRK
            go_wp2_with fail
            exact ⟨⟨k + 1, by omega, by go_num, hB2⟩, by simp [intOf]; omega⟩
      · obtain rfl : k = t'.length := by omega
        have HF : Hid (Below w.heap.size w wr) := (HR.out wr hB.out).2
        clear HR HG
        go_wp2_with fail
        go_ret
        exact ⟨rfl, HF.out⟩
end Go.Proofs.YtaneiffnhphkhaaGreatDoor

namespace Go.Proofs.YtaneiffnhphkhaaGreatDoor.talkAges
open Go.ChangeShapes Go.WideShapes Go.ChangeAt Go.RowKit

set_option maxRecDepth 100000 in
theorem contract (H : Type) (enc : TypeId × Value → H) (W : World) (base : Nat) (args : Array Value) (ds gs : List (DataW H)) (before : List MemPlace)
    (hval : ∀ (j : Nat) t v, Tryz.f9.params[j]? = some t → args[j]? = some v → Value.okWide Tryz.prog W .any base t v)
    (hW : DataW.Whole enc Tryz.prog Tryz.f9.params.toList Rows.talkAgesSpec.vars false W args.toList ds gs before)
    (hsz : (DataW.weightsEach Tryz.prog (Tryz.f9.params.toList ++ (OpenSpec.ofChange Rows.talkAgesSpec).bare.plain.varTypes Tryz.prog) (ds ++ gs)).all (· ≤ reachBytes) = true)
    (hL : laidMetH Tryz.prog Rows.talkAgesRow.laid W) :
    Calls Tryz.prog 9 args W fun e W' => ∃ v, e = .returned v ∧ Rows.talkAgesSpec.post enc Tryz.prog Tryz.f9 false true false false W args v W' := by
  have hW' := hW
  obtain ⟨p, q, hA0, hV, rfl, hfz, hnd⟩ := hW
  have hA : DataW.TrodAll enc Tryz.prog W 0 (fun _ => true) true Tryz.f9.params.toList args.toList ds p := hA0
  rw [Tryz.params9] at hA hval hsz
  obtain ⟨v0, vs0, d0, ds0, p0, q0, hargs, rfl, rfl, h0, r0⟩ := trodAll_cons hA
  obtain ⟨v1, vs1, d1, ds1, p1, q1, rfl, rfl, rfl, h1, r1⟩ := trodAll_cons r0
  obtain ⟨v2, vs2, d2, ds2, p2, q2, rfl, rfl, rfl, h2, r2⟩ := trodAll_cons r1
  obtain ⟨rfl, rfl, rfl⟩ := trodAll_nil r2
  obtain rfl : args = #[v0, v1, v2] := by cases args; simp_all
  obtain ⟨rfl, rfl⟩ := trodVars_none hV
  have lt0 : ∀ x ∈ p0, x.block < W.heap.size := by obtain ⟨m, hm⟩ := h0; exact DataW.trod_lt m _ _ _ hm
  obtain ⟨n0, rfl, hat0, hwf0, hz0⟩ := net_in (hval 0 25 v0 rfl rfl) h0
  have lt1 : ∀ x ∈ p1, x.block < W.heap.size := by obtain ⟨m, hm⟩ := h1; exact DataW.trod_lt m _ _ _ hm
  obtain ⟨z1, rfl⟩ := okWide_int Tryz.underlying3 (hval 1 3 v1 rfl rfl)
  have lt2 : ∀ x ∈ p2, x.block < W.heap.size := by obtain ⟨m, hm⟩ := h2; exact DataW.trod_lt m _ _ _ hm
  obtain ⟨da2, dn2, dc2, dd2, rfl, hd2, hnl2, hdn2, hdz2⟩ := dos_in (hval 2 26 v2 rfl rfl) h2
  have hall := hsz
  simp only [List.cons_append, DataW.weightsEach, List.all_append, Bool.and_eq_true] at hall
  have hm2 := hdz2 hall.2.2.1
  unfold reachBytes at hm2
  have hT := tabs_of hL
  have hG : 2 ≤ W.heap.size := hT.lt
  clear hA0 hall hsz
  refine (tages_any n0 z1 da2 dn2 dc2 dd2 W hwf0 hat0 hdn2 hd2 hT hG).mono fun e W' ⟨he, bel⟩ => ?_
  subst he
  exact ⟨_, rfl, _, _, _, [], _, [], hW', trodAll_mk1 (shut_bool Tryz.underlying4 _), (trodAll_cons_mk (Below.trod laidOut (by kernel_rfl) (of_decide_eq_true (by kernel_rfl)) h0 bel lt0) (trodAll_cons_mk (Below.trod laidOut (by kernel_rfl) (of_decide_eq_true (by kernel_rfl)) h1 bel lt1) (trodAll_cons_mk (Below.trod laidOut (by kernel_rfl) (of_decide_eq_true (by kernel_rfl)) h2 bel lt2) trodAll_mk0))), rfl, bel.frame _, fun h => by cases h⟩

theorem laid_met (os : Os) : laidMet Tryz.prog Rows.talkAgesRow.laid ((laidW (World.holding Tryz.prog os ⟨#[], #[], []⟩)).forCall (fun _ _ => 0) ⟨#[], #[.agg #[.slice none 0 0, .slice none 0 0], .int .i64 0, .slice none 0 0], []⟩).memory :=
  laidMet_of_run' 8 (by kernel_rfl) (by kernel_rfl)
theorem reads (os : Os) {H : Type} (enc : TypeId × Value → H) : ∃ places, DataW.whole enc Tryz.prog ((laidW (World.holding Tryz.prog os ⟨#[], #[], []⟩)).forCall (fun _ _ => 0) ⟨#[], #[.agg #[.slice none 0 0, .slice none 0 0], .int .i64 0, .slice none 0 0], []⟩).memory Tryz.f9.params.toList Rows.talkAgesSpec.vars false #[Value.agg #[.slice none 0 0, .slice none 0 0], .int .i64 0, .slice none 0 0].toList 8 = some ([.agg [.nil, .nil], .lit (.int .i64 0), .nil], [], places) :=
  ⟨[], by kernel_rfl⟩

set_option maxRecDepth 100000 in
theorem lifted (os : Os) (started : os.Started) (H : Type) (enc : TypeId × Value → H) (F : Stop.Interp) :
    ReturnsInHanded {} Tryz.checked os 9 .any ((OpenSpec.ofChange Rows.talkAgesSpec).preRow enc Tryz.prog Tryz.f9 Rows.talkAgesRow.domain false Rows.talkAgesRow.laid) (((OpenSpec.ofChange Rows.talkAgesSpec).at F).post enc Tryz.prog Tryz.f9 false true false false) := by
  obtain ⟨places, hx⟩ := reads os enc
  refine returnsInHanded_of_row (C := Tryz.checked) (s := OpenSpec.ofChange Rows.talkAgesSpec) own started (by kernel_rfl) Tryz.func9
    (witness_row_at (enc := enc) (C := Tryz.checked) false (laidW (World.holding Tryz.prog os ⟨#[], #[], []⟩)) #[.agg #[.slice none 0 0, .slice none 0 0], .int .i64 0, .slice none 0 0] rfl (by kernel_rfl) (by kernel_rfl) (by kernel_rfl)
      (OpenSpec.preRow_of_cond 8 hx (by kernel_rfl) (fun k hk => by cases hk) (by kernel_rfl) (laid_met os))) ?_
  intro W base args ds gs before hval hW _ _ hsz hL _ _
  exact contract H enc W base args ds gs before hval hW hsz hL

theorem said : Rows.TalkAgesSaid :=
  OpenClaim.holds_of_cond 9 Tryz.f9 rfl rfl rfl rfl rfl rfl rfl ⟨rfl, rfl, rfl, rfl, rfl⟩ rfl rfl rfl rfl rfl (by kernel_rfl) Tryz.func9 (by kernel_rfl)
    (of_decide_eq_true (by kernel_rfl)) (by unfold Func.isWrapper; first | (rw [if_pos (by decide +kernel)]; kernel_rfl) | (rw [if_neg (by decide +kernel)]; exact ⟨rfl, rfl⟩))
    (fun os started H enc _ F => by rw [OpenClaim.pre_eq_preRow]; exact lifted os started H enc F)

theorem plain (f : FuncId) (fn : Func) (hf : Tryz.pinned.checked.prog.funcNamed "hedgerow/hedgelaw7.TalkAges" = some f) (hfn : Tryz.pinned.checked.prog.funcs[f]? = some fn) :
    false = Tryz.pinned.checked.prog.looks [] ∧ ∀ (j : Nat) t, fn.params[j]? = some t → Tryz.pinned.checked.prog.wantsStandIn t = false := by
  obtain rfl : f = 9 := Option.some.inj ((show Tryz.prog.funcNamed "hedgerow/hedgelaw7.TalkAges" = some 9 by kernel_rfl).symm.trans hf) |>.symm
  obtain rfl : fn = Tryz.f9 := (Option.some.inj (Tryz.func9.symm.trans hfn)).symm
  refine ⟨by kernel_rfl, fun j t ht => ?_⟩
  rw [Tryz.params9] at ht
  have h1 : Tryz.prog.wantsStandIn 25 = false := by kernel_rfl
  have h2 : Tryz.prog.wantsStandIn 3 = false := by kernel_rfl
  have h3 : Tryz.prog.wantsStandIn 26 = false := by kernel_rfl
  have ht2 : t = 25 ∨ t = 3 ∨ t = 26 := by simpa using Array.mem_of_getElem? ht
  rcases ht2 with rfl | rfl | rfl
  · exact h1
  · exact h2
  · exact h3

/-- ████ THE CARD ████ -/
theorem card : Rows.TalkAgesCardSaid :=
  Claim7.holds_tied_plain_at .later [] _ _ _ _ said (fun _ h => by cases h) (by kernel_rfl) (fun _ h => by cases h) talkAges_row_tie rfl ⟨rfl, rfl⟩ (by kernel_rfl) rfl plain (by kernel_rfl)
end Go.Proofs.YtaneiffnhphkhaaGreatDoor.talkAges
namespace Go.Proofs.YtaneiffnhphkhaaGreatDoor
/-- NO TALE IS OLDER: the statement, as it was given. -/
theorem talkAges_card : Rows.TalkAgesCardSaid := talkAges.card
#print axioms talkAges_card
end Go.Proofs.YtaneiffnhphkhaaGreatDoor
