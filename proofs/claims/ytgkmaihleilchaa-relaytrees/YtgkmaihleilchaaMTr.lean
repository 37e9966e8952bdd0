/- 'hedgelaw9.RelayTrees' returns true for every input, and leaves it as it was. Conditions: none beyond the form's own. -/
import Derived.Test.YtgkmaihleilchaaYM2
import Derived.Test.YtgkmaihleilchaaYM4a
import Derived.Test.YtgkmaihleilchaaW1
import Derived.Test.YtgkmaihleilchaaYW7
import Derived.Test.YtgkmaihleilchaaYLc
import Derived.Test.YtgkmaihleilchaaBS8
import Derived.Test.YtgkmaihleilchaaMFr
namespace Go.Proofs.Ytgkmaihleilchaa
namespace Rl
open Bk (E at')
/-- One opening is turned over. -/
def turnG (g : G) (t : Nat) (oo : Option Addr) (ocap : Nat) : G := ⟨g.port, g.plain, g.ways, g.opens.set t (!g.opens.getD t false), g.wo, g.wcap, oo, ocap⟩
theorem gat_set (l : List G) (k : Nat) (g : G) (hk : k < l.length) (i : Nat) : gat (l.set k g) i = if i = k then g else gat l i := by
  unfold gat
  by_cases e : i = k
  · subst e; simp [hk]
  · rw [if_neg e]
    simp [Ne.symm e]
theorem turn_alike (l : List G) (k t : Nat) (oo : Option Addr) (ocap : Nat) (hk : k < l.length) (tr v : Int) (ht : (t : Int) ≠ tr) : Alike l (l.set k (turnG (gat l k) t oo ocap)) tr v := by
  refine ⟨by simp, fun i => ?_, fun i => ?_, fun i => ?_, fun i => ?_, fun i => ?_⟩
  all_goals rw [gat_set l k _ hk i]
  all_goals by_cases e : i = k
  all_goals first | (rw [if_neg e]; done) | (subst e; rw [if_pos rfl]; unfold turnG; first | rfl | (simp; done) | skip)
  unfold passes
  simp only [List.length_set]
  by_cases h1 : 0 ≤ tr ∧ tr ≤ ((gat l i).opens.length : Int) - 1
  · have hne : t ≠ tr.toNat := by omega
    congr 2
    simp [hne]
  · rw [decide_eq_false h1, Bool.false_and, Bool.false_and]
end Rl
end Go.Proofs.Ytgkmaihleilchaa

namespace Go.Proofs.Ytgkmaihleilchaa
open Go.RowKit

set_option maxHeartbeats 1000000 in
theorem same_any (d s : Int) (t : Bool) (p : Int) (dr : Bool) (v y : Int) (p2 : Int) (dr2 : Bool) (v2 : Int) (a1 a2 : Option Addr) (n c1 c2 : Nat) (b1 b2 : Nat → Int) (w : World)
    (ht : t = true → p2 = p ∧ dr2 = dr ∧ v2 = v) (h1 : ByteRow w a1 n c1 b1) (n1 : NilOk a1 n c1) (h2 : ByteRow w a2 n c2 b2) (n2 : NilOk a2 n c2) (hb : ∀ i, i < n → b1 i = b2 i) :
    Calls Try.prog 43 #[.agg #[.int .u64 d, .int .u64 s, .bool t, .int .i64 p, .bool dr, .int .i64 v, .int .i64 y, .slice a1 n c1], .agg #[.int .u64 d, .int .u64 s, .bool t, .int .i64 p2, .bool dr2, .int .i64 v2, .int .i64 y, .slice a2 n c2]] w fun e w' => e = .returned (.bool true) ∧ Below w.heap.size w w' := by
  have q1 : ∀ o1 o2, (convert 28 9 (.slice a1 n c1)).run Try.prog ((w.alloc o1).alloc o2) = .ok (.string (strOf n b1)) ((w.alloc o1).alloc o2) := fun o1 o2 => run_str _ a1 n c1 b1 ((h1.below (below_alloc1 w o1)).below (below_alloc1 _ o2)) n1
  have q2 : ∀ o1 o2, (convert 28 9 (.slice a2 n c2)).run Try.prog ((w.alloc o1).alloc o2) = .ok (.string (strOf n b1)) ((w.alloc o1).alloc o2) := fun o1 o2 => by rw [strOf_congr n b1 b2 hb]; exact run_str _ a2 n c2 b2 ((h2.below (below_alloc1 w o1)).below (below_alloc1 _ o2)) n2
  clear h1 h2 n1 n2 hb
  generalize strOf n b1 = S at *
  cases t with
  | false =>
    clear ht
    go_enter Try.func43, Try.ntmps43
    go_wp2
    go_ret
    exact ⟨by simp, ((Below.refl _ w).alloc (Nat.le_refl _) _).alloc (by simp) _⟩
  | true =>
    obtain ⟨rfl, rfl, rfl⟩ := ht rfl
    go_enter Try.func43, Try.ntmps43
    go_wp2
    go_ret
    exact ⟨by simp, ((Below.refl _ w).alloc (Nat.le_refl _) _).alloc (by simp) _⟩
end Go.Proofs.Ytgkmaihleilchaa

namespace Go.Proofs.Ytgkmaihleilchaa
open Go.RowKit
open Bk (E at')
open Rl (G gat F O R)

set_option maxRecDepth 20000 in
set_option maxHeartbeats 4000000 in
theorem rsameout_yes (ao : Option Addr) (cap : Nat) (bo : Option Addr) (bcap : Nat) (f : F) (l1 l2 : List OV) (w : World) (h1 : ORw w ao cap f l1) (h2 : ORw w bo bcap f l2) (he : l1.map OV.o = l2.map OV.o) (hn : l1.length ≤ 1000) :
    Calls Try.prog 13 #[.slice ao l1.length cap, .slice bo l2.length bcap] w fun e w' => e = .returned (.bool true) ∧ Below w.heap.size w w' := by
  have hlen : l2.length = l1.length := by have := congrArg List.length he; simpa using this.symm
  have heo : ∀ i, i < l1.length → (oat l1 i).o = (oat l2 i).o := fun i hi => by
    have h3 : (l1.map OV.o)[i]? = (l2.map OV.o)[i]? := by rw [he]
    rw [List.getElem?_map, List.getElem?_map, List.getElem?_eq_getElem hi, List.getElem?_eq_getElem (by omega)] at h3
    rw [oat_get l1 i hi, oat_get l2 i (by omega)]
    simpa using h3
  have hcap : l1.length ≤ cap := h1.row.1
  have hcap2 : l1.length ≤ bcap := by have := h2.row.1; omega
  have HR : Hid (∀ W, Below w.heap.size w W → ORw W ao cap f l1) := fun W hW => h1.below hW
  have HR2 : Hid (∀ W, Below w.heap.size w W → ORw W bo bcap f l2) := fun W hW => h2.below hW
  have HEO : Hid (∀ i, i < l1.length → (oat l1 i).o = (oat l2 i).o) := heo
  have HLN : Hid (l2.length = l1.length) := hlen
  rw [hlen]
  clear h1 h2 heo he hlen
  go_enter Try.func13, Try.ntmps13
  go_wp2_with fail
  go_loopw [13] (fun i wr => ∃ k : Nat, k ≤ l1.length ∧ i = .int .i64 k ∧ Hid (Below w.heap.size w wr)) (fun i _ => l1.length - (intOf i).toNat)
  case atStart => exact ⟨0, by omega, rfl, Below.refl _ _⟩
  case round =>
    obtain ⟨k, hk, rfl, hB⟩ := hrel
    by_cases hlt : k < l1.length
    · have hlt2 : k < l2.length := by rw [HLN.out]; exact hlt
      obtain ⟨b, off, rfl, _⟩ := (HR.out wr hB.out).place (by omega)
      obtain ⟨b2, off2, rfl, _⟩ := (HR2.out wr hB.out).place (by omega)
      have hx1 := (HR.out wr hB.out).data _ (oat_mem l1 k hlt)
      have hx2 := (HR2.out wr hB.out).data _ (oat_mem l2 k hlt2)
      have ik : (0 : Int) ≤ (k : Int) := by omega
      have nk : (k : Int) < (l1.length : Int) := by omega
      have HCC : Hid (∀ W, Below wr.heap.size wr W → (W.cell? ⟨b, off + k * 9, none⟩ = some (.int .i64 (oat l1 k).o.port) ∧ W.cell? ⟨b, off + k * 9 + 1, none⟩ = some (.int .u64 f.dst) ∧ W.cell? ⟨b, off + k * 9 + 2, none⟩ = some (.int .u64 f.src) ∧ W.cell? ⟨b, off + k * 9 + 3, none⟩ = some (.bool (oat l1 k).o.tagged) ∧ W.cell? ⟨b, off + k * 9 + 4, none⟩ = some (.int .i64 (oat l1 k).o.prio) ∧ W.cell? ⟨b, off + k * 9 + 5, none⟩ = some (.bool (oat l1 k).o.drop) ∧ W.cell? ⟨b, off + k * 9 + 6, none⟩ = some (.int .i64 (oat l1 k).o.vid) ∧ W.cell? ⟨b, off + k * 9 + 7, none⟩ = some (.int .i64 f.type) ∧ W.cell? ⟨b, off + k * 9 + 8, none⟩ = some (.slice (oat l1 k).da f.n (oat l1 k).dc)) ∧ (W.cell? ⟨b2, off2 + k * 9, none⟩ = some (.int .i64 (oat l1 k).o.port) ∧ W.cell? ⟨b2, off2 + k * 9 + 1, none⟩ = some (.int .u64 f.dst) ∧ W.cell? ⟨b2, off2 + k * 9 + 2, none⟩ = some (.int .u64 f.src) ∧ W.cell? ⟨b2, off2 + k * 9 + 3, none⟩ = some (.bool (oat l1 k).o.tagged) ∧ W.cell? ⟨b2, off2 + k * 9 + 4, none⟩ = some (.int .i64 (oat l1 k).o.prio) ∧ W.cell? ⟨b2, off2 + k * 9 + 5, none⟩ = some (.bool (oat l1 k).o.drop) ∧ W.cell? ⟨b2, off2 + k * 9 + 6, none⟩ = some (.int .i64 (oat l1 k).o.vid) ∧ W.cell? ⟨b2, off2 + k * 9 + 7, none⟩ = some (.int .i64 f.type) ∧ W.cell? ⟨b2, off2 + k * 9 + 8, none⟩ = some (.slice (oat l2 k).da f.n (oat l2 k).dc))) := fun W hW => ⟨(HR.out W (below_up hB.out hW)).cells hlt, by rw [HEO.out k hlt]; exact (HR2.out W (below_up hB.out hW)).cells hlt2⟩
      have HXX : Hid (Below wr.heap.size wr wr) := Below.refl _ _
      have HSM : Hid (∀ W, Below wr.heap.size wr W → Calls Try.prog 43 #[.agg #[.int .u64 f.dst, .int .u64 f.src, .bool (oat l1 k).o.tagged, .int .i64 (oat l1 k).o.prio, .bool (oat l1 k).o.drop, .int .i64 (oat l1 k).o.vid, .int .i64 f.type, .slice (oat l1 k).da f.n (oat l1 k).dc], .agg #[.int .u64 f.dst, .int .u64 f.src, .bool (oat l1 k).o.tagged, .int .i64 (oat l1 k).o.prio, .bool (oat l1 k).o.drop, .int .i64 (oat l1 k).o.vid, .int .i64 f.type, .slice (oat l2 k).da f.n (oat l2 k).dc]] W fun e w' => e = .returned (.bool true) ∧ Hid (Below wr.heap.size wr w')) := fun W hW => (same_any _ _ _ _ _ _ _ _ _ _ _ _ _ _ _ f.bs f.bs W (fun _ => ⟨rfl, rfl, rfl⟩) (hx1.1.below hW) hx1.2 (hx2.1.below hW) hx2.2 (fun _ _ => rfl)).mono (fun _ _ h => ⟨h.1, below_up hW h.2⟩)
      clear HR HR2 HEO HLN hx1 hx2
      obtain ⟨⟨g0, g1, g2, g3, g4, g5, g6, g7, g8⟩, k0, k1, k2, k3, k4, k5, k6, k7, k8⟩ := HCC.out wr HXX.out
      have e1 : ((oat l1 k).o.port != (oat l1 k).o.port) = false := by simp
      generalize (oat l1 k).o = o at *
      generalize (oat l1 k).da = da at *
      generalize (oat l1 k).dc = dc at *
      generalize (oat l2 k).da = da2 at *
      generalize (oat l2 k).dc = dc2 at *
      go_wp2_with fail
      go_region_held3 (fun W => (W.cell? ⟨b, off + k * 9, none⟩ = some (.int .i64 o.port) ∧ W.cell? ⟨b, off + k * 9 + 1, none⟩ = some (.int .u64 f.dst) ∧ W.cell? ⟨b, off + k * 9 + 2, none⟩ = some (.int .u64 f.src) ∧ W.cell? ⟨b, off + k * 9 + 3, none⟩ = some (.bool o.tagged) ∧ W.cell? ⟨b, off + k * 9 + 4, none⟩ = some (.int .i64 o.prio) ∧ W.cell? ⟨b, off + k * 9 + 5, none⟩ = some (.bool o.drop) ∧ W.cell? ⟨b, off + k * 9 + 6, none⟩ = some (.int .i64 o.vid) ∧ W.cell? ⟨b, off + k * 9 + 7, none⟩ = some (.int .i64 f.type) ∧ W.cell? ⟨b, off + k * 9 + 8, none⟩ = some (.slice da f.n dc)) ∧ (W.cell? ⟨b2, off2 + k * 9, none⟩ = some (.int .i64 o.port) ∧ W.cell? ⟨b2, off2 + k * 9 + 1, none⟩ = some (.int .u64 f.dst) ∧ W.cell? ⟨b2, off2 + k * 9 + 2, none⟩ = some (.int .u64 f.src) ∧ W.cell? ⟨b2, off2 + k * 9 + 3, none⟩ = some (.bool o.tagged) ∧ W.cell? ⟨b2, off2 + k * 9 + 4, none⟩ = some (.int .i64 o.prio) ∧ W.cell? ⟨b2, off2 + k * 9 + 5, none⟩ = some (.bool o.drop) ∧ W.cell? ⟨b2, off2 + k * 9 + 6, none⟩ = some (.int .i64 o.vid) ∧ W.cell? ⟨b2, off2 + k * 9 + 7, none⟩ = some (.int .i64 f.type) ∧ W.cell? ⟨b2, off2 + k * 9 + 8, none⟩ = some (.slice da2 f.n dc2)))
        (first | (exact HCC.out _ (Hid.out (by assumption))) | (exact HCC.out _ (Below.drew (Hid.out (by assumption)))))
        (first | (go_at_call 43; (with_reducible refine (HSM.out _ (by first | exact (Hid.out (by assumption)) | exact Below.drew (Hid.out (by assumption)))).mono ?_); rintro e w5 ⟨rfl, HB5⟩))
      all_goals clear g0 g1 g2 g3 g4 g5 g6 g7 g8 k0 k1 k2 k3 k4 k5 k6 k7 k8
      all_goals go_wp2_with fail
      all_goals exact ⟨⟨k + 1, by omega, by go_num, below_up hB.out HB5.out⟩, by simp [intOf]; omega⟩
    · obtain rfl : k = l1.length := by omega
      clear HR HR2
      go_wp2_with fail
      go_ret
      exact ⟨rfl, hB.out⟩
end Go.Proofs.Ytgkmaihleilchaa

namespace Go.Proofs.Ytgkmaihleilchaa
open Go.RowKit
open Bk (E at')
open Rl (G gat F O R)

theorem infoG : (Try.prog.info? 47).map (fun i => (i.zero, i.size, i.bytes)) = some (some (.agg #[.int .i64 0, .slice none 0 0, .int .i64 0, .slice none 0 0]), 4, 64) := by kernel_rfl
theorem infoB : (Try.prog.info? 4).map (fun i => (i.zero, i.size, i.bytes)) = some (some (.bool false), 1, 1) := by kernel_rfl
/-- 'append([]T{}, s...)': a row of the call's own. -/
theorem append_new (W : World) (t e : TypeId) (z : Value) (k bytes : Nat) (ht : Try.prog.underlying t = some (.slice e)) (hinfo : (Try.prog.info? e).map (fun i => (i.zero, i.size, i.bytes)) = some (some z, k, bytes)) (hzk : z.cells.size = k) (hk : 0 < k) (b off m cp : Nat) (d : Nat → Nat → Value) (hd : ∀ i j, (d i j).oneCell' = true) (hr : CRow W (some ⟨b, off, none⟩) m cp k d) (h63 : m ≤ maxLen) (hb : m * bytes ≤ 140737488355328) (hm : 0 < m) :
    ∃ g c1 sp W2, (Builtin.append_ #[t, t] t #[.slice (some ⟨W.heap.size, 0, none⟩) 0 0, .slice (some ⟨b, off, none⟩) m cp]).run Try.prog (W.alloc (.cells #[] e)) = .ok (.slice (some ⟨g, 0, none⟩) m c1) W2 ∧ W.heap.size ≤ g ∧ m ≤ c1 ∧ W2.heap[g]? = some (.cells (rowS sp m k d) e (0, 0)) ∧ Below W.heap.size W W2 ∧ (∀ q, q < W.heap.size → W2.heap[q]? = W.heap[q]?) := by
  have hb1 := below_alloc1 W (.cells #[] e)
  obtain ⟨a1, c1, w', r, o, b2, q⟩ := append_c (W.alloc (.cells #[] e)) t e z k bytes ht hinfo hzk hk W.heap.size (.slice (some ⟨W.heap.size, 0, none⟩) 0 0) 0 d (ownsC_empty d (heap_alloc_last _ _) (Nat.le_refl _)) (some ⟨b, off, none⟩) m cp d hd (hr.below hb1) (fun h => by cases h) (by omega) (by rw [Nat.zero_add]; exact hb) hb1.size
  rw [Nat.zero_add] at r o
  rw [cellsL_congr m k (catC 0 d d) d (fun i _ => by unfold catC; rw [if_neg (by omega)]; rfl)] at o
  rcases owns_rowS o with ⟨_, h0⟩ | ⟨g, cap, sp, e1, h1, h2, _, _, h3⟩
  · omega
  · injection e1 with e2 _ e3
    subst e2 e3
    exact ⟨g, c1, sp, w', r, h1, h2, h3, hb1.trans b2, fun s hs => (b2.block s hs).trans (hb1.block s hs)⟩
theorem gC_turn (l : List G) (k t : Nat) (oo : Option Addr) (ocap : Nat) (hk : k < l.length) (i j : Nat) (hj : j < 4) : gC (gat (l.set k (Rl.turnG (gat l k) t oo ocap)) i) j = updC (fun i => gC (gat l i)) k 3 (.slice oo (gat l k).opens.length ocap) i j := by
  rw [Rl.gat_set l k _ hk i]
  unfold updC
  by_cases e : i = k
  · subst e
    rw [if_pos rfl]
    rcases (by omega : j = 0 ∨ j = 1 ∨ j = 2 ∨ j = 3) with e | e | e | e <;> subst e
    · rw [if_neg (by omega)]; rfl
    · rw [if_neg (by omega)]; rfl
    · rw [if_neg (by omega)]; rfl
    · unfold gC Rl.turnG
      simp
  · rw [if_neg e, if_neg (fun h => e h.1)]
set_option maxRecDepth 20000 in
set_option maxHeartbeats 8000000 in
theorem rtrees_law (r : R) (ao : Option Addr) (cap : Nat) (l : List G) (bo : Option Addr) (bcap : Nat) (bk : List E) (p : Int) (f : F) (tree which : Int) (w : World) (hin : RelIn w r ao cap l bo bcap bk f) :
    Calls Try.prog 7 #[.agg #[.string r.name, .int .i64 r.rev, .slice r.ao r.n r.cap], .slice ao l.length cap, .slice bo bk.length bcap, .int .i64 p, .agg #[.int .u64 f.dst, .int .u64 f.src, .bool f.tagged, .int .i64 f.prio, .bool f.drop, .int .i64 f.vid, .int .i64 f.type, .slice f.ao f.n f.cap], .int .i64 tree, .int .i64 which] w fun e w' => e = .returned (.bool true) ∧ Below w.heap.size w w' := by
  obtain ⟨W0, HW0⟩ : ∃ W0, Hid (W0 = (w.alloc (.cells #[.string r.name, .int .i64 r.rev, .slice r.ao r.n r.cap] 24)).alloc (.cells #[.int .u64 f.dst, .int .u64 f.src, .bool f.tagged, .int .i64 f.prio, .bool f.drop, .int .i64 f.vid, .int .i64 f.type, .slice f.ao f.n f.cap] 30)) := ⟨_, rfl⟩
  have CX : Hid (Cx W0 w r ao cap l bo bcap bk f) := by rw [HW0.out]; exact cx_of hin
  have HB0 : Hid (Below W0.heap.size W0 W0) := Below.refl _ _
  clear hin
  go_enter Try.func7, Try.ntmps7
  go_wp2_with fail
  rw [← HW0.out]
  refine (CX.out.alive W0 HB0.out).mono ?_
  rintro e w1 ⟨rfl, HB1⟩
  obtain ⟨c0, c1, c2⟩ := CX.out.reg w1 HB1.out
  obtain ⟨d0, d1, d2, d3, d4, d5, d6, d7⟩ := CX.out.frm w1 HB1.out
  go_wp2_with fail
  refine (CX.out.relay p w1 HB1.out).mono ?_
  rintro e w2 ⟨oo, oc, os, bo', bc', rfl, HO, HB2⟩
  clear c0 c1 c2 d0 d1 d2 d3 d4 d5 d6 d7
  have HLW : Hid (Below w.heap.size w w2) := CX.out.low _ HB2.out
  by_cases he : (Rl.relay r l bk p f).err = 0
  · have hok := Rl.ok_of he
    have HOK : Hid (Rl.Ok r l bk p f) := hok
    have hmany := hok.right.many
    rw [he]
    by_cases q1 : which < 0
    · clear he HO hok HOK
      go_wp2_with fail
      go_ret
      exact ⟨rfl, HLW.out⟩
    · obtain ⟨k, rfl⟩ := Int.eq_ofNat_of_zero_le (show 0 ≤ which by omega)
      by_cases q2 : (l.length : Int) ≤ (k : Int)
      · have e2 : decide ((k : Int) < 0) = false := decide_eq_false q1
        clear he HO hok HOK
        go_wp2_with fail
        go_ret
        exact ⟨rfl, HLW.out⟩
      · have hk : k < l.length := by omega
        have e2 : decide ((k : Int) < 0) = false := decide_eq_false q1
        have e3 : decide ((l.length : Int) ≤ (k : Int)) = false := decide_eq_false q2
        have ik : (0 : Int) ≤ (k : Int) := by omega
        have nk : (k : Int) < (l.length : Int) := by omega
        by_cases q3 : tree < 0
        · clear he HO hok HOK
          go_wp2_with fail
          go_ret
          exact ⟨rfl, HLW.out⟩
        · obtain ⟨t, rfl⟩ := Int.eq_ofNat_of_zero_le (show 0 ≤ tree by omega)
          have e4 : decide ((t : Int) < 0) = false := decide_eq_false q3
          obtain ⟨b, off, rfl, _⟩ := (CX.out.inn w2 HB2.out).gates.place (by omega)
          have hcap : l.length ≤ cap := (CX.out.inn w2 HB2.out).gates.row.1
          have HGC : Hid (∀ W, Below W0.heap.size W0 W → W.cell? ⟨b, off + k * 4, none⟩ = some (.int .i64 (gat l k).port) ∧ W.cell? ⟨b, off + k * 4 + 1, none⟩ = some (.slice (gat l k).wo (gat l k).ways.length (gat l k).wcap) ∧ W.cell? ⟨b, off + k * 4 + 2, none⟩ = some (.int .i64 (gat l k).plain) ∧ W.cell? ⟨b, off + k * 4 + 3, none⟩ = some (.slice (gat l k).oo (gat l k).opens.length (gat l k).ocap)) := fun W hW => (CX.out.inn W hW).gates.cells hk
          obtain ⟨g0, g1, g2, g3⟩ := HGC.out w2 HB2.out
          by_cases q4 : ((gat l k).opens.length : Int) ≤ (t : Int)
          · clear he HO hok HOK HGC
            generalize gat l k = x at *
            go_wp2_with fail
            go_ret
            exact ⟨rfl, HLW.out⟩
          · have ht : t < (gat l k).opens.length := by omega
            have e5 : decide (((gat l k).opens.length : Int) ≤ (t : Int)) = false := decide_eq_false q4
            have hop : (gat l k).opens.length ≤ 16 := hok.right.opens k hk
            have HCA : Hid (∀ W, Below w2.heap.size w2 W → Calls Try.prog 16 #[.slice (some ⟨b, off, none⟩) l.length cap, .int .i64 p] W fun e w' => e = .returned (.agg #[.int .i64 (Rl.atG l p).port, .slice (Rl.atG l p).wo (Rl.atG l p).ways.length (Rl.atG l p).wcap, .int .i64 (Rl.atG l p).plain, .slice (Rl.atG l p).oo (Rl.atG l p).opens.length (Rl.atG l p).ocap]) ∧ Hid (Below w2.heap.size w2 w')) := fun W hW => (at9_any _ cap l p W (CX.out.inn W (below_up HB2.out hW)).gates).mono (fun _ _ h => ⟨h.1, below_up hW h.2⟩)
            have HCW : Hid (∀ W, Below w2.heap.size w2 W → Calls Try.prog 17 #[.agg #[.int .i64 (Rl.atG l p).port, .slice (Rl.atG l p).wo (Rl.atG l p).ways.length (Rl.atG l p).wcap, .int .i64 (Rl.atG l p).plain, .slice (Rl.atG l p).oo (Rl.atG l p).opens.length (Rl.atG l p).ocap], .agg #[.int .u64 f.dst, .int .u64 f.src, .bool f.tagged, .int .i64 f.prio, .bool f.drop, .int .i64 f.vid, .int .i64 f.type, .slice f.ao f.n f.cap]] W fun e w' => e = .returned (.int .i64 (Rl.vid l p f)) ∧ Hid (Below w2.heap.size w2 w')) := fun W hW => (way9_any f (Rl.atG l p) W).mono (fun _ _ h => ⟨h.1, below_up hW h.2⟩)
            have HCT : Hid (∀ W, Below w2.heap.size w2 W → Calls Try.prog 21 #[.agg #[.string r.name, .int .i64 r.rev, .slice r.ao r.n r.cap], .int .i64 (Rl.vid l p f)] W fun e w' => e = .returned (.int .i64 (r.tree (Rl.vid l p f))) ∧ Hid (Below w2.heap.size w2 w')) := fun W hW => (gtree_any r.name r.rev r.ao r.n r.cap r.vs r.ts (Rl.vid l p f) W HOK.out.reg (CX.out.inn W (below_up HB2.out hW)).ways).mono (fun _ _ h => ⟨h.1, below_up hW h.2⟩)
            have HUP2 : Hid (∀ W, Below w2.heap.size w2 W → Below W0.heap.size W0 W) := fun W hW => below_up HB2.out hW
            have HSR : Hid (∀ W, Below w2.heap.size w2 W → (W.cell? ⟨w.heap.size, 0, none⟩ = some (.string r.name) ∧ W.cell? ⟨w.heap.size, 1, none⟩ = some (.int .i64 r.rev) ∧ W.cell? ⟨w.heap.size, 2, none⟩ = some (.slice r.ao r.n r.cap)) ∧ (W.cell? ⟨w.heap.size + 1, 0, none⟩ = some (.int .u64 f.dst) ∧ W.cell? ⟨w.heap.size + 1, 1, none⟩ = some (.int .u64 f.src) ∧ W.cell? ⟨w.heap.size + 1, 2, none⟩ = some (.bool f.tagged) ∧ W.cell? ⟨w.heap.size + 1, 3, none⟩ = some (.int .i64 f.prio) ∧ W.cell? ⟨w.heap.size + 1, 4, none⟩ = some (.bool f.drop) ∧ W.cell? ⟨w.heap.size + 1, 5, none⟩ = some (.int .i64 f.vid) ∧ W.cell? ⟨w.heap.size + 1, 6, none⟩ = some (.int .i64 f.type) ∧ W.cell? ⟨w.heap.size + 1, 7, none⟩ = some (.slice f.ao f.n f.cap))) := fun W hW => ⟨CX.out.reg W (HUP2.out W hW), CX.out.frm W (HUP2.out W hW)⟩
            have HB22 : Hid (Below w2.heap.size w2 w2) := Below.refl _ _
            have HVI : Hid (Rl.wayOf f (Rl.inG l p) = Rl.vid l p f) := HOK.out.vid
            generalize Rl.atG l p = gp at *
            generalize Rl.vid l p f = vi at *
            obtain ⟨tr, htr⟩ : ∃ tr, tr = r.tree vi := ⟨_, rfl⟩
            rw [← htr] at HCT
            have HTR : Hid (tr = r.tree (Rl.wayOf f (Rl.inG l p))) := by rw [HVI.out]; exact htr
            obtain ⟨⟨c0, c1, c2⟩, d0, d1, d2, d3, d4, d5, d6, d7⟩ := HSR.out w2 HB22.out
            have HE : Hid ((Rl.relay r l bk p f).err = 0) := he
            clear he hok htr HVI
            generalize hx : gat l k = x at *
            go_upto_region 6 with fail
            go_cut [67] (fun v W => v = .bool ((t : Int) == tr) ∧ Hid (Below w2.heap.size w2 W))
            case first =>
              clear hx
              go_region_held3 (fun W => (W.cell? ⟨w.heap.size, 0, none⟩ = some (.string r.name) ∧ W.cell? ⟨w.heap.size, 1, none⟩ = some (.int .i64 r.rev) ∧ W.cell? ⟨w.heap.size, 2, none⟩ = some (.slice r.ao r.n r.cap)) ∧ (W.cell? ⟨w.heap.size + 1, 0, none⟩ = some (.int .u64 f.dst) ∧ W.cell? ⟨w.heap.size + 1, 1, none⟩ = some (.int .u64 f.src) ∧ W.cell? ⟨w.heap.size + 1, 2, none⟩ = some (.bool f.tagged) ∧ W.cell? ⟨w.heap.size + 1, 3, none⟩ = some (.int .i64 f.prio) ∧ W.cell? ⟨w.heap.size + 1, 4, none⟩ = some (.bool f.drop) ∧ W.cell? ⟨w.heap.size + 1, 5, none⟩ = some (.int .i64 f.vid) ∧ W.cell? ⟨w.heap.size + 1, 6, none⟩ = some (.int .i64 f.type) ∧ W.cell? ⟨w.heap.size + 1, 7, none⟩ = some (.slice f.ao f.n f.cap)))
                (first | (exact HSR.out _ (Hid.out (by assumption))) | (exact HSR.out _ (Below.drew (Hid.out (by assumption)))))
                (first | (go_at_call 16; (with_reducible refine (HCA.out _ (by first | exact (Hid.out (by assumption)) | exact Below.drew (Hid.out (by assumption)))).mono ?_); rintro e w5 ⟨rfl, HB5⟩) | (go_at_call 17; (with_reducible refine (HCW.out _ (by first | exact (Hid.out (by assumption)) | exact Below.drew (Hid.out (by assumption)))).mono ?_); rintro e w5 ⟨rfl, HB5⟩) | (go_at_call 21; (with_reducible refine (HCT.out _ (by first | exact (Hid.out (by assumption)) | exact Below.drew (Hid.out (by assumption)))).mono ?_); rintro e w5 ⟨rfl, HB5⟩))
              all_goals go_wp2_with fail
              all_goals go_meet
              all_goals exact ⟨rfl, HB5⟩
            case rest =>
            rename World => w3
            obtain ⟨rfl, HB3⟩ := hcut
            clear c0 c1 c2 d0 d1 d2 d3 d4 d5 d6 d7 HCA HCW HCT g0 g1 g2 g3
            by_cases q5 : (t : Int) = tr
            · have e6 : ((t : Int) == tr) = true := by simp [q5]
              clear q5 HO hx HOK
              go_wp2_with fail
              go_ret
              exact ⟨rfl, CX.out.low _ (HUP2.out _ HB3.out)⟩
            · have e6 : ((t : Int) == tr) = false := by simpa using q5
              have hin3 := CX.out.inn w3 (HUP2.out _ HB3.out)
              obtain ⟨Bm, cm, sp, W2, r1, hBm, hcm, hrow, hb2, _⟩ := append_new w3 25 47 _ 4 64 Try.underlying25 infoG rfl (by omega) b off l.length cap (fun i => gC (gat l i)) (fun _ _ => gC_one _ _) hin3.gates.row (by unfold maxLen; omega) (by omega) (by omega)
              have h02 : Below W0.heap.size W0 W2 := below_up (HUP2.out _ HB3.out) hb2
              have hxi : GIn W2 x := by rw [← hx]; exact (CX.out.inn W2 h02).gates.at hk
              obtain ⟨bq, oq, hoo, _⟩ := hxi.opens.place (by omega)
              have hxr := hxi.opens
              unfold BLs at hxr
              rw [hoo] at hxr
              obtain ⟨Bq, cq, sq, W3, r2, hBq, hcq, hrow2, hb3, hbl3⟩ := append_new W2 45 4 _ 1 1 Try.underlying45 infoB rfl (by omega) bq oq x.opens.length x.ocap (fun i _ => .bool (x.opens.getD i false)) (fun _ _ => rfl) hxr (by unfold maxLen; omega) (by omega) (by omega)
              have hrow3 : W3.heap[Bm]? = some (.cells (rowS sp l.length 4 (fun i => gC (gat l i))) 47 (0, 0)) := keep hrow hb3
              have hne : Bm ≠ Bq := by
                have := (Array.getElem?_eq_some_iff.1 hrow).1
                omega
              have HR1 : Hid _ := r1
              have HR2 : Hid _ := r2
              obtain ⟨g0, g1, g2, g3⟩ := HGC.out W2 h02
              have lb : b < W2.heap.size := block_lt_of_cell g0
              rw [hoo] at g3
              have m3 : W3.cell? ⟨Bm, k * 4 + 3, none⟩ = some (gC (gat l k) 3) := rowS_cell hrow3 hk (by omega)
              have z3 : W3.frozen? ⟨Bm, k * 4 + 3, none⟩ = false := frozen_of_row _ _ _ _ _ hrow3
              have HQ5 : Hid ((t : Int) ≠ tr) := q5
              clear r1 r2 q5
              go_upto_region 9 with (at_builtin; refine wpList_append_run rfl (.tmp 68) (.tmp 69) 25 rfl _ _ _ rfl rfl HR1.out ?_; clear HR1)
              go_upto_region 10 with (at_builtin; refine wpList_append_run rfl (.tmp 73) (.tmp 78) 45 rfl _ _ _ rfl rfl HR2.out ?_; clear HR2)
              obtain ⟨W4, HW4⟩ : ∃ W4, Hid (W4 = W3.setCell ⟨Bm, k * 4 + 3, none⟩ (.slice (some ⟨Bq, 0, none⟩) x.opens.length cq)) := ⟨_, rfl⟩
              have k4 : W4.heap[Bm]? = some (.cells (rowS sp l.length 4 (updC (fun i => gC (gat l i)) k 3 (.slice (some ⟨Bq, 0, none⟩) x.opens.length cq))) 47 (0, 0)) := by rw [HW4.out]; exact rowS_set hrow3 hk (by omega) _
              have j4 : W4.heap[Bq]? = some (.cells (rowS sq x.opens.length 1 (fun i _ => .bool (x.opens.getD i false))) 4 (0, 0)) := by rw [HW4.out, heap_setCell_other _ _ _ _ (by exact Ne.symm hne)]; exact hrow2
              have h24 : Below w3.heap.size w3 W4 := by rw [HW4.out]; exact (hb2.trans (hb3.mono hb2.size)).setCell hBm _
              have a3 : W4.cell? ⟨Bm, k * 4 + 3, none⟩ = some (.slice (some ⟨Bq, 0, none⟩) x.opens.length cq) := by
                have := rowS_cell k4 hk (show 3 < 4 by omega)
                rw [this]
                unfold updC
                rw [if_pos ⟨rfl, rfl⟩]
              have b3 : W4.cell? ⟨Bq, t, none⟩ = some (.bool (x.opens.getD t false)) := by
                have := rowS_cell j4 ht (show 0 < 1 by omega)
                rw [Nat.mul_one, Nat.add_zero] at this
                exact this
              have z4 : W4.frozen? ⟨Bq, t, none⟩ = false := frozen_of_row _ _ _ _ _ j4
              have it : (0 : Int) ≤ (t : Int) := by omega
              have nt : (t : Int) < (x.opens.length : Int) := by omega
              have HK4 : Hid _ := k4
              have HJ4 : Hid _ := j4
              have H24 : Hid (Below w3.heap.size w3 W4) := h24
              have HBM : Hid (w3.heap.size ≤ Bm ∧ w3.heap.size ≤ Bq ∧ l.length ≤ cm ∧ x.opens.length ≤ cq) := ⟨hBm, Nat.le_trans hb2.size hBq, hcm, hcq⟩
              obtain ⟨ob, hob⟩ : ∃ ob, ob = x.opens.getD t false := ⟨_, rfl⟩
              rw [← hob] at b3
              rw [← HW4.out]
              clear hrow hrow2 hrow3 hb2 hb3 hbl3 m3 z3 g0 g1 g2 g3 hxr hxi hin3 k4 j4 h24 lb
              go_cut [97] (fun _ W => W = (W4.setCell ⟨Bq, t, none⟩ (.bool (!ob))).drew)
              case first =>
                clear hob hoo hx hBm hBq hcm hcq
                go_region
                all_goals go_wp2_with fail
                all_goals go_meet
                all_goals rfl
              case rest =>
              rename World => W5
              have HW5 : Hid (W5 = (W4.setCell ⟨Bq, t, none⟩ (.bool (!ob))).drew) := hcut
              have k5 : W5.heap[Bm]? = some (.cells (rowS sp l.length 4 (updC (fun i => gC (gat l i)) k 3 (.slice (some ⟨Bq, 0, none⟩) x.opens.length cq))) 47 (0, 0)) := by
                rw [HW5.out]
                exact (heap_setCell_other _ _ _ _ (by exact hne)).trans HK4.out
              have j5 : W5.heap[Bq]? = some (.cells (rowS sq x.opens.length 1 (updC (fun i _ => .bool (x.opens.getD i false)) t 0 (.bool (!ob)))) 4 (0, 0)) := by
                rw [HW5.out]
                have := rowS_set HJ4.out ht (show 0 < 1 by omega) (.bool (!ob))
                rw [Nat.mul_one, Nat.add_zero] at this
                exact this
              have h35 : Below w3.heap.size w3 W5 := by rw [HW5.out]; exact (H24.out.setCell HBM.out.2.1 _).drew
              have h25 : Below w2.heap.size w2 W5 := below_up HB3.out h35
              have hinx := CX.out.inn W5 (HUP2.out _ h25)
              obtain ⟨l', hl'⟩ : ∃ l', l' = l.set k (Rl.turnG (gat l k) t (some ⟨Bq, 0, none⟩) cq) := ⟨_, rfl⟩
              have hll : l'.length = l.length := by rw [hl']; simp
              have hgrow : GRow W5 (some ⟨Bm, 0, none⟩) cm l' := by
                refine ⟨?_, fun g hg => ?_, by rw [hll]; omega⟩
                · rw [hll]
                  refine ⟨HBM.out.2.2.1, fun _ => ⟨Bm, 0, rfl, (Array.getElem?_eq_some_iff.1 k5).1, fun i hi j hj => ?_⟩⟩
                  rw [Nat.zero_add, rowS_cell k5 hi hj, hl']
                  have hgt := gC_turn l k t (some ⟨Bq, 0, none⟩) cq hk i j hj
                  rw [hx] at hgt ⊢
                  exact congrArg some hgt.symm
                · obtain ⟨i, hi, rfl⟩ := Rl.mem_gat hg
                  rw [hll] at hi
                  rw [hl', Rl.gat_set l k _ hk i]
                  by_cases e : i = k
                  · rw [if_pos e, hx]
                    have h1 : GIn W5 x := by rw [← hx]; exact hinx.gates.at hk
                    refine ⟨h1.ways, ?_, h1.wn, by show (x.opens.set t _).length ≤ _; rw [List.length_set]; exact h1.on⟩
                    show BLs W5 (some ⟨Bq, 0, none⟩) cq (x.opens.set t (!x.opens.getD t false))
                    unfold BLs
                    rw [List.length_set]
                    refine ⟨HBM.out.2.2.2, fun _ => ⟨Bq, 0, rfl, (Array.getElem?_eq_some_iff.1 j5).1, fun i hi j hj => ?_⟩⟩
                    rw [Nat.zero_add, rowS_cell j5 hi hj]
                    obtain rfl : j = 0 := by omega
                    unfold updC
                    by_cases e2 : i = t
                    · subst e2
                      rw [if_pos ⟨rfl, rfl⟩, hob]
                      simp [hi]
                    · rw [if_neg (fun q => e2 q.1)]
                      simp [Ne.symm e2]
                  · rw [if_neg e]
                    exact hinx.gates.at hi
              have hin5 : RelIn W5 r (some ⟨Bm, 0, none⟩) cm l' bo bcap bk f := ⟨hinx.ways, hinx.rn, hgrow, hinx.book, hinx.bn, hinx.bnil, hinx.data, hinx.dnil, hinx.dst, hinx.src⟩
              have hsame : Rl.relay r l' bk p f = Rl.relay r l bk p f := by
                rw [hl']
                refine Rl.relay_same (Rl.turn_alike l k t _ cq hk _ _ ?_)
                rw [← HTR.out]
                exact HQ5.out
              have HRL : Hid (Calls Try.prog 11 #[.agg #[.string r.name, .int .i64 r.rev, .slice r.ao r.n r.cap], .slice (some ⟨Bm, 0, none⟩) l.length cm, .slice bo bk.length bcap, .int .i64 p, .agg #[.int .u64 f.dst, .int .u64 f.src, .bool f.tagged, .int .i64 f.prio, .bool f.drop, .int .i64 f.vid, .int .i64 f.type, .slice f.ao f.n f.cap]] W5 fun e w' => ∃ oo2 oc2 os2 bo2 bc2, e = .returned (.tuple #[.slice oo2 os2.length oc2, .slice bo2 (Rl.relay r l bk p f).book.length bc2, .int .i64 0]) ∧ Hid (RelOut W5 w' f (Rl.relay r l bk p f) oo2 oc2 os2 bo2 bc2)) := by
                have := relay_any r (some ⟨Bm, 0, none⟩) cm l' bo bcap bk p f W5 hin5
                rw [hll, hsame, HE.out] at this
                refine this.mono ?_
                rintro e w' ⟨oo2, oc2, os2, bo2, bc2, rfl, h⟩
                exact ⟨oo2, oc2, os2, bo2, bc2, rfl, h⟩
              have HB5 : Hid (Below w2.heap.size w2 W5) := h25
              obtain ⟨⟨c0, c1, c2⟩, d0, d1, d2, d3, d4, d5, d6, d7⟩ := HSR.out W5 h25
              clear hcut k5 j5 h35 h25 hinx hgrow hin5 hsame hl' hll HK4 HJ4 H24 HBM hob hoo hx HW4 a3 b3 z4
              go_wp2_with fail
              refine HRL.out.mono ?_
              rintro e w6 ⟨oo2, oc2, os2, bo2, bc2, rfl, HO2⟩
              clear c0 c1 c2 d0 d1 d2 d3 d4 d5 d6 d7 HRL
              have h26 : Below w2.heap.size w2 w6 := below_up HB5.out HO2.out.low
              have hos : os.length ≤ 1000 := by
                have h1 : os.length = (Rl.relay r l bk p f).out.length := by rw [← HO.out.out, List.length_map]
                have h2 : (Rl.relay r l bk p f).out.length ≤ l.length := by
                  rcases Rl.relay_cases r l bk p f with ⟨_, h3, _⟩ | ⟨_, _, ⟨_, h3⟩ | ⟨_, h3⟩⟩
                  · rw [h3]; simp
                  · rw [h3]; simp
                  · rw [h3]
                    show (Rl.outs r l bk p f).length ≤ l.length
                    unfold Rl.outs
                    rw [List.length_map]
                    exact List.length_filter_le _ _
                omega
              have hbk : (Rl.relay r l bk p f).book.length ≤ 30 := by
                rcases Rl.relay_cases r l bk p f with ⟨_, _, h3⟩ | ⟨_, h2, ⟨_, h3⟩ | ⟨_, h3⟩⟩
                · rw [h3]; simp
                · rw [h3]; exact h2.book.many
                · rw [h3]; exact (Bk.learn_book h2.book _).many
              have HSO : Hid (Calls Try.prog 13 #[.slice oo os.length oc, .slice oo2 os2.length oc2] w6 fun e w' => e = .returned (.bool true) ∧ Hid (Below w6.heap.size w6 w')) := (rsameout_yes oo oc oo2 oc2 f os os2 w6 (HO.out.row.below h26) HO2.out.row (HO.out.out.trans HO2.out.out.symm) hos).mono (fun _ _ h => ⟨h.1, h.2⟩)
              have HSM : Hid (∀ W, Below w6.heap.size w6 W → Calls Try.prog 14 #[.slice bo' (Rl.relay r l bk p f).book.length bc', .slice bo2 (Rl.relay r l bk p f).book.length bc2] W fun e w' => e = .returned (.bool true) ∧ Hid (Below W.heap.size W w')) := fun W hW => (rsame8_yes bo' bc' bo2 bc2 _ _ _ _ W rfl rfl rfl (by omega) (BEL.below (BEL.below HO.out.book h26) hW) (BEL.below HO2.out.book hW)).mono (fun _ _ h => ⟨h.1, h.2⟩)
              have H06 : Hid (Below W0.heap.size W0 w6) := HUP2.out _ h26
              clear h26 hos hbk HO HO2
              go_wp2_with fail
              refine HSO.out.mono ?_
              rintro e w7 ⟨rfl, HB7⟩
              go_wp2_with fail
              refine (HSM.out w7 HB7.out).mono ?_
              rintro e w8 ⟨rfl, HB8⟩
              go_wp2_with fail
              go_ret
              exact ⟨rfl, CX.out.low _ (below_up (below_up H06.out HB7.out) HB8.out)⟩
  · have dq : ((Rl.relay r l bk p f).err != 0) = true := by simp [he]
    clear he HO
    go_wp2_with fail
    go_ret
    exact ⟨rfl, CX.out.low _ HB2.out⟩
end Go.Proofs.Ytgkmaihleilchaa

namespace Go.Proofs.Ytgkmaihleilchaa.relayTrees
open Go.ChangeShapes Go.WideShapes Go.ChangeAt Go.RowKit

set_option maxRecDepth 100000 in
theorem lifted (os : Os) (started : os.Started) (H : Type) (enc : TypeId × Value → H) :
    ReturnsInHanded {} Try.checked os 7 .any (Rows.relayTreesSpec.pre6 enc Try.prog Try.f7 Rows.relayTreesRow.domain false) (Rows.relayTreesSpec.post enc Try.prog Try.f7 false true false false) := by
  refine returnsInHanded_of_change (C := Try.checked) own started (by kernel_rfl) Try.func7
    (ChangeSpec.witness6 (enc := enc) (C := Try.checked) false ⟨#[], #[.agg #[.string ⟨#[]⟩, .int .i64 0, .slice none 0 0], .slice none 0 0, .slice none 0 0, .int .i64 0, .agg #[.int .u64 0, .int .u64 0, .bool false, .int .i64 0, .bool false, .int .i64 0, .int .i64 0, .slice none 0 0], .int .i64 0, .int .i64 0], []⟩ 8 (by kernel_rfl) (by kernel_rfl) (by kernel_rfl) (by kernel_rfl)) ?_
  intro W base args ds gs before hval0 hW hcnd _
  have hval : ∀ (j : Nat) t v, Try.f7.params[j]? = some t → args[j]? = some v → Value.okWide Try.prog W .any base t v := hval0
  have hW' := hW
  obtain ⟨p, q, hA0, hV, rfl, hfz, hnd⟩ := hW
  have hA : DataW.TrodAll enc Try.prog W 0 (fun _ => true) true Try.f7.params.toList args.toList ds p := hA0
  rw [Try.params7] at hA hval
  obtain ⟨v0, vs0, d0, ds0, p0, q0, hargs, rfl, rfl, h0, r0⟩ := trodAll_cons hA
  obtain ⟨v1, vs1, d1, ds1, p1, q1, rfl, rfl, rfl, h1, r1⟩ := trodAll_cons r0
  obtain ⟨v2, vs2, d2, ds2, p2, q2, rfl, rfl, rfl, h2, r2⟩ := trodAll_cons r1
  obtain ⟨v3, vs3, d3, ds3, p3, q3, rfl, rfl, rfl, h3, r3⟩ := trodAll_cons r2
  obtain ⟨v4, vs4, d4, ds4, p4, q4, rfl, rfl, rfl, h4, r4⟩ := trodAll_cons r3
  obtain ⟨v5, vs5, d5, ds5, p5, q5, rfl, rfl, rfl, h5, r5⟩ := trodAll_cons r4
  obtain ⟨v6, vs6, d6, ds6, p6, q6, rfl, rfl, rfl, h6, r6⟩ := trodAll_cons r5
  obtain ⟨rfl, rfl, rfl⟩ := trodAll_nil r6
  obtain rfl : args = #[v0, v1, v2, v3, v4, v5, v6] := by cases args; simp_all
  obtain ⟨rfl, rfl⟩ := trodVars_none hV
  have lt0 : ∀ x ∈ p0, x.block < W.heap.size := by obtain ⟨m, hm⟩ := h0; exact DataW.trod_lt m _ _ _ hm
  obtain ⟨rg0, rfl, hr0, hn0⟩ := region_in9 (hval 0 24 v0 rfl rfl) h0
  have lt1 : ∀ x ∈ p1, x.block < W.heap.size := by obtain ⟨m, hm⟩ := h1; exact DataW.trod_lt m _ _ _ hm
  obtain ⟨ao1, cap1, l1, rfl, hr1⟩ := gates_in (hval 1 25 v1 rfl rfl) h1
  have lt2 : ∀ x ∈ p2, x.block < W.heap.size := by obtain ⟨m, hm⟩ := h2; exact DataW.trod_lt m _ _ _ hm
  obtain ⟨ao2, cap2, l2, rfl, hr2, hnil2, hn2⟩ := entries_in (hval 2 26 v2 rfl rfl) h2
  have lt3 : ∀ x ∈ p3, x.block < W.heap.size := by obtain ⟨m, hm⟩ := h3; exact DataW.trod_lt m _ _ _ hm
  obtain ⟨z3, rfl⟩ := okWide_int Try.underlying3 (hval 3 3 v3 rfl rfl)
  have lt4 : ∀ x ∈ p4, x.block < W.heap.size := by obtain ⟨m, hm⟩ := h4; exact DataW.trod_lt m _ _ _ hm
  obtain ⟨f4, rfl, hr4, hnil4, hd4, hs4⟩ := frame_in9 (hval 4 30 v4 rfl rfl) h4
  have lt5 : ∀ x ∈ p5, x.block < W.heap.size := by obtain ⟨m, hm⟩ := h5; exact DataW.trod_lt m _ _ _ hm
  obtain ⟨z5, rfl⟩ := okWide_int Try.underlying3 (hval 5 3 v5 rfl rfl)
  have lt6 : ∀ x ∈ p6, x.block < W.heap.size := by obtain ⟨m, hm⟩ := h6; exact DataW.trod_lt m _ _ _ hm
  obtain ⟨z6, rfl⟩ := okWide_int Try.underlying3 (hval 6 3 v6 rfl rfl)
  clear hA0 hval0
  refine (rtrees_law rg0 ao1 cap1 l1 ao2 cap2 l2 z3 f4 z5 z6 W ⟨hr0, hn0, hr1, hr2, hn2, hnil2, hr4, hnil4, hd4, hs4⟩).mono fun e W' ⟨he, bel⟩ => ?_
  subst he
  exact ⟨_, rfl, _, _, _, [], _, [], hW', trodAll_mk1 (shut_bool Try.underlying4 _), (trodAll_cons_mk (Below.trod laidOut (by kernel_rfl) (of_decide_eq_true (by kernel_rfl)) h0 bel lt0) (trodAll_cons_mk (Below.trod laidOut (by kernel_rfl) (of_decide_eq_true (by kernel_rfl)) h1 bel lt1) (trodAll_cons_mk (Below.trod laidOut (by kernel_rfl) (of_decide_eq_true (by kernel_rfl)) h2 bel lt2) (trodAll_cons_mk (Below.trod laidOut (by kernel_rfl) (of_decide_eq_true (by kernel_rfl)) h3 bel lt3) (trodAll_cons_mk (Below.trod laidOut (by kernel_rfl) (of_decide_eq_true (by kernel_rfl)) h4 bel lt4) (trodAll_cons_mk (Below.trod laidOut (by kernel_rfl) (of_decide_eq_true (by kernel_rfl)) h5 bel lt5) (trodAll_cons_mk (Below.trod laidOut (by kernel_rfl) (of_decide_eq_true (by kernel_rfl)) h6 bel lt6) trodAll_mk0))))))), rfl, bel.frame _, fun h => by cases h⟩

theorem over : Rows.relayTreesRow.holds Try.pinned (OpenSpec.ofChange Rows.relayTreesSpec) :=
  OpenClaim.holds_of_wide 7 Try.f7 rfl rfl rfl rfl rfl rfl rfl ⟨rfl, rfl, rfl, rfl, rfl⟩ rfl rfl rfl rfl rfl (by kernel_rfl) Try.func7 (by kernel_rfl)
    (of_decide_eq_true (by kernel_rfl)) (by unfold Func.isWrapper; first | (rw [if_pos (by decide +kernel)]; kernel_rfl) | (rw [if_neg (by decide +kernel)]; exact ⟨rfl, rfl⟩))
    (fun os started H enc _ => lifted os started H enc)
end Go.Proofs.Ytgkmaihleilchaa.relayTrees
namespace Go.Proofs.Ytgkmaihleilchaa
/-- A WAY'S TREE ALONE COUNTS: the statement, as it was given. -/
theorem relayTrees_said : Rows.RelayTreesSaid := relayTrees.over
#print axioms relayTrees_said
end Go.Proofs.Ytgkmaihleilchaa
