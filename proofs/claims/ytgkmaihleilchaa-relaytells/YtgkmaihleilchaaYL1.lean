/- walks: hedgelaw9's gate, alive -/
import Derived.Test.YtgkmaihleilchaaYL0
namespace Go.Proofs.Ytgkmaihleilchaa
open Go.RowKit
open Bk (E at')
open Rl (G gat F O R)

/-- A gate with way 5, open on tree 0. -/
def g5 (p : Int) (wo oo : Option Addr) : G := ⟨p, 0, [5], [true], wo, 1, oo, 1⟩
theorem gin5 {W : World} (p : Int) {B C : Nat} (k1 : W.heap[B]? = some (.cells #[.int .i64 5] 3 (0, 0))) (k2 : W.heap[C]? = some (.cells #[.bool true] 4 (0, 0))) : GIn W (g5 p (some ⟨B, 0, none⟩) (some ⟨C, 0, none⟩)) := by
  refine ⟨⟨Nat.le_refl _, fun _ => ⟨_, 0, rfl, (Array.getElem?_eq_some_iff.1 k1).1, fun i hi j hj => ?_⟩⟩, ⟨Nat.le_refl _, fun _ => ⟨_, 0, rfl, (Array.getElem?_eq_some_iff.1 k2).1, fun i hi j hj => ?_⟩⟩, by simp [g5], by simp [g5]⟩
  · obtain rfl : i = 0 := by simp [g5] at hi; exact hi
    obtain rfl : j = 0 := by omega
    exact cell_of_row _ _ 0 _ _ _ k1
  · obtain rfl : i = 0 := by simp [g5] at hi; exact hi
    obtain rfl : j = 0 := by omega
    exact cell_of_row _ _ 0 _ _ _ k2
set_option maxHeartbeats 400000 in
theorem gate_any (p : Int) (w : World) : Calls Try.prog 44 #[.int .i64 p] w fun e w' => ∃ wo oo, e = .returned (.agg #[.int .i64 p, .slice wo 1 1, .int .i64 0, .slice oo 1 1]) ∧ Hid (GIn w' (g5 p wo oo)) ∧ Hid (Below w.heap.size w w') := by
  have H3 : Hid (∀ A B C : Obj, _) := alloc3 w
  go_enter Try.func44, Try.ntmps44
  go_wp2_with fail
  obtain ⟨h1, h2, h3, h4⟩ := H3.out (.cells #[.int .i64 p, .slice (some ⟨w.heap.size + 1, 0, none⟩) 1 1, .int .i64 0, .slice (some ⟨w.heap.size + 1 + 1, 0, none⟩) 1 1] 47) (.cells #[.int .i64 5] 3) (.cells #[.bool true] 4)
  exact bodyPost_ret (v := .agg #[.int .i64 p, .slice (some ⟨w.heap.size + 1, 0, none⟩) 1 1, .int .i64 0, .slice (some ⟨w.heap.size + 1 + 1, 0, none⟩) 1 1]) (results_row (p := 2) (ty := 47) Try.results44 _ _ w.heap.size 47 _ (0, 0) _ rfl h1 Try.underlying47 rfl (by rw [sizeGt]; rfl)) rfl ⟨_, _, rfl, gin5 p h2 h3, h4⟩
def f9 : F := ⟨9, 8, true, 0, false, 5, 2048, none, 0, 0, fun _ => 0⟩
def r9 : R := ⟨⟨#[114]⟩, 0, none, 0, 0, fun _ => 0, fun _ => 0⟩
theorem relay9 (a1 a2 a3 b1 b2 b3 : Option Addr) : Rl.relay r9 [g5 1 a1 b1, g5 2 a2 b2, g5 3 a3 b3] [] 1 f9 = ⟨[⟨2, true, 0, false, 5⟩, ⟨3, true, 0, false, 5⟩], [⟨5, 8, 1, 0⟩], 0⟩ := by
  rfl
theorem row3 {W : World} {g : Nat} {a1 b1 a2 b2 a3 b3 : Option Addr} (h : W.heap[g]? = some (.cells #[.int .i64 1, .slice a1 1 1, .int .i64 0, .slice b1 1 1, .int .i64 2, .slice a2 1 1, .int .i64 0, .slice b2 1 1, .int .i64 3, .slice a3 1 1, .int .i64 0, .slice b3 1 1] 47 (0, 0))) (h1 : GIn W (g5 1 a1 b1)) (h2 : GIn W (g5 2 a2 b2)) (h3 : GIn W (g5 3 a3 b3)) : GRow W (some ⟨g, 0, none⟩) 3 [g5 1 a1 b1, g5 2 a2 b2, g5 3 a3 b3] := by
  refine ⟨⟨Nat.le_refl _, fun _ => ⟨g, 0, rfl, (Array.getElem?_eq_some_iff.1 h).1, fun i hi j hj => ?_⟩⟩, fun x hx => ?_, by simp⟩
  · have hi' : i < 3 := hi
    rcases (by omega : i = 0 ∨ i = 1 ∨ i = 2) with e | e | e <;> subst e <;> rcases (by omega : j = 0 ∨ j = 1 ∨ j = 2 ∨ j = 3) with e | e | e | e <;> subst e
    · exact cell_of_row _ _ 0 _ _ _ h
    · exact cell_of_row _ _ 1 _ _ _ h
    · exact cell_of_row _ _ 2 _ _ _ h
    · exact cell_of_row _ _ 3 _ _ _ h
    · exact cell_of_row _ _ 4 _ _ _ h
    · exact cell_of_row _ _ 5 _ _ _ h
    · exact cell_of_row _ _ 6 _ _ _ h
    · exact cell_of_row _ _ 7 _ _ _ h
    · exact cell_of_row _ _ 8 _ _ _ h
    · exact cell_of_row _ _ 9 _ _ _ h
    · exact cell_of_row _ _ 10 _ _ _ h
    · exact cell_of_row _ _ 11 _ _ _ h
  · simp at hx
    rcases hx with rfl | rfl | rfl
    · exact h1
    · exact h2
    · exact h3
set_option maxRecDepth 20000 in
set_option maxHeartbeats 4000000 in
theorem alive9_any (w : World) : Calls Try.prog 15 #[] w fun e w' => e = .returned (.bool true) ∧ Hid (Below w.heap.size w w') := by
  obtain ⟨W0, HW0⟩ : ∃ W0, Hid (W0 = w.alloc (.cells #[.int .u64 9, .int .u64 8, .bool true, .int .i64 0, .bool false, .int .i64 5, .int .i64 2048, .slice none 0 0] 30)) := ⟨_, rfl⟩
  have hb0 : Below w.heap.size w W0 := by rw [HW0.out]; exact below_alloc1 _ _
  have hf0 : W0.heap[w.heap.size]? = some (.cells #[.int .u64 9, .int .u64 8, .bool true, .int .i64 0, .bool false, .int .i64 5, .int .i64 2048, .slice none 0 0] 30 (0, 0)) := by rw [HW0.out]; exact heap_alloc_last _ _
  have HB0 : Hid (Below W0.heap.size W0 W0) := Below.refl _ _
  have HC : Hid (∀ W, Below W0.heap.size W0 W → (W.cell? ⟨w.heap.size, 0, none⟩ = some (.int .u64 9) ∧ W.cell? ⟨w.heap.size, 1, none⟩ = some (.int .u64 8) ∧ W.cell? ⟨w.heap.size, 2, none⟩ = some (.bool true) ∧ W.cell? ⟨w.heap.size, 3, none⟩ = some (.int .i64 0) ∧ W.cell? ⟨w.heap.size, 4, none⟩ = some (.bool false) ∧ W.cell? ⟨w.heap.size, 5, none⟩ = some (.int .i64 5) ∧ W.cell? ⟨w.heap.size, 6, none⟩ = some (.int .i64 2048) ∧ W.cell? ⟨w.heap.size, 7, none⟩ = some (.slice none 0 0))) := fun W hW => fr_cells (keep hf0 hW)
  have HG : Hid (∀ (q : Int) (W : World), Below W0.heap.size W0 W → Calls Try.prog 44 #[.int .i64 q] W fun e w' => ∃ wo oo, e = .returned (.agg #[.int .i64 q, .slice wo 1 1, .int .i64 0, .slice oo 1 1]) ∧ Hid (GIn w' (g5 q wo oo)) ∧ Hid (Below W.heap.size W w') ∧ Hid (Below W0.heap.size W0 w')) := fun q W hW => (gate_any q W).mono (fun e w' h => by
    obtain ⟨wo, oo, h1, h2, h3⟩ := h
    exact ⟨wo, oo, h1, h2, h3, below_up hW h3.out⟩)
  have HRL : Hid (∀ (W : World) (a1 b1 a2 b2 a3 b3 : Option Addr), Below W0.heap.size W0 W → GIn W (g5 1 a1 b1) → GIn W (g5 2 a2 b2) → GIn W (g5 3 a3 b3) → Calls Try.prog 11 #[.agg #[.string ⟨#[114]⟩, .int .i64 0, .slice none 0 0], .slice (some ⟨W.heap.size, 0, none⟩) 3 3, .slice none 0 0, .int .i64 1, .agg #[.int .u64 9, .int .u64 8, .bool true, .int .i64 0, .bool false, .int .i64 5, .int .i64 2048, .slice none 0 0]] (W.alloc (.cells #[.int .i64 1, .slice a1 1 1, .int .i64 0, .slice b1 1 1, .int .i64 2, .slice a2 1 1, .int .i64 0, .slice b2 1 1, .int .i64 3, .slice a3 1 1, .int .i64 0, .slice b3 1 1] 47)) fun e w' => ∃ b off oc b' off' bc, e = .returned (.tuple #[.slice (some ⟨b, off, none⟩) 2 oc, .slice (some ⟨b', off', none⟩) 1 bc, .int .i64 0]) ∧ 2 ≤ oc ∧ 1 ≤ bc ∧ w'.cell? ⟨b, off + 9, none⟩ = some (.int .i64 3) ∧ w'.cell? ⟨b', off' + 2, none⟩ = some (.int .i64 1) ∧ Hid (Below w.heap.size w w') ∧ Hid (Below W0.heap.size W0 w')) := fun W a1 b1 a2 b2 a3 b3 hW h1 h2 h3 => by
    have hb := below_alloc1 W (.cells #[.int .i64 1, .slice a1 1 1, .int .i64 0, .slice b1 1 1, .int .i64 2, .slice a2 1 1, .int .i64 0, .slice b2 1 1, .int .i64 3, .slice a3 1 1, .int .i64 0, .slice b3 1 1] 47)
    have hin : RelIn (W.alloc (.cells #[.int .i64 1, .slice a1 1 1, .int .i64 0, .slice b1 1 1, .int .i64 2, .slice a2 1 1, .int .i64 0, .slice b2 1 1, .int .i64 3, .slice a3 1 1, .int .i64 0, .slice b3 1 1] 47)) r9 (some ⟨W.heap.size, 0, none⟩) 3 [g5 1 a1 b1, g5 2 a2 b2, g5 3 a3 b3] none 0 [] f9 := ⟨⟨Nat.le_refl _, fun h => absurd h (by decide)⟩, by decide, row3 (heap_alloc_last _ _) (h1.below hb) (h2.below hb) (h3.below hb), CRow.none _ _ _ _ _, by decide, fun _ => ⟨rfl, rfl⟩, ⟨Nat.le_refl _, fun h => absurd h (by decide)⟩, fun _ => ⟨rfl, rfl⟩, by decide, by decide⟩
    refine (relay_any r9 (some ⟨W.heap.size, 0, none⟩) 3 [g5 1 a1 b1, g5 2 a2 b2, g5 3 a3 b3] none 0 [] 1 f9 _ hin).mono ?_
    rw [relay9]
    rintro e w' ⟨oo, oc, os, bo, bc, rfl, ho⟩
    have hl : os.length = 2 := by
      have := congrArg List.length ho.out
      simpa using this
    obtain ⟨b, off, rfl, _⟩ := ho.row.place (by omega)
    obtain ⟨b', off', rfl, _⟩ := ho.book.place (by simp)
    have c1 := (ho.row.cells (i := 1) (by omega)).1
    have c2 := (ho.book.cells (i := 0) (by simp)).2.2.1
    have hp : (oat os 1).o.port = 3 := by
      have h1 : (os.map OV.o)[1]? = some ⟨3, true, 0, false, 5⟩ := by rw [ho.out]; rfl
      rw [List.getElem?_map, List.getElem?_eq_getElem (by omega)] at h1
      rw [oat_get os 1 (by omega)]
      simp at h1
      rw [h1]
    rw [hp] at c1
    refine ⟨b, off, oc, b', off', bc, by rw [hl]; rfl, by have := ho.row.row.1; omega, ho.book.1, c1, c2, below_up (below_up (below_up hb0 hW) hb) ho.low, below_up (below_up hW hb) ho.low⟩
  obtain ⟨c0, c1, c2, c3, c4, c5, c6, c7⟩ := HC.out W0 HB0.out
  clear hb0 hf0
  go_enter Try.func15, Try.ntmps15
  go_wp2_with fail
  rw [← HW0.out]
  go_cut [2, 3, 4] (fun s2 s3 s4 W => ∃ b off oc b' off' bc, s2 = .slice (some ⟨b, off, none⟩) 2 oc ∧ s3 = .slice (some ⟨b', off', none⟩) 1 bc ∧ s4 = .int .i64 0 ∧ 2 ≤ oc ∧ 1 ≤ bc ∧ W.cell? ⟨b, off + 9, none⟩ = some (.int .i64 3) ∧ W.cell? ⟨b', off' + 2, none⟩ = some (.int .i64 1) ∧ Hid (Below w.heap.size w W))
  case first =>
    go_region_held3 (fun W => (W.cell? ⟨w.heap.size, 0, none⟩ = some (.int .u64 9) ∧ W.cell? ⟨w.heap.size, 1, none⟩ = some (.int .u64 8) ∧ W.cell? ⟨w.heap.size, 2, none⟩ = some (.bool true) ∧ W.cell? ⟨w.heap.size, 3, none⟩ = some (.int .i64 0) ∧ W.cell? ⟨w.heap.size, 4, none⟩ = some (.bool false) ∧ W.cell? ⟨w.heap.size, 5, none⟩ = some (.int .i64 5) ∧ W.cell? ⟨w.heap.size, 6, none⟩ = some (.int .i64 2048) ∧ W.cell? ⟨w.heap.size, 7, none⟩ = some (.slice none 0 0)))
      (first | (exact HC.out _ (Hid.out (by assumption))) | (exact HC.out _ (Below.drew (Hid.out (by assumption)))) | (exact HC.out _ (below_al (Hid.out (by assumption)) _)))
      (first | (go_at_call 44; refine (HG.out 1 _ (by first | exact (Hid.out (by assumption)) | exact Below.drew (Hid.out (by assumption)))).mono ?_; rintro e w1 ⟨a1, b1, rfl, G1, K1, L1⟩) | (go_at_call 44; refine (HG.out 2 _ (by first | exact (Hid.out (by assumption)) | exact Below.drew (Hid.out (by assumption)))).mono ?_; rintro e w2 ⟨a2, b2, rfl, G2, K2, L2⟩) | (go_at_call 44; refine (HG.out 3 _ (by first | exact (Hid.out (by assumption)) | exact Below.drew (Hid.out (by assumption)))).mono ?_; rintro e w3 ⟨a3, b3, rfl, G3, K3, L3⟩) | (go_at_call 11; refine (HRL.out _ _ _ _ _ _ _ L3.out ((G1.out.below K2.out).below K3.out) (G2.out.below K3.out) G3.out).mono ?_; rintro e w4 ⟨b, off, oc, b', off', bc, rfl, q1, q2, q3, q4, HL, L4⟩))
    all_goals go_wp2_with fail
    all_goals go_meet
    all_goals exact ⟨b, off, oc, b', off', bc, rfl, rfl, rfl, q1, q2, q3, q4, HL⟩
  case rest =>
  obtain ⟨b, off, oc, b', off', bc, rfl, rfl, rfl, q1, q2, q3, q4, HL⟩ := hcut
  clear HRL HG HC c0 c1 c2 c3 c4 c5 c6 c7
  go_wp2_with fail
  go_ret
  exact ⟨rfl, HL⟩
end Go.Proofs.Ytgkmaihleilchaa
