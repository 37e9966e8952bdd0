/- The ends of links at a bridge, as ports rise; what is known of a right net's -/
import Derived.Test.YtcbpafpaimpfnaaGreatDoorP08
import Derived.Test.YtcbpafpaimpfnaaGreatDoorP01
import Derived.Deep.RegionHeld3
namespace Go.Proofs.YtcbpafpaimpfnaaGreatDoor
section
open Go.RowKit
open Vc (V Of)
theorem cor4 (a b : V) (g : Nat) (ty : TypeId) (w : World) (h : w.heap[g]? = some (.cells #[.int .i64 (sg a.root b.root), .int .i64 (sg a.cost b.cost), .int .i64 (sg a.bridge b.bridge), .int .i64 (sg a.port b.port)] ty (0, 0))) :
  Calls Tryz.prog 87 #[.slice (some ⟨g, 0, none⟩) 4 4] w fun e w' => e = .returned (.int .i64 (Vc.cmp a b)) ∧ w' = w := by
 rw [← orTo_sg4]
 obtain ⟨c0, c1, c2, c3⟩ := vc_cells h
 refine cor_any g 0 4 4 (sg4 a b) w (by omega) (by omega) (fun i hi => ?_)
 rcases (by omega : i = 0 ∨ i = 1 ∨ i = 2 ∨ i = 3) with e | e | e | e <;> subst e
 ·exact c0
 ·exact c1
 ·exact c2
 ·exact c3
theorem below_drew_alloc {n : Nat} {w w' : World} (h : Below n w w') (hn : n ≤ w'.heap.size) (o : Obj) : Below n w (w'.drew.alloc o) := (Below.drew h).alloc hn o
set_option maxHeartbeats 4000000 in
theorem vcompare_any (a b : V) (w : World) :
  Calls Tryz.prog 88 #[.agg #[.int .u64 a.root, .int .i64 a.cost, .int .u64 a.bridge, .int .i64 a.port], .agg #[.int .u64 b.root, .int .i64 b.cost, .int .u64 b.bridge, .int .i64 b.port]] w fun e w' => e = .returned (.int .i64 (Vc.cmp a b)) ∧ Below w.heap.size w w' := by
 obtain ⟨W0, HW0⟩ : ∃ W0, Hid (W0 = (w.alloc (.cells #[.int .u64 a.root, .int .i64 a.cost, .int .u64 a.bridge, .int .i64 a.port] 48)).alloc (.cells #[.int .u64 b.root, .int .i64 b.cost, .int .u64 b.bridge, .int .i64 b.port] 48)) := ⟨_, rfl⟩
 have HB0 : Hid (Below w.heap.size w W0) := by rw [HW0.out]; exact below_alloc2 _ _ _
 have HBB : Hid (Below W0.heap.size W0 W0) := Below.refl _ _
 have HC : Hid (∀ W, Below W0.heap.size W0 W → W.cell? ⟨w.heap.size, 0, none⟩ = some (.int .u64 a.root) ∧ W.cell? ⟨w.heap.size, 1, none⟩ = some (.int .i64 a.cost) ∧ W.cell? ⟨w.heap.size, 2, none⟩ = some (.int .u64 a.bridge) ∧ W.cell? ⟨w.heap.size, 3, none⟩ = some (.int .i64 a.port) ∧ W.cell? ⟨w.heap.size + 1, 0, none⟩ = some (.int .u64 b.root) ∧ W.cell? ⟨w.heap.size + 1, 1, none⟩ = some (.int .i64 b.cost) ∧ W.cell? ⟨w.heap.size + 1, 2, none⟩ = some (.int .u64 b.bridge) ∧ W.cell? ⟨w.heap.size + 1, 3, none⟩ = some (.int .i64 b.port)) := fun W hW => by
  rw [HW0.out] at hW
  have h1 := vc_cells (keep (heap_alloc2_old w _ _) hW)
  have h2 := vc_cells (keep (heap_alloc2_new w _ _) hW)
  exact ⟨h1.1, h1.2.1, h1.2.2.1, h1.2.2.2, h2.1, h2.2.1, h2.2.2.1, h2.2.2.2⟩
 have HOR : Hid (∀ (g : Nat) (ty : TypeId) (W : World), W.heap[g]? = some (.cells #[.int .i64 (sg a.root b.root), .int .i64 (sg a.cost b.cost), .int .i64 (sg a.bridge b.bridge), .int .i64 (sg a.port b.port)] ty (0, 0)) → Calls Tryz.prog 87 #[.slice (some ⟨g, 0, none⟩) 4 4] W fun e w' => e = .returned (.int .i64 (Vc.cmp a b)) ∧ w' = W) := fun g ty W h => cor4 a b g ty W h
 have HL : Hid (∀ W, Below W0.heap.size W0 W → Below w.heap.size w W) := fun W hW => HB0.out.trans (hW.mono HB0.out.size)
 obtain ⟨c0, c1, c2, c3, d0, d1, d2, d3⟩ := HC.out W0 HBB.out
 go_enter Tryz.func88, Tryz.ntmps88
 go_wp2_with fail
 rw [← HW0.out]
 go_region_held3 (fun W => W.cell? ⟨w.heap.size, 0, none⟩ = some (.int .u64 a.root) ∧ W.cell? ⟨w.heap.size, 1, none⟩ = some (.int .i64 a.cost) ∧ W.cell? ⟨w.heap.size, 2, none⟩ = some (.int .u64 a.bridge) ∧ W.cell? ⟨w.heap.size, 3, none⟩ = some (.int .i64 a.port) ∧ W.cell? ⟨w.heap.size + 1, 0, none⟩ = some (.int .u64 b.root) ∧ W.cell? ⟨w.heap.size + 1, 1, none⟩ = some (.int .i64 b.cost) ∧ W.cell? ⟨w.heap.size + 1, 2, none⟩ = some (.int .u64 b.bridge) ∧ W.cell? ⟨w.heap.size + 1, 3, none⟩ = some (.int .i64 b.port))
  (first | (exact HC.out _ (Below.drew HBB.out)) | (exact HC.out _ (below_drew_alloc HBB.out (Nat.le_refl _) _)))
  (first | (go_at_call 108; refine (ccmpu_any _ _ _).mono ?_; rintro e w1 ⟨rfl, rfl⟩) | (go_at_call 57; refine (ccmpi_any _ _ _).mono ?_; rintro e w1 ⟨rfl, rfl⟩) | (go_at_call 87; refine (HOR.out _ _ _ (heap_alloc_last W0.drew _)).mono ?_; rintro e w1 ⟨rfl, rfl⟩))
 go_wp2_with fail
 go_ret
 exact ⟨rfl, HL.out _ (below_drew_alloc HBB.out (Nat.le_refl _) _)⟩
set_option maxHeartbeats 1000000 in
theorem vbetter_any (a b : V) (w : World) :
  Calls Tryz.prog 76 #[.agg #[.int .u64 a.root, .int .i64 a.cost, .int .u64 a.bridge, .int .i64 a.port], .agg #[.int .u64 b.root, .int .i64 b.cost, .int .u64 b.bridge, .int .i64 b.port]] w fun e w' => e = .returned (.bool (decide (Vc.lt a b))) ∧ Below w.heap.size w w' := by
 obtain ⟨W0, HW0⟩ : ∃ W0, Hid (W0 = (w.alloc (.cells #[.int .u64 a.root, .int .i64 a.cost, .int .u64 a.bridge, .int .i64 a.port] 48)).alloc (.cells #[.int .u64 b.root, .int .i64 b.cost, .int .u64 b.bridge, .int .i64 b.port] 48)) := ⟨_, rfl⟩
 have HB0 : Hid (Below w.heap.size w W0) := by rw [HW0.out]; exact below_alloc2 _ _ _
 have HCM : Hid (∀ W, Calls Tryz.prog 88 #[.agg #[.int .u64 a.root, .int .i64 a.cost, .int .u64 a.bridge, .int .i64 a.port], .agg #[.int .u64 b.root, .int .i64 b.cost, .int .u64 b.bridge, .int .i64 b.port]] W fun e w' => e = .returned (.int .i64 (Vc.cmp a b)) ∧ Below W.heap.size W w') := fun W => vcompare_any a b W
 have HD : Hid (decide (Vc.cmp a b < 0) = decide (Vc.lt a b)) := by
  by_cases h : Vc.lt a b
  ·exact (decide_eq_true (Vc.cmp_lt.2 h)).trans (decide_eq_true h).symm
  ·exact (decide_eq_false (fun q => h (Vc.cmp_lt.1 q))).trans (decide_eq_false h).symm
 go_enter Tryz.func76, Tryz.ntmps76
 go_wp2_with fail
 rw [← HW0.out]
 refine (HCM.out _).mono ?_
 rintro e w1 ⟨rfl, hb1⟩
 have HB1 : Hid (Below w.heap.size w w1) := HB0.out.trans (hb1.mono HB0.out.size)
 clear hb1
 go_wp2_with fail
 go_ret
 exact ⟨by rw [← HD.out]; rfl, HB1.out⟩
end
section
open Go.RowKit Go.Maps
open Pl (Br Net Pc Lk En St)
theorem lk_cells {w : World} {g : Nat} {a0 a1 a2 a3 a4 a5 : Value} {ty : TypeId} (h : w.heap[g]? = some (.cells #[a0, a1, a2, a3, a4, a5] ty (0, 0))) :
  w.cell? ⟨g, 0, none⟩ = some a0 ∧ w.cell? ⟨g, 1, none⟩ = some a1 ∧ w.cell? ⟨g, 2, none⟩ = some a2 ∧ w.cell? ⟨g, 3, none⟩ = some a3 ∧ w.cell? ⟨g, 4, none⟩ = some a4 ∧ w.cell? ⟨g, 5, none⟩ = some a5 :=
 ⟨cell_of_row w g 0 _ _ _ h, cell_of_row w g 1 _ _ _ h, cell_of_row w g 2 _ _ _ h, cell_of_row w g 3 _ _ _ h, cell_of_row w g 4 _ _ _ h, cell_of_row w g 5 _ _ _ h⟩
def lkA (l : Lk) : Array Value := #[.int .i64 l.a, .int .i64 l.pa, .int .i64 l.b, .int .i64 l.pb, .int .i64 l.cost, .bool l.up]
set_option maxRecDepth 100000 in
set_option maxHeartbeats 2000000 in
theorem pwrongLink_any (K : Nat) (l : Lk) (w : World) (hK : K ≤ 12) :
  Calls Tryz.prog 49 #[.agg (lkA l), .int .i64 K] w fun e w' => e = .returned (.int .i64 (Pl.lkErr K l)) ∧ Below w.heap.size w w' := by
 obtain ⟨a, pa, b, pb, c, up⟩ := l
 simp only [lkA]
 have HA : Hid (∀ W, Calls Tryz.prog 28 #[.int .i64 a, .int .i64 0, .int .i64 ((K : Int) - 1)] W fun e w' => e = .returned (.bool (decide (0 ≤ a ∧ a ≤ (K : Int) - 1))) ∧ w' = W) := fun W => gwithin_any _ _ _ W
 have HB : Hid (∀ W, Calls Tryz.prog 28 #[.int .i64 b, .int .i64 0, .int .i64 ((K : Int) - 1)] W fun e w' => e = .returned (.bool (decide (0 ≤ b ∧ b ≤ (K : Int) - 1))) ∧ w' = W) := fun W => gwithin_any _ _ _ W
 have HP : Hid (∀ W, Calls Tryz.prog 28 #[.int .i64 pa, .int .i64 1, .int .i64 30] W fun e w' => e = .returned (.bool (decide (1 ≤ pa ∧ pa ≤ 30))) ∧ w' = W) := fun W => gwithin_any _ _ _ W
 have HQ : Hid (∀ W, Calls Tryz.prog 28 #[.int .i64 pb, .int .i64 1, .int .i64 30] W fun e w' => e = .returned (.bool (decide (1 ≤ pb ∧ pb ≤ 30))) ∧ w' = W) := fun W => gwithin_any _ _ _ W
 have HC : Hid (∀ W, Calls Tryz.prog 28 #[.int .i64 c, .int .i64 1, .int .i64 200000] W fun e w' => e = .returned (.bool (decide (1 ≤ c ∧ c ≤ 200000))) ∧ w' = W) := fun W => gwithin_any _ _ _ W
 have wk : IntKind.i64.wrap ((K : Int) - 1) = (K : Int) - 1 := by rw [IntKind.wrap_i64]; omega
 obtain ⟨c0, c1, c2, c3, c4, c5⟩ := lk_cells (heap_alloc_last w (.cells #[.int .i64 a, .int .i64 pa, .int .i64 b, .int .i64 pb, .int .i64 c, .bool up] 46))
 have HE : Hid (Pl.lkErr K ⟨a, pa, b, pb, c, up⟩ = if ¬ (0 ≤ a ∧ a ≤ (K : Int) - 1) ∨ ¬ (0 ≤ b ∧ b ≤ (K : Int) - 1) then 6 else if a = b then 8 else if ¬ (1 ≤ pa ∧ pa ≤ 30) ∨ ¬ (1 ≤ pb ∧ pb ≤ 30) ∨ ¬ (1 ≤ c ∧ c ≤ 200000) then 3 else 0) := rfl
 rw [HE.out]
 clear HE
 by_cases h1 : 0 ≤ a ∧ a ≤ (K : Int) - 1
 ·rw [decide_eq_true h1] at HA
  by_cases h2 : 0 ≤ b ∧ b ≤ (K : Int) - 1
  ·rw [decide_eq_true h2] at HB
   rw [if_neg (by simp only [not_or, Classical.not_not]; exact ⟨h1, h2⟩)]
   by_cases h3 : a = b
   ·rw [if_pos h3]
    have d3 : (a == b) = true := by simp [h3]
    clear h1 h2 h3
    go_enter Tryz.func49, Tryz.ntmps49
    go_wp2_with (go_at_call 28; first | ((with_reducible refine (HA.out _).mono ?_); rintro e w1 ⟨rfl, rfl⟩) | ((with_reducible refine (HB.out _).mono ?_); rintro e w1 ⟨rfl, rfl⟩))
    go_ret
    exact ⟨rfl, below_alloc1 _ _⟩
   ·rw [if_neg h3]
    have d3 : (a == b) = false := by simp [h3]
    by_cases h4 : 1 ≤ pa ∧ pa ≤ 30
    ·rw [decide_eq_true h4] at HP
     by_cases h5 : 1 ≤ pb ∧ pb ≤ 30
     ·rw [decide_eq_true h5] at HQ
      by_cases h6 : 1 ≤ c ∧ c ≤ 200000
      ·rw [decide_eq_true h6] at HC
       rw [if_neg (by simp only [not_or, Classical.not_not]; exact ⟨h4, h5, h6⟩)]
       clear h1 h2 h3 h4 h5 h6
       go_enter Tryz.func49, Tryz.ntmps49
       go_wp2_with (go_at_call 28; first | ((with_reducible refine (HA.out _).mono ?_); rintro e w1 ⟨rfl, rfl⟩) | ((with_reducible refine (HB.out _).mono ?_); rintro e w1 ⟨rfl, rfl⟩) | ((with_reducible refine (HP.out _).mono ?_); rintro e w1 ⟨rfl, rfl⟩) | ((with_reducible refine (HQ.out _).mono ?_); rintro e w1 ⟨rfl, rfl⟩) | ((with_reducible refine (HC.out _).mono ?_); rintro e w1 ⟨rfl, rfl⟩))
       go_ret
       exact ⟨rfl, below_alloc1 _ _⟩
      ·rw [decide_eq_false h6] at HC
       rw [if_pos (Or.inr (Or.inr h6))]
       clear h1 h2 h3 h4 h5 h6
       go_enter Tryz.func49, Tryz.ntmps49
       go_wp2_with (go_at_call 28; first | ((with_reducible refine (HA.out _).mono ?_); rintro e w1 ⟨rfl, rfl⟩) | ((with_reducible refine (HB.out _).mono ?_); rintro e w1 ⟨rfl, rfl⟩) | ((with_reducible refine (HP.out _).mono ?_); rintro e w1 ⟨rfl, rfl⟩) | ((with_reducible refine (HQ.out _).mono ?_); rintro e w1 ⟨rfl, rfl⟩) | ((with_reducible refine (HC.out _).mono ?_); rintro e w1 ⟨rfl, rfl⟩))
       go_ret
       exact ⟨rfl, below_alloc1 _ _⟩
     ·rw [decide_eq_false h5] at HQ
      rw [if_pos (Or.inr (Or.inl h5))]
      clear h1 h2 h3 h4 h5
      go_enter Tryz.func49, Tryz.ntmps49
      go_wp2_with (go_at_call 28; first | ((with_reducible refine (HA.out _).mono ?_); rintro e w1 ⟨rfl, rfl⟩) | ((with_reducible refine (HB.out _).mono ?_); rintro e w1 ⟨rfl, rfl⟩) | ((with_reducible refine (HP.out _).mono ?_); rintro e w1 ⟨rfl, rfl⟩) | ((with_reducible refine (HQ.out _).mono ?_); rintro e w1 ⟨rfl, rfl⟩))
      go_ret
      exact ⟨rfl, below_alloc1 _ _⟩
    ·rw [decide_eq_false h4] at HP
     rw [if_pos (Or.inl h4)]
     clear h1 h2 h3 h4
     go_enter Tryz.func49, Tryz.ntmps49
     go_wp2_with (go_at_call 28; first | ((with_reducible refine (HA.out _).mono ?_); rintro e w1 ⟨rfl, rfl⟩) | ((with_reducible refine (HB.out _).mono ?_); rintro e w1 ⟨rfl, rfl⟩) | ((with_reducible refine (HP.out _).mono ?_); rintro e w1 ⟨rfl, rfl⟩))
     go_ret
     exact ⟨rfl, below_alloc1 _ _⟩
  ·rw [decide_eq_false h2] at HB
   rw [if_pos (Or.inr h2)]
   clear h1 h2
   go_enter Tryz.func49, Tryz.ntmps49
   go_wp2_with (go_at_call 28; first | ((with_reducible refine (HA.out _).mono ?_); rintro e w1 ⟨rfl, rfl⟩) | ((with_reducible refine (HB.out _).mono ?_); rintro e w1 ⟨rfl, rfl⟩))
   go_ret
   exact ⟨rfl, below_alloc1 _ _⟩
 ·rw [decide_eq_false h1] at HA
  rw [if_pos (Or.inl h1)]
  clear h1
  go_enter Tryz.func49, Tryz.ntmps49
  go_wp2_with (go_at_call 28; refine (HA.out _).mono ?_; rintro e w1 ⟨rfl, rfl⟩)
  go_ret
  exact ⟨rfl, below_alloc1 _ _⟩
set_option maxHeartbeats 400000 in
theorem core_any (b off n cap : Nat) (f : Nat → Int) (w : World) (hn : n ≤ 9223372036854775807) (hcap : n ≤ cap) (hf : ∀ i, i < n → w.cell? ⟨b, off + i, none⟩ = some (.int .i64 (f i))) :
  Calls Tryz.prog 50 #[.slice (some ⟨b, off, none⟩) n cap] w fun e w' => e = .returned (.int .i64 (orTo f n)) ∧ w' = w := by
 have HF : Hid (∀ i, i < n → w.cell? ⟨b, off + i, none⟩ = some (.int .i64 (f i))) := hf
 clear hf
 go_enter Tryz.func50, Tryz.ntmps50
 go_wp2_with fail
 go_loopw [8] (fun i wr => ∃ k : Nat, k ≤ n ∧ i = .int .i64 k ∧ Hid (orTo f k = 0) ∧ wr = w) (fun i _ => n - (intOf i).toNat)
 case atStart => exact ⟨0, by omega, rfl, rfl, rfl⟩
 case round =>
  obtain ⟨k, hk, rfl, hS, rfl⟩ := hrel
  by_cases hlt : k < n
  ·have c0 := HF.out k hlt
   by_cases h0 : f k = 0
   ·have d0 : (f k != 0) = false := by simp [h0]
    have HS2 : Hid (orTo f (k + 1) = 0) := by show (if orTo f k = 0 then f k else orTo f k) = 0; rw [if_pos hS.out, h0]
    clear HF hS
    go_wp2_with fail
    exact ⟨⟨k + 1, by omega, by go_num, HS2, trivial⟩, by simp [intOf]; omega⟩
   ·have d0 : (f k != 0) = true := by simp [h0]
    have HS2 : Hid (orTo f n = f k) := orTo_stay f k hS.out h0 n hlt
    clear HF hS h0
    go_wp2_with fail
    go_ret
    exact ⟨by rw [HS2.out]; rfl, rfl⟩
  ·obtain rfl : k = n := by omega
   clear HF
   go_wp2_with fail
   go_ret
   exact ⟨by rw [hS.out]; rfl, rfl⟩
theorem core2 (x y : Int) (g : Nat) (ty : TypeId) (w : World) (h : w.heap[g]? = some (.cells #[.int .i64 x, .int .i64 y] ty (0, 0))) :
  Calls Tryz.prog 50 #[.slice (some ⟨g, 0, none⟩) 2 2] w fun e w' => e = .returned (.int .i64 (if x = 0 then y else x)) ∧ w' = w := by
 obtain ⟨c0, c1⟩ := two_cells2 h
 have := core_any g 0 2 2 (fun i => if i = 0 then x else y) w (by omega) (by omega) (fun i hi => by
  rcases (by omega : i = 0 ∨ i = 1) with e | e <;> subst e
  ·exact c0
  ·exact c1)
 have e : orTo (fun i => if i = 0 then x else y) 2 = if x = 0 then y else x := by
  have e1 : orTo (fun i => if i = 0 then x else y) 1 = x := by simp [orTo]
  show (if orTo (fun i => if i = 0 then x else y) 1 = 0 then y else orTo (fun i => if i = 0 then x else y) 1) = _
  rw [e1]
 rw [e] at this
 exact this
def endSeq (ls : Nat → Lk) (j : Nat) : Int × Int := if j % 2 = 0 then ((ls (j / 2)).a, (ls (j / 2)).pa) else ((ls (j / 2)).b, (ls (j / 2)).pb)
theorem endSeq_even (ls : Nat → Lk) (k : Nat) : endSeq ls (2 * k) = ((ls k).a, (ls k).pa) := by
 unfold endSeq
 rw [if_pos (by omega), show 2 * k / 2 = k by omega]
theorem endSeq_odd (ls : Nat → Lk) (k : Nat) : endSeq ls (2 * k + 1) = ((ls k).b, (ls k).pb) := by
 unfold endSeq
 rw [if_neg (by omega), show (2 * k + 1) / 2 = k by omega]
def lSay (K : Nat) (l : Lk) (c d : Int) : Int := if Pl.lkErr K l ≠ 0 then Pl.lkErr K l else if 0 < c then 7 else if 0 < d then 7 else 0
set_option maxRecDepth 100000 in
set_option maxHeartbeats 4000000 in
theorem plClosure_any (K : Nat) (hK : K ≤ 12) (l : Lk) (N Q P B m : Nat) (f : Nat → Int × Int) (w : World) (hN : w.cell? ⟨N, 0, none⟩ = some (.int .i64 K)) (hQ : w.cell? ⟨Q, 0, none⟩ = some (.func (.func 69) #[] #[.pointer (some ⟨P, 0, none⟩)])) (hP : w.cell? ⟨P, 0, none⟩ = some (.map (some B))) (hPB : P ≠ B) (hQB : Q ≠ B) (hc : PCnt w B f m) (hm : m ≤ 900) (hf : f m = (l.a, l.pa)) (hf1 : f (m + 1) = (l.b, l.pb))
  (wa : (Lit.int .i64 l.a).wf = true) (wpa : (Lit.int .i64 l.pa).wf = true) (wb : (Lit.int .i64 l.b).wf = true) (wpb : (Lit.int .i64 l.pb).wf = true) :
  Calls Tryz.prog 48 #[.agg (lkA l), .pointer (some ⟨N, 0, none⟩), .pointer (some ⟨Q, 0, none⟩)] w fun e w' => e = .returned (.int .i64 (lSay K l (cntI f (l.a, l.pa) m) (cntI f (l.b, l.pb) (m + 1)))) ∧ (Pl.lkErr K l = 0 → PCnt w' B f (m + 2)) ∧ w.grownBy w' (some B) := by
 obtain ⟨X, HX⟩ : ∃ X, Hid (X = w.alloc (.cells (lkA l) 46)) := ⟨_, rfl⟩
 have hXB : Below w.heap.size w X := by rw [HX.out]; exact below_alloc1 _ _
 have hXb : X.heap[w.heap.size]? = some (.cells (lkA l) 46 (0, 0)) := by rw [HX.out]; exact heap_alloc_last _ _
 have hlt := hc.lt
 have hQl := block_lt_of_cell hQ
 have hPl := block_lt_of_cell hP
 have hNl := block_lt_of_cell hN
 simp only at hQl hPl hNl
 have HL : Hid (∀ W, X.grownBy W (some B) → (W.cell? ⟨w.heap.size, 0, none⟩ = some (.int .i64 l.a) ∧ W.cell? ⟨w.heap.size, 1, none⟩ = some (.int .i64 l.pa) ∧ W.cell? ⟨w.heap.size, 2, none⟩ = some (.int .i64 l.b) ∧ W.cell? ⟨w.heap.size, 3, none⟩ = some (.int .i64 l.pb)) ∧ W.cell? ⟨Q, 0, none⟩ = some (.func (.func 69) #[] #[.pointer (some ⟨P, 0, none⟩)])) := by
  intro W hW
  obtain ⟨x0, x1, x2, x3, _⟩ := lk_cells (grown_block hXb hW (by omega))
  exact ⟨⟨x0, x1, x2, x3⟩, grown_cell ((hXB.cell (by exact hQl)).trans hQ) hW hQB⟩
 have HGG : Hid (∀ W, X.grownBy W (some B) → w.grownBy W (some B)) := fun W hW => (grown_of_below hXB).trans hW
 have HC : Hid (Calls Tryz.prog 49 #[.agg (lkA l), .int .i64 K] X fun e w' => e = .returned (.int .i64 (Pl.lkErr K l)) ∧ Hid (X.grownBy w' (some B) ∧ PCnt w' B f m)) := by
  refine (pwrongLink_any K l X hK).mono ?_
  rintro e w' ⟨rfl, h2⟩
  exact ⟨rfl, grown_of_below h2, (hc.same (hXB.block B hlt)).same (h2.block B (Nat.lt_of_lt_of_le hlt hXB.size))⟩
 have HT1 : Hid (∀ W, Hid (X.grownBy W (some B) ∧ PCnt W B f m) → Calls Tryz.prog 69 #[.agg #[.int .i64 l.a, .int .i64 l.pa], .pointer (some ⟨P, 0, none⟩)] W fun e w' => e = .returned (.int .i64 (if 0 < cntI f (l.a, l.pa) m then 7 else 0)) ∧ Hid (X.grownBy w' (some B) ∧ PCnt w' B f (m + 1))) := by
  intro W hW
  refine (ptake_any P B m f (l.a, l.pa) W (grown_cell ((hXB.cell (by exact hPl)).trans hP) hW.out.1 hPB) hPB hW.out.2 (by omega) hf wa wpa).mono ?_
  rintro e w' ⟨rfl, k1, k2⟩
  exact ⟨rfl, hW.out.1.trans k2, k1⟩
 have HT2 : Hid (∀ W, Hid (X.grownBy W (some B) ∧ PCnt W B f (m + 1)) → Calls Tryz.prog 69 #[.agg #[.int .i64 l.b, .int .i64 l.pb], .pointer (some ⟨P, 0, none⟩)] W fun e w' => e = .returned (.int .i64 (if 0 < cntI f (l.b, l.pb) (m + 1) then 7 else 0)) ∧ Hid (X.grownBy w' (some B) ∧ PCnt w' B f (m + 2))) := by
  intro W hW
  refine (ptake_any P B (m + 1) f (l.b, l.pb) W (grown_cell ((hXB.cell (by exact hPl)).trans hP) hW.out.1 hPB) hPB hW.out.2 (by omega) hf1 wb wpb).mono ?_
  rintro e w' ⟨rfl, k1, k2⟩
  exact ⟨rfl, hW.out.1.trans k2, k1⟩
 obtain ⟨q0, q1, q2, q3, q4, q5⟩ := lk_cells hXb
 have n0 : X.cell? ⟨N, 0, none⟩ = some (.int .i64 K) := (hXB.cell (by exact hNl)).trans hN
 have HFIN : Hid (∀ W (o : Obj), Hid (X.grownBy W (some B) ∧ PCnt W B f (m + 2)) → PCnt (W.alloc o) B f (m + 2) ∧ w.grownBy (W.alloc o) (some B)) := fun W o hW => by
  have h1 := hW.out.2.lt
  exact ⟨hW.out.2.same ((below_alloc1 W o).block B h1), (HGG.out W hW.out.1).trans (grown_of_below (below_alloc1 W o))⟩
 have HAD : Hid (∀ W, Hid (X.grownBy W (some B) ∧ PCnt W B f m) → Hid (X.grownBy W.drew (some B) ∧ PCnt W.drew B f m)) := fun W hW => ⟨⟨hW.out.1.os, hW.out.1.tape, hW.out.1.output, hW.out.1.size, hW.out.1.block⟩, hW.out.2⟩
 have HSAY : Hid (Pl.lkErr K l = 0 → lSay K l (cntI f (l.a, l.pa) m) (cntI f (l.b, l.pb) (m + 1)) = if (if 0 < cntI f (l.a, l.pa) m then (7 : Int) else 0) = 0 then (if 0 < cntI f (l.b, l.pb) (m + 1) then 7 else 0) else (if 0 < cntI f (l.a, l.pa) m then 7 else 0)) := fun h => by
  unfold lSay
  rw [if_neg (fun q => q h)]
  by_cases c : 0 < cntI f (l.a, l.pa) m
  ·rw [if_pos c, if_pos c]; rfl
  ·rw [if_neg c, if_neg c]; rfl
 have HSAY2 : Hid (Pl.lkErr K l ≠ 0 → lSay K l (cntI f (l.a, l.pa) m) (cntI f (l.b, l.pb) (m + 1)) = Pl.lkErr K l) := fun h => if_pos h
 generalize lSay K l (cntI f (l.a, l.pa) m) (cntI f (l.b, l.pb) (m + 1)) = S at *
 generalize (if 0 < cntI f (l.a, l.pa) m then (7 : Int) else 0) = R1 at *
 generalize (if 0 < cntI f (l.b, l.pb) (m + 1) then (7 : Int) else 0) = R2 at *
 generalize Pl.lkErr K l = E at *
 clear hQ hP hc hf hf1 hXb hXB hN wa wpa wb wpb
 obtain ⟨a, pa, b, pb, c, up⟩ := l
 simp only [lkA] at *
 rw [HX.out] at n0
 by_cases e0 : E = 0
 ·subst e0
  have HS : Hid (S = if R1 = 0 then R2 else R1) := HSAY.out (by first | exact rfl | trivial)
  have HOR : Hid (∀ (g : Nat) (ty : TypeId) (W : World), W.heap[g]? = some (.cells #[.int .i64 R1, .int .i64 R2] ty (0, 0)) → Calls Tryz.prog 50 #[.slice (some ⟨g, 0, none⟩) 2 2] W fun e w' => e = .returned (.int .i64 S) ∧ w' = W) := fun g ty W h => by rw [HS.out]; exact core2 R1 R2 g ty W h
  clear HSAY HSAY2 HS
  go_enter Tryz.func48, Tryz.ntmps48
  go_wp2_with fail
  rw [← HX.out]
  refine HC.out.mono ?_
  rintro e w1 ⟨rfl, hA⟩
  obtain ⟨⟨x0, x1, x2, x3⟩, x4⟩ := HL.out w1 hA.out.1
  have HA0 : Hid _ := HAD.out w1 hA
  have HAd : Hid (X.grownBy w1.drew (some B)) := HA0.out.1
  clear q0 q1 q2 q3 q4 q5 n0 hA HAD HC
  go_wp2_with fail
  go_region_held3 (fun W => (W.cell? ⟨w.heap.size, 0, none⟩ = some (.int .i64 a) ∧ W.cell? ⟨w.heap.size, 1, none⟩ = some (.int .i64 pa) ∧ W.cell? ⟨w.heap.size, 2, none⟩ = some (.int .i64 b) ∧ W.cell? ⟨w.heap.size, 3, none⟩ = some (.int .i64 pb)) ∧ W.cell? ⟨Q, 0, none⟩ = some (.func (.func 69) #[] #[.pointer (some ⟨P, 0, none⟩)]))
   (first | (exact HL.out _ HAd.out) | (exact HL.out _ HA1.out.1) | (exact HL.out _ HA2.out.1) | (exact HL.out _ (HA2.out.1.trans (grown_of_below (below_alloc1 _ _)))))
   (first | (go_at_call 69; first | ((with_reducible refine (HT1.out _ HA0).mono ?_); rintro e wa ⟨rfl, HA1⟩) | ((with_reducible refine (HT2.out _ HA1).mono ?_); rintro e wb ⟨rfl, HA2⟩)) | (go_at_call 50; refine (HOR.out _ _ _ (heap_alloc_last _ _)).mono ?_; rintro e wc ⟨rfl, rfl⟩))
  all_goals go_wp2_with fail
  all_goals go_ret
  all_goals first | exact ⟨rfl, fun _ => (HFIN.out _ _ HA2).1, (HFIN.out _ _ HA2).2⟩ | exact ⟨rfl, (HFIN.out _ _ HA2).1, (HFIN.out _ _ HA2).2⟩
 ·have e1 : (E == 0) = false := by simp [e0]
  have HS : Hid (S = E) := HSAY2.out e0
  clear HSAY HSAY2
  go_enter Tryz.func48, Tryz.ntmps48
  go_wp2_with fail
  rw [← HX.out]
  refine HC.out.mono ?_
  rintro e w1 ⟨rfl, hA⟩
  go_wp2_with fail
  go_ret
  exact ⟨by rw [HS.out]; rfl, fun h => absurd h e0, HGG.out _ hA.out.1⟩
end
section
namespace Pl
open Vc (V Of)
structure RightL (K L : Nat) (ls : Nat → Lk) : Prop where
 ok : ∀ k, k < L → (0 ≤ (ls k).a ∧ (ls k).a < K) ∧ (0 ≤ (ls k).b ∧ (ls k).b < K) ∧ (ls k).a ≠ (ls k).b ∧ (1 ≤ (ls k).pa ∧ (ls k).pa ≤ 30) ∧ (1 ≤ (ls k).pb ∧ (ls k).pb ≤ 30) ∧ (1 ≤ (ls k).cost ∧ (ls k).cost ≤ 200000)
 one : ∀ j k, j < k → k < L → isEnd (ls j) (ls k).a (ls k).pa = false ∧ isEnd (ls j) (ls k).b (ls k).pb = false
theorem someTo_false {p : Nat → Bool} : ∀ {n : Nat}, Vc.someTo p n = false → ∀ i, i < n → p i = false
 | 0, _, i, hi => by omega
 | n + 1, h, i, hi => by
  simp only [Vc.someTo, Bool.or_eq_false_iff] at h
  by_cases e : i = n
  ·subst e; exact h.2
  ·exact someTo_false h.1 i (by omega)
theorem lkErr_ok {K : Nat} {l : Lk} (h : lkErr K l = 0) : (0 ≤ l.a ∧ l.a < K) ∧ (0 ≤ l.b ∧ l.b < K) ∧ l.a ≠ l.b ∧ (1 ≤ l.pa ∧ l.pa ≤ 30) ∧ (1 ≤ l.pb ∧ l.pb ≤ 30) ∧ (1 ≤ l.cost ∧ l.cost ≤ 200000) := by
 unfold lkErr at h
 split at h
 ·omega
 ·split at h
  ·omega
  ·split at h
   ·omega
   ·omega
theorem lErr_ok {K : Nat} {ls : Nat → Lk} {i : Nat} (h : lErr K ls i = 0) : lkErr K (ls i) = 0 ∧ ∀ j, j < i → isEnd (ls j) (ls i).a (ls i).pa = false ∧ isEnd (ls j) (ls i).b (ls i).pb = false := by
 unfold lErr at h
 split at h
 ·omega
 ·rename_i h1
  split at h
  ·omega
  ·rename_i h2
   refine ⟨by omega, fun j hj => ?_⟩
   have := someTo_false (by simpa using h2) j hj
   simpa using this
theorem rightL {K L : Nat} {ls : Nat → Lk} (h : ∀ i, i < L → lErr K ls i = 0) : RightL K L ls :=
 ⟨fun k hk => lkErr_ok (lErr_ok (h k hk)).1, fun j k hj hk => (lErr_ok (h k hk)).2 j hj⟩
theorem endsAt_mem {l : Lk} {lv : Bool} {i : Nat} {e : En} : e ∈ endsAt l lv i ↔ (l.a = (i : Int) ∧ e = ⟨l.pa, l.cost, l.b, l.pb, lv⟩) ∨ (l.b = (i : Int) ∧ e = ⟨l.pb, l.cost, l.a, l.pa, lv⟩) := by
 unfold endsAt
 by_cases h1 : l.a = (i : Int) <;> by_cases h2 : l.b = (i : Int) <;> simp [h1, h2]
theorem endsTo_mem {ls : Nat → Lk} {lv : Nat → Bool} {i : Nat} {e : En} : ∀ {L : Nat}, e ∈ endsTo ls lv i L ↔ ∃ k, k < L ∧ e ∈ endsAt (ls k) (lv k) i
 | 0 => ⟨fun h => by simp [endsTo] at h, fun ⟨k, hk, _⟩ => by omega⟩
 | L + 1 => by
  simp only [endsTo, List.mem_append]
  rw [endsTo_mem (L := L)]
  constructor
  ·rintro (⟨k, hk, h⟩ | h)
   ·exact ⟨k, by omega, h⟩
   ·exact ⟨L, by omega, h⟩
  ·rintro ⟨k, hk, h⟩
   by_cases e : k = L
   ·subst e; exact Or.inr h
   ·exact Or.inl ⟨k, by omega, h⟩
theorem ends_perm (ls : Nat → Lk) (lv : Nat → Bool) (L i : Nat) : (ends ls lv L i).Perm (endsTo ls lv i L) := List.mergeSort_perm _ _
theorem ends_mem {ls : Nat → Lk} {lv : Nat → Bool} {L i : Nat} {e : En} : e ∈ ends ls lv L i ↔ ∃ k, k < L ∧ (((ls k).a = (i : Int) ∧ e = ⟨(ls k).pa, (ls k).cost, (ls k).b, (ls k).pb, lv k⟩) ∨ ((ls k).b = (i : Int) ∧ e = ⟨(ls k).pb, (ls k).cost, (ls k).a, (ls k).pa, lv k⟩)) := by
 rw [(ends_perm ls lv L i).mem_iff, endsTo_mem]
 constructor
 ·rintro ⟨k, hk, h⟩; exact ⟨k, hk, endsAt_mem.1 h⟩
 ·rintro ⟨k, hk, h⟩; exact ⟨k, hk, endsAt_mem.2 h⟩
theorem endsTo_ports {K L : Nat} {ls : Nat → Lk} (R : RightL K L ls) (lv : Nat → Bool) (i : Nat) : ∀ n, n ≤ L → (endsTo ls lv i n).Pairwise (fun x y => x.port ≠ y.port)
 | 0, _ => List.Pairwise.nil
 | n + 1, hn => by
  simp only [endsTo]
  rw [List.pairwise_append]
  refine ⟨endsTo_ports R lv i n (by omega), ?_, ?_⟩
  ·have := (R.ok n (by omega)).2.2.1
   unfold endsAt
   by_cases h1 : (ls n).a = (i : Int) <;> by_cases h2 : (ls n).b = (i : Int) <;> simp [h1, h2]
   omega
  ·intro x hx y hy
   obtain ⟨k, hk, hx⟩ := endsTo_mem.1 hx
   obtain ⟨o1, o2⟩ := R.one k n (by omega) (by omega)
   unfold isEnd at o1 o2
   simp only [Bool.or_eq_false_iff, decide_eq_false_iff_not] at o1 o2
   rcases endsAt_mem.1 hx with ⟨a1, rfl⟩ | ⟨a1, rfl⟩ <;> rcases endsAt_mem.1 hy with ⟨b1, rfl⟩ | ⟨b1, rfl⟩ <;> simp only <;> intro e
   ·exact o1.1 ⟨by omega, e⟩
   ·exact o2.1 ⟨by omega, e⟩
   ·exact o1.2 ⟨by omega, e⟩
   ·exact o2.2 ⟨by omega, e⟩
theorem ends_sorted {K L : Nat} {ls : Nat → Lk} (R : RightL K L ls) (lv : Nat → Bool) (i : Nat) : (ends ls lv L i).Pairwise (fun x y => x.port < y.port) := by
 have h1 : (ends ls lv L i).Pairwise (fun x y => leP x y = true) := List.pairwise_mergeSort (fun a b c h1 h2 => by simp [leP] at *; omega) (fun a b => by simp [leP]; omega) _
 have h2 : (ends ls lv L i).Pairwise (fun x y => x.port ≠ y.port) := ((ends_perm ls lv L i).pairwise_iff (fun {a b} (h : a.port ≠ b.port) => h.symm)).2 (endsTo_ports R lv i L (Nat.le_refl _))
 have := h1.and h2
 exact this.imp (fun {a b} ⟨q1, q2⟩ => by simp [leP] at q1; omega)
theorem ends_unique {K L : Nat} {ls : Nat → Lk} (R : RightL K L ls) (lv : Nat → Bool) (i : Nat) {l : List En} (hp : l.Perm (endsTo ls lv i L)) (h : l.Pairwise (fun x y => ¬ y.port < x.port)) : l = ends ls lv L i := by
 have h2 : l.Pairwise (fun x y => x.port ≠ y.port) := (hp.pairwise_iff (fun {a b} (h : a.port ≠ b.port) => h.symm)).2 (endsTo_ports R lv i L (Nat.le_refl _))
 exact sorted_unique (hp.trans (ends_perm ls lv L i).symm) ((h.and h2).imp (fun {a b} ⟨q1, q2⟩ => by omega)) (ends_sorted R lv i)
theorem good {K L : Nat} {ls : Nat → Lk} (R : RightL K L ls) (hK : K ≤ 12) (ids : Nat → Int) (lv : Nat → Bool) : Good ids (fun i => ends ls lv L i) K := by
 refine ⟨hK, fun i hi e he _ => ?_⟩
 obtain ⟨k, hk, h⟩ := ends_mem.1 he
 obtain ⟨o1, o2, o3, o4, o5, o6⟩ := R.ok k hk
 rcases h with ⟨_, rfl⟩ | ⟨_, rfl⟩ <;> simp only <;> omega
theorem ends_one {K L : Nat} {ls : Nat → Lk} (R : RightL K L ls) (lv : Nat → Bool) {i : Nat} {x y : En} (hx : x ∈ ends ls lv L i) (hy : y ∈ ends ls lv L i) (h : x.port = y.port) : x = y := by
 have S := ends_sorted R lv i
 obtain ⟨a, ha, ea⟩ := List.getElem_of_mem hx
 obtain ⟨b, hb, eb⟩ := List.getElem_of_mem hy
 have key := List.pairwise_iff_getElem.1 S
 by_cases e : a = b
 ·subst e; rw [← ea, ← eb]
 ·rcases Nat.lt_or_ge a b with q | q
  ·have := key a b ha hb q
   rw [ea, eb] at this; omega
  ·have := key b a hb ha (by omega)
   rw [ea, eb] at this; omega
end Pl
end
end Go.Proofs.YtcbpafpaimpfnaaGreatDoor
