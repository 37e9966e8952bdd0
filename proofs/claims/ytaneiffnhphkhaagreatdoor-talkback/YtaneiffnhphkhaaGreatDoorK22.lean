/- walks: package plan's Ports -/
import Derived.Test.YtaneiffnhphkhaaGreatDoorK14
import Derived.Test.YtaneiffnhphkhaaGreatDoorK18
import Derived.Test.YtaneiffnhphkhaaGreatDoorK11
namespace Go.Proofs.YtaneiffnhphkhaaGreatDoor
open Go.RowKit
open Vc (V Of)
open Pl (Br Net Pc Lk En St)

/-- The ports of a bridge, as the links stand. -/
def ptsRaw (ls : Nat → Lk) (i : Nat) : Nat → List Int
  | 0 => []
  | k + 1 => ptsRaw ls i k ++ ((if (ls k).a = (i : Int) then [(ls k).pa] else []) ++ if (ls k).b = (i : Int) then [(ls k).pb] else [])
theorem ptsRaw_ends (ls : Nat → Lk) (lv : Nat → Bool) (i : Nat) : ∀ k, ptsRaw ls i k = (Pl.endsTo ls lv i k).map (·.port)
  | 0 => rfl
  | k + 1 => by
    simp only [ptsRaw, Pl.endsTo, List.map_append]
    rw [ptsRaw_ends ls lv i k]
    congr 1
    unfold Pl.endsAt
    rw [List.map_append]
    congr 1
    · split <;> rfl
    · split <;> rfl
theorem ptsRaw_few (ls : Nat → Lk) (i : Nat) : ∀ k, (ptsRaw ls i k).length ≤ 2 * k
  | 0 => by simp [ptsRaw]
  | k + 1 => by
    have := ptsRaw_few ls i k
    simp only [ptsRaw, List.length_append]
    split <;> split <;> simp <;> omega
/-- .. rising. -/
theorem ports_sorted {K L : Nat} {ls : Nat → Lk} (R : Pl.RightL K L ls) (lv : Nat → Bool) (i : Nat) : (ptsRaw ls i L).mergeSort (fun x y => decide (x ≤ y)) = (Pl.ends ls lv L i).map (·.port) := by
  have p1 : ((ptsRaw ls i L).mergeSort (fun x y => decide (x ≤ y))).Perm (ptsRaw ls i L) := List.mergeSort_perm _ _
  have p2 := (Pl.ends_perm ls lv L i).map (fun e : En => e.port)
  rw [← ptsRaw_ends ls lv i L] at p2
  refine (p1.trans p2.symm).eq_of_pairwise (le := fun a b : Int => a ≤ b) (fun a b _ _ h1 h2 => by omega) ?_ ?_
  · have := List.pairwise_mergeSort (le := fun x y : Int => decide (x ≤ y)) (fun a b c h1 h2 => by simp at *; omega) (fun a b => by simp; omega) (ptsRaw ls i L)
    exact this.imp (fun {a b} h => by simpa using h)
  · exact (List.pairwise_map.2 (Pl.ends_sorted R lv i)).imp (fun {a b} h => by omega)
set_option maxRecDepth 100000 in
set_option maxHeartbeats 2000000 in
theorem pports_own (lao : Option Addr) (K L lcap : Nat) (ls : Nat → Lk) (lv : Nat → Bool) (i : Nat) (w : World) (hL : L ≤ 40) (hlk : LRow w lao L lcap ls) (R : Pl.RightL K L ls) :
    Calls Tryz.prog 33 #[.slice lao L lcap, .int .i64 i] w fun e w' => ∃ ao cap, e = .returned (.slice ao ((Pl.ends ls lv L i).map (·.port)).length cap) ∧ IRow w' ao ((Pl.ends ls lv L i).map (·.port)).length cap (IL ((Pl.ends ls lv L i).map (·.port))) ∧ Below w.heap.size w w' ∧ (∀ ad, ao = some ad → w.heap.size ≤ ad.block) ∧ w'.ownsRow w.heap.size 3 1 (.slice ao ((Pl.ends ls lv L i).map (·.port)).length cap) ((Pl.ends ls lv L i).map (·.port)).length (intCells ((Pl.ends ls lv L i).map (·.port))) := by
  rw [← ports_sorted R lv i]
  have HRW : Hid (∀ W, Below w.heap.size w W → LRow W lao L lcap ls) := fun W hW => CRow.below hlk hW
  have hcap := hlk.1
  have HNE : Hid (∀ k, k < L → ¬ ((ls k).a = (i : Int) ∧ (ls k).b = (i : Int))) := fun k hk h => (R.ok k hk).2.2.1 (h.1.trans h.2.symm)
  clear hlk R
  have H0 : Hid (w.ownsRow w.heap.size 3 1 (.slice none (ptsRaw ls i 0).length 0) (ptsRaw ls i 0).length (intCells (ptsRaw ls i 0)) ∧ Below w.heap.size w w) := ⟨ownsC_nil _ _ _ _ _, Below.refl _ _⟩
  go_enter Tryz.func33, Tryz.ntmps33
  go_wp2_with fail
  go_loopw [5, 10] (fun s5 q wr => ∃ (k : Nat) (ao : Option Addr) (cap : Nat), k ≤ L ∧ q = .int .i64 k ∧ s5 = .slice ao (ptsRaw ls i k).length cap ∧ Hid (wr.ownsRow w.heap.size 3 1 (.slice ao (ptsRaw ls i k).length cap) (ptsRaw ls i k).length (intCells (ptsRaw ls i k)) ∧ Below w.heap.size w wr)) (fun _ q _ => L - (intOf q).toNat)
  case atStart => exact ⟨0, none, 0, by omega, rfl, rfl, H0⟩
  case round =>
    obtain ⟨k, ao, cap, hk, rfl, rfl, hX⟩ := hrel
    clear H0
    by_cases hlt : k < L
    · obtain ⟨hO, hB⟩ := hX.out
      have f1 := HRW.out wr hB
      obtain ⟨lb, loff, rfl, _⟩ := CRow.some f1 (by omega)
      obtain ⟨c0, c1, c2, c3, c4, c5⟩ := LRow.cells f1 hlt
      have hfew := ptsRaw_few ls i k
      have hnext : ptsRaw ls i (k + 1) = ptsRaw ls i k ++ ((if (ls k).a = (i : Int) then [(ls k).pa] else []) ++ if (ls k).b = (i : Int) then [(ls k).pb] else []) := rfl
      have hne := HNE.out k hlt
      have i0 : (0 : Int) ≤ (k : Int) := by omega
      have i1 : (k : Int) < (L : Int) := by omega
      generalize ls k = l at *
      obtain ⟨a, pa, b, pb, c, up⟩ := l
      simp only at c0 c1 c2 c3 c4 c5 hnext hne
      obtain ⟨X, HX⟩ : ∃ X, Hid (X = wr.alloc (.cells #[.int .i64 a, .int .i64 pa, .int .i64 b, .int .i64 pb, .int .i64 c, .bool up] 83)) := ⟨_, rfl⟩
      have hXB : Below wr.heap.size wr X := by rw [HX.out]; exact below_alloc1 _ _
      have hXs2 : X.heap.size = wr.heap.size + 1 := by rw [HX.out]; simp
      have hXs : w.heap.size ≤ X.heap.size := Nat.le_trans hB.size hXB.size
      have HOX : Hid (X.ownsRow w.heap.size 3 1 (.slice ao (ptsRaw ls i k).length cap) (ptsRaw ls i k).length (intCells (ptsRaw ls i k))) := ownsC_below hO hXB
      have HBX : Hid (Below w.heap.size w X) := hB.trans (hXB.mono hB.size)
      have hXe : X.heap[wr.heap.size]? = some (.cells #[.int .i64 a, .int .i64 pa, .int .i64 b, .int .i64 pb, .int .i64 c, .bool up] 83 (0, 0)) := by rw [HX.out]; exact heap_alloc_last _ _
      obtain ⟨q0, q1, q2, q3, _, _⟩ := lk_cells hXe
      by_cases ha : a = (i : Int)
      · have hb : ¬ b = (i : Int) := fun h => hne ⟨ha, h⟩
        rw [if_pos ha, if_neg hb, List.append_nil] at hnext
        obtain ⟨a1, c1', w2, r, ho2, hk2, _, hb2, _⟩ := int_more2 HOX.out hXs (by omega) pa (Below.refl _ _) rfl
        have hw2 : w2.heap[wr.heap.size]? = some (.cells #[.int .i64 a, .int .i64 pa, .int .i64 b, .int .i64 pb, .int .i64 c, .bool up] 83 (0, 0)) := (hk2 _ (by rw [hXs2]; omega) (fun p => by have := (ownsC_block hO _ p).2; omega)).trans hXe
        obtain ⟨_, _, p2, _, _, _⟩ := lk_cells hw2
        have HN : Hid (w2.ownsRow w.heap.size 3 1 (.slice a1 (ptsRaw ls i (k + 1)).length c1') (ptsRaw ls i (k + 1)).length (intCells (ptsRaw ls i (k + 1))) ∧ Below w.heap.size w w2) := by
          rw [hnext]
          exact ⟨ho2, HBX.out.trans hb2⟩
        have HR2 : Hid _ := r
        have HLE : Hid ((ptsRaw ls i (k + 1)).length = (ptsRaw ls i k ++ [pa]).length) := by show _ = _; rw [hnext]
        rw [hXs2] at HR2
        have e2 : (b == (i : Int)) = false := by simp [hb]
        clear hne
        subst ha
        clear r ho2 hk2 hb2 hw2 hO hB hX f1 hnext HRW HNE HOX HBX hXe hXB hXs q0 q1 q2 q3 hXs2
        go_wp2_with (at_builtin; (try rw [← HX.out]); refine wpList_append_run rfl (.tmp 18) (.tmp 21) 59 rfl _ _ _ rfl rfl HR2.out ?_)
        exact ⟨⟨k + 1, a1, c1', by omega, by go_num, by rw [HLE.out, List.length_append]; rfl, HN⟩, by simp [intOf]; omega⟩
      · rw [if_neg ha, List.nil_append] at hnext
        have e1 : (a == (i : Int)) = false := by simp [ha]
        by_cases hb : b = (i : Int)
        · rw [if_pos hb] at hnext
          obtain ⟨a1, c1', w2, r, ho2, hk2, _, hb2, _⟩ := int_more2 HOX.out hXs (by omega) pb (Below.refl _ _) rfl
          have HN : Hid (w2.ownsRow w.heap.size 3 1 (.slice a1 (ptsRaw ls i (k + 1)).length c1') (ptsRaw ls i (k + 1)).length (intCells (ptsRaw ls i (k + 1))) ∧ Below w.heap.size w w2) := by
            rw [hnext]
            exact ⟨ho2, HBX.out.trans hb2⟩
          have HR2 : Hid _ := r
          have HLE : Hid ((ptsRaw ls i (k + 1)).length = (ptsRaw ls i k ++ [pb]).length) := by show _ = _; rw [hnext]
          rw [hXs2] at HR2
          clear hne
          subst hb
          clear r ho2 hk2 hb2 hO hB hX f1 hnext HRW HNE HOX HBX hXe hXB hXs q0 q1 q2 q3 hXs2
          go_wp2_with (at_builtin; (try rw [← HX.out]); refine wpList_append_run rfl (.tmp 27) (.tmp 30) 59 rfl _ _ _ rfl rfl HR2.out ?_)
          exact ⟨⟨k + 1, a1, c1', by omega, by go_num, by rw [HLE.out, List.length_append]; rfl, HN⟩, by simp [intOf]; omega⟩
        · rw [if_neg hb, List.append_nil] at hnext
          have e2 : (b == (i : Int)) = false := by simp [hb]
          have HN : Hid (X.ownsRow w.heap.size 3 1 (.slice ao (ptsRaw ls i (k + 1)).length cap) (ptsRaw ls i (k + 1)).length (intCells (ptsRaw ls i (k + 1))) ∧ Below w.heap.size w X) := by
            rw [hnext]
            exact ⟨HOX.out, HBX.out⟩
          have HLE : Hid ((ptsRaw ls i (k + 1)).length = (ptsRaw ls i k).length) := by show _ = _; rw [hnext]
          rw [HX.out] at HN
          clear hO hB hX f1 hnext hne HRW HNE HOX HBX hXe hXB hXs q0 q1 q2 q3 hXs2
          go_wp2_with fail
          exact ⟨⟨k + 1, ao, cap, by omega, by go_num, by rw [HLE.out], HN⟩, by simp [intOf]; omega⟩
    · obtain rfl : k = L := by omega
      obtain ⟨hO, hB⟩ := hX.out
      have hfew := ptsRaw_few ls i k
      have HSO : Hid (Calls Tryz.prog 56 #[.slice ao (ptsRaw ls i k).length cap] wr fun e w' => e = .returned (.tuple #[]) ∧ Hid (w'.ownsRow w.heap.size 3 1 (.slice ao (ptsRaw ls i k).length cap) ((ptsRaw ls i k).mergeSort fun x y => decide (x ≤ y)).length (intCells ((ptsRaw ls i k).mergeSort fun x y => decide (x ≤ y))) ∧ Below w.heap.size w w')) := by
        refine (isort_any w.heap.size _ (ptsRaw ls i k) wr (by omega) hO).mono ?_
        rintro e w' ⟨rfl, z1, z2⟩
        exact ⟨rfl, z1, hB.grown z2 hB.size (fun q hq => (ownsC_block hO q hq).1)⟩
      clear hX hO hB HRW HNE
      go_wp2_with fail
      refine HSO.out.mono ?_
      rintro e w2 ⟨rfl, HN⟩
      clear HSO
      obtain ⟨ao', cap', ev, z1, z3⟩ := IL_row HN.out.1
      injection ev with ev1 ev2 ev3
      subst ev1
      subst ev3
      have HZ1 : Hid (IRow w2 ao ((ptsRaw ls i k).mergeSort fun x y => decide (x ≤ y)).length cap (IL ((ptsRaw ls i k).mergeSort fun x y => decide (x ≤ y)))) := z1
      have HZ3 : Hid (∀ ad, ao = some ad → w.heap.size ≤ ad.block) := z3
      have HOW : Hid (w2.ownsRow w.heap.size 3 1 (.slice ao ((ptsRaw ls i k).mergeSort fun x y => decide (x ≤ y)).length cap) ((ptsRaw ls i k).mergeSort fun x y => decide (x ≤ y)).length (intCells ((ptsRaw ls i k).mergeSort fun x y => decide (x ≤ y)))) := by
        have := HN.out.1
        rw [ev2] at this
        exact this
      have HEV : Hid ((ptsRaw ls i k).length = ((ptsRaw ls i k).mergeSort fun x y => decide (x ≤ y)).length) := ev2
      clear z1 z3 ev2
      go_wp2_with fail
      go_ret
      exact ⟨ao, cap, congrArg (fun n => Ending.returned (Value.slice ao n cap)) HEV.out, HZ1.out, HN.out.2, HZ3.out, HOW.out⟩
theorem pports_any (lao : Option Addr) (K L lcap : Nat) (ls : Nat → Lk) (lv : Nat → Bool) (i : Nat) (w : World) (hL : L ≤ 40) (hlk : LRow w lao L lcap ls) (R : Pl.RightL K L ls) :
    Calls Tryz.prog 33 #[.slice lao L lcap, .int .i64 i] w fun e w' => ∃ ao cap, e = .returned (.slice ao ((Pl.ends ls lv L i).map (·.port)).length cap) ∧ IRow w' ao ((Pl.ends ls lv L i).map (·.port)).length cap (IL ((Pl.ends ls lv L i).map (·.port))) ∧ Below w.heap.size w w' ∧ ∀ ad, ao = some ad → w.heap.size ≤ ad.block := by
  exact (pports_own lao K L lcap ls lv i w hL hlk R).mono (fun e w' ⟨ao, cap, h1, h2, h3, h4, _⟩ => ⟨ao, cap, h1, h2, h3, h4⟩)
end Go.Proofs.YtaneiffnhphkhaaGreatDoor
