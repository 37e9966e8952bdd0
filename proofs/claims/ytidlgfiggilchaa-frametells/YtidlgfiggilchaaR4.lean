/- walks: the document's Parse -/
import Derived.Test.YtidlgfiggilchaaR3
namespace Go.Proofs.Ytidlgfiggilchaa
open Go.RowKit

theorem num_congr (f g : Nat → Int) : ∀ k, (∀ i, i < k → f i = g i) → num f k = num g k
  | 0, _ => rfl
  | k + 1, h => by
    simp only [num]
    rw [num_congr f g k (fun i hi => h i (by omega)), h k (by omega)]
set_option maxHeartbeats 1000000 in
theorem rparse_short (ao : Option Addr) (n c : Nat) (bs : Nat → Int) (w : World) (hr : ByteRow w ao n c bs) (hbs : ∀ i, i < n → 0 ≤ bs i ∧ bs i ≤ 255) (hn : n < sizeF (pad n bs)) :
    Calls Try.prog 12 #[.slice ao n c] w fun e w' => ParseOut n bs e w' ∧ Below w.heap.size w w' := by
  have HPO : Hid (∀ w', ParseOut n bs (.returned (.tuple #[.agg (frA 0 0 false 0 false 0 0 none 0 0), .int .i64 2])) w') := fun w' => Or.inl ⟨hn, rfl⟩
  by_cases h14 : (n : Int) < 14
  · clear hr hbs hn
    go_enter Try.func12, Try.ntmps12
    go_wp2_with (refine wpList_store_row rfl 25 _ _ rfl w.heap.size (frA 0 0 false 0 false 0 0 none 0 0) rfl rfl 25 (frA 0 0 false 0 false 0 0 none 0 0) ?_ (by rw [sizeFr]; rfl) rfl (frA_all _ _ _ _ _ _ _ _ _ _) ?_; exact heap_alloc_last w _)
    exact bodyPost_ret (v := .tuple #[.agg (frA 0 0 false 0 false 0 0 none 0 0), .int .i64 2]) (results_row_tmp (p := 2) (u := 3) (ty := 25) Try.results12 _ _ w.heap.size 25 (frA 0 0 false 0 false 0 0 none 0 0) (0, 0) _ rfl (setRow_heap _ _ _ _ _ _ (heap_alloc_last w _)) Try.underlying25 rfl (by rw [sizeFr]; rfl)) rfl ⟨HPO.out _, below_setRow (below_alloc1 w _) (Nat.le_refl _) _⟩
  · have hz : sizeF (pad n bs) = 18 := by have := sizeF_le (pad n bs); omega
    have hcap : n ≤ c := hr.1
    have hT : bs 12 = 129 ∧ bs 13 = 0 := by
      have h1 := hbs 12 (by omega)
      have h2 := hbs 13 (by omega)
      unfold sizeF pad at hz
      rw [if_pos (show 12 < n by omega), if_pos (show 13 < n by omega)] at hz
      by_cases q : bs 12 * 256 + bs 13 = 33024
      · omega
      · rw [if_neg q] at hz; omega
    obtain ⟨b, off, rfl, hb, hc⟩ := hr.2 (by omega)
    have e12 : w.cell? ⟨b, off + 12, none⟩ = some (.int .u8 129) := by rw [← hT.1]; exact hc 12 (by omega)
    have e13 : w.cell? ⟨b, off + 13, none⟩ = some (.int .u8 0) := by rw [← hT.2]; exact hc 13 (by omega)
    have h18 : (n : Int) < 18 := by omega
    clear hr hbs hn hc hT hz
    go_enter Try.func12, Try.ntmps12
    go_wp2_with (refine wpList_store_row rfl 25 _ _ rfl w.heap.size (frA 0 0 false 0 false 0 0 none 0 0) rfl rfl 25 (frA 0 0 false 0 false 0 0 none 0 0) ?_ (by rw [sizeFr]; rfl) rfl (frA_all _ _ _ _ _ _ _ _ _ _) ?_; exact heap_alloc_last w _)
    exact bodyPost_ret (v := .tuple #[.agg (frA 0 0 false 0 false 0 0 none 0 0), .int .i64 2]) (results_row_tmp (p := 2) (u := 3) (ty := 25) Try.results12 _ _ w.heap.size 25 (frA 0 0 false 0 false 0 0 none 0 0) (0, 0) _ rfl (setRow_heap _ _ _ _ _ _ (heap_alloc_last w _)) Try.underlying25 rfl (by rw [sizeFr]; rfl)) rfl ⟨HPO.out _, below_setRow (below_alloc1 w _) (Nat.le_refl _) _⟩
end Go.Proofs.Ytidlgfiggilchaa
