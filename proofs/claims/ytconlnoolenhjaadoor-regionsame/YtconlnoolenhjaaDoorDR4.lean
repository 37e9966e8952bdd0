/- The document's own Mac: laws and plain facts. -/
import Derived.Test.YtconlnoolenhjaaDoorDR3
namespace Go.Proofs.YtconlnoolenhjaaDoor
open Go.RowKit

def cat64 (f g : Nat → Int) (i : Nat) : Int := if i < 64 then f i else g (i - 64)
theorem fin_cat (f bs : Nat → Int) (n : Nat) : Md.fin Md.st0 0 (64 + n) (cat64 f bs) = Md.fin (Md.mixS Md.st0 f) 64 n bs := by
  unfold Md.fin
  have e1 : (64 + n) / 64 = 1 + n / 64 := by omega
  have e2 : (64 + n) % 64 = n % 64 := by omega
  rw [e1, e2, Md.mixN_add]
  have e3 : Md.mixN Md.st0 (cat64 f bs) 1 = Md.mixS Md.st0 f := Md.mixS_congr _ _ (fun j hj => by simp [cat64, hj]) _
  have e4 : (fun i => cat64 f bs (64 * 1 + i)) = bs := by
    funext i
    unfold cat64
    rw [if_neg (by omega), show 64 * 1 + i - 64 = i by omega]
  have e5 : (fun i => cat64 f bs (64 * (1 + n / 64) + i)) = (fun i => bs (64 * (n / 64) + i)) := by
    funext i
    unfold cat64
    rw [if_neg (by omega), show 64 * (1 + n / 64) + i - 64 = 64 * (n / 64) + i by omega]
  rw [e3, e4, e5]
  have e6 : (((0 : Nat) : Int) + ((64 + n : Nat) : Int)) * 8 = (((64 : Nat) : Int) + (n : Int)) * 8 := by omega
  rw [e6]

theorem xk_range (K : Nat → Int) (m : Int) (i : Nat) : 0 ≤ Md.xk K m i ∧ Md.xk K m i ≤ 255 := ⟨bits_lo_u8 _ _ _, bits_hi_u8 _ _ _⟩
theorem dg_range (s : Md.St) (i : Nat) : 0 ≤ Md.dg s i ∧ Md.dg s i ≤ 255 := by
  unfold Md.dg
  have h1 := Int.emod_nonneg (Md.wordOf s (i / 4) / 2 ^ (8 * (i % 4))) (show (256 : Int) ≠ 0 by decide)
  have h2 := Int.emod_lt_of_pos (Md.wordOf s (i / 4) / 2 ^ (8 * (i % 4))) (show (0 : Int) < 256 by decide)
  omega
theorem cat_list (f bs : Nat → Int) (n : Nat) : bytesL 64 f ++ bytesL n bs = bytesL (64 + n) (cat64 f bs) := by
  apply List.ext_getElem?
  intro i
  by_cases h1 : i < 64
  · rw [List.getElem?_append_left (by simpa [bytesL_length] using h1)]
    simp [bytesL, cat64, h1, show i < 64 + n by omega]
  · rw [List.getElem?_append_right (by simp [bytesL_length]; omega), bytesL_length]
    by_cases h2 : i < 64 + n
    · simp [bytesL, cat64, h1, h2, show i - 64 < n by omega]
    · simp [bytesL, h2, show ¬ i - 64 < n by omega]

/-- One byte more: and the row is the old one, or a new one. -/
theorem wpList_append_byte2 {w : World} {ops : Array Oper} {rest : List Oper} {o : Oper} {a : Act} {Q : Exit → Act → World → Prop} (hgd : o.guard = none) (s x : Operand)
    (ho : o.op = .call { callee := .builtin .append, args := #[s, x], argTypes := #[29, 29] }) (base : Nat)
    (v : Value) (n : Nat) (P : Nat → Int) (hs : a.eval s = v) (y : Int) (hown : w.ownsRow base 5 1 v n (bytesL n P)) (hbase : base ≤ w.heap.size)
    (hx : a.eval x = .slice (some ⟨w.heap.size, 0, none⟩) 1 1) (hy : y = P n) (hb : n + 1 ≤ 1000)
    (h : ∀ v' w', w'.ownsRow base 5 1 v' (n + 1) (bytesL (n + 1) P) → w.grownBy w' v.ownBlock → (v'.ownBlock = v.ownBlock ∨ ∃ g, v'.ownBlock = some g ∧ w.heap.size ≤ g) → wpList Tryd.prog ops Q rest (a.put o.dst v') w') : wpList Tryd.prog ops Q (o :: rest) a (w.alloc (.cells #[.int .u8 y] 5)) := by
  obtain ⟨i0, hi, hz0, hz1, hz2⟩ := info_parts info5
  refine wpList_plain hgd fun K hK => ?_
  have hnews : ∀ j u, ([Value.int .u8 y] : List Value)[j]? = some u → (w.alloc (.cells #[.int .u8 y] 5)).cell? ((⟨w.heap.size, 0, none⟩ : Addr).add j) = some u := cell_one_new _ _ _
  obtain ⟨v', w', hr, h2, h3, _⟩ := run_append_own (P := Tryd.prog) (w.alloc (.cells #[.int .u8 y] 5)) base 29 o.type 5 i0 (.int .u8 0) 1 1 Tryd.underlying29 hi hz0 hz1 hz2 rfl (by decide) v n _ (hown.alloc _) ⟨w.heap.size, 0, none⟩ 1 1 [.int .u8 y] rfl hnews (by simp [Value.oneCell']) (by unfold maxLen; omega) (by omega) (by simp; omega)
  have hblk : v'.ownBlock = v.ownBlock ∨ ∃ g, v'.ownBlock = some g ∧ w.heap.size ≤ g := by
    have hown2 := hown.alloc (.cells #[.int .u8 y] 5)
    rcases hown2.2 with ⟨rfl, rfl⟩ | ⟨g, cap, cur, rfl, hbg, hg, hnc, hcm, hcs, htake⟩
    · have e := run_append_nil (P := Tryd.prog) (w.alloc (.cells #[.int .u8 y] 5)) 29 o.type 5 i0 (.int .u8 0) Tryd.underlying29 hi hz0 ⟨w.heap.size, 0, none⟩ 1 1 [.int .u8 y] (by rw [hz1]; rfl) hnews (by omega) (by omega) (by rw [hz2]; omega)
      rw [hr] at e
      injection e with e1 e2
      right
      rw [e1]
      exact ⟨_, rfl, by simp⟩
    · by_cases hroom : n + 1 ≤ cap
      · have e := run_append_room (P := Tryd.prog) (w.alloc (.cells #[.int .u8 y] 5)) 29 o.type 5 i0 Tryd.underlying29 hi g n cap cur hg ⟨w.heap.size, 0, none⟩ 1 1 [.int .u8 y] (by rw [hz1]; rfl) hnews (by simp [Value.oneCell']) hroom (by rw [hz1]; simp; omega)
        rw [hr] at e
        injection e with e1 e2
        left
        rw [e1]
        rfl
      · have e := run_append_grow (P := Tryd.prog) (w.alloc (.cells #[.int .u8 y] 5)) 29 o.type 5 i0 (.int .u8 0) Tryd.underlying29 hi hz0 ⟨g, 0, none⟩ n cap (bytesL n P) (by rw [hz1, bytesL_length]; omega) (hown2.cells (g := g) rfl) ⟨w.heap.size, 0, none⟩ 1 1 [.int .u8 y] (by rw [hz1]; rfl) hnews (by omega) (by omega) (growslice_fits (by omega) (by rw [hz2]; omega))
        rw [hr] at e
        injection e with e1 e2
        right
        rw [e1]
        exact ⟨_, rfl, by simp⟩
  unfold Oper.wp
  simp [execOp, ho, resolve, invoke, builtin, hs, hx, hr, Result.andThen]
  refine hK _ _ (h v' w' ?_ ?_ hblk)
  · rw [show bytesL (n + 1) P = bytesL n P ++ [.int .u8 y] by rw [hy]; simp [bytesL, List.range_succ]]
    exact h2
  · exact ⟨h3.os, h3.tape, h3.output, Nat.le_trans (by simp) h3.size, fun k hk hne => (h3.block k (by simp; omega) hne).trans (Below.heap_alloc w _ k hk)⟩
end Go.Proofs.YtconlnoolenhjaaDoor
