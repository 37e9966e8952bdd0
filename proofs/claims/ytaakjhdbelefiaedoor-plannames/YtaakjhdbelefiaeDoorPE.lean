/- The ends of links by bridges, as they lie: rows of a row; one is appended; one is sorted -/
import Derived.Test.YtaakjhdbelefiaeDoorPS
import Derived.Test.YtaakjhdbelefiaeDoorPR
import Derived.Test.YtaakjhdbelefiaeDoorPEn
import Derived.Maps.AppendAt
namespace Go.Proofs.YtaakjhdbelefiaeDoor
open Go.RowKit
open Pl (Br Net Pc Lk En St)

theorem infoE : (Tryd.prog.info? 71).map (fun i => (i.zero, i.size, i.bytes)) = some (some (.agg #[.int .i64 0, .int .i64 0, .int .i64 0, .int .i64 0, .bool false]), 5, 40) := by kernel_rfl
theorem infoEs : (Tryd.prog.info? 59).map (fun i => (i.zero, i.size, i.bytes)) = some (some (.slice none 0 0), 1, 24) := by kernel_rfl
/-- The cells of a row of ends. -/
abbrev eCells (l : List En) : List Value := cellsL l.length 5 (fun j => enC (EL l j))
theorem eCells_snoc (l : List En) (e : En) : eCells l ++ encE e = eCells (l ++ [e]) := by
  have h1 : encE e = cellsL 1 5 (fun _ => enC e) := by
    simp [encE, cellsL, enC, List.range_succ]
  unfold eCells
  rw [h1, cellsL_cat _ _ _ (by omega), List.length_append]
  apply cellsL_congr
  intro i hi
  simp only [catC]
  by_cases q : i < l.length
  · rw [if_pos q]
    simp [EL, List.getD, List.getElem?_append_left q]
  · rw [if_neg q]
    obtain rfl : i = l.length := by omega
    simp [EL, List.getD]
/-- The ends by bridges, while they are gathered. -/
structure EnAt (w : World) (G K : Nat) (v : Nat → Value) (L : Nat → List En) : Prop where
  blk : w.heap[G]? = some (.cells (rowC K 1 (fun i _ => v i)) 59 (0, 0))
  own : ∀ i, i < K → w.ownsRow (G + 1) 71 5 (v i) (L i).length (eCells (L i))
  apart : ∀ i j, i < K → j < K → i ≠ j → ∀ q, (v i).ownBlock = some q → (v j).ownBlock ≠ some q
theorem EnAt.below {w w' : World} {G K : Nat} {v : Nat → Value} {L : Nat → List En} (h : EnAt w G K v L) (hb : Below w.heap.size w w') : EnAt w' G K v L :=
  ⟨keep h.blk hb, fun i hi => ownsC_below (h.own i hi) hb, h.apart⟩
theorem grown_owns {w w' : World} {base n : Nat} {v : Value} {xs : List Value} {r : Option Nat} (h : w.ownsRow base 71 5 v n xs) (hg : w.grownBy w' r) (hne : ∀ q, v.ownBlock = some q → r ≠ some q) : w'.ownsRow base 71 5 v n xs := by
  refine h.kept hg ?_
  cases hv : v.ownBlock with
  | none => exact Or.inl rfl
  | some q => exact Or.inr (fun e => hne q hv e.symm)
set_option maxHeartbeats 1000000 in
/-- ONE END MORE at bridge i: what 'append' does, and the store behind it. -/
theorem en_append {Z : World} {G K : Nat} {v : Nat → Value} {L : Nat → List En} (hE : EnAt Z G K v L) (i : Nat) (hi : i < K) (e : En) (hlen : (L i).length ≤ 1000) :
    ∃ v' w2, (Builtin.append_ #[59, 59] 59 #[v i, .slice (some ⟨Z.heap.size, 0, none⟩) 1 1]).run Tryd.prog (Z.drew.alloc (.cells #[.int .i64 e.port, .int .i64 e.cost, .int .i64 e.other, .int .i64 e.oport, .bool e.live] 71)) = .ok v' w2 ∧
      w2.cell? ⟨G, i, none⟩ = some (v i) ∧ w2.frozen? ⟨G, i, none⟩ = false ∧ EnAt (w2.setCell ⟨G, i, none⟩ v') G K (fun j => if j = i then v' else v j) (fun j => if j = i then L i ++ [e] else L j) ∧
      Below G Z (w2.setCell ⟨G, i, none⟩ v') ∧ (v'.ownBlock = (v i).ownBlock ∨ v'.ownBlock = some (Z.heap.size + 1)) ∧ (∀ q, q < Z.heap.size → (v i).ownBlock ≠ some q → w2.heap[q]? = Z.heap[q]?) ∧ Z.heap.size ≤ w2.heap.size := by
  obtain ⟨i0, hi0, hz0, hz1, hz2⟩ := info_parts infoE
  have hGl : G < Z.heap.size := (Array.getElem?_eq_some_iff.1 hE.blk).1
  obtain ⟨C, hC⟩ : ∃ C, C = Z.drew.alloc (.cells #[.int .i64 e.port, .int .i64 e.cost, .int .i64 e.other, .int .i64 e.oport, .bool e.live] 71) := ⟨_, rfl⟩
  have hCb : Below Z.heap.size Z C := by rw [hC]; exact (Below.drew (Below.refl _ _)).alloc (Nat.le_refl _) _
  have hCs : C.heap.size = Z.heap.size + 1 := by rw [hC]; simp
  have hCl : C.heap[Z.heap.size]? = some (.cells #[.int .i64 e.port, .int .i64 e.cost, .int .i64 e.other, .int .i64 e.oport, .bool e.live] 71 (0, 0)) := by rw [hC]; exact heap_alloc_last Z.drew _
  have hEC := hE.below hCb
  have hsrc : ∀ j u, (encE e)[j]? = some u → C.cell? ((⟨Z.heap.size, 0, none⟩ : Addr).add j) = some u := by
    intro j u hj
    have hl : j < 5 := by
      have := (List.getElem?_eq_some_iff.1 hj).1
      simpa [encE] using this
    rw [add_row, Nat.zero_add]
    rcases (by omega : j = 0 ∨ j = 1 ∨ j = 2 ∨ j = 3 ∨ j = 4) with q | q | q | q | q <;> subst q <;> (have := cell_of_row C Z.heap.size 0 _ _ _ hCl; simp [encE] at hj; subst hj; exact cell_of_row C Z.heap.size _ _ _ _ hCl)
  obtain ⟨v', w2, hrun, h1, h2, _, h3⟩ := run_append_own_at (P := Tryd.prog) C (G + 1) 59 59 71 i0 _ 5 40 Tryd.underlying59 hi0 hz0 hz1 hz2 rfl (by omega) (v i) (L i).length (eCells (L i)) (hEC.own i hi) ⟨Z.heap.size, 0, none⟩ 1 1 (encE e) rfl hsrc (fun u hu => by simp [encE] at hu; rcases hu with rfl | rfl | rfl | rfl | rfl <;> rfl) (by unfold maxLen; omega) (by omega) (by omega)
  rw [eCells_snoc] at h1
  have hG1 : (v i).ownBlock ≠ some G := fun q => by have := (ownsC_block (hEC.own i hi) G q).1; omega
  have hw2G : w2.heap[G]? = some (.cells (rowC K 1 (fun i _ => v i)) 59 (0, 0)) := (h2.block G (by omega) (fun q => hG1 q.symm)).trans hEC.blk
  have hsame : ∀ q, q < C.heap.size → (v i).ownBlock ≠ some q → w2.heap[q]? = C.heap[q]? := fun q hq hne => h2.block q hq (fun p => hne p.symm)
  have hv'G : v'.ownBlock ≠ some G := fun q => by rcases h3 with h3 | h3 <;> rw [h3] at q; exact hG1 q; injection q with q; omega
  have eC : (⟨G, i, none⟩ : Addr) = ⟨G, i * 1 + 0, none⟩ := by simp
  have oth : ∀ q, q ≠ G → (w2.setCell ⟨G, i, none⟩ v').heap[q]? = w2.heap[q]? := fun q hq => heap_setCell_other _ _ _ _ (by exact hq)
  have hgs : w2.grownBy (w2.setCell ⟨G, i, none⟩ v') (some G) := ⟨by first | rfl | simp, by first | rfl | simp, by first | rfl | simp, by first | exact Nat.le_refl _ | simp, fun q _ hne => oth q (fun p => hne (by rw [p]))⟩
  refine ⟨v', w2, by rw [← hC]; exact hrun, ?_, frozen_of_row _ _ _ _ _ hw2G, ⟨?_, fun j hj => ?_, fun j k hj hk hjk q hq => ?_⟩, ?_, ?_, fun q hq hne => ?_, ?_⟩
  · rw [eC]; exact rowC_cell hw2G hi (by omega)
  · rw [eC, rowC_set hw2G hi (by omega), rowC_congr2 (d := fun j _ => if j = i then v' else v j) (fun j _ m hm => by
      unfold updC
      by_cases q : j = i
      · rw [if_pos ⟨q, by omega⟩, if_pos q]
      · rw [if_neg (fun p => q p.1), if_neg q])]
  · by_cases q : j = i
    · subst q
      simp only [if_true]
      rw [List.length_append]
      exact grown_owns h1 hgs (fun q hq p => hv'G (by rw [hq]; exact p.symm))
    · simp only [if_neg q]
      refine grown_owns (grown_owns (hEC.own j hj) h2 (fun p hp r => hE.apart j i hj hi q p hp r)) hgs (fun p hp r => ?_)
      have := (ownsC_block (hEC.own j hj) p hp).1
      injection r with r
      omega
  · by_cases c1 : j = i <;> by_cases c2 : k = i
    · exact absurd (c1.trans c2.symm) hjk
    · simp only [if_pos c1] at hq
      simp only [if_neg c2]
      intro r
      rcases h3 with h3 | h3
      · exact hE.apart i k hi hk (fun p => c2 p.symm) q (by rw [← h3]; exact hq) r
      · have := (ownsC_block (hE.own k hk) q r).2
        rw [h3] at hq
        injection hq with hq
        omega
    · simp only [if_neg c1] at hq
      simp only [if_pos c2]
      intro r
      rcases h3 with h3 | h3
      · exact hE.apart j i hj hi c1 q hq (by rw [← h3]; exact r)
      · have := (ownsC_block (hE.own j hj) q hq).2
        rw [h3] at r
        injection r with r
        omega
    · simp only [if_neg c1] at hq
      simp only [if_neg c2]
      exact hE.apart j k hj hk hjk q hq
  · have b1 : Below G Z C := hCb.mono (Nat.le_of_lt hGl)
    have b2 : Below G C w2 := (Below.refl _ _).grown h2 (by omega) (fun q hq => by have := (ownsC_block (hEC.own i hi) q hq).1; omega)
    exact (b1.trans b2).setCell (Nat.le_refl _) _
  · rcases h3 with h3 | h3
    · exact Or.inl h3
    · exact Or.inr (by rw [h3, hCs])
  · rw [hsame q (by omega) hne]
    exact hCb.block q hq
  · have := h2.size; omega
/-- The ends by bridges, as they lie in the end. -/
structure EndsOk (w : World) (G K : Nat) (v : Nat → Value) (E : Nat → List En) : Prop where
  blk : w.heap[G]? = some (.cells (rowC K 1 (fun i _ => v i)) 59 (0, 0))
  row : ∀ i, i < K → ∃ ao cap, v i = .slice ao (E i).length cap ∧ ERow w ao (E i).length cap (EL (E i))
theorem EndsOk.below {w w' : World} {G K : Nat} {v : Nat → Value} {E : Nat → List En} (h : EndsOk w G K v E) (hb : Below w.heap.size w w') : EndsOk w' G K v E :=
  ⟨keep h.blk hb, fun i hi => by
    obtain ⟨ao, cap, e, h1⟩ := h.row i hi
    exact ⟨ao, cap, e, CRow.below h1 hb⟩⟩
/-- .. while they are being sorted: the first k are. -/
structure SrtAt (w : World) (G K : Nat) (v : Nat → Value) (L E : Nat → List En) (k : Nat) : Prop where
  blk : w.heap[G]? = some (.cells (rowC K 1 (fun i _ => v i)) 59 (0, 0))
  own : ∀ i, i < K → k ≤ i → w.ownsRow (G + 1) 71 5 (v i) (L i).length (eCells (L i))
  row : ∀ i, i < k → ∃ ao cap, v i = .slice ao (E i).length cap ∧ ERow w ao (E i).length cap (EL (E i))
  apart : ∀ i j, i < K → j < K → i ≠ j → ∀ q, (v i).ownBlock = some q → (v j).ownBlock ≠ some q
theorem srt_next {w w' : World} {G K : Nat} {v : Nat → Value} {L E : Nat → List En} {k : Nat} (h : SrtAt w G K v L E k) (hk : k < K) (hg : w.grownBy w' (v k).ownBlock) (hr : ∃ ao cap, v k = .slice ao (E k).length cap ∧ ERow w' ao (E k).length cap (EL (E k))) : SrtAt w' G K v L E (k + 1) := by
  have hGl : G < w.heap.size := (Array.getElem?_eq_some_iff.1 h.blk).1
  have hG1 : (v k).ownBlock ≠ some G := fun q => by have := (ownsC_block (h.own k hk (Nat.le_refl _)) G q).1; omega
  refine ⟨(hg.block G hGl (fun q => hG1 q.symm)).trans h.blk, fun i hi hki => grown_owns (h.own i hi (by omega)) hg (fun q hq p => h.apart i k hi hk (by omega) q hq p), fun i hi => ?_, h.apart⟩
  by_cases e : i = k
  · subst e; exact hr
  · obtain ⟨ao, cap, e1, h1⟩ := h.row i (by omega)
    refine ⟨ao, cap, e1, CRow.other h1 (fun b off hb hlt => hg.block b hlt (fun q => ?_)) hg.size⟩
    subst hb
    exact h.apart i k (by omega) hk e b (by rw [e1]; rfl) q.symm
end Go.Proofs.YtaakjhdbelefiaeDoor
