/- Plain: one root, no way is shorter, one of two ends speaks, one link more -/
import Derived.Test.YtaneiffnhphkhaaGreatDoorQ01
import Derived.Test.YtaneiffnhphkhaaGreatDoorQ09
import Derived.Test.YtaneiffnhphkhaaGreatDoorQ06
import Derived.Maps.AppendAt
namespace Go.Proofs.YtaneiffnhphkhaaGreatDoor
namespace Pl
open Vc (V Of)
structure RightL (K L : Nat) (ls : Nat → Lk) : Prop where
 ok : ∀ k, k < L → (0 ≤ (ls k).a ∧ (ls k).a < K) ∧ (0 ≤ (ls k).b ∧ (ls k).b < K) ∧ (ls k).a ≠ (ls k).b ∧ (1 ≤ (ls k).pa ∧ (ls k).pa ≤ 30) ∧ (1 ≤ (ls k).pb ∧ (ls k).pb ≤ 30) ∧ (1 ≤ (ls k).cost ∧ (ls k).cost ≤ 200000)
 one : ∀ j k, j < k → k < L → isEnd (ls j) (ls k).a (ls k).pa = false ∧ isEnd (ls j) (ls k).b (ls k).pb = false
theorem someTo_false {p : Nat → Bool} : ∀ {n : Nat}, Vc.someTo p n = false → ∀ i, i < n → p i = false
 | 0, _, i, hi => by omega
 | n + 1, h, i, hi => by
  simp only [Vc.someTo, Bool.or_eq_false_iff] at h
  by_cases e : i = n
  ·subst e; exact h.2
  ·exact someTo_false h.1 i (by omega)
theorem someTo_none {p : Nat → Bool} : ∀ {n : Nat}, (∀ i, i < n → p i = false) → Vc.someTo p n = false
 | 0, _ => rfl
 | n + 1, h => by simp only [Vc.someTo, Bool.or_eq_false_iff]; exact ⟨someTo_none (fun i hi => h i (by omega)), h n (by omega)⟩
theorem lkErr_ok {K : Nat} {l : Lk} (h : lkErr K l = 0) : (0 ≤ l.a ∧ l.a < K) ∧ (0 ≤ l.b ∧ l.b < K) ∧ l.a ≠ l.b ∧ (1 ≤ l.pa ∧ l.pa ≤ 30) ∧ (1 ≤ l.pb ∧ l.pb ≤ 30) ∧ (1 ≤ l.cost ∧ l.cost ≤ 200000) := by
 unfold lkErr at h
 split at h
 ·omega
 ·split at h
  ·omega
  ·split at h
   ·omega
   ·omega
theorem lErr_ok {K : Nat} {ls : Nat → Lk} {i : Nat} (h : lErr K ls i = 0) : lkErr K (ls i) = 0 ∧ ∀ j, j < i → isEnd (ls j) (ls i).a (ls i).pa = false ∧ isEnd (ls j) (ls i).b (ls i).pb = false := by
 unfold lErr at h
 split at h
 ·omega
 ·rename_i h1
  split at h
  ·omega
  ·rename_i h2
   refine ⟨by omega, fun j hj => ?_⟩
   have := someTo_false (by simpa using h2) j hj
   simpa using this
theorem rightL {K L : Nat} {ls : Nat → Lk} (h : ∀ i, i < L → lErr K ls i = 0) : RightL K L ls :=
 ⟨fun k hk => lkErr_ok (lErr_ok (h k hk)).1, fun j k hj hk => (lErr_ok (h k hk)).2 j hj⟩
theorem endsAt_mem {l : Lk} {lv : Bool} {i : Nat} {e : En} : e ∈ endsAt l lv i ↔ (l.a = (i : Int) ∧ e = ⟨l.pa, l.cost, l.b, l.pb, lv⟩) ∨ (l.b = (i : Int) ∧ e = ⟨l.pb, l.cost, l.a, l.pa, lv⟩) := by
 unfold endsAt
 by_cases h1 : l.a = (i : Int) <;> by_cases h2 : l.b = (i : Int) <;> simp [h1, h2]
theorem endsTo_mem {ls : Nat → Lk} {lv : Nat → Bool} {i : Nat} {e : En} : ∀ {L : Nat}, e ∈ endsTo ls lv i L ↔ ∃ k, k < L ∧ e ∈ endsAt (ls k) (lv k) i
 | 0 => ⟨fun h => by simp [endsTo] at h, fun ⟨k, hk, _⟩ => by omega⟩
 | L + 1 => by
  simp only [endsTo, List.mem_append]
  rw [endsTo_mem (L := L)]
  constructor
  ·rintro (⟨k, hk, h⟩ | h)
   ·exact ⟨k, by omega, h⟩
   ·exact ⟨L, by omega, h⟩
  ·rintro ⟨k, hk, h⟩
   by_cases e : k = L
   ·subst e; exact Or.inr h
   ·exact Or.inl ⟨k, by omega, h⟩
theorem ends_perm (ls : Nat → Lk) (lv : Nat → Bool) (L i : Nat) : (ends ls lv L i).Perm (endsTo ls lv i L) := List.mergeSort_perm _ _
theorem ends_mem {ls : Nat → Lk} {lv : Nat → Bool} {L i : Nat} {e : En} : e ∈ ends ls lv L i ↔ ∃ k, k < L ∧ (((ls k).a = (i : Int) ∧ e = ⟨(ls k).pa, (ls k).cost, (ls k).b, (ls k).pb, lv k⟩) ∨ ((ls k).b = (i : Int) ∧ e = ⟨(ls k).pb, (ls k).cost, (ls k).a, (ls k).pa, lv k⟩)) := by
 rw [(ends_perm ls lv L i).mem_iff, endsTo_mem]
 constructor
 ·rintro ⟨k, hk, h⟩; exact ⟨k, hk, endsAt_mem.1 h⟩
 ·rintro ⟨k, hk, h⟩; exact ⟨k, hk, endsAt_mem.2 h⟩
theorem endsTo_ports {K L : Nat} {ls : Nat → Lk} (R : RightL K L ls) (lv : Nat → Bool) (i : Nat) : ∀ n, n ≤ L → (endsTo ls lv i n).Pairwise (fun x y => x.port ≠ y.port)
 | 0, _ => List.Pairwise.nil
 | n + 1, hn => by
  simp only [endsTo]
  rw [List.pairwise_append]
  refine ⟨endsTo_ports R lv i n (by omega), ?_, ?_⟩
  ·have := (R.ok n (by omega)).2.2.1
   unfold endsAt
   by_cases h1 : (ls n).a = (i : Int) <;> by_cases h2 : (ls n).b = (i : Int) <;> simp [h1, h2]
   omega
  ·intro x hx y hy
   obtain ⟨k, hk, hx⟩ := endsTo_mem.1 hx
   obtain ⟨o1, o2⟩ := R.one k n (by omega) (by omega)
   unfold isEnd at o1 o2
   simp only [Bool.or_eq_false_iff, decide_eq_false_iff_not] at o1 o2
   rcases endsAt_mem.1 hx with ⟨a1, rfl⟩ | ⟨a1, rfl⟩ <;> rcases endsAt_mem.1 hy with ⟨b1, rfl⟩ | ⟨b1, rfl⟩ <;> simp only <;> intro e
   ·exact o1.1 ⟨by omega, e⟩
   ·exact o2.1 ⟨by omega, e⟩
   ·exact o1.2 ⟨by omega, e⟩
   ·exact o2.2 ⟨by omega, e⟩
theorem ends_sorted {K L : Nat} {ls : Nat → Lk} (R : RightL K L ls) (lv : Nat → Bool) (i : Nat) : (ends ls lv L i).Pairwise (fun x y => x.port < y.port) := by
 have h1 : (ends ls lv L i).Pairwise (fun x y => leP x y = true) := List.pairwise_mergeSort (fun a b c h1 h2 => by simp [leP] at *; omega) (fun a b => by simp [leP]; omega) _
 have h2 : (ends ls lv L i).Pairwise (fun x y => x.port ≠ y.port) := ((ends_perm ls lv L i).pairwise_iff (fun {a b} (h : a.port ≠ b.port) => h.symm)).2 (endsTo_ports R lv i L (Nat.le_refl _))
 have := h1.and h2
 exact this.imp (fun {a b} ⟨q1, q2⟩ => by simp [leP] at q1; omega)
theorem ends_unique {K L : Nat} {ls : Nat → Lk} (R : RightL K L ls) (lv : Nat → Bool) (i : Nat) {l : List En} (hp : l.Perm (endsTo ls lv i L)) (h : l.Pairwise (fun x y => ¬ y.port < x.port)) : l = ends ls lv L i := by
 have h2 : l.Pairwise (fun x y => x.port ≠ y.port) := (hp.pairwise_iff (fun {a b} (h : a.port ≠ b.port) => h.symm)).2 (endsTo_ports R lv i L (Nat.le_refl _))
 exact sorted_unique (hp.trans (ends_perm ls lv L i).symm) ((h.and h2).imp (fun {a b} ⟨q1, q2⟩ => by omega)) (ends_sorted R lv i)
theorem good {K L : Nat} {ls : Nat → Lk} (R : RightL K L ls) (hK : K ≤ 12) (ids : Nat → Int) (lv : Nat → Bool) : Good ids (fun i => ends ls lv L i) K := by
 refine ⟨hK, fun i hi e he _ => ?_⟩
 obtain ⟨k, hk, h⟩ := ends_mem.1 he
 obtain ⟨o1, o2, o3, o4, o5, o6⟩ := R.ok k hk
 rcases h with ⟨_, rfl⟩ | ⟨_, rfl⟩ <;> simp only <;> omega
theorem ends_one {K L : Nat} {ls : Nat → Lk} (R : RightL K L ls) (lv : Nat → Bool) {i : Nat} {x y : En} (hx : x ∈ ends ls lv L i) (hy : y ∈ ends ls lv L i) (h : x.port = y.port) : x = y := by
 have S := ends_sorted R lv i
 obtain ⟨a, ha, ea⟩ := List.getElem_of_mem hx
 obtain ⟨b, hb, eb⟩ := List.getElem_of_mem hy
 have key := List.pairwise_iff_getElem.1 S
 by_cases e : a = b
 ·subst e; rw [← ea, ← eb]
 ·rcases Nat.lt_or_ge a b with q | q
  ·have := key a b ha hb q
   rw [ea, eb] at this; omega
  ·have := key b a hb ha (by omega)
   rw [ea, eb] at this; omega
end Pl
end Go.Proofs.YtaneiffnhphkhaaGreatDoor
namespace Go.Proofs.YtaneiffnhphkhaaGreatDoor
open Go.RowKit
open Pl (Br Net Pc Lk En St)
theorem infoE : (Tryz.prog.info? 135).map (fun i => (i.zero, i.size, i.bytes)) = some (some (.agg #[.int .i64 0, .int .i64 0, .int .i64 0, .int .i64 0, .bool false]), 5, 40) := by kernel_rfl
theorem infoEs : (Tryz.prog.info? 106).map (fun i => (i.zero, i.size, i.bytes)) = some (some (.slice none 0 0), 1, 24) := by kernel_rfl
abbrev eCells (l : List En) : List Value := cellsL l.length 5 (fun j => enC (EL l j))
theorem eCells_snoc (l : List En) (e : En) : eCells l ++ encE e = eCells (l ++ [e]) := by
 have h1 : encE e = cellsL 1 5 (fun _ => enC e) := by
  simp [encE, cellsL, enC, List.range_succ]
 unfold eCells
 rw [h1, cellsL_cat _ _ _ (by omega), List.length_append]
 apply cellsL_congr
 intro i hi
 simp only [catC]
 by_cases q : i < l.length
 ·rw [if_pos q]
  simp [EL, List.getD, List.getElem?_append_left q]
 ·rw [if_neg q]
  obtain rfl : i = l.length := by omega
  simp [EL, List.getD]
structure EnAt (w : World) (G K : Nat) (v : Nat → Value) (L : Nat → List En) : Prop where
 blk : w.heap[G]? = some (.cells (rowC K 1 (fun i _ => v i)) 106 (0, 0))
 own : ∀ i, i < K → w.ownsRow (G + 1) 135 5 (v i) (L i).length (eCells (L i))
 apart : ∀ i j, i < K → j < K → i ≠ j → ∀ q, (v i).ownBlock = some q → (v j).ownBlock ≠ some q
theorem EnAt.below {w w' : World} {G K : Nat} {v : Nat → Value} {L : Nat → List En} (h : EnAt w G K v L) (hb : Below w.heap.size w w') : EnAt w' G K v L :=
 ⟨keep h.blk hb, fun i hi => ownsC_below (h.own i hi) hb, h.apart⟩
theorem grown_owns {w w' : World} {base n : Nat} {v : Value} {xs : List Value} {r : Option Nat} (h : w.ownsRow base 135 5 v n xs) (hg : w.grownBy w' r) (hne : ∀ q, v.ownBlock = some q → r ≠ some q) : w'.ownsRow base 135 5 v n xs := by
 refine h.kept hg ?_
 cases hv : v.ownBlock with
 | none => exact Or.inl rfl
 | some q => exact Or.inr (fun e => hne q hv e.symm)
set_option maxHeartbeats 1000000 in
theorem en_append {Z : World} {G K : Nat} {v : Nat → Value} {L : Nat → List En} (hE : EnAt Z G K v L) (i : Nat) (hi : i < K) (e : En) (hlen : (L i).length ≤ 1000) :
  ∃ v' w2, (Builtin.append_ #[106, 106] 106 #[v i, .slice (some ⟨Z.heap.size, 0, none⟩) 1 1]).run Tryz.prog (Z.drew.alloc (.cells #[.int .i64 e.port, .int .i64 e.cost, .int .i64 e.other, .int .i64 e.oport, .bool e.live] 135)) = .ok v' w2 ∧
   w2.cell? ⟨G, i, none⟩ = some (v i) ∧ w2.frozen? ⟨G, i, none⟩ = false ∧ EnAt (w2.setCell ⟨G, i, none⟩ v') G K (fun j => if j = i then v' else v j) (fun j => if j = i then L i ++ [e] else L j) ∧
   Below G Z (w2.setCell ⟨G, i, none⟩ v') ∧ (v'.ownBlock = (v i).ownBlock ∨ v'.ownBlock = some (Z.heap.size + 1)) ∧ (∀ q, q < Z.heap.size → (v i).ownBlock ≠ some q → w2.heap[q]? = Z.heap[q]?) ∧ Z.heap.size ≤ w2.heap.size := by
 obtain ⟨i0, hi0, hz0, hz1, hz2⟩ := info_parts infoE
 have hGl : G < Z.heap.size := (Array.getElem?_eq_some_iff.1 hE.blk).1
 obtain ⟨C, hC⟩ : ∃ C, C = Z.drew.alloc (.cells #[.int .i64 e.port, .int .i64 e.cost, .int .i64 e.other, .int .i64 e.oport, .bool e.live] 135) := ⟨_, rfl⟩
 have hCb : Below Z.heap.size Z C := by rw [hC]; exact (Below.drew (Below.refl _ _)).alloc (Nat.le_refl _) _
 have hCs : C.heap.size = Z.heap.size + 1 := by rw [hC]; simp
 have hCl : C.heap[Z.heap.size]? = some (.cells #[.int .i64 e.port, .int .i64 e.cost, .int .i64 e.other, .int .i64 e.oport, .bool e.live] 135 (0, 0)) := by rw [hC]; exact heap_alloc_last Z.drew _
 have hEC := hE.below hCb
 have hsrc : ∀ j u, (encE e)[j]? = some u → C.cell? ((⟨Z.heap.size, 0, none⟩ : Addr).add j) = some u := by
  intro j u hj
  have hl : j < 5 := by
   have := (List.getElem?_eq_some_iff.1 hj).1
   simpa [encE] using this
  rw [add_row, Nat.zero_add]
  rcases (by omega : j = 0 ∨ j = 1 ∨ j = 2 ∨ j = 3 ∨ j = 4) with q | q | q | q | q <;> subst q <;> (have := cell_of_row C Z.heap.size 0 _ _ _ hCl; simp [encE] at hj; subst hj; exact cell_of_row C Z.heap.size _ _ _ _ hCl)
 obtain ⟨v', w2, hrun, h1, h2, _, h3⟩ := run_append_own_at (P := Tryz.prog) C (G + 1) 106 106 135 i0 _ 5 40 Tryz.underlying106 hi0 hz0 hz1 hz2 rfl (by omega) (v i) (L i).length (eCells (L i)) (hEC.own i hi) ⟨Z.heap.size, 0, none⟩ 1 1 (encE e) rfl hsrc (fun u hu => by simp [encE] at hu; rcases hu with rfl | rfl | rfl | rfl | rfl <;> rfl) (by unfold maxLen; omega) (by omega) (by omega)
 rw [eCells_snoc] at h1
 have hG1 : (v i).ownBlock ≠ some G := fun q => by have := (ownsC_block (hEC.own i hi) G q).1; omega
 have hw2G : w2.heap[G]? = some (.cells (rowC K 1 (fun i _ => v i)) 106 (0, 0)) := (h2.block G (by omega) (fun q => hG1 q.symm)).trans hEC.blk
 have hsame : ∀ q, q < C.heap.size → (v i).ownBlock ≠ some q → w2.heap[q]? = C.heap[q]? := fun q hq hne => h2.block q hq (fun p => hne p.symm)
 have hv'G : v'.ownBlock ≠ some G := fun q => by rcases h3 with h3 | h3 <;> rw [h3] at q; exact hG1 q; injection q with q; omega
 have eC : (⟨G, i, none⟩ : Addr) = ⟨G, i * 1 + 0, none⟩ := by simp
 have oth : ∀ q, q ≠ G → (w2.setCell ⟨G, i, none⟩ v').heap[q]? = w2.heap[q]? := fun q hq => heap_setCell_other _ _ _ _ (by exact hq)
 have hgs : w2.grownBy (w2.setCell ⟨G, i, none⟩ v') (some G) := ⟨by first | rfl | simp, by first | rfl | simp, by first | rfl | simp, by first | exact Nat.le_refl _ | simp, fun q _ hne => oth q (fun p => hne (by rw [p]))⟩
 refine ⟨v', w2, by rw [← hC]; exact hrun, ?_, frozen_of_row _ _ _ _ _ hw2G, ⟨?_, fun j hj => ?_, fun j k hj hk hjk q hq => ?_⟩, ?_, ?_, fun q hq hne => ?_, ?_⟩
 ·rw [eC]; exact rowC_cell hw2G hi (by omega)
 ·rw [eC, rowC_set hw2G hi (by omega), rowC_congr2 (d := fun j _ => if j = i then v' else v j) (fun j _ m hm => by
   unfold updC
   by_cases q : j = i
   ·rw [if_pos ⟨q, by omega⟩, if_pos q]
   ·rw [if_neg (fun p => q p.1), if_neg q])]
 ·by_cases q : j = i
  ·subst q
   simp only [if_true]
   rw [List.length_append]
   exact grown_owns h1 hgs (fun q hq p => hv'G (by rw [hq]; exact p.symm))
  ·simp only [if_neg q]
   refine grown_owns (grown_owns (hEC.own j hj) h2 (fun p hp r => hE.apart j i hj hi q p hp r)) hgs (fun p hp r => ?_)
   have := (ownsC_block (hEC.own j hj) p hp).1
   injection r with r
   omega
 ·by_cases c1 : j = i <;> by_cases c2 : k = i
  ·exact absurd (c1.trans c2.symm) hjk
  ·simp only [if_pos c1] at hq
   simp only [if_neg c2]
   intro r
   rcases h3 with h3 | h3
   ·exact hE.apart i k hi hk (fun p => c2 p.symm) q (by rw [← h3]; exact hq) r
   ·have := (ownsC_block (hE.own k hk) q r).2
    rw [h3] at hq
    injection hq with hq
    omega
  ·simp only [if_neg c1] at hq
   simp only [if_pos c2]
   intro r
   rcases h3 with h3 | h3
   ·exact hE.apart j i hj hi c1 q hq (by rw [← h3]; exact r)
   ·have := (ownsC_block (hE.own j hj) q hq).2
    rw [h3] at r
    injection r with r
    omega
  ·simp only [if_neg c1] at hq
   simp only [if_neg c2]
   exact hE.apart j k hj hk hjk q hq
 ·have b1 : Below G Z C := hCb.mono (Nat.le_of_lt hGl)
  have b2 : Below G C w2 := (Below.refl _ _).grown h2 (by omega) (fun q hq => by have := (ownsC_block (hEC.own i hi) q hq).1; omega)
  exact (b1.trans b2).setCell (Nat.le_refl _) _
 ·rcases h3 with h3 | h3
  ·exact Or.inl h3
  ·exact Or.inr (by rw [h3, hCs])
 ·rw [hsame q (by omega) hne]
  exact hCb.block q hq
 ·have := h2.size; omega
structure EndsOk (w : World) (G K : Nat) (v : Nat → Value) (E : Nat → List En) : Prop where
 blk : w.heap[G]? = some (.cells (rowC K 1 (fun i _ => v i)) 106 (0, 0))
 row : ∀ i, i < K → ∃ ao cap, v i = .slice ao (E i).length cap ∧ ERow w ao (E i).length cap (EL (E i))
 ty : ∀ i, i < K → ∀ q, (v i).ownBlock = some q → ∃ cur, w.heap[q]? = some (.cells cur 135 (0, 0))
theorem EndsOk.below {w w' : World} {G K : Nat} {v : Nat → Value} {E : Nat → List En} (h : EndsOk w G K v E) (hb : Below w.heap.size w w') : EndsOk w' G K v E :=
 ⟨keep h.blk hb, fun i hi => by
  obtain ⟨ao, cap, e, h1⟩ := h.row i hi
  exact ⟨ao, cap, e, CRow.below h1 hb⟩, fun i hi q hq => by
  obtain ⟨cur, hc⟩ := h.ty i hi q hq
  exact ⟨cur, keep hc hb⟩⟩
structure SrtAt (w : World) (G K : Nat) (v : Nat → Value) (L E : Nat → List En) (k : Nat) : Prop where
 blk : w.heap[G]? = some (.cells (rowC K 1 (fun i _ => v i)) 106 (0, 0))
 own : ∀ i, i < K → k ≤ i → w.ownsRow (G + 1) 135 5 (v i) (L i).length (eCells (L i))
 row : ∀ i, i < k → ∃ ao cap, v i = .slice ao (E i).length cap ∧ ERow w ao (E i).length cap (EL (E i))
 ty : ∀ i, i < k → ∀ q, (v i).ownBlock = some q → ∃ cur, w.heap[q]? = some (.cells cur 135 (0, 0))
 apart : ∀ i j, i < K → j < K → i ≠ j → ∀ q, (v i).ownBlock = some q → (v j).ownBlock ≠ some q
theorem srt_next {w w' : World} {G K : Nat} {v : Nat → Value} {L E : Nat → List En} {k : Nat} (h : SrtAt w G K v L E k) (hk : k < K) (hg : w.grownBy w' (v k).ownBlock) (hr : ∃ ao cap, v k = .slice ao (E k).length cap ∧ ERow w' ao (E k).length cap (EL (E k))) (hty : ∀ q, (v k).ownBlock = some q → ∃ cur, w'.heap[q]? = some (.cells cur 135 (0, 0))) : SrtAt w' G K v L E (k + 1) := by
 have hGl : G < w.heap.size := (Array.getElem?_eq_some_iff.1 h.blk).1
 have hG1 : (v k).ownBlock ≠ some G := fun q => by have := (ownsC_block (h.own k hk (Nat.le_refl _)) G q).1; omega
 refine ⟨(hg.block G hGl (fun q => hG1 q.symm)).trans h.blk, fun i hi hki => grown_owns (h.own i hi (by omega)) hg (fun q hq p => h.apart i k hi hk (by omega) q hq p), fun i hi => ?_, fun i hi q hq => ?_, h.apart⟩
 rotate_left
 ·by_cases e : i = k
  ·subst e; exact hty q hq
  ·obtain ⟨cur, hc⟩ := h.ty i (by omega) q hq
   exact ⟨cur, (hg.block q (Array.getElem?_eq_some_iff.1 hc).1 (fun p => h.apart i k (by omega) hk e q hq p.symm)).trans hc⟩
 by_cases e : i = k
 ·subst e; exact hr
 ·obtain ⟨ao, cap, e1, h1⟩ := h.row i (by omega)
  refine ⟨ao, cap, e1, CRow.other h1 (fun b off hb hlt => hg.block b hlt (fun q => ?_)) hg.size⟩
  subst hb
  exact h.apart i k (by omega) hk e b (by rw [e1]; rfl) q.symm
end Go.Proofs.YtaneiffnhphkhaaGreatDoor
namespace Go.Proofs.YtaneiffnhphkhaaGreatDoor
namespace Pl
open Vc (V Of)
section
variable {ids : Nat → Int} {E : Nat → List En} {K : Nat}
theorem fin_edge (G : Good ids E K) {i : Nat} (hi : i < K) {e : En} (he : e ∈ E i) (hl : e.live = true) : le2 (fin ids E K i).v (fin ids E K e.other.toNat).v.root ((fin ids E K e.other.toNat).v.cost + e.cost) := by
 obtain ⟨vs, hw⟩ := fin_real G e.other.toNat (toNat_lt (G.lt i hi e he hl).1)
 exact fin_up G hi (Walk.over i e vs _ _ hi he hl hw)
theorem fin_bridge (i : Nat) : (fin ids E K i).v.bridge = ids i ∧ (fin ids E K i).v.port = 0 := rounds_bridge ids E K K i
theorem fin_cost (G : Good ids E K) {i : Nat} (hi : i < K) : 0 ≤ (fin ids E K i).v.cost ∧ (fin ids E K i).v.cost ≤ 28800000 := by
 have h := (rounds_inv G K G.few).1 i hi
 have := G.few
 have h2 : (fin ids E K i).v.cost = (rounds ids E K K i).v.cost := rfl
 omega
theorem fin_port (G : Good ids E K) {i : Nat} (hi : i < K) : ((fin ids E K i).rp = -1 ∧ (fin ids E K i).v.root = ids i ∧ (fin ids E K i).v.cost = 0) ∨
  (0 ≤ (fin ids E K i).rp ∧ (fin ids E K i).v.root < ids i ∧ ∃ e, e ∈ E i ∧ e.live = true ∧ e.port = (fin ids E K i).rp ∧ (fin ids E K i).v.root = (fin ids E K e.other.toNat).v.root ∧ (fin ids E K i).v.cost = (fin ids E K e.other.toNat).v.cost + e.cost ∧
   ∀ q, q ∈ E i → q.live = true → ¬ Vc.ahead (offerOf (fin ids E K) q) (offerOf (fin ids E K) e)) := by
 have hf := fin_fix G i hi
 obtain ⟨X, hX⟩ : ∃ X, X = fin ids E K := ⟨_, rfl⟩
 rw [← hX] at hf ⊢
 rcases chS_real (ids i) (offs (E i) X) with ⟨h, _⟩ | ⟨o, ho, hm, h, hn⟩
 ·rw [h] at hf
  rw [hf]
  exact Or.inl ⟨rfl, rfl, rfl⟩
 ·rw [h] at hf
  obtain ⟨e, h1, h2, rfl⟩ := offs_mem ho
  refine Or.inr ?_
  rw [hf]
  refine ⟨hm.2.1, hm.2.2.2, e, h1, h2, rfl, rfl, rfl, fun q hq hql => ?_⟩
  by_cases hmq : Vc.may (ids i) (offerOf X q)
  ·exact hn _ (mem_offs hq hql) hmq
  ·intro ha
   apply hmq
   have hB := (rounds_inv G K G.few).1
   have hk := G.few
   have hfit := fits G (x := X) (by rw [hX]; exact hB) (by omega) hi hq hql
   refine ⟨hfit, (G.lt i hi q hq hql).2.2, ⟨Int.le_refl _, show (0 : Int) < 20 by decide⟩, ?_⟩
   have hr : (offerOf X e).vec.root < ids i := hm.2.2.2
   have : (offerOf X q).v.root ≤ (offerOf X e).v.root := by
    rcases ha with ha | ⟨ha, _⟩
    ·unfold Vc.lt at ha; omega
    ·rw [ha]; exact Int.le_refl _
   have e1 : (offerOf X q).v.root = (offerOf X q).vec.root := rfl
   have e2 : (offerOf X e).v.root = (offerOf X e).vec.root := rfl
   omega
theorem Walk.last {i : Nat} {vs : List Nat} {ρ c : Int} (h : Walk ids E K i vs ρ c) : ∃ j, j < K ∧ ids j = ρ ∧ ∀ us ρ' c', Walk ids E K j us ρ' c' → ∃ ws d, Walk ids E K i ws ρ' d := by
 induction h with
 | here i hi => exact ⟨i, hi, rfl, fun us ρ' c' h => ⟨us, c', h⟩⟩
 | over i e vs ρ c hi he hl _ ih =>
  obtain ⟨j, hj, e1, h2⟩ := ih
  refine ⟨j, hj, e1, fun us ρ' c' h => ?_⟩
  obtain ⟨ws, d, hw⟩ := h2 us ρ' c' h
  exact ⟨_, _, Walk.over i e ws ρ' d hi he hl hw⟩
theorem fin_there (G : Good ids E K) {i : Nat} (hi : i < K) : ∃ k, k < K ∧ (fin ids E K k).v.root = (fin ids E K i).v.root ∧ (fin ids E K k).v.bridge = (fin ids E K k).v.root := by
 obtain ⟨vs, hw⟩ := fin_real G i hi
 obtain ⟨j, hj, e1, h2⟩ := hw.last
 obtain ⟨us, hu⟩ := fin_real G j hj
 obtain ⟨ws, d, h3⟩ := h2 us _ _ hu
 have a := fin_up G hi h3
 have b := fin_up G hj (Walk.here j hj)
 unfold le2 at a b
 have e : (fin ids E K j).v.root = (fin ids E K i).v.root := by omega
 exact ⟨j, hj, e, by rw [(fin_bridge j).1, e1, e]⟩
theorem someTo_iff {p : Nat → Bool} : ∀ {n : Nat}, Vc.someTo p n = true ↔ ∃ i, i < n ∧ p i = true
 | 0 => ⟨fun h => by simp [Vc.someTo] at h, fun ⟨i, hi, _⟩ => by omega⟩
 | n + 1 => by
  simp only [Vc.someTo, Bool.or_eq_true]
  rw [someTo_iff (n := n)]
  constructor
  ·rintro (⟨i, hi, h⟩ | h)
   ·exact ⟨i, by omega, h⟩
   ·exact ⟨n, by omega, h⟩
  ·rintro ⟨i, hi, h⟩
   by_cases e : i = n
   ·subst e; exact Or.inr h
   ·exact Or.inl ⟨i, by omega, h⟩
theorem role_eq {i : Nat} {x : Nat → St} {l : List En} (one : ∀ p q, p ∈ l → q ∈ l → p.port = q.port → p = q) {e : En} (he : e ∈ l) (hl : e.live = true) :
  roleAt (x i) (offs l x) e = if e.port = (x i).rp then 1 else if Vc.lt ⟨(x e.other.toNat).v.root, (x e.other.toNat).v.cost, (x e.other.toNat).v.bridge, e.oport⟩ ⟨(x i).v.root, (x i).v.cost, (x i).v.bridge, e.port⟩ then 3 else 2 := by
 unfold roleAt Vc.role
 rw [if_pos hl]
 by_cases h : e.port = (x i).rp
 ·rw [if_pos h, if_pos h]
 ·rw [if_neg h, if_neg h]
  have key : Vc.someTo (fun j => decide (Vc.hears (x i).v e.port (lf (offs l x) j))) (offs l x).length = true ↔ Vc.lt ⟨(x e.other.toNat).v.root, (x e.other.toNat).v.cost, (x e.other.toNat).v.bridge, e.oport⟩ ⟨(x i).v.root, (x i).v.cost, (x i).v.bridge, e.port⟩ := by
   rw [someTo_iff]
   constructor
   ·rintro ⟨j, hj, hh⟩
    have hh := of_decide_eq_true hh
    obtain ⟨q, q1, q2, q3⟩ := offs_mem (lf_mem hj)
    rw [q3] at hh
    obtain ⟨k1, _, k3⟩ := hh
    have := one q e q1 he k1
    subst this
    exact k3
   ·intro hlt
    obtain ⟨j, hj, e1⟩ := lf_of_mem (mem_offs (x := x) he hl)
    refine ⟨j, hj, decide_eq_true ?_⟩
    rw [e1]
    exact ⟨rfl, ⟨Int.le_refl _, show (0 : Int) ≤ 20 by decide⟩, hlt⟩
  by_cases hlt : Vc.lt ⟨(x e.other.toNat).v.root, (x e.other.toNat).v.cost, (x e.other.toNat).v.bridge, e.oport⟩ ⟨(x i).v.root, (x i).v.cost, (x i).v.bridge, e.port⟩
  ·rw [if_pos (key.2 hlt), if_pos hlt]
  ·rw [if_neg (fun q => hlt (key.1 q)), if_neg hlt]
end
section
variable {K L : Nat} {ls : Nat → Lk}
theorem three_ways {p q : Prop} [Decidable p] [Decidable q] {r : Int} (h : r = if p then 1 else if q then 3 else 2) : (p ∧ r = 1) ∨ (¬ p ∧ q ∧ r = 3) ∨ (¬ p ∧ ¬ q ∧ r = 2) := by
 by_cases h1 : p
 ·rw [if_pos h1] at h; exact Or.inl ⟨h1, h⟩
 ·rw [if_neg h1] at h
  by_cases h2 : q
  ·rw [if_pos h2] at h; exact Or.inr (Or.inl ⟨h1, h2, h⟩)
  ·rw [if_neg h2] at h; exact Or.inr (Or.inr ⟨h1, h2, h⟩)
def eA (l : Lk) (lv : Bool) : En := ⟨l.pa, l.cost, l.b, l.pb, lv⟩
def eB (l : Lk) (lv : Bool) : En := ⟨l.pb, l.cost, l.a, l.pa, lv⟩
theorem eA_mem (R : RightL K L ls) (lv : Nat → Bool) {k : Nat} (hk : k < L) : eA (ls k) (lv k) ∈ ends ls lv L (ls k).a.toNat :=
 ends_mem.2 ⟨k, hk, Or.inl ⟨by have := (R.ok k hk).1; omega, rfl⟩⟩
theorem eB_mem (R : RightL K L ls) (lv : Nat → Bool) {k : Nat} (hk : k < L) : eB (ls k) (lv k) ∈ ends ls lv L (ls k).b.toNat :=
 ends_mem.2 ⟨k, hk, Or.inr ⟨by have := (R.ok k hk).2.1; omega, rfl⟩⟩
def says (ids : Nat → Int) (ls : Nat → Lk) (lv : Nat → Bool) (K L : Nat) : Nat → St := fin ids (fun i => ends ls lv L i) K
theorem says_link (R : RightL K L ls) (hK : K ≤ 12) (ids : Nat → Int) (lv : Nat → Bool) {k : Nat} (hk : k < L) (hl : lv k = true) :
  (says ids ls lv K L (ls k).a.toNat).v.root = (says ids ls lv K L (ls k).b.toNat).v.root ∧
  (says ids ls lv K L (ls k).a.toNat).v.cost ≤ (says ids ls lv K L (ls k).b.toNat).v.cost + (ls k).cost ∧
  (says ids ls lv K L (ls k).b.toNat).v.cost ≤ (says ids ls lv K L (ls k).a.toNat).v.cost + (ls k).cost := by
 have G := good R hK ids lv
 obtain ⟨o1, o2, _⟩ := R.ok k hk
 have h1 := fin_edge G (i := (ls k).a.toNat) (by omega) (eA_mem R lv hk) hl
 have h2 := fin_edge G (i := (ls k).b.toNat) (by omega) (eB_mem R lv hk) hl
 unfold le2 eA at h1
 unfold le2 eB at h2
 simp only at h1 h2
 unfold says
 omega
theorem says_roles (R : RightL K L ls) (hK : K ≤ 12) (ids : Nat → Int) (hids : ∀ i j, i < K → j < K → ids i = ids j → i = j) (lv : Nat → Bool) {k : Nat} (hk : k < L) (hl : lv k = true) (ra rb : Int)
  (ea : ra = roleAt (says ids ls lv K L (ls k).a.toNat) (offs (ends ls lv L (ls k).a.toNat) (says ids ls lv K L)) (eA (ls k) (lv k)))
  (eb : rb = roleAt (says ids ls lv K L (ls k).b.toNat) (offs (ends ls lv L (ls k).b.toNat) (says ids ls lv K L)) (eB (ls k) (lv k))) :
  (ra = 2 ∧ (rb = 1 ∨ rb = 3)) ∨ (rb = 2 ∧ (ra = 1 ∨ ra = 3)) := by
 have G := good R hK ids lv
 obtain ⟨o1, o2, o3, o4, o5, o6⟩ := R.ok k hk
 have hlink := says_link R hK ids lv hk hl
 rw [role_eq (fun p q hp hq h => ends_one R lv hp hq h) (eA_mem R lv hk) hl] at ea
 rw [role_eq (fun p q hp hq h => ends_one R lv hp hq h) (eB_mem R lv hk) hl] at eb
 have na : (ls k).a.toNat < K := by omega
 have nb : (ls k).b.toNat < K := by omega
 have hne : ids (ls k).a.toNat ≠ ids (ls k).b.toNat := fun e => by have := hids _ _ na nb e; omega
 have ba := (fin_bridge (ids := ids) (E := fun i => ends ls lv L i) (K := K) (ls k).a.toNat).1
 have bb := (fin_bridge (ids := ids) (E := fun i => ends ls lv L i) (K := K) (ls k).b.toNat).1
 have pa := fin_port G na
 have pb := fin_port G nb
 change (says ids ls lv K L _).v.bridge = _ at ba bb
 have ca : (ls k).pa = (says ids ls lv K L (ls k).a.toNat).rp → (says ids ls lv K L (ls k).a.toNat).v.cost = (says ids ls lv K L (ls k).b.toNat).v.cost + (ls k).cost := by
  intro e
  rcases pa with ⟨h, _⟩ | ⟨_, _, q, q1, q2, q3, q4, q5, _⟩
  ·exfalso; change (says ids ls lv K L _).rp = -1 at h; omega
  ·have := ends_one R lv q1 (eA_mem R lv hk) (by rw [q3]; exact e.symm)
   subst this
   exact q5
 have cb : (ls k).pb = (says ids ls lv K L (ls k).b.toNat).rp → (says ids ls lv K L (ls k).b.toNat).v.cost = (says ids ls lv K L (ls k).a.toNat).v.cost + (ls k).cost := by
  intro e
  rcases pb with ⟨h, _⟩ | ⟨_, _, q, q1, q2, q3, q4, q5, _⟩
  ·exfalso; change (says ids ls lv K L _).rp = -1 at h; omega
  ·have := ends_one R lv q1 (eB_mem R lv hk) (by rw [q3]; exact e.symm)
   subst this
   exact q5
 have fa := three_ways ea
 have fb := three_ways eb
 clear ea eb pa pb
 unfold eA Vc.lt at fa
 unfold eB Vc.lt at fb
 simp only at fa fb
 rcases fa with ⟨c1, fa⟩ | ⟨c1, d1, fa⟩ | ⟨c1, d1, fa⟩ <;> rcases fb with ⟨c2, fb⟩ | ⟨c2, d2, fb⟩ | ⟨c2, d2, fb⟩
 ·have := ca c1; have := cb c2; omega
 ·have := ca c1; omega
 ·have := ca c1; omega
 ·have := cb c2; omega
 ·omega
 ·omega
 ·have := cb c2; omega
 ·omega
 ·omega
theorem Walk.more {ids : Nat → Int} {E E' : Nat → List En} (h : ∀ i, i < K → ∀ e, e ∈ E i → e.live = true → ∃ q, q ∈ E' i ∧ q.live = true ∧ q.other = e.other ∧ q.cost = e.cost) {i : Nat} {vs : List Nat} {ρ c : Int} (hw : Walk ids E K i vs ρ c) : Walk ids E' K i vs ρ c := by
 induction hw with
 | here i hi => exact Walk.here i hi
 | over i e vs ρ c hi he hl _ ih =>
  obtain ⟨q, q1, q2, q3, q4⟩ := h i hi e he hl
  rw [← q4]
  exact Walk.over i q vs ρ c hi q1 q2 (by rw [q3]; exact ih)
theorem says_more {ls' : Nat → Lk} (R : RightL K L ls) (R' : RightL K L ls') (hK : K ≤ 12) (ids : Nat → Int) (lv lv' : Nat → Bool) (hls : ∀ k, k < L → (ls' k).a = (ls k).a ∧ (ls' k).b = (ls k).b ∧ (ls' k).pa = (ls k).pa ∧ (ls' k).pb = (ls k).pb ∧ (ls' k).cost = (ls k).cost ∧ (lv k = true → lv' k = true)) {i : Nat} (hi : i < K) :
  le2 (says ids ls' lv' K L i).v (says ids ls lv K L i).v.root (says ids ls lv K L i).v.cost := by
 obtain ⟨vs, hw⟩ := fin_real (good R hK ids lv) i hi
 refine fin_up (good R' hK ids lv') hi (Walk.more (fun j hj e he hl => ?_) hw)
 obtain ⟨k, hk, h⟩ := ends_mem.1 he
 obtain ⟨a1, a2, a3, a4, a5, a6⟩ := hls k hk
 rcases h with ⟨h1, rfl⟩ | ⟨h1, rfl⟩
 ·exact ⟨_, ends_mem.2 ⟨k, hk, Or.inl ⟨by rw [a1]; exact h1, rfl⟩⟩, a6 hl, a2, a5⟩
 ·exact ⟨_, ends_mem.2 ⟨k, hk, Or.inr ⟨by rw [a2]; exact h1, rfl⟩⟩, a6 hl, a1, a5⟩
end
end Pl
end Go.Proofs.YtaneiffnhphkhaaGreatDoor
