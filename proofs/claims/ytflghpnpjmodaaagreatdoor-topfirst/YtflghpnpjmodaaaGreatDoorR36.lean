/- walks: hedgetop's line, ticks -/
import Derived.Test.YtflghpnpjmodaaaGreatDoorR33
import Derived.Test.YtflghpnpjmodaaaGreatDoorR35
import Derived.Test.YtflghpnpjmodaaaGreatDoorR19
import Derived.Test.YtflghpnpjmodaaaGreatDoorR01
import Derived.Test.YtflghpnpjmodaaaGreatDoorR18
import Derived.Maps.AppendAt
namespace Go.Proofs.YtflghpnpjmodaaaGreatDoor
open Go.RowKit
open Vc (V Of)
open Pl (Br Net Pc Lk En St LN)
open Tk (Md Mnd Cn Sc Dn)
structure Kp (w W : World) (g : Nat) : Prop where
 size : w.heap.size ≤ W.heap.size
 block : ∀ q, q < w.heap.size → q ≠ g → W.heap[q]? = w.heap[q]?
theorem Kp.refl (w : World) (g : Nat) : Kp w w g := ⟨Nat.le_refl _, fun _ _ _ => rfl⟩
theorem Kp.below {w W W' : World} {g : Nat} (h : Kp w W g) (hb : Below W.heap.size W W') : Kp w W' g := ⟨Nat.le_trans h.size hb.size, fun q hq hne => (hb.block q (Nat.lt_of_lt_of_le hq h.size)).trans (h.block q hq hne)⟩
theorem Kp.set {w W : World} {g o : Nat} {v : Value} (h : Kp w W g) : Kp w (W.setCell ⟨g, o, none⟩ v) g := ⟨by simpa using h.size, fun q hq hne => (heap_setCell_other _ _ _ _ (by exact hne)).trans (h.block q hq hne)⟩
theorem Kp.row {w W : World} {g : Nat} {ao : Option Addr} {n cap k : Nat} {c : Nat → Nat → Value} (h : Kp w W g) (hr : CRow w ao n cap k c) (hne : ∀ b off, ao = some ⟨b, off, none⟩ → b ≠ g) : CRow W ao n cap k c :=
 CRow.other hr (fun b off e hlt => h.block b hlt (hne b off e)) h.size
structure PrW (n : Net) (w w0 W : World) (g : Nat) (f : Nat → Nat) (sp : Array Value) (j : Nat) : Prop where
 row : W.heap[g]? = some (.cells (rowS sp n.K 5 (fun i => brC (if i < j then pbr n f i else n.bs i))) 58 (0, 0))
 prs : ∀ i, i < j → W.heap[f i]? = some (.cells #[.int .i64 4096, .int .i64 8192, .int .i64 12288, .int .i64 16384] 3 (0, 0))
 low : Below w.heap.size w W
 kept : Kp w0 W g
theorem PrW.cell {n : Net} {w w0 W : World} {g : Nat} {f : Nat → Nat} {sp : Array Value} {j : Nat} (h : PrW n w w0 W g f sp j) (hj : j < n.K) : W.cell? ⟨g, j * 5 + 1, none⟩ = some (.slice (n.bs j).pao (n.bs j).pn (n.bs j).pcap) ∧ W.frozen? ⟨g, j * 5 + 1, none⟩ = false := by
 have h1 := rowS_cell h.row hj (show 1 < 5 by omega)
 simp only [Nat.lt_irrefl, if_false] at h1
 exact ⟨h1, frozen_of_row _ _ _ _ _ h.row⟩
set_option maxHeartbeats 1000000 in
theorem PrW.step {n : Net} {w w0 W : World} {g : Nat} {f : Nat → Nat} {sp : Array Value} {j : Nat} (h : PrW n w w0 W g f sp j) (hj : j < n.K) (hg : w.heap.size ≤ g) :
  PrW n w w0 ((W.setCell ⟨g, j * 5 + 1, none⟩ (.slice (some ⟨W.heap.size, 0, none⟩) 4 4)).alloc (.cells #[.int .i64 4096, .int .i64 8192, .int .i64 12288, .int .i64 16384] 3)) g (fun i => if i = j then W.heap.size else f i) sp (j + 1) := by
 obtain ⟨U, hU⟩ : ∃ U, U = W.setCell ⟨g, j * 5 + 1, none⟩ (.slice (some ⟨W.heap.size, 0, none⟩) 4 4) := ⟨_, rfl⟩
 have hUs : U.heap.size = W.heap.size := by rw [hU]; simp
 have hB : Below U.heap.size U (U.alloc (.cells #[.int .i64 4096, .int .i64 8192, .int .i64 12288, .int .i64 16384] 3)) := below_alloc1 _ _
 have hlow : Below w.heap.size w U := by rw [hU]; exact h.low.setCell hg _
 have hgl : g < W.heap.size := (Array.getElem?_eq_some_iff.1 h.row).1
 rw [← hU]
 refine ⟨?_, fun i hi => ?_, hlow.trans (hB.mono (by rw [hUs]; exact h.low.size)), (by rw [hU]; exact h.kept.set : Kp w0 U g).below hB⟩
 ·have h1 := rowS_set h.row hj (show 1 < 5 by omega) (.slice (some ⟨W.heap.size, 0, none⟩) 4 4)
  rw [← hU] at h1
  rw [keep h1 hB]
  rw [rowS_congr2 (d := fun i => brC (if i < j + 1 then pbr n (fun i => if i = j then W.heap.size else f i) i else n.bs i)) sp (fun i hi k hk => ?_)]
  unfold updC
  show (if i = j ∧ k = 1 then Value.slice (some ⟨W.heap.size, 0, none⟩) 4 4 else brC (if i < j then pbr n f i else n.bs i) k) = brC (if i < j + 1 then pbr n (fun i => if i = j then W.heap.size else f i) i else n.bs i) k
  by_cases e : i = j
  ·subst e
   rw [if_pos (show i < i + 1 by omega), if_neg (Nat.lt_irrefl i)]
   by_cases e2 : k = 1
   ·subst e2
    rw [if_pos ⟨rfl, rfl⟩]
    unfold pbr brC
    simp
   ·rw [if_neg (fun z => e2 z.2)]
    rcases (by omega : k = 0 ∨ k = 2 ∨ k = 3 ∨ k = 4) with q | q | q | q <;> subst q <;> rfl
  ·rw [if_neg (fun z => e z.1)]
   by_cases e2 : i < j
   ·rw [if_pos e2, if_pos (show i < j + 1 by omega)]
    unfold pbr
    simp only [if_neg e]
   ·rw [if_neg e2, if_neg (show ¬ i < j + 1 by omega)]
 ·by_cases e : i = j
  ·simp only [if_pos e]
   rw [← hUs]
   exact heap_alloc_last _ _
  ·simp only [if_neg e]
   have h1 := h.prs i (by omega)
   have h2 : f i ≠ g := fun q => by rw [q] at h1; exact absurd (cells_type h1 h.row) (by decide)
   refine keep ?_ hB
   rw [hU]
   exact set_keep h1 h2
theorem PrW.net {n : Net} {w w0 W : World} {g cap : Nat} {f : Nat → Nat} {sp : Array Value} (h : PrW n w w0 W g f sp n.K) (hat : n.at' w) (hc : n.K ≤ cap) : (mNet n g cap f).at' W := by
 have hn := hat.below h.low
 refine ⟨?_, fun i hi => ?_, hn.lks, hn.manyB, hn.manyL⟩
 ·have h1 := h.row
  rw [rowS_congr2 (d := fun i => brC (pbr n f i)) sp (fun i hi k _ => by rw [if_pos hi])] at h1
  exact rowS_crow h1 hc
 ·have hi : i < n.K := hi
  have h1 := h.prs i hi
  obtain ⟨_, b2, _, b4⟩ := hn.each i hi
  refine ⟨⟨Nat.le_refl _, fun _ => ⟨f i, 0, rfl, (Array.getElem?_eq_some_iff.1 h1).1, fun k hk m hm => ?_⟩⟩, b2, show 4 ≤ 9223372036854775807 by omega, b4⟩
  obtain rfl : m = 0 := by omega
  have hk : k < 4 := hk
  rcases (by omega : k = 0 ∨ k = 1 ∨ k = 2 ∨ k = 3) with e | e | e | e <;> subst e <;> exact cell_of_row W (f i) _ _ _ _ h1
def BlAt (W : World) (g n : Nat) (th : Nat → Bool) : Prop := W.heap[g]? = some (.cells (rowC n 1 (fun i _ => .bool (th i))) 4 (0, 0))
theorem BlAt.cell {W : World} {g n : Nat} {th : Nat → Bool} (h : BlAt W g n th) {i : Nat} (hi : i < n) : W.cell? ⟨g, i, none⟩ = some (.bool (th i)) ∧ W.frozen? ⟨g, i, none⟩ = false := by
 have h1 := rowC_cell h hi (show 0 < 1 by omega)
 rw [show i * 1 + 0 = i by omega] at h1
 exact ⟨h1, frozen_of_row _ _ _ _ _ h⟩
theorem BlAt.set {W : World} {g n : Nat} {th : Nat → Bool} (h : BlAt W g n th) {i : Nat} (hi : i < n) (z : Bool) : BlAt (W.setCell ⟨g, i, none⟩ (.bool z)) g n (fun j => if j = i then z else th j) := by
 have h0 := rowC_set h hi (show 0 < 1 by omega) (.bool z)
 rw [show i * 1 + 0 = i by omega] at h0
 unfold BlAt
 rw [h0, rowC_congr2 (d := fun j _ => .bool (if j = i then z else th j)) (fun j _ m hm => ?_)]
 unfold updC
 obtain rfl : m = 0 := by omega
 by_cases e : j = i
 ·rw [if_pos ⟨e, rfl⟩, if_pos e]
 ·rw [if_neg (fun q => e q.1), if_neg e]
theorem BlAt.congr {W : World} {g n : Nat} {th h : Nat → Bool} (hr : BlAt W g n th) (e : ∀ i, i < n → th i = h i) : BlAt W g n h := by
 unfold BlAt at hr ⊢
 rw [hr, rowC_congr2 (fun i hi j _ => by rw [e i hi])]
theorem u_finT {X V W0 W : World} {n : Net} {trees : Int} {ds : Nat → Dn} {dn : Nat} {na : Option Addr} {nk nc : Nat} {la : Option Addr} {lk lc : Nat} {oa : Option Addr} {ol oc : Nat} {f1 f2 : Int} {g7 g8 g9 : Nat} (hR : PlF V W0 n trees ds dn na nk nc la lk lc oa ol oc f1 f2) (hb : Below W0.heap.size W0 W) (hX : Below X.heap.size X W)
  (hk : W.heap[g7]? = some (.cells #[.slice none 0 0, .slice none 0 0] 32 (0, 0)) ∧ W.heap[g8]? = some (.cells #[.slice none 0 0] 43 (0, 0)) ∧ W.heap[g9]? = some (.cells #[.int .i64 0, .int .i64 0] 26 (0, 0))) (hl : X.heap.size ≤ g7 ∧ X.heap.size ≤ g8 ∧ X.heap.size ≤ g9)
  (hz : (g7 < V.heap.size ∨ W0.heap.size ≤ g7) ∧ (g8 < V.heap.size ∨ W0.heap.size ≤ g8) ∧ (g9 < V.heap.size ∨ W0.heap.size ≤ g9)) {Z : World} (HZ : Z = boxes5 W g7 g8 g9 na nk nc la lk lc oa ol oc f1 f2) :
  Below X.heap.size X Z ∧ (∀ U, Below Z.heap.size Z U → U.cell? ⟨g9, 0, none⟩ = some (.int .i64 f1)) ∧ (f1 ≠ 0 ∨ ((plErr n trees ds dn).1 = 0 ∧ f1 = 0 ∧ ∃ (n' : Net) (t' : List Tr), (na = n'.bao ∧ n'.K = nk ∧ nc = n'.bcap) ∧ (la = n'.lao ∧ n'.L = lk ∧ lc = n'.lcap) ∧ t'.length = ol ∧
   ∀ U, Below Z.heap.size Z U → SnOut U n trees.toNat ((n.sc (startMs n)).all n.cn ds dn) n' oa oc t' ∧ U.heap[g7]? = some (.cells #[.slice na nk nc, .slice la lk lc] 32 (0, 0)) ∧ U.heap[g8]? = some (.cells #[.slice oa ol oc] 43 (0, 0)))) := by
 obtain ⟨k7, k8, k9⟩ := hk
 obtain ⟨l7, l8, l9⟩ := hl
 obtain ⟨z7, z8, z9⟩ := hz
 have n78 : g7 ≠ g8 := fun e => by subst e; exact absurd (cells_type k7 k8) (by decide)
 have n79 : g7 ≠ g9 := fun e => by subst e; exact absurd (cells_type k7 k9) (by decide)
 have n89 : g8 ≠ g9 := fun e => by subst e; exact absurd (cells_type k8 k9) (by decide)
 unfold boxes5 at HZ
 have y7 : Z.heap[g7]? = some (.cells #[.slice na nk nc, .slice la lk lc] 32 (0, 0)) := by rw [HZ]; exact set_keep (set_keep (set_keep (set2_same k7) n78) n79) n79
 have y8 : Z.heap[g8]? = some (.cells #[.slice oa ol oc] 43 (0, 0)) := by rw [HZ]; exact set_keep (set_keep (set1_same (set_keep (set_keep k8 n78.symm) n78.symm)) n89) n89
 have y9 : Z.heap[g9]? = some (.cells #[.int .i64 f1, .int .i64 f2] 26 (0, 0)) := by rw [HZ]; exact set2_same (set_keep (set_keep (set_keep k9 n79.symm) n79.symm) n89.symm)
 have zs : Z.heap.size = W.heap.size := by rw [HZ]; simp
 have hZX : Below X.heap.size X Z := by rw [HZ]; exact ((((hX.setCell l7 _).setCell l7 _).setCell l8 _).setCell l9 _).setCell l9 _
 refine ⟨hZX, fun U hU => (two_cells2 (keep y9 hU)).1, ?_⟩
 rcases hR with ⟨q, ⟨rfl, rfl⟩, _⟩ | ⟨q, ⟨rfl, rfl⟩, n', t', ⟨rfl, rfl, rfl⟩, ⟨rfl, rfl, rfl⟩, rfl, b, hVb, hK⟩
 ·exact Or.inl q
 ·exact Or.inr ⟨q, rfl, n', t', ⟨rfl, rfl, rfl⟩, ⟨rfl, rfl, rfl⟩, rfl, fun U hU => ⟨boxes_kept hK hVb hb z7 z8 z9 (by rw [← HZ, ← zs]; exact hU), keep y7 hU, keep y8 hU⟩⟩
end Go.Proofs.YtflghpnpjmodaaaGreatDoor
namespace Go.Proofs.YtflghpnpjmodaaaGreatDoor
open Go.RowKit
theorem append_at (w : World) (t e : TypeId) (z : Value) (k bytes : Nat) (ht : Tryz.prog.underlying t = some (.slice e)) (hinfo : (Tryz.prog.info? e).map (fun i => (i.zero, i.size, i.bytes)) = some (some z, k, bytes)) (hzk : z.cells.size = k) (hk : 0 < k)
  (base : Nat) (v : Value) (n : Nat) (c : Nat → Nat → Value) (hown : w.ownsRow base e k v n (cellsL n k c)) (ad : Addr) (m cp : Nat) (d : Nat → Nat → Value) (hd : ∀ i j, (d i j).oneCell' = true) (hr : CRow w (some ad) m cp k d) (h63 : n + m ≤ maxLen) (hb : (n + m) * bytes ≤ 140737488355328) (hbase : base ≤ w.heap.size) :
  ∃ a1 c1 w', (Builtin.append_ #[t, t] t #[v, .slice (some ad) m cp]).run Tryz.prog w = .ok (.slice a1 (n + m) c1) w' ∧ w'.ownsRow base e k (.slice a1 (n + m) c1) (n + m) (cellsL (n + m) k (catC n c d)) ∧ w.grownBy w' v.ownBlock ∧ Below base w w' ∧ ((Value.slice a1 (n + m) c1).ownBlock = v.ownBlock ∨ (Value.slice a1 (n + m) c1).ownBlock = some w.heap.size) := by
 obtain ⟨i0, hi, hz0, hz1, hz2⟩ := info_parts hinfo
 obtain ⟨v', w', hrun, h1, h2, _, h3⟩ := run_append_own_at (P := Tryz.prog) w base t t e i0 z k bytes ht hi hz0 hz1 hz2 hzk hk v n _ hown ad m cp (cellsL m k d) (cellsL_length _ _ _) (src_cells hk hr rfl) (cellsL_one _ _ _ hd) h63 hb hbase
 rw [cellsL_cat n m k hk] at h1
 obtain ⟨a1, c1, rfl, _⟩ := owns_c hk h1
 exact ⟨a1, c1, w', hrun, h1, h2, (Below.refl _ _).grown h2 hbase (fun q hq => (ownsC_block hown q hq).1), h3⟩
end Go.Proofs.YtflghpnpjmodaaaGreatDoor
namespace Go.Proofs.YtflghpnpjmodaaaGreatDoor
open Go.RowKit
open Vc (V Of)
open Pl (Br Net Pc Lk En St)
theorem infoBgU : (Tryz.prog.info? 58).map (fun i => (i.zero, i.size, i.bytes)) = some (some (.agg #[.int .u64 0, .slice none 0 0, .string ⟨#[]⟩, .int .i64 0, .slice none 0 0]), 5, 80) := by kernel_rfl
theorem one_br_u {w : World} {g : Nat} {b : Br} {ty : TypeId} (h : w.heap[g]? = some (.cells (brA b) ty (0, 0))) : BRow w (some ⟨g, 0, none⟩) 1 1 (fun _ => b) := by
 refine ⟨Nat.le_refl _, fun _ => ⟨g, 0, rfl, (Array.getElem?_eq_some_iff.1 h).1, fun i hi j hj => ?_⟩⟩
 obtain rfl : i = 0 := by omega
 rcases (by omega : j = 0 ∨ j = 1 ∨ j = 2 ∨ j = 3 ∨ j = 4) with e | e | e | e | e <;> subst e <;> exact cell_of_row w g _ _ _ _ h
theorem one_lk_u {w : World} {g : Nat} {l : Lk} {ty : TypeId} (h : w.heap[g]? = some (.cells (lkA l) ty (0, 0))) : LRow w (some ⟨g, 0, none⟩) 1 1 (fun _ => l) := by
 refine ⟨Nat.le_refl _, fun _ => ⟨g, 0, rfl, (Array.getElem?_eq_some_iff.1 h).1, fun i hi j hj => ?_⟩⟩
 obtain rfl : i = 0 := by omega
 rcases (by omega : j = 0 ∨ j = 1 ∨ j = 2 ∨ j = 3 ∨ j = 4 ∨ j = 5) with e | e | e | e | e | e <;> subst e <;> exact cell_of_row w g _ _ _ _ h
structure NetW (w1 W : World) (bs : Nat → Br) (ls : Nat → Lk) (M t s : Nat) (v5 v6 : Value) : Prop where
 low : Below M w1 W
 box : W.heap[M]? = some (.cells #[v5, v6] 32 (0, 0))
 brs : W.ownsRow (M + 1) 58 5 v5 t (cellsL t 5 (fun i => brC (bs i)))
 lks : W.ownsRow (M + 1) 83 6 v6 s (cellsL s 6 (fun j => lkC (ls j)))
 apart : ∀ q, v5.ownBlock = some q → v6.ownBlock ≠ some q
theorem NetW.below {w1 W W' : World} {bs : Nat → Br} {ls : Nat → Lk} {M t s : Nat} {v5 v6 : Value} (h : NetW w1 W bs ls M t s v5 v6) (hb : Below W.heap.size W W') : NetW w1 W' bs ls M t s v5 v6 :=
 ⟨h.low.trans (hb.mono (Nat.le_of_lt (Array.getElem?_eq_some_iff.1 h.box).1)), keep h.box hb, ownsC_below h.brs hb, ownsC_below h.lks hb, h.apart⟩
theorem kept_u {W W' : World} {base e k n : Nat} {v u : Value} {xs : List Value} (h : W.ownsRow base e k v n xs) (hg : W.grownBy W' u.ownBlock) (hne : ∀ q, v.ownBlock = some q → u.ownBlock ≠ some q) : W'.ownsRow base e k v n xs := by
 refine h.kept hg ?_
 cases hv : v.ownBlock with
 | none => exact Or.inl rfl
 | some q => exact Or.inr (fun e => hne q hv e.symm)
set_option maxHeartbeats 1000000 in
theorem net_br {w1 W : World} {bs : Nat → Br} {ls : Nat → Lk} {M i s : Nat} {v5 v6 : Value} (h : NetW w1 W bs ls M i s v5 v6) (hi : i ≤ 1000000) :
  ∃ a1 c1 w2, (Builtin.append_ #[29, 29] 29 #[v5, .slice (some ⟨W.heap.size, 0, none⟩) 1 1]).run Tryz.prog (W.alloc (.cells (brA (bs i)) 58)) = .ok (.slice a1 (i + 1) c1) w2 ∧ Below M w1 w2 ∧ w2.cell? ⟨M, 0, none⟩ = some v5 ∧ w2.frozen? ⟨M, 0, none⟩ = false ∧
   NetW w1 (w2.setCell ⟨M, 0, none⟩ (.slice a1 (i + 1) c1)) bs ls M (i + 1) s (.slice a1 (i + 1) c1) v6 := by
 obtain ⟨C, hC⟩ : ∃ C, C = W.alloc (.cells (brA (bs i)) 58) := ⟨_, rfl⟩
 have hCB : Below W.heap.size W C := by rw [hC]; exact below_alloc1 _ _
 have hCs : C.heap.size = W.heap.size + 1 := by rw [hC]; simp
 have hCl : C.heap[W.heap.size]? = some (.cells (brA (bs i)) 58 (0, 0)) := by rw [hC]; exact heap_alloc_last _ _
 have hMl : M < W.heap.size := (Array.getElem?_eq_some_iff.1 h.box).1
 have hN := h.below hCB
 obtain ⟨a1, c1, w2, r, ho, hg, hb, hw⟩ := append_at C 29 58 _ 5 80 Tryz.underlying29 infoBgU rfl (by omega) (M + 1) v5 i (fun q => brC (bs q)) hN.brs ⟨W.heap.size, 0, none⟩ 1 1 (fun _ => brC (bs i)) (fun _ j => brC_one _ j) (one_br_u hCl) (by unfold maxLen; omega) (by omega) (by omega)
 rw [cellsL_congr (i + 1) 5 _ (fun q => brC (bs q)) (fun q hq => by
  unfold catC
  by_cases c : q < i
  ·rw [if_pos c]
  ·rw [if_neg c, show q = i by omega])] at ho
 have hMne : v5.ownBlock ≠ some M := fun e => by have := (ownsC_block hN.brs M e).1; omega
 have hM6 : v6.ownBlock ≠ some M := fun e => by have := (ownsC_block hN.lks M e).1; omega
 have hbox2 : w2.heap[M]? = some (.cells #[v5, v6] 32 (0, 0)) := (hg.block M (by omega) (fun e => hMne e.symm)).trans hN.box
 have hvM : (Value.slice a1 (i + 1) c1).ownBlock ≠ some M := fun e => by
  rcases hw with hw | hw
  ·rw [hw] at e; exact hMne e
  ·rw [hw] at e; injection e with e; omega
 have hlow2 : Below M w1 w2 := hN.low.trans (hb.mono (by omega))
 have hgs : w2.grownBy (w2.setCell ⟨M, 0, none⟩ (.slice a1 (i + 1) c1)) (some M) := by
  have bz : Below 0 w2 (w2.setCell ⟨M, 0, none⟩ (.slice a1 (i + 1) c1)) := (Below.refl 0 w2).setCell (Nat.zero_le _) _
  exact ⟨bz.os, bz.tape, bz.output, bz.size, fun q hq hne => heap_setCell_other _ _ _ _ (by exact fun e => hne (by rw [e]))⟩
 have hap : ∀ q, (Value.slice a1 (i + 1) c1).ownBlock = some q → v6.ownBlock ≠ some q := fun q hq e => by
  rcases hw with hw | hw
  ·rw [hw] at hq; exact h.apart q hq e
  ·have := (ownsC_block h.lks q e).2
   rw [hw] at hq
   injection hq with hq
   omega
 refine ⟨a1, c1, w2, by rw [← hC]; exact r, hlow2, (two_cells2 hbox2).1, lk_free0 hbox2 _, ⟨hlow2.setCell (Nat.le_refl _) _, ?_, ?_, ?_, hap⟩⟩
 ·rw [heap_setCell_same _ _ _ _ _ _ hbox2]; rfl
 ·refine ho.kept hgs ?_
  cases hv : (Value.slice a1 (i + 1) c1).ownBlock with
  | none => exact Or.inl rfl
  | some q => exact Or.inr (fun e => hvM (by rw [hv]; exact e))
 ·have h6 := kept_u hN.lks hg (fun q hq e => hN.apart q e hq)
  refine h6.kept hgs ?_
  cases hv : v6.ownBlock with
  | none => exact Or.inl rfl
  | some q => exact Or.inr (fun e => hM6 (by rw [hv]; exact e))
set_option maxHeartbeats 1000000 in
theorem net_lk {w1 W : World} {bs : Nat → Br} {ls : Nat → Lk} {M t i : Nat} {v5 v6 : Value} (h : NetW w1 W bs ls M t i v5 v6) (hi : i ≤ 1000000) :
  ∃ a1 c1 w2, (Builtin.append_ #[30, 30] 30 #[v6, .slice (some ⟨W.heap.size, 0, none⟩) 1 1]).run Tryz.prog (W.alloc (.cells (lkA (ls i)) 83)) = .ok (.slice a1 (i + 1) c1) w2 ∧ Below M w1 w2 ∧ w2.cell? ⟨M, 1, none⟩ = some v6 ∧ w2.frozen? ⟨M, 1, none⟩ = false ∧
   NetW w1 (w2.setCell ⟨M, 1, none⟩ (.slice a1 (i + 1) c1)) bs ls M t (i + 1) v5 (.slice a1 (i + 1) c1) := by
 obtain ⟨C, hC⟩ : ∃ C, C = W.alloc (.cells (lkA (ls i)) 83) := ⟨_, rfl⟩
 have hCB : Below W.heap.size W C := by rw [hC]; exact below_alloc1 _ _
 have hCs : C.heap.size = W.heap.size + 1 := by rw [hC]; simp
 have hCl : C.heap[W.heap.size]? = some (.cells (lkA (ls i)) 83 (0, 0)) := by rw [hC]; exact heap_alloc_last _ _
 have hMl : M < W.heap.size := (Array.getElem?_eq_some_iff.1 h.box).1
 have hN := h.below hCB
 obtain ⟨a1, c1, w2, r, ho, hg, hb, hw⟩ := append_at C 30 83 _ 6 48 Tryz.underlying30 infoLk rfl (by omega) (M + 1) v6 i (fun q => lkC (ls q)) hN.lks ⟨W.heap.size, 0, none⟩ 1 1 (fun _ => lkC (ls i)) (fun _ j => lkC_one _ j) (one_lk_u hCl) (by unfold maxLen; omega) (by omega) (by omega)
 rw [cellsL_congr (i + 1) 6 _ (fun q => lkC (ls q)) (fun q hq => by
  unfold catC
  by_cases c : q < i
  ·rw [if_pos c]
  ·rw [if_neg c, show q = i by omega])] at ho
 have hMne : v6.ownBlock ≠ some M := fun e => by have := (ownsC_block hN.lks M e).1; omega
 have hM5 : v5.ownBlock ≠ some M := fun e => by have := (ownsC_block hN.brs M e).1; omega
 have hbox2 : w2.heap[M]? = some (.cells #[v5, v6] 32 (0, 0)) := (hg.block M (by omega) (fun e => hMne e.symm)).trans hN.box
 have hvM : (Value.slice a1 (i + 1) c1).ownBlock ≠ some M := fun e => by
  rcases hw with hw | hw
  ·rw [hw] at e; exact hMne e
  ·rw [hw] at e; injection e with e; omega
 have hlow2 : Below M w1 w2 := hN.low.trans (hb.mono (by omega))
 have hgs : w2.grownBy (w2.setCell ⟨M, 1, none⟩ (.slice a1 (i + 1) c1)) (some M) := by
  have bz : Below 0 w2 (w2.setCell ⟨M, 1, none⟩ (.slice a1 (i + 1) c1)) := (Below.refl 0 w2).setCell (Nat.zero_le _) _
  exact ⟨bz.os, bz.tape, bz.output, bz.size, fun q hq hne => heap_setCell_other _ _ _ _ (by exact fun e => hne (by rw [e]))⟩
 have hap : ∀ q, v5.ownBlock = some q → (Value.slice a1 (i + 1) c1).ownBlock ≠ some q := fun q hq e => by
  rcases hw with hw | hw
  ·rw [hw] at e; exact h.apart q hq e
  ·have := (ownsC_block h.brs q hq).2
   rw [hw] at e
   injection e with e
   omega
 refine ⟨a1, c1, w2, by rw [← hC]; exact r, hlow2, (two_cells2 hbox2).2, lk_free0 hbox2 _, ⟨hlow2.setCell (Nat.le_refl _) _, ?_, ?_, ?_, hap⟩⟩
 ·rw [heap_setCell_same _ _ _ _ _ _ hbox2]; rfl
 ·have h5 := kept_u hN.brs hg (fun q hq e => hN.apart q hq e)
  refine h5.kept hgs ?_
  cases hv : v5.ownBlock with
  | none => exact Or.inl rfl
  | some q => exact Or.inr (fun e => hM5 (by rw [hv]; exact e))
 ·refine ho.kept hgs ?_
  cases hv : (Value.slice a1 (i + 1) c1).ownBlock with
  | none => exact Or.inl rfl
  | some q => exact Or.inr (fun e => hvM (by rw [hv]; exact e))
end Go.Proofs.YtflghpnpjmodaaaGreatDoor
namespace Go.Proofs.YtflghpnpjmodaaaGreatDoor
open Go.RowKit
open Vc (V Of)
open Pl (Br Net Pc Lk En St)
open Tk (Md Mnd Cn Sc Dn ten yes)
structure LineW (base : Nat) (W : World) (ls : Nat → Lk) (k L : Nat) (v5 v6 : Value) : Prop where
 brs : W.ownsRow base 58 5 v5 k (cellsL k 5 (fun i => brC (bsL i)))
 lks : W.ownsRow base 83 6 v6 L (cellsL L 6 (fun j => lkC (ls j)))
 apart : ∀ q, v5.ownBlock = some q → v6.ownBlock ≠ some q
theorem LineW.below {base : Nat} {W W' : World} {ls : Nat → Lk} {k L : Nat} {v5 v6 : Value} (h : LineW base W ls k L v5 v6) (hb : Below W.heap.size W W') : LineW base W' ls k L v5 v6 := ⟨ownsC_below h.brs hb, ownsC_below h.lks hb, h.apart⟩
theorem LineW.set {base g o : Nat} {x : Value} {W : World} {ls : Nat → Lk} {k L : Nat} {v5 v6 : Value} (h : LineW base W ls k L v5 v6) (hg : g < base) : LineW base (W.setCell ⟨g, o, none⟩ x) ls k L v5 v6 := by
 have hgs : W.grownBy (W.setCell ⟨g, o, none⟩ x) (some g) := by
  have bz : Below 0 W (W.setCell ⟨g, o, none⟩ x) := (Below.refl 0 W).setCell (Nat.zero_le _) _
  exact ⟨bz.os, bz.tape, bz.output, bz.size, fun q hq hne => heap_setCell_other _ _ _ _ (by exact fun e => hne (by rw [e]))⟩
 refine ⟨h.brs.kept hgs ?_, h.lks.kept hgs ?_, h.apart⟩
 ·cases hv : v5.ownBlock with
  | none => exact Or.inl rfl
  | some q => exact Or.inr (fun e => by have := (ownsC_block h.brs q hv).1; injection e with e; omega)
 ·cases hv : v6.ownBlock with
  | none => exact Or.inl rfl
  | some q => exact Or.inr (fun e => by have := (ownsC_block h.lks q hv).1; injection e with e; omega)
theorem line_fin {w w1 W : World} {ls : Nat → Lk} {M R t s : Nat} {v5 v6 : Value} (h : NetW w1 W bsL ls M t s v5 v6) (hR : W.heap[R]? = some (.cells #[.slice none 0 0, .slice none 0 0] 32 (0, 0))) (hlt : R < M) (hb : Below R w W) :
  ((W.setCell ⟨R, 0, none⟩ v5).setCell ⟨R, 1, none⟩ v6).heap[R]? = some (.cells #[v5, v6] 32 (0, 0)) ∧ LineW (M + 1) ((W.setCell ⟨R, 0, none⟩ v5).setCell ⟨R, 1, none⟩ v6) ls t s v5 v6 ∧ Below R w ((W.setCell ⟨R, 0, none⟩ v5).setCell ⟨R, 1, none⟩ v6) := by
 refine ⟨?_, ?_, (hb.setCell (Nat.le_refl _) _).setCell (Nat.le_refl _) _⟩
 ·have h1 := set_at (i := 0) (v := v5) hR
  have h2 := set_at (i := 1) (v := v6) h1
  rw [h2]
  rfl
 ·have h0 : LineW (M + 1) W ls t s v5 v6 := ⟨h.brs, h.lks, h.apart⟩
  exact (h0.set (by omega)).set (by omega)
set_option maxHeartbeats 1000000 in
theorem uticks_any (x : Int) (w : World) : Calls Tryz.prog 16 #[.int .i64 x] w fun e w' => e = .returned (.agg #[.int .i64 1, .int .i64 x, .int .i64 0, .int .i64 0]) ∧ Below w.heap.size w w' := by
 go_enter Tryz.func16, Tryz.ntmps16
 go_wp2_with fail
 exact bodyPost_ret (v := .agg #[.int .i64 1, .int .i64 x, .int .i64 0, .int .i64 0]) (results_row (p := 2) (ty := 47) Tryz.results16 _ _ w.heap.size 47 _ (0, 0) _ rfl (heap_alloc_last _ _) Tryz.underlying47 rfl (by rw [sizeDo]; rfl)) rfl ⟨rfl, below_alloc1 _ _⟩
set_option maxRecDepth 100000 in
set_option maxHeartbeats 4000000 in
theorem uline_any (k : Nat) (ring : Bool) (w : World) (hk : k ≤ 1000) : Calls Tryz.prog 14 #[.int .i64 (k : Int), .bool ring] w fun e w' => ∃ a5 c5 a6 c6, e = .returned (.agg #[.slice a5 k c5, .slice a6 (lnL k ring) c6]) ∧ Hid (LineW (w.heap.size + 2) w' (Pl.lnk k ten yes) k (lnL k ring) (.slice a5 k c5) (.slice a6 (lnL k ring) c6) ∧ Below w.heap.size w w') := by
 obtain ⟨w1, Hw1⟩ : ∃ w1, Hid (w1 = w.alloc (.cells #[.slice none 0 0, .slice none 0 0] 32)) := ⟨_, rfl⟩
 have h1B : Below w.heap.size w w1 := by rw [Hw1.out]; exact below_alloc1 _ _
 have h1s : w1.heap.size = w.heap.size + 1 := by rw [Hw1.out]; simp
 have h1n : w1.heap[w.heap.size]? = some (.cells #[.slice none 0 0, .slice none 0 0] 32 (0, 0)) := by rw [Hw1.out]; exact heap_alloc_last _ _
 obtain ⟨M, HM⟩ : ∃ M, Hid (M = w.heap.size + 1) := ⟨_, rfl⟩
 obtain ⟨X, HX⟩ : ∃ X, Hid (X = w1.alloc (.cells #[.slice none 0 0, .slice none 0 0] 32)) := ⟨_, rfl⟩
 have H0 : Hid (NetW w1 X bsL (Pl.lnk k ten yes) M 0 (0 - 1) (.slice none 0 0) (.slice none 0 0)) := by
  have e : M = w1.heap.size := by rw [HM.out, h1s]
  rw [e, HX.out]
  exact ⟨below_alloc1 _ _, heap_alloc_last _ _, ownsC_nil _ _ _ _ _, ownsC_nil _ _ _ _ _, fun q hq => by simp [Value.ownBlock] at hq⟩
 have HR : Hid (∀ W, Below M w1 W → W.heap[w.heap.size]? = some (.cells #[.slice none 0 0, .slice none 0 0] 32 (0, 0)) ∧ Below w.heap.size w W) := fun W hW => ⟨(hW.block _ (by rw [HM.out]; omega)).trans h1n, h1B.trans (hW.mono (by rw [HM.out]; omega))⟩
 clear h1B h1n
 go_enter Tryz.func14, Tryz.ntmps14
 go_wp2_with fail
 rw [← Hw1.out, ← HX.out]
 rw [← HM.out]
 go_loopw [8] (fun i wr => ∃ (m : Nat) (v5 v6 : Value), m ≤ k ∧ i = .int .i64 m ∧ Hid (NetW w1 wr bsL (Pl.lnk k ten yes) M m (m - 1) v5 v6)) (fun i _ => k - (intOf i).toNat)
 case atStart => exact ⟨0, _, _, by omega, rfl, H0⟩
 case round =>
  obtain ⟨m, v5, v6, hm, rfl, hN⟩ := hrel
  clear H0
  by_cases hlt : m < k
  ·have hi : (m : Int) < (k : Int) := by omega
   obtain ⟨a1, c1, w2, hap, hlo2, hcell2, hfz2, hN2⟩ := net_br hN.out (by omega)
   have HAP : Hid ((Builtin.append_ #[29, 29] 29 #[v5, .slice (some ⟨wr.heap.size, 0, none⟩) 1 1]).run Tryz.prog (wr.alloc (.cells #[.int .u64 (10 + (m : Int)), .slice none 0 0, .string ⟨#[114]⟩, .int .i64 0, .slice none 0 0] 58)) = .ok (.slice a1 (m + 1) c1) w2) := hap
   obtain ⟨g0, _⟩ := two_cells2 hN.out.box
   have hMl : M < wr.heap.size := (Array.getElem?_eq_some_iff.1 hN.out.box).1
   have wa : IntKind.i64.wrap (10 + (m : Int)) = 10 + (m : Int) := by rw [IntKind.wrap_i64]; omega
   have wb : IntKind.u64.wrap (10 + (m : Int)) = 10 + (m : Int) := by rw [IntKind.wrap_u64]; omega
   have wc : IntKind.i64.wrap ((m : Int) + 1) = (m : Int) + 1 := by rw [IntKind.wrap_i64]; omega
   have HN2 : Hid (NetW w1 (w2.setCell ⟨M, 0, none⟩ (.slice a1 (m + 1) c1)) bsL (Pl.lnk k ten yes) M (m + 1) (m - 1) (.slice a1 (m + 1) c1) v6) := hN2
   clear hap hN hN2 hlo2
   by_cases h0 : m = 0
   ·have HN0 : Hid (NetW w1 (w2.setCell ⟨M, 0, none⟩ (.slice a1 (m + 1) c1)) bsL (Pl.lnk k ten yes) M (m + 1) (m + 1 - 1) (.slice a1 (m + 1) c1) v6) := by
     have h := HN2.out
     rw [show m - 1 = m + 1 - 1 by omega] at h
     exact h
    have hneg : ¬ (0 : Int) < (m : Int) := by omega
    have hnegN : ¬ 0 < m := by omega
    clear h0 HN2
    go_wp2_with (at_builtin; refine wpList_append_run rfl (.tmp 12) (.tmp 18) 29 rfl _ _ _ rfl rfl HAP.out ?_; clear HAP)
    exact ⟨⟨m + 1, _, _, by omega, by go_num, HN0⟩, by simp [intOf]; omega⟩
   ·obtain ⟨p, hp⟩ : ∃ p, m = p + 1 := ⟨m - 1, by omega⟩
    obtain ⟨W3, HW3⟩ : ∃ W3, Hid (W3 = w2.setCell ⟨M, 0, none⟩ (.slice a1 (m + 1) c1)) := ⟨_, rfl⟩
    have HN3 : Hid (NetW w1 W3 bsL (Pl.lnk k ten yes) M (m + 1) p (.slice a1 (m + 1) c1) v6) := by
     have h := HN2.out
     rw [show m - 1 = p by omega] at h
     rw [HW3.out]
     exact h
    obtain ⟨a3, c3, w4, hap, hlo4, hcell4, hfz4, hN4⟩ := net_lk HN3.out (by omega)
    have HAL : Hid ((Builtin.append_ #[30, 30] 30 #[v6, .slice (some ⟨w2.heap.size, 0, none⟩) 1 1]).run Tryz.prog ((w2.setCell ⟨M, 0, none⟩ (.slice a1 (m + 1) c1)).alloc (.cells #[.int .i64 (p : Int), .int .i64 2, .int .i64 (m : Int), .int .i64 1, .int .i64 10, .bool true] 83)) = .ok (.slice a3 (p + 1) c3) w4) := by
     have e : lkA (Pl.lnk k ten yes p) = #[.int .i64 (p : Int), .int .i64 2, .int .i64 (m : Int), .int .i64 1, .int .i64 10, .bool true] := by
      unfold Pl.lnk
      rw [if_neg (by omega), hp]
      rfl
     have hs : W3.heap.size = w2.heap.size := by rw [HW3.out]; simp
     rw [e, hs, HW3.out] at hap
     exact hap
    obtain ⟨_, g3⟩ := two_cells2 HN3.out.box
    have hMl3 : M < W3.heap.size := (Array.getElem?_eq_some_iff.1 HN3.out.box).1
    have HN4 : Hid (NetW w1 (w4.setCell ⟨M, 1, none⟩ (.slice a3 (p + 1) c3)) bsL (Pl.lnk k ten yes) M (m + 1) (m + 1 - 1) (.slice a1 (m + 1) c1) (.slice a3 (p + 1) c3)) := by
     rw [show m + 1 - 1 = p + 1 by omega]
     exact hN4
    have wd : IntKind.i64.wrap ((m : Int) - 1) = (p : Int) := by rw [IntKind.wrap_i64]; omega
    have pos : (0 : Int) < (m : Int) := by omega
    have posN : 0 < m := by omega
    rw [HW3.out] at g3 hMl3
    clear hap hN4 hlo4 HN3 HN2 hp h0
    go_wp2_with (at_builtin; first | (refine wpList_append_run rfl (.tmp 12) (.tmp 18) 29 rfl _ _ _ rfl rfl HAP.out ?_; clear HAP) | (refine wpList_append_run rfl (.tmp 24) (.tmp 29) 30 rfl _ _ _ rfl rfl HAL.out ?_; clear HAL))
    exact ⟨⟨m + 1, _, _, by omega, by go_num, HN4⟩, by simp [intOf]; omega⟩
  ·obtain rfl : m = k := by omega
   have hi : ¬ (m : Int) < (m : Int) := by omega
   obtain ⟨a5, c5, e5, _⟩ := owns_c (by omega) hN.out.brs
   obtain ⟨a6, c6, e6, _⟩ := owns_c (by omega) hN.out.lks
   subst e5
   subst e6
   have hMl : M < wr.heap.size := (Array.getElem?_eq_some_iff.1 hN.out.box).1
   by_cases hr : ring = true ∧ 2 < m
   ·obtain ⟨rfl, h2⟩ := hr
    obtain ⟨p, hp⟩ : ∃ p, m = p + 1 := ⟨m - 1, by omega⟩
    have HN3 : Hid (NetW w1 wr bsL (Pl.lnk m ten yes) M m p (.slice a5 m c5) (.slice a6 (m - 1) c6)) := by
     have h := hN.out
     rw [show m - 1 = p by omega] at h ⊢
     exact h
    obtain ⟨a3, c3, w4, hap, hlo4, hcell4, hfz4, hN4⟩ := net_lk HN3.out (by omega)
    have HAL : Hid ((Builtin.append_ #[30, 30] 30 #[.slice a6 (m - 1) c6, .slice (some ⟨wr.heap.size, 0, none⟩) 1 1]).run Tryz.prog (wr.alloc (.cells #[.int .i64 (p : Int), .int .i64 2, .int .i64 0, .int .i64 1, .int .i64 10, .bool true] 83)) = .ok (.slice a3 m c3) w4) := by
     have e : lkA (Pl.lnk m ten yes p) = #[.int .i64 (p : Int), .int .i64 2, .int .i64 0, .int .i64 1, .int .i64 10, .bool true] := by
      unfold Pl.lnk
      rw [if_pos hp.symm]
      rfl
     rw [e, ← hp] at hap
     exact hap
    obtain ⟨_, g3⟩ := two_cells2 HN3.out.box
    have wd : IntKind.i64.wrap ((m : Int) - 1) = (p : Int) := by rw [IntKind.wrap_i64]; omega
    have h2i : (2 : Int) < (m : Int) := by omega
    obtain ⟨W5, HW5⟩ : ∃ W5, Hid (W5 = w4.setCell ⟨M, 1, none⟩ (.slice a3 m c3)) := ⟨_, rfl⟩
    have HN5 : Hid (NetW w1 W5 bsL (Pl.lnk m ten yes) M m m (.slice a5 m c5) (.slice a3 m c3)) := by
     rw [HW5.out]
     have h := hN4
     rw [← hp] at h
     exact h
    rw [← hp] at hN4
    obtain ⟨r5, b5⟩ := HR.out W5 HN5.out.low
    obtain ⟨r0, r1⟩ := two_cells2 r5
    have f0 := lk_free0 r5 0
    have f1 := lk_free0 r5 1
    obtain ⟨m0, m1⟩ := two_cells2 HN5.out.box
    have HF : Hid _ := line_fin HN5.out r5 (by rw [HM.out]; omega) b5
    have hl : lnL m true = m := by unfold lnL; rw [if_pos ⟨rfl, h2⟩]
    rw [HW5.out] at r0 r1 f0 f1 m0 m1 HF
    clear hap hN4 hlo4 HN3 hN HR r5 b5 hp HN5
    go_wp2_with (at_builtin; refine wpList_append_run rfl (.tmp 39) (.tmp 43) 30 rfl _ _ _ rfl rfl HAL.out ?_; clear HAL)
    obtain ⟨y1, y2, y3⟩ := HF.out
    exact bodyPost_ret (v := .agg #[.slice a5 m c5, .slice a3 m c3]) (results_row (p := 4) (ty := 32) Tryz.results14 _ _ w.heap.size 32 _ (0, 0) _ rfl y1 Tryz.underlying32 rfl (by rw [sizeNet]; rfl)) rfl ⟨_, _, _, _, rfl, (by have e : M + 1 = w.heap.size + 2 := by { rw [HM.out] }; rw [← e]; exact ⟨y2, y3⟩)⟩
   ·have HN5 : Hid (NetW w1 wr bsL (Pl.lnk m ten yes) M m (m - 1) (.slice a5 m c5) (.slice a6 (m - 1) c6)) := hN.out
    obtain ⟨r5, b5⟩ := HR.out wr HN5.out.low
    obtain ⟨r0, r1⟩ := two_cells2 r5
    have f0 := lk_free0 r5 0
    have f1 := lk_free0 r5 1
    obtain ⟨m0, m1⟩ := two_cells2 HN5.out.box
    have HF : Hid _ := line_fin HN5.out r5 (by rw [HM.out]; omega) b5
    have hl : lnL m ring = m - 1 := by unfold lnL; rw [if_neg hr]
    clear hN HR r5 b5
    have key : ring = false ∨ (ring = true ∧ ¬ (2 : Int) < (m : Int)) := by
     cases ring with
     | false => exact Or.inl rfl
     | true => exact Or.inr ⟨rfl, fun z => hr ⟨rfl, by omega⟩⟩
    rcases key with rfl | ⟨rfl, h2⟩
    ·go_wp2_with fail
     obtain ⟨y1, y2, y3⟩ := HF.out
     exact bodyPost_ret (v := .agg #[.slice a5 m c5, .slice a6 (m - 1) c6]) (results_row (p := 4) (ty := 32) Tryz.results14 _ _ w.heap.size 32 _ (0, 0) _ rfl y1 Tryz.underlying32 rfl (by rw [sizeNet]; rfl)) rfl ⟨_, _, _, _, rfl, (by have e : M + 1 = w.heap.size + 2 := by { rw [HM.out] }; rw [← e]; exact ⟨y2, y3⟩)⟩
    ·go_wp2_with fail
     obtain ⟨y1, y2, y3⟩ := HF.out
     exact bodyPost_ret (v := .agg #[.slice a5 m c5, .slice a6 (m - 1) c6]) (results_row (p := 4) (ty := 32) Tryz.results14 _ _ w.heap.size 32 _ (0, 0) _ rfl y1 Tryz.underlying32 rfl (by rw [sizeNet]; rfl)) rfl ⟨_, _, _, _, rfl, (by have e : M + 1 = w.heap.size + 2 := by { rw [HM.out] }; rw [← e]; exact ⟨y2, y3⟩)⟩
end Go.Proofs.YtflghpnpjmodaaaGreatDoor
