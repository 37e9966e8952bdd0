/- Plain: a scene: a net and its bridges' minds; what is done with it; what stays as it was -/
import Derived.Test.YtflghpnpjmodaaaGreatDoorK20
import Derived.Test.YtflghpnpjmodaaaGreatDoorK03
import Derived.Test.YtflghpnpjmodaaaGreatDoorK14
import Derived.Maps.AppendAt
namespace Go.Proofs.YtflghpnpjmodaaaGreatDoor
open Go.RowKit
open Vc (V Of)
open Pl (Br Net Pc Lk En St)

def regR : Rg.Reg := ⟨⟨#[114]⟩, 0, none, 0, 0, fun _ => 0, fun _ => 0⟩
def bsTwo (i : Nat) : Br := ⟨(i : Int) + 1, none, 0, 0, fun _ => 0, regR⟩
def lsTwo (_ : Nat) : Lk := ⟨0, 1, 1, 2, 5, true⟩
/-- The net of two bridges. -/
def netTwo (b1 b2 : Nat) : Net := ⟨some ⟨b1, 0, none⟩, 2, 2, bsTwo, some ⟨b2, 0, none⟩, 1, 1, lsTwo⟩
theorem sizeNet : (Tryz.prog.info? 32).map (·.size) = some 2 := by kernel_rfl
theorem two_at {W : World} {b1 b2 : Nat} {t1 t2 : TypeId} (h1 : W.heap[b1]? = some (.cells #[.int .u64 1, .slice none 0 0, .string ⟨#[114]⟩, .int .i64 0, .slice none 0 0, .int .u64 2, .slice none 0 0, .string ⟨#[114]⟩, .int .i64 0, .slice none 0 0] t1 (0, 0))) (h2 : W.heap[b2]? = some (.cells #[.int .i64 0, .int .i64 1, .int .i64 1, .int .i64 2, .int .i64 5, .bool true] t2 (0, 0))) : (netTwo b1 b2).at' W := by
  refine ⟨⟨Nat.le_refl _, fun _ => ⟨b1, 0, rfl, (Array.getElem?_eq_some_iff.1 h1).1, fun i hi j hj => ?_⟩⟩, fun i hi => ⟨CRow.none _ _ _ _ _, ⟨Nat.le_refl _, fun q => absurd q (Nat.lt_irrefl 0)⟩, Nat.zero_le _, Nat.zero_le _⟩, ⟨Nat.le_refl _, fun _ => ⟨b2, 0, rfl, (Array.getElem?_eq_some_iff.1 h2).1, fun i hi j hj => ?_⟩⟩, by simp [netTwo], by simp [netTwo]⟩
  · have hi : i < 2 := hi
    rcases (by omega : i = 0 ∨ i = 1) with e | e <;> subst e <;> rcases (by omega : j = 0 ∨ j = 1 ∨ j = 2 ∨ j = 3 ∨ j = 4) with e | e | e | e | e <;> subst e <;> exact cell_of_row W b1 _ _ _ _ h1
  · have hi : i < 1 := hi
    obtain rfl : i = 0 := by omega
    rcases (by omega : j = 0 ∨ j = 1 ∨ j = 2 ∨ j = 3 ∨ j = 4 ∨ j = 5) with e | e | e | e | e | e <;> subst e <;> exact cell_of_row W b2 _ _ _ _ h2
theorem two_wf (b1 b2 : Nat) : (netTwo b1 b2).Wf := by
  refine ⟨fun i hi => ?_, fun i _ => ⟨show (Lit.int .i64 0).wf = true by decide, show (Lit.int .i64 1).wf = true by decide, show (Lit.int .i64 1).wf = true by decide, show (Lit.int .i64 2).wf = true by decide⟩⟩
  have hi : i < 2 := hi
  rcases (by omega : i = 0 ∨ i = 1) with e | e <;> subst e
  · show (Lit.int .u64 1).wf = true; decide
  · show (Lit.int .u64 2).wf = true; decide
theorem two_right (b1 b2 : Nat) : (netTwo b1 b2).wrong.1 = 0 := by
  have h1 : Pl.bErr bsTwo 0 = 0 := by kernel_rfl
  have h2 : Pl.bErr bsTwo 1 = 0 := by kernel_rfl
  have h3 : Pl.lErr 2 lsTwo 0 = 0 := by kernel_rfl
  have hb : Pl.firstTo (Pl.bErr bsTwo) 2 = (0, 0) := Pl.firstTo_all _ _ (fun i hi => by rcases (by omega : i = 0 ∨ i = 1) with e | e <;> subst e; exact h1; exact h2)
  have hl : Pl.firstTo (Pl.lErr 2 lsTwo) 1 = (0, 0) := Pl.firstTo_all _ _ (fun i hi => by rw [show i = 0 by omega]; exact h3)
  show (if 12 < 2 ∨ 40 < 1 then ((5 : Int), (0 : Int)) else if (Pl.firstTo (Pl.bErr bsTwo) 2).1 ≠ 0 then Pl.firstTo (Pl.bErr bsTwo) 2 else Pl.firstTo (Pl.lErr 2 lsTwo) 1).1 = 0
  rw [hb, hl]
  rfl
def e2a : En := ⟨1, 5, 1, 2, true⟩
def e2b : En := ⟨2, 5, 0, 1, true⟩
def E2 (i : Nat) : List En := if i = 0 then [e2a] else if i = 1 then [e2b] else []
def ids2 (i : Nat) : Int := 32768 * 281474976710656 + ((i : Int) + 1)
theorem two_ids (b1 b2 : Nat) : (netTwo b1 b2).ids 0 = ids2 := by
  funext i
  show (if (0 : Int) ≤ 0 ∧ (0 : Int) ≤ ((0 : Nat) : Int) - 1 then (0 : Int) else 32768) * 281474976710656 + ((i : Int) + 1) = _
  rw [if_neg (by decide)]
  rfl
theorem two_live (b1 b2 : Nat) (k : Nat) : (netTwo b1 b2).live k = true := by
  show (true && decide (strOf 50 regR.id = strOf 50 regR.id)) = true
  simp
theorem two_ends (b1 b2 : Nat) : (netTwo b1 b2).ends = E2 := by
  funext i
  show (([] ++ Pl.endsAt (lsTwo 0) ((netTwo b1 b2).live 0) i) : List En).mergeSort Pl.leP = E2 i
  rw [two_live]
  unfold Pl.endsAt E2 lsTwo
  by_cases h0 : i = 0
  · subst h0; simp [e2a]
  · by_cases h1 : i = 1
    · subst h1; simp [e2b]
    · rw [if_neg (by show ¬ (0 : Int) = (i : Int); omega), if_neg (by show ¬ (1 : Int) = (i : Int); omega), if_neg h0, if_neg h1]
      simp
/-- How the two stand. -/
theorem two_stand : (Pl.rounds ids2 E2 2 2 1).rp = 2 ∧ (Pl.rounds ids2 E2 2 2 1).v.cost = 5 ∧ (Pl.rounds ids2 E2 2 2 0).rp = -1 ∧ Pl.roleAt (Pl.rounds ids2 E2 2 2 0) (Pl.offs (E2 0) (Pl.rounds ids2 E2 2 2)) e2a = 2 := ⟨by kernel_rfl, by kernel_rfl, by kernel_rfl, by kernel_rfl⟩
theorem infoLk : (Tryz.prog.info? 83).map (fun i => (i.zero, i.size, i.bytes)) = some (some (.agg #[.int .i64 0, .int .i64 0, .int .i64 0, .int .i64 0, .int .i64 0, .bool false]), 6, 48) := by kernel_rfl
/-- What Plan answers. -/
def PlRes (n : Net) (tree : Int) (base : Nat) (w : World) (a : Option Addr) (k c : Nat) (f1 f2 : Int) : Prop :=
  (n.wrong.1 ≠ 0 ∧ (a = none ∧ k = 0 ∧ c = 0) ∧ (f1, f2) = n.wrong) ∨ (n.wrong.1 = 0 ∧ ¬ (0 ≤ tree ∧ tree ≤ 15) ∧ (a = none ∧ k = 0 ∧ c = 0) ∧ f1 = 3 ∧ f2 = 0) ∨
    (n.wrong.1 = 0 ∧ (0 ≤ tree ∧ tree ≤ 15) ∧ ∃ P, (a = some ⟨P, 0, none⟩ ∧ k = n.K ∧ c = n.K) ∧ (f1 = 0 ∧ f2 = 0) ∧ PlacesAt w P n.K (Pl.rounds (n.ids tree) n.ends n.K n.K) n.ends n.K ∧ base ≤ P)
theorem PlRes.below {n : Net} {tree : Int} {base : Nat} {w w' : World} {a : Option Addr} {k c : Nat} {f1 f2 : Int} (h : PlRes n tree base w a k c f1 f2) (hb : Below w.heap.size w w') : PlRes n tree base w' a k c f1 f2 := by
  rcases h with h | h | ⟨h1, h2, P, h3, h4, h5, h6⟩
  · exact Or.inl h
  · exact Or.inr (Or.inl h)
  · exact Or.inr (Or.inr ⟨h1, h2, P, h3, h4, h5.below hb, h6⟩)
theorem PlRes.mono {n : Net} {tree : Int} {base base' : Nat} {w : World} {a : Option Addr} {k c : Nat} {f1 f2 : Int} (h : PlRes n tree base w a k c f1 f2) (hb : base' ≤ base) : PlRes n tree base' w a k c f1 f2 := by
  rcases h with h | h | ⟨h1, h2, P, h3, h4, h5, h6⟩
  · exact Or.inl h
  · exact Or.inr (Or.inl h)
  · exact Or.inr (Or.inr ⟨h1, h2, P, h3, h4, h5, Nat.le_trans hb h6⟩)
/-- The fault is told in a block of its own. -/
theorem PlRes.told {n : Net} {tree : Int} {base : Nat} {w : World} {a : Option Addr} {k c : Nat} {f1 f2 : Int} {T : Nat} (h : PlRes n tree base w a k c f1 f2) (hT : w.heap[T]? = some (.cells #[.int .i64 0, .int .i64 0] 26 (0, 0))) : PlRes n tree base ((w.setCell ⟨T, 0, none⟩ (.int .i64 f1)).setCell ⟨T, 1, none⟩ (.int .i64 f2)) a k c f1 f2 := by
  rcases h with h | h | ⟨h1, h2, P, h3, ⟨rfl, rfl⟩, h5, h6⟩
  · exact Or.inl h
  · exact Or.inr (Or.inl h)
  · exact Or.inr (Or.inr ⟨h1, h2, P, h3, ⟨rfl, rfl⟩, h5.below (below_same hT), h6⟩)
theorem pplan_res (n : Net) (tree : Int) (w : World) (hat : n.at' w) (hwf : n.Wf) (ht : Tabs w) (hbt : 2 ≤ w.heap.size) :
    Calls Tryz.prog 13 #[n.val, .int .i64 tree] w fun e w' => ∃ a k c f1 f2, e = .returned (.tuple #[.slice a k c, .agg #[.int .i64 f1, .int .i64 f2]]) ∧ Hid (Below w.heap.size w w' ∧ PlRes n tree w.heap.size w' a k c f1 f2) := by
  refine (pplan_any n tree w hat hwf ht hbt).mono ?_
  rintro e w' ⟨hb, ⟨q, rfl⟩ | ⟨q, q2, rfl⟩ | ⟨q, q2, P, rfl, q3, q4⟩⟩
  · exact ⟨none, 0, 0, n.wrong.1, n.wrong.2, rfl, hb, Or.inl ⟨q, ⟨rfl, rfl, rfl⟩, rfl⟩⟩
  · exact ⟨none, 0, 0, 3, 0, rfl, hb, Or.inr (Or.inl ⟨q, q2, ⟨rfl, rfl, rfl⟩, rfl, rfl⟩)⟩
  · exact ⟨_, _, _, 0, 0, rfl, hb, Or.inr (Or.inr ⟨q, q2, P, ⟨rfl, rfl, rfl⟩, ⟨rfl, rfl⟩, q3, q4⟩)⟩
end Go.Proofs.YtflghpnpjmodaaaGreatDoor

namespace Go.Proofs.YtflghpnpjmodaaaGreatDoor
open Go.RowKit

theorem append_at (w : World) (t e : TypeId) (z : Value) (k bytes : Nat) (ht : Tryz.prog.underlying t = some (.slice e)) (hinfo : (Tryz.prog.info? e).map (fun i => (i.zero, i.size, i.bytes)) = some (some z, k, bytes)) (hzk : z.cells.size = k) (hk : 0 < k)
    (base : Nat) (v : Value) (n : Nat) (c : Nat → Nat → Value) (hown : w.ownsRow base e k v n (cellsL n k c)) (ad : Addr) (m cp : Nat) (d : Nat → Nat → Value) (hd : ∀ i j, (d i j).oneCell' = true) (hr : CRow w (some ad) m cp k d) (h63 : n + m ≤ maxLen) (hb : (n + m) * bytes ≤ 140737488355328) (hbase : base ≤ w.heap.size) :
    ∃ a1 c1 w', (Builtin.append_ #[t, t] t #[v, .slice (some ad) m cp]).run Tryz.prog w = .ok (.slice a1 (n + m) c1) w' ∧ w'.ownsRow base e k (.slice a1 (n + m) c1) (n + m) (cellsL (n + m) k (catC n c d)) ∧ w.grownBy w' v.ownBlock ∧ Below base w w' ∧ ((Value.slice a1 (n + m) c1).ownBlock = v.ownBlock ∨ (Value.slice a1 (n + m) c1).ownBlock = some w.heap.size) := by
  obtain ⟨i0, hi, hz0, hz1, hz2⟩ := info_parts hinfo
  obtain ⟨v', w', hrun, h1, h2, _, h3⟩ := run_append_own_at (P := Tryz.prog) w base t t e i0 z k bytes ht hi hz0 hz1 hz2 hzk hk v n _ hown ad m cp (cellsL m k d) (cellsL_length _ _ _) (src_cells hk hr rfl) (cellsL_one _ _ _ hd) h63 hb hbase
  rw [cellsL_cat n m k hk] at h1
  obtain ⟨a1, c1, rfl, _⟩ := owns_c hk h1
  exact ⟨a1, c1, w', hrun, h1, h2, (Below.refl _ _).grown h2 hbase (fun q hq => (ownsC_block hown q hq).1), h3⟩
end Go.Proofs.YtflghpnpjmodaaaGreatDoor

namespace Go.Proofs.YtflghpnpjmodaaaGreatDoor
open Go.RowKit
open Vc (V Of)
open Pl (Br Net Pc Lk En St)

theorem infoBgU : (Tryz.prog.info? 58).map (fun i => (i.zero, i.size, i.bytes)) = some (some (.agg #[.int .u64 0, .slice none 0 0, .string ⟨#[]⟩, .int .i64 0, .slice none 0 0]), 5, 80) := by kernel_rfl
theorem one_br_u {w : World} {g : Nat} {b : Br} {ty : TypeId} (h : w.heap[g]? = some (.cells (brA b) ty (0, 0))) : BRow w (some ⟨g, 0, none⟩) 1 1 (fun _ => b) := by
  refine ⟨Nat.le_refl _, fun _ => ⟨g, 0, rfl, (Array.getElem?_eq_some_iff.1 h).1, fun i hi j hj => ?_⟩⟩
  obtain rfl : i = 0 := by omega
  rcases (by omega : j = 0 ∨ j = 1 ∨ j = 2 ∨ j = 3 ∨ j = 4) with e | e | e | e | e <;> subst e <;> exact cell_of_row w g _ _ _ _ h
theorem one_lk_u {w : World} {g : Nat} {l : Lk} {ty : TypeId} (h : w.heap[g]? = some (.cells (lkA l) ty (0, 0))) : LRow w (some ⟨g, 0, none⟩) 1 1 (fun _ => l) := by
  refine ⟨Nat.le_refl _, fun _ => ⟨g, 0, rfl, (Array.getElem?_eq_some_iff.1 h).1, fun i hi j hj => ?_⟩⟩
  obtain rfl : i = 0 := by omega
  rcases (by omega : j = 0 ∨ j = 1 ∨ j = 2 ∨ j = 3 ∨ j = 4 ∨ j = 5) with e | e | e | e | e | e <;> subst e <;> exact cell_of_row w g _ _ _ _ h
/-- The net that is built: t bridges, s links so far; M: its box. -/
structure NetW (w1 W : World) (bs : Nat → Br) (ls : Nat → Lk) (M t s : Nat) (v5 v6 : Value) : Prop where
  low : Below M w1 W
  box : W.heap[M]? = some (.cells #[v5, v6] 32 (0, 0))
  brs : W.ownsRow (M + 1) 58 5 v5 t (cellsL t 5 (fun i => brC (bs i)))
  lks : W.ownsRow (M + 1) 83 6 v6 s (cellsL s 6 (fun j => lkC (ls j)))
  apart : ∀ q, v5.ownBlock = some q → v6.ownBlock ≠ some q
theorem NetW.below {w1 W W' : World} {bs : Nat → Br} {ls : Nat → Lk} {M t s : Nat} {v5 v6 : Value} (h : NetW w1 W bs ls M t s v5 v6) (hb : Below W.heap.size W W') : NetW w1 W' bs ls M t s v5 v6 :=
  ⟨h.low.trans (hb.mono (Nat.le_of_lt (Array.getElem?_eq_some_iff.1 h.box).1)), keep h.box hb, ownsC_below h.brs hb, ownsC_below h.lks hb, h.apart⟩
theorem kept_u {W W' : World} {base e k n : Nat} {v u : Value} {xs : List Value} (h : W.ownsRow base e k v n xs) (hg : W.grownBy W' u.ownBlock) (hne : ∀ q, v.ownBlock = some q → u.ownBlock ≠ some q) : W'.ownsRow base e k v n xs := by
  refine h.kept hg ?_
  cases hv : v.ownBlock with
  | none => exact Or.inl rfl
  | some q => exact Or.inr (fun e => hne q hv e.symm)
set_option maxHeartbeats 1000000 in
/-- ONE BRIDGE MORE: what 'append' does, and the store behind it. -/
theorem net_br {w1 W : World} {bs : Nat → Br} {ls : Nat → Lk} {M i s : Nat} {v5 v6 : Value} (h : NetW w1 W bs ls M i s v5 v6) (hi : i ≤ 1000000) :
    ∃ a1 c1 w2, (Builtin.append_ #[29, 29] 29 #[v5, .slice (some ⟨W.heap.size, 0, none⟩) 1 1]).run Tryz.prog (W.alloc (.cells (brA (bs i)) 58)) = .ok (.slice a1 (i + 1) c1) w2 ∧ Below M w1 w2 ∧ w2.cell? ⟨M, 0, none⟩ = some v5 ∧ w2.frozen? ⟨M, 0, none⟩ = false ∧
      NetW w1 (w2.setCell ⟨M, 0, none⟩ (.slice a1 (i + 1) c1)) bs ls M (i + 1) s (.slice a1 (i + 1) c1) v6 := by
  obtain ⟨C, hC⟩ : ∃ C, C = W.alloc (.cells (brA (bs i)) 58) := ⟨_, rfl⟩
  have hCB : Below W.heap.size W C := by rw [hC]; exact below_alloc1 _ _
  have hCs : C.heap.size = W.heap.size + 1 := by rw [hC]; simp
  have hCl : C.heap[W.heap.size]? = some (.cells (brA (bs i)) 58 (0, 0)) := by rw [hC]; exact heap_alloc_last _ _
  have hMl : M < W.heap.size := (Array.getElem?_eq_some_iff.1 h.box).1
  have hN := h.below hCB
  obtain ⟨a1, c1, w2, r, ho, hg, hb, hw⟩ := append_at C 29 58 _ 5 80 Tryz.underlying29 infoBgU rfl (by omega) (M + 1) v5 i (fun q => brC (bs q)) hN.brs ⟨W.heap.size, 0, none⟩ 1 1 (fun _ => brC (bs i)) (fun _ j => brC_one _ j) (one_br_u hCl) (by unfold maxLen; omega) (by omega) (by omega)
  rw [cellsL_congr (i + 1) 5 _ (fun q => brC (bs q)) (fun q hq => by
    unfold catC
    by_cases c : q < i
    · rw [if_pos c]
    · rw [if_neg c, show q = i by omega])] at ho
  have hMne : v5.ownBlock ≠ some M := fun e => by have := (ownsC_block hN.brs M e).1; omega
  have hM6 : v6.ownBlock ≠ some M := fun e => by have := (ownsC_block hN.lks M e).1; omega
  have hbox2 : w2.heap[M]? = some (.cells #[v5, v6] 32 (0, 0)) := (hg.block M (by omega) (fun e => hMne e.symm)).trans hN.box
  have hvM : (Value.slice a1 (i + 1) c1).ownBlock ≠ some M := fun e => by
    rcases hw with hw | hw
    · rw [hw] at e; exact hMne e
    · rw [hw] at e; injection e with e; omega
  have hlow2 : Below M w1 w2 := hN.low.trans (hb.mono (by omega))
  have hgs : w2.grownBy (w2.setCell ⟨M, 0, none⟩ (.slice a1 (i + 1) c1)) (some M) := by
    have bz : Below 0 w2 (w2.setCell ⟨M, 0, none⟩ (.slice a1 (i + 1) c1)) := (Below.refl 0 w2).setCell (Nat.zero_le _) _
    exact ⟨bz.os, bz.tape, bz.output, bz.size, fun q hq hne => heap_setCell_other _ _ _ _ (by exact fun e => hne (by rw [e]))⟩
  have hap : ∀ q, (Value.slice a1 (i + 1) c1).ownBlock = some q → v6.ownBlock ≠ some q := fun q hq e => by
    rcases hw with hw | hw
    · rw [hw] at hq; exact h.apart q hq e
    · have := (ownsC_block h.lks q e).2
      rw [hw] at hq
      injection hq with hq
      omega
  refine ⟨a1, c1, w2, by rw [← hC]; exact r, hlow2, (two_cells2 hbox2).1, lk_free0 hbox2 _, ⟨hlow2.setCell (Nat.le_refl _) _, ?_, ?_, ?_, hap⟩⟩
  · rw [heap_setCell_same _ _ _ _ _ _ hbox2]; rfl
  · refine ho.kept hgs ?_
    cases hv : (Value.slice a1 (i + 1) c1).ownBlock with
    | none => exact Or.inl rfl
    | some q => exact Or.inr (fun e => hvM (by rw [hv]; exact e))
  · have h6 := kept_u hN.lks hg (fun q hq e => hN.apart q e hq)
    refine h6.kept hgs ?_
    cases hv : v6.ownBlock with
    | none => exact Or.inl rfl
    | some q => exact Or.inr (fun e => hM6 (by rw [hv]; exact e))
set_option maxHeartbeats 1000000 in
/-- ONE LINK MORE. -/
theorem net_lk {w1 W : World} {bs : Nat → Br} {ls : Nat → Lk} {M t i : Nat} {v5 v6 : Value} (h : NetW w1 W bs ls M t i v5 v6) (hi : i ≤ 1000000) :
    ∃ a1 c1 w2, (Builtin.append_ #[30, 30] 30 #[v6, .slice (some ⟨W.heap.size, 0, none⟩) 1 1]).run Tryz.prog (W.alloc (.cells (lkA (ls i)) 83)) = .ok (.slice a1 (i + 1) c1) w2 ∧ Below M w1 w2 ∧ w2.cell? ⟨M, 1, none⟩ = some v6 ∧ w2.frozen? ⟨M, 1, none⟩ = false ∧
      NetW w1 (w2.setCell ⟨M, 1, none⟩ (.slice a1 (i + 1) c1)) bs ls M t (i + 1) v5 (.slice a1 (i + 1) c1) := by
  obtain ⟨C, hC⟩ : ∃ C, C = W.alloc (.cells (lkA (ls i)) 83) := ⟨_, rfl⟩
  have hCB : Below W.heap.size W C := by rw [hC]; exact below_alloc1 _ _
  have hCs : C.heap.size = W.heap.size + 1 := by rw [hC]; simp
  have hCl : C.heap[W.heap.size]? = some (.cells (lkA (ls i)) 83 (0, 0)) := by rw [hC]; exact heap_alloc_last _ _
  have hMl : M < W.heap.size := (Array.getElem?_eq_some_iff.1 h.box).1
  have hN := h.below hCB
  obtain ⟨a1, c1, w2, r, ho, hg, hb, hw⟩ := append_at C 30 83 _ 6 48 Tryz.underlying30 infoLk rfl (by omega) (M + 1) v6 i (fun q => lkC (ls q)) hN.lks ⟨W.heap.size, 0, none⟩ 1 1 (fun _ => lkC (ls i)) (fun _ j => lkC_one _ j) (one_lk_u hCl) (by unfold maxLen; omega) (by omega) (by omega)
  rw [cellsL_congr (i + 1) 6 _ (fun q => lkC (ls q)) (fun q hq => by
    unfold catC
    by_cases c : q < i
    · rw [if_pos c]
    · rw [if_neg c, show q = i by omega])] at ho
  have hMne : v6.ownBlock ≠ some M := fun e => by have := (ownsC_block hN.lks M e).1; omega
  have hM5 : v5.ownBlock ≠ some M := fun e => by have := (ownsC_block hN.brs M e).1; omega
  have hbox2 : w2.heap[M]? = some (.cells #[v5, v6] 32 (0, 0)) := (hg.block M (by omega) (fun e => hMne e.symm)).trans hN.box
  have hvM : (Value.slice a1 (i + 1) c1).ownBlock ≠ some M := fun e => by
    rcases hw with hw | hw
    · rw [hw] at e; exact hMne e
    · rw [hw] at e; injection e with e; omega
  have hlow2 : Below M w1 w2 := hN.low.trans (hb.mono (by omega))
  have hgs : w2.grownBy (w2.setCell ⟨M, 1, none⟩ (.slice a1 (i + 1) c1)) (some M) := by
    have bz : Below 0 w2 (w2.setCell ⟨M, 1, none⟩ (.slice a1 (i + 1) c1)) := (Below.refl 0 w2).setCell (Nat.zero_le _) _
    exact ⟨bz.os, bz.tape, bz.output, bz.size, fun q hq hne => heap_setCell_other _ _ _ _ (by exact fun e => hne (by rw [e]))⟩
  have hap : ∀ q, v5.ownBlock = some q → (Value.slice a1 (i + 1) c1).ownBlock ≠ some q := fun q hq e => by
    rcases hw with hw | hw
    · rw [hw] at e; exact h.apart q hq e
    · have := (ownsC_block h.brs q hq).2
      rw [hw] at e
      injection e with e
      omega
  refine ⟨a1, c1, w2, by rw [← hC]; exact r, hlow2, (two_cells2 hbox2).2, lk_free0 hbox2 _, ⟨hlow2.setCell (Nat.le_refl _) _, ?_, ?_, ?_, hap⟩⟩
  · rw [heap_setCell_same _ _ _ _ _ _ hbox2]; rfl
  · have h5 := kept_u hN.brs hg (fun q hq e => hN.apart q hq e)
    refine h5.kept hgs ?_
    cases hv : v5.ownBlock with
    | none => exact Or.inl rfl
    | some q => exact Or.inr (fun e => hM5 (by rw [hv]; exact e))
  · refine ho.kept hgs ?_
    cases hv : (Value.slice a1 (i + 1) c1).ownBlock with
    | none => exact Or.inl rfl
    | some q => exact Or.inr (fun e => hvM (by rw [hv]; exact e))
end Go.Proofs.YtflghpnpjmodaaaGreatDoor

namespace Go.Proofs.YtflghpnpjmodaaaGreatDoor
namespace Tk
open Vc (V Of)
open Pl (Lk En St fin offs)
def calmOf (r c : Int) : Int := if r = 1 ∨ r = 2 then (if c < 49 then c else 49) + 1 else 0
theorem calmOf_pos {r c : Int} (h : 0 < calmOf r c) : r = 1 ∨ r = 2 := by
  unfold calmOf at h
  by_cases q : r = 1 ∨ r = 2
  · exact q
  · rw [if_neg q] at h; omega
theorem calmOf_back {r c n : Int} (h : n ≤ calmOf r c) (hn : 0 < n) : n - 1 ≤ c := by
  have := calmOf_pos (r := r) (c := c) (by omega)
  unfold calmOf at h
  rw [if_pos this] at h
  split at h <;> omega
/-- All of a bridge's mind. -/
structure Mnd where
  md : Md
  roles : List Int
  calm : List Int
def tickF (ids : Nat → Int) (E : Nat → List En) (x : Nat → Mnd) (i : Nat) : Mnd :=
  ⟨chM (ids i) (heard (E i) (fun j => (x j).md)), (E i).map (roleM (chM (ids i) (heard (E i) (fun j => (x j).md))) (heard (E i) (fun j => (x j).md))),
    List.zipWith calmOf ((E i).map (roleM (chM (ids i) (heard (E i) (fun j => (x j).md))) (heard (E i) (fun j => (x j).md)))) (x i).calm⟩
def ticksF (ids : Nat → Int) (E : Nat → List En) (x : Nat → Mnd) : Nat → (Nat → Mnd)
  | 0 => x
  | t + 1 => tickF ids E (ticksF ids E x t)
section
variable {ids : Nat → Int} {E : Nat → List En} {K : Nat}
theorem ticksF_md (x : Nat → Mnd) : ∀ t i, (ticksF ids E x t i).md = ticks ids E (fun j => (x j).md) t i
  | 0, _ => rfl
  | t + 1, i => by
    have e : (fun j => (ticksF ids E x t j).md) = ticks ids E (fun j => (x j).md) t := funext (fun j => ticksF_md x t j)
    simp only [ticksF, tickF, ticks, tick]
    rw [e]
theorem ticksF_add (x : Nat → Mnd) (a : Nat) : ∀ b, ticksF ids E (ticksF ids E x a) b = ticksF ids E x (a + b)
  | 0 => rfl
  | b + 1 => by
    show tickF ids E (ticksF ids E (ticksF ids E x a) b) = tickF ids E (ticksF ids E x (a + b))
    rw [ticksF_add x a b]
/-- From 33 ticks on roles are as they must be. -/
theorem settledF (G : Pl.Good ids E K) (one : ∀ i, i < K → ∀ p q, p ∈ E i → q ∈ E i → p.port = q.port → p = q) (x : Nat → Mnd) {t : Nat} (ht : 33 ≤ t) {i : Nat} (hi : i < K) :
    (ticksF ids E x t i).md.v = (fin ids E K i).v ∧ (ticksF ids E x t i).md.rp = (fin ids E K i).rp ∧ (ticksF ids E x t i).roles = (E i).map (Pl.roleAt (fin ids E K i) (offs (E i) (fin ids E K))) := by
  obtain ⟨dep, hd, hs⟩ := settled G one (fun j => (x j).md)
  have h1 := hs t (by omega) i hi
  rw [ticksF_md, h1]
  refine ⟨rfl, rfl, ?_⟩
  obtain ⟨s, rfl⟩ : ∃ s, t = s + 1 := ⟨t - 1, by omega⟩
  have e : (fun j => (ticksF ids E x s j).md) = ticks ids E (fun j => (x j).md) s := funext (fun j => ticksF_md x s j)
  simp only [ticksF, tickF]
  rw [e]
  have h2 : chM (ids i) (heard (E i) (ticks ids E (fun j => (x j).md) s)) = ⟨(fin ids E K i).v, dep i, (fin ids E K i).rp⟩ := h1
  rw [h2]
  apply List.map_congr_left
  intro e _
  refine role_same _ _ rfl rfl (E i) _ _ (fun q hq hl => ?_) e
  have hj := Pl.toNat_lt (G.lt i hi q hq hl).1
  rw [hs s (by omega) q.other.toNat hj]
  have := hd q.other.toNat hj
  exact ⟨rfl, by simp only; omega, by simp only; omega⟩
/-- From 32 ticks on nobody says anything else. -/
theorem quietF (G : Pl.Good ids E K) (one : ∀ i, i < K → ∀ p q, p ∈ E i → q ∈ E i → p.port = q.port → p = q) (x : Nat → Mnd) {t s : Nat} (ht : 32 ≤ t) (hs : 32 ≤ s) {i : Nat} (hi : i < K) : (ticksF ids E x t i).md = (ticksF ids E x s i).md := by
  obtain ⟨dep, _, h⟩ := settled G one (fun j => (x j).md)
  rw [ticksF_md, ticksF_md, h t ht i hi, h s hs i hi]
/-- As many roles and calms as there are ends. -/
def Fit (E : Nat → List En) (K : Nat) (x : Nat → Mnd) : Prop := ∀ i, i < K → (x i).roles.length = (E i).length ∧ (x i).calm.length = (E i).length
/-- Who is calm is root or designated; none is calm for less than nothing. -/
def Calm (x : Nat → Mnd) (K : Nat) : Prop := ∀ i, i < K → ∀ j, 0 ≤ (x i).calm.getD j 0 ∧ (0 < (x i).calm.getD j 0 → (x i).roles.getD j 0 = 1 ∨ (x i).roles.getD j 0 = 2)
theorem getD_zip (rs cs : List Int) (h : rs.length = cs.length) (j : Nat) (hj : j < rs.length) : (List.zipWith calmOf rs cs).getD j 0 = calmOf (rs.getD j 0) (cs.getD j 0) := by
  rw [List.getD_eq_getElem?_getD, List.getD_eq_getElem?_getD, List.getD_eq_getElem?_getD, List.getElem?_zipWith, List.getElem?_eq_getElem hj, List.getElem?_eq_getElem (by omega)]
  rfl
theorem getD_out (l : List Int) (j : Nat) (hj : l.length ≤ j) : l.getD j 0 = 0 := by
  rw [List.getD_eq_getElem?_getD, List.getElem?_eq_none hj]; rfl
theorem tickF_fit {x : Nat → Mnd} (h : Fit E K x) : Fit E K (tickF ids E x) := fun i hi => by
  have := h i hi
  simp only [tickF, List.length_map, List.length_zipWith]
  exact ⟨trivial, by omega⟩
theorem ticksF_fit {x : Nat → Mnd} (h : Fit E K x) : ∀ t, Fit E K (ticksF ids E x t)
  | 0 => h
  | t + 1 => tickF_fit (ticksF_fit h t)
theorem tickF_calm {x : Nat → Mnd} (h : Fit E K x) {i : Nat} (hi : i < K) {j : Nat} (hj : j < (E i).length) : (tickF ids E x i).calm.getD j 0 = calmOf ((tickF ids E x i).roles.getD j 0) ((x i).calm.getD j 0) := by
  simp only [tickF]
  exact getD_zip _ _ (by rw [List.length_map]; exact (h i hi).2.symm) j (by rw [List.length_map]; exact hj)
theorem calmOf_nonneg {r c : Int} (h : 0 ≤ c) : 0 ≤ calmOf r c := by
  unfold calmOf
  split
  · split <;> omega
  · omega
theorem tickF_Calm {x : Nat → Mnd} (h : Fit E K x) (hc : Calm x K) : Calm (tickF ids E x) K := fun i hi j => by
  by_cases hj : j < (E i).length
  · rw [tickF_calm h hi hj]
    exact ⟨calmOf_nonneg (hc i hi j).1, fun q => calmOf_pos q⟩
  · rw [getD_out _ j (by rw [(tickF_fit (ids := ids) h i hi).2]; omega)]
    exact ⟨Int.le_refl _, fun q => by omega⟩
theorem ticksF_Calm {x : Nat → Mnd} (h : Fit E K x) (hc : Calm x K) : ∀ t, Calm (ticksF ids E x t) K
  | 0 => hc
  | t + 1 => tickF_Calm (ticksF_fit h t) (ticksF_Calm h hc t)
/-- Who is so calm behind t ticks was nearly as calm ahead of them. -/
theorem calm_back {x : Nat → Mnd} (h : Fit E K x) {i : Nat} (hi : i < K) {j : Nat} (hj : j < (E i).length) : ∀ (t : Nat) (n : Int), (t : Int) < n → n ≤ (ticksF ids E x t i).calm.getD j 0 → n - t ≤ (x i).calm.getD j 0
  | 0, n, _, hc => by simpa [ticksF] using hc
  | t + 1, n, hn, hc => by
    simp only [ticksF] at hc
    rw [tickF_calm (ticksF_fit h t) hi hj] at hc
    have := calm_back h hi hj t (n - 1) (by omega) (calmOf_back hc (by omega))
    omega
/-- Who is root or designated for so long is so calm. -/
theorem calm_on {x : Nat → Mnd} (h : Fit E K x) (hc : Calm x K) {i : Nat} (hi : i < K) {j : Nat} (hj : j < (E i).length) (s : Nat) (hr : ∀ t, s < t → (ticksF ids E x t i).roles.getD j 0 = 1 ∨ (ticksF ids E x t i).roles.getD j 0 = 2) : ∀ n : Nat, n ≤ 50 → (n : Int) ≤ (ticksF ids E x (s + n) i).calm.getD j 0
  | 0, _ => (ticksF_Calm h hc s i hi j).1
  | n + 1, hn => by
    have ih := calm_on h hc hi hj s hr n (by omega)
    have hr' := hr (s + n + 1) (by omega)
    show _ ≤ (ticksF ids E x (s + n + 1) i).calm.getD j 0
    simp only [ticksF] at hr' ⊢
    rw [tickF_calm (ticksF_fit h _) hi hj]
    unfold calmOf
    rw [if_pos hr']
    split <;> omega
/-- Who is neither is not calm. -/
theorem calm_off {x : Nat → Mnd} (h : Fit E K x) {i : Nat} (hi : i < K) {j : Nat} (hj : j < (E i).length) {t : Nat} (hr : ¬ ((ticksF ids E x (t + 1) i).roles.getD j 0 = 1 ∨ (ticksF ids E x (t + 1) i).roles.getD j 0 = 2)) : (ticksF ids E x (t + 1) i).calm.getD j 0 = 0 := by
  simp only [ticksF] at hr ⊢
  rw [tickF_calm (ticksF_fit h _) hi hj]
  unfold calmOf
  rw [if_neg hr]
end
end Tk
end Go.Proofs.YtflghpnpjmodaaaGreatDoor

namespace Go.Proofs.YtflghpnpjmodaaaGreatDoor
namespace Tk
open Vc (V Of)
open Pl (Lk En St fin offs RightL ends endsTo endsAt)
/-- What is done. -/
structure Dn where
  kind : Int
  n : Int
  tree : Int
  value : Int
/-- What stays: how many bridges and links, addresses, whose regions are the same. -/
structure Cn where
  K : Nat
  L : Nat
  addr : Nat → Int
  sm : Nat → Nat → Bool
/-- What may change: priorities, links, minds (by trees, by bridges). -/
structure Sc where
  pr : Nat → List Int
  ls : Nat → Lk
  ms : Nat → Nat → Mnd
def prioOf (p : List Int) (tree : Int) : Int := if 0 ≤ tree ∧ tree ≤ (p.length : Int) - 1 then p.getD tree.toNat 0 else 32768
def Sc.ids (s : Sc) (c : Cn) (tree : Int) (i : Nat) : Int := prioOf (s.pr i) tree * 281474976710656 + c.addr i
def Sc.lv (s : Sc) (c : Cn) (k : Nat) : Bool := (s.ls k).up && c.sm (s.ls k).a.toNat (s.ls k).b.toNat
def Sc.E (s : Sc) (c : Cn) (i : Nat) : List En := ends s.ls (s.lv c) c.L i
def Sc.ticks (s : Sc) (c : Cn) (t : Nat) : Sc := ⟨s.pr, s.ls, fun k => ticksF (s.ids c k) (s.E c) (s.ms k) t⟩
theorem Sc.ticks_zero (s : Sc) (c : Cn) : s.ticks c 0 = s := rfl
theorem Sc.ticks_add (s : Sc) (c : Cn) (a b : Nat) : (s.ticks c a).ticks c b = s.ticks c (a + b) := by
  unfold Sc.ticks
  congr 1
  funext k
  exact ticksF_add (s.ms k) a b
/-- Priority v on tree t: those ahead that are not there are 32768. -/
def padTo (p : List Int) (t : Nat) : List Int := p ++ List.replicate (t + 1 - p.length) 32768
def setPr (p : List Int) (t : Nat) (v : Int) : List Int := (padTo p t).set t v
def Sc.setUp (s : Sc) (k : Nat) (up : Bool) : Sc := ⟨s.pr, fun j => if j = k then ⟨(s.ls k).a, (s.ls k).pa, (s.ls k).b, (s.ls k).pb, (s.ls k).cost, up⟩ else s.ls j, s.ms⟩
def Sc.setCost (s : Sc) (k : Nat) (v : Int) : Sc := ⟨s.pr, fun j => if j = k then ⟨(s.ls k).a, (s.ls k).pa, (s.ls k).b, (s.ls k).pb, v, (s.ls k).up⟩ else s.ls j, s.ms⟩
def Sc.setPrio (s : Sc) (i t : Nat) (v : Int) : Sc := ⟨fun j => if j = i then setPr (s.pr i) t v else s.pr j, s.ls, s.ms⟩
/-- What is wrong with d. -/
def errOf (c : Cn) (d : Dn) : Int :=
  if d.kind = 1 then (if 0 ≤ d.n ∧ d.n ≤ 200 then 0 else 3)
  else if d.kind = 2 ∨ d.kind = 3 ∨ d.kind = 4 then (if 0 ≤ d.n ∧ d.n ≤ (c.L : Int) - 1 then (if d.kind = 4 ∧ ¬ (1 ≤ d.value ∧ d.value ≤ 200000) then 3 else 0) else 6)
  else if d.kind = 5 then (if 0 ≤ d.n ∧ d.n ≤ (c.K : Int) - 1 then (if (0 ≤ d.tree ∧ d.tree ≤ 15) ∧ Pl.oddP d.value = false then 0 else 3) else 6)
  else 1
/-- What becomes of it, if nothing is wrong. -/
def Sc.one (s : Sc) (c : Cn) (d : Dn) : Sc :=
  if d.kind = 1 then s.ticks c d.n.toNat
  else if d.kind = 2 then s.setUp d.n.toNat true
  else if d.kind = 3 then s.setUp d.n.toNat false
  else if d.kind = 4 then s.setCost d.n.toNat d.value
  else s.setPrio d.n.toNat d.tree.toNat d.value
def Sc.all (s : Sc) (c : Cn) (l : Nat → Dn) : Nat → Sc
  | 0 => s
  | k + 1 => (s.all c l k).one c (l k)
/-- The first thing that is wrong, and where. -/
def errTo (c : Cn) (l : Nat → Dn) : Nat → Int × Int := Pl.firstTo (fun k => errOf c (l k))
/-- How ports lie is as it was. -/
def SameEnds (c : Cn) (s t : Sc) : Prop := ∀ k, k < c.L → (t.ls k).a = (s.ls k).a ∧ (t.ls k).b = (s.ls k).b ∧ (t.ls k).pa = (s.ls k).pa ∧ (t.ls k).pb = (s.ls k).pb
/-- Nothing is wrong with it. -/
structure Fine (c : Cn) (s : Sc) : Prop where
  few : c.K ≤ 12
  fewL : c.L ≤ 40
  links : RightL c.K c.L s.ls
  addr : ∀ i, i < c.K → 0 ≤ c.addr i ∧ c.addr i ≤ 281474976710655
  apart : ∀ i j, i < c.K → j < c.K → c.addr i = c.addr j → i = j
  prios : ∀ i, i < c.K → (s.pr i).length ≤ 16 ∧ ∀ p ∈ s.pr i, 0 ≤ p ∧ p ≤ 61440 ∧ p % 4096 = 0
theorem rightL_of {K L : Nat} {ls ls' : Nat → Lk} (R : RightL K L ls) (h : ∀ k, k < L → (ls' k).a = (ls k).a ∧ (ls' k).b = (ls k).b ∧ (ls' k).pa = (ls k).pa ∧ (ls' k).pb = (ls k).pb) (hc : ∀ k, k < L → 1 ≤ (ls' k).cost ∧ (ls' k).cost ≤ 200000) : RightL K L ls' := by
  refine ⟨fun k hk => ?_, fun j k hj hk => ?_⟩
  · obtain ⟨a1, a2, a3, a4⟩ := h k hk
    obtain ⟨o1, o2, o3, o4, o5, _⟩ := R.ok k hk
    rw [a1, a2, a3, a4]
    exact ⟨o1, o2, o3, o4, o5, hc k hk⟩
  · obtain ⟨a1, a2, a3, a4⟩ := h k hk
    obtain ⟨b1, b2, b3, b4⟩ := h j (by omega)
    have := R.one j k hj hk
    unfold Pl.isEnd at this ⊢
    rw [a1, a2, a3, a4, b1, b2, b3, b4]
    exact this
theorem Fine.one {c : Cn} {s : Sc} (h : Fine c s) (d : Dn) (hd : errOf c d = 0) : Fine c (s.one c d) ∧ SameEnds c s (s.one c d) := by
  unfold errOf at hd
  unfold Sc.one
  by_cases k1 : d.kind = 1
  · rw [if_pos k1]
    exact ⟨⟨h.few, h.fewL, h.links, h.addr, h.apart, h.prios⟩, fun k hk => ⟨rfl, rfl, rfl, rfl⟩⟩
  · rw [if_neg k1] at hd ⊢
    have hup : ∀ (k : Nat) (up : Bool), Fine c (s.setUp k up) ∧ SameEnds c s (s.setUp k up) := fun k up => by
      have hs : SameEnds c s (s.setUp k up) := fun j hj => by
        unfold Sc.setUp
        by_cases e : j = k
        · simp only [if_pos e]; rw [e]; exact ⟨rfl, rfl, rfl, rfl⟩
        · simp only [if_neg e]; exact ⟨trivial, trivial, trivial, trivial⟩
      refine ⟨⟨h.few, h.fewL, rightL_of h.links hs (fun j hj => ?_), h.addr, h.apart, h.prios⟩, hs⟩
      unfold Sc.setUp
      by_cases e : j = k
      · subst e; simp only [if_true]; exact (h.links.ok j hj).2.2.2.2.2
      · simp only [if_neg e]; exact (h.links.ok j hj).2.2.2.2.2
    by_cases k2 : d.kind = 2
    · rw [if_pos k2]; exact hup _ _
    · rw [if_neg k2]
      by_cases k3 : d.kind = 3
      · rw [if_pos k3]; exact hup _ _
      · rw [if_neg k3]
        by_cases k4 : d.kind = 4
        · rw [if_pos (Or.inr (Or.inr k4))] at hd
          rw [if_pos k4]
          have hv : 1 ≤ d.value ∧ d.value ≤ 200000 := by
            by_cases q : 1 ≤ d.value ∧ d.value ≤ 200000
            · exact q
            · exfalso
              by_cases q2 : 0 ≤ d.n ∧ d.n ≤ (c.L : Int) - 1
              · rw [if_pos q2, if_pos ⟨k4, q⟩] at hd; omega
              · rw [if_neg q2] at hd; omega
          have hs : SameEnds c s (s.setCost d.n.toNat d.value) := fun j hj => by
            unfold Sc.setCost
            by_cases e : j = d.n.toNat
            · simp only [if_pos e]; rw [e]; exact ⟨rfl, rfl, rfl, rfl⟩
            · simp only [if_neg e]; exact ⟨trivial, trivial, trivial, trivial⟩
          refine ⟨⟨h.few, h.fewL, rightL_of h.links hs (fun j hj => ?_), h.addr, h.apart, h.prios⟩, hs⟩
          unfold Sc.setCost
          by_cases e : j = d.n.toNat
          · simp only [if_pos e]; exact hv
          · simp only [if_neg e]; exact (h.links.ok j hj).2.2.2.2.2
        · rw [if_neg (by omega)] at hd
          rw [if_neg k4]
          have k5 : d.kind = 5 := by
            by_cases q : d.kind = 5
            · exact q
            · rw [if_neg q] at hd; omega
          rw [if_pos k5] at hd
          have hn : 0 ≤ d.n ∧ d.n ≤ (c.K : Int) - 1 := by
            by_cases q : 0 ≤ d.n ∧ d.n ≤ (c.K : Int) - 1
            · exact q
            · rw [if_neg q] at hd; omega
          rw [if_pos hn] at hd
          have hv : (0 ≤ d.tree ∧ d.tree ≤ 15) ∧ Pl.oddP d.value = false := by
            by_cases q : (0 ≤ d.tree ∧ d.tree ≤ 15) ∧ Pl.oddP d.value = false
            · exact q
            · rw [if_neg q] at hd; omega
          have hp : 0 ≤ d.value ∧ d.value ≤ 61440 ∧ d.value % 4096 = 0 := by
            have := hv.2
            unfold Pl.oddP at this
            simp at this
            omega
          refine ⟨⟨h.few, h.fewL, h.links, h.addr, h.apart, fun i hi => ?_⟩, fun k hk => ⟨rfl, rfl, rfl, rfl⟩⟩
          unfold Sc.setPrio
          by_cases e : i = d.n.toNat
          · simp only [if_pos e]
            rw [← e]
            obtain ⟨p1, p2⟩ := h.prios i hi
            unfold setPr padTo
            refine ⟨by simp; omega, fun p hpm => ?_⟩
            rcases List.mem_or_eq_of_mem_set hpm with q | q
            · rcases List.mem_append.1 q with q | q
              · exact p2 p q
              · rw [List.mem_replicate] at q
                rw [q.2]; decide
            · rw [q]; exact hp
          · simp only [if_neg e]; exact h.prios i hi
theorem Fine.all {c : Cn} {s : Sc} (h : Fine c s) (l : Nat → Dn) : ∀ n, (∀ k, k < n → errOf c (l k) = 0) → Fine c (s.all c l n) ∧ SameEnds c s (s.all c l n)
  | 0, _ => ⟨h, fun _ _ => ⟨rfl, rfl, rfl, rfl⟩⟩
  | n + 1, hl => by
    obtain ⟨h1, h2⟩ := Fine.all h l n (fun k hk => hl k (by omega))
    obtain ⟨h3, h4⟩ := h1.one (l n) (hl n (by omega))
    refine ⟨h3, fun k hk => ?_⟩
    obtain ⟨a1, a2, a3, a4⟩ := h2 k hk
    obtain ⟨b1, b2, b3, b4⟩ := h4 k hk
    exact ⟨b1.trans a1, b2.trans a2, b3.trans a3, b4.trans a4⟩
/-- Ports by the ends of links alone. -/
theorem endsTo_ports_eq {ls ls' : Nat → Lk} (lv lv' : Nat → Bool) (i : Nat) : ∀ L, (∀ k, k < L → (ls' k).a = (ls k).a ∧ (ls' k).b = (ls k).b ∧ (ls' k).pa = (ls k).pa ∧ (ls' k).pb = (ls k).pb) → (endsTo ls' lv' i L).map (·.port) = (endsTo ls lv i L).map (·.port)
  | 0, _ => rfl
  | L + 1, h => by
    simp only [endsTo, List.map_append]
    rw [endsTo_ports_eq lv lv' i L (fun k hk => h k (by omega))]
    obtain ⟨a1, a2, a3, a4⟩ := h L (by omega)
    congr 1
    unfold endsAt
    rw [a1, a2, a3, a4]
    split <;> split <;> rfl
theorem ports_eq {K L : Nat} {ls ls' : Nat → Lk} (R : RightL K L ls) (R' : RightL K L ls') (h : ∀ k, k < L → (ls' k).a = (ls k).a ∧ (ls' k).b = (ls k).b ∧ (ls' k).pa = (ls k).pa ∧ (ls' k).pb = (ls k).pb) (lv lv' : Nat → Bool) (i : Nat) : (ends ls' lv' L i).map (·.port) = (ends ls lv L i).map (·.port) := by
  have p1 := (Pl.ends_perm ls' lv' L i).map (fun e : En => e.port)
  have p2 := (Pl.ends_perm ls lv L i).map (fun e : En => e.port)
  rw [endsTo_ports_eq lv lv' i L h] at p1
  refine (p1.trans p2.symm).eq_of_pairwise (le := fun a b : Int => a < b) (fun a b _ _ h1 h2 => by omega) ?_ ?_
  · exact List.pairwise_map.2 (Pl.ends_sorted R' lv' i)
  · exact List.pairwise_map.2 (Pl.ends_sorted R lv i)
theorem SameEnds.len {c : Cn} {s t : Sc} (h : SameEnds c s t) (hs : Fine c s) (ht : Fine c t) (i : Nat) : (t.E c i).map (·.port) = (s.E c i).map (·.port) ∧ (t.E c i).length = (s.E c i).length := by
  have := ports_eq hs.links ht.links h (s.lv c) (t.lv c) i
  refine ⟨this, ?_⟩
  have e := congrArg List.length this
  simpa [Sc.E] using e
theorem Fine.good {c : Cn} {s : Sc} (h : Fine c s) (ids : Nat → Int) : Pl.Good ids (s.E c) c.K := Pl.good h.links h.few ids (s.lv c)
theorem Fine.ports {c : Cn} {s : Sc} (h : Fine c s) : ∀ i, i < c.K → ∀ p q, p ∈ s.E c i → q ∈ s.E c i → p.port = q.port → p = q := fun _ _ _ _ hp hq e => Pl.ends_one h.links (s.lv c) hp hq e
/-- Minds go with the net, and who is calm is root or designated. -/
structure Ok (c : Cn) (s : Sc) (T : Nat) : Prop where
  fine : Fine c s
  fit : ∀ k, k < T → Fit (s.E c) c.K (s.ms k)
  calm : ∀ k, k < T → Calm (s.ms k) c.K
theorem Ok.one {c : Cn} {s : Sc} {T : Nat} (h : Ok c s T) (d : Dn) (hd : errOf c d = 0) : Ok c (s.one c d) T := by
  obtain ⟨h1, h2⟩ := h.fine.one d hd
  have hlen := fun i => (h2.len h.fine h1 i).2
  by_cases k1 : d.kind = 1
  · have e : s.one c d = s.ticks c d.n.toNat := by unfold Sc.one; rw [if_pos k1]
    rw [e] at h1 hlen ⊢
    exact ⟨h1, fun k hk => ticksF_fit (h.fit k hk) _, fun k hk => ticksF_Calm (h.fit k hk) (h.calm k hk) _⟩
  · have e : (s.one c d).ms = s.ms := by
      unfold Sc.one
      rw [if_neg k1]
      split
      · rfl
      · split
        · rfl
        · split <;> rfl
    refine ⟨h1, fun k hk i hi => ?_, fun k hk => ?_⟩
    · rw [e, hlen i]; exact h.fit k hk i hi
    · rw [e]; exact h.calm k hk
theorem Ok.all {c : Cn} {s : Sc} {T : Nat} (h : Ok c s T) (l : Nat → Dn) : ∀ n, (∀ k, k < n → errOf c (l k) = 0) → Ok c (s.all c l n) T
  | 0, _ => h
  | n + 1, hl => (Ok.all h l n (fun k hk => hl k (by omega))).one (l n) (hl n (by omega))
/-- How bridges must stand. -/
def Sc.says (s : Sc) (c : Cn) (tree : Int) : Nat → St := fin (s.ids c tree) (s.E c) c.K
def Sc.roles (s : Sc) (c : Cn) (tree : Int) (i : Nat) : List Int := (s.E c i).map (Pl.roleAt (s.says c tree i) (offs (s.E c i) (s.says c tree)))
/-- They stand so. -/
def As (c : Cn) (s : Sc) (k : Nat) : Prop := ∀ i, i < c.K → (s.ms k i).md.v = (s.says c k i).v ∧ (s.ms k i).md.rp = (s.says c k i).rp ∧ (s.ms k i).roles = s.roles c k i
/-- THEY COME TO AGREE. -/
theorem Fine.settles {c : Cn} {s : Sc} (h : Fine c s) {t : Nat} (ht : 33 ≤ t) (k : Nat) : As c (s.ticks c t) k := fun _ hi => settledF (h.good _) h.ports (s.ms k) ht hi
end Tk
end Go.Proofs.YtflghpnpjmodaaaGreatDoor
