/- walks: the document's own Sum: laws -/
import Derived.Test.YtcbpafpaimpfnaaGreatDoorP27
import Derived.Test.YtcbpafpaimpfnaaGreatDoorP10
import Derived.Test.YtcbpafpaimpfnaaGreatDoorP06
import Derived.Test.YtcbpafpaimpfnaaGreatDoorP05
import Derived.Test.YtcbpafpaimpfnaaGreatDoorP04
namespace Go.Proofs.YtcbpafpaimpfnaaGreatDoor
section
open Go.RowKit
open Vc (V Of)
open Pl (Br Net Pc Lk En St)
def e2a : En := ⟨1, 5, 1, 2, true⟩
def e2b : En := ⟨2, 5, 0, 1, true⟩
def E2 (i : Nat) : List En := if i = 0 then [e2a] else if i = 1 then [e2b] else []
theorem infoLk : (Tryz.prog.info? 46).map (fun i => (i.zero, i.size, i.bytes)) = some (some (.agg #[.int .i64 0, .int .i64 0, .int .i64 0, .int .i64 0, .int .i64 0, .bool false]), 6, 48) := by kernel_rfl
def PlRes (n : Net) (tree : Int) (base : Nat) (w : World) (a : Option Addr) (k c : Nat) (f1 f2 : Int) : Prop :=
 (n.wrong.1 ≠ 0 ∧ (a = none ∧ k = 0 ∧ c = 0) ∧ (f1, f2) = n.wrong) ∨ (n.wrong.1 = 0 ∧ ¬ (0 ≤ tree ∧ tree ≤ 15) ∧ (a = none ∧ k = 0 ∧ c = 0) ∧ f1 = 3 ∧ f2 = 0) ∨
  (n.wrong.1 = 0 ∧ (0 ≤ tree ∧ tree ≤ 15) ∧ ∃ P, (a = some ⟨P, 0, none⟩ ∧ k = n.K ∧ c = n.K) ∧ (f1 = 0 ∧ f2 = 0) ∧ PlacesAt w P n.K (Pl.rounds (n.ids tree) n.ends n.K n.K) n.ends n.K ∧ base ≤ P)
theorem PlRes.below {n : Net} {tree : Int} {base : Nat} {w w' : World} {a : Option Addr} {k c : Nat} {f1 f2 : Int} (h : PlRes n tree base w a k c f1 f2) (hb : Below w.heap.size w w') : PlRes n tree base w' a k c f1 f2 := by
 rcases h with h | h | ⟨h1, h2, P, h3, h4, h5, h6⟩
 ·exact Or.inl h
 ·exact Or.inr (Or.inl h)
 ·exact Or.inr (Or.inr ⟨h1, h2, P, h3, h4, h5.below hb, h6⟩)
theorem PlRes.mono {n : Net} {tree : Int} {base base' : Nat} {w : World} {a : Option Addr} {k c : Nat} {f1 f2 : Int} (h : PlRes n tree base w a k c f1 f2) (hb : base' ≤ base) : PlRes n tree base' w a k c f1 f2 := by
 rcases h with h | h | ⟨h1, h2, P, h3, h4, h5, h6⟩
 ·exact Or.inl h
 ·exact Or.inr (Or.inl h)
 ·exact Or.inr (Or.inr ⟨h1, h2, P, h3, h4, h5, Nat.le_trans hb h6⟩)
theorem PlRes.told {n : Net} {tree : Int} {base : Nat} {w : World} {a : Option Addr} {k c : Nat} {f1 f2 : Int} {T : Nat} (h : PlRes n tree base w a k c f1 f2) (hT : w.heap[T]? = some (.cells #[.int .i64 0, .int .i64 0] 28 (0, 0))) : PlRes n tree base ((w.setCell ⟨T, 0, none⟩ (.int .i64 f1)).setCell ⟨T, 1, none⟩ (.int .i64 f2)) a k c f1 f2 := by
 rcases h with h | h | ⟨h1, h2, P, h3, ⟨rfl, rfl⟩, h5, h6⟩
 ·exact Or.inl h
 ·exact Or.inr (Or.inl h)
 ·exact Or.inr (Or.inr ⟨h1, h2, P, h3, ⟨rfl, rfl⟩, h5.below (below_same hT), h6⟩)
end
section
namespace Pl
open Vc (V Of)
section
variable {K L : Nat} {ls : Nat → Lk} {ids : Nat → Int} {lv : Nat → Bool}
inductive Sub (ids : Nat → Int) (ls : Nat → Lk) (lv : Nat → Bool) (K L c : Nat) : Nat → Prop
 | self : Sub ids ls lv K L c c
 | up (v : Nat) (e : En) : v < K → e ∈ ends ls lv L v → e.live = true → e.port = (says ids ls lv K L v).rp → Sub ids ls lv K L c e.other.toNat → Sub ids ls lv K L c v
theorem up_cost (R : RightL K L ls) (hK : K ≤ 12) {v : Nat} (hv : v < K) {e : En} (he : e ∈ ends ls lv L v) (hl : e.live = true) (hp : e.port = (says ids ls lv K L v).rp) :
  (says ids ls lv K L v).v.cost = (says ids ls lv K L e.other.toNat).v.cost + e.cost ∧ (says ids ls lv K L v).v.root = (says ids ls lv K L e.other.toNat).v.root ∧ 1 ≤ e.cost ∧ e.other.toNat < K := by
 have G := good R hK ids lv
 obtain ⟨g1, g2, _⟩ := G.lt v hv e he hl
 rcases fin_port G hv with ⟨h, _⟩ | ⟨_, _, q, q1, q2, q3, q4, q5, _⟩
 ·exfalso
  change (says ids ls lv K L v).rp = -1 at h
  obtain ⟨k, hk, hh⟩ := ends_mem.1 he
  obtain ⟨_, _, _, o4, o5, _⟩ := R.ok k hk
  rcases hh with ⟨_, rfl⟩ | ⟨_, rfl⟩ <;> simp only at hp <;> omega
 ·have := ends_one R lv he q1 (by rw [q3]; exact hp)
  subst this
  exact ⟨q5, q4, g2.1, toNat_lt g1⟩
theorem Sub.cost (R : RightL K L ls) (hK : K ≤ 12) {c v : Nat} (h : Sub ids ls lv K L c v) : (says ids ls lv K L c).v.cost ≤ (says ids ls lv K L v).v.cost := by
 induction h with
 | self => exact Int.le_refl _
 | up v e hv he hl hp _ ih => have := up_cost R hK hv he hl hp; omega
end
end Pl
end
section
open Go.RowKit
open Vc (V Of)
open Pl (Br Net Pc Lk En St)
namespace Pl
def LN (l : List Nat) (j : Nat) : Nat := l.getD j 0
def Net.lvsTo (n : Net) (k : Nat) : List Nat := (List.range k).filter n.live
def Net.lvs (n : Net) : List Nat := n.lvsTo n.L
theorem Net.lvsTo_next (n : Net) (k : Nat) : n.lvsTo (k + 1) = n.lvsTo k ++ if n.live k = true then [k] else [] := by
 unfold Net.lvsTo
 rw [List.range_succ, List.filter_append]
 congr 1
 cases h : n.live k <;> simp [h]
theorem Net.lvsTo_few (n : Net) (k : Nat) : (n.lvsTo k).length ≤ k := by
 have := List.length_filter_le n.live (List.range k)
 rw [List.length_range] at this
 exact this
theorem LN_get {l : List Nat} {j : Nat} (h : j < l.length) : LN l j = l[j] := by
 unfold LN
 rw [List.getD_eq_getElem?_getD, List.getElem?_eq_getElem h]
 rfl
theorem Net.lvs_mem {n : Net} {j : Nat} (h : j < n.lvs.length) : LN n.lvs j < n.L ∧ n.live (LN n.lvs j) = true := by
 have hm : LN n.lvs j ∈ n.lvs := by rw [LN_get h]; exact List.getElem_mem h
 unfold Net.lvs Net.lvsTo at hm
 obtain ⟨h1, h2⟩ := List.mem_filter.1 hm
 exact ⟨List.mem_range.1 h1, h2⟩
end Pl
open Pl (LN)
abbrev lkCells (ls : Nat → Lk) (l : List Nat) : List Value := cellsL l.length 6 (fun j => lkC (ls (LN l j)))
theorem ln_snoc (ls : Nat → Lk) (l : List Nat) (k : Nat) : cellsL (l.length + 1) 6 (catC l.length (fun j => lkC (ls (LN l j))) (fun _ => lkC (ls k))) = lkCells ls (l ++ [k]) := by
 unfold lkCells
 rw [List.length_append]
 apply cellsL_congr
 intro i hi
 simp only [catC]
 by_cases q : i < l.length
 ·rw [if_pos q]
  simp [LN, List.getD, List.getElem?_append_left q]
 ·rw [if_neg q]
  obtain rfl : i = l.length := by omega
  simp [LN, List.getD]
theorem one_lk_row {w : World} {g : Nat} {l : Lk} {ty : TypeId} (h : w.heap[g]? = some (.cells (lkA l) ty (0, 0))) : LRow w (some ⟨g, 0, none⟩) 1 1 (fun _ => l) := by
 refine ⟨Nat.le_refl _, fun _ => ⟨g, 0, rfl, (Array.getElem?_eq_some_iff.1 h).1, fun i hi j hj => ?_⟩⟩
 obtain rfl : i = 0 := by omega
 rcases (by omega : j = 0 ∨ j = 1 ∨ j = 2 ∨ j = 3 ∨ j = 4 ∨ j = 5) with e | e | e | e | e | e <;> subst e <;> exact cell_of_row w g _ _ _ _ h
end
section
open Go.RowKit
set_option maxRecDepth 100000 in
set_option maxHeartbeats 1000000 in
theorem rtable_any (s : ByteArray) (rev : Int) (ao : Option Addr) (n cap : Nat) (vs ts : Nat → Int) (w : World) (hR : Rg.Right vs ts n) (hr : WayRow w ao n cap vs ts) :
  Calls Tryz.prog 77 #[.agg #[.string s, .int .i64 rev, .slice ao n cap]] w fun e w' => ∃ g, e = .returned (.slice (some ⟨g, 0, none⟩) 4096 4096) ∧ w'.heap[g]? = some (.cells (rowF 4096 (fun i => Rg.tree vs ts (i : Int) n)) 5 (0, 0)) ∧ Below w.heap.size w w' := by
 have hn := hR.many
 have HRt : Hid (Rg.Right vs ts n) := hR
 have HW : Hid (∀ W, Below w.heap.size w W → WayRow W ao n cap vs ts) := fun W hW => hr.below hW
 clear hr hR
 have hmk : ∀ W : World, (Instr.makeSlice 93 (.int .i64 4096) (.int .i64 4096)).run Tryz.prog W = .ok (.slice (some ⟨W.heap.size, 0, none⟩) 4096 4096) (W.alloc (.cells (rowF 4096 (fun _ => 0)) 5)) := fun W => make_room W 4096 4096 (by omega) (by omega)
 go_enter Tryz.func77, Tryz.ntmps77
 go_wp2_with fail
 go_loopw [10] (fun i wr => ∃ k : Nat, k ≤ n ∧ i = .int .i64 k ∧ Hid (wr.heap[w.heap.size + 1]? = some (.cells (rowF 4096 (fun i => Rg.tree vs ts (i : Int) k)) 5 (0, 0))) ∧ Hid (Below w.heap.size w wr)) (fun i _ => n - (intOf i).toNat)
 case atStart => exact ⟨0, by omega, rfl, heap_alloc2_new w _ _, below_alloc2 _ _ _⟩
 case round =>
  clear hmk
  obtain ⟨k, hk, rfl, hX, hB⟩ := hrel
  by_cases hlt : k < n
  ·obtain ⟨b, off, rfl, hb, hc⟩ := (HW.out _ hB.out).2 (by omega)
   have hcap := (HW.out _ hB.out).1
   have c0 : wr.cell? ⟨b, off + k * 2, none⟩ = some (.int .i64 (vs k)) := (hc k hlt).1
   have c1 : wr.cell? ⟨b, off + k * 2 + 1, none⟩ = some (.int .i64 (ts k)) := (hc k hlt).2
   have hv := HRt.out.vid k hlt
   have ht := HRt.out.tree k hlt
   obtain ⟨m, hm⟩ := Int.eq_ofNat_of_zero_le (show 0 ≤ vs k by omega)
   have hz : w.heap.size + 1 < wr.heap.size := block_lt_of_cell ((cell_of_row wr _ 0 _ _ _ hX.out).trans (rowF_get _ _ _ (by omega)))
   have c4 : wr.cell? ⟨w.heap.size + 1, m, none⟩ = some (.int .u8 (Rg.tree vs ts (m : Int) k)) := (cell_of_row _ _ _ _ _ _ hX.out).trans (rowF_get _ _ _ (by omega))
   have f4 : wr.frozen? ⟨w.heap.size + 1, m, none⟩ = false := frozen_of_row _ _ _ _ _ hX.out
   have HX : Hid (∀ o, ((wr.setCell ⟨w.heap.size + 1, m, none⟩ (.int .u8 (ts k))).alloc o).heap[w.heap.size + 1]? = some (.cells (rowF 4096 (fun i => Rg.tree vs ts (i : Int) (k + 1))) 5 (0, 0))) := by
    intro o
    rw [Below.heap_alloc _ _ _ (by simpa [World.setCell] using hz), heap_setCell_same _ _ _ _ _ _ hX.out, rowF_set _ _ _ _ (by omega)]
    congr 2
    apply rowF_congr
    intro i _
    simp only [Rg.tree, hm]
    by_cases e : i = m
    ·rw [if_pos e, if_pos (by omega)]
    ·rw [if_neg e, if_neg (by omega)]
   have HB : Hid (∀ o, Below w.heap.size w ((wr.setCell ⟨w.heap.size + 1, m, none⟩ (.int .u8 (ts k))).alloc o)) := fun o => (hB.out.setCell (Nat.le_succ _) _).alloc (by have := hB.out.size; simpa [World.setCell] using this) _
   have hm1 : (m : Int) < 4096 := by omega
   have HM : Hid (vs k = (m : Int)) := hm
   rw [hm] at c0 hv
   clear hm hc HW HRt hX hB
   generalize ts k = t at *
   go_wp2
   exact ⟨⟨k + 1, by omega, by go_num, HX.out _, HB.out _⟩, by simp [intOf]; omega⟩
  ·obtain rfl : k = n := by omega
   go_wp2
   go_ret
   exact ⟨_, rfl, hX.out, hB.out⟩
end
section
namespace Md
def padM (n : Nat) : Nat := n / 64 + lastN (n % 64)
def pad (n : Nat) (bs : Nat → Int) (i : Nat) : Int :=
 if i < n then bs i else if i = n then 128 else if i + 8 < 64 * padM n then 0 else (8 * (n : Int)) / 2 ^ (8 * (i + 8 - 64 * padM n)) % 256
theorem padM_ge (n : Nat) : n + 9 ≤ 64 * padM n ∧ 64 * padM n < n + 9 + 64 := by
 unfold padM lastN
 split <;> omega
theorem wd_congr (f g : Nat → Int) (i : Nat) (h : ∀ j, j < 64 → f j = g j) (hi : i < 16) : wd f i = wd g i := by
 unfold wd
 rw [h (4 * i) (by omega), h (4 * i + 1) (by omega), h (4 * i + 2) (by omega), h (4 * i + 3) (by omega)]
theorem runTo_congr (f g : Nat → Int) (h : ∀ j, j < 64 → f j = g j) (s : St) : ∀ k, runTo f k s = runTo g k s
 | 0 => rfl
 | k + 1 => by
  show stp f k (runTo f k s) = stp g k (runTo g k s)
  rw [runTo_congr f g h s k]
  unfold stp
  rw [wd_congr f g _ h (ksel_lt k)]
theorem mixS_congr (f g : Nat → Int) (h : ∀ j, j < 64 → f j = g j) (s : St) : mixS s f = mixS s g := by
 unfold mixS
 rw [runTo_congr f g h s 64]
theorem mixN_congr (f g : Nat → Int) (s : St) : ∀ m, (∀ j, j < 64 * m → f j = g j) → mixN s f m = mixN s g m
 | 0, _ => rfl
 | m + 1, h => by
  show mixS (mixN s f m) _ = mixS (mixN s g m) _
  rw [mixN_congr f g s m (fun j hj => h j (by omega))]
  exact mixS_congr _ _ (fun j hj => h (64 * m + j) (by omega)) _
theorem mixN_add (f : Nat → Int) (s : St) (a : Nat) : ∀ b, mixN s f (a + b) = mixN (mixN s f a) (fun i => f (64 * a + i)) b
 | 0 => rfl
 | b + 1 => by
  show mixS (mixN s f (a + b)) (fun i => f (64 * (a + b) + i)) = mixS (mixN (mixN s f a) (fun i => f (64 * a + i)) b) (fun i => f (64 * a + (64 * b + i)))
  rw [mixN_add f s a b]
  exact mixS_congr _ _ (fun j _ => by rw [show 64 * (a + b) + j = 64 * a + (64 * b + j) by omega]) _
theorem last_pad (n : Nat) (bs : Nat → Int) (i : Nat) (h : i < 64 * lastN (n % 64)) : pad n bs (64 * (n / 64) + i) = lastB (n % 64) (fun i => bs (64 * (n / 64) + i)) (((0 : Nat) : Int) + (n : Int) * 1 * 8) i := by
 unfold pad lastB lastTo
 have e : 64 * padM n = 64 * (n / 64) + 64 * lastN (n % 64) := by unfold padM; omega
 have h9 := (padM_ge n).1
 rw [e] at h9 ⊢
 by_cases h1 : i < n % 64
 ·rw [if_pos (by omega), if_pos h1]
 ·rw [if_neg (by omega), if_neg h1]
  by_cases h2 : i = n % 64
  ·rw [if_pos (by omega), if_pos h2]
  ·rw [if_neg (by omega), if_neg h2]
   by_cases h3 : i + 8 < 64 * lastN (n % 64)
   ·rw [if_pos (by omega), if_neg (by omega)]
   ·rw [if_neg (by omega), if_pos (by omega)]
    have e2 : 64 * (n / 64) + i + 8 - (64 * (n / 64) + 64 * lastN (n % 64)) = i + 8 - 64 * lastN (n % 64) := by omega
    rw [e2]
    congr 2
    omega
theorem sum_same (n : Nat) (bs : Nat → Int) : mixN st0 (pad n bs) (padM n) = fin st0 0 n bs := by
 unfold padM fin
 rw [mixN_add, mixN_congr (pad n bs) bs st0 (n / 64) (fun j hj => by unfold pad; rw [if_pos (by omega)])]
 apply mixN_congr
 intro j hj
 have h := last_pad n bs j hj
 simp only [Int.mul_one] at h
 rw [h]
 congr 1
 simp
end Md
end
section
open Go.RowKit
set_option maxHeartbeats 1000000 in
theorem turn_any (x k : Int) (w : World) (h0 : 0 ≤ k) (h1 : k < 32) :
  Calls Tryz.prog 116 #[.int .u32 x, .int .i64 k] w fun e w' => e = .returned (.int .u32 (Md.rotl x k)) ∧ ∃ n, w' = w.drewN n := by
 have hw : IntKind.i64.wrap (32 - k) = 32 - k := by simp [IntKind.wrap, IntKind.bits, IntKind.signed]; omega
 have h2 : 0 ≤ 32 - k := by omega
 go_enter Tryz.func116, Tryz.ntmps116
 go_wp2_with fail
 go_quiet (fail)
 go_wp2
 go_ret
 exact ⟨rfl, nq, rfl⟩
set_option maxHeartbeats 1000000 in
theorem table_any (w : World) :
  Calls Tryz.prog 114 #[] w fun e w' => e = .returned (.slice (some ⟨w.heap.size, 0, none⟩) 64 64) ∧ (∀ i, i < 64 → w'.cell? ⟨w.heap.size, i, none⟩ = some (.int .u32 (Md.tabAt i))) ∧ w.heap.size < w'.heap.size ∧ Below w.heap.size w w' := by
 go_enter Tryz.func114, Tryz.ntmps114
 go_wp2
 go_ret
 refine ⟨rfl, fun i hi => ?_, by simp, (Below.refl _ _).alloc (Nat.le_refl _) _⟩
 rw [World.cell?_alloc_at _ _ _ _ rfl]
 have h : ∀ i, i < 64 → Md.tab[i]? = some (Md.tabAt i) := by decide
 have e := h i hi
 show ((Md.tab.map (Value.int .u32)).toArray)[i]? = _
 simp [e]
set_option maxHeartbeats 1000000 in
theorem round0 (k : Nat) (b c d : Int) (w : World) (hk : k < 16) :
  Calls Tryz.prog 115 #[.int .i64 0, .int .i64 k, .int .u32 b, .int .u32 c, .int .u32 d] w fun e w' => e = .returned (.tuple #[.int .u32 (Md.fsel (16 * 0 + k) b c d), .int .i64 (Md.ksel (16 * 0 + k)), .int .i64 (Md.trnAt ((16 * 0 + k) / 16 * 4 + (16 * 0 + k) % 4))]) ∧ Below w.heap.size w w' := by
 obtain ⟨j, hj⟩ : ∃ j, j = k % 4 := ⟨_, rfl⟩
 have k2 : Int.tmod (k : Int) 4 = (j : Int) := by rw [Int.tmod_eq_emod_of_nonneg (by omega)]; omega
 have k3 : (k : Int) % 4 = (j : Int) := by omega
 have k4 : (j : Int) < 4 := by omega
 have k5 : j < 4 := by omega
 have HF : Hid (Md.fsel (16 * 0 + k) b c d = bits BinOp.or IntKind.u32 (bits BinOp.and IntKind.u32 b c) (bits BinOp.and IntKind.u32 (bits BinOp.xor IntKind.u32 IntKind.u32.max b) d)) := by
  show _ = _
  simp [Md.fsel, hk]
 have HT : Hid (Value.int .i64 (Md.trnAt ((16 * 0 + k) / 16 * 4 + (16 * 0 + k) % 4)) = [Value.int .i64 7, .int .i64 12, .int .i64 17, .int .i64 22][j]'(by simpa using k5)) := by
  show _ = _
  have e : (16 * 0 + k) / 16 * 4 + (16 * 0 + k) % 4 = 0 + j := by omega
  rw [e]
  rcases (show j = 0 ∨ j = 1 ∨ j = 2 ∨ j = 3 by omega) with rfl | rfl | rfl | rfl <;> rfl
 have HK : Hid (((Md.ksel (16 * 0 + k) : Nat) : Int) = (k : Int)) := by
  show _ = _
  simp [Md.ksel, hk]
 clear hj
 rw [HF.out, HK.out, HT.out]
 clear HF HK HT
 go_enter Tryz.func115, Tryz.ntmps115
 go_wp2_with fail
 go_region
 all_goals go_wp2
 all_goals go_ret3
 all_goals exact ⟨rfl, ((Below.refl _ _).alloc (Nat.le_refl _) _).drew⟩
set_option maxHeartbeats 1000000 in
theorem round1 (k : Nat) (b c d : Int) (w : World) (hk : k < 16) :
  Calls Tryz.prog 115 #[.int .i64 1, .int .i64 k, .int .u32 b, .int .u32 c, .int .u32 d] w fun e w' => e = .returned (.tuple #[.int .u32 (Md.fsel (16 * 1 + k) b c d), .int .i64 (Md.ksel (16 * 1 + k)), .int .i64 (Md.trnAt ((16 * 1 + k) / 16 * 4 + (16 * 1 + k) % 4))]) ∧ Below w.heap.size w w' := by
 obtain ⟨j, hj⟩ : ∃ j, j = k % 4 := ⟨_, rfl⟩
 have k2 : Int.tmod (k : Int) 4 = (j : Int) := by rw [Int.tmod_eq_emod_of_nonneg (by omega)]; omega
 have k3 : (k : Int) % 4 = (j : Int) := by omega
 have k4 : (j : Int) < 4 := by omega
 have k5 : j < 4 := by omega
 have HF : Hid (Md.fsel (16 * 1 + k) b c d = bits BinOp.or IntKind.u32 (bits BinOp.and IntKind.u32 b d) (bits BinOp.andNot IntKind.u32 c d)) := by
  show _ = _
  simp [Md.fsel, show 16 + k < 32 by omega, show ¬ 16 + k < 16 by omega]
 have HT : Hid (Value.int .i64 (Md.trnAt ((16 * 1 + k) / 16 * 4 + (16 * 1 + k) % 4)) = [Value.int .i64 5, .int .i64 9, .int .i64 14, .int .i64 20][j]'(by simpa using k5)) := by
  show _ = _
  have e : (16 * 1 + k) / 16 * 4 + (16 * 1 + k) % 4 = 4 + j := by omega
  rw [e]
  rcases (show j = 0 ∨ j = 1 ∨ j = 2 ∨ j = 3 by omega) with rfl | rfl | rfl | rfl <;> rfl
 obtain ⟨q, hq⟩ : ∃ q, q = (1 + 5 * k) % 16 := ⟨_, rfl⟩
 have m1 : IntKind.i64.wrap (5 * (k : Int)) = 5 * (k : Int) := by simp [IntKind.wrap, IntKind.bits, IntKind.signed]; omega
 have m2 : IntKind.i64.wrap (1 + 5 * (k : Int)) = 1 + 5 * (k : Int) := by simp [IntKind.wrap, IntKind.bits, IntKind.signed]; omega
 have m3 : Int.tmod (1 + 5 * (k : Int)) 16 = (q : Int) := by rw [Int.tmod_eq_emod_of_nonneg (by omega)]; omega
 have m4 : (1 + 5 * (k : Int)) % 16 = (q : Int) := by omega
 have HK : Hid (((Md.ksel (16 * 1 + k) : Nat) : Int) = (q : Int)) := by
  show _ = _
  have e : Md.ksel (16 * 1 + k) = q := by
   simp [Md.ksel, show 16 + k < 32 by omega, show ¬ 16 + k < 16 by omega]
   omega
  rw [e]
 clear hj hq
 go_enter Tryz.func115, Tryz.ntmps115
 go_wp2_with fail
 go_region
 all_goals go_wp2
 all_goals go_ret3
 all_goals exact ⟨by rw [HF.out, HK.out, HT.out]; rfl, ((Below.refl _ _).alloc (Nat.le_refl _) _).drew⟩
set_option maxHeartbeats 1000000 in
theorem round2 (k : Nat) (b c d : Int) (w : World) (hk : k < 16) :
  Calls Tryz.prog 115 #[.int .i64 2, .int .i64 k, .int .u32 b, .int .u32 c, .int .u32 d] w fun e w' => e = .returned (.tuple #[.int .u32 (Md.fsel (16 * 2 + k) b c d), .int .i64 (Md.ksel (16 * 2 + k)), .int .i64 (Md.trnAt ((16 * 2 + k) / 16 * 4 + (16 * 2 + k) % 4))]) ∧ Below w.heap.size w w' := by
 obtain ⟨j, hj⟩ : ∃ j, j = k % 4 := ⟨_, rfl⟩
 have k2 : Int.tmod (k : Int) 4 = (j : Int) := by rw [Int.tmod_eq_emod_of_nonneg (by omega)]; omega
 have k3 : (k : Int) % 4 = (j : Int) := by omega
 have k4 : (j : Int) < 4 := by omega
 have k5 : j < 4 := by omega
 have HF : Hid (Md.fsel (16 * 2 + k) b c d = bits BinOp.xor IntKind.u32 (bits BinOp.xor IntKind.u32 b c) d) := by
  show _ = _
  simp [Md.fsel, show 32 + k < 48 by omega, show ¬ 32 + k < 16 by omega, show ¬ 32 + k < 32 by omega]
 have HT : Hid (Value.int .i64 (Md.trnAt ((16 * 2 + k) / 16 * 4 + (16 * 2 + k) % 4)) = [Value.int .i64 4, .int .i64 11, .int .i64 16, .int .i64 23][j]'(by simpa using k5)) := by
  show _ = _
  have e : (16 * 2 + k) / 16 * 4 + (16 * 2 + k) % 4 = 8 + j := by omega
  rw [e]
  rcases (show j = 0 ∨ j = 1 ∨ j = 2 ∨ j = 3 by omega) with rfl | rfl | rfl | rfl <;> rfl
 obtain ⟨q, hq⟩ : ∃ q, q = (5 + 3 * k) % 16 := ⟨_, rfl⟩
 have m1 : IntKind.i64.wrap (3 * (k : Int)) = 3 * (k : Int) := by simp [IntKind.wrap, IntKind.bits, IntKind.signed]; omega
 have m2 : IntKind.i64.wrap (5 + 3 * (k : Int)) = 5 + 3 * (k : Int) := by simp [IntKind.wrap, IntKind.bits, IntKind.signed]; omega
 have m3 : Int.tmod (5 + 3 * (k : Int)) 16 = (q : Int) := by rw [Int.tmod_eq_emod_of_nonneg (by omega)]; omega
 have m4 : (5 + 3 * (k : Int)) % 16 = (q : Int) := by omega
 have HK : Hid (((Md.ksel (16 * 2 + k) : Nat) : Int) = (q : Int)) := by
  show _ = _
  have e : Md.ksel (16 * 2 + k) = q := by
   simp [Md.ksel, show 32 + k < 48 by omega, show ¬ 32 + k < 16 by omega, show ¬ 32 + k < 32 by omega]
   omega
  rw [e]
 clear hj hq
 go_enter Tryz.func115, Tryz.ntmps115
 go_wp2_with fail
 go_region
 all_goals go_wp2
 all_goals go_ret3
 all_goals exact ⟨by rw [HF.out, HK.out, HT.out]; rfl, ((Below.refl _ _).alloc (Nat.le_refl _) _).drew⟩
set_option maxHeartbeats 1000000 in
theorem round3 (k : Nat) (b c d : Int) (w : World) (hk : k < 16) :
  Calls Tryz.prog 115 #[.int .i64 3, .int .i64 k, .int .u32 b, .int .u32 c, .int .u32 d] w fun e w' => e = .returned (.tuple #[.int .u32 (Md.fsel (16 * 3 + k) b c d), .int .i64 (Md.ksel (16 * 3 + k)), .int .i64 (Md.trnAt ((16 * 3 + k) / 16 * 4 + (16 * 3 + k) % 4))]) ∧ Below w.heap.size w w' := by
 obtain ⟨j, hj⟩ : ∃ j, j = k % 4 := ⟨_, rfl⟩
 have k2 : Int.tmod (k : Int) 4 = (j : Int) := by rw [Int.tmod_eq_emod_of_nonneg (by omega)]; omega
 have k3 : (k : Int) % 4 = (j : Int) := by omega
 have k4 : (j : Int) < 4 := by omega
 have k5 : j < 4 := by omega
 have HF : Hid (Md.fsel (16 * 3 + k) b c d = bits BinOp.xor IntKind.u32 c (bits BinOp.or IntKind.u32 b (bits BinOp.xor IntKind.u32 IntKind.u32.max d))) := by
  show _ = _
  simp [Md.fsel, show ¬ 48 + k < 16 by omega, show ¬ 48 + k < 32 by omega, show ¬ 48 + k < 48 by omega]
 have HT : Hid (Value.int .i64 (Md.trnAt ((16 * 3 + k) / 16 * 4 + (16 * 3 + k) % 4)) = [Value.int .i64 6, .int .i64 10, .int .i64 15, .int .i64 21][j]'(by simpa using k5)) := by
  show _ = _
  have e : (16 * 3 + k) / 16 * 4 + (16 * 3 + k) % 4 = 12 + j := by omega
  rw [e]
  rcases (show j = 0 ∨ j = 1 ∨ j = 2 ∨ j = 3 by omega) with rfl | rfl | rfl | rfl <;> rfl
 obtain ⟨q, hq⟩ : ∃ q, q = (7 * k) % 16 := ⟨_, rfl⟩
 have m1 : IntKind.i64.wrap (7 * (k : Int)) = 7 * (k : Int) := by simp [IntKind.wrap, IntKind.bits, IntKind.signed]; omega
 have m3 : Int.tmod (7 * (k : Int)) 16 = (q : Int) := by rw [Int.tmod_eq_emod_of_nonneg (by omega)]; omega
 have m4 : (7 * (k : Int)) % 16 = (q : Int) := by omega
 have HK : Hid (((Md.ksel (16 * 3 + k) : Nat) : Int) = (q : Int)) := by
  show _ = _
  have e : Md.ksel (16 * 3 + k) = q := by
   simp [Md.ksel, show ¬ 48 + k < 16 by omega, show ¬ 48 + k < 32 by omega, show ¬ 48 + k < 48 by omega]
   omega
  rw [e]
 clear hj hq
 go_enter Tryz.func115, Tryz.ntmps115
 go_wp2_with fail
 go_region
 all_goals go_wp2
 all_goals go_ret3
 all_goals exact ⟨by rw [HF.out, HK.out, HT.out]; rfl, ((Below.refl _ _).alloc (Nat.le_refl _) _).drew⟩
theorem round_any (r k : Nat) (b c d : Int) (w : World) (hr : r < 4) (hk : k < 16) :
  Calls Tryz.prog 115 #[.int .i64 r, .int .i64 k, .int .u32 b, .int .u32 c, .int .u32 d] w fun e w' => e = .returned (.tuple #[.int .u32 (Md.fsel (16 * r + k) b c d), .int .i64 (Md.ksel (16 * r + k)), .int .i64 (Md.trnAt ((16 * r + k) / 16 * 4 + (16 * r + k) % 4))]) ∧ Below w.heap.size w w' := by
 rcases (show r = 0 ∨ r = 1 ∨ r = 2 ∨ r = 3 by omega) with rfl | rfl | rfl | rfl
 ·exact round0 k b c d w hk
 ·exact round1 k b c d w hk
 ·exact round2 k b c d w hk
 ·exact round3 k b c d w hk
theorem grown_empty {w w' : World} (h : (w.alloc (.cells #[] 5)).grownBy w' (Value.ownBlock (.slice (some ⟨w.heap.size, 0, none⟩) 0 0))) : Below w.heap.size w w' :=
 ((Below.refl _ w).alloc (Nat.le_refl _) _).grown h (by simp) (fun k hk => by simp [Value.ownBlock] at hk; omega)
theorem ByteRow.cast {w : World} {ao : Option Addr} {n n' cap : Nat} {f : Nat → Int} (h : ByteRow w ao n cap f) (e : n = n') : ByteRow w ao n' cap f := e ▸ h
theorem owns_cast {w : World} {base n : Nat} {v : Value} {xs : List Value} (h : w.ownsRow base 5 1 v (0 + n) ([] ++ xs)) : w.ownsRow base 5 1 v n xs := by
 rw [Nat.zero_add, List.nil_append] at h
 exact h
theorem wpList_append_byte {w : World} {ops : Array Oper} {rest : List Oper} {o : Oper} {a : Act} {Q : Exit → Act → World → Prop} (hgd : o.guard = none) (s x : Operand)
  (ho : o.op = .call { callee := .builtin .append, args := #[s, x], argTypes := #[93, 93] }) (base : Nat)
  (v : Value) (n : Nat) (P : Nat → Int) (hs : a.eval s = v) (y : Int) (hown : w.ownsRow base 5 1 v n (bytesL n P)) (hbase : base ≤ w.heap.size)
  (hx : a.eval x = .slice (some ⟨w.heap.size, 0, none⟩) 1 1) (hy : y = P n) (hb : n + 1 ≤ 140737488355328)
  (h : ∀ v' w', w'.ownsRow base 5 1 v' (n + 1) (bytesL (n + 1) P) → Below base w w' → wpList Tryz.prog ops Q rest (a.put o.dst v') w') : wpList Tryz.prog ops Q (o :: rest) a (w.alloc (.cells #[.int .u8 y] 5)) := by
 obtain ⟨i0, hi, hz0, hz1, hz2⟩ := info_parts info5
 refine wpList_append_own _ hgd s x 93 ho base 5 i0 (.int .u8 0) 1 1 Tryz.underlying93 hi hz0 hz1 hz2 rfl (by decide) v n _ hs (hown.alloc _) ⟨w.heap.size, 0, none⟩ 1 1 [.int .u8 y] hx rfl (cell_one_new _ _ _) (by simp [Value.oneCell']) (by unfold maxLen; omega) (by omega) (by simp; omega) ?_
 intro v' w' h1 h2 _
 refine h v' w' ?_ (((Below.refl _ w).alloc hbase _).grown h2 (by simp; omega) (owns_block hown))
 rw [show bytesL (n + 1) P = bytesL n P ++ [.int .u8 y] by rw [hy]; simp [bytesL, List.range_succ]]
 exact h1
end
end Go.Proofs.YtcbpafpaimpfnaaGreatDoor
