/- Maps that count what was taken: of addresses, of ports; package plan's takers -/
import Derived.Test.YtaakjhdbelefiaeDoorPB
import Derived.Test.YtaakjhdbelefiaeDoorFrG
import Derived.Maps.OwnOps
import Derived.Maps.Range
import Derived.Maps.RangeWalk
import Derived.Maps.Views
import Derived.WideKeyEntry
import Derived.DeepKeys4
import Derived.MapViews
namespace Go.Proofs.YtaakjhdbelefiaeDoor
open Go.RowKit Go.Maps Go.WideElems Go.ChangeShapes Go.WideShapes Go.MapKept Go.ChangeMaps

/-- How often a is among the first k. -/
def cntI {α : Type} [DecidableEq α] (f : Nat → α) (a : α) : Nat → Int
  | 0 => 0
  | k + 1 => cntI f a k + if f k = a then 1 else 0
theorem cntI_range {α : Type} [DecidableEq α] (f : Nat → α) (a : α) : ∀ k : Nat, 0 ≤ cntI f a k ∧ cntI f a k ≤ k
  | 0 => ⟨Int.le_refl _, Int.le_refl _⟩
  | k + 1 => by
    have := cntI_range f a k
    simp only [cntI]
    split <;> omega
theorem cntI_pos {α : Type} [DecidableEq α] (f : Nat → α) (a : α) : ∀ k : Nat, 0 < cntI f a k ↔ Vc.someTo (fun j => decide (f j = a)) k = true
  | 0 => ⟨fun h => by simp [cntI] at h, fun h => by simp [Vc.someTo] at h⟩
  | k + 1 => by
    have h1 := cntI_range f a k
    have h2 := cntI_pos f a k
    have h3 : cntI f a (k + 1) = cntI f a k + if f k = a then 1 else 0 := rfl
    have h4 : Vc.someTo (fun j => decide (f j = a)) (k + 1) = (Vc.someTo (fun j => decide (f j = a)) k || decide (f k = a)) := rfl
    rw [h3, h4]
    by_cases e : f k = a
    · rw [if_pos e, decide_eq_true e, Bool.or_true]
      exact ⟨fun _ => rfl, fun _ => by omega⟩
    · rw [if_neg e, decide_eq_false e, Bool.or_false, Int.add_zero]
      exact h2
theorem grown_cell {w w' : World} {b P : Nat} {v : Value} (h : w.cell? ⟨P, 0, none⟩ = some v) (hg : w.grownBy w' (some b)) (hne : P ≠ b) : w'.cell? ⟨P, 0, none⟩ = some v :=
  (World.cell?_of_block (w := w) (hg.block P (block_lt_of_cell h) (fun e => hne (by simpa using e)))).trans h
theorem mzero (w : World) : (zeroValue 3).run Tryd.prog w = .ok (.int .i64 0) w := by kernel_rfl
theorem mwf {n : Int} (h0 : 0 ≤ n) (h1 : n ≤ 100000) : (Lit.int .i64 n).wf = true := WalkArith.wf_i64 (by omega)
theorem lit_inj {a b : Int} (h : (DataW.lit (.int .i64 a) : DataW Unit) = .lit (.int .i64 b)) : a = b := by
  injection h with h
  injection h
/- addresses -/
theorem ukeyed : Keyed Tryd.prog 27 := int_keyed Tryd.underlying27
/-- A map that has counted the first m of f. -/
def UCnt (w : World) (b : Nat) (f : Nat → Int) (m : Nat) : Prop := ∃ D : DataW Unit, w.ownsMap Tryd.prog 27 (plainElem Tryd.prog 3) b m D ∧ IsMap D ∧ ∀ a, (Lit.int .u64 a).wf = true → D.atKey (.int .u64 a) (.lit (.int .i64 0)) = .lit (.int .i64 (cntI f a m))
theorem UCnt.same {w w' : World} {b m : Nat} {f : Nat → Int} (h : UCnt w b f m) (e : w'.heap[b]? = w.heap[b]?) : UCnt w' b f m := by
  obtain ⟨D, ⟨es, clock, hb, r⟩, h2⟩ := h
  exact ⟨D, ⟨es, clock, e.trans hb, r⟩, h2⟩
theorem UCnt.lt {w : World} {b m : Nat} {f : Nat → Int} (h : UCnt w b f m) : b < w.heap.size := by
  obtain ⟨D, h1, _⟩ := h
  exact h1.lt
set_option maxRecDepth 100000 in
set_option maxHeartbeats 1000000 in
theorem utake_any (P b m : Nat) (f : Nat → Int) (a : Int) (w : World) (hP : w.cell? ⟨P, 0, none⟩ = some (.map (some b))) (hne : P ≠ b) (h : UCnt w b f m) (hm : m ≤ 1000) (hf : f m = a) (hwf : (Lit.int .u64 a).wf = true) :
    Calls Tryd.prog 44 #[.int .u64 a, .pointer (some ⟨P, 0, none⟩)] w fun e w' => e = .returned (.int .i64 (if 0 < cntI f a m then 7 else 0)) ∧ UCnt w' b f (m + 1) ∧ w.grownBy w' (some b) := by
  obtain ⟨D, ho, hD, hat⟩ := h
  have hr := cntI_range f a m
  have ht := Tryd.underlying102
  have he := Tryd.underlying3
  have hkey := keyOf_int_mk (k := 27) Tryd.underlying27 hwf
  obtain ⟨c, e1, e2, _⟩ := ho.lookup_int ukeyed ht he (mzero w) hkey
  rw [hat a hwf] at e2
  have e2 := lit_inj e2
  subst e2
  obtain ⟨w1, e3, ho1, hg⟩ := ho.update ukeyed ht (by unfold maxLen; omega) hkey (plainElem_int he (mwf (n := cntI f a m + 1) (by omega) (by omega)))
  have hat1 : ∀ x, (Lit.int .u64 x).wf = true → (D.put (.int .u64 a) (.lit (.int .i64 (cntI f a m + 1)))).atKey (.int .u64 x) (.lit (.int .i64 0)) = .lit (.int .i64 (cntI f x (m + 1))) := by
    intro x hx
    simp only [cntI]
    by_cases e : a = x
    · subst e
      rw [atKey_put_same hD (ukeyed.key hkey), if_pos hf]
    · rw [atKey_put_other (fun q => e (by injection q with _ q; exact q.symm)), hat x hx, if_neg (by rw [hf]; exact e), Int.add_zero]
  obtain ⟨c', e4, e5, _⟩ := ho1.lookup_int ukeyed ht he (mzero w1) hkey
  rw [hat1 a hwf] at e5
  have e5 := lit_inj e5
  simp only [cntI, if_pos hf] at e5
  subst e5
  have hP1 : w1.cell? ⟨P, 0, none⟩ = some (.map (some b)) := grown_cell hP hg hne
  have HF : Hid (UCnt w1 b f (m + 1) ∧ w.grownBy w1 (some b)) := ⟨⟨_, ho1, hD.put _ _, hat1⟩, hg⟩
  clear hat1 ho1 hat ho hD hg hf
  generalize cntI f a m = t at *
  have wt : IntKind.i64.wrap (t + 1) = t + 1 := wraps_i64 _ (by omega) (by omega)
  by_cases h0 : 0 < t
  · rw [if_pos h0]
    have g1 : (1 : Int) < t + 1 := by omega
    go_enter Tryd.func44, Tryd.ntmps44
    go_wp2_with fail
    go_ret
    exact ⟨rfl, HF.out⟩
  · rw [if_neg h0]
    have g1 : ¬ (1 : Int) < t + 1 := by omega
    go_enter Tryd.func44, Tryd.ntmps44
    go_wp2_with fail
    go_ret
    exact ⟨rfl, HF.out⟩
theorem utaker_any (f : Nat → Int) (w : World) :
    Calls Tryd.prog 29 #[] w fun e w' => e = .returned (.func (.func 44) #[] #[.pointer (some ⟨w.heap.size + 1, 0, none⟩)]) ∧ w'.cell? ⟨w.heap.size + 1, 0, none⟩ = some (.map (some w.heap.size)) ∧ UCnt w' w.heap.size f 0 ∧ Below w.heap.size w w' := by
  have hmm := @run_makeMap Tryd.prog
  go_enter Tryd.func29, Tryd.ntmps29
  go_wp2_with fail
  go_ret
  exact ⟨rfl, cell_of_row _ _ 0 _ _ _ (heap_alloc2_new w (.map #[] 0) (.cells #[.map (some w.heap.size)] 102)), ⟨.map [], (World.ownsMap_made w _ _ _).alloc _, isMap_empty, fun _ _ => rfl⟩, below_alloc2 _ _ _⟩
/- ports -/
theorem prowT : (89 : TypeId) < Tryd.prog.types.size := of_decide_eq_true (by kernel_rfl)
theorem pwide : (match Tryd.prog.underlying 89 with | some (.array _ _) | some (.struct _) => true | _ => false) = true := by rw [Tryd.underlying89]
set_option maxRecDepth 100000 in
theorem pklaw : WideMaps.KeyLaw Tryd.prog 89 := deep_law_laid laidOut (m := 3) (by omega) prowT (by kernel_rfl) pwide
theorem pkeyed : Keyed Tryd.prog 89 := Keyed.of_law pklaw
def pkl (x : Int × Int) : Lit := .string (keyBytes [.int .i64 x.1, .int .i64 x.2])
def pV (x : Int × Int) : Value := .agg #[.int .i64 x.1, .int .i64 x.2]
theorem ptypes : ∃ m, Tryd.prog.types.size = m + 1 := ⟨Tryd.prog.types.size - 1, by kernel_rfl⟩
theorem pkeyType : Tryd.prog.keyType 89 = true := by kernel_rfl
theorem pcells2 : Tryd.prog.cellsOf 89 = 2 := by kernel_rfl
theorem pcells1 : Tryd.prog.cellsOf 3 = 1 := by kernel_rfl
theorem pkey_of (x : Int × Int) (h1 : (Lit.int .i64 x.1).wf = true) (h2 : (Lit.int .i64 x.2).wf = true) : keyOf Tryd.prog 89 (pV x) = some (pkl x) := by
  obtain ⟨m, hm⟩ := ptypes
  unfold keyOf pV
  simp only [Tryd.underlying89]
  rw [if_pos (by simp [pkeyType, Value.formed, Tryd.underlying89, pcells2]), hm]
  unfold Program.keyLits
  simp only [Tryd.underlying89, Value.cells]
  rw [if_pos (by rw [pcells2]; exact ⟨rfl, by simp⟩)]
  simp [pcells1, Program.keyLits, Tryd.underlying3, h1, h2, pkl]
end Go.Proofs.YtaakjhdbelefiaeDoor
