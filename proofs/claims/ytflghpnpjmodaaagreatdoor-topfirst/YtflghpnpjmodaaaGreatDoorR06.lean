/- A region that draws its order, by hand: an operation that is taken, one whose guard says no. -/
import Derived.Test.YtflghpnpjmodaaaGreatDoorR05
import Derived.Test.YtflghpnpjmodaaaGreatDoorR02
import Derived.Test.YtflghpnpjmodaaaGreatDoorR01
import Derived.ProofKit
import Derived.OpenShut
import Derived.ChangeOld
import Derived.ChangeSlices
import Derived.Maps.OwnOps
import Derived.Maps.Range
import Derived.Maps.RangeWalk
import Derived.Maps.Views
import Derived.WideKeyEntry
import Derived.DeepKeys4
import Derived.MapViews
import Derived.Deep.RegionHeld3
namespace Go.Proofs.YtflghpnpjmodaaaGreatDoor
open Go.RowKit
open Pl (Br Net Pc Lk En St)
set_option maxHeartbeats 400000 in
theorem pisprio_any (p : Int) (w : World) :
  Calls Tryz.prog 140 #[.int .i64 p] w fun e w' => e = .returned (.bool (!Pl.oddP p)) ∧ w' = w := by
 have HW : Hid (∀ W, Calls Tryz.prog 32 #[.int .i64 p, .int .i64 0, .int .i64 61440] W fun e w' => e = .returned (.bool (decide (0 ≤ p ∧ p ≤ 61440))) ∧ w' = W) := fun W => gwithin_any p 0 61440 W
 unfold Pl.oddP
 by_cases h1 : 0 ≤ p ∧ p ≤ 61440
 ·rw [decide_eq_true h1] at HW ⊢
  have hr : p.tmod 4096 = p % 4096 := Int.tmod_eq_emod_of_nonneg h1.1
  have hw : IntKind.i64.wrap (p % 4096) = p % 4096 := wraps_i64 _ (by omega) (by omega)
  by_cases h2 : p % 4096 = 0
  ·have hd : (p.tmod 4096 == 0) = true := by rw [hr]; simp [h2]
   go_enter Tryz.func140, Tryz.ntmps140
   go_wp2_with (go_at_call 32; refine (HW.out _).mono ?_; rintro e w1 ⟨rfl, rfl⟩)
   go_ret
   exact ⟨by simp [h2], rfl⟩
  ·have hd : (p.tmod 4096 == 0) = false := by rw [hr]; simp [h2]
   go_enter Tryz.func140, Tryz.ntmps140
   go_wp2_with (go_at_call 32; refine (HW.out _).mono ?_; rintro e w1 ⟨rfl, rfl⟩)
   go_ret
   exact ⟨by simp [h2], rfl⟩
 ·rw [decide_eq_false h1] at HW ⊢
  go_enter Tryz.func140, Tryz.ntmps140
  go_wp2_with (go_at_call 32; refine (HW.out _).mono ?_; rintro e w1 ⟨rfl, rfl⟩)
  go_ret
  exact ⟨rfl, rfl⟩
theorem podd_any (p : Int) (w : World) :
  Calls Tryz.prog 158 #[.int .i64 p] w fun e w' => e = .returned (.bool (Pl.oddP p)) ∧ w' = w := by
 have HW : Hid (∀ W, Calls Tryz.prog 140 #[.int .i64 p] W fun e w' => e = .returned (.bool (!Pl.oddP p)) ∧ w' = W) := fun W => pisprio_any p W
 generalize Pl.oddP p = b at *
 go_enter Tryz.func158, Tryz.ntmps158
 go_wp2_with (go_at_call 140; refine (HW.out _).mono ?_; rintro e w1 ⟨rfl, rfl⟩)
 go_ret
 exact ⟨by simp, rfl⟩
set_option maxHeartbeats 400000 in
theorem pindex_any (ao : Option Addr) (n cap : Nat) (f : Nat → Int) (w : World) (hn : n ≤ 16) (hr : IRow w ao n cap f) :
  Calls Tryz.prog 198 #[.slice ao n cap, .func (.func 158) #[] #[]] w fun e w' => ∃ r : Int, e = .returned (.int .i64 r) ∧ decide (0 ≤ r) = Vc.someTo (fun i => Pl.oddP (f i)) n ∧ w' = w := by
 have HR : Hid (IRow w ao n cap f) := hr
 clear hr
 go_enter Tryz.func198, Tryz.ntmps198
 go_wp2_with fail
 go_loopw [8] (fun i wr => ∃ k : Nat, k ≤ n ∧ i = .int .i64 k ∧ Hid (Vc.someTo (fun i => Pl.oddP (f i)) k = false) ∧ wr = w) (fun i _ => n - (intOf i).toNat)
 case atStart => exact ⟨0, by omega, rfl, rfl, rfl⟩
 case round =>
  obtain ⟨k, hk, rfl, hX, rfl⟩ := hrel
  by_cases hlt : k < n
  ·obtain ⟨b, off, rfl, hb⟩ := CRow.some HR.out (by omega)
   have hcap := HR.out.1
   have c4 : wr.cell? ⟨b, off + k, none⟩ = some (.int .i64 (f k)) := IRow.cells HR.out hlt
   have HS1 : Hid (Pl.oddP (f k) = true → Vc.someTo (fun i => Pl.oddP (f i)) n = true) := fun h => someTo_stay _ k h n hlt
   have HS2 : Hid (Pl.oddP (f k) = false → Vc.someTo (fun i => Pl.oddP (f i)) (k + 1) = false) := fun h => by
    show (Vc.someTo _ k || Pl.oddP (f k)) = false
    rw [h, hX.out]; rfl
   clear HR hX
   generalize f k = c at *
   cases ho : Pl.oddP c with
   | true =>
    have HO : Hid (Pl.oddP c = true) := ho
    clear ho
    go_wp2_with (go_at_call 158; refine (podd_any _ _).mono ?_; rintro e w1 ⟨rfl, rfl⟩; rw [HO.out])
    go_ret
    exact ⟨_, rfl, by rw [HS1.out HO.out]; simp, rfl⟩
   | false =>
    have HO : Hid (Pl.oddP c = false) := ho
    clear ho
    go_wp2_with (go_at_call 158; refine (podd_any _ _).mono ?_; rintro e w1 ⟨rfl, rfl⟩; rw [HO.out])
    exact ⟨⟨k + 1, by omega, by go_num, HS2.out HO.out, trivial⟩, by simp [intOf]; omega⟩
  ·obtain rfl : k = n := by omega
   go_wp2
   go_ret
   exact ⟨_, rfl, by rw [hX.out]; decide, rfl⟩
set_option maxHeartbeats 400000 in
theorem pcontains_any (ao : Option Addr) (n cap : Nat) (f : Nat → Int) (w : World) (hn : n ≤ 16) (hr : IRow w ao n cap f) :
  Calls Tryz.prog 159 #[.slice ao n cap, .func (.func 158) #[] #[]] w fun e w' => e = .returned (.bool (Vc.someTo (fun i => Pl.oddP (f i)) n)) ∧ w' = w := by
 have HR : Hid (IRow w ao n cap f) := hr
 clear hr
 go_enter Tryz.func159, Tryz.ntmps159
 go_wp2_with (go_at_call 198; refine (pindex_any _ _ _ f _ hn HR.out).mono ?_; rintro e w1 ⟨r, rfl, hq, rfl⟩; have HQ : Hid (decide (0 ≤ r) = Vc.someTo (fun i => Pl.oddP (f i)) n) := hq; clear hq)
 go_ret
 exact ⟨by rw [HQ.out]; rfl, rfl⟩
theorem br_cells {w : World} {g : Nat} {a0 a1 a2 a3 a4 : Value} {ty : TypeId} (h : w.heap[g]? = some (.cells #[a0, a1, a2, a3, a4] ty (0, 0))) :
  w.cell? ⟨g, 0, none⟩ = some a0 ∧ w.cell? ⟨g, 1, none⟩ = some a1 ∧ w.cell? ⟨g, 2, none⟩ = some a2 ∧ w.cell? ⟨g, 3, none⟩ = some a3 ∧ w.cell? ⟨g, 4, none⟩ = some a4 :=
 ⟨cell_of_row w g 0 _ _ _ h, cell_of_row w g 1 _ _ _ h, cell_of_row w g 2 _ _ _ h, cell_of_row w g 3 _ _ _ h, cell_of_row w g 4 _ _ _ h⟩
def brA (b : Br) : Array Value := #[.int .u64 b.addr, .slice b.pao b.pn b.pcap, .string b.reg.s, .int .i64 b.reg.rev, .slice b.reg.ao b.reg.n b.reg.cap]
set_option maxHeartbeats 1000000 in
theorem pwrongBridge_any (b : Br) (w : World) (hb : b.at' w) :
  Calls Tryz.prog 107 #[.agg (brA b)] w fun e w' => e = .returned (.int .i64 (Pl.brErr b)) ∧ Below w.heap.size w w' := by
 obtain ⟨hp, hreg, hn1, hn2⟩ := hb
 have HX : Hid (∀ W, W = w.alloc (.cells (brA b) 58) → b.pn ≤ 16 → Calls Tryz.prog 159 #[.slice b.pao b.pn b.pcap, .func (.func 158) #[] #[]] W fun e w' => e = .returned (.bool (Vc.someTo (fun i => Pl.oddP (b.pv i)) b.pn)) ∧ w' = W) := fun W hW h => pcontains_any _ _ _ _ W h (hp.below (by rw [hW]; exact below_alloc1 _ _))
 have HG : Hid (∀ W, W = w.alloc (.cells (brA b) 58) → Calls Tryz.prog 144 #[.agg #[.string b.reg.s, .int .i64 b.reg.rev, .slice b.reg.ao b.reg.n b.reg.cap]] W fun e w' => e = .returned (.int .i64 (Rg.wrong b.reg.s b.reg.rev b.reg.vs b.reg.ts b.reg.n)) ∧ Below w.heap.size w w') := fun W hW => by
  have hbl : Below w.heap.size w W := by rw [hW]; exact below_alloc1 _ _
  refine (gwrong_any b.reg.s b.reg.rev b.reg.ao b.reg.n b.reg.cap b.reg.vs b.reg.ts W hn2 (hreg.below hbl)).mono ?_
  rintro e w' ⟨rfl, h2⟩
  exact ⟨rfl, hbl.trans (h2.mono hbl.size)⟩
 have HA : Hid ((w.alloc (.cells (brA b) 58)).heap[w.heap.size]? = some (.cells (brA b) 58 (0, 0))) := heap_alloc_last _ _
 obtain ⟨R, HR⟩ : ∃ R, Hid (R = Rg.wrong b.reg.s b.reg.rev b.reg.vs b.reg.ts b.reg.n) := ⟨_, rfl⟩
 obtain ⟨S, HS⟩ : ∃ S, Hid (S = Vc.someTo (fun i => Pl.oddP (b.pv i)) b.pn) := ⟨_, rfl⟩
 have HE : Hid (Pl.brErr b = if 281474976710655 < b.addr then 3 else if 16 < b.pn then 5 else if S = true then 3 else R) := by rw [HR.out, HS.out]; rfl
 rw [← HR.out] at HG
 rw [← HS.out] at HX
 clear HR HS hp hreg hn2
 obtain ⟨addr, pao, pn, pcap, pv, ⟨s, rev, ao, n, cap, vs, ts⟩⟩ := b
 simp only [brA] at *
 rw [HE.out]
 obtain ⟨q0, q1, q2, q3, q4⟩ := br_cells HA.out
 clear HA HE
 by_cases h1 : 281474976710655 < addr
 ·rw [if_pos h1]
  go_enter Tryz.func107, Tryz.ntmps107
  go_wp2_with fail
  go_ret
  exact ⟨rfl, below_alloc1 _ _⟩
 ·rw [if_neg h1]
  by_cases h2 : 16 < pn
  ·rw [if_pos h2]
   go_enter Tryz.func107, Tryz.ntmps107
   go_wp2_with fail
   go_ret
   exact ⟨rfl, below_alloc1 _ _⟩
  ·rw [if_neg h2]
   cases S with
   | true =>
    rw [if_pos rfl]
    go_enter Tryz.func107, Tryz.ntmps107
    go_wp2_with (go_at_call 159; refine (HX.out _ rfl (by omega)).mono ?_; rintro e w1 ⟨rfl, rfl⟩)
    go_ret
    exact ⟨rfl, below_alloc1 _ _⟩
   | false =>
    rw [if_neg (by decide)]
    go_enter Tryz.func107, Tryz.ntmps107
    go_wp2_with (first | (go_at_call 159; refine (HX.out _ rfl (by omega)).mono ?_; rintro e w1 ⟨rfl, rfl⟩) | (go_at_call 144; refine (HG.out _ rfl).mono ?_; rintro e w1 ⟨rfl, hb1⟩))
    go_ret
    exact ⟨rfl, hb1⟩
end Go.Proofs.YtflghpnpjmodaaaGreatDoor
namespace Go.Proofs.YtflghpnpjmodaaaGreatDoor
open Go.ChangeShapes Go.WideShapes Go.ChangeAt Go.RowKit
theorem own : ownKnob Tryz.prog.godebug = none := by kernel_rfl
theorem laidOut : laidOutB Tryz.prog = true := by kernel_rfl
theorem one_of {a b : Value} (h : [a] = [b]) : a = b := by simpa using h
theorem wf_u64 {n : Int} (h : (Lit.int .u64 n).wf = true) : 0 ≤ n ∧ n < 18446744073709551616 := by
 simp only [Lit.wf, Bool.and_eq_true, decide_eq_true_eq] at h
 have h1 : IntKind.u64.min = 0 := by decide
 have h2 : IntKind.u64.max = 18446744073709551615 := by decide
 rw [h1, h2] at h
 omega
end Go.Proofs.YtflghpnpjmodaaaGreatDoor
namespace Go.Proofs.YtflghpnpjmodaaaGreatDoor
open Go.RowKit Go.Maps Go.WideElems Go.ChangeShapes Go.WideShapes Go.MapKept Go.ChangeMaps
def cntI {α : Type} [DecidableEq α] (f : Nat → α) (a : α) : Nat → Int
 | 0 => 0
 | k + 1 => cntI f a k + if f k = a then 1 else 0
theorem cntI_range {α : Type} [DecidableEq α] (f : Nat → α) (a : α) : ∀ k : Nat, 0 ≤ cntI f a k ∧ cntI f a k ≤ k
 | 0 => ⟨Int.le_refl _, Int.le_refl _⟩
 | k + 1 => by
  have := cntI_range f a k
  simp only [cntI]
  split <;> omega
theorem cntI_pos {α : Type} [DecidableEq α] (f : Nat → α) (a : α) : ∀ k : Nat, 0 < cntI f a k ↔ Vc.someTo (fun j => decide (f j = a)) k = true
 | 0 => ⟨fun h => by simp [cntI] at h, fun h => by simp [Vc.someTo] at h⟩
 | k + 1 => by
  have h1 := cntI_range f a k
  have h2 := cntI_pos f a k
  have h3 : cntI f a (k + 1) = cntI f a k + if f k = a then 1 else 0 := rfl
  have h4 : Vc.someTo (fun j => decide (f j = a)) (k + 1) = (Vc.someTo (fun j => decide (f j = a)) k || decide (f k = a)) := rfl
  rw [h3, h4]
  by_cases e : f k = a
  ·rw [if_pos e, decide_eq_true e, Bool.or_true]
   exact ⟨fun _ => rfl, fun _ => by omega⟩
  ·rw [if_neg e, decide_eq_false e, Bool.or_false, Int.add_zero]
   exact h2
theorem grown_cell {w w' : World} {b P : Nat} {v : Value} (h : w.cell? ⟨P, 0, none⟩ = some v) (hg : w.grownBy w' (some b)) (hne : P ≠ b) : w'.cell? ⟨P, 0, none⟩ = some v :=
 (World.cell?_of_block (w := w) (hg.block P (block_lt_of_cell h) (fun e => hne (by simpa using e)))).trans h
theorem mzero (w : World) : (zeroValue 3).run Tryz.prog w = .ok (.int .i64 0) w := by kernel_rfl
theorem mwf {n : Int} (h0 : 0 ≤ n) (h1 : n ≤ 100000) : (Lit.int .i64 n).wf = true := WalkArith.wf_i64 (by omega)
theorem lit_inj {a b : Int} (h : (DataW.lit (.int .i64 a) : DataW Unit) = .lit (.int .i64 b)) : a = b := by
 injection h with h
 injection h
/- addresses -/
theorem ukeyed : Keyed Tryz.prog 34 := int_keyed Tryz.underlying34
def UCnt (w : World) (b : Nat) (f : Nat → Int) (m : Nat) : Prop := ∃ D : DataW Unit, w.ownsMap Tryz.prog 34 (plainElem Tryz.prog 3) b m D ∧ IsMap D ∧ ∀ a, (Lit.int .u64 a).wf = true → D.atKey (.int .u64 a) (.lit (.int .i64 0)) = .lit (.int .i64 (cntI f a m))
theorem UCnt.same {w w' : World} {b m : Nat} {f : Nat → Int} (h : UCnt w b f m) (e : w'.heap[b]? = w.heap[b]?) : UCnt w' b f m := by
 obtain ⟨D, ⟨es, clock, hb, r⟩, h2⟩ := h
 exact ⟨D, ⟨es, clock, e.trans hb, r⟩, h2⟩
theorem UCnt.lt {w : World} {b m : Nat} {f : Nat → Int} (h : UCnt w b f m) : b < w.heap.size := by
 obtain ⟨D, h1, _⟩ := h
 exact h1.lt
set_option maxRecDepth 100000 in
set_option maxHeartbeats 1000000 in
theorem utake_any (P b m : Nat) (f : Nat → Int) (a : Int) (w : World) (hP : w.cell? ⟨P, 0, none⟩ = some (.map (some b))) (hne : P ≠ b) (h : UCnt w b f m) (hm : m ≤ 1000) (hf : f m = a) (hwf : (Lit.int .u64 a).wf = true) :
  Calls Tryz.prog 157 #[.int .u64 a, .pointer (some ⟨P, 0, none⟩)] w fun e w' => e = .returned (.int .i64 (if 0 < cntI f a m then 7 else 0)) ∧ UCnt w' b f (m + 1) ∧ w.grownBy w' (some b) := by
 obtain ⟨D, ho, hD, hat⟩ := h
 have hr := cntI_range f a m
 have ht := Tryz.underlying252
 have he := Tryz.underlying3
 have hkey := keyOf_int_mk (k := 34) Tryz.underlying34 hwf
 obtain ⟨c, e1, e2, _⟩ := ho.lookup_int ukeyed ht he (mzero w) hkey
 rw [hat a hwf] at e2
 have e2 := lit_inj e2
 subst e2
 obtain ⟨w1, e3, ho1, hg⟩ := ho.update ukeyed ht (by unfold maxLen; omega) hkey (plainElem_int he (mwf (n := cntI f a m + 1) (by omega) (by omega)))
 have hat1 : ∀ x, (Lit.int .u64 x).wf = true → (D.put (.int .u64 a) (.lit (.int .i64 (cntI f a m + 1)))).atKey (.int .u64 x) (.lit (.int .i64 0)) = .lit (.int .i64 (cntI f x (m + 1))) := by
  intro x hx
  simp only [cntI]
  by_cases e : a = x
  ·subst e
   rw [atKey_put_same hD (ukeyed.key hkey), if_pos hf]
  ·rw [atKey_put_other (fun q => e (by injection q with _ q; exact q.symm)), hat x hx, if_neg (by rw [hf]; exact e), Int.add_zero]
 obtain ⟨c', e4, e5, _⟩ := ho1.lookup_int ukeyed ht he (mzero w1) hkey
 rw [hat1 a hwf] at e5
 have e5 := lit_inj e5
 simp only [cntI, if_pos hf] at e5
 subst e5
 have hP1 : w1.cell? ⟨P, 0, none⟩ = some (.map (some b)) := grown_cell hP hg hne
 have HF : Hid (UCnt w1 b f (m + 1) ∧ w.grownBy w1 (some b)) := ⟨⟨_, ho1, hD.put _ _, hat1⟩, hg⟩
 clear hat1 ho1 hat ho hD hg hf
 generalize cntI f a m = t at *
 have wt : IntKind.i64.wrap (t + 1) = t + 1 := wraps_i64 _ (by omega) (by omega)
 by_cases h0 : 0 < t
 ·rw [if_pos h0]
  have g1 : (1 : Int) < t + 1 := by omega
  go_enter Tryz.func157, Tryz.ntmps157
  go_wp2_with fail
  go_ret
  exact ⟨rfl, HF.out⟩
 ·rw [if_neg h0]
  have g1 : ¬ (1 : Int) < t + 1 := by omega
  go_enter Tryz.func157, Tryz.ntmps157
  go_wp2_with fail
  go_ret
  exact ⟨rfl, HF.out⟩
theorem utaker_any (f : Nat → Int) (w : World) :
  Calls Tryz.prog 104 #[] w fun e w' => e = .returned (.func (.func 157) #[] #[.pointer (some ⟨w.heap.size + 1, 0, none⟩)]) ∧ w'.cell? ⟨w.heap.size + 1, 0, none⟩ = some (.map (some w.heap.size)) ∧ UCnt w' w.heap.size f 0 ∧ Below w.heap.size w w' := by
 have hmm := @run_makeMap Tryz.prog
 go_enter Tryz.func104, Tryz.ntmps104
 go_wp2_with fail
 go_ret
 exact ⟨rfl, cell_of_row _ _ 0 _ _ _ (heap_alloc2_new w (.map #[] 0) (.cells #[.map (some w.heap.size)] 252)), ⟨.map [], (World.ownsMap_made w _ _ _).alloc _, isMap_empty, fun _ _ => rfl⟩, below_alloc2 _ _ _⟩
/- ports -/
theorem prowT : (139 : TypeId) < Tryz.prog.types.size := of_decide_eq_true (by kernel_rfl)
theorem pwide : (match Tryz.prog.underlying 139 with | some (.array _ _) | some (.struct _) => true | _ => false) = true := by rw [Tryz.underlying139]
set_option maxRecDepth 100000 in
theorem pklaw : WideMaps.KeyLaw Tryz.prog 139 := deep_law_laid laidOut (m := 3) (by omega) prowT (by kernel_rfl) pwide
theorem pkeyed : Keyed Tryz.prog 139 := Keyed.of_law pklaw
def pkl (x : Int × Int) : Lit := .string (keyBytes [.int .i64 x.1, .int .i64 x.2])
def pV (x : Int × Int) : Value := .agg #[.int .i64 x.1, .int .i64 x.2]
theorem ptypes : ∃ m, Tryz.prog.types.size = m + 1 := ⟨Tryz.prog.types.size - 1, by kernel_rfl⟩
theorem pkeyType : Tryz.prog.keyType 139 = true := by kernel_rfl
theorem pcells2 : Tryz.prog.cellsOf 139 = 2 := by kernel_rfl
theorem pcells1 : Tryz.prog.cellsOf 3 = 1 := by kernel_rfl
theorem pkey_of (x : Int × Int) (h1 : (Lit.int .i64 x.1).wf = true) (h2 : (Lit.int .i64 x.2).wf = true) : keyOf Tryz.prog 139 (pV x) = some (pkl x) := by
 obtain ⟨m, hm⟩ := ptypes
 unfold keyOf pV
 simp only [Tryz.underlying139]
 rw [if_pos (by simp [pkeyType, Value.formed, Tryz.underlying139, pcells2]), hm]
 unfold Program.keyLits
 simp only [Tryz.underlying139, Value.cells]
 rw [if_pos (by rw [pcells2]; exact ⟨rfl, by simp⟩)]
 simp [pcells1, Program.keyLits, Tryz.underlying3, h1, h2, pkl]
abbrev OwnP (w : World) (b n : Nat) (D : DataW Unit) : Prop := w.ownsMap Tryz.prog 139 (plainElem Tryz.prog 3) b n D
theorem ownP_same {w w' : World} {b n : Nat} {D : DataW Unit} (h : OwnP w b n D) (e : w'.heap[b]? = w.heap[b]?) : OwnP w' b n D := by
 obtain ⟨es, clock, hb, r⟩ := h
 exact ⟨es, clock, e.trans hb, r⟩
theorem wfP0 : (Lit.int .i64 0).wf = true := by decide
set_option maxRecDepth 100000 in
theorem entryP_own {w : World} {b n : Nat} {D : DataW Unit} {key : Value} {kl : Lit} (h : OwnP w b n D) (hkey : keyOf Tryz.prog 139 key = some kl) (hn : n < maxLen) (hD : IsMap D) :
  ∃ (c : Int) (v0 : Value) (st : Nat) (w1 : World), (Instr.lookup 254 (.map (some b)) key false).run Tryz.prog w = .ok (.int .i64 c) w ∧ D.atKey kl (.lit (.int .i64 0)) = .lit (.int .i64 c) ∧
   (Instr.mapEntry 254 (.map (some b)) key).run Tryz.prog w = .ok (.tuple #[v0, goInt st]) w1 ∧ (Instr.lookup 254 (.map (some b)) key false).run Tryz.prog w1 = .ok (.int .i64 c) w1 ∧
   ∀ x, (Lit.int .i64 x).wf = true → ∃ w2, (Instr.entryStore 254 (.map (some b)) (goInt st) (.int .i64 x)).run Tryz.prog w1 = .ok () w2 ∧ OwnP w2 b (n + 1) (D.put kl (.lit (.int .i64 x))) ∧ w.grownBy w2 (some b) := by
 have ht := Tryz.underlying254
 have he := Tryz.underlying3
 obtain ⟨c, hl, hat, _⟩ := h.lookup_int pkeyed ht he (mzero w) hkey
 have h' := h
 obtain ⟨es, clock, hb, F, hs, eD⟩ := h'
 obtain ⟨v0, st, es1, clock1, hrun, _, hst⟩ := entry_then_store pklaw ht mzero hb F hkey
 refine ⟨c, v0, st, _, hl, hat, hrun, ?_, fun x hx => ?_⟩
 ·have hb1 : (setBlock w b (.map es1 clock1)).heap[b]? = some (.map es1 clock1) := heap_setBlock_same hb _
  rcases pklaw.find w hkey es.toList F.keys with ⟨q1, q2⟩ | ⟨j, e0, q1, q2, q3⟩
  ·have hr2 : (Instr.mapEntry 254 (.map (some b)) key).run Tryz.prog w = .ok (.tuple #[.int .i64 0, goInt clock]) (setBlock w b (.map (es.push ⟨key, .int .i64 0, clock⟩) (clock + 1))) := by
    simp [Instr.mapEntry, run_underlying ht, MapKept.run_getObj_map hb, pklaw.check w false hkey, q1, MapKept.run_setObj_map _ hb, Result.andThen, setBlock]
   have hu : (Instr.mapUpdate 254 (.map (some b)) key (.int .i64 0)).run Tryz.prog w = .ok () (setBlock w b (.map (es.push ⟨key, .int .i64 0, clock⟩) (clock + 1))) := by
    simp [Instr.mapUpdate, run_underlying ht, MapKept.run_getObj_map hb, pklaw.check w false hkey, q1, MapKept.run_setObj_map _ hb, Result.andThen, setBlock]
   obtain ⟨w', hu', hown, _⟩ := h.update pkeyed ht hn hkey (plainElem_int he wfP0)
   rw [hu] at hu'
   have ew : setBlock w b (.map (es.push ⟨key, .int .i64 0, clock⟩) (clock + 1)) = w' := by injection hu'
   rw [hr2] at hrun
   have e1 : setBlock w b (.map (es.push ⟨key, .int .i64 0, clock⟩) (clock + 1)) = setBlock w b (.map es1 clock1) := by injection hrun
   rw [← e1, ew]
   obtain ⟨c', hl', hat', _⟩ := hown.lookup_int pkeyed ht he (mzero w') hkey
   rw [hl']
   rw [atKey_put_same hD (pkeyed.key hkey)] at hat'
   have h0 : D.atKey kl (.lit (.int .i64 0)) = .lit (.int .i64 0) := by
    rcases fit_look false pkeyed ht (mzero w) hb F hkey with ⟨_, _, k3⟩ | ⟨e0, y, k1, k2, _⟩
    ·rw [eD]; exact k3 _
    ·exact absurd k2 (q2 e0 k1)
   rw [h0] at hat
   injection hat with hat
   injection hat with _ hat
   injection hat' with hat'
   injection hat' with _ hat'
   rw [← hat, ← hat']
  ·have hj : es[j]? = some e0 := by simpa using q2
   have hsame : es.modify j (fun e => { e with key := key }) = es := by
    apply Array.ext'
    rw [Array.toList_modify, modify_eq_set _ _ _ _ q2]
    have : ({ e0 with key := key } : MapEntry) = e0 := by rw [← q3]
    rw [this]
    exact set_self _ _ _ q2
   have hr2 : (Instr.mapEntry 254 (.map (some b)) key).run Tryz.prog w = .ok (.tuple #[e0.val, goInt e0.born]) (setBlock w b (.map es clock)) := by
    simp [Instr.mapEntry, run_underlying ht, MapKept.run_getObj_map hb, pklaw.check w false hkey, q1, hj, q3, pklaw.stays w hkey, hsame, MapKept.run_setObj_map _ hb, Result.andThen, setBlock]
   rw [hr2] at hrun
   have e1 : setBlock w b (.map es clock) = setBlock w b (.map es1 clock1) := by injection hrun
   rw [← e1]
   have hown := ownP_same (w' := setBlock w b (.map es clock)) h ((heap_setBlock_same hb _).trans hb.symm)
   obtain ⟨c', hl', hat', _⟩ := hown.lookup_int pkeyed ht he (mzero _) hkey
   rw [hl']
   rw [hat] at hat'
   injection hat' with hat'
   injection hat' with _ hat'
   rw [hat']
 ·have hb1 : (setBlock w b (.map es1 clock1)).heap[b]? = some (.map es1 clock1) := heap_setBlock_same hb _
  obtain ⟨es', clock', k1, k2⟩ := hst _ (.int .i64 x) hb1
  obtain ⟨w', hu', hown, hg⟩ := h.update pkeyed ht hn hkey (plainElem_int he hx)
  rw [k2] at hu'
  have ew : setBlock w b (.map es' clock') = w' := by injection hu'
  refine ⟨_, k1, ?_, ?_⟩
  ·refine ownP_same hown ?_
   rw [← ew, heap_setBlock_same hb1, heap_setBlock_same hb]
  ·exact ⟨rfl, rfl, rfl, by simp [setBlock], fun i hi hne => by
    rw [heap_setBlock_other hb1 _ (fun e => hne (by rw [e])), heap_setBlock_other hb _ (fun e => hne (by rw [e]))]⟩
def PCnt (w : World) (b : Nat) (f : Nat → Int × Int) (m : Nat) : Prop := ∃ D : DataW Unit, OwnP w b m D ∧ IsMap D ∧ ∀ a : Int × Int, (Lit.int .i64 a.1).wf = true → (Lit.int .i64 a.2).wf = true → D.atKey (pkl a) (.lit (.int .i64 0)) = .lit (.int .i64 (cntI f a m))
theorem PCnt.same {w w' : World} {b m : Nat} {f : Nat → Int × Int} (h : PCnt w b f m) (e : w'.heap[b]? = w.heap[b]?) : PCnt w' b f m := by
 obtain ⟨D, h1, h2⟩ := h
 exact ⟨D, ownP_same h1 e, h2⟩
theorem PCnt.lt {w : World} {b m : Nat} {f : Nat → Int × Int} (h : PCnt w b f m) : b < w.heap.size := by
 obtain ⟨D, h1, _⟩ := h
 exact h1.lt
theorem pkl_inj {x y : Int × Int} (x1 : (Lit.int .i64 x.1).wf = true) (x2 : (Lit.int .i64 x.2).wf = true) (y1 : (Lit.int .i64 y.1).wf = true) (y2 : (Lit.int .i64 y.2).wf = true) (e : pkl x = pkl y) : x = y := by
 have h1 := pkey_of x x1 x2
 rw [e] at h1
 have := pkeyed.inj h1 (pkey_of y y1 y2)
 obtain ⟨a, b⟩ := x
 obtain ⟨a', b'⟩ := y
 simp only [pV, Value.agg.injEq, Array.mk.injEq, List.cons.injEq, Value.int.injEq, true_and, and_true] at this
 obtain ⟨e1, e2⟩ := this
 subst e1; subst e2
 rfl
theorem two_cells2 {w : World} {g : Nat} {a0 a1 : Value} {ty : TypeId} (h : w.heap[g]? = some (.cells #[a0, a1] ty (0, 0))) : w.cell? ⟨g, 0, none⟩ = some a0 ∧ w.cell? ⟨g, 1, none⟩ = some a1 :=
 ⟨cell_of_row w g 0 _ _ _ h, cell_of_row w g 1 _ _ _ h⟩
theorem grown_block {w w' : World} {b g : Nat} {o : Obj} (h : w.heap[g]? = some o) (hg : w.grownBy w' (some b)) (hne : g ≠ b) : w'.heap[g]? = some o :=
 (hg.block g (Array.getElem?_eq_some_iff.1 h).1 (fun e => hne (by simpa using e))).trans h
set_option maxRecDepth 100000 in
set_option maxHeartbeats 2000000 in
theorem ptake_any (P b m : Nat) (f : Nat → Int × Int) (a : Int × Int) (w : World) (hP : w.cell? ⟨P, 0, none⟩ = some (.map (some b))) (hne : P ≠ b) (h : PCnt w b f m) (hm : m ≤ 1000) (hf : f m = a) (h1 : (Lit.int .i64 a.1).wf = true) (h2 : (Lit.int .i64 a.2).wf = true) :
  Calls Tryz.prog 160 #[.agg #[.int .i64 a.1, .int .i64 a.2], .pointer (some ⟨P, 0, none⟩)] w fun e w' => e = .returned (.int .i64 (if 0 < cntI f a m then 7 else 0)) ∧ PCnt w' b f (m + 1) ∧ w.grownBy w' (some b) := by
 have hlt := h.lt
 have hPlt := block_lt_of_cell hP
 simp only at hPlt
 obtain ⟨X, HX⟩ : ∃ X, Hid (X = w.alloc (.cells #[.int .i64 a.1, .int .i64 a.2] 139)) := ⟨_, rfl⟩
 have hXb : X.heap[w.heap.size]? = some (.cells #[.int .i64 a.1, .int .i64 a.2] 139 (0, 0)) := by rw [HX.out]; exact heap_alloc_last _ _
 have hXg : w.grownBy X.drew (some b) := by
  rw [HX.out]
  exact ⟨rfl, rfl, rfl, by simp [World.drew], fun i hi _ => (below_alloc1 w _).block i hi⟩
 have hX : PCnt X.drew b f m := h.same (by rw [HX.out]; exact (below_alloc1 w _).block b hlt)
 obtain ⟨D, ho, hD, hat⟩ := hX
 have hr := cntI_range f a m
 have hkey := pkey_of a h1 h2
 obtain ⟨c, v0, st, w1, e1, e2, e3, e4, e5⟩ := entryP_own ho hkey (by unfold maxLen; omega) hD
 rw [hat a h1 h2] at e2
 have e2 := lit_inj e2
 subst e2
 obtain ⟨w2, e6, ho2, hg⟩ := e5 (cntI f a m + 1) (mwf (by omega) (by omega))
 have hat1 : ∀ x : Int × Int, (Lit.int .i64 x.1).wf = true → (Lit.int .i64 x.2).wf = true → (D.put (pkl a) (.lit (.int .i64 (cntI f a m + 1)))).atKey (pkl x) (.lit (.int .i64 0)) = .lit (.int .i64 (cntI f x (m + 1))) := by
  intro x x1 x2
  simp only [cntI]
  by_cases e : a = x
  ·subst e
   rw [atKey_put_same hD (pkeyed.key hkey), if_pos hf]
  ·rw [atKey_put_other (fun q => e (pkl_inj h1 h2 x1 x2 q.symm)), hat x x1 x2, if_neg (by rw [hf]; exact e), Int.add_zero]
 obtain ⟨c', e7, e8, _⟩ := ho2.lookup_int pkeyed Tryz.underlying254 Tryz.underlying3 (mzero w2) hkey
 rw [hat1 a h1 h2] at e8
 have e8 := lit_inj e8
 simp only [cntI, if_pos hf] at e8
 subst e8
 have q0 : w2.cell? ⟨P, 0, none⟩ = some (.map (some b)) := grown_cell (grown_cell hP hXg hne) hg hne
 have r0 : X.cell? ⟨P, 0, none⟩ = some (.map (some b)) := (show X.drew.cell? ⟨P, 0, none⟩ = _ from grown_cell hP hXg hne)
 obtain ⟨q1, q2⟩ := two_cells2 (grown_block (w := X.drew) hXb hg (by omega))
 obtain ⟨r1, r2⟩ := two_cells2 hXb
 have HF : Hid (PCnt w2 b f (m + 1) ∧ w.grownBy w2 (some b)) := ⟨⟨_, ho2, hD.put _ _, hat1⟩, hXg.trans hg⟩
 unfold pV goInt at *
 clear hat1 ho2 hat ho hD hg hf hXg hXb e5 hkey h hP
 generalize cntI f a m = t at *
 obtain ⟨x, y⟩ := a
 simp only at *
 have wt : IntKind.i64.wrap (t + 1) = t + 1 := wraps_i64 _ (by omega) (by omega)
 by_cases h0 : 0 < t
 ·rw [if_pos h0]
  have g1 : (1 : Int) < t + 1 := by omega
  go_enter Tryz.func160, Tryz.ntmps160
  go_wp2_with fail
  rw [← HX.out]
  go_region
  all_goals go_wp2_with fail
  all_goals go_ret
  all_goals exact ⟨rfl, HF.out⟩
 ·rw [if_neg h0]
  have g1 : ¬ (1 : Int) < t + 1 := by omega
  go_enter Tryz.func160, Tryz.ntmps160
  go_wp2_with fail
  rw [← HX.out]
  go_region
  all_goals go_wp2_with fail
  all_goals go_ret
  all_goals exact ⟨rfl, HF.out⟩
theorem ptaker_any (f : Nat → Int × Int) (w : World) :
  Calls Tryz.prog 108 #[] w fun e w' => e = .returned (.func (.func 160) #[] #[.pointer (some ⟨w.heap.size + 1, 0, none⟩)]) ∧ w'.cell? ⟨w.heap.size + 1, 0, none⟩ = some (.map (some w.heap.size)) ∧ PCnt w' w.heap.size f 0 ∧ Below w.heap.size w w' := by
 have hmm := @run_makeMap Tryz.prog
 go_enter Tryz.func108, Tryz.ntmps108
 go_wp2_with fail
 go_ret
 exact ⟨rfl, cell_of_row _ _ 0 _ _ _ (heap_alloc2_new w (.map #[] 0) (.cells #[.map (some w.heap.size)] 254)), ⟨.map [], (World.ownsMap_made w _ _ _).alloc _, isMap_empty, fun _ _ _ => rfl⟩, below_alloc2 _ _ _⟩
end Go.Proofs.YtflghpnpjmodaaaGreatDoor
namespace Go.Proofs.YtflghpnpjmodaaaGreatDoor
open Go.RowKit Go.Maps
open Pl (Br Net Pc Lk En St)
theorem grown_of_below {w w' : World} {b : Nat} (h : Below w.heap.size w w') : w.grownBy w' (some b) := ⟨h.os, h.tape, h.output, h.size, fun i hi _ => h.block i hi⟩
theorem below_of_grown {w w' : World} {b n : Nat} (h : w.grownBy w' (some b)) (hn : n ≤ w.heap.size) (hb : n ≤ b) : Below n w w' := (Below.refl n w).grown h hn (fun j hj => by cases hj; exact hb)
def bSay (b : Br) (c : Int) : Int := if Pl.brErr b ≠ 0 then Pl.brErr b else if 0 < c then 7 else 0
set_option maxRecDepth 100000 in
set_option maxHeartbeats 1000000 in
theorem pbClosure_any (b : Br) (Q P B m : Nat) (f : Nat → Int) (w : World) (hb : b.at' w) (hQ : w.cell? ⟨Q, 0, none⟩ = some (.func (.func 157) #[] #[.pointer (some ⟨P, 0, none⟩)])) (hP : w.cell? ⟨P, 0, none⟩ = some (.map (some B))) (hne : P ≠ B) (hc : UCnt w B f m) (hm : m ≤ 1000) (hf : f m = b.addr) (hwf : (Lit.int .u64 b.addr).wf = true) :
  Calls Tryz.prog 106 #[.agg (brA b), .pointer (some ⟨Q, 0, none⟩)] w fun e w' => e = .returned (.int .i64 (bSay b (cntI f b.addr m))) ∧ (Pl.brErr b = 0 → UCnt w' B f (m + 1)) ∧ w.grownBy w' (some B) := by
 obtain ⟨X, HX⟩ : ∃ X, Hid (X = w.alloc (.cells (brA b) 58)) := ⟨_, rfl⟩
 have hXB : Below w.heap.size w X := by rw [HX.out]; exact below_alloc1 _ _
 have hXb : X.heap[w.heap.size]? = some (.cells (brA b) 58 (0, 0)) := by rw [HX.out]; exact heap_alloc_last _ _
 have hlt := hc.lt
 have hQl := block_lt_of_cell hQ
 have hPl := block_lt_of_cell hP
 simp only at hQl hPl
 have HC : Hid (Calls Tryz.prog 107 #[.agg (brA b)] X fun e w' => e = .returned (.int .i64 (Pl.brErr b)) ∧ Below X.heap.size X w') := pwrongBridge_any b X (hb.below hXB)
 have HT : Hid (∀ W, Below X.heap.size X W → Calls Tryz.prog 157 #[.int .u64 b.addr, .pointer (some ⟨P, 0, none⟩)] W fun e w' => e = .returned (.int .i64 (if 0 < cntI f b.addr m then 7 else 0)) ∧ UCnt w' B f (m + 1) ∧ w.grownBy w' (some B)) := by
  intro W hW
  have h1 : Below w.heap.size w W := hXB.trans (hW.mono hXB.size)
  refine (utake_any P B m f b.addr W ((h1.cell (by exact hPl)).trans hP) hne (hc.same (h1.block B hlt)) hm hf hwf).mono ?_
  rintro e w' ⟨rfl, k1, k2⟩
  exact ⟨rfl, k1, (grown_of_below h1).trans k2⟩
 have HL : Hid (∀ W, Below X.heap.size X W → W.cell? ⟨Q, 0, none⟩ = some (.func (.func 157) #[] #[.pointer (some ⟨P, 0, none⟩)]) ∧ W.cell? ⟨w.heap.size, 0, none⟩ = some (.int .u64 b.addr) ∧ w.grownBy W (some B)) := by
  intro W hW
  have h1 : Below w.heap.size w W := hXB.trans (hW.mono hXB.size)
  exact ⟨(h1.cell (by exact hQl)).trans hQ, (br_cells (keep hXb hW)).1, grown_of_below h1⟩
 obtain ⟨q0, q1, q2, q3, q4⟩ := br_cells hXb
 unfold bSay
 generalize Pl.brErr b = E at *
 generalize cntI f b.addr m = t at *
 generalize (if 0 < t then (7 : Int) else 0) = R at *
 clear hQ hP hc hf hwf hXb hXB hb
 obtain ⟨addr, pao, pn, pcap, pv, ⟨s, rev, ao, n, cap, vs, ts⟩⟩ := b
 simp only [brA] at *
 by_cases e0 : E = 0
 ·subst e0
  rw [if_neg (by omega)]
  go_enter Tryz.func106, Tryz.ntmps106
  go_wp2_with fail
  rw [← HX.out]
  refine HC.out.mono ?_
  rintro e w1 ⟨rfl, hb1⟩
  obtain ⟨k0, k1, k2⟩ := HL.out w1 hb1
  have ht1 := HT.out w1 hb1
  clear hb1 k2 HL HT HC
  go_wp2_with fail
  refine ht1.mono ?_
  rintro e w2 ⟨rfl, k3, k4⟩
  go_wp2_with fail
  go_ret
  first | exact ⟨rfl, fun _ => k3, k4⟩ | exact ⟨rfl, k3, k4⟩
 ·rw [if_pos e0]
  have e1 : (E == 0) = false := by simp [e0]
  go_enter Tryz.func106, Tryz.ntmps106
  go_wp2_with fail
  rw [← HX.out]
  refine HC.out.mono ?_
  rintro e w1 ⟨rfl, hb1⟩
  obtain ⟨k0, k1, k2⟩ := HL.out w1 hb1
  go_wp2_with fail
  go_ret
  exact ⟨rfl, fun h => absurd h e0, k2⟩
def ftA (x : Int × Int) : Array Value := #[.int .i64 x.1, .int .i64 x.2]
theorem sizeFt : (Tryz.prog.info? 26).map (·.size) = some 2 := by kernel_rfl
theorem set2_same {w : World} {g : Nat} {a0 a1 v0 v1 : Value} {ty : TypeId} (h : w.heap[g]? = some (.cells #[a0, a1] ty (0, 0))) :
  ((w.setCell ⟨g, 0, none⟩ v0).setCell ⟨g, 1, none⟩ v1).heap[g]? = some (.cells #[v0, v1] ty (0, 0)) := by
 have h0 : (w.setCell ⟨g, 0, none⟩ v0).heap[g]? = some (.cells #[v0, a1] ty (0, 0)) := by rw [heap_setCell_same _ _ _ _ _ _ h]; rfl
 rw [heap_setCell_same _ _ _ _ _ _ h0]; rfl
theorem bSay_err (bs : Nat → Br) (k : Nat) : bSay (bs k) (cntI (fun j => (bs j).addr) (bs k).addr k) = Pl.bErr bs k := by
 unfold bSay Pl.bErr
 have := cntI_pos (fun j => (bs j).addr) (bs k).addr k
 by_cases h : Pl.brErr (bs k) = 0
 ·have hn : ¬ Pl.brErr (bs k) ≠ 0 := fun q => q h
  rw [if_neg hn, if_neg hn]
  by_cases c : 0 < cntI (fun j => (bs j).addr) (bs k).addr k
  ·rw [if_pos c, if_pos (this.1 c)]
  ·rw [if_neg c, if_neg (fun q => c (this.2 q))]
 ·rw [if_pos h, if_pos h]
theorem bErr_zero {bs : Nat → Br} {k : Nat} (h : Pl.bErr bs k = 0) : Pl.brErr (bs k) = 0 := by
 unfold Pl.bErr at h
 by_cases q : Pl.brErr (bs k) = 0
 ·exact q
 ·rw [if_pos q] at h; exact absurd h q
set_option maxRecDepth 100000 in
set_option maxHeartbeats 2000000 in
theorem pbFirst_any (ao : Option Addr) (n cap : Nat) (bs : Nat → Br) (Q P B : Nat) (W0 w : World) (hn : n ≤ 12) (hr : BRow W0 ao n cap bs) (hb : ∀ i, i < n → (bs i).at' W0) (hwf : ∀ i, i < n → (Lit.int .u64 (bs i).addr).wf = true)
  (hQ : w.cell? ⟨Q, 0, none⟩ = some (.func (.func 157) #[] #[.pointer (some ⟨P, 0, none⟩)])) (hP : w.cell? ⟨P, 0, none⟩ = some (.map (some B))) (hPB : P ≠ B) (hQB : Q ≠ B) (hc : UCnt w B (fun j => (bs j).addr) 0)
  (hM : W0.heap.size ≤ B) (hW0 : Below W0.heap.size W0 w) :
  Calls Tryz.prog 105 #[.slice ao n cap, .func (.func 106) #[] #[.pointer (some ⟨Q, 0, none⟩)]] w fun e w' => e = .returned (.agg (ftA (Pl.firstTo (Pl.bErr bs) n))) ∧ Below W0.heap.size W0 w' := by
 have HRW : Hid (∀ W, Below W0.heap.size W0 W → BRow W ao n cap bs ∧ ∀ i, i < n → (bs i).at' W) := fun W hW => ⟨CRow.other hr (fun q _ _ hq => hW.block q hq) hW.size, fun i hi => (hb i hi).below hW⟩
 have HWF : Hid (∀ i, i < n → (Lit.int .u64 (bs i).addr).wf = true) := hwf
 have hcap := hr.1
 have hBl := hc.lt
 obtain ⟨G, HG⟩ : ∃ G, Hid (G = w.heap.size) := ⟨_, rfl⟩
 have hGB : G ≠ B := by rw [HG.out]; omega
 have hGM : W0.heap.size ≤ G := by rw [HG.out]; exact hW0.size
 have HI : Hid (∀ W, W = w.alloc (.cells #[.int .i64 0, .int .i64 0] 26) → Below W0.heap.size W0 W ∧ UCnt W B (fun j => (bs j).addr) 0 ∧ W.heap[G]? = some (.cells #[.int .i64 0, .int .i64 0] 26 (0, 0)) ∧ W.cell? ⟨Q, 0, none⟩ = some (.func (.func 157) #[] #[.pointer (some ⟨P, 0, none⟩)]) ∧ W.cell? ⟨P, 0, none⟩ = some (.map (some B))) := by
  intro W hW
  have h1 : Below w.heap.size w W := by rw [hW]; exact below_alloc1 _ _
  have hQl := block_lt_of_cell hQ
  have hPl := block_lt_of_cell hP
  exact ⟨hW0.trans (h1.mono hW0.size), hc.same (h1.block B hBl), by rw [hW, HG.out]; exact heap_alloc_last _ _, (h1.cell (by exact hQl)).trans hQ, (h1.cell (by exact hPl)).trans hP⟩
 clear hr hb hwf hQ hP hc hW0 hBl
 go_enter Tryz.func105, Tryz.ntmps105
 go_wp2_with fail
 rw [← HG.out]
 go_loopw [10] (fun i wr => ∃ k : Nat, k ≤ n ∧ i = .int .i64 k ∧ Hid (∀ j, j < k → Pl.bErr bs j = 0) ∧ Hid (Below W0.heap.size W0 wr ∧ UCnt wr B (fun j => (bs j).addr) k ∧ wr.heap[G]? = some (.cells #[.int .i64 0, .int .i64 0] 26 (0, 0)) ∧ wr.cell? ⟨Q, 0, none⟩ = some (.func (.func 157) #[] #[.pointer (some ⟨P, 0, none⟩)]) ∧ wr.cell? ⟨P, 0, none⟩ = some (.map (some B)))) (fun i _ => n - (intOf i).toNat)
 case atStart => exact ⟨0, by omega, rfl, (fun j hj => absurd hj (by omega)), HI.out _ rfl⟩
 case round =>
  obtain ⟨k, hk, rfl, hS, hX⟩ := hrel
  clear HI
  by_cases hlt : k < n
  ·obtain ⟨b, off, rfl, _⟩ := CRow.some (HRW.out wr hX.out.1).1 (by omega)
   obtain ⟨c0, c1, c2, c3, c4⟩ := BRow.cells (HRW.out wr hX.out.1).1 hlt
   obtain ⟨X, HX⟩ : ∃ X, Hid (X = wr.alloc (.cells (brA (bs k)) 58)) := ⟨_, rfl⟩
   have HXB : Hid (Below wr.heap.size wr X) := by rw [HX.out]; exact below_alloc1 _ _
   have HX5 : Hid (X.heap[wr.heap.size]? = some (.cells (brA (bs k)) 58 (0, 0))) := by rw [HX.out]; exact heap_alloc_last _ _
   have HCL : Hid (Calls Tryz.prog 106 #[.agg (brA (bs k)), .pointer (some ⟨Q, 0, none⟩)] X fun e w' => e = .returned (.int .i64 (Pl.bErr bs k)) ∧ Hid (Below W0.heap.size W0 w' ∧ (Pl.bErr bs k = 0 → UCnt w' B (fun j => (bs j).addr) (k + 1)) ∧ w'.heap[G]? = some (.cells #[.int .i64 0, .int .i64 0] 26 (0, 0)) ∧ w'.cell? ⟨Q, 0, none⟩ = some (.func (.func 157) #[] #[.pointer (some ⟨P, 0, none⟩)]) ∧ w'.cell? ⟨P, 0, none⟩ = some (.map (some B)))) := by
    obtain ⟨x1, x2, x3, x4, x5⟩ := hX.out
    have l1 := block_lt_of_cell x4
    have l2 := block_lt_of_cell x5
    have y1 : Below W0.heap.size W0 X := x1.trans (HXB.out.mono x1.size)
    have y4 := (HXB.out.cell (by exact l1)).trans x4
    have y5 := (HXB.out.cell (by exact l2)).trans x5
    have y3 := keep x3 HXB.out
    refine (pbClosure_any (bs k) Q P B k (fun j => (bs j).addr) X ((HRW.out X y1).2 k hlt) y4 y5 hPB (x2.same (HXB.out.block B x2.lt)) (by omega) rfl (HWF.out k hlt)).mono ?_
    rintro e w' ⟨rfl, z1, z2⟩
    rw [bSay_err]
    exact ⟨rfl, y1.trans (below_of_grown z2 y1.size hM), fun h => z1 (bErr_zero h), grown_block y3 z2 hGB, grown_cell y4 z2 hQB, grown_cell y5 z2 hPB⟩
   have HF1 : Hid (Pl.bErr bs k ≠ 0 → ftA (Pl.firstTo (Pl.bErr bs) n) = #[.int .i64 (Pl.bErr bs k), .int .i64 (k : Int)]) := fun h => by rw [Pl.firstTo_here (Pl.bErr bs) k hS.out h n hlt]; rfl
   have HS1 : Hid (Pl.bErr bs k = 0 → ∀ j, j < k + 1 → Pl.bErr bs j = 0) := fun h j hj => by
    by_cases e : j = k
    ·subst e; exact h
    ·exact hS.out j (by omega)
   obtain ⟨d0, d1, d2, d3, d4⟩ := br_cells HX5.out
   clear hX hS HX5 HXB HWF HRW
   generalize Pl.bErr bs k = E at *
   by_cases e0 : E = 0
   ·subst e0
    have HS2 : Hid (∀ j, j < k + 1 → Pl.bErr bs j = 0) := HS1.out rfl
    clear HS1 HF1
    simp only [brA] at *
    go_wp2_with fail
    rw [← HX.out]
    refine HCL.out.mono ?_
    rintro e w1 ⟨rfl, hY⟩
    clear d0 d1 d2 d3 d4 c0 c1 c2 c3 c4
    go_wp2_with fail
    exact ⟨⟨k + 1, by omega, by go_num, HS2, ⟨hY.out.1, hY.out.2.1 (by first | exact rfl | trivial), hY.out.2.2⟩⟩, by simp [intOf]; omega⟩
   ·have e1 : (E == 0) = false := by simp [e0]
    have HF2 : Hid _ := HF1.out e0
    clear HS1 HF1
    simp only [brA] at *
    go_wp2_with fail
    rw [← HX.out]
    refine HCL.out.mono ?_
    rintro e w1 ⟨rfl, hY⟩
    clear d0 d1 d2 d3 d4 c0 c1 c2 c3 c4
    obtain ⟨f0, f1⟩ := two_cells2 hY.out.2.2.1
    obtain ⟨g0, g1, _, _⟩ := vc_free hY.out.2.2.1
    go_wp2_with fail
    exact bodyPost_ret (v := .agg #[.int .i64 E, .int .i64 (k : Int)]) (results_row (p := 4) (ty := 26) Tryz.results105 _ _ G 26 #[.int .i64 E, .int .i64 (k : Int)] (0, 0) _ rfl (set2_same hY.out.2.2.1) Tryz.underlying26 rfl (by rw [sizeFt]; rfl)) rfl ⟨by rw [HF2.out], (hY.out.1.setCell hGM _).setCell hGM _⟩
  ·obtain rfl : k = n := by omega
   have HF2 : Hid (ftA (Pl.firstTo (Pl.bErr bs) k) = #[.int .i64 0, .int .i64 0]) := by rw [Pl.firstTo_all _ _ hS.out]; rfl
   obtain ⟨f0, f1⟩ := two_cells2 hX.out.2.2.1
   obtain ⟨g0, g1, _, _⟩ := vc_free hX.out.2.2.1
   go_wp2_with fail
   exact bodyPost_ret (v := .agg #[.int .i64 0, .int .i64 0]) (results_row (p := 4) (ty := 26) Tryz.results105 _ _ G 26 #[.int .i64 0, .int .i64 0] (0, 0) _ rfl (set2_same hX.out.2.2.1) Tryz.underlying26 rfl (by rw [sizeFt]; rfl)) rfl ⟨by rw [HF2.out], (hX.out.1.setCell hGM _).setCell hGM _⟩
end Go.Proofs.YtflghpnpjmodaaaGreatDoor
namespace Go.Proofs.YtflghpnpjmodaaaGreatDoor
open Go.RowKit
section
variable {P : Program} {ops : Array Oper} {Q : Exit → Act → World → Prop} {md : Region.Mode} {S : World → Prop}
end
end Go.Proofs.YtflghpnpjmodaaaGreatDoor
