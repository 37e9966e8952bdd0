/- walks: package plan's Ident and identsOf -/
import Derived.Test.YtcbpafpaimpfnaaGreatDoorMA
import Derived.Test.YtcbpafpaimpfnaaGreatDoorGW2
import Derived.Test.YtcbpafpaimpfnaaGreatDoorFrG
import Derived.Test.YtcbpafpaimpfnaaGreatDoorVK2
import Derived.Test.YtcbpafpaimpfnaaGreatDoorGW7a
import Derived.Maps.OwnOps
import Derived.Maps.Range
import Derived.Maps.RangeWalk
import Derived.Maps.Views
import Derived.WideKeyEntry
import Derived.DeepKeys4
import Derived.MapViews
import Derived.Deep.RegionHeld3
import Derived.Laws.EntriesVeiled
namespace Go.Proofs.YtcbpafpaimpfnaaGreatDoor
open Go.RowKit
open Pl (Br Net Pc Lk En St)

set_option maxHeartbeats 400000 in
theorem pisprio_any (p : Int) (w : World) :
    Calls Tryz.prog 66 #[.int .i64 p] w fun e w' => e = .returned (.bool (!Pl.oddP p)) ∧ w' = w := by
  have HW : Hid (∀ W, Calls Tryz.prog 28 #[.int .i64 p, .int .i64 0, .int .i64 61440] W fun e w' => e = .returned (.bool (decide (0 ≤ p ∧ p ≤ 61440))) ∧ w' = W) := fun W => gwithin_any p 0 61440 W
  unfold Pl.oddP
  by_cases h1 : 0 ≤ p ∧ p ≤ 61440
  · rw [decide_eq_true h1] at HW ⊢
    have hr : p.tmod 4096 = p % 4096 := Int.tmod_eq_emod_of_nonneg h1.1
    have hw : IntKind.i64.wrap (p % 4096) = p % 4096 := wraps_i64 _ (by omega) (by omega)
    by_cases h2 : p % 4096 = 0
    · have hd : (p.tmod 4096 == 0) = true := by rw [hr]; simp [h2]
      go_enter Tryz.func66, Tryz.ntmps66
      go_wp2_with (go_at_call 28; refine (HW.out _).mono ?_; rintro e w1 ⟨rfl, rfl⟩)
      go_ret
      exact ⟨by simp [h2], rfl⟩
    · have hd : (p.tmod 4096 == 0) = false := by rw [hr]; simp [h2]
      go_enter Tryz.func66, Tryz.ntmps66
      go_wp2_with (go_at_call 28; refine (HW.out _).mono ?_; rintro e w1 ⟨rfl, rfl⟩)
      go_ret
      exact ⟨by simp [h2], rfl⟩
  · rw [decide_eq_false h1] at HW ⊢
    go_enter Tryz.func66, Tryz.ntmps66
    go_wp2_with (go_at_call 28; refine (HW.out _).mono ?_; rintro e w1 ⟨rfl, rfl⟩)
    go_ret
    exact ⟨rfl, rfl⟩
theorem podd_any (p : Int) (w : World) :
    Calls Tryz.prog 65 #[.int .i64 p] w fun e w' => e = .returned (.bool (Pl.oddP p)) ∧ w' = w := by
  have HW : Hid (∀ W, Calls Tryz.prog 66 #[.int .i64 p] W fun e w' => e = .returned (.bool (!Pl.oddP p)) ∧ w' = W) := fun W => pisprio_any p W
  generalize Pl.oddP p = b at *
  go_enter Tryz.func65, Tryz.ntmps65
  go_wp2_with (go_at_call 66; refine (HW.out _).mono ?_; rintro e w1 ⟨rfl, rfl⟩)
  go_ret
  exact ⟨by simp, rfl⟩
set_option maxHeartbeats 400000 in
theorem pindex_any (ao : Option Addr) (n cap : Nat) (f : Nat → Int) (w : World) (hn : n ≤ 16) (hr : IRow w ao n cap f) :
    Calls Tryz.prog 79 #[.slice ao n cap, .func (.func 65) #[] #[]] w fun e w' => ∃ r : Int, e = .returned (.int .i64 r) ∧ decide (0 ≤ r) = Vc.someTo (fun i => Pl.oddP (f i)) n ∧ w' = w := by
  have HR : Hid (IRow w ao n cap f) := hr
  clear hr
  go_enter Tryz.func79, Tryz.ntmps79
  go_wp2_with fail
  go_loopw [8] (fun i wr => ∃ k : Nat, k ≤ n ∧ i = .int .i64 k ∧ Hid (Vc.someTo (fun i => Pl.oddP (f i)) k = false) ∧ wr = w) (fun i _ => n - (intOf i).toNat)
  case atStart => exact ⟨0, by omega, rfl, rfl, rfl⟩
  case round =>
    obtain ⟨k, hk, rfl, hX, rfl⟩ := hrel
    by_cases hlt : k < n
    · obtain ⟨b, off, rfl, hb⟩ := CRow.some HR.out (by omega)
      have hcap := HR.out.1
      have c4 : wr.cell? ⟨b, off + k, none⟩ = some (.int .i64 (f k)) := IRow.cells HR.out hlt
      have HS1 : Hid (Pl.oddP (f k) = true → Vc.someTo (fun i => Pl.oddP (f i)) n = true) := fun h => someTo_stay _ k h n hlt
      have HS2 : Hid (Pl.oddP (f k) = false → Vc.someTo (fun i => Pl.oddP (f i)) (k + 1) = false) := fun h => by
        show (Vc.someTo _ k || Pl.oddP (f k)) = false
        rw [h, hX.out]; rfl
      clear HR hX
      generalize f k = c at *
      cases ho : Pl.oddP c with
      | true =>
        have HO : Hid (Pl.oddP c = true) := ho
        clear ho
        go_wp2_with (go_at_call 65; refine (podd_any _ _).mono ?_; rintro e w1 ⟨rfl, rfl⟩; rw [HO.out])
        go_ret
        exact ⟨_, rfl, by rw [HS1.out HO.out]; simp, rfl⟩
      | false =>
        have HO : Hid (Pl.oddP c = false) := ho
        clear ho
        go_wp2_with (go_at_call 65; refine (podd_any _ _).mono ?_; rintro e w1 ⟨rfl, rfl⟩; rw [HO.out])
        exact ⟨⟨k + 1, by omega, by go_num, HS2.out HO.out, trivial⟩, by simp [intOf]; omega⟩
    · obtain rfl : k = n := by omega
      go_wp2
      go_ret
      exact ⟨_, rfl, by rw [hX.out]; decide, rfl⟩
set_option maxHeartbeats 400000 in
theorem pcontains_any (ao : Option Addr) (n cap : Nat) (f : Nat → Int) (w : World) (hn : n ≤ 16) (hr : IRow w ao n cap f) :
    Calls Tryz.prog 67 #[.slice ao n cap, .func (.func 65) #[] #[]] w fun e w' => e = .returned (.bool (Vc.someTo (fun i => Pl.oddP (f i)) n)) ∧ w' = w := by
  have HR : Hid (IRow w ao n cap f) := hr
  clear hr
  go_enter Tryz.func67, Tryz.ntmps67
  go_wp2_with (go_at_call 79; refine (pindex_any _ _ _ f _ hn HR.out).mono ?_; rintro e w1 ⟨r, rfl, hq, rfl⟩; have HQ : Hid (decide (0 ≤ r) = Vc.someTo (fun i => Pl.oddP (f i)) n) := hq; clear hq)
  go_ret
  exact ⟨by rw [HQ.out]; rfl, rfl⟩
theorem br_cells {w : World} {g : Nat} {a0 a1 a2 a3 a4 : Value} {ty : TypeId} (h : w.heap[g]? = some (.cells #[a0, a1, a2, a3, a4] ty (0, 0))) :
    w.cell? ⟨g, 0, none⟩ = some a0 ∧ w.cell? ⟨g, 1, none⟩ = some a1 ∧ w.cell? ⟨g, 2, none⟩ = some a2 ∧ w.cell? ⟨g, 3, none⟩ = some a3 ∧ w.cell? ⟨g, 4, none⟩ = some a4 :=
  ⟨cell_of_row w g 0 _ _ _ h, cell_of_row w g 1 _ _ _ h, cell_of_row w g 2 _ _ _ h, cell_of_row w g 3 _ _ _ h, cell_of_row w g 4 _ _ _ h⟩
/-- A bridge, as an argument. -/
def brA (b : Br) : Array Value := #[.int .u64 b.addr, .slice b.pao b.pn b.pcap, .string b.reg.s, .int .i64 b.reg.rev, .slice b.reg.ao b.reg.n b.reg.cap]
set_option maxHeartbeats 1000000 in
theorem pwrongBridge_any (b : Br) (w : World) (hb : b.at' w) :
    Calls Tryz.prog 45 #[.agg (brA b)] w fun e w' => e = .returned (.int .i64 (Pl.brErr b)) ∧ Below w.heap.size w w' := by
  obtain ⟨hp, hreg, hn1, hn2⟩ := hb
  have HX : Hid (∀ W, W = w.alloc (.cells (brA b) 40) → b.pn ≤ 16 → Calls Tryz.prog 67 #[.slice b.pao b.pn b.pcap, .func (.func 65) #[] #[]] W fun e w' => e = .returned (.bool (Vc.someTo (fun i => Pl.oddP (b.pv i)) b.pn)) ∧ w' = W) := fun W hW h => pcontains_any _ _ _ _ W h (hp.below (by rw [hW]; exact below_alloc1 _ _))
  have HG : Hid (∀ W, W = w.alloc (.cells (brA b) 40) → Calls Tryz.prog 68 #[.agg #[.string b.reg.s, .int .i64 b.reg.rev, .slice b.reg.ao b.reg.n b.reg.cap]] W fun e w' => e = .returned (.int .i64 (Rg.wrong b.reg.s b.reg.rev b.reg.vs b.reg.ts b.reg.n)) ∧ Below w.heap.size w w') := fun W hW => by
    have hbl : Below w.heap.size w W := by rw [hW]; exact below_alloc1 _ _
    refine (gwrong_any b.reg.s b.reg.rev b.reg.ao b.reg.n b.reg.cap b.reg.vs b.reg.ts W hn2 (hreg.below hbl)).mono ?_
    rintro e w' ⟨rfl, h2⟩
    exact ⟨rfl, hbl.trans (h2.mono hbl.size)⟩
  have HA : Hid ((w.alloc (.cells (brA b) 40)).heap[w.heap.size]? = some (.cells (brA b) 40 (0, 0))) := heap_alloc_last _ _
  obtain ⟨R, HR⟩ : ∃ R, Hid (R = Rg.wrong b.reg.s b.reg.rev b.reg.vs b.reg.ts b.reg.n) := ⟨_, rfl⟩
  obtain ⟨S, HS⟩ : ∃ S, Hid (S = Vc.someTo (fun i => Pl.oddP (b.pv i)) b.pn) := ⟨_, rfl⟩
  have HE : Hid (Pl.brErr b = if 281474976710655 < b.addr then 3 else if 16 < b.pn then 5 else if S = true then 3 else R) := by rw [HR.out, HS.out]; rfl
  rw [← HR.out] at HG
  rw [← HS.out] at HX
  clear HR HS hp hreg hn2
  obtain ⟨addr, pao, pn, pcap, pv, ⟨s, rev, ao, n, cap, vs, ts⟩⟩ := b
  simp only [brA] at *
  rw [HE.out]
  obtain ⟨q0, q1, q2, q3, q4⟩ := br_cells HA.out
  clear HA HE
  by_cases h1 : 281474976710655 < addr
  · rw [if_pos h1]
    go_enter Tryz.func45, Tryz.ntmps45
    go_wp2_with fail
    go_ret
    exact ⟨rfl, below_alloc1 _ _⟩
  · rw [if_neg h1]
    by_cases h2 : 16 < pn
    · rw [if_pos h2]
      go_enter Tryz.func45, Tryz.ntmps45
      go_wp2_with fail
      go_ret
      exact ⟨rfl, below_alloc1 _ _⟩
    · rw [if_neg h2]
      cases S with
      | true =>
        rw [if_pos rfl]
        go_enter Tryz.func45, Tryz.ntmps45
        go_wp2_with (go_at_call 67; refine (HX.out _ rfl (by omega)).mono ?_; rintro e w1 ⟨rfl, rfl⟩)
        go_ret
        exact ⟨rfl, below_alloc1 _ _⟩
      | false =>
        rw [if_neg (by decide)]
        go_enter Tryz.func45, Tryz.ntmps45
        go_wp2_with (first | (go_at_call 67; refine (HX.out _ rfl (by omega)).mono ?_; rintro e w1 ⟨rfl, rfl⟩) | (go_at_call 68; refine (HG.out _ rfl).mono ?_; rintro e w1 ⟨rfl, hb1⟩))
        go_ret
        exact ⟨rfl, hb1⟩
end Go.Proofs.YtcbpafpaimpfnaaGreatDoor

namespace Go.Proofs.YtcbpafpaimpfnaaGreatDoor
open Go.RowKit Go.Maps Go.WideElems Go.ChangeShapes Go.WideShapes Go.MapKept Go.ChangeMaps

/-- How often a is among the first k. -/
def cntI {α : Type} [DecidableEq α] (f : Nat → α) (a : α) : Nat → Int
  | 0 => 0
  | k + 1 => cntI f a k + if f k = a then 1 else 0
theorem cntI_range {α : Type} [DecidableEq α] (f : Nat → α) (a : α) : ∀ k : Nat, 0 ≤ cntI f a k ∧ cntI f a k ≤ k
  | 0 => ⟨Int.le_refl _, Int.le_refl _⟩
  | k + 1 => by
    have := cntI_range f a k
    simp only [cntI]
    split <;> omega
theorem cntI_pos {α : Type} [DecidableEq α] (f : Nat → α) (a : α) : ∀ k : Nat, 0 < cntI f a k ↔ Vc.someTo (fun j => decide (f j = a)) k = true
  | 0 => ⟨fun h => by simp [cntI] at h, fun h => by simp [Vc.someTo] at h⟩
  | k + 1 => by
    have h1 := cntI_range f a k
    have h2 := cntI_pos f a k
    have h3 : cntI f a (k + 1) = cntI f a k + if f k = a then 1 else 0 := rfl
    have h4 : Vc.someTo (fun j => decide (f j = a)) (k + 1) = (Vc.someTo (fun j => decide (f j = a)) k || decide (f k = a)) := rfl
    rw [h3, h4]
    by_cases e : f k = a
    · rw [if_pos e, decide_eq_true e, Bool.or_true]
      exact ⟨fun _ => rfl, fun _ => by omega⟩
    · rw [if_neg e, decide_eq_false e, Bool.or_false, Int.add_zero]
      exact h2
theorem grown_cell {w w' : World} {b P : Nat} {v : Value} (h : w.cell? ⟨P, 0, none⟩ = some v) (hg : w.grownBy w' (some b)) (hne : P ≠ b) : w'.cell? ⟨P, 0, none⟩ = some v :=
  (World.cell?_of_block (w := w) (hg.block P (block_lt_of_cell h) (fun e => hne (by simpa using e)))).trans h
theorem mzero (w : World) : (zeroValue 3).run Tryz.prog w = .ok (.int .i64 0) w := by kernel_rfl
theorem mwf {n : Int} (h0 : 0 ≤ n) (h1 : n ≤ 100000) : (Lit.int .i64 n).wf = true := WalkArith.wf_i64 (by omega)
theorem lit_inj {a b : Int} (h : (DataW.lit (.int .i64 a) : DataW Unit) = .lit (.int .i64 b)) : a = b := by
  injection h with h
  injection h
/- addresses -/
theorem ukeyed : Keyed Tryz.prog 34 := int_keyed Tryz.underlying34
/-- A map that has counted the first m of f. -/
def UCnt (w : World) (b : Nat) (f : Nat → Int) (m : Nat) : Prop := ∃ D : DataW Unit, w.ownsMap Tryz.prog 34 (plainElem Tryz.prog 3) b m D ∧ IsMap D ∧ ∀ a, (Lit.int .u64 a).wf = true → D.atKey (.int .u64 a) (.lit (.int .i64 0)) = .lit (.int .i64 (cntI f a m))
theorem UCnt.same {w w' : World} {b m : Nat} {f : Nat → Int} (h : UCnt w b f m) (e : w'.heap[b]? = w.heap[b]?) : UCnt w' b f m := by
  obtain ⟨D, ⟨es, clock, hb, r⟩, h2⟩ := h
  exact ⟨D, ⟨es, clock, e.trans hb, r⟩, h2⟩
theorem UCnt.lt {w : World} {b m : Nat} {f : Nat → Int} (h : UCnt w b f m) : b < w.heap.size := by
  obtain ⟨D, h1, _⟩ := h
  exact h1.lt
set_option maxRecDepth 100000 in
set_option maxHeartbeats 1000000 in
theorem utake_any (P b m : Nat) (f : Nat → Int) (a : Int) (w : World) (hP : w.cell? ⟨P, 0, none⟩ = some (.map (some b))) (hne : P ≠ b) (h : UCnt w b f m) (hm : m ≤ 1000) (hf : f m = a) (hwf : (Lit.int .u64 a).wf = true) :
    Calls Tryz.prog 64 #[.int .u64 a, .pointer (some ⟨P, 0, none⟩)] w fun e w' => e = .returned (.int .i64 (if 0 < cntI f a m then 7 else 0)) ∧ UCnt w' b f (m + 1) ∧ w.grownBy w' (some b) := by
  obtain ⟨D, ho, hD, hat⟩ := h
  have hr := cntI_range f a m
  have ht := Tryz.underlying120
  have he := Tryz.underlying3
  have hkey := keyOf_int_mk (k := 34) Tryz.underlying34 hwf
  obtain ⟨c, e1, e2, _⟩ := ho.lookup_int ukeyed ht he (mzero w) hkey
  rw [hat a hwf] at e2
  have e2 := lit_inj e2
  subst e2
  obtain ⟨w1, e3, ho1, hg⟩ := ho.update ukeyed ht (by unfold maxLen; omega) hkey (plainElem_int he (mwf (n := cntI f a m + 1) (by omega) (by omega)))
  have hat1 : ∀ x, (Lit.int .u64 x).wf = true → (D.put (.int .u64 a) (.lit (.int .i64 (cntI f a m + 1)))).atKey (.int .u64 x) (.lit (.int .i64 0)) = .lit (.int .i64 (cntI f x (m + 1))) := by
    intro x hx
    simp only [cntI]
    by_cases e : a = x
    · subst e
      rw [atKey_put_same hD (ukeyed.key hkey), if_pos hf]
    · rw [atKey_put_other (fun q => e (by injection q with _ q; exact q.symm)), hat x hx, if_neg (by rw [hf]; exact e), Int.add_zero]
  obtain ⟨c', e4, e5, _⟩ := ho1.lookup_int ukeyed ht he (mzero w1) hkey
  rw [hat1 a hwf] at e5
  have e5 := lit_inj e5
  simp only [cntI, if_pos hf] at e5
  subst e5
  have hP1 : w1.cell? ⟨P, 0, none⟩ = some (.map (some b)) := grown_cell hP hg hne
  have HF : Hid (UCnt w1 b f (m + 1) ∧ w.grownBy w1 (some b)) := ⟨⟨_, ho1, hD.put _ _, hat1⟩, hg⟩
  clear hat1 ho1 hat ho hD hg hf
  generalize cntI f a m = t at *
  have wt : IntKind.i64.wrap (t + 1) = t + 1 := wraps_i64 _ (by omega) (by omega)
  by_cases h0 : 0 < t
  · rw [if_pos h0]
    have g1 : (1 : Int) < t + 1 := by omega
    go_enter Tryz.func64, Tryz.ntmps64
    go_wp2_with fail
    go_ret
    exact ⟨rfl, HF.out⟩
  · rw [if_neg h0]
    have g1 : ¬ (1 : Int) < t + 1 := by omega
    go_enter Tryz.func64, Tryz.ntmps64
    go_wp2_with fail
    go_ret
    exact ⟨rfl, HF.out⟩
theorem utaker_any (f : Nat → Int) (w : World) :
    Calls Tryz.prog 42 #[] w fun e w' => e = .returned (.func (.func 64) #[] #[.pointer (some ⟨w.heap.size + 1, 0, none⟩)]) ∧ w'.cell? ⟨w.heap.size + 1, 0, none⟩ = some (.map (some w.heap.size)) ∧ UCnt w' w.heap.size f 0 ∧ Below w.heap.size w w' := by
  have hmm := @run_makeMap Tryz.prog
  go_enter Tryz.func42, Tryz.ntmps42
  go_wp2_with fail
  go_ret
  exact ⟨rfl, cell_of_row _ _ 0 _ _ _ (heap_alloc2_new w (.map #[] 0) (.cells #[.map (some w.heap.size)] 120)), ⟨.map [], (World.ownsMap_made w _ _ _).alloc _, isMap_empty, fun _ _ => rfl⟩, below_alloc2 _ _ _⟩
/- ports -/
theorem prowT : (55 : TypeId) < Tryz.prog.types.size := of_decide_eq_true (by kernel_rfl)
theorem pwide : (match Tryz.prog.underlying 55 with | some (.array _ _) | some (.struct _) => true | _ => false) = true := by rw [Tryz.underlying55]
set_option maxRecDepth 100000 in
theorem pklaw : WideMaps.KeyLaw Tryz.prog 55 := deep_law_laid laidOut (m := 3) (by omega) prowT (by kernel_rfl) pwide
theorem pkeyed : Keyed Tryz.prog 55 := Keyed.of_law pklaw
def pkl (x : Int × Int) : Lit := .string (keyBytes [.int .i64 x.1, .int .i64 x.2])
def pV (x : Int × Int) : Value := .agg #[.int .i64 x.1, .int .i64 x.2]
theorem ptypes : ∃ m, Tryz.prog.types.size = m + 1 := ⟨Tryz.prog.types.size - 1, by kernel_rfl⟩
theorem pkeyType : Tryz.prog.keyType 55 = true := by kernel_rfl
theorem pcells2 : Tryz.prog.cellsOf 55 = 2 := by kernel_rfl
theorem pcells1 : Tryz.prog.cellsOf 3 = 1 := by kernel_rfl
theorem pkey_of (x : Int × Int) (h1 : (Lit.int .i64 x.1).wf = true) (h2 : (Lit.int .i64 x.2).wf = true) : keyOf Tryz.prog 55 (pV x) = some (pkl x) := by
  obtain ⟨m, hm⟩ := ptypes
  unfold keyOf pV
  simp only [Tryz.underlying55]
  rw [if_pos (by simp [pkeyType, Value.formed, Tryz.underlying55, pcells2]), hm]
  unfold Program.keyLits
  simp only [Tryz.underlying55, Value.cells]
  rw [if_pos (by rw [pcells2]; exact ⟨rfl, by simp⟩)]
  simp [pcells1, Program.keyLits, Tryz.underlying3, h1, h2, pkl]
end Go.Proofs.YtcbpafpaimpfnaaGreatDoor

namespace Go.Proofs.YtcbpafpaimpfnaaGreatDoor
open Go.RowKit Go.Maps Go.WideElems Go.ChangeShapes Go.WideShapes Go.MapKept Go.ChangeMaps

abbrev OwnP (w : World) (b n : Nat) (D : DataW Unit) : Prop := w.ownsMap Tryz.prog 55 (plainElem Tryz.prog 3) b n D
theorem ownP_same {w w' : World} {b n : Nat} {D : DataW Unit} (h : OwnP w b n D) (e : w'.heap[b]? = w.heap[b]?) : OwnP w' b n D := by
  obtain ⟨es, clock, hb, r⟩ := h
  exact ⟨es, clock, e.trans hb, r⟩
theorem wfP0 : (Lit.int .i64 0).wf = true := by decide
set_option maxRecDepth 100000 in
theorem entryP_own {w : World} {b n : Nat} {D : DataW Unit} {key : Value} {kl : Lit} (h : OwnP w b n D) (hkey : keyOf Tryz.prog 55 key = some kl) (hn : n < maxLen) (hD : IsMap D) :
    ∃ (c : Int) (v0 : Value) (st : Nat) (w1 : World), (Instr.lookup 122 (.map (some b)) key false).run Tryz.prog w = .ok (.int .i64 c) w ∧ D.atKey kl (.lit (.int .i64 0)) = .lit (.int .i64 c) ∧
      (Instr.mapEntry 122 (.map (some b)) key).run Tryz.prog w = .ok (.tuple #[v0, goInt st]) w1 ∧ (Instr.lookup 122 (.map (some b)) key false).run Tryz.prog w1 = .ok (.int .i64 c) w1 ∧
      ∀ x, (Lit.int .i64 x).wf = true → ∃ w2, (Instr.entryStore 122 (.map (some b)) (goInt st) (.int .i64 x)).run Tryz.prog w1 = .ok () w2 ∧ OwnP w2 b (n + 1) (D.put kl (.lit (.int .i64 x))) ∧ w.grownBy w2 (some b) := by
  have ht := Tryz.underlying122
  have he := Tryz.underlying3
  obtain ⟨c, hl, hat, _⟩ := h.lookup_int pkeyed ht he (mzero w) hkey
  have h' := h
  obtain ⟨es, clock, hb, F, hs, eD⟩ := h'
  obtain ⟨v0, st, es1, clock1, hrun, _, hst⟩ := entry_then_store pklaw ht mzero hb F hkey
  refine ⟨c, v0, st, _, hl, hat, hrun, ?_, fun x hx => ?_⟩
  · have hb1 : (setBlock w b (.map es1 clock1)).heap[b]? = some (.map es1 clock1) := heap_setBlock_same hb _
    rcases pklaw.find w hkey es.toList F.keys with ⟨q1, q2⟩ | ⟨j, e0, q1, q2, q3⟩
    · have hr2 : (Instr.mapEntry 122 (.map (some b)) key).run Tryz.prog w = .ok (.tuple #[.int .i64 0, goInt clock]) (setBlock w b (.map (es.push ⟨key, .int .i64 0, clock⟩) (clock + 1))) := by
        simp [Instr.mapEntry, run_underlying ht, MapKept.run_getObj_map hb, pklaw.check w false hkey, q1, MapKept.run_setObj_map _ hb, Result.andThen, setBlock]
      have hu : (Instr.mapUpdate 122 (.map (some b)) key (.int .i64 0)).run Tryz.prog w = .ok () (setBlock w b (.map (es.push ⟨key, .int .i64 0, clock⟩) (clock + 1))) := by
        simp [Instr.mapUpdate, run_underlying ht, MapKept.run_getObj_map hb, pklaw.check w false hkey, q1, MapKept.run_setObj_map _ hb, Result.andThen, setBlock]
      obtain ⟨w', hu', hown, _⟩ := h.update pkeyed ht hn hkey (plainElem_int he wfP0)
      rw [hu] at hu'
      have ew : setBlock w b (.map (es.push ⟨key, .int .i64 0, clock⟩) (clock + 1)) = w' := by injection hu'
      rw [hr2] at hrun
      have e1 : setBlock w b (.map (es.push ⟨key, .int .i64 0, clock⟩) (clock + 1)) = setBlock w b (.map es1 clock1) := by injection hrun
      rw [← e1, ew]
      obtain ⟨c', hl', hat', _⟩ := hown.lookup_int pkeyed ht he (mzero w') hkey
      rw [hl']
      rw [atKey_put_same hD (pkeyed.key hkey)] at hat'
      have h0 : D.atKey kl (.lit (.int .i64 0)) = .lit (.int .i64 0) := by
        rcases fit_look false pkeyed ht (mzero w) hb F hkey with ⟨_, _, k3⟩ | ⟨e0, y, k1, k2, _⟩
        · rw [eD]; exact k3 _
        · exact absurd k2 (q2 e0 k1)
      rw [h0] at hat
      injection hat with hat
      injection hat with _ hat
      injection hat' with hat'
      injection hat' with _ hat'
      rw [← hat, ← hat']
    · have hj : es[j]? = some e0 := by simpa using q2
      have hsame : es.modify j (fun e => { e with key := key }) = es := by
        apply Array.ext'
        rw [Array.toList_modify, modify_eq_set _ _ _ _ q2]
        have : ({ e0 with key := key } : MapEntry) = e0 := by rw [← q3]
        rw [this]
        exact set_self _ _ _ q2
      have hr2 : (Instr.mapEntry 122 (.map (some b)) key).run Tryz.prog w = .ok (.tuple #[e0.val, goInt e0.born]) (setBlock w b (.map es clock)) := by
        simp [Instr.mapEntry, run_underlying ht, MapKept.run_getObj_map hb, pklaw.check w false hkey, q1, hj, q3, pklaw.stays w hkey, hsame, MapKept.run_setObj_map _ hb, Result.andThen, setBlock]
      rw [hr2] at hrun
      have e1 : setBlock w b (.map es clock) = setBlock w b (.map es1 clock1) := by injection hrun
      rw [← e1]
      have hown := ownP_same (w' := setBlock w b (.map es clock)) h ((heap_setBlock_same hb _).trans hb.symm)
      obtain ⟨c', hl', hat', _⟩ := hown.lookup_int pkeyed ht he (mzero _) hkey
      rw [hl']
      rw [hat] at hat'
      injection hat' with hat'
      injection hat' with _ hat'
      rw [hat']
  · have hb1 : (setBlock w b (.map es1 clock1)).heap[b]? = some (.map es1 clock1) := heap_setBlock_same hb _
    obtain ⟨es', clock', k1, k2⟩ := hst _ (.int .i64 x) hb1
    obtain ⟨w', hu', hown, hg⟩ := h.update pkeyed ht hn hkey (plainElem_int he hx)
    rw [k2] at hu'
    have ew : setBlock w b (.map es' clock') = w' := by injection hu'
    refine ⟨_, k1, ?_, ?_⟩
    · refine ownP_same hown ?_
      rw [← ew, heap_setBlock_same hb1, heap_setBlock_same hb]
    · exact ⟨rfl, rfl, rfl, by simp [setBlock], fun i hi hne => by
        rw [heap_setBlock_other hb1 _ (fun e => hne (by rw [e])), heap_setBlock_other hb _ (fun e => hne (by rw [e]))]⟩
/-- A map that has counted the first m of f. -/
def PCnt (w : World) (b : Nat) (f : Nat → Int × Int) (m : Nat) : Prop := ∃ D : DataW Unit, OwnP w b m D ∧ IsMap D ∧ ∀ a : Int × Int, (Lit.int .i64 a.1).wf = true → (Lit.int .i64 a.2).wf = true → D.atKey (pkl a) (.lit (.int .i64 0)) = .lit (.int .i64 (cntI f a m))
theorem PCnt.same {w w' : World} {b m : Nat} {f : Nat → Int × Int} (h : PCnt w b f m) (e : w'.heap[b]? = w.heap[b]?) : PCnt w' b f m := by
  obtain ⟨D, h1, h2⟩ := h
  exact ⟨D, ownP_same h1 e, h2⟩
theorem PCnt.lt {w : World} {b m : Nat} {f : Nat → Int × Int} (h : PCnt w b f m) : b < w.heap.size := by
  obtain ⟨D, h1, _⟩ := h
  exact h1.lt
theorem pkl_inj {x y : Int × Int} (x1 : (Lit.int .i64 x.1).wf = true) (x2 : (Lit.int .i64 x.2).wf = true) (y1 : (Lit.int .i64 y.1).wf = true) (y2 : (Lit.int .i64 y.2).wf = true) (e : pkl x = pkl y) : x = y := by
  have h1 := pkey_of x x1 x2
  rw [e] at h1
  have := pkeyed.inj h1 (pkey_of y y1 y2)
  obtain ⟨a, b⟩ := x
  obtain ⟨a', b'⟩ := y
  simp only [pV, Value.agg.injEq, Array.mk.injEq, List.cons.injEq, Value.int.injEq, true_and, and_true] at this
  obtain ⟨e1, e2⟩ := this
  subst e1; subst e2
  rfl
theorem two_cells2 {w : World} {g : Nat} {a0 a1 : Value} {ty : TypeId} (h : w.heap[g]? = some (.cells #[a0, a1] ty (0, 0))) : w.cell? ⟨g, 0, none⟩ = some a0 ∧ w.cell? ⟨g, 1, none⟩ = some a1 :=
  ⟨cell_of_row w g 0 _ _ _ h, cell_of_row w g 1 _ _ _ h⟩
theorem grown_block {w w' : World} {b g : Nat} {o : Obj} (h : w.heap[g]? = some o) (hg : w.grownBy w' (some b)) (hne : g ≠ b) : w'.heap[g]? = some o :=
  (hg.block g (Array.getElem?_eq_some_iff.1 h).1 (fun e => hne (by simpa using e))).trans h
set_option maxRecDepth 100000 in
set_option maxHeartbeats 2000000 in
theorem ptake_any (P b m : Nat) (f : Nat → Int × Int) (a : Int × Int) (w : World) (hP : w.cell? ⟨P, 0, none⟩ = some (.map (some b))) (hne : P ≠ b) (h : PCnt w b f m) (hm : m ≤ 1000) (hf : f m = a) (h1 : (Lit.int .i64 a.1).wf = true) (h2 : (Lit.int .i64 a.2).wf = true) :
    Calls Tryz.prog 69 #[.agg #[.int .i64 a.1, .int .i64 a.2], .pointer (some ⟨P, 0, none⟩)] w fun e w' => e = .returned (.int .i64 (if 0 < cntI f a m then 7 else 0)) ∧ PCnt w' b f (m + 1) ∧ w.grownBy w' (some b) := by
  have hlt := h.lt
  have hPlt := block_lt_of_cell hP
  simp only at hPlt
  obtain ⟨X, HX⟩ : ∃ X, Hid (X = w.alloc (.cells #[.int .i64 a.1, .int .i64 a.2] 55)) := ⟨_, rfl⟩
  have hXb : X.heap[w.heap.size]? = some (.cells #[.int .i64 a.1, .int .i64 a.2] 55 (0, 0)) := by rw [HX.out]; exact heap_alloc_last _ _
  have hXg : w.grownBy X.drew (some b) := by
    rw [HX.out]
    exact ⟨rfl, rfl, rfl, by simp [World.drew], fun i hi _ => (below_alloc1 w _).block i hi⟩
  have hX : PCnt X.drew b f m := h.same (by rw [HX.out]; exact (below_alloc1 w _).block b hlt)
  obtain ⟨D, ho, hD, hat⟩ := hX
  have hr := cntI_range f a m
  have hkey := pkey_of a h1 h2
  obtain ⟨c, v0, st, w1, e1, e2, e3, e4, e5⟩ := entryP_own ho hkey (by unfold maxLen; omega) hD
  rw [hat a h1 h2] at e2
  have e2 := lit_inj e2
  subst e2
  obtain ⟨w2, e6, ho2, hg⟩ := e5 (cntI f a m + 1) (mwf (by omega) (by omega))
  have hat1 : ∀ x : Int × Int, (Lit.int .i64 x.1).wf = true → (Lit.int .i64 x.2).wf = true → (D.put (pkl a) (.lit (.int .i64 (cntI f a m + 1)))).atKey (pkl x) (.lit (.int .i64 0)) = .lit (.int .i64 (cntI f x (m + 1))) := by
    intro x x1 x2
    simp only [cntI]
    by_cases e : a = x
    · subst e
      rw [atKey_put_same hD (pkeyed.key hkey), if_pos hf]
    · rw [atKey_put_other (fun q => e (pkl_inj h1 h2 x1 x2 q.symm)), hat x x1 x2, if_neg (by rw [hf]; exact e), Int.add_zero]
  obtain ⟨c', e7, e8, _⟩ := ho2.lookup_int pkeyed Tryz.underlying122 Tryz.underlying3 (mzero w2) hkey
  rw [hat1 a h1 h2] at e8
  have e8 := lit_inj e8
  simp only [cntI, if_pos hf] at e8
  subst e8
  have q0 : w2.cell? ⟨P, 0, none⟩ = some (.map (some b)) := grown_cell (grown_cell hP hXg hne) hg hne
  have r0 : X.cell? ⟨P, 0, none⟩ = some (.map (some b)) := (show X.drew.cell? ⟨P, 0, none⟩ = _ from grown_cell hP hXg hne)
  obtain ⟨q1, q2⟩ := two_cells2 (grown_block (w := X.drew) hXb hg (by omega))
  obtain ⟨r1, r2⟩ := two_cells2 hXb
  have HF : Hid (PCnt w2 b f (m + 1) ∧ w.grownBy w2 (some b)) := ⟨⟨_, ho2, hD.put _ _, hat1⟩, hXg.trans hg⟩
  unfold pV goInt at *
  clear hat1 ho2 hat ho hD hg hf hXg hXb e5 hkey h hP
  generalize cntI f a m = t at *
  obtain ⟨x, y⟩ := a
  simp only at *
  have wt : IntKind.i64.wrap (t + 1) = t + 1 := wraps_i64 _ (by omega) (by omega)
  by_cases h0 : 0 < t
  · rw [if_pos h0]
    have g1 : (1 : Int) < t + 1 := by omega
    go_enter Tryz.func69, Tryz.ntmps69
    go_wp2_with fail
    rw [← HX.out]
    go_region
    all_goals go_wp2_with fail
    all_goals go_ret
    all_goals exact ⟨rfl, HF.out⟩
  · rw [if_neg h0]
    have g1 : ¬ (1 : Int) < t + 1 := by omega
    go_enter Tryz.func69, Tryz.ntmps69
    go_wp2_with fail
    rw [← HX.out]
    go_region
    all_goals go_wp2_with fail
    all_goals go_ret
    all_goals exact ⟨rfl, HF.out⟩
theorem ptaker_any (f : Nat → Int × Int) (w : World) :
    Calls Tryz.prog 46 #[] w fun e w' => e = .returned (.func (.func 69) #[] #[.pointer (some ⟨w.heap.size + 1, 0, none⟩)]) ∧ w'.cell? ⟨w.heap.size + 1, 0, none⟩ = some (.map (some w.heap.size)) ∧ PCnt w' w.heap.size f 0 ∧ Below w.heap.size w w' := by
  have hmm := @run_makeMap Tryz.prog
  go_enter Tryz.func46, Tryz.ntmps46
  go_wp2_with fail
  go_ret
  exact ⟨rfl, cell_of_row _ _ 0 _ _ _ (heap_alloc2_new w (.map #[] 0) (.cells #[.map (some w.heap.size)] 122)), ⟨.map [], (World.ownsMap_made w _ _ _).alloc _, isMap_empty, fun _ _ _ => rfl⟩, below_alloc2 _ _ _⟩
end Go.Proofs.YtcbpafpaimpfnaaGreatDoor

namespace Go.Proofs.YtcbpafpaimpfnaaGreatDoor
open Go.RowKit Go.Maps
open Pl (Br Net Pc Lk En St)

theorem grown_of_below {w w' : World} {b : Nat} (h : Below w.heap.size w w') : w.grownBy w' (some b) := ⟨h.os, h.tape, h.output, h.size, fun i hi _ => h.block i hi⟩
theorem below_of_grown {w w' : World} {b n : Nat} (h : w.grownBy w' (some b)) (hn : n ≤ w.heap.size) (hb : n ≤ b) : Below n w w' := (Below.refl n w).grown h hn (fun j hj => by cases hj; exact hb)
/-- What the closure says of a bridge. -/
def bSay (b : Br) (c : Int) : Int := if Pl.brErr b ≠ 0 then Pl.brErr b else if 0 < c then 7 else 0
set_option maxRecDepth 100000 in
set_option maxHeartbeats 1000000 in
theorem pbClosure_any (b : Br) (Q P B m : Nat) (f : Nat → Int) (w : World) (hb : b.at' w) (hQ : w.cell? ⟨Q, 0, none⟩ = some (.func (.func 64) #[] #[.pointer (some ⟨P, 0, none⟩)])) (hP : w.cell? ⟨P, 0, none⟩ = some (.map (some B))) (hne : P ≠ B) (hc : UCnt w B f m) (hm : m ≤ 1000) (hf : f m = b.addr) (hwf : (Lit.int .u64 b.addr).wf = true) :
    Calls Tryz.prog 44 #[.agg (brA b), .pointer (some ⟨Q, 0, none⟩)] w fun e w' => e = .returned (.int .i64 (bSay b (cntI f b.addr m))) ∧ (Pl.brErr b = 0 → UCnt w' B f (m + 1)) ∧ w.grownBy w' (some B) := by
  obtain ⟨X, HX⟩ : ∃ X, Hid (X = w.alloc (.cells (brA b) 40)) := ⟨_, rfl⟩
  have hXB : Below w.heap.size w X := by rw [HX.out]; exact below_alloc1 _ _
  have hXb : X.heap[w.heap.size]? = some (.cells (brA b) 40 (0, 0)) := by rw [HX.out]; exact heap_alloc_last _ _
  have hlt := hc.lt
  have hQl := block_lt_of_cell hQ
  have hPl := block_lt_of_cell hP
  simp only at hQl hPl
  have HC : Hid (Calls Tryz.prog 45 #[.agg (brA b)] X fun e w' => e = .returned (.int .i64 (Pl.brErr b)) ∧ Below X.heap.size X w') := pwrongBridge_any b X (hb.below hXB)
  have HT : Hid (∀ W, Below X.heap.size X W → Calls Tryz.prog 64 #[.int .u64 b.addr, .pointer (some ⟨P, 0, none⟩)] W fun e w' => e = .returned (.int .i64 (if 0 < cntI f b.addr m then 7 else 0)) ∧ UCnt w' B f (m + 1) ∧ w.grownBy w' (some B)) := by
    intro W hW
    have h1 : Below w.heap.size w W := hXB.trans (hW.mono hXB.size)
    refine (utake_any P B m f b.addr W ((h1.cell (by exact hPl)).trans hP) hne (hc.same (h1.block B hlt)) hm hf hwf).mono ?_
    rintro e w' ⟨rfl, k1, k2⟩
    exact ⟨rfl, k1, (grown_of_below h1).trans k2⟩
  have HL : Hid (∀ W, Below X.heap.size X W → W.cell? ⟨Q, 0, none⟩ = some (.func (.func 64) #[] #[.pointer (some ⟨P, 0, none⟩)]) ∧ W.cell? ⟨w.heap.size, 0, none⟩ = some (.int .u64 b.addr) ∧ w.grownBy W (some B)) := by
    intro W hW
    have h1 : Below w.heap.size w W := hXB.trans (hW.mono hXB.size)
    exact ⟨(h1.cell (by exact hQl)).trans hQ, (br_cells (keep hXb hW)).1, grown_of_below h1⟩
  obtain ⟨q0, q1, q2, q3, q4⟩ := br_cells hXb
  unfold bSay
  generalize Pl.brErr b = E at *
  generalize cntI f b.addr m = t at *
  generalize (if 0 < t then (7 : Int) else 0) = R at *
  clear hQ hP hc hf hwf hXb hXB hb
  obtain ⟨addr, pao, pn, pcap, pv, ⟨s, rev, ao, n, cap, vs, ts⟩⟩ := b
  simp only [brA] at *
  by_cases e0 : E = 0
  · subst e0
    rw [if_neg (by omega)]
    go_enter Tryz.func44, Tryz.ntmps44
    go_wp2_with fail
    rw [← HX.out]
    refine HC.out.mono ?_
    rintro e w1 ⟨rfl, hb1⟩
    obtain ⟨k0, k1, k2⟩ := HL.out w1 hb1
    have ht1 := HT.out w1 hb1
    clear hb1 k2 HL HT HC
    go_wp2_with fail
    refine ht1.mono ?_
    rintro e w2 ⟨rfl, k3, k4⟩
    go_wp2_with fail
    go_ret
    first | exact ⟨rfl, fun _ => k3, k4⟩ | exact ⟨rfl, k3, k4⟩
  · rw [if_pos e0]
    have e1 : (E == 0) = false := by simp [e0]
    go_enter Tryz.func44, Tryz.ntmps44
    go_wp2_with fail
    rw [← HX.out]
    refine HC.out.mono ?_
    rintro e w1 ⟨rfl, hb1⟩
    obtain ⟨k0, k1, k2⟩ := HL.out w1 hb1
    go_wp2_with fail
    go_ret
    exact ⟨rfl, fun h => absurd h e0, k2⟩
/-- A fault, as it lies. -/
def ftA (x : Int × Int) : Array Value := #[.int .i64 x.1, .int .i64 x.2]
theorem sizeFt : (Tryz.prog.info? 28).map (·.size) = some 2 := by kernel_rfl
theorem set2_same {w : World} {g : Nat} {a0 a1 v0 v1 : Value} {ty : TypeId} (h : w.heap[g]? = some (.cells #[a0, a1] ty (0, 0))) :
    ((w.setCell ⟨g, 0, none⟩ v0).setCell ⟨g, 1, none⟩ v1).heap[g]? = some (.cells #[v0, v1] ty (0, 0)) := by
  have h0 : (w.setCell ⟨g, 0, none⟩ v0).heap[g]? = some (.cells #[v0, a1] ty (0, 0)) := by rw [heap_setCell_same _ _ _ _ _ _ h]; rfl
  rw [heap_setCell_same _ _ _ _ _ _ h0]; rfl
theorem bSay_err (bs : Nat → Br) (k : Nat) : bSay (bs k) (cntI (fun j => (bs j).addr) (bs k).addr k) = Pl.bErr bs k := by
  unfold bSay Pl.bErr
  have := cntI_pos (fun j => (bs j).addr) (bs k).addr k
  by_cases h : Pl.brErr (bs k) = 0
  · have hn : ¬ Pl.brErr (bs k) ≠ 0 := fun q => q h
    rw [if_neg hn, if_neg hn]
    by_cases c : 0 < cntI (fun j => (bs j).addr) (bs k).addr k
    · rw [if_pos c, if_pos (this.1 c)]
    · rw [if_neg c, if_neg (fun q => c (this.2 q))]
  · rw [if_pos h, if_pos h]
theorem bErr_zero {bs : Nat → Br} {k : Nat} (h : Pl.bErr bs k = 0) : Pl.brErr (bs k) = 0 := by
  unfold Pl.bErr at h
  by_cases q : Pl.brErr (bs k) = 0
  · exact q
  · rw [if_pos q] at h; exact absurd h q
set_option maxRecDepth 100000 in
set_option maxHeartbeats 2000000 in
theorem pbFirst_any (ao : Option Addr) (n cap : Nat) (bs : Nat → Br) (Q P B : Nat) (W0 w : World) (hn : n ≤ 12) (hr : BRow W0 ao n cap bs) (hb : ∀ i, i < n → (bs i).at' W0) (hwf : ∀ i, i < n → (Lit.int .u64 (bs i).addr).wf = true)
    (hQ : w.cell? ⟨Q, 0, none⟩ = some (.func (.func 64) #[] #[.pointer (some ⟨P, 0, none⟩)])) (hP : w.cell? ⟨P, 0, none⟩ = some (.map (some B))) (hPB : P ≠ B) (hQB : Q ≠ B) (hc : UCnt w B (fun j => (bs j).addr) 0)
    (hM : W0.heap.size ≤ B) (hW0 : Below W0.heap.size W0 w) :
    Calls Tryz.prog 43 #[.slice ao n cap, .func (.func 44) #[] #[.pointer (some ⟨Q, 0, none⟩)]] w fun e w' => e = .returned (.agg (ftA (Pl.firstTo (Pl.bErr bs) n))) ∧ Below W0.heap.size W0 w' := by
  have HRW : Hid (∀ W, Below W0.heap.size W0 W → BRow W ao n cap bs ∧ ∀ i, i < n → (bs i).at' W) := fun W hW => ⟨CRow.other hr (fun q _ _ hq => hW.block q hq) hW.size, fun i hi => (hb i hi).below hW⟩
  have HWF : Hid (∀ i, i < n → (Lit.int .u64 (bs i).addr).wf = true) := hwf
  have hcap := hr.1
  have hBl := hc.lt
  obtain ⟨G, HG⟩ : ∃ G, Hid (G = w.heap.size) := ⟨_, rfl⟩
  have hGB : G ≠ B := by rw [HG.out]; omega
  have hGM : W0.heap.size ≤ G := by rw [HG.out]; exact hW0.size
  have HI : Hid (∀ W, W = w.alloc (.cells #[.int .i64 0, .int .i64 0] 28) → Below W0.heap.size W0 W ∧ UCnt W B (fun j => (bs j).addr) 0 ∧ W.heap[G]? = some (.cells #[.int .i64 0, .int .i64 0] 28 (0, 0)) ∧ W.cell? ⟨Q, 0, none⟩ = some (.func (.func 64) #[] #[.pointer (some ⟨P, 0, none⟩)]) ∧ W.cell? ⟨P, 0, none⟩ = some (.map (some B))) := by
    intro W hW
    have h1 : Below w.heap.size w W := by rw [hW]; exact below_alloc1 _ _
    have hQl := block_lt_of_cell hQ
    have hPl := block_lt_of_cell hP
    exact ⟨hW0.trans (h1.mono hW0.size), hc.same (h1.block B hBl), by rw [hW, HG.out]; exact heap_alloc_last _ _, (h1.cell (by exact hQl)).trans hQ, (h1.cell (by exact hPl)).trans hP⟩
  clear hr hb hwf hQ hP hc hW0 hBl
  go_enter Tryz.func43, Tryz.ntmps43
  go_wp2_with fail
  rw [← HG.out]
  go_loopw [10] (fun i wr => ∃ k : Nat, k ≤ n ∧ i = .int .i64 k ∧ Hid (∀ j, j < k → Pl.bErr bs j = 0) ∧ Hid (Below W0.heap.size W0 wr ∧ UCnt wr B (fun j => (bs j).addr) k ∧ wr.heap[G]? = some (.cells #[.int .i64 0, .int .i64 0] 28 (0, 0)) ∧ wr.cell? ⟨Q, 0, none⟩ = some (.func (.func 64) #[] #[.pointer (some ⟨P, 0, none⟩)]) ∧ wr.cell? ⟨P, 0, none⟩ = some (.map (some B)))) (fun i _ => n - (intOf i).toNat)
  case atStart => exact ⟨0, by omega, rfl, (fun j hj => absurd hj (by omega)), HI.out _ rfl⟩
  case round =>
    obtain ⟨k, hk, rfl, hS, hX⟩ := hrel
    clear HI
    by_cases hlt : k < n
    · obtain ⟨b, off, rfl, _⟩ := CRow.some (HRW.out wr hX.out.1).1 (by omega)
      obtain ⟨c0, c1, c2, c3, c4⟩ := BRow.cells (HRW.out wr hX.out.1).1 hlt
      obtain ⟨X, HX⟩ : ∃ X, Hid (X = wr.alloc (.cells (brA (bs k)) 40)) := ⟨_, rfl⟩
      have HXB : Hid (Below wr.heap.size wr X) := by rw [HX.out]; exact below_alloc1 _ _
      have HX5 : Hid (X.heap[wr.heap.size]? = some (.cells (brA (bs k)) 40 (0, 0))) := by rw [HX.out]; exact heap_alloc_last _ _
      have HCL : Hid (Calls Tryz.prog 44 #[.agg (brA (bs k)), .pointer (some ⟨Q, 0, none⟩)] X fun e w' => e = .returned (.int .i64 (Pl.bErr bs k)) ∧ Hid (Below W0.heap.size W0 w' ∧ (Pl.bErr bs k = 0 → UCnt w' B (fun j => (bs j).addr) (k + 1)) ∧ w'.heap[G]? = some (.cells #[.int .i64 0, .int .i64 0] 28 (0, 0)) ∧ w'.cell? ⟨Q, 0, none⟩ = some (.func (.func 64) #[] #[.pointer (some ⟨P, 0, none⟩)]) ∧ w'.cell? ⟨P, 0, none⟩ = some (.map (some B)))) := by
        obtain ⟨x1, x2, x3, x4, x5⟩ := hX.out
        have l1 := block_lt_of_cell x4
        have l2 := block_lt_of_cell x5
        have y1 : Below W0.heap.size W0 X := x1.trans (HXB.out.mono x1.size)
        have y4 := (HXB.out.cell (by exact l1)).trans x4
        have y5 := (HXB.out.cell (by exact l2)).trans x5
        have y3 := keep x3 HXB.out
        refine (pbClosure_any (bs k) Q P B k (fun j => (bs j).addr) X ((HRW.out X y1).2 k hlt) y4 y5 hPB (x2.same (HXB.out.block B x2.lt)) (by omega) rfl (HWF.out k hlt)).mono ?_
        rintro e w' ⟨rfl, z1, z2⟩
        rw [bSay_err]
        exact ⟨rfl, y1.trans (below_of_grown z2 y1.size hM), fun h => z1 (bErr_zero h), grown_block y3 z2 hGB, grown_cell y4 z2 hQB, grown_cell y5 z2 hPB⟩
      have HF1 : Hid (Pl.bErr bs k ≠ 0 → ftA (Pl.firstTo (Pl.bErr bs) n) = #[.int .i64 (Pl.bErr bs k), .int .i64 (k : Int)]) := fun h => by rw [Pl.firstTo_here (Pl.bErr bs) k hS.out h n hlt]; rfl
      have HS1 : Hid (Pl.bErr bs k = 0 → ∀ j, j < k + 1 → Pl.bErr bs j = 0) := fun h j hj => by
        by_cases e : j = k
        · subst e; exact h
        · exact hS.out j (by omega)
      obtain ⟨d0, d1, d2, d3, d4⟩ := br_cells HX5.out
      clear hX hS HX5 HXB HWF HRW
      generalize Pl.bErr bs k = E at *
      by_cases e0 : E = 0
      · subst e0
        have HS2 : Hid (∀ j, j < k + 1 → Pl.bErr bs j = 0) := HS1.out rfl
        clear HS1 HF1
        simp only [brA] at *
        go_wp2_with fail
        rw [← HX.out]
        refine HCL.out.mono ?_
        rintro e w1 ⟨rfl, hY⟩
        clear d0 d1 d2 d3 d4 c0 c1 c2 c3 c4
        go_wp2_with fail
        exact ⟨⟨k + 1, by omega, by go_num, HS2, ⟨hY.out.1, hY.out.2.1 (by first | exact rfl | trivial), hY.out.2.2⟩⟩, by simp [intOf]; omega⟩
      · have e1 : (E == 0) = false := by simp [e0]
        have HF2 : Hid _ := HF1.out e0
        clear HS1 HF1
        simp only [brA] at *
        go_wp2_with fail
        rw [← HX.out]
        refine HCL.out.mono ?_
        rintro e w1 ⟨rfl, hY⟩
        clear d0 d1 d2 d3 d4 c0 c1 c2 c3 c4
        obtain ⟨f0, f1⟩ := two_cells2 hY.out.2.2.1
        obtain ⟨g0, g1, _, _⟩ := vc_free hY.out.2.2.1
        go_wp2_with fail
        exact bodyPost_ret (v := .agg #[.int .i64 E, .int .i64 (k : Int)]) (results_row (p := 4) (ty := 28) Tryz.results43 _ _ G 28 #[.int .i64 E, .int .i64 (k : Int)] (0, 0) _ rfl (set2_same hY.out.2.2.1) Tryz.underlying28 rfl (by rw [sizeFt]; rfl)) rfl ⟨by rw [HF2.out], (hY.out.1.setCell hGM _).setCell hGM _⟩
    · obtain rfl : k = n := by omega
      have HF2 : Hid (ftA (Pl.firstTo (Pl.bErr bs) k) = #[.int .i64 0, .int .i64 0]) := by rw [Pl.firstTo_all _ _ hS.out]; rfl
      obtain ⟨f0, f1⟩ := two_cells2 hX.out.2.2.1
      obtain ⟨g0, g1, _, _⟩ := vc_free hX.out.2.2.1
      go_wp2_with fail
      exact bodyPost_ret (v := .agg #[.int .i64 0, .int .i64 0]) (results_row (p := 4) (ty := 28) Tryz.results43 _ _ G 28 #[.int .i64 0, .int .i64 0] (0, 0) _ rfl (set2_same hX.out.2.2.1) Tryz.underlying28 rfl (by rw [sizeFt]; rfl)) rfl ⟨by rw [HF2.out], (hX.out.1.setCell hGM _).setCell hGM _⟩
end Go.Proofs.YtcbpafpaimpfnaaGreatDoor

namespace Go.Proofs.YtcbpafpaimpfnaaGreatDoor
open Go.RowKit Go.Maps
open Pl (Br Net Pc Lk En St)

theorem lk_cells {w : World} {g : Nat} {a0 a1 a2 a3 a4 a5 : Value} {ty : TypeId} (h : w.heap[g]? = some (.cells #[a0, a1, a2, a3, a4, a5] ty (0, 0))) :
    w.cell? ⟨g, 0, none⟩ = some a0 ∧ w.cell? ⟨g, 1, none⟩ = some a1 ∧ w.cell? ⟨g, 2, none⟩ = some a2 ∧ w.cell? ⟨g, 3, none⟩ = some a3 ∧ w.cell? ⟨g, 4, none⟩ = some a4 ∧ w.cell? ⟨g, 5, none⟩ = some a5 :=
  ⟨cell_of_row w g 0 _ _ _ h, cell_of_row w g 1 _ _ _ h, cell_of_row w g 2 _ _ _ h, cell_of_row w g 3 _ _ _ h, cell_of_row w g 4 _ _ _ h, cell_of_row w g 5 _ _ _ h⟩
def lkA (l : Lk) : Array Value := #[.int .i64 l.a, .int .i64 l.pa, .int .i64 l.b, .int .i64 l.pb, .int .i64 l.cost, .bool l.up]
set_option maxRecDepth 100000 in
set_option maxHeartbeats 2000000 in
theorem pwrongLink_any (K : Nat) (l : Lk) (w : World) (hK : K ≤ 12) :
    Calls Tryz.prog 49 #[.agg (lkA l), .int .i64 K] w fun e w' => e = .returned (.int .i64 (Pl.lkErr K l)) ∧ Below w.heap.size w w' := by
  obtain ⟨a, pa, b, pb, c, up⟩ := l
  simp only [lkA]
  have HA : Hid (∀ W, Calls Tryz.prog 28 #[.int .i64 a, .int .i64 0, .int .i64 ((K : Int) - 1)] W fun e w' => e = .returned (.bool (decide (0 ≤ a ∧ a ≤ (K : Int) - 1))) ∧ w' = W) := fun W => gwithin_any _ _ _ W
  have HB : Hid (∀ W, Calls Tryz.prog 28 #[.int .i64 b, .int .i64 0, .int .i64 ((K : Int) - 1)] W fun e w' => e = .returned (.bool (decide (0 ≤ b ∧ b ≤ (K : Int) - 1))) ∧ w' = W) := fun W => gwithin_any _ _ _ W
  have HP : Hid (∀ W, Calls Tryz.prog 28 #[.int .i64 pa, .int .i64 1, .int .i64 30] W fun e w' => e = .returned (.bool (decide (1 ≤ pa ∧ pa ≤ 30))) ∧ w' = W) := fun W => gwithin_any _ _ _ W
  have HQ : Hid (∀ W, Calls Tryz.prog 28 #[.int .i64 pb, .int .i64 1, .int .i64 30] W fun e w' => e = .returned (.bool (decide (1 ≤ pb ∧ pb ≤ 30))) ∧ w' = W) := fun W => gwithin_any _ _ _ W
  have HC : Hid (∀ W, Calls Tryz.prog 28 #[.int .i64 c, .int .i64 1, .int .i64 200000] W fun e w' => e = .returned (.bool (decide (1 ≤ c ∧ c ≤ 200000))) ∧ w' = W) := fun W => gwithin_any _ _ _ W
  have wk : IntKind.i64.wrap ((K : Int) - 1) = (K : Int) - 1 := by rw [IntKind.wrap_i64]; omega
  obtain ⟨c0, c1, c2, c3, c4, c5⟩ := lk_cells (heap_alloc_last w (.cells #[.int .i64 a, .int .i64 pa, .int .i64 b, .int .i64 pb, .int .i64 c, .bool up] 46))
  have HE : Hid (Pl.lkErr K ⟨a, pa, b, pb, c, up⟩ = if ¬ (0 ≤ a ∧ a ≤ (K : Int) - 1) ∨ ¬ (0 ≤ b ∧ b ≤ (K : Int) - 1) then 6 else if a = b then 8 else if ¬ (1 ≤ pa ∧ pa ≤ 30) ∨ ¬ (1 ≤ pb ∧ pb ≤ 30) ∨ ¬ (1 ≤ c ∧ c ≤ 200000) then 3 else 0) := rfl
  rw [HE.out]
  clear HE
  by_cases h1 : 0 ≤ a ∧ a ≤ (K : Int) - 1
  · rw [decide_eq_true h1] at HA
    by_cases h2 : 0 ≤ b ∧ b ≤ (K : Int) - 1
    · rw [decide_eq_true h2] at HB
      rw [if_neg (by simp only [not_or, Classical.not_not]; exact ⟨h1, h2⟩)]
      by_cases h3 : a = b
      · rw [if_pos h3]
        have d3 : (a == b) = true := by simp [h3]
        clear h1 h2 h3
        go_enter Tryz.func49, Tryz.ntmps49
        go_wp2_with (go_at_call 28; first | ((with_reducible refine (HA.out _).mono ?_); rintro e w1 ⟨rfl, rfl⟩) | ((with_reducible refine (HB.out _).mono ?_); rintro e w1 ⟨rfl, rfl⟩))
        go_ret
        exact ⟨rfl, below_alloc1 _ _⟩
      · rw [if_neg h3]
        have d3 : (a == b) = false := by simp [h3]
        by_cases h4 : 1 ≤ pa ∧ pa ≤ 30
        · rw [decide_eq_true h4] at HP
          by_cases h5 : 1 ≤ pb ∧ pb ≤ 30
          · rw [decide_eq_true h5] at HQ
            by_cases h6 : 1 ≤ c ∧ c ≤ 200000
            · rw [decide_eq_true h6] at HC
              rw [if_neg (by simp only [not_or, Classical.not_not]; exact ⟨h4, h5, h6⟩)]
              clear h1 h2 h3 h4 h5 h6
              go_enter Tryz.func49, Tryz.ntmps49
              go_wp2_with (go_at_call 28; first | ((with_reducible refine (HA.out _).mono ?_); rintro e w1 ⟨rfl, rfl⟩) | ((with_reducible refine (HB.out _).mono ?_); rintro e w1 ⟨rfl, rfl⟩) | ((with_reducible refine (HP.out _).mono ?_); rintro e w1 ⟨rfl, rfl⟩) | ((with_reducible refine (HQ.out _).mono ?_); rintro e w1 ⟨rfl, rfl⟩) | ((with_reducible refine (HC.out _).mono ?_); rintro e w1 ⟨rfl, rfl⟩))
              go_ret
              exact ⟨rfl, below_alloc1 _ _⟩
            · rw [decide_eq_false h6] at HC
              rw [if_pos (Or.inr (Or.inr h6))]
              clear h1 h2 h3 h4 h5 h6
              go_enter Tryz.func49, Tryz.ntmps49
              go_wp2_with (go_at_call 28; first | ((with_reducible refine (HA.out _).mono ?_); rintro e w1 ⟨rfl, rfl⟩) | ((with_reducible refine (HB.out _).mono ?_); rintro e w1 ⟨rfl, rfl⟩) | ((with_reducible refine (HP.out _).mono ?_); rintro e w1 ⟨rfl, rfl⟩) | ((with_reducible refine (HQ.out _).mono ?_); rintro e w1 ⟨rfl, rfl⟩) | ((with_reducible refine (HC.out _).mono ?_); rintro e w1 ⟨rfl, rfl⟩))
              go_ret
              exact ⟨rfl, below_alloc1 _ _⟩
          · rw [decide_eq_false h5] at HQ
            rw [if_pos (Or.inr (Or.inl h5))]
            clear h1 h2 h3 h4 h5
            go_enter Tryz.func49, Tryz.ntmps49
            go_wp2_with (go_at_call 28; first | ((with_reducible refine (HA.out _).mono ?_); rintro e w1 ⟨rfl, rfl⟩) | ((with_reducible refine (HB.out _).mono ?_); rintro e w1 ⟨rfl, rfl⟩) | ((with_reducible refine (HP.out _).mono ?_); rintro e w1 ⟨rfl, rfl⟩) | ((with_reducible refine (HQ.out _).mono ?_); rintro e w1 ⟨rfl, rfl⟩))
            go_ret
            exact ⟨rfl, below_alloc1 _ _⟩
        · rw [decide_eq_false h4] at HP
          rw [if_pos (Or.inl h4)]
          clear h1 h2 h3 h4
          go_enter Tryz.func49, Tryz.ntmps49
          go_wp2_with (go_at_call 28; first | ((with_reducible refine (HA.out _).mono ?_); rintro e w1 ⟨rfl, rfl⟩) | ((with_reducible refine (HB.out _).mono ?_); rintro e w1 ⟨rfl, rfl⟩) | ((with_reducible refine (HP.out _).mono ?_); rintro e w1 ⟨rfl, rfl⟩))
          go_ret
          exact ⟨rfl, below_alloc1 _ _⟩
    · rw [decide_eq_false h2] at HB
      rw [if_pos (Or.inr h2)]
      clear h1 h2
      go_enter Tryz.func49, Tryz.ntmps49
      go_wp2_with (go_at_call 28; first | ((with_reducible refine (HA.out _).mono ?_); rintro e w1 ⟨rfl, rfl⟩) | ((with_reducible refine (HB.out _).mono ?_); rintro e w1 ⟨rfl, rfl⟩))
      go_ret
      exact ⟨rfl, below_alloc1 _ _⟩
  · rw [decide_eq_false h1] at HA
    rw [if_pos (Or.inl h1)]
    clear h1
    go_enter Tryz.func49, Tryz.ntmps49
    go_wp2_with (go_at_call 28; refine (HA.out _).mono ?_; rintro e w1 ⟨rfl, rfl⟩)
    go_ret
    exact ⟨rfl, below_alloc1 _ _⟩
set_option maxHeartbeats 400000 in
theorem core_any (b off n cap : Nat) (f : Nat → Int) (w : World) (hn : n ≤ 9223372036854775807) (hcap : n ≤ cap) (hf : ∀ i, i < n → w.cell? ⟨b, off + i, none⟩ = some (.int .i64 (f i))) :
    Calls Tryz.prog 50 #[.slice (some ⟨b, off, none⟩) n cap] w fun e w' => e = .returned (.int .i64 (orTo f n)) ∧ w' = w := by
  have HF : Hid (∀ i, i < n → w.cell? ⟨b, off + i, none⟩ = some (.int .i64 (f i))) := hf
  clear hf
  go_enter Tryz.func50, Tryz.ntmps50
  go_wp2_with fail
  go_loopw [8] (fun i wr => ∃ k : Nat, k ≤ n ∧ i = .int .i64 k ∧ Hid (orTo f k = 0) ∧ wr = w) (fun i _ => n - (intOf i).toNat)
  case atStart => exact ⟨0, by omega, rfl, rfl, rfl⟩
  case round =>
    obtain ⟨k, hk, rfl, hS, rfl⟩ := hrel
    by_cases hlt : k < n
    · have c0 := HF.out k hlt
      by_cases h0 : f k = 0
      · have d0 : (f k != 0) = false := by simp [h0]
        have HS2 : Hid (orTo f (k + 1) = 0) := by show (if orTo f k = 0 then f k else orTo f k) = 0; rw [if_pos hS.out, h0]
        clear HF hS
        go_wp2_with fail
        exact ⟨⟨k + 1, by omega, by go_num, HS2, trivial⟩, by simp [intOf]; omega⟩
      · have d0 : (f k != 0) = true := by simp [h0]
        have HS2 : Hid (orTo f n = f k) := orTo_stay f k hS.out h0 n hlt
        clear HF hS h0
        go_wp2_with fail
        go_ret
        exact ⟨by rw [HS2.out]; rfl, rfl⟩
    · obtain rfl : k = n := by omega
      clear HF
      go_wp2_with fail
      go_ret
      exact ⟨by rw [hS.out]; rfl, rfl⟩
theorem core2 (x y : Int) (g : Nat) (ty : TypeId) (w : World) (h : w.heap[g]? = some (.cells #[.int .i64 x, .int .i64 y] ty (0, 0))) :
    Calls Tryz.prog 50 #[.slice (some ⟨g, 0, none⟩) 2 2] w fun e w' => e = .returned (.int .i64 (if x = 0 then y else x)) ∧ w' = w := by
  obtain ⟨c0, c1⟩ := two_cells2 h
  have := core_any g 0 2 2 (fun i => if i = 0 then x else y) w (by omega) (by omega) (fun i hi => by
    rcases (by omega : i = 0 ∨ i = 1) with e | e <;> subst e
    · exact c0
    · exact c1)
  have e : orTo (fun i => if i = 0 then x else y) 2 = if x = 0 then y else x := by
    have e1 : orTo (fun i => if i = 0 then x else y) 1 = x := by simp [orTo]
    show (if orTo (fun i => if i = 0 then x else y) 1 = 0 then y else orTo (fun i => if i = 0 then x else y) 1) = _
    rw [e1]
  rw [e] at this
  exact this
end Go.Proofs.YtcbpafpaimpfnaaGreatDoor

namespace Go.Proofs.YtcbpafpaimpfnaaGreatDoor
open Go.RowKit Go.Maps
open Pl (Br Net Pc Lk En St)

/-- The ends, one behind the other. -/
def endSeq (ls : Nat → Lk) (j : Nat) : Int × Int := if j % 2 = 0 then ((ls (j / 2)).a, (ls (j / 2)).pa) else ((ls (j / 2)).b, (ls (j / 2)).pb)
theorem endSeq_even (ls : Nat → Lk) (k : Nat) : endSeq ls (2 * k) = ((ls k).a, (ls k).pa) := by
  unfold endSeq
  rw [if_pos (by omega), show 2 * k / 2 = k by omega]
theorem endSeq_odd (ls : Nat → Lk) (k : Nat) : endSeq ls (2 * k + 1) = ((ls k).b, (ls k).pb) := by
  unfold endSeq
  rw [if_neg (by omega), show (2 * k + 1) / 2 = k by omega]
/-- What the closure says of a link. -/
def lSay (K : Nat) (l : Lk) (c d : Int) : Int := if Pl.lkErr K l ≠ 0 then Pl.lkErr K l else if 0 < c then 7 else if 0 < d then 7 else 0
theorem lk_free {w : World} {g : Nat} {A : Array Value} {ty : TypeId} (h : w.heap[g]? = some (.cells A ty (0, 0))) (j : Nat) : w.frozen? ⟨g, j, none⟩ = false := frozen_of_row _ _ _ _ _ h
set_option maxRecDepth 100000 in
set_option maxHeartbeats 4000000 in
theorem plClosure_any (K : Nat) (hK : K ≤ 12) (l : Lk) (N Q P B m : Nat) (f : Nat → Int × Int) (w : World) (hN : w.cell? ⟨N, 0, none⟩ = some (.int .i64 K)) (hQ : w.cell? ⟨Q, 0, none⟩ = some (.func (.func 69) #[] #[.pointer (some ⟨P, 0, none⟩)])) (hP : w.cell? ⟨P, 0, none⟩ = some (.map (some B))) (hPB : P ≠ B) (hQB : Q ≠ B) (hc : PCnt w B f m) (hm : m ≤ 900) (hf : f m = (l.a, l.pa)) (hf1 : f (m + 1) = (l.b, l.pb))
    (wa : (Lit.int .i64 l.a).wf = true) (wpa : (Lit.int .i64 l.pa).wf = true) (wb : (Lit.int .i64 l.b).wf = true) (wpb : (Lit.int .i64 l.pb).wf = true) :
    Calls Tryz.prog 48 #[.agg (lkA l), .pointer (some ⟨N, 0, none⟩), .pointer (some ⟨Q, 0, none⟩)] w fun e w' => e = .returned (.int .i64 (lSay K l (cntI f (l.a, l.pa) m) (cntI f (l.b, l.pb) (m + 1)))) ∧ (Pl.lkErr K l = 0 → PCnt w' B f (m + 2)) ∧ w.grownBy w' (some B) := by
  obtain ⟨X, HX⟩ : ∃ X, Hid (X = w.alloc (.cells (lkA l) 46)) := ⟨_, rfl⟩
  have hXB : Below w.heap.size w X := by rw [HX.out]; exact below_alloc1 _ _
  have hXb : X.heap[w.heap.size]? = some (.cells (lkA l) 46 (0, 0)) := by rw [HX.out]; exact heap_alloc_last _ _
  have hlt := hc.lt
  have hQl := block_lt_of_cell hQ
  have hPl := block_lt_of_cell hP
  have hNl := block_lt_of_cell hN
  simp only at hQl hPl hNl
  have HL : Hid (∀ W, X.grownBy W (some B) → (W.cell? ⟨w.heap.size, 0, none⟩ = some (.int .i64 l.a) ∧ W.cell? ⟨w.heap.size, 1, none⟩ = some (.int .i64 l.pa) ∧ W.cell? ⟨w.heap.size, 2, none⟩ = some (.int .i64 l.b) ∧ W.cell? ⟨w.heap.size, 3, none⟩ = some (.int .i64 l.pb)) ∧ W.cell? ⟨Q, 0, none⟩ = some (.func (.func 69) #[] #[.pointer (some ⟨P, 0, none⟩)])) := by
    intro W hW
    obtain ⟨x0, x1, x2, x3, _⟩ := lk_cells (grown_block hXb hW (by omega))
    exact ⟨⟨x0, x1, x2, x3⟩, grown_cell ((hXB.cell (by exact hQl)).trans hQ) hW hQB⟩
  have HGG : Hid (∀ W, X.grownBy W (some B) → w.grownBy W (some B)) := fun W hW => (grown_of_below hXB).trans hW
  have HC : Hid (Calls Tryz.prog 49 #[.agg (lkA l), .int .i64 K] X fun e w' => e = .returned (.int .i64 (Pl.lkErr K l)) ∧ Hid (X.grownBy w' (some B) ∧ PCnt w' B f m)) := by
    refine (pwrongLink_any K l X hK).mono ?_
    rintro e w' ⟨rfl, h2⟩
    exact ⟨rfl, grown_of_below h2, (hc.same (hXB.block B hlt)).same (h2.block B (Nat.lt_of_lt_of_le hlt hXB.size))⟩
  have HT1 : Hid (∀ W, Hid (X.grownBy W (some B) ∧ PCnt W B f m) → Calls Tryz.prog 69 #[.agg #[.int .i64 l.a, .int .i64 l.pa], .pointer (some ⟨P, 0, none⟩)] W fun e w' => e = .returned (.int .i64 (if 0 < cntI f (l.a, l.pa) m then 7 else 0)) ∧ Hid (X.grownBy w' (some B) ∧ PCnt w' B f (m + 1))) := by
    intro W hW
    refine (ptake_any P B m f (l.a, l.pa) W (grown_cell ((hXB.cell (by exact hPl)).trans hP) hW.out.1 hPB) hPB hW.out.2 (by omega) hf wa wpa).mono ?_
    rintro e w' ⟨rfl, k1, k2⟩
    exact ⟨rfl, hW.out.1.trans k2, k1⟩
  have HT2 : Hid (∀ W, Hid (X.grownBy W (some B) ∧ PCnt W B f (m + 1)) → Calls Tryz.prog 69 #[.agg #[.int .i64 l.b, .int .i64 l.pb], .pointer (some ⟨P, 0, none⟩)] W fun e w' => e = .returned (.int .i64 (if 0 < cntI f (l.b, l.pb) (m + 1) then 7 else 0)) ∧ Hid (X.grownBy w' (some B) ∧ PCnt w' B f (m + 2))) := by
    intro W hW
    refine (ptake_any P B (m + 1) f (l.b, l.pb) W (grown_cell ((hXB.cell (by exact hPl)).trans hP) hW.out.1 hPB) hPB hW.out.2 (by omega) hf1 wb wpb).mono ?_
    rintro e w' ⟨rfl, k1, k2⟩
    exact ⟨rfl, hW.out.1.trans k2, k1⟩
  obtain ⟨q0, q1, q2, q3, q4, q5⟩ := lk_cells hXb
  have n0 : X.cell? ⟨N, 0, none⟩ = some (.int .i64 K) := (hXB.cell (by exact hNl)).trans hN
  have HFIN : Hid (∀ W (o : Obj), Hid (X.grownBy W (some B) ∧ PCnt W B f (m + 2)) → PCnt (W.alloc o) B f (m + 2) ∧ w.grownBy (W.alloc o) (some B)) := fun W o hW => by
    have h1 := hW.out.2.lt
    exact ⟨hW.out.2.same ((below_alloc1 W o).block B h1), (HGG.out W hW.out.1).trans (grown_of_below (below_alloc1 W o))⟩
  have HAD : Hid (∀ W, Hid (X.grownBy W (some B) ∧ PCnt W B f m) → Hid (X.grownBy W.drew (some B) ∧ PCnt W.drew B f m)) := fun W hW => ⟨⟨hW.out.1.os, hW.out.1.tape, hW.out.1.output, hW.out.1.size, hW.out.1.block⟩, hW.out.2⟩
  have HSAY : Hid (Pl.lkErr K l = 0 → lSay K l (cntI f (l.a, l.pa) m) (cntI f (l.b, l.pb) (m + 1)) = if (if 0 < cntI f (l.a, l.pa) m then (7 : Int) else 0) = 0 then (if 0 < cntI f (l.b, l.pb) (m + 1) then 7 else 0) else (if 0 < cntI f (l.a, l.pa) m then 7 else 0)) := fun h => by
    unfold lSay
    rw [if_neg (fun q => q h)]
    by_cases c : 0 < cntI f (l.a, l.pa) m
    · rw [if_pos c, if_pos c]; rfl
    · rw [if_neg c, if_neg c]; rfl
  have HSAY2 : Hid (Pl.lkErr K l ≠ 0 → lSay K l (cntI f (l.a, l.pa) m) (cntI f (l.b, l.pb) (m + 1)) = Pl.lkErr K l) := fun h => if_pos h
  generalize lSay K l (cntI f (l.a, l.pa) m) (cntI f (l.b, l.pb) (m + 1)) = S at *
  generalize (if 0 < cntI f (l.a, l.pa) m then (7 : Int) else 0) = R1 at *
  generalize (if 0 < cntI f (l.b, l.pb) (m + 1) then (7 : Int) else 0) = R2 at *
  generalize Pl.lkErr K l = E at *
  clear hQ hP hc hf hf1 hXb hXB hN wa wpa wb wpb
  obtain ⟨a, pa, b, pb, c, up⟩ := l
  simp only [lkA] at *
  rw [HX.out] at n0
  by_cases e0 : E = 0
  · subst e0
    have HS : Hid (S = if R1 = 0 then R2 else R1) := HSAY.out (by first | exact rfl | trivial)
    have HOR : Hid (∀ (g : Nat) (ty : TypeId) (W : World), W.heap[g]? = some (.cells #[.int .i64 R1, .int .i64 R2] ty (0, 0)) → Calls Tryz.prog 50 #[.slice (some ⟨g, 0, none⟩) 2 2] W fun e w' => e = .returned (.int .i64 S) ∧ w' = W) := fun g ty W h => by rw [HS.out]; exact core2 R1 R2 g ty W h
    clear HSAY HSAY2 HS
    go_enter Tryz.func48, Tryz.ntmps48
    go_wp2_with fail
    rw [← HX.out]
    refine HC.out.mono ?_
    rintro e w1 ⟨rfl, hA⟩
    obtain ⟨⟨x0, x1, x2, x3⟩, x4⟩ := HL.out w1 hA.out.1
    have HA0 : Hid _ := HAD.out w1 hA
    have HAd : Hid (X.grownBy w1.drew (some B)) := HA0.out.1
    clear q0 q1 q2 q3 q4 q5 n0 hA HAD HC
    go_wp2_with fail
    go_region_held3 (fun W => (W.cell? ⟨w.heap.size, 0, none⟩ = some (.int .i64 a) ∧ W.cell? ⟨w.heap.size, 1, none⟩ = some (.int .i64 pa) ∧ W.cell? ⟨w.heap.size, 2, none⟩ = some (.int .i64 b) ∧ W.cell? ⟨w.heap.size, 3, none⟩ = some (.int .i64 pb)) ∧ W.cell? ⟨Q, 0, none⟩ = some (.func (.func 69) #[] #[.pointer (some ⟨P, 0, none⟩)]))
      (first | (exact HL.out _ HAd.out) | (exact HL.out _ HA1.out.1) | (exact HL.out _ HA2.out.1) | (exact HL.out _ (HA2.out.1.trans (grown_of_below (below_alloc1 _ _)))))
      (first | (go_at_call 69; first | ((with_reducible refine (HT1.out _ HA0).mono ?_); rintro e wa ⟨rfl, HA1⟩) | ((with_reducible refine (HT2.out _ HA1).mono ?_); rintro e wb ⟨rfl, HA2⟩)) | (go_at_call 50; refine (HOR.out _ _ _ (heap_alloc_last _ _)).mono ?_; rintro e wc ⟨rfl, rfl⟩))
    all_goals go_wp2_with fail
    all_goals go_ret
    all_goals first | exact ⟨rfl, fun _ => (HFIN.out _ _ HA2).1, (HFIN.out _ _ HA2).2⟩ | exact ⟨rfl, (HFIN.out _ _ HA2).1, (HFIN.out _ _ HA2).2⟩
  · have e1 : (E == 0) = false := by simp [e0]
    have HS : Hid (S = E) := HSAY2.out e0
    clear HSAY HSAY2
    go_enter Tryz.func48, Tryz.ntmps48
    go_wp2_with fail
    rw [← HX.out]
    refine HC.out.mono ?_
    rintro e w1 ⟨rfl, hA⟩
    go_wp2_with fail
    go_ret
    exact ⟨by rw [HS.out]; rfl, fun h => absurd h e0, HGG.out _ hA.out.1⟩
end Go.Proofs.YtcbpafpaimpfnaaGreatDoor

namespace Go.Proofs.YtcbpafpaimpfnaaGreatDoor
open Go.RowKit Go.Maps
open Pl (Br Net Pc Lk En St)

theorem seq_isEnd (ls : Nat → Lk) (x p : Int) (k : Nat) : Vc.someTo (fun j => decide (endSeq ls j = (x, p))) (2 * k) = true ↔ ∃ i, i < k ∧ Pl.isEnd (ls i) x p = true := by
  rw [Pl.someTo_iff]
  constructor
  · rintro ⟨j, hj, h⟩
    have h := of_decide_eq_true h
    refine ⟨j / 2, by omega, ?_⟩
    unfold endSeq at h
    unfold Pl.isEnd
    by_cases e : j % 2 = 0
    · rw [if_pos e] at h
      injection h with h1 h2
      simp [h1, h2]
    · rw [if_neg e] at h
      injection h with h1 h2
      simp [h1, h2]
  · rintro ⟨i, hi, h⟩
    unfold Pl.isEnd at h
    simp only [Bool.or_eq_true, decide_eq_true_eq] at h
    rcases h with ⟨h1, h2⟩ | ⟨h1, h2⟩
    · exact ⟨2 * i, by omega, decide_eq_true (by rw [endSeq_even, h1, h2])⟩
    · exact ⟨2 * i + 1, by omega, decide_eq_true (by rw [endSeq_odd, h1, h2])⟩
theorem lSay_err (K : Nat) (ls : Nat → Lk) (k : Nat) : lSay K (ls k) (cntI (endSeq ls) ((ls k).a, (ls k).pa) (2 * k)) (cntI (endSeq ls) ((ls k).b, (ls k).pb) (2 * k + 1)) = Pl.lErr K ls k := by
  unfold lSay Pl.lErr
  by_cases h : Pl.lkErr K (ls k) = 0
  · have hn : ¬ Pl.lkErr K (ls k) ≠ 0 := fun q => q h
    rw [if_neg hn, if_neg hn]
    have hab := (Pl.lkErr_ok h).2.2.1
    have c1 := (cntI_pos (endSeq ls) ((ls k).a, (ls k).pa) (2 * k)).trans (seq_isEnd ls _ _ k)
    have c2 : 0 < cntI (endSeq ls) ((ls k).b, (ls k).pb) (2 * k + 1) ↔ ∃ i, i < k ∧ Pl.isEnd (ls i) (ls k).b (ls k).pb = true := by
      have e : cntI (endSeq ls) ((ls k).b, (ls k).pb) (2 * k + 1) = cntI (endSeq ls) ((ls k).b, (ls k).pb) (2 * k) := by
        show _ + (if endSeq ls (2 * k) = _ then (1 : Int) else 0) = _
        rw [if_neg (by rw [endSeq_even]; intro q; injection q with q1 _; exact hab q1), Int.add_zero]
      rw [e]
      exact (cntI_pos (endSeq ls) ((ls k).b, (ls k).pb) (2 * k)).trans (seq_isEnd ls _ _ k)
    have c3 : Vc.someTo (fun j => Pl.isEnd (ls j) (ls k).a (ls k).pa || Pl.isEnd (ls j) (ls k).b (ls k).pb) k = true ↔ (0 < cntI (endSeq ls) ((ls k).a, (ls k).pa) (2 * k) ∨ 0 < cntI (endSeq ls) ((ls k).b, (ls k).pb) (2 * k + 1)) := by
      rw [Pl.someTo_iff, c1, c2]
      constructor
      · rintro ⟨i, hi, q⟩
        simp only [Bool.or_eq_true] at q
        rcases q with q | q
        · exact Or.inl ⟨i, hi, q⟩
        · exact Or.inr ⟨i, hi, q⟩
      · rintro (⟨i, hi, q⟩ | ⟨i, hi, q⟩)
        · exact ⟨i, hi, by simp [q]⟩
        · exact ⟨i, hi, by simp [q]⟩
    by_cases q1 : 0 < cntI (endSeq ls) ((ls k).a, (ls k).pa) (2 * k)
    · rw [if_pos q1, if_pos (c3.2 (Or.inl q1))]
    · rw [if_neg q1]
      by_cases q2 : 0 < cntI (endSeq ls) ((ls k).b, (ls k).pb) (2 * k + 1)
      · rw [if_pos q2, if_pos (c3.2 (Or.inr q2))]
      · rw [if_neg q2, if_neg (fun q => by rcases c3.1 q with q | q; exact q1 q; exact q2 q)]
  · rw [if_pos h, if_pos h]
theorem lErr_zero {K : Nat} {ls : Nat → Lk} {k : Nat} (h : Pl.lErr K ls k = 0) : Pl.lkErr K (ls k) = 0 := (Pl.lErr_ok h).1
set_option maxRecDepth 100000 in
set_option maxHeartbeats 2000000 in
theorem plFirst_any (ao : Option Addr) (n cap : Nat) (ls : Nat → Lk) (K : Nat) (hK : K ≤ 12) (N Q P B : Nat) (W0 w : World) (hn : n ≤ 40) (hr : LRow W0 ao n cap ls) (hwf : ∀ i, i < n → (Lit.int .i64 (ls i).a).wf = true ∧ (Lit.int .i64 (ls i).pa).wf = true ∧ (Lit.int .i64 (ls i).b).wf = true ∧ (Lit.int .i64 (ls i).pb).wf = true)
    (hN : w.cell? ⟨N, 0, none⟩ = some (.int .i64 K)) (hNB : N ≠ B)
    (hQ : w.cell? ⟨Q, 0, none⟩ = some (.func (.func 69) #[] #[.pointer (some ⟨P, 0, none⟩)])) (hP : w.cell? ⟨P, 0, none⟩ = some (.map (some B))) (hPB : P ≠ B) (hQB : Q ≠ B) (hc : PCnt w B (endSeq ls) 0)
    (hM : W0.heap.size ≤ B) (hW0 : Below W0.heap.size W0 w) :
    Calls Tryz.prog 47 #[.slice ao n cap, .func (.func 48) #[] #[.pointer (some ⟨N, 0, none⟩), .pointer (some ⟨Q, 0, none⟩)]] w fun e w' => e = .returned (.agg (ftA (Pl.firstTo (Pl.lErr K ls) n))) ∧ Below W0.heap.size W0 w' := by
  have HRW : Hid (∀ W, Below W0.heap.size W0 W → LRow W ao n cap ls) := fun W hW => CRow.other hr (fun q _ _ hq => hW.block q hq) hW.size
  have HWF : Hid (∀ i, i < n → (Lit.int .i64 (ls i).a).wf = true ∧ (Lit.int .i64 (ls i).pa).wf = true ∧ (Lit.int .i64 (ls i).b).wf = true ∧ (Lit.int .i64 (ls i).pb).wf = true) := hwf
  have hcap := hr.1
  have hBl := hc.lt
  obtain ⟨G, HG⟩ : ∃ G, Hid (G = w.heap.size) := ⟨_, rfl⟩
  have hGB : G ≠ B := by rw [HG.out]; omega
  have hGM : W0.heap.size ≤ G := by rw [HG.out]; exact hW0.size
  have HI : Hid (∀ W, W = w.alloc (.cells #[.int .i64 0, .int .i64 0] 28) → Below W0.heap.size W0 W ∧ PCnt W B (endSeq ls) 0 ∧ W.heap[G]? = some (.cells #[.int .i64 0, .int .i64 0] 28 (0, 0)) ∧ W.cell? ⟨Q, 0, none⟩ = some (.func (.func 69) #[] #[.pointer (some ⟨P, 0, none⟩)]) ∧ W.cell? ⟨P, 0, none⟩ = some (.map (some B)) ∧ W.cell? ⟨N, 0, none⟩ = some (.int .i64 K)) := by
    intro W hW
    have h1 : Below w.heap.size w W := by rw [hW]; exact below_alloc1 _ _
    have hQl := block_lt_of_cell hQ
    have hPl := block_lt_of_cell hP
    have hNl := block_lt_of_cell hN
    exact ⟨hW0.trans (h1.mono hW0.size), hc.same (h1.block B hBl), by rw [hW, HG.out]; exact heap_alloc_last _ _, (h1.cell (by exact hQl)).trans hQ, (h1.cell (by exact hPl)).trans hP, (h1.cell (by exact hNl)).trans hN⟩
  clear hr hwf hQ hP hN hc hW0 hBl
  go_enter Tryz.func47, Tryz.ntmps47
  go_wp2_with fail
  rw [← HG.out]
  go_loopw [10] (fun i wr => ∃ k : Nat, k ≤ n ∧ i = .int .i64 k ∧ Hid (∀ j, j < k → Pl.lErr K ls j = 0) ∧ Hid (Below W0.heap.size W0 wr ∧ PCnt wr B (endSeq ls) (2 * k) ∧ wr.heap[G]? = some (.cells #[.int .i64 0, .int .i64 0] 28 (0, 0)) ∧ wr.cell? ⟨Q, 0, none⟩ = some (.func (.func 69) #[] #[.pointer (some ⟨P, 0, none⟩)]) ∧ wr.cell? ⟨P, 0, none⟩ = some (.map (some B)) ∧ wr.cell? ⟨N, 0, none⟩ = some (.int .i64 K))) (fun i _ => n - (intOf i).toNat)
  case atStart => exact ⟨0, by omega, rfl, (fun j hj => absurd hj (by omega)), HI.out _ rfl⟩
  case round =>
    obtain ⟨k, hk, rfl, hS, hX⟩ := hrel
    clear HI
    by_cases hlt : k < n
    · obtain ⟨b, off, rfl, _⟩ := CRow.some (HRW.out wr hX.out.1) (by omega)
      obtain ⟨c0, c1, c2, c3, c4, c5⟩ := LRow.cells (HRW.out wr hX.out.1) hlt
      obtain ⟨X, HX⟩ : ∃ X, Hid (X = wr.alloc (.cells (lkA (ls k)) 46)) := ⟨_, rfl⟩
      have HXB : Hid (Below wr.heap.size wr X) := by rw [HX.out]; exact below_alloc1 _ _
      have HX5 : Hid (X.heap[wr.heap.size]? = some (.cells (lkA (ls k)) 46 (0, 0))) := by rw [HX.out]; exact heap_alloc_last _ _
      have HCL : Hid (Calls Tryz.prog 48 #[.agg (lkA (ls k)), .pointer (some ⟨N, 0, none⟩), .pointer (some ⟨Q, 0, none⟩)] X fun e w' => e = .returned (.int .i64 (Pl.lErr K ls k)) ∧ Hid (Below W0.heap.size W0 w' ∧ (Pl.lErr K ls k = 0 → PCnt w' B (endSeq ls) (2 * (k + 1))) ∧ w'.heap[G]? = some (.cells #[.int .i64 0, .int .i64 0] 28 (0, 0)) ∧ w'.cell? ⟨Q, 0, none⟩ = some (.func (.func 69) #[] #[.pointer (some ⟨P, 0, none⟩)]) ∧ w'.cell? ⟨P, 0, none⟩ = some (.map (some B)) ∧ w'.cell? ⟨N, 0, none⟩ = some (.int .i64 K))) := by
        obtain ⟨x1, x2, x3, x4, x5, x6⟩ := hX.out
        have l1 := block_lt_of_cell x4
        have l2 := block_lt_of_cell x5
        have l3 := block_lt_of_cell x6
        have y6 := (HXB.out.cell (by exact l3)).trans x6
        obtain ⟨v1, v2, v3, v4⟩ := HWF.out k hlt
        have y1 : Below W0.heap.size W0 X := x1.trans (HXB.out.mono x1.size)
        have y4 := (HXB.out.cell (by exact l1)).trans x4
        have y5 := (HXB.out.cell (by exact l2)).trans x5
        have y3 := keep x3 HXB.out
        refine (plClosure_any K hK (ls k) N Q P B (2 * k) (endSeq ls) X y6 y4 y5 hPB hQB (x2.same (HXB.out.block B x2.lt)) (by omega) (endSeq_even ls k) (endSeq_odd ls k) v1 v2 v3 v4).mono ?_
        rintro e w' ⟨rfl, z1, z2⟩
        rw [lSay_err]
        exact ⟨rfl, y1.trans (below_of_grown z2 y1.size hM), fun h => z1 (lErr_zero h), grown_block y3 z2 hGB, grown_cell y4 z2 hQB, grown_cell y5 z2 hPB, grown_cell y6 z2 hNB⟩
      have HF1 : Hid (Pl.lErr K ls k ≠ 0 → ftA (Pl.firstTo (Pl.lErr K ls) n) = #[.int .i64 (Pl.lErr K ls k), .int .i64 (k : Int)]) := fun h => by rw [Pl.firstTo_here (Pl.lErr K ls) k hS.out h n hlt]; rfl
      have HS1 : Hid (Pl.lErr K ls k = 0 → ∀ j, j < k + 1 → Pl.lErr K ls j = 0) := fun h j hj => by
        by_cases e : j = k
        · subst e; exact h
        · exact hS.out j (by omega)
      obtain ⟨d0, d1, d2, d3, d4, d5⟩ := lk_cells HX5.out
      clear hX hS HX5 HXB HWF HRW
      generalize Pl.lErr K ls k = E at *
      by_cases e0 : E = 0
      · subst e0
        have HS2 : Hid (∀ j, j < k + 1 → Pl.lErr K ls j = 0) := HS1.out rfl
        clear HS1 HF1
        simp only [lkA] at *
        go_wp2_with fail
        rw [← HX.out]
        refine HCL.out.mono ?_
        rintro e w1 ⟨rfl, hY⟩
        clear d0 d1 d2 d3 d4 d5 c0 c1 c2 c3 c4 c5
        go_wp2_with fail
        exact ⟨⟨k + 1, by omega, by go_num, HS2, ⟨hY.out.1, hY.out.2.1 (by first | exact rfl | trivial), hY.out.2.2⟩⟩, by simp [intOf]; omega⟩
      · have e1 : (E == 0) = false := by simp [e0]
        have HF2 : Hid _ := HF1.out e0
        clear HS1 HF1
        simp only [lkA] at *
        go_wp2_with fail
        rw [← HX.out]
        refine HCL.out.mono ?_
        rintro e w1 ⟨rfl, hY⟩
        clear d0 d1 d2 d3 d4 d5 c0 c1 c2 c3 c4 c5
        obtain ⟨f0, f1⟩ := two_cells2 hY.out.2.2.1
        obtain ⟨g0, g1, _, _⟩ := vc_free hY.out.2.2.1
        go_wp2_with fail
        exact bodyPost_ret (v := .agg #[.int .i64 E, .int .i64 (k : Int)]) (results_row (p := 4) (ty := 28) Tryz.results47 _ _ G 28 #[.int .i64 E, .int .i64 (k : Int)] (0, 0) _ rfl (set2_same hY.out.2.2.1) Tryz.underlying28 rfl (by rw [sizeFt]; rfl)) rfl ⟨by rw [HF2.out], (hY.out.1.setCell hGM _).setCell hGM _⟩
    · obtain rfl : k = n := by omega
      have HF2 : Hid (ftA (Pl.firstTo (Pl.lErr K ls) k) = #[.int .i64 0, .int .i64 0]) := by rw [Pl.firstTo_all _ _ hS.out]; rfl
      obtain ⟨f0, f1⟩ := two_cells2 hX.out.2.2.1
      obtain ⟨g0, g1, _, _⟩ := vc_free hX.out.2.2.1
      go_wp2_with fail
      exact bodyPost_ret (v := .agg #[.int .i64 0, .int .i64 0]) (results_row (p := 4) (ty := 28) Tryz.results47 _ _ G 28 #[.int .i64 0, .int .i64 0] (0, 0) _ rfl (set2_same hX.out.2.2.1) Tryz.underlying28 rfl (by rw [sizeFt]; rfl)) rfl ⟨by rw [HF2.out], (hX.out.1.setCell hGM _).setCell hGM _⟩
theorem ftA_cells {w : World} {g : Nat} {x : Int × Int} {ty : TypeId} (h : w.heap[g]? = some (.cells (ftA x) ty (0, 0))) : w.cell? ⟨g, 0, none⟩ = some (.int .i64 x.1) ∧ w.cell? ⟨g, 1, none⟩ = some (.int .i64 x.2) := two_cells2 h
set_option maxRecDepth 100000 in
set_option maxHeartbeats 2000000 in
theorem pwrongBridges_any (ao : Option Addr) (n cap : Nat) (bs : Nat → Br) (w : World) (hn : n ≤ 12) (hr : BRow w ao n cap bs) (hb : ∀ i, i < n → (bs i).at' w) (hwf : ∀ i, i < n → (Lit.int .u64 (bs i).addr).wf = true) :
    Calls Tryz.prog 23 #[.slice ao n cap] w fun e w' => e = .returned (.agg (ftA (Pl.firstTo (Pl.bErr bs) n))) ∧ Below w.heap.size w w' := by
  obtain ⟨X, HX⟩ : ∃ X, Hid (X = w.alloc (.cells #[.int .i64 0, .int .i64 0] 28)) := ⟨_, rfl⟩
  have hXB : Below w.heap.size w X := by rw [HX.out]; exact below_alloc1 _ _
  have hXb : X.heap[w.heap.size]? = some (.cells #[.int .i64 0, .int .i64 0] 28 (0, 0)) := by rw [HX.out]; exact heap_alloc_last _ _
  have hXs : X.heap.size = w.heap.size + 1 := by rw [HX.out]; simp
  have HT : Hid (Calls Tryz.prog 42 #[] X fun e w' => e = .returned (.func (.func 64) #[] #[.pointer (some ⟨X.heap.size + 1, 0, none⟩)]) ∧ Hid (w'.cell? ⟨X.heap.size + 1, 0, none⟩ = some (.map (some X.heap.size)) ∧ UCnt w' X.heap.size (fun j => (bs j).addr) 0 ∧ Below X.heap.size X w')) := utaker_any _ X
  have HF : Hid (∀ w1, Hid (w1.cell? ⟨X.heap.size + 1, 0, none⟩ = some (.map (some X.heap.size)) ∧ UCnt w1 X.heap.size (fun j => (bs j).addr) 0 ∧ Below X.heap.size X w1) → ∀ Y, Y = w1.alloc (.cells #[.func (.func 64) #[] #[.pointer (some ⟨X.heap.size + 1, 0, none⟩)]] 97) →
      Calls Tryz.prog 43 #[.slice ao n cap, .func (.func 44) #[] #[.pointer (some ⟨w1.heap.size, 0, none⟩)]] Y fun e w' => e = .returned (.agg (ftA (Pl.firstTo (Pl.bErr bs) n))) ∧ Below X.heap.size X w') := by
    intro w1 h Y hY
    obtain ⟨h1, h2, h3⟩ := h.out
    have hYB : Below w1.heap.size w1 Y := by rw [hY]; exact below_alloc1 _ _
    have l1 := block_lt_of_cell h1
    have h2' := h2.lt
    have hYX : Below X.heap.size X Y := h3.trans (hYB.mono h3.size)
    have hYQ : Y.heap[w1.heap.size]? = some (.cells #[.func (.func 64) #[] #[.pointer (some ⟨X.heap.size + 1, 0, none⟩)]] 97 (0, 0)) := by rw [hY]; exact heap_alloc_last _ _
    refine (pbFirst_any ao n cap bs w1.heap.size (X.heap.size + 1) X.heap.size X Y hn (CRow.below hr hXB) (fun i hi => (hb i hi).below hXB) hwf (cell_of_row _ _ 0 _ _ _ hYQ) ((hYB.cell (by exact l1)).trans h1) (by omega) (by omega) (h2.same (hYB.block _ h2')) (Nat.le_refl _) hYX).mono ?_
    rintro e w' ⟨rfl, z⟩
    exact ⟨rfl, z⟩
  have HEND : Hid (∀ W, Below X.heap.size X W → W.heap[w.heap.size]? = some (.cells #[.int .i64 0, .int .i64 0] 28 (0, 0)) ∧ Below w.heap.size w W) := fun W hW => ⟨keep hXb hW, hXB.trans (hW.mono hXB.size)⟩
  clear hr hb hwf hXb hXB hXs
  generalize Pl.firstTo (Pl.bErr bs) n = R at *
  obtain ⟨r1, r2⟩ := R
  simp only [ftA] at *
  go_enter Tryz.func23, Tryz.ntmps23
  go_wp2_with fail
  rw [← HX.out]
  refine HT.out.mono ?_
  rintro e w1 ⟨rfl, h1⟩
  have hf := HF.out w1 h1 _ rfl
  clear HT HF h1
  go_wp2_with fail
  refine hf.mono ?_
  rintro e w2 ⟨rfl, h2⟩
  obtain ⟨k1, k2⟩ := HEND.out w2 h2
  obtain ⟨f0, f1⟩ := two_cells2 k1
  obtain ⟨g0, g1, _, _⟩ := vc_free k1
  have HK1 : Hid (w2.heap[w.heap.size]? = some (.cells #[.int .i64 0, .int .i64 0] 28 (0, 0))) := k1
  have HK2 : Hid (Below w.heap.size w w2) := k2
  clear hf k1 k2 h2 HEND
  go_wp2_with fail
  exact bodyPost_ret (v := .agg #[.int .i64 r1, .int .i64 r2]) (results_row (p := 2) (ty := 28) Tryz.results23 _ _ w.heap.size 28 #[.int .i64 r1, .int .i64 r2] (0, 0) _ rfl (set2_same HK1.out) Tryz.underlying28 rfl (by rw [sizeFt]; rfl)) rfl ⟨rfl, (HK2.out.setCell (Nat.le_refl _) _).setCell (Nat.le_refl _) _⟩
set_option maxRecDepth 100000 in
set_option maxHeartbeats 2000000 in
theorem pwrongLinks_any (ao : Option Addr) (n cap : Nat) (ls : Nat → Lk) (K : Nat) (hK : K ≤ 12) (w : World) (hn : n ≤ 40) (hr : LRow w ao n cap ls) (hwf : ∀ i, i < n → (Lit.int .i64 (ls i).a).wf = true ∧ (Lit.int .i64 (ls i).pa).wf = true ∧ (Lit.int .i64 (ls i).b).wf = true ∧ (Lit.int .i64 (ls i).pb).wf = true) :
    Calls Tryz.prog 24 #[.slice ao n cap, .int .i64 K] w fun e w' => e = .returned (.agg (ftA (Pl.firstTo (Pl.lErr K ls) n))) ∧ Below w.heap.size w w' := by
  obtain ⟨X, HX⟩ : ∃ X, Hid (X = (w.alloc (.cells #[.int .i64 K] 3)).alloc (.cells #[.int .i64 0, .int .i64 0] 28)) := ⟨_, rfl⟩
  have hXB : Below w.heap.size w X := by rw [HX.out]; exact below_alloc2 _ _ _
  have hXn : X.heap[w.heap.size]? = some (.cells #[.int .i64 K] 3 (0, 0)) := by rw [HX.out]; exact heap_alloc2_old w _ _
  have hXb : X.heap[w.heap.size + 1]? = some (.cells #[.int .i64 0, .int .i64 0] 28 (0, 0)) := by rw [HX.out]; exact heap_alloc2_new w _ _
  have hXs : X.heap.size = w.heap.size + 2 := by rw [HX.out]; simp
  have HT : Hid (Calls Tryz.prog 46 #[] X fun e w' => e = .returned (.func (.func 69) #[] #[.pointer (some ⟨X.heap.size + 1, 0, none⟩)]) ∧ Hid (w'.cell? ⟨X.heap.size + 1, 0, none⟩ = some (.map (some X.heap.size)) ∧ PCnt w' X.heap.size (endSeq ls) 0 ∧ Below X.heap.size X w')) := ptaker_any _ X
  have HF : Hid (∀ w1, Hid (w1.cell? ⟨X.heap.size + 1, 0, none⟩ = some (.map (some X.heap.size)) ∧ PCnt w1 X.heap.size (endSeq ls) 0 ∧ Below X.heap.size X w1) → ∀ Y, Y = w1.alloc (.cells #[.func (.func 69) #[] #[.pointer (some ⟨X.heap.size + 1, 0, none⟩)]] 101) →
      Calls Tryz.prog 47 #[.slice ao n cap, .func (.func 48) #[] #[.pointer (some ⟨w.heap.size, 0, none⟩), .pointer (some ⟨w1.heap.size, 0, none⟩)]] Y fun e w' => e = .returned (.agg (ftA (Pl.firstTo (Pl.lErr K ls) n))) ∧ Below X.heap.size X w') := by
    intro w1 h Y hY
    obtain ⟨h1, h2, h3⟩ := h.out
    have hYB : Below w1.heap.size w1 Y := by rw [hY]; exact below_alloc1 _ _
    have l1 := block_lt_of_cell h1
    have h2' := h2.lt
    have hYX : Below X.heap.size X Y := h3.trans (hYB.mono h3.size)
    have hYQ : Y.heap[w1.heap.size]? = some (.cells #[.func (.func 69) #[] #[.pointer (some ⟨X.heap.size + 1, 0, none⟩)]] 101 (0, 0)) := by rw [hY]; exact heap_alloc_last _ _
    refine (plFirst_any ao n cap ls K hK w.heap.size w1.heap.size (X.heap.size + 1) X.heap.size X Y hn (CRow.below hr hXB) hwf (cell_of_row _ _ 0 _ _ _ (keep hXn hYX)) (by omega) (cell_of_row _ _ 0 _ _ _ hYQ) ((hYB.cell (by exact l1)).trans h1) (by omega) (by omega) (h2.same (hYB.block _ h2')) (Nat.le_refl _) hYX).mono ?_
    rintro e w' ⟨rfl, z⟩
    exact ⟨rfl, z⟩
  have HEND : Hid (∀ W, Below X.heap.size X W → W.heap[w.heap.size + 1]? = some (.cells #[.int .i64 0, .int .i64 0] 28 (0, 0)) ∧ Below w.heap.size w W) := fun W hW => ⟨keep hXb hW, hXB.trans (hW.mono hXB.size)⟩
  clear hr hwf hXb hXn hXB hXs
  generalize Pl.firstTo (Pl.lErr K ls) n = R at *
  obtain ⟨r1, r2⟩ := R
  simp only [ftA] at *
  go_enter Tryz.func24, Tryz.ntmps24
  go_wp2_with fail
  rw [← HX.out]
  refine HT.out.mono ?_
  rintro e w1 ⟨rfl, h1⟩
  have hf := HF.out w1 h1 _ rfl
  clear HT HF h1
  go_wp2_with fail
  refine hf.mono ?_
  rintro e w2 ⟨rfl, h2⟩
  obtain ⟨k1, k2⟩ := HEND.out w2 h2
  obtain ⟨f0, f1⟩ := two_cells2 k1
  obtain ⟨g0, g1, _, _⟩ := vc_free k1
  have HK1 : Hid (w2.heap[w.heap.size + 1]? = some (.cells #[.int .i64 0, .int .i64 0] 28 (0, 0))) := k1
  have HK2 : Hid (Below w.heap.size w w2) := k2
  clear hf k1 k2 h2 HEND
  go_wp2_with fail
  exact bodyPost_ret (v := .agg #[.int .i64 r1, .int .i64 r2]) (results_row (p := 4) (ty := 28) Tryz.results24 _ _ (w.heap.size + 1) 28 #[.int .i64 r1, .int .i64 r2] (0, 0) _ rfl (set2_same HK1.out) Tryz.underlying28 rfl (by rw [sizeFt]; rfl)) rfl ⟨rfl, (HK2.out.setCell (Nat.le_add_right _ _) _).setCell (Nat.le_add_right _ _) _⟩
end Go.Proofs.YtcbpafpaimpfnaaGreatDoor

namespace Go.Proofs.YtcbpafpaimpfnaaGreatDoor
open Go.RowKit Go.Maps
open Pl (Br Net Pc Lk En St)

theorem ft_neq (a b c d : Int) (W : World) : (binOp .neq 28 (.agg #[.int .i64 a, .int .i64 b]) (.agg #[.int .i64 c, .int .i64 d])).run Tryz.prog W = .ok (.bool (!decide (a = c ∧ b = d))) W := by
  by_cases h : a = c ∧ b = d
  · rw [decide_eq_true h]
    obtain ⟨rfl, rfl⟩ := h
    go_simp
  · rw [decide_eq_false h]
    go_simp
    exact fun p q => h ⟨p, q⟩
theorem ft4_cells {w : World} {g : Nat} {a0 a1 a2 a3 : Value} {ty : TypeId} (h : w.heap[g]? = some (.cells #[a0, a1, a2, a3] ty (0, 0))) : w.cell? ⟨g, 0, none⟩ = some a0 ∧ w.cell? ⟨g, 1, none⟩ = some a1 ∧ w.cell? ⟨g, 2, none⟩ = some a2 ∧ w.cell? ⟨g, 3, none⟩ = some a3 := vc_cells h
set_option maxRecDepth 100000 in
set_option maxHeartbeats 2000000 in
theorem corf2 (x1 x2 y1 y2 : Int) (g : Nat) (ty : TypeId) (w : World) (h : w.heap[g]? = some (.cells #[.int .i64 x1, .int .i64 x2, .int .i64 y1, .int .i64 y2] ty (0, 0))) (R1 R2 : Int) (hR : (R1, R2) = if x1 = 0 ∧ x2 = 0 then (y1, y2) else (x1, x2)) :
    Calls Tryz.prog 22 #[.slice (some ⟨g, 0, none⟩) 2 2] w fun e w' => e = .returned (.agg #[.int .i64 R1, .int .i64 R2]) ∧ Below w.heap.size w w' := by
  have hgl := (Array.getElem?_eq_some_iff.1 h).1
  obtain ⟨W0, HW0⟩ : ∃ W0, Hid (W0 = (w.alloc (.cells #[.int .i64 0, .int .i64 0] 28)).alloc (.cells #[.int .i64 0, .int .i64 0] 28)) := ⟨_, rfl⟩
  have hB0 : Below w.heap.size w W0 := by rw [HW0.out]; exact below_alloc2 _ _ _
  have h20 : W0.heap[w.heap.size]? = some (.cells #[.int .i64 0, .int .i64 0] 28 (0, 0)) := by rw [HW0.out]; exact heap_alloc2_old w _ _
  have h30 : W0.heap[w.heap.size + 1]? = some (.cells #[.int .i64 0, .int .i64 0] 28 (0, 0)) := by rw [HW0.out]; exact heap_alloc2_new w _ _
  have HC : Hid (∀ W, Below W0.heap.size W0 W → W.heap[g]? = some (.cells #[.int .i64 x1, .int .i64 x2, .int .i64 y1, .int .i64 y2] ty (0, 0)) ∧ W.heap[w.heap.size]? = some (.cells #[.int .i64 0, .int .i64 0] 28 (0, 0)) ∧ W.heap[w.heap.size + 1]? = some (.cells #[.int .i64 0, .int .i64 0] 28 (0, 0)) ∧ Below w.heap.size w W) := fun W hW =>
    ⟨keep (keep h hB0) hW, keep h20 hW, keep h30 hW, hB0.trans (hW.mono hB0.size)⟩
  have HNE : Hid (∀ a b W, (binOp .neq 28 (.agg #[.int .i64 a, .int .i64 b]) (.agg #[.int .i64 0, .int .i64 0])).run Tryz.prog W = .ok (.bool (!decide (a = 0 ∧ b = 0))) W) := fun a b W => ft_neq a b 0 0 W
  have HR : Hid ((R1, R2) = if x1 = 0 ∧ x2 = 0 then (y1, y2) else (x1, x2)) := hR
  clear h hB0 h20 h30 hR
  go_enter Tryz.func22, Tryz.ntmps22
  go_wp2_with fail
  rw [← HW0.out]
  go_loopw [8] (fun i wr => ∃ k : Nat, k ≤ 2 ∧ i = .int .i64 k ∧ Hid ((0 < k → x1 = 0 ∧ x2 = 0) ∧ (1 < k → y1 = 0 ∧ y2 = 0)) ∧ Hid (Below W0.heap.size W0 wr)) (fun i _ => 2 - (intOf i).toNat)
  case atStart => exact ⟨0, by omega, rfl, ⟨fun h => absurd h (by omega), fun h => absurd h (by omega)⟩, Below.refl _ _⟩
  case round =>
    obtain ⟨k, hk, rfl, hS, hX⟩ := hrel
    obtain ⟨j1, j2, j3, j4⟩ := HC.out wr hX.out
    by_cases hlt : k < 2
    · have pick : ∃ a b : Int, wr.cell? ⟨g, k * 2, none⟩ = some (.int .i64 a) ∧ wr.cell? ⟨g, k * 2 + 1, none⟩ = some (.int .i64 b) ∧ Hid ((a = 0 ∧ b = 0) → (0 < k + 1 → x1 = 0 ∧ x2 = 0) ∧ (1 < k + 1 → y1 = 0 ∧ y2 = 0)) ∧ Hid (¬ (a = 0 ∧ b = 0) → (R1, R2) = (a, b)) := by
        obtain ⟨c0, c1, c2, c3⟩ := ft4_cells j1
        rcases (by omega : k = 0 ∨ k = 1) with e | e <;> subst e
        · exact ⟨x1, x2, c0, c1, fun q => ⟨fun _ => q, fun h => absurd h (by omega)⟩, fun q => by rw [HR.out, if_neg q]⟩
        · exact ⟨y1, y2, c2, c3, fun q => ⟨fun _ => hS.out.1 (by omega), fun _ => q⟩, fun q => by rw [HR.out, if_pos (hS.out.1 (by omega))]⟩
      obtain ⟨a, b, c0, c1, HZ, HNZ⟩ := pick
      obtain ⟨X, HX⟩ : ∃ X, Hid (X = wr.alloc (.cells #[.int .i64 a, .int .i64 b] 28)) := ⟨_, rfl⟩
      have HXB : Hid (Below W0.heap.size W0 X) := by rw [HX.out]; exact hX.out.alloc hX.out.size _
      obtain ⟨i1, i2, i3, i4⟩ := HC.out X HXB.out
      obtain ⟨z0, z1⟩ := two_cells2 i3
      obtain ⟨r0, r1⟩ := two_cells2 i2
      obtain ⟨f0, f1, _, _⟩ := vc_free i2
      have HI2 : Hid (X.heap[w.heap.size]? = some (.cells #[.int .i64 0, .int .i64 0] 28 (0, 0))) := i2
      have HI4 : Hid (Below w.heap.size w X) := i4
      have b5 : X.heap[wr.heap.size]? = some (.cells #[.int .i64 a, .int .i64 b] 28 (0, 0)) := by rw [HX.out]; exact heap_alloc_last _ _
      obtain ⟨u0, u1⟩ := two_cells2 b5
      have hq := HNE.out a b X
      clear j1 j2 j3 j4 i1 i2 i3 i4 b5 hS hX HC HR
      by_cases h0 : a = 0 ∧ b = 0
      · have HZ1 : Hid _ := HZ.out h0
        obtain ⟨rfl, rfl⟩ := h0
        clear HZ HNZ hq
        rw [HX.out] at z0 z1 u0 u1
        go_wp2_with fail
        rw [← HX.out]
        exact ⟨⟨k + 1, by omega, by go_num, HZ1, HXB⟩, by simp [intOf]; omega⟩
      · have HZ1 : Hid ((R1, R2) = (a, b)) := HNZ.out h0
        clear HZ HNZ hq
        rw [HX.out] at z0 z1 u0 u1 r0 r1 f0 f1
        by_cases ha : a = 0
        · subst ha
          have hb : ¬ b = 0 := fun q => h0 ⟨rfl, q⟩
          clear h0
          go_wp2_with fail
          rw [← HX.out]
          exact bodyPost_ret (v := .agg #[.int .i64 0, .int .i64 b]) (results_row (p := 2) (ty := 28) Tryz.results22 _ _ w.heap.size 28 #[.int .i64 0, .int .i64 b] (0, 0) _ rfl (set2_same HI2.out) Tryz.underlying28 rfl (by rw [sizeFt]; rfl)) rfl ⟨by have := HZ1.out; injection this with t1 t2; rw [t1, t2], (HI4.out.setCell (Nat.le_refl _) _).setCell (Nat.le_refl _) _⟩
        · clear h0
          go_wp2_with fail
          rw [← HX.out]
          exact bodyPost_ret (v := .agg #[.int .i64 a, .int .i64 b]) (results_row (p := 2) (ty := 28) Tryz.results22 _ _ w.heap.size 28 #[.int .i64 a, .int .i64 b] (0, 0) _ rfl (set2_same HI2.out) Tryz.underlying28 rfl (by rw [sizeFt]; rfl)) rfl ⟨by have := HZ1.out; injection this with t1 t2; rw [t1, t2], (HI4.out.setCell (Nat.le_refl _) _).setCell (Nat.le_refl _) _⟩
    · obtain rfl : k = 2 := by omega
      have HZ1 : Hid ((R1, R2) = ((0 : Int), (0 : Int))) := by
        rw [HR.out, if_pos (hS.out.1 (by omega))]
        obtain ⟨e1, e2⟩ := hS.out.2 (by omega)
        rw [e1, e2]; rfl
      obtain ⟨r0, r1⟩ := two_cells2 j2
      obtain ⟨z0, z1⟩ := two_cells2 j3
      obtain ⟨f0, f1, _, _⟩ := vc_free j2
      have HI2 : Hid (wr.heap[w.heap.size]? = some (.cells #[.int .i64 0, .int .i64 0] 28 (0, 0))) := j2
      have HI4 : Hid (Below w.heap.size w wr) := j4
      clear j1 j2 j3 j4 hS hX HC HR
      go_wp2_with fail
      exact bodyPost_ret (v := .agg #[.int .i64 0, .int .i64 0]) (results_row (p := 2) (ty := 28) Tryz.results22 _ _ w.heap.size 28 #[.int .i64 0, .int .i64 0] (0, 0) _ rfl (set2_same HI2.out) Tryz.underlying28 rfl (by rw [sizeFt]; rfl)) rfl ⟨by have := HZ1.out; injection this with t1 t2; rw [t1, t2], (HI4.out.setCell (Nat.le_refl _) _).setCell (Nat.le_refl _) _⟩
namespace Pl
/-- Its numbers are numbers of their types. -/
structure Net.Wf (n : Net) : Prop where
  addr : ∀ i, i < n.K → (Lit.int .u64 (n.bs i).addr).wf = true
  link : ∀ i, i < n.L → (Lit.int .i64 (n.ls i).a).wf = true ∧ (Lit.int .i64 (n.ls i).pa).wf = true ∧ (Lit.int .i64 (n.ls i).b).wf = true ∧ (Lit.int .i64 (n.ls i).pb).wf = true
end Pl
set_option maxRecDepth 100000 in
set_option maxHeartbeats 4000000 in
theorem pwrong_any (n : Net) (w : World) (hat : n.at' w) (hwf : n.Wf) :
    Calls Tryz.prog 10 #[n.val] w fun e w' => e = .returned (.agg (ftA n.wrong)) ∧ Below w.heap.size w w' := by
  obtain ⟨bao, K, bcap, bs, lao, L, lcap, ls⟩ := n
  obtain ⟨hbr, heach, hlk, hmB, hmL⟩ := hat
  obtain ⟨hwa, hwl⟩ := hwf
  simp only at hbr heach hlk hmB hmL hwa hwl
  simp only [Pl.Net.val]
  have HE : Hid (Pl.Net.wrong ⟨bao, K, bcap, bs, lao, L, lcap, ls⟩ = if 12 < K ∨ 40 < L then (5, 0) else if (Pl.firstTo (Pl.bErr bs) K).1 ≠ 0 then Pl.firstTo (Pl.bErr bs) K else Pl.firstTo (Pl.lErr K ls) L) := rfl
  rw [HE.out]
  clear HE
  obtain ⟨X, HX⟩ : ∃ X, Hid (X = (w.alloc (.cells #[.slice bao K bcap, .slice lao L lcap] 25)).alloc (.cells #[.int .i64 0, .int .i64 0] 28)) := ⟨_, rfl⟩
  have hXB : Below w.heap.size w X := by rw [HX.out]; exact below_alloc2 _ _ _
  have hXn : X.heap[w.heap.size]? = some (.cells #[.slice bao K bcap, .slice lao L lcap] 25 (0, 0)) := by rw [HX.out]; exact heap_alloc2_old w _ _
  have hXf : X.heap[w.heap.size + 1]? = some (.cells #[.int .i64 0, .int .i64 0] 28 (0, 0)) := by rw [HX.out]; exact heap_alloc2_new w _ _
  have HC : Hid (∀ W, Below X.heap.size X W → (W.cell? ⟨w.heap.size, 0, none⟩ = some (.slice bao K bcap) ∧ W.cell? ⟨w.heap.size, 1, none⟩ = some (.slice lao L lcap)) ∧ (W.cell? ⟨w.heap.size + 1, 0, none⟩ = some (.int .i64 0) ∧ W.cell? ⟨w.heap.size + 1, 1, none⟩ = some (.int .i64 0)) ∧ W.frozen? ⟨w.heap.size + 1, 0, none⟩ = false ∧ W.frozen? ⟨w.heap.size + 1, 1, none⟩ = false) := fun W hW =>
    ⟨two_cells2 (keep hXn hW), two_cells2 (keep hXf hW), (vc_free (keep hXf hW)).1, (vc_free (keep hXf hW)).2.1⟩
  have HF : Hid (∀ W, Below X.heap.size X W → W.heap[w.heap.size + 1]? = some (.cells #[.int .i64 0, .int .i64 0] 28 (0, 0)) ∧ Below w.heap.size w W) := fun W hW => ⟨keep hXf hW, hXB.trans (hW.mono hXB.size)⟩
  obtain ⟨⟨c0, c1⟩, ⟨d0, d1⟩, e0, e1⟩ := HC.out X (Below.refl _ _)
  by_cases h12 : 12 < K
  · rw [if_pos (Or.inl h12)]
    have h12z : (12 : Int) < (K : Int) := by omega
    clear hbr heach hlk hwa hwl hXn hXf HC HF hXB
    rw [HX.out] at c0 c1 d0 d1 e0 e1
    go_enter Tryz.func10, Tryz.ntmps10
    go_wp2_with fail
    exact bodyPost_ret (v := .agg #[.int .i64 5, .int .i64 0]) (results_row (p := 2) (ty := 28) Tryz.results10 _ _ (w.heap.size + 1) 28 #[.int .i64 5, .int .i64 0] (0, 0) _ rfl (heap_alloc2_new w _ _) Tryz.underlying28 rfl (by rw [sizeFt]; rfl)) rfl ⟨rfl, below_alloc2 _ _ _⟩
  · have h12z : ¬ (12 : Int) < (K : Int) := by omega
    by_cases h40 : 40 < L
    · rw [if_pos (Or.inr h40)]
      have h40z : (40 : Int) < (L : Int) := by omega
      clear hbr heach hlk hwa hwl hXn hXf HC HF hXB
      rw [HX.out] at c0 c1 d0 d1 e0 e1
      go_enter Tryz.func10, Tryz.ntmps10
      go_wp2_with fail
      exact bodyPost_ret (v := .agg #[.int .i64 5, .int .i64 0]) (results_row (p := 2) (ty := 28) Tryz.results10 _ _ (w.heap.size + 1) 28 #[.int .i64 5, .int .i64 0] (0, 0) _ rfl (heap_alloc2_new w _ _) Tryz.underlying28 rfl (by rw [sizeFt]; rfl)) rfl ⟨rfl, below_alloc2 _ _ _⟩
    · rw [if_neg (fun q => by rcases q with q | q; exact h12 q; exact h40 q)]
      have h40z : ¬ (40 : Int) < (L : Int) := by omega
      have HWB : Hid (∀ W, Below X.heap.size X W → Calls Tryz.prog 23 #[.slice bao K bcap] W fun e w' => e = .returned (.agg (ftA (Pl.firstTo (Pl.bErr bs) K))) ∧ Hid (Below X.heap.size X w')) := fun W hW => by
        have hW2 : Below w.heap.size w W := hXB.trans (hW.mono hXB.size)
        refine (pwrongBridges_any bao K bcap bs W (by omega) (CRow.below hbr hW2) (fun i hi => (heach i hi).below hW2) hwa).mono ?_
        rintro e w' ⟨rfl, z⟩
        exact ⟨rfl, hW.trans (z.mono hW.size)⟩
      have HWL : Hid (∀ W, Below X.heap.size X W → Calls Tryz.prog 24 #[.slice lao L lcap, .int .i64 K] W fun e w' => e = .returned (.agg (ftA (Pl.firstTo (Pl.lErr K ls) L))) ∧ Hid (Below X.heap.size X w')) := fun W hW => by
        have hW2 : Below w.heap.size w W := hXB.trans (hW.mono hXB.size)
        refine (pwrongLinks_any lao L lcap ls K (by omega) W (by omega) (CRow.below hlk hW2) hwl).mono ?_
        rintro e w' ⟨rfl, z⟩
        exact ⟨rfl, hW.trans (z.mono hW.size)⟩
      have HEQ : Hid ((if (Pl.firstTo (Pl.bErr bs) K).1 ≠ 0 then Pl.firstTo (Pl.bErr bs) K else Pl.firstTo (Pl.lErr K ls) L) = if (Pl.firstTo (Pl.bErr bs) K).1 = 0 ∧ (Pl.firstTo (Pl.bErr bs) K).2 = 0 then ((Pl.firstTo (Pl.lErr K ls) L).1, (Pl.firstTo (Pl.lErr K ls) L).2) else ((Pl.firstTo (Pl.bErr bs) K).1, (Pl.firstTo (Pl.bErr bs) K).2)) := by
        show (if _ then _ else _) = _
        by_cases q : (Pl.firstTo (Pl.bErr bs) K).1 = 0
        · rw [if_neg (fun p => p q), if_pos ⟨q, by rw [(Pl.firstTo_zero _ _ q).1]⟩]
        · rw [if_pos q, if_neg (fun p => q p.1)]
      clear hbr heach hlk hwa hwl hXn hXf hXB
      generalize Pl.firstTo (Pl.bErr bs) K = x at *
      generalize Pl.firstTo (Pl.lErr K ls) L = y at *
      obtain ⟨x1, x2⟩ := x
      obtain ⟨y1, y2⟩ := y
      generalize (if (x1, x2).1 ≠ 0 then (x1, x2) else (y1, y2)) = R at *
      obtain ⟨R1, R2⟩ := R
      simp only [ftA] at *
      have HOR : Hid (∀ (g : Nat) (ty : TypeId) (W : World), Below X.heap.size X W → W.heap[g]? = some (.cells #[.int .i64 x1, .int .i64 x2, .int .i64 y1, .int .i64 y2] ty (0, 0)) → Calls Tryz.prog 22 #[.slice (some ⟨g, 0, none⟩) 2 2] W fun e w' => e = .returned (.agg #[.int .i64 R1, .int .i64 R2]) ∧ Hid (Below X.heap.size X w')) := fun g ty W hW h => by
        refine (corf2 x1 x2 y1 y2 g ty W h R1 R2 HEQ.out).mono ?_
        rintro e w' ⟨rfl, z⟩
        exact ⟨rfl, hW.trans (z.mono hW.size)⟩
      have HXX : Hid (Below X.heap.size X X.drew) := Below.drew (Below.refl _ _)
      clear HEQ
      rw [HX.out] at c0 c1
      go_enter Tryz.func10, Tryz.ntmps10
      go_wp2_with fail
      rw [← HX.out] at c0 c1 ⊢
      go_region_with (first | (go_at_call 23; (with_reducible refine (HWB.out _ (by first | exact (Below.refl _ _).drew | exact below_drewN (Below.refl _ _) _ | exact Below.refl _ _)).mono ?_); rintro e w1 ⟨rfl, Hw1⟩; obtain ⟨⟨k0, k1⟩, ⟨m0, m1⟩, n0, n1⟩ := HC.out w1 Hw1.out) | (go_at_call 24; (with_reducible refine (HWL.out _ (by first | exact Hw1.out | exact Hw1.out.drew | exact below_drewN Hw1.out _)).mono ?_); rintro e w2 ⟨rfl, Hw2⟩; obtain ⟨⟨k0, k1⟩, ⟨m0, m1⟩, n0, n1⟩ := HC.out w2 Hw2.out) | (go_at_call 22; refine (HOR.out _ _ _ (Hw2.out.alloc Hw2.out.size _) (heap_alloc_last _ _)).mono ?_; rintro e w3 ⟨rfl, Hw3⟩; obtain ⟨⟨k0, k1⟩, ⟨m0, m1⟩, n0, n1⟩ := HC.out w3 Hw3.out))
      all_goals go_wp2_with fail
      all_goals exact bodyPost_ret (v := .agg #[.int .i64 R1, .int .i64 R2]) (results_row (p := 2) (ty := 28) Tryz.results10 _ _ (w.heap.size + 1) 28 #[.int .i64 R1, .int .i64 R2] (0, 0) _ rfl (set2_same (HF.out _ Hw3.out).1) Tryz.underlying28 rfl (by rw [sizeFt]; rfl)) rfl ⟨rfl, ((HF.out _ Hw3.out).2.setCell (Nat.le_add_right _ _) _).setCell (Nat.le_add_right _ _) _⟩
end Go.Proofs.YtcbpafpaimpfnaaGreatDoor

namespace Go.Proofs.YtcbpafpaimpfnaaGreatDoor
open Go.RowKit
open Pl (Br Net Pc Lk En St)

theorem lk_free0 {w : World} {g : Nat} {A : Array Value} {ty : TypeId} (h : w.heap[g]? = some (.cells A ty (0, 0))) (j : Nat) : w.frozen? ⟨g, j, none⟩ = false := frozen_of_row _ _ _ _ _ h
/-- A bridge's priorities and its address are right. -/
structure Pl.Br.Fine (b : Br) : Prop where
  addr : 0 ≤ b.addr ∧ b.addr ≤ 281474976710655
  few : b.pn ≤ 16
  prio : ∀ i, i < b.pn → 0 ≤ b.pv i ∧ b.pv i ≤ 61440
  reg : b.reg.ok
set_option maxRecDepth 100000 in
set_option maxHeartbeats 1000000 in
theorem pident_any (b : Br) (tree : Int) (w : World) (hb : b.at' w) (hf : b.Fine) :
    Calls Tryz.prog 15 #[.agg (brA b), .int .i64 tree] w fun e w' => e = .returned (.int .u64 (b.id tree)) ∧ Below w.heap.size w w' := by
  obtain ⟨hp, _, _, _⟩ := hb
  obtain ⟨ha, hfew, hpr, _⟩ := hf
  have HW : Hid (∀ W, Calls Tryz.prog 28 #[.int .i64 tree, .int .i64 0, .int .i64 ((b.pn : Int) - 1)] W fun e w' => e = .returned (.bool (decide (0 ≤ tree ∧ tree ≤ (b.pn : Int) - 1))) ∧ w' = W) := fun W => gwithin_any _ _ _ W
  have wk : IntKind.i64.wrap ((b.pn : Int) - 1) = (b.pn : Int) - 1 := by rw [IntKind.wrap_i64]; omega
  have hX := heap_alloc_last w (.cells (brA b) 40)
  have hpx : IRow (w.alloc (.cells (brA b) 40)) b.pao b.pn b.pcap b.pv := CRow.below hp (below_alloc1 _ _)
  unfold Pl.Br.id Pl.Br.prio
  obtain ⟨addr, pao, pn, pcap, pv, ⟨s, rev, ao, n, cap, vs, ts⟩⟩ := b
  simp only [brA] at *
  obtain ⟨q0, q1, q2, q3, q4⟩ := br_cells hX
  have shl : ∀ p : Int, 0 ≤ p → p ≤ 61440 → IntKind.u64.wrap (p * 281474976710656 + addr) = p * 281474976710656 + addr := fun p h1 h2 => wraps_u64 _ (by omega) (by omega)
  by_cases h : 0 ≤ tree ∧ tree ≤ (pn : Int) - 1
  · rw [if_pos h]
    rw [decide_eq_true h] at HW
    obtain ⟨t, rfl⟩ : ∃ t : Nat, tree = t := ⟨tree.toNat, by omega⟩
    have ht : t < pn := by omega
    rw [Int.toNat_natCast]
    obtain ⟨pb, poff, rfl, _⟩ := CRow.some hpx (by omega)
    have hcap := hpx.1
    have c0 := IRow.cells hpx ht
    obtain ⟨p0, p1⟩ := hpr t ht
    have HS := shl (pv t) p0 p1
    have w1 : IntKind.u64.wrap (pv t) = pv t := wraps_u64 _ (by omega) (by omega)
    have w2 : IntKind.u64.wrap (pv t * 281474976710656) = pv t * 281474976710656 := wraps_u64 _ (by omega) (by omega)
    have i0 : (0 : Int) ≤ (t : Int) := by omega
    have i1 : (t : Int) < (pn : Int) := by omega
    generalize pv t = p at *
    clear hpx hp hpr shl hX
    go_enter Tryz.func15, Tryz.ntmps15
    go_wp2_with (go_at_call 28; refine (HW.out _).mono ?_; rintro e w1 ⟨rfl, rfl⟩)
    go_ret
    exact ⟨rfl, below_alloc1 _ _⟩
  · rw [if_neg h]
    rw [decide_eq_false h] at HW
    have HS := shl 32768 (by omega) (by omega)
    clear hpx hp hpr shl hX
    go_enter Tryz.func15, Tryz.ntmps15
    go_wp2_with (go_at_call 28; refine (HW.out _).mono ?_; rintro e w1 ⟨rfl, rfl⟩)
    go_ret
    exact ⟨rfl, below_alloc1 _ _⟩
theorem infoBytes : (Tryz.prog.info? 93).map (fun i => (i.zero, i.size, i.bytes)) = some (some (.slice none 0 0), 1, 24) := by kernel_rfl
/-- The identities of bridges, as they lie: a slice of slices of bytes, in block g. -/
def IdsAt (w : World) (g K : Nat) (bs : Nat → Br) (v : Nat → Value) (k : Nat) : Prop :=
  w.heap[g]? = some (.cells (rowC K 1 (fun i _ => v i)) 93 (0, 0)) ∧ ∀ i, i < k → ∃ b off rc, v i = .slice (some ⟨b, off, none⟩) 50 rc ∧ ByteRow w (some ⟨b, off, none⟩) 50 rc (bs i).reg.id ∧ b ≠ g
theorem IdsAt.below {w w' : World} {g K : Nat} {bs : Nat → Br} {v : Nat → Value} {k : Nat} (h : IdsAt w g K bs v k) (hb : Below w.heap.size w w') : IdsAt w' g K bs v k :=
  ⟨keep h.1 hb, fun i hi => by
    obtain ⟨b, off, rc, e, h1, h2⟩ := h.2 i hi
    exact ⟨b, off, rc, e, h1.below hb, h2⟩⟩
theorem byteRow_other {w w' : World} {ao : Option Addr} {n cap : Nat} {f : Nat → Int} (h : ByteRow w ao n cap f) (e : ∀ b off, ao = some ⟨b, off, none⟩ → b < w.heap.size → w'.heap[b]? = w.heap[b]?) (hs : w.heap.size ≤ w'.heap.size) : ByteRow w' ao n cap f := by
  refine ⟨h.1, fun hp => ?_⟩
  obtain ⟨b, off, e1, hlt, hc⟩ := h.2 hp
  exact ⟨b, off, e1, Nat.lt_of_lt_of_le hlt hs, fun i hi => (World.cell?_of_block (w := w) (e b off e1 hlt)).trans (hc i hi)⟩
set_option maxRecDepth 100000 in
set_option maxHeartbeats 2000000 in
theorem pidents_any (ao : Option Addr) (K cap : Nat) (bs : Nat → Br) (w : World) (hK : K ≤ 12) (hr : BRow w ao K cap bs) (hb : ∀ i, i < K → (bs i).at' w) (hf : ∀ i, i < K → (bs i).Fine) (ht : Tabs w) (hbt : 2 ≤ w.heap.size) :
    Calls Tryz.prog 51 #[.slice ao K cap] w fun e w' => ∃ v, e = .returned (.slice (some ⟨w.heap.size, 0, none⟩) K K) ∧ IdsAt w' w.heap.size K bs v K ∧ Below w.heap.size w w' := by
  have HRW : Hid (∀ W, Below w.heap.size w W → BRow W ao K cap bs ∧ (∀ i, i < K → (bs i).at' W) ∧ Tabs W) := fun W hW => ⟨CRow.below hr hW, fun i hi => (hb i hi).below hW, ht.below hW hbt⟩
  have HFI : Hid (∀ i, i < K → (bs i).Fine) := hf
  have hcap := hr.1
  have hmk : ∀ W : World, (Instr.makeSlice 92 (.int .i64 (K : Int)) (.int .i64 (K : Int))).run Tryz.prog W = .ok (.slice (some ⟨W.heap.size, 0, none⟩) K K) (W.alloc (.cells (rowC K 1 (fun _ _ => .slice none 0 0)) 93)) := fun W => make_rowD W 92 93 (.slice none 0 0) 1 24 K Tryz.underlying92 infoBytes (by omega) rfl (by omega) (by omega) _ (fun _ j hj => by rw [show j = 0 by omega]; rfl)
  clear hr hb hf ht
  obtain ⟨G, HG⟩ : ∃ G, Hid (G = w.heap.size) := ⟨_, rfl⟩
  have H0 : Hid (∃ v, IdsAt (w.alloc (.cells (rowC K 1 (fun _ _ => .slice none 0 0)) 93)) G K bs v 0 ∧ Below w.heap.size w (w.alloc (.cells (rowC K 1 (fun _ _ => .slice none 0 0)) 93))) := ⟨fun _ => .slice none 0 0, ⟨by rw [HG.out]; exact heap_alloc_last _ _, fun i hi => absurd hi (by omega)⟩, below_alloc1 _ _⟩
  rw [← HG.out]
  go_enter Tryz.func51, Tryz.ntmps51
  go_wp2_with fail
  rw [← HG.out]
  go_loopw [11] (fun i wr => ∃ k : Nat, k ≤ K ∧ i = .int .i64 k ∧ Hid (∃ v, IdsAt wr G K bs v k ∧ Below w.heap.size w wr)) (fun i _ => K - (intOf i).toNat)
  case atStart => exact ⟨0, by omega, rfl, H0⟩
  case round =>
    obtain ⟨k, hk, rfl, hX⟩ := hrel
    clear H0
    obtain ⟨v, hI, hB⟩ := hX.out
    by_cases hlt : k < K
    · obtain ⟨b, off, rfl, _⟩ := CRow.some (HRW.out wr hB).1 (by omega)
      obtain ⟨c0, c1, c2, c3, c4⟩ := BRow.cells (HRW.out wr hB).1 hlt
      obtain ⟨X, HX⟩ : ∃ X, Hid (X = wr.alloc (.cells (brA (bs k)) 40)) := ⟨_, rfl⟩
      have hXB : Below wr.heap.size wr X := by rw [HX.out]; exact below_alloc1 _ _
      have hX5 : X.heap[wr.heap.size]? = some (.cells (brA (bs k)) 40 (0, 0)) := by rw [HX.out]; exact heap_alloc_last _ _
      have hIX := hI.below hXB
      have hBX : Below w.heap.size w X := hB.trans (hXB.mono hB.size)
      obtain ⟨d0, d1, d2, d3, d4⟩ := br_cells hX5
      have HCL : Hid (Calls Tryz.prog 70 #[.agg #[.string (bs k).reg.s, .int .i64 (bs k).reg.rev, .slice (bs k).reg.ao (bs k).reg.n (bs k).reg.cap]] X fun e w' => ∃ ro rc, e = .returned (.slice ro 50 rc) ∧ w'.cell? ⟨G, k, none⟩ = some (v k) ∧ w'.frozen? ⟨G, k, none⟩ = false ∧ Hid (∃ v, IdsAt (w'.setCell ⟨G, k, none⟩ (.slice ro 50 rc)) G K bs v (k + 1) ∧ Below w.heap.size w (w'.setCell ⟨G, k, none⟩ (.slice ro 50 rc)))) := by
        obtain ⟨_, x2, x3⟩ := HRW.out X hBX
        refine (gident_reg_new (bs k).reg X (HFI.out k hlt).reg (x2 k hlt).2.1 x3).mono ?_
        rintro e w' ⟨ro, rc, rfl, y1, y2, y3⟩
        have z1 := hIX.below y2
        have hBw : Below w.heap.size w w' := hBX.trans (y2.mono hBX.size)
        have e1 : (⟨G, k, none⟩ : Addr) = ⟨G, k * 1 + 0, none⟩ := by simp
        have hGlt : G < X.heap.size := by have := (Array.getElem?_eq_some_iff.1 hIX.1).1; exact this
        obtain ⟨rb, roff, er, hrb, _⟩ := y1.2 (by omega)
        subst er
        have hne : rb ≠ G := by have := y3 _ rfl; simp only at this; omega
        refine ⟨_, rc, rfl, ?_, ?_, fun i => if i = k then .slice (some ⟨rb, roff, none⟩) 50 rc else v i, ⟨?_, fun i hi => ?_⟩, hBw.setCell (by rw [HG.out]; exact Nat.le_refl _) _⟩
        · rw [e1]; exact rowC_cell z1.1 hlt (by omega)
        · exact lk_free0 z1.1 _
        · rw [e1, rowC_set z1.1 hlt (by omega), rowC_congr2 (d := fun i _ => if i = k then .slice (some ⟨rb, roff, none⟩) 50 rc else v i) (fun i _ j hj => by
            unfold updC
            by_cases q : i = k
            · rw [if_pos ⟨q, by omega⟩, if_pos q]
            · rw [if_neg (fun p => q p.1), if_neg q])]
        · have oth : ∀ b, b ≠ G → (w'.setCell ⟨G, k, none⟩ (.slice (some ⟨rb, roff, none⟩) 50 rc)).heap[b]? = w'.heap[b]? := fun b hb => heap_setCell_other _ _ _ _ (by exact hb)
          by_cases q : i = k
          · subst q
            exact ⟨rb, roff, rc, if_pos rfl, byteRow_other y1 (fun b off e _ => by cases e; exact oth _ hne) (by simp), hne⟩
          · obtain ⟨b1, off1, rc1, q1, q2, q3⟩ := z1.2 i (by omega)
            exact ⟨b1, off1, rc1, by simp only; rw [if_neg q]; exact q1, byteRow_other q2 (fun b off e _ => by cases e; exact oth _ q3) (by simp), q3⟩
      clear hX hI hB hIX hBX hXB hX5 HRW HFI
      simp only [brA] at *
      generalize (bs k).reg.s = s at *
      have i0 : (0 : Int) ≤ (k : Int) := by omega
      have i1 : (k : Int) < (K : Int) := by omega
      go_wp2_with fail
      rw [← HX.out]
      refine HCL.out.mono ?_
      rintro e w1 ⟨ro, rc, rfl, k1, k2, HN⟩
      clear HCL
      go_wp2_with fail
      exact ⟨⟨k + 1, by omega, by go_num, HN⟩, by simp [intOf]; omega⟩
    · obtain rfl : k = K := by omega
      go_wp2_with fail
      go_ret
      exact ⟨v, rfl, hI, by rw [HG.out]; exact hB⟩
end Go.Proofs.YtcbpafpaimpfnaaGreatDoor
