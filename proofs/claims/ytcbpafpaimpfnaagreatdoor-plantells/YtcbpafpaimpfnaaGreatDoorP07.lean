/- Maps that count what was taken: of addresses, of ports; package plan's takers -/
import Derived.Test.YtcbpafpaimpfnaaGreatDoorP01
import Derived.Test.YtcbpafpaimpfnaaGreatDoorP02
import Derived.Test.YtcbpafpaimpfnaaGreatDoorP06
import Derived.Test.YtcbpafpaimpfnaaGreatDoorP03
import Derived.ProofKit
import Derived.OpenShut
import Derived.ChangeOld
import Derived.ChangeSlices
import Derived.Maps.OwnOps
import Derived.Maps.Range
import Derived.Maps.RangeWalk
import Derived.Maps.Views
import Derived.WideKeyEntry
import Derived.DeepKeys4
import Derived.MapViews
namespace Go.Proofs.YtcbpafpaimpfnaaGreatDoor
section
open Go.RowKit
open Vc (V Of)
open Pl (Lk En St)
abbrev IRow (w : World) (ao : Option Addr) (n cap : Nat) (f : Nat → Int) : Prop := CRow w ao n cap 1 (fun i _ => .int .i64 (f i))
theorem IRow.cells {w : World} {b off n cap : Nat} {f : Nat → Int} (h : IRow w (some ⟨b, off, none⟩) n cap f) {i : Nat} (hi : i < n) : w.cell? ⟨b, off + i, none⟩ = some (.int .i64 (f i)) := by
 obtain ⟨b', off', e, _, hc⟩ := h.2 (by omega)
 cases e
 have := hc i hi 0 (by omega)
 rw [Nat.mul_one, Nat.add_zero] at this
 exact this
namespace Pl
structure Br where
 addr : Int
 pao : Option Addr
 pn : Nat
 pcap : Nat
 pv : Nat → Int
 reg : Rg.Reg
structure Net where
 bao : Option Addr
 K : Nat
 bcap : Nat
 bs : Nat → Br
 lao : Option Addr
 L : Nat
 lcap : Nat
 ls : Nat → Lk
structure Pc where
 v : V
 rp : Int
 pao : Option Addr
 pn : Nat
 pcap : Nat
 ports : Nat → Int
 rao : Option Addr
 rn : Nat
 rcap : Nat
 roles : Nat → Int
end Pl
open Pl (Br Net Pc)
def brC (b : Br) (j : Nat) : Value := if j = 0 then .int .u64 b.addr else if j = 1 then .slice b.pao b.pn b.pcap else if j = 2 then .string b.reg.s else if j = 3 then .int .i64 b.reg.rev else .slice b.reg.ao b.reg.n b.reg.cap
def lkC (l : Lk) (j : Nat) : Value := if j = 0 then .int .i64 l.a else if j = 1 then .int .i64 l.pa else if j = 2 then .int .i64 l.b else if j = 3 then .int .i64 l.pb else if j = 4 then .int .i64 l.cost else .bool l.up
def enC (e : En) (j : Nat) : Value := if j = 0 then .int .i64 e.port else if j = 1 then .int .i64 e.cost else if j = 2 then .int .i64 e.other else if j = 3 then .int .i64 e.oport else .bool e.live
def pcC (p : Pc) (j : Nat) : Value := if j < 4 then vC p.v j else if j = 4 then .int .i64 p.rp else if j = 5 then .slice p.pao p.pn p.pcap else .slice p.rao p.rn p.rcap
theorem lkC_one (l : Lk) (j : Nat) : (lkC l j).oneCell' = true := by
 unfold lkC
 repeat' split
 all_goals rfl
abbrev BRow (w : World) (ao : Option Addr) (n cap : Nat) (bs : Nat → Br) : Prop := CRow w ao n cap 5 (fun i => brC (bs i))
abbrev LRow (w : World) (ao : Option Addr) (n cap : Nat) (ls : Nat → Lk) : Prop := CRow w ao n cap 6 (fun i => lkC (ls i))
abbrev ERow (w : World) (ao : Option Addr) (n cap : Nat) (es : Nat → En) : Prop := CRow w ao n cap 5 (fun i => enC (es i))
abbrev PRow (w : World) (ao : Option Addr) (n cap : Nat) (ps : Nat → Pc) : Prop := CRow w ao n cap 7 (fun i => pcC (ps i))
theorem BRow.cells {w : World} {b off n cap : Nat} {bs : Nat → Br} (h : BRow w (some ⟨b, off, none⟩) n cap bs) {i : Nat} (hi : i < n) :
  w.cell? ⟨b, off + i * 5, none⟩ = some (.int .u64 (bs i).addr) ∧ w.cell? ⟨b, off + i * 5 + 1, none⟩ = some (.slice (bs i).pao (bs i).pn (bs i).pcap) ∧ w.cell? ⟨b, off + i * 5 + 2, none⟩ = some (.string (bs i).reg.s) ∧ w.cell? ⟨b, off + i * 5 + 3, none⟩ = some (.int .i64 (bs i).reg.rev) ∧ w.cell? ⟨b, off + i * 5 + 4, none⟩ = some (.slice (bs i).reg.ao (bs i).reg.n (bs i).reg.cap) := by
 obtain ⟨b', off', e, _, hc⟩ := h.2 (by omega)
 cases e
 exact ⟨hc i hi 0 (by omega), hc i hi 1 (by omega), hc i hi 2 (by omega), hc i hi 3 (by omega), hc i hi 4 (by omega)⟩
theorem LRow.cells {w : World} {b off n cap : Nat} {ls : Nat → Lk} (h : LRow w (some ⟨b, off, none⟩) n cap ls) {i : Nat} (hi : i < n) :
  w.cell? ⟨b, off + i * 6, none⟩ = some (.int .i64 (ls i).a) ∧ w.cell? ⟨b, off + i * 6 + 1, none⟩ = some (.int .i64 (ls i).pa) ∧ w.cell? ⟨b, off + i * 6 + 2, none⟩ = some (.int .i64 (ls i).b) ∧ w.cell? ⟨b, off + i * 6 + 3, none⟩ = some (.int .i64 (ls i).pb) ∧ w.cell? ⟨b, off + i * 6 + 4, none⟩ = some (.int .i64 (ls i).cost) ∧ w.cell? ⟨b, off + i * 6 + 5, none⟩ = some (.bool (ls i).up) := by
 obtain ⟨b', off', e, _, hc⟩ := h.2 (by omega)
 cases e
 exact ⟨hc i hi 0 (by omega), hc i hi 1 (by omega), hc i hi 2 (by omega), hc i hi 3 (by omega), hc i hi 4 (by omega), hc i hi 5 (by omega)⟩
theorem ERow.cells {w : World} {b off n cap : Nat} {es : Nat → En} (h : ERow w (some ⟨b, off, none⟩) n cap es) {i : Nat} (hi : i < n) :
  w.cell? ⟨b, off + i * 5, none⟩ = some (.int .i64 (es i).port) ∧ w.cell? ⟨b, off + i * 5 + 1, none⟩ = some (.int .i64 (es i).cost) ∧ w.cell? ⟨b, off + i * 5 + 2, none⟩ = some (.int .i64 (es i).other) ∧ w.cell? ⟨b, off + i * 5 + 3, none⟩ = some (.int .i64 (es i).oport) ∧ w.cell? ⟨b, off + i * 5 + 4, none⟩ = some (.bool (es i).live) := by
 obtain ⟨b', off', e, _, hc⟩ := h.2 (by omega)
 cases e
 exact ⟨hc i hi 0 (by omega), hc i hi 1 (by omega), hc i hi 2 (by omega), hc i hi 3 (by omega), hc i hi 4 (by omega)⟩
theorem PRow.cells {w : World} {b off n cap : Nat} {ps : Nat → Pc} (h : PRow w (some ⟨b, off, none⟩) n cap ps) {i : Nat} (hi : i < n) :
  w.cell? ⟨b, off + i * 7, none⟩ = some (.int .u64 (ps i).v.root) ∧ w.cell? ⟨b, off + i * 7 + 1, none⟩ = some (.int .i64 (ps i).v.cost) ∧ w.cell? ⟨b, off + i * 7 + 2, none⟩ = some (.int .u64 (ps i).v.bridge) ∧ w.cell? ⟨b, off + i * 7 + 3, none⟩ = some (.int .i64 (ps i).v.port) ∧ w.cell? ⟨b, off + i * 7 + 4, none⟩ = some (.int .i64 (ps i).rp) ∧ w.cell? ⟨b, off + i * 7 + 5, none⟩ = some (.slice (ps i).pao (ps i).pn (ps i).pcap) ∧ w.cell? ⟨b, off + i * 7 + 6, none⟩ = some (.slice (ps i).rao (ps i).rn (ps i).rcap) := by
 obtain ⟨b', off', e, _, hc⟩ := h.2 (by omega)
 cases e
 exact ⟨hc i hi 0 (by omega), hc i hi 1 (by omega), hc i hi 2 (by omega), hc i hi 3 (by omega), hc i hi 4 (by omega), hc i hi 5 (by omega), hc i hi 6 (by omega)⟩
namespace Pl
def Br.at' (b : Br) (w : World) : Prop := IRow w b.pao b.pn b.pcap b.pv ∧ b.reg.at' w ∧ b.pn ≤ 9223372036854775807 ∧ b.reg.n ≤ 9223372036854775807
theorem Br.at'.below {b : Br} {w w' : World} (h : b.at' w) (hb : Below w.heap.size w w') : b.at' w' := ⟨CRow.below h.1 hb, h.2.1.below hb, h.2.2⟩
structure Net.at' (n : Net) (w : World) : Prop where
 brs : BRow w n.bao n.K n.bcap n.bs
 each : ∀ i, i < n.K → (n.bs i).at' w
 lks : LRow w n.lao n.L n.lcap n.ls
 manyB : n.K ≤ 9223372036854775807
 manyL : n.L ≤ 9223372036854775807
theorem Net.at'.below {n : Net} {w w' : World} (h : n.at' w) (hb : Below w.heap.size w w') : n.at' w' := ⟨CRow.below h.brs hb, fun i hi => (h.each i hi).below hb, CRow.below h.lks hb, h.manyB, h.manyL⟩
def Net.val (n : Net) : Value := .agg #[.slice n.bao n.K n.bcap, .slice n.lao n.L n.lcap]
def brErr (b : Br) : Int := if 281474976710655 < b.addr then 3 else if 16 < b.pn then 5 else if Vc.someTo (fun i => oddP (b.pv i)) b.pn = true then 3 else Rg.wrong b.reg.s b.reg.rev b.reg.vs b.reg.ts b.reg.n
def bErr (bs : Nat → Br) (i : Nat) : Int := if brErr (bs i) ≠ 0 then brErr (bs i) else if Vc.someTo (fun j => decide ((bs j).addr = (bs i).addr)) i = true then 7 else 0
def Net.wrong (n : Net) : Int × Int := if 12 < n.K ∨ 40 < n.L then (5, 0) else if (firstTo (bErr n.bs) n.K).1 ≠ 0 then firstTo (bErr n.bs) n.K else firstTo (lErr n.K n.ls) n.L
def Br.prio (b : Br) (tree : Int) : Int := if 0 ≤ tree ∧ tree ≤ (b.pn : Int) - 1 then b.pv tree.toNat else 32768
def Br.id (b : Br) (tree : Int) : Int := b.prio tree * 281474976710656 + b.addr
def Net.live (n : Net) (k : Nat) : Bool := (n.ls k).up && decide (strOf 50 (n.bs (n.ls k).a.toNat).reg.id = strOf 50 (n.bs (n.ls k).b.toNat).reg.id)
def Net.ids (n : Net) (tree : Int) (i : Nat) : Int := (n.bs i).id tree
def Net.ends (n : Net) (i : Nat) : List En := Pl.ends n.ls n.live n.L i
def Net.says (n : Net) (tree : Int) : Nat → St := fin (n.ids tree) n.ends n.K
end Pl
end
section
open Go.RowKit
open Pl (Br Net Pc Lk En St)
set_option maxHeartbeats 400000 in
theorem pisprio_any (p : Int) (w : World) :
  Calls Tryz.prog 66 #[.int .i64 p] w fun e w' => e = .returned (.bool (!Pl.oddP p)) ∧ w' = w := by
 have HW : Hid (∀ W, Calls Tryz.prog 28 #[.int .i64 p, .int .i64 0, .int .i64 61440] W fun e w' => e = .returned (.bool (decide (0 ≤ p ∧ p ≤ 61440))) ∧ w' = W) := fun W => gwithin_any p 0 61440 W
 unfold Pl.oddP
 by_cases h1 : 0 ≤ p ∧ p ≤ 61440
 ·rw [decide_eq_true h1] at HW ⊢
  have hr : p.tmod 4096 = p % 4096 := Int.tmod_eq_emod_of_nonneg h1.1
  have hw : IntKind.i64.wrap (p % 4096) = p % 4096 := wraps_i64 _ (by omega) (by omega)
  by_cases h2 : p % 4096 = 0
  ·have hd : (p.tmod 4096 == 0) = true := by rw [hr]; simp [h2]
   go_enter Tryz.func66, Tryz.ntmps66
   go_wp2_with (go_at_call 28; refine (HW.out _).mono ?_; rintro e w1 ⟨rfl, rfl⟩)
   go_ret
   exact ⟨by simp [h2], rfl⟩
  ·have hd : (p.tmod 4096 == 0) = false := by rw [hr]; simp [h2]
   go_enter Tryz.func66, Tryz.ntmps66
   go_wp2_with (go_at_call 28; refine (HW.out _).mono ?_; rintro e w1 ⟨rfl, rfl⟩)
   go_ret
   exact ⟨by simp [h2], rfl⟩
 ·rw [decide_eq_false h1] at HW ⊢
  go_enter Tryz.func66, Tryz.ntmps66
  go_wp2_with (go_at_call 28; refine (HW.out _).mono ?_; rintro e w1 ⟨rfl, rfl⟩)
  go_ret
  exact ⟨rfl, rfl⟩
theorem podd_any (p : Int) (w : World) :
  Calls Tryz.prog 65 #[.int .i64 p] w fun e w' => e = .returned (.bool (Pl.oddP p)) ∧ w' = w := by
 have HW : Hid (∀ W, Calls Tryz.prog 66 #[.int .i64 p] W fun e w' => e = .returned (.bool (!Pl.oddP p)) ∧ w' = W) := fun W => pisprio_any p W
 generalize Pl.oddP p = b at *
 go_enter Tryz.func65, Tryz.ntmps65
 go_wp2_with (go_at_call 66; refine (HW.out _).mono ?_; rintro e w1 ⟨rfl, rfl⟩)
 go_ret
 exact ⟨by simp, rfl⟩
set_option maxHeartbeats 400000 in
theorem pindex_any (ao : Option Addr) (n cap : Nat) (f : Nat → Int) (w : World) (hn : n ≤ 16) (hr : IRow w ao n cap f) :
  Calls Tryz.prog 79 #[.slice ao n cap, .func (.func 65) #[] #[]] w fun e w' => ∃ r : Int, e = .returned (.int .i64 r) ∧ decide (0 ≤ r) = Vc.someTo (fun i => Pl.oddP (f i)) n ∧ w' = w := by
 have HR : Hid (IRow w ao n cap f) := hr
 clear hr
 go_enter Tryz.func79, Tryz.ntmps79
 go_wp2_with fail
 go_loopw [8] (fun i wr => ∃ k : Nat, k ≤ n ∧ i = .int .i64 k ∧ Hid (Vc.someTo (fun i => Pl.oddP (f i)) k = false) ∧ wr = w) (fun i _ => n - (intOf i).toNat)
 case atStart => exact ⟨0, by omega, rfl, rfl, rfl⟩
 case round =>
  obtain ⟨k, hk, rfl, hX, rfl⟩ := hrel
  by_cases hlt : k < n
  ·obtain ⟨b, off, rfl, hb⟩ := CRow.some HR.out (by omega)
   have hcap := HR.out.1
   have c4 : wr.cell? ⟨b, off + k, none⟩ = some (.int .i64 (f k)) := IRow.cells HR.out hlt
   have HS1 : Hid (Pl.oddP (f k) = true → Vc.someTo (fun i => Pl.oddP (f i)) n = true) := fun h => someTo_stay _ k h n hlt
   have HS2 : Hid (Pl.oddP (f k) = false → Vc.someTo (fun i => Pl.oddP (f i)) (k + 1) = false) := fun h => by
    show (Vc.someTo _ k || Pl.oddP (f k)) = false
    rw [h, hX.out]; rfl
   clear HR hX
   generalize f k = c at *
   cases ho : Pl.oddP c with
   | true =>
    have HO : Hid (Pl.oddP c = true) := ho
    clear ho
    go_wp2_with (go_at_call 65; refine (podd_any _ _).mono ?_; rintro e w1 ⟨rfl, rfl⟩; rw [HO.out])
    go_ret
    exact ⟨_, rfl, by rw [HS1.out HO.out]; simp, rfl⟩
   | false =>
    have HO : Hid (Pl.oddP c = false) := ho
    clear ho
    go_wp2_with (go_at_call 65; refine (podd_any _ _).mono ?_; rintro e w1 ⟨rfl, rfl⟩; rw [HO.out])
    exact ⟨⟨k + 1, by omega, by go_num, HS2.out HO.out, trivial⟩, by simp [intOf]; omega⟩
  ·obtain rfl : k = n := by omega
   go_wp2
   go_ret
   exact ⟨_, rfl, by rw [hX.out]; decide, rfl⟩
set_option maxHeartbeats 400000 in
theorem pcontains_any (ao : Option Addr) (n cap : Nat) (f : Nat → Int) (w : World) (hn : n ≤ 16) (hr : IRow w ao n cap f) :
  Calls Tryz.prog 67 #[.slice ao n cap, .func (.func 65) #[] #[]] w fun e w' => e = .returned (.bool (Vc.someTo (fun i => Pl.oddP (f i)) n)) ∧ w' = w := by
 have HR : Hid (IRow w ao n cap f) := hr
 clear hr
 go_enter Tryz.func67, Tryz.ntmps67
 go_wp2_with (go_at_call 79; refine (pindex_any _ _ _ f _ hn HR.out).mono ?_; rintro e w1 ⟨r, rfl, hq, rfl⟩; have HQ : Hid (decide (0 ≤ r) = Vc.someTo (fun i => Pl.oddP (f i)) n) := hq; clear hq)
 go_ret
 exact ⟨by rw [HQ.out]; rfl, rfl⟩
theorem br_cells {w : World} {g : Nat} {a0 a1 a2 a3 a4 : Value} {ty : TypeId} (h : w.heap[g]? = some (.cells #[a0, a1, a2, a3, a4] ty (0, 0))) :
  w.cell? ⟨g, 0, none⟩ = some a0 ∧ w.cell? ⟨g, 1, none⟩ = some a1 ∧ w.cell? ⟨g, 2, none⟩ = some a2 ∧ w.cell? ⟨g, 3, none⟩ = some a3 ∧ w.cell? ⟨g, 4, none⟩ = some a4 :=
 ⟨cell_of_row w g 0 _ _ _ h, cell_of_row w g 1 _ _ _ h, cell_of_row w g 2 _ _ _ h, cell_of_row w g 3 _ _ _ h, cell_of_row w g 4 _ _ _ h⟩
def brA (b : Br) : Array Value := #[.int .u64 b.addr, .slice b.pao b.pn b.pcap, .string b.reg.s, .int .i64 b.reg.rev, .slice b.reg.ao b.reg.n b.reg.cap]
set_option maxHeartbeats 1000000 in
theorem pwrongBridge_any (b : Br) (w : World) (hb : b.at' w) :
  Calls Tryz.prog 45 #[.agg (brA b)] w fun e w' => e = .returned (.int .i64 (Pl.brErr b)) ∧ Below w.heap.size w w' := by
 obtain ⟨hp, hreg, hn1, hn2⟩ := hb
 have HX : Hid (∀ W, W = w.alloc (.cells (brA b) 40) → b.pn ≤ 16 → Calls Tryz.prog 67 #[.slice b.pao b.pn b.pcap, .func (.func 65) #[] #[]] W fun e w' => e = .returned (.bool (Vc.someTo (fun i => Pl.oddP (b.pv i)) b.pn)) ∧ w' = W) := fun W hW h => pcontains_any _ _ _ _ W h (hp.below (by rw [hW]; exact below_alloc1 _ _))
 have HG : Hid (∀ W, W = w.alloc (.cells (brA b) 40) → Calls Tryz.prog 68 #[.agg #[.string b.reg.s, .int .i64 b.reg.rev, .slice b.reg.ao b.reg.n b.reg.cap]] W fun e w' => e = .returned (.int .i64 (Rg.wrong b.reg.s b.reg.rev b.reg.vs b.reg.ts b.reg.n)) ∧ Below w.heap.size w w') := fun W hW => by
  have hbl : Below w.heap.size w W := by rw [hW]; exact below_alloc1 _ _
  refine (gwrong_any b.reg.s b.reg.rev b.reg.ao b.reg.n b.reg.cap b.reg.vs b.reg.ts W hn2 (hreg.below hbl)).mono ?_
  rintro e w' ⟨rfl, h2⟩
  exact ⟨rfl, hbl.trans (h2.mono hbl.size)⟩
 have HA : Hid ((w.alloc (.cells (brA b) 40)).heap[w.heap.size]? = some (.cells (brA b) 40 (0, 0))) := heap_alloc_last _ _
 obtain ⟨R, HR⟩ : ∃ R, Hid (R = Rg.wrong b.reg.s b.reg.rev b.reg.vs b.reg.ts b.reg.n) := ⟨_, rfl⟩
 obtain ⟨S, HS⟩ : ∃ S, Hid (S = Vc.someTo (fun i => Pl.oddP (b.pv i)) b.pn) := ⟨_, rfl⟩
 have HE : Hid (Pl.brErr b = if 281474976710655 < b.addr then 3 else if 16 < b.pn then 5 else if S = true then 3 else R) := by rw [HR.out, HS.out]; rfl
 rw [← HR.out] at HG
 rw [← HS.out] at HX
 clear HR HS hp hreg hn2
 obtain ⟨addr, pao, pn, pcap, pv, ⟨s, rev, ao, n, cap, vs, ts⟩⟩ := b
 simp only [brA] at *
 rw [HE.out]
 obtain ⟨q0, q1, q2, q3, q4⟩ := br_cells HA.out
 clear HA HE
 by_cases h1 : 281474976710655 < addr
 ·rw [if_pos h1]
  go_enter Tryz.func45, Tryz.ntmps45
  go_wp2_with fail
  go_ret
  exact ⟨rfl, below_alloc1 _ _⟩
 ·rw [if_neg h1]
  by_cases h2 : 16 < pn
  ·rw [if_pos h2]
   go_enter Tryz.func45, Tryz.ntmps45
   go_wp2_with fail
   go_ret
   exact ⟨rfl, below_alloc1 _ _⟩
  ·rw [if_neg h2]
   cases S with
   | true =>
    rw [if_pos rfl]
    go_enter Tryz.func45, Tryz.ntmps45
    go_wp2_with (go_at_call 67; refine (HX.out _ rfl (by omega)).mono ?_; rintro e w1 ⟨rfl, rfl⟩)
    go_ret
    exact ⟨rfl, below_alloc1 _ _⟩
   | false =>
    rw [if_neg (by decide)]
    go_enter Tryz.func45, Tryz.ntmps45
    go_wp2_with (first | (go_at_call 67; refine (HX.out _ rfl (by omega)).mono ?_; rintro e w1 ⟨rfl, rfl⟩) | (go_at_call 68; refine (HG.out _ rfl).mono ?_; rintro e w1 ⟨rfl, hb1⟩))
    go_ret
    exact ⟨rfl, hb1⟩
end
section
open Go.ChangeShapes Go.WideShapes Go.ChangeAt Go.RowKit
theorem own : ownKnob Tryz.prog.godebug = none := by kernel_rfl
theorem laidOut : laidOutB Tryz.prog = true := by kernel_rfl
theorem one_of {a b : Value} (h : [a] = [b]) : a = b := by simpa using h
theorem wf_u64 {n : Int} (h : (Lit.int .u64 n).wf = true) : 0 ≤ n ∧ n < 18446744073709551616 := by
 simp only [Lit.wf, Bool.and_eq_true, decide_eq_true_eq] at h
 have h1 : IntKind.u64.min = 0 := by decide
 have h2 : IntKind.u64.max = 18446744073709551615 := by decide
 rw [h1, h2] at h
 omega
end
section
open Go.RowKit Go.Maps Go.WideElems Go.ChangeShapes Go.WideShapes Go.MapKept Go.ChangeMaps
def cntI {α : Type} [DecidableEq α] (f : Nat → α) (a : α) : Nat → Int
 | 0 => 0
 | k + 1 => cntI f a k + if f k = a then 1 else 0
theorem cntI_range {α : Type} [DecidableEq α] (f : Nat → α) (a : α) : ∀ k : Nat, 0 ≤ cntI f a k ∧ cntI f a k ≤ k
 | 0 => ⟨Int.le_refl _, Int.le_refl _⟩
 | k + 1 => by
  have := cntI_range f a k
  simp only [cntI]
  split <;> omega
theorem cntI_pos {α : Type} [DecidableEq α] (f : Nat → α) (a : α) : ∀ k : Nat, 0 < cntI f a k ↔ Vc.someTo (fun j => decide (f j = a)) k = true
 | 0 => ⟨fun h => by simp [cntI] at h, fun h => by simp [Vc.someTo] at h⟩
 | k + 1 => by
  have h1 := cntI_range f a k
  have h2 := cntI_pos f a k
  have h3 : cntI f a (k + 1) = cntI f a k + if f k = a then 1 else 0 := rfl
  have h4 : Vc.someTo (fun j => decide (f j = a)) (k + 1) = (Vc.someTo (fun j => decide (f j = a)) k || decide (f k = a)) := rfl
  rw [h3, h4]
  by_cases e : f k = a
  ·rw [if_pos e, decide_eq_true e, Bool.or_true]
   exact ⟨fun _ => rfl, fun _ => by omega⟩
  ·rw [if_neg e, decide_eq_false e, Bool.or_false, Int.add_zero]
   exact h2
theorem grown_cell {w w' : World} {b P : Nat} {v : Value} (h : w.cell? ⟨P, 0, none⟩ = some v) (hg : w.grownBy w' (some b)) (hne : P ≠ b) : w'.cell? ⟨P, 0, none⟩ = some v :=
 (World.cell?_of_block (w := w) (hg.block P (block_lt_of_cell h) (fun e => hne (by simpa using e)))).trans h
theorem mzero (w : World) : (zeroValue 3).run Tryz.prog w = .ok (.int .i64 0) w := by kernel_rfl
theorem mwf {n : Int} (h0 : 0 ≤ n) (h1 : n ≤ 100000) : (Lit.int .i64 n).wf = true := WalkArith.wf_i64 (by omega)
theorem lit_inj {a b : Int} (h : (DataW.lit (.int .i64 a) : DataW Unit) = .lit (.int .i64 b)) : a = b := by
 injection h with h
 injection h
/- addresses -/
theorem ukeyed : Keyed Tryz.prog 34 := int_keyed Tryz.underlying34
def UCnt (w : World) (b : Nat) (f : Nat → Int) (m : Nat) : Prop := ∃ D : DataW Unit, w.ownsMap Tryz.prog 34 (plainElem Tryz.prog 3) b m D ∧ IsMap D ∧ ∀ a, (Lit.int .u64 a).wf = true → D.atKey (.int .u64 a) (.lit (.int .i64 0)) = .lit (.int .i64 (cntI f a m))
theorem UCnt.same {w w' : World} {b m : Nat} {f : Nat → Int} (h : UCnt w b f m) (e : w'.heap[b]? = w.heap[b]?) : UCnt w' b f m := by
 obtain ⟨D, ⟨es, clock, hb, r⟩, h2⟩ := h
 exact ⟨D, ⟨es, clock, e.trans hb, r⟩, h2⟩
theorem UCnt.lt {w : World} {b m : Nat} {f : Nat → Int} (h : UCnt w b f m) : b < w.heap.size := by
 obtain ⟨D, h1, _⟩ := h
 exact h1.lt
set_option maxRecDepth 100000 in
set_option maxHeartbeats 1000000 in
theorem utake_any (P b m : Nat) (f : Nat → Int) (a : Int) (w : World) (hP : w.cell? ⟨P, 0, none⟩ = some (.map (some b))) (hne : P ≠ b) (h : UCnt w b f m) (hm : m ≤ 1000) (hf : f m = a) (hwf : (Lit.int .u64 a).wf = true) :
  Calls Tryz.prog 64 #[.int .u64 a, .pointer (some ⟨P, 0, none⟩)] w fun e w' => e = .returned (.int .i64 (if 0 < cntI f a m then 7 else 0)) ∧ UCnt w' b f (m + 1) ∧ w.grownBy w' (some b) := by
 obtain ⟨D, ho, hD, hat⟩ := h
 have hr := cntI_range f a m
 have ht := Tryz.underlying120
 have he := Tryz.underlying3
 have hkey := keyOf_int_mk (k := 34) Tryz.underlying34 hwf
 obtain ⟨c, e1, e2, _⟩ := ho.lookup_int ukeyed ht he (mzero w) hkey
 rw [hat a hwf] at e2
 have e2 := lit_inj e2
 subst e2
 obtain ⟨w1, e3, ho1, hg⟩ := ho.update ukeyed ht (by unfold maxLen; omega) hkey (plainElem_int he (mwf (n := cntI f a m + 1) (by omega) (by omega)))
 have hat1 : ∀ x, (Lit.int .u64 x).wf = true → (D.put (.int .u64 a) (.lit (.int .i64 (cntI f a m + 1)))).atKey (.int .u64 x) (.lit (.int .i64 0)) = .lit (.int .i64 (cntI f x (m + 1))) := by
  intro x hx
  simp only [cntI]
  by_cases e : a = x
  ·subst e
   rw [atKey_put_same hD (ukeyed.key hkey), if_pos hf]
  ·rw [atKey_put_other (fun q => e (by injection q with _ q; exact q.symm)), hat x hx, if_neg (by rw [hf]; exact e), Int.add_zero]
 obtain ⟨c', e4, e5, _⟩ := ho1.lookup_int ukeyed ht he (mzero w1) hkey
 rw [hat1 a hwf] at e5
 have e5 := lit_inj e5
 simp only [cntI, if_pos hf] at e5
 subst e5
 have hP1 : w1.cell? ⟨P, 0, none⟩ = some (.map (some b)) := grown_cell hP hg hne
 have HF : Hid (UCnt w1 b f (m + 1) ∧ w.grownBy w1 (some b)) := ⟨⟨_, ho1, hD.put _ _, hat1⟩, hg⟩
 clear hat1 ho1 hat ho hD hg hf
 generalize cntI f a m = t at *
 have wt : IntKind.i64.wrap (t + 1) = t + 1 := wraps_i64 _ (by omega) (by omega)
 by_cases h0 : 0 < t
 ·rw [if_pos h0]
  have g1 : (1 : Int) < t + 1 := by omega
  go_enter Tryz.func64, Tryz.ntmps64
  go_wp2_with fail
  go_ret
  exact ⟨rfl, HF.out⟩
 ·rw [if_neg h0]
  have g1 : ¬ (1 : Int) < t + 1 := by omega
  go_enter Tryz.func64, Tryz.ntmps64
  go_wp2_with fail
  go_ret
  exact ⟨rfl, HF.out⟩
theorem utaker_any (f : Nat → Int) (w : World) :
  Calls Tryz.prog 42 #[] w fun e w' => e = .returned (.func (.func 64) #[] #[.pointer (some ⟨w.heap.size + 1, 0, none⟩)]) ∧ w'.cell? ⟨w.heap.size + 1, 0, none⟩ = some (.map (some w.heap.size)) ∧ UCnt w' w.heap.size f 0 ∧ Below w.heap.size w w' := by
 have hmm := @run_makeMap Tryz.prog
 go_enter Tryz.func42, Tryz.ntmps42
 go_wp2_with fail
 go_ret
 exact ⟨rfl, cell_of_row _ _ 0 _ _ _ (heap_alloc2_new w (.map #[] 0) (.cells #[.map (some w.heap.size)] 120)), ⟨.map [], (World.ownsMap_made w _ _ _).alloc _, isMap_empty, fun _ _ => rfl⟩, below_alloc2 _ _ _⟩
/- ports -/
theorem prowT : (55 : TypeId) < Tryz.prog.types.size := of_decide_eq_true (by kernel_rfl)
theorem pwide : (match Tryz.prog.underlying 55 with | some (.array _ _) | some (.struct _) => true | _ => false) = true := by rw [Tryz.underlying55]
set_option maxRecDepth 100000 in
theorem pklaw : WideMaps.KeyLaw Tryz.prog 55 := deep_law_laid laidOut (m := 3) (by omega) prowT (by kernel_rfl) pwide
theorem pkeyed : Keyed Tryz.prog 55 := Keyed.of_law pklaw
def pkl (x : Int × Int) : Lit := .string (keyBytes [.int .i64 x.1, .int .i64 x.2])
def pV (x : Int × Int) : Value := .agg #[.int .i64 x.1, .int .i64 x.2]
theorem ptypes : ∃ m, Tryz.prog.types.size = m + 1 := ⟨Tryz.prog.types.size - 1, by kernel_rfl⟩
theorem pkeyType : Tryz.prog.keyType 55 = true := by kernel_rfl
theorem pcells2 : Tryz.prog.cellsOf 55 = 2 := by kernel_rfl
theorem pcells1 : Tryz.prog.cellsOf 3 = 1 := by kernel_rfl
theorem pkey_of (x : Int × Int) (h1 : (Lit.int .i64 x.1).wf = true) (h2 : (Lit.int .i64 x.2).wf = true) : keyOf Tryz.prog 55 (pV x) = some (pkl x) := by
 obtain ⟨m, hm⟩ := ptypes
 unfold keyOf pV
 simp only [Tryz.underlying55]
 rw [if_pos (by simp [pkeyType, Value.formed, Tryz.underlying55, pcells2]), hm]
 unfold Program.keyLits
 simp only [Tryz.underlying55, Value.cells]
 rw [if_pos (by rw [pcells2]; exact ⟨rfl, by simp⟩)]
 simp [pcells1, Program.keyLits, Tryz.underlying3, h1, h2, pkl]
end
end Go.Proofs.YtcbpafpaimpfnaaGreatDoor
