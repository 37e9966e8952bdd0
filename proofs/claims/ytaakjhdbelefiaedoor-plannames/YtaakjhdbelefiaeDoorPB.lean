/- Bridges, links, ends and places: their cells; rows of them; a net in memory -/
import Derived.Test.YtaakjhdbelefiaeDoorPBf
import Derived.Test.YtaakjhdbelefiaeDoorVB2
import Derived.Test.YtaakjhdbelefiaeDoorGW7a
namespace Go.Proofs.YtaakjhdbelefiaeDoor
open Go.RowKit
open Vc (V Of)
open Pl (Lk En St)

/-- A slice of ints. -/
abbrev IRow (w : World) (ao : Option Addr) (n cap : Nat) (f : Nat → Int) : Prop := CRow w ao n cap 1 (fun i _ => .int .i64 (f i))
theorem IRow.cells {w : World} {b off n cap : Nat} {f : Nat → Int} (h : IRow w (some ⟨b, off, none⟩) n cap f) {i : Nat} (hi : i < n) : w.cell? ⟨b, off + i, none⟩ = some (.int .i64 (f i)) := by
  obtain ⟨b', off', e, _, hc⟩ := h.2 (by omega)
  cases e
  have := hc i hi 0 (by omega)
  rw [Nat.mul_one, Nat.add_zero] at this
  exact this
namespace Pl
/-- A bridge, as it lies in memory. -/
structure Br where
  addr : Int
  pao : Option Addr
  pn : Nat
  pcap : Nat
  pv : Nat → Int
  reg : Rg.Reg
/-- A net, as it lies in memory. -/
structure Net where
  bao : Option Addr
  K : Nat
  bcap : Nat
  bs : Nat → Br
  lao : Option Addr
  L : Nat
  lcap : Nat
  ls : Nat → Lk
/-- A place, as it lies in memory. -/
structure Pc where
  v : V
  rp : Int
  pao : Option Addr
  pn : Nat
  pcap : Nat
  ports : Nat → Int
  rao : Option Addr
  rn : Nat
  rcap : Nat
  roles : Nat → Int
end Pl
open Pl (Br Net Pc)
def brC (b : Br) (j : Nat) : Value := if j = 0 then .int .u64 b.addr else if j = 1 then .slice b.pao b.pn b.pcap else if j = 2 then .string b.reg.s else if j = 3 then .int .i64 b.reg.rev else .slice b.reg.ao b.reg.n b.reg.cap
def lkC (l : Lk) (j : Nat) : Value := if j = 0 then .int .i64 l.a else if j = 1 then .int .i64 l.pa else if j = 2 then .int .i64 l.b else if j = 3 then .int .i64 l.pb else if j = 4 then .int .i64 l.cost else .bool l.up
def enC (e : En) (j : Nat) : Value := if j = 0 then .int .i64 e.port else if j = 1 then .int .i64 e.cost else if j = 2 then .int .i64 e.other else if j = 3 then .int .i64 e.oport else .bool e.live
def pcC (p : Pc) (j : Nat) : Value := if j < 4 then vC p.v j else if j = 4 then .int .i64 p.rp else if j = 5 then .slice p.pao p.pn p.pcap else .slice p.rao p.rn p.rcap
theorem brC_one (b : Br) (j : Nat) : (brC b j).oneCell' = true := by
  unfold brC
  repeat' split
  all_goals rfl
theorem lkC_one (l : Lk) (j : Nat) : (lkC l j).oneCell' = true := by
  unfold lkC
  repeat' split
  all_goals rfl
theorem enC_one (e : En) (j : Nat) : (enC e j).oneCell' = true := by
  unfold enC
  repeat' split
  all_goals rfl
theorem pcC_one (p : Pc) (j : Nat) : (pcC p j).oneCell' = true := by
  unfold pcC
  repeat' split
  all_goals first | rfl | exact vC_one _ _
abbrev BRow (w : World) (ao : Option Addr) (n cap : Nat) (bs : Nat → Br) : Prop := CRow w ao n cap 5 (fun i => brC (bs i))
abbrev LRow (w : World) (ao : Option Addr) (n cap : Nat) (ls : Nat → Lk) : Prop := CRow w ao n cap 6 (fun i => lkC (ls i))
abbrev ERow (w : World) (ao : Option Addr) (n cap : Nat) (es : Nat → En) : Prop := CRow w ao n cap 5 (fun i => enC (es i))
abbrev PRow (w : World) (ao : Option Addr) (n cap : Nat) (ps : Nat → Pc) : Prop := CRow w ao n cap 7 (fun i => pcC (ps i))
theorem BRow.cells {w : World} {b off n cap : Nat} {bs : Nat → Br} (h : BRow w (some ⟨b, off, none⟩) n cap bs) {i : Nat} (hi : i < n) :
    w.cell? ⟨b, off + i * 5, none⟩ = some (.int .u64 (bs i).addr) ∧ w.cell? ⟨b, off + i * 5 + 1, none⟩ = some (.slice (bs i).pao (bs i).pn (bs i).pcap) ∧ w.cell? ⟨b, off + i * 5 + 2, none⟩ = some (.string (bs i).reg.s) ∧ w.cell? ⟨b, off + i * 5 + 3, none⟩ = some (.int .i64 (bs i).reg.rev) ∧ w.cell? ⟨b, off + i * 5 + 4, none⟩ = some (.slice (bs i).reg.ao (bs i).reg.n (bs i).reg.cap) := by
  obtain ⟨b', off', e, _, hc⟩ := h.2 (by omega)
  cases e
  exact ⟨hc i hi 0 (by omega), hc i hi 1 (by omega), hc i hi 2 (by omega), hc i hi 3 (by omega), hc i hi 4 (by omega)⟩
theorem LRow.cells {w : World} {b off n cap : Nat} {ls : Nat → Lk} (h : LRow w (some ⟨b, off, none⟩) n cap ls) {i : Nat} (hi : i < n) :
    w.cell? ⟨b, off + i * 6, none⟩ = some (.int .i64 (ls i).a) ∧ w.cell? ⟨b, off + i * 6 + 1, none⟩ = some (.int .i64 (ls i).pa) ∧ w.cell? ⟨b, off + i * 6 + 2, none⟩ = some (.int .i64 (ls i).b) ∧ w.cell? ⟨b, off + i * 6 + 3, none⟩ = some (.int .i64 (ls i).pb) ∧ w.cell? ⟨b, off + i * 6 + 4, none⟩ = some (.int .i64 (ls i).cost) ∧ w.cell? ⟨b, off + i * 6 + 5, none⟩ = some (.bool (ls i).up) := by
  obtain ⟨b', off', e, _, hc⟩ := h.2 (by omega)
  cases e
  exact ⟨hc i hi 0 (by omega), hc i hi 1 (by omega), hc i hi 2 (by omega), hc i hi 3 (by omega), hc i hi 4 (by omega), hc i hi 5 (by omega)⟩
theorem ERow.cells {w : World} {b off n cap : Nat} {es : Nat → En} (h : ERow w (some ⟨b, off, none⟩) n cap es) {i : Nat} (hi : i < n) :
    w.cell? ⟨b, off + i * 5, none⟩ = some (.int .i64 (es i).port) ∧ w.cell? ⟨b, off + i * 5 + 1, none⟩ = some (.int .i64 (es i).cost) ∧ w.cell? ⟨b, off + i * 5 + 2, none⟩ = some (.int .i64 (es i).other) ∧ w.cell? ⟨b, off + i * 5 + 3, none⟩ = some (.int .i64 (es i).oport) ∧ w.cell? ⟨b, off + i * 5 + 4, none⟩ = some (.bool (es i).live) := by
  obtain ⟨b', off', e, _, hc⟩ := h.2 (by omega)
  cases e
  exact ⟨hc i hi 0 (by omega), hc i hi 1 (by omega), hc i hi 2 (by omega), hc i hi 3 (by omega), hc i hi 4 (by omega)⟩
theorem PRow.cells {w : World} {b off n cap : Nat} {ps : Nat → Pc} (h : PRow w (some ⟨b, off, none⟩) n cap ps) {i : Nat} (hi : i < n) :
    w.cell? ⟨b, off + i * 7, none⟩ = some (.int .u64 (ps i).v.root) ∧ w.cell? ⟨b, off + i * 7 + 1, none⟩ = some (.int .i64 (ps i).v.cost) ∧ w.cell? ⟨b, off + i * 7 + 2, none⟩ = some (.int .u64 (ps i).v.bridge) ∧ w.cell? ⟨b, off + i * 7 + 3, none⟩ = some (.int .i64 (ps i).v.port) ∧ w.cell? ⟨b, off + i * 7 + 4, none⟩ = some (.int .i64 (ps i).rp) ∧ w.cell? ⟨b, off + i * 7 + 5, none⟩ = some (.slice (ps i).pao (ps i).pn (ps i).pcap) ∧ w.cell? ⟨b, off + i * 7 + 6, none⟩ = some (.slice (ps i).rao (ps i).rn (ps i).rcap) := by
  obtain ⟨b', off', e, _, hc⟩ := h.2 (by omega)
  cases e
  exact ⟨hc i hi 0 (by omega), hc i hi 1 (by omega), hc i hi 2 (by omega), hc i hi 3 (by omega), hc i hi 4 (by omega), hc i hi 5 (by omega), hc i hi 6 (by omega)⟩
namespace Pl
/-- What a bridge refers to lies there. -/
def Br.at' (b : Br) (w : World) : Prop := IRow w b.pao b.pn b.pcap b.pv ∧ b.reg.at' w ∧ b.pn ≤ 9223372036854775807 ∧ b.reg.n ≤ 9223372036854775807
theorem Br.at'.below {b : Br} {w w' : World} (h : b.at' w) (hb : Below w.heap.size w w') : b.at' w' := ⟨CRow.below h.1 hb, h.2.1.below hb, h.2.2⟩
/-- A net lies there. -/
structure Net.at' (n : Net) (w : World) : Prop where
  brs : BRow w n.bao n.K n.bcap n.bs
  each : ∀ i, i < n.K → (n.bs i).at' w
  lks : LRow w n.lao n.L n.lcap n.ls
  manyB : n.K ≤ 9223372036854775807
  manyL : n.L ≤ 9223372036854775807
theorem Net.at'.below {n : Net} {w w' : World} (h : n.at' w) (hb : Below w.heap.size w w') : n.at' w' := ⟨CRow.below h.brs hb, fun i hi => (h.each i hi).below hb, CRow.below h.lks hb, h.manyB, h.manyL⟩
/-- As an argument. -/
def Net.val (n : Net) : Value := .agg #[.slice n.bao n.K n.bcap, .slice n.lao n.L n.lcap]
def brErr (b : Br) : Int := if 281474976710655 < b.addr then 3 else if 16 < b.pn then 5 else if Vc.someTo (fun i => oddP (b.pv i)) b.pn = true then 3 else Rg.wrong b.reg.s b.reg.rev b.reg.vs b.reg.ts b.reg.n
def bErr (bs : Nat → Br) (i : Nat) : Int := if brErr (bs i) ≠ 0 then brErr (bs i) else if Vc.someTo (fun j => decide ((bs j).addr = (bs i).addr)) i = true then 7 else 0
def Net.wrong (n : Net) : Int × Int := if 12 < n.K ∨ 40 < n.L then (5, 0) else if (firstTo (bErr n.bs) n.K).1 ≠ 0 then firstTo (bErr n.bs) n.K else firstTo (lErr n.K n.ls) n.L
def Br.prio (b : Br) (tree : Int) : Int := if 0 ≤ tree ∧ tree ≤ (b.pn : Int) - 1 then b.pv tree.toNat else 32768
def Br.id (b : Br) (tree : Int) : Int := b.prio tree * 281474976710656 + b.addr
/-- A link is live. -/
def Net.live (n : Net) (k : Nat) : Bool := (n.ls k).up && decide (strOf 50 (n.bs (n.ls k).a.toNat).reg.id = strOf 50 (n.bs (n.ls k).b.toNat).reg.id)
def Net.ids (n : Net) (tree : Int) (i : Nat) : Int := (n.bs i).id tree
def Net.ends (n : Net) (i : Nat) : List En := Pl.ends n.ls n.live n.L i
def Net.says (n : Net) (tree : Int) : Nat → St := fin (n.ids tree) n.ends n.K
end Pl
end Go.Proofs.YtaakjhdbelefiaeDoor
