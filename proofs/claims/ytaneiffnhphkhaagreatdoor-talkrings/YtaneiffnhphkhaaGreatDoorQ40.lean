/- TalkRings: the region with Play -/
import Derived.Test.YtaneiffnhphkhaaGreatDoorQ35
namespace Go.Proofs.YtaneiffnhphkhaaGreatDoor
open Go.RowKit
open Tk (Dn)
theorem do_more2 {W : World} {lo : Nat} {a1 : Option Addr} {c1 dn g : Nat} {ds : Nat → Dn} {tk : Int} (ho : W.ownsRow lo 45 4 (.slice a1 dn c1) dn (cellsL dn 4 (fun i => dnC (ds i)))) (hg : W.heap[g]? = some (.cells #[.int .i64 1, .int .i64 tk, .int .i64 0, .int .i64 0] 45 (0, 0))) (hn : (dn + 1) * 32 ≤ 140737488355328) (hl : lo ≤ W.heap.size) :
  ∃ a2 c2 w', runAppD (.slice a1 dn c1) (.slice (some ⟨g, 0, none⟩) 1 1) W (.slice a2 (dn + 1) c2) w' ∧ w'.ownsRow lo 45 4 (.slice a2 (dn + 1) c2) (dn + 1) (cellsL (dn + 1) 4 (fun i => dnC (dsT dn ds tk i))) ∧ Below lo W w' ∧ (∀ q, q < W.heap.size → some q ≠ (Value.slice a1 dn c1).ownBlock → w'.heap[q]? = W.heap[q]?) := by
 obtain ⟨a2, c2, w', r, o, b, q⟩ := append_c W 26 45 _ 4 32 Tryz.underlying26 infoDo rfl (by omega) lo (.slice a1 dn c1) dn _ ho (some ⟨g, 0, none⟩) 1 1 (fun _ => dnC (tickD tk)) (fun _ _ => dnC_one _ _) (one_do (d := tickD tk) hg) (fun h => by cases h) (by unfold maxLen; omega) (by omega) hl
 rw [cellsL_congr (dn + 1) 4 _ (fun i => dnC (dsT dn ds tk i)) (fun i hi => by
  unfold catC dsT
  by_cases h : i < dn
  ·rw [if_pos h, if_pos h]
  ·rw [if_neg h, if_neg h])] at o
 exact ⟨a2, c2, w', r, o, b, q⟩
section
variable {Q : Exit → Act → World → Prop} (df : List Deferred) (X : World) (BN : Nat) (nb nl : Value) (trees at0 N mx tk : Int) (a1 : Option Addr) (dn c1 : Nat) (ds : Nat → Dn) (lb loff ln lcap lo : Nat)
variable (R : World → World → Option Addr → Nat → Nat → Option Addr → Nat → Nat → Option Addr → Nat → Nat → Int → Int → Prop)
variable (x0 x5 x6 x7 x8 x14 x15 x16 x17 x18 x19 x20 x21 x22 x23 x24 x25 x26 x27 x28 x29 x30 x31 x32 x33 x34 x35 x36 x37 x38 x39 x40 x41 x42 x43 x44 x45 x46 x47 x48 x49 x50 x51 x52 x53 x54 x55 x56 x57 x58 x59 x60 x61 x73 x74 x75 x76 x77 x78 x79 x80 x81 x82 x83 x84 x85 x86 x87 x88 x89 x90 x91 x92 x93 x94 x95 x96 x97 x98 : Value)
def rr12_ops : Array Oper := #[{ dst := some 62, op := Op.load 25 (Operand.tmp 4), type := 25, pos := "law.go:155", after := #[], guard := none }, { dst := some 63, op := Op.move (Operand.tmp 1), type := 3, pos := "law.go:155", after := #[], guard := none }, { dst := some 64, op := Op.move (Operand.tmp 10), type := 26, pos := "law.go:155", after := #[], guard := none }, { dst := some 65, op := Op.move (Operand.tmp 3), type := 3, pos := "law.go:155", after := #[], guard := none }, { dst := some 66, op := Op.move (Operand.tmp 2), type := 26, pos := "law.go:155", after := #[], guard := none }, { dst := some 67, op := Op.move (Operand.tmp 9), type := 3, pos := "law.go:155", after := #[], guard := none }, { dst := some 68, op := Op.indexAddr 26 (Operand.tmp 66) (Operand.tmp 67), type := 0, pos := "law.go:155", after := #[{ on := 4, ground := Ground.data }, { on := 5, ground := Ground.data }], guard := none }, { dst := some 69, op := Op.fieldAddr 45 (Operand.tmp 68) 1, type := 0, pos := "law.go:155", after := #[{ on := 6, ground := Ground.data }], guard := none }, { dst := some 70, op := Op.load 3 (Operand.tmp 69), type := 3, pos := "law.go:155", after := #[{ on := 7, ground := Ground.data }], guard := none }, { dst := some 71, op := Op.call { callee := Callee.builtin Builtin.max, args := #[Operand.tmp 70, Operand.const (Value.int IntKind.i64 0)], argTypes := #[3, 3] }, type := 3, pos := "law.go:155", after := #[{ on := 8, ground := Ground.data }], guard := none }, { dst := some 72, op := Op.call { callee := Callee.builtin Builtin.min, args := #[Operand.tmp 65, Operand.tmp 71], argTypes := #[3, 3] }, type := 3, pos := "law.go:155", after := #[{ on := 3, ground := Ground.data }, { on := 9, ground := Ground.data }], guard := none }, { dst := some 73, op := Op.call { callee := Callee.value (Operand.func 23), args := #[Operand.tmp 72], argTypes := #[3] }, type := 45, pos := "law.go:155", after := #[{ on := 10, ground := Ground.data }], guard := none }, { dst := some 74, op := Op.buildSlice 26 1 #[(0, Operand.tmp 73)], type := 26, pos := "law.go:155", after := #[{ on := 11, ground := Ground.data }], guard := none }, { dst := some 75, op := Op.call { callee := Callee.builtin Builtin.append, args := #[Operand.tmp 64, Operand.tmp 74], argTypes := #[26, 26] }, type := 26, pos := "law.go:155", after := #[{ on := 2, ground := Ground.data }, { on := 12, ground := Ground.data }, { on := 11, ground := Ground.chain }], guard := none }, { dst := some 76, op := Op.call { callee := Callee.value (Operand.func 15), args := #[Operand.tmp 62, Operand.tmp 63, Operand.tmp 75], argTypes := #[25, 3, 26] }, type := 36, pos := "law.go:155", after := #[{ on := 0, ground := Ground.data }, { on := 1, ground := Ground.data }, { on := 13, ground := Ground.data }, { on := 13, ground := Ground.chain }], guard := none }, { dst := some 61, op := Op.move (Operand.tmp 76), type := 36, pos := "law.go:155", after := #[{ on := 14, ground := Ground.data }], guard := none }, { dst := some 77, op := Op.extract (Operand.tmp 61) 0, type := 25, pos := "law.go:155", after := #[{ on := 15, ground := Ground.data }], guard := none }, { dst := some 78, op := Op.extract (Operand.tmp 61) 1, type := 29, pos := "law.go:155", after := #[{ on := 15, ground := Ground.data }, { on := 22, ground := Ground.gcOnly Departure.lateStores }], guard := none }, { dst := some 79, op := Op.extract (Operand.tmp 61) 2, type := 32, pos := "law.go:155", after := #[{ on := 15, ground := Ground.data }, { on := 23, ground := Ground.gcOnly Departure.lateStores }], guard := none }, { dst := some 11, op := Op.alloc 25, type := 0, pos := "law.go:155", after := #[], guard := none }, { dst := some 12, op := Op.alloc 29, type := 0, pos := "law.go:155", after := #[], guard := none }, { dst := some 13, op := Op.alloc 32, type := 0, pos := "law.go:155", after := #[], guard := none }, { dst := none, op := Op.store 25 (Operand.tmp 11) (Operand.tmp 77), type := 0, pos := "law.go:155", after := #[{ on := 19, ground := Ground.data }, { on := 16, ground := Ground.data }, { on := 14, ground := Ground.chain }, { on := 0, ground := Ground.phase }, { on := 1, ground := Ground.phase }, { on := 2, ground := Ground.phase }, { on := 3, ground := Ground.phase }, { on := 4, ground := Ground.phase }, { on := 5, ground := Ground.phase }, { on := 6, ground := Ground.phase }, { on := 7, ground := Ground.phase }, { on := 8, ground := Ground.phase }, { on := 9, ground := Ground.phase }, { on := 10, ground := Ground.phase }, { on := 11, ground := Ground.phase }, { on := 12, ground := Ground.phase }, { on := 13, ground := Ground.phase }, { on := 14, ground := Ground.phase }, { on := 15, ground := Ground.phase }, { on := 16, ground := Ground.phase }, { on := 17, ground := Ground.textOnly Departure.lateStores }, { on := 18, ground := Ground.textOnly Departure.lateStores }, { on := 19, ground := Ground.phase }, { on := 20, ground := Ground.phase }, { on := 21, ground := Ground.phase }], guard := none }, { dst := none, op := Op.store 29 (Operand.tmp 12) (Operand.tmp 78), type := 0, pos := "law.go:155", after := #[{ on := 20, ground := Ground.data }, { on := 17, ground := Ground.data }, { on := 22, ground := Ground.chain }, { on := 0, ground := Ground.phase }, { on := 1, ground := Ground.phase }, { on := 2, ground := Ground.phase }, { on := 3, ground := Ground.phase }, { on := 4, ground := Ground.phase }, { on := 5, ground := Ground.phase }, { on := 6, ground := Ground.phase }, { on := 7, ground := Ground.phase }, { on := 8, ground := Ground.phase }, { on := 9, ground := Ground.phase }, { on := 10, ground := Ground.phase }, { on := 11, ground := Ground.phase }, { on := 12, ground := Ground.phase }, { on := 13, ground := Ground.phase }, { on := 14, ground := Ground.phase }, { on := 15, ground := Ground.phase }, { on := 16, ground := Ground.phase }, { on := 17, ground := Ground.phase }, { on := 18, ground := Ground.textOnly Departure.lateStores }, { on := 19, ground := Ground.phase }, { on := 20, ground := Ground.phase }, { on := 21, ground := Ground.phase }, { on := 22, ground := Ground.phase }], guard := none }, { dst := none, op := Op.store 32 (Operand.tmp 13) (Operand.tmp 79), type := 0, pos := "law.go:155", after := #[{ on := 21, ground := Ground.data }, { on := 18, ground := Ground.data }, { on := 23, ground := Ground.chain }, { on := 0, ground := Ground.phase }, { on := 1, ground := Ground.phase }, { on := 2, ground := Ground.phase }, { on := 3, ground := Ground.phase }, { on := 4, ground := Ground.phase }, { on := 5, ground := Ground.phase }, { on := 6, ground := Ground.phase }, { on := 7, ground := Ground.phase }, { on := 8, ground := Ground.phase }, { on := 9, ground := Ground.phase }, { on := 10, ground := Ground.phase }, { on := 11, ground := Ground.phase }, { on := 12, ground := Ground.phase }, { on := 13, ground := Ground.phase }, { on := 14, ground := Ground.phase }, { on := 15, ground := Ground.phase }, { on := 16, ground := Ground.phase }, { on := 17, ground := Ground.phase }, { on := 18, ground := Ground.phase }, { on := 19, ground := Ground.phase }, { on := 20, ground := Ground.phase }, { on := 21, ground := Ground.phase }, { on := 22, ground := Ground.phase }, { on := 23, ground := Ground.phase }], guard := none }]
variable (hQ : ∀ c (a : Act) (d : Tmp) (v : Value) (w : World), Q (.panic c) (a.put (some d) v) w → Q (.panic c) a w)
variable (hlo : lo ≤ X.heap.size) (hC : ∀ V, Below lo X V → V.cell? ⟨BN, 0, none⟩ = some nb ∧ V.cell? ⟨BN, 1, none⟩ = some nl ∧ V.cell? ⟨lb, loff + dn * 4 + 1, none⟩ = some (.int .i64 N))
variable (hO : X.ownsRow lo 45 4 (.slice a1 dn c1) dn (cellsL dn 4 (fun i => dnC (ds i)))) (hdn : (dn + 1) * 32 ≤ 140737488355328)
variable (hmx : max N 0 = mx) (hmn : min at0 mx = tk) (hi0 : (dn : Int) < (ln : Int))
variable (hT : ∀ V tk, Calls Tryz.prog 23 #[.int .i64 tk] V fun e w' => e = .returned (.agg #[.int .i64 1, .int .i64 tk, .int .i64 0, .int .i64 0]) ∧ Below V.heap.size V w')
variable (hP : ∀ V a2 c2, Below lo X V → DRow V a2 (dn + 1) c2 (dsT dn ds tk) → Calls Tryz.prog 15 #[.agg #[nb, nl], .int .i64 trees, .slice a2 (dn + 1) c2] V fun e w' => ∃ na nk nc la lk lc oa ol oc f1 f2, e = .returned (.tuple #[.agg #[.slice na nk nc, .slice la lk lc], .agg #[.slice oa ol oc], .agg #[.int .i64 f1, .int .i64 f2]]) ∧ Hid (Below V.heap.size V w' ∧ R V w' na nk nc la lk lc oa ol oc f1 f2))
variable (fin : ∀ (gt : Nat) (a2 : Option Addr) (c2 : Nat) (V : World) (na : Option Addr) (nk nc : Nat) (la : Option Addr) (lk lc : Nat) (oa : Option Addr) (ol oc : Nat) (f1 f2 : Int) (g7 g8 g9 : Nat) (W0 W : World), R V W0 na nk nc la lk lc oa ol oc f1 f2 → Below W0.heap.size W0 W → Below lo X W → (W.heap[g7]? = some (.cells #[.slice none 0 0, .slice none 0 0] 25 (0, 0)) ∧ W.heap[g8]? = some (.cells #[.slice none 0 0] 29 (0, 0)) ∧ W.heap[g9]? = some (.cells #[.int .i64 0, .int .i64 0] 32 (0, 0))) → (X.heap.size ≤ g7 ∧ X.heap.size ≤ g8 ∧ X.heap.size ≤ g9) → ((g7 < V.heap.size ∨ W0.heap.size ≤ g7) ∧ (g8 < V.heap.size ∨ W0.heap.size ≤ g8) ∧ (g9 < V.heap.size ∨ W0.heap.size ≤ g9)) → Q .normal { tmps := #[x0, (.int .i64 trees), (.slice (some ⟨lb, loff, none⟩) ln lcap), (.int .i64 at0), (.pointer (some ⟨BN, 0, none⟩)), x5, x6, x7, x8, (.int .i64 (dn : Int)), (.slice a1 dn c1), (.pointer (some ⟨g7, 0, none⟩)), (.pointer (some ⟨g8, 0, none⟩)), (.pointer (some ⟨g9, 0, none⟩)), x14, x15, x16, x17, x18, x19, x20, x21, x22, x23, x24, x25, x26, x27, x28, x29, x30, x31, x32, x33, x34, x35, x36, x37, x38, x39, x40, x41, x42, x43, x44, x45, x46, x47, x48, x49, x50, x51, x52, x53, x54, x55, x56, x57, x58, x59, x60, (.tuple #[.agg #[.slice na nk nc, .slice la lk lc], .agg #[.slice oa ol oc], .agg #[.int .i64 f1, .int .i64 f2]]), (.agg #[nb, nl]), (.int .i64 trees), (.slice a1 dn c1), (.int .i64 at0), (.slice (some ⟨lb, loff, none⟩) ln lcap), (.int .i64 (dn : Int)), (.pointer (some ⟨lb, loff + dn * 4, none⟩)), (.pointer (some ⟨lb, loff + dn * 4 + 1, none⟩)), (.int .i64 N), (.int .i64 mx), (.int .i64 tk), (.agg #[.int .i64 1, .int .i64 tk, .int .i64 0, .int .i64 0]), (.slice (some ⟨gt, 0, none⟩) 1 1), (.slice a2 (dn + 1) c2), (.tuple #[.agg #[.slice na nk nc, .slice la lk lc], .agg #[.slice oa ol oc], .agg #[.int .i64 f1, .int .i64 f2]]), (.agg #[.slice na nk nc, .slice la lk lc]), (.agg #[.slice oa ol oc]), (.agg #[.int .i64 f1, .int .i64 f2]), x80, x81, x82, x83, x84, x85, x86, x87, x88, x89, x90, x91, x92, x93, x94, x95, x96, x97, x98], defers := df } (((((W.setCell ⟨g7, 0, none⟩ (.slice na nk nc)).setCell ⟨g7, 1, none⟩ (.slice la lk lc)).setCell ⟨g8, 0, none⟩ (.slice oa ol oc)).setCell ⟨g9, 0, none⟩ (.int .i64 f1)).setCell ⟨g9, 1, none⟩ (.int .i64 f2)))
set_option maxRecDepth 100000
theorem rr12_rd0 (b7 b8 b9 : Bool) : Region.ready .any rr12_ops #[true, true, true, true, true, true, true, true, true, true, true, false, false, false, false, false, false, false, false, b7, b8, b9, false, false, false] = (11 :: ((if b7 then [] else [19]) ++ ((if b8 then [] else [20]) ++ (if b9 then [] else [21]))) : List Nat) := by
 cases b7 <;> cases b8 <;> cases b9 <;> kernel_rfl
theorem rr12_rd1 (b7 b8 b9 : Bool) : Region.ready .any rr12_ops #[true, true, true, true, true, true, true, true, true, true, true, true, false, false, false, false, false, false, false, b7, b8, b9, false, false, false] = (12 :: ((if b7 then [] else [19]) ++ ((if b8 then [] else [20]) ++ (if b9 then [] else [21]))) : List Nat) := by
 cases b7 <;> cases b8 <;> cases b9 <;> kernel_rfl
theorem rr12_rd2 (b7 b8 b9 : Bool) : Region.ready .any rr12_ops #[true, true, true, true, true, true, true, true, true, true, true, true, true, false, false, false, false, false, false, b7, b8, b9, false, false, false] = (13 :: ((if b7 then [] else [19]) ++ ((if b8 then [] else [20]) ++ (if b9 then [] else [21]))) : List Nat) := by
 cases b7 <;> cases b8 <;> cases b9 <;> kernel_rfl
theorem rr12_rd3 (b7 b8 b9 : Bool) : Region.ready .any rr12_ops #[true, true, true, true, true, true, true, true, true, true, true, true, true, true, false, false, false, false, false, b7, b8, b9, false, false, false] = (14 :: ((if b7 then [] else [19]) ++ ((if b8 then [] else [20]) ++ (if b9 then [] else [21]))) : List Nat) := by
 cases b7 <;> cases b8 <;> cases b9 <;> kernel_rfl
theorem rr12_rd4 (b7 b8 b9 : Bool) : Region.ready .any rr12_ops #[true, true, true, true, true, true, true, true, true, true, true, true, true, true, true, true, true, true, true, b7, b8, b9, false, false, false] = (if (b7 && (b8 && b9)) = true then [22] else (if b7 then [] else [19]) ++ ((if b8 then [] else [20]) ++ (if b9 then [] else [21])) : List Nat) := by
 cases b7 <;> cases b8 <;> cases b9 <;> kernel_rfl
include hlo hC fin in
set_option maxRecDepth 100000 in
set_option maxHeartbeats 1500000 in
theorem rr12_4 : ∀ (fuel : Nat) (b7 b8 b9 : Bool), 3 + cnt3 b7 b8 b9 ≤ fuel → ∀ (s7 s8 s9 : Value) (g7 g8 g9 : Nat) (gt : Nat) (a2 : Option Addr) (c2 : Nat) (V : World) (na : Option Addr) (nk nc : Nat) (la : Option Addr) (lk lc : Nat) (oa : Option Addr) (ol oc : Nat) (f1 f2 : Int) (W0 W : World), R V W0 na nk nc la lk lc oa ol oc f1 f2 → Below W0.heap.size W0 W → Below lo X W → AlF W X.heap.size b7 s7 g7 #[.slice none 0 0, .slice none 0 0] 25 → AlF W X.heap.size b8 s8 g8 #[.slice none 0 0] 29 → AlF W X.heap.size b9 s9 g9 #[.int .i64 0, .int .i64 0] 32 → (b7 = true → g7 < V.heap.size ∨ W0.heap.size ≤ g7) → (b8 = true → g8 < V.heap.size ∨ W0.heap.size ≤ g8) → (b9 = true → g9 < V.heap.size ∨ W0.heap.size ≤ g9) → wpAnyZ Tryz.prog .any rr12_ops Q 22 (fun W => W.cell? ⟨BN, 0, none⟩ = some nb ∧ W.cell? ⟨BN, 1, none⟩ = some nl ∧ W.cell? ⟨lb, loff + dn * 4 + 1, none⟩ = some (.int .i64 N)) fuel #[true, true, true, true, true, true, true, true, true, true, true, true, true, true, true, true, true, true, true, b7, b8, b9, false, false, false] { tmps := #[x0, (.int .i64 trees), (.slice (some ⟨lb, loff, none⟩) ln lcap), (.int .i64 at0), (.pointer (some ⟨BN, 0, none⟩)), x5, x6, x7, x8, (.int .i64 (dn : Int)), (.slice a1 dn c1), s7, s8, s9, x14, x15, x16, x17, x18, x19, x20, x21, x22, x23, x24, x25, x26, x27, x28, x29, x30, x31, x32, x33, x34, x35, x36, x37, x38, x39, x40, x41, x42, x43, x44, x45, x46, x47, x48, x49, x50, x51, x52, x53, x54, x55, x56, x57, x58, x59, x60, (.tuple #[.agg #[.slice na nk nc, .slice la lk lc], .agg #[.slice oa ol oc], .agg #[.int .i64 f1, .int .i64 f2]]), (.agg #[nb, nl]), (.int .i64 trees), (.slice a1 dn c1), (.int .i64 at0), (.slice (some ⟨lb, loff, none⟩) ln lcap), (.int .i64 (dn : Int)), (.pointer (some ⟨lb, loff + dn * 4, none⟩)), (.pointer (some ⟨lb, loff + dn * 4 + 1, none⟩)), (.int .i64 N), (.int .i64 mx), (.int .i64 tk), (.agg #[.int .i64 1, .int .i64 tk, .int .i64 0, .int .i64 0]), (.slice (some ⟨gt, 0, none⟩) 1 1), (.slice a2 (dn + 1) c2), (.tuple #[.agg #[.slice na nk nc, .slice la lk lc], .agg #[.slice oa ol oc], .agg #[.int .i64 f1, .int .i64 f2]]), (.agg #[.slice na nk nc, .slice la lk lc]), (.agg #[.slice oa ol oc]), (.agg #[.int .i64 f1, .int .i64 f2]), x80, x81, x82, x83, x84, x85, x86, x87, x88, x89, x90, x91, x92, x93, x94, x95, x96, x97, x98], defers := df } W := by
 intro fuel
 induction fuel with
 | zero => intro b7 b8 b9 h; omega
 | succ fuel ih =>
  intro b7 b8 b9 hf s7 s8 s9 g7 g8 g9 gt a2 c2 V na nk nc la lk lc oa ol oc f1 f2 W0 W hF hb hX h7 h8 h9 hz7 hz8 hz9
  have hHeld : (#[true, true, true, true, true, true, true, true, true, true, true, true, true, true, true, true, true, true, true, b7, b8, b9, false, false, false] : Array Bool).getD 22 true = true ∨ (fun W => W.cell? ⟨BN, 0, none⟩ = some nb ∧ W.cell? ⟨BN, 1, none⟩ = some nl ∧ W.cell? ⟨lb, loff + dn * 4 + 1, none⟩ = some (.int .i64 N)) W := Or.inr (hC W hX)
  by_cases hall : b7 = true ∧ b8 = true ∧ b9 = true
  ·obtain ⟨rfl, rfl, rfl⟩ := hall
   obtain ⟨rfl, k7, l7⟩ := h7 rfl
   obtain ⟨rfl, k8, l8⟩ := h8 rfl
   obtain ⟨rfl, k9, l9⟩ := h9 rfl
   have hfin := fin gt a2 c2 V na nk nc la lk lc oa ol oc f1 f2 g7 g8 g9 W0 W hF hb hX ⟨k7, k8, k9⟩ ⟨l7, l8, l9⟩ ⟨hz7 rfl, hz8 rfl, hz9 rfl⟩
   have n78 : g7 ≠ g8 := fun e => by subst e; exact absurd (cells_type k7 k8) (by decide)
   have n79 : g7 ≠ g9 := fun e => by subst e; exact absurd (cells_type k7 k9) (by decide)
   have n89 : g8 ≠ g9 := fun e => by subst e; exact absurd (cells_type k8 k9) (by decide)
   have n87 := n78.symm
   have n97 := n79.symm
   have n98 := n89.symm
   obtain ⟨u0, u1⟩ := two_cells2 k7
   have u2 := one_cell k8
   obtain ⟨u3, u4⟩ := two_cells2 k9
   have v0 : W.frozen? ⟨g7, 0, none⟩ = false := frozen_of_row _ _ _ _ _ k7
   have v1 : W.frozen? ⟨g7, 1, none⟩ = false := frozen_of_row _ _ _ _ _ k7
   have v2 : W.frozen? ⟨g8, 0, none⟩ = false := frozen_of_row _ _ _ _ _ k8
   have v3 : W.frozen? ⟨g9, 0, none⟩ = false := frozen_of_row _ _ _ _ _ k9
   have v4 : W.frozen? ⟨g9, 1, none⟩ = false := frozen_of_row _ _ _ _ _ k9
   obtain ⟨fuel, rfl⟩ : ∃ q, fuel = q + 1 + 1 := ⟨fuel - 2, by simp [cnt3] at hf; omega⟩
   clear k7 k8 k9 fin ih hz7 hz8 hz9 h7 h8 h9
   refine z_one (i := 22) (o := { dst := none, op := Op.store 25 (Operand.tmp 11) (Operand.tmp 77), type := 0, pos := "law.go:155", after := #[{ on := 19, ground := Ground.data }, { on := 16, ground := Ground.data }, { on := 14, ground := Ground.chain }, { on := 0, ground := Ground.phase }, { on := 1, ground := Ground.phase }, { on := 2, ground := Ground.phase }, { on := 3, ground := Ground.phase }, { on := 4, ground := Ground.phase }, { on := 5, ground := Ground.phase }, { on := 6, ground := Ground.phase }, { on := 7, ground := Ground.phase }, { on := 8, ground := Ground.phase }, { on := 9, ground := Ground.phase }, { on := 10, ground := Ground.phase }, { on := 11, ground := Ground.phase }, { on := 12, ground := Ground.phase }, { on := 13, ground := Ground.phase }, { on := 14, ground := Ground.phase }, { on := 15, ground := Ground.phase }, { on := 16, ground := Ground.phase }, { on := 17, ground := Ground.textOnly Departure.lateStores }, { on := 18, ground := Ground.textOnly Departure.lateStores }, { on := 19, ground := Ground.phase }, { on := 20, ground := Ground.phase }, { on := 21, ground := Ground.phase }], guard := none }) (by kernel_rfl) rfl (fun K hK => ?_)
   go_simp
   refine hK.out _ _ (Or.inl (by kernel_rfl)) (fun hHeld => ?_)
   clear hK K
   (try simp only [List.setIfInBounds_toArray, List.set_cons_zero, List.set_cons_succ])
   refine z_one (i := 23) (o := { dst := none, op := Op.store 29 (Operand.tmp 12) (Operand.tmp 78), type := 0, pos := "law.go:155", after := #[{ on := 20, ground := Ground.data }, { on := 17, ground := Ground.data }, { on := 22, ground := Ground.chain }, { on := 0, ground := Ground.phase }, { on := 1, ground := Ground.phase }, { on := 2, ground := Ground.phase }, { on := 3, ground := Ground.phase }, { on := 4, ground := Ground.phase }, { on := 5, ground := Ground.phase }, { on := 6, ground := Ground.phase }, { on := 7, ground := Ground.phase }, { on := 8, ground := Ground.phase }, { on := 9, ground := Ground.phase }, { on := 10, ground := Ground.phase }, { on := 11, ground := Ground.phase }, { on := 12, ground := Ground.phase }, { on := 13, ground := Ground.phase }, { on := 14, ground := Ground.phase }, { on := 15, ground := Ground.phase }, { on := 16, ground := Ground.phase }, { on := 17, ground := Ground.phase }, { on := 18, ground := Ground.textOnly Departure.lateStores }, { on := 19, ground := Ground.phase }, { on := 20, ground := Ground.phase }, { on := 21, ground := Ground.phase }, { on := 22, ground := Ground.phase }], guard := none }) (by kernel_rfl) rfl (fun K hK => ?_)
   go_simp
   refine hK.out _ _ (Or.inl (by kernel_rfl)) (fun hHeld => ?_)
   clear hK K
   (try simp only [List.setIfInBounds_toArray, List.set_cons_zero, List.set_cons_succ])
   refine z_one (i := 24) (o := { dst := none, op := Op.store 32 (Operand.tmp 13) (Operand.tmp 79), type := 0, pos := "law.go:155", after := #[{ on := 21, ground := Ground.data }, { on := 18, ground := Ground.data }, { on := 23, ground := Ground.chain }, { on := 0, ground := Ground.phase }, { on := 1, ground := Ground.phase }, { on := 2, ground := Ground.phase }, { on := 3, ground := Ground.phase }, { on := 4, ground := Ground.phase }, { on := 5, ground := Ground.phase }, { on := 6, ground := Ground.phase }, { on := 7, ground := Ground.phase }, { on := 8, ground := Ground.phase }, { on := 9, ground := Ground.phase }, { on := 10, ground := Ground.phase }, { on := 11, ground := Ground.phase }, { on := 12, ground := Ground.phase }, { on := 13, ground := Ground.phase }, { on := 14, ground := Ground.phase }, { on := 15, ground := Ground.phase }, { on := 16, ground := Ground.phase }, { on := 17, ground := Ground.phase }, { on := 18, ground := Ground.phase }, { on := 19, ground := Ground.phase }, { on := 20, ground := Ground.phase }, { on := 21, ground := Ground.phase }, { on := 22, ground := Ground.phase }, { on := 23, ground := Ground.phase }], guard := none }) (by kernel_rfl) rfl (fun K hK => ?_)
   go_simp
   refine hK.out _ _ (Or.inl (by kernel_rfl)) (fun hHeld => ?_)
   clear hK K
   (try simp only [List.setIfInBounds_toArray, List.set_cons_zero, List.set_cons_succ])
   refine z_done (by kernel_rfl) ?_ _
   exact hfin
  ·refine z_mem (rr12_rd4 b7 b8 b9) (by revert hall; cases b7 <;> cases b8 <;> cases b9 <;> simp) (fun i hi => ?_)
   rw [if_neg (by revert hall; cases b7 <;> cases b8 <;> cases b9 <;> simp)] at hi
   simp only [List.mem_append] at hi
   rcases hi with hi | hi | hi
   ·cases b7 with
    | true => simp at hi
    | false =>
     obtain rfl : i = 19 := by simpa using hi
     refine z_op (o := { dst := some 11, op := Op.alloc 25, type := 0, pos := "law.go:155", after := #[], guard := none }) rfl (fun K hK => ?_)
     go_simp
     have hn : Below W.heap.size W (W.alloc (.cells #[.slice none 0 0, .slice none 0 0] 25)) := below_alloc1 _ _
     have hXn := hX.trans (hn.mono (Nat.le_trans hlo hX.size))
     refine hK.out _ _ (Or.inr (hC _ hXn)) ?_
     (try simp only [List.setIfInBounds_toArray, List.set_cons_zero, List.set_cons_succ])
     exact ih true b8 b9 (by revert hf; cases b8 <;> cases b9 <;> simp [cnt3] <;> omega) _ s8 s9 W.heap.size g8 g9 gt a2 c2 V na nk nc la lk lc oa ol oc f1 f2 W0 _ hF (hb.trans (hn.mono hb.size)) hXn (AlF.new W hX.size _ _ _) (h8.below hn) (h9.below hn) (fun _ => Or.inr hb.size) hz8 hz9
   ·cases b8 with
    | true => simp at hi
    | false =>
     obtain rfl : i = 20 := by simpa using hi
     refine z_op (o := { dst := some 12, op := Op.alloc 29, type := 0, pos := "law.go:155", after := #[], guard := none }) rfl (fun K hK => ?_)
     go_simp
     have hn : Below W.heap.size W (W.alloc (.cells #[.slice none 0 0] 29)) := below_alloc1 _ _
     have hXn := hX.trans (hn.mono (Nat.le_trans hlo hX.size))
     refine hK.out _ _ (Or.inr (hC _ hXn)) ?_
     (try simp only [List.setIfInBounds_toArray, List.set_cons_zero, List.set_cons_succ])
     exact ih b7 true b9 (by revert hf; cases b7 <;> cases b9 <;> simp [cnt3] <;> omega) s7 _ s9 g7 W.heap.size g9 gt a2 c2 V na nk nc la lk lc oa ol oc f1 f2 W0 _ hF (hb.trans (hn.mono hb.size)) hXn (h7.below hn) (AlF.new W hX.size _ _ _) (h9.below hn) hz7 (fun _ => Or.inr hb.size) hz9
   ·cases b9 with
    | true => simp at hi
    | false =>
     obtain rfl : i = 21 := by simpa using hi
     refine z_op (o := { dst := some 13, op := Op.alloc 32, type := 0, pos := "law.go:155", after := #[], guard := none }) rfl (fun K hK => ?_)
     go_simp
     have hn : Below W.heap.size W (W.alloc (.cells #[.int .i64 0, .int .i64 0] 32)) := below_alloc1 _ _
     have hXn := hX.trans (hn.mono (Nat.le_trans hlo hX.size))
     refine hK.out _ _ (Or.inr (hC _ hXn)) ?_
     (try simp only [List.setIfInBounds_toArray, List.set_cons_zero, List.set_cons_succ])
     exact ih b7 b8 true (by revert hf; cases b7 <;> cases b8 <;> simp [cnt3] <;> omega) s7 s8 _ g7 g8 W.heap.size gt a2 c2 V na nk nc la lk lc oa ol oc f1 f2 W0 _ hF (hb.trans (hn.mono hb.size)) hXn (h7.below hn) (h8.below hn) (AlF.new W hX.size _ _ _) hz7 hz8 (fun _ => Or.inr hb.size)
include hQ hlo hC hP fin in
set_option maxRecDepth 100000 in
set_option maxHeartbeats 1500000 in
theorem rr12_3 : ∀ (fuel : Nat) (b7 b8 b9 : Bool), 8 + cnt3 b7 b8 b9 ≤ fuel → ∀ (s7 s8 s9 : Value) (g7 g8 g9 : Nat) (gt : Nat) (a2 : Option Addr) (c2 : Nat) (W0 W : World), DRow W0 a2 (dn + 1) c2 (dsT dn ds tk) → Below W0.heap.size W0 W → Below lo X W → AlF W X.heap.size b7 s7 g7 #[.slice none 0 0, .slice none 0 0] 25 → AlF W X.heap.size b8 s8 g8 #[.slice none 0 0] 29 → AlF W X.heap.size b9 s9 g9 #[.int .i64 0, .int .i64 0] 32 → wpAnyZ Tryz.prog .any rr12_ops Q 22 (fun W => W.cell? ⟨BN, 0, none⟩ = some nb ∧ W.cell? ⟨BN, 1, none⟩ = some nl ∧ W.cell? ⟨lb, loff + dn * 4 + 1, none⟩ = some (.int .i64 N)) fuel #[true, true, true, true, true, true, true, true, true, true, true, true, true, true, false, false, false, false, false, b7, b8, b9, false, false, false] { tmps := #[x0, (.int .i64 trees), (.slice (some ⟨lb, loff, none⟩) ln lcap), (.int .i64 at0), (.pointer (some ⟨BN, 0, none⟩)), x5, x6, x7, x8, (.int .i64 (dn : Int)), (.slice a1 dn c1), s7, s8, s9, x14, x15, x16, x17, x18, x19, x20, x21, x22, x23, x24, x25, x26, x27, x28, x29, x30, x31, x32, x33, x34, x35, x36, x37, x38, x39, x40, x41, x42, x43, x44, x45, x46, x47, x48, x49, x50, x51, x52, x53, x54, x55, x56, x57, x58, x59, x60, x61, (.agg #[nb, nl]), (.int .i64 trees), (.slice a1 dn c1), (.int .i64 at0), (.slice (some ⟨lb, loff, none⟩) ln lcap), (.int .i64 (dn : Int)), (.pointer (some ⟨lb, loff + dn * 4, none⟩)), (.pointer (some ⟨lb, loff + dn * 4 + 1, none⟩)), (.int .i64 N), (.int .i64 mx), (.int .i64 tk), (.agg #[.int .i64 1, .int .i64 tk, .int .i64 0, .int .i64 0]), (.slice (some ⟨gt, 0, none⟩) 1 1), (.slice a2 (dn + 1) c2), x76, x77, x78, x79, x80, x81, x82, x83, x84, x85, x86, x87, x88, x89, x90, x91, x92, x93, x94, x95, x96, x97, x98], defers := df } W := by
 intro fuel
 induction fuel with
 | zero => intro b7 b8 b9 h; omega
 | succ fuel ih =>
  intro b7 b8 b9 hf s7 s8 s9 g7 g8 g9 gt a2 c2 W0 W hF hb hX h7 h8 h9
  have hHeld : (#[true, true, true, true, true, true, true, true, true, true, true, true, true, true, false, false, false, false, false, b7, b8, b9, false, false, false] : Array Bool).getD 22 true = true ∨ (fun W => W.cell? ⟨BN, 0, none⟩ = some nb ∧ W.cell? ⟨BN, 1, none⟩ = some nl ∧ W.cell? ⟨lb, loff + dn * 4 + 1, none⟩ = some (.int .i64 N)) W := Or.inr (hC W hX)
  refine z_mem (rr12_rd3 b7 b8 b9) (by simp) (fun i hi => ?_)
  simp only [List.mem_cons, List.mem_append] at hi
  rcases hi with rfl | hi | hi | hi
  ·refine z_op (o := { dst := some 76, op := Op.call { callee := Callee.value (Operand.func 15), args := #[Operand.tmp 62, Operand.tmp 63, Operand.tmp 75], argTypes := #[25, 3, 26] }, type := 36, pos := "law.go:155", after := #[{ on := 0, ground := Ground.data }, { on := 1, ground := Ground.data }, { on := 13, ground := Ground.data }, { on := 13, ground := Ground.chain }], guard := none }) rfl (fun K hK => ?_)
   go_simp
   refine (hP W a2 c2 hX (CRow.below hF hb)).mono ?_
   rintro e w2 ⟨na, nk, nc, la, lk, lc, oa, ol, oc, f1, f2, rfl, H⟩
   have hn := H.out.1
   have hXn := hX.trans (hn.mono (Nat.le_trans hlo hX.size))
   refine hK.out _ _ (Or.inr (hC _ hXn)) ?_
   (try simp only [List.setIfInBounds_toArray, List.set_cons_zero, List.set_cons_succ])
   obtain ⟨fuel, rfl⟩ : ∃ q, fuel = q + 1 + 1 + 1 + 1 := ⟨fuel - 4, by omega⟩
   refine z_take (i := 15) (oi := { dst := some 61, op := Op.move (Operand.tmp 76), type := 36, pos := "law.go:155", after := #[{ on := 14, ground := Ground.data }], guard := none }) (v := (.tuple #[.agg #[.slice na nk nc, .slice la lk lc], .agg #[.slice oa ol oc], .agg #[.int .i64 f1, .int .i64 f2]])) (some 61) rfl rfl (by cases b7 <;> cases b8 <;> cases b9 <;> kernel_rfl) (by cases b7 <;> cases b8 <;> cases b9 <;> kernel_rfl) (by cases b7 <;> cases b8 <;> cases b9 <;> kernel_rfl) (by decide) (fun c a w h => hQ c a _ _ w h) (by rfl) ?_ (Or.inr (hC _ hXn)) ?_
   ·(intro wq; go_simp; try with_reducible rfl)
   (try simp only [Act.put, List.setIfInBounds_toArray, List.set_cons_zero, List.set_cons_succ])
   refine z_take (i := 16) (oi := { dst := some 77, op := Op.extract (Operand.tmp 61) 0, type := 25, pos := "law.go:155", after := #[{ on := 15, ground := Ground.data }], guard := none }) (v := (.agg #[.slice na nk nc, .slice la lk lc])) (some 77) rfl rfl (by cases b7 <;> cases b8 <;> cases b9 <;> kernel_rfl) (by cases b7 <;> cases b8 <;> cases b9 <;> kernel_rfl) (by cases b7 <;> cases b8 <;> cases b9 <;> kernel_rfl) (by decide) (fun c a w h => hQ c a _ _ w h) (by rfl) ?_ (Or.inr (hC _ hXn)) ?_
   ·(intro wq; go_simp; try with_reducible rfl)
   (try simp only [Act.put, List.setIfInBounds_toArray, List.set_cons_zero, List.set_cons_succ])
   refine z_take (i := 17) (oi := { dst := some 78, op := Op.extract (Operand.tmp 61) 1, type := 29, pos := "law.go:155", after := #[{ on := 15, ground := Ground.data }, { on := 22, ground := Ground.gcOnly Departure.lateStores }], guard := none }) (v := (.agg #[.slice oa ol oc])) (some 78) rfl rfl (by cases b7 <;> cases b8 <;> cases b9 <;> kernel_rfl) (by cases b7 <;> cases b8 <;> cases b9 <;> kernel_rfl) (by cases b7 <;> cases b8 <;> cases b9 <;> kernel_rfl) (by decide) (fun c a w h => hQ c a _ _ w h) (by rfl) ?_ (Or.inr (hC _ hXn)) ?_
   ·(intro wq; go_simp; try with_reducible rfl)
   (try simp only [Act.put, List.setIfInBounds_toArray, List.set_cons_zero, List.set_cons_succ])
   refine z_take (i := 18) (oi := { dst := some 79, op := Op.extract (Operand.tmp 61) 2, type := 32, pos := "law.go:155", after := #[{ on := 15, ground := Ground.data }, { on := 23, ground := Ground.gcOnly Departure.lateStores }], guard := none }) (v := (.agg #[.int .i64 f1, .int .i64 f2])) (some 79) rfl rfl (by cases b7 <;> cases b8 <;> cases b9 <;> kernel_rfl) (by cases b7 <;> cases b8 <;> cases b9 <;> kernel_rfl) (by cases b7 <;> cases b8 <;> cases b9 <;> kernel_rfl) (by decide) (fun c a w h => hQ c a _ _ w h) (by rfl) ?_ (Or.inr (hC _ hXn)) ?_
   ·(intro wq; go_simp; try with_reducible rfl)
   (try simp only [Act.put, List.setIfInBounds_toArray, List.set_cons_zero, List.set_cons_succ])
   exact rr12_4 df X BN nb nl trees at0 N mx tk a1 dn c1 lb loff ln lcap lo R x0 x5 x6 x7 x8 x14 x15 x16 x17 x18 x19 x20 x21 x22 x23 x24 x25 x26 x27 x28 x29 x30 x31 x32 x33 x34 x35 x36 x37 x38 x39 x40 x41 x42 x43 x44 x45 x46 x47 x48 x49 x50 x51 x52 x53 x54 x55 x56 x57 x58 x59 x60 x80 x81 x82 x83 x84 x85 x86 x87 x88 x89 x90 x91 x92 x93 x94 x95 x96 x97 x98 hlo hC fin fuel b7 b8 b9 (by omega) s7 s8 s9 g7 g8 g9 gt a2 c2 W na nk nc la lk lc oa ol oc f1 f2 w2 w2 H.out.2 (Below.refl _ _) hXn (h7.below hn) (h8.below hn) (h9.below hn) (fun e => Or.inl (lt_some (h7 e).2.1)) (fun e => Or.inl (lt_some (h8 e).2.1)) (fun e => Or.inl (lt_some (h9 e).2.1))
  ·cases b7 with
   | true => simp at hi
   | false =>
    obtain rfl : i = 19 := by simpa using hi
    refine z_op (o := { dst := some 11, op := Op.alloc 25, type := 0, pos := "law.go:155", after := #[], guard := none }) rfl (fun K hK => ?_)
    go_simp
    have hn : Below W.heap.size W (W.alloc (.cells #[.slice none 0 0, .slice none 0 0] 25)) := below_alloc1 _ _
    have hXn := hX.trans (hn.mono (Nat.le_trans hlo hX.size))
    refine hK.out _ _ (Or.inr (hC _ hXn)) ?_
    (try simp only [List.setIfInBounds_toArray, List.set_cons_zero, List.set_cons_succ])
    exact ih true b8 b9 (by revert hf; cases b8 <;> cases b9 <;> simp [cnt3] <;> omega) _ s8 s9 W.heap.size g8 g9 gt a2 c2 W0 _ hF (hb.trans (hn.mono hb.size)) hXn (AlF.new W hX.size _ _ _) (h8.below hn) (h9.below hn)
  ·cases b8 with
   | true => simp at hi
   | false =>
    obtain rfl : i = 20 := by simpa using hi
    refine z_op (o := { dst := some 12, op := Op.alloc 29, type := 0, pos := "law.go:155", after := #[], guard := none }) rfl (fun K hK => ?_)
    go_simp
    have hn : Below W.heap.size W (W.alloc (.cells #[.slice none 0 0] 29)) := below_alloc1 _ _
    have hXn := hX.trans (hn.mono (Nat.le_trans hlo hX.size))
    refine hK.out _ _ (Or.inr (hC _ hXn)) ?_
    (try simp only [List.setIfInBounds_toArray, List.set_cons_zero, List.set_cons_succ])
    exact ih b7 true b9 (by revert hf; cases b7 <;> cases b9 <;> simp [cnt3] <;> omega) s7 _ s9 g7 W.heap.size g9 gt a2 c2 W0 _ hF (hb.trans (hn.mono hb.size)) hXn (h7.below hn) (AlF.new W hX.size _ _ _) (h9.below hn)
  ·cases b9 with
   | true => simp at hi
   | false =>
    obtain rfl : i = 21 := by simpa using hi
    refine z_op (o := { dst := some 13, op := Op.alloc 32, type := 0, pos := "law.go:155", after := #[], guard := none }) rfl (fun K hK => ?_)
    go_simp
    have hn : Below W.heap.size W (W.alloc (.cells #[.int .i64 0, .int .i64 0] 32)) := below_alloc1 _ _
    have hXn := hX.trans (hn.mono (Nat.le_trans hlo hX.size))
    refine hK.out _ _ (Or.inr (hC _ hXn)) ?_
    (try simp only [List.setIfInBounds_toArray, List.set_cons_zero, List.set_cons_succ])
    exact ih b7 b8 true (by revert hf; cases b7 <;> cases b8 <;> simp [cnt3] <;> omega) s7 s8 _ g7 g8 W.heap.size gt a2 c2 W0 _ hF (hb.trans (hn.mono hb.size)) hXn (h7.below hn) (h8.below hn) (AlF.new W hX.size _ _ _)
include hQ hlo hC hO hdn hP fin in
set_option maxRecDepth 100000 in
set_option maxHeartbeats 1500000 in
theorem rr12_2 : ∀ (fuel : Nat) (b7 b8 b9 : Bool), 9 + cnt3 b7 b8 b9 ≤ fuel → ∀ (s7 s8 s9 : Value) (g7 g8 g9 : Nat) (gt : Nat) (W0 W : World), W0.heap[gt]? = some (.cells #[.int .i64 1, .int .i64 tk, .int .i64 0, .int .i64 0] 45 (0, 0)) → Below W0.heap.size W0 W → Below X.heap.size X W → AlF W X.heap.size b7 s7 g7 #[.slice none 0 0, .slice none 0 0] 25 → AlF W X.heap.size b8 s8 g8 #[.slice none 0 0] 29 → AlF W X.heap.size b9 s9 g9 #[.int .i64 0, .int .i64 0] 32 → wpAnyZ Tryz.prog .any rr12_ops Q 22 (fun W => W.cell? ⟨BN, 0, none⟩ = some nb ∧ W.cell? ⟨BN, 1, none⟩ = some nl ∧ W.cell? ⟨lb, loff + dn * 4 + 1, none⟩ = some (.int .i64 N)) fuel #[true, true, true, true, true, true, true, true, true, true, true, true, true, false, false, false, false, false, false, b7, b8, b9, false, false, false] { tmps := #[x0, (.int .i64 trees), (.slice (some ⟨lb, loff, none⟩) ln lcap), (.int .i64 at0), (.pointer (some ⟨BN, 0, none⟩)), x5, x6, x7, x8, (.int .i64 (dn : Int)), (.slice a1 dn c1), s7, s8, s9, x14, x15, x16, x17, x18, x19, x20, x21, x22, x23, x24, x25, x26, x27, x28, x29, x30, x31, x32, x33, x34, x35, x36, x37, x38, x39, x40, x41, x42, x43, x44, x45, x46, x47, x48, x49, x50, x51, x52, x53, x54, x55, x56, x57, x58, x59, x60, x61, (.agg #[nb, nl]), (.int .i64 trees), (.slice a1 dn c1), (.int .i64 at0), (.slice (some ⟨lb, loff, none⟩) ln lcap), (.int .i64 (dn : Int)), (.pointer (some ⟨lb, loff + dn * 4, none⟩)), (.pointer (some ⟨lb, loff + dn * 4 + 1, none⟩)), (.int .i64 N), (.int .i64 mx), (.int .i64 tk), (.agg #[.int .i64 1, .int .i64 tk, .int .i64 0, .int .i64 0]), (.slice (some ⟨gt, 0, none⟩) 1 1), x75, x76, x77, x78, x79, x80, x81, x82, x83, x84, x85, x86, x87, x88, x89, x90, x91, x92, x93, x94, x95, x96, x97, x98], defers := df } W := by
 intro fuel
 induction fuel with
 | zero => intro b7 b8 b9 h; omega
 | succ fuel ih =>
  intro b7 b8 b9 hf s7 s8 s9 g7 g8 g9 gt W0 W hF hb hX h7 h8 h9
  have hHeld : (#[true, true, true, true, true, true, true, true, true, true, true, true, true, false, false, false, false, false, false, b7, b8, b9, false, false, false] : Array Bool).getD 22 true = true ∨ (fun W => W.cell? ⟨BN, 0, none⟩ = some nb ∧ W.cell? ⟨BN, 1, none⟩ = some nl ∧ W.cell? ⟨lb, loff + dn * 4 + 1, none⟩ = some (.int .i64 N)) W := Or.inr (hC W (hX.mono hlo))
  refine z_mem (rr12_rd2 b7 b8 b9) (by simp) (fun i hi => ?_)
  simp only [List.mem_cons, List.mem_append] at hi
  rcases hi with rfl | hi | hi | hi
  ·refine z_op (o := { dst := some 75, op := Op.call { callee := Callee.builtin Builtin.append, args := #[Operand.tmp 64, Operand.tmp 74], argTypes := #[26, 26] }, type := 26, pos := "law.go:155", after := #[{ on := 2, ground := Ground.data }, { on := 12, ground := Ground.data }, { on := 11, ground := Ground.chain }], guard := none }) rfl (fun K hK => ?_)
   obtain ⟨a2, c2, w2, r, ho, hl, hq⟩ := do_more2 (ownsC_below hO hX) (keep hF hb) hdn (Nat.le_trans hlo hX.size)
   have hXn : Below lo X w2 := (hX.mono hlo).trans hl
   refine step_append_d (some 75) rfl rfl (.tmp 64) (.tmp 74) 26 rfl _ _ _ rfl rfl r ?_
   refine hK.out _ _ (Or.inr (hC _ hXn)) ?_
   (try simp only [Act.put, List.setIfInBounds_toArray, List.set_cons_zero, List.set_cons_succ])
   exact rr12_3 df X BN nb nl trees at0 N mx tk a1 dn c1 ds lb loff ln lcap lo R x0 x5 x6 x7 x8 x14 x15 x16 x17 x18 x19 x20 x21 x22 x23 x24 x25 x26 x27 x28 x29 x30 x31 x32 x33 x34 x35 x36 x37 x38 x39 x40 x41 x42 x43 x44 x45 x46 x47 x48 x49 x50 x51 x52 x53 x54 x55 x56 x57 x58 x59 x60 x61 x76 x77 x78 x79 x80 x81 x82 x83 x84 x85 x86 x87 x88 x89 x90 x91 x92 x93 x94 x95 x96 x97 x98 hQ hlo hC hP fin fuel b7 b8 b9 (by omega) s7 s8 s9 g7 g8 g9 gt a2 c2 w2 w2 (own_do ho) (Below.refl _ _) hXn (h7.app (ownsC_below hO hX) hq (by decide)) (h8.app (ownsC_below hO hX) hq (by decide)) (h9.app (ownsC_below hO hX) hq (by decide))
  ·cases b7 with
   | true => simp at hi
   | false =>
    obtain rfl : i = 19 := by simpa using hi
    refine z_op (o := { dst := some 11, op := Op.alloc 25, type := 0, pos := "law.go:155", after := #[], guard := none }) rfl (fun K hK => ?_)
    go_simp
    have hn : Below W.heap.size W (W.alloc (.cells #[.slice none 0 0, .slice none 0 0] 25)) := below_alloc1 _ _
    have hXn := hX.trans (hn.mono hX.size)
    refine hK.out _ _ (Or.inr (hC _ (hXn.mono hlo))) ?_
    (try simp only [List.setIfInBounds_toArray, List.set_cons_zero, List.set_cons_succ])
    exact ih true b8 b9 (by revert hf; cases b8 <;> cases b9 <;> simp [cnt3] <;> omega) _ s8 s9 W.heap.size g8 g9 gt W0 _ hF (hb.trans (hn.mono hb.size)) hXn (AlF.new W hX.size _ _ _) (h8.below hn) (h9.below hn)
  ·cases b8 with
   | true => simp at hi
   | false =>
    obtain rfl : i = 20 := by simpa using hi
    refine z_op (o := { dst := some 12, op := Op.alloc 29, type := 0, pos := "law.go:155", after := #[], guard := none }) rfl (fun K hK => ?_)
    go_simp
    have hn : Below W.heap.size W (W.alloc (.cells #[.slice none 0 0] 29)) := below_alloc1 _ _
    have hXn := hX.trans (hn.mono hX.size)
    refine hK.out _ _ (Or.inr (hC _ (hXn.mono hlo))) ?_
    (try simp only [List.setIfInBounds_toArray, List.set_cons_zero, List.set_cons_succ])
    exact ih b7 true b9 (by revert hf; cases b7 <;> cases b9 <;> simp [cnt3] <;> omega) s7 _ s9 g7 W.heap.size g9 gt W0 _ hF (hb.trans (hn.mono hb.size)) hXn (h7.below hn) (AlF.new W hX.size _ _ _) (h9.below hn)
  ·cases b9 with
   | true => simp at hi
   | false =>
    obtain rfl : i = 21 := by simpa using hi
    refine z_op (o := { dst := some 13, op := Op.alloc 32, type := 0, pos := "law.go:155", after := #[], guard := none }) rfl (fun K hK => ?_)
    go_simp
    have hn : Below W.heap.size W (W.alloc (.cells #[.int .i64 0, .int .i64 0] 32)) := below_alloc1 _ _
    have hXn := hX.trans (hn.mono hX.size)
    refine hK.out _ _ (Or.inr (hC _ (hXn.mono hlo))) ?_
    (try simp only [List.setIfInBounds_toArray, List.set_cons_zero, List.set_cons_succ])
    exact ih b7 b8 true (by revert hf; cases b7 <;> cases b8 <;> simp [cnt3] <;> omega) s7 s8 _ g7 g8 W.heap.size gt W0 _ hF (hb.trans (hn.mono hb.size)) hXn (h7.below hn) (h8.below hn) (AlF.new W hX.size _ _ _)
include hQ hlo hC hO hdn hP fin in
set_option maxRecDepth 100000 in
set_option maxHeartbeats 1500000 in
theorem rr12_1 : ∀ (fuel : Nat) (b7 b8 b9 : Bool), 10 + cnt3 b7 b8 b9 ≤ fuel → ∀ (s7 s8 s9 : Value) (g7 g8 g9 : Nat) (W0 W : World), True → Below W0.heap.size W0 W → Below X.heap.size X W → AlF W X.heap.size b7 s7 g7 #[.slice none 0 0, .slice none 0 0] 25 → AlF W X.heap.size b8 s8 g8 #[.slice none 0 0] 29 → AlF W X.heap.size b9 s9 g9 #[.int .i64 0, .int .i64 0] 32 → wpAnyZ Tryz.prog .any rr12_ops Q 22 (fun W => W.cell? ⟨BN, 0, none⟩ = some nb ∧ W.cell? ⟨BN, 1, none⟩ = some nl ∧ W.cell? ⟨lb, loff + dn * 4 + 1, none⟩ = some (.int .i64 N)) fuel #[true, true, true, true, true, true, true, true, true, true, true, true, false, false, false, false, false, false, false, b7, b8, b9, false, false, false] { tmps := #[x0, (.int .i64 trees), (.slice (some ⟨lb, loff, none⟩) ln lcap), (.int .i64 at0), (.pointer (some ⟨BN, 0, none⟩)), x5, x6, x7, x8, (.int .i64 (dn : Int)), (.slice a1 dn c1), s7, s8, s9, x14, x15, x16, x17, x18, x19, x20, x21, x22, x23, x24, x25, x26, x27, x28, x29, x30, x31, x32, x33, x34, x35, x36, x37, x38, x39, x40, x41, x42, x43, x44, x45, x46, x47, x48, x49, x50, x51, x52, x53, x54, x55, x56, x57, x58, x59, x60, x61, (.agg #[nb, nl]), (.int .i64 trees), (.slice a1 dn c1), (.int .i64 at0), (.slice (some ⟨lb, loff, none⟩) ln lcap), (.int .i64 (dn : Int)), (.pointer (some ⟨lb, loff + dn * 4, none⟩)), (.pointer (some ⟨lb, loff + dn * 4 + 1, none⟩)), (.int .i64 N), (.int .i64 mx), (.int .i64 tk), (.agg #[.int .i64 1, .int .i64 tk, .int .i64 0, .int .i64 0]), x74, x75, x76, x77, x78, x79, x80, x81, x82, x83, x84, x85, x86, x87, x88, x89, x90, x91, x92, x93, x94, x95, x96, x97, x98], defers := df } W := by
 intro fuel
 induction fuel with
 | zero => intro b7 b8 b9 h; omega
 | succ fuel ih =>
  intro b7 b8 b9 hf s7 s8 s9 g7 g8 g9 W0 W hF hb hX h7 h8 h9
  have hHeld : (#[true, true, true, true, true, true, true, true, true, true, true, true, false, false, false, false, false, false, false, b7, b8, b9, false, false, false] : Array Bool).getD 22 true = true ∨ (fun W => W.cell? ⟨BN, 0, none⟩ = some nb ∧ W.cell? ⟨BN, 1, none⟩ = some nl ∧ W.cell? ⟨lb, loff + dn * 4 + 1, none⟩ = some (.int .i64 N)) W := Or.inr (hC W (hX.mono hlo))
  refine z_mem (rr12_rd1 b7 b8 b9) (by simp) (fun i hi => ?_)
  simp only [List.mem_cons, List.mem_append] at hi
  rcases hi with rfl | hi | hi | hi
  ·refine z_op (o := { dst := some 74, op := Op.buildSlice 26 1 #[(0, Operand.tmp 73)], type := 26, pos := "law.go:155", after := #[{ on := 11, ground := Ground.data }], guard := none }) rfl (fun K hK => ?_)
   go_simp
   have hn : Below W.heap.size W (W.alloc (.cells #[.int .i64 1, .int .i64 tk, .int .i64 0, .int .i64 0] 45)) := below_alloc1 _ _
   have hXn := hX.trans (hn.mono hX.size)
   refine hK.out _ _ (Or.inr (hC _ (hXn.mono hlo))) ?_
   (try simp only [List.setIfInBounds_toArray, List.set_cons_zero, List.set_cons_succ])
   exact rr12_2 df X BN nb nl trees at0 N mx tk a1 dn c1 ds lb loff ln lcap lo R x0 x5 x6 x7 x8 x14 x15 x16 x17 x18 x19 x20 x21 x22 x23 x24 x25 x26 x27 x28 x29 x30 x31 x32 x33 x34 x35 x36 x37 x38 x39 x40 x41 x42 x43 x44 x45 x46 x47 x48 x49 x50 x51 x52 x53 x54 x55 x56 x57 x58 x59 x60 x61 x75 x76 x77 x78 x79 x80 x81 x82 x83 x84 x85 x86 x87 x88 x89 x90 x91 x92 x93 x94 x95 x96 x97 x98 hQ hlo hC hO hdn hP fin fuel b7 b8 b9 (by omega) s7 s8 s9 g7 g8 g9 W.heap.size _ _ (heap_alloc_last _ _) (Below.refl _ _) hXn (h7.below hn) (h8.below hn) (h9.below hn)
  ·cases b7 with
   | true => simp at hi
   | false =>
    obtain rfl : i = 19 := by simpa using hi
    refine z_op (o := { dst := some 11, op := Op.alloc 25, type := 0, pos := "law.go:155", after := #[], guard := none }) rfl (fun K hK => ?_)
    go_simp
    have hn : Below W.heap.size W (W.alloc (.cells #[.slice none 0 0, .slice none 0 0] 25)) := below_alloc1 _ _
    have hXn := hX.trans (hn.mono hX.size)
    refine hK.out _ _ (Or.inr (hC _ (hXn.mono hlo))) ?_
    (try simp only [List.setIfInBounds_toArray, List.set_cons_zero, List.set_cons_succ])
    exact ih true b8 b9 (by revert hf; cases b8 <;> cases b9 <;> simp [cnt3] <;> omega) _ s8 s9 W.heap.size g8 g9 W0 _ hF (hb.trans (hn.mono hb.size)) hXn (AlF.new W hX.size _ _ _) (h8.below hn) (h9.below hn)
  ·cases b8 with
   | true => simp at hi
   | false =>
    obtain rfl : i = 20 := by simpa using hi
    refine z_op (o := { dst := some 12, op := Op.alloc 29, type := 0, pos := "law.go:155", after := #[], guard := none }) rfl (fun K hK => ?_)
    go_simp
    have hn : Below W.heap.size W (W.alloc (.cells #[.slice none 0 0] 29)) := below_alloc1 _ _
    have hXn := hX.trans (hn.mono hX.size)
    refine hK.out _ _ (Or.inr (hC _ (hXn.mono hlo))) ?_
    (try simp only [List.setIfInBounds_toArray, List.set_cons_zero, List.set_cons_succ])
    exact ih b7 true b9 (by revert hf; cases b7 <;> cases b9 <;> simp [cnt3] <;> omega) s7 _ s9 g7 W.heap.size g9 W0 _ hF (hb.trans (hn.mono hb.size)) hXn (h7.below hn) (AlF.new W hX.size _ _ _) (h9.below hn)
  ·cases b9 with
   | true => simp at hi
   | false =>
    obtain rfl : i = 21 := by simpa using hi
    refine z_op (o := { dst := some 13, op := Op.alloc 32, type := 0, pos := "law.go:155", after := #[], guard := none }) rfl (fun K hK => ?_)
    go_simp
    have hn : Below W.heap.size W (W.alloc (.cells #[.int .i64 0, .int .i64 0] 32)) := below_alloc1 _ _
    have hXn := hX.trans (hn.mono hX.size)
    refine hK.out _ _ (Or.inr (hC _ (hXn.mono hlo))) ?_
    (try simp only [List.setIfInBounds_toArray, List.set_cons_zero, List.set_cons_succ])
    exact ih b7 b8 true (by revert hf; cases b7 <;> cases b8 <;> simp [cnt3] <;> omega) s7 s8 _ g7 g8 W.heap.size W0 _ hF (hb.trans (hn.mono hb.size)) hXn (h7.below hn) (h8.below hn) (AlF.new W hX.size _ _ _)
include hQ hlo hC hO hdn hT hP fin in
set_option maxRecDepth 100000 in
set_option maxHeartbeats 1500000 in
theorem rr12_0 : ∀ (fuel : Nat) (b7 b8 b9 : Bool), 11 + cnt3 b7 b8 b9 ≤ fuel → ∀ (s7 s8 s9 : Value) (g7 g8 g9 : Nat) (W0 W : World), True → Below W0.heap.size W0 W → Below X.heap.size X W → AlF W X.heap.size b7 s7 g7 #[.slice none 0 0, .slice none 0 0] 25 → AlF W X.heap.size b8 s8 g8 #[.slice none 0 0] 29 → AlF W X.heap.size b9 s9 g9 #[.int .i64 0, .int .i64 0] 32 → wpAnyZ Tryz.prog .any rr12_ops Q 22 (fun W => W.cell? ⟨BN, 0, none⟩ = some nb ∧ W.cell? ⟨BN, 1, none⟩ = some nl ∧ W.cell? ⟨lb, loff + dn * 4 + 1, none⟩ = some (.int .i64 N)) fuel #[true, true, true, true, true, true, true, true, true, true, true, false, false, false, false, false, false, false, false, b7, b8, b9, false, false, false] { tmps := #[x0, (.int .i64 trees), (.slice (some ⟨lb, loff, none⟩) ln lcap), (.int .i64 at0), (.pointer (some ⟨BN, 0, none⟩)), x5, x6, x7, x8, (.int .i64 (dn : Int)), (.slice a1 dn c1), s7, s8, s9, x14, x15, x16, x17, x18, x19, x20, x21, x22, x23, x24, x25, x26, x27, x28, x29, x30, x31, x32, x33, x34, x35, x36, x37, x38, x39, x40, x41, x42, x43, x44, x45, x46, x47, x48, x49, x50, x51, x52, x53, x54, x55, x56, x57, x58, x59, x60, x61, (.agg #[nb, nl]), (.int .i64 trees), (.slice a1 dn c1), (.int .i64 at0), (.slice (some ⟨lb, loff, none⟩) ln lcap), (.int .i64 (dn : Int)), (.pointer (some ⟨lb, loff + dn * 4, none⟩)), (.pointer (some ⟨lb, loff + dn * 4 + 1, none⟩)), (.int .i64 N), (.int .i64 mx), (.int .i64 tk), x73, x74, x75, x76, x77, x78, x79, x80, x81, x82, x83, x84, x85, x86, x87, x88, x89, x90, x91, x92, x93, x94, x95, x96, x97, x98], defers := df } W := by
 intro fuel
 induction fuel with
 | zero => intro b7 b8 b9 h; omega
 | succ fuel ih =>
  intro b7 b8 b9 hf s7 s8 s9 g7 g8 g9 W0 W hF hb hX h7 h8 h9
  have hHeld : (#[true, true, true, true, true, true, true, true, true, true, true, false, false, false, false, false, false, false, false, b7, b8, b9, false, false, false] : Array Bool).getD 22 true = true ∨ (fun W => W.cell? ⟨BN, 0, none⟩ = some nb ∧ W.cell? ⟨BN, 1, none⟩ = some nl ∧ W.cell? ⟨lb, loff + dn * 4 + 1, none⟩ = some (.int .i64 N)) W := Or.inr (hC W (hX.mono hlo))
  refine z_mem (rr12_rd0 b7 b8 b9) (by simp) (fun i hi => ?_)
  simp only [List.mem_cons, List.mem_append] at hi
  rcases hi with rfl | hi | hi | hi
  ·refine z_op (o := { dst := some 73, op := Op.call { callee := Callee.value (Operand.func 23), args := #[Operand.tmp 72], argTypes := #[3] }, type := 45, pos := "law.go:155", after := #[{ on := 10, ground := Ground.data }], guard := none }) rfl (fun K hK => ?_)
   go_simp
   refine (hT W _).mono ?_
   rintro e w2 ⟨rfl, hn⟩
   have hXn := hX.trans (hn.mono hX.size)
   refine hK.out _ _ (Or.inr (hC _ (hXn.mono hlo))) ?_
   (try simp only [List.setIfInBounds_toArray, List.set_cons_zero, List.set_cons_succ])
   exact rr12_1 df X BN nb nl trees at0 N mx tk a1 dn c1 ds lb loff ln lcap lo R x0 x5 x6 x7 x8 x14 x15 x16 x17 x18 x19 x20 x21 x22 x23 x24 x25 x26 x27 x28 x29 x30 x31 x32 x33 x34 x35 x36 x37 x38 x39 x40 x41 x42 x43 x44 x45 x46 x47 x48 x49 x50 x51 x52 x53 x54 x55 x56 x57 x58 x59 x60 x61 x74 x75 x76 x77 x78 x79 x80 x81 x82 x83 x84 x85 x86 x87 x88 x89 x90 x91 x92 x93 x94 x95 x96 x97 x98 hQ hlo hC hO hdn hP fin fuel b7 b8 b9 (by omega) s7 s8 s9 g7 g8 g9 W0 w2 hF (hb.trans (hn.mono hb.size)) hXn (h7.below hn) (h8.below hn) (h9.below hn)
  ·cases b7 with
   | true => simp at hi
   | false =>
    obtain rfl : i = 19 := by simpa using hi
    refine z_op (o := { dst := some 11, op := Op.alloc 25, type := 0, pos := "law.go:155", after := #[], guard := none }) rfl (fun K hK => ?_)
    go_simp
    have hn : Below W.heap.size W (W.alloc (.cells #[.slice none 0 0, .slice none 0 0] 25)) := below_alloc1 _ _
    have hXn := hX.trans (hn.mono hX.size)
    refine hK.out _ _ (Or.inr (hC _ (hXn.mono hlo))) ?_
    (try simp only [List.setIfInBounds_toArray, List.set_cons_zero, List.set_cons_succ])
    exact ih true b8 b9 (by revert hf; cases b8 <;> cases b9 <;> simp [cnt3] <;> omega) _ s8 s9 W.heap.size g8 g9 W0 _ hF (hb.trans (hn.mono hb.size)) hXn (AlF.new W hX.size _ _ _) (h8.below hn) (h9.below hn)
  ·cases b8 with
   | true => simp at hi
   | false =>
    obtain rfl : i = 20 := by simpa using hi
    refine z_op (o := { dst := some 12, op := Op.alloc 29, type := 0, pos := "law.go:155", after := #[], guard := none }) rfl (fun K hK => ?_)
    go_simp
    have hn : Below W.heap.size W (W.alloc (.cells #[.slice none 0 0] 29)) := below_alloc1 _ _
    have hXn := hX.trans (hn.mono hX.size)
    refine hK.out _ _ (Or.inr (hC _ (hXn.mono hlo))) ?_
    (try simp only [List.setIfInBounds_toArray, List.set_cons_zero, List.set_cons_succ])
    exact ih b7 true b9 (by revert hf; cases b7 <;> cases b9 <;> simp [cnt3] <;> omega) s7 _ s9 g7 W.heap.size g9 W0 _ hF (hb.trans (hn.mono hb.size)) hXn (h7.below hn) (AlF.new W hX.size _ _ _) (h9.below hn)
  ·cases b9 with
   | true => simp at hi
   | false =>
    obtain rfl : i = 21 := by simpa using hi
    refine z_op (o := { dst := some 13, op := Op.alloc 32, type := 0, pos := "law.go:155", after := #[], guard := none }) rfl (fun K hK => ?_)
    go_simp
    have hn : Below W.heap.size W (W.alloc (.cells #[.int .i64 0, .int .i64 0] 32)) := below_alloc1 _ _
    have hXn := hX.trans (hn.mono hX.size)
    refine hK.out _ _ (Or.inr (hC _ (hXn.mono hlo))) ?_
    (try simp only [List.setIfInBounds_toArray, List.set_cons_zero, List.set_cons_succ])
    exact ih b7 b8 true (by revert hf; cases b7 <;> cases b8 <;> simp [cnt3] <;> omega) s7 s8 _ g7 g8 W.heap.size W0 _ hF (hb.trans (hn.mono hb.size)) hXn (h7.below hn) (h8.below hn) (AlF.new W hX.size _ _ _)
include hQ hlo hC hO hdn hT hP fin hmx hmn hi0 in
set_option maxHeartbeats 1500000 in
theorem rr12 (x11 x12 x13 x62 x63 x64 x65 x66 x67 x68 x69 x70 x71 x72 : Value) : (Code.region 12 rr12_ops true).wp Tryz.prog Q { tmps := #[x0, (.int .i64 trees), (.slice (some ⟨lb, loff, none⟩) ln lcap), (.int .i64 at0), (.pointer (some ⟨BN, 0, none⟩)), x5, x6, x7, x8, (.int .i64 (dn : Int)), (.slice a1 dn c1), x11, x12, x13, x14, x15, x16, x17, x18, x19, x20, x21, x22, x23, x24, x25, x26, x27, x28, x29, x30, x31, x32, x33, x34, x35, x36, x37, x38, x39, x40, x41, x42, x43, x44, x45, x46, x47, x48, x49, x50, x51, x52, x53, x54, x55, x56, x57, x58, x59, x60, x61, x62, x63, x64, x65, x66, x67, x68, x69, x70, x71, x72, x73, x74, x75, x76, x77, x78, x79, x80, x81, x82, x83, x84, x85, x86, x87, x88, x89, x90, x91, x92, x93, x94, x95, x96, x97, x98], defers := df } X := by
 have hXd : Below X.heap.size X X.drew := Below.drew (Below.refl _ _)
 have hc := hC X (Below.refl _ _)
 refine wp_region_z (z := 22) (C := fun W => W.cell? ⟨BN, 0, none⟩ = some nb ∧ W.cell? ⟨BN, 1, none⟩ = some nl ∧ W.cell? ⟨lb, loff + dn * 4 + 1, none⟩ = some (.int .i64 N)) (by kernel_rfl) (hC _ (hXd.mono hlo)) (fun hHeld => ?_)
 refine z_load (i := 0) (oi := { dst := some 62, op := Op.load 25 (Operand.tmp 4), type := 25, pos := "law.go:155", after := #[], guard := none }) (v := .agg #[nb, nl]) (some 62) rfl rfl (by kernel_rfl) (by kernel_rfl) (by kernel_rfl) (by kernel_rfl) (fun c a w h => hQ c a _ _ w h) (by rfl) ?_ hHeld ?_
 ·(intro wq hSw; go_simp; try with_reducible rfl)
 (try simp only [Act.put, List.setIfInBounds_toArray, List.set_cons_zero, List.set_cons_succ])
 refine z_take (i := 1) (oi := { dst := some 63, op := Op.move (Operand.tmp 1), type := 3, pos := "law.go:155", after := #[], guard := none }) (v := .int .i64 trees) (some 63) rfl rfl (by kernel_rfl) (by kernel_rfl) (by kernel_rfl) (by decide) (fun c a w h => hQ c a _ _ w h) (by rfl) ?_ hHeld ?_
 ·(intro wq; go_simp; try with_reducible rfl)
 (try simp only [Act.put, List.setIfInBounds_toArray, List.set_cons_zero, List.set_cons_succ])
 refine z_take (i := 2) (oi := { dst := some 64, op := Op.move (Operand.tmp 10), type := 26, pos := "law.go:155", after := #[], guard := none }) (v := .slice a1 dn c1) (some 64) rfl rfl (by kernel_rfl) (by kernel_rfl) (by kernel_rfl) (by decide) (fun c a w h => hQ c a _ _ w h) (by rfl) ?_ hHeld ?_
 ·(intro wq; go_simp; try with_reducible rfl)
 (try simp only [Act.put, List.setIfInBounds_toArray, List.set_cons_zero, List.set_cons_succ])
 refine z_take (i := 3) (oi := { dst := some 65, op := Op.move (Operand.tmp 3), type := 3, pos := "law.go:155", after := #[], guard := none }) (v := .int .i64 at0) (some 65) rfl rfl (by kernel_rfl) (by kernel_rfl) (by kernel_rfl) (by decide) (fun c a w h => hQ c a _ _ w h) (by rfl) ?_ hHeld ?_
 ·(intro wq; go_simp; try with_reducible rfl)
 (try simp only [Act.put, List.setIfInBounds_toArray, List.set_cons_zero, List.set_cons_succ])
 refine z_take (i := 4) (oi := { dst := some 66, op := Op.move (Operand.tmp 2), type := 26, pos := "law.go:155", after := #[], guard := none }) (v := .slice (some ⟨lb, loff, none⟩) ln lcap) (some 66) rfl rfl (by kernel_rfl) (by kernel_rfl) (by kernel_rfl) (by decide) (fun c a w h => hQ c a _ _ w h) (by rfl) ?_ hHeld ?_
 ·(intro wq; go_simp; try with_reducible rfl)
 (try simp only [Act.put, List.setIfInBounds_toArray, List.set_cons_zero, List.set_cons_succ])
 refine z_take (i := 5) (oi := { dst := some 67, op := Op.move (Operand.tmp 9), type := 3, pos := "law.go:155", after := #[], guard := none }) (v := .int .i64 (dn : Int)) (some 67) rfl rfl (by kernel_rfl) (by kernel_rfl) (by kernel_rfl) (by decide) (fun c a w h => hQ c a _ _ w h) (by rfl) ?_ hHeld ?_
 ·(intro wq; go_simp; try with_reducible rfl)
 (try simp only [Act.put, List.setIfInBounds_toArray, List.set_cons_zero, List.set_cons_succ])
 refine z_take (i := 6) (oi := { dst := some 68, op := Op.indexAddr 26 (Operand.tmp 66) (Operand.tmp 67), type := 0, pos := "law.go:155", after := #[{ on := 4, ground := Ground.data }, { on := 5, ground := Ground.data }], guard := none }) (v := .pointer (some ⟨lb, loff + dn * 4, none⟩)) (some 68) rfl rfl (by kernel_rfl) (by kernel_rfl) (by kernel_rfl) (by decide) (fun c a w h => hQ c a _ _ w h) (by rfl) ?_ hHeld ?_
 ·(intro wq; go_simp; try with_reducible rfl)
 (try simp only [Act.put, List.setIfInBounds_toArray, List.set_cons_zero, List.set_cons_succ])
 refine z_take (i := 7) (oi := { dst := some 69, op := Op.fieldAddr 45 (Operand.tmp 68) 1, type := 0, pos := "law.go:155", after := #[{ on := 6, ground := Ground.data }], guard := none }) (v := .pointer (some ⟨lb, loff + dn * 4 + 1, none⟩)) (some 69) rfl rfl (by kernel_rfl) (by kernel_rfl) (by kernel_rfl) (by decide) (fun c a w h => hQ c a _ _ w h) (by rfl) ?_ hHeld ?_
 ·(intro wq; go_simp; try with_reducible rfl)
 (try simp only [Act.put, List.setIfInBounds_toArray, List.set_cons_zero, List.set_cons_succ])
 refine z_load (i := 8) (oi := { dst := some 70, op := Op.load 3 (Operand.tmp 69), type := 3, pos := "law.go:155", after := #[{ on := 7, ground := Ground.data }], guard := none }) (v := .int .i64 N) (some 70) rfl rfl (by kernel_rfl) (by kernel_rfl) (by kernel_rfl) (by kernel_rfl) (fun c a w h => hQ c a _ _ w h) (by rfl) ?_ hHeld ?_
 ·(intro wq hSw; go_simp; try with_reducible rfl)
 (try simp only [Act.put, List.setIfInBounds_toArray, List.set_cons_zero, List.set_cons_succ])
 refine z_take (i := 9) (oi := { dst := some 71, op := Op.call { callee := Callee.builtin Builtin.max, args := #[Operand.tmp 70, Operand.const (Value.int IntKind.i64 0)], argTypes := #[3, 3] }, type := 3, pos := "law.go:155", after := #[{ on := 8, ground := Ground.data }], guard := none }) (v := .int .i64 mx) (some 71) rfl rfl (by kernel_rfl) (by kernel_rfl) (by kernel_rfl) (by decide) (fun c a w h => hQ c a _ _ w h) (by rfl) ?_ hHeld ?_
 ·(intro wq; go_simp; try with_reducible rfl)
 (try simp only [Act.put, List.setIfInBounds_toArray, List.set_cons_zero, List.set_cons_succ])
 refine z_take (i := 10) (oi := { dst := some 72, op := Op.call { callee := Callee.builtin Builtin.min, args := #[Operand.tmp 65, Operand.tmp 71], argTypes := #[3, 3] }, type := 3, pos := "law.go:155", after := #[{ on := 3, ground := Ground.data }, { on := 9, ground := Ground.data }], guard := none }) (v := .int .i64 tk) (some 72) rfl rfl (by kernel_rfl) (by kernel_rfl) (by kernel_rfl) (by decide) (fun c a w h => hQ c a _ _ w h) (by rfl) ?_ hHeld ?_
 ·(intro wq; go_simp; try with_reducible rfl)
 (try simp only [Act.put, List.setIfInBounds_toArray, List.set_cons_zero, List.set_cons_succ])
 exact rr12_0 df X BN nb nl trees at0 N mx tk a1 dn c1 ds lb loff ln lcap lo R x0 x5 x6 x7 x8 x14 x15 x16 x17 x18 x19 x20 x21 x22 x23 x24 x25 x26 x27 x28 x29 x30 x31 x32 x33 x34 x35 x36 x37 x38 x39 x40 x41 x42 x43 x44 x45 x46 x47 x48 x49 x50 x51 x52 x53 x54 x55 x56 x57 x58 x59 x60 x61 x73 x74 x75 x76 x77 x78 x79 x80 x81 x82 x83 x84 x85 x86 x87 x88 x89 x90 x91 x92 x93 x94 x95 x96 x97 x98 hQ hlo hC hO hdn hT hP fin _ false false false (by simp [cnt3]) _ _ _ 0 0 0 X _ trivial hXd hXd (fun e => by cases e) (fun e => by cases e) (fun e => by cases e)
end
end Go.Proofs.YtaneiffnhphkhaaGreatDoor
