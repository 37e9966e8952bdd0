/- 'hedgetop.TopGhost' returns true for every two numbers, and leaves it as it was: the row and its tied card. Conditions: none beyond the form's own (the tables lie as the program's text lays them: the card's tie). -/
import Derived.Test.YtflghpnpjmodaaaGreatDoorK36
import Derived.Test.YtflghpnpjmodaaaGreatDoorK39
import Derived.Test.YtflghpnpjmodaaaGreatDoorCards
import Derived.Test.YtflghpnpjmodaaaGreatDoorTie
import Derived.Test.YtflghpnpjmodaaaGreatDoorK02
namespace Go.Proofs.YtflghpnpjmodaaaGreatDoor
open Go.RowKit
open Tk (Dn)

section
variable {Q : Exit → Act → World → Prop} (df : List Deferred) (X : World) (BN : Nat) (nb nl : Value) (x y tk : Int)
variable (R : World → World → Option Addr → Nat → Nat → Option Addr → Nat → Nat → Option Addr → Nat → Nat → Int → Int → Prop)
variable (x0 x2 x3 x4 x9 x10 x11 x12 x13 x14 x15 x16 x17 x18 x19 x20 x21 x22 x23 x24 x25 x26 x27 x28 x29 x30 x32 x37 x38 x39 x40 x41 x42 x43 x44 x45 x46 x47 x48 x49 x50 x51 x52 x53 x54 x55 x56 x57 x58 x59 x60 x61 x62 x63 x64 x65 x66 x67 x68 x69 x70 : Value)
def ur5_ops : Array Oper := #[{ dst := some 31, op := Op.load 32 (Operand.tmp 5), type := 32, pos := "top.go:135", after := #[], guard := none }, { dst := some 32, op := Op.call { callee := Callee.value (Operand.func 16), args := #[Operand.const (Value.int IntKind.i64 50)], argTypes := #[3] }, type := 47, pos := "top.go:135", after := #[], guard := none }, { dst := some 33, op := Op.build 47 #[(0, Operand.const (Value.int IntKind.i64 3)), (1, Operand.const (Value.int IntKind.i64 0))], type := 47, pos := "top.go:135", after := #[], guard := none }, { dst := some 34, op := Op.move (Operand.tmp 1), type := 3, pos := "top.go:135", after := #[], guard := none }, { dst := some 35, op := Op.binOp BinOp.rem 3 (Operand.tmp 34) (Operand.const (Value.int IntKind.i64 50)) 3, type := 3, pos := "top.go:135", after := #[{ on := 3, ground := Ground.data }], guard := none }, { dst := some 36, op := Op.binOp BinOp.add 3 (Operand.const (Value.int IntKind.i64 21)) (Operand.tmp 35) 3, type := 3, pos := "top.go:135", after := #[{ on := 4, ground := Ground.data }], guard := none }, { dst := some 37, op := Op.call { callee := Callee.value (Operand.func 16), args := #[Operand.tmp 36], argTypes := #[3] }, type := 47, pos := "top.go:135", after := #[{ on := 5, ground := Ground.data }, { on := 1, ground := Ground.chain }], guard := none }, { dst := some 38, op := Op.buildSlice 49 3 #[(0, Operand.tmp 32), (1, Operand.tmp 33), (2, Operand.tmp 37)], type := 49, pos := "top.go:135", after := #[{ on := 1, ground := Ground.data }, { on := 2, ground := Ground.data }, { on := 6, ground := Ground.data }], guard := none }, { dst := some 39, op := Op.call { callee := Callee.value (Operand.func 15), args := #[Operand.tmp 31, Operand.const (Value.int IntKind.i64 1), Operand.tmp 38], argTypes := #[32, 3, 49] }, type := 44, pos := "top.go:135", after := #[{ on := 0, ground := Ground.data }, { on := 7, ground := Ground.data }, { on := 6, ground := Ground.chain }], guard := none }, { dst := some 30, op := Op.move (Operand.tmp 39), type := 44, pos := "top.go:135", after := #[{ on := 8, ground := Ground.data }], guard := none }, { dst := some 40, op := Op.extract (Operand.tmp 30) 0, type := 32, pos := "top.go:135", after := #[{ on := 9, ground := Ground.data }], guard := none }, { dst := some 41, op := Op.extract (Operand.tmp 30) 1, type := 43, pos := "top.go:135", after := #[{ on := 9, ground := Ground.data }, { on := 16, ground := Ground.gcOnly Departure.lateStores }], guard := none }, { dst := some 42, op := Op.extract (Operand.tmp 30) 2, type := 26, pos := "top.go:135", after := #[{ on := 9, ground := Ground.data }, { on := 17, ground := Ground.gcOnly Departure.lateStores }], guard := none }, { dst := some 6, op := Op.alloc 32, type := 0, pos := "top.go:135", after := #[], guard := none }, { dst := some 7, op := Op.alloc 43, type := 0, pos := "top.go:135", after := #[], guard := none }, { dst := some 8, op := Op.alloc 26, type := 0, pos := "top.go:135", after := #[], guard := none }, { dst := none, op := Op.store 32 (Operand.tmp 6) (Operand.tmp 40), type := 0, pos := "top.go:135", after := #[{ on := 13, ground := Ground.data }, { on := 10, ground := Ground.data }, { on := 8, ground := Ground.chain }, { on := 0, ground := Ground.phase }, { on := 1, ground := Ground.phase }, { on := 2, ground := Ground.phase }, { on := 3, ground := Ground.phase }, { on := 4, ground := Ground.phase }, { on := 5, ground := Ground.phase }, { on := 6, ground := Ground.phase }, { on := 7, ground := Ground.phase }, { on := 8, ground := Ground.phase }, { on := 9, ground := Ground.phase }, { on := 10, ground := Ground.phase }, { on := 11, ground := Ground.textOnly Departure.lateStores }, { on := 12, ground := Ground.textOnly Departure.lateStores }, { on := 13, ground := Ground.phase }, { on := 14, ground := Ground.phase }, { on := 15, ground := Ground.phase }], guard := none }, { dst := none, op := Op.store 43 (Operand.tmp 7) (Operand.tmp 41), type := 0, pos := "top.go:135", after := #[{ on := 14, ground := Ground.data }, { on := 11, ground := Ground.data }, { on := 16, ground := Ground.chain }, { on := 0, ground := Ground.phase }, { on := 1, ground := Ground.phase }, { on := 2, ground := Ground.phase }, { on := 3, ground := Ground.phase }, { on := 4, ground := Ground.phase }, { on := 5, ground := Ground.phase }, { on := 6, ground := Ground.phase }, { on := 7, ground := Ground.phase }, { on := 8, ground := Ground.phase }, { on := 9, ground := Ground.phase }, { on := 10, ground := Ground.phase }, { on := 11, ground := Ground.phase }, { on := 12, ground := Ground.textOnly Departure.lateStores }, { on := 13, ground := Ground.phase }, { on := 14, ground := Ground.phase }, { on := 15, ground := Ground.phase }, { on := 16, ground := Ground.phase }], guard := none }, { dst := none, op := Op.store 26 (Operand.tmp 8) (Operand.tmp 42), type := 0, pos := "top.go:135", after := #[{ on := 15, ground := Ground.data }, { on := 12, ground := Ground.data }, { on := 17, ground := Ground.chain }, { on := 0, ground := Ground.phase }, { on := 1, ground := Ground.phase }, { on := 2, ground := Ground.phase }, { on := 3, ground := Ground.phase }, { on := 4, ground := Ground.phase }, { on := 5, ground := Ground.phase }, { on := 6, ground := Ground.phase }, { on := 7, ground := Ground.phase }, { on := 8, ground := Ground.phase }, { on := 9, ground := Ground.phase }, { on := 10, ground := Ground.phase }, { on := 11, ground := Ground.phase }, { on := 12, ground := Ground.phase }, { on := 13, ground := Ground.phase }, { on := 14, ground := Ground.phase }, { on := 15, ground := Ground.phase }, { on := 16, ground := Ground.phase }, { on := 17, ground := Ground.phase }], guard := none }]
variable (hQ : ∀ c (a : Act) (d : Tmp) (v : Value) (w : World), Q (.panic c) (a.put (some d) v) w → Q (.panic c) a w)
variable (hC : ∀ V, Below X.heap.size X V → V.cell? ⟨BN, 0, none⟩ = some nb ∧ V.cell? ⟨BN, 1, none⟩ = some nl)
variable (hy : x.tmod 50 = y) (htk : IntKind.i64.wrap (21 + y) = tk)
variable (hT : ∀ V tk, Calls Tryz.prog 16 #[.int .i64 tk] V fun e w' => e = .returned (.agg #[.int .i64 1, .int .i64 tk, .int .i64 0, .int .i64 0]) ∧ Below V.heap.size V w')
variable (hP : ∀ V g, Below X.heap.size X V → V.heap[g]? = some (.cells #[.int .i64 1, .int .i64 50, .int .i64 0, .int .i64 0, .int .i64 3, .int .i64 0, .int .i64 0, .int .i64 0, .int .i64 1, .int .i64 tk, .int .i64 0, .int .i64 0] 47 (0, 0)) → Calls Tryz.prog 15 #[.agg #[nb, nl], .int .i64 1, .slice (some ⟨g, 0, none⟩) 3 3] V fun e w' => ∃ na nk nc la lk lc oa ol oc f1 f2, e = .returned (.tuple #[.agg #[.slice na nk nc, .slice la lk lc], .agg #[.slice oa ol oc], .agg #[.int .i64 f1, .int .i64 f2]]) ∧ Hid (Below V.heap.size V w' ∧ R V w' na nk nc la lk lc oa ol oc f1 f2))
variable (fin : ∀ (gt : Nat) (V : World) (na : Option Addr) (nk nc : Nat) (la : Option Addr) (lk lc : Nat) (oa : Option Addr) (ol oc : Nat) (f1 f2 : Int) (g7 g8 g9 : Nat) (W0 W : World), R V W0 na nk nc la lk lc oa ol oc f1 f2 → Below W0.heap.size W0 W → Below X.heap.size X W → (W.heap[g7]? = some (.cells #[.slice none 0 0, .slice none 0 0] 32 (0, 0)) ∧ W.heap[g8]? = some (.cells #[.slice none 0 0] 43 (0, 0)) ∧ W.heap[g9]? = some (.cells #[.int .i64 0, .int .i64 0] 26 (0, 0))) → (X.heap.size ≤ g7 ∧ X.heap.size ≤ g8 ∧ X.heap.size ≤ g9) → ((g7 < V.heap.size ∨ W0.heap.size ≤ g7) ∧ (g8 < V.heap.size ∨ W0.heap.size ≤ g8) ∧ (g9 < V.heap.size ∨ W0.heap.size ≤ g9)) → Q .normal { tmps := #[x0, (.int .i64 x), x2, x3, x4, (.pointer (some ⟨BN, 0, none⟩)), (.pointer (some ⟨g7, 0, none⟩)), (.pointer (some ⟨g8, 0, none⟩)), (.pointer (some ⟨g9, 0, none⟩)), x9, x10, x11, x12, x13, x14, x15, x16, x17, x18, x19, x20, x21, x22, x23, x24, x25, x26, x27, x28, x29, (.tuple #[.agg #[.slice na nk nc, .slice la lk lc], .agg #[.slice oa ol oc], .agg #[.int .i64 f1, .int .i64 f2]]), (.agg #[nb, nl]), (.agg #[.int .i64 1, .int .i64 50, .int .i64 0, .int .i64 0]), (.agg #[.int .i64 3, .int .i64 0, .int .i64 0, .int .i64 0]), (.int .i64 x), (.int .i64 y), (.int .i64 tk), (.agg #[.int .i64 1, .int .i64 tk, .int .i64 0, .int .i64 0]), (.slice (some ⟨gt, 0, none⟩) 3 3), (.tuple #[.agg #[.slice na nk nc, .slice la lk lc], .agg #[.slice oa ol oc], .agg #[.int .i64 f1, .int .i64 f2]]), (.agg #[.slice na nk nc, .slice la lk lc]), (.agg #[.slice oa ol oc]), (.agg #[.int .i64 f1, .int .i64 f2]), x43, x44, x45, x46, x47, x48, x49, x50, x51, x52, x53, x54, x55, x56, x57, x58, x59, x60, x61, x62, x63, x64, x65, x66, x67, x68, x69, x70], defers := df } (((((W.setCell ⟨g7, 0, none⟩ (.slice na nk nc)).setCell ⟨g7, 1, none⟩ (.slice la lk lc)).setCell ⟨g8, 0, none⟩ (.slice oa ol oc)).setCell ⟨g9, 0, none⟩ (.int .i64 f1)).setCell ⟨g9, 1, none⟩ (.int .i64 f2)))
set_option maxRecDepth 100000
theorem ur5_rd0 (b7 b8 b9 : Bool) : Region.ready .any ur5_ops #[true, false, true, true, true, true, false, false, false, false, false, false, false, b7, b8, b9, false, false, false] = (1 :: ((if b7 then [] else [13]) ++ ((if b8 then [] else [14]) ++ (if b9 then [] else [15]))) : List Nat) := by
  cases b7 <;> cases b8 <;> cases b9 <;> kernel_rfl
theorem ur5_rd1 (b7 b8 b9 : Bool) : Region.ready .any ur5_ops #[true, true, true, true, true, true, false, false, false, false, false, false, false, b7, b8, b9, false, false, false] = (6 :: ((if b7 then [] else [13]) ++ ((if b8 then [] else [14]) ++ (if b9 then [] else [15]))) : List Nat) := by
  cases b7 <;> cases b8 <;> cases b9 <;> kernel_rfl
theorem ur5_rd2 (b7 b8 b9 : Bool) : Region.ready .any ur5_ops #[true, true, true, true, true, true, true, false, false, false, false, false, false, b7, b8, b9, false, false, false] = (7 :: ((if b7 then [] else [13]) ++ ((if b8 then [] else [14]) ++ (if b9 then [] else [15]))) : List Nat) := by
  cases b7 <;> cases b8 <;> cases b9 <;> kernel_rfl
theorem ur5_rd3 (b7 b8 b9 : Bool) : Region.ready .any ur5_ops #[true, true, true, true, true, true, true, true, false, false, false, false, false, b7, b8, b9, false, false, false] = (8 :: ((if b7 then [] else [13]) ++ ((if b8 then [] else [14]) ++ (if b9 then [] else [15]))) : List Nat) := by
  cases b7 <;> cases b8 <;> cases b9 <;> kernel_rfl
theorem ur5_rd4 (b7 b8 b9 : Bool) : Region.ready .any ur5_ops #[true, true, true, true, true, true, true, true, true, true, true, true, true, b7, b8, b9, false, false, false] = (if (b7 && (b8 && b9)) = true then [16] else (if b7 then [] else [13]) ++ ((if b8 then [] else [14]) ++ (if b9 then [] else [15])) : List Nat) := by
  cases b7 <;> cases b8 <;> cases b9 <;> kernel_rfl
include hC fin in
set_option maxRecDepth 100000 in
set_option maxHeartbeats 1500000 in
theorem ur5_4 : ∀ (fuel : Nat) (b7 b8 b9 : Bool), 3 + cnt3 b7 b8 b9 ≤ fuel → ∀ (s7 s8 s9 : Value) (g7 g8 g9 : Nat) (gt : Nat) (V : World) (na : Option Addr) (nk nc : Nat) (la : Option Addr) (lk lc : Nat) (oa : Option Addr) (ol oc : Nat) (f1 f2 : Int) (W0 W : World), R V W0 na nk nc la lk lc oa ol oc f1 f2 → Below W0.heap.size W0 W → Below X.heap.size X W → AlF W X.heap.size b7 s7 g7 #[.slice none 0 0, .slice none 0 0] 32 → AlF W X.heap.size b8 s8 g8 #[.slice none 0 0] 43 → AlF W X.heap.size b9 s9 g9 #[.int .i64 0, .int .i64 0] 26 → (b7 = true → g7 < V.heap.size ∨ W0.heap.size ≤ g7) → (b8 = true → g8 < V.heap.size ∨ W0.heap.size ≤ g8) → (b9 = true → g9 < V.heap.size ∨ W0.heap.size ≤ g9) → wpAnyZ Tryz.prog .any ur5_ops Q 16 (fun W => W.cell? ⟨BN, 0, none⟩ = some nb ∧ W.cell? ⟨BN, 1, none⟩ = some nl) fuel #[true, true, true, true, true, true, true, true, true, true, true, true, true, b7, b8, b9, false, false, false] { tmps := #[x0, (.int .i64 x), x2, x3, x4, (.pointer (some ⟨BN, 0, none⟩)), s7, s8, s9, x9, x10, x11, x12, x13, x14, x15, x16, x17, x18, x19, x20, x21, x22, x23, x24, x25, x26, x27, x28, x29, (.tuple #[.agg #[.slice na nk nc, .slice la lk lc], .agg #[.slice oa ol oc], .agg #[.int .i64 f1, .int .i64 f2]]), (.agg #[nb, nl]), (.agg #[.int .i64 1, .int .i64 50, .int .i64 0, .int .i64 0]), (.agg #[.int .i64 3, .int .i64 0, .int .i64 0, .int .i64 0]), (.int .i64 x), (.int .i64 y), (.int .i64 tk), (.agg #[.int .i64 1, .int .i64 tk, .int .i64 0, .int .i64 0]), (.slice (some ⟨gt, 0, none⟩) 3 3), (.tuple #[.agg #[.slice na nk nc, .slice la lk lc], .agg #[.slice oa ol oc], .agg #[.int .i64 f1, .int .i64 f2]]), (.agg #[.slice na nk nc, .slice la lk lc]), (.agg #[.slice oa ol oc]), (.agg #[.int .i64 f1, .int .i64 f2]), x43, x44, x45, x46, x47, x48, x49, x50, x51, x52, x53, x54, x55, x56, x57, x58, x59, x60, x61, x62, x63, x64, x65, x66, x67, x68, x69, x70], defers := df } W := by
  intro fuel
  induction fuel with
  | zero => intro b7 b8 b9 h; omega
  | succ fuel ih =>
    intro b7 b8 b9 hf s7 s8 s9 g7 g8 g9 gt V na nk nc la lk lc oa ol oc f1 f2 W0 W hF hb hX h7 h8 h9 hz7 hz8 hz9 
    have hHeld : (#[true, true, true, true, true, true, true, true, true, true, true, true, true, b7, b8, b9, false, false, false] : Array Bool).getD 16 true = true ∨ (fun W => W.cell? ⟨BN, 0, none⟩ = some nb ∧ W.cell? ⟨BN, 1, none⟩ = some nl) W := Or.inr (hC W hX)
    by_cases hall : b7 = true ∧ b8 = true ∧ b9 = true
    · obtain ⟨rfl, rfl, rfl⟩ := hall
      obtain ⟨rfl, k7, l7⟩ := h7 rfl
      obtain ⟨rfl, k8, l8⟩ := h8 rfl
      obtain ⟨rfl, k9, l9⟩ := h9 rfl
      have hfin := fin gt V na nk nc la lk lc oa ol oc f1 f2 g7 g8 g9 W0 W hF hb hX ⟨k7, k8, k9⟩ ⟨l7, l8, l9⟩ ⟨hz7 rfl, hz8 rfl, hz9 rfl⟩
      have n78 : g7 ≠ g8 := fun e => by subst e; exact absurd (cells_type k7 k8) (by decide)
      have n79 : g7 ≠ g9 := fun e => by subst e; exact absurd (cells_type k7 k9) (by decide)
      have n89 : g8 ≠ g9 := fun e => by subst e; exact absurd (cells_type k8 k9) (by decide)
      have n87 := n78.symm
      have n97 := n79.symm
      have n98 := n89.symm
      obtain ⟨u0, u1⟩ := two_cells2 k7
      have u2 := one_cell k8
      obtain ⟨u3, u4⟩ := two_cells2 k9
      have v0 : W.frozen? ⟨g7, 0, none⟩ = false := frozen_of_row _ _ _ _ _ k7
      have v1 : W.frozen? ⟨g7, 1, none⟩ = false := frozen_of_row _ _ _ _ _ k7
      have v2 : W.frozen? ⟨g8, 0, none⟩ = false := frozen_of_row _ _ _ _ _ k8
      have v3 : W.frozen? ⟨g9, 0, none⟩ = false := frozen_of_row _ _ _ _ _ k9
      have v4 : W.frozen? ⟨g9, 1, none⟩ = false := frozen_of_row _ _ _ _ _ k9
      obtain ⟨fuel, rfl⟩ : ∃ q, fuel = q + 1 + 1 := ⟨fuel - 2, by simp [cnt3] at hf; omega⟩
      clear k7 k8 k9 fin ih hz7 hz8 hz9 h7 h8 h9
      refine z_one (i := 16) (o := { dst := none, op := Op.store 32 (Operand.tmp 6) (Operand.tmp 40), type := 0, pos := "top.go:135", after := #[{ on := 13, ground := Ground.data }, { on := 10, ground := Ground.data }, { on := 8, ground := Ground.chain }, { on := 0, ground := Ground.phase }, { on := 1, ground := Ground.phase }, { on := 2, ground := Ground.phase }, { on := 3, ground := Ground.phase }, { on := 4, ground := Ground.phase }, { on := 5, ground := Ground.phase }, { on := 6, ground := Ground.phase }, { on := 7, ground := Ground.phase }, { on := 8, ground := Ground.phase }, { on := 9, ground := Ground.phase }, { on := 10, ground := Ground.phase }, { on := 11, ground := Ground.textOnly Departure.lateStores }, { on := 12, ground := Ground.textOnly Departure.lateStores }, { on := 13, ground := Ground.phase }, { on := 14, ground := Ground.phase }, { on := 15, ground := Ground.phase }], guard := none }) (by kernel_rfl) rfl (fun K hK => ?_)
      go_simp
      refine hK.out _ _ (Or.inl (by kernel_rfl)) (fun hHeld => ?_)
      clear hK K
      (try simp only [List.setIfInBounds_toArray, List.set_cons_zero, List.set_cons_succ])
      refine z_one (i := 17) (o := { dst := none, op := Op.store 43 (Operand.tmp 7) (Operand.tmp 41), type := 0, pos := "top.go:135", after := #[{ on := 14, ground := Ground.data }, { on := 11, ground := Ground.data }, { on := 16, ground := Ground.chain }, { on := 0, ground := Ground.phase }, { on := 1, ground := Ground.phase }, { on := 2, ground := Ground.phase }, { on := 3, ground := Ground.phase }, { on := 4, ground := Ground.phase }, { on := 5, ground := Ground.phase }, { on := 6, ground := Ground.phase }, { on := 7, ground := Ground.phase }, { on := 8, ground := Ground.phase }, { on := 9, ground := Ground.phase }, { on := 10, ground := Ground.phase }, { on := 11, ground := Ground.phase }, { on := 12, ground := Ground.textOnly Departure.lateStores }, { on := 13, ground := Ground.phase }, { on := 14, ground := Ground.phase }, { on := 15, ground := Ground.phase }, { on := 16, ground := Ground.phase }], guard := none }) (by kernel_rfl) rfl (fun K hK => ?_)
      go_simp
      refine hK.out _ _ (Or.inl (by kernel_rfl)) (fun hHeld => ?_)
      clear hK K
      (try simp only [List.setIfInBounds_toArray, List.set_cons_zero, List.set_cons_succ])
      refine z_one (i := 18) (o := { dst := none, op := Op.store 26 (Operand.tmp 8) (Operand.tmp 42), type := 0, pos := "top.go:135", after := #[{ on := 15, ground := Ground.data }, { on := 12, ground := Ground.data }, { on := 17, ground := Ground.chain }, { on := 0, ground := Ground.phase }, { on := 1, ground := Ground.phase }, { on := 2, ground := Ground.phase }, { on := 3, ground := Ground.phase }, { on := 4, ground := Ground.phase }, { on := 5, ground := Ground.phase }, { on := 6, ground := Ground.phase }, { on := 7, ground := Ground.phase }, { on := 8, ground := Ground.phase }, { on := 9, ground := Ground.phase }, { on := 10, ground := Ground.phase }, { on := 11, ground := Ground.phase }, { on := 12, ground := Ground.phase }, { on := 13, ground := Ground.phase }, { on := 14, ground := Ground.phase }, { on := 15, ground := Ground.phase }, { on := 16, ground := Ground.phase }, { on := 17, ground := Ground.phase }], guard := none }) (by kernel_rfl) rfl (fun K hK => ?_)
      go_simp
      refine hK.out _ _ (Or.inl (by kernel_rfl)) (fun hHeld => ?_)
      clear hK K
      (try simp only [List.setIfInBounds_toArray, List.set_cons_zero, List.set_cons_succ])
      refine z_done (by kernel_rfl) ?_ _
      exact hfin
    · refine z_mem (ur5_rd4 b7 b8 b9) (by revert hall; cases b7 <;> cases b8 <;> cases b9 <;> simp) (fun i hi => ?_)
      rw [if_neg (by revert hall; cases b7 <;> cases b8 <;> cases b9 <;> simp)] at hi
      simp only [List.mem_append] at hi
      rcases hi with hi | hi | hi
      · cases b7 with
        | true => simp at hi
        | false =>
          obtain rfl : i = 13 := by simpa using hi
          refine z_op (o := { dst := some 6, op := Op.alloc 32, type := 0, pos := "top.go:135", after := #[], guard := none }) rfl (fun K hK => ?_)
          go_simp
          have hn : Below W.heap.size W (W.alloc (.cells #[.slice none 0 0, .slice none 0 0] 32)) := below_alloc1 _ _
          have hXn := hX.trans (hn.mono hX.size)
          refine hK.out _ _ (Or.inr (hC _ hXn)) ?_
          (try simp only [List.setIfInBounds_toArray, List.set_cons_zero, List.set_cons_succ])
          exact ih true b8 b9 (by revert hf; cases b8 <;> cases b9 <;> simp [cnt3] <;> omega) _ s8 s9 W.heap.size g8 g9 gt V na nk nc la lk lc oa ol oc f1 f2 W0 _ hF (hb.trans (hn.mono hb.size)) hXn (AlF.new W hX.size _ _ _) (h8.below hn) (h9.below hn) (fun _ => Or.inr hb.size) hz8 hz9
      · cases b8 with
        | true => simp at hi
        | false =>
          obtain rfl : i = 14 := by simpa using hi
          refine z_op (o := { dst := some 7, op := Op.alloc 43, type := 0, pos := "top.go:135", after := #[], guard := none }) rfl (fun K hK => ?_)
          go_simp
          have hn : Below W.heap.size W (W.alloc (.cells #[.slice none 0 0] 43)) := below_alloc1 _ _
          have hXn := hX.trans (hn.mono hX.size)
          refine hK.out _ _ (Or.inr (hC _ hXn)) ?_
          (try simp only [List.setIfInBounds_toArray, List.set_cons_zero, List.set_cons_succ])
          exact ih b7 true b9 (by revert hf; cases b7 <;> cases b9 <;> simp [cnt3] <;> omega) s7 _ s9 g7 W.heap.size g9 gt V na nk nc la lk lc oa ol oc f1 f2 W0 _ hF (hb.trans (hn.mono hb.size)) hXn (h7.below hn) (AlF.new W hX.size _ _ _) (h9.below hn) hz7 (fun _ => Or.inr hb.size) hz9
      · cases b9 with
        | true => simp at hi
        | false =>
          obtain rfl : i = 15 := by simpa using hi
          refine z_op (o := { dst := some 8, op := Op.alloc 26, type := 0, pos := "top.go:135", after := #[], guard := none }) rfl (fun K hK => ?_)
          go_simp
          have hn : Below W.heap.size W (W.alloc (.cells #[.int .i64 0, .int .i64 0] 26)) := below_alloc1 _ _
          have hXn := hX.trans (hn.mono hX.size)
          refine hK.out _ _ (Or.inr (hC _ hXn)) ?_
          (try simp only [List.setIfInBounds_toArray, List.set_cons_zero, List.set_cons_succ])
          exact ih b7 b8 true (by revert hf; cases b7 <;> cases b8 <;> simp [cnt3] <;> omega) s7 s8 _ g7 g8 W.heap.size gt V na nk nc la lk lc oa ol oc f1 f2 W0 _ hF (hb.trans (hn.mono hb.size)) hXn (h7.below hn) (h8.below hn) (AlF.new W hX.size _ _ _) hz7 hz8 (fun _ => Or.inr hb.size)
include hQ hC hP fin in
set_option maxRecDepth 100000 in
set_option maxHeartbeats 1500000 in
theorem ur5_3 : ∀ (fuel : Nat) (b7 b8 b9 : Bool), 8 + cnt3 b7 b8 b9 ≤ fuel → ∀ (s7 s8 s9 : Value) (g7 g8 g9 : Nat) (gt : Nat) (W0 W : World), W0.heap[gt]? = some (.cells #[.int .i64 1, .int .i64 50, .int .i64 0, .int .i64 0, .int .i64 3, .int .i64 0, .int .i64 0, .int .i64 0, .int .i64 1, .int .i64 tk, .int .i64 0, .int .i64 0] 47 (0, 0)) → Below W0.heap.size W0 W → Below X.heap.size X W → AlF W X.heap.size b7 s7 g7 #[.slice none 0 0, .slice none 0 0] 32 → AlF W X.heap.size b8 s8 g8 #[.slice none 0 0] 43 → AlF W X.heap.size b9 s9 g9 #[.int .i64 0, .int .i64 0] 26 → wpAnyZ Tryz.prog .any ur5_ops Q 16 (fun W => W.cell? ⟨BN, 0, none⟩ = some nb ∧ W.cell? ⟨BN, 1, none⟩ = some nl) fuel #[true, true, true, true, true, true, true, true, false, false, false, false, false, b7, b8, b9, false, false, false] { tmps := #[x0, (.int .i64 x), x2, x3, x4, (.pointer (some ⟨BN, 0, none⟩)), s7, s8, s9, x9, x10, x11, x12, x13, x14, x15, x16, x17, x18, x19, x20, x21, x22, x23, x24, x25, x26, x27, x28, x29, x30, (.agg #[nb, nl]), (.agg #[.int .i64 1, .int .i64 50, .int .i64 0, .int .i64 0]), (.agg #[.int .i64 3, .int .i64 0, .int .i64 0, .int .i64 0]), (.int .i64 x), (.int .i64 y), (.int .i64 tk), (.agg #[.int .i64 1, .int .i64 tk, .int .i64 0, .int .i64 0]), (.slice (some ⟨gt, 0, none⟩) 3 3), x39, x40, x41, x42, x43, x44, x45, x46, x47, x48, x49, x50, x51, x52, x53, x54, x55, x56, x57, x58, x59, x60, x61, x62, x63, x64, x65, x66, x67, x68, x69, x70], defers := df } W := by
  intro fuel
  induction fuel with
  | zero => intro b7 b8 b9 h; omega
  | succ fuel ih =>
    intro b7 b8 b9 hf s7 s8 s9 g7 g8 g9 gt W0 W hF hb hX h7 h8 h9 
    have hHeld : (#[true, true, true, true, true, true, true, true, false, false, false, false, false, b7, b8, b9, false, false, false] : Array Bool).getD 16 true = true ∨ (fun W => W.cell? ⟨BN, 0, none⟩ = some nb ∧ W.cell? ⟨BN, 1, none⟩ = some nl) W := Or.inr (hC W hX)
    refine z_mem (ur5_rd3 b7 b8 b9) (by simp) (fun i hi => ?_)
    simp only [List.mem_cons, List.mem_append] at hi
    rcases hi with rfl | hi | hi | hi
    · refine z_op (o := { dst := some 39, op := Op.call { callee := Callee.value (Operand.func 15), args := #[Operand.tmp 31, Operand.const (Value.int IntKind.i64 1), Operand.tmp 38], argTypes := #[32, 3, 49] }, type := 44, pos := "top.go:135", after := #[{ on := 0, ground := Ground.data }, { on := 7, ground := Ground.data }, { on := 6, ground := Ground.chain }], guard := none }) rfl (fun K hK => ?_)
      go_simp
      refine (hP W gt hX (keep hF hb)).mono ?_
      rintro e w2 ⟨na, nk, nc, la, lk, lc, oa, ol, oc, f1, f2, rfl, H⟩
      have hn := H.out.1
      have hXn := hX.trans (hn.mono hX.size)
      refine hK.out _ _ (Or.inr (hC _ hXn)) ?_
      (try simp only [List.setIfInBounds_toArray, List.set_cons_zero, List.set_cons_succ])
      obtain ⟨fuel, rfl⟩ : ∃ q, fuel = q + 1 + 1 + 1 + 1 := ⟨fuel - 4, by omega⟩
      refine z_take (i := 9) (oi := { dst := some 30, op := Op.move (Operand.tmp 39), type := 44, pos := "top.go:135", after := #[{ on := 8, ground := Ground.data }], guard := none }) (v := (.tuple #[.agg #[.slice na nk nc, .slice la lk lc], .agg #[.slice oa ol oc], .agg #[.int .i64 f1, .int .i64 f2]])) (some 30) rfl rfl (by cases b7 <;> cases b8 <;> cases b9 <;> kernel_rfl) (by cases b7 <;> cases b8 <;> cases b9 <;> kernel_rfl) (by cases b7 <;> cases b8 <;> cases b9 <;> kernel_rfl) (by decide) (fun c a w h => hQ c a _ _ w h) (by rfl) ?_ (Or.inr (hC _ hXn)) ?_
      · (intro wq; go_simp; try with_reducible rfl)
      (try simp only [Act.put, List.setIfInBounds_toArray, List.set_cons_zero, List.set_cons_succ])
      refine z_take (i := 10) (oi := { dst := some 40, op := Op.extract (Operand.tmp 30) 0, type := 32, pos := "top.go:135", after := #[{ on := 9, ground := Ground.data }], guard := none }) (v := (.agg #[.slice na nk nc, .slice la lk lc])) (some 40) rfl rfl (by cases b7 <;> cases b8 <;> cases b9 <;> kernel_rfl) (by cases b7 <;> cases b8 <;> cases b9 <;> kernel_rfl) (by cases b7 <;> cases b8 <;> cases b9 <;> kernel_rfl) (by decide) (fun c a w h => hQ c a _ _ w h) (by rfl) ?_ (Or.inr (hC _ hXn)) ?_
      · (intro wq; go_simp; try with_reducible rfl)
      (try simp only [Act.put, List.setIfInBounds_toArray, List.set_cons_zero, List.set_cons_succ])
      refine z_take (i := 11) (oi := { dst := some 41, op := Op.extract (Operand.tmp 30) 1, type := 43, pos := "top.go:135", after := #[{ on := 9, ground := Ground.data }, { on := 16, ground := Ground.gcOnly Departure.lateStores }], guard := none }) (v := (.agg #[.slice oa ol oc])) (some 41) rfl rfl (by cases b7 <;> cases b8 <;> cases b9 <;> kernel_rfl) (by cases b7 <;> cases b8 <;> cases b9 <;> kernel_rfl) (by cases b7 <;> cases b8 <;> cases b9 <;> kernel_rfl) (by decide) (fun c a w h => hQ c a _ _ w h) (by rfl) ?_ (Or.inr (hC _ hXn)) ?_
      · (intro wq; go_simp; try with_reducible rfl)
      (try simp only [Act.put, List.setIfInBounds_toArray, List.set_cons_zero, List.set_cons_succ])
      refine z_take (i := 12) (oi := { dst := some 42, op := Op.extract (Operand.tmp 30) 2, type := 26, pos := "top.go:135", after := #[{ on := 9, ground := Ground.data }, { on := 17, ground := Ground.gcOnly Departure.lateStores }], guard := none }) (v := (.agg #[.int .i64 f1, .int .i64 f2])) (some 42) rfl rfl (by cases b7 <;> cases b8 <;> cases b9 <;> kernel_rfl) (by cases b7 <;> cases b8 <;> cases b9 <;> kernel_rfl) (by cases b7 <;> cases b8 <;> cases b9 <;> kernel_rfl) (by decide) (fun c a w h => hQ c a _ _ w h) (by rfl) ?_ (Or.inr (hC _ hXn)) ?_
      · (intro wq; go_simp; try with_reducible rfl)
      (try simp only [Act.put, List.setIfInBounds_toArray, List.set_cons_zero, List.set_cons_succ])
      exact ur5_4 df X BN nb nl x y tk R x0 x2 x3 x4 x9 x10 x11 x12 x13 x14 x15 x16 x17 x18 x19 x20 x21 x22 x23 x24 x25 x26 x27 x28 x29 x43 x44 x45 x46 x47 x48 x49 x50 x51 x52 x53 x54 x55 x56 x57 x58 x59 x60 x61 x62 x63 x64 x65 x66 x67 x68 x69 x70 hC fin fuel b7 b8 b9 (by omega) s7 s8 s9 g7 g8 g9 gt W na nk nc la lk lc oa ol oc f1 f2 w2 w2 H.out.2 (Below.refl _ _) hXn (h7.below hn) (h8.below hn) (h9.below hn) (fun e => Or.inl (lt_some (h7 e).2.1)) (fun e => Or.inl (lt_some (h8 e).2.1)) (fun e => Or.inl (lt_some (h9 e).2.1))
    · cases b7 with
      | true => simp at hi
      | false =>
        obtain rfl : i = 13 := by simpa using hi
        refine z_op (o := { dst := some 6, op := Op.alloc 32, type := 0, pos := "top.go:135", after := #[], guard := none }) rfl (fun K hK => ?_)
        go_simp
        have hn : Below W.heap.size W (W.alloc (.cells #[.slice none 0 0, .slice none 0 0] 32)) := below_alloc1 _ _
        have hXn := hX.trans (hn.mono hX.size)
        refine hK.out _ _ (Or.inr (hC _ hXn)) ?_
        (try simp only [List.setIfInBounds_toArray, List.set_cons_zero, List.set_cons_succ])
        exact ih true b8 b9 (by revert hf; cases b8 <;> cases b9 <;> simp [cnt3] <;> omega) _ s8 s9 W.heap.size g8 g9 gt W0 _ hF (hb.trans (hn.mono hb.size)) hXn (AlF.new W hX.size _ _ _) (h8.below hn) (h9.below hn) 
    · cases b8 with
      | true => simp at hi
      | false =>
        obtain rfl : i = 14 := by simpa using hi
        refine z_op (o := { dst := some 7, op := Op.alloc 43, type := 0, pos := "top.go:135", after := #[], guard := none }) rfl (fun K hK => ?_)
        go_simp
        have hn : Below W.heap.size W (W.alloc (.cells #[.slice none 0 0] 43)) := below_alloc1 _ _
        have hXn := hX.trans (hn.mono hX.size)
        refine hK.out _ _ (Or.inr (hC _ hXn)) ?_
        (try simp only [List.setIfInBounds_toArray, List.set_cons_zero, List.set_cons_succ])
        exact ih b7 true b9 (by revert hf; cases b7 <;> cases b9 <;> simp [cnt3] <;> omega) s7 _ s9 g7 W.heap.size g9 gt W0 _ hF (hb.trans (hn.mono hb.size)) hXn (h7.below hn) (AlF.new W hX.size _ _ _) (h9.below hn) 
    · cases b9 with
      | true => simp at hi
      | false =>
        obtain rfl : i = 15 := by simpa using hi
        refine z_op (o := { dst := some 8, op := Op.alloc 26, type := 0, pos := "top.go:135", after := #[], guard := none }) rfl (fun K hK => ?_)
        go_simp
        have hn : Below W.heap.size W (W.alloc (.cells #[.int .i64 0, .int .i64 0] 26)) := below_alloc1 _ _
        have hXn := hX.trans (hn.mono hX.size)
        refine hK.out _ _ (Or.inr (hC _ hXn)) ?_
        (try simp only [List.setIfInBounds_toArray, List.set_cons_zero, List.set_cons_succ])
        exact ih b7 b8 true (by revert hf; cases b7 <;> cases b8 <;> simp [cnt3] <;> omega) s7 s8 _ g7 g8 W.heap.size gt W0 _ hF (hb.trans (hn.mono hb.size)) hXn (h7.below hn) (h8.below hn) (AlF.new W hX.size _ _ _) 
include hQ hC hP fin in
set_option maxRecDepth 100000 in
set_option maxHeartbeats 1500000 in
theorem ur5_2 : ∀ (fuel : Nat) (b7 b8 b9 : Bool), 9 + cnt3 b7 b8 b9 ≤ fuel → ∀ (s7 s8 s9 : Value) (g7 g8 g9 : Nat) (W0 W : World), True → Below W0.heap.size W0 W → Below X.heap.size X W → AlF W X.heap.size b7 s7 g7 #[.slice none 0 0, .slice none 0 0] 32 → AlF W X.heap.size b8 s8 g8 #[.slice none 0 0] 43 → AlF W X.heap.size b9 s9 g9 #[.int .i64 0, .int .i64 0] 26 → wpAnyZ Tryz.prog .any ur5_ops Q 16 (fun W => W.cell? ⟨BN, 0, none⟩ = some nb ∧ W.cell? ⟨BN, 1, none⟩ = some nl) fuel #[true, true, true, true, true, true, true, false, false, false, false, false, false, b7, b8, b9, false, false, false] { tmps := #[x0, (.int .i64 x), x2, x3, x4, (.pointer (some ⟨BN, 0, none⟩)), s7, s8, s9, x9, x10, x11, x12, x13, x14, x15, x16, x17, x18, x19, x20, x21, x22, x23, x24, x25, x26, x27, x28, x29, x30, (.agg #[nb, nl]), (.agg #[.int .i64 1, .int .i64 50, .int .i64 0, .int .i64 0]), (.agg #[.int .i64 3, .int .i64 0, .int .i64 0, .int .i64 0]), (.int .i64 x), (.int .i64 y), (.int .i64 tk), (.agg #[.int .i64 1, .int .i64 tk, .int .i64 0, .int .i64 0]), x38, x39, x40, x41, x42, x43, x44, x45, x46, x47, x48, x49, x50, x51, x52, x53, x54, x55, x56, x57, x58, x59, x60, x61, x62, x63, x64, x65, x66, x67, x68, x69, x70], defers := df } W := by
  intro fuel
  induction fuel with
  | zero => intro b7 b8 b9 h; omega
  | succ fuel ih =>
    intro b7 b8 b9 hf s7 s8 s9 g7 g8 g9 W0 W hF hb hX h7 h8 h9 
    have hHeld : (#[true, true, true, true, true, true, true, false, false, false, false, false, false, b7, b8, b9, false, false, false] : Array Bool).getD 16 true = true ∨ (fun W => W.cell? ⟨BN, 0, none⟩ = some nb ∧ W.cell? ⟨BN, 1, none⟩ = some nl) W := Or.inr (hC W hX)
    refine z_mem (ur5_rd2 b7 b8 b9) (by simp) (fun i hi => ?_)
    simp only [List.mem_cons, List.mem_append] at hi
    rcases hi with rfl | hi | hi | hi
    · refine z_op (o := { dst := some 38, op := Op.buildSlice 49 3 #[(0, Operand.tmp 32), (1, Operand.tmp 33), (2, Operand.tmp 37)], type := 49, pos := "top.go:135", after := #[{ on := 1, ground := Ground.data }, { on := 2, ground := Ground.data }, { on := 6, ground := Ground.data }], guard := none }) rfl (fun K hK => ?_)
      go_simp
      have hn : Below W.heap.size W (W.alloc (.cells #[.int .i64 1, .int .i64 50, .int .i64 0, .int .i64 0, .int .i64 3, .int .i64 0, .int .i64 0, .int .i64 0, .int .i64 1, .int .i64 tk, .int .i64 0, .int .i64 0] 47)) := below_alloc1 _ _
      have hXn := hX.trans (hn.mono hX.size)
      refine hK.out _ _ (Or.inr (hC _ hXn)) ?_
      (try simp only [List.setIfInBounds_toArray, List.set_cons_zero, List.set_cons_succ])
      exact ur5_3 df X BN nb nl x y tk R x0 x2 x3 x4 x9 x10 x11 x12 x13 x14 x15 x16 x17 x18 x19 x20 x21 x22 x23 x24 x25 x26 x27 x28 x29 x30 x39 x40 x41 x42 x43 x44 x45 x46 x47 x48 x49 x50 x51 x52 x53 x54 x55 x56 x57 x58 x59 x60 x61 x62 x63 x64 x65 x66 x67 x68 x69 x70 hQ hC hP fin fuel b7 b8 b9 (by omega) s7 s8 s9 g7 g8 g9 W.heap.size _ _ (heap_alloc_last _ _) (Below.refl _ _) hXn (h7.below hn) (h8.below hn) (h9.below hn)
    · cases b7 with
      | true => simp at hi
      | false =>
        obtain rfl : i = 13 := by simpa using hi
        refine z_op (o := { dst := some 6, op := Op.alloc 32, type := 0, pos := "top.go:135", after := #[], guard := none }) rfl (fun K hK => ?_)
        go_simp
        have hn : Below W.heap.size W (W.alloc (.cells #[.slice none 0 0, .slice none 0 0] 32)) := below_alloc1 _ _
        have hXn := hX.trans (hn.mono hX.size)
        refine hK.out _ _ (Or.inr (hC _ hXn)) ?_
        (try simp only [List.setIfInBounds_toArray, List.set_cons_zero, List.set_cons_succ])
        exact ih true b8 b9 (by revert hf; cases b8 <;> cases b9 <;> simp [cnt3] <;> omega) _ s8 s9 W.heap.size g8 g9 W0 _ hF (hb.trans (hn.mono hb.size)) hXn (AlF.new W hX.size _ _ _) (h8.below hn) (h9.below hn) 
    · cases b8 with
      | true => simp at hi
      | false =>
        obtain rfl : i = 14 := by simpa using hi
        refine z_op (o := { dst := some 7, op := Op.alloc 43, type := 0, pos := "top.go:135", after := #[], guard := none }) rfl (fun K hK => ?_)
        go_simp
        have hn : Below W.heap.size W (W.alloc (.cells #[.slice none 0 0] 43)) := below_alloc1 _ _
        have hXn := hX.trans (hn.mono hX.size)
        refine hK.out _ _ (Or.inr (hC _ hXn)) ?_
        (try simp only [List.setIfInBounds_toArray, List.set_cons_zero, List.set_cons_succ])
        exact ih b7 true b9 (by revert hf; cases b7 <;> cases b9 <;> simp [cnt3] <;> omega) s7 _ s9 g7 W.heap.size g9 W0 _ hF (hb.trans (hn.mono hb.size)) hXn (h7.below hn) (AlF.new W hX.size _ _ _) (h9.below hn) 
    · cases b9 with
      | true => simp at hi
      | false =>
        obtain rfl : i = 15 := by simpa using hi
        refine z_op (o := { dst := some 8, op := Op.alloc 26, type := 0, pos := "top.go:135", after := #[], guard := none }) rfl (fun K hK => ?_)
        go_simp
        have hn : Below W.heap.size W (W.alloc (.cells #[.int .i64 0, .int .i64 0] 26)) := below_alloc1 _ _
        have hXn := hX.trans (hn.mono hX.size)
        refine hK.out _ _ (Or.inr (hC _ hXn)) ?_
        (try simp only [List.setIfInBounds_toArray, List.set_cons_zero, List.set_cons_succ])
        exact ih b7 b8 true (by revert hf; cases b7 <;> cases b8 <;> simp [cnt3] <;> omega) s7 s8 _ g7 g8 W.heap.size W0 _ hF (hb.trans (hn.mono hb.size)) hXn (h7.below hn) (h8.below hn) (AlF.new W hX.size _ _ _) 
include hQ hC hT hP fin in
set_option maxRecDepth 100000 in
set_option maxHeartbeats 1500000 in
theorem ur5_1 : ∀ (fuel : Nat) (b7 b8 b9 : Bool), 10 + cnt3 b7 b8 b9 ≤ fuel → ∀ (s7 s8 s9 : Value) (g7 g8 g9 : Nat) (W0 W : World), True → Below W0.heap.size W0 W → Below X.heap.size X W → AlF W X.heap.size b7 s7 g7 #[.slice none 0 0, .slice none 0 0] 32 → AlF W X.heap.size b8 s8 g8 #[.slice none 0 0] 43 → AlF W X.heap.size b9 s9 g9 #[.int .i64 0, .int .i64 0] 26 → wpAnyZ Tryz.prog .any ur5_ops Q 16 (fun W => W.cell? ⟨BN, 0, none⟩ = some nb ∧ W.cell? ⟨BN, 1, none⟩ = some nl) fuel #[true, true, true, true, true, true, false, false, false, false, false, false, false, b7, b8, b9, false, false, false] { tmps := #[x0, (.int .i64 x), x2, x3, x4, (.pointer (some ⟨BN, 0, none⟩)), s7, s8, s9, x9, x10, x11, x12, x13, x14, x15, x16, x17, x18, x19, x20, x21, x22, x23, x24, x25, x26, x27, x28, x29, x30, (.agg #[nb, nl]), (.agg #[.int .i64 1, .int .i64 50, .int .i64 0, .int .i64 0]), (.agg #[.int .i64 3, .int .i64 0, .int .i64 0, .int .i64 0]), (.int .i64 x), (.int .i64 y), (.int .i64 tk), x37, x38, x39, x40, x41, x42, x43, x44, x45, x46, x47, x48, x49, x50, x51, x52, x53, x54, x55, x56, x57, x58, x59, x60, x61, x62, x63, x64, x65, x66, x67, x68, x69, x70], defers := df } W := by
  intro fuel
  induction fuel with
  | zero => intro b7 b8 b9 h; omega
  | succ fuel ih =>
    intro b7 b8 b9 hf s7 s8 s9 g7 g8 g9 W0 W hF hb hX h7 h8 h9 
    have hHeld : (#[true, true, true, true, true, true, false, false, false, false, false, false, false, b7, b8, b9, false, false, false] : Array Bool).getD 16 true = true ∨ (fun W => W.cell? ⟨BN, 0, none⟩ = some nb ∧ W.cell? ⟨BN, 1, none⟩ = some nl) W := Or.inr (hC W hX)
    refine z_mem (ur5_rd1 b7 b8 b9) (by simp) (fun i hi => ?_)
    simp only [List.mem_cons, List.mem_append] at hi
    rcases hi with rfl | hi | hi | hi
    · refine z_op (o := { dst := some 37, op := Op.call { callee := Callee.value (Operand.func 16), args := #[Operand.tmp 36], argTypes := #[3] }, type := 47, pos := "top.go:135", after := #[{ on := 5, ground := Ground.data }, { on := 1, ground := Ground.chain }], guard := none }) rfl (fun K hK => ?_)
      go_simp
      refine (hT W _).mono ?_
      rintro e w2 ⟨rfl, hn⟩
      have hXn := hX.trans (hn.mono hX.size)
      refine hK.out _ _ (Or.inr (hC _ hXn)) ?_
      (try simp only [List.setIfInBounds_toArray, List.set_cons_zero, List.set_cons_succ])
      exact ur5_2 df X BN nb nl x y tk R x0 x2 x3 x4 x9 x10 x11 x12 x13 x14 x15 x16 x17 x18 x19 x20 x21 x22 x23 x24 x25 x26 x27 x28 x29 x30 x38 x39 x40 x41 x42 x43 x44 x45 x46 x47 x48 x49 x50 x51 x52 x53 x54 x55 x56 x57 x58 x59 x60 x61 x62 x63 x64 x65 x66 x67 x68 x69 x70 hQ hC hP fin fuel b7 b8 b9 (by omega) s7 s8 s9 g7 g8 g9 W0 w2 hF (hb.trans (hn.mono hb.size)) hXn (h7.below hn) (h8.below hn) (h9.below hn)
    · cases b7 with
      | true => simp at hi
      | false =>
        obtain rfl : i = 13 := by simpa using hi
        refine z_op (o := { dst := some 6, op := Op.alloc 32, type := 0, pos := "top.go:135", after := #[], guard := none }) rfl (fun K hK => ?_)
        go_simp
        have hn : Below W.heap.size W (W.alloc (.cells #[.slice none 0 0, .slice none 0 0] 32)) := below_alloc1 _ _
        have hXn := hX.trans (hn.mono hX.size)
        refine hK.out _ _ (Or.inr (hC _ hXn)) ?_
        (try simp only [List.setIfInBounds_toArray, List.set_cons_zero, List.set_cons_succ])
        exact ih true b8 b9 (by revert hf; cases b8 <;> cases b9 <;> simp [cnt3] <;> omega) _ s8 s9 W.heap.size g8 g9 W0 _ hF (hb.trans (hn.mono hb.size)) hXn (AlF.new W hX.size _ _ _) (h8.below hn) (h9.below hn) 
    · cases b8 with
      | true => simp at hi
      | false =>
        obtain rfl : i = 14 := by simpa using hi
        refine z_op (o := { dst := some 7, op := Op.alloc 43, type := 0, pos := "top.go:135", after := #[], guard := none }) rfl (fun K hK => ?_)
        go_simp
        have hn : Below W.heap.size W (W.alloc (.cells #[.slice none 0 0] 43)) := below_alloc1 _ _
        have hXn := hX.trans (hn.mono hX.size)
        refine hK.out _ _ (Or.inr (hC _ hXn)) ?_
        (try simp only [List.setIfInBounds_toArray, List.set_cons_zero, List.set_cons_succ])
        exact ih b7 true b9 (by revert hf; cases b7 <;> cases b9 <;> simp [cnt3] <;> omega) s7 _ s9 g7 W.heap.size g9 W0 _ hF (hb.trans (hn.mono hb.size)) hXn (h7.below hn) (AlF.new W hX.size _ _ _) (h9.below hn) 
    · cases b9 with
      | true => simp at hi
      | false =>
        obtain rfl : i = 15 := by simpa using hi
        refine z_op (o := { dst := some 8, op := Op.alloc 26, type := 0, pos := "top.go:135", after := #[], guard := none }) rfl (fun K hK => ?_)
        go_simp
        have hn : Below W.heap.size W (W.alloc (.cells #[.int .i64 0, .int .i64 0] 26)) := below_alloc1 _ _
        have hXn := hX.trans (hn.mono hX.size)
        refine hK.out _ _ (Or.inr (hC _ hXn)) ?_
        (try simp only [List.setIfInBounds_toArray, List.set_cons_zero, List.set_cons_succ])
        exact ih b7 b8 true (by revert hf; cases b7 <;> cases b8 <;> simp [cnt3] <;> omega) s7 s8 _ g7 g8 W.heap.size W0 _ hF (hb.trans (hn.mono hb.size)) hXn (h7.below hn) (h8.below hn) (AlF.new W hX.size _ _ _) 
include hQ hC hT hP fin in
set_option maxRecDepth 100000 in
set_option maxHeartbeats 1500000 in
theorem ur5_0 : ∀ (fuel : Nat) (b7 b8 b9 : Bool), 11 + cnt3 b7 b8 b9 ≤ fuel → ∀ (s7 s8 s9 : Value) (g7 g8 g9 : Nat) (W0 W : World), True → Below W0.heap.size W0 W → Below X.heap.size X W → AlF W X.heap.size b7 s7 g7 #[.slice none 0 0, .slice none 0 0] 32 → AlF W X.heap.size b8 s8 g8 #[.slice none 0 0] 43 → AlF W X.heap.size b9 s9 g9 #[.int .i64 0, .int .i64 0] 26 → wpAnyZ Tryz.prog .any ur5_ops Q 16 (fun W => W.cell? ⟨BN, 0, none⟩ = some nb ∧ W.cell? ⟨BN, 1, none⟩ = some nl) fuel #[true, false, true, true, true, true, false, false, false, false, false, false, false, b7, b8, b9, false, false, false] { tmps := #[x0, (.int .i64 x), x2, x3, x4, (.pointer (some ⟨BN, 0, none⟩)), s7, s8, s9, x9, x10, x11, x12, x13, x14, x15, x16, x17, x18, x19, x20, x21, x22, x23, x24, x25, x26, x27, x28, x29, x30, (.agg #[nb, nl]), x32, (.agg #[.int .i64 3, .int .i64 0, .int .i64 0, .int .i64 0]), (.int .i64 x), (.int .i64 y), (.int .i64 tk), x37, x38, x39, x40, x41, x42, x43, x44, x45, x46, x47, x48, x49, x50, x51, x52, x53, x54, x55, x56, x57, x58, x59, x60, x61, x62, x63, x64, x65, x66, x67, x68, x69, x70], defers := df } W := by
  intro fuel
  induction fuel with
  | zero => intro b7 b8 b9 h; omega
  | succ fuel ih =>
    intro b7 b8 b9 hf s7 s8 s9 g7 g8 g9 W0 W hF hb hX h7 h8 h9 
    have hHeld : (#[true, false, true, true, true, true, false, false, false, false, false, false, false, b7, b8, b9, false, false, false] : Array Bool).getD 16 true = true ∨ (fun W => W.cell? ⟨BN, 0, none⟩ = some nb ∧ W.cell? ⟨BN, 1, none⟩ = some nl) W := Or.inr (hC W hX)
    refine z_mem (ur5_rd0 b7 b8 b9) (by simp) (fun i hi => ?_)
    simp only [List.mem_cons, List.mem_append] at hi
    rcases hi with rfl | hi | hi | hi
    · refine z_op (o := { dst := some 32, op := Op.call { callee := Callee.value (Operand.func 16), args := #[Operand.const (Value.int IntKind.i64 50)], argTypes := #[3] }, type := 47, pos := "top.go:135", after := #[], guard := none }) rfl (fun K hK => ?_)
      go_simp
      refine (hT W _).mono ?_
      rintro e w2 ⟨rfl, hn⟩
      have hXn := hX.trans (hn.mono hX.size)
      refine hK.out _ _ (Or.inr (hC _ hXn)) ?_
      (try simp only [List.setIfInBounds_toArray, List.set_cons_zero, List.set_cons_succ])
      exact ur5_1 df X BN nb nl x y tk R x0 x2 x3 x4 x9 x10 x11 x12 x13 x14 x15 x16 x17 x18 x19 x20 x21 x22 x23 x24 x25 x26 x27 x28 x29 x30 x37 x38 x39 x40 x41 x42 x43 x44 x45 x46 x47 x48 x49 x50 x51 x52 x53 x54 x55 x56 x57 x58 x59 x60 x61 x62 x63 x64 x65 x66 x67 x68 x69 x70 hQ hC hT hP fin fuel b7 b8 b9 (by omega) s7 s8 s9 g7 g8 g9 W0 w2 hF (hb.trans (hn.mono hb.size)) hXn (h7.below hn) (h8.below hn) (h9.below hn)
    · cases b7 with
      | true => simp at hi
      | false =>
        obtain rfl : i = 13 := by simpa using hi
        refine z_op (o := { dst := some 6, op := Op.alloc 32, type := 0, pos := "top.go:135", after := #[], guard := none }) rfl (fun K hK => ?_)
        go_simp
        have hn : Below W.heap.size W (W.alloc (.cells #[.slice none 0 0, .slice none 0 0] 32)) := below_alloc1 _ _
        have hXn := hX.trans (hn.mono hX.size)
        refine hK.out _ _ (Or.inr (hC _ hXn)) ?_
        (try simp only [List.setIfInBounds_toArray, List.set_cons_zero, List.set_cons_succ])
        exact ih true b8 b9 (by revert hf; cases b8 <;> cases b9 <;> simp [cnt3] <;> omega) _ s8 s9 W.heap.size g8 g9 W0 _ hF (hb.trans (hn.mono hb.size)) hXn (AlF.new W hX.size _ _ _) (h8.below hn) (h9.below hn) 
    · cases b8 with
      | true => simp at hi
      | false =>
        obtain rfl : i = 14 := by simpa using hi
        refine z_op (o := { dst := some 7, op := Op.alloc 43, type := 0, pos := "top.go:135", after := #[], guard := none }) rfl (fun K hK => ?_)
        go_simp
        have hn : Below W.heap.size W (W.alloc (.cells #[.slice none 0 0] 43)) := below_alloc1 _ _
        have hXn := hX.trans (hn.mono hX.size)
        refine hK.out _ _ (Or.inr (hC _ hXn)) ?_
        (try simp only [List.setIfInBounds_toArray, List.set_cons_zero, List.set_cons_succ])
        exact ih b7 true b9 (by revert hf; cases b7 <;> cases b9 <;> simp [cnt3] <;> omega) s7 _ s9 g7 W.heap.size g9 W0 _ hF (hb.trans (hn.mono hb.size)) hXn (h7.below hn) (AlF.new W hX.size _ _ _) (h9.below hn) 
    · cases b9 with
      | true => simp at hi
      | false =>
        obtain rfl : i = 15 := by simpa using hi
        refine z_op (o := { dst := some 8, op := Op.alloc 26, type := 0, pos := "top.go:135", after := #[], guard := none }) rfl (fun K hK => ?_)
        go_simp
        have hn : Below W.heap.size W (W.alloc (.cells #[.int .i64 0, .int .i64 0] 26)) := below_alloc1 _ _
        have hXn := hX.trans (hn.mono hX.size)
        refine hK.out _ _ (Or.inr (hC _ hXn)) ?_
        (try simp only [List.setIfInBounds_toArray, List.set_cons_zero, List.set_cons_succ])
        exact ih b7 b8 true (by revert hf; cases b7 <;> cases b8 <;> simp [cnt3] <;> omega) s7 s8 _ g7 g8 W.heap.size W0 _ hF (hb.trans (hn.mono hb.size)) hXn (h7.below hn) (h8.below hn) (AlF.new W hX.size _ _ _) 
include hQ hC hT hP fin hy htk in
set_option maxHeartbeats 1500000 in
theorem ur5 (x6 x7 x8 x31 x33 x34 x35 x36 : Value) : (Code.region 6 ur5_ops true).wp Tryz.prog Q { tmps := #[x0, (.int .i64 x), x2, x3, x4, (.pointer (some ⟨BN, 0, none⟩)), x6, x7, x8, x9, x10, x11, x12, x13, x14, x15, x16, x17, x18, x19, x20, x21, x22, x23, x24, x25, x26, x27, x28, x29, x30, x31, x32, x33, x34, x35, x36, x37, x38, x39, x40, x41, x42, x43, x44, x45, x46, x47, x48, x49, x50, x51, x52, x53, x54, x55, x56, x57, x58, x59, x60, x61, x62, x63, x64, x65, x66, x67, x68, x69, x70], defers := df } X := by
  have hXd : Below X.heap.size X X.drew := Below.drew (Below.refl _ _)
  have hc := hC X (Below.refl _ _)
  refine wp_region_z (z := 16) (C := fun W => W.cell? ⟨BN, 0, none⟩ = some nb ∧ W.cell? ⟨BN, 1, none⟩ = some nl) (by kernel_rfl) (hC _ hXd) (fun hHeld => ?_)
  refine z_load (i := 0) (oi := { dst := some 31, op := Op.load 32 (Operand.tmp 5), type := 32, pos := "top.go:135", after := #[], guard := none }) (v := .agg #[nb, nl]) (some 31) rfl rfl (by kernel_rfl) (by kernel_rfl) (by kernel_rfl) (by kernel_rfl) (fun c a w h => hQ c a _ _ w h) (by rfl) ?_ hHeld ?_
  · (intro wq hSw; go_simp; try with_reducible rfl)
  (try simp only [Act.put, List.setIfInBounds_toArray, List.set_cons_zero, List.set_cons_succ])
  refine z_take (i := 2) (oi := { dst := some 33, op := Op.build 47 #[(0, Operand.const (Value.int IntKind.i64 3)), (1, Operand.const (Value.int IntKind.i64 0))], type := 47, pos := "top.go:135", after := #[], guard := none }) (v := .agg #[.int .i64 3, .int .i64 0, .int .i64 0, .int .i64 0]) (some 33) rfl rfl (by kernel_rfl) (by kernel_rfl) (by kernel_rfl) (by decide) (fun c a w h => hQ c a _ _ w h) (by rfl) ?_ hHeld ?_
  · (intro wq; go_simp; try with_reducible rfl)
  (try simp only [Act.put, List.setIfInBounds_toArray, List.set_cons_zero, List.set_cons_succ])
  refine z_take (i := 3) (oi := { dst := some 34, op := Op.move (Operand.tmp 1), type := 3, pos := "top.go:135", after := #[], guard := none }) (v := .int .i64 x) (some 34) rfl rfl (by kernel_rfl) (by kernel_rfl) (by kernel_rfl) (by decide) (fun c a w h => hQ c a _ _ w h) (by rfl) ?_ hHeld ?_
  · (intro wq; go_simp; try with_reducible rfl)
  (try simp only [Act.put, List.setIfInBounds_toArray, List.set_cons_zero, List.set_cons_succ])
  refine z_take (i := 4) (oi := { dst := some 35, op := Op.binOp BinOp.rem 3 (Operand.tmp 34) (Operand.const (Value.int IntKind.i64 50)) 3, type := 3, pos := "top.go:135", after := #[{ on := 3, ground := Ground.data }], guard := none }) (v := .int .i64 y) (some 35) rfl rfl (by kernel_rfl) (by kernel_rfl) (by kernel_rfl) (by decide) (fun c a w h => hQ c a _ _ w h) (by rfl) ?_ hHeld ?_
  · (intro wq; go_simp; try with_reducible rfl)
  (try simp only [Act.put, List.setIfInBounds_toArray, List.set_cons_zero, List.set_cons_succ])
  refine z_take (i := 5) (oi := { dst := some 36, op := Op.binOp BinOp.add 3 (Operand.const (Value.int IntKind.i64 21)) (Operand.tmp 35) 3, type := 3, pos := "top.go:135", after := #[{ on := 4, ground := Ground.data }], guard := none }) (v := .int .i64 tk) (some 36) rfl rfl (by kernel_rfl) (by kernel_rfl) (by kernel_rfl) (by decide) (fun c a w h => hQ c a _ _ w h) (by rfl) ?_ hHeld ?_
  · (intro wq; go_simp; try with_reducible rfl)
  (try simp only [Act.put, List.setIfInBounds_toArray, List.set_cons_zero, List.set_cons_succ])
  exact ur5_0 df X BN nb nl x y tk R x0 x2 x3 x4 x9 x10 x11 x12 x13 x14 x15 x16 x17 x18 x19 x20 x21 x22 x23 x24 x25 x26 x27 x28 x29 x30 x32 x37 x38 x39 x40 x41 x42 x43 x44 x45 x46 x47 x48 x49 x50 x51 x52 x53 x54 x55 x56 x57 x58 x59 x60 x61 x62 x63 x64 x65 x66 x67 x68 x69 x70 hQ hC hT hP fin _ false false false (by simp [cnt3]) _ _ _ 0 0 0 X _ trivial hXd hXd (fun e => by cases e) (fun e => by cases e) (fun e => by cases e)
end
end Go.Proofs.YtflghpnpjmodaaaGreatDoor

namespace Go.Proofs.YtflghpnpjmodaaaGreatDoor
open Go.RowKit
open Vc (V Of)
open Pl (Br Net Pc Lk En St ringE lineE ringId)
open Tk (Md Mnd Cn Sc Dn ten yes)

theorem three_do {w : World} {g : Nat} {x : Int} {ty : TypeId} (h : w.heap[g]? = some (.cells #[.int .i64 1, .int .i64 50, .int .i64 0, .int .i64 0, .int .i64 3, .int .i64 0, .int .i64 0, .int .i64 0, .int .i64 1, .int .i64 x, .int .i64 0, .int .i64 0] ty (0, 0))) : DRow w (some ⟨g, 0, none⟩) 3 3 (cut3 x) := by
  refine ⟨Nat.le_refl _, fun _ => ⟨g, 0, rfl, (Array.getElem?_eq_some_iff.1 h).1, fun i hi j hj => ?_⟩⟩
  rcases (by omega : i = 0 ∨ i = 1 ∨ i = 2) with e | e | e <;> subst e <;> rcases (by omega : j = 0 ∨ j = 1 ∨ j = 2 ∨ j = 3) with e | e | e | e <;> subst e <;> exact cell_of_row w g _ _ _ _ h
/-- What TopGhost has behind its Play. -/
structure GhG (Z w : World) (k : Nat) (bb boff c5 : Nat) (BN ob off oc mb moff mc : Nat) (l : List Mi) (g8 g9 : Nat) : Prop where
  keep : ∀ V, Below Z.heap.size Z V → (V.cell? ⟨g8, 0, none⟩ = some (.slice (some ⟨ob, off, none⟩) 1 oc) ∧ V.cell? ⟨g9, 0, none⟩ = some (.int .i64 0)) ∧ V.cell? ⟨ob, off, none⟩ = some (.slice (some ⟨mb, moff, none⟩) k mc) ∧ V.cell? ⟨BN, 0, none⟩ = some (.slice (some ⟨bb, boff, none⟩) k c5) ∧ MiRow V (some ⟨mb, moff, none⟩) mc l ∧ BRow V (some ⟨bb, boff, none⟩) k c5 bsL ∧ Below w.heap.size w V
  len : l.length = k
  cap : 1 ≤ oc ∧ k ≤ mc ∧ k ≤ c5
  minds : ∀ i, i < k → 0 < i → (mat l i).md.v.root ≠ ringId 0
set_option maxRecDepth 100000 in
set_option maxHeartbeats 6000000 in
theorem utopghost_any (k x : Int) (w : World) (ht : Tabs w) (hbt : 2 ≤ w.heap.size) : Calls Tryz.prog 5 #[.int .i64 k, .int .i64 x] w fun e w' => e = .returned (.bool true) ∧ Below w.heap.size w w' := by
  have HT : Hid (∀ V, Below w.heap.size w V → Tabs V ∧ 2 ≤ V.heap.size) := fun V hV => ⟨ht.below hV hbt, Nat.le_trans hbt hV.size⟩
  have HAL : Hid (Calls Tryz.prog 12 #[] w fun e w' => e = .returned (.bool true) ∧ Below w.heap.size w w') := ualive_any w ht hbt
  clear ht hbt
  go_enter Tryz.func5, Tryz.ntmps5
  go_wp2_with fail
  refine HAL.out.mono ?_
  rintro e w1 ⟨rfl, HB1⟩
  have H1 : Hid (Below w.heap.size w w1) := HB1
  clear HAL HB1
  by_cases q1 : k < 3
  · clear HT
    go_wp2_with fail
    go_ret
    exact ⟨rfl, H1.out⟩
  by_cases q2 : 12 < k
  · clear HT
    go_wp2_with fail
    go_ret
    exact ⟨rfl, H1.out⟩
  by_cases q3 : x < 0
  · clear HT
    go_wp2_with fail
    go_ret
    exact ⟨rfl, H1.out⟩
  by_cases q4 : 180 < x
  · clear HT
    go_wp2_with fail
    go_ret
    exact ⟨rfl, H1.out⟩
  obtain ⟨k, rfl⟩ : ∃ q : Nat, k = (q : Int) := ⟨k.toNat, by omega⟩
  obtain ⟨x, rfl⟩ : ∃ q : Nat, x = (q : Int) := ⟨x.toNat, by omega⟩
  have HLN : Hid (Calls Tryz.prog 14 #[.int .i64 (k : Int), .bool false] w1 fun e w' => ∃ a5 c5 a6 c6, e = .returned (.agg #[.slice a5 k c5, .slice a6 (lnL k false) c6]) ∧ Hid (LineW (w1.heap.size + 2) w' (Pl.lnk k ten yes) k (lnL k false) (.slice a5 k c5) (.slice a6 (lnL k false) c6) ∧ Below w1.heap.size w1 w')) := uline_any k false w1 (by omega)
  go_wp2_with fail
  refine HLN.out.mono ?_
  rintro e w2 ⟨a5, c5, a6, c6, rfl, H2⟩
  clear HLN
  obtain ⟨X, HX⟩ : ∃ X, Hid (X = w2.alloc (.cells #[.slice a5 k c5, .slice a6 (lnL k false) c6] 32)) := ⟨_, rfl⟩
  have hX2 : Below w2.heap.size w2 X := by rw [HX.out]; exact below_alloc1 _ _
  have hXn : X.heap[w2.heap.size]? = some (.cells #[.slice a5 k c5, .slice a6 (lnL k false) c6] 32 (0, 0)) := by rw [HX.out]; exact heap_alloc_last _ _
  have hwX : Below w.heap.size w X := by
    have h := H1.out.trans (H2.out.2.mono H1.out.size)
    exact h.trans (hX2.mono h.size)
  obtain ⟨BN, HBN⟩ : ∃ BN, Hid (BN = w2.heap.size) := ⟨_, rfl⟩
  have HCX : Hid (∀ V, Below X.heap.size X V → (V.cell? ⟨BN, 0, none⟩ = some (.slice a5 k c5) ∧ V.cell? ⟨BN, 1, none⟩ = some (.slice a6 (lnL k false) c6)) ∧ (netL k false ten a5 c5 a6 c6).at' V ∧ (Tabs V ∧ 2 ≤ V.heap.size) ∧ Below w.heap.size w V) := fun V hV => by
    have h := hwX.trans (hV.mono hwX.size)
    exact ⟨by rw [HBN.out]; exact two_cells2 (keep hXn hV), (H2.out.1.at (ring := false) rfl (by omega)).below (hX2.trans (hV.mono hX2.size)), HT.out V h, h⟩
  obtain ⟨y, hy⟩ : ∃ y : Nat, y = x % 50 := ⟨_, rfl⟩
  obtain ⟨tk, htk⟩ : ∃ tk : Nat, tk = 21 + y := ⟨_, rfl⟩
  have HK : Hid ((3 ≤ k ∧ k ≤ 12) ∧ (21 ≤ tk ∧ tk ≤ 70)) := ⟨⟨by omega, by omega⟩, by omega⟩
  have HP0 : Hid ((plErr (netL k false ten a5 c5 a6 c6) 1 (cut3 tk) 3).1 = 0) := pl_ok (netL_right HK.out.1.2 ten_ok) (by omega) (fun q hq => by
    rcases (by omega : q = 0 ∨ q = 1 ∨ q = 2) with e | e | e <;> subst e
    · exact errTick (by omega)
    · show (if (0 : Int) ≤ 0 ∧ (0 : Int) ≤ ((lnL k false : Nat) : Int) - 1 then (if (3 : Int) = 4 ∧ ¬ ((1 : Int) ≤ 0 ∧ (0 : Int) ≤ 200000) then (3 : Int) else 0) else 6) = 0
      rw [lnL_line, if_pos (by have := HK.out.1.1; omega), if_neg (fun z => absurd z.1 (by decide))]
    · exact errTick (by have := HK.out.2; omega))
  have hy1 : (x : Int).tmod 50 = (y : Int) := by
    rw [Int.tmod_eq_emod_of_nonneg (by omega)]
    omega
  have htk1 : IntKind.i64.wrap (21 + (y : Int)) = (tk : Int) := by rw [IntKind.wrap_i64]; omega
  have HYT : Hid ((x : Int).tmod 50 = (y : Int) ∧ IntKind.i64.wrap (21 + (y : Int)) = (tk : Int)) := ⟨hy1, htk1⟩
  clear H1 H2 HT hX2 hXn hwX hy1 htk1 hy htk
  go_wp2_with fail
  rw [← HX.out]
  rw [← HBN.out]
  refine ur5 [] X BN (.slice a5 k c5) (.slice a6 (lnL k false) c6) (x : Int) (y : Int) (tk : Int) (fun V W0 na nk nc la lk lc oa ol oc f1 f2 => PlF V W0 (netL k false ten a5 c5 a6 c6) 1 (cut3 tk) 3 na nk nc la lk lc oa ol oc f1 f2) _ _ _ _ _ _ _ _ _ _ _ _ _ _ _ _ _ _ _ _ _ _ _ _ _ _ _ _ _ _ _ _ _ _ _ _ _ _ _ _ _ _ _ _ _ _ _ _ _ _ _ _ _ _ _ _ _ _ _ _ _ ?hQ ?hC ?hy ?htk ?hT ?hP ?fin _ _ _ _ _ _ _ _
  case hQ => exact fun _ _ _ _ _ h => h
  case hC => exact fun V hV => (HCX.out V hV).1
  case hy => exact HYT.out.1
  case htk => exact HYT.out.2
  case hT => exact fun V tk => uticks_any tk V
  case hP =>
    intro V g hV hg
    obtain ⟨_, y1, ⟨y2, y3⟩, _⟩ := HCX.out V hV
    exact tplay_flat (netL k false ten a5 c5 a6 c6) 1 (some ⟨g, 0, none⟩) 3 3 (cut3 tk) V (netL_wf HK.out.1.2) y1 (by omega) (three_do hg) y2 y3
  case fin =>
    intro gt V na nk nc la lk lc oa ol oc f1 f2 g7 g8 g9 W0 W hR hb hX hk hl hz
    obtain ⟨n', ob, off, t', ⟨⟨rfl, ek, rfl⟩, ⟨rfl, rfl, rfl⟩, ⟨rfl, rfl, hoc⟩, rfl, rfl⟩, hfin⟩ := u_fin hR HP0.out hb hX hk hl hz
    obtain rfl : k = nk := ek.symm
    clear ek
    obtain ⟨Z, HZ⟩ : ∃ Z, Hid (Z = boxes5 W g7 g8 g9 n'.bao (netL k false ten a5 c5 a6 c6).K n'.bcap n'.lao (netL k false ten a5 c5 a6 c6).L n'.lcap (some ⟨ob, off, none⟩) 1 oc 0 0) := ⟨_, rfl⟩
    obtain ⟨hXZ, hU⟩ := hfin Z HZ.out
    have hZZ := hU Z (Below.refl _ _)
    obtain ⟨hl0, hms⟩ := hZZ.sn.each 0 (by omega)
    have hl0 : (tat t' 0).l.length = k := hl0
    have hmr := hZZ.sn.row.each 0 (by rw [hZZ.sn.len]; omega)
    obtain ⟨mb, moff, em, _⟩ := hmr.place (by rw [hl0]; have := HK.out.1.1; omega)
    have hmc := hmr.row.1
    obtain ⟨bb, boff, ea5, _⟩ := CRow.some (HCX.out Z hXZ).2.1.brs (show 0 < k by have := HK.out.1.1; omega)
    have hbc : k ≤ c5 := (HCX.out Z hXZ).2.1.brs.1
    have HG : Hid (GhG Z w k bb boff c5 BN ob off oc mb moff (tat t' 0).cap (tat t' 0).l g8 g9) := by
      refine ⟨fun V hV => ?_, hl0, ⟨hoc, by omega, hbc⟩, fun i hi h0 => ?_⟩
      · have u := hU V hV
        obtain ⟨y0, y1, _, y3⟩ := HCX.out V (hXZ.trans (hV.mono hXZ.size))
        have hc := u.sn.row.cell (i := 0) (by rw [u.sn.len]; omega)
        have hm := u.sn.row.each 0 (by rw [u.sn.len]; omega)
        have hbr := y1.brs
        have y00 := y0.1
        have ea : (netL k false ten a5 c5 a6 c6).bao = some ⟨bb, boff, none⟩ := ea5
        have ea' : a5 = some ⟨bb, boff, none⟩ := ea5
        rw [ea] at hbr
        rw [ea'] at y00
        rw [em] at hm hc
        rw [hl0] at hc
        exact ⟨⟨one_cell u.b8, (two_cells2 u.b9).1⟩, hc, y00, hm, hbr, y3⟩
      · obtain ⟨e1, _⟩ := hms i (show i < k from hi)
        have e2 : (mat (tat t' 0).l i).md = ((((netL k false ten a5 c5 a6 c6).sc (startMs (netL k false ten a5 c5 a6 c6))).all (netL k false ten a5 c5 a6 c6).cn (cut3 tk) 3).ms 0 i).md := congrArg Mnd.md e1
        rw [e2]
        exact ghost_at HK.out.1 HK.out.2 hi h0
    obtain ⟨⟨d8, c9⟩, d0, dn, _, dbr, _⟩ := HG.out.keep Z (Below.refl _ _)
    obtain ⟨b0, b1, b2, b3, b4⟩ := BRow.cells dbr (show 0 < k by have := HK.out.1.1; omega)
    have b0 : Z.cell? ⟨bb, boff + 0 * 5, none⟩ = some (.int .u64 10) := b0
    have b1 : Z.cell? ⟨bb, boff + 0 * 5 + 1, none⟩ = some (.slice none 0 0) := b1
    have b2 : Z.cell? ⟨bb, boff + 0 * 5 + 2, none⟩ = some (.string ⟨#[114]⟩) := b2
    have b3 : Z.cell? ⟨bb, boff + 0 * 5 + 3, none⟩ = some (.int .i64 0) := b3
    have b4 : Z.cell? ⟨bb, boff + 0 * 5 + 4, none⟩ = some (.slice none 0 0) := b4
    simp only [Nat.zero_mul, Nat.add_zero] at b0 b1 b2 b3 b4
    obtain ⟨hcap1, hcap2, hcap3⟩ := HG.out.cap
    obtain ⟨hk1, hk2⟩ := HK.out.1
    have HID : Hid (Calls Tryz.prog 17 #[.agg #[.int .u64 10, .slice none 0 0, .string ⟨#[114]⟩, .int .i64 0, .slice none 0 0], .int .i64 0] Z fun e w' => e = .returned (.int .u64 (ringId 0)) ∧ Below Z.heap.size Z w') := uident (i := 0) (by omega) Z
    have hk0 : (0 : Int) < (k : Int) := by omega
    clear HCX HP0 HX hR hb hX hk hl hz hfin hXZ hU hZZ hl0 hms hmr em hmc hoc q1 q2 q3 q4 dbr ea5 hbc HYT
    generalize (tat t' 0).cap = mc at *
    generalize (tat t' 0).l = l at *
    have HZ' : Hid (Z = (((((W.setCell ⟨g7, 0, none⟩ (.slice n'.bao k n'.bcap)).setCell ⟨g7, 1, none⟩ (.slice n'.lao (netL k false ten a5 c5 a6 c6).L n'.lcap)).setCell ⟨g8, 0, none⟩ (.slice (some ⟨ob, off, none⟩) 1 oc)).setCell ⟨g9, 0, none⟩ (.int .i64 0)).setCell ⟨g9, 1, none⟩ (.int .i64 0))) := HZ.out
    clear HZ
    rw [← HZ'.out]
    go_wp2_with fail
    refine HID.out.mono ?_
    rintro e w4 ⟨rfl, hb4⟩
    obtain ⟨⟨d8, c9⟩, d0, dn, _⟩ := HG.out.keep w4 hb4
    have HZ4 : Hid (Below Z.heap.size Z w4) := hb4
    clear HID hb4 b0 b1 b2 b3 b4
    go_wp2_with fail
    clear c9 d8 d0 dn
    go_loopw [56] (fun i wr => ∃ j : Nat, j ≤ k ∧ i = .int .i64 j ∧ Hid (Below Z.heap.size Z wr)) (fun i _ => k - (intOf i).toNat)
    case atStart => exact ⟨0, by omega, rfl, HZ4⟩
    case round =>
      obtain ⟨j, hj, rfl, hB⟩ := hrel
      by_cases hlt : j < k
      · have hi : (j : Int) < (k : Int) := by omega
        have hi0 : (0 : Int) ≤ (j : Int) := by omega
        obtain ⟨_, _, _, r0, _⟩ := HG.out.keep wr hB.out
        obtain ⟨m0, m1, m2, m3, m4, m5, m6, m7, m8⟩ := MiRow.cells r0 (i := j) (by rw [HG.out.len]; exact hlt)
        have wj : IntKind.i64.wrap ((j : Int) + 1) = ((j + 1 : Nat) : Int) := by rw [IntKind.wrap_i64]; omega
        have HY : Hid (∀ o, Below Z.heap.size Z (wr.alloc o)) := fun o => hB.out.trans ((below_alloc1 wr o).mono hB.out.size)
        by_cases h0 : 0 < j
        · have hne := HG.out.minds j hlt h0
          have hj0 : (0 : Int) < (j : Int) := by omega
          clear r0 hB HG
          generalize ringId 0 = rr at *
          go_wp2_with fail
          exact ⟨⟨j + 1, by omega, by go_num, HY.out _⟩, by simp [intOf]; omega⟩
        · have hj0 : ¬ (0 : Int) < (j : Int) := by omega
          clear r0 hB HG
          go_wp2_with fail
          exact ⟨⟨j + 1, by omega, by go_num, HY.out _⟩, by simp [intOf]; omega⟩
      · obtain rfl : j = k := by omega
        obtain ⟨_, _, _, _, _, r6⟩ := HG.out.keep wr hB.out
        have HBW : Hid (Below w.heap.size w wr) := r6
        have hi : ¬ (j : Int) < (j : Int) := by omega
        clear HG r6
        go_wp2_with fail
        go_ret
        exact ⟨rfl, HBW.out⟩
end Go.Proofs.YtflghpnpjmodaaaGreatDoor

namespace Go.Proofs.YtflghpnpjmodaaaGreatDoor.topGhost
open Go.ChangeShapes Go.WideShapes Go.ChangeAt Go.RowKit

set_option maxRecDepth 100000 in
theorem contract (H : Type) (enc : TypeId × Value → H) (W : World) (base : Nat) (args : Array Value) (ds gs : List (DataW H)) (before : List MemPlace)
    (hval : ∀ (j : Nat) t v, Tryz.f5.params[j]? = some t → args[j]? = some v → Value.okWide Tryz.prog W .any base t v)
    (hW : DataW.Whole enc Tryz.prog Tryz.f5.params.toList Rows.topGhostSpec.vars false W args.toList ds gs before)
    (hsz : (DataW.weightsEach Tryz.prog (Tryz.f5.params.toList ++ (OpenSpec.ofChange Rows.topGhostSpec).bare.plain.varTypes Tryz.prog) (ds ++ gs)).all (· ≤ reachBytes) = true)
    (hL : laidMetH Tryz.prog Rows.topGhostRow.laid W) :
    Calls Tryz.prog 5 args W fun e W' => ∃ v, e = .returned v ∧ Rows.topGhostSpec.post enc Tryz.prog Tryz.f5 false true false false W args v W' := by
  have hW' := hW
  obtain ⟨p, q, hA0, hV, rfl, hfz, hnd⟩ := hW
  have hA : DataW.TrodAll enc Tryz.prog W 0 (fun _ => true) true Tryz.f5.params.toList args.toList ds p := hA0
  rw [Tryz.params5] at hA hval hsz
  obtain ⟨v0, vs0, d0, ds0, p0, q0, hargs, rfl, rfl, h0, r0⟩ := trodAll_cons hA
  obtain ⟨v1, vs1, d1, ds1, p1, q1, rfl, rfl, rfl, h1, r1⟩ := trodAll_cons r0
  obtain ⟨rfl, rfl, rfl⟩ := trodAll_nil r1
  obtain rfl : args = #[v0, v1] := by cases args; simp_all
  obtain ⟨rfl, rfl⟩ := trodVars_none hV
  have lt0 : ∀ x ∈ p0, x.block < W.heap.size := by obtain ⟨m, hm⟩ := h0; exact DataW.trod_lt m _ _ _ hm
  obtain ⟨z0, rfl⟩ := okWide_int Tryz.underlying3 (hval 0 3 v0 rfl rfl)
  have lt1 : ∀ x ∈ p1, x.block < W.heap.size := by obtain ⟨m, hm⟩ := h1; exact DataW.trod_lt m _ _ _ hm
  obtain ⟨z1, rfl⟩ := okWide_int Tryz.underlying3 (hval 1 3 v1 rfl rfl)
  have hT := tabs_of hL
  have hG : 2 ≤ W.heap.size := hT.lt
  clear hA0 hsz
  refine (utopghost_any z0 z1 W hT hG).mono fun e W' ⟨he, bel⟩ => ?_
  subst he
  exact ⟨_, rfl, _, _, _, [], _, [], hW', trodAll_mk1 (shut_bool Tryz.underlying4 _), (trodAll_cons_mk (Below.trod laidOut (by kernel_rfl) (of_decide_eq_true (by kernel_rfl)) h0 bel lt0) (trodAll_cons_mk (Below.trod laidOut (by kernel_rfl) (of_decide_eq_true (by kernel_rfl)) h1 bel lt1) trodAll_mk0)), rfl, bel.frame _, fun h => by cases h⟩

theorem laid_met (os : Os) : laidMet Tryz.prog Rows.topGhostRow.laid ((laidW (World.holding Tryz.prog os ⟨#[], #[], []⟩)).forCall (fun _ _ => 0) ⟨#[], #[.int .i64 0, .int .i64 0], []⟩).memory :=
  laidMet_of_run' 8 (by kernel_rfl) (by kernel_rfl)
theorem reads (os : Os) {H : Type} (enc : TypeId × Value → H) : ∃ places, DataW.whole enc Tryz.prog ((laidW (World.holding Tryz.prog os ⟨#[], #[], []⟩)).forCall (fun _ _ => 0) ⟨#[], #[.int .i64 0, .int .i64 0], []⟩).memory Tryz.f5.params.toList Rows.topGhostSpec.vars false #[Value.int .i64 0, .int .i64 0].toList 8 = some ([.lit (.int .i64 0), .lit (.int .i64 0)], [], places) :=
  ⟨[], by kernel_rfl⟩

set_option maxRecDepth 100000 in
theorem lifted (os : Os) (started : os.Started) (H : Type) (enc : TypeId × Value → H) (F : Stop.Interp) :
    ReturnsInHanded {} Tryz.checked os 5 .any ((OpenSpec.ofChange Rows.topGhostSpec).preRow enc Tryz.prog Tryz.f5 Rows.topGhostRow.domain false Rows.topGhostRow.laid) (((OpenSpec.ofChange Rows.topGhostSpec).at F).post enc Tryz.prog Tryz.f5 false true false false) := by
  obtain ⟨places, hx⟩ := reads os enc
  refine returnsInHanded_of_row (C := Tryz.checked) (s := OpenSpec.ofChange Rows.topGhostSpec) own started (by kernel_rfl) Tryz.func5
    (witness_row_at (enc := enc) (C := Tryz.checked) false (laidW (World.holding Tryz.prog os ⟨#[], #[], []⟩)) #[.int .i64 0, .int .i64 0] rfl (by kernel_rfl) (by kernel_rfl) (by kernel_rfl)
      (OpenSpec.preRow_of_cond 8 hx (by kernel_rfl) (fun k hk => by cases hk) (by kernel_rfl) (laid_met os))) ?_
  intro W base args ds gs before hval hW _ _ hsz hL _ _
  exact contract H enc W base args ds gs before hval hW hsz hL

theorem said : Rows.TopGhostSaid :=
  OpenClaim.holds_of_cond 5 Tryz.f5 rfl rfl rfl rfl rfl rfl rfl ⟨rfl, rfl, rfl, rfl, rfl⟩ rfl rfl rfl rfl rfl (by kernel_rfl) Tryz.func5 (by kernel_rfl)
    (of_decide_eq_true (by kernel_rfl)) (by unfold Func.isWrapper; first | (rw [if_pos (by decide +kernel)]; kernel_rfl) | (rw [if_neg (by decide +kernel)]; exact ⟨rfl, rfl⟩))
    (fun os started H enc _ F => by rw [OpenClaim.pre_eq_preRow]; exact lifted os started H enc F)

theorem plain (f : FuncId) (fn : Func) (hf : Tryz.pinned.checked.prog.funcNamed "hedgerow/hedgetop.TopGhost" = some f) (hfn : Tryz.pinned.checked.prog.funcs[f]? = some fn) :
    false = Tryz.pinned.checked.prog.looks [] ∧ ∀ (j : Nat) t, fn.params[j]? = some t → Tryz.pinned.checked.prog.wantsStandIn t = false := by
  obtain rfl : f = 5 := Option.some.inj ((show Tryz.prog.funcNamed "hedgerow/hedgetop.TopGhost" = some 5 by kernel_rfl).symm.trans hf) |>.symm
  obtain rfl : fn = Tryz.f5 := (Option.some.inj (Tryz.func5.symm.trans hfn)).symm
  refine ⟨by kernel_rfl, fun j t ht => ?_⟩
  rw [Tryz.params5] at ht
  have h1 : Tryz.prog.wantsStandIn 3 = false := by kernel_rfl
  have ht2 : t = 3 := by simpa using Array.mem_of_getElem? ht
  subst ht2
  exact h1

/-- ████ THE CARD ████ -/
theorem card : Rows.TopGhostCardSaid :=
  Claim7.holds_tied_plain_at .later [] _ _ _ _ said (fun _ h => by cases h) (by kernel_rfl) (fun _ h => by cases h) topGhost_row_tie rfl ⟨rfl, rfl⟩ (by kernel_rfl) rfl plain (by kernel_rfl)
end Go.Proofs.YtflghpnpjmodaaaGreatDoor.topGhost
namespace Go.Proofs.YtflghpnpjmodaaaGreatDoor
/-- NO GHOST OUTLIVES MaxHops: the statement, as it was given. -/
theorem topGhost_card : Rows.TopGhostCardSaid := topGhost.card
#print axioms topGhost_card
end Go.Proofs.YtflghpnpjmodaaaGreatDoor
