/- TopFirst: the region with Play -/
import Derived.Test.YtflghpnpjmodaaaGreatDoorR32
namespace Go.Proofs.YtflghpnpjmodaaaGreatDoor
open Go.RowKit
open Tk (Dn)
section
variable {Q : Exit → Act → World → Prop} (df : List Deferred) (X : World) (BN : Nat) (nb nl : Value) (trees bz tz : Int)
variable (R : World → World → Option Addr → Nat → Nat → Option Addr → Nat → Nat → Option Addr → Nat → Nat → Int → Int → Prop)
variable (x0 x4 x5 x6 x7 x8 x10 x14 x15 x16 x17 x18 x19 x20 x21 x22 x23 x24 x25 x26 x27 x28 x29 x30 x31 x32 x33 x34 x35 x36 x37 x38 x39 x40 x41 x42 x43 x44 x45 x46 x47 x48 x49 x50 x51 x52 x53 x54 x55 x56 x57 x58 x59 x60 x61 x62 x63 x64 x65 x66 x67 x70 x74 x75 x76 x77 x78 x79 x80 x81 x82 x83 x84 x85 x86 x87 x88 x89 x90 x91 x92 x93 x94 x95 x96 x97 x98 x99 x100 x101 x102 x103 x104 x105 x106 x107 x108 x109 x110 x111 x112 x113 x114 x115 x116 x117 x118 x119 x120 x121 x122 x123 x124 x125 x126 x127 x128 x129 x130 x131 x132 x133 x134 x135 x136 x137 x138 x139 x140 x141 x142 x143 x144 x145 x146 x147 x148 x149 x150 x151 x152 : Value)
def ur7_ops : Array Oper := #[{ dst := some 68, op := Op.load 32 (Operand.tmp 9), type := 32, pos := "top.go:209", after := #[], guard := none }, { dst := some 69, op := Op.move (Operand.tmp 1), type := 3, pos := "top.go:209", after := #[], guard := none }, { dst := some 70, op := Op.call { callee := Callee.value (Operand.func 16), args := #[Operand.const (Value.int IntKind.i64 40)], argTypes := #[3] }, type := 47, pos := "top.go:209", after := #[], guard := none }, { dst := some 71, op := Op.move (Operand.tmp 2), type := 3, pos := "top.go:209", after := #[], guard := none }, { dst := some 72, op := Op.move (Operand.tmp 3), type := 3, pos := "top.go:209", after := #[], guard := none }, { dst := some 73, op := Op.build 47 #[(0, Operand.const (Value.int IntKind.i64 5)), (1, Operand.tmp 71), (2, Operand.tmp 72)], type := 47, pos := "top.go:209", after := #[{ on := 3, ground := Ground.data }, { on := 4, ground := Ground.data }], guard := none }, { dst := some 74, op := Op.call { callee := Callee.value (Operand.func 16), args := #[Operand.const (Value.int IntKind.i64 40)], argTypes := #[3] }, type := 47, pos := "top.go:209", after := #[{ on := 2, ground := Ground.chain }], guard := none }, { dst := some 75, op := Op.buildSlice 49 3 #[(0, Operand.tmp 70), (1, Operand.tmp 73), (2, Operand.tmp 74)], type := 49, pos := "top.go:209", after := #[{ on := 2, ground := Ground.data }, { on := 5, ground := Ground.data }, { on := 6, ground := Ground.data }], guard := none }, { dst := some 76, op := Op.call { callee := Callee.value (Operand.func 15), args := #[Operand.tmp 68, Operand.tmp 69, Operand.tmp 75], argTypes := #[32, 3, 49] }, type := 44, pos := "top.go:209", after := #[{ on := 0, ground := Ground.data }, { on := 1, ground := Ground.data }, { on := 7, ground := Ground.data }, { on := 6, ground := Ground.chain }], guard := none }, { dst := some 67, op := Op.move (Operand.tmp 76), type := 44, pos := "top.go:209", after := #[{ on := 8, ground := Ground.data }], guard := none }, { dst := some 77, op := Op.extract (Operand.tmp 67) 0, type := 32, pos := "top.go:209", after := #[{ on := 9, ground := Ground.data }], guard := none }, { dst := some 78, op := Op.extract (Operand.tmp 67) 1, type := 43, pos := "top.go:209", after := #[{ on := 9, ground := Ground.data }, { on := 16, ground := Ground.gcOnly Departure.lateStores }], guard := none }, { dst := some 79, op := Op.extract (Operand.tmp 67) 2, type := 26, pos := "top.go:209", after := #[{ on := 9, ground := Ground.data }, { on := 17, ground := Ground.gcOnly Departure.lateStores }], guard := none }, { dst := some 11, op := Op.alloc 32, type := 0, pos := "top.go:209", after := #[], guard := none }, { dst := some 12, op := Op.alloc 43, type := 0, pos := "top.go:209", after := #[], guard := none }, { dst := some 13, op := Op.alloc 26, type := 0, pos := "top.go:209", after := #[], guard := none }, { dst := none, op := Op.store 32 (Operand.tmp 11) (Operand.tmp 77), type := 0, pos := "top.go:209", after := #[{ on := 13, ground := Ground.data }, { on := 10, ground := Ground.data }, { on := 8, ground := Ground.chain }, { on := 0, ground := Ground.phase }, { on := 1, ground := Ground.phase }, { on := 2, ground := Ground.phase }, { on := 3, ground := Ground.phase }, { on := 4, ground := Ground.phase }, { on := 5, ground := Ground.phase }, { on := 6, ground := Ground.phase }, { on := 7, ground := Ground.phase }, { on := 8, ground := Ground.phase }, { on := 9, ground := Ground.phase }, { on := 10, ground := Ground.phase }, { on := 11, ground := Ground.textOnly Departure.lateStores }, { on := 12, ground := Ground.textOnly Departure.lateStores }, { on := 13, ground := Ground.phase }, { on := 14, ground := Ground.phase }, { on := 15, ground := Ground.phase }], guard := none }, { dst := none, op := Op.store 43 (Operand.tmp 12) (Operand.tmp 78), type := 0, pos := "top.go:209", after := #[{ on := 14, ground := Ground.data }, { on := 11, ground := Ground.data }, { on := 16, ground := Ground.chain }, { on := 0, ground := Ground.phase }, { on := 1, ground := Ground.phase }, { on := 2, ground := Ground.phase }, { on := 3, ground := Ground.phase }, { on := 4, ground := Ground.phase }, { on := 5, ground := Ground.phase }, { on := 6, ground := Ground.phase }, { on := 7, ground := Ground.phase }, { on := 8, ground := Ground.phase }, { on := 9, ground := Ground.phase }, { on := 10, ground := Ground.phase }, { on := 11, ground := Ground.phase }, { on := 12, ground := Ground.textOnly Departure.lateStores }, { on := 13, ground := Ground.phase }, { on := 14, ground := Ground.phase }, { on := 15, ground := Ground.phase }, { on := 16, ground := Ground.phase }], guard := none }, { dst := none, op := Op.store 26 (Operand.tmp 13) (Operand.tmp 79), type := 0, pos := "top.go:209", after := #[{ on := 15, ground := Ground.data }, { on := 12, ground := Ground.data }, { on := 17, ground := Ground.chain }, { on := 0, ground := Ground.phase }, { on := 1, ground := Ground.phase }, { on := 2, ground := Ground.phase }, { on := 3, ground := Ground.phase }, { on := 4, ground := Ground.phase }, { on := 5, ground := Ground.phase }, { on := 6, ground := Ground.phase }, { on := 7, ground := Ground.phase }, { on := 8, ground := Ground.phase }, { on := 9, ground := Ground.phase }, { on := 10, ground := Ground.phase }, { on := 11, ground := Ground.phase }, { on := 12, ground := Ground.phase }, { on := 13, ground := Ground.phase }, { on := 14, ground := Ground.phase }, { on := 15, ground := Ground.phase }, { on := 16, ground := Ground.phase }, { on := 17, ground := Ground.phase }], guard := none }]
variable (hQ : ∀ c (a : Act) (d : Tmp) (v : Value) (w : World), Q (.panic c) (a.put (some d) v) w → Q (.panic c) a w)
variable (hC : ∀ V, Below X.heap.size X V → V.cell? ⟨BN, 0, none⟩ = some nb ∧ V.cell? ⟨BN, 1, none⟩ = some nl)
variable (hT : ∀ V tk, Calls Tryz.prog 16 #[.int .i64 tk] V fun e w' => e = .returned (.agg #[.int .i64 1, .int .i64 tk, .int .i64 0, .int .i64 0]) ∧ Below V.heap.size V w')
variable (hP : ∀ V g, Below X.heap.size X V → V.heap[g]? = some (.cells #[.int .i64 1, .int .i64 40, .int .i64 0, .int .i64 0, .int .i64 5, .int .i64 bz, .int .i64 tz, .int .i64 0, .int .i64 1, .int .i64 40, .int .i64 0, .int .i64 0] 47 (0, 0)) → Calls Tryz.prog 15 #[.agg #[nb, nl], .int .i64 trees, .slice (some ⟨g, 0, none⟩) 3 3] V fun e w' => ∃ na nk nc la lk lc oa ol oc f1 f2, e = .returned (.tuple #[.agg #[.slice na nk nc, .slice la lk lc], .agg #[.slice oa ol oc], .agg #[.int .i64 f1, .int .i64 f2]]) ∧ Hid (Below V.heap.size V w' ∧ R V w' na nk nc la lk lc oa ol oc f1 f2))
variable (fin : ∀ (gt : Nat) (V : World) (na : Option Addr) (nk nc : Nat) (la : Option Addr) (lk lc : Nat) (oa : Option Addr) (ol oc : Nat) (f1 f2 : Int) (g7 g8 g9 : Nat) (W0 W : World), R V W0 na nk nc la lk lc oa ol oc f1 f2 → Below W0.heap.size W0 W → Below X.heap.size X W → (W.heap[g7]? = some (.cells #[.slice none 0 0, .slice none 0 0] 32 (0, 0)) ∧ W.heap[g8]? = some (.cells #[.slice none 0 0] 43 (0, 0)) ∧ W.heap[g9]? = some (.cells #[.int .i64 0, .int .i64 0] 26 (0, 0))) → (X.heap.size ≤ g7 ∧ X.heap.size ≤ g8 ∧ X.heap.size ≤ g9) → ((g7 < V.heap.size ∨ W0.heap.size ≤ g7) ∧ (g8 < V.heap.size ∨ W0.heap.size ≤ g8) ∧ (g9 < V.heap.size ∨ W0.heap.size ≤ g9)) → Q .normal { tmps := #[x0, (.int .i64 trees), (.int .i64 bz), (.int .i64 tz), x4, x5, x6, x7, x8, (.pointer (some ⟨BN, 0, none⟩)), x10, (.pointer (some ⟨g7, 0, none⟩)), (.pointer (some ⟨g8, 0, none⟩)), (.pointer (some ⟨g9, 0, none⟩)), x14, x15, x16, x17, x18, x19, x20, x21, x22, x23, x24, x25, x26, x27, x28, x29, x30, x31, x32, x33, x34, x35, x36, x37, x38, x39, x40, x41, x42, x43, x44, x45, x46, x47, x48, x49, x50, x51, x52, x53, x54, x55, x56, x57, x58, x59, x60, x61, x62, x63, x64, x65, x66, (.tuple #[.agg #[.slice na nk nc, .slice la lk lc], .agg #[.slice oa ol oc], .agg #[.int .i64 f1, .int .i64 f2]]), (.agg #[nb, nl]), (.int .i64 trees), (.agg #[.int .i64 1, .int .i64 40, .int .i64 0, .int .i64 0]), (.int .i64 bz), (.int .i64 tz), (.agg #[.int .i64 5, .int .i64 bz, .int .i64 tz, .int .i64 0]), (.agg #[.int .i64 1, .int .i64 40, .int .i64 0, .int .i64 0]), (.slice (some ⟨gt, 0, none⟩) 3 3), (.tuple #[.agg #[.slice na nk nc, .slice la lk lc], .agg #[.slice oa ol oc], .agg #[.int .i64 f1, .int .i64 f2]]), (.agg #[.slice na nk nc, .slice la lk lc]), (.agg #[.slice oa ol oc]), (.agg #[.int .i64 f1, .int .i64 f2]), x80, x81, x82, x83, x84, x85, x86, x87, x88, x89, x90, x91, x92, x93, x94, x95, x96, x97, x98, x99, x100, x101, x102, x103, x104, x105, x106, x107, x108, x109, x110, x111, x112, x113, x114, x115, x116, x117, x118, x119, x120, x121, x122, x123, x124, x125, x126, x127, x128, x129, x130, x131, x132, x133, x134, x135, x136, x137, x138, x139, x140, x141, x142, x143, x144, x145, x146, x147, x148, x149, x150, x151, x152], defers := df } (((((W.setCell ⟨g7, 0, none⟩ (.slice na nk nc)).setCell ⟨g7, 1, none⟩ (.slice la lk lc)).setCell ⟨g8, 0, none⟩ (.slice oa ol oc)).setCell ⟨g9, 0, none⟩ (.int .i64 f1)).setCell ⟨g9, 1, none⟩ (.int .i64 f2)))
set_option maxRecDepth 100000
theorem ur7_rd0 (b7 b8 b9 : Bool) : Region.ready .any ur7_ops #[true, true, false, true, true, true, false, false, false, false, false, false, false, b7, b8, b9, false, false, false] = (2 :: ((if b7 then [] else [13]) ++ ((if b8 then [] else [14]) ++ (if b9 then [] else [15]))) : List Nat) := by
 cases b7 <;> cases b8 <;> cases b9 <;> kernel_rfl
theorem ur7_rd1 (b7 b8 b9 : Bool) : Region.ready .any ur7_ops #[true, true, true, true, true, true, false, false, false, false, false, false, false, b7, b8, b9, false, false, false] = (6 :: ((if b7 then [] else [13]) ++ ((if b8 then [] else [14]) ++ (if b9 then [] else [15]))) : List Nat) := by
 cases b7 <;> cases b8 <;> cases b9 <;> kernel_rfl
theorem ur7_rd2 (b7 b8 b9 : Bool) : Region.ready .any ur7_ops #[true, true, true, true, true, true, true, false, false, false, false, false, false, b7, b8, b9, false, false, false] = (7 :: ((if b7 then [] else [13]) ++ ((if b8 then [] else [14]) ++ (if b9 then [] else [15]))) : List Nat) := by
 cases b7 <;> cases b8 <;> cases b9 <;> kernel_rfl
theorem ur7_rd3 (b7 b8 b9 : Bool) : Region.ready .any ur7_ops #[true, true, true, true, true, true, true, true, false, false, false, false, false, b7, b8, b9, false, false, false] = (8 :: ((if b7 then [] else [13]) ++ ((if b8 then [] else [14]) ++ (if b9 then [] else [15]))) : List Nat) := by
 cases b7 <;> cases b8 <;> cases b9 <;> kernel_rfl
theorem ur7_rd4 (b7 b8 b9 : Bool) : Region.ready .any ur7_ops #[true, true, true, true, true, true, true, true, true, true, true, true, true, b7, b8, b9, false, false, false] = (if (b7 && (b8 && b9)) = true then [16] else (if b7 then [] else [13]) ++ ((if b8 then [] else [14]) ++ (if b9 then [] else [15])) : List Nat) := by
 cases b7 <;> cases b8 <;> cases b9 <;> kernel_rfl
include hC fin in
set_option maxRecDepth 100000 in
set_option maxHeartbeats 1500000 in
theorem ur7_4 : ∀ (fuel : Nat) (b7 b8 b9 : Bool), 3 + cnt3 b7 b8 b9 ≤ fuel → ∀ (s7 s8 s9 : Value) (g7 g8 g9 : Nat) (gt : Nat) (V : World) (na : Option Addr) (nk nc : Nat) (la : Option Addr) (lk lc : Nat) (oa : Option Addr) (ol oc : Nat) (f1 f2 : Int) (W0 W : World), R V W0 na nk nc la lk lc oa ol oc f1 f2 → Below W0.heap.size W0 W → Below X.heap.size X W → AlF W X.heap.size b7 s7 g7 #[.slice none 0 0, .slice none 0 0] 32 → AlF W X.heap.size b8 s8 g8 #[.slice none 0 0] 43 → AlF W X.heap.size b9 s9 g9 #[.int .i64 0, .int .i64 0] 26 → (b7 = true → g7 < V.heap.size ∨ W0.heap.size ≤ g7) → (b8 = true → g8 < V.heap.size ∨ W0.heap.size ≤ g8) → (b9 = true → g9 < V.heap.size ∨ W0.heap.size ≤ g9) → wpAnyZ Tryz.prog .any ur7_ops Q 16 (fun W => W.cell? ⟨BN, 0, none⟩ = some nb ∧ W.cell? ⟨BN, 1, none⟩ = some nl) fuel #[true, true, true, true, true, true, true, true, true, true, true, true, true, b7, b8, b9, false, false, false] { tmps := #[x0, (.int .i64 trees), (.int .i64 bz), (.int .i64 tz), x4, x5, x6, x7, x8, (.pointer (some ⟨BN, 0, none⟩)), x10, s7, s8, s9, x14, x15, x16, x17, x18, x19, x20, x21, x22, x23, x24, x25, x26, x27, x28, x29, x30, x31, x32, x33, x34, x35, x36, x37, x38, x39, x40, x41, x42, x43, x44, x45, x46, x47, x48, x49, x50, x51, x52, x53, x54, x55, x56, x57, x58, x59, x60, x61, x62, x63, x64, x65, x66, (.tuple #[.agg #[.slice na nk nc, .slice la lk lc], .agg #[.slice oa ol oc], .agg #[.int .i64 f1, .int .i64 f2]]), (.agg #[nb, nl]), (.int .i64 trees), (.agg #[.int .i64 1, .int .i64 40, .int .i64 0, .int .i64 0]), (.int .i64 bz), (.int .i64 tz), (.agg #[.int .i64 5, .int .i64 bz, .int .i64 tz, .int .i64 0]), (.agg #[.int .i64 1, .int .i64 40, .int .i64 0, .int .i64 0]), (.slice (some ⟨gt, 0, none⟩) 3 3), (.tuple #[.agg #[.slice na nk nc, .slice la lk lc], .agg #[.slice oa ol oc], .agg #[.int .i64 f1, .int .i64 f2]]), (.agg #[.slice na nk nc, .slice la lk lc]), (.agg #[.slice oa ol oc]), (.agg #[.int .i64 f1, .int .i64 f2]), x80, x81, x82, x83, x84, x85, x86, x87, x88, x89, x90, x91, x92, x93, x94, x95, x96, x97, x98, x99, x100, x101, x102, x103, x104, x105, x106, x107, x108, x109, x110, x111, x112, x113, x114, x115, x116, x117, x118, x119, x120, x121, x122, x123, x124, x125, x126, x127, x128, x129, x130, x131, x132, x133, x134, x135, x136, x137, x138, x139, x140, x141, x142, x143, x144, x145, x146, x147, x148, x149, x150, x151, x152], defers := df } W := by
 intro fuel
 induction fuel with
 | zero => intro b7 b8 b9 h; omega
 | succ fuel ih =>
  intro b7 b8 b9 hf s7 s8 s9 g7 g8 g9 gt V na nk nc la lk lc oa ol oc f1 f2 W0 W hF hb hX h7 h8 h9 hz7 hz8 hz9
  have hHeld : (#[true, true, true, true, true, true, true, true, true, true, true, true, true, b7, b8, b9, false, false, false] : Array Bool).getD 16 true = true ∨ (fun W => W.cell? ⟨BN, 0, none⟩ = some nb ∧ W.cell? ⟨BN, 1, none⟩ = some nl) W := Or.inr (hC W hX)
  by_cases hall : b7 = true ∧ b8 = true ∧ b9 = true
  ·obtain ⟨rfl, rfl, rfl⟩ := hall
   obtain ⟨rfl, k7, l7⟩ := h7 rfl
   obtain ⟨rfl, k8, l8⟩ := h8 rfl
   obtain ⟨rfl, k9, l9⟩ := h9 rfl
   have hfin := fin gt V na nk nc la lk lc oa ol oc f1 f2 g7 g8 g9 W0 W hF hb hX ⟨k7, k8, k9⟩ ⟨l7, l8, l9⟩ ⟨hz7 rfl, hz8 rfl, hz9 rfl⟩
   have n78 : g7 ≠ g8 := fun e => by subst e; exact absurd (cells_type k7 k8) (by decide)
   have n79 : g7 ≠ g9 := fun e => by subst e; exact absurd (cells_type k7 k9) (by decide)
   have n89 : g8 ≠ g9 := fun e => by subst e; exact absurd (cells_type k8 k9) (by decide)
   have n87 := n78.symm
   have n97 := n79.symm
   have n98 := n89.symm
   obtain ⟨u0, u1⟩ := two_cells2 k7
   have u2 := one_cell k8
   obtain ⟨u3, u4⟩ := two_cells2 k9
   have v0 : W.frozen? ⟨g7, 0, none⟩ = false := frozen_of_row _ _ _ _ _ k7
   have v1 : W.frozen? ⟨g7, 1, none⟩ = false := frozen_of_row _ _ _ _ _ k7
   have v2 : W.frozen? ⟨g8, 0, none⟩ = false := frozen_of_row _ _ _ _ _ k8
   have v3 : W.frozen? ⟨g9, 0, none⟩ = false := frozen_of_row _ _ _ _ _ k9
   have v4 : W.frozen? ⟨g9, 1, none⟩ = false := frozen_of_row _ _ _ _ _ k9
   obtain ⟨fuel, rfl⟩ : ∃ q, fuel = q + 1 + 1 := ⟨fuel - 2, by simp [cnt3] at hf; omega⟩
   clear k7 k8 k9 fin ih hz7 hz8 hz9 h7 h8 h9
   refine z_one (i := 16) (o := { dst := none, op := Op.store 32 (Operand.tmp 11) (Operand.tmp 77), type := 0, pos := "top.go:209", after := #[{ on := 13, ground := Ground.data }, { on := 10, ground := Ground.data }, { on := 8, ground := Ground.chain }, { on := 0, ground := Ground.phase }, { on := 1, ground := Ground.phase }, { on := 2, ground := Ground.phase }, { on := 3, ground := Ground.phase }, { on := 4, ground := Ground.phase }, { on := 5, ground := Ground.phase }, { on := 6, ground := Ground.phase }, { on := 7, ground := Ground.phase }, { on := 8, ground := Ground.phase }, { on := 9, ground := Ground.phase }, { on := 10, ground := Ground.phase }, { on := 11, ground := Ground.textOnly Departure.lateStores }, { on := 12, ground := Ground.textOnly Departure.lateStores }, { on := 13, ground := Ground.phase }, { on := 14, ground := Ground.phase }, { on := 15, ground := Ground.phase }], guard := none }) (by kernel_rfl) rfl (fun K hK => ?_)
   go_simp
   refine hK.out _ _ (Or.inl (by kernel_rfl)) (fun hHeld => ?_)
   clear hK K
   (try simp only [List.setIfInBounds_toArray, List.set_cons_zero, List.set_cons_succ])
   refine z_one (i := 17) (o := { dst := none, op := Op.store 43 (Operand.tmp 12) (Operand.tmp 78), type := 0, pos := "top.go:209", after := #[{ on := 14, ground := Ground.data }, { on := 11, ground := Ground.data }, { on := 16, ground := Ground.chain }, { on := 0, ground := Ground.phase }, { on := 1, ground := Ground.phase }, { on := 2, ground := Ground.phase }, { on := 3, ground := Ground.phase }, { on := 4, ground := Ground.phase }, { on := 5, ground := Ground.phase }, { on := 6, ground := Ground.phase }, { on := 7, ground := Ground.phase }, { on := 8, ground := Ground.phase }, { on := 9, ground := Ground.phase }, { on := 10, ground := Ground.phase }, { on := 11, ground := Ground.phase }, { on := 12, ground := Ground.textOnly Departure.lateStores }, { on := 13, ground := Ground.phase }, { on := 14, ground := Ground.phase }, { on := 15, ground := Ground.phase }, { on := 16, ground := Ground.phase }], guard := none }) (by kernel_rfl) rfl (fun K hK => ?_)
   go_simp
   refine hK.out _ _ (Or.inl (by kernel_rfl)) (fun hHeld => ?_)
   clear hK K
   (try simp only [List.setIfInBounds_toArray, List.set_cons_zero, List.set_cons_succ])
   refine z_one (i := 18) (o := { dst := none, op := Op.store 26 (Operand.tmp 13) (Operand.tmp 79), type := 0, pos := "top.go:209", after := #[{ on := 15, ground := Ground.data }, { on := 12, ground := Ground.data }, { on := 17, ground := Ground.chain }, { on := 0, ground := Ground.phase }, { on := 1, ground := Ground.phase }, { on := 2, ground := Ground.phase }, { on := 3, ground := Ground.phase }, { on := 4, ground := Ground.phase }, { on := 5, ground := Ground.phase }, { on := 6, ground := Ground.phase }, { on := 7, ground := Ground.phase }, { on := 8, ground := Ground.phase }, { on := 9, ground := Ground.phase }, { on := 10, ground := Ground.phase }, { on := 11, ground := Ground.phase }, { on := 12, ground := Ground.phase }, { on := 13, ground := Ground.phase }, { on := 14, ground := Ground.phase }, { on := 15, ground := Ground.phase }, { on := 16, ground := Ground.phase }, { on := 17, ground := Ground.phase }], guard := none }) (by kernel_rfl) rfl (fun K hK => ?_)
   go_simp
   refine hK.out _ _ (Or.inl (by kernel_rfl)) (fun hHeld => ?_)
   clear hK K
   (try simp only [List.setIfInBounds_toArray, List.set_cons_zero, List.set_cons_succ])
   refine z_done (by kernel_rfl) ?_ _
   exact hfin
  ·refine z_mem (ur7_rd4 b7 b8 b9) (by revert hall; cases b7 <;> cases b8 <;> cases b9 <;> simp) (fun i hi => ?_)
   rw [if_neg (by revert hall; cases b7 <;> cases b8 <;> cases b9 <;> simp)] at hi
   simp only [List.mem_append] at hi
   rcases hi with hi | hi | hi
   ·cases b7 with
    | true => simp at hi
    | false =>
     obtain rfl : i = 13 := by simpa using hi
     refine z_op (o := { dst := some 11, op := Op.alloc 32, type := 0, pos := "top.go:209", after := #[], guard := none }) rfl (fun K hK => ?_)
     go_simp
     have hn : Below W.heap.size W (W.alloc (.cells #[.slice none 0 0, .slice none 0 0] 32)) := below_alloc1 _ _
     have hXn := hX.trans (hn.mono hX.size)
     refine hK.out _ _ (Or.inr (hC _ hXn)) ?_
     (try simp only [List.setIfInBounds_toArray, List.set_cons_zero, List.set_cons_succ])
     exact ih true b8 b9 (by revert hf; cases b8 <;> cases b9 <;> simp [cnt3] <;> omega) _ s8 s9 W.heap.size g8 g9 gt V na nk nc la lk lc oa ol oc f1 f2 W0 _ hF (hb.trans (hn.mono hb.size)) hXn (AlF.new W hX.size _ _ _) (h8.below hn) (h9.below hn) (fun _ => Or.inr hb.size) hz8 hz9
   ·cases b8 with
    | true => simp at hi
    | false =>
     obtain rfl : i = 14 := by simpa using hi
     refine z_op (o := { dst := some 12, op := Op.alloc 43, type := 0, pos := "top.go:209", after := #[], guard := none }) rfl (fun K hK => ?_)
     go_simp
     have hn : Below W.heap.size W (W.alloc (.cells #[.slice none 0 0] 43)) := below_alloc1 _ _
     have hXn := hX.trans (hn.mono hX.size)
     refine hK.out _ _ (Or.inr (hC _ hXn)) ?_
     (try simp only [List.setIfInBounds_toArray, List.set_cons_zero, List.set_cons_succ])
     exact ih b7 true b9 (by revert hf; cases b7 <;> cases b9 <;> simp [cnt3] <;> omega) s7 _ s9 g7 W.heap.size g9 gt V na nk nc la lk lc oa ol oc f1 f2 W0 _ hF (hb.trans (hn.mono hb.size)) hXn (h7.below hn) (AlF.new W hX.size _ _ _) (h9.below hn) hz7 (fun _ => Or.inr hb.size) hz9
   ·cases b9 with
    | true => simp at hi
    | false =>
     obtain rfl : i = 15 := by simpa using hi
     refine z_op (o := { dst := some 13, op := Op.alloc 26, type := 0, pos := "top.go:209", after := #[], guard := none }) rfl (fun K hK => ?_)
     go_simp
     have hn : Below W.heap.size W (W.alloc (.cells #[.int .i64 0, .int .i64 0] 26)) := below_alloc1 _ _
     have hXn := hX.trans (hn.mono hX.size)
     refine hK.out _ _ (Or.inr (hC _ hXn)) ?_
     (try simp only [List.setIfInBounds_toArray, List.set_cons_zero, List.set_cons_succ])
     exact ih b7 b8 true (by revert hf; cases b7 <;> cases b8 <;> simp [cnt3] <;> omega) s7 s8 _ g7 g8 W.heap.size gt V na nk nc la lk lc oa ol oc f1 f2 W0 _ hF (hb.trans (hn.mono hb.size)) hXn (h7.below hn) (h8.below hn) (AlF.new W hX.size _ _ _) hz7 hz8 (fun _ => Or.inr hb.size)
include hQ hC hP fin in
set_option maxRecDepth 100000 in
set_option maxHeartbeats 1500000 in
theorem ur7_3 : ∀ (fuel : Nat) (b7 b8 b9 : Bool), 8 + cnt3 b7 b8 b9 ≤ fuel → ∀ (s7 s8 s9 : Value) (g7 g8 g9 : Nat) (gt : Nat) (W0 W : World), W0.heap[gt]? = some (.cells #[.int .i64 1, .int .i64 40, .int .i64 0, .int .i64 0, .int .i64 5, .int .i64 bz, .int .i64 tz, .int .i64 0, .int .i64 1, .int .i64 40, .int .i64 0, .int .i64 0] 47 (0, 0)) → Below W0.heap.size W0 W → Below X.heap.size X W → AlF W X.heap.size b7 s7 g7 #[.slice none 0 0, .slice none 0 0] 32 → AlF W X.heap.size b8 s8 g8 #[.slice none 0 0] 43 → AlF W X.heap.size b9 s9 g9 #[.int .i64 0, .int .i64 0] 26 → wpAnyZ Tryz.prog .any ur7_ops Q 16 (fun W => W.cell? ⟨BN, 0, none⟩ = some nb ∧ W.cell? ⟨BN, 1, none⟩ = some nl) fuel #[true, true, true, true, true, true, true, true, false, false, false, false, false, b7, b8, b9, false, false, false] { tmps := #[x0, (.int .i64 trees), (.int .i64 bz), (.int .i64 tz), x4, x5, x6, x7, x8, (.pointer (some ⟨BN, 0, none⟩)), x10, s7, s8, s9, x14, x15, x16, x17, x18, x19, x20, x21, x22, x23, x24, x25, x26, x27, x28, x29, x30, x31, x32, x33, x34, x35, x36, x37, x38, x39, x40, x41, x42, x43, x44, x45, x46, x47, x48, x49, x50, x51, x52, x53, x54, x55, x56, x57, x58, x59, x60, x61, x62, x63, x64, x65, x66, x67, (.agg #[nb, nl]), (.int .i64 trees), (.agg #[.int .i64 1, .int .i64 40, .int .i64 0, .int .i64 0]), (.int .i64 bz), (.int .i64 tz), (.agg #[.int .i64 5, .int .i64 bz, .int .i64 tz, .int .i64 0]), (.agg #[.int .i64 1, .int .i64 40, .int .i64 0, .int .i64 0]), (.slice (some ⟨gt, 0, none⟩) 3 3), x76, x77, x78, x79, x80, x81, x82, x83, x84, x85, x86, x87, x88, x89, x90, x91, x92, x93, x94, x95, x96, x97, x98, x99, x100, x101, x102, x103, x104, x105, x106, x107, x108, x109, x110, x111, x112, x113, x114, x115, x116, x117, x118, x119, x120, x121, x122, x123, x124, x125, x126, x127, x128, x129, x130, x131, x132, x133, x134, x135, x136, x137, x138, x139, x140, x141, x142, x143, x144, x145, x146, x147, x148, x149, x150, x151, x152], defers := df } W := by
 intro fuel
 induction fuel with
 | zero => intro b7 b8 b9 h; omega
 | succ fuel ih =>
  intro b7 b8 b9 hf s7 s8 s9 g7 g8 g9 gt W0 W hF hb hX h7 h8 h9
  have hHeld : (#[true, true, true, true, true, true, true, true, false, false, false, false, false, b7, b8, b9, false, false, false] : Array Bool).getD 16 true = true ∨ (fun W => W.cell? ⟨BN, 0, none⟩ = some nb ∧ W.cell? ⟨BN, 1, none⟩ = some nl) W := Or.inr (hC W hX)
  refine z_mem (ur7_rd3 b7 b8 b9) (by simp) (fun i hi => ?_)
  simp only [List.mem_cons, List.mem_append] at hi
  rcases hi with rfl | hi | hi | hi
  ·refine z_op (o := { dst := some 76, op := Op.call { callee := Callee.value (Operand.func 15), args := #[Operand.tmp 68, Operand.tmp 69, Operand.tmp 75], argTypes := #[32, 3, 49] }, type := 44, pos := "top.go:209", after := #[{ on := 0, ground := Ground.data }, { on := 1, ground := Ground.data }, { on := 7, ground := Ground.data }, { on := 6, ground := Ground.chain }], guard := none }) rfl (fun K hK => ?_)
   go_simp
   refine (hP W gt hX (keep hF hb)).mono ?_
   rintro e w2 ⟨na, nk, nc, la, lk, lc, oa, ol, oc, f1, f2, rfl, H⟩
   have hn := H.out.1
   have hXn := hX.trans (hn.mono hX.size)
   refine hK.out _ _ (Or.inr (hC _ hXn)) ?_
   (try simp only [List.setIfInBounds_toArray, List.set_cons_zero, List.set_cons_succ])
   obtain ⟨fuel, rfl⟩ : ∃ q, fuel = q + 1 + 1 + 1 + 1 := ⟨fuel - 4, by omega⟩
   refine z_take (i := 9) (oi := { dst := some 67, op := Op.move (Operand.tmp 76), type := 44, pos := "top.go:209", after := #[{ on := 8, ground := Ground.data }], guard := none }) (v := (.tuple #[.agg #[.slice na nk nc, .slice la lk lc], .agg #[.slice oa ol oc], .agg #[.int .i64 f1, .int .i64 f2]])) (some 67) rfl rfl (by cases b7 <;> cases b8 <;> cases b9 <;> kernel_rfl) (by cases b7 <;> cases b8 <;> cases b9 <;> kernel_rfl) (by cases b7 <;> cases b8 <;> cases b9 <;> kernel_rfl) (by decide) (fun c a w h => hQ c a _ _ w h) (by rfl) ?_ (Or.inr (hC _ hXn)) ?_
   ·(intro wq; go_simp; try with_reducible rfl)
   (try simp only [Act.put, List.setIfInBounds_toArray, List.set_cons_zero, List.set_cons_succ])
   refine z_take (i := 10) (oi := { dst := some 77, op := Op.extract (Operand.tmp 67) 0, type := 32, pos := "top.go:209", after := #[{ on := 9, ground := Ground.data }], guard := none }) (v := (.agg #[.slice na nk nc, .slice la lk lc])) (some 77) rfl rfl (by cases b7 <;> cases b8 <;> cases b9 <;> kernel_rfl) (by cases b7 <;> cases b8 <;> cases b9 <;> kernel_rfl) (by cases b7 <;> cases b8 <;> cases b9 <;> kernel_rfl) (by decide) (fun c a w h => hQ c a _ _ w h) (by rfl) ?_ (Or.inr (hC _ hXn)) ?_
   ·(intro wq; go_simp; try with_reducible rfl)
   (try simp only [Act.put, List.setIfInBounds_toArray, List.set_cons_zero, List.set_cons_succ])
   refine z_take (i := 11) (oi := { dst := some 78, op := Op.extract (Operand.tmp 67) 1, type := 43, pos := "top.go:209", after := #[{ on := 9, ground := Ground.data }, { on := 16, ground := Ground.gcOnly Departure.lateStores }], guard := none }) (v := (.agg #[.slice oa ol oc])) (some 78) rfl rfl (by cases b7 <;> cases b8 <;> cases b9 <;> kernel_rfl) (by cases b7 <;> cases b8 <;> cases b9 <;> kernel_rfl) (by cases b7 <;> cases b8 <;> cases b9 <;> kernel_rfl) (by decide) (fun c a w h => hQ c a _ _ w h) (by rfl) ?_ (Or.inr (hC _ hXn)) ?_
   ·(intro wq; go_simp; try with_reducible rfl)
   (try simp only [Act.put, List.setIfInBounds_toArray, List.set_cons_zero, List.set_cons_succ])
   refine z_take (i := 12) (oi := { dst := some 79, op := Op.extract (Operand.tmp 67) 2, type := 26, pos := "top.go:209", after := #[{ on := 9, ground := Ground.data }, { on := 17, ground := Ground.gcOnly Departure.lateStores }], guard := none }) (v := (.agg #[.int .i64 f1, .int .i64 f2])) (some 79) rfl rfl (by cases b7 <;> cases b8 <;> cases b9 <;> kernel_rfl) (by cases b7 <;> cases b8 <;> cases b9 <;> kernel_rfl) (by cases b7 <;> cases b8 <;> cases b9 <;> kernel_rfl) (by decide) (fun c a w h => hQ c a _ _ w h) (by rfl) ?_ (Or.inr (hC _ hXn)) ?_
   ·(intro wq; go_simp; try with_reducible rfl)
   (try simp only [Act.put, List.setIfInBounds_toArray, List.set_cons_zero, List.set_cons_succ])
   exact ur7_4 df X BN nb nl trees bz tz R x0 x4 x5 x6 x7 x8 x10 x14 x15 x16 x17 x18 x19 x20 x21 x22 x23 x24 x25 x26 x27 x28 x29 x30 x31 x32 x33 x34 x35 x36 x37 x38 x39 x40 x41 x42 x43 x44 x45 x46 x47 x48 x49 x50 x51 x52 x53 x54 x55 x56 x57 x58 x59 x60 x61 x62 x63 x64 x65 x66 x80 x81 x82 x83 x84 x85 x86 x87 x88 x89 x90 x91 x92 x93 x94 x95 x96 x97 x98 x99 x100 x101 x102 x103 x104 x105 x106 x107 x108 x109 x110 x111 x112 x113 x114 x115 x116 x117 x118 x119 x120 x121 x122 x123 x124 x125 x126 x127 x128 x129 x130 x131 x132 x133 x134 x135 x136 x137 x138 x139 x140 x141 x142 x143 x144 x145 x146 x147 x148 x149 x150 x151 x152 hC fin fuel b7 b8 b9 (by omega) s7 s8 s9 g7 g8 g9 gt W na nk nc la lk lc oa ol oc f1 f2 w2 w2 H.out.2 (Below.refl _ _) hXn (h7.below hn) (h8.below hn) (h9.below hn) (fun e => Or.inl (lt_some (h7 e).2.1)) (fun e => Or.inl (lt_some (h8 e).2.1)) (fun e => Or.inl (lt_some (h9 e).2.1))
  ·cases b7 with
   | true => simp at hi
   | false =>
    obtain rfl : i = 13 := by simpa using hi
    refine z_op (o := { dst := some 11, op := Op.alloc 32, type := 0, pos := "top.go:209", after := #[], guard := none }) rfl (fun K hK => ?_)
    go_simp
    have hn : Below W.heap.size W (W.alloc (.cells #[.slice none 0 0, .slice none 0 0] 32)) := below_alloc1 _ _
    have hXn := hX.trans (hn.mono hX.size)
    refine hK.out _ _ (Or.inr (hC _ hXn)) ?_
    (try simp only [List.setIfInBounds_toArray, List.set_cons_zero, List.set_cons_succ])
    exact ih true b8 b9 (by revert hf; cases b8 <;> cases b9 <;> simp [cnt3] <;> omega) _ s8 s9 W.heap.size g8 g9 gt W0 _ hF (hb.trans (hn.mono hb.size)) hXn (AlF.new W hX.size _ _ _) (h8.below hn) (h9.below hn)
  ·cases b8 with
   | true => simp at hi
   | false =>
    obtain rfl : i = 14 := by simpa using hi
    refine z_op (o := { dst := some 12, op := Op.alloc 43, type := 0, pos := "top.go:209", after := #[], guard := none }) rfl (fun K hK => ?_)
    go_simp
    have hn : Below W.heap.size W (W.alloc (.cells #[.slice none 0 0] 43)) := below_alloc1 _ _
    have hXn := hX.trans (hn.mono hX.size)
    refine hK.out _ _ (Or.inr (hC _ hXn)) ?_
    (try simp only [List.setIfInBounds_toArray, List.set_cons_zero, List.set_cons_succ])
    exact ih b7 true b9 (by revert hf; cases b7 <;> cases b9 <;> simp [cnt3] <;> omega) s7 _ s9 g7 W.heap.size g9 gt W0 _ hF (hb.trans (hn.mono hb.size)) hXn (h7.below hn) (AlF.new W hX.size _ _ _) (h9.below hn)
  ·cases b9 with
   | true => simp at hi
   | false =>
    obtain rfl : i = 15 := by simpa using hi
    refine z_op (o := { dst := some 13, op := Op.alloc 26, type := 0, pos := "top.go:209", after := #[], guard := none }) rfl (fun K hK => ?_)
    go_simp
    have hn : Below W.heap.size W (W.alloc (.cells #[.int .i64 0, .int .i64 0] 26)) := below_alloc1 _ _
    have hXn := hX.trans (hn.mono hX.size)
    refine hK.out _ _ (Or.inr (hC _ hXn)) ?_
    (try simp only [List.setIfInBounds_toArray, List.set_cons_zero, List.set_cons_succ])
    exact ih b7 b8 true (by revert hf; cases b7 <;> cases b8 <;> simp [cnt3] <;> omega) s7 s8 _ g7 g8 W.heap.size gt W0 _ hF (hb.trans (hn.mono hb.size)) hXn (h7.below hn) (h8.below hn) (AlF.new W hX.size _ _ _)
include hQ hC hP fin in
set_option maxRecDepth 100000 in
set_option maxHeartbeats 1500000 in
theorem ur7_2 : ∀ (fuel : Nat) (b7 b8 b9 : Bool), 9 + cnt3 b7 b8 b9 ≤ fuel → ∀ (s7 s8 s9 : Value) (g7 g8 g9 : Nat) (W0 W : World), True → Below W0.heap.size W0 W → Below X.heap.size X W → AlF W X.heap.size b7 s7 g7 #[.slice none 0 0, .slice none 0 0] 32 → AlF W X.heap.size b8 s8 g8 #[.slice none 0 0] 43 → AlF W X.heap.size b9 s9 g9 #[.int .i64 0, .int .i64 0] 26 → wpAnyZ Tryz.prog .any ur7_ops Q 16 (fun W => W.cell? ⟨BN, 0, none⟩ = some nb ∧ W.cell? ⟨BN, 1, none⟩ = some nl) fuel #[true, true, true, true, true, true, true, false, false, false, false, false, false, b7, b8, b9, false, false, false] { tmps := #[x0, (.int .i64 trees), (.int .i64 bz), (.int .i64 tz), x4, x5, x6, x7, x8, (.pointer (some ⟨BN, 0, none⟩)), x10, s7, s8, s9, x14, x15, x16, x17, x18, x19, x20, x21, x22, x23, x24, x25, x26, x27, x28, x29, x30, x31, x32, x33, x34, x35, x36, x37, x38, x39, x40, x41, x42, x43, x44, x45, x46, x47, x48, x49, x50, x51, x52, x53, x54, x55, x56, x57, x58, x59, x60, x61, x62, x63, x64, x65, x66, x67, (.agg #[nb, nl]), (.int .i64 trees), (.agg #[.int .i64 1, .int .i64 40, .int .i64 0, .int .i64 0]), (.int .i64 bz), (.int .i64 tz), (.agg #[.int .i64 5, .int .i64 bz, .int .i64 tz, .int .i64 0]), (.agg #[.int .i64 1, .int .i64 40, .int .i64 0, .int .i64 0]), x75, x76, x77, x78, x79, x80, x81, x82, x83, x84, x85, x86, x87, x88, x89, x90, x91, x92, x93, x94, x95, x96, x97, x98, x99, x100, x101, x102, x103, x104, x105, x106, x107, x108, x109, x110, x111, x112, x113, x114, x115, x116, x117, x118, x119, x120, x121, x122, x123, x124, x125, x126, x127, x128, x129, x130, x131, x132, x133, x134, x135, x136, x137, x138, x139, x140, x141, x142, x143, x144, x145, x146, x147, x148, x149, x150, x151, x152], defers := df } W := by
 intro fuel
 induction fuel with
 | zero => intro b7 b8 b9 h; omega
 | succ fuel ih =>
  intro b7 b8 b9 hf s7 s8 s9 g7 g8 g9 W0 W hF hb hX h7 h8 h9
  have hHeld : (#[true, true, true, true, true, true, true, false, false, false, false, false, false, b7, b8, b9, false, false, false] : Array Bool).getD 16 true = true ∨ (fun W => W.cell? ⟨BN, 0, none⟩ = some nb ∧ W.cell? ⟨BN, 1, none⟩ = some nl) W := Or.inr (hC W hX)
  refine z_mem (ur7_rd2 b7 b8 b9) (by simp) (fun i hi => ?_)
  simp only [List.mem_cons, List.mem_append] at hi
  rcases hi with rfl | hi | hi | hi
  ·refine z_op (o := { dst := some 75, op := Op.buildSlice 49 3 #[(0, Operand.tmp 70), (1, Operand.tmp 73), (2, Operand.tmp 74)], type := 49, pos := "top.go:209", after := #[{ on := 2, ground := Ground.data }, { on := 5, ground := Ground.data }, { on := 6, ground := Ground.data }], guard := none }) rfl (fun K hK => ?_)
   go_simp
   have hn : Below W.heap.size W (W.alloc (.cells #[.int .i64 1, .int .i64 40, .int .i64 0, .int .i64 0, .int .i64 5, .int .i64 bz, .int .i64 tz, .int .i64 0, .int .i64 1, .int .i64 40, .int .i64 0, .int .i64 0] 47)) := below_alloc1 _ _
   have hXn := hX.trans (hn.mono hX.size)
   refine hK.out _ _ (Or.inr (hC _ hXn)) ?_
   (try simp only [List.setIfInBounds_toArray, List.set_cons_zero, List.set_cons_succ])
   exact ur7_3 df X BN nb nl trees bz tz R x0 x4 x5 x6 x7 x8 x10 x14 x15 x16 x17 x18 x19 x20 x21 x22 x23 x24 x25 x26 x27 x28 x29 x30 x31 x32 x33 x34 x35 x36 x37 x38 x39 x40 x41 x42 x43 x44 x45 x46 x47 x48 x49 x50 x51 x52 x53 x54 x55 x56 x57 x58 x59 x60 x61 x62 x63 x64 x65 x66 x67 x76 x77 x78 x79 x80 x81 x82 x83 x84 x85 x86 x87 x88 x89 x90 x91 x92 x93 x94 x95 x96 x97 x98 x99 x100 x101 x102 x103 x104 x105 x106 x107 x108 x109 x110 x111 x112 x113 x114 x115 x116 x117 x118 x119 x120 x121 x122 x123 x124 x125 x126 x127 x128 x129 x130 x131 x132 x133 x134 x135 x136 x137 x138 x139 x140 x141 x142 x143 x144 x145 x146 x147 x148 x149 x150 x151 x152 hQ hC hP fin fuel b7 b8 b9 (by omega) s7 s8 s9 g7 g8 g9 W.heap.size _ _ (heap_alloc_last _ _) (Below.refl _ _) hXn (h7.below hn) (h8.below hn) (h9.below hn)
  ·cases b7 with
   | true => simp at hi
   | false =>
    obtain rfl : i = 13 := by simpa using hi
    refine z_op (o := { dst := some 11, op := Op.alloc 32, type := 0, pos := "top.go:209", after := #[], guard := none }) rfl (fun K hK => ?_)
    go_simp
    have hn : Below W.heap.size W (W.alloc (.cells #[.slice none 0 0, .slice none 0 0] 32)) := below_alloc1 _ _
    have hXn := hX.trans (hn.mono hX.size)
    refine hK.out _ _ (Or.inr (hC _ hXn)) ?_
    (try simp only [List.setIfInBounds_toArray, List.set_cons_zero, List.set_cons_succ])
    exact ih true b8 b9 (by revert hf; cases b8 <;> cases b9 <;> simp [cnt3] <;> omega) _ s8 s9 W.heap.size g8 g9 W0 _ hF (hb.trans (hn.mono hb.size)) hXn (AlF.new W hX.size _ _ _) (h8.below hn) (h9.below hn)
  ·cases b8 with
   | true => simp at hi
   | false =>
    obtain rfl : i = 14 := by simpa using hi
    refine z_op (o := { dst := some 12, op := Op.alloc 43, type := 0, pos := "top.go:209", after := #[], guard := none }) rfl (fun K hK => ?_)
    go_simp
    have hn : Below W.heap.size W (W.alloc (.cells #[.slice none 0 0] 43)) := below_alloc1 _ _
    have hXn := hX.trans (hn.mono hX.size)
    refine hK.out _ _ (Or.inr (hC _ hXn)) ?_
    (try simp only [List.setIfInBounds_toArray, List.set_cons_zero, List.set_cons_succ])
    exact ih b7 true b9 (by revert hf; cases b7 <;> cases b9 <;> simp [cnt3] <;> omega) s7 _ s9 g7 W.heap.size g9 W0 _ hF (hb.trans (hn.mono hb.size)) hXn (h7.below hn) (AlF.new W hX.size _ _ _) (h9.below hn)
  ·cases b9 with
   | true => simp at hi
   | false =>
    obtain rfl : i = 15 := by simpa using hi
    refine z_op (o := { dst := some 13, op := Op.alloc 26, type := 0, pos := "top.go:209", after := #[], guard := none }) rfl (fun K hK => ?_)
    go_simp
    have hn : Below W.heap.size W (W.alloc (.cells #[.int .i64 0, .int .i64 0] 26)) := below_alloc1 _ _
    have hXn := hX.trans (hn.mono hX.size)
    refine hK.out _ _ (Or.inr (hC _ hXn)) ?_
    (try simp only [List.setIfInBounds_toArray, List.set_cons_zero, List.set_cons_succ])
    exact ih b7 b8 true (by revert hf; cases b7 <;> cases b8 <;> simp [cnt3] <;> omega) s7 s8 _ g7 g8 W.heap.size W0 _ hF (hb.trans (hn.mono hb.size)) hXn (h7.below hn) (h8.below hn) (AlF.new W hX.size _ _ _)
include hQ hC hT hP fin in
set_option maxRecDepth 100000 in
set_option maxHeartbeats 1500000 in
theorem ur7_1 : ∀ (fuel : Nat) (b7 b8 b9 : Bool), 10 + cnt3 b7 b8 b9 ≤ fuel → ∀ (s7 s8 s9 : Value) (g7 g8 g9 : Nat) (W0 W : World), True → Below W0.heap.size W0 W → Below X.heap.size X W → AlF W X.heap.size b7 s7 g7 #[.slice none 0 0, .slice none 0 0] 32 → AlF W X.heap.size b8 s8 g8 #[.slice none 0 0] 43 → AlF W X.heap.size b9 s9 g9 #[.int .i64 0, .int .i64 0] 26 → wpAnyZ Tryz.prog .any ur7_ops Q 16 (fun W => W.cell? ⟨BN, 0, none⟩ = some nb ∧ W.cell? ⟨BN, 1, none⟩ = some nl) fuel #[true, true, true, true, true, true, false, false, false, false, false, false, false, b7, b8, b9, false, false, false] { tmps := #[x0, (.int .i64 trees), (.int .i64 bz), (.int .i64 tz), x4, x5, x6, x7, x8, (.pointer (some ⟨BN, 0, none⟩)), x10, s7, s8, s9, x14, x15, x16, x17, x18, x19, x20, x21, x22, x23, x24, x25, x26, x27, x28, x29, x30, x31, x32, x33, x34, x35, x36, x37, x38, x39, x40, x41, x42, x43, x44, x45, x46, x47, x48, x49, x50, x51, x52, x53, x54, x55, x56, x57, x58, x59, x60, x61, x62, x63, x64, x65, x66, x67, (.agg #[nb, nl]), (.int .i64 trees), (.agg #[.int .i64 1, .int .i64 40, .int .i64 0, .int .i64 0]), (.int .i64 bz), (.int .i64 tz), (.agg #[.int .i64 5, .int .i64 bz, .int .i64 tz, .int .i64 0]), x74, x75, x76, x77, x78, x79, x80, x81, x82, x83, x84, x85, x86, x87, x88, x89, x90, x91, x92, x93, x94, x95, x96, x97, x98, x99, x100, x101, x102, x103, x104, x105, x106, x107, x108, x109, x110, x111, x112, x113, x114, x115, x116, x117, x118, x119, x120, x121, x122, x123, x124, x125, x126, x127, x128, x129, x130, x131, x132, x133, x134, x135, x136, x137, x138, x139, x140, x141, x142, x143, x144, x145, x146, x147, x148, x149, x150, x151, x152], defers := df } W := by
 intro fuel
 induction fuel with
 | zero => intro b7 b8 b9 h; omega
 | succ fuel ih =>
  intro b7 b8 b9 hf s7 s8 s9 g7 g8 g9 W0 W hF hb hX h7 h8 h9
  have hHeld : (#[true, true, true, true, true, true, false, false, false, false, false, false, false, b7, b8, b9, false, false, false] : Array Bool).getD 16 true = true ∨ (fun W => W.cell? ⟨BN, 0, none⟩ = some nb ∧ W.cell? ⟨BN, 1, none⟩ = some nl) W := Or.inr (hC W hX)
  refine z_mem (ur7_rd1 b7 b8 b9) (by simp) (fun i hi => ?_)
  simp only [List.mem_cons, List.mem_append] at hi
  rcases hi with rfl | hi | hi | hi
  ·refine z_op (o := { dst := some 74, op := Op.call { callee := Callee.value (Operand.func 16), args := #[Operand.const (Value.int IntKind.i64 40)], argTypes := #[3] }, type := 47, pos := "top.go:209", after := #[{ on := 2, ground := Ground.chain }], guard := none }) rfl (fun K hK => ?_)
   go_simp
   refine (hT W _).mono ?_
   rintro e w2 ⟨rfl, hn⟩
   have hXn := hX.trans (hn.mono hX.size)
   refine hK.out _ _ (Or.inr (hC _ hXn)) ?_
   (try simp only [List.setIfInBounds_toArray, List.set_cons_zero, List.set_cons_succ])
   exact ur7_2 df X BN nb nl trees bz tz R x0 x4 x5 x6 x7 x8 x10 x14 x15 x16 x17 x18 x19 x20 x21 x22 x23 x24 x25 x26 x27 x28 x29 x30 x31 x32 x33 x34 x35 x36 x37 x38 x39 x40 x41 x42 x43 x44 x45 x46 x47 x48 x49 x50 x51 x52 x53 x54 x55 x56 x57 x58 x59 x60 x61 x62 x63 x64 x65 x66 x67 x75 x76 x77 x78 x79 x80 x81 x82 x83 x84 x85 x86 x87 x88 x89 x90 x91 x92 x93 x94 x95 x96 x97 x98 x99 x100 x101 x102 x103 x104 x105 x106 x107 x108 x109 x110 x111 x112 x113 x114 x115 x116 x117 x118 x119 x120 x121 x122 x123 x124 x125 x126 x127 x128 x129 x130 x131 x132 x133 x134 x135 x136 x137 x138 x139 x140 x141 x142 x143 x144 x145 x146 x147 x148 x149 x150 x151 x152 hQ hC hP fin fuel b7 b8 b9 (by omega) s7 s8 s9 g7 g8 g9 W0 w2 hF (hb.trans (hn.mono hb.size)) hXn (h7.below hn) (h8.below hn) (h9.below hn)
  ·cases b7 with
   | true => simp at hi
   | false =>
    obtain rfl : i = 13 := by simpa using hi
    refine z_op (o := { dst := some 11, op := Op.alloc 32, type := 0, pos := "top.go:209", after := #[], guard := none }) rfl (fun K hK => ?_)
    go_simp
    have hn : Below W.heap.size W (W.alloc (.cells #[.slice none 0 0, .slice none 0 0] 32)) := below_alloc1 _ _
    have hXn := hX.trans (hn.mono hX.size)
    refine hK.out _ _ (Or.inr (hC _ hXn)) ?_
    (try simp only [List.setIfInBounds_toArray, List.set_cons_zero, List.set_cons_succ])
    exact ih true b8 b9 (by revert hf; cases b8 <;> cases b9 <;> simp [cnt3] <;> omega) _ s8 s9 W.heap.size g8 g9 W0 _ hF (hb.trans (hn.mono hb.size)) hXn (AlF.new W hX.size _ _ _) (h8.below hn) (h9.below hn)
  ·cases b8 with
   | true => simp at hi
   | false =>
    obtain rfl : i = 14 := by simpa using hi
    refine z_op (o := { dst := some 12, op := Op.alloc 43, type := 0, pos := "top.go:209", after := #[], guard := none }) rfl (fun K hK => ?_)
    go_simp
    have hn : Below W.heap.size W (W.alloc (.cells #[.slice none 0 0] 43)) := below_alloc1 _ _
    have hXn := hX.trans (hn.mono hX.size)
    refine hK.out _ _ (Or.inr (hC _ hXn)) ?_
    (try simp only [List.setIfInBounds_toArray, List.set_cons_zero, List.set_cons_succ])
    exact ih b7 true b9 (by revert hf; cases b7 <;> cases b9 <;> simp [cnt3] <;> omega) s7 _ s9 g7 W.heap.size g9 W0 _ hF (hb.trans (hn.mono hb.size)) hXn (h7.below hn) (AlF.new W hX.size _ _ _) (h9.below hn)
  ·cases b9 with
   | true => simp at hi
   | false =>
    obtain rfl : i = 15 := by simpa using hi
    refine z_op (o := { dst := some 13, op := Op.alloc 26, type := 0, pos := "top.go:209", after := #[], guard := none }) rfl (fun K hK => ?_)
    go_simp
    have hn : Below W.heap.size W (W.alloc (.cells #[.int .i64 0, .int .i64 0] 26)) := below_alloc1 _ _
    have hXn := hX.trans (hn.mono hX.size)
    refine hK.out _ _ (Or.inr (hC _ hXn)) ?_
    (try simp only [List.setIfInBounds_toArray, List.set_cons_zero, List.set_cons_succ])
    exact ih b7 b8 true (by revert hf; cases b7 <;> cases b8 <;> simp [cnt3] <;> omega) s7 s8 _ g7 g8 W.heap.size W0 _ hF (hb.trans (hn.mono hb.size)) hXn (h7.below hn) (h8.below hn) (AlF.new W hX.size _ _ _)
include hQ hC hT hP fin in
set_option maxRecDepth 100000 in
set_option maxHeartbeats 1500000 in
theorem ur7_0 : ∀ (fuel : Nat) (b7 b8 b9 : Bool), 11 + cnt3 b7 b8 b9 ≤ fuel → ∀ (s7 s8 s9 : Value) (g7 g8 g9 : Nat) (W0 W : World), True → Below W0.heap.size W0 W → Below X.heap.size X W → AlF W X.heap.size b7 s7 g7 #[.slice none 0 0, .slice none 0 0] 32 → AlF W X.heap.size b8 s8 g8 #[.slice none 0 0] 43 → AlF W X.heap.size b9 s9 g9 #[.int .i64 0, .int .i64 0] 26 → wpAnyZ Tryz.prog .any ur7_ops Q 16 (fun W => W.cell? ⟨BN, 0, none⟩ = some nb ∧ W.cell? ⟨BN, 1, none⟩ = some nl) fuel #[true, true, false, true, true, true, false, false, false, false, false, false, false, b7, b8, b9, false, false, false] { tmps := #[x0, (.int .i64 trees), (.int .i64 bz), (.int .i64 tz), x4, x5, x6, x7, x8, (.pointer (some ⟨BN, 0, none⟩)), x10, s7, s8, s9, x14, x15, x16, x17, x18, x19, x20, x21, x22, x23, x24, x25, x26, x27, x28, x29, x30, x31, x32, x33, x34, x35, x36, x37, x38, x39, x40, x41, x42, x43, x44, x45, x46, x47, x48, x49, x50, x51, x52, x53, x54, x55, x56, x57, x58, x59, x60, x61, x62, x63, x64, x65, x66, x67, (.agg #[nb, nl]), (.int .i64 trees), x70, (.int .i64 bz), (.int .i64 tz), (.agg #[.int .i64 5, .int .i64 bz, .int .i64 tz, .int .i64 0]), x74, x75, x76, x77, x78, x79, x80, x81, x82, x83, x84, x85, x86, x87, x88, x89, x90, x91, x92, x93, x94, x95, x96, x97, x98, x99, x100, x101, x102, x103, x104, x105, x106, x107, x108, x109, x110, x111, x112, x113, x114, x115, x116, x117, x118, x119, x120, x121, x122, x123, x124, x125, x126, x127, x128, x129, x130, x131, x132, x133, x134, x135, x136, x137, x138, x139, x140, x141, x142, x143, x144, x145, x146, x147, x148, x149, x150, x151, x152], defers := df } W := by
 intro fuel
 induction fuel with
 | zero => intro b7 b8 b9 h; omega
 | succ fuel ih =>
  intro b7 b8 b9 hf s7 s8 s9 g7 g8 g9 W0 W hF hb hX h7 h8 h9
  have hHeld : (#[true, true, false, true, true, true, false, false, false, false, false, false, false, b7, b8, b9, false, false, false] : Array Bool).getD 16 true = true ∨ (fun W => W.cell? ⟨BN, 0, none⟩ = some nb ∧ W.cell? ⟨BN, 1, none⟩ = some nl) W := Or.inr (hC W hX)
  refine z_mem (ur7_rd0 b7 b8 b9) (by simp) (fun i hi => ?_)
  simp only [List.mem_cons, List.mem_append] at hi
  rcases hi with rfl | hi | hi | hi
  ·refine z_op (o := { dst := some 70, op := Op.call { callee := Callee.value (Operand.func 16), args := #[Operand.const (Value.int IntKind.i64 40)], argTypes := #[3] }, type := 47, pos := "top.go:209", after := #[], guard := none }) rfl (fun K hK => ?_)
   go_simp
   refine (hT W _).mono ?_
   rintro e w2 ⟨rfl, hn⟩
   have hXn := hX.trans (hn.mono hX.size)
   refine hK.out _ _ (Or.inr (hC _ hXn)) ?_
   (try simp only [List.setIfInBounds_toArray, List.set_cons_zero, List.set_cons_succ])
   exact ur7_1 df X BN nb nl trees bz tz R x0 x4 x5 x6 x7 x8 x10 x14 x15 x16 x17 x18 x19 x20 x21 x22 x23 x24 x25 x26 x27 x28 x29 x30 x31 x32 x33 x34 x35 x36 x37 x38 x39 x40 x41 x42 x43 x44 x45 x46 x47 x48 x49 x50 x51 x52 x53 x54 x55 x56 x57 x58 x59 x60 x61 x62 x63 x64 x65 x66 x67 x74 x75 x76 x77 x78 x79 x80 x81 x82 x83 x84 x85 x86 x87 x88 x89 x90 x91 x92 x93 x94 x95 x96 x97 x98 x99 x100 x101 x102 x103 x104 x105 x106 x107 x108 x109 x110 x111 x112 x113 x114 x115 x116 x117 x118 x119 x120 x121 x122 x123 x124 x125 x126 x127 x128 x129 x130 x131 x132 x133 x134 x135 x136 x137 x138 x139 x140 x141 x142 x143 x144 x145 x146 x147 x148 x149 x150 x151 x152 hQ hC hT hP fin fuel b7 b8 b9 (by omega) s7 s8 s9 g7 g8 g9 W0 w2 hF (hb.trans (hn.mono hb.size)) hXn (h7.below hn) (h8.below hn) (h9.below hn)
  ·cases b7 with
   | true => simp at hi
   | false =>
    obtain rfl : i = 13 := by simpa using hi
    refine z_op (o := { dst := some 11, op := Op.alloc 32, type := 0, pos := "top.go:209", after := #[], guard := none }) rfl (fun K hK => ?_)
    go_simp
    have hn : Below W.heap.size W (W.alloc (.cells #[.slice none 0 0, .slice none 0 0] 32)) := below_alloc1 _ _
    have hXn := hX.trans (hn.mono hX.size)
    refine hK.out _ _ (Or.inr (hC _ hXn)) ?_
    (try simp only [List.setIfInBounds_toArray, List.set_cons_zero, List.set_cons_succ])
    exact ih true b8 b9 (by revert hf; cases b8 <;> cases b9 <;> simp [cnt3] <;> omega) _ s8 s9 W.heap.size g8 g9 W0 _ hF (hb.trans (hn.mono hb.size)) hXn (AlF.new W hX.size _ _ _) (h8.below hn) (h9.below hn)
  ·cases b8 with
   | true => simp at hi
   | false =>
    obtain rfl : i = 14 := by simpa using hi
    refine z_op (o := { dst := some 12, op := Op.alloc 43, type := 0, pos := "top.go:209", after := #[], guard := none }) rfl (fun K hK => ?_)
    go_simp
    have hn : Below W.heap.size W (W.alloc (.cells #[.slice none 0 0] 43)) := below_alloc1 _ _
    have hXn := hX.trans (hn.mono hX.size)
    refine hK.out _ _ (Or.inr (hC _ hXn)) ?_
    (try simp only [List.setIfInBounds_toArray, List.set_cons_zero, List.set_cons_succ])
    exact ih b7 true b9 (by revert hf; cases b7 <;> cases b9 <;> simp [cnt3] <;> omega) s7 _ s9 g7 W.heap.size g9 W0 _ hF (hb.trans (hn.mono hb.size)) hXn (h7.below hn) (AlF.new W hX.size _ _ _) (h9.below hn)
  ·cases b9 with
   | true => simp at hi
   | false =>
    obtain rfl : i = 15 := by simpa using hi
    refine z_op (o := { dst := some 13, op := Op.alloc 26, type := 0, pos := "top.go:209", after := #[], guard := none }) rfl (fun K hK => ?_)
    go_simp
    have hn : Below W.heap.size W (W.alloc (.cells #[.int .i64 0, .int .i64 0] 26)) := below_alloc1 _ _
    have hXn := hX.trans (hn.mono hX.size)
    refine hK.out _ _ (Or.inr (hC _ hXn)) ?_
    (try simp only [List.setIfInBounds_toArray, List.set_cons_zero, List.set_cons_succ])
    exact ih b7 b8 true (by revert hf; cases b7 <;> cases b8 <;> simp [cnt3] <;> omega) s7 s8 _ g7 g8 W.heap.size W0 _ hF (hb.trans (hn.mono hb.size)) hXn (h7.below hn) (h8.below hn) (AlF.new W hX.size _ _ _)
include hQ hC hT hP fin  in
set_option maxHeartbeats 1500000 in
theorem ur7 (x11 x12 x13 x68 x69 x71 x72 x73 : Value) : (Code.region 12 ur7_ops true).wp Tryz.prog Q { tmps := #[x0, (.int .i64 trees), (.int .i64 bz), (.int .i64 tz), x4, x5, x6, x7, x8, (.pointer (some ⟨BN, 0, none⟩)), x10, x11, x12, x13, x14, x15, x16, x17, x18, x19, x20, x21, x22, x23, x24, x25, x26, x27, x28, x29, x30, x31, x32, x33, x34, x35, x36, x37, x38, x39, x40, x41, x42, x43, x44, x45, x46, x47, x48, x49, x50, x51, x52, x53, x54, x55, x56, x57, x58, x59, x60, x61, x62, x63, x64, x65, x66, x67, x68, x69, x70, x71, x72, x73, x74, x75, x76, x77, x78, x79, x80, x81, x82, x83, x84, x85, x86, x87, x88, x89, x90, x91, x92, x93, x94, x95, x96, x97, x98, x99, x100, x101, x102, x103, x104, x105, x106, x107, x108, x109, x110, x111, x112, x113, x114, x115, x116, x117, x118, x119, x120, x121, x122, x123, x124, x125, x126, x127, x128, x129, x130, x131, x132, x133, x134, x135, x136, x137, x138, x139, x140, x141, x142, x143, x144, x145, x146, x147, x148, x149, x150, x151, x152], defers := df } X := by
 have hXd : Below X.heap.size X X.drew := Below.drew (Below.refl _ _)
 have hc := hC X (Below.refl _ _)
 refine wp_region_z (z := 16) (C := fun W => W.cell? ⟨BN, 0, none⟩ = some nb ∧ W.cell? ⟨BN, 1, none⟩ = some nl) (by kernel_rfl) (hC _ hXd) (fun hHeld => ?_)
 refine z_load (i := 0) (oi := { dst := some 68, op := Op.load 32 (Operand.tmp 9), type := 32, pos := "top.go:209", after := #[], guard := none }) (v := .agg #[nb, nl]) (some 68) rfl rfl (by kernel_rfl) (by kernel_rfl) (by kernel_rfl) (by kernel_rfl) (fun c a w h => hQ c a _ _ w h) (by rfl) ?_ hHeld ?_
 ·(intro wq hSw; go_simp; try with_reducible rfl)
 (try simp only [Act.put, List.setIfInBounds_toArray, List.set_cons_zero, List.set_cons_succ])
 refine z_take (i := 1) (oi := { dst := some 69, op := Op.move (Operand.tmp 1), type := 3, pos := "top.go:209", after := #[], guard := none }) (v := .int .i64 trees) (some 69) rfl rfl (by kernel_rfl) (by kernel_rfl) (by kernel_rfl) (by decide) (fun c a w h => hQ c a _ _ w h) (by rfl) ?_ hHeld ?_
 ·(intro wq; go_simp; try with_reducible rfl)
 (try simp only [Act.put, List.setIfInBounds_toArray, List.set_cons_zero, List.set_cons_succ])
 refine z_take (i := 3) (oi := { dst := some 71, op := Op.move (Operand.tmp 2), type := 3, pos := "top.go:209", after := #[], guard := none }) (v := .int .i64 bz) (some 71) rfl rfl (by kernel_rfl) (by kernel_rfl) (by kernel_rfl) (by decide) (fun c a w h => hQ c a _ _ w h) (by rfl) ?_ hHeld ?_
 ·(intro wq; go_simp; try with_reducible rfl)
 (try simp only [Act.put, List.setIfInBounds_toArray, List.set_cons_zero, List.set_cons_succ])
 refine z_take (i := 4) (oi := { dst := some 72, op := Op.move (Operand.tmp 3), type := 3, pos := "top.go:209", after := #[], guard := none }) (v := .int .i64 tz) (some 72) rfl rfl (by kernel_rfl) (by kernel_rfl) (by kernel_rfl) (by decide) (fun c a w h => hQ c a _ _ w h) (by rfl) ?_ hHeld ?_
 ·(intro wq; go_simp; try with_reducible rfl)
 (try simp only [Act.put, List.setIfInBounds_toArray, List.set_cons_zero, List.set_cons_succ])
 refine z_take (i := 5) (oi := { dst := some 73, op := Op.build 47 #[(0, Operand.const (Value.int IntKind.i64 5)), (1, Operand.tmp 71), (2, Operand.tmp 72)], type := 47, pos := "top.go:209", after := #[{ on := 3, ground := Ground.data }, { on := 4, ground := Ground.data }], guard := none }) (v := .agg #[.int .i64 5, .int .i64 bz, .int .i64 tz, .int .i64 0]) (some 73) rfl rfl (by kernel_rfl) (by kernel_rfl) (by kernel_rfl) (by decide) (fun c a w h => hQ c a _ _ w h) (by rfl) ?_ hHeld ?_
 ·(intro wq; go_simp; try with_reducible rfl)
 (try simp only [Act.put, List.setIfInBounds_toArray, List.set_cons_zero, List.set_cons_succ])
 exact ur7_0 df X BN nb nl trees bz tz R x0 x4 x5 x6 x7 x8 x10 x14 x15 x16 x17 x18 x19 x20 x21 x22 x23 x24 x25 x26 x27 x28 x29 x30 x31 x32 x33 x34 x35 x36 x37 x38 x39 x40 x41 x42 x43 x44 x45 x46 x47 x48 x49 x50 x51 x52 x53 x54 x55 x56 x57 x58 x59 x60 x61 x62 x63 x64 x65 x66 x67 x70 x74 x75 x76 x77 x78 x79 x80 x81 x82 x83 x84 x85 x86 x87 x88 x89 x90 x91 x92 x93 x94 x95 x96 x97 x98 x99 x100 x101 x102 x103 x104 x105 x106 x107 x108 x109 x110 x111 x112 x113 x114 x115 x116 x117 x118 x119 x120 x121 x122 x123 x124 x125 x126 x127 x128 x129 x130 x131 x132 x133 x134 x135 x136 x137 x138 x139 x140 x141 x142 x143 x144 x145 x146 x147 x148 x149 x150 x151 x152 hQ hC hT hP fin _ false false false (by simp [cnt3]) _ _ _ 0 0 0 X _ trivial hXd hXd (fun e => by cases e) (fun e => by cases e) (fun e => by cases e)
end
end Go.Proofs.YtflghpnpjmodaaaGreatDoor
