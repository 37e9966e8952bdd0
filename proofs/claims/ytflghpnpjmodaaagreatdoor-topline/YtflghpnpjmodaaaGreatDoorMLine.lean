/- 'hedgetop.TopLine' returns true for every two numbers, and leaves it as it was: the row and its tied card. Conditions: none beyond the form's own (the tables lie as the program's text lays them: the card's tie). -/
import Derived.Test.YtflghpnpjmodaaaGreatDoorK36
import Derived.Test.YtflghpnpjmodaaaGreatDoorK39
import Derived.Test.YtflghpnpjmodaaaGreatDoorCards
import Derived.Test.YtflghpnpjmodaaaGreatDoorTie
import Derived.Test.YtflghpnpjmodaaaGreatDoorK02
namespace Go.Proofs.YtflghpnpjmodaaaGreatDoor
open Go.RowKit
open Tk (Dn)

section
variable {Q : Exit → Act → World → Prop} (df : List Deferred) (X : World) (BN : Nat) (nb nl : Value) (tk : Int)
variable (R : World → World → Option Addr → Nat → Nat → Option Addr → Nat → Nat → Option Addr → Nat → Nat → Int → Int → Prop)
variable (x0 x2 x3 x4 x9 x10 x11 x12 x13 x14 x15 x16 x17 x18 x19 x20 x21 x22 x23 x24 x25 x26 x27 x28 x29 x30 x33 x34 x35 x36 x37 x38 x39 x40 x41 x42 x43 x44 x45 x46 x47 x48 x49 x50 x51 x52 x53 x54 x55 x56 x57 x58 x59 x60 x61 x62 x63 x64 x65 x66 x67 x68 x69 x70 x71 x72 x73 x74 x75 x76 : Value)
def ur4_ops : Array Oper := #[{ dst := some 31, op := Op.load 32 (Operand.tmp 5), type := 32, pos := "top.go:113", after := #[], guard := none }, { dst := some 32, op := Op.move (Operand.tmp 1), type := 3, pos := "top.go:113", after := #[], guard := none }, { dst := some 33, op := Op.call { callee := Callee.value (Operand.func 16), args := #[Operand.tmp 32], argTypes := #[3] }, type := 47, pos := "top.go:113", after := #[{ on := 1, ground := Ground.data }], guard := none }, { dst := some 34, op := Op.buildSlice 49 1 #[(0, Operand.tmp 33)], type := 49, pos := "top.go:113", after := #[{ on := 2, ground := Ground.data }], guard := none }, { dst := some 35, op := Op.call { callee := Callee.value (Operand.func 15), args := #[Operand.tmp 31, Operand.const (Value.int IntKind.i64 1), Operand.tmp 34], argTypes := #[32, 3, 49] }, type := 44, pos := "top.go:113", after := #[{ on := 0, ground := Ground.data }, { on := 3, ground := Ground.data }, { on := 2, ground := Ground.chain }], guard := none }, { dst := some 30, op := Op.move (Operand.tmp 35), type := 44, pos := "top.go:113", after := #[{ on := 4, ground := Ground.data }], guard := none }, { dst := some 36, op := Op.extract (Operand.tmp 30) 0, type := 32, pos := "top.go:113", after := #[{ on := 5, ground := Ground.data }], guard := none }, { dst := some 37, op := Op.extract (Operand.tmp 30) 1, type := 43, pos := "top.go:113", after := #[{ on := 5, ground := Ground.data }, { on := 12, ground := Ground.gcOnly Departure.lateStores }], guard := none }, { dst := some 38, op := Op.extract (Operand.tmp 30) 2, type := 26, pos := "top.go:113", after := #[{ on := 5, ground := Ground.data }, { on := 13, ground := Ground.gcOnly Departure.lateStores }], guard := none }, { dst := some 6, op := Op.alloc 32, type := 0, pos := "top.go:113", after := #[], guard := none }, { dst := some 7, op := Op.alloc 43, type := 0, pos := "top.go:113", after := #[], guard := none }, { dst := some 8, op := Op.alloc 26, type := 0, pos := "top.go:113", after := #[], guard := none }, { dst := none, op := Op.store 32 (Operand.tmp 6) (Operand.tmp 36), type := 0, pos := "top.go:113", after := #[{ on := 9, ground := Ground.data }, { on := 6, ground := Ground.data }, { on := 4, ground := Ground.chain }, { on := 0, ground := Ground.phase }, { on := 1, ground := Ground.phase }, { on := 2, ground := Ground.phase }, { on := 3, ground := Ground.phase }, { on := 4, ground := Ground.phase }, { on := 5, ground := Ground.phase }, { on := 6, ground := Ground.phase }, { on := 7, ground := Ground.textOnly Departure.lateStores }, { on := 8, ground := Ground.textOnly Departure.lateStores }, { on := 9, ground := Ground.phase }, { on := 10, ground := Ground.phase }, { on := 11, ground := Ground.phase }], guard := none }, { dst := none, op := Op.store 43 (Operand.tmp 7) (Operand.tmp 37), type := 0, pos := "top.go:113", after := #[{ on := 10, ground := Ground.data }, { on := 7, ground := Ground.data }, { on := 12, ground := Ground.chain }, { on := 0, ground := Ground.phase }, { on := 1, ground := Ground.phase }, { on := 2, ground := Ground.phase }, { on := 3, ground := Ground.phase }, { on := 4, ground := Ground.phase }, { on := 5, ground := Ground.phase }, { on := 6, ground := Ground.phase }, { on := 7, ground := Ground.phase }, { on := 8, ground := Ground.textOnly Departure.lateStores }, { on := 9, ground := Ground.phase }, { on := 10, ground := Ground.phase }, { on := 11, ground := Ground.phase }, { on := 12, ground := Ground.phase }], guard := none }, { dst := none, op := Op.store 26 (Operand.tmp 8) (Operand.tmp 38), type := 0, pos := "top.go:113", after := #[{ on := 11, ground := Ground.data }, { on := 8, ground := Ground.data }, { on := 13, ground := Ground.chain }, { on := 0, ground := Ground.phase }, { on := 1, ground := Ground.phase }, { on := 2, ground := Ground.phase }, { on := 3, ground := Ground.phase }, { on := 4, ground := Ground.phase }, { on := 5, ground := Ground.phase }, { on := 6, ground := Ground.phase }, { on := 7, ground := Ground.phase }, { on := 8, ground := Ground.phase }, { on := 9, ground := Ground.phase }, { on := 10, ground := Ground.phase }, { on := 11, ground := Ground.phase }, { on := 12, ground := Ground.phase }, { on := 13, ground := Ground.phase }], guard := none }]
variable (hQ : ∀ c (a : Act) (d : Tmp) (v : Value) (w : World), Q (.panic c) (a.put (some d) v) w → Q (.panic c) a w)
variable (hC : ∀ V, Below X.heap.size X V → V.cell? ⟨BN, 0, none⟩ = some nb ∧ V.cell? ⟨BN, 1, none⟩ = some nl)
variable (hT : ∀ V tk, Calls Tryz.prog 16 #[.int .i64 tk] V fun e w' => e = .returned (.agg #[.int .i64 1, .int .i64 tk, .int .i64 0, .int .i64 0]) ∧ Below V.heap.size V w')
variable (hP : ∀ V g, Below X.heap.size X V → V.heap[g]? = some (.cells #[.int .i64 1, .int .i64 tk, .int .i64 0, .int .i64 0] 47 (0, 0)) → Calls Tryz.prog 15 #[.agg #[nb, nl], .int .i64 1, .slice (some ⟨g, 0, none⟩) 1 1] V fun e w' => ∃ na nk nc la lk lc oa ol oc f1 f2, e = .returned (.tuple #[.agg #[.slice na nk nc, .slice la lk lc], .agg #[.slice oa ol oc], .agg #[.int .i64 f1, .int .i64 f2]]) ∧ Hid (Below V.heap.size V w' ∧ R V w' na nk nc la lk lc oa ol oc f1 f2))
variable (fin : ∀ (gt : Nat) (V : World) (na : Option Addr) (nk nc : Nat) (la : Option Addr) (lk lc : Nat) (oa : Option Addr) (ol oc : Nat) (f1 f2 : Int) (g7 g8 g9 : Nat) (W0 W : World), R V W0 na nk nc la lk lc oa ol oc f1 f2 → Below W0.heap.size W0 W → Below X.heap.size X W → (W.heap[g7]? = some (.cells #[.slice none 0 0, .slice none 0 0] 32 (0, 0)) ∧ W.heap[g8]? = some (.cells #[.slice none 0 0] 43 (0, 0)) ∧ W.heap[g9]? = some (.cells #[.int .i64 0, .int .i64 0] 26 (0, 0))) → (X.heap.size ≤ g7 ∧ X.heap.size ≤ g8 ∧ X.heap.size ≤ g9) → ((g7 < V.heap.size ∨ W0.heap.size ≤ g7) ∧ (g8 < V.heap.size ∨ W0.heap.size ≤ g8) ∧ (g9 < V.heap.size ∨ W0.heap.size ≤ g9)) → Q .normal { tmps := #[x0, (.int .i64 tk), x2, x3, x4, (.pointer (some ⟨BN, 0, none⟩)), (.pointer (some ⟨g7, 0, none⟩)), (.pointer (some ⟨g8, 0, none⟩)), (.pointer (some ⟨g9, 0, none⟩)), x9, x10, x11, x12, x13, x14, x15, x16, x17, x18, x19, x20, x21, x22, x23, x24, x25, x26, x27, x28, x29, (.tuple #[.agg #[.slice na nk nc, .slice la lk lc], .agg #[.slice oa ol oc], .agg #[.int .i64 f1, .int .i64 f2]]), (.agg #[nb, nl]), (.int .i64 tk), (.agg #[.int .i64 1, .int .i64 tk, .int .i64 0, .int .i64 0]), (.slice (some ⟨gt, 0, none⟩) 1 1), (.tuple #[.agg #[.slice na nk nc, .slice la lk lc], .agg #[.slice oa ol oc], .agg #[.int .i64 f1, .int .i64 f2]]), (.agg #[.slice na nk nc, .slice la lk lc]), (.agg #[.slice oa ol oc]), (.agg #[.int .i64 f1, .int .i64 f2]), x39, x40, x41, x42, x43, x44, x45, x46, x47, x48, x49, x50, x51, x52, x53, x54, x55, x56, x57, x58, x59, x60, x61, x62, x63, x64, x65, x66, x67, x68, x69, x70, x71, x72, x73, x74, x75, x76], defers := df } (((((W.setCell ⟨g7, 0, none⟩ (.slice na nk nc)).setCell ⟨g7, 1, none⟩ (.slice la lk lc)).setCell ⟨g8, 0, none⟩ (.slice oa ol oc)).setCell ⟨g9, 0, none⟩ (.int .i64 f1)).setCell ⟨g9, 1, none⟩ (.int .i64 f2)))
set_option maxRecDepth 100000
theorem ur4_rd0 (b7 b8 b9 : Bool) : Region.ready .any ur4_ops #[true, true, false, false, false, false, false, false, false, b7, b8, b9, false, false, false] = (2 :: ((if b7 then [] else [9]) ++ ((if b8 then [] else [10]) ++ (if b9 then [] else [11]))) : List Nat) := by
  cases b7 <;> cases b8 <;> cases b9 <;> kernel_rfl
theorem ur4_rd1 (b7 b8 b9 : Bool) : Region.ready .any ur4_ops #[true, true, true, false, false, false, false, false, false, b7, b8, b9, false, false, false] = (3 :: ((if b7 then [] else [9]) ++ ((if b8 then [] else [10]) ++ (if b9 then [] else [11]))) : List Nat) := by
  cases b7 <;> cases b8 <;> cases b9 <;> kernel_rfl
theorem ur4_rd2 (b7 b8 b9 : Bool) : Region.ready .any ur4_ops #[true, true, true, true, false, false, false, false, false, b7, b8, b9, false, false, false] = (4 :: ((if b7 then [] else [9]) ++ ((if b8 then [] else [10]) ++ (if b9 then [] else [11]))) : List Nat) := by
  cases b7 <;> cases b8 <;> cases b9 <;> kernel_rfl
theorem ur4_rd3 (b7 b8 b9 : Bool) : Region.ready .any ur4_ops #[true, true, true, true, true, true, true, true, true, b7, b8, b9, false, false, false] = (if (b7 && (b8 && b9)) = true then [12] else (if b7 then [] else [9]) ++ ((if b8 then [] else [10]) ++ (if b9 then [] else [11])) : List Nat) := by
  cases b7 <;> cases b8 <;> cases b9 <;> kernel_rfl
include hC fin in
set_option maxRecDepth 100000 in
set_option maxHeartbeats 1500000 in
theorem ur4_3 : ∀ (fuel : Nat) (b7 b8 b9 : Bool), 3 + cnt3 b7 b8 b9 ≤ fuel → ∀ (s7 s8 s9 : Value) (g7 g8 g9 : Nat) (gt : Nat) (V : World) (na : Option Addr) (nk nc : Nat) (la : Option Addr) (lk lc : Nat) (oa : Option Addr) (ol oc : Nat) (f1 f2 : Int) (W0 W : World), R V W0 na nk nc la lk lc oa ol oc f1 f2 → Below W0.heap.size W0 W → Below X.heap.size X W → AlF W X.heap.size b7 s7 g7 #[.slice none 0 0, .slice none 0 0] 32 → AlF W X.heap.size b8 s8 g8 #[.slice none 0 0] 43 → AlF W X.heap.size b9 s9 g9 #[.int .i64 0, .int .i64 0] 26 → (b7 = true → g7 < V.heap.size ∨ W0.heap.size ≤ g7) → (b8 = true → g8 < V.heap.size ∨ W0.heap.size ≤ g8) → (b9 = true → g9 < V.heap.size ∨ W0.heap.size ≤ g9) → wpAnyZ Tryz.prog .any ur4_ops Q 12 (fun W => W.cell? ⟨BN, 0, none⟩ = some nb ∧ W.cell? ⟨BN, 1, none⟩ = some nl) fuel #[true, true, true, true, true, true, true, true, true, b7, b8, b9, false, false, false] { tmps := #[x0, (.int .i64 tk), x2, x3, x4, (.pointer (some ⟨BN, 0, none⟩)), s7, s8, s9, x9, x10, x11, x12, x13, x14, x15, x16, x17, x18, x19, x20, x21, x22, x23, x24, x25, x26, x27, x28, x29, (.tuple #[.agg #[.slice na nk nc, .slice la lk lc], .agg #[.slice oa ol oc], .agg #[.int .i64 f1, .int .i64 f2]]), (.agg #[nb, nl]), (.int .i64 tk), (.agg #[.int .i64 1, .int .i64 tk, .int .i64 0, .int .i64 0]), (.slice (some ⟨gt, 0, none⟩) 1 1), (.tuple #[.agg #[.slice na nk nc, .slice la lk lc], .agg #[.slice oa ol oc], .agg #[.int .i64 f1, .int .i64 f2]]), (.agg #[.slice na nk nc, .slice la lk lc]), (.agg #[.slice oa ol oc]), (.agg #[.int .i64 f1, .int .i64 f2]), x39, x40, x41, x42, x43, x44, x45, x46, x47, x48, x49, x50, x51, x52, x53, x54, x55, x56, x57, x58, x59, x60, x61, x62, x63, x64, x65, x66, x67, x68, x69, x70, x71, x72, x73, x74, x75, x76], defers := df } W := by
  intro fuel
  induction fuel with
  | zero => intro b7 b8 b9 h; omega
  | succ fuel ih =>
    intro b7 b8 b9 hf s7 s8 s9 g7 g8 g9 gt V na nk nc la lk lc oa ol oc f1 f2 W0 W hF hb hX h7 h8 h9 hz7 hz8 hz9 
    have hHeld : (#[true, true, true, true, true, true, true, true, true, b7, b8, b9, false, false, false] : Array Bool).getD 12 true = true ∨ (fun W => W.cell? ⟨BN, 0, none⟩ = some nb ∧ W.cell? ⟨BN, 1, none⟩ = some nl) W := Or.inr (hC W hX)
    by_cases hall : b7 = true ∧ b8 = true ∧ b9 = true
    · obtain ⟨rfl, rfl, rfl⟩ := hall
      obtain ⟨rfl, k7, l7⟩ := h7 rfl
      obtain ⟨rfl, k8, l8⟩ := h8 rfl
      obtain ⟨rfl, k9, l9⟩ := h9 rfl
      have hfin := fin gt V na nk nc la lk lc oa ol oc f1 f2 g7 g8 g9 W0 W hF hb hX ⟨k7, k8, k9⟩ ⟨l7, l8, l9⟩ ⟨hz7 rfl, hz8 rfl, hz9 rfl⟩
      have n78 : g7 ≠ g8 := fun e => by subst e; exact absurd (cells_type k7 k8) (by decide)
      have n79 : g7 ≠ g9 := fun e => by subst e; exact absurd (cells_type k7 k9) (by decide)
      have n89 : g8 ≠ g9 := fun e => by subst e; exact absurd (cells_type k8 k9) (by decide)
      have n87 := n78.symm
      have n97 := n79.symm
      have n98 := n89.symm
      obtain ⟨u0, u1⟩ := two_cells2 k7
      have u2 := one_cell k8
      obtain ⟨u3, u4⟩ := two_cells2 k9
      have v0 : W.frozen? ⟨g7, 0, none⟩ = false := frozen_of_row _ _ _ _ _ k7
      have v1 : W.frozen? ⟨g7, 1, none⟩ = false := frozen_of_row _ _ _ _ _ k7
      have v2 : W.frozen? ⟨g8, 0, none⟩ = false := frozen_of_row _ _ _ _ _ k8
      have v3 : W.frozen? ⟨g9, 0, none⟩ = false := frozen_of_row _ _ _ _ _ k9
      have v4 : W.frozen? ⟨g9, 1, none⟩ = false := frozen_of_row _ _ _ _ _ k9
      obtain ⟨fuel, rfl⟩ : ∃ q, fuel = q + 1 + 1 := ⟨fuel - 2, by simp [cnt3] at hf; omega⟩
      clear k7 k8 k9 fin ih hz7 hz8 hz9 h7 h8 h9
      refine z_one (i := 12) (o := { dst := none, op := Op.store 32 (Operand.tmp 6) (Operand.tmp 36), type := 0, pos := "top.go:113", after := #[{ on := 9, ground := Ground.data }, { on := 6, ground := Ground.data }, { on := 4, ground := Ground.chain }, { on := 0, ground := Ground.phase }, { on := 1, ground := Ground.phase }, { on := 2, ground := Ground.phase }, { on := 3, ground := Ground.phase }, { on := 4, ground := Ground.phase }, { on := 5, ground := Ground.phase }, { on := 6, ground := Ground.phase }, { on := 7, ground := Ground.textOnly Departure.lateStores }, { on := 8, ground := Ground.textOnly Departure.lateStores }, { on := 9, ground := Ground.phase }, { on := 10, ground := Ground.phase }, { on := 11, ground := Ground.phase }], guard := none }) (by kernel_rfl) rfl (fun K hK => ?_)
      go_simp
      refine hK.out _ _ (Or.inl (by kernel_rfl)) (fun hHeld => ?_)
      clear hK K
      (try simp only [List.setIfInBounds_toArray, List.set_cons_zero, List.set_cons_succ])
      refine z_one (i := 13) (o := { dst := none, op := Op.store 43 (Operand.tmp 7) (Operand.tmp 37), type := 0, pos := "top.go:113", after := #[{ on := 10, ground := Ground.data }, { on := 7, ground := Ground.data }, { on := 12, ground := Ground.chain }, { on := 0, ground := Ground.phase }, { on := 1, ground := Ground.phase }, { on := 2, ground := Ground.phase }, { on := 3, ground := Ground.phase }, { on := 4, ground := Ground.phase }, { on := 5, ground := Ground.phase }, { on := 6, ground := Ground.phase }, { on := 7, ground := Ground.phase }, { on := 8, ground := Ground.textOnly Departure.lateStores }, { on := 9, ground := Ground.phase }, { on := 10, ground := Ground.phase }, { on := 11, ground := Ground.phase }, { on := 12, ground := Ground.phase }], guard := none }) (by kernel_rfl) rfl (fun K hK => ?_)
      go_simp
      refine hK.out _ _ (Or.inl (by kernel_rfl)) (fun hHeld => ?_)
      clear hK K
      (try simp only [List.setIfInBounds_toArray, List.set_cons_zero, List.set_cons_succ])
      refine z_one (i := 14) (o := { dst := none, op := Op.store 26 (Operand.tmp 8) (Operand.tmp 38), type := 0, pos := "top.go:113", after := #[{ on := 11, ground := Ground.data }, { on := 8, ground := Ground.data }, { on := 13, ground := Ground.chain }, { on := 0, ground := Ground.phase }, { on := 1, ground := Ground.phase }, { on := 2, ground := Ground.phase }, { on := 3, ground := Ground.phase }, { on := 4, ground := Ground.phase }, { on := 5, ground := Ground.phase }, { on := 6, ground := Ground.phase }, { on := 7, ground := Ground.phase }, { on := 8, ground := Ground.phase }, { on := 9, ground := Ground.phase }, { on := 10, ground := Ground.phase }, { on := 11, ground := Ground.phase }, { on := 12, ground := Ground.phase }, { on := 13, ground := Ground.phase }], guard := none }) (by kernel_rfl) rfl (fun K hK => ?_)
      go_simp
      refine hK.out _ _ (Or.inl (by kernel_rfl)) (fun hHeld => ?_)
      clear hK K
      (try simp only [List.setIfInBounds_toArray, List.set_cons_zero, List.set_cons_succ])
      refine z_done (by kernel_rfl) ?_ _
      exact hfin
    · refine z_mem (ur4_rd3 b7 b8 b9) (by revert hall; cases b7 <;> cases b8 <;> cases b9 <;> simp) (fun i hi => ?_)
      rw [if_neg (by revert hall; cases b7 <;> cases b8 <;> cases b9 <;> simp)] at hi
      simp only [List.mem_append] at hi
      rcases hi with hi | hi | hi
      · cases b7 with
        | true => simp at hi
        | false =>
          obtain rfl : i = 9 := by simpa using hi
          refine z_op (o := { dst := some 6, op := Op.alloc 32, type := 0, pos := "top.go:113", after := #[], guard := none }) rfl (fun K hK => ?_)
          go_simp
          have hn : Below W.heap.size W (W.alloc (.cells #[.slice none 0 0, .slice none 0 0] 32)) := below_alloc1 _ _
          have hXn := hX.trans (hn.mono hX.size)
          refine hK.out _ _ (Or.inr (hC _ hXn)) ?_
          (try simp only [List.setIfInBounds_toArray, List.set_cons_zero, List.set_cons_succ])
          exact ih true b8 b9 (by revert hf; cases b8 <;> cases b9 <;> simp [cnt3] <;> omega) _ s8 s9 W.heap.size g8 g9 gt V na nk nc la lk lc oa ol oc f1 f2 W0 _ hF (hb.trans (hn.mono hb.size)) hXn (AlF.new W hX.size _ _ _) (h8.below hn) (h9.below hn) (fun _ => Or.inr hb.size) hz8 hz9
      · cases b8 with
        | true => simp at hi
        | false =>
          obtain rfl : i = 10 := by simpa using hi
          refine z_op (o := { dst := some 7, op := Op.alloc 43, type := 0, pos := "top.go:113", after := #[], guard := none }) rfl (fun K hK => ?_)
          go_simp
          have hn : Below W.heap.size W (W.alloc (.cells #[.slice none 0 0] 43)) := below_alloc1 _ _
          have hXn := hX.trans (hn.mono hX.size)
          refine hK.out _ _ (Or.inr (hC _ hXn)) ?_
          (try simp only [List.setIfInBounds_toArray, List.set_cons_zero, List.set_cons_succ])
          exact ih b7 true b9 (by revert hf; cases b7 <;> cases b9 <;> simp [cnt3] <;> omega) s7 _ s9 g7 W.heap.size g9 gt V na nk nc la lk lc oa ol oc f1 f2 W0 _ hF (hb.trans (hn.mono hb.size)) hXn (h7.below hn) (AlF.new W hX.size _ _ _) (h9.below hn) hz7 (fun _ => Or.inr hb.size) hz9
      · cases b9 with
        | true => simp at hi
        | false =>
          obtain rfl : i = 11 := by simpa using hi
          refine z_op (o := { dst := some 8, op := Op.alloc 26, type := 0, pos := "top.go:113", after := #[], guard := none }) rfl (fun K hK => ?_)
          go_simp
          have hn : Below W.heap.size W (W.alloc (.cells #[.int .i64 0, .int .i64 0] 26)) := below_alloc1 _ _
          have hXn := hX.trans (hn.mono hX.size)
          refine hK.out _ _ (Or.inr (hC _ hXn)) ?_
          (try simp only [List.setIfInBounds_toArray, List.set_cons_zero, List.set_cons_succ])
          exact ih b7 b8 true (by revert hf; cases b7 <;> cases b8 <;> simp [cnt3] <;> omega) s7 s8 _ g7 g8 W.heap.size gt V na nk nc la lk lc oa ol oc f1 f2 W0 _ hF (hb.trans (hn.mono hb.size)) hXn (h7.below hn) (h8.below hn) (AlF.new W hX.size _ _ _) hz7 hz8 (fun _ => Or.inr hb.size)
include hQ hC hP fin in
set_option maxRecDepth 100000 in
set_option maxHeartbeats 1500000 in
theorem ur4_2 : ∀ (fuel : Nat) (b7 b8 b9 : Bool), 8 + cnt3 b7 b8 b9 ≤ fuel → ∀ (s7 s8 s9 : Value) (g7 g8 g9 : Nat) (gt : Nat) (W0 W : World), W0.heap[gt]? = some (.cells #[.int .i64 1, .int .i64 tk, .int .i64 0, .int .i64 0] 47 (0, 0)) → Below W0.heap.size W0 W → Below X.heap.size X W → AlF W X.heap.size b7 s7 g7 #[.slice none 0 0, .slice none 0 0] 32 → AlF W X.heap.size b8 s8 g8 #[.slice none 0 0] 43 → AlF W X.heap.size b9 s9 g9 #[.int .i64 0, .int .i64 0] 26 → wpAnyZ Tryz.prog .any ur4_ops Q 12 (fun W => W.cell? ⟨BN, 0, none⟩ = some nb ∧ W.cell? ⟨BN, 1, none⟩ = some nl) fuel #[true, true, true, true, false, false, false, false, false, b7, b8, b9, false, false, false] { tmps := #[x0, (.int .i64 tk), x2, x3, x4, (.pointer (some ⟨BN, 0, none⟩)), s7, s8, s9, x9, x10, x11, x12, x13, x14, x15, x16, x17, x18, x19, x20, x21, x22, x23, x24, x25, x26, x27, x28, x29, x30, (.agg #[nb, nl]), (.int .i64 tk), (.agg #[.int .i64 1, .int .i64 tk, .int .i64 0, .int .i64 0]), (.slice (some ⟨gt, 0, none⟩) 1 1), x35, x36, x37, x38, x39, x40, x41, x42, x43, x44, x45, x46, x47, x48, x49, x50, x51, x52, x53, x54, x55, x56, x57, x58, x59, x60, x61, x62, x63, x64, x65, x66, x67, x68, x69, x70, x71, x72, x73, x74, x75, x76], defers := df } W := by
  intro fuel
  induction fuel with
  | zero => intro b7 b8 b9 h; omega
  | succ fuel ih =>
    intro b7 b8 b9 hf s7 s8 s9 g7 g8 g9 gt W0 W hF hb hX h7 h8 h9 
    have hHeld : (#[true, true, true, true, false, false, false, false, false, b7, b8, b9, false, false, false] : Array Bool).getD 12 true = true ∨ (fun W => W.cell? ⟨BN, 0, none⟩ = some nb ∧ W.cell? ⟨BN, 1, none⟩ = some nl) W := Or.inr (hC W hX)
    refine z_mem (ur4_rd2 b7 b8 b9) (by simp) (fun i hi => ?_)
    simp only [List.mem_cons, List.mem_append] at hi
    rcases hi with rfl | hi | hi | hi
    · refine z_op (o := { dst := some 35, op := Op.call { callee := Callee.value (Operand.func 15), args := #[Operand.tmp 31, Operand.const (Value.int IntKind.i64 1), Operand.tmp 34], argTypes := #[32, 3, 49] }, type := 44, pos := "top.go:113", after := #[{ on := 0, ground := Ground.data }, { on := 3, ground := Ground.data }, { on := 2, ground := Ground.chain }], guard := none }) rfl (fun K hK => ?_)
      go_simp
      refine (hP W gt hX (keep hF hb)).mono ?_
      rintro e w2 ⟨na, nk, nc, la, lk, lc, oa, ol, oc, f1, f2, rfl, H⟩
      have hn := H.out.1
      have hXn := hX.trans (hn.mono hX.size)
      refine hK.out _ _ (Or.inr (hC _ hXn)) ?_
      (try simp only [List.setIfInBounds_toArray, List.set_cons_zero, List.set_cons_succ])
      obtain ⟨fuel, rfl⟩ : ∃ q, fuel = q + 1 + 1 + 1 + 1 := ⟨fuel - 4, by omega⟩
      refine z_take (i := 5) (oi := { dst := some 30, op := Op.move (Operand.tmp 35), type := 44, pos := "top.go:113", after := #[{ on := 4, ground := Ground.data }], guard := none }) (v := (.tuple #[.agg #[.slice na nk nc, .slice la lk lc], .agg #[.slice oa ol oc], .agg #[.int .i64 f1, .int .i64 f2]])) (some 30) rfl rfl (by cases b7 <;> cases b8 <;> cases b9 <;> kernel_rfl) (by cases b7 <;> cases b8 <;> cases b9 <;> kernel_rfl) (by cases b7 <;> cases b8 <;> cases b9 <;> kernel_rfl) (by decide) (fun c a w h => hQ c a _ _ w h) (by rfl) ?_ (Or.inr (hC _ hXn)) ?_
      · (intro wq; go_simp; try with_reducible rfl)
      (try simp only [Act.put, List.setIfInBounds_toArray, List.set_cons_zero, List.set_cons_succ])
      refine z_take (i := 6) (oi := { dst := some 36, op := Op.extract (Operand.tmp 30) 0, type := 32, pos := "top.go:113", after := #[{ on := 5, ground := Ground.data }], guard := none }) (v := (.agg #[.slice na nk nc, .slice la lk lc])) (some 36) rfl rfl (by cases b7 <;> cases b8 <;> cases b9 <;> kernel_rfl) (by cases b7 <;> cases b8 <;> cases b9 <;> kernel_rfl) (by cases b7 <;> cases b8 <;> cases b9 <;> kernel_rfl) (by decide) (fun c a w h => hQ c a _ _ w h) (by rfl) ?_ (Or.inr (hC _ hXn)) ?_
      · (intro wq; go_simp; try with_reducible rfl)
      (try simp only [Act.put, List.setIfInBounds_toArray, List.set_cons_zero, List.set_cons_succ])
      refine z_take (i := 7) (oi := { dst := some 37, op := Op.extract (Operand.tmp 30) 1, type := 43, pos := "top.go:113", after := #[{ on := 5, ground := Ground.data }, { on := 12, ground := Ground.gcOnly Departure.lateStores }], guard := none }) (v := (.agg #[.slice oa ol oc])) (some 37) rfl rfl (by cases b7 <;> cases b8 <;> cases b9 <;> kernel_rfl) (by cases b7 <;> cases b8 <;> cases b9 <;> kernel_rfl) (by cases b7 <;> cases b8 <;> cases b9 <;> kernel_rfl) (by decide) (fun c a w h => hQ c a _ _ w h) (by rfl) ?_ (Or.inr (hC _ hXn)) ?_
      · (intro wq; go_simp; try with_reducible rfl)
      (try simp only [Act.put, List.setIfInBounds_toArray, List.set_cons_zero, List.set_cons_succ])
      refine z_take (i := 8) (oi := { dst := some 38, op := Op.extract (Operand.tmp 30) 2, type := 26, pos := "top.go:113", after := #[{ on := 5, ground := Ground.data }, { on := 13, ground := Ground.gcOnly Departure.lateStores }], guard := none }) (v := (.agg #[.int .i64 f1, .int .i64 f2])) (some 38) rfl rfl (by cases b7 <;> cases b8 <;> cases b9 <;> kernel_rfl) (by cases b7 <;> cases b8 <;> cases b9 <;> kernel_rfl) (by cases b7 <;> cases b8 <;> cases b9 <;> kernel_rfl) (by decide) (fun c a w h => hQ c a _ _ w h) (by rfl) ?_ (Or.inr (hC _ hXn)) ?_
      · (intro wq; go_simp; try with_reducible rfl)
      (try simp only [Act.put, List.setIfInBounds_toArray, List.set_cons_zero, List.set_cons_succ])
      exact ur4_3 df X BN nb nl tk R x0 x2 x3 x4 x9 x10 x11 x12 x13 x14 x15 x16 x17 x18 x19 x20 x21 x22 x23 x24 x25 x26 x27 x28 x29 x39 x40 x41 x42 x43 x44 x45 x46 x47 x48 x49 x50 x51 x52 x53 x54 x55 x56 x57 x58 x59 x60 x61 x62 x63 x64 x65 x66 x67 x68 x69 x70 x71 x72 x73 x74 x75 x76 hC fin fuel b7 b8 b9 (by omega) s7 s8 s9 g7 g8 g9 gt W na nk nc la lk lc oa ol oc f1 f2 w2 w2 H.out.2 (Below.refl _ _) hXn (h7.below hn) (h8.below hn) (h9.below hn) (fun e => Or.inl (lt_some (h7 e).2.1)) (fun e => Or.inl (lt_some (h8 e).2.1)) (fun e => Or.inl (lt_some (h9 e).2.1))
    · cases b7 with
      | true => simp at hi
      | false =>
        obtain rfl : i = 9 := by simpa using hi
        refine z_op (o := { dst := some 6, op := Op.alloc 32, type := 0, pos := "top.go:113", after := #[], guard := none }) rfl (fun K hK => ?_)
        go_simp
        have hn : Below W.heap.size W (W.alloc (.cells #[.slice none 0 0, .slice none 0 0] 32)) := below_alloc1 _ _
        have hXn := hX.trans (hn.mono hX.size)
        refine hK.out _ _ (Or.inr (hC _ hXn)) ?_
        (try simp only [List.setIfInBounds_toArray, List.set_cons_zero, List.set_cons_succ])
        exact ih true b8 b9 (by revert hf; cases b8 <;> cases b9 <;> simp [cnt3] <;> omega) _ s8 s9 W.heap.size g8 g9 gt W0 _ hF (hb.trans (hn.mono hb.size)) hXn (AlF.new W hX.size _ _ _) (h8.below hn) (h9.below hn) 
    · cases b8 with
      | true => simp at hi
      | false =>
        obtain rfl : i = 10 := by simpa using hi
        refine z_op (o := { dst := some 7, op := Op.alloc 43, type := 0, pos := "top.go:113", after := #[], guard := none }) rfl (fun K hK => ?_)
        go_simp
        have hn : Below W.heap.size W (W.alloc (.cells #[.slice none 0 0] 43)) := below_alloc1 _ _
        have hXn := hX.trans (hn.mono hX.size)
        refine hK.out _ _ (Or.inr (hC _ hXn)) ?_
        (try simp only [List.setIfInBounds_toArray, List.set_cons_zero, List.set_cons_succ])
        exact ih b7 true b9 (by revert hf; cases b7 <;> cases b9 <;> simp [cnt3] <;> omega) s7 _ s9 g7 W.heap.size g9 gt W0 _ hF (hb.trans (hn.mono hb.size)) hXn (h7.below hn) (AlF.new W hX.size _ _ _) (h9.below hn) 
    · cases b9 with
      | true => simp at hi
      | false =>
        obtain rfl : i = 11 := by simpa using hi
        refine z_op (o := { dst := some 8, op := Op.alloc 26, type := 0, pos := "top.go:113", after := #[], guard := none }) rfl (fun K hK => ?_)
        go_simp
        have hn : Below W.heap.size W (W.alloc (.cells #[.int .i64 0, .int .i64 0] 26)) := below_alloc1 _ _
        have hXn := hX.trans (hn.mono hX.size)
        refine hK.out _ _ (Or.inr (hC _ hXn)) ?_
        (try simp only [List.setIfInBounds_toArray, List.set_cons_zero, List.set_cons_succ])
        exact ih b7 b8 true (by revert hf; cases b7 <;> cases b8 <;> simp [cnt3] <;> omega) s7 s8 _ g7 g8 W.heap.size gt W0 _ hF (hb.trans (hn.mono hb.size)) hXn (h7.below hn) (h8.below hn) (AlF.new W hX.size _ _ _) 
include hQ hC hP fin in
set_option maxRecDepth 100000 in
set_option maxHeartbeats 1500000 in
theorem ur4_1 : ∀ (fuel : Nat) (b7 b8 b9 : Bool), 9 + cnt3 b7 b8 b9 ≤ fuel → ∀ (s7 s8 s9 : Value) (g7 g8 g9 : Nat) (W0 W : World), True → Below W0.heap.size W0 W → Below X.heap.size X W → AlF W X.heap.size b7 s7 g7 #[.slice none 0 0, .slice none 0 0] 32 → AlF W X.heap.size b8 s8 g8 #[.slice none 0 0] 43 → AlF W X.heap.size b9 s9 g9 #[.int .i64 0, .int .i64 0] 26 → wpAnyZ Tryz.prog .any ur4_ops Q 12 (fun W => W.cell? ⟨BN, 0, none⟩ = some nb ∧ W.cell? ⟨BN, 1, none⟩ = some nl) fuel #[true, true, true, false, false, false, false, false, false, b7, b8, b9, false, false, false] { tmps := #[x0, (.int .i64 tk), x2, x3, x4, (.pointer (some ⟨BN, 0, none⟩)), s7, s8, s9, x9, x10, x11, x12, x13, x14, x15, x16, x17, x18, x19, x20, x21, x22, x23, x24, x25, x26, x27, x28, x29, x30, (.agg #[nb, nl]), (.int .i64 tk), (.agg #[.int .i64 1, .int .i64 tk, .int .i64 0, .int .i64 0]), x34, x35, x36, x37, x38, x39, x40, x41, x42, x43, x44, x45, x46, x47, x48, x49, x50, x51, x52, x53, x54, x55, x56, x57, x58, x59, x60, x61, x62, x63, x64, x65, x66, x67, x68, x69, x70, x71, x72, x73, x74, x75, x76], defers := df } W := by
  intro fuel
  induction fuel with
  | zero => intro b7 b8 b9 h; omega
  | succ fuel ih =>
    intro b7 b8 b9 hf s7 s8 s9 g7 g8 g9 W0 W hF hb hX h7 h8 h9 
    have hHeld : (#[true, true, true, false, false, false, false, false, false, b7, b8, b9, false, false, false] : Array Bool).getD 12 true = true ∨ (fun W => W.cell? ⟨BN, 0, none⟩ = some nb ∧ W.cell? ⟨BN, 1, none⟩ = some nl) W := Or.inr (hC W hX)
    refine z_mem (ur4_rd1 b7 b8 b9) (by simp) (fun i hi => ?_)
    simp only [List.mem_cons, List.mem_append] at hi
    rcases hi with rfl | hi | hi | hi
    · refine z_op (o := { dst := some 34, op := Op.buildSlice 49 1 #[(0, Operand.tmp 33)], type := 49, pos := "top.go:113", after := #[{ on := 2, ground := Ground.data }], guard := none }) rfl (fun K hK => ?_)
      go_simp
      have hn : Below W.heap.size W (W.alloc (.cells #[.int .i64 1, .int .i64 tk, .int .i64 0, .int .i64 0] 47)) := below_alloc1 _ _
      have hXn := hX.trans (hn.mono hX.size)
      refine hK.out _ _ (Or.inr (hC _ hXn)) ?_
      (try simp only [List.setIfInBounds_toArray, List.set_cons_zero, List.set_cons_succ])
      exact ur4_2 df X BN nb nl tk R x0 x2 x3 x4 x9 x10 x11 x12 x13 x14 x15 x16 x17 x18 x19 x20 x21 x22 x23 x24 x25 x26 x27 x28 x29 x30 x35 x36 x37 x38 x39 x40 x41 x42 x43 x44 x45 x46 x47 x48 x49 x50 x51 x52 x53 x54 x55 x56 x57 x58 x59 x60 x61 x62 x63 x64 x65 x66 x67 x68 x69 x70 x71 x72 x73 x74 x75 x76 hQ hC hP fin fuel b7 b8 b9 (by omega) s7 s8 s9 g7 g8 g9 W.heap.size _ _ (heap_alloc_last _ _) (Below.refl _ _) hXn (h7.below hn) (h8.below hn) (h9.below hn)
    · cases b7 with
      | true => simp at hi
      | false =>
        obtain rfl : i = 9 := by simpa using hi
        refine z_op (o := { dst := some 6, op := Op.alloc 32, type := 0, pos := "top.go:113", after := #[], guard := none }) rfl (fun K hK => ?_)
        go_simp
        have hn : Below W.heap.size W (W.alloc (.cells #[.slice none 0 0, .slice none 0 0] 32)) := below_alloc1 _ _
        have hXn := hX.trans (hn.mono hX.size)
        refine hK.out _ _ (Or.inr (hC _ hXn)) ?_
        (try simp only [List.setIfInBounds_toArray, List.set_cons_zero, List.set_cons_succ])
        exact ih true b8 b9 (by revert hf; cases b8 <;> cases b9 <;> simp [cnt3] <;> omega) _ s8 s9 W.heap.size g8 g9 W0 _ hF (hb.trans (hn.mono hb.size)) hXn (AlF.new W hX.size _ _ _) (h8.below hn) (h9.below hn) 
    · cases b8 with
      | true => simp at hi
      | false =>
        obtain rfl : i = 10 := by simpa using hi
        refine z_op (o := { dst := some 7, op := Op.alloc 43, type := 0, pos := "top.go:113", after := #[], guard := none }) rfl (fun K hK => ?_)
        go_simp
        have hn : Below W.heap.size W (W.alloc (.cells #[.slice none 0 0] 43)) := below_alloc1 _ _
        have hXn := hX.trans (hn.mono hX.size)
        refine hK.out _ _ (Or.inr (hC _ hXn)) ?_
        (try simp only [List.setIfInBounds_toArray, List.set_cons_zero, List.set_cons_succ])
        exact ih b7 true b9 (by revert hf; cases b7 <;> cases b9 <;> simp [cnt3] <;> omega) s7 _ s9 g7 W.heap.size g9 W0 _ hF (hb.trans (hn.mono hb.size)) hXn (h7.below hn) (AlF.new W hX.size _ _ _) (h9.below hn) 
    · cases b9 with
      | true => simp at hi
      | false =>
        obtain rfl : i = 11 := by simpa using hi
        refine z_op (o := { dst := some 8, op := Op.alloc 26, type := 0, pos := "top.go:113", after := #[], guard := none }) rfl (fun K hK => ?_)
        go_simp
        have hn : Below W.heap.size W (W.alloc (.cells #[.int .i64 0, .int .i64 0] 26)) := below_alloc1 _ _
        have hXn := hX.trans (hn.mono hX.size)
        refine hK.out _ _ (Or.inr (hC _ hXn)) ?_
        (try simp only [List.setIfInBounds_toArray, List.set_cons_zero, List.set_cons_succ])
        exact ih b7 b8 true (by revert hf; cases b7 <;> cases b8 <;> simp [cnt3] <;> omega) s7 s8 _ g7 g8 W.heap.size W0 _ hF (hb.trans (hn.mono hb.size)) hXn (h7.below hn) (h8.below hn) (AlF.new W hX.size _ _ _) 
include hQ hC hT hP fin in
set_option maxRecDepth 100000 in
set_option maxHeartbeats 1500000 in
theorem ur4_0 : ∀ (fuel : Nat) (b7 b8 b9 : Bool), 10 + cnt3 b7 b8 b9 ≤ fuel → ∀ (s7 s8 s9 : Value) (g7 g8 g9 : Nat) (W0 W : World), True → Below W0.heap.size W0 W → Below X.heap.size X W → AlF W X.heap.size b7 s7 g7 #[.slice none 0 0, .slice none 0 0] 32 → AlF W X.heap.size b8 s8 g8 #[.slice none 0 0] 43 → AlF W X.heap.size b9 s9 g9 #[.int .i64 0, .int .i64 0] 26 → wpAnyZ Tryz.prog .any ur4_ops Q 12 (fun W => W.cell? ⟨BN, 0, none⟩ = some nb ∧ W.cell? ⟨BN, 1, none⟩ = some nl) fuel #[true, true, false, false, false, false, false, false, false, b7, b8, b9, false, false, false] { tmps := #[x0, (.int .i64 tk), x2, x3, x4, (.pointer (some ⟨BN, 0, none⟩)), s7, s8, s9, x9, x10, x11, x12, x13, x14, x15, x16, x17, x18, x19, x20, x21, x22, x23, x24, x25, x26, x27, x28, x29, x30, (.agg #[nb, nl]), (.int .i64 tk), x33, x34, x35, x36, x37, x38, x39, x40, x41, x42, x43, x44, x45, x46, x47, x48, x49, x50, x51, x52, x53, x54, x55, x56, x57, x58, x59, x60, x61, x62, x63, x64, x65, x66, x67, x68, x69, x70, x71, x72, x73, x74, x75, x76], defers := df } W := by
  intro fuel
  induction fuel with
  | zero => intro b7 b8 b9 h; omega
  | succ fuel ih =>
    intro b7 b8 b9 hf s7 s8 s9 g7 g8 g9 W0 W hF hb hX h7 h8 h9 
    have hHeld : (#[true, true, false, false, false, false, false, false, false, b7, b8, b9, false, false, false] : Array Bool).getD 12 true = true ∨ (fun W => W.cell? ⟨BN, 0, none⟩ = some nb ∧ W.cell? ⟨BN, 1, none⟩ = some nl) W := Or.inr (hC W hX)
    refine z_mem (ur4_rd0 b7 b8 b9) (by simp) (fun i hi => ?_)
    simp only [List.mem_cons, List.mem_append] at hi
    rcases hi with rfl | hi | hi | hi
    · refine z_op (o := { dst := some 33, op := Op.call { callee := Callee.value (Operand.func 16), args := #[Operand.tmp 32], argTypes := #[3] }, type := 47, pos := "top.go:113", after := #[{ on := 1, ground := Ground.data }], guard := none }) rfl (fun K hK => ?_)
      go_simp
      refine (hT W _).mono ?_
      rintro e w2 ⟨rfl, hn⟩
      have hXn := hX.trans (hn.mono hX.size)
      refine hK.out _ _ (Or.inr (hC _ hXn)) ?_
      (try simp only [List.setIfInBounds_toArray, List.set_cons_zero, List.set_cons_succ])
      exact ur4_1 df X BN nb nl tk R x0 x2 x3 x4 x9 x10 x11 x12 x13 x14 x15 x16 x17 x18 x19 x20 x21 x22 x23 x24 x25 x26 x27 x28 x29 x30 x34 x35 x36 x37 x38 x39 x40 x41 x42 x43 x44 x45 x46 x47 x48 x49 x50 x51 x52 x53 x54 x55 x56 x57 x58 x59 x60 x61 x62 x63 x64 x65 x66 x67 x68 x69 x70 x71 x72 x73 x74 x75 x76 hQ hC hP fin fuel b7 b8 b9 (by omega) s7 s8 s9 g7 g8 g9 W0 w2 hF (hb.trans (hn.mono hb.size)) hXn (h7.below hn) (h8.below hn) (h9.below hn)
    · cases b7 with
      | true => simp at hi
      | false =>
        obtain rfl : i = 9 := by simpa using hi
        refine z_op (o := { dst := some 6, op := Op.alloc 32, type := 0, pos := "top.go:113", after := #[], guard := none }) rfl (fun K hK => ?_)
        go_simp
        have hn : Below W.heap.size W (W.alloc (.cells #[.slice none 0 0, .slice none 0 0] 32)) := below_alloc1 _ _
        have hXn := hX.trans (hn.mono hX.size)
        refine hK.out _ _ (Or.inr (hC _ hXn)) ?_
        (try simp only [List.setIfInBounds_toArray, List.set_cons_zero, List.set_cons_succ])
        exact ih true b8 b9 (by revert hf; cases b8 <;> cases b9 <;> simp [cnt3] <;> omega) _ s8 s9 W.heap.size g8 g9 W0 _ hF (hb.trans (hn.mono hb.size)) hXn (AlF.new W hX.size _ _ _) (h8.below hn) (h9.below hn) 
    · cases b8 with
      | true => simp at hi
      | false =>
        obtain rfl : i = 10 := by simpa using hi
        refine z_op (o := { dst := some 7, op := Op.alloc 43, type := 0, pos := "top.go:113", after := #[], guard := none }) rfl (fun K hK => ?_)
        go_simp
        have hn : Below W.heap.size W (W.alloc (.cells #[.slice none 0 0] 43)) := below_alloc1 _ _
        have hXn := hX.trans (hn.mono hX.size)
        refine hK.out _ _ (Or.inr (hC _ hXn)) ?_
        (try simp only [List.setIfInBounds_toArray, List.set_cons_zero, List.set_cons_succ])
        exact ih b7 true b9 (by revert hf; cases b7 <;> cases b9 <;> simp [cnt3] <;> omega) s7 _ s9 g7 W.heap.size g9 W0 _ hF (hb.trans (hn.mono hb.size)) hXn (h7.below hn) (AlF.new W hX.size _ _ _) (h9.below hn) 
    · cases b9 with
      | true => simp at hi
      | false =>
        obtain rfl : i = 11 := by simpa using hi
        refine z_op (o := { dst := some 8, op := Op.alloc 26, type := 0, pos := "top.go:113", after := #[], guard := none }) rfl (fun K hK => ?_)
        go_simp
        have hn : Below W.heap.size W (W.alloc (.cells #[.int .i64 0, .int .i64 0] 26)) := below_alloc1 _ _
        have hXn := hX.trans (hn.mono hX.size)
        refine hK.out _ _ (Or.inr (hC _ hXn)) ?_
        (try simp only [List.setIfInBounds_toArray, List.set_cons_zero, List.set_cons_succ])
        exact ih b7 b8 true (by revert hf; cases b7 <;> cases b8 <;> simp [cnt3] <;> omega) s7 s8 _ g7 g8 W.heap.size W0 _ hF (hb.trans (hn.mono hb.size)) hXn (h7.below hn) (h8.below hn) (AlF.new W hX.size _ _ _) 
include hQ hC hT hP fin  in
set_option maxHeartbeats 1500000 in
theorem ur4 (x6 x7 x8 x31 x32 : Value) : (Code.region 6 ur4_ops true).wp Tryz.prog Q { tmps := #[x0, (.int .i64 tk), x2, x3, x4, (.pointer (some ⟨BN, 0, none⟩)), x6, x7, x8, x9, x10, x11, x12, x13, x14, x15, x16, x17, x18, x19, x20, x21, x22, x23, x24, x25, x26, x27, x28, x29, x30, x31, x32, x33, x34, x35, x36, x37, x38, x39, x40, x41, x42, x43, x44, x45, x46, x47, x48, x49, x50, x51, x52, x53, x54, x55, x56, x57, x58, x59, x60, x61, x62, x63, x64, x65, x66, x67, x68, x69, x70, x71, x72, x73, x74, x75, x76], defers := df } X := by
  have hXd : Below X.heap.size X X.drew := Below.drew (Below.refl _ _)
  have hc := hC X (Below.refl _ _)
  refine wp_region_z (z := 12) (C := fun W => W.cell? ⟨BN, 0, none⟩ = some nb ∧ W.cell? ⟨BN, 1, none⟩ = some nl) (by kernel_rfl) (hC _ hXd) (fun hHeld => ?_)
  refine z_load (i := 0) (oi := { dst := some 31, op := Op.load 32 (Operand.tmp 5), type := 32, pos := "top.go:113", after := #[], guard := none }) (v := .agg #[nb, nl]) (some 31) rfl rfl (by kernel_rfl) (by kernel_rfl) (by kernel_rfl) (by kernel_rfl) (fun c a w h => hQ c a _ _ w h) (by rfl) ?_ hHeld ?_
  · (intro wq hSw; go_simp; try with_reducible rfl)
  (try simp only [Act.put, List.setIfInBounds_toArray, List.set_cons_zero, List.set_cons_succ])
  refine z_take (i := 1) (oi := { dst := some 32, op := Op.move (Operand.tmp 1), type := 3, pos := "top.go:113", after := #[], guard := none }) (v := .int .i64 tk) (some 32) rfl rfl (by kernel_rfl) (by kernel_rfl) (by kernel_rfl) (by decide) (fun c a w h => hQ c a _ _ w h) (by rfl) ?_ hHeld ?_
  · (intro wq; go_simp; try with_reducible rfl)
  (try simp only [Act.put, List.setIfInBounds_toArray, List.set_cons_zero, List.set_cons_succ])
  exact ur4_0 df X BN nb nl tk R x0 x2 x3 x4 x9 x10 x11 x12 x13 x14 x15 x16 x17 x18 x19 x20 x21 x22 x23 x24 x25 x26 x27 x28 x29 x30 x33 x34 x35 x36 x37 x38 x39 x40 x41 x42 x43 x44 x45 x46 x47 x48 x49 x50 x51 x52 x53 x54 x55 x56 x57 x58 x59 x60 x61 x62 x63 x64 x65 x66 x67 x68 x69 x70 x71 x72 x73 x74 x75 x76 hQ hC hT hP fin _ false false false (by simp [cnt3]) _ _ _ 0 0 0 X _ trivial hXd hXd (fun e => by cases e) (fun e => by cases e) (fun e => by cases e)
end
end Go.Proofs.YtflghpnpjmodaaaGreatDoor

namespace Go.Proofs.YtflghpnpjmodaaaGreatDoor
open Go.RowKit
open Vc (V Of)
open Pl (Br Net Pc Lk En St ringE lineE ringId)
open Tk (Md Mnd Cn Sc Dn ten yes)

/-- What TopLine has behind its Play. -/
structure LiG (Z w : World) (k x : Nat) (a5 : Option Addr) (c5 : Nat) (BN ob off oc mb moff mc : Nat) (l : List Mi) (g8 g9 : Nat) : Prop where
  keep : ∀ V, Below Z.heap.size Z V → V.cell? ⟨g8, 0, none⟩ = some (.slice (some ⟨ob, off, none⟩) 1 oc) ∧ V.cell? ⟨ob, off, none⟩ = some (.slice (some ⟨mb, moff, none⟩) k mc) ∧ V.cell? ⟨BN, 0, none⟩ = some (.slice a5 k c5) ∧ MiRow V (some ⟨mb, moff, none⟩) mc l ∧ BRow V a5 k c5 bsL ∧ Below w.heap.size w V
  len : l.length = k
  cap : 1 ≤ oc ∧ k ≤ mc
  minds : ∀ i, i < k → (mat l i).md.v.root = ringId (i - x) ∧ (mat l i).md.v.cost = 10 * (min i x : Nat)
set_option maxRecDepth 100000 in
set_option maxHeartbeats 6000000 in
theorem utopline_any (k x : Int) (w : World) (ht : Tabs w) (hbt : 2 ≤ w.heap.size) : Calls Tryz.prog 4 #[.int .i64 k, .int .i64 x] w fun e w' => e = .returned (.bool true) ∧ Below w.heap.size w w' := by
  have HT : Hid (∀ V, Below w.heap.size w V → Tabs V ∧ 2 ≤ V.heap.size) := fun V hV => ⟨ht.below hV hbt, Nat.le_trans hbt hV.size⟩
  have HAL : Hid (Calls Tryz.prog 12 #[] w fun e w' => e = .returned (.bool true) ∧ Below w.heap.size w w') := ualive_any w ht hbt
  clear ht hbt
  go_enter Tryz.func4, Tryz.ntmps4
  go_wp2_with fail
  refine HAL.out.mono ?_
  rintro e w1 ⟨rfl, HB1⟩
  have H1 : Hid (Below w.heap.size w w1) := HB1
  clear HAL HB1
  by_cases q1 : k < 1
  · clear HT
    go_wp2_with fail
    go_ret
    exact ⟨rfl, H1.out⟩
  by_cases q2 : 12 < k
  · clear HT
    go_wp2_with fail
    go_ret
    exact ⟨rfl, H1.out⟩
  by_cases q3 : x < 0
  · clear HT
    go_wp2_with fail
    go_ret
    exact ⟨rfl, H1.out⟩
  by_cases q4 : 30 < x
  · clear HT
    go_wp2_with fail
    go_ret
    exact ⟨rfl, H1.out⟩
  obtain ⟨k, rfl⟩ : ∃ q : Nat, k = (q : Int) := ⟨k.toNat, by omega⟩
  obtain ⟨x, rfl⟩ : ∃ q : Nat, x = (q : Int) := ⟨x.toNat, by omega⟩
  have HLN : Hid (Calls Tryz.prog 14 #[.int .i64 (k : Int), .bool false] w1 fun e w' => ∃ a5 c5 a6 c6, e = .returned (.agg #[.slice a5 k c5, .slice a6 (lnL k false) c6]) ∧ Hid (LineW (w1.heap.size + 2) w' (Pl.lnk k ten yes) k (lnL k false) (.slice a5 k c5) (.slice a6 (lnL k false) c6) ∧ Below w1.heap.size w1 w')) := uline_any k false w1 (by omega)
  go_wp2_with fail
  refine HLN.out.mono ?_
  rintro e w2 ⟨a5, c5, a6, c6, rfl, H2⟩
  clear HLN
  obtain ⟨X, HX⟩ : ∃ X, Hid (X = w2.alloc (.cells #[.slice a5 k c5, .slice a6 (lnL k false) c6] 32)) := ⟨_, rfl⟩
  have hX2 : Below w2.heap.size w2 X := by rw [HX.out]; exact below_alloc1 _ _
  have hXn : X.heap[w2.heap.size]? = some (.cells #[.slice a5 k c5, .slice a6 (lnL k false) c6] 32 (0, 0)) := by rw [HX.out]; exact heap_alloc_last _ _
  have hwX : Below w.heap.size w X := by
    have h := H1.out.trans (H2.out.2.mono H1.out.size)
    exact h.trans (hX2.mono h.size)
  obtain ⟨BN, HBN⟩ : ∃ BN, Hid (BN = w2.heap.size) := ⟨_, rfl⟩
  have HCX : Hid (∀ V, Below X.heap.size X V → (V.cell? ⟨BN, 0, none⟩ = some (.slice a5 k c5) ∧ V.cell? ⟨BN, 1, none⟩ = some (.slice a6 (lnL k false) c6)) ∧ (netL k false ten a5 c5 a6 c6).at' V ∧ (Tabs V ∧ 2 ≤ V.heap.size) ∧ Below w.heap.size w V) := fun V hV => by
    have h := hwX.trans (hV.mono hwX.size)
    exact ⟨by rw [HBN.out]; exact two_cells2 (keep hXn hV), (H2.out.1.at (ring := false) rfl (by omega)).below (hX2.trans (hV.mono hX2.size)), HT.out V h, h⟩
  have HK : Hid ((1 ≤ k ∧ k ≤ 12) ∧ x ≤ 30) := ⟨⟨by omega, by omega⟩, by omega⟩
  have h0 : (plErr (netL k false ten a5 c5 a6 c6) 1 (tk1 x) 1).1 = 0 := pl_ok (netL_right HK.out.1.2 ten_ok) (by omega) (fun q hq => by rw [tk1_eq]; exact errTick (by omega))
  have HP0 : Hid ((plErr (netL k false ten a5 c5 a6 c6) 1 (tk1 x) 1).1 = 0) := h0
  clear H1 H2 HT hX2 hXn hwX h0
  go_wp2_with fail
  rw [← HX.out]
  rw [← HBN.out]
  refine ur4 [] X BN (.slice a5 k c5) (.slice a6 (lnL k false) c6) (x : Int) (fun V W0 na nk nc la lk lc oa ol oc f1 f2 => PlF V W0 (netL k false ten a5 c5 a6 c6) 1 (tk1 x) 1 na nk nc la lk lc oa ol oc f1 f2) _ _ _ _ _ _ _ _ _ _ _ _ _ _ _ _ _ _ _ _ _ _ _ _ _ _ _ _ _ _ _ _ _ _ _ _ _ _ _ _ _ _ _ _ _ _ _ _ _ _ _ _ _ _ _ _ _ _ _ _ _ _ _ _ _ _ _ _ _ _ ?hQ ?hC ?hT ?hP ?fin _ _ _ _ _
  case hQ => exact fun _ _ _ _ _ h => h
  case hC => exact fun V hV => (HCX.out V hV).1
  case hT => exact fun V tk => uticks_any tk V
  case hP =>
    intro V g hV hg
    obtain ⟨_, y1, ⟨y2, y3⟩, _⟩ := HCX.out V hV
    have hd : DRow V (some ⟨g, 0, none⟩) 1 1 (tk1 x) := by
      rw [show tk1 (x : Int) = fun _ => tickD x from funext (tk1_eq x)]
      exact one_do (d := tickD x) hg
    exact tplay_flat (netL k false ten a5 c5 a6 c6) 1 (some ⟨g, 0, none⟩) 1 1 (tk1 x) V (netL_wf HK.out.1.2) y1 (by omega) hd y2 y3
  case fin =>
    intro gt V na nk nc la lk lc oa ol oc f1 f2 g7 g8 g9 W0 W hR hb hX hk hl hz
    obtain ⟨n', ob, off, t', ⟨⟨rfl, ek, rfl⟩, ⟨rfl, rfl, rfl⟩, ⟨rfl, rfl, hoc⟩, rfl, rfl⟩, hfin⟩ := u_fin hR HP0.out hb hX hk hl hz
    obtain rfl : k = nk := ek.symm
    clear ek
    obtain ⟨Z, HZ⟩ : ∃ Z, Hid (Z = boxes5 W g7 g8 g9 n'.bao (netL k false ten a5 c5 a6 c6).K n'.bcap n'.lao (netL k false ten a5 c5 a6 c6).L n'.lcap (some ⟨ob, off, none⟩) 1 oc 0 0) := ⟨_, rfl⟩
    obtain ⟨hXZ, hU⟩ := hfin Z HZ.out
    have hZZ := hU Z (Below.refl _ _)
    obtain ⟨c9, _⟩ := two_cells2 hZZ.b9
    obtain ⟨hl0, hms⟩ := hZZ.sn.each 0 (by omega)
    have hl0 : (tat t' 0).l.length = k := hl0
    have hmr := hZZ.sn.row.each 0 (by rw [hZZ.sn.len]; omega)
    obtain ⟨mb, moff, em, _⟩ := hmr.place (by rw [hl0]; exact HK.out.1.1)
    have hmc := hmr.row.1
    have HG : Hid (LiG Z w k x a5 c5 BN ob off oc mb moff (tat t' 0).cap (tat t' 0).l g8 g9) := by
      refine ⟨fun V hV => ?_, hl0, ⟨hoc, by omega⟩, fun i hi => ?_⟩
      · have u := hU V hV
        obtain ⟨y0, y1, _, y3⟩ := HCX.out V (hXZ.trans (hV.mono hXZ.size))
        have hc := u.sn.row.cell (i := 0) (by rw [u.sn.len]; omega)
        have hm := u.sn.row.each 0 (by rw [u.sn.len]; omega)
        rw [em] at hm hc
        rw [hl0] at hc
        exact ⟨one_cell u.b8, hc, y0.1, hm, y1.brs, y3⟩
      · obtain ⟨e1, _⟩ := hms i (show i < k from hi)
        have e2 : (mat (tat t' 0).l i).md = ((((netL k false ten a5 c5 a6 c6).sc (startMs (netL k false ten a5 c5 a6 c6))).all (netL k false ten a5 c5 a6 c6).cn (tk1 x) 1).ms 0 i).md := congrArg Mnd.md e1
        rw [e2]
        exact line_at HK.out.1.2 HK.out.2 hi
    obtain ⟨bb, boff, ea5, _⟩ := CRow.some (HG.out.keep Z (Below.refl _ _)).2.2.2.2.1 (show 0 < k by have := HK.out.1.1; omega)
    subst ea5
    obtain ⟨d8, d0, _⟩ := HG.out.keep Z (Below.refl _ _)
    have hcap := HG.out.cap
    obtain ⟨hk1, hk2⟩ := HK.out.1
    have hx30 := HK.out.2
    clear HCX HP0 HX hR hb hX hk hl hz hfin hXZ hU hZZ hl0 hms hmr em hmc hoc q1 q2 q3 q4
    have HZ' : Hid (Z = (((((W.setCell ⟨g7, 0, none⟩ (.slice n'.bao k n'.bcap)).setCell ⟨g7, 1, none⟩ (.slice n'.lao (netL k false ten (some ⟨bb, boff, none⟩) c5 a6 c6).L n'.lcap)).setCell ⟨g8, 0, none⟩ (.slice (some ⟨ob, off, none⟩) 1 oc)).setCell ⟨g9, 0, none⟩ (.int .i64 0)).setCell ⟨g9, 1, none⟩ (.int .i64 0))) := HZ.out
    clear HZ
    rw [← HZ'.out]
    go_wp2_with fail
    clear c9 d8 d0
    generalize (tat t' 0).cap = mc at *
    generalize (tat t' 0).l = l at *
    go_loopw [47] (fun i wr => ∃ j : Nat, j ≤ k ∧ i = .int .i64 j ∧ Hid (Below Z.heap.size Z wr)) (fun i _ => k - (intOf i).toNat)
    case atStart => exact ⟨0, by omega, rfl, Below.refl _ _⟩
    case round =>
      obtain ⟨j, hj, rfl, hB⟩ := hrel
      by_cases hlt : j < k
      · have hi : (j : Int) < (k : Int) := by omega
        have hi0 : (0 : Int) ≤ (j : Int) := by omega
        obtain ⟨_, _, _, r0, r1, _⟩ := HG.out.keep wr hB.out
        obtain ⟨m0, m1, m2, m3, m4, m5, m6, m7, m8⟩ := MiRow.cells r0 (i := j) (by rw [HG.out.len]; exact hlt)
        obtain ⟨e0, e1⟩ := HG.out.minds j hlt
        have hbc := r1.1
        have wj : IntKind.i64.wrap ((j : Int) + 1) = ((j + 1 : Nat) : Int) := by rw [IntKind.wrap_i64]; omega
        rw [e0] at m0
        rw [e1] at m1
        clear r0 r1 e0 e1
        rcases (by omega : x < j ∨ j = x ∨ j < x) with hx | hx | hx
        · have e2 : min j x = x := by omega
          rw [e2] at m1
          obtain ⟨p, hp⟩ : ∃ p, p = j - x := ⟨_, rfl⟩
          rw [← hp] at m0
          have wp : IntKind.i64.wrap ((j : Int) - (x : Int)) = (p : Int) := by rw [IntKind.wrap_i64]; omega
          have hx1 : (x : Int) < (j : Int) := by omega
          have hmn : min (j : Int) (x : Int) = (x : Int) := by omega
          have hmx : max (p : Int) 0 = (p : Int) := by omega
          have hp1 : (p : Int) < (k : Int) := by omega
          obtain ⟨Y, HY⟩ : ∃ Y, Hid (Y = wr.alloc (.cells #[.int .u64 (ringId p), .int .i64 (10 * ((x : Nat) : Int)), .int .u64 (mat l j).md.v.bridge, .int .i64 (mat l j).md.v.port, .int .i64 (mat l j).md.age, .int .i64 (mat l j).md.rp, .slice (mat l j).po (mat l j).ports.length (mat l j).pc, .slice (mat l j).ro (mat l j).roles.length (mat l j).rc, .slice (mat l j).co (mat l j).calm.length (mat l j).cc] 52)) := ⟨_, rfl⟩
          have hYB : Below wr.heap.size wr Y := by rw [HY.out]; exact below_alloc1 _ _
          have hYx : Y.heap[wr.heap.size]? = some (.cells #[.int .u64 (ringId p), .int .i64 (10 * ((x : Nat) : Int)), .int .u64 (mat l j).md.v.bridge, .int .i64 (mat l j).md.v.port, .int .i64 (mat l j).md.age, .int .i64 (mat l j).md.rp, .slice (mat l j).po (mat l j).ports.length (mat l j).pc, .slice (mat l j).ro (mat l j).roles.length (mat l j).rc, .slice (mat l j).co (mat l j).calm.length (mat l j).cc] 52 (0, 0)) := by rw [HY.out]; exact heap_alloc_last _ _
          have hZY : Below Z.heap.size Z Y := hB.out.trans (hYB.mono hB.out.size)
          obtain ⟨_, _, y0, _, y1, _⟩ := HG.out.keep Y hZY
          obtain ⟨b0, b1, b2, b3, b4⟩ := BRow.cells y1 (show p < k by omega)
          have b0 : Y.cell? ⟨bb, boff + (p) * 5, none⟩ = some (.int .u64 (10 + ((p : Nat) : Int))) := b0
          have b1 : Y.cell? ⟨bb, boff + (p) * 5 + 1, none⟩ = some (.slice none 0 0) := b1
          have b2 : Y.cell? ⟨bb, boff + (p) * 5 + 2, none⟩ = some (.string ⟨#[114]⟩) := b2
          have b3 : Y.cell? ⟨bb, boff + (p) * 5 + 3, none⟩ = some (.int .i64 0) := b3
          have b4 : Y.cell? ⟨bb, boff + (p) * 5 + 4, none⟩ = some (.slice none 0 0) := b4
          rw [HY.out] at y0 b0 b1 b2 b3 b4
          have HID : Hid (Calls Tryz.prog 17 #[.agg #[.int .u64 (10 + ((p : Nat) : Int)), .slice none 0 0, .string ⟨#[114]⟩, .int .i64 0, .slice none 0 0], .int .i64 0] Y fun e w' => e = .returned (.int .u64 (ringId p)) ∧ Below Y.heap.size Y w') := uident (by omega) Y
          have HAF : Hid (∀ V, Below Y.heap.size Y V → (V.cell? ⟨wr.heap.size, 0, none⟩ = some (.int .u64 (ringId p)) ∧ V.cell? ⟨wr.heap.size, 1, none⟩ = some (.int .i64 (10 * ((x : Nat) : Int)))) ∧ Below Z.heap.size Z V) := fun V hV => ⟨⟨cell_of_row _ _ 0 _ _ _ (keep hYx hV), cell_of_row _ _ 1 _ _ _ (keep hYx hV)⟩, hZY.trans (hV.mono hZY.size)⟩
          have wm : IntKind.i64.wrap (10 * ((x : Nat) : Int)) = 10 * ((x : Nat) : Int) := by rw [IntKind.wrap_i64]; omega
          clear hYB hYx hZY y1 hB HG HK hp
          generalize ringId p = rr at *
          go_wp2_with fail
          rw [← HY.out]
          refine HID.out.mono ?_
          rintro e w4 ⟨rfl, hb4⟩
          obtain ⟨⟨z0, z1⟩, hZ4⟩ := HAF.out w4 hb4
          have HZ4 : Hid (Below Z.heap.size Z w4) := hZ4
          clear HID HAF hZ4 hb4
          go_wp2_with fail
          exact ⟨⟨j + 1, by omega, by go_num, HZ4⟩, by simp [intOf]; omega⟩
        · subst hx
          have e2 : min j j = j := by omega
          rw [e2] at m1
          have e3 : j - j = 0 := by omega
          rw [e3] at m0
          have hp1 : (0 : Int) < (k : Int) := by omega
          obtain ⟨Y, HY⟩ : ∃ Y, Hid (Y = wr.alloc (.cells #[.int .u64 (ringId 0), .int .i64 (10 * ((j : Nat) : Int)), .int .u64 (mat l j).md.v.bridge, .int .i64 (mat l j).md.v.port, .int .i64 (mat l j).md.age, .int .i64 (mat l j).md.rp, .slice (mat l j).po (mat l j).ports.length (mat l j).pc, .slice (mat l j).ro (mat l j).roles.length (mat l j).rc, .slice (mat l j).co (mat l j).calm.length (mat l j).cc] 52)) := ⟨_, rfl⟩
          have hYB : Below wr.heap.size wr Y := by rw [HY.out]; exact below_alloc1 _ _
          have hYx : Y.heap[wr.heap.size]? = some (.cells #[.int .u64 (ringId 0), .int .i64 (10 * ((j : Nat) : Int)), .int .u64 (mat l j).md.v.bridge, .int .i64 (mat l j).md.v.port, .int .i64 (mat l j).md.age, .int .i64 (mat l j).md.rp, .slice (mat l j).po (mat l j).ports.length (mat l j).pc, .slice (mat l j).ro (mat l j).roles.length (mat l j).rc, .slice (mat l j).co (mat l j).calm.length (mat l j).cc] 52 (0, 0)) := by rw [HY.out]; exact heap_alloc_last _ _
          have hZY : Below Z.heap.size Z Y := hB.out.trans (hYB.mono hB.out.size)
          obtain ⟨_, _, y0, _, y1, _⟩ := HG.out.keep Y hZY
          obtain ⟨b0, b1, b2, b3, b4⟩ := BRow.cells y1 (show 0 < k by omega)
          have b0 : Y.cell? ⟨bb, boff + 0 * 5, none⟩ = some (.int .u64 10) := b0
          have b1 : Y.cell? ⟨bb, boff + 0 * 5 + 1, none⟩ = some (.slice none 0 0) := b1
          have b2 : Y.cell? ⟨bb, boff + 0 * 5 + 2, none⟩ = some (.string ⟨#[114]⟩) := b2
          have b3 : Y.cell? ⟨bb, boff + 0 * 5 + 3, none⟩ = some (.int .i64 0) := b3
          have b4 : Y.cell? ⟨bb, boff + 0 * 5 + 4, none⟩ = some (.slice none 0 0) := b4
          simp only [Nat.zero_mul, Nat.add_zero] at b0 b1 b2 b3 b4
          rw [HY.out] at y0 b0 b1 b2 b3 b4
          have HID : Hid (Calls Tryz.prog 17 #[.agg #[.int .u64 10, .slice none 0 0, .string ⟨#[114]⟩, .int .i64 0, .slice none 0 0], .int .i64 0] Y fun e w' => e = .returned (.int .u64 (ringId 0)) ∧ Below Y.heap.size Y w') := uident (i := 0) (by omega) Y
          have HAF : Hid (∀ V, Below Y.heap.size Y V → (V.cell? ⟨wr.heap.size, 0, none⟩ = some (.int .u64 (ringId 0)) ∧ V.cell? ⟨wr.heap.size, 1, none⟩ = some (.int .i64 (10 * ((j : Nat) : Int)))) ∧ Below Z.heap.size Z V) := fun V hV => ⟨⟨cell_of_row _ _ 0 _ _ _ (keep hYx hV), cell_of_row _ _ 1 _ _ _ (keep hYx hV)⟩, hZY.trans (hV.mono hZY.size)⟩
          have wm : IntKind.i64.wrap (10 * ((j : Nat) : Int)) = 10 * ((j : Nat) : Int) := by rw [IntKind.wrap_i64]; omega
          clear hYB hYx hZY y1 hB HG HK
          generalize ringId 0 = rr at *
          go_wp2_with fail
          rw [← HY.out]
          refine HID.out.mono ?_
          rintro e w4 ⟨rfl, hb4⟩
          obtain ⟨⟨z0, z1⟩, hZ4⟩ := HAF.out w4 hb4
          have HZ4 : Hid (Below Z.heap.size Z w4) := hZ4
          clear HID HAF hZ4 hb4
          go_wp2_with fail
          exact ⟨⟨j + 1, by omega, by go_num, HZ4⟩, by simp [intOf]; omega⟩
        · have e2 : min j x = j := by omega
          rw [e2] at m1
          have e3 : j - x = 0 := by omega
          rw [e3] at m0
          obtain ⟨y, hy⟩ : ∃ y, y = (j : Int) - (x : Int) := ⟨_, rfl⟩
          have wp : IntKind.i64.wrap ((j : Int) - (x : Int)) = y := by rw [IntKind.wrap_i64]; omega
          have hy0 : y < 0 := by omega
          have hmax : max y 0 = 0 := by omega
          have hmn : min (j : Int) (x : Int) = (j : Int) := by omega
          have hx1 : ¬ (x : Int) < (j : Int) := by omega
          have hx2 : ¬ x < j := by omega
          have hp1 : (0 : Int) < (k : Int) := by omega
          clear hy
          obtain ⟨Y, HY⟩ : ∃ Y, Hid (Y = wr.alloc (.cells #[.int .u64 (ringId 0), .int .i64 (10 * ((j : Nat) : Int)), .int .u64 (mat l j).md.v.bridge, .int .i64 (mat l j).md.v.port, .int .i64 (mat l j).md.age, .int .i64 (mat l j).md.rp, .slice (mat l j).po (mat l j).ports.length (mat l j).pc, .slice (mat l j).ro (mat l j).roles.length (mat l j).rc, .slice (mat l j).co (mat l j).calm.length (mat l j).cc] 52)) := ⟨_, rfl⟩
          have hYB : Below wr.heap.size wr Y := by rw [HY.out]; exact below_alloc1 _ _
          have hYx : Y.heap[wr.heap.size]? = some (.cells #[.int .u64 (ringId 0), .int .i64 (10 * ((j : Nat) : Int)), .int .u64 (mat l j).md.v.bridge, .int .i64 (mat l j).md.v.port, .int .i64 (mat l j).md.age, .int .i64 (mat l j).md.rp, .slice (mat l j).po (mat l j).ports.length (mat l j).pc, .slice (mat l j).ro (mat l j).roles.length (mat l j).rc, .slice (mat l j).co (mat l j).calm.length (mat l j).cc] 52 (0, 0)) := by rw [HY.out]; exact heap_alloc_last _ _
          have hZY : Below Z.heap.size Z Y := hB.out.trans (hYB.mono hB.out.size)
          obtain ⟨_, _, y0, _, y1, _⟩ := HG.out.keep Y hZY
          obtain ⟨b0, b1, b2, b3, b4⟩ := BRow.cells y1 (show 0 < k by omega)
          have b0 : Y.cell? ⟨bb, boff + 0 * 5, none⟩ = some (.int .u64 10) := b0
          have b1 : Y.cell? ⟨bb, boff + 0 * 5 + 1, none⟩ = some (.slice none 0 0) := b1
          have b2 : Y.cell? ⟨bb, boff + 0 * 5 + 2, none⟩ = some (.string ⟨#[114]⟩) := b2
          have b3 : Y.cell? ⟨bb, boff + 0 * 5 + 3, none⟩ = some (.int .i64 0) := b3
          have b4 : Y.cell? ⟨bb, boff + 0 * 5 + 4, none⟩ = some (.slice none 0 0) := b4
          simp only [Nat.zero_mul, Nat.add_zero] at b0 b1 b2 b3 b4
          rw [HY.out] at y0 b0 b1 b2 b3 b4
          have HID : Hid (Calls Tryz.prog 17 #[.agg #[.int .u64 10, .slice none 0 0, .string ⟨#[114]⟩, .int .i64 0, .slice none 0 0], .int .i64 0] Y fun e w' => e = .returned (.int .u64 (ringId 0)) ∧ Below Y.heap.size Y w') := uident (i := 0) (by omega) Y
          have HAF : Hid (∀ V, Below Y.heap.size Y V → (V.cell? ⟨wr.heap.size, 0, none⟩ = some (.int .u64 (ringId 0)) ∧ V.cell? ⟨wr.heap.size, 1, none⟩ = some (.int .i64 (10 * ((j : Nat) : Int)))) ∧ Below Z.heap.size Z V) := fun V hV => ⟨⟨cell_of_row _ _ 0 _ _ _ (keep hYx hV), cell_of_row _ _ 1 _ _ _ (keep hYx hV)⟩, hZY.trans (hV.mono hZY.size)⟩
          have wm : IntKind.i64.wrap (10 * ((j : Nat) : Int)) = 10 * ((j : Nat) : Int) := by rw [IntKind.wrap_i64]; omega
          clear hYB hYx hZY y1 hB HG HK
          generalize ringId 0 = rr at *
          go_wp2_with fail
          rw [← HY.out]
          refine HID.out.mono ?_
          rintro e w4 ⟨rfl, hb4⟩
          obtain ⟨⟨z0, z1⟩, hZ4⟩ := HAF.out w4 hb4
          have HZ4 : Hid (Below Z.heap.size Z w4) := hZ4
          clear HID HAF hZ4 hb4
          go_wp2_with fail
          exact ⟨⟨j + 1, by omega, by go_num, HZ4⟩, by simp [intOf]; omega⟩
      · obtain rfl : j = k := by omega
        obtain ⟨_, _, _, _, _, r6⟩ := HG.out.keep wr hB.out
        have HBW : Hid (Below w.heap.size w wr) := r6
        have hi : ¬ (j : Int) < (j : Int) := by omega
        clear HG r6
        go_wp2_with fail
        go_ret
        exact ⟨rfl, HBW.out⟩
end Go.Proofs.YtflghpnpjmodaaaGreatDoor

namespace Go.Proofs.YtflghpnpjmodaaaGreatDoor.topLine
open Go.ChangeShapes Go.WideShapes Go.ChangeAt Go.RowKit

set_option maxRecDepth 100000 in
theorem contract (H : Type) (enc : TypeId × Value → H) (W : World) (base : Nat) (args : Array Value) (ds gs : List (DataW H)) (before : List MemPlace)
    (hval : ∀ (j : Nat) t v, Tryz.f4.params[j]? = some t → args[j]? = some v → Value.okWide Tryz.prog W .any base t v)
    (hW : DataW.Whole enc Tryz.prog Tryz.f4.params.toList Rows.topLineSpec.vars false W args.toList ds gs before)
    (hsz : (DataW.weightsEach Tryz.prog (Tryz.f4.params.toList ++ (OpenSpec.ofChange Rows.topLineSpec).bare.plain.varTypes Tryz.prog) (ds ++ gs)).all (· ≤ reachBytes) = true)
    (hL : laidMetH Tryz.prog Rows.topLineRow.laid W) :
    Calls Tryz.prog 4 args W fun e W' => ∃ v, e = .returned v ∧ Rows.topLineSpec.post enc Tryz.prog Tryz.f4 false true false false W args v W' := by
  have hW' := hW
  obtain ⟨p, q, hA0, hV, rfl, hfz, hnd⟩ := hW
  have hA : DataW.TrodAll enc Tryz.prog W 0 (fun _ => true) true Tryz.f4.params.toList args.toList ds p := hA0
  rw [Tryz.params4] at hA hval hsz
  obtain ⟨v0, vs0, d0, ds0, p0, q0, hargs, rfl, rfl, h0, r0⟩ := trodAll_cons hA
  obtain ⟨v1, vs1, d1, ds1, p1, q1, rfl, rfl, rfl, h1, r1⟩ := trodAll_cons r0
  obtain ⟨rfl, rfl, rfl⟩ := trodAll_nil r1
  obtain rfl : args = #[v0, v1] := by cases args; simp_all
  obtain ⟨rfl, rfl⟩ := trodVars_none hV
  have lt0 : ∀ x ∈ p0, x.block < W.heap.size := by obtain ⟨m, hm⟩ := h0; exact DataW.trod_lt m _ _ _ hm
  obtain ⟨z0, rfl⟩ := okWide_int Tryz.underlying3 (hval 0 3 v0 rfl rfl)
  have lt1 : ∀ x ∈ p1, x.block < W.heap.size := by obtain ⟨m, hm⟩ := h1; exact DataW.trod_lt m _ _ _ hm
  obtain ⟨z1, rfl⟩ := okWide_int Tryz.underlying3 (hval 1 3 v1 rfl rfl)
  have hT := tabs_of hL
  have hG : 2 ≤ W.heap.size := hT.lt
  clear hA0 hsz
  refine (utopline_any z0 z1 W hT hG).mono fun e W' ⟨he, bel⟩ => ?_
  subst he
  exact ⟨_, rfl, _, _, _, [], _, [], hW', trodAll_mk1 (shut_bool Tryz.underlying4 _), (trodAll_cons_mk (Below.trod laidOut (by kernel_rfl) (of_decide_eq_true (by kernel_rfl)) h0 bel lt0) (trodAll_cons_mk (Below.trod laidOut (by kernel_rfl) (of_decide_eq_true (by kernel_rfl)) h1 bel lt1) trodAll_mk0)), rfl, bel.frame _, fun h => by cases h⟩

theorem laid_met (os : Os) : laidMet Tryz.prog Rows.topLineRow.laid ((laidW (World.holding Tryz.prog os ⟨#[], #[], []⟩)).forCall (fun _ _ => 0) ⟨#[], #[.int .i64 0, .int .i64 0], []⟩).memory :=
  laidMet_of_run' 8 (by kernel_rfl) (by kernel_rfl)
theorem reads (os : Os) {H : Type} (enc : TypeId × Value → H) : ∃ places, DataW.whole enc Tryz.prog ((laidW (World.holding Tryz.prog os ⟨#[], #[], []⟩)).forCall (fun _ _ => 0) ⟨#[], #[.int .i64 0, .int .i64 0], []⟩).memory Tryz.f4.params.toList Rows.topLineSpec.vars false #[Value.int .i64 0, .int .i64 0].toList 8 = some ([.lit (.int .i64 0), .lit (.int .i64 0)], [], places) :=
  ⟨[], by kernel_rfl⟩

set_option maxRecDepth 100000 in
theorem lifted (os : Os) (started : os.Started) (H : Type) (enc : TypeId × Value → H) (F : Stop.Interp) :
    ReturnsInHanded {} Tryz.checked os 4 .any ((OpenSpec.ofChange Rows.topLineSpec).preRow enc Tryz.prog Tryz.f4 Rows.topLineRow.domain false Rows.topLineRow.laid) (((OpenSpec.ofChange Rows.topLineSpec).at F).post enc Tryz.prog Tryz.f4 false true false false) := by
  obtain ⟨places, hx⟩ := reads os enc
  refine returnsInHanded_of_row (C := Tryz.checked) (s := OpenSpec.ofChange Rows.topLineSpec) own started (by kernel_rfl) Tryz.func4
    (witness_row_at (enc := enc) (C := Tryz.checked) false (laidW (World.holding Tryz.prog os ⟨#[], #[], []⟩)) #[.int .i64 0, .int .i64 0] rfl (by kernel_rfl) (by kernel_rfl) (by kernel_rfl)
      (OpenSpec.preRow_of_cond 8 hx (by kernel_rfl) (fun k hk => by cases hk) (by kernel_rfl) (laid_met os))) ?_
  intro W base args ds gs before hval hW _ _ hsz hL _ _
  exact contract H enc W base args ds gs before hval hW hsz hL

theorem said : Rows.TopLineSaid :=
  OpenClaim.holds_of_cond 4 Tryz.f4 rfl rfl rfl rfl rfl rfl rfl ⟨rfl, rfl, rfl, rfl, rfl⟩ rfl rfl rfl rfl rfl (by kernel_rfl) Tryz.func4 (by kernel_rfl)
    (of_decide_eq_true (by kernel_rfl)) (by unfold Func.isWrapper; first | (rw [if_pos (by decide +kernel)]; kernel_rfl) | (rw [if_neg (by decide +kernel)]; exact ⟨rfl, rfl⟩))
    (fun os started H enc _ F => by rw [OpenClaim.pre_eq_preRow]; exact lifted os started H enc F)

theorem plain (f : FuncId) (fn : Func) (hf : Tryz.pinned.checked.prog.funcNamed "hedgerow/hedgetop.TopLine" = some f) (hfn : Tryz.pinned.checked.prog.funcs[f]? = some fn) :
    false = Tryz.pinned.checked.prog.looks [] ∧ ∀ (j : Nat) t, fn.params[j]? = some t → Tryz.pinned.checked.prog.wantsStandIn t = false := by
  obtain rfl : f = 4 := Option.some.inj ((show Tryz.prog.funcNamed "hedgerow/hedgetop.TopLine" = some 4 by kernel_rfl).symm.trans hf) |>.symm
  obtain rfl : fn = Tryz.f4 := (Option.some.inj (Tryz.func4.symm.trans hfn)).symm
  refine ⟨by kernel_rfl, fun j t ht => ?_⟩
  rw [Tryz.params4] at ht
  have h1 : Tryz.prog.wantsStandIn 3 = false := by kernel_rfl
  have ht2 : t = 3 := by simpa using Array.mem_of_getElem? ht
  subst ht2
  exact h1

/-- ████ THE CARD ████ -/
theorem card : Rows.TopLineCardSaid :=
  Claim7.holds_tied_plain_at .later [] _ _ _ _ said (fun _ h => by cases h) (by kernel_rfl) (fun _ h => by cases h) topLine_row_tie rfl ⟨rfl, rfl⟩ (by kernel_rfl) rfl plain (by kernel_rfl)
end Go.Proofs.YtflghpnpjmodaaaGreatDoor.topLine
namespace Go.Proofs.YtflghpnpjmodaaaGreatDoor
/-- WORD GOES ONE LINK A TICK: the statement, as it was given. -/
theorem topLine_card : Rows.TopLineCardSaid := topLine.card
#print axioms topLine_card
end Go.Proofs.YtflghpnpjmodaaaGreatDoor
