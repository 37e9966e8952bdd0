/- 'hedgetop.TopCheap' returns true for every two numbers, and leaves it as it was: the row and its tied card. Conditions: none beyond the form's own (the tables lie as the program's text lays them: the card's tie). -/
import Derived.Test.YtflghpnpjmodaaaGreatDoorK36
import Derived.Test.YtflghpnpjmodaaaGreatDoorK39
import Derived.Test.YtflghpnpjmodaaaGreatDoorCards
import Derived.Test.YtflghpnpjmodaaaGreatDoorTie
import Derived.Test.YtflghpnpjmodaaaGreatDoorK02
namespace Go.Proofs.YtflghpnpjmodaaaGreatDoor
open Go.RowKit
open Tk (Dn)

section
variable {Q : Exit → Act → World → Prop} (df : List Deferred) (X : World) (BN : Nat) (nb nl : Value)
variable (R : World → World → Option Addr → Nat → Nat → Option Addr → Nat → Nat → Option Addr → Nat → Nat → Int → Int → Prop)
variable (x0 x1 x2 x3 x4 x9 x10 x11 x12 x13 x14 x15 x16 x17 x18 x19 x20 x21 x22 x23 x24 x25 x26 x27 x28 x29 x30 x31 x32 x33 x34 x35 x37 x38 x39 x40 x41 x42 x43 x44 x45 x46 x47 x48 x49 x50 x51 x52 x53 x54 x55 x56 x57 x58 x59 x60 x61 x62 x63 x64 x65 x66 x67 x68 x69 x70 x71 x72 : Value)
def ur8_ops : Array Oper := #[{ dst := some 36, op := Op.load 32 (Operand.tmp 5), type := 32, pos := "top.go:241", after := #[], guard := none }, { dst := some 37, op := Op.call { callee := Callee.value (Operand.func 16), args := #[Operand.const (Value.int IntKind.i64 90)], argTypes := #[3] }, type := 47, pos := "top.go:241", after := #[], guard := none }, { dst := some 38, op := Op.buildSlice 49 1 #[(0, Operand.tmp 37)], type := 49, pos := "top.go:241", after := #[{ on := 1, ground := Ground.data }], guard := none }, { dst := some 39, op := Op.call { callee := Callee.value (Operand.func 15), args := #[Operand.tmp 36, Operand.const (Value.int IntKind.i64 1), Operand.tmp 38], argTypes := #[32, 3, 49] }, type := 44, pos := "top.go:241", after := #[{ on := 0, ground := Ground.data }, { on := 2, ground := Ground.data }, { on := 1, ground := Ground.chain }], guard := none }, { dst := some 35, op := Op.move (Operand.tmp 39), type := 44, pos := "top.go:241", after := #[{ on := 3, ground := Ground.data }], guard := none }, { dst := some 40, op := Op.extract (Operand.tmp 35) 0, type := 32, pos := "top.go:241", after := #[{ on := 4, ground := Ground.data }], guard := none }, { dst := some 41, op := Op.extract (Operand.tmp 35) 1, type := 43, pos := "top.go:241", after := #[{ on := 4, ground := Ground.data }, { on := 11, ground := Ground.gcOnly Departure.lateStores }], guard := none }, { dst := some 42, op := Op.extract (Operand.tmp 35) 2, type := 26, pos := "top.go:241", after := #[{ on := 4, ground := Ground.data }, { on := 12, ground := Ground.gcOnly Departure.lateStores }], guard := none }, { dst := some 6, op := Op.alloc 32, type := 0, pos := "top.go:241", after := #[], guard := none }, { dst := some 7, op := Op.alloc 43, type := 0, pos := "top.go:241", after := #[], guard := none }, { dst := some 8, op := Op.alloc 26, type := 0, pos := "top.go:241", after := #[], guard := none }, { dst := none, op := Op.store 32 (Operand.tmp 6) (Operand.tmp 40), type := 0, pos := "top.go:241", after := #[{ on := 8, ground := Ground.data }, { on := 5, ground := Ground.data }, { on := 3, ground := Ground.chain }, { on := 0, ground := Ground.phase }, { on := 1, ground := Ground.phase }, { on := 2, ground := Ground.phase }, { on := 3, ground := Ground.phase }, { on := 4, ground := Ground.phase }, { on := 5, ground := Ground.phase }, { on := 6, ground := Ground.textOnly Departure.lateStores }, { on := 7, ground := Ground.textOnly Departure.lateStores }, { on := 8, ground := Ground.phase }, { on := 9, ground := Ground.phase }, { on := 10, ground := Ground.phase }], guard := none }, { dst := none, op := Op.store 43 (Operand.tmp 7) (Operand.tmp 41), type := 0, pos := "top.go:241", after := #[{ on := 9, ground := Ground.data }, { on := 6, ground := Ground.data }, { on := 11, ground := Ground.chain }, { on := 0, ground := Ground.phase }, { on := 1, ground := Ground.phase }, { on := 2, ground := Ground.phase }, { on := 3, ground := Ground.phase }, { on := 4, ground := Ground.phase }, { on := 5, ground := Ground.phase }, { on := 6, ground := Ground.phase }, { on := 7, ground := Ground.textOnly Departure.lateStores }, { on := 8, ground := Ground.phase }, { on := 9, ground := Ground.phase }, { on := 10, ground := Ground.phase }, { on := 11, ground := Ground.phase }], guard := none }, { dst := none, op := Op.store 26 (Operand.tmp 8) (Operand.tmp 42), type := 0, pos := "top.go:241", after := #[{ on := 10, ground := Ground.data }, { on := 7, ground := Ground.data }, { on := 12, ground := Ground.chain }, { on := 0, ground := Ground.phase }, { on := 1, ground := Ground.phase }, { on := 2, ground := Ground.phase }, { on := 3, ground := Ground.phase }, { on := 4, ground := Ground.phase }, { on := 5, ground := Ground.phase }, { on := 6, ground := Ground.phase }, { on := 7, ground := Ground.phase }, { on := 8, ground := Ground.phase }, { on := 9, ground := Ground.phase }, { on := 10, ground := Ground.phase }, { on := 11, ground := Ground.phase }, { on := 12, ground := Ground.phase }], guard := none }]
variable (hQ : ∀ c (a : Act) (d : Tmp) (v : Value) (w : World), Q (.panic c) (a.put (some d) v) w → Q (.panic c) a w)
variable (hC : ∀ V, Below X.heap.size X V → V.cell? ⟨BN, 0, none⟩ = some nb ∧ V.cell? ⟨BN, 1, none⟩ = some nl)
variable (hT : ∀ V tk, Calls Tryz.prog 16 #[.int .i64 tk] V fun e w' => e = .returned (.agg #[.int .i64 1, .int .i64 tk, .int .i64 0, .int .i64 0]) ∧ Below V.heap.size V w')
variable (hP : ∀ V g, Below X.heap.size X V → V.heap[g]? = some (.cells #[.int .i64 1, .int .i64 90, .int .i64 0, .int .i64 0] 47 (0, 0)) → Calls Tryz.prog 15 #[.agg #[nb, nl], .int .i64 1, .slice (some ⟨g, 0, none⟩) 1 1] V fun e w' => ∃ na nk nc la lk lc oa ol oc f1 f2, e = .returned (.tuple #[.agg #[.slice na nk nc, .slice la lk lc], .agg #[.slice oa ol oc], .agg #[.int .i64 f1, .int .i64 f2]]) ∧ Hid (Below V.heap.size V w' ∧ R V w' na nk nc la lk lc oa ol oc f1 f2))
variable (fin : ∀ (gt : Nat) (V : World) (na : Option Addr) (nk nc : Nat) (la : Option Addr) (lk lc : Nat) (oa : Option Addr) (ol oc : Nat) (f1 f2 : Int) (g7 g8 g9 : Nat) (W0 W : World), R V W0 na nk nc la lk lc oa ol oc f1 f2 → Below W0.heap.size W0 W → Below X.heap.size X W → (W.heap[g7]? = some (.cells #[.slice none 0 0, .slice none 0 0] 32 (0, 0)) ∧ W.heap[g8]? = some (.cells #[.slice none 0 0] 43 (0, 0)) ∧ W.heap[g9]? = some (.cells #[.int .i64 0, .int .i64 0] 26 (0, 0))) → (X.heap.size ≤ g7 ∧ X.heap.size ≤ g8 ∧ X.heap.size ≤ g9) → ((g7 < V.heap.size ∨ W0.heap.size ≤ g7) ∧ (g8 < V.heap.size ∨ W0.heap.size ≤ g8) ∧ (g9 < V.heap.size ∨ W0.heap.size ≤ g9)) → Q .normal { tmps := #[x0, x1, x2, x3, x4, (.pointer (some ⟨BN, 0, none⟩)), (.pointer (some ⟨g7, 0, none⟩)), (.pointer (some ⟨g8, 0, none⟩)), (.pointer (some ⟨g9, 0, none⟩)), x9, x10, x11, x12, x13, x14, x15, x16, x17, x18, x19, x20, x21, x22, x23, x24, x25, x26, x27, x28, x29, x30, x31, x32, x33, x34, (.tuple #[.agg #[.slice na nk nc, .slice la lk lc], .agg #[.slice oa ol oc], .agg #[.int .i64 f1, .int .i64 f2]]), (.agg #[nb, nl]), (.agg #[.int .i64 1, .int .i64 90, .int .i64 0, .int .i64 0]), (.slice (some ⟨gt, 0, none⟩) 1 1), (.tuple #[.agg #[.slice na nk nc, .slice la lk lc], .agg #[.slice oa ol oc], .agg #[.int .i64 f1, .int .i64 f2]]), (.agg #[.slice na nk nc, .slice la lk lc]), (.agg #[.slice oa ol oc]), (.agg #[.int .i64 f1, .int .i64 f2]), x43, x44, x45, x46, x47, x48, x49, x50, x51, x52, x53, x54, x55, x56, x57, x58, x59, x60, x61, x62, x63, x64, x65, x66, x67, x68, x69, x70, x71, x72], defers := df } (((((W.setCell ⟨g7, 0, none⟩ (.slice na nk nc)).setCell ⟨g7, 1, none⟩ (.slice la lk lc)).setCell ⟨g8, 0, none⟩ (.slice oa ol oc)).setCell ⟨g9, 0, none⟩ (.int .i64 f1)).setCell ⟨g9, 1, none⟩ (.int .i64 f2)))
set_option maxRecDepth 100000
theorem ur8_rd0 (b7 b8 b9 : Bool) : Region.ready .any ur8_ops #[true, false, false, false, false, false, false, false, b7, b8, b9, false, false, false] = (1 :: ((if b7 then [] else [8]) ++ ((if b8 then [] else [9]) ++ (if b9 then [] else [10]))) : List Nat) := by
  cases b7 <;> cases b8 <;> cases b9 <;> kernel_rfl
theorem ur8_rd1 (b7 b8 b9 : Bool) : Region.ready .any ur8_ops #[true, true, false, false, false, false, false, false, b7, b8, b9, false, false, false] = (2 :: ((if b7 then [] else [8]) ++ ((if b8 then [] else [9]) ++ (if b9 then [] else [10]))) : List Nat) := by
  cases b7 <;> cases b8 <;> cases b9 <;> kernel_rfl
theorem ur8_rd2 (b7 b8 b9 : Bool) : Region.ready .any ur8_ops #[true, true, true, false, false, false, false, false, b7, b8, b9, false, false, false] = (3 :: ((if b7 then [] else [8]) ++ ((if b8 then [] else [9]) ++ (if b9 then [] else [10]))) : List Nat) := by
  cases b7 <;> cases b8 <;> cases b9 <;> kernel_rfl
theorem ur8_rd3 (b7 b8 b9 : Bool) : Region.ready .any ur8_ops #[true, true, true, true, true, true, true, true, b7, b8, b9, false, false, false] = (if (b7 && (b8 && b9)) = true then [11] else (if b7 then [] else [8]) ++ ((if b8 then [] else [9]) ++ (if b9 then [] else [10])) : List Nat) := by
  cases b7 <;> cases b8 <;> cases b9 <;> kernel_rfl
include hC fin in
set_option maxRecDepth 100000 in
set_option maxHeartbeats 1500000 in
theorem ur8_3 : ∀ (fuel : Nat) (b7 b8 b9 : Bool), 3 + cnt3 b7 b8 b9 ≤ fuel → ∀ (s7 s8 s9 : Value) (g7 g8 g9 : Nat) (gt : Nat) (V : World) (na : Option Addr) (nk nc : Nat) (la : Option Addr) (lk lc : Nat) (oa : Option Addr) (ol oc : Nat) (f1 f2 : Int) (W0 W : World), R V W0 na nk nc la lk lc oa ol oc f1 f2 → Below W0.heap.size W0 W → Below X.heap.size X W → AlF W X.heap.size b7 s7 g7 #[.slice none 0 0, .slice none 0 0] 32 → AlF W X.heap.size b8 s8 g8 #[.slice none 0 0] 43 → AlF W X.heap.size b9 s9 g9 #[.int .i64 0, .int .i64 0] 26 → (b7 = true → g7 < V.heap.size ∨ W0.heap.size ≤ g7) → (b8 = true → g8 < V.heap.size ∨ W0.heap.size ≤ g8) → (b9 = true → g9 < V.heap.size ∨ W0.heap.size ≤ g9) → wpAnyZ Tryz.prog .any ur8_ops Q 11 (fun W => W.cell? ⟨BN, 0, none⟩ = some nb ∧ W.cell? ⟨BN, 1, none⟩ = some nl) fuel #[true, true, true, true, true, true, true, true, b7, b8, b9, false, false, false] { tmps := #[x0, x1, x2, x3, x4, (.pointer (some ⟨BN, 0, none⟩)), s7, s8, s9, x9, x10, x11, x12, x13, x14, x15, x16, x17, x18, x19, x20, x21, x22, x23, x24, x25, x26, x27, x28, x29, x30, x31, x32, x33, x34, (.tuple #[.agg #[.slice na nk nc, .slice la lk lc], .agg #[.slice oa ol oc], .agg #[.int .i64 f1, .int .i64 f2]]), (.agg #[nb, nl]), (.agg #[.int .i64 1, .int .i64 90, .int .i64 0, .int .i64 0]), (.slice (some ⟨gt, 0, none⟩) 1 1), (.tuple #[.agg #[.slice na nk nc, .slice la lk lc], .agg #[.slice oa ol oc], .agg #[.int .i64 f1, .int .i64 f2]]), (.agg #[.slice na nk nc, .slice la lk lc]), (.agg #[.slice oa ol oc]), (.agg #[.int .i64 f1, .int .i64 f2]), x43, x44, x45, x46, x47, x48, x49, x50, x51, x52, x53, x54, x55, x56, x57, x58, x59, x60, x61, x62, x63, x64, x65, x66, x67, x68, x69, x70, x71, x72], defers := df } W := by
  intro fuel
  induction fuel with
  | zero => intro b7 b8 b9 h; omega
  | succ fuel ih =>
    intro b7 b8 b9 hf s7 s8 s9 g7 g8 g9 gt V na nk nc la lk lc oa ol oc f1 f2 W0 W hF hb hX h7 h8 h9 hz7 hz8 hz9 
    have hHeld : (#[true, true, true, true, true, true, true, true, b7, b8, b9, false, false, false] : Array Bool).getD 11 true = true ∨ (fun W => W.cell? ⟨BN, 0, none⟩ = some nb ∧ W.cell? ⟨BN, 1, none⟩ = some nl) W := Or.inr (hC W hX)
    by_cases hall : b7 = true ∧ b8 = true ∧ b9 = true
    · obtain ⟨rfl, rfl, rfl⟩ := hall
      obtain ⟨rfl, k7, l7⟩ := h7 rfl
      obtain ⟨rfl, k8, l8⟩ := h8 rfl
      obtain ⟨rfl, k9, l9⟩ := h9 rfl
      have hfin := fin gt V na nk nc la lk lc oa ol oc f1 f2 g7 g8 g9 W0 W hF hb hX ⟨k7, k8, k9⟩ ⟨l7, l8, l9⟩ ⟨hz7 rfl, hz8 rfl, hz9 rfl⟩
      have n78 : g7 ≠ g8 := fun e => by subst e; exact absurd (cells_type k7 k8) (by decide)
      have n79 : g7 ≠ g9 := fun e => by subst e; exact absurd (cells_type k7 k9) (by decide)
      have n89 : g8 ≠ g9 := fun e => by subst e; exact absurd (cells_type k8 k9) (by decide)
      have n87 := n78.symm
      have n97 := n79.symm
      have n98 := n89.symm
      obtain ⟨u0, u1⟩ := two_cells2 k7
      have u2 := one_cell k8
      obtain ⟨u3, u4⟩ := two_cells2 k9
      have v0 : W.frozen? ⟨g7, 0, none⟩ = false := frozen_of_row _ _ _ _ _ k7
      have v1 : W.frozen? ⟨g7, 1, none⟩ = false := frozen_of_row _ _ _ _ _ k7
      have v2 : W.frozen? ⟨g8, 0, none⟩ = false := frozen_of_row _ _ _ _ _ k8
      have v3 : W.frozen? ⟨g9, 0, none⟩ = false := frozen_of_row _ _ _ _ _ k9
      have v4 : W.frozen? ⟨g9, 1, none⟩ = false := frozen_of_row _ _ _ _ _ k9
      obtain ⟨fuel, rfl⟩ : ∃ q, fuel = q + 1 + 1 := ⟨fuel - 2, by simp [cnt3] at hf; omega⟩
      clear k7 k8 k9 fin ih hz7 hz8 hz9 h7 h8 h9
      refine z_one (i := 11) (o := { dst := none, op := Op.store 32 (Operand.tmp 6) (Operand.tmp 40), type := 0, pos := "top.go:241", after := #[{ on := 8, ground := Ground.data }, { on := 5, ground := Ground.data }, { on := 3, ground := Ground.chain }, { on := 0, ground := Ground.phase }, { on := 1, ground := Ground.phase }, { on := 2, ground := Ground.phase }, { on := 3, ground := Ground.phase }, { on := 4, ground := Ground.phase }, { on := 5, ground := Ground.phase }, { on := 6, ground := Ground.textOnly Departure.lateStores }, { on := 7, ground := Ground.textOnly Departure.lateStores }, { on := 8, ground := Ground.phase }, { on := 9, ground := Ground.phase }, { on := 10, ground := Ground.phase }], guard := none }) (by kernel_rfl) rfl (fun K hK => ?_)
      go_simp
      refine hK.out _ _ (Or.inl (by kernel_rfl)) (fun hHeld => ?_)
      clear hK K
      (try simp only [List.setIfInBounds_toArray, List.set_cons_zero, List.set_cons_succ])
      refine z_one (i := 12) (o := { dst := none, op := Op.store 43 (Operand.tmp 7) (Operand.tmp 41), type := 0, pos := "top.go:241", after := #[{ on := 9, ground := Ground.data }, { on := 6, ground := Ground.data }, { on := 11, ground := Ground.chain }, { on := 0, ground := Ground.phase }, { on := 1, ground := Ground.phase }, { on := 2, ground := Ground.phase }, { on := 3, ground := Ground.phase }, { on := 4, ground := Ground.phase }, { on := 5, ground := Ground.phase }, { on := 6, ground := Ground.phase }, { on := 7, ground := Ground.textOnly Departure.lateStores }, { on := 8, ground := Ground.phase }, { on := 9, ground := Ground.phase }, { on := 10, ground := Ground.phase }, { on := 11, ground := Ground.phase }], guard := none }) (by kernel_rfl) rfl (fun K hK => ?_)
      go_simp
      refine hK.out _ _ (Or.inl (by kernel_rfl)) (fun hHeld => ?_)
      clear hK K
      (try simp only [List.setIfInBounds_toArray, List.set_cons_zero, List.set_cons_succ])
      refine z_one (i := 13) (o := { dst := none, op := Op.store 26 (Operand.tmp 8) (Operand.tmp 42), type := 0, pos := "top.go:241", after := #[{ on := 10, ground := Ground.data }, { on := 7, ground := Ground.data }, { on := 12, ground := Ground.chain }, { on := 0, ground := Ground.phase }, { on := 1, ground := Ground.phase }, { on := 2, ground := Ground.phase }, { on := 3, ground := Ground.phase }, { on := 4, ground := Ground.phase }, { on := 5, ground := Ground.phase }, { on := 6, ground := Ground.phase }, { on := 7, ground := Ground.phase }, { on := 8, ground := Ground.phase }, { on := 9, ground := Ground.phase }, { on := 10, ground := Ground.phase }, { on := 11, ground := Ground.phase }, { on := 12, ground := Ground.phase }], guard := none }) (by kernel_rfl) rfl (fun K hK => ?_)
      go_simp
      refine hK.out _ _ (Or.inl (by kernel_rfl)) (fun hHeld => ?_)
      clear hK K
      (try simp only [List.setIfInBounds_toArray, List.set_cons_zero, List.set_cons_succ])
      refine z_done (by kernel_rfl) ?_ _
      exact hfin
    · refine z_mem (ur8_rd3 b7 b8 b9) (by revert hall; cases b7 <;> cases b8 <;> cases b9 <;> simp) (fun i hi => ?_)
      rw [if_neg (by revert hall; cases b7 <;> cases b8 <;> cases b9 <;> simp)] at hi
      simp only [List.mem_append] at hi
      rcases hi with hi | hi | hi
      · cases b7 with
        | true => simp at hi
        | false =>
          obtain rfl : i = 8 := by simpa using hi
          refine z_op (o := { dst := some 6, op := Op.alloc 32, type := 0, pos := "top.go:241", after := #[], guard := none }) rfl (fun K hK => ?_)
          go_simp
          have hn : Below W.heap.size W (W.alloc (.cells #[.slice none 0 0, .slice none 0 0] 32)) := below_alloc1 _ _
          have hXn := hX.trans (hn.mono hX.size)
          refine hK.out _ _ (Or.inr (hC _ hXn)) ?_
          (try simp only [List.setIfInBounds_toArray, List.set_cons_zero, List.set_cons_succ])
          exact ih true b8 b9 (by revert hf; cases b8 <;> cases b9 <;> simp [cnt3] <;> omega) _ s8 s9 W.heap.size g8 g9 gt V na nk nc la lk lc oa ol oc f1 f2 W0 _ hF (hb.trans (hn.mono hb.size)) hXn (AlF.new W hX.size _ _ _) (h8.below hn) (h9.below hn) (fun _ => Or.inr hb.size) hz8 hz9
      · cases b8 with
        | true => simp at hi
        | false =>
          obtain rfl : i = 9 := by simpa using hi
          refine z_op (o := { dst := some 7, op := Op.alloc 43, type := 0, pos := "top.go:241", after := #[], guard := none }) rfl (fun K hK => ?_)
          go_simp
          have hn : Below W.heap.size W (W.alloc (.cells #[.slice none 0 0] 43)) := below_alloc1 _ _
          have hXn := hX.trans (hn.mono hX.size)
          refine hK.out _ _ (Or.inr (hC _ hXn)) ?_
          (try simp only [List.setIfInBounds_toArray, List.set_cons_zero, List.set_cons_succ])
          exact ih b7 true b9 (by revert hf; cases b7 <;> cases b9 <;> simp [cnt3] <;> omega) s7 _ s9 g7 W.heap.size g9 gt V na nk nc la lk lc oa ol oc f1 f2 W0 _ hF (hb.trans (hn.mono hb.size)) hXn (h7.below hn) (AlF.new W hX.size _ _ _) (h9.below hn) hz7 (fun _ => Or.inr hb.size) hz9
      · cases b9 with
        | true => simp at hi
        | false =>
          obtain rfl : i = 10 := by simpa using hi
          refine z_op (o := { dst := some 8, op := Op.alloc 26, type := 0, pos := "top.go:241", after := #[], guard := none }) rfl (fun K hK => ?_)
          go_simp
          have hn : Below W.heap.size W (W.alloc (.cells #[.int .i64 0, .int .i64 0] 26)) := below_alloc1 _ _
          have hXn := hX.trans (hn.mono hX.size)
          refine hK.out _ _ (Or.inr (hC _ hXn)) ?_
          (try simp only [List.setIfInBounds_toArray, List.set_cons_zero, List.set_cons_succ])
          exact ih b7 b8 true (by revert hf; cases b7 <;> cases b8 <;> simp [cnt3] <;> omega) s7 s8 _ g7 g8 W.heap.size gt V na nk nc la lk lc oa ol oc f1 f2 W0 _ hF (hb.trans (hn.mono hb.size)) hXn (h7.below hn) (h8.below hn) (AlF.new W hX.size _ _ _) hz7 hz8 (fun _ => Or.inr hb.size)
include hQ hC hP fin in
set_option maxRecDepth 100000 in
set_option maxHeartbeats 1500000 in
theorem ur8_2 : ∀ (fuel : Nat) (b7 b8 b9 : Bool), 8 + cnt3 b7 b8 b9 ≤ fuel → ∀ (s7 s8 s9 : Value) (g7 g8 g9 : Nat) (gt : Nat) (W0 W : World), W0.heap[gt]? = some (.cells #[.int .i64 1, .int .i64 90, .int .i64 0, .int .i64 0] 47 (0, 0)) → Below W0.heap.size W0 W → Below X.heap.size X W → AlF W X.heap.size b7 s7 g7 #[.slice none 0 0, .slice none 0 0] 32 → AlF W X.heap.size b8 s8 g8 #[.slice none 0 0] 43 → AlF W X.heap.size b9 s9 g9 #[.int .i64 0, .int .i64 0] 26 → wpAnyZ Tryz.prog .any ur8_ops Q 11 (fun W => W.cell? ⟨BN, 0, none⟩ = some nb ∧ W.cell? ⟨BN, 1, none⟩ = some nl) fuel #[true, true, true, false, false, false, false, false, b7, b8, b9, false, false, false] { tmps := #[x0, x1, x2, x3, x4, (.pointer (some ⟨BN, 0, none⟩)), s7, s8, s9, x9, x10, x11, x12, x13, x14, x15, x16, x17, x18, x19, x20, x21, x22, x23, x24, x25, x26, x27, x28, x29, x30, x31, x32, x33, x34, x35, (.agg #[nb, nl]), (.agg #[.int .i64 1, .int .i64 90, .int .i64 0, .int .i64 0]), (.slice (some ⟨gt, 0, none⟩) 1 1), x39, x40, x41, x42, x43, x44, x45, x46, x47, x48, x49, x50, x51, x52, x53, x54, x55, x56, x57, x58, x59, x60, x61, x62, x63, x64, x65, x66, x67, x68, x69, x70, x71, x72], defers := df } W := by
  intro fuel
  induction fuel with
  | zero => intro b7 b8 b9 h; omega
  | succ fuel ih =>
    intro b7 b8 b9 hf s7 s8 s9 g7 g8 g9 gt W0 W hF hb hX h7 h8 h9 
    have hHeld : (#[true, true, true, false, false, false, false, false, b7, b8, b9, false, false, false] : Array Bool).getD 11 true = true ∨ (fun W => W.cell? ⟨BN, 0, none⟩ = some nb ∧ W.cell? ⟨BN, 1, none⟩ = some nl) W := Or.inr (hC W hX)
    refine z_mem (ur8_rd2 b7 b8 b9) (by simp) (fun i hi => ?_)
    simp only [List.mem_cons, List.mem_append] at hi
    rcases hi with rfl | hi | hi | hi
    · refine z_op (o := { dst := some 39, op := Op.call { callee := Callee.value (Operand.func 15), args := #[Operand.tmp 36, Operand.const (Value.int IntKind.i64 1), Operand.tmp 38], argTypes := #[32, 3, 49] }, type := 44, pos := "top.go:241", after := #[{ on := 0, ground := Ground.data }, { on := 2, ground := Ground.data }, { on := 1, ground := Ground.chain }], guard := none }) rfl (fun K hK => ?_)
      go_simp
      refine (hP W gt hX (keep hF hb)).mono ?_
      rintro e w2 ⟨na, nk, nc, la, lk, lc, oa, ol, oc, f1, f2, rfl, H⟩
      have hn := H.out.1
      have hXn := hX.trans (hn.mono hX.size)
      refine hK.out _ _ (Or.inr (hC _ hXn)) ?_
      (try simp only [List.setIfInBounds_toArray, List.set_cons_zero, List.set_cons_succ])
      obtain ⟨fuel, rfl⟩ : ∃ q, fuel = q + 1 + 1 + 1 + 1 := ⟨fuel - 4, by omega⟩
      refine z_take (i := 4) (oi := { dst := some 35, op := Op.move (Operand.tmp 39), type := 44, pos := "top.go:241", after := #[{ on := 3, ground := Ground.data }], guard := none }) (v := (.tuple #[.agg #[.slice na nk nc, .slice la lk lc], .agg #[.slice oa ol oc], .agg #[.int .i64 f1, .int .i64 f2]])) (some 35) rfl rfl (by cases b7 <;> cases b8 <;> cases b9 <;> kernel_rfl) (by cases b7 <;> cases b8 <;> cases b9 <;> kernel_rfl) (by cases b7 <;> cases b8 <;> cases b9 <;> kernel_rfl) (by decide) (fun c a w h => hQ c a _ _ w h) (by rfl) ?_ (Or.inr (hC _ hXn)) ?_
      · (intro wq; go_simp; try with_reducible rfl)
      (try simp only [Act.put, List.setIfInBounds_toArray, List.set_cons_zero, List.set_cons_succ])
      refine z_take (i := 5) (oi := { dst := some 40, op := Op.extract (Operand.tmp 35) 0, type := 32, pos := "top.go:241", after := #[{ on := 4, ground := Ground.data }], guard := none }) (v := (.agg #[.slice na nk nc, .slice la lk lc])) (some 40) rfl rfl (by cases b7 <;> cases b8 <;> cases b9 <;> kernel_rfl) (by cases b7 <;> cases b8 <;> cases b9 <;> kernel_rfl) (by cases b7 <;> cases b8 <;> cases b9 <;> kernel_rfl) (by decide) (fun c a w h => hQ c a _ _ w h) (by rfl) ?_ (Or.inr (hC _ hXn)) ?_
      · (intro wq; go_simp; try with_reducible rfl)
      (try simp only [Act.put, List.setIfInBounds_toArray, List.set_cons_zero, List.set_cons_succ])
      refine z_take (i := 6) (oi := { dst := some 41, op := Op.extract (Operand.tmp 35) 1, type := 43, pos := "top.go:241", after := #[{ on := 4, ground := Ground.data }, { on := 11, ground := Ground.gcOnly Departure.lateStores }], guard := none }) (v := (.agg #[.slice oa ol oc])) (some 41) rfl rfl (by cases b7 <;> cases b8 <;> cases b9 <;> kernel_rfl) (by cases b7 <;> cases b8 <;> cases b9 <;> kernel_rfl) (by cases b7 <;> cases b8 <;> cases b9 <;> kernel_rfl) (by decide) (fun c a w h => hQ c a _ _ w h) (by rfl) ?_ (Or.inr (hC _ hXn)) ?_
      · (intro wq; go_simp; try with_reducible rfl)
      (try simp only [Act.put, List.setIfInBounds_toArray, List.set_cons_zero, List.set_cons_succ])
      refine z_take (i := 7) (oi := { dst := some 42, op := Op.extract (Operand.tmp 35) 2, type := 26, pos := "top.go:241", after := #[{ on := 4, ground := Ground.data }, { on := 12, ground := Ground.gcOnly Departure.lateStores }], guard := none }) (v := (.agg #[.int .i64 f1, .int .i64 f2])) (some 42) rfl rfl (by cases b7 <;> cases b8 <;> cases b9 <;> kernel_rfl) (by cases b7 <;> cases b8 <;> cases b9 <;> kernel_rfl) (by cases b7 <;> cases b8 <;> cases b9 <;> kernel_rfl) (by decide) (fun c a w h => hQ c a _ _ w h) (by rfl) ?_ (Or.inr (hC _ hXn)) ?_
      · (intro wq; go_simp; try with_reducible rfl)
      (try simp only [Act.put, List.setIfInBounds_toArray, List.set_cons_zero, List.set_cons_succ])
      exact ur8_3 df X BN nb nl  R x0 x1 x2 x3 x4 x9 x10 x11 x12 x13 x14 x15 x16 x17 x18 x19 x20 x21 x22 x23 x24 x25 x26 x27 x28 x29 x30 x31 x32 x33 x34 x43 x44 x45 x46 x47 x48 x49 x50 x51 x52 x53 x54 x55 x56 x57 x58 x59 x60 x61 x62 x63 x64 x65 x66 x67 x68 x69 x70 x71 x72 hC fin fuel b7 b8 b9 (by omega) s7 s8 s9 g7 g8 g9 gt W na nk nc la lk lc oa ol oc f1 f2 w2 w2 H.out.2 (Below.refl _ _) hXn (h7.below hn) (h8.below hn) (h9.below hn) (fun e => Or.inl (lt_some (h7 e).2.1)) (fun e => Or.inl (lt_some (h8 e).2.1)) (fun e => Or.inl (lt_some (h9 e).2.1))
    · cases b7 with
      | true => simp at hi
      | false =>
        obtain rfl : i = 8 := by simpa using hi
        refine z_op (o := { dst := some 6, op := Op.alloc 32, type := 0, pos := "top.go:241", after := #[], guard := none }) rfl (fun K hK => ?_)
        go_simp
        have hn : Below W.heap.size W (W.alloc (.cells #[.slice none 0 0, .slice none 0 0] 32)) := below_alloc1 _ _
        have hXn := hX.trans (hn.mono hX.size)
        refine hK.out _ _ (Or.inr (hC _ hXn)) ?_
        (try simp only [List.setIfInBounds_toArray, List.set_cons_zero, List.set_cons_succ])
        exact ih true b8 b9 (by revert hf; cases b8 <;> cases b9 <;> simp [cnt3] <;> omega) _ s8 s9 W.heap.size g8 g9 gt W0 _ hF (hb.trans (hn.mono hb.size)) hXn (AlF.new W hX.size _ _ _) (h8.below hn) (h9.below hn) 
    · cases b8 with
      | true => simp at hi
      | false =>
        obtain rfl : i = 9 := by simpa using hi
        refine z_op (o := { dst := some 7, op := Op.alloc 43, type := 0, pos := "top.go:241", after := #[], guard := none }) rfl (fun K hK => ?_)
        go_simp
        have hn : Below W.heap.size W (W.alloc (.cells #[.slice none 0 0] 43)) := below_alloc1 _ _
        have hXn := hX.trans (hn.mono hX.size)
        refine hK.out _ _ (Or.inr (hC _ hXn)) ?_
        (try simp only [List.setIfInBounds_toArray, List.set_cons_zero, List.set_cons_succ])
        exact ih b7 true b9 (by revert hf; cases b7 <;> cases b9 <;> simp [cnt3] <;> omega) s7 _ s9 g7 W.heap.size g9 gt W0 _ hF (hb.trans (hn.mono hb.size)) hXn (h7.below hn) (AlF.new W hX.size _ _ _) (h9.below hn) 
    · cases b9 with
      | true => simp at hi
      | false =>
        obtain rfl : i = 10 := by simpa using hi
        refine z_op (o := { dst := some 8, op := Op.alloc 26, type := 0, pos := "top.go:241", after := #[], guard := none }) rfl (fun K hK => ?_)
        go_simp
        have hn : Below W.heap.size W (W.alloc (.cells #[.int .i64 0, .int .i64 0] 26)) := below_alloc1 _ _
        have hXn := hX.trans (hn.mono hX.size)
        refine hK.out _ _ (Or.inr (hC _ hXn)) ?_
        (try simp only [List.setIfInBounds_toArray, List.set_cons_zero, List.set_cons_succ])
        exact ih b7 b8 true (by revert hf; cases b7 <;> cases b8 <;> simp [cnt3] <;> omega) s7 s8 _ g7 g8 W.heap.size gt W0 _ hF (hb.trans (hn.mono hb.size)) hXn (h7.below hn) (h8.below hn) (AlF.new W hX.size _ _ _) 
include hQ hC hP fin in
set_option maxRecDepth 100000 in
set_option maxHeartbeats 1500000 in
theorem ur8_1 : ∀ (fuel : Nat) (b7 b8 b9 : Bool), 9 + cnt3 b7 b8 b9 ≤ fuel → ∀ (s7 s8 s9 : Value) (g7 g8 g9 : Nat) (W0 W : World), True → Below W0.heap.size W0 W → Below X.heap.size X W → AlF W X.heap.size b7 s7 g7 #[.slice none 0 0, .slice none 0 0] 32 → AlF W X.heap.size b8 s8 g8 #[.slice none 0 0] 43 → AlF W X.heap.size b9 s9 g9 #[.int .i64 0, .int .i64 0] 26 → wpAnyZ Tryz.prog .any ur8_ops Q 11 (fun W => W.cell? ⟨BN, 0, none⟩ = some nb ∧ W.cell? ⟨BN, 1, none⟩ = some nl) fuel #[true, true, false, false, false, false, false, false, b7, b8, b9, false, false, false] { tmps := #[x0, x1, x2, x3, x4, (.pointer (some ⟨BN, 0, none⟩)), s7, s8, s9, x9, x10, x11, x12, x13, x14, x15, x16, x17, x18, x19, x20, x21, x22, x23, x24, x25, x26, x27, x28, x29, x30, x31, x32, x33, x34, x35, (.agg #[nb, nl]), (.agg #[.int .i64 1, .int .i64 90, .int .i64 0, .int .i64 0]), x38, x39, x40, x41, x42, x43, x44, x45, x46, x47, x48, x49, x50, x51, x52, x53, x54, x55, x56, x57, x58, x59, x60, x61, x62, x63, x64, x65, x66, x67, x68, x69, x70, x71, x72], defers := df } W := by
  intro fuel
  induction fuel with
  | zero => intro b7 b8 b9 h; omega
  | succ fuel ih =>
    intro b7 b8 b9 hf s7 s8 s9 g7 g8 g9 W0 W hF hb hX h7 h8 h9 
    have hHeld : (#[true, true, false, false, false, false, false, false, b7, b8, b9, false, false, false] : Array Bool).getD 11 true = true ∨ (fun W => W.cell? ⟨BN, 0, none⟩ = some nb ∧ W.cell? ⟨BN, 1, none⟩ = some nl) W := Or.inr (hC W hX)
    refine z_mem (ur8_rd1 b7 b8 b9) (by simp) (fun i hi => ?_)
    simp only [List.mem_cons, List.mem_append] at hi
    rcases hi with rfl | hi | hi | hi
    · refine z_op (o := { dst := some 38, op := Op.buildSlice 49 1 #[(0, Operand.tmp 37)], type := 49, pos := "top.go:241", after := #[{ on := 1, ground := Ground.data }], guard := none }) rfl (fun K hK => ?_)
      go_simp
      have hn : Below W.heap.size W (W.alloc (.cells #[.int .i64 1, .int .i64 90, .int .i64 0, .int .i64 0] 47)) := below_alloc1 _ _
      have hXn := hX.trans (hn.mono hX.size)
      refine hK.out _ _ (Or.inr (hC _ hXn)) ?_
      (try simp only [List.setIfInBounds_toArray, List.set_cons_zero, List.set_cons_succ])
      exact ur8_2 df X BN nb nl  R x0 x1 x2 x3 x4 x9 x10 x11 x12 x13 x14 x15 x16 x17 x18 x19 x20 x21 x22 x23 x24 x25 x26 x27 x28 x29 x30 x31 x32 x33 x34 x35 x39 x40 x41 x42 x43 x44 x45 x46 x47 x48 x49 x50 x51 x52 x53 x54 x55 x56 x57 x58 x59 x60 x61 x62 x63 x64 x65 x66 x67 x68 x69 x70 x71 x72 hQ hC hP fin fuel b7 b8 b9 (by omega) s7 s8 s9 g7 g8 g9 W.heap.size _ _ (heap_alloc_last _ _) (Below.refl _ _) hXn (h7.below hn) (h8.below hn) (h9.below hn)
    · cases b7 with
      | true => simp at hi
      | false =>
        obtain rfl : i = 8 := by simpa using hi
        refine z_op (o := { dst := some 6, op := Op.alloc 32, type := 0, pos := "top.go:241", after := #[], guard := none }) rfl (fun K hK => ?_)
        go_simp
        have hn : Below W.heap.size W (W.alloc (.cells #[.slice none 0 0, .slice none 0 0] 32)) := below_alloc1 _ _
        have hXn := hX.trans (hn.mono hX.size)
        refine hK.out _ _ (Or.inr (hC _ hXn)) ?_
        (try simp only [List.setIfInBounds_toArray, List.set_cons_zero, List.set_cons_succ])
        exact ih true b8 b9 (by revert hf; cases b8 <;> cases b9 <;> simp [cnt3] <;> omega) _ s8 s9 W.heap.size g8 g9 W0 _ hF (hb.trans (hn.mono hb.size)) hXn (AlF.new W hX.size _ _ _) (h8.below hn) (h9.below hn) 
    · cases b8 with
      | true => simp at hi
      | false =>
        obtain rfl : i = 9 := by simpa using hi
        refine z_op (o := { dst := some 7, op := Op.alloc 43, type := 0, pos := "top.go:241", after := #[], guard := none }) rfl (fun K hK => ?_)
        go_simp
        have hn : Below W.heap.size W (W.alloc (.cells #[.slice none 0 0] 43)) := below_alloc1 _ _
        have hXn := hX.trans (hn.mono hX.size)
        refine hK.out _ _ (Or.inr (hC _ hXn)) ?_
        (try simp only [List.setIfInBounds_toArray, List.set_cons_zero, List.set_cons_succ])
        exact ih b7 true b9 (by revert hf; cases b7 <;> cases b9 <;> simp [cnt3] <;> omega) s7 _ s9 g7 W.heap.size g9 W0 _ hF (hb.trans (hn.mono hb.size)) hXn (h7.below hn) (AlF.new W hX.size _ _ _) (h9.below hn) 
    · cases b9 with
      | true => simp at hi
      | false =>
        obtain rfl : i = 10 := by simpa using hi
        refine z_op (o := { dst := some 8, op := Op.alloc 26, type := 0, pos := "top.go:241", after := #[], guard := none }) rfl (fun K hK => ?_)
        go_simp
        have hn : Below W.heap.size W (W.alloc (.cells #[.int .i64 0, .int .i64 0] 26)) := below_alloc1 _ _
        have hXn := hX.trans (hn.mono hX.size)
        refine hK.out _ _ (Or.inr (hC _ hXn)) ?_
        (try simp only [List.setIfInBounds_toArray, List.set_cons_zero, List.set_cons_succ])
        exact ih b7 b8 true (by revert hf; cases b7 <;> cases b8 <;> simp [cnt3] <;> omega) s7 s8 _ g7 g8 W.heap.size W0 _ hF (hb.trans (hn.mono hb.size)) hXn (h7.below hn) (h8.below hn) (AlF.new W hX.size _ _ _) 
include hQ hC hT hP fin in
set_option maxRecDepth 100000 in
set_option maxHeartbeats 1500000 in
theorem ur8_0 : ∀ (fuel : Nat) (b7 b8 b9 : Bool), 10 + cnt3 b7 b8 b9 ≤ fuel → ∀ (s7 s8 s9 : Value) (g7 g8 g9 : Nat) (W0 W : World), True → Below W0.heap.size W0 W → Below X.heap.size X W → AlF W X.heap.size b7 s7 g7 #[.slice none 0 0, .slice none 0 0] 32 → AlF W X.heap.size b8 s8 g8 #[.slice none 0 0] 43 → AlF W X.heap.size b9 s9 g9 #[.int .i64 0, .int .i64 0] 26 → wpAnyZ Tryz.prog .any ur8_ops Q 11 (fun W => W.cell? ⟨BN, 0, none⟩ = some nb ∧ W.cell? ⟨BN, 1, none⟩ = some nl) fuel #[true, false, false, false, false, false, false, false, b7, b8, b9, false, false, false] { tmps := #[x0, x1, x2, x3, x4, (.pointer (some ⟨BN, 0, none⟩)), s7, s8, s9, x9, x10, x11, x12, x13, x14, x15, x16, x17, x18, x19, x20, x21, x22, x23, x24, x25, x26, x27, x28, x29, x30, x31, x32, x33, x34, x35, (.agg #[nb, nl]), x37, x38, x39, x40, x41, x42, x43, x44, x45, x46, x47, x48, x49, x50, x51, x52, x53, x54, x55, x56, x57, x58, x59, x60, x61, x62, x63, x64, x65, x66, x67, x68, x69, x70, x71, x72], defers := df } W := by
  intro fuel
  induction fuel with
  | zero => intro b7 b8 b9 h; omega
  | succ fuel ih =>
    intro b7 b8 b9 hf s7 s8 s9 g7 g8 g9 W0 W hF hb hX h7 h8 h9 
    have hHeld : (#[true, false, false, false, false, false, false, false, b7, b8, b9, false, false, false] : Array Bool).getD 11 true = true ∨ (fun W => W.cell? ⟨BN, 0, none⟩ = some nb ∧ W.cell? ⟨BN, 1, none⟩ = some nl) W := Or.inr (hC W hX)
    refine z_mem (ur8_rd0 b7 b8 b9) (by simp) (fun i hi => ?_)
    simp only [List.mem_cons, List.mem_append] at hi
    rcases hi with rfl | hi | hi | hi
    · refine z_op (o := { dst := some 37, op := Op.call { callee := Callee.value (Operand.func 16), args := #[Operand.const (Value.int IntKind.i64 90)], argTypes := #[3] }, type := 47, pos := "top.go:241", after := #[], guard := none }) rfl (fun K hK => ?_)
      go_simp
      refine (hT W _).mono ?_
      rintro e w2 ⟨rfl, hn⟩
      have hXn := hX.trans (hn.mono hX.size)
      refine hK.out _ _ (Or.inr (hC _ hXn)) ?_
      (try simp only [List.setIfInBounds_toArray, List.set_cons_zero, List.set_cons_succ])
      exact ur8_1 df X BN nb nl  R x0 x1 x2 x3 x4 x9 x10 x11 x12 x13 x14 x15 x16 x17 x18 x19 x20 x21 x22 x23 x24 x25 x26 x27 x28 x29 x30 x31 x32 x33 x34 x35 x38 x39 x40 x41 x42 x43 x44 x45 x46 x47 x48 x49 x50 x51 x52 x53 x54 x55 x56 x57 x58 x59 x60 x61 x62 x63 x64 x65 x66 x67 x68 x69 x70 x71 x72 hQ hC hP fin fuel b7 b8 b9 (by omega) s7 s8 s9 g7 g8 g9 W0 w2 hF (hb.trans (hn.mono hb.size)) hXn (h7.below hn) (h8.below hn) (h9.below hn)
    · cases b7 with
      | true => simp at hi
      | false =>
        obtain rfl : i = 8 := by simpa using hi
        refine z_op (o := { dst := some 6, op := Op.alloc 32, type := 0, pos := "top.go:241", after := #[], guard := none }) rfl (fun K hK => ?_)
        go_simp
        have hn : Below W.heap.size W (W.alloc (.cells #[.slice none 0 0, .slice none 0 0] 32)) := below_alloc1 _ _
        have hXn := hX.trans (hn.mono hX.size)
        refine hK.out _ _ (Or.inr (hC _ hXn)) ?_
        (try simp only [List.setIfInBounds_toArray, List.set_cons_zero, List.set_cons_succ])
        exact ih true b8 b9 (by revert hf; cases b8 <;> cases b9 <;> simp [cnt3] <;> omega) _ s8 s9 W.heap.size g8 g9 W0 _ hF (hb.trans (hn.mono hb.size)) hXn (AlF.new W hX.size _ _ _) (h8.below hn) (h9.below hn) 
    · cases b8 with
      | true => simp at hi
      | false =>
        obtain rfl : i = 9 := by simpa using hi
        refine z_op (o := { dst := some 7, op := Op.alloc 43, type := 0, pos := "top.go:241", after := #[], guard := none }) rfl (fun K hK => ?_)
        go_simp
        have hn : Below W.heap.size W (W.alloc (.cells #[.slice none 0 0] 43)) := below_alloc1 _ _
        have hXn := hX.trans (hn.mono hX.size)
        refine hK.out _ _ (Or.inr (hC _ hXn)) ?_
        (try simp only [List.setIfInBounds_toArray, List.set_cons_zero, List.set_cons_succ])
        exact ih b7 true b9 (by revert hf; cases b7 <;> cases b9 <;> simp [cnt3] <;> omega) s7 _ s9 g7 W.heap.size g9 W0 _ hF (hb.trans (hn.mono hb.size)) hXn (h7.below hn) (AlF.new W hX.size _ _ _) (h9.below hn) 
    · cases b9 with
      | true => simp at hi
      | false =>
        obtain rfl : i = 10 := by simpa using hi
        refine z_op (o := { dst := some 8, op := Op.alloc 26, type := 0, pos := "top.go:241", after := #[], guard := none }) rfl (fun K hK => ?_)
        go_simp
        have hn : Below W.heap.size W (W.alloc (.cells #[.int .i64 0, .int .i64 0] 26)) := below_alloc1 _ _
        have hXn := hX.trans (hn.mono hX.size)
        refine hK.out _ _ (Or.inr (hC _ hXn)) ?_
        (try simp only [List.setIfInBounds_toArray, List.set_cons_zero, List.set_cons_succ])
        exact ih b7 b8 true (by revert hf; cases b7 <;> cases b8 <;> simp [cnt3] <;> omega) s7 s8 _ g7 g8 W.heap.size W0 _ hF (hb.trans (hn.mono hb.size)) hXn (h7.below hn) (h8.below hn) (AlF.new W hX.size _ _ _) 
include hQ hC hT hP fin  in
set_option maxHeartbeats 1500000 in
theorem ur8 (x6 x7 x8 x36 : Value) : (Code.region 7 ur8_ops true).wp Tryz.prog Q { tmps := #[x0, x1, x2, x3, x4, (.pointer (some ⟨BN, 0, none⟩)), x6, x7, x8, x9, x10, x11, x12, x13, x14, x15, x16, x17, x18, x19, x20, x21, x22, x23, x24, x25, x26, x27, x28, x29, x30, x31, x32, x33, x34, x35, x36, x37, x38, x39, x40, x41, x42, x43, x44, x45, x46, x47, x48, x49, x50, x51, x52, x53, x54, x55, x56, x57, x58, x59, x60, x61, x62, x63, x64, x65, x66, x67, x68, x69, x70, x71, x72], defers := df } X := by
  have hXd : Below X.heap.size X X.drew := Below.drew (Below.refl _ _)
  have hc := hC X (Below.refl _ _)
  refine wp_region_z (z := 11) (C := fun W => W.cell? ⟨BN, 0, none⟩ = some nb ∧ W.cell? ⟨BN, 1, none⟩ = some nl) (by kernel_rfl) (hC _ hXd) (fun hHeld => ?_)
  refine z_load (i := 0) (oi := { dst := some 36, op := Op.load 32 (Operand.tmp 5), type := 32, pos := "top.go:241", after := #[], guard := none }) (v := .agg #[nb, nl]) (some 36) rfl rfl (by kernel_rfl) (by kernel_rfl) (by kernel_rfl) (by kernel_rfl) (fun c a w h => hQ c a _ _ w h) (by rfl) ?_ hHeld ?_
  · (intro wq hSw; go_simp; try with_reducible rfl)
  (try simp only [Act.put, List.setIfInBounds_toArray, List.set_cons_zero, List.set_cons_succ])
  exact ur8_0 df X BN nb nl  R x0 x1 x2 x3 x4 x9 x10 x11 x12 x13 x14 x15 x16 x17 x18 x19 x20 x21 x22 x23 x24 x25 x26 x27 x28 x29 x30 x31 x32 x33 x34 x35 x37 x38 x39 x40 x41 x42 x43 x44 x45 x46 x47 x48 x49 x50 x51 x52 x53 x54 x55 x56 x57 x58 x59 x60 x61 x62 x63 x64 x65 x66 x67 x68 x69 x70 x71 x72 hQ hC hT hP fin _ false false false (by simp [cnt3]) _ _ _ 0 0 0 X _ trivial hXd hXd (fun e => by cases e) (fun e => by cases e) (fun e => by cases e)
end
end Go.Proofs.YtflghpnpjmodaaaGreatDoor

namespace Go.Proofs.YtflghpnpjmodaaaGreatDoor
open Go.RowKit
open Vc (V Of)
open Pl (Br Net Pc Lk En St ringE lineE ringId)
open Tk (Md Mnd Cn Sc Dn ten yes)

/-- A link's cost is written. -/
theorem line_dear {base : Nat} {W : World} {k d : Nat} {a5 : Option Addr} {c5 : Nat} {a6 : Option Addr} {c6 : Nat} (h : LineW base W (Pl.lnk k ten yes) k k (.slice a5 k c5) (.slice a6 k c6)) (hd : d < k) :
    ∃ g, a6 = some ⟨g, 0, none⟩ ∧ k ≤ c6 ∧ base ≤ g ∧ g < W.heap.size ∧ W.cell? ⟨g, d * 6 + 4, none⟩ = some (.int .i64 10) ∧ W.frozen? ⟨g, d * 6 + 4, none⟩ = false ∧ LineW base (W.setCell ⟨g, d * 6 + 4, none⟩ (.int .i64 1000)) (Pl.lnk k (Tk.dearC d) yes) k k (.slice a5 k c5) (.slice a6 k c6) := by
  rcases owns_rowS h.lks with ⟨e, q⟩ | ⟨g, cap, sp, e, h1, h2, h3, h4, h5⟩
  · omega
  · injection e with e1 _ e3
    subst e1 e3
    refine ⟨g, rfl, h2, h1, (Array.getElem?_eq_some_iff.1 h5).1, rowS_cell h5 hd (show 4 < 6 by omega), frozen_of_row _ _ _ _ _ h5, ?_, ?_, h.apart⟩
    · have hgs : W.grownBy (W.setCell ⟨g, d * 6 + 4, none⟩ (.int .i64 1000)) (some g) := by
        have bz : Below 0 W (W.setCell ⟨g, d * 6 + 4, none⟩ (.int .i64 1000)) := (Below.refl 0 W).setCell (Nat.zero_le _) _
        exact ⟨bz.os, bz.tape, bz.output, bz.size, fun q hq hne => heap_setCell_other _ _ _ _ (by exact fun e => hne (by rw [e]))⟩
      refine h.brs.kept hgs ?_
      cases hv : (Value.slice a5 k c5).ownBlock with
      | none => exact Or.inl rfl
      | some q => exact Or.inr (fun e => by injection e with e; subst e; exact h.apart _ hv rfl)
    · have h6 := rowS_set h5 hd (show 4 < 6 by omega) (.int .i64 1000)
      rw [rowS_congr2 (d := fun j => lkC (Pl.lnk k (Tk.dearC d) yes j)) sp (fun i hi j hj => ?_)] at h6
      · exact rowS_owns h1 h2 h3 h4 h6
      · unfold updC
        by_cases e : i = d ∧ j = 4
        · obtain ⟨rfl, rfl⟩ := e
          rw [if_pos ⟨rfl, rfl⟩]
          show _ = Value.int .i64 (Tk.dearC i i)
          unfold Tk.dearC
          rw [if_pos rfl]
        · rw [if_neg e]
          rcases (by omega : j = 0 ∨ j = 1 ∨ j = 2 ∨ j = 3 ∨ j = 4 ∨ j = 5) with q | q | q | q | q | q <;> subst q
          · rfl
          · rfl
          · rfl
          · rfl
          · show Value.int .i64 10 = Value.int .i64 (Tk.dearC d i)
            unfold Tk.dearC
            rw [if_neg (fun z => e ⟨z, rfl⟩)]
          · rfl
/-- What TopCheap has behind its Play. -/
structure ChG (Z w : World) (k d : Nat) (lb c6 : Nat) (BN ob off oc g8 g9 : Nat) : Prop where
  keep : ∀ V, Below Z.heap.size Z V → (V.cell? ⟨g8, 0, none⟩ = some (.slice (some ⟨ob, off, none⟩) 1 oc) ∧ V.cell? ⟨g9, 0, none⟩ = some (.int .i64 0)) ∧ V.cell? ⟨BN, 1, none⟩ = some (.slice (some ⟨lb, 0, none⟩) k c6) ∧ LRow V (some ⟨lb, 0, none⟩) k c6 (Pl.lnk k (Tk.dearC d) yes) ∧ Below w.heap.size w V
  cap : k ≤ c6
  opens : ∀ V, Below Z.heap.size Z V → ∀ i j : Nat, i < k → j < 2 → ∀ p : Int, p = (j : Int) + 1 → Calls Tryz.prog 27 #[.agg #[.slice (some ⟨ob, off, none⟩) 1 oc], .int .i64 0, .int .i64 (i : Int), .int .i64 p] V fun e w' => e = .returned (.bool (Tk.onR k (Tk.dearC d) yes (Pl.ringAll k (Tk.dearC d) yes) i j)) ∧ Below V.heap.size V w'
set_option maxRecDepth 100000 in
set_option maxHeartbeats 6000000 in
theorem utopcheap_any (k d : Int) (w : World) (ht : Tabs w) (hbt : 2 ≤ w.heap.size) : Calls Tryz.prog 8 #[.int .i64 k, .int .i64 d] w fun e w' => e = .returned (.bool true) ∧ Below w.heap.size w w' := by
  have HT : Hid (∀ V, Below w.heap.size w V → Tabs V ∧ 2 ≤ V.heap.size) := fun V hV => ⟨ht.below hV hbt, Nat.le_trans hbt hV.size⟩
  have HAL : Hid (Calls Tryz.prog 12 #[] w fun e w' => e = .returned (.bool true) ∧ Below w.heap.size w w') := ualive_any w ht hbt
  clear ht hbt
  go_enter Tryz.func8, Tryz.ntmps8
  go_wp2_with fail
  refine HAL.out.mono ?_
  rintro e w1 ⟨rfl, HB1⟩
  have H1 : Hid (Below w.heap.size w w1) := HB1
  clear HAL HB1
  by_cases q1 : k < 3
  · clear HT
    go_wp2_with fail
    go_ret
    exact ⟨rfl, H1.out⟩
  by_cases q2 : 12 < k
  · clear HT
    go_wp2_with fail
    go_ret
    exact ⟨rfl, H1.out⟩
  by_cases q3 : d < 0
  · clear HT
    go_wp2_with fail
    go_ret
    exact ⟨rfl, H1.out⟩
  by_cases q4 : k ≤ d
  · clear HT
    go_wp2_with fail
    go_ret
    exact ⟨rfl, H1.out⟩
  obtain ⟨k, rfl⟩ : ∃ q : Nat, k = (q : Int) := ⟨k.toNat, by omega⟩
  obtain ⟨d, rfl⟩ : ∃ q : Nat, d = (q : Int) := ⟨d.toNat, by omega⟩
  have HLN : Hid (Calls Tryz.prog 14 #[.int .i64 (k : Int), .bool true] w1 fun e w' => ∃ a5 c5 a6 c6, e = .returned (.agg #[.slice a5 k c5, .slice a6 k c6]) ∧ Hid (LineW (w1.heap.size + 2) w' (Pl.lnk k ten yes) k k (.slice a5 k c5) (.slice a6 k c6) ∧ Below w1.heap.size w1 w')) := by
    have h := uline_any k true w1 (by omega)
    rw [lnL_ring (by omega)] at h
    exact h
  go_wp2_with fail
  refine HLN.out.mono ?_
  rintro e w2 ⟨a5, c5, a6, c6, rfl, H2⟩
  clear HLN
  obtain ⟨X, HX⟩ : ∃ X, Hid (X = w2.alloc (.cells #[.slice a5 k c5, .slice a6 k c6] 32)) := ⟨_, rfl⟩
  have hX2 : Below w2.heap.size w2 X := by rw [HX.out]; exact below_alloc1 _ _
  have hXn : X.heap[w2.heap.size]? = some (.cells #[.slice a5 k c5, .slice a6 k c6] 32 (0, 0)) := by rw [HX.out]; exact heap_alloc_last _ _
  have hw2 : Below w.heap.size w w2 := H1.out.trans (H2.out.2.mono H1.out.size)
  obtain ⟨g, rfl, hc6, hgb, hgw, _, _, hL⟩ := line_dear H2.out.1 (show d < k by omega)
  obtain ⟨g2, eg, _, _, _, y4, f4, _⟩ := line_dear (H2.out.1.below hX2) (show d < k by omega)
  injection eg with eg
  injection eg with eg
  subst eg
  obtain ⟨BN, HBN⟩ : ∃ BN, Hid (BN = w2.heap.size) := ⟨_, rfl⟩
  obtain ⟨W', HW'⟩ : ∃ W', Hid (W' = w2.setCell ⟨g, d * 6 + 4, none⟩ (.int .i64 1000)) := ⟨_, rfl⟩
  obtain ⟨X', HX'⟩ : ∃ X', Hid (X' = (w2.setCell ⟨g, d * 6 + 4, none⟩ (.int .i64 1000)).alloc (.cells #[.slice a5 k c5, .slice (some ⟨g, 0, none⟩) k c6] 32)) := ⟨_, rfl⟩
  have hWX : Below W'.heap.size W' X' := by rw [HX'.out, HW'.out]; exact below_alloc1 _ _
  have hWs : W'.heap.size = w2.heap.size := by rw [HW'.out]; simp
  have hXn' : X'.heap[w2.heap.size]? = some (.cells #[.slice a5 k c5, .slice (some ⟨g, 0, none⟩) k c6] 32 (0, 0)) := by rw [← hWs, HX'.out, HW'.out]; exact heap_alloc_last _ _
  have hwW : Below w.heap.size w W' := by rw [HW'.out]; exact hw2.setCell (by show w.heap.size ≤ g; have := H1.out.size; omega) _
  have hwX' : Below w.heap.size w X' := hwW.trans (hWX.mono hwW.size)
  have hL' : LineW (w1.heap.size + 2) X' (Pl.lnk k (Tk.dearC d) yes) k k (.slice a5 k c5) (.slice (some ⟨g, 0, none⟩) k c6) := by
    rw [← HW'.out] at hL
    exact hL.below hWX
  have HCX : Hid (∀ V, Below X'.heap.size X' V → (V.cell? ⟨BN, 0, none⟩ = some (.slice a5 k c5) ∧ V.cell? ⟨BN, 1, none⟩ = some (.slice (some ⟨g, 0, none⟩) k c6)) ∧ (netL k true (Tk.dearC d) a5 c5 (some ⟨g, 0, none⟩) c6).at' V ∧ (Tabs V ∧ 2 ≤ V.heap.size) ∧ Below w.heap.size w V) := fun V hV => by
    have h := hwX'.trans (hV.mono hwX'.size)
    exact ⟨by rw [HBN.out]; exact two_cells2 (keep hXn' hV), (hL'.at (ring := true) (lnL_ring (by omega)).symm (by omega)).below hV, HT.out V h, h⟩
  have HK : Hid ((3 ≤ k ∧ k ≤ 12) ∧ d < k) := ⟨⟨by omega, by omega⟩, by omega⟩
  have HP0 : Hid ((plErr (netL k true (Tk.dearC d) a5 c5 (some ⟨g, 0, none⟩) c6) 1 (tk1 90) 1).1 = 0) := pl_ok (netL_right HK.out.1.2 dear_ok) (by omega) (fun q hq => by rw [tk1_eq]; exact errTick (by omega))
  rw [HX.out] at y4 f4
  have i0 : (0 : Int) ≤ (d : Int) := by omega
  have i1 : (d : Int) < (k : Int) := by omega
  clear H1 H2 HT hX2 hXn hw2 hL hL' hXn' hwX' hgb hWX hWs hwW HW'
  go_wp2_with fail
  rw [← HX'.out]
  rw [← HBN.out]
  refine ur8 [] X' BN (.slice a5 k c5) (.slice (some ⟨g, 0, none⟩) k c6) (fun V W0 na nk nc la lk lc oa ol oc f1 f2 => PlF V W0 (netL k true (Tk.dearC d) a5 c5 (some ⟨g, 0, none⟩) c6) 1 (tk1 90) 1 na nk nc la lk lc oa ol oc f1 f2) _ _ _ _ _ _ _ _ _ _ _ _ _ _ _ _ _ _ _ _ _ _ _ _ _ _ _ _ _ _ _ _ _ _ _ _ _ _ _ _ _ _ _ _ _ _ _ _ _ _ _ _ _ _ _ _ _ _ _ _ _ _ _ _ _ _ _ _ ?hQ ?hC ?hT ?hP ?fin _ _ _ _
  case hQ => exact fun _ _ _ _ _ h => h
  case hC => exact fun V hV => (HCX.out V hV).1
  case hT => exact fun V tk => uticks_any tk V
  case hP =>
    intro V q hV hg
    obtain ⟨_, y1, ⟨y2, y3⟩, _⟩ := HCX.out V hV
    have hd : DRow V (some ⟨q, 0, none⟩) 1 1 (tk1 90) := by
      rw [show tk1 (90 : Int) = fun _ => tickD 90 from funext (tk1_eq 90)]
      exact one_do (d := tickD 90) hg
    have h := tplay_flat (netL k true (Tk.dearC d) a5 c5 (some ⟨g, 0, none⟩) c6) 1 (some ⟨q, 0, none⟩) 1 1 (tk1 90) V (netL_wf HK.out.1.2) y1 (by omega) hd y2 y3
    have e : (netL k true (Tk.dearC d) a5 c5 (some ⟨g, 0, none⟩) c6).L = k := lnL_ring HK.out.1.1
    rw [e] at h
    exact h
  case fin =>
    intro gt V na nk nc la lk lc oa ol oc f1 f2 g7 g8 g9 W0 W hR hb hX hk hl hz
    obtain ⟨n', ob, off, t', ⟨⟨rfl, ek, rfl⟩, ⟨rfl, rfl, rfl⟩, ⟨rfl, rfl, hoc⟩, rfl, rfl⟩, hfin⟩ := u_fin hR HP0.out hb hX hk hl hz
    obtain rfl : k = nk := ek.symm
    clear ek
    obtain ⟨Z, HZ⟩ : ∃ Z, Hid (Z = boxes5 W g7 g8 g9 n'.bao (netL k true (Tk.dearC d) a5 c5 (some ⟨g, 0, none⟩) c6).K n'.bcap n'.lao (netL k true (Tk.dearC d) a5 c5 (some ⟨g, 0, none⟩) c6).L n'.lcap (some ⟨ob, off, none⟩) 1 oc 0 0) := ⟨_, rfl⟩
    obtain ⟨hXZ, hU⟩ := hfin Z HZ.out
    have HG : Hid (ChG Z w k d g c6 BN ob off oc g8 g9) := by
      refine ⟨fun V hV => ?_, hc6, fun V hV i j hi hj p hp => ring_o (by omega) (hU V hV).sn HK.out.1 dear_ok hi hj hp⟩
      have u := hU V hV
      obtain ⟨y0, y1, _, y3⟩ := HCX.out V (hXZ.trans (hV.mono hXZ.size))
      have hr := y1.lks
      have e : (netL k true (Tk.dearC d) a5 c5 (some ⟨g, 0, none⟩) c6).L = k := lnL_ring HK.out.1.1
      rw [e] at hr
      exact ⟨⟨one_cell u.b8, (two_cells2 u.b9).1⟩, y0.2, hr, y3⟩
    obtain ⟨⟨d8, c9⟩, d1, _⟩ := HG.out.keep Z (Below.refl _ _)
    obtain ⟨hk1, hk2⟩ := HK.out.1
    clear HCX HP0 HX hR hb hX hk hl hz hfin hXZ hU hoc q1 q2 q3 q4
    have HZ' : Hid (Z = (((((W.setCell ⟨g7, 0, none⟩ (.slice n'.bao k n'.bcap)).setCell ⟨g7, 1, none⟩ (.slice n'.lao (netL k true (Tk.dearC d) a5 c5 (some ⟨g, 0, none⟩) c6).L n'.lcap)).setCell ⟨g8, 0, none⟩ (.slice (some ⟨ob, off, none⟩) 1 oc)).setCell ⟨g9, 0, none⟩ (.int .i64 0)).setCell ⟨g9, 1, none⟩ (.int .i64 0))) := HZ.out
    clear HZ
    rw [← HZ'.out]
    go_wp2_with fail
    clear c9 d8 d1
    go_loopw [49] (fun i wr => ∃ j : Nat, j ≤ k ∧ i = .int .i64 j ∧ Hid (Below Z.heap.size Z wr)) (fun i _ => k - (intOf i).toNat)
    case atStart => exact ⟨0, by omega, rfl, Below.refl _ _⟩
    case round =>
      obtain ⟨j, hj, rfl, hB⟩ := hrel
      by_cases hlt : j < k
      · have hi : (j : Int) < (k : Int) := by omega
        have hi0 : (0 : Int) ≤ (j : Int) := by omega
        obtain ⟨_, _, r0, _⟩ := HG.out.keep wr hB.out
        obtain ⟨q0, q1, q2, q3, q4, q5⟩ := LRow.cells r0 hlt
        have c0 : wr.cell? ⟨g, 0 + j * 6, none⟩ = some (.int .i64 (j : Int)) := q0
        have c1 : wr.cell? ⟨g, 0 + j * 6 + 1, none⟩ = some (.int .i64 2) := q1
        have c2 : wr.cell? ⟨g, 0 + j * 6 + 2, none⟩ = some (.int .i64 ((Tk.nxt k j : Nat) : Int)) := q2
        have c3 : wr.cell? ⟨g, 0 + j * 6 + 3, none⟩ = some (.int .i64 1) := q3
        have c4 : wr.cell? ⟨g, 0 + j * 6 + 4, none⟩ = some (.int .i64 (Tk.dearC d j)) := q4
        have c5 : wr.cell? ⟨g, 0 + j * 6 + 5, none⟩ = some (.bool true) := q5
        rw [Nat.zero_add] at c0 c1 c2 c3 c4 c5
        obtain ⟨Y, HY⟩ : ∃ Y, Hid (Y = wr.alloc (.cells #[.int .i64 (j : Int), .int .i64 2, .int .i64 ((Tk.nxt k j : Nat) : Int), .int .i64 1, .int .i64 (Tk.dearC d j), .bool true] 83)) := ⟨_, rfl⟩
        have hYB : Below wr.heap.size wr Y := by rw [HY.out]; exact below_alloc1 _ _
        have hYx : Y.heap[wr.heap.size]? = some (.cells #[.int .i64 (j : Int), .int .i64 2, .int .i64 ((Tk.nxt k j : Nat) : Int), .int .i64 1, .int .i64 (Tk.dearC d j), .bool true] 83 (0, 0)) := by rw [HY.out]; exact heap_alloc_last _ _
        have hZY : Below Z.heap.size Z Y := hB.out.trans (hYB.mono hB.out.size)
        have d0 := (HG.out.keep Y hZY).1.1
        rw [HY.out] at d0
        have hnx : Tk.nxt k j < k := by unfold Tk.nxt; split <;> omega
        have HO1 : Hid (Calls Tryz.prog 27 #[.agg #[.slice (some ⟨ob, off, none⟩) 1 oc], .int .i64 0, .int .i64 (j : Int), .int .i64 2] Y fun e w' => e = .returned (.bool (Tk.onR k (Tk.dearC d) yes (Pl.ringAll k (Tk.dearC d) yes) j 1)) ∧ Below Y.heap.size Y w') := HG.out.opens Y hZY j 1 hlt (by omega) 2 rfl
        have HO2 : Hid (∀ V, Below Y.heap.size Y V → (V.cell? ⟨g8, 0, none⟩ = some (.slice (some ⟨ob, off, none⟩) 1 oc) ∧ V.cell? ⟨wr.heap.size, 2, none⟩ = some (.int .i64 ((Tk.nxt k j : Nat) : Int)) ∧ V.cell? ⟨wr.heap.size, 3, none⟩ = some (.int .i64 1)) ∧ Below Z.heap.size Z V ∧ Calls Tryz.prog 27 #[.agg #[.slice (some ⟨ob, off, none⟩) 1 oc], .int .i64 0, .int .i64 ((Tk.nxt k j : Nat) : Int), .int .i64 1] V fun e w' => e = .returned (.bool (Tk.onR k (Tk.dearC d) yes (Pl.ringAll k (Tk.dearC d) yes) (Tk.nxt k j) 0)) ∧ Below V.heap.size V w') := fun V hV => by
          have hZV := hZY.trans (hV.mono hZY.size)
          obtain ⟨_, _, k2, k3, _⟩ := lk_cells (keep hYx hV)
          exact ⟨⟨(HG.out.keep V hZV).1.1, k2, k3⟩, hZV, HG.out.opens V hZV (Tk.nxt k j) 0 hnx (by omega) 1 rfl⟩
        have HCH : Hid ((Tk.onR k (Tk.dearC d) yes (Pl.ringAll k (Tk.dearC d) yes) j 1 && Tk.onR k (Tk.dearC d) yes (Pl.ringAll k (Tk.dearC d) yes) (Tk.nxt k j) 0) = decide (j ≠ d)) := cheap_at HK.out.1 HK.out.2 hlt
        have wj : IntKind.i64.wrap ((j : Int) + 1) = ((j + 1 : Nat) : Int) := by rw [IntKind.wrap_i64]; omega
        clear r0 q0 q1 q2 q3 q4 q5 hYB hYx hZY hnx hB HG
        generalize Tk.onR k (Tk.dearC d) yes (Pl.ringAll k (Tk.dearC d) yes) j 1 = o1 at *
        generalize Tk.onR k (Tk.dearC d) yes (Pl.ringAll k (Tk.dearC d) yes) (Tk.nxt k j) 0 = o2 at *
        go_wp2_with fail
        rw [← HY.out]
        refine HO1.out.mono ?_
        rintro e w4 ⟨rfl, hb4⟩
        obtain ⟨⟨d1, d2, d3⟩, hZ4, hO⟩ := HO2.out w4 hb4
        have HZ4 : Hid (Below Z.heap.size Z w4) := hZ4
        have HO : Hid (Calls Tryz.prog 27 #[.agg #[.slice (some ⟨ob, off, none⟩) 1 oc], .int .i64 0, .int .i64 ((Tk.nxt k j : Nat) : Int), .int .i64 1] w4 fun e w' => e = .returned (.bool o2) ∧ Below w4.heap.size w4 w') := hO
        clear HO1 HO2 hZ4 hO hb4
        cases o1 with
        | false =>
          have e : j = d := by
            have := HCH.out
            rw [Bool.false_and] at this
            exact Decidable.not_not.1 (of_decide_eq_false this.symm)
          subst e
          go_wp2_with fail
          exact ⟨⟨j + 1, by omega, by go_num, HZ4⟩, by simp [intOf]; omega⟩
        | true =>
          go_wp2_with fail
          refine HO.out.mono ?_
          rintro e w5 ⟨rfl, hb5⟩
          have HZ5 : Hid (Below Z.heap.size Z w5) := HZ4.out.trans (hb5.mono HZ4.out.size)
          cases o2 with
          | false =>
            have e : j = d := by
              have := HCH.out
              rw [Bool.and_false] at this
              exact Decidable.not_not.1 (of_decide_eq_false this.symm)
            subst e
            go_wp2_with fail
            exact ⟨⟨j + 1, by omega, by go_num, HZ5⟩, by simp [intOf]; omega⟩
          | true =>
            have e : j ≠ d := by
              have := HCH.out
              exact of_decide_eq_true this.symm
            have e2 : ¬ (j : Int) = (d : Int) := by omega
            go_wp2_with fail
            exact ⟨⟨j + 1, by omega, by go_num, HZ5⟩, by simp [intOf]; omega⟩
      · obtain rfl : j = k := by omega
        obtain ⟨_, _, _, r6⟩ := HG.out.keep wr hB.out
        have HBW : Hid (Below w.heap.size w wr) := r6
        have hi : ¬ (j : Int) < (j : Int) := by omega
        clear HG r6
        go_wp2_with fail
        go_ret
        exact ⟨rfl, HBW.out⟩
end Go.Proofs.YtflghpnpjmodaaaGreatDoor

namespace Go.Proofs.YtflghpnpjmodaaaGreatDoor.topCheap
open Go.ChangeShapes Go.WideShapes Go.ChangeAt Go.RowKit

set_option maxRecDepth 100000 in
theorem contract (H : Type) (enc : TypeId × Value → H) (W : World) (base : Nat) (args : Array Value) (ds gs : List (DataW H)) (before : List MemPlace)
    (hval : ∀ (j : Nat) t v, Tryz.f8.params[j]? = some t → args[j]? = some v → Value.okWide Tryz.prog W .any base t v)
    (hW : DataW.Whole enc Tryz.prog Tryz.f8.params.toList Rows.topCheapSpec.vars false W args.toList ds gs before)
    (hsz : (DataW.weightsEach Tryz.prog (Tryz.f8.params.toList ++ (OpenSpec.ofChange Rows.topCheapSpec).bare.plain.varTypes Tryz.prog) (ds ++ gs)).all (· ≤ reachBytes) = true)
    (hL : laidMetH Tryz.prog Rows.topCheapRow.laid W) :
    Calls Tryz.prog 8 args W fun e W' => ∃ v, e = .returned v ∧ Rows.topCheapSpec.post enc Tryz.prog Tryz.f8 false true false false W args v W' := by
  have hW' := hW
  obtain ⟨p, q, hA0, hV, rfl, hfz, hnd⟩ := hW
  have hA : DataW.TrodAll enc Tryz.prog W 0 (fun _ => true) true Tryz.f8.params.toList args.toList ds p := hA0
  rw [Tryz.params8] at hA hval hsz
  obtain ⟨v0, vs0, d0, ds0, p0, q0, hargs, rfl, rfl, h0, r0⟩ := trodAll_cons hA
  obtain ⟨v1, vs1, d1, ds1, p1, q1, rfl, rfl, rfl, h1, r1⟩ := trodAll_cons r0
  obtain ⟨rfl, rfl, rfl⟩ := trodAll_nil r1
  obtain rfl : args = #[v0, v1] := by cases args; simp_all
  obtain ⟨rfl, rfl⟩ := trodVars_none hV
  have lt0 : ∀ x ∈ p0, x.block < W.heap.size := by obtain ⟨m, hm⟩ := h0; exact DataW.trod_lt m _ _ _ hm
  obtain ⟨z0, rfl⟩ := okWide_int Tryz.underlying3 (hval 0 3 v0 rfl rfl)
  have lt1 : ∀ x ∈ p1, x.block < W.heap.size := by obtain ⟨m, hm⟩ := h1; exact DataW.trod_lt m _ _ _ hm
  obtain ⟨z1, rfl⟩ := okWide_int Tryz.underlying3 (hval 1 3 v1 rfl rfl)
  have hT := tabs_of hL
  have hG : 2 ≤ W.heap.size := hT.lt
  clear hA0 hsz
  refine (utopcheap_any z0 z1 W hT hG).mono fun e W' ⟨he, bel⟩ => ?_
  subst he
  exact ⟨_, rfl, _, _, _, [], _, [], hW', trodAll_mk1 (shut_bool Tryz.underlying4 _), (trodAll_cons_mk (Below.trod laidOut (by kernel_rfl) (of_decide_eq_true (by kernel_rfl)) h0 bel lt0) (trodAll_cons_mk (Below.trod laidOut (by kernel_rfl) (of_decide_eq_true (by kernel_rfl)) h1 bel lt1) trodAll_mk0)), rfl, bel.frame _, fun h => by cases h⟩

theorem laid_met (os : Os) : laidMet Tryz.prog Rows.topCheapRow.laid ((laidW (World.holding Tryz.prog os ⟨#[], #[], []⟩)).forCall (fun _ _ => 0) ⟨#[], #[.int .i64 0, .int .i64 0], []⟩).memory :=
  laidMet_of_run' 8 (by kernel_rfl) (by kernel_rfl)
theorem reads (os : Os) {H : Type} (enc : TypeId × Value → H) : ∃ places, DataW.whole enc Tryz.prog ((laidW (World.holding Tryz.prog os ⟨#[], #[], []⟩)).forCall (fun _ _ => 0) ⟨#[], #[.int .i64 0, .int .i64 0], []⟩).memory Tryz.f8.params.toList Rows.topCheapSpec.vars false #[Value.int .i64 0, .int .i64 0].toList 8 = some ([.lit (.int .i64 0), .lit (.int .i64 0)], [], places) :=
  ⟨[], by kernel_rfl⟩

set_option maxRecDepth 100000 in
theorem lifted (os : Os) (started : os.Started) (H : Type) (enc : TypeId × Value → H) (F : Stop.Interp) :
    ReturnsInHanded {} Tryz.checked os 8 .any ((OpenSpec.ofChange Rows.topCheapSpec).preRow enc Tryz.prog Tryz.f8 Rows.topCheapRow.domain false Rows.topCheapRow.laid) (((OpenSpec.ofChange Rows.topCheapSpec).at F).post enc Tryz.prog Tryz.f8 false true false false) := by
  obtain ⟨places, hx⟩ := reads os enc
  refine returnsInHanded_of_row (C := Tryz.checked) (s := OpenSpec.ofChange Rows.topCheapSpec) own started (by kernel_rfl) Tryz.func8
    (witness_row_at (enc := enc) (C := Tryz.checked) false (laidW (World.holding Tryz.prog os ⟨#[], #[], []⟩)) #[.int .i64 0, .int .i64 0] rfl (by kernel_rfl) (by kernel_rfl) (by kernel_rfl)
      (OpenSpec.preRow_of_cond 8 hx (by kernel_rfl) (fun k hk => by cases hk) (by kernel_rfl) (laid_met os))) ?_
  intro W base args ds gs before hval hW _ _ hsz hL _ _
  exact contract H enc W base args ds gs before hval hW hsz hL

theorem said : Rows.TopCheapSaid :=
  OpenClaim.holds_of_cond 8 Tryz.f8 rfl rfl rfl rfl rfl rfl rfl ⟨rfl, rfl, rfl, rfl, rfl⟩ rfl rfl rfl rfl rfl (by kernel_rfl) Tryz.func8 (by kernel_rfl)
    (of_decide_eq_true (by kernel_rfl)) (by unfold Func.isWrapper; first | (rw [if_pos (by decide +kernel)]; kernel_rfl) | (rw [if_neg (by decide +kernel)]; exact ⟨rfl, rfl⟩))
    (fun os started H enc _ F => by rw [OpenClaim.pre_eq_preRow]; exact lifted os started H enc F)

theorem plain (f : FuncId) (fn : Func) (hf : Tryz.pinned.checked.prog.funcNamed "hedgerow/hedgetop.TopCheap" = some f) (hfn : Tryz.pinned.checked.prog.funcs[f]? = some fn) :
    false = Tryz.pinned.checked.prog.looks [] ∧ ∀ (j : Nat) t, fn.params[j]? = some t → Tryz.pinned.checked.prog.wantsStandIn t = false := by
  obtain rfl : f = 8 := Option.some.inj ((show Tryz.prog.funcNamed "hedgerow/hedgetop.TopCheap" = some 8 by kernel_rfl).symm.trans hf) |>.symm
  obtain rfl : fn = Tryz.f8 := (Option.some.inj (Tryz.func8.symm.trans hfn)).symm
  refine ⟨by kernel_rfl, fun j t ht => ?_⟩
  rw [Tryz.params8] at ht
  have h1 : Tryz.prog.wantsStandIn 3 = false := by kernel_rfl
  have ht2 : t = 3 := by simpa using Array.mem_of_getElem? ht
  subst ht2
  exact h1

/-- ████ THE CARD ████ -/
theorem card : Rows.TopCheapCardSaid :=
  Claim7.holds_tied_plain_at .later [] _ _ _ _ said (fun _ h => by cases h) (by kernel_rfl) (fun _ h => by cases h) topCheap_row_tie rfl ⟨rfl, rfl⟩ (by kernel_rfl) rfl plain (by kernel_rfl)
end Go.Proofs.YtflghpnpjmodaaaGreatDoor.topCheap
namespace Go.Proofs.YtflghpnpjmodaaaGreatDoor
/-- THE CHEAPER WAY: the statement, as it was given. -/
theorem topCheap_card : Rows.TopCheapCardSaid := topCheap.card
#print axioms topCheap_card
end Go.Proofs.YtflghpnpjmodaaaGreatDoor
