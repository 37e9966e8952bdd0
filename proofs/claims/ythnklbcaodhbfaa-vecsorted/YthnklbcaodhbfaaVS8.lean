/- walks: package vec's Sorted -/
import Derived.Test.YthnklbcaodhbfaaVS7
import Derived.Laws.CopyRow
namespace Go.Proofs.Ythnklbcaodhbfaa
open Go.RowKit
open Vc (V Of)

theorem infoVs : (Try.prog.info? 27).map (fun i => (i.zero, i.size, i.bytes)) = some (some (.agg (vA Vc.v0)), 4, 32) := by kernel_rfl
theorem rowV_cellsL (n : Nat) (f : Nat → V) : rowV n f = (cellsL n 4 (fun i => vC (f i))).toArray := rfl
theorem made_vecs (n : Nat) : madeCells (Value.agg (vA Vc.v0)).cells (n * 4) = rowV n (fun _ => Vc.v0) := by
  apply Array.ext_getElem?
  intro i
  by_cases h : i < n * 4
  · have ei : i = (i / 4) * 4 + i % 4 := by omega
    have h4 : i % 4 < 4 := Nat.mod_lt _ (by omega)
    have e := rowV_get n (fun _ => Vc.v0) (i / 4) (i % 4) (by omega) h4
    rw [← ei] at e
    rw [e]
    simp [madeCells, Value.cells, vA, h]
    rcases (show i % 4 = 0 ∨ i % 4 = 1 ∨ i % 4 = 2 ∨ i % 4 = 3 by omega) with e | e | e | e <;> rw [e] <;> rfl
  · rw [Array.getElem?_eq_none (by simp [madeCells]; omega), Array.getElem?_eq_none (by rw [rowV_size]; omega)]
theorem make_vecs (w : World) (n : Nat) (hn : n ≤ 4398046511104) : (Instr.makeSlice 22 (.int .i64 (n : Int)) (.int .i64 (n : Int))).run Try.prog w = .ok (.slice (some ⟨w.heap.size, 0, none⟩) n n) (w.alloc (.cells (rowV n (fun _ => Vc.v0)) 27)) := by
  obtain ⟨i0, hi, hz0, hz1, hz2⟩ := info_parts infoVs
  have h := run_make (P := Try.prog) w 22 27 i0 (.agg (vA Vc.v0)) Try.underlying22 hi hz0 .i64 .i64 (n : Int) (n : Int) (by omega) (Int.le_refl _) (by rw [hz2]; omega) (by omega)
  rw [hz1, Int.toNat_natCast, made_vecs] at h
  exact h
/-- 'copy' of n vectors into a row of n. -/
theorem copy_vecs (w : World) (g n c1 cap : Nat) (ao : Option Addr) (f vs : Nat → V) (ty : TypeId) (hg : w.heap[g]? = some (.cells (rowV n f) 27 (0, 0))) (hr : VRow w ao n cap vs) :
    ∃ w', (Builtin.copy_ #[22, 22] ty #[.slice (some ⟨g, 0, none⟩) n c1, .slice ao n cap]).run Try.prog w = .ok (goInt n) w' ∧ w'.heap[g]? = some (.cells (rowV n vs) 27 (0, 0)) ∧ Below g w w' := by
  obtain ⟨i0, hi, _, hz1, _⟩ := info_parts infoVs
  have hu := Try.underlying22
  have hst := run_storeCells_at Try.prog g 0 27 (cellsL n 4 (fun i => vC (vs i))) 0 (rowV n f) w hg (by rw [rowV_size, cellsL_length]; omega) (cellsL_one _ _ _ (fun i j => vC_one _ _))
  refine ⟨w.setRow g (rowV n vs), ?_, ?_, ?_⟩
  · cases ao with
    | none =>
      have h0 : n = 0 := by
        rcases Nat.eq_zero_or_pos n with e | e
        · exact e
        · obtain ⟨b, off, e1, _⟩ := hr.2 e; cases e1
      subst h0
      have e1 : w.setRow g (rowV 0 vs) = w := by
        have := setRow_self w g (rowV 0 f) 27 (0, 0) hg
        rw [show rowV 0 vs = rowV 0 f from rowV_congr 0 _ _ (fun i h => by omega)]
        exact this
      rw [e1]
      simp [Builtin.copy_, run_underlying hu, Builtin.lenOf, Builtin.firstCells, sizeOf, typeInfo, hi, storeCells]
    | some ad =>
      have hl := run_loadCells_list (P := Try.prog) w ad (cellsL n 4 (fun i => vC (vs i))) (src_cells (by omega) hr rfl)
      rw [cellsL_length] at hl
      have e2 : (rowV n f).toList.take (0 + 0) ++ cellsL n 4 (fun i => vC (vs i)) ++ (rowV n f).toList.drop (0 + 0 + (cellsL n 4 (fun i => vC (vs i))).length) = cellsL n 4 (fun i => vC (vs i)) := by
        rw [List.drop_eq_nil_of_le (by rw [cellsL_length, Array.length_toList, rowV_size]; omega)]
        simp
      rw [e2] at hst
      simp [Builtin.copy_, run_underlying hu, Builtin.lenOf, Builtin.firstCells, sizeOf, typeInfo, hi, hz1, hl, hst, rowV_cellsL]
  · exact setRow_heap w g _ _ _ _ hg
  · exact below_setRow (Below.refl _ _) (Nat.le_refl _) _
theorem wpList_copy_by {w w' : World} {ops : Array Oper} {rest : List Oper} {o : Oper} {a : Act} {Q : Exit → Act → World → Prop} (hgd : o.guard = none) (d s : Operand) (t : TypeId)
    (ho : o.op = .call { callee := .builtin .copy, args := #[d, s], argTypes := #[t, t] }) (v vx v' : Value) (hd : a.eval d = v) (hs : a.eval s = vx) (hr : (Builtin.copy_ #[t, t] o.type #[v, vx]).run Try.prog w = .ok v' w')
    (h : wpList Try.prog ops Q rest (a.put o.dst v') w') : wpList Try.prog ops Q (o :: rest) a w := by
  refine wpList_plain hgd fun K hK => ?_
  unfold Oper.wp execOp
  simp only [ho, resolve, invoke, builtin, Sem.run_bind, Sem.run_pure, Result.andThen_ok, List.map_toArray, List.map_cons, List.map_nil, hd, hs, hr]
  exact hK _ _ h
set_option maxHeartbeats 1000000 in
theorem ssort_any (g n cap : Nat) (f : Nat → V) (w : World) (hA : w.heap[g]? = some (.cells (rowV n f) 27 (0, 0))) (hn : n ≤ 4398046511104) :
    Calls Try.prog 28 #[.slice (some ⟨g, 0, none⟩) n cap, .func (.func 9) #[] #[]] w fun x w' => x = .returned (.tuple #[]) ∧ ∃ G, At g n f w G w' ∧ Vc.SIn 0 n G := by
  have HC : Hid (Calls Try.prog 32 #[.slice (some ⟨g, 0, none⟩) n cap, .int .i64 n, .func (.func 9) #[] #[]] w fun x w' => x = .returned (.tuple #[]) ∧ ∃ G, At g n f w G w' ∧ Vc.SIn 0 n G) := sstable_any g n cap f w hA hn
  clear hA
  go_enter Try.func28, Try.ntmps28
  go_wp2_with fail
  refine HC.out.mono ?_
  rintro x w1 ⟨rfl, hG⟩
  have HF : Hid (∃ G, At g n f w G w1 ∧ Vc.SIn 0 n G) := hG
  clear hG
  go_wp2_with fail
  exact bodyPost_end (results_none Try.results28 _ _ _) rfl ⟨rfl, HF.out⟩
set_option maxHeartbeats 1000000 in
theorem vsorted_any (ao : Option Addr) (n cap : Nat) (vs : Nat → V) (w : World) (hn : n ≤ 4398046511104) (hr : VRow w ao n cap vs) :
    Calls Try.prog 16 #[.slice ao n cap] w fun e w' => ∃ ss, e = .returned (.slice (some ⟨w.heap.size, 0, none⟩) n n) ∧ w'.heap[w.heap.size]? = some (.cells (rowV n ss) 27 (0, 0)) ∧ Vc.SortedF n ss ∧ (Vc.listOf n ss).Perm (Vc.listOf n vs) ∧ Below w.heap.size w w' := by
  have hmk : ∀ W : World, (Instr.makeSlice 22 (.int .i64 (n : Int)) (.int .i64 (n : Int))).run Try.prog W = .ok (.slice (some ⟨W.heap.size, 0, none⟩) n n) (W.alloc (.cells (rowV n (fun _ => Vc.v0)) 27)) := fun W => make_vecs W n hn
  obtain ⟨W0, HW0⟩ : ∃ W0, Hid (W0 = w.alloc (.cells (rowV n (fun _ => Vc.v0)) 27)) := ⟨_, rfl⟩
  have HB0 : Hid (Below w.heap.size w W0) := by rw [HW0.out]; exact below_alloc1 _ _
  have HR0 : Hid (W0.heap[w.heap.size]? = some (.cells (rowV n (fun _ => Vc.v0)) 27 (0, 0))) := by rw [HW0.out]; exact heap_alloc_last _ _
  obtain ⟨w1, hc, h1, h2⟩ := copy_vecs W0 w.heap.size n n cap ao (fun _ => Vc.v0) vs 3 HR0.out (CRow.below hr (by rw [HW0.out]; exact below_alloc1 _ _))
  have HCP : Hid ((Builtin.copy_ #[22, 22] 3 #[.slice (some ⟨w.heap.size, 0, none⟩) n n, .slice ao n cap]).run Try.prog W0 = .ok (goInt n) w1) := hc
  have HST : Hid (Calls Try.prog 28 #[.slice (some ⟨w.heap.size, 0, none⟩) n n, .func (.func 9) #[] #[]] w1 fun x w' => x = .returned (.tuple #[]) ∧ ∃ G, At w.heap.size n vs w1 G w' ∧ Vc.SIn 0 n G) := ssort_any w.heap.size n n vs w1 h1 hn
  have HB1 : Hid (Below w.heap.size w w1) := HB0.out.trans (h2.mono (Nat.le_refl _))
  clear hr hc h1 h2 HR0 HB0
  go_enter Try.func16, Try.ntmps16
  go_upto_region 2 with fail
  rw [← HW0.out]
  go_wp2_with (refine wpList_copy_by rfl (.tmp 7) (.tmp 8) 22 rfl _ _ _ rfl rfl HCP.out ?_)
  refine HST.out.mono ?_
  rintro x w2 ⟨rfl, G, hG, hS⟩
  have HF : Hid (w2.heap[w.heap.size]? = some (.cells (rowV n G) 27 (0, 0)) ∧ Vc.SortedF n G ∧ (Vc.listOf n G).Perm (Vc.listOf n vs) ∧ Below w.heap.size w w2) := ⟨hG.1, fun i j q1 q2 => hS i j (by omega) q1 q2, hG.2.1.perm n (Nat.le_refl _), HB1.out.trans (hG.2.2.mono (Nat.le_refl _))⟩
  clear hG hS
  go_wp2_with fail
  go_ret
  exact ⟨G, rfl, HF.out⟩
end Go.Proofs.Ythnklbcaodhbfaa
