/- 'taken[k]++' on a map whose keys are ports: what each of its operations does; the taker of ports -/
import Derived.Test.YtaakjhdbelefiaeDoorPM
namespace Go.Proofs.YtaakjhdbelefiaeDoor
open Go.RowKit Go.Maps Go.WideElems Go.ChangeShapes Go.WideShapes Go.MapKept Go.ChangeMaps

abbrev OwnP (w : World) (b n : Nat) (D : DataW Unit) : Prop := w.ownsMap Tryd.prog 89 (plainElem Tryd.prog 3) b n D
theorem ownP_same {w w' : World} {b n : Nat} {D : DataW Unit} (h : OwnP w b n D) (e : w'.heap[b]? = w.heap[b]?) : OwnP w' b n D := by
  obtain ⟨es, clock, hb, r⟩ := h
  exact ⟨es, clock, e.trans hb, r⟩
theorem wfP0 : (Lit.int .i64 0).wf = true := by decide
set_option maxRecDepth 100000 in
theorem entryP_own {w : World} {b n : Nat} {D : DataW Unit} {key : Value} {kl : Lit} (h : OwnP w b n D) (hkey : keyOf Tryd.prog 89 key = some kl) (hn : n < maxLen) (hD : IsMap D) :
    ∃ (c : Int) (v0 : Value) (st : Nat) (w1 : World), (Instr.lookup 105 (.map (some b)) key false).run Tryd.prog w = .ok (.int .i64 c) w ∧ D.atKey kl (.lit (.int .i64 0)) = .lit (.int .i64 c) ∧
      (Instr.mapEntry 105 (.map (some b)) key).run Tryd.prog w = .ok (.tuple #[v0, goInt st]) w1 ∧ (Instr.lookup 105 (.map (some b)) key false).run Tryd.prog w1 = .ok (.int .i64 c) w1 ∧
      ∀ x, (Lit.int .i64 x).wf = true → ∃ w2, (Instr.entryStore 105 (.map (some b)) (goInt st) (.int .i64 x)).run Tryd.prog w1 = .ok () w2 ∧ OwnP w2 b (n + 1) (D.put kl (.lit (.int .i64 x))) ∧ w.grownBy w2 (some b) := by
  have ht := Tryd.underlying105
  have he := Tryd.underlying3
  obtain ⟨c, hl, hat, _⟩ := h.lookup_int pkeyed ht he (mzero w) hkey
  have h' := h
  obtain ⟨es, clock, hb, F, hs, eD⟩ := h'
  obtain ⟨v0, st, es1, clock1, hrun, _, hst⟩ := entry_then_store pklaw ht mzero hb F hkey
  refine ⟨c, v0, st, _, hl, hat, hrun, ?_, fun x hx => ?_⟩
  · have hb1 : (setBlock w b (.map es1 clock1)).heap[b]? = some (.map es1 clock1) := heap_setBlock_same hb _
    rcases pklaw.find w hkey es.toList F.keys with ⟨q1, q2⟩ | ⟨j, e0, q1, q2, q3⟩
    · have hr2 : (Instr.mapEntry 105 (.map (some b)) key).run Tryd.prog w = .ok (.tuple #[.int .i64 0, goInt clock]) (setBlock w b (.map (es.push ⟨key, .int .i64 0, clock⟩) (clock + 1))) := by
        simp [Instr.mapEntry, run_underlying ht, MapKept.run_getObj_map hb, pklaw.check w false hkey, q1, MapKept.run_setObj_map _ hb, Result.andThen, setBlock]
      have hu : (Instr.mapUpdate 105 (.map (some b)) key (.int .i64 0)).run Tryd.prog w = .ok () (setBlock w b (.map (es.push ⟨key, .int .i64 0, clock⟩) (clock + 1))) := by
        simp [Instr.mapUpdate, run_underlying ht, MapKept.run_getObj_map hb, pklaw.check w false hkey, q1, MapKept.run_setObj_map _ hb, Result.andThen, setBlock]
      obtain ⟨w', hu', hown, _⟩ := h.update pkeyed ht hn hkey (plainElem_int he wfP0)
      rw [hu] at hu'
      have ew : setBlock w b (.map (es.push ⟨key, .int .i64 0, clock⟩) (clock + 1)) = w' := by injection hu'
      rw [hr2] at hrun
      have e1 : setBlock w b (.map (es.push ⟨key, .int .i64 0, clock⟩) (clock + 1)) = setBlock w b (.map es1 clock1) := by injection hrun
      rw [← e1, ew]
      obtain ⟨c', hl', hat', _⟩ := hown.lookup_int pkeyed ht he (mzero w') hkey
      rw [hl']
      rw [atKey_put_same hD (pkeyed.key hkey)] at hat'
      have h0 : D.atKey kl (.lit (.int .i64 0)) = .lit (.int .i64 0) := by
        rcases fit_look false pkeyed ht (mzero w) hb F hkey with ⟨_, _, k3⟩ | ⟨e0, y, k1, k2, _⟩
        · rw [eD]; exact k3 _
        · exact absurd k2 (q2 e0 k1)
      rw [h0] at hat
      injection hat with hat
      injection hat with _ hat
      injection hat' with hat'
      injection hat' with _ hat'
      rw [← hat, ← hat']
    · have hj : es[j]? = some e0 := by simpa using q2
      have hsame : es.modify j (fun e => { e with key := key }) = es := by
        apply Array.ext'
        rw [Array.toList_modify, modify_eq_set _ _ _ _ q2]
        have : ({ e0 with key := key } : MapEntry) = e0 := by rw [← q3]
        rw [this]
        exact set_self _ _ _ q2
      have hr2 : (Instr.mapEntry 105 (.map (some b)) key).run Tryd.prog w = .ok (.tuple #[e0.val, goInt e0.born]) (setBlock w b (.map es clock)) := by
        simp [Instr.mapEntry, run_underlying ht, MapKept.run_getObj_map hb, pklaw.check w false hkey, q1, hj, q3, pklaw.stays w hkey, hsame, MapKept.run_setObj_map _ hb, Result.andThen, setBlock]
      rw [hr2] at hrun
      have e1 : setBlock w b (.map es clock) = setBlock w b (.map es1 clock1) := by injection hrun
      rw [← e1]
      have hown := ownP_same (w' := setBlock w b (.map es clock)) h ((heap_setBlock_same hb _).trans hb.symm)
      obtain ⟨c', hl', hat', _⟩ := hown.lookup_int pkeyed ht he (mzero _) hkey
      rw [hl']
      rw [hat] at hat'
      injection hat' with hat'
      injection hat' with _ hat'
      rw [hat']
  · have hb1 : (setBlock w b (.map es1 clock1)).heap[b]? = some (.map es1 clock1) := heap_setBlock_same hb _
    obtain ⟨es', clock', k1, k2⟩ := hst _ (.int .i64 x) hb1
    obtain ⟨w', hu', hown, hg⟩ := h.update pkeyed ht hn hkey (plainElem_int he hx)
    rw [k2] at hu'
    have ew : setBlock w b (.map es' clock') = w' := by injection hu'
    refine ⟨_, k1, ?_, ?_⟩
    · refine ownP_same hown ?_
      rw [← ew, heap_setBlock_same hb1, heap_setBlock_same hb]
    · exact ⟨rfl, rfl, rfl, by simp [setBlock], fun i hi hne => by
        rw [heap_setBlock_other hb1 _ (fun e => hne (by rw [e])), heap_setBlock_other hb _ (fun e => hne (by rw [e]))]⟩
/-- A map that has counted the first m of f. -/
def PCnt (w : World) (b : Nat) (f : Nat → Int × Int) (m : Nat) : Prop := ∃ D : DataW Unit, OwnP w b m D ∧ IsMap D ∧ ∀ a : Int × Int, (Lit.int .i64 a.1).wf = true → (Lit.int .i64 a.2).wf = true → D.atKey (pkl a) (.lit (.int .i64 0)) = .lit (.int .i64 (cntI f a m))
theorem PCnt.same {w w' : World} {b m : Nat} {f : Nat → Int × Int} (h : PCnt w b f m) (e : w'.heap[b]? = w.heap[b]?) : PCnt w' b f m := by
  obtain ⟨D, h1, h2⟩ := h
  exact ⟨D, ownP_same h1 e, h2⟩
theorem PCnt.lt {w : World} {b m : Nat} {f : Nat → Int × Int} (h : PCnt w b f m) : b < w.heap.size := by
  obtain ⟨D, h1, _⟩ := h
  exact h1.lt
theorem pkl_inj {x y : Int × Int} (x1 : (Lit.int .i64 x.1).wf = true) (x2 : (Lit.int .i64 x.2).wf = true) (y1 : (Lit.int .i64 y.1).wf = true) (y2 : (Lit.int .i64 y.2).wf = true) (e : pkl x = pkl y) : x = y := by
  have h1 := pkey_of x x1 x2
  rw [e] at h1
  have := pkeyed.inj h1 (pkey_of y y1 y2)
  obtain ⟨a, b⟩ := x
  obtain ⟨a', b'⟩ := y
  simp only [pV, Value.agg.injEq, Array.mk.injEq, List.cons.injEq, Value.int.injEq, true_and, and_true] at this
  obtain ⟨e1, e2⟩ := this
  subst e1; subst e2
  rfl
theorem two_cells2 {w : World} {g : Nat} {a0 a1 : Value} {ty : TypeId} (h : w.heap[g]? = some (.cells #[a0, a1] ty (0, 0))) : w.cell? ⟨g, 0, none⟩ = some a0 ∧ w.cell? ⟨g, 1, none⟩ = some a1 :=
  ⟨cell_of_row w g 0 _ _ _ h, cell_of_row w g 1 _ _ _ h⟩
theorem grown_block {w w' : World} {b g : Nat} {o : Obj} (h : w.heap[g]? = some o) (hg : w.grownBy w' (some b)) (hne : g ≠ b) : w'.heap[g]? = some o :=
  (hg.block g (Array.getElem?_eq_some_iff.1 h).1 (fun e => hne (by simpa using e))).trans h
set_option maxRecDepth 100000 in
set_option maxHeartbeats 2000000 in
theorem ptake_any (P b m : Nat) (f : Nat → Int × Int) (a : Int × Int) (w : World) (hP : w.cell? ⟨P, 0, none⟩ = some (.map (some b))) (hne : P ≠ b) (h : PCnt w b f m) (hm : m ≤ 1000) (hf : f m = a) (h1 : (Lit.int .i64 a.1).wf = true) (h2 : (Lit.int .i64 a.2).wf = true) :
    Calls Tryd.prog 48 #[.agg #[.int .i64 a.1, .int .i64 a.2], .pointer (some ⟨P, 0, none⟩)] w fun e w' => e = .returned (.int .i64 (if 0 < cntI f a m then 7 else 0)) ∧ PCnt w' b f (m + 1) ∧ w.grownBy w' (some b) := by
  have hlt := h.lt
  have hPlt := block_lt_of_cell hP
  simp only at hPlt
  obtain ⟨X, HX⟩ : ∃ X, Hid (X = w.alloc (.cells #[.int .i64 a.1, .int .i64 a.2] 89)) := ⟨_, rfl⟩
  have hXb : X.heap[w.heap.size]? = some (.cells #[.int .i64 a.1, .int .i64 a.2] 89 (0, 0)) := by rw [HX.out]; exact heap_alloc_last _ _
  have hXg : w.grownBy X.drew (some b) := by
    rw [HX.out]
    exact ⟨rfl, rfl, rfl, by simp [World.drew], fun i hi _ => (below_alloc1 w _).block i hi⟩
  have hX : PCnt X.drew b f m := h.same (by rw [HX.out]; exact (below_alloc1 w _).block b hlt)
  obtain ⟨D, ho, hD, hat⟩ := hX
  have hr := cntI_range f a m
  have hkey := pkey_of a h1 h2
  obtain ⟨c, v0, st, w1, e1, e2, e3, e4, e5⟩ := entryP_own ho hkey (by unfold maxLen; omega) hD
  rw [hat a h1 h2] at e2
  have e2 := lit_inj e2
  subst e2
  obtain ⟨w2, e6, ho2, hg⟩ := e5 (cntI f a m + 1) (mwf (by omega) (by omega))
  have hat1 : ∀ x : Int × Int, (Lit.int .i64 x.1).wf = true → (Lit.int .i64 x.2).wf = true → (D.put (pkl a) (.lit (.int .i64 (cntI f a m + 1)))).atKey (pkl x) (.lit (.int .i64 0)) = .lit (.int .i64 (cntI f x (m + 1))) := by
    intro x x1 x2
    simp only [cntI]
    by_cases e : a = x
    · subst e
      rw [atKey_put_same hD (pkeyed.key hkey), if_pos hf]
    · rw [atKey_put_other (fun q => e (pkl_inj h1 h2 x1 x2 q.symm)), hat x x1 x2, if_neg (by rw [hf]; exact e), Int.add_zero]
  obtain ⟨c', e7, e8, _⟩ := ho2.lookup_int pkeyed Tryd.underlying105 Tryd.underlying3 (mzero w2) hkey
  rw [hat1 a h1 h2] at e8
  have e8 := lit_inj e8
  simp only [cntI, if_pos hf] at e8
  subst e8
  have q0 : w2.cell? ⟨P, 0, none⟩ = some (.map (some b)) := grown_cell (grown_cell hP hXg hne) hg hne
  have r0 : X.cell? ⟨P, 0, none⟩ = some (.map (some b)) := (show X.drew.cell? ⟨P, 0, none⟩ = _ from grown_cell hP hXg hne)
  obtain ⟨q1, q2⟩ := two_cells2 (grown_block (w := X.drew) hXb hg (by omega))
  obtain ⟨r1, r2⟩ := two_cells2 hXb
  have HF : Hid (PCnt w2 b f (m + 1) ∧ w.grownBy w2 (some b)) := ⟨⟨_, ho2, hD.put _ _, hat1⟩, hXg.trans hg⟩
  unfold pV goInt at *
  clear hat1 ho2 hat ho hD hg hf hXg hXb e5 hkey h hP
  generalize cntI f a m = t at *
  obtain ⟨x, y⟩ := a
  simp only at *
  have wt : IntKind.i64.wrap (t + 1) = t + 1 := wraps_i64 _ (by omega) (by omega)
  by_cases h0 : 0 < t
  · rw [if_pos h0]
    have g1 : (1 : Int) < t + 1 := by omega
    go_enter Tryd.func48, Tryd.ntmps48
    go_wp2_with fail
    rw [← HX.out]
    go_region
    all_goals go_wp2_with fail
    all_goals go_ret
    all_goals exact ⟨rfl, HF.out⟩
  · rw [if_neg h0]
    have g1 : ¬ (1 : Int) < t + 1 := by omega
    go_enter Tryd.func48, Tryd.ntmps48
    go_wp2_with fail
    rw [← HX.out]
    go_region
    all_goals go_wp2_with fail
    all_goals go_ret
    all_goals exact ⟨rfl, HF.out⟩
theorem ptaker_any (f : Nat → Int × Int) (w : World) :
    Calls Tryd.prog 33 #[] w fun e w' => e = .returned (.func (.func 48) #[] #[.pointer (some ⟨w.heap.size + 1, 0, none⟩)]) ∧ w'.cell? ⟨w.heap.size + 1, 0, none⟩ = some (.map (some w.heap.size)) ∧ PCnt w' w.heap.size f 0 ∧ Below w.heap.size w w' := by
  have hmm := @run_makeMap Tryd.prog
  go_enter Tryd.func33, Tryd.ntmps33
  go_wp2_with fail
  go_ret
  exact ⟨rfl, cell_of_row _ _ 0 _ _ _ (heap_alloc2_new w (.map #[] 0) (.cells #[.map (some w.heap.size)] 105)), ⟨.map [], (World.ownsMap_made w _ _ _).alloc _, isMap_empty, fun _ _ _ => rfl⟩, below_alloc2 _ _ _⟩
end Go.Proofs.YtaakjhdbelefiaeDoor
