/- 'm[x]++' on a map of the call's own whose keys are vectors: what each of its operations does -/
import Derived.Test.YthnklbcaodhbfaaVM2
namespace Go.Proofs.Ythnklbcaodhbfaa
open Go.RowKit Go.Maps Go.WideElems Go.ChangeShapes Go.WideShapes Go.MapKept Go.ChangeMaps
open Vc (V Of)

theorem vzero (w : World) : (zeroValue 3).run Try.prog w = .ok (.int .i64 0) w := by kernel_rfl
abbrev OwnT (w : World) (b n : Nat) (D : DataW Unit) : Prop := w.ownsMap Try.prog 27 (plainElem Try.prog 3) b n D
theorem ownT_same {w w' : World} {b n : Nat} {D : DataW Unit} (h : OwnT w b n D) (e : w'.heap[b]? = w.heap[b]?) : OwnT w' b n D := by
  obtain ⟨es, clock, hb, r⟩ := h
  exact ⟨es, clock, e.trans hb, r⟩
theorem wf0 : (Lit.int .i64 0).wf = true := by decide
theorem entry_own {w : World} {b n : Nat} {D : DataW Unit} {key : Value} {kl : Lit} (h : OwnT w b n D) (hkey : keyOf Try.prog 27 key = some kl) (hn : n < maxLen) (hD : IsMap D) :
    ∃ (c : Int) (v0 : Value) (st : Nat) (w1 : World), (Instr.lookup 44 (.map (some b)) key false).run Try.prog w = .ok (.int .i64 c) w ∧ D.atKey kl (.lit (.int .i64 0)) = .lit (.int .i64 c) ∧
      (Instr.mapEntry 44 (.map (some b)) key).run Try.prog w = .ok (.tuple #[v0, goInt st]) w1 ∧ (Instr.lookup 44 (.map (some b)) key false).run Try.prog w1 = .ok (.int .i64 c) w1 ∧
      ∀ x, (Lit.int .i64 x).wf = true → ∃ w2, (Instr.entryStore 44 (.map (some b)) (goInt st) (.int .i64 x)).run Try.prog w1 = .ok () w2 ∧ OwnT w2 b (n + 1) (D.put kl (.lit (.int .i64 x))) ∧ w.grownBy w2 (some b) := by
  have ht := Try.underlying44
  have he := Try.underlying3
  obtain ⟨c, hl, hat, _⟩ := h.lookup_int vkeyed ht he (vzero w) hkey
  have h' := h
  obtain ⟨es, clock, hb, F, hs, eD⟩ := h'
  obtain ⟨v0, st, es1, clock1, hrun, _, hst⟩ := entry_then_store vklaw ht vzero hb F hkey
  refine ⟨c, v0, st, _, hl, hat, hrun, ?_, fun x hx => ?_⟩
  · have hb1 : (setBlock w b (.map es1 clock1)).heap[b]? = some (.map es1 clock1) := heap_setBlock_same hb _
    rcases vklaw.find w hkey es.toList F.keys with ⟨q1, q2⟩ | ⟨j, e0, q1, q2, q3⟩
    · have hr2 : (Instr.mapEntry 44 (.map (some b)) key).run Try.prog w = .ok (.tuple #[.int .i64 0, goInt clock]) (setBlock w b (.map (es.push ⟨key, .int .i64 0, clock⟩) (clock + 1))) := by
        simp [Instr.mapEntry, run_underlying ht, MapKept.run_getObj_map hb, vklaw.check w false hkey, q1, MapKept.run_setObj_map _ hb, Result.andThen, setBlock]
      have hu : (Instr.mapUpdate 44 (.map (some b)) key (.int .i64 0)).run Try.prog w = .ok () (setBlock w b (.map (es.push ⟨key, .int .i64 0, clock⟩) (clock + 1))) := by
        simp [Instr.mapUpdate, run_underlying ht, MapKept.run_getObj_map hb, vklaw.check w false hkey, q1, MapKept.run_setObj_map _ hb, Result.andThen, setBlock]
      obtain ⟨w', hu', hown, _⟩ := h.update vkeyed ht hn hkey (plainElem_int he wf0)
      rw [hu] at hu'
      have ew : setBlock w b (.map (es.push ⟨key, .int .i64 0, clock⟩) (clock + 1)) = w' := by injection hu'
      rw [hr2] at hrun
      have e1 : setBlock w b (.map (es.push ⟨key, .int .i64 0, clock⟩) (clock + 1)) = setBlock w b (.map es1 clock1) := by injection hrun
      rw [← e1, ew]
      obtain ⟨c', hl', hat', _⟩ := hown.lookup_int vkeyed ht he (vzero w') hkey
      rw [hl']
      rw [atKey_put_same hD (vkeyed.key hkey)] at hat'
      have h0 : D.atKey kl (.lit (.int .i64 0)) = .lit (.int .i64 0) := by
        rcases fit_look false vkeyed ht (vzero w) hb F hkey with ⟨_, _, k3⟩ | ⟨e0, y, k1, k2, _⟩
        · rw [eD]; exact k3 _
        · exact absurd k2 (q2 e0 k1)
      rw [h0] at hat
      injection hat with hat
      injection hat with _ hat
      injection hat' with hat'
      injection hat' with _ hat'
      rw [← hat, ← hat']
    · have hj : es[j]? = some e0 := by simpa using q2
      have hsame : es.modify j (fun e => { e with key := key }) = es := by
        apply Array.ext'
        rw [Array.toList_modify, modify_eq_set _ _ _ _ q2]
        have : ({ e0 with key := key } : MapEntry) = e0 := by rw [← q3]
        rw [this]
        exact set_self _ _ _ q2
      have hr2 : (Instr.mapEntry 44 (.map (some b)) key).run Try.prog w = .ok (.tuple #[e0.val, goInt e0.born]) (setBlock w b (.map es clock)) := by
        simp [Instr.mapEntry, run_underlying ht, MapKept.run_getObj_map hb, vklaw.check w false hkey, q1, hj, q3, vklaw.stays w hkey, hsame, MapKept.run_setObj_map _ hb, Result.andThen, setBlock]
      rw [hr2] at hrun
      have e1 : setBlock w b (.map es clock) = setBlock w b (.map es1 clock1) := by injection hrun
      rw [← e1]
      have hown := ownT_same (w' := setBlock w b (.map es clock)) h ((heap_setBlock_same hb _).trans hb.symm)
      obtain ⟨c', hl', hat', _⟩ := hown.lookup_int vkeyed ht he (vzero _) hkey
      rw [hl']
      rw [hat] at hat'
      injection hat' with hat'
      injection hat' with _ hat'
      rw [hat']
  · have hb1 : (setBlock w b (.map es1 clock1)).heap[b]? = some (.map es1 clock1) := heap_setBlock_same hb _
    obtain ⟨es', clock', k1, k2⟩ := hst _ (.int .i64 x) hb1
    obtain ⟨w', hu', hown, hg⟩ := h.update vkeyed ht hn hkey (plainElem_int he hx)
    rw [k2] at hu'
    have ew : setBlock w b (.map es' clock') = w' := by injection hu'
    refine ⟨_, k1, ?_, ?_⟩
    · refine ownT_same hown ?_
      rw [← ew, heap_setBlock_same hb1, heap_setBlock_same hb]
    · exact ⟨rfl, rfl, rfl, by simp [setBlock], fun i hi hne => by
        rw [heap_setBlock_other hb1 _ (fun e => hne (by rw [e])), heap_setBlock_other hb _ (fun e => hne (by rw [e]))]⟩
end Go.Proofs.Ythnklbcaodhbfaa
