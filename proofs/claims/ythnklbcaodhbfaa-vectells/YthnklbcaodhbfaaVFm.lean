/- What the rows of vectors ask besides: how many of them a slice has that came in, by the form's reach. -/
import Derived.Test.YthnklbcaodhbfaaVFs
import Derived.SizedLaws
namespace Go.Proofs.Ythnklbcaodhbfaa
open Go.ChangeShapes Go.WideShapes Go.ChangeAt Go.RowKit
theorem bytes_vecs : Try.prog.bytesOf 27 = 32 := by kernel_rfl
theorem vecs_many {H : Type} {enc : TypeId × Value → H} {W : World} {ao : Option Addr} {n cap : Nat} {D : DataW H} {ps : List MemPlace}
    (h : DataW.Trod enc Try.prog W 0 (fun _ => true) true 22 (.slice ao n cap) D ps) (hz : (D.weights Try.prog 22).all (· ≤ reachBytes) = true) : n * 32 ≤ reachBytes := by
  obtain ⟨fuel, hf⟩ := h
  rcases Deep.open_slice Try.underlying22 hf with ⟨hcs, _⟩ | ⟨a, len, cap', m, k, D', Pl, hcs, _, hl, hm, hmm, hx, _⟩
  · simp [Value.cells] at hcs
    omega
  · simp [Value.cells] at hcs
    obtain ⟨_, rfl, rfl⟩ := hcs
    rw [if_pos rfl] at hmm
    simp only [Prod.mk.injEq] at hx
    rw [hx.1] at hz
    unfold DataW.weights at hz
    rw [Try.underlying22] at hz
    simp only [List.all_cons, Bool.and_eq_true, decide_eq_true_eq, List.length_map, List.length_range, bytes_vecs] at hz
    have := hz.1
    omega
theorem bytes_offers : Try.prog.bytesOf 42 = 56 := by kernel_rfl
theorem offers_many {H : Type} {enc : TypeId × Value → H} {W : World} {ao : Option Addr} {n cap : Nat} {D : DataW H} {ps : List MemPlace}
    (h : DataW.Trod enc Try.prog W 0 (fun _ => true) true 24 (.slice ao n cap) D ps) (hz : (D.weights Try.prog 24).all (· ≤ reachBytes) = true) : n * 56 ≤ reachBytes := by
  obtain ⟨fuel, hf⟩ := h
  rcases Deep.open_slice Try.underlying24 hf with ⟨hcs, _⟩ | ⟨a, len, cap', m, k, D', Pl, hcs, _, hl, hm, hmm, hx, _⟩
  · simp [Value.cells] at hcs
    omega
  · simp [Value.cells] at hcs
    obtain ⟨_, rfl, rfl⟩ := hcs
    rw [if_pos rfl] at hmm
    simp only [Prod.mk.injEq] at hx
    rw [hx.1] at hz
    unfold DataW.weights at hz
    rw [Try.underlying24] at hz
    simp only [List.all_cons, Bool.and_eq_true, decide_eq_true_eq, List.length_map, List.length_range, bytes_offers] at hz
    have := hz.1
    omega
end Go.Proofs.Ythnklbcaodhbfaa
