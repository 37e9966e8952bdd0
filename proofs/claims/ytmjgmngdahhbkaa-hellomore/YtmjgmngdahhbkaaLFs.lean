/- What HelloMore's row asks besides: how many tales a hello has that came in. -/
import Derived.Test.YtmjgmngdahhbkaaLFr
import Derived.SizedLaws
namespace Go.Proofs.Ytmjgmngdahhbkaa
open Go.ChangeShapes Go.WideShapes Go.ChangeAt Go.RowKit
open Hl (Tl)

theorem bytesTl : Try.prog.bytesOf 39 = 48 := by kernel_rfl
theorem tales_many {H : Type} {enc : TypeId × Value → H} {W : World} {ao : Option Addr} {n cap : Nat} {fuel : Nat} {x : DataW H × List MemPlace}
    (hf : DataW.trod enc Try.prog W 0 (fun _ => true) true fuel 23 [.slice ao n cap] = some x) (hz : (x.1.weights Try.prog 23).all (· ≤ reachBytes) = true) : n * 48 ≤ reachBytes := by
  rcases Deep.open_slice Try.underlying23 hf with ⟨hcs, _⟩ | ⟨a, len, cap', m, k, D, Pl, hcs, _, hl, hm, hmm, hx, _⟩
  · simp at hcs
    omega
  · simp at hcs
    obtain ⟨_, rfl, rfl⟩ := hcs
    rw [if_pos rfl] at hmm
    rw [hx] at hz
    unfold DataW.weights at hz
    rw [Try.underlying23] at hz
    simp only [List.all_cons, Bool.and_eq_true, decide_eq_true_eq, List.length_map, List.length_range, bytesTl] at hz
    have := hz.1
    omega
theorem hello_many {H : Type} {enc : TypeId × Value → H} {W : World} {da ao : Option Addr} {dn dc n cap : Nat} {D : DataW H} {ps : List MemPlace}
    (h : DataW.Trod enc Try.prog W 0 (fun _ => true) true 25 (.agg #[.slice da dn dc, .slice ao n cap]) D ps) (hz : (D.weights Try.prog 25).all (· ≤ reachBytes) = true) : n * 48 ≤ reachBytes := by
  obtain ⟨fuel, hf⟩ := h
  obtain ⟨xs, m, _, hxy, _, hlen, hfs⟩ := DataW.trod_struct Try.underlying25 hf
  obtain ⟨y0, y1, rfl⟩ := hlist2 (by simpa using hlen)
  have g1 := hfs 1 _ rfl
  simp only [Value.cells] at g1
  simp only [Prod.mk.injEq] at hxy
  rw [hxy.1] at hz
  unfold DataW.weights at hz
  rw [Try.underlying25] at hz
  simp only [List.map_cons, List.map_nil, DataW.weightsEach, List.all_append, Bool.and_eq_true] at hz
  exact tales_many g1 hz.2.1
end Go.Proofs.Ytmjgmngdahhbkaa
