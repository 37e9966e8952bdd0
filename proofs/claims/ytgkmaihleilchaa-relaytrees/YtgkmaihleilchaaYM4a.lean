/- Gates that are alike: on plain functions. -/
import Derived.Test.YtgkmaihleilchaaYM
namespace Go.Proofs.Ytgkmaihleilchaa
namespace Rl
open Bk (E at')
theorem filter_same (P : G → Bool) (Q : G → O) : ∀ l l' : List G, l'.length = l.length → (∀ i, i < l.length → P (gat l' i) = P (gat l i) ∧ Q (gat l' i) = Q (gat l i)) → (l'.filter P).map Q = (l.filter P).map Q
  | [], [], _, _ => rfl
  | [], _ :: _, h, _ => by simp at h
  | _ :: _, [], h, _ => by simp at h
  | a :: m, a' :: m', h, hs => by
    have ih := filter_same P Q m m' (by simpa using h) (fun i hi => by
      have := hs (i + 1) (by simp; omega)
      simpa [gat] using this)
    have h0 := hs 0 (by simp)
    have e1 : P a' = P a := by simpa [gat] using h0.1
    have e2 : Q a' = Q a := by simpa [gat] using h0.2
    cases hp : P a with
    | true =>
      rw [List.filter_cons_of_pos (by rw [e1, hp]), List.filter_cons_of_pos hp, List.map_cons, List.map_cons, ih, e2]
    | false =>
      rw [List.filter_cons_of_neg (by rw [e1, hp]; simp), List.filter_cons_of_neg (by rw [hp]; simp), ih]
/-- Gates that are alike but for what is open on other trees than t. -/
structure Alike (l l' : List G) (t v : Int) : Prop where
  len : l'.length = l.length
  port : ∀ i, (gat l' i).port = (gat l i).port
  plain : ∀ i, (gat l' i).plain = (gat l i).plain
  ways : ∀ i, (gat l' i).ways = (gat l i).ways
  opens : ∀ i, (gat l' i).opens.length = (gat l i).opens.length
  pass : ∀ i, passes (gat l' i) t v = passes (gat l i) t v
theorem Alike.wrong {l l' : List G} {t v : Int} (h : Alike l l' t v) : wrong l' = wrong l := by
  unfold Rl.wrong
  rw [h.len]
  congr 1
  funext i
  unfold gErr gateErr aheadP
  rw [h.port i, h.plain i, h.ways i, h.opens i, h.port (i - 1)]
theorem Alike.idx {l l' : List G} {t v : Int} (h : Alike l l' t v) (p : Int) : ∀ k, Rl.idx l' p k = Rl.idx l p k
  | 0 => rfl
  | k + 1 => by
    show (if 0 ≤ Rl.idx l' p k then Rl.idx l' p k else if (gat l' k).port = p then (k : Int) else -1) = (if 0 ≤ Rl.idx l p k then Rl.idx l p k else if (gat l k).port = p then (k : Int) else -1)
    rw [h.idx p k, h.port k]
theorem relay_same {r : R} {l l' : List G} {b : List E} {p : Int} {f : F} (h : Alike l l' (r.tree (wayOf f (inG l p))) (wayOf f (inG l p))) : relay r l' b p f = relay r l b p f := by
  have e1 : errR r l' b f = errR r l b f := by unfold errR; rw [h.wrong]
  have e2 : Rl.idx l' p l'.length = Rl.idx l p l.length := by rw [h.len, h.idx]
  have e3 : wayOf f (inG l' p) = wayOf f (inG l p) := by
    unfold inG wayOf
    rw [e2, h.plain]
  have e4 : stays r l' p f = stays r l p f := by
    unfold stays
    rw [e3]
    unfold inG at h ⊢
    rw [e2, h.pass]
  have e5 : learnt b l' p f = learnt b l p f := by unfold learnt; rw [e3]
  have e6 : outs r l' b p f = outs r l b p f := by
    unfold outs
    rw [e5, e3]
    refine filter_same _ _ l l' h.len (fun i hi => ⟨?_, ?_⟩)
    · unfold leads
      rw [h.port i, h.pass i]
    · unfold leave
      rw [h.plain i, h.port i]
  unfold relay
  rw [e1, e2, e4, e5, e6]
end Rl
end Go.Proofs.Ytgkmaihleilchaa
