/- Who spoke is found: on plain functions. -/
import Derived.Test.YtgkmaihleilchaaYM2
namespace Go.Proofs.Ytgkmaihleilchaa
namespace Rl
open Bk (E at')
/-- The answer to a frame, on way v. -/
def back (f : F) (v : Int) : F := ⟨f.src, f.dst, true, 0, false, v, f.type, none, 0, 0, fun _ => 0⟩
theorem answer_all {r : R} {l : List G} {b m : List E} {p q : Int} {f : F} (h : Ok r l b p f) (hpq : p ≠ q) (hv : Rl.vid l p f ≠ 0) (hk : Bk.Known m (sought (Rl.vid l p f) f.src)) (hl : Bk.lookP m (sought (Rl.vid l p f) f.src) = p) (hne : f.src ≠ f.dst) (hres : res f.src = false)
    (he : (relay r l m q (back f (Rl.vid l p f))).err = 0) :
    ((passes (Rl.atG l q) (r.tree (Rl.vid l p f)) (Rl.vid l p f) = false ∨ passes (Rl.atG l p) (r.tree (Rl.vid l p f)) (Rl.vid l p f) = false) → (relay r l m q (back f (Rl.vid l p f))).out = []) ∧
    (passes (Rl.atG l q) (r.tree (Rl.vid l p f)) (Rl.vid l p f) = true → passes (Rl.atG l p) (r.tree (Rl.vid l p f)) (Rl.vid l p f) = true → ∃ o, (relay r l m q (back f (Rl.vid l p f))).out = [o] ∧ o.port = p) := by
  obtain ⟨v, hvv⟩ : ∃ v, v = Rl.vid l p f := ⟨_, rfl⟩
  rw [← hvv] at hv hk hl he ⊢
  have hv2 : Rl.vid l q (back f v) = v := by
    unfold Rl.vid wayOf
    rw [if_pos ⟨rfl, hv⟩]
    rfl
  have hok := ok_of he
  have hst : Rl.stays r l q (back f v) = !passes (Rl.atG l q) (r.tree v) v := by
    have := answer_stays hok hres
    rw [hv2] at this
    exact this
  have hne2 : (back f v).src ≠ (back f v).dst := fun e => hne e.symm
  have hou := answer_outs (p := p) hok hpq hne2 (by rw [hv2]; exact hk) (by rw [hv2]; exact hl)
  rw [hv2] at hou
  have hfp := filter_port h.right h.inMem (fun x => passes x (r.tree v) v)
  rw [h.atPort] at hfp
  rw [hfp] at hou
  rcases relay_cases r l m q (back f v) with ⟨h1, _⟩ | ⟨_, _, ⟨h2, h3⟩ | ⟨h2, h3⟩⟩
  · exact absurd he h1
  · rw [h3]
    refine ⟨fun _ => rfl, fun h4 => ?_⟩
    rw [hst, h4] at h2
    cases h2
  · rw [h3]
    have h4 : passes (Rl.atG l q) (r.tree v) v = true := by
      rw [hst] at h2
      simpa using h2
    refine ⟨fun h5 => ?_, fun _ h6 => ?_⟩
    · rcases h5 with h5 | h5
      · rw [h4] at h5; cases h5
      · show outs r l m q (back f v) = []
        rw [hou, if_neg (by simp [h5])]
        rfl
    · refine ⟨leave (back f v) v (Rl.atG l p), ?_, by rw [leave_port, h.atPort]⟩
      show outs r l m q (back f v) = _
      rw [hou, if_pos h6]
      rfl
end Rl
end Go.Proofs.Ytgkmaihleilchaa
