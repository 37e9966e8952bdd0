/- walks: Go's stable sort: rotate -/
import Derived.Test.YthnklbcaodhbfaaVS1
namespace Go.Proofs.Ythnklbcaodhbfaa
open Go.RowKit
open Vc (V Of)

set_option maxRecDepth 100000 in
set_option maxHeartbeats 4000000 in
theorem srotate_any (g n cap s m e : Nat) (f : Nat → V) (cv : Value) (w : World) (hA : w.heap[g]? = some (.cells (rowV n f) 27 (0, 0))) (hn : n ≤ 4398046511104) (h1 : s < m) (h2 : m < e) (h3 : e ≤ n) :
    Calls Try.prog 36 #[.slice (some ⟨g, 0, none⟩) n cap, .int .i64 s, .int .i64 m, .int .i64 e, cv] w fun x w' => x = .returned (.tuple #[]) ∧ w'.heap[g]? = some (.cells (rowV n (Vc.rot s m e f)) 27 (0, 0)) ∧ Vc.Pm s e f (Vc.rot s m e f) ∧ Below g w w' := by
  have HA : Hid (w.heap[g]? = some (.cells (rowV n f) 27 (0, 0))) := hA
  have HSW : Hid (∀ (a b c : Nat) (A B C : Int) (G : Nat → V) (W : World), A = a → B = b → C = c → W.heap[g]? = some (.cells (rowV n G) 27 (0, 0)) → a + c ≤ b → b + c ≤ n → Calls Try.prog 37 #[.slice (some ⟨g, 0, none⟩) n cap, .int .i64 A, .int .i64 B, .int .i64 C, cv] W fun e w' => e = .returned (.tuple #[]) ∧ w'.heap[g]? = some (.cells (rowV n (Vc.swr a b c G)) 27 (0, 0)) ∧ Below g W w') := fun a b c A B C G W eA eB eC hW q1 q2 => by
    subst eA; subst eB; subst eC
    exact sswapRange_any g n cap a b c G cv W hW hn q1 q2
  have hi0 : IntKind.i64.wrap ((m : Int) - (s : Int)) = ((m - s : Nat) : Int) := by rw [wraps_i64 _ (by omega) (by omega)]; omega
  have hj0 : IntKind.i64.wrap ((e : Int) - (m : Int)) = ((e - m : Nat) : Int) := by rw [wraps_i64 _ (by omega) (by omega)]; omega
  clear hA
  go_enter Try.func36, Try.ntmps36
  go_wp2_with fail
  go_loopw [10, 11] (fun vi vj wr => ∃ i j : Nat, 0 < i ∧ 0 < j ∧ i + s ≤ m ∧ j + m ≤ e ∧ vi = .int .i64 i ∧ vj = .int .i64 j ∧ Hid (∃ G, wr.heap[g]? = some (.cells (rowV n G) 27 (0, 0)) ∧ Vc.Pm s e f G ∧ Vc.rot (m - i) m (m + j) G = Vc.rot s m e f ∧ Below g w wr)) (fun i j _ => (intOf i).toNat + (intOf j).toNat)
  case atStart => exact ⟨m - s, e - m, by omega, by omega, by omega, by omega, by first | rfl | (congr 1; omega), by first | rfl | (congr 1; omega), f, HA.out, Vc.Pm.refl, by rw [show m - (m - s) = s by omega, show m + (e - m) = e by omega], Below.refl _ _⟩
  case round =>
    obtain ⟨i, j, pi, pj, li, lj, rfl, rfl, hX⟩ := hrel
    obtain ⟨G, hG, hP, hR, hB⟩ := hX.out
    have HG : Hid (wr.heap[g]? = some (.cells (rowV n G) 27 (0, 0))) := hG
    have HP : Hid (Vc.Pm s e f G) := hP
    have HR : Hid (Vc.rot (m - i) m (m + j) G = Vc.rot s m e f) := hR
    have HB : Hid (Below g w wr) := hB
    clear hX hG hP hR hB HA hi0 hj0
    by_cases q : i = j
    · subst q
      have HC : Hid (Calls Try.prog 37 #[.slice (some ⟨g, 0, none⟩) n cap, .int .i64 ((m : Int) - (i : Int)), .int .i64 (m : Int), .int .i64 (i : Int), cv] wr fun e w' => e = .returned (.tuple #[]) ∧ w'.heap[g]? = some (.cells (rowV n (Vc.swr (m - i) m i G)) 27 (0, 0)) ∧ Below g wr w') := HSW.out (m - i) m i _ _ _ G wr (by omega) rfl rfl HG.out (by omega) (by omega)
      clear HSW
      go_wp2_with fail
      refine HC.out.mono ?_
      rintro x w1 ⟨rfl, k1, k2⟩
      have HF : Hid (w1.heap[g]? = some (.cells (rowV n (Vc.rot s m e f)) 27 (0, 0)) ∧ Vc.Pm s e f (Vc.rot s m e f) ∧ Below g w w1) := by
        have e1 := Vc.rot_same m i G (by omega)
        rw [HR.out] at e1
        rw [e1] at k1
        refine ⟨k1, ?_, HB.out.trans (k2.mono (Nat.le_refl _))⟩
        have := HP.out.trans ((Vc.swr_pm (m - i) m G i (by omega)).mono (c := s) (d := e) (by omega) (by omega))
        rw [e1] at this
        exact this
      clear k1 k2
      go_wp2_with fail
      exact bodyPost_end (results_none Try.results36 _ _ _) rfl ⟨rfl, HF.out⟩
    · have dq : ((i : Int) != (j : Int)) = true := by simp; omega
      have dn : ¬ ((i : Int) = (j : Int)) := by omega
      by_cases r : j < i
      · have HC : Hid (Calls Try.prog 37 #[.slice (some ⟨g, 0, none⟩) n cap, .int .i64 ((m : Int) - (i : Int)), .int .i64 (m : Int), .int .i64 (j : Int), cv] wr fun e w' => e = .returned (.tuple #[]) ∧ w'.heap[g]? = some (.cells (rowV n (Vc.swr (m - i) m j G)) 27 (0, 0)) ∧ Below g wr w') := HSW.out (m - i) m j _ _ _ G wr (by omega) rfl rfl HG.out (by omega) (by omega)
        have ri : (j : Int) < (i : Int) := by omega
        clear HSW
        go_wp2_with fail
        refine HC.out.mono ?_
        rintro x w1 ⟨rfl, k1, k2⟩
        have HF : Hid (∃ G, w1.heap[g]? = some (.cells (rowV n G) 27 (0, 0)) ∧ Vc.Pm s e f G ∧ Vc.rot (m - (i - j)) m (m + j) G = Vc.rot s m e f ∧ Below g w w1) :=
          ⟨_, k1, HP.out.trans ((Vc.swr_pm (m - i) m G j (by omega)).mono (by omega) (by omega)), (Vc.rot_more m i j G (by omega) pj r).trans HR.out, HB.out.trans (k2.mono (Nat.le_refl _))⟩
        clear k1 k2
        go_wp2_with fail
        exact ⟨⟨i - j, j, by omega, pj, by omega, lj, by congr 1; omega, rfl, HF⟩, by simp [intOf]; omega⟩
      · have HC : Hid (Calls Try.prog 37 #[.slice (some ⟨g, 0, none⟩) n cap, .int .i64 ((m : Int) - (i : Int)), .int .i64 ((m : Int) + (j : Int) - (i : Int)), .int .i64 (i : Int), cv] wr fun e w' => e = .returned (.tuple #[]) ∧ w'.heap[g]? = some (.cells (rowV n (Vc.swr (m - i) (m + j - i) i G)) 27 (0, 0)) ∧ Below g wr w') := HSW.out (m - i) (m + j - i) i _ _ _ G wr (by omega) (by omega) rfl HG.out (by omega) (by omega)
        have ri : (i : Int) < (j : Int) := by omega
        clear HSW
        go_wp2_with fail
        refine HC.out.mono ?_
        rintro x w1 ⟨rfl, k1, k2⟩
        have HF : Hid (∃ G, w1.heap[g]? = some (.cells (rowV n G) 27 (0, 0)) ∧ Vc.Pm s e f G ∧ Vc.rot (m - i) m (m + (j - i)) G = Vc.rot s m e f ∧ Below g w w1) :=
          ⟨_, k1, HP.out.trans ((Vc.swr_pm (m - i) (m + j - i) G i (by omega)).mono (by omega) (by omega)), (Vc.rot_less m i j G (by omega) pi (by omega)).trans HR.out, HB.out.trans (k2.mono (Nat.le_refl _))⟩
        clear k1 k2
        go_wp2_with fail
        exact ⟨⟨i, j - i, pi, by omega, li, by omega, rfl, by congr 1; omega, HF⟩, by simp [intOf]; omega⟩
end Go.Proofs.Ythnklbcaodhbfaa
