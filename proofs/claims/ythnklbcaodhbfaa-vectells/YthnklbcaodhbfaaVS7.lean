/- walks: Go's stable sort: stable -/
import Derived.Test.YthnklbcaodhbfaaVS6
import Derived.Test.YthnklbcaodhbfaaVSb
namespace Go.Proofs.Ythnklbcaodhbfaa
open Go.RowKit
open Vc (V Of)

/-- What is there while it is sorted. -/
def At (g n : Nat) (f : Nat → V) (w : World) (G : Nat → V) (w' : World) : Prop :=
  w'.heap[g]? = some (.cells (rowV n G) 27 (0, 0)) ∧ Vc.Pm 0 n f G ∧ Below g w w'
theorem At.next {g n : Nat} {f G H : Nat → V} {w w1 w2 : World} (h : At g n f w G w1) (h1 : w2.heap[g]? = some (.cells (rowV n H) 27 (0, 0))) (h2 : Vc.Pm 0 n G H) (h3 : Below g w1 w2) : At g n f w H w2 :=
  ⟨h1, h.2.1.trans h2, h.2.2.trans (h3.mono (Nat.le_refl _))⟩
set_option maxRecDepth 100000 in
set_option maxHeartbeats 4000000 in
theorem sstable_any (g n cap : Nat) (f : Nat → V) (w : World) (hA : w.heap[g]? = some (.cells (rowV n f) 27 (0, 0))) (hn : n ≤ 4398046511104) :
    Calls Try.prog 32 #[.slice (some ⟨g, 0, none⟩) n cap, .int .i64 n, .func (.func 9) #[] #[]] w fun x w' => x = .returned (.tuple #[]) ∧ ∃ G, At g n f w G w' ∧ Vc.SIn 0 n G := by
  have HA : Hid (At g n f w f w) := ⟨hA, Vc.Pm.refl, Below.refl _ _⟩
  have HIN : Hid (∀ (a b : Nat) (G : Nat → V) (W : World), At g n f w G W → a ≤ n → b ≤ n → Calls Try.prog 34 #[.slice (some ⟨g, 0, none⟩) n cap, .int .i64 a, .int .i64 b, .func (.func 9) #[] #[]] W fun x w' => x = .returned (.tuple #[]) ∧ ∃ H, At g n f w H w' ∧ Vc.Pm a b G H ∧ Vc.SIn a b H) := fun a b G W hW q1 q2 => (sinsertion_any g n cap a b G W hW.1 hn q1 q2).mono (fun x w' h => by
    obtain ⟨e, H, k1, k2, k3, k4⟩ := h
    exact ⟨e, H, hW.next k1 (k2.mono (by omega) q2) k4, k2, k3⟩)
  have HME : Hid (∀ (a m b : Nat) (G : Nat → V) (W : World), At g n f w G W → a < m → m < b → b ≤ n → Vc.SIn a m G → Vc.SIn m b G → Calls Try.prog 35 #[.slice (some ⟨g, 0, none⟩) n cap, .int .i64 a, .int .i64 m, .int .i64 b, .func (.func 9) #[] #[]] W fun x w' => x = .returned (.tuple #[]) ∧ ∃ H, At g n f w H w' ∧ Vc.Pm a b G H ∧ Vc.SIn a b H) := fun a m b G W hW q1 q2 q3 q4 q5 => (smerge_any g n cap hn (b - a) a m b G W (Nat.le_refl _) hW.1 q1 q2 q3 q4 q5).mono (fun x w' h => by
    obtain ⟨e, H, k1, k2, k3, k4⟩ := h
    exact ⟨e, H, hW.next k1 (k2.mono (by omega) q3) k4, k2, k3⟩)
  clear hA
  go_enter Try.func32, Try.ntmps32
  go_wp2_with fail
  go_loopw [7, 8] (fun va vb wr => ∃ A B : Nat, B = A + 20 ∧ A ≤ n ∧ va = .int .i64 A ∧ vb = .int .i64 B ∧ Hid (∃ t G, A = t * 20 ∧ At g n f w G wr ∧ ∀ q, q < t → Vc.SIn (q * 20) ((q + 1) * 20) G)) (fun va _ _ => n - (intOf va).toNat)
  case atStart => exact ⟨0, 20, rfl, by omega, rfl, rfl, 0, f, rfl, HA.out, fun q hq => by omega⟩
  case round =>
    obtain ⟨A, B, hB, lA, rfl, rfl, hX⟩ := hrel
    obtain ⟨t, G, hAt, hG, hS⟩ := hX.out
    clear hX HA
    by_cases hlt : B ≤ n
    · have HC := HIN.out A B G wr hG lA hlt
      obtain ⟨B2, hB2⟩ : ∃ B2, B2 = B + 20 := ⟨_, rfl⟩
      have wB : IntKind.i64.wrap ((B : Int) + 20) = (B2 : Int) := by rw [wraps_i64 _ (by omega) (by omega)]; omega
      have lB : (B : Int) ≤ (n : Int) := by omega
      have HST : Hid (∀ H, Vc.Pm A B G H → Vc.SIn A B H → B = (t + 1) * 20 ∧ ∀ q, q < t + 1 → Vc.SIn (q * 20) ((q + 1) * 20) H) := fun H k1 k2 => by
        subst hB
        exact ⟨by omega, Vc.first_step hAt hS k1 k2⟩
      have HB2 : Hid (B2 = B + 20) := hB2
      have HBA : Hid (B = A + 20) := hB
      clear hAt hG hS HIN HME hB2 hB
      go_wp2_with fail
      refine HC.mono ?_
      rintro x w1 ⟨rfl, H, k1, k2, k3⟩
      have HF : Hid (∃ t G, B = t * 20 ∧ At g n f w G w1 ∧ ∀ q, q < t → Vc.SIn (q * 20) ((q + 1) * 20) G) := ⟨t + 1, H, (HST.out H k2 k3).1, k1, (HST.out H k2 k3).2⟩
      clear k1 k2 k3 HST HC
      go_wp2_with fail
      exact ⟨⟨B, B2, HB2.out, hlt, rfl, rfl, HF⟩, by have := HBA.out; simp [intOf]; omega⟩
    · have HC := HIN.out A n G wr hG lA (Nat.le_refl _)
      have HFD : Hid (∀ H, Vc.Pm A n G H → Vc.SIn A n H → Vc.Blks 20 n H) := fun H k1 k2 => Vc.first_done hAt (by omega) hS k1 k2
      have lB : ¬ (B : Int) ≤ (n : Int) := by omega
      have lB2 : decide ((B : Int) ≤ (n : Int)) = false := decide_eq_false lB
      clear hAt hG hS HIN hB
      go_wp2_with fail
      refine HC.mono ?_
      rintro x w1 ⟨rfl, H, k1, k2, k3⟩
      have H0 : Hid (∃ G, At g n f w G w1 ∧ Vc.Blks 20 n G) := ⟨H, k1, HFD.out H k2 k3⟩
      clear k1 k2 k3 HFD HC lB lB2 hlt
      go_wp2_with fail
      go_loopw [6] (fun vb wr => ∃ bs : Nat, 0 < bs ∧ bs ≤ 2 * n + 20 ∧ vb = .int .i64 bs ∧ Hid (∃ G, At g n f w G wr ∧ Vc.Blks bs n G)) (fun vb _ => n - (intOf vb).toNat)
      case atStart => exact ⟨20, by omega, by omega, rfl, H0⟩
      case round =>
        obtain ⟨bs, pb, ub, rfl, hX⟩ := hrel
        clear H0
        by_cases hbn : bs < n
        · obtain ⟨D, hD⟩ : ∃ D, D = 2 * bs := ⟨_, rfl⟩
          have eD : IntKind.i64.wrap (2 * (bs : Int)) = (D : Int) := by rw [wraps_i64 _ (by omega) (by omega)]; omega
          have eD2 : IntKind.i64.wrap ((bs : Int) * 2) = (D : Int) := by rw [wraps_i64 _ (by omega) (by omega)]; omega
          have hbn2 : (bs : Int) < (n : Int) := by omega
          have HDD : Hid (D = 2 * bs) := hD
          have uD : D ≤ 8796093022208 := by omega
          have uD2 : D ≤ 2 * n := by omega
          have pD : bs < D := by omega
          have HX : Hid (∃ G, At g n f w G wr ∧ Vc.Blks bs n G) := hX
          clear hX hD
          go_wp2_with fail
          go_loopw [7, 8] (fun va vb wi => ∃ A B : Nat, B = A + D ∧ A ≤ n ∧ va = .int .i64 A ∧ vb = .int .i64 B ∧ Hid (∃ t G, A = t * (2 * bs) ∧ At g n f w G wi ∧ Vc.Half bs n t G)) (fun va _ _ => n - (intOf va).toNat)
          case atStart =>
            obtain ⟨G, k1, k2⟩ := HX.out
            exact ⟨0, D, by omega, by omega, rfl, rfl, 0, G, by omega, k1, Vc.half_start k2⟩
          case round =>
            obtain ⟨A, B, hB, lA, rfl, rfl, hY⟩ := hrel
            obtain ⟨t, G, hAt, hG, hH⟩ := hY.out
            clear hY HX
            obtain ⟨s1, s2⟩ := Vc.half_parts hH hAt
            obtain ⟨M, hM⟩ : ∃ M, M = A + bs := ⟨_, rfl⟩
            have wM : IntKind.i64.wrap ((A : Int) + (bs : Int)) = (M : Int) := by rw [wraps_i64 _ (by omega) (by omega)]; omega
            have hDD := HDD.out
            by_cases hlt : B ≤ n
            · have HC := HME.out A M B G wr hG (by omega) (by omega) hlt (s1.sub (Nat.le_refl _) (by omega)) (s2.sub (by omega) (by omega))
              obtain ⟨B2, hB2⟩ : ∃ B2, B2 = B + D := ⟨_, rfl⟩
              have wB : IntKind.i64.wrap ((B : Int) + (D : Int)) = (B2 : Int) := by rw [wraps_i64 _ (by omega) (by omega)]; omega
              have lB : (B : Int) ≤ (n : Int) := by omega
              have HST : Hid (∀ H, Vc.Pm A B G H → Vc.SIn A B H → B = (t + 1) * (2 * bs) ∧ Vc.Half bs n (t + 1) H) := fun H k1 k2 => by
                have e : B = A + 2 * bs := by omega
                rw [e] at k1 k2
                refine ⟨?_, Vc.half_step hH hAt k1 k2⟩
                rw [Nat.add_mul, Nat.one_mul, ← hAt]; exact e
              have HB2 : Hid (B2 = B + D) := hB2
              have hAB : A < B := by omega
              clear hAt hG hH s1 s2 hM hDD HME hB2 hB
              go_wp2_with fail
              refine HC.mono ?_
              rintro x w2 ⟨rfl, H, k1, k2, k3⟩
              have HF : Hid (∃ t G, B = t * (2 * bs) ∧ At g n f w G w2 ∧ Vc.Half bs n t G) := ⟨t + 1, H, (HST.out H k2 k3).1, k1, (HST.out H k2 k3).2⟩
              clear k1 k2 k3 HST HC
              go_wp2_with fail
              exact ⟨⟨B, B2, HB2.out, hlt, rfl, rfl, HF⟩, by simp [intOf]; omega⟩
            · have lB : decide ((B : Int) ≤ (n : Int)) = false := decide_eq_false (by omega)
              have lB0 : ¬ (B : Int) ≤ (n : Int) := by omega
              have HFD : Hid (∀ H, Vc.Pm A n G H → Vc.SIn A n H → Vc.Blks D n H) := fun H k1 k2 => by rw [hDD]; exact Vc.half_done hH hAt (by omega) k1 k2
              by_cases hmn : M < n
              · have HC := HME.out A M n G wr hG (by omega) hmn (Nat.le_refl _) (s1.sub (Nat.le_refl _) (by omega)) (s2.sub (by omega) (by omega))
                have hmn2 : (M : Int) < (n : Int) := by omega
                clear hAt hG hH s1 s2 hM hDD HME hB hlt
                go_wp2_with fail
                refine HC.mono ?_
                rintro x w2 ⟨rfl, H, k1, k2, k3⟩
                have HF : Hid (∃ G, At g n f w G w2 ∧ Vc.Blks D n G) := ⟨H, k1, HFD.out H k2 k3⟩
                clear k1 k2 k3 HFD HC
                go_wp2_with fail
                exact ⟨⟨D, by omega, by omega, rfl, HF⟩, by simp [intOf]; omega⟩
              · have HF : Hid (∃ G, At g n f w G wr ∧ Vc.Blks D n G) := ⟨G, hG, HFD.out G Vc.Pm.refl (s1.sub (Nat.le_refl _) (by omega))⟩
                have hmn2 : decide ((M : Int) < (n : Int)) = false := decide_eq_false (by omega)
                have hmn3 : ¬ (M : Int) < (n : Int) := by omega
                clear hAt hG hH s1 s2 hM hDD HME hB hlt HFD
                go_wp2_with fail
                exact ⟨⟨D, by omega, by omega, rfl, HF⟩, by simp [intOf]; omega⟩
        · have HF : Hid (∃ G, At g n f w G wr ∧ Vc.SIn 0 n G) := by
            obtain ⟨G, k1, k2⟩ := hX.out
            exact ⟨G, k1, Vc.blks_all k2 (by omega)⟩
          have hbn2 : decide ((bs : Int) < (n : Int)) = false := decide_eq_false (by omega)
          have hbn3 : ¬ (bs : Int) < (n : Int) := by omega
          clear hX HME
          go_wp2_with fail
          exact bodyPost_end (results_none Try.results32 _ _ _) rfl ⟨rfl, HF.out⟩
end Go.Proofs.Ythnklbcaodhbfaa
