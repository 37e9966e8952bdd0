/- walks: Go's stable sort: symMerge, where both parts are more than one -/
import Derived.Test.YthnklbcaodhbfaaVS5
import Derived.Test.YthnklbcaodhbfaaVS2
namespace Go.Proofs.Ythnklbcaodhbfaa
open Go.RowKit
open Vc (V Of)

/-- What symMerge does. -/
def MergeOut (g n a b : Nat) (f : Nat → V) (w : World) (x : Ending) (w' : World) : Prop :=
  x = .returned (.tuple #[]) ∧ ∃ G, w'.heap[g]? = some (.cells (rowV n G) 27 (0, 0)) ∧ Vc.Pm a b f G ∧ Vc.SIn a b G ∧ Below g w w'
set_option maxRecDepth 100000 in
set_option maxHeartbeats 8000000 in
theorem smergeG (g n cap a m b : Nat) (f : Nat → V) (w : World) (hA : w.heap[g]? = some (.cells (rowV n f) 27 (0, 0))) (hn : n ≤ 4398046511104) (h0 : a + 1 < m) (h1 : m + 1 < b) (h2 : b ≤ n) (hs1 : Vc.SIn a m f) (hs2 : Vc.SIn m b f)
    (ih : ∀ (a' m' b' : Nat) (F : Nat → V) (W : World), b' - a' < b - a → W.heap[g]? = some (.cells (rowV n F) 27 (0, 0)) → a' < m' → m' < b' → b' ≤ n → Vc.SIn a' m' F → Vc.SIn m' b' F → Calls Try.prog 35 #[.slice (some ⟨g, 0, none⟩) n cap, .int .i64 a', .int .i64 m', .int .i64 b', .func (.func 9) #[] #[]] W (MergeOut g n a' b' F W)) :
    Calls Try.prog 35 #[.slice (some ⟨g, 0, none⟩) n cap, .int .i64 a, .int .i64 m, .int .i64 b, .func (.func 9) #[] #[]] w (MergeOut g n a b f w) := by
  have HA : Hid (w.heap[g]? = some (.cells (rowV n f) 27 (0, 0))) := hA
  have HS1 : Hid (Vc.SIn a m f) := hs1
  have HS2 : Hid (Vc.SIn m b f) := hs2
  have HIH : Hid (∀ (a' m' b' : Nat) (F : Nat → V) (W : World), b' - a' < b - a → W.heap[g]? = some (.cells (rowV n F) 27 (0, 0)) → a' < m' → m' < b' → b' ≤ n → Vc.SIn a' m' F → Vc.SIn m' b' F → Calls Try.prog 35 #[.slice (some ⟨g, 0, none⟩) n cap, .int .i64 a', .int .i64 m', .int .i64 b', .func (.func 9) #[] #[]] W (MergeOut g n a' b' F W)) := ih
  obtain ⟨d1, hd1⟩ : ∃ d, d = m - a := ⟨_, rfl⟩
  have w1 : IntKind.i64.wrap ((m : Int) - (a : Int)) = (d1 : Int) := by rw [wraps_i64 _ (by omega) (by omega)]; omega
  have k1 : ((d1 : Int) == 1) = false := by simp; omega
  obtain ⟨d2, hd2⟩ : ∃ d, d = b - m := ⟨_, rfl⟩
  have w2 : IntKind.i64.wrap ((b : Int) - (m : Int)) = (d2 : Int) := by rw [wraps_i64 _ (by omega) (by omega)]; omega
  have k2 : ((d2 : Int) == 1) = false := by simp; omega
  obtain ⟨mid, hmid⟩ : ∃ mid, mid = (a + b) / 2 := ⟨_, rfl⟩
  have emid : ((a : Int) + (b : Int)) / 2 = (mid : Int) := by omega
  have m1 : a + b ≤ 2 * mid + 1 := by omega
  have m2 : 2 * mid ≤ a + b := by omega
  obtain ⟨N, hN⟩ : ∃ N, N = mid + m := ⟨_, rfl⟩
  have eN : IntKind.i64.wrap ((mid : Int) + (m : Int)) = (N : Int) := by rw [wraps_i64 _ (by omega) (by omega)]; omega
  obtain ⟨p, hp⟩ : ∃ p, p = N - 1 := ⟨_, rfl⟩
  have ep : IntKind.i64.wrap ((N : Int) - 1) = (p : Int) := by rw [wraps_i64 _ (by omega) (by omega)]; omega
  have HN : Hid (N = mid + m) := hN
  have HP : Hid (p = N - 1) := hp
  obtain ⟨lo, hi, hcase⟩ : ∃ lo hi : Nat, (mid < m ∧ lo + b = N ∧ hi = mid) ∨ (m ≤ mid ∧ lo = a ∧ hi = m) := by
    by_cases q : mid < m
    · exact ⟨N - b, mid, Or.inl ⟨q, by omega, rfl⟩⟩
    · exact ⟨a, m, Or.inr ⟨by omega, rfl, rfl⟩⟩
  have HCASE : Hid ((mid < m ∧ lo + b = N ∧ hi = mid) ∨ (m ≤ mid ∧ lo = a ∧ hi = m)) := hcase
  have HR : Hid (a ≤ lo ∧ lo ≤ hi ∧ hi ≤ m ∧ hi ≤ mid ∧ N ≤ lo + b ∧ ∀ c, lo ≤ c → c < hi → a ≤ c ∧ c < m ∧ m ≤ p - c ∧ p - c < b ∧ c ≤ p) := by
    rcases hcase with ⟨q1, q2, q3⟩ | ⟨q1, q2, q3⟩
    · exact ⟨by omega, by omega, by omega, by omega, by omega, fun c c1 c2 => ⟨by omega, by omega, by omega, by omega, by omega⟩⟩
    · exact ⟨by omega, by omega, by omega, by omega, by omega, fun c c1 c2 => ⟨by omega, by omega, by omega, by omega, by omega⟩⟩
  have m3 : mid < b := by omega
  have m4 : a < mid := by omega
  clear hA hs1 hs2 ih hd1 hd2 hmid hN hp hcase
  go_enter Try.func35, Try.ntmps35
  go_upto_if 140 with fail
  go_cut [20, 21] (fun s20 s21 wx => s20 = .int .i64 lo ∧ s21 = .int .i64 hi ∧ Hid (wx.heap[g]? = some (.cells (rowV n f) 27 (0, 0)) ∧ Below g w wx))
  case first =>
    as_aux_lemma =>
      rcases HCASE.out with ⟨q1, q2, q3⟩ | ⟨q1, q2, q3⟩
      · have q1' : (mid : Int) < (m : Int) := by omega
        have hNN := HN.out
        have el : IntKind.i64.wrap ((N : Int) - (b : Int)) = (lo : Int) := by rw [wraps_i64 _ (by omega) (by omega)]; omega
        have HI : Hid (hi = mid) := q3
        clear q2 q3 HCASE HR HN HP hNN
        go_wp2_with fail
        go_meet
        exact ⟨rfl, by rw [HI.out], HA.out, Below.refl _ _⟩
      · have q1' : ¬ (mid : Int) < (m : Int) := by omega
        have q1b : decide ((mid : Int) < (m : Int)) = false := decide_eq_false q1'
        have HI : Hid (hi = m) := q3
        have HL : Hid (lo = a) := q2
        clear q2 q3 HCASE HR HN HP
        go_wp2_with fail
        go_meet
        exact ⟨by rw [HL.out], by rw [HI.out], HA.out, Below.refl _ _⟩
  case rest =>
  obtain ⟨rfl, rfl, HX0⟩ := hcut
  clear HA
  go_wp2_with fail
  go_loopw [20, 21] (fun x y wr => ∃ i j : Nat, lo ≤ i ∧ i ≤ j ∧ j ≤ hi ∧ x = .int .i64 i ∧ y = .int .i64 j ∧ Hid ((∀ c, lo ≤ c → c < i → ¬ Vc.lt (f (p - c)) (f c)) ∧ ∀ c, j ≤ c → c < hi → Vc.lt (f (p - c)) (f c)) ∧ Hid (wr.heap[g]? = some (.cells (rowV n f) 27 (0, 0)) ∧ Below g w wr)) (fun x y _ => (intOf y - intOf x).toNat)
  case atStart => exact ⟨lo, hi, by omega, HR.out.2.1, by omega, rfl, rfl, ⟨fun q q1 q2 => by omega, fun q q1 q2 => by omega⟩, HX0.out⟩
  case round =>
    obtain ⟨i, j, li, lij, uj, rfl, rfl, hQ, hX⟩ := hrel
    clear HX0
    by_cases hlt : i < j
    · as_aux_lemma =>
        obtain ⟨h, hh⟩ : ∃ h, h = (i + j) / 2 := ⟨_, rfl⟩
        have eh : ((i : Int) + (j : Int)) / 2 = (h : Int) := by omega
        have l1 : i ≤ h := by omega
        have l2 : h < j := by omega
        clear hh
        obtain ⟨r1, r2, r3, r4, r5⟩ := HR.out.2.2.2.2.2 h (by omega) (by omega)
        obtain ⟨q, hq⟩ : ∃ q, q = p - h := ⟨_, rfl⟩
        have wq : IntKind.i64.wrap ((p : Int) - (h : Int)) = (q : Int) := by rw [wraps_i64 _ (by omega) (by have := HP.out; have := HN.out; omega)]; omega
        have hlt2 : (i : Int) < (j : Int) := by omega
        have iq : (0 : Int) ≤ (q : Int) := by omega
        have ih : (0 : Int) ≤ (h : Int) := by omega
        have nq' : (q : Int) < (n : Int) := by omega
        have nh : (h : Int) < (n : Int) := by omega
        have HCC : Hid (∀ W, Below wr.heap.size wr W → _) := two_cells hX.out.1 (show q < n by omega) (show h < n by omega)
        have HLO : Hid (∀ W, Below wr.heap.size wr W → W.heap[g]? = some (.cells (rowV n f) 27 (0, 0)) ∧ Below g w W) := row_stay hX.out.1 hX.out.2
        have HW0 : Hid (Below wr.heap.size wr wr) := Below.refl _ _
        have HCM : Hid (∀ W, Below wr.heap.size wr W → Calls Try.prog 9 #[.agg #[.int .u64 (f q).root, .int .i64 (f q).cost, .int .u64 (f q).bridge, .int .i64 (f q).port], .agg #[.int .u64 (f h).root, .int .i64 (f h).cost, .int .u64 (f h).bridge, .int .i64 (f h).port]] W fun e w' => e = .returned (.int .i64 (Vc.cmp (f q) (f h))) ∧ Hid (Below wr.heap.size wr w')) := fun W hW => cmp_say (f q) (f h) wr W hW
        have HYES : Hid (Vc.cmp (f q) (f h) < 0 → (∀ c, lo ≤ c → c < i → ¬ Vc.lt (f (p - c)) (f c)) ∧ ∀ c, h ≤ c → c < hi → Vc.lt (f (p - c)) (f c)) := fun c => by
          have c' := Vc.cmp_lt.1 c
          refine ⟨hQ.out.1, fun x q1 q2 => ?_⟩
          by_cases e : x = h
          · subst e; rw [← hq]; exact c'
          · obtain ⟨t1, t2, t3, t4, t5⟩ := HR.out.2.2.2.2.2 x (by omega) q2
            refine lt_of_lt_le (lt_of_le_lt (HS2.out (p - x) q t3 (by omega) (by omega)) c') (HS1.out h x r1 (by omega) t2)
        have HNO : Hid (¬ Vc.cmp (f q) (f h) < 0 → (∀ c, lo ≤ c → c < h + 1 → ¬ Vc.lt (f (p - c)) (f c)) ∧ ∀ c, j ≤ c → c < hi → Vc.lt (f (p - c)) (f c)) := fun c => by
          have c' : ¬ Vc.lt (f q) (f h) := fun z => c (Vc.cmp_lt.2 z)
          refine ⟨fun x q1 q2 => ?_, hQ.out.2⟩
          by_cases e : x = h
          · subst e; rw [← hq]; exact c'
          · obtain ⟨t1, t2, t3, t4, t5⟩ := HR.out.2.2.2.2.2 x q1 (by omega)
            exact Vc.not_lt_trans (HS1.out x h t1 (by omega) r2) (Vc.not_lt_trans c' (HS2.out q (p - x) (by omega) (by omega) t4))
        obtain ⟨⟨c0, c1, c2, c3⟩, d0, d1', d2', d3⟩ := HCC.out wr HW0.out
        obtain ⟨CV, hCV⟩ : ∃ CV, Vc.cmp (f q) (f h) = CV := ⟨_, rfl⟩
        rw [hCV] at HCM HYES HNO
        clear hCV hQ hX hq r1 r2 r3 r4 r5
        obtain ⟨x, hx⟩ : ∃ x, f q = x := ⟨_, rfl⟩
        obtain ⟨y, hy⟩ : ∃ y, f h = y := ⟨_, rfl⟩
        rw [hx, hy] at HCC HCM
        rw [hx] at c0 c1 c2 c3
        rw [hy] at d0 d1' d2' d3
        clear hx hy
        by_cases hc : CV < 0
        · have HQ2 := HYES.out (by omega)
          have hc2 : decide (CV < 0) = true := decide_eq_true hc
          clear HYES HNO
          go_wp2_with fail
          go_region_held3 (fun W => (W.cell? ⟨g, q * 4, none⟩ = some (.int .u64 x.root) ∧ W.cell? ⟨g, q * 4 + 1, none⟩ = some (.int .i64 x.cost) ∧ W.cell? ⟨g, q * 4 + 2, none⟩ = some (.int .u64 x.bridge) ∧ W.cell? ⟨g, q * 4 + 3, none⟩ = some (.int .i64 x.port)) ∧ W.cell? ⟨g, h * 4, none⟩ = some (.int .u64 y.root) ∧ W.cell? ⟨g, h * 4 + 1, none⟩ = some (.int .i64 y.cost) ∧ W.cell? ⟨g, h * 4 + 2, none⟩ = some (.int .u64 y.bridge) ∧ W.cell? ⟨g, h * 4 + 3, none⟩ = some (.int .i64 y.port))
            (first | (exact HCC.out _ (Below.drew HW0.out)) | (exact HCC.out _ (Hid.out (by assumption))))
            (first | (go_at_call 9; refine (HCM.out _ (Below.drew HW0.out)).mono ?_; rintro e w3 ⟨rfl, HB3⟩))
          clear c0 c1 c2 c3 d0 d1' d2' d3
          have HX2 : Hid _ := HLO.out w3 HB3.out
          clear HLO HCC HCM HW0 HB3
          go_wp2_with fail
          exact ⟨⟨i, h, li, l1, by omega, rfl, rfl, HQ2, HX2⟩, by simp [intOf]; omega⟩
        · have HQ2 := HNO.out (by omega)
          have hc2 : decide (CV < 0) = false := decide_eq_false hc
          clear HYES HNO
          go_wp2_with fail
          go_region_held3 (fun W => (W.cell? ⟨g, q * 4, none⟩ = some (.int .u64 x.root) ∧ W.cell? ⟨g, q * 4 + 1, none⟩ = some (.int .i64 x.cost) ∧ W.cell? ⟨g, q * 4 + 2, none⟩ = some (.int .u64 x.bridge) ∧ W.cell? ⟨g, q * 4 + 3, none⟩ = some (.int .i64 x.port)) ∧ W.cell? ⟨g, h * 4, none⟩ = some (.int .u64 y.root) ∧ W.cell? ⟨g, h * 4 + 1, none⟩ = some (.int .i64 y.cost) ∧ W.cell? ⟨g, h * 4 + 2, none⟩ = some (.int .u64 y.bridge) ∧ W.cell? ⟨g, h * 4 + 3, none⟩ = some (.int .i64 y.port))
            (first | (exact HCC.out _ (Below.drew HW0.out)) | (exact HCC.out _ (Hid.out (by assumption))))
            (first | (go_at_call 9; refine (HCM.out _ (Below.drew HW0.out)).mono ?_; rintro e w3 ⟨rfl, HB3⟩))
          clear c0 c1 c2 c3 d0 d1' d2' d3
          have HX2 : Hid _ := HLO.out w3 HB3.out
          clear HLO HCC HCM HW0 HB3
          go_wp2_with fail
          exact ⟨⟨h + 1, j, by omega, by omega, uj, by go_num, rfl, HQ2, HX2⟩, by simp [intOf]; omega⟩
    · obtain rfl : i = j := by omega
      obtain ⟨z1, z2, z3, z4, z5, _⟩ := HR.out
      have hNN := HN.out
      have hPP := HP.out
      obtain ⟨e, he⟩ : ∃ e, e = N - i := ⟨_, rfl⟩
      have we : IntKind.i64.wrap ((N : Int) - (i : Int)) = (e : Int) := by rw [wraps_i64 _ (by omega) (by omega)]; omega
      have y1 : a ≤ i := by omega
      have y2 : i ≤ m := by omega
      have y3 : m ≤ e := by omega
      have y4 : e ≤ b := by omega
      have y5 : mid = i + (e - m) := by omega
      have y6 : i ≤ mid := by omega
      have y7 : mid ≤ e := by omega
      have HPT : Hid _ := Vc.rot_parts a i m e b f y1 y2 y3 y4 HS1.out HS2.out
        (fun q1 q2 => by
          by_cases c : lo < i
          · have := hQ.out.1 (i - 1) (by omega) (by omega)
            rw [show p - (i - 1) = e by omega] at this
            exact this
          · rcases HCASE.out with ⟨t1, t2, t3⟩ | ⟨t1, t2, t3⟩
            · omega
            · omega)
        (fun q1 q2 => by
          by_cases c : i < hi
          · have := hQ.out.2 i (by omega) c
            rw [show p - i = e - 1 by omega] at this
            exact this
          · rcases HCASE.out with ⟨t1, t2, t3⟩ | ⟨t1, t2, t3⟩
            · omega
            · omega)
      rw [← y5] at HPT
      clear y5
      have HX : Hid (wr.heap[g]? = some (.cells (rowV n f) 27 (0, 0)) ∧ Below g w wr) := hX
      have HROT : Hid (i < m → m < e → Calls Try.prog 36 #[.slice (some ⟨g, 0, none⟩) n cap, .int .i64 i, .int .i64 m, .int .i64 e, .func (.func 9) #[] #[]] wr fun x w' => x = .returned (.tuple #[]) ∧ w'.heap[g]? = some (.cells (rowV n (Vc.rot i m e f)) 27 (0, 0)) ∧ Vc.Pm i e f (Vc.rot i m e f) ∧ Below g wr w') := fun q1 q2 => srotate_any g n cap i m e f _ wr HX.out.1 hn q1 q2 (by omega)
      have HNR : Hid (¬ (i < m ∧ m < e) → Vc.rot i m e f = f) := fun q => by
        by_cases c : i = m
        · subst c; exact Vc.rot_none1 i e f y3
        · have : e = m := by omega
          subst this; exact Vc.rot_none2 i e f
      clear hQ hX he hNN hPP z1 z2 z3 z4 z5 HR HCASE HN HP HS1 HS2 li uj hlt
      generalize Vc.rot i m e f = G0 at *
      go_upto_region 39 with fail
      go_cut [185] (fun v wx => v = .bool (decide (i < m ∧ m < e)) ∧ Hid (wx.heap[g]? = some (.cells (rowV n f) 27 (0, 0)) ∧ wx = wr))
      case first =>
        as_aux_lemma =>
          by_cases q1 : i < m
          · have q1' : (i : Int) < (m : Int) := by omega
            by_cases q2 : m < e
            · have q2' : (m : Int) < (e : Int) := by omega
              have HD : Hid (decide (i < m ∧ m < e) = true) := decide_eq_true ⟨q1, q2⟩
              go_wp2_with fail
              go_meet
              exact ⟨by rw [HD.out], HX.out.1, rfl⟩
            · have q2' : decide ((m : Int) < (e : Int)) = false := decide_eq_false (by omega)
              have HD : Hid (decide (i < m ∧ m < e) = false) := decide_eq_false (fun q => q2 q.2)
              go_wp2_with fail
              go_meet
              exact ⟨by rw [HD.out], HX.out.1, rfl⟩
          · have q1' : decide ((i : Int) < (m : Int)) = false := decide_eq_false (by omega)
            have HD : Hid (decide (i < m ∧ m < e) = false) := decide_eq_false (fun q => q1 q.1)
            go_wp2_with fail
            go_meet
            exact ⟨by rw [HD.out], HX.out.1, rfl⟩
      case rest =>
      obtain ⟨rfl, HXC⟩ := hcut
      go_upto_if 185 with fail
      go_cut [191] (fun _ wx => Hid (wx.heap[g]? = some (.cells (rowV n G0) 27 (0, 0)) ∧ Vc.Pm a b f G0 ∧ Below g w wx))
      case first =>
        as_aux_lemma =>
          have hw := HXC.out.2
          clear HXC
          subst hw
          by_cases q : i < m ∧ m < e
          · have dq : decide (i < m ∧ m < e) = true := decide_eq_true q
            have HC := HROT.out q.1 q.2
            clear HROT HNR HIH
            rw [dq]
            go_wp2_with fail
            refine HC.mono ?_
            rintro x w5 ⟨rfl, k1, k2, k3⟩
            have HF : Hid (w5.heap[g]? = some (.cells (rowV n G0) 27 (0, 0)) ∧ Vc.Pm a b f G0 ∧ Below g w w5) := ⟨k1, k2.mono y1 y4, HX.out.2.trans (k3.mono (Nat.le_refl _))⟩
            clear k1 k2 k3
            go_wp2_with fail
            go_meet
            exact HF
          · have dq : decide (i < m ∧ m < e) = false := decide_eq_false q
            have HF : Hid (wc.heap[g]? = some (.cells (rowV n G0) 27 (0, 0)) ∧ Vc.Pm a b f G0 ∧ Below g w wc) := by
              have hq := HNR.out q
              rw [hq]
              exact ⟨HX.out.1, Vc.Pm.refl, HX.out.2⟩
            clear HROT HNR HIH
            rw [dq]
            go_wp2_with fail
            go_meet
            exact HF
      case rest =>
      have HX1 : Hid (wc.heap[g]? = some (.cells (rowV n G0) 27 (0, 0)) ∧ Vc.Pm a b f G0 ∧ Below g w wc) := hcut
      have HPM0 : Hid (Vc.Pm a b f G0) := HX1.out.2.1
      clear hcut HROT HNR HX HXC
      go_upto_region 41 with fail
      go_cut [199] (fun v wx => v = .bool (decide (a < i ∧ i < mid)) ∧ Hid (wx.heap[g]? = some (.cells (rowV n G0) 27 (0, 0)) ∧ Below g w wx))
      case first =>
        as_aux_lemma =>
          have HX2 : Hid (wc.heap[g]? = some (.cells (rowV n G0) 27 (0, 0)) ∧ Below g w wc) := ⟨HX1.out.1, HX1.out.2.2⟩
          clear HX1 HIH HPT
          by_cases q1 : a < i
          · have q1' : (a : Int) < (i : Int) := by omega
            by_cases q2 : i < mid
            · have q2' : (i : Int) < (mid : Int) := by omega
              have HD : Hid (decide (a < i ∧ i < mid) = true) := decide_eq_true ⟨q1, q2⟩
              go_wp2_with fail
              go_meet
              exact ⟨by rw [HD.out], HX2⟩
            · have q2' : decide ((i : Int) < (mid : Int)) = false := decide_eq_false (by omega)
              have HD : Hid (decide (a < i ∧ i < mid) = false) := decide_eq_false (fun q => q2 q.2)
              go_wp2_with fail
              go_meet
              exact ⟨by rw [HD.out], HX2⟩
          · have q1' : decide ((a : Int) < (i : Int)) = false := decide_eq_false (by omega)
            have HD : Hid (decide (a < i ∧ i < mid) = false) := decide_eq_false (fun q => q1 q.1)
            go_wp2_with fail
            go_meet
            exact ⟨by rw [HD.out], HX2⟩
      case rest =>
      clear HX1
      obtain ⟨rfl, HX1⟩ := hcut
      go_upto_if 199 with fail
      go_cut [205] (fun _ wx => Hid (∃ G1, wx.heap[g]? = some (.cells (rowV n G1) 27 (0, 0)) ∧ Vc.Pm a mid G0 G1 ∧ Vc.SIn a mid G1 ∧ Below g w wx))
      case first =>
        as_aux_lemma =>
          by_cases q : a < i ∧ i < mid
          · have dq : decide (a < i ∧ i < mid) = true := decide_eq_true q
            have HC := HIH.out a i mid G0 _ (by omega) HX1.out.1 q.1 q.2 (by omega) HPT.out.1 HPT.out.2.1
            clear HIH HPT
            rw [dq]
            go_wp2_with fail
            refine HC.mono ?_
            rintro x w5 ⟨rfl, G1, k1, k2, k3, k4⟩
            have HF : Hid (∃ G1, w5.heap[g]? = some (.cells (rowV n G1) 27 (0, 0)) ∧ Vc.Pm a mid G0 G1 ∧ Vc.SIn a mid G1 ∧ Below g w w5) := ⟨G1, k1, k2, k3, HX1.out.2.trans (k4.mono (Nat.le_refl _))⟩
            clear k1 k2 k3 k4
            go_wp2_with fail
            go_meet
            exact HF
          · have dq : decide (a < i ∧ i < mid) = false := decide_eq_false q
            have HF : Hid (∃ G1, wc.heap[g]? = some (.cells (rowV n G1) 27 (0, 0)) ∧ Vc.Pm a mid G0 G1 ∧ Vc.SIn a mid G1 ∧ Below g w wc) := ⟨G0, HX1.out.1, Vc.Pm.refl, by
              by_cases c : a = i
              · rw [c]; exact HPT.out.2.1
              · rw [show mid = i by omega]; exact HPT.out.1, HX1.out.2⟩
            clear HIH HPT
            rw [dq]
            go_wp2_with fail
            go_meet
            exact HF
      case rest =>
      clear HX1
      obtain ⟨G1, k1, k2, k3, k4⟩ := hcut.out
      have HX1 : Hid (wc.heap[g]? = some (.cells (rowV n G1) 27 (0, 0)) ∧ Below g w wc) := ⟨k1, k4⟩
      have HP1 : Hid (Vc.Pm a mid G0 G1 ∧ Vc.SIn a mid G1) := ⟨k2, k3⟩
      have HS3 : Hid (Vc.SIn mid e G1 ∧ Vc.SIn e b G1) := ⟨HPT.out.2.2.1.congr (fun x q1 _ => k2.out x (by omega)), HPT.out.2.2.2.1.congr (fun x q1 _ => k2.out x (by omega))⟩
      have HCR : Hid (∀ G2, Vc.Pm mid b G1 G2 → Vc.SIn mid b G2 → Vc.Pm a b f G2 ∧ Vc.SIn a b G2) := fun G2 t1 t2 => ⟨(HPM0.out.trans (HP1.out.1.mono (Nat.le_refl _) (by omega))).trans (t1.mono (by omega) (Nat.le_refl _)), Vc.halves a mid b G0 G1 G2 HP1.out.1 t1 HP1.out.2 t2 HPT.out.2.2.2.2⟩
      clear hcut k1 k2 k3 k4 HPT HPM0 HP1
      go_upto_region 43 with fail
      go_cut [213] (fun v wx => v = .bool (decide (mid < e ∧ e < b)) ∧ Hid (wx.heap[g]? = some (.cells (rowV n G1) 27 (0, 0)) ∧ Below g w wx))
      case first =>
        as_aux_lemma =>
          clear HIH HCR HS3
          by_cases q1 : mid < e
          · have q1' : (mid : Int) < (e : Int) := by omega
            by_cases q2 : e < b
            · have q2' : (e : Int) < (b : Int) := by omega
              have HD : Hid (decide (mid < e ∧ e < b) = true) := decide_eq_true ⟨q1, q2⟩
              go_wp2_with fail
              go_meet
              exact ⟨by rw [HD.out], HX1⟩
            · have q2' : decide ((e : Int) < (b : Int)) = false := decide_eq_false (by omega)
              have HD : Hid (decide (mid < e ∧ e < b) = false) := decide_eq_false (fun q => q2 q.2)
              go_wp2_with fail
              go_meet
              exact ⟨by rw [HD.out], HX1⟩
          · have q1' : decide ((mid : Int) < (e : Int)) = false := decide_eq_false (by omega)
            have HD : Hid (decide (mid < e ∧ e < b) = false) := decide_eq_false (fun q => q1 q.1)
            go_wp2_with fail
            go_meet
            exact ⟨by rw [HD.out], HX1⟩
      case rest =>
      clear HX1
      obtain ⟨rfl, HX1⟩ := hcut
      by_cases q : mid < e ∧ e < b
      · as_aux_lemma =>
          have dq : decide (mid < e ∧ e < b) = true := decide_eq_true q
          have HC := HIH.out mid e b G1 _ (by omega) HX1.out.1 q.1 q.2 (by omega) HS3.out.1 HS3.out.2
          clear HIH
          rw [dq]
          go_wp2_with fail
          refine HC.mono ?_
          rintro x w5 ⟨rfl, G2, k1, k2, k3, k4⟩
          have HF : Hid (MergeOut g n a b f w (.returned (.tuple #[])) w5) := ⟨rfl, G2, k1, (HCR.out G2 k2 k3).1, (HCR.out G2 k2 k3).2, HX1.out.2.trans (k4.mono (Nat.le_refl _))⟩
          clear k1 k2 k3 k4
          go_wp2_with fail
          exact bodyPost_end (results_none Try.results35 _ _ _) rfl HF.out
      · as_aux_lemma =>
          have dq : decide (mid < e ∧ e < b) = false := decide_eq_false q
          have HT : Hid (Vc.Pm a b f G1 ∧ Vc.SIn a b G1) := HCR.out G1 Vc.Pm.refl (by
            by_cases c : mid = e
            · rw [c]; exact HS3.out.2
            · have hE : e = b := by omega
              rw [← hE]; exact HS3.out.1)
          clear HIH HCR
          rw [dq]
          go_wp2_with fail
          exact bodyPost_end (results_none Try.results35 _ _ _) rfl ⟨rfl, G1, HX1.out.1, HT.out.1, HT.out.2, HX1.out.2⟩
theorem smerge_any (g n cap : Nat) (hn : n ≤ 4398046511104) : ∀ (d a m b : Nat) (f : Nat → V) (w : World), b - a ≤ d → w.heap[g]? = some (.cells (rowV n f) 27 (0, 0)) → a < m → m < b → b ≤ n → Vc.SIn a m f → Vc.SIn m b f →
    Calls Try.prog 35 #[.slice (some ⟨g, 0, none⟩) n cap, .int .i64 a, .int .i64 m, .int .i64 b, .func (.func 9) #[] #[]] w (MergeOut g n a b f w) := by
  intro d
  induction d with
  | zero => intro a m b f w hd _ h1 h2; omega
  | succ d ih =>
    intro a m b f w hd hA h1 h2 h3 s1 s2
    by_cases c1 : m = a + 1
    · exact smergeA g n cap a m b f w hA hn c1 h2 h3 s2
    · by_cases c2 : b = m + 1
      · exact smergeB g n cap a m b f w hA hn c2 (by omega) h3 s1
      · exact smergeG g n cap a m b f w hA hn (by omega) (by omega) h3 s1 s2 (fun a' m' b' F W q1 q2 q3 q4 q5 q6 q7 => ih a' m' b' F W (by omega) q2 q3 q4 q5 q6 q7)
end Go.Proofs.Ythnklbcaodhbfaa
