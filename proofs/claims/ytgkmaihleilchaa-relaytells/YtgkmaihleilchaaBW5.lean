/- walks: package book's Learn -/
import Derived.Test.YtgkmaihleilchaaBAp
namespace Go.Proofs.Ytgkmaihleilchaa
open Go.RowKit
open Bk (E at')

set_option maxRecDepth 20000 in
set_option maxHeartbeats 2000000 in
theorem blearn_any (ao : Option Addr) (cap : Nat) (l : List E) (vid addr port : Int) (w : World) (hbk : Bk.Book l) (hr : BEL w ao cap l) (hnil : NilOk ao l.length cap) (h0 : 0 ≤ addr) (h1 : addr < 18446744073709551616) :
    Calls Try.prog 35 #[.slice ao l.length cap, .int .i64 vid, .int .u64 addr, .int .i64 port] w fun e w' => ∃ v, e = .returned v ∧ OwnE w' w.heap.size v (Bk.learn l ⟨vid, addr, port, 0⟩) ∧ Below w.heap.size w w' := by
  have hn := hbk.many
  have hcap : l.length ≤ cap := hr.1
  have HRW : Hid (∀ W, Below w.heap.size w W → BEL W ao cap l) := fun W hW => BEL.below hr hW
  have HBK : Hid (Bk.Book l) := hbk
  have HNL : Hid (NilOk ao l.length cap) := hnil
  obtain ⟨s, hs⟩ : ∃ s : E, s = ⟨vid, addr, port, 0⟩ := ⟨_, rfl⟩
  obtain ⟨X, HX⟩ : ∃ X, Hid (X = w.alloc (.cells #[.int .i64 vid, .int .u64 addr, .int .i64 port, .int .i64 0] 76)) := ⟨_, rfl⟩
  have HXB : Hid (Below w.heap.size w X) := by rw [HX.out]; exact below_alloc1 _ _
  have HXS : Hid (X.heap[w.heap.size]? = some (.cells #[.int .i64 vid, .int .u64 addr, .int .i64 port, .int .i64 0] 76 (0, 0))) := by rw [HX.out]; exact heap_alloc_last _ _
  have HF : Hid (Calls Try.prog 47 #[.slice ao l.length cap, .int .i64 vid, .int .u64 addr] X fun e w' => ∃ (k : Nat) (kn : Bool), e = .returned (.tuple #[.int .i64 k, .bool kn]) ∧ k ≤ l.length ∧ (kn = true → k < l.length) ∧ Hid (decide (Bk.Known l s) = kn ∧ Bk.Spot l s k) ∧ w'.heap[w.heap.size]? = some (.cells #[.int .i64 vid, .int .u64 addr, .int .i64 port, .int .i64 0] 76 (0, 0)) ∧ Hid (Below w.heap.size w w')) := by
    refine (bfind_any ao cap l vid addr X hbk (HRW.out X HXB.out)).mono ?_
    rintro e w' ⟨k, rfl, hs', hb⟩
    have hsp : Bk.Spot l s k := by subst hs; exact hs'
    have hkn : decide (Bk.Known l s) = decide (Bk.Known l (sought vid addr)) := by subst hs; rfl
    refine ⟨k, _, rfl, hs'.1, fun h => ((hs'.known hbk).1 (of_decide_eq_true h)).1, ⟨hkn, hsp⟩, keep HXS.out hb, HXB.out.trans (hb.mono HXB.out.size)⟩
  have HMY : Hid (∀ W, W.heap[w.heap.size]? = some (.cells #[.int .i64 vid, .int .u64 addr, .int .i64 port, .int .i64 0] 76 (0, 0)) → Below w.heap.size w W → Calls Try.prog 60 #[.agg #[.int .i64 vid, .int .u64 addr, .int .i64 port, .int .i64 0]] W fun e w' => e = .returned (.bool (decide (Bk.may s))) ∧ w'.heap[w.heap.size]? = some (.cells #[.int .i64 vid, .int .u64 addr, .int .i64 port, .int .i64 0] 76 (0, 0)) ∧ Hid (Below w.heap.size w w')) := fun W hW hB => by
    have := bmay_any ⟨vid, addr, port, 0⟩ W h0 h1
    rw [hs]
    refine this.mono ?_
    rintro e w' ⟨rfl, hb⟩
    exact ⟨rfl, keep hW hb, hB.trans (hb.mono hB.size)⟩
  rw [← hs]
  -- as it was
  have HSAME : Hid (∀ W, Below w.heap.size w W → ∃ a1 c1 w', (Builtin.append_ #[26, 26] 26 #[.slice none 0 0, .slice ao l.length cap]).run Try.prog W = .ok (.slice a1 l.length c1) w' ∧ Hid (OwnE w' w.heap.size (.slice a1 l.length c1) l ∧ Below w.heap.size w w')) := fun W hW => by
    obtain ⟨a1, c1, w', r, o, b, _⟩ := append_e W w.heap.size (.slice none 0 0) [] (OwnE.nil W _) ao cap l l.length rfl (HRW.out W hW) HNL.out (by simp; omega) hW.size
    exact ⟨a1, c1, w', r, o, hW.trans b⟩
  have HLS : Hid ((¬ Bk.may s ∨ (¬ Bk.Known l s ∧ 30 ≤ l.length)) → Bk.learn l s = l) := fun h => if_pos h
  clear hbk hr hnil h0 h1
  go_enter Try.func35, Try.ntmps35
  go_wp2_with fail
  rw [← HX.out]
  refine HF.out.mono ?_
  rintro e w1 ⟨k, kn, rfl, hkl, hK, HSP, hs1, HB1⟩
  clear HF HX HXB HXS
  have HM1 := HMY.out w1 hs1 HB1.out
  obtain ⟨c0, c1, c2, c3⟩ := en_cells hs1
  clear HMY hs1
  by_cases hm : Bk.may s
  · rw [decide_eq_true hm] at HM1
    by_cases h30 : kn = false ∧ 30 ≤ l.length
    · obtain ⟨rfl, h30⟩ := h30
      have HL : Hid _ := HLS.out (Or.inr ⟨of_decide_eq_false HSP.out.1, h30⟩)
      have h30z : (30 : Int) ≤ (l.length : Int) := by omega
      clear HLS HSP hK hm
      go_wp2_with fail
      refine HM1.mono ?_
      rintro e w2 ⟨rfl, hs2, HB2⟩
      obtain ⟨a1, c1', w3, r, HO⟩ := HSAME.out w2 HB2.out
      have HR : Hid _ := r
      clear r HSAME
      go_wp2_with (at_builtin; refine wpList_append_run rfl (.const (.slice none 0 0)) (.tmp 37) 26 rfl _ _ _ rfl rfl HR.out ?_)
      go_ret
      exact ⟨_, rfl, by rw [HL.out]; exact HO.out.1, HO.out.2⟩
    · cases kn with
      | false =>
        have hlt : l.length < 30 := by
          rcases Nat.lt_or_ge l.length 30 with q | q
          · exact q
          · exact absurd ⟨rfl, q⟩ h30
        have h30z : (l.length : Int) < 30 := by omega
        have HL : Hid (Bk.learn l s = l.take k ++ s :: l.drop k) := by
          have hu : ¬ Bk.Known l s := of_decide_eq_false HSP.out.1
          show (if ¬ Bk.may s ∨ (¬ Bk.Known l s ∧ 30 ≤ l.length) then l else Bk.lo l s ++ s :: Bk.hi l s) = _
          rw [if_neg (fun h => h.elim (fun h => h hm) (fun h => by omega)), HSP.out.2.lo, HSP.out.2.hi_new hu]
        clear HLS hK h30
        go_wp2_with fail
        refine HM1.mono ?_
        rintro e w2 ⟨rfl, hs2, HB2⟩
        cases ao with
        | none =>
          obtain ⟨hl0, rfl⟩ := HNL.out rfl
          obtain rfl : k = 0 := by omega
          obtain rfl : l = [] := List.eq_nil_of_length_eq_zero hl0
          obtain ⟨cs, a2, c2', Y, hmk, r2, r3, hXs, HO⟩ := learn_app0 w w2 HB2.out _ s (by rw [hs]; rfl) hs2
          have HR2 : Hid _ := r2
          have HR3 : Hid _ := r3
          have HOO : Hid _ := HO
          obtain ⟨x0, x1, x2, x3⟩ := en_cells hXs
          obtain ⟨y0, y1, y2, y3⟩ := en_cells hs2
          have hlw := block_lt_of_cell y0
          clear r2 r3 HO hXs c0 c1 c2 c3 hs2 HSAME
          go_wp2_with (at_builtin; first | (refine wpList_append_run rfl (.tmp 58) (.tmp 60) 26 rfl _ _ _ rfl rfl HR2.out ?_; clear HR2) | (refine wpList_append_run rfl (.tmp 62) (.tmp 63) 26 rfl _ _ _ rfl rfl HR3.out ?_; clear HR3))
          go_ret
          exact ⟨_, rfl, by rw [HL.out]; exact HOO.out.1, HOO.out.2⟩
        | some ad =>
          by_cases hkc : k = cap
          · subst hkc
            obtain ⟨cs, a1, c1', X', a2, c2', Y, a3, c3', Z, hmk, r1, r2, r3, hXs, HO⟩ := learn_app w w2 HB2.out _ s (by rw [hs]; rfl) hs2 (some ad) k (l.take k) k (by simp; omega) ((HRW.out w (Below.refl _ _)).take k hkl) (fun h => by cases h) (some ad) 0 (l.drop k) 0 (by simp; omega) (BEL.dropZ (by omega)) (fun h => by cases h) (by omega) (k + 1) (by omega)
            rw [show ((k + 1 : Nat) : Int) = (k : Int) + 1 by omega] at hmk
            have HR1 : Hid _ := r1
            have HR2 : Hid _ := r2
            have HR3 : Hid _ := r3
            have HOO : Hid _ := HO
            have i0 : (0 : Int) ≤ (k : Int) := by omega
            have i1 : (k : Int) ≤ (k : Int) := by omega
            obtain ⟨x0, x1, x2, x3⟩ := en_cells hXs
            clear r1 r2 r3 HO hXs c0 c1 c2 c3 hs2 HSAME
            go_wp2_with (at_builtin; first | (refine wpList_append_run rfl (.tmp 53) (.tmp 56) 26 rfl _ _ _ rfl rfl HR1.out ?_; clear HR1) | (refine wpList_append_run rfl (.tmp 58) (.tmp 60) 26 rfl _ _ _ rfl rfl HR2.out ?_; clear HR2) | (refine wpList_append_run rfl (.tmp 62) (.tmp 63) 26 rfl _ _ _ rfl rfl HR3.out ?_; clear HR3))
            go_ret
            exact ⟨_, rfl, by rw [HL.out]; exact HOO.out.1, HOO.out.2⟩
          · obtain ⟨cs, a1, c1', X', a2, c2', Y, a3, c3', Z, hmk, r1, r2, r3, hXs, HO⟩ := learn_app w w2 HB2.out _ s (by rw [hs]; rfl) hs2 (some ad) cap (l.take k) k (by simp; omega) ((HRW.out w (Below.refl _ _)).take k hkl) (fun h => by cases h) (some (ad.add (k * 4))) (cap - k) (l.drop k) (l.length - k) (by simp) ((HRW.out w (Below.refl _ _)).dropA k (by omega)) (fun h => by cases h) (by omega) (k + 1 + (l.length - k)) (by omega)
            rw [show ((k + 1 + (l.length - k) : Nat) : Int) = (k : Int) + 1 + ((l.length - k : Nat) : Int) by omega] at hmk
            have HR1 : Hid _ := r1
            have HR2 : Hid _ := r2
            have HR3 : Hid _ := r3
            have HOO : Hid _ := HO
            have i0 : (0 : Int) ≤ (k : Int) := by omega
            have i1 : (k : Int) ≤ (cap : Int) := by omega
            obtain ⟨x0, x1, x2, x3⟩ := en_cells hXs
            clear r1 r2 r3 HO hXs c0 c1 c2 c3 hs2 HSAME
            go_wp2_with (at_builtin; first | (refine wpList_append_run rfl (.tmp 53) (.tmp 56) 26 rfl _ _ _ rfl rfl HR1.out ?_; clear HR1) | (refine wpList_append_run rfl (.tmp 58) (.tmp 60) 26 rfl _ _ _ rfl rfl HR2.out ?_; clear HR2) | (refine wpList_append_run rfl (.tmp 62) (.tmp 63) 26 rfl _ _ _ rfl rfl HR3.out ?_; clear HR3))
            go_ret
            exact ⟨_, rfl, by rw [HL.out]; exact HOO.out.1, HOO.out.2⟩
      | true =>
        have hlt : k < l.length := hK rfl
        have HL : Hid (Bk.learn l s = l.take k ++ s :: l.drop (k + 1)) := by
          have hu : Bk.Known l s := of_decide_eq_true HSP.out.1
          show (if ¬ Bk.may s ∨ (¬ Bk.Known l s ∧ 30 ≤ l.length) then l else Bk.lo l s ++ s :: Bk.hi l s) = _
          rw [if_neg (fun h => h.elim (fun h => h hm) (fun h => h.1 hu)), HSP.out.2.lo, HSP.out.2.hi_old HBK.out hu]
        clear HLS hK h30
        go_wp2_with fail
        refine HM1.mono ?_
        rintro e w2 ⟨rfl, hs2, HB2⟩
        cases ao with
        | none =>
          have := HNL.out rfl
          omega
        | some ad =>
          by_cases hkc : k + 1 = cap
          · subst hkc
            obtain ⟨cs, a1, c1', X', a2, c2', Y, a3, c3', Z, hmk, r1, r2, r3, hXs, HO⟩ := learn_app w w2 HB2.out _ s (by rw [hs]; rfl) hs2 (some ad) (k + 1) (l.take k) k (by simp; omega) ((HRW.out w (Below.refl _ _)).take k hkl) (fun h => by cases h) (some ad) 0 (l.drop (k + 1)) 0 (by simp; omega) (BEL.dropZ (by omega)) (fun h => by cases h) (by omega) (k + 1) (by omega)
            rw [show ((k + 1 : Nat) : Int) = (k : Int) + 1 by omega] at hmk
            have HR1 : Hid _ := r1
            have HR2 : Hid _ := r2
            have HR3 : Hid _ := r3
            have HOO : Hid _ := HO
            have i0 : (0 : Int) ≤ (k : Int) := by omega
            have i1 : (k : Int) ≤ ((k + 1) : Int) := by omega
            obtain ⟨x0, x1, x2, x3⟩ := en_cells hXs
            clear r1 r2 r3 HO hXs c0 c1 c2 c3 hs2 HSAME
            go_wp2_with (at_builtin; first | (refine wpList_append_run rfl (.tmp 53) (.tmp 56) 26 rfl _ _ _ rfl rfl HR1.out ?_; clear HR1) | (refine wpList_append_run rfl (.tmp 58) (.tmp 60) 26 rfl _ _ _ rfl rfl HR2.out ?_; clear HR2) | (refine wpList_append_run rfl (.tmp 62) (.tmp 63) 26 rfl _ _ _ rfl rfl HR3.out ?_; clear HR3))
            go_ret
            exact ⟨_, rfl, by rw [HL.out]; exact HOO.out.1, HOO.out.2⟩
          · obtain ⟨cs, a1, c1', X', a2, c2', Y, a3, c3', Z, hmk, r1, r2, r3, hXs, HO⟩ := learn_app w w2 HB2.out _ s (by rw [hs]; rfl) hs2 (some ad) cap (l.take k) k (by simp; omega) ((HRW.out w (Below.refl _ _)).take k hkl) (fun h => by cases h) (some (ad.add ((k + 1) * 4))) (cap - (k + 1)) (l.drop (k + 1)) (l.length - (k + 1)) (by simp) ((HRW.out w (Below.refl _ _)).dropA (k + 1) (by omega)) (fun h => by cases h) (by omega) (k + 1 + (l.length - (k + 1))) (by omega)
            rw [show ((k + 1 + (l.length - (k + 1)) : Nat) : Int) = (k : Int) + 1 + ((l.length - (k + 1) : Nat) : Int) by omega] at hmk
            have HR1 : Hid _ := r1
            have HR2 : Hid _ := r2
            have HR3 : Hid _ := r3
            have HOO : Hid _ := HO
            have i0 : (0 : Int) ≤ (k : Int) := by omega
            have i1 : (k : Int) ≤ (cap : Int) := by omega
            obtain ⟨x0, x1, x2, x3⟩ := en_cells hXs
            clear r1 r2 r3 HO hXs c0 c1 c2 c3 hs2 HSAME
            go_wp2_with (at_builtin; first | (refine wpList_append_run rfl (.tmp 53) (.tmp 56) 26 rfl _ _ _ rfl rfl HR1.out ?_; clear HR1) | (refine wpList_append_run rfl (.tmp 58) (.tmp 60) 26 rfl _ _ _ rfl rfl HR2.out ?_; clear HR2) | (refine wpList_append_run rfl (.tmp 62) (.tmp 63) 26 rfl _ _ _ rfl rfl HR3.out ?_; clear HR3))
            go_ret
            exact ⟨_, rfl, by rw [HL.out]; exact HOO.out.1, HOO.out.2⟩
  · rw [decide_eq_false hm] at HM1
    have HL : Hid _ := HLS.out (Or.inl hm)
    clear HLS HSP hK hm
    go_wp2_with fail
    refine HM1.mono ?_
    rintro e w2 ⟨rfl, hs2, HB2⟩
    obtain ⟨a1, c1', w3, r, HO⟩ := HSAME.out w2 HB2.out
    have HR : Hid _ := r
    clear r HSAME
    go_wp2_with (at_builtin; refine wpList_append_run rfl (.const (.slice none 0 0)) (.tmp 37) 26 rfl _ _ _ rfl rfl HR.out ?_)
    go_ret
    exact ⟨_, rfl, by rw [HL.out]; exact HO.out.1, HO.out.2⟩
end Go.Proofs.Ytgkmaihleilchaa
