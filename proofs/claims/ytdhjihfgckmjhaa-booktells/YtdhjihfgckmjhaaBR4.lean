/- walks: the document's Learn (hedgeref8); by tools/gen_rlearn8.py -/
import Derived.Test.YtdhjihfgckmjhaaBRa
import Derived.Test.YtdhjihfgckmjhaaBMd3
namespace Go.Proofs.Ytdhjihfgckmjhaa
open Go.RowKit
open Bk (E at')

/-- What the loop keeps. -/
def RLn (W0 W : World) (v : Value) (m : Nat) (pu ha : Bool) (l : List E) (s : E) (k : Nat) : Prop :=
  m = (Bk.outK l s k).length ∧ pu = Bk.putK l s k ∧ ha = Bk.hadK l s k ∧ OwnE W W0.heap.size v (Bk.outK l s k) ∧ Below W0.heap.size W0 W
/-- The same book, or a row of the call's own. -/
def BkD (w' : World) (base : Nat) (ao : Option Addr) (cap : Nat) (l : List E) (a : Option Addr) (c : Nat) (m : List E) : Prop := (a = ao ∧ c = cap ∧ m = l) ∨ OwnE w' base (.slice a m.length c) m
set_option maxRecDepth 100000 in
set_option maxHeartbeats 8000000 in
theorem rlearn8_own (ao : Option Addr) (cap : Nat) (l : List E) (vid addr port : Int) (w : World) (hbk : Bk.Book l) (hr : BEL w ao cap l) (h0 : 0 ≤ addr) (h1 : addr < 18446744073709551616) :
    Calls Try.prog 14 #[.slice ao l.length cap, .int .i64 vid, .int .u64 addr, .int .i64 port] w fun e w' => ∃ a c, e = .returned (.slice a (Bk.learn l ⟨vid, addr, port, 0⟩).length c) ∧ BEL w' a c (Bk.learn l ⟨vid, addr, port, 0⟩) ∧ Below w.heap.size w w' ∧ BkD w' w.heap.size ao cap l a c (Bk.learn l ⟨vid, addr, port, 0⟩) := by
  have hn := hbk.many
  have hcap : l.length ≤ cap := hr.1
  have HBK : Hid (Bk.Book l) := hbk
  have HRW : Hid (∀ W, Below w.heap.size w W → BEL W ao cap l) := fun W hW => BEL.below hr hW
  obtain ⟨s, hs⟩ : ∃ s : E, s = ⟨vid, addr, port, 0⟩ := ⟨_, rfl⟩
  have HSF : Hid (s.vid = vid ∧ s.addr = addr ∧ s.port = port ∧ s.age = 0) := by rw [hs]; exact ⟨rfl, rfl, rfl, rfl⟩
  have d1 : Int.tdiv addr 1099511627776 = addr / 1099511627776 := Int.tdiv_eq_ediv_of_nonneg h0
  have d2 : Int.tmod (addr / 1099511627776) 2 = addr / 1099511627776 % 2 := Int.tmod_eq_emod_of_nonneg (by omega)
  rw [← hs]
  have HNOT : Hid (¬ Bk.may s → Bk.learn l s = l) := fun h => if_pos (Or.inl h)
  have HMY : Hid (Bk.may s ↔ ((1 ≤ vid ∧ vid ≤ 4094) ∧ addr ≤ 281474976710655 ∧ (0 ≤ port ∧ port ≤ 30)) ∧ addr / 1099511627776 % 2 = 0) := by
    rw [hs]
    show (_ ∧ _) ↔ _
    unfold Bk.rng
    simp only
    omega
  have HSE : Hid (s = ⟨vid, addr, port, 0⟩) := hs
  clear hbk hr hs
  by_cases p1 : addr / 1099511627776 % 2 = 0
  · have e0 : (addr / 1099511627776 % 2 == 1) = false := by simp [p1]
    by_cases p2 : addr ≤ 281474976710655
    · by_cases p3 : 1 ≤ vid
      · by_cases p4 : vid ≤ 4094
        · by_cases p5 : 0 ≤ port
          · by_cases p6 : port ≤ 30
            · have hm : Bk.may s := HMY.out.2 (by omega)
              clear HNOT HMY
              obtain ⟨W0, HW0⟩ : ∃ W0, Hid (W0 = w.alloc (.cells #[.int .i64 vid, .int .u64 addr, .int .i64 port, .int .i64 0] 41)) := ⟨_, rfl⟩
              have HB0 : Hid (Below w.heap.size w W0) := by rw [HW0.out]; exact below_alloc1 _ _
              have HS0 : Hid (∀ W, Below W0.heap.size W0 W → W.heap[w.heap.size]? = some (.cells #[.int .i64 vid, .int .u64 addr, .int .i64 port, .int .i64 0] 41 (0, 0))) := fun W hW => by
                rw [HW0.out] at hW
                exact keep (heap_alloc_last w _) hW
              have HRL : Hid (∀ W, Below W0.heap.size W0 W → Below w.heap.size w W) := fun W hW => HB0.out.trans (hW.mono HB0.out.size)
              have HEND : Hid (∀ W, Below W0.heap.size W0 W → Bk.hadK l s l.length = false → 30 ≤ l.length → Bk.learn l s = l ∧ BEL W ao cap l ∧ Below w.heap.size w W) := fun W hW h h' => by
                have hk : ¬ Bk.Known l s := by
                  have := of_decide_eq_false h
                  rwa [List.take_length] at this
                exact ⟨if_pos (Or.inr ⟨hk, h'⟩), HRW.out W (HRL.out W hW), HRL.out W hW⟩
              have HENL : Hid ((Bk.hadK l s l.length = true ∨ l.length < 30) → Bk.learn l s = Bk.lo l s ++ s :: Bk.hi l s) := fun h => by
                refine if_neg (fun q => q.elim (fun q => q hm) (fun q => ?_))
                rcases h with h | h
                · have := of_decide_eq_true h
                  rw [List.take_length] at this
                  exact q.1 this
                · omega
              clear hm
              go_enter Try.func14, Try.ntmps14
              go_wp2_with fail
              rw [← HW0.out]
              go_loopw [10, 11, 12, 46] (fun o pu ha i wr => ∃ (k : Nat) (a : Option Addr) (m c : Nat) (pb hb : Bool), k ≤ l.length ∧ i = .int .i64 k ∧ o = .slice a m c ∧ pu = .bool pb ∧ ha = .bool hb ∧ Hid (RLn W0 wr (.slice a m c) m pb hb l s k)) (fun _ _ _ i _ => l.length - (intOf i).toNat)
              case atStart => exact ⟨0, none, 0, 0, false, false, by omega, rfl, rfl, rfl, rfl, ⟨rfl, rfl, (Bk.outK_zero l s).2.2.symm, OwnE.nil _ _, Below.refl _ _⟩⟩
              case round =>
                obtain ⟨k, a, m, c, pb, hb, hk, rfl, rfl, rfl, rfl, hX⟩ := hrel
                by_cases hlt : k < l.length
                · obtain ⟨b, off, rfl, _⟩ := (HRW.out wr (HRL.out wr hX.out.2.2.2.2)).place (by omega)
                  obtain ⟨c0, c1, c2, c3⟩ := (HRW.out wr (HRL.out wr hX.out.2.2.2.2)).cells hlt
                  obtain ⟨X, HX⟩ : ∃ X, Hid (X = wr.alloc (.cells #[.int .i64 (at' l k).vid, .int .u64 (at' l k).addr, .int .i64 (at' l k).port, .int .i64 (at' l k).age] 41)) := ⟨_, rfl⟩
                  have hXB : Below wr.heap.size wr X := by rw [HX.out]; exact below_alloc1 _ _
                  have hXX : X.heap[wr.heap.size]? = some (.cells #[.int .i64 (at' l k).vid, .int .u64 (at' l k).addr, .int .i64 (at' l k).port, .int .i64 (at' l k).age] 41 (0, 0)) := by rw [HX.out]; exact heap_alloc_last _ _
                  have hsz : X.heap.size = wr.heap.size + 1 := by rw [HX.out]; simp
                  have hBX : Below W0.heap.size W0 X := hX.out.2.2.2.2.trans (hXB.mono hX.out.2.2.2.2.size)
                  have hOX : OwnE X W0.heap.size (.slice a m c) (Bk.outK l s k) := hX.out.2.2.2.1.below hXB
                  have hol : (Bk.outK l s k).length ≤ 500 := Nat.le_trans (Bk.outK_length l s k) (by omega)
                  have hown : some wr.heap.size ≠ (Value.slice a m c).ownBlock := fun q => by
                    have := (ownsC_block hX.out.2.2.2.1 wr.heap.size q.symm).2
                    omega
                  have hpb := hX.out.2.1
                  have hhb := hX.out.2.2.1
                  -- what comes of it
                  have HKEY : Hid (Bk.key (at' l k) s → RLn W0 X (.slice a m c) m pb true l s (k + 1)) := fun h => by
                    obtain ⟨s1, s2⟩ := Bk.step_key s hlt h
                    refine ⟨by rw [s1]; exact hX.out.1, by rw [s2]; exact hpb, by rw [Bk.had_step s hlt, decide_eq_true h, Bool.or_true], by rw [s1]; exact hOX, hBX⟩
                  have HHAD : Hid (¬ Bk.key (at' l k) s → hb = Bk.hadK l s (k + 1)) := fun h => by rw [Bk.had_step s hlt, decide_eq_false h, Bool.or_false]; exact hhb
                  -- one more, in a world that has grown
                  have HONE : Hid (¬ Bk.key (at' l k) s → (pb = true ∨ ¬ Bk.lt s (at' l k)) → ∀ V : World, Below X.heap.size X V → ∃ a1 m1 c1 w2, runAppE (.slice a m c) (.slice (some ⟨V.heap.size, 0, none⟩) 1 1) (V.alloc (.cells #[.int .i64 (at' l k).vid, .int .u64 (at' l k).addr, .int .i64 (at' l k).port, .int .i64 (at' l k).age] 41)) (.slice a1 m1 c1) w2 ∧ Hid (RLn W0 w2 (.slice a1 m1 c1) m1 pb hb l s (k + 1))) := fun hnk hpl V hV => by
                    have hBV : Below W0.heap.size W0 V := hBX.trans (hV.mono hBX.size)
                    obtain ⟨a1, m1, c1, w2, r, e1, o, bb, _⟩ := more_e W0 V hBV (.slice a m c) _ (at' l k) (hOX.below hV) (by omega)
                    have hst : Bk.outK l s (k + 1) = Bk.outK l s k ++ [at' l k] ∧ Bk.putK l s (k + 1) = pb := by
                      by_cases q : Bk.lt s (at' l k)
                      · have hp : pb = true := hpl.elim id (fun r => absurd q r)
                        obtain ⟨t1, t2⟩ := Bk.step_more s hlt q (by rw [← hpb]; exact hp)
                        exact ⟨t1, by rw [t2, hp]⟩
                      · have q2 : Bk.lt (at' l k) s := by
                          by_cases q3 : Bk.lt (at' l k) s
                          · exact q3
                          · exact absurd (Bk.key_iff.2 ⟨q3, q⟩) hnk
                        obtain ⟨t1, t2, t3⟩ := Bk.step_low HBK.out s hlt q2
                        exact ⟨t1, by rw [t2, hpb, t3]⟩
                    exact ⟨a1, m1, c1, w2, r, ⟨by rw [hst.1]; exact e1, hst.2.symm, HHAD.out hnk, by rw [hst.1]; exact o, bb⟩⟩
                  -- two more
                  have HTWO : Hid (¬ Bk.key (at' l k) s → pb = false → Bk.lt s (at' l k) → ∀ V : World, Below X.heap.size X V → ∃ a1 m1 c1 w2 a2 m2 c2' w3, runAppE (.slice a m c) (.slice (some ⟨V.heap.size, 0, none⟩) 1 1) (V.alloc (.cells #[.int .i64 vid, .int .u64 addr, .int .i64 port, .int .i64 0] 41)) (.slice a1 m1 c1) w2 ∧ w2.heap[wr.heap.size]? = some (.cells #[.int .i64 (at' l k).vid, .int .u64 (at' l k).addr, .int .i64 (at' l k).port, .int .i64 (at' l k).age] 41 (0, 0)) ∧ runAppE (.slice a1 m1 c1) (.slice (some ⟨w2.heap.size, 0, none⟩) 1 1) (w2.alloc (.cells #[.int .i64 (at' l k).vid, .int .u64 (at' l k).addr, .int .i64 (at' l k).port, .int .i64 (at' l k).age] 41)) (.slice a2 m2 c2') w3 ∧ Hid (RLn W0 w3 (.slice a2 m2 c2') m2 true hb l s (k + 1))) := fun hnk hp hl V hV => by
                    have hBV : Below W0.heap.size W0 V := hBX.trans (hV.mono hBX.size)
                    obtain ⟨a1, m1, c1, w2, r, e1, o, bb, q1⟩ := more_e W0 V hBV (.slice a m c) _ s (hOX.below hV) (by omega)
                    obtain ⟨a2, m2, c2', w3, r2, e2, o2, bb2, _⟩ := more_e W0 w2 bb (.slice a1 m1 c1) _ (at' l k) o (by simp; omega)
                    obtain ⟨t1, t2⟩ := Bk.step_put s hlt hl (by rw [← hpb]; exact hp)
                    rw [HSF.out.1, HSF.out.2.1, HSF.out.2.2.1, HSF.out.2.2.2] at r
                    have hVs : wr.heap.size < V.heap.size := by have := hV.size; omega
                    refine ⟨a1, m1, c1, w2, a2, m2, c2', w3, r, ?_, r2, ⟨by rw [t1]; exact e2, t2.symm, HHAD.out hnk, by rw [t1]; exact o2, bb2⟩⟩
                    exact (q1 _ hVs hown).trans (keep hXX hV)
                  have HXX : Hid (Below X.heap.size X X) := Below.refl _ _
                  have HAH : Hid (∀ W, Below X.heap.size X W → Calls Try.prog 22 #[.agg #[.int .i64 vid, .int .u64 addr, .int .i64 port, .int .i64 0], .agg #[.int .i64 (at' l k).vid, .int .u64 (at' l k).addr, .int .i64 (at' l k).port, .int .i64 (at' l k).age]] W fun e w' => e = .returned (.bool (Bk.ltb s (at' l k))) ∧ w'.heap[wr.heap.size]? = some (.cells #[.int .i64 (at' l k).vid, .int .u64 (at' l k).addr, .int .i64 (at' l k).port, .int .i64 (at' l k).age] 41 (0, 0)) ∧ w'.heap[w.heap.size]? = some (.cells #[.int .i64 vid, .int .u64 addr, .int .i64 port, .int .i64 0] 41 (0, 0)) ∧ Hid (Below X.heap.size X w')) := fun W hW => by
                    have := rahead_any s (at' l k) W
                    rw [HSF.out.1, HSF.out.2.1, HSF.out.2.2.1, HSF.out.2.2.2] at this
                    refine this.mono ?_
                    rintro e w' ⟨rfl, hb'⟩
                    have hXW : Below X.heap.size X w' := hW.trans (hb'.mono hW.size)
                    exact ⟨rfl, keep hXX hXW, HS0.out _ (hBX.trans (hXW.mono hBX.size)), hXW⟩
                  have HSX := HS0.out X hBX
                  obtain ⟨g0, g1, g2, g3⟩ := en_cells HSX
                  obtain ⟨x0, x1, x2, x3⟩ := en_cells hXX
                  have HKY : Hid (Bk.key (at' l k) s ↔ (at' l k).vid = vid ∧ (at' l k).addr = addr) := by
                    show ((at' l k).vid = s.vid ∧ (at' l k).addr = s.addr) ↔ _
                    rw [HSF.out.1, HSF.out.2.1]
                  have hSZ : Hid (X.heap.size = wr.heap.size + 1) := hsz
                  have HLT : Hid (Bk.ltb s (at' l k) = true ↔ Bk.lt s (at' l k)) := Bk.ltb_iff
                  have hwl : w.heap.size < wr.heap.size := by
                    have h1 := (Array.getElem?_eq_some_iff.1 (HS0.out wr hX.out.2.2.2.2)).1
                    exact h1
                  obtain ⟨y0, y1, y2, y3⟩ := en_cells (HS0.out wr hX.out.2.2.2.2)
                  clear hX hXB hXX hsz hBX hOX hol hown hpb hhb HSX HHAD HRW HBK HENL HEND
                  generalize Bk.ltb s (at' l k) = LB at *
                  generalize Bk.lt s (at' l k) = LP at *
                  by_cases q1 : (at' l k).vid = vid
                  · have e1 : ((at' l k).vid == vid) = true := by simp [q1]
                    by_cases q2 : (at' l k).addr = addr
                    · have e2 : ((at' l k).addr == addr) = true := by simp [q2]
                      have HN : Hid _ := HKEY.out (HKY.out.2 ⟨q1, q2⟩)
                      clear HONE HTWO HKEY HKY HAH HLT q1 q2
                      generalize at' l k = y at *
                      go_wp2_with fail
                      rw [← HX.out]
                      exact ⟨⟨k + 1, a, m, c, pb, true, by omega, by go_num, rfl, rfl, rfl, HN⟩, by simp [intOf]; omega⟩
                    · have e2 : ((at' l k).addr == addr) = false := by simpa using q2
                      have hnk : ¬ Bk.key (at' l k) s := fun h => q2 (HKY.out.1 h).2
                      cases pb with
                      | true =>
                        obtain ⟨a1, m1, c1', w2, r, HN⟩ := HONE.out hnk (Or.inl rfl) X HXX.out
                        rw [hSZ.out, HX.out] at r
                        have HR : Hid _ := r
                        clear HONE HTWO HKEY HKY HAH HLT r hnk q1 q2
                        generalize at' l k = y at *
                        go_wp2_with (at_builtin; refine wpList_append_run rfl (.tmp 71) (.tmp 73) 22 rfl _ _ _ rfl rfl HR.out ?_; clear HR)
                        exact ⟨⟨k + 1, a1, m1, c1', true, hb, by omega, by go_num, rfl, rfl, rfl, HN⟩, by simp [intOf]; omega⟩
                      | false =>
                        cases LB with
                        | true =>
                          have HTW : Hid _ := HTWO.out hnk rfl (HLT.out.1 rfl)
                          clear HONE HTWO HKEY HKY HLT hnk q1 q2
                          generalize at' l k = y at *
                          go_wp2_with fail
                          rw [← HX.out]
                          refine (HAH.out X HXX.out).mono ?_
                          rintro e w1 ⟨rfl, hx1, hs1, HB1⟩
                          obtain ⟨a1, m1, c1', w2, a2, m2, c2', w3, r, hx2, r2, HN⟩ := HTW.out w1 HB1.out
                          have HR : Hid _ := r
                          have HR2 : Hid _ := r2
                          clear c0 c1 c2 c3 g0 g1 g2 g3 x0 x1 x2 x3 y0 y1 y2 y3 r r2 HTW HAH
                          obtain ⟨g0, g1, g2, g3⟩ := en_cells hs1
                          obtain ⟨x0, x1, x2, x3⟩ := en_cells hx2
                          go_wp2_with (at_builtin; first | (refine wpList_append_run rfl (.tmp 67) (.tmp 69) 22 rfl _ _ _ rfl rfl HR.out ?_; clear HR) | (refine wpList_append_run rfl (.tmp 71) (.tmp 73) 22 rfl _ _ _ rfl rfl HR2.out ?_; clear HR2))
                          exact ⟨⟨k + 1, a2, m2, c2', true, hb, by omega, by go_num, rfl, rfl, rfl, HN⟩, by simp [intOf]; omega⟩
                        | false =>
                          have HON : Hid _ := HONE.out hnk (Or.inr (fun h => by have := HLT.out.2 h; cases this))
                          clear HONE HTWO HKEY HKY HLT hnk q1 q2
                          generalize at' l k = y at *
                          go_wp2_with fail
                          rw [← HX.out]
                          refine (HAH.out X HXX.out).mono ?_
                          rintro e w1 ⟨rfl, hx1, hs1, HB1⟩
                          obtain ⟨a1, m1, c1', w2, r, HN⟩ := HON.out w1 HB1.out
                          have HR : Hid _ := r
                          clear c0 c1 c2 c3 g0 g1 g2 g3 x0 x1 x2 x3 y0 y1 y2 y3 r HON HAH
                          obtain ⟨x0, x1, x2, x3⟩ := en_cells hx1
                          go_wp2_with (at_builtin; refine wpList_append_run rfl (.tmp 71) (.tmp 73) 22 rfl _ _ _ rfl rfl HR.out ?_; clear HR)
                          exact ⟨⟨k + 1, a1, m1, c1', false, hb, by omega, by go_num, rfl, rfl, rfl, HN⟩, by simp [intOf]; omega⟩
                  · have e1 : ((at' l k).vid == vid) = false := by simpa using q1
                    have hnk : ¬ Bk.key (at' l k) s := fun h => q1 (HKY.out.1 h).1
                    cases pb with
                    | true =>
                      obtain ⟨a1, m1, c1', w2, r, HN⟩ := HONE.out hnk (Or.inl rfl) X HXX.out
                      rw [hSZ.out, HX.out] at r
                      have HR : Hid _ := r
                      clear HONE HTWO HKEY HKY HAH HLT r hnk q1
                      generalize at' l k = y at *
                      go_wp2_with (at_builtin; refine wpList_append_run rfl (.tmp 71) (.tmp 73) 22 rfl _ _ _ rfl rfl HR.out ?_; clear HR)
                      exact ⟨⟨k + 1, a1, m1, c1', true, hb, by omega, by go_num, rfl, rfl, rfl, HN⟩, by simp [intOf]; omega⟩
                    | false =>
                      cases LB with
                      | true =>
                        have HTW : Hid _ := HTWO.out hnk rfl (HLT.out.1 rfl)
                        clear HONE HTWO HKEY HKY HLT hnk q1
                        generalize at' l k = y at *
                        go_wp2_with fail
                        rw [← HX.out]
                        refine (HAH.out X HXX.out).mono ?_
                        rintro e w1 ⟨rfl, hx1, hs1, HB1⟩
                        obtain ⟨a1, m1, c1', w2, a2, m2, c2', w3, r, hx2, r2, HN⟩ := HTW.out w1 HB1.out
                        have HR : Hid _ := r
                        have HR2 : Hid _ := r2
                        clear c0 c1 c2 c3 g0 g1 g2 g3 x0 x1 x2 x3 y0 y1 y2 y3 r r2 HTW HAH
                        obtain ⟨g0, g1, g2, g3⟩ := en_cells hs1
                        obtain ⟨x0, x1, x2, x3⟩ := en_cells hx2
                        go_wp2_with (at_builtin; first | (refine wpList_append_run rfl (.tmp 67) (.tmp 69) 22 rfl _ _ _ rfl rfl HR.out ?_; clear HR) | (refine wpList_append_run rfl (.tmp 71) (.tmp 73) 22 rfl _ _ _ rfl rfl HR2.out ?_; clear HR2))
                        exact ⟨⟨k + 1, a2, m2, c2', true, hb, by omega, by go_num, rfl, rfl, rfl, HN⟩, by simp [intOf]; omega⟩
                      | false =>
                        have HON : Hid _ := HONE.out hnk (Or.inr (fun h => by have := HLT.out.2 h; cases this))
                        clear HONE HTWO HKEY HKY HLT hnk q1
                        generalize at' l k = y at *
                        go_wp2_with fail
                        rw [← HX.out]
                        refine (HAH.out X HXX.out).mono ?_
                        rintro e w1 ⟨rfl, hx1, hs1, HB1⟩
                        obtain ⟨a1, m1, c1', w2, r, HN⟩ := HON.out w1 HB1.out
                        have HR : Hid _ := r
                        clear c0 c1 c2 c3 g0 g1 g2 g3 x0 x1 x2 x3 y0 y1 y2 y3 r HON HAH
                        obtain ⟨x0, x1, x2, x3⟩ := en_cells hx1
                        go_wp2_with (at_builtin; refine wpList_append_run rfl (.tmp 71) (.tmp 73) 22 rfl _ _ _ rfl rfl HR.out ?_; clear HR)
                        exact ⟨⟨k + 1, a1, m1, c1', false, hb, by omega, by go_num, rfl, rfl, rfl, HN⟩, by simp [intOf]; omega⟩
                · obtain rfl : k = l.length := by omega
                  have HFIN : Hid (∀ W v, OwnE W W0.heap.size v (Bk.lo l s ++ s :: Bk.hi l s) → Below W0.heap.size W0 W → (hb = true ∨ l.length < 30) → ∃ a c, v = .slice a (Bk.learn l s).length c ∧ BEL W a c (Bk.learn l s) ∧ Below w.heap.size w W ∧ BkD W w.heap.size ao cap l a c (Bk.learn l s)) := fun W v ho hW hh => by
                    rw [HENL.out (by rw [← hX.out.2.2.1]; exact hh)]
                    obtain ⟨a', c', e', h', _⟩ := ho.el
                    exact ⟨a', c', e', h', HRL.out W hW, Or.inr (by rw [← e']; exact ho.mono (HRL.out W0 (Below.refl _ _)).size)⟩
                  have HE2 : Hid (∀ W, Below W0.heap.size W0 W → hb = false → 30 ≤ l.length → Bk.learn l s = l ∧ BEL W ao cap l ∧ Below w.heap.size w W) := fun W hW h => HEND.out W hW (by rw [← hX.out.2.2.1]; exact h)
                  have hall := Bk.out_all l s
                  rw [← hX.out.2.1] at hall
                  have HBW : Hid (Below W0.heap.size W0 wr) := hX.out.2.2.2.2
                  cases pb with
                  | true =>
                    have HO : Hid (OwnE wr W0.heap.size (.slice a m c) (Bk.lo l s ++ s :: Bk.hi l s)) := by rw [← hall]; exact hX.out.2.2.2.1
                    clear hX HRW HBK HENL HEND hall
                    cases hb with
                    | true =>
                      have HF : Hid _ := HFIN.out wr _ HO.out HBW.out (Or.inl rfl)
                      clear HFIN HE2
                      go_wp2_with fail
                      go_ret
                      obtain ⟨a', c', e', HF1, HF2⟩ := HF.out
                      exact ⟨a', c', congrArg Ending.returned e', HF1, HF2⟩
                    | false =>
                      by_cases hl30 : l.length < 30
                      · have hz : (l.length : Int) < 30 := by omega
                        have HF : Hid _ := HFIN.out wr _ HO.out HBW.out (Or.inr hl30)
                        clear HFIN HE2
                        go_wp2_with fail
                        go_ret
                        obtain ⟨a', c', e', HF1, HF2⟩ := HF.out
                        exact ⟨a', c', congrArg Ending.returned e', HF1, HF2⟩
                      · have hz : (30 : Int) ≤ (l.length : Int) := by omega
                        obtain ⟨HL, HF⟩ := HE2.out wr HBW.out rfl (by omega)
                        have HL2 : Hid _ := HL
                        clear HFIN HE2 HL
                        go_wp2_with fail
                        go_ret
                        exact ⟨ao, cap, by rw [HL2.out]; rfl, by rw [HL2.out]; exact HF.1, HF.2, Or.inl ⟨rfl, rfl, HL2.out⟩⟩
                  | false =>
                    obtain ⟨a1, m1, c1, w2, r, e1, o, bb, _⟩ := more_e W0 wr HBW.out (.slice a m c) _ s hX.out.2.2.2.1 (Nat.le_trans (Bk.outK_length l s _) (by omega))
                    rw [HSF.out.1, HSF.out.2.1, HSF.out.2.2.1, HSF.out.2.2.2] at r
                    have hall2 : Bk.outK l s l.length ++ [s] = Bk.lo l s ++ s :: Bk.hi l s := hall
                    rw [hall2] at o
                    have HO : Hid (OwnE w2 W0.heap.size (.slice a1 m1 c1) (Bk.lo l s ++ s :: Bk.hi l s)) := o
                    have HB2 : Hid (Below W0.heap.size W0 w2) := bb
                    have HR : Hid _ := r
                    obtain ⟨g0, g1, g2, g3⟩ := en_cells (HS0.out wr HBW.out)
                    clear hX HRW HBK HENL HEND hall hall2 o bb r e1
                    cases hb with
                    | true =>
                      have HF : Hid _ := HFIN.out w2 _ HO.out HB2.out (Or.inl rfl)
                      clear HFIN HE2
                      go_wp2_with (at_builtin; refine wpList_append_run rfl (.tmp 78) (.tmp 80) 22 rfl _ _ _ rfl rfl HR.out ?_; clear HR)
                      go_ret
                      obtain ⟨a', c', e', HF1, HF2⟩ := HF.out
                      exact ⟨a', c', congrArg Ending.returned e', HF1, HF2⟩
                    | false =>
                      by_cases hl30 : l.length < 30
                      · have hz : (l.length : Int) < 30 := by omega
                        have HF : Hid _ := HFIN.out w2 _ HO.out HB2.out (Or.inr hl30)
                        clear HFIN HE2
                        go_wp2_with (at_builtin; refine wpList_append_run rfl (.tmp 78) (.tmp 80) 22 rfl _ _ _ rfl rfl HR.out ?_; clear HR)
                        go_ret
                        obtain ⟨a', c', e', HF1, HF2⟩ := HF.out
                        exact ⟨a', c', congrArg Ending.returned e', HF1, HF2⟩
                      · have hz : (30 : Int) ≤ (l.length : Int) := by omega
                        obtain ⟨HL, HF⟩ := HE2.out w2 HB2.out rfl (by omega)
                        have HL2 : Hid _ := HL
                        clear HFIN HE2 HL
                        go_wp2_with (at_builtin; refine wpList_append_run rfl (.tmp 78) (.tmp 80) 22 rfl _ _ _ rfl rfl HR.out ?_; clear HR)
                        go_ret
                        exact ⟨ao, cap, by rw [HL2.out]; rfl, by rw [HL2.out]; exact HF.1, HF.2, Or.inl ⟨rfl, rfl, HL2.out⟩⟩
            · have HL : Hid _ := HNOT.out (fun h => by have := HMY.out.1 h; omega)
              clear HNOT HMY
              go_enter Try.func14, Try.ntmps14
              go_wp2_with fail
              go_ret
              exact ⟨ao, cap, by rw [HL.out]; rfl, by rw [HL.out]; exact HRW.out w (Below.refl _ _), Below.refl _ _, Or.inl ⟨rfl, rfl, HL.out⟩⟩
          · have HL : Hid _ := HNOT.out (fun h => by have := HMY.out.1 h; omega)
            clear HNOT HMY
            go_enter Try.func14, Try.ntmps14
            go_wp2_with fail
            go_ret
            exact ⟨ao, cap, by rw [HL.out]; rfl, by rw [HL.out]; exact HRW.out w (Below.refl _ _), Below.refl _ _, Or.inl ⟨rfl, rfl, HL.out⟩⟩
        · have HL : Hid _ := HNOT.out (fun h => by have := HMY.out.1 h; omega)
          clear HNOT HMY
          go_enter Try.func14, Try.ntmps14
          go_wp2_with fail
          go_ret
          exact ⟨ao, cap, by rw [HL.out]; rfl, by rw [HL.out]; exact HRW.out w (Below.refl _ _), Below.refl _ _, Or.inl ⟨rfl, rfl, HL.out⟩⟩
      · have HL : Hid _ := HNOT.out (fun h => by have := HMY.out.1 h; omega)
        clear HNOT HMY
        go_enter Try.func14, Try.ntmps14
        go_wp2_with fail
        go_ret
        exact ⟨ao, cap, by rw [HL.out]; rfl, by rw [HL.out]; exact HRW.out w (Below.refl _ _), Below.refl _ _, Or.inl ⟨rfl, rfl, HL.out⟩⟩
    · have HL : Hid _ := HNOT.out (fun h => by have := HMY.out.1 h; omega)
      clear HNOT HMY
      go_enter Try.func14, Try.ntmps14
      go_wp2_with fail
      go_ret
      exact ⟨ao, cap, by rw [HL.out]; rfl, by rw [HL.out]; exact HRW.out w (Below.refl _ _), Below.refl _ _, Or.inl ⟨rfl, rfl, HL.out⟩⟩
  · have e0 : (addr / 1099511627776 % 2 == 1) = true := by simp; omega
    have HL : Hid _ := HNOT.out (fun h => by have := HMY.out.1 h; omega)
    clear HNOT HMY
    go_enter Try.func14, Try.ntmps14
    go_wp2_with fail
    go_ret
    exact ⟨ao, cap, by rw [HL.out]; rfl, by rw [HL.out]; exact HRW.out w (Below.refl _ _), Below.refl _ _, Or.inl ⟨rfl, rfl, HL.out⟩⟩
theorem rlearn8_any (ao : Option Addr) (cap : Nat) (l : List E) (vid addr port : Int) (w : World) (hbk : Bk.Book l) (hr : BEL w ao cap l) (h0 : 0 ≤ addr) (h1 : addr < 18446744073709551616) :
    Calls Try.prog 14 #[.slice ao l.length cap, .int .i64 vid, .int .u64 addr, .int .i64 port] w fun e w' => ∃ a c, e = .returned (.slice a (Bk.learn l ⟨vid, addr, port, 0⟩).length c) ∧ BEL w' a c (Bk.learn l ⟨vid, addr, port, 0⟩) ∧ Below w.heap.size w w' := (rlearn8_own ao cap l vid addr port w hbk hr h0 h1).mono (fun _ _ ⟨a, c, h1, h2, h3, _⟩ => ⟨a, c, h1, h2, h3⟩)
end Go.Proofs.Ytdhjihfgckmjhaa
