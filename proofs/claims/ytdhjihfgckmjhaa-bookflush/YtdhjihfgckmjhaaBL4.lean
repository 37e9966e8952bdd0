/- walks: hedgelaw8.BookFlush -/
import Derived.Test.YtdhjihfgckmjhaaBL2
import Derived.Test.YtdhjihfgckmjhaaBW7
namespace Go.Proofs.Ytdhjihfgckmjhaa
open Go.RowKit
open Bk (E at')

/-- Whether it is gone, by the first j ways. -/
def Bk.gone (ways : List Int) (port : Int) (x : E) (j : Nat) : Bool := decide (x.port = port) && (ways.take j).contains x.vid
theorem Bk.gone_zero (ways : List Int) (port : Int) (x : E) : Bk.gone ways port x 0 = false := by simp [Bk.gone]
theorem Bk.gone_succ (ways : List Int) (port : Int) (x : E) (j : Nat) (h : j < ways.length) : Bk.gone ways port x (j + 1) = (Bk.gone ways port x j || (decide (ways.getD j 0 = x.vid) && decide (x.port = port))) := by
  unfold Bk.gone
  have e : ways.take (j + 1) = ways.take j ++ [ways.getD j 0] := by
    rw [List.take_succ_eq_append_getElem h]
    simp [h]
  rw [e]
  by_cases q : x.port = port
  · simp only [q, decide_true, Bool.true_and, Bool.and_true]
    by_cases r : ways.getD j 0 = x.vid
    · rw [decide_eq_true r, Bool.or_true]
      generalize ways.getD j 0 = y at *
      simp [r]
    · have r2 : ¬ x.vid = ways.getD j 0 := fun h => r h.symm
      have r3 : decide (ways.getD j 0 = x.vid) = false := decide_eq_false r
      rw [r3, Bool.or_false]
      generalize ways.getD j 0 = y at *
      simp [r2]
  · simp [q]
theorem Bk.gone_left (ways : List Int) (port : Int) (x : E) : Bk.left port ways x = !Bk.gone ways port x ways.length := by
  unfold Bk.left Bk.gone
  rw [List.take_length]
set_option maxHeartbeats 4000000 in
theorem bkflush_law (ao : Option Addr) (cap : Nat) (l : List E) (port : Int) (wo : Option Addr) (wcap : Nat) (ways : List Int) (w : World) (hn : l.length ≤ 9223372036854775807) (hr : BEL w ao cap l) (hwn : ways.length ≤ 9223372036854775807) (hw : ILs w wo wcap ways) :
    Calls Try.prog 6 #[.slice ao l.length cap, .int .i64 port, .slice wo ways.length wcap] w fun e w' => e = .returned (.bool true) ∧ Below w.heap.size w w' := by
  have hcap : l.length ≤ cap := hr.1
  have hwcap : ways.length ≤ wcap := hw.1
  have HRW : Hid (∀ W, Below w.heap.size w W → BEL W ao cap l) := fun W hW => BEL.below hr hW
  have HWW : Hid (∀ W, Below w.heap.size w W → ILs W wo wcap ways) := fun W hW => ILs.below hw hW
  have HA : Hid (Calls Try.prog 19 #[] w fun e w' => e = .returned (.bool true) ∧ Hid (Below w.heap.size w w')) := balive_any w
  have HT : Hid (∀ W W', Below w.heap.size w W → Below W.heap.size W W' → Below w.heap.size w W') := fun W W' h h' => h.trans (h'.mono h.size)
  clear hr hw
  go_enter Try.func6, Try.ntmps6
  go_wp2_with fail
  refine HA.out.mono ?_
  rintro e w1 ⟨rfl, HB1⟩
  clear HA
  have hfd : ∀ (a b : Int) (W : World), (Instr.field 27 (.agg #[.int .i64 a, .int .i64 b]) 0).run Try.prog W = .ok (.int .i64 a) W := fa_err
  rcases bwrong_two ao cap l w1 hn (HRW.out w1 HB1.out) with ⟨hbk, hwr⟩ | ⟨_, f1, f2, hf, hwr⟩
  · have hlen := hbk.many
    obtain ⟨F, hF⟩ : ∃ F, F = Bk.flush l port ways := ⟨_, rfl⟩
    have hbF : Bk.Book F := by rw [hF]; exact Bk.flush_book hbk _ _
    have hFn := hbF.many
    have hFl : F.length ≤ l.length := by rw [hF]; exact List.length_filter_le _ _
    have HP : Hid (∀ W, Below w.heap.size w W → Calls Try.prog 17 #[.slice ao l.length cap, .int .i64 port, .slice wo ways.length wcap] W fun e w' => ∃ x c, e = .returned (.slice x F.length c) ∧ Hid (BEL w' x c F ∧ Below W.heap.size W w')) := fun W hW => by
      refine (bflush_any ao cap l port wo wcap ways W (by omega) (HRW.out W hW) hwn (HWW.out W hW)).mono ?_
      rintro e w' ⟨v, rfl, ho, hb⟩
      rw [← hF] at ho
      obtain ⟨a, c, rfl, h1, _⟩ := ho.el
      exact ⟨a, c, rfl, h1, hb⟩
    have HWM : Hid (∀ W x c, BEL W x c F → Calls Try.prog 8 #[.slice x F.length c] W fun e w' => e = .returned (.agg #[.int .i64 0, .int .i64 0]) ∧ Below W.heap.size W w') := fun W x c h => by
      have := bwrong_any x c F W (by omega) h
      rw [Bk.wrong_zero hbF] at this
      exact this
    have HLF : Hid (∀ W x c k, k < l.length → BEL W x c F → Calls Try.prog 10 #[.slice x F.length c, .int .i64 (at' l k).vid, .int .u64 (at' l k).addr] W fun e w' => ∃ p, e = .returned (.tuple #[.int .i64 p, .bool (!Bk.gone ways port (at' l k) ways.length)]) ∧ Below W.heap.size W w') := fun W x c k hk h => by
      have := blook_any x c F (at' l k).vid (at' l k).addr W hbF h
      refine this.mono ?_
      rintro e w' ⟨rfl, hb⟩
      refine ⟨Bk.lookP F (sought (at' l k).vid (at' l k).addr), ?_, hb⟩
      have hkn := Bk.flush_known hbk port ways (e := at' l k) (t := sought (at' l k).vid (at' l k).addr) (Bk.at_mem l k hk) ⟨rfl, rfl⟩
      rw [← hF, Bk.gone_left] at hkn
      rw [show decide (Bk.Known F (sought (at' l k).vid (at' l k).addr)) = !Bk.gone ways port (at' l k) ways.length by
        cases q : !Bk.gone ways port (at' l k) ways.length with
        | true => exact decide_eq_true (hkn.2 q)
        | false => exact decide_eq_false (fun r => by rw [hkn.1 r] at q; cases q)]
    clear hbF hF hbk
    go_wp2_with fail
    refine hwr.mono ?_
    rintro e w2 ⟨rfl, hb2⟩
    have HB2 : Hid (Below w.heap.size w w2) := HT.out _ _ HB1.out hb2
    clear hb2 hwr
    go_wp2_with fail
    refine (HP.out w2 HB2.out).mono ?_
    rintro e w3 ⟨x, c, rfl, H3⟩
    have HB3 : Hid (BEL w3 x c F ∧ Below w.heap.size w w3) := ⟨H3.out.1, HT.out _ _ HB2.out H3.out.2⟩
    clear H3 HP
    go_wp2_with fail
    go_loopw [27] (fun i wr => ∃ k : Nat, k ≤ l.length ∧ i = .int .i64 k ∧ Hid (BEL wr x c F ∧ Below w.heap.size w wr)) (fun i _ => l.length - (intOf i).toNat)
    case atStart => exact ⟨0, by omega, rfl, HB3⟩
    case round =>
      obtain ⟨k, hk, rfl, hX⟩ := hrel
      clear HB3
      by_cases hlt : k < l.length
      · obtain ⟨b, off, rfl, _⟩ := (HRW.out wr hX.out.2).place (by omega)
        obtain ⟨c0, c1, c2, c3⟩ := (HRW.out wr hX.out.2).cells hlt
        obtain ⟨X, HX⟩ : ∃ X, Hid (X = wr.alloc (.cells #[.int .i64 (at' l k).vid, .int .u64 (at' l k).addr, .int .i64 (at' l k).port, .int .i64 (at' l k).age] 41)) := ⟨_, rfl⟩
        have HXB : Hid (BEL X x c F ∧ Below w.heap.size w X) := by
          have hb : Below wr.heap.size wr X := by rw [HX.out]; exact below_alloc1 _ _
          exact ⟨BEL.below hX.out.1 hb, HT.out _ _ hX.out.2 hb⟩
        have HX5 : Hid (X.heap[wr.heap.size]? = some (.cells #[.int .i64 (at' l k).vid, .int .u64 (at' l k).addr, .int .i64 (at' l k).port, .int .i64 (at' l k).age] 41 (0, 0))) := by rw [HX.out]; exact heap_alloc_last _ _
        obtain ⟨d0, d1, d2, d3⟩ := en_cells HX5.out
        have HLK : Hid (Calls Try.prog 10 #[.slice x F.length c, .int .i64 (at' l k).vid, .int .u64 (at' l k).addr] X fun e w' => ∃ p, e = .returned (.tuple #[.int .i64 p, .bool (!Bk.gone ways port (at' l k) ways.length)]) ∧ Hid (BEL w' x c F ∧ Below w.heap.size w w')) := by
          refine (HLF.out X x c k hlt HXB.out.1).mono ?_
          rintro e w' ⟨p, rfl, hb⟩
          exact ⟨p, rfl, BEL.below HXB.out.1 hb, HT.out _ _ HXB.out.2 hb⟩
        have HWX : Hid (ILs X wo wcap ways) := HWW.out X HXB.out.2
        clear hX HX5 HXB HLF HRW HWW
        generalize at' l k = y at *
        go_wp2_with fail
        rw [← HX.out]
        clear c0 c1 c2 c3
        go_loopw [33, 10] (fun i g wr2 => ∃ (j : Nat) (gb : Bool), j ≤ ways.length ∧ i = .int .i64 j ∧ g = .bool gb ∧ Hid (gb = Bk.gone ways port y j) ∧ wr2 = X) (fun i _ _ => ways.length - (intOf i).toNat)
        case atStart => exact ⟨0, false, by omega, rfl, rfl, (Bk.gone_zero _ _ _).symm, rfl⟩
        case round =>
          obtain ⟨j, gb, hj, rfl, rfl, HG, rfl⟩ := hrel
          by_cases hjl : j < ways.length
          · obtain ⟨b2, off2, rfl, _⟩ := HWX.out.place (by omega)
            have v0 := HWX.out.cell hjl
            have HG2 : Hid (Bk.gone ways port y (j + 1) = (gb || (decide (ways.getD j 0 = y.vid) && decide (y.port = port)))) := by rw [HG.out]; exact Bk.gone_succ ways port y j hjl
            clear HG HWX
            generalize ways.getD j 0 = v at *
            cases gb with
            | true =>
              go_wp2_with fail
              exact ⟨⟨j + 1, true, by omega, by go_num, rfl, by rw [HG2.out]; rfl, trivial⟩, by simp [intOf]; omega⟩
            | false =>
              by_cases q1 : v = y.vid
              · subst q1
                have e1 : decide (y.vid = y.vid) = true := decide_eq_true rfl
                by_cases q2 : y.port = port
                · have HQ : Hid (Bk.gone ways port y (j + 1) = true) := by rw [HG2.out, e1, decide_eq_true q2]; rfl
                  have e2 : (y.port == port) = true := by simp [q2]
                  clear HG2 e1
                  go_wp2_with fail
                  exact ⟨⟨j + 1, true, by omega, by go_num, by first | rfl | simp [q2], HQ.out.symm, trivial⟩, by simp [intOf]; omega⟩
                · have HQ : Hid (Bk.gone ways port y (j + 1) = false) := by rw [HG2.out, decide_eq_false q2, Bool.and_false]; rfl
                  have e2 : (y.port == port) = false := by simpa using q2
                  clear HG2 e1
                  go_wp2_with fail
                  exact ⟨⟨j + 1, false, by omega, by go_num, by first | rfl | simp [q2], HQ.out.symm, trivial⟩, by simp [intOf]; omega⟩
              · have HQ : Hid (Bk.gone ways port y (j + 1) = false) := by rw [HG2.out, decide_eq_false q1, Bool.false_and]; rfl
                have e2 : (v == y.vid) = false := by simpa using q1
                clear HG2
                go_wp2_with fail
                exact ⟨⟨j + 1, false, by omega, by go_num, rfl, HQ.out.symm, trivial⟩, by simp [intOf]; omega⟩
          · obtain rfl : j = ways.length := by omega
            rw [← HG.out] at HLK
            clear HG HWX
            go_wp2_with fail
            refine HLK.out.mono ?_
            rintro e w5 ⟨p, rfl, H5⟩
            clear HLK
            cases gb with
            | true =>
              go_wp2_with fail
              exact ⟨⟨k + 1, by omega, by go_num, H5⟩, by simp [intOf]; omega⟩
            | false =>
              go_wp2_with fail
              exact ⟨⟨k + 1, by omega, by go_num, H5⟩, by simp [intOf]; omega⟩
      · obtain rfl : k = l.length := by omega
        have hfz : (F.length : Int) ≤ (l.length : Int) := by omega
        clear HLF HRW HWW
        go_wp2_with fail
        refine (HWM.out wr x c hX.out.1).mono ?_
        rintro e w5 ⟨rfl, hb5⟩
        have HB5 : Hid (Below w.heap.size w w5) := HT.out _ _ hX.out.2 hb5
        clear hb5
        go_wp2_with fail
        go_ret
        exact ⟨by simp, HB5.out⟩
  · have dq : (f1 != 0) = true := by simp [hf]
    go_wp2_with (go_at_call 8; refine hwr.mono ?_; rintro e w2 ⟨rfl, hb2⟩)
    go_ret
    exact ⟨rfl, HT.out _ _ HB1.out hb2⟩
end Go.Proofs.Ytdhjihfgckmjhaa
