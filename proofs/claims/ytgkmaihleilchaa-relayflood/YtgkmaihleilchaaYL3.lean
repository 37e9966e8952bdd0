/- walks: hedgelaw9.RelayFlood -/
import Derived.Test.YtgkmaihleilchaaBS8
import Derived.Test.YtgkmaihleilchaaYLc
namespace Go.Proofs.Ytgkmaihleilchaa
open Go.RowKit
open Bk (E at')
open Rl (G gat F O R)

/-- How many of the first k. -/
def cnt (P : G → Bool) (l : List G) (k : Nat) : Nat := ((l.take k).filter P).length
theorem cnt_succ (P : G → Bool) (l : List G) (k : Nat) (h : k < l.length) : cnt P l (k + 1) = cnt P l k + if P (gat l k) = true then 1 else 0 := by
  unfold cnt
  rw [Rl.take_succ l k h, List.filter_append, List.length_append]
  congr 1
  by_cases q : P (gat l k) = true
  · simp [q]
  · simp [q]
theorem cnt_le (P : G → Bool) (l : List G) (k : Nat) : cnt P l k ≤ k := by
  unfold cnt
  exact Nat.le_trans (List.length_filter_le _ _) (by simp; omega)
set_option maxRecDepth 20000 in
set_option maxHeartbeats 8000000 in
theorem rflood_law (r : R) (ao : Option Addr) (cap : Nat) (l : List G) (bo : Option Addr) (bcap : Nat) (bk : List E) (p : Int) (f : F) (w : World) (hin : RelIn w r ao cap l bo bcap bk f) :
    Calls Try.prog 5 #[.agg #[.string r.name, .int .i64 r.rev, .slice r.ao r.n r.cap], .slice ao l.length cap, .slice bo bk.length bcap, .int .i64 p, .agg #[.int .u64 f.dst, .int .u64 f.src, .bool f.tagged, .int .i64 f.prio, .bool f.drop, .int .i64 f.vid, .int .i64 f.type, .slice f.ao f.n f.cap]] w fun e w' => e = .returned (.bool true) ∧ Below w.heap.size w w' := by
  obtain ⟨W0, HW0⟩ : ∃ W0, Hid (W0 = (w.alloc (.cells #[.string r.name, .int .i64 r.rev, .slice r.ao r.n r.cap] 24)).alloc (.cells #[.int .u64 f.dst, .int .u64 f.src, .bool f.tagged, .int .i64 f.prio, .bool f.drop, .int .i64 f.vid, .int .i64 f.type, .slice f.ao f.n f.cap] 30)) := ⟨_, rfl⟩
  have CX : Hid (Cx W0 w r ao cap l bo bcap bk f) := by rw [HW0.out]; exact cx_of hin
  have HB0 : Hid (Below W0.heap.size W0 W0) := Below.refl _ _
  clear hin
  go_enter Try.func5, Try.ntmps5
  go_wp2_with fail
  rw [← HW0.out]
  refine (CX.out.alive W0 HB0.out).mono ?_
  rintro e w1 ⟨rfl, HB1⟩
  obtain ⟨c0, c1, c2⟩ := CX.out.reg w1 HB1.out
  obtain ⟨d0, d1, d2, d3, d4, d5, d6, d7⟩ := CX.out.frm w1 HB1.out
  go_wp2_with fail
  refine (CX.out.relay p w1 HB1.out).mono ?_
  rintro e w2 ⟨oo, oc, os, bo', bc', rfl, HO, HB2⟩
  clear c0 c1 c2 d0 d1 d2 d3 d4 d5 d6 d7
  by_cases he : (Rl.relay r l bk p f).err = 0
  · have hok := Rl.ok_of he
    have HOK : Hid (Rl.Ok r l bk p f) := hok
    have hbook : Bk.Book (Rl.relay r l bk p f).book := by
      rcases Rl.relay_cases r l bk p f with ⟨h1, _⟩ | ⟨_, _, ⟨_, h3⟩ | ⟨_, h3⟩⟩
      · exact absurd he h1
      · rw [h3]; exact hok.book
      · rw [h3]; exact Bk.learn_book hok.book _
    have hstv := Rl.flood_stays hok
    have hmany := hok.right.many
    have hbl := hok.book.many
    have HST : Hid (Rl.stays r l p f = true → os.length = 0 ∧ (Rl.relay r l bk p f).book = bk) := fun h => by
      rcases Rl.relay_cases r l bk p f with ⟨h1, _⟩ | ⟨_, _, ⟨_, h3⟩ | ⟨h4, _⟩⟩
      · exact absurd he h1
      · have := congrArg List.length HO.out.out
        rw [h3, List.length_map] at this
        exact ⟨this, by rw [h3]⟩
      · rw [h] at h4; cases h4
    have HNS : Hid (Rl.stays r l p f = false → (Bk.Known (Rl.relay r l bk p f).book (sought (Rl.vid l p f) f.dst) → os.length ≤ 1) ∧ (¬ Bk.Known (Rl.relay r l bk p f).book (sought (Rl.vid l p f) f.dst) → os.length = cnt (Rl.want r (Rl.vid l p f) p) l l.length)) := fun h => by
      rcases Rl.relay_cases r l bk p f with ⟨h1, _⟩ | ⟨_, _, ⟨h4, _⟩ | ⟨_, h3⟩⟩
      · exact absurd he h1
      · rw [h] at h4; cases h4
      · have h5 := congrArg List.length HO.out.out
        rw [h3, List.length_map] at h5
        have h6 : os.length = (Rl.outs r l bk p f).length := h5
        rw [h3, h6]
        refine ⟨fun hk => Rl.flood_some hok hk, fun hk => ?_⟩
        rw [Rl.flood_all hok hk]
        unfold cnt
        rw [List.take_length]
    obtain ⟨m, hm⟩ : ∃ m, m = (Rl.relay r l bk p f).book := ⟨_, rfl⟩
    rw [← hm] at hbook HST HNS
    have HBM : Hid (∀ W, Below w2.heap.size w2 W → BEL W bo' bc' m) := fun W hW => by rw [hm]; exact BEL.below HO.out.book hW
    rw [← hm, he]
    obtain ⟨vi, hvi⟩ : ∃ vi, vi = Rl.vid l p f := ⟨_, rfl⟩
    obtain ⟨ga, hga⟩ : ∃ ga, ga = Rl.atG l p := ⟨_, rfl⟩
    rw [← hvi] at HNS hstv
    rw [← hga] at hstv
    have HGI : Hid (∀ W, Below W0.heap.size W0 W → GIn W ga) := fun W hW => by rw [hga]; exact (CX.out.inn W hW).gates.atG p
    have HAT : Hid (Calls Try.prog 16 #[.slice ao l.length cap, .int .i64 p] w2 fun e w' => e = .returned (.agg #[.int .i64 ga.port, .slice ga.wo ga.ways.length ga.wcap, .int .i64 ga.plain, .slice ga.oo ga.opens.length ga.ocap]) ∧ Hid (Below w2.heap.size w2 w')) := by rw [hga]; exact (at9_any ao cap l p w2 (CX.out.inn w2 HB2.out).gates).mono (fun _ _ h => ⟨h.1, h.2⟩)
    have HCW : Hid (∀ (V W : World), Below V.heap.size V W → Calls Try.prog 17 #[.agg #[.int .i64 ga.port, .slice ga.wo ga.ways.length ga.wcap, .int .i64 ga.plain, .slice ga.oo ga.opens.length ga.ocap], .agg #[.int .u64 f.dst, .int .u64 f.src, .bool f.tagged, .int .i64 f.prio, .bool f.drop, .int .i64 f.vid, .int .i64 f.type, .slice f.ao f.n f.cap]] W fun e w' => e = .returned (.int .i64 vi) ∧ Hid (Below V.heap.size V w')) := fun V W hW => by rw [hga, hvi]; exact (way9_any f (Rl.atG l p) W).mono (fun _ _ h => ⟨h.1, below_up hW h.2⟩)
    have HCP : Hid (∀ (V W : World) (g : G), Below V.heap.size V W → Below W0.heap.size W0 W → GIn W g → Calls Try.prog 18 #[.agg #[.int .i64 g.port, .slice g.wo g.ways.length g.wcap, .int .i64 g.plain, .slice g.oo g.opens.length g.ocap], .agg #[.string r.name, .int .i64 r.rev, .slice r.ao r.n r.cap], .int .i64 vi] W fun e w' => e = .returned (.bool (Rl.passes g (r.tree vi) vi)) ∧ Hid (Below V.heap.size V w')) := fun V W g hW h0 hg => (passes8_any g r vi W hg HOK.out.reg (CX.out.inn W h0).ways).mono (fun _ _ h => ⟨h.1, below_up hW h.2⟩)
    have HLK : Hid (∀ (V W : World), Below V.heap.size V W → Below w2.heap.size w2 W → Calls Try.prog 19 #[.slice bo' m.length bc', .int .i64 vi, .int .u64 f.dst] W fun e w' => e = .returned (.tuple #[.int .i64 (Bk.lookP m (sought vi f.dst)), .bool (decide (Bk.Known m (sought vi f.dst)))]) ∧ Hid (Below V.heap.size V w')) := fun V W hW h2 => (blook_any bo' bc' m vi f.dst W hbook (HBM.out W h2)).mono (fun _ _ h => ⟨h.1, below_up hW h.2⟩)
    have HSV : Hid (Rl.stays r l p f = (decide (vi = 0) || (!Rl.passes ga (r.tree vi) vi || decide (f.dst / 16 = 103282638848)))) := hstv
    clear hm hvi hga HO he hok hstv hbook
    go_wp2_with fail
    refine HAT.out.mono ?_
    rintro e w3 ⟨rfl, HB3⟩
    obtain ⟨Y, HY⟩ : ∃ Y, Hid (Y = w3.alloc (.cells #[.int .i64 ga.port, .slice ga.wo ga.ways.length ga.wcap, .int .i64 ga.plain, .slice ga.oo ga.opens.length ga.ocap] 47)) := ⟨_, rfl⟩
    have hY1 : Below w3.heap.size w3 Y := by rw [HY.out]; exact below_alloc1 _ _
    have hY2 : Y.heap[w3.heap.size]? = some (.cells #[.int .i64 ga.port, .slice ga.wo ga.ways.length ga.wcap, .int .i64 ga.plain, .slice ga.oo ga.opens.length ga.ocap] 47 (0, 0)) := by rw [HY.out]; exact heap_alloc_last _ _
    have h2Y : Below w2.heap.size w2 Y := below_up HB3.out hY1
    have HY2 : Hid (∀ W, Below Y.heap.size Y W → Below w2.heap.size w2 W) := fun W hW => below_up h2Y hW
    have HY0 : Hid (∀ W, Below Y.heap.size Y W → Below W0.heap.size W0 W) := fun W hW => below_up HB2.out (HY2.out W hW)
    have HYY : Hid (Below Y.heap.size Y Y) := Below.refl _ _
    have HSS : Hid (∀ W, Below Y.heap.size Y W → ((W.cell? ⟨w.heap.size, 0, none⟩ = some (.string r.name) ∧ W.cell? ⟨w.heap.size, 1, none⟩ = some (.int .i64 r.rev) ∧ W.cell? ⟨w.heap.size, 2, none⟩ = some (.slice r.ao r.n r.cap)) ∧ (W.cell? ⟨w.heap.size + 1, 0, none⟩ = some (.int .u64 f.dst) ∧ W.cell? ⟨w.heap.size + 1, 1, none⟩ = some (.int .u64 f.src) ∧ W.cell? ⟨w.heap.size + 1, 2, none⟩ = some (.bool f.tagged) ∧ W.cell? ⟨w.heap.size + 1, 3, none⟩ = some (.int .i64 f.prio) ∧ W.cell? ⟨w.heap.size + 1, 4, none⟩ = some (.bool f.drop) ∧ W.cell? ⟨w.heap.size + 1, 5, none⟩ = some (.int .i64 f.vid) ∧ W.cell? ⟨w.heap.size + 1, 6, none⟩ = some (.int .i64 f.type) ∧ W.cell? ⟨w.heap.size + 1, 7, none⟩ = some (.slice f.ao f.n f.cap))) ∧ (W.cell? ⟨w3.heap.size, 0, none⟩ = some (.int .i64 ga.port) ∧ W.cell? ⟨w3.heap.size, 1, none⟩ = some (.slice ga.wo ga.ways.length ga.wcap) ∧ W.cell? ⟨w3.heap.size, 2, none⟩ = some (.int .i64 ga.plain) ∧ W.cell? ⟨w3.heap.size, 3, none⟩ = some (.slice ga.oo ga.opens.length ga.ocap))) := fun W hW => ⟨⟨CX.out.reg W (HY0.out W hW), CX.out.frm W (HY0.out W hW)⟩, gt_cells (keep hY2 hW)⟩
    clear hY1 hY2 h2Y HAT
    go_upto_region 7 with fail
    rw [← HY.out]
    obtain ⟨⟨⟨c0, c1, c2⟩, d0, d1, d2, d3, d4, d5, d6, d7⟩, a0, a1, a2, a3⟩ := HSS.out Y HYY.out
    go_wp2_with fail
    refine (HCW.out Y Y HYY.out).mono ?_
    rintro e w4 ⟨rfl, HB4⟩
    clear c0 c1 c2 d0 d1 d2 d3 d4 d5 d6 d7 a0 a1 a2 a3 HCW
    obtain ⟨⟨⟨c0, c1, c2⟩, d0, d1, d2, d3, d4, d5, d6, d7⟩, a0, a1, a2, a3⟩ := HSS.out w4 HB4.out
    go_wp2_with fail
    refine (HLK.out Y w4 HB4.out (HY2.out _ HB4.out)).mono ?_
    rintro e w5 ⟨rfl, HB5⟩
    clear c0 c1 c2 d0 d1 d2 d3 d4 d5 d6 d7 a0 a1 a2 a3 HLK
    obtain ⟨⟨⟨c0, c1, c2⟩, d0, d1, d2, d3, d4, d5, d6, d7⟩, a0, a1, a2, a3⟩ := HSS.out w5 HB5.out
    go_upto_region 9 with fail
    go_cut [63] (fun v W => v = .bool (Rl.stays r l p f) ∧ Hid (Below Y.heap.size Y W))
    case first =>
      have hs := HSV.out
      by_cases hv : vi = 0
      · rw [decide_eq_true hv, Bool.true_or] at hs
        have HS1 : Hid (Rl.stays r l p f = true) := hs
        have ev : (vi == 0) = true := by simp [hv]
        clear hs hv HSV HNS HST HCP
        go_wp2_with fail
        go_meet
        exact ⟨by rw [HS1.out], HB5⟩
      · rw [decide_eq_false hv, Bool.false_or] at hs
        have ev : (vi == 0) = false := by simpa using hv
        have HPX : Hid (Calls Try.prog 18 #[.agg #[.int .i64 ga.port, .slice ga.wo ga.ways.length ga.wcap, .int .i64 ga.plain, .slice ga.oo ga.opens.length ga.ocap], .agg #[.string r.name, .int .i64 r.rev, .slice r.ao r.n r.cap], .int .i64 vi] w5 fun e w' => e = .returned (.bool (Rl.passes ga (r.tree vi) vi)) ∧ Hid (Below Y.heap.size Y w')) := HCP.out Y w5 ga HB5.out (HY0.out _ HB5.out) (HGI.out _ (HY0.out _ HB5.out))
        clear HSV HNS HST HCP hv
        cases hp : Rl.passes ga (r.tree vi) vi with
        | false =>
          rw [hp] at hs HPX
          have HS1 : Hid (Rl.stays r l p f = true) := hs
          clear hs hp
          go_wp2_with (go_at_call 18; refine HPX.out.mono ?_; rintro e w6 ⟨rfl, HB6⟩)
          go_meet
          exact ⟨by rw [HS1.out], HB6⟩
        | true =>
          rw [hp] at hs HPX
          have HS1 : Hid (Rl.stays r l p f = decide (f.dst / 16 = 103282638848)) := hs
          clear hs hp
          go_wp2_with fail
          refine HPX.out.mono ?_
          rintro e w6 ⟨rfl, HB6⟩
          clear c0 c1 c2 d0 d1 d2 d3 d4 d5 d6 d7 a0 a1 a2 a3
          obtain ⟨⟨⟨c0, c1, c2⟩, d0, d1, d2, d3, d4, d5, d6, d7⟩, a0, a1, a2, a3⟩ := HSS.out w6 HB6.out
          go_wp2_with fail
          go_meet
          refine ⟨?_, HB6⟩
          rw [HS1.out]
          exact congrArg Value.bool (Bool.eq_iff_iff.2 (by simp))
    case rest =>
    rename World => w6
    obtain ⟨rfl, HB6⟩ := hcut
    clear c0 c1 c2 d0 d1 d2 d3 d4 d5 d6 d7 a0 a1 a2 a3 HSV HGI HYY HB4 HB5
    cases hst : Rl.stays r l p f with
    | true =>
      obtain ⟨hos, hmb⟩ := HST.out hst
      subst hmb
      have HSM : Hid (Calls Try.prog 14 #[.slice bo m.length bcap, .slice bo' m.length bc'] w6 fun e w' => e = .returned (.bool true) ∧ Hid (Below w6.heap.size w6 w')) := (rsame8_yes bo bcap bo' bc' _ _ m m w6 rfl rfl rfl (by omega) (CX.out.inn w6 (HY0.out _ HB6.out)).book (HBM.out w6 (HY2.out _ HB6.out))).mono (fun _ _ h => ⟨h.1, h.2⟩)
      rw [hos]
      clear HST HNS hst HCP HBM hos
      go_wp2_with (go_at_call 14; refine HSM.out.mono ?_; rintro e w7 ⟨rfl, HB7⟩)
      go_ret
      exact ⟨rfl, CX.out.low _ (HY0.out _ (below_up HB6.out HB7.out))⟩
    | false =>
      obtain ⟨HN1, HN2⟩ := HNS.out hst
      have HK1 : Hid _ := HN1
      have HK2 : Hid _ := HN2
      clear HN1 HN2 HNS HST hst HBM
      have hcap : l.length ≤ cap := (CX.out.inn w6 (HY0.out _ HB6.out)).gates.row.1
      obtain ⟨kn, hkn⟩ : ∃ kn, kn = decide (Bk.Known m (sought vi f.dst)) := ⟨_, rfl⟩
      rw [← hkn]
      obtain ⟨sk, hsk⟩ : ∃ sk, sk = Bk.lookP m (sought vi f.dst) := ⟨_, rfl⟩
      rw [← hsk]
      clear hsk
      have HKT : Hid (kn = true → os.length ≤ 1) := fun h => HK1.out (of_decide_eq_true (by rw [← hkn]; exact h))
      have HKF : Hid (kn = false → os.length = cnt (Rl.want r vi p) l l.length) := fun h => HK2.out (of_decide_eq_false (by rw [← hkn]; exact h))
      clear hkn HK1 HK2
      go_wp2_with fail
      go_loopw [18, 74] (fun a i wr => ∃ k : Nat, k ≤ l.length ∧ i = .int .i64 k ∧ a = .int .i64 (cnt (Rl.want r vi p) l k : Nat) ∧ Hid (Below Y.heap.size Y wr)) (fun _ i _ => l.length - (intOf i).toNat)
      case atStart => exact ⟨0, by omega, rfl, rfl, HB6⟩
      case round =>
        obtain ⟨k, hk, rfl, rfl, hB⟩ := hrel
        by_cases hlt : k < l.length
        · have hgr := (CX.out.inn wr (HY0.out _ hB.out)).gates
          obtain ⟨b, off, rfl, _⟩ := hgr.place (by omega)
          obtain ⟨g0, g1, g2, g3⟩ := hgr.cells hlt
          have hgi := hgr.at hlt
          obtain ⟨X, HX⟩ : ∃ X, Hid (X = wr.alloc (.cells #[.int .i64 (gat l k).port, .slice (gat l k).wo (gat l k).ways.length (gat l k).wcap, .int .i64 (gat l k).plain, .slice (gat l k).oo (gat l k).opens.length (gat l k).ocap] 47)) := ⟨_, rfl⟩
          have hXB : Below wr.heap.size wr X := by rw [HX.out]; exact below_alloc1 _ _
          have hX5 : X.heap[wr.heap.size]? = some (.cells #[.int .i64 (gat l k).port, .slice (gat l k).wo (gat l k).ways.length (gat l k).wcap, .int .i64 (gat l k).plain, .slice (gat l k).oo (gat l k).opens.length (gat l k).ocap] 47 (0, 0)) := by rw [HX.out]; exact heap_alloc_last _ _
          have hYX : Below Y.heap.size Y X := below_up hB.out hXB
          have HYX : Hid (Below Y.heap.size Y X) := hYX
          have HPX : Hid (Calls Try.prog 18 #[.agg #[.int .i64 (gat l k).port, .slice (gat l k).wo (gat l k).ways.length (gat l k).wcap, .int .i64 (gat l k).plain, .slice (gat l k).oo (gat l k).opens.length (gat l k).ocap], .agg #[.string r.name, .int .i64 r.rev, .slice r.ao r.n r.cap], .int .i64 vi] X fun e w' => e = .returned (.bool (Rl.passes (gat l k) (r.tree vi) vi)) ∧ Hid (Below Y.heap.size Y w')) := HCP.out Y X (gat l k) hYX (HY0.out _ hYX) (hgi.below hXB)
          have hcs := cnt_succ (Rl.want r vi p) l k hlt
          have hcl := cnt_le (Rl.want r vi p) l k
          have HCS : Hid (cnt (Rl.want r vi p) l (k + 1) = cnt (Rl.want r vi p) l k + if (decide ((gat l k).port ≠ p) && Rl.passes (gat l k) (r.tree vi) vi) = true then 1 else 0) := hcs
          obtain ⟨a0, a1, a2, a3⟩ := gt_cells hX5
          obtain ⟨⟨⟨c0, c1, c2⟩, _⟩, _⟩ := HSS.out X hYX
          clear hgr hgi hXB hX5 hYX hB hcs HCP
          generalize Rl.passes (gat l k) (r.tree vi) vi = ps at *
          generalize gat l k = x at *
          generalize cnt (Rl.want r vi p) l k = ct at *
          go_upto_region 15 with fail
          rw [← HX.out]
          clear g0 g1 g2 g3
          by_cases hp : x.port = p
          · have e1 : (x.port != p) = false := by simp [hp]
            have e2 : decide (x.port ≠ p) = false := by simp [hp]
            rw [e2, Bool.false_and, if_neg (by simp), Nat.add_zero] at HCS
            clear hp e2 HPX
            go_wp2_with fail
            exact ⟨⟨k + 1, by omega, by go_num, by rw [HCS.out]; rfl, HYX⟩, by simp [intOf]; omega⟩
          · have e1 : (x.port != p) = true := by simp [hp]
            have e2 : decide (x.port ≠ p) = true := by simp [hp]
            rw [e2, Bool.true_and] at HCS
            clear hp e2
            cases ps with
            | false =>
              rw [if_neg (by simp), Nat.add_zero] at HCS
              go_wp2_with (go_at_call 18; refine HPX.out.mono ?_; rintro e w7 ⟨rfl, HB7⟩)
              exact ⟨⟨k + 1, by omega, by go_num, by rw [HCS.out]; rfl, HB7⟩, by simp [intOf]; omega⟩
            | true =>
              rw [if_pos rfl] at HCS
              go_wp2_with (go_at_call 18; refine HPX.out.mono ?_; rintro e w7 ⟨rfl, HB7⟩)
              exact ⟨⟨k + 1, by omega, by go_num, by rw [HCS.out]; go_num, HB7⟩, by simp [intOf]; omega⟩
        · obtain rfl : k = l.length := by omega
          cases kn with
          | true =>
            have hle : (os.length : Int) ≤ 1 := by have := HKT.out rfl; omega
            clear HKT HKF
            go_wp2_with fail
            go_ret
            exact ⟨by simp, CX.out.low _ (HY0.out _ hB.out)⟩
          | false =>
            have hle : os.length = cnt (Rl.want r vi p) l l.length := HKF.out rfl
            clear HKT HKF
            rw [← hle]
            go_wp2_with fail
            go_ret
            exact ⟨by simp, CX.out.low _ (HY0.out _ hB.out)⟩
  · have dq : ((Rl.relay r l bk p f).err != 0) = true := by simp [he]
    clear he HO
    go_wp2_with fail
    go_ret
    exact ⟨rfl, CX.out.low _ HB2.out⟩
end Go.Proofs.Ytgkmaihleilchaa
