/- walks: hedgelaw9.RelayAnswer -/
import Derived.Test.YtgkmaihleilchaaYLc
import Derived.Test.YtgkmaihleilchaaYM3
import Derived.Test.YtgkmaihleilchaaHT
namespace Go.Proofs.Ytgkmaihleilchaa
open Go.RowKit
open Bk (E at')
open Rl (G gat F O R)

set_option maxRecDepth 20000 in
set_option maxHeartbeats 8000000 in
theorem ranswer_law (r : R) (ao : Option Addr) (cap : Nat) (l : List G) (bo : Option Addr) (bcap : Nat) (bk : List E) (p q : Int) (f : F) (w : World) (hin : RelIn w r ao cap l bo bcap bk f) :
    Calls Try.prog 8 #[.agg #[.string r.name, .int .i64 r.rev, .slice r.ao r.n r.cap], .slice ao l.length cap, .slice bo bk.length bcap, .int .i64 p, .int .i64 q, .agg #[.int .u64 f.dst, .int .u64 f.src, .bool f.tagged, .int .i64 f.prio, .bool f.drop, .int .i64 f.vid, .int .i64 f.type, .slice f.ao f.n f.cap]] w fun e w' => e = .returned (.bool true) ∧ Below w.heap.size w w' := by
  obtain ⟨W0, HW0⟩ : ∃ W0, Hid (W0 = (w.alloc (.cells #[.string r.name, .int .i64 r.rev, .slice r.ao r.n r.cap] 24)).alloc (.cells #[.int .u64 f.dst, .int .u64 f.src, .bool f.tagged, .int .i64 f.prio, .bool f.drop, .int .i64 f.vid, .int .i64 f.type, .slice f.ao f.n f.cap] 30)) := ⟨_, rfl⟩
  have CX : Hid (Cx W0 w r ao cap l bo bcap bk f) := by rw [HW0.out]; exact cx_of hin
  have HB0 : Hid (Below W0.heap.size W0 W0) := Below.refl _ _
  clear hin
  go_enter Try.func8, Try.ntmps8
  go_wp2_with fail
  rw [← HW0.out]
  refine (CX.out.alive W0 HB0.out).mono ?_
  rintro e w1 ⟨rfl, HB1⟩
  obtain ⟨c0, c1, c2⟩ := CX.out.reg w1 HB1.out
  obtain ⟨d0, d1, d2, d3, d4, d5, d6, d7⟩ := CX.out.frm w1 HB1.out
  go_wp2_with fail
  refine (CX.out.relay p w1 HB1.out).mono ?_
  rintro e w2 ⟨oo, oc, os, bo', bc', rfl, HO, HB2⟩
  clear c0 c1 c2 d0 d1 d2 d3 d4 d5 d6 d7
  by_cases he : (Rl.relay r l bk p f).err = 0
  · have hok := Rl.ok_of he
    have HOK : Hid (Rl.Ok r l bk p f) := hok
    have hbook : Bk.Book (Rl.relay r l bk p f).book := by
      rcases Rl.relay_cases r l bk p f with ⟨h1, _⟩ | ⟨_, _, ⟨_, h3⟩ | ⟨_, h3⟩⟩
      · exact absurd he h1
      · rw [h3]; exact hok.book
      · rw [h3]; exact Bk.learn_book hok.book _
    obtain ⟨m, hm⟩ : ∃ m, m = (Rl.relay r l bk p f).book := ⟨_, rfl⟩
    have HBM : Hid (∀ W, Below w2.heap.size w2 W → BEL W bo' bc' m ∧ NilOk bo' m.length bc') := fun W hW => by rw [hm]; exact ⟨BEL.below HO.out.book hW, HO.out.bnil⟩
    rw [← hm] at hbook
    rw [← hm, he]
    by_cases hpq : p = q
    · have e1 : (p == q) = true := by simp [hpq]
      clear hpq he HO hok HOK
      go_wp2_with fail
      go_ret
      exact ⟨rfl, CX.out.low _ HB2.out⟩
    · have e1 : (p == q) = false := by simpa using hpq
      obtain ⟨vi, hvi⟩ : ∃ vi, vi = Rl.vid l p f := ⟨_, rfl⟩
      have HAN : Hid (vi ≠ 0 → Bk.Known m (sought vi f.src) → Bk.lookP m (sought vi f.src) = p → f.src ≠ f.dst → Rl.res f.src = false → (Rl.relay r l m q (Rl.back f vi)).err = 0 → ((Rl.passes (Rl.atG l q) (r.tree vi) vi = false ∨ Rl.passes (Rl.atG l p) (r.tree vi) vi = false) → (Rl.relay r l m q (Rl.back f vi)).out = []) ∧ (Rl.passes (Rl.atG l q) (r.tree vi) vi = true → Rl.passes (Rl.atG l p) (r.tree vi) vi = true → ∃ o, (Rl.relay r l m q (Rl.back f vi)).out = [o] ∧ o.port = p)) := by
        rw [hvi]
        exact fun h1 h2 h3 h4 h5 h6 => Rl.answer_all hok hpq h1 h2 h3 h4 h5 h6
      have HUP2 : Hid (∀ W, Below w2.heap.size w2 W → Below W0.heap.size W0 W) := fun W hW => below_up HB2.out hW
      have HSR : Hid (∀ W, Below w2.heap.size w2 W → (W.cell? ⟨w.heap.size, 0, none⟩ = some (.string r.name) ∧ W.cell? ⟨w.heap.size, 1, none⟩ = some (.int .i64 r.rev) ∧ W.cell? ⟨w.heap.size, 2, none⟩ = some (.slice r.ao r.n r.cap)) ∧ (W.cell? ⟨w.heap.size + 1, 0, none⟩ = some (.int .u64 f.dst) ∧ W.cell? ⟨w.heap.size + 1, 1, none⟩ = some (.int .u64 f.src) ∧ W.cell? ⟨w.heap.size + 1, 2, none⟩ = some (.bool f.tagged) ∧ W.cell? ⟨w.heap.size + 1, 3, none⟩ = some (.int .i64 f.prio) ∧ W.cell? ⟨w.heap.size + 1, 4, none⟩ = some (.bool f.drop) ∧ W.cell? ⟨w.heap.size + 1, 5, none⟩ = some (.int .i64 f.vid) ∧ W.cell? ⟨w.heap.size + 1, 6, none⟩ = some (.int .i64 f.type) ∧ W.cell? ⟨w.heap.size + 1, 7, none⟩ = some (.slice f.ao f.n f.cap))) := fun W hW => ⟨CX.out.reg W (HUP2.out W hW), CX.out.frm W (HUP2.out W hW)⟩
      have HB22 : Hid (Below w2.heap.size w2 w2) := Below.refl _ _
      have HCA : Hid (∀ (s : Int) (V W : World), Below w2.heap.size w2 W → Below V.heap.size V W → Calls Try.prog 16 #[.slice ao l.length cap, .int .i64 s] W fun e w' => e = .returned (.agg #[.int .i64 (Rl.atG l s).port, .slice (Rl.atG l s).wo (Rl.atG l s).ways.length (Rl.atG l s).wcap, .int .i64 (Rl.atG l s).plain, .slice (Rl.atG l s).oo (Rl.atG l s).opens.length (Rl.atG l s).ocap]) ∧ Hid (Below V.heap.size V w')) := fun s V W h2 hW => (at9_any ao cap l s W (CX.out.inn W (HUP2.out W h2)).gates).mono (fun _ _ h => ⟨h.1, below_up hW h.2⟩)
      have HCP : Hid (∀ (s : Int) (V W : World), Below w2.heap.size w2 W → Below V.heap.size V W → Calls Try.prog 18 #[.agg #[.int .i64 (Rl.atG l s).port, .slice (Rl.atG l s).wo (Rl.atG l s).ways.length (Rl.atG l s).wcap, .int .i64 (Rl.atG l s).plain, .slice (Rl.atG l s).oo (Rl.atG l s).opens.length (Rl.atG l s).ocap], .agg #[.string r.name, .int .i64 r.rev, .slice r.ao r.n r.cap], .int .i64 vi] W fun e w' => e = .returned (.bool (Rl.passes (Rl.atG l s) (r.tree vi) vi)) ∧ Hid (Below V.heap.size V w')) := fun s V W h2 hW => (passes8_any (Rl.atG l s) r vi W ((CX.out.inn W (HUP2.out W h2)).gates.atG s) HOK.out.reg (CX.out.inn W (HUP2.out W h2)).ways).mono (fun _ _ h => ⟨h.1, below_up hW h.2⟩)
      have HCW : Hid (∀ (V W : World), Below V.heap.size V W → Calls Try.prog 17 #[.agg #[.int .i64 (Rl.atG l p).port, .slice (Rl.atG l p).wo (Rl.atG l p).ways.length (Rl.atG l p).wcap, .int .i64 (Rl.atG l p).plain, .slice (Rl.atG l p).oo (Rl.atG l p).opens.length (Rl.atG l p).ocap], .agg #[.int .u64 f.dst, .int .u64 f.src, .bool f.tagged, .int .i64 f.prio, .bool f.drop, .int .i64 f.vid, .int .i64 f.type, .slice f.ao f.n f.cap]] W fun e w' => e = .returned (.int .i64 vi) ∧ Hid (Below V.heap.size V w')) := fun V W hW => by rw [hvi]; exact (way9_any f (Rl.atG l p) W).mono (fun _ _ h => ⟨h.1, below_up hW h.2⟩)
      have HLK : Hid (∀ (W : World), Below w2.heap.size w2 W → Calls Try.prog 19 #[.slice bo' m.length bc', .int .i64 vi, .int .u64 f.src] W fun e w' => e = .returned (.tuple #[.int .i64 (Bk.lookP m (sought vi f.src)), .bool (decide (Bk.Known m (sought vi f.src)))]) ∧ Hid (Below w2.heap.size w2 w')) := fun W hW => (blook_any bo' bc' m vi f.src W hbook (HBM.out W hW).1).mono (fun _ _ h => ⟨h.1, below_up hW h.2⟩)
      have HRE : Hid (∀ (W : World), Below w2.heap.size w2 W → Calls Try.prog 11 #[.agg #[.string r.name, .int .i64 r.rev, .slice r.ao r.n r.cap], .slice ao l.length cap, .slice bo' m.length bc', .int .i64 q, .agg #[.int .u64 f.src, .int .u64 f.dst, .bool true, .int .i64 0, .bool false, .int .i64 vi, .int .i64 f.type, .slice none 0 0]] W fun e w' => ∃ oo oc os bo2 bc2, e = .returned (.tuple #[.slice oo os.length oc, .slice bo2 (Rl.relay r l m q (Rl.back f vi)).book.length bc2, .int .i64 (Rl.relay r l m q (Rl.back f vi)).err]) ∧ Hid (RelOut W w' (Rl.back f vi) (Rl.relay r l m q (Rl.back f vi)) oo oc os bo2 bc2) ∧ Hid (Below w2.heap.size w2 w')) := fun W hW => by
        have hi := CX.out.inn W (HUP2.out W hW)
        have hin2 : RelIn W r ao cap l bo' bc' m (Rl.back f vi) := ⟨hi.ways, hi.rn, hi.gates, (HBM.out W hW).1, by have := hbook.many; omega, (HBM.out W hW).2, ⟨Nat.le_refl _, fun h => absurd h (by show ¬ 0 < 0; omega)⟩, fun _ => ⟨rfl, rfl⟩, hi.src, hi.dst⟩
        refine (relay_any r ao cap l bo' bc' m q (Rl.back f vi) W hin2).mono ?_
        rintro e w' ⟨oo, oc, os, bo2, bc2, rfl, ho⟩
        exact ⟨oo, oc, os, bo2, bc2, rfl, ho, below_up hW ho.low⟩
      obtain ⟨⟨c0, c1, c2⟩, d0, d1, d2, d3, d4, d5, d6, d7⟩ := HSR.out w2 HB22.out
      have HCA2 : Hid (∀ (W : World), Below w2.heap.size w2 W → Calls Try.prog 16 #[.slice ao l.length cap, .int .i64 p] W fun e w' => e = .returned (.agg #[.int .i64 (Rl.atG l p).port, .slice (Rl.atG l p).wo (Rl.atG l p).ways.length (Rl.atG l p).wcap, .int .i64 (Rl.atG l p).plain, .slice (Rl.atG l p).oo (Rl.atG l p).opens.length (Rl.atG l p).ocap]) ∧ Hid (Below w2.heap.size w2 w')) := fun W hW => HCA.out p w2 W hW hW
      obtain ⟨gp, hgp⟩ : ∃ gp, gp = Rl.atG l p := ⟨_, rfl⟩
      rw [← hgp] at HCW HCA2
      clear hvi hpq he HO hok hm hbook hgp
      go_wp2_with fail
      go_cut [16] (fun v W => v = .int .i64 vi ∧ Hid (Below w2.heap.size w2 W))
      case first =>
        go_region_held3 (fun W => (W.cell? ⟨w.heap.size, 0, none⟩ = some (.string r.name) ∧ W.cell? ⟨w.heap.size, 1, none⟩ = some (.int .i64 r.rev) ∧ W.cell? ⟨w.heap.size, 2, none⟩ = some (.slice r.ao r.n r.cap)) ∧ (W.cell? ⟨w.heap.size + 1, 0, none⟩ = some (.int .u64 f.dst) ∧ W.cell? ⟨w.heap.size + 1, 1, none⟩ = some (.int .u64 f.src) ∧ W.cell? ⟨w.heap.size + 1, 2, none⟩ = some (.bool f.tagged) ∧ W.cell? ⟨w.heap.size + 1, 3, none⟩ = some (.int .i64 f.prio) ∧ W.cell? ⟨w.heap.size + 1, 4, none⟩ = some (.bool f.drop) ∧ W.cell? ⟨w.heap.size + 1, 5, none⟩ = some (.int .i64 f.vid) ∧ W.cell? ⟨w.heap.size + 1, 6, none⟩ = some (.int .i64 f.type) ∧ W.cell? ⟨w.heap.size + 1, 7, none⟩ = some (.slice f.ao f.n f.cap)))
          (first | (exact HSR.out _ (Hid.out (by assumption))) | (exact HSR.out _ (Below.drew (Hid.out (by assumption)))))
          (first | (go_at_call 16; (with_reducible refine (HCA2.out _ (by first | exact (Hid.out (by assumption)) | exact Below.drew (Hid.out (by assumption)))).mono ?_); rintro e w5 ⟨rfl, HB5⟩) | (go_at_call 17; (with_reducible refine (HCW.out w2 _ (by first | exact (Hid.out (by assumption)) | exact Below.drew (Hid.out (by assumption)))).mono ?_); rintro e w5 ⟨rfl, HB5⟩))
        all_goals go_wp2_with fail
        all_goals go_meet
        all_goals exact ⟨rfl, HB5⟩
      case rest =>
      rename World => w3
      obtain ⟨rfl, HB3⟩ := hcut
      clear c0 c1 c2 d0 d1 d2 d3 d4 d5 d6 d7 HCA2 HCW
      obtain ⟨⟨c0, c1, c2⟩, d0, d1, d2, d3, d4, d5, d6, d7⟩ := HSR.out w3 HB3.out
      go_wp2_with fail
      refine (HLK.out w3 HB3.out).mono ?_
      rintro e w4 ⟨rfl, HB4⟩
      clear c0 c1 c2 d0 d1 d2 d3 d4 d5 d6 d7 HLK
      obtain ⟨⟨c0, c1, c2⟩, d0, d1, d2, d3, d4, d5, d6, d7⟩ := HSR.out w4 HB4.out
      obtain ⟨sk, hsk⟩ : ∃ sk, sk = Bk.lookP m (sought vi f.src) := ⟨_, rfl⟩
      obtain ⟨kn, hkn⟩ : ∃ kn, kn = decide (Bk.Known m (sought vi f.src)) := ⟨_, rfl⟩
      rw [← hsk, ← hkn]
      rw [← hsk] at HAN
      have HKN : Hid (kn = true → Bk.Known m (sought vi f.src)) := fun h => of_decide_eq_true (by rw [← hkn]; exact h)
      clear hsk hkn
      go_upto_region 8 with fail
      go_cut [84] (fun v W => ∃ c : Bool, v = .bool c ∧ Hid (c = false → vi ≠ 0 ∧ kn = true ∧ sk = p ∧ f.src ≠ f.dst ∧ Rl.res f.src = false) ∧ W = w4)
      case first =>
        clear HAN HRE HCP HCA HOK HKN
        by_cases k1 : vi = 0
        · have b1 : (vi == 0) = true := by simp [k1]
          clear k1
          go_wp2_with fail
          go_meet
          exact ⟨true, rfl, (fun h => by cases h), rfl⟩
        · have b1 : (vi == 0) = false := by simpa using k1
          cases kn with
          | false =>
            go_wp2_with fail
            go_meet
            exact ⟨true, rfl, (fun h => by cases h), rfl⟩
          | true =>
            by_cases k3 : sk = p
            · have b3 : (sk != p) = false := by simp [k3]
              by_cases k4 : f.src = f.dst
              · have b4 : (f.src == f.dst) = true := by simp [k4]
                have HK : Hid (f.src = f.dst) := k4
                clear k1 k3 k4
                go_wp2_with fail
                go_meet
                exact ⟨true, rfl, (fun h => by cases h), rfl⟩
              · have b4 : (f.src == f.dst) = false := by simpa using k4
                have HF : Hid (vi ≠ 0 ∧ sk = p ∧ f.src ≠ f.dst) := ⟨k1, k3, k4⟩
                have HR : Hid (Rl.res f.src = decide (f.src / 16 = 103282638848)) := Rl.res_iff _
                clear k1 k3 k4
                go_wp2_with fail
                all_goals go_meet
                all_goals first | exact ⟨true, rfl, (fun h => by cases h), rfl⟩ | exact ⟨_, rfl, (fun h => ⟨HF.out.1, (by first | rfl | trivial), HF.out.2.1, HF.out.2.2, by rw [HR.out]; exact decide_eq_false (fun e => by simp [e] at h)⟩), rfl⟩
            · have b3 : (sk != p) = true := by simp [k3]
              clear k3
              go_wp2_with fail
              go_meet
              exact ⟨true, rfl, (fun h => by cases h), rfl⟩
      case rest =>
      obtain ⟨c, rfl, HCF, rfl⟩ := hcut
      cases c with
      | true =>
        clear HAN HRE HCP HCA HOK HKN HCF
        go_wp2_with fail
        go_ret
        exact ⟨rfl, CX.out.low _ (HUP2.out _ HB4.out)⟩
      | false =>
        obtain ⟨k1, k2, k3, k4, k5⟩ := HCF.out rfl
        have HAN2 : Hid _ := HAN.out k1 (HKN.out k2) k3 k4 k5
        clear k1 k2 k3 k4 k5 HCF HAN HKN
        rename World => w4
        obtain ⟨Y, HY⟩ : ∃ Y, Hid (Y = w4.alloc (.cells #[.int .u64 f.src, .int .u64 f.dst, .bool true, .int .i64 0, .bool false, .int .i64 vi, .int .i64 f.type, .slice none 0 0] 30)) := ⟨_, rfl⟩
        have hY1 : Below w4.heap.size w4 Y := by rw [HY.out]; exact below_alloc1 _ _
        have hY2 : Y.heap[w4.heap.size]? = some (.cells #[.int .u64 f.src, .int .u64 f.dst, .bool true, .int .i64 0, .bool false, .int .i64 vi, .int .i64 f.type, .slice none 0 0] 30 (0, 0)) := by rw [HY.out]; exact heap_alloc_last _ _
        have HYB : Hid (Below w2.heap.size w2 Y) := below_up HB4.out hY1
        obtain ⟨y0, y1, y2, y3, y4, y5, y6, y7⟩ := fr_cells hY2
        clear hY1 hY2
        go_upto_region 11 with fail
        rw [← HY.out]
        clear c0 c1 c2 d0 d1 d2 d3 d4 d5 d6 d7
        obtain ⟨⟨c0, c1, c2⟩, _⟩ := HSR.out Y HYB.out
        go_wp2_with fail
        refine (HRE.out Y HYB.out).mono ?_
        rintro e w5 ⟨oo2, oc2, os2, bo2, bc2, rfl, HO2, HB5⟩
        clear HRE y0 y1 y2 y3 y4 y5 y6 y7 c0 c1 c2
        by_cases he2 : (Rl.relay r l m q (Rl.back f vi)).err = 0
        · obtain ⟨hn1, hn2⟩ := HAN2.out he2
          have H0 : Hid ((Rl.passes (Rl.atG l q) (r.tree vi) vi = false ∨ Rl.passes (Rl.atG l p) (r.tree vi) vi = false) → os2.length = 0) := fun h => by
            have := congrArg List.length HO2.out.out
            rw [hn1 h, List.length_map] at this
            exact this
          have H1 : Hid (Rl.passes (Rl.atG l q) (r.tree vi) vi = true → Rl.passes (Rl.atG l p) (r.tree vi) vi = true → os2.length = 1 ∧ (oat os2 0).o.port = p) := fun h1 h2 => by
            obtain ⟨o, h3, h4⟩ := hn2 h1 h2
            have h5 := HO2.out.out
            rw [h3] at h5
            have h6 := congrArg List.length h5
            rw [List.length_map] at h6
            have h7 : os2.length = 1 := h6
            refine ⟨h7, ?_⟩
            have h8 := os_mem h5 (i := 0) (by omega)
            have h9 : (oat os2 0).o = o := by simpa using h8
            rw [h9]; exact h4
          have HOW : Hid (∀ W, Below w5.heap.size w5 W → ORw W oo2 oc2 (Rl.back f vi) os2) := fun W hW => HO2.out.row.below hW
          rw [he2]
          have HB5b : Hid (Below w5.heap.size w5 w5) := Below.refl _ _
          have HU5 : Hid (∀ W, Below w5.heap.size w5 W → Below w2.heap.size w2 W) := fun W hW => below_up HB5.out hW
          have HS14 : Hid (∀ W, Below w5.heap.size w5 W → (W.cell? ⟨w.heap.size, 0, none⟩ = some (.string r.name) ∧ W.cell? ⟨w.heap.size, 1, none⟩ = some (.int .i64 r.rev) ∧ W.cell? ⟨w.heap.size, 2, none⟩ = some (.slice r.ao r.n r.cap)) ∧ (W.cell? ⟨w.heap.size + 1, 0, none⟩ = some (.int .u64 f.dst) ∧ W.cell? ⟨w.heap.size + 1, 1, none⟩ = some (.int .u64 f.src) ∧ W.cell? ⟨w.heap.size + 1, 2, none⟩ = some (.bool f.tagged) ∧ W.cell? ⟨w.heap.size + 1, 3, none⟩ = some (.int .i64 f.prio) ∧ W.cell? ⟨w.heap.size + 1, 4, none⟩ = some (.bool f.drop) ∧ W.cell? ⟨w.heap.size + 1, 5, none⟩ = some (.int .i64 f.vid) ∧ W.cell? ⟨w.heap.size + 1, 6, none⟩ = some (.int .i64 f.type) ∧ W.cell? ⟨w.heap.size + 1, 7, none⟩ = some (.slice f.ao f.n f.cap))) := fun W hW => HSR.out W (HU5.out W hW)
          obtain ⟨P1, hP1⟩ : ∃ P1, P1 = Rl.passes (Rl.atG l q) (r.tree vi) vi := ⟨_, rfl⟩
          obtain ⟨P2, hP2⟩ : ∃ P2, P2 = Rl.passes (Rl.atG l p) (r.tree vi) vi := ⟨_, rfl⟩
          have HA1 : Hid (∀ W, Below w5.heap.size w5 W → Calls Try.prog 16 #[.slice ao l.length cap, .int .i64 q] W fun e w' => e = .returned (.agg #[.int .i64 (Rl.atG l q).port, .slice (Rl.atG l q).wo (Rl.atG l q).ways.length (Rl.atG l q).wcap, .int .i64 (Rl.atG l q).plain, .slice (Rl.atG l q).oo (Rl.atG l q).opens.length (Rl.atG l q).ocap]) ∧ Hid (Below w5.heap.size w5 w')) := fun W hW => HCA.out q w5 W (HU5.out W hW) hW
          have HA2 : Hid (∀ W, Below w5.heap.size w5 W → Calls Try.prog 16 #[.slice ao l.length cap, .int .i64 p] W fun e w' => e = .returned (.agg #[.int .i64 (Rl.atG l p).port, .slice (Rl.atG l p).wo (Rl.atG l p).ways.length (Rl.atG l p).wcap, .int .i64 (Rl.atG l p).plain, .slice (Rl.atG l p).oo (Rl.atG l p).opens.length (Rl.atG l p).ocap]) ∧ Hid (Below w5.heap.size w5 w')) := fun W hW => HCA.out p w5 W (HU5.out W hW) hW
          have HP1 : Hid (∀ W, Below w5.heap.size w5 W → Calls Try.prog 18 #[.agg #[.int .i64 (Rl.atG l q).port, .slice (Rl.atG l q).wo (Rl.atG l q).ways.length (Rl.atG l q).wcap, .int .i64 (Rl.atG l q).plain, .slice (Rl.atG l q).oo (Rl.atG l q).opens.length (Rl.atG l q).ocap], .agg #[.string r.name, .int .i64 r.rev, .slice r.ao r.n r.cap], .int .i64 vi] W fun e w' => e = .returned (.bool P1) ∧ Hid (Below w5.heap.size w5 w')) := fun W hW => by rw [hP1]; exact HCP.out q w5 W (HU5.out W hW) hW
          have HP2 : Hid (∀ W, Below w5.heap.size w5 W → Calls Try.prog 18 #[.agg #[.int .i64 (Rl.atG l p).port, .slice (Rl.atG l p).wo (Rl.atG l p).ways.length (Rl.atG l p).wcap, .int .i64 (Rl.atG l p).plain, .slice (Rl.atG l p).oo (Rl.atG l p).opens.length (Rl.atG l p).ocap], .agg #[.string r.name, .int .i64 r.rev, .slice r.ao r.n r.cap], .int .i64 vi] W fun e w' => e = .returned (.bool P2) ∧ Hid (Below w5.heap.size w5 w')) := fun W hW => by rw [hP2]; exact HCP.out p w5 W (HU5.out W hW) hW
          rw [← hP1, ← hP2] at H0 H1
          clear hP1 hP2 hn1 hn2 HAN2 he2 HO2 HCA HCP HOK
          generalize Rl.atG l q = gq at *
          generalize Rl.atG l p = gp at *
          obtain ⟨⟨c0, c1, c2⟩, d0, d1, d2, d3, d4, d5, d6, d7⟩ := HS14.out w5 HB5b.out
          go_wp2_with fail
          go_cut [120] (fun v W => v = .bool (!P1 || !P2) ∧ Hid (Below w5.heap.size w5 W))
          case first =>
            clear H0 H1 HOW
            cases P1 with
            | false =>
              refine wp_region_held_drew (S := fun W => (W.cell? ⟨w.heap.size, 0, none⟩ = some (.string r.name) ∧ W.cell? ⟨w.heap.size, 1, none⟩ = some (.int .i64 r.rev) ∧ W.cell? ⟨w.heap.size, 2, none⟩ = some (.slice r.ao r.n r.cap)) ∧ (W.cell? ⟨w.heap.size + 1, 0, none⟩ = some (.int .u64 f.dst) ∧ W.cell? ⟨w.heap.size + 1, 1, none⟩ = some (.int .u64 f.src) ∧ W.cell? ⟨w.heap.size + 1, 2, none⟩ = some (.bool f.tagged) ∧ W.cell? ⟨w.heap.size + 1, 3, none⟩ = some (.int .i64 f.prio) ∧ W.cell? ⟨w.heap.size + 1, 4, none⟩ = some (.bool f.drop) ∧ W.cell? ⟨w.heap.size + 1, 5, none⟩ = some (.int .i64 f.vid) ∧ W.cell? ⟨w.heap.size + 1, 6, none⟩ = some (.int .i64 f.type) ∧ W.cell? ⟨w.heap.size + 1, 7, none⟩ = some (.slice f.ao f.n f.cap))) (by kernel_rfl) (HS14.out _ (Below.drew HB5b.out)) (fun hHeld => ?_)
              refine held_take (i := 0) (v := ?_) (some 105) rfl rfl (by kernel_rfl) (by kernel_rfl) (by kernel_rfl) (fun _ _ _ h => h) (by rfl) ?_ hHeld ?_
              rotate_left 1
              · (intro wq hSw; go_simp; try with_reducible rfl)
              simp only [Act.put, List.setIfInBounds_toArray, List.set_cons_zero, List.set_cons_succ]
              refine held_take (i := 1) (v := ?_) (some 106) rfl rfl (by kernel_rfl) (by kernel_rfl) (by kernel_rfl) (fun _ _ _ h => h) (by rfl) ?_ hHeld ?_
              rotate_left 1
              · (intro wq hSw; go_simp; try with_reducible rfl)
              simp only [Act.put, List.setIfInBounds_toArray, List.set_cons_zero, List.set_cons_succ]
              refine held_take (i := 3) (v := ?_) (some 108) rfl rfl (by kernel_rfl) (by kernel_rfl) (by kernel_rfl) (fun _ _ _ h => h) (by rfl) ?_ hHeld ?_
              rotate_left 1
              · (intro wq hSw; go_simp; try with_reducible rfl)
              simp only [Act.put, List.setIfInBounds_toArray, List.set_cons_zero, List.set_cons_succ]
              refine held_take (i := 4) (v := ?_) (some 109) rfl rfl (by kernel_rfl) (by kernel_rfl) (by kernel_rfl) (fun _ _ _ h => h) (by rfl) ?_ hHeld ?_
              rotate_left 1
              · (intro wq hSw; go_simp; try with_reducible rfl)
              simp only [Act.put, List.setIfInBounds_toArray, List.set_cons_zero, List.set_cons_succ]
              refine wpAnyH_ready (rs := [2]) (by kernel_rfl) (by simp) ?_
              refine AllReadyH.cons rfl (fun K hK => ?_) AllReadyH.nil
              go_simp
              refine (HA1.out _ (Below.drew HB5b.out)).mono ?_
              rintro e wA ⟨rfl, HBA⟩
              refine hK.out _ _ (HS14.out _ HBA.out) (fun hHeld => ?_)
              clear hK K
              refine wpAnyH_ready (rs := [5]) (by kernel_rfl) (by simp) ?_
              refine AllReadyH.cons rfl (fun K hK => ?_) AllReadyH.nil
              go_simp
              refine (HP1.out _ HBA.out).mono ?_
              rintro e wB ⟨rfl, HBB⟩
              refine hK.out _ _ (HS14.out _ HBB.out) (fun hHeld => ?_)
              clear hK K
              refine held_take (i := 6) (v := ?_) (some 111) rfl rfl (by kernel_rfl) (by kernel_rfl) (by kernel_rfl) (fun _ _ _ h => h) (by rfl) ?_ hHeld ?_
              rotate_left 1
              · (intro wq hSw; go_simp; try with_reducible rfl)
              simp only [Act.put, List.setIfInBounds_toArray, List.set_cons_zero, List.set_cons_succ]
              refine held_take (i := 7) (v := ?_) (some 112) rfl rfl (by kernel_rfl) (by kernel_rfl) (by kernel_rfl) (fun _ _ _ h => h) (by rfl) ?_ hHeld ?_
              rotate_left 1
              · (intro wq hSw; go_simp; try with_reducible rfl)
              simp only [Act.put, List.setIfInBounds_toArray, List.set_cons_zero, List.set_cons_succ]
              refine held_skip (i := 8) (some 113) rfl rfl (by kernel_rfl) (by kernel_rfl) (by kernel_rfl) (fun _ _ _ h => h) (by rfl) hHeld ?_
              simp only [Act.put, List.setIfInBounds_toArray, List.set_cons_zero, List.set_cons_succ]
              refine held_skip (i := 9) (some 114) rfl rfl (by kernel_rfl) (by kernel_rfl) (by kernel_rfl) (fun _ _ _ h => h) (by rfl) hHeld ?_
              simp only [Act.put, List.setIfInBounds_toArray, List.set_cons_zero, List.set_cons_succ]
              refine held_skip (i := 10) (some 115) rfl rfl (by kernel_rfl) (by kernel_rfl) (by kernel_rfl) (fun _ _ _ h => h) (by rfl) hHeld ?_
              simp only [Act.put, List.setIfInBounds_toArray, List.set_cons_zero, List.set_cons_succ]
              refine held_skip (i := 11) (some 116) rfl rfl (by kernel_rfl) (by kernel_rfl) (by kernel_rfl) (fun _ _ _ h => h) (by rfl) hHeld ?_
              simp only [Act.put, List.setIfInBounds_toArray, List.set_cons_zero, List.set_cons_succ]
              refine held_skip (i := 12) (some 117) rfl rfl (by kernel_rfl) (by kernel_rfl) (by kernel_rfl) (fun _ _ _ h => h) (by rfl) hHeld ?_
              simp only [Act.put, List.setIfInBounds_toArray, List.set_cons_zero, List.set_cons_succ]
              refine held_skip (i := 13) (some 118) rfl rfl (by kernel_rfl) (by kernel_rfl) (by kernel_rfl) (fun _ _ _ h => h) (by rfl) hHeld ?_
              simp only [Act.put, List.setIfInBounds_toArray, List.set_cons_zero, List.set_cons_succ]
              refine held_skip (i := 14) (some 119) rfl rfl (by kernel_rfl) (by kernel_rfl) (by kernel_rfl) (fun _ _ _ h => h) (by rfl) hHeld ?_
              simp only [Act.put, List.setIfInBounds_toArray, List.set_cons_zero, List.set_cons_succ]
              refine held_take (i := 15) (v := ?_) (some 120) rfl rfl (by kernel_rfl) (by kernel_rfl) (by kernel_rfl) (fun _ _ _ h => h) (by rfl) ?_ hHeld ?_
              rotate_left 1
              · (intro wq hSw; go_simp; try with_reducible rfl)
              simp only [Act.put, List.setIfInBounds_toArray, List.set_cons_zero, List.set_cons_succ]
              refine wpAnyH_done (by kernel_rfl) ?_ _
              go_wp2_with fail
              go_meet
              exact ⟨rfl, HBB⟩
            | true =>
              go_region_held3 (fun W => (W.cell? ⟨w.heap.size, 0, none⟩ = some (.string r.name) ∧ W.cell? ⟨w.heap.size, 1, none⟩ = some (.int .i64 r.rev) ∧ W.cell? ⟨w.heap.size, 2, none⟩ = some (.slice r.ao r.n r.cap)) ∧ (W.cell? ⟨w.heap.size + 1, 0, none⟩ = some (.int .u64 f.dst) ∧ W.cell? ⟨w.heap.size + 1, 1, none⟩ = some (.int .u64 f.src) ∧ W.cell? ⟨w.heap.size + 1, 2, none⟩ = some (.bool f.tagged) ∧ W.cell? ⟨w.heap.size + 1, 3, none⟩ = some (.int .i64 f.prio) ∧ W.cell? ⟨w.heap.size + 1, 4, none⟩ = some (.bool f.drop) ∧ W.cell? ⟨w.heap.size + 1, 5, none⟩ = some (.int .i64 f.vid) ∧ W.cell? ⟨w.heap.size + 1, 6, none⟩ = some (.int .i64 f.type) ∧ W.cell? ⟨w.heap.size + 1, 7, none⟩ = some (.slice f.ao f.n f.cap)))
                (first | (exact HS14.out _ (Hid.out (by assumption))) | (exact HS14.out _ (Below.drew (Hid.out (by assumption)))))
                (first | (go_at_call 16; (with_reducible refine (HA1.out _ (by first | exact (Hid.out (by assumption)) | exact Below.drew (Hid.out (by assumption)))).mono ?_); rintro e w6 ⟨rfl, HB6⟩) | (go_at_call 16; (with_reducible refine (HA2.out _ (by first | exact (Hid.out (by assumption)) | exact Below.drew (Hid.out (by assumption)))).mono ?_); rintro e w6 ⟨rfl, HB6⟩) | (go_at_call 18; (with_reducible refine (HP1.out _ (by first | exact (Hid.out (by assumption)) | exact Below.drew (Hid.out (by assumption)))).mono ?_); rintro e w6 ⟨rfl, HB6⟩) | (go_at_call 18; (with_reducible refine (HP2.out _ (by first | exact (Hid.out (by assumption)) | exact Below.drew (Hid.out (by assumption)))).mono ?_); rintro e w6 ⟨rfl, HB6⟩))
              all_goals go_wp2_with fail
              all_goals go_meet
              all_goals exact ⟨rfl, HB6⟩
          case rest =>
          rename World => w6
          obtain ⟨rfl, HB6⟩ := hcut
          clear c0 c1 c2 d0 d1 d2 d3 d4 d5 d6 d7 HA1 HA2 HP1 HP2
          cases hb : (!P1 || !P2) with
          | true =>
            have h0 : os2.length = 0 := H0.out (by
              cases P1
              · exact Or.inl rfl
              · cases P2
                · exact Or.inr rfl
                · cases hb)
            rw [h0]
            clear H0 H1 HOW hb
            go_wp2_with fail
            go_ret
            exact ⟨rfl, CX.out.low _ (HUP2.out _ (HU5.out _ HB6.out))⟩
          | false =>
            obtain ⟨h1, h2⟩ := H1.out (by cases P1 <;> simp_all) (by cases P2 <;> simp_all)
            obtain ⟨b, off, rfl, _⟩ := (HOW.out w6 HB6.out).place (by omega)
            have hcap : 1 ≤ oc2 := by have := (HOW.out w6 HB6.out).row.1; omega
            have g0 := ((HOW.out w6 HB6.out).cells (i := 0) (by omega)).1
            rw [h2, Nat.zero_mul, Nat.add_zero] at g0
            rw [h1]
            clear H0 H1 HOW hb h1 h2
            go_wp2_with fail
            go_ret
            exact ⟨by simp, CX.out.low _ (HUP2.out _ (HU5.out _ HB6.out))⟩
        · have dq : ((Rl.relay r l m q (Rl.back f vi)).err != 0) = true := by simp [he2]
          clear he2 HO2 HAN2
          go_wp2_with fail
          go_ret
          exact ⟨rfl, CX.out.low _ (HUP2.out _ HB5.out)⟩
  · have dq : ((Rl.relay r l bk p f).err != 0) = true := by simp [he]
    clear he HO
    go_wp2_with fail
    go_ret
    exact ⟨rfl, CX.out.low _ HB2.out⟩
end Go.Proofs.Ytgkmaihleilchaa
