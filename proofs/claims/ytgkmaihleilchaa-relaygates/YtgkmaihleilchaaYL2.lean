/- walks: hedgelaw9.RelayGates -/
import Derived.Test.YtgkmaihleilchaaYLc
namespace Go.Proofs.Ytgkmaihleilchaa
open Go.RowKit
open Bk (E at')
open Rl (G gat F O R)

def lastO (os : List OV) (k : Nat) : Int := if k = 0 then -1 else (oat os (k - 1)).o.port
set_option maxRecDepth 20000 in
set_option maxHeartbeats 8000000 in
theorem rgates_law (r : R) (ao : Option Addr) (cap : Nat) (l : List G) (bo : Option Addr) (bcap : Nat) (bk : List E) (p : Int) (f : F) (w : World) (hin : RelIn w r ao cap l bo bcap bk f) :
    Calls Try.prog 4 #[.agg #[.string r.name, .int .i64 r.rev, .slice r.ao r.n r.cap], .slice ao l.length cap, .slice bo bk.length bcap, .int .i64 p, .agg #[.int .u64 f.dst, .int .u64 f.src, .bool f.tagged, .int .i64 f.prio, .bool f.drop, .int .i64 f.vid, .int .i64 f.type, .slice f.ao f.n f.cap]] w fun e w' => e = .returned (.bool true) ∧ Below w.heap.size w w' := by
  obtain ⟨W0, HW0⟩ : ∃ W0, Hid (W0 = (w.alloc (.cells #[.string r.name, .int .i64 r.rev, .slice r.ao r.n r.cap] 24)).alloc (.cells #[.int .u64 f.dst, .int .u64 f.src, .bool f.tagged, .int .i64 f.prio, .bool f.drop, .int .i64 f.vid, .int .i64 f.type, .slice f.ao f.n f.cap] 30)) := ⟨_, rfl⟩
  have CX : Hid (Cx W0 w r ao cap l bo bcap bk f) := by rw [HW0.out]; exact cx_of hin
  have HB0 : Hid (Below W0.heap.size W0 W0) := Below.refl _ _
  clear hin
  go_enter Try.func4, Try.ntmps4
  go_wp2_with fail
  rw [← HW0.out]
  refine (CX.out.alive W0 HB0.out).mono ?_
  rintro e w1 ⟨rfl, HB1⟩
  obtain ⟨c0, c1, c2⟩ := CX.out.reg w1 HB1.out
  obtain ⟨d0, d1, d2, d3, d4, d5, d6, d7⟩ := CX.out.frm w1 HB1.out
  go_wp2_with fail
  refine (CX.out.relay p w1 HB1.out).mono ?_
  rintro e w2 ⟨oo, oc, os, bo', bc', rfl, HO, HB2⟩
  clear c0 c1 c2 d0 d1 d2 d3 d4 d5 d6 d7
  by_cases he : (Rl.relay r l bk p f).err = 0
  · have hok := Rl.ok_of he
    have HOK : Hid (Rl.Ok r l bk p f) := hok
    have HOW : Hid (∀ W, Below w2.heap.size w2 W → ORw W oo oc f os) := fun W hW => HO.out.row.below hW
    have HME : Hid (∀ i, i < os.length → (oat os i).o.port ≠ p ∧ 0 ≤ (oat os i).o.port ∧ Rl.passes (Rl.atG l (oat os i).o.port) (r.tree (Rl.vid l p f)) (Rl.vid l p f) = true ∧ Rl.passes (Rl.atG l p) (r.tree (Rl.vid l p f)) (Rl.vid l p f) = true) := fun i hi => by
      obtain ⟨_, h1, h2, h3, h4, _⟩ := Rl.out_at he (os_mem HO.out.out hi)
      exact ⟨h1, h2, h3, h4⟩
    have HLS : Hid (∀ i, i < os.length → ¬ (oat os i).o.port ≤ lastO os i) := fun i hi => by
      unfold lastO
      by_cases e : i = 0
      · rw [if_pos e]; have := (HME.out i hi).2.1; omega
      · rw [if_neg e]; have := os_less HO.out.out (Rl.out_less he) (show i - 1 < i by omega) hi; omega
    have hcap : os.length ≤ oc := HO.out.row.row.1
    have hn : os.length ≤ 31 := by
      have h1 : os.length = (Rl.relay r l bk p f).out.length := by rw [← HO.out.out, List.length_map]
      have h2 : (Rl.relay r l bk p f).out.length ≤ l.length := by
        rcases Rl.relay_cases r l bk p f with ⟨_, h3, _⟩ | ⟨_, _, ⟨_, h3⟩ | ⟨_, h3⟩⟩
        · rw [h3]; simp
        · rw [h3]; simp
        · rw [h3]
          show (Rl.outs r l bk p f).length ≤ l.length
          unfold Rl.outs
          rw [List.length_map]
          exact List.length_filter_le _ _
      have := hok.right.many
      omega
    rw [he]
    clear he HO hok
    go_wp2_with fail
    go_loopw [14, 38] (fun a i wr => ∃ k : Nat, k ≤ os.length ∧ i = .int .i64 k ∧ a = .int .i64 (lastO os k) ∧ Hid (Below w2.heap.size w2 wr)) (fun _ i _ => os.length - (intOf i).toNat)
    case atStart => exact ⟨0, by omega, rfl, rfl, Below.refl _ _⟩
    case round =>
      obtain ⟨k, hk, rfl, rfl, hB⟩ := hrel
      by_cases hlt : k < os.length
      · obtain ⟨b, off, rfl, _⟩ := (HOW.out wr hB.out).place (by omega)
        obtain ⟨g0, g1, g2, g3, g4, g5, g6, g7, g8⟩ := (HOW.out wr hB.out).cells hlt
        obtain ⟨X, HX⟩ : ∃ X, Hid (X = wr.alloc (.cells #[.int .i64 (oat os k).o.port, .int .u64 f.dst, .int .u64 f.src, .bool (oat os k).o.tagged, .int .i64 (oat os k).o.prio, .bool (oat os k).o.drop, .int .i64 (oat os k).o.vid, .int .i64 f.type, .slice (oat os k).da f.n (oat os k).dc] 43)) := ⟨_, rfl⟩
        have hXB : Below wr.heap.size wr X := by rw [HX.out]; exact below_alloc1 _ _
        have hX5 : X.heap[wr.heap.size]? = some (.cells #[.int .i64 (oat os k).o.port, .int .u64 f.dst, .int .u64 f.src, .bool (oat os k).o.tagged, .int .i64 (oat os k).o.prio, .bool (oat os k).o.drop, .int .i64 (oat os k).o.vid, .int .i64 f.type, .slice (oat os k).da f.n (oat os k).dc] 43 (0, 0)) := by rw [HX.out]; exact heap_alloc_last _ _
        have h2X : Below w2.heap.size w2 X := below_up hB.out hXB
        have h0X : Below W0.heap.size W0 X := below_up HB2.out h2X
        have HUP : Hid (∀ W, Below X.heap.size X W → Below W0.heap.size W0 W) := fun W hW => below_up h0X hW
        have HU2 : Hid (∀ W, Below X.heap.size X W → Below w2.heap.size w2 W) := fun W hW => below_up h2X hW
        have HOC : Hid (∀ W, Below X.heap.size X W → (W.cell? ⟨wr.heap.size, 0, none⟩ = some (.int .i64 (oat os k).o.port) ∧ W.cell? ⟨wr.heap.size, 1, none⟩ = some (.int .u64 f.dst) ∧ W.cell? ⟨wr.heap.size, 2, none⟩ = some (.int .u64 f.src) ∧ W.cell? ⟨wr.heap.size, 3, none⟩ = some (.bool (oat os k).o.tagged) ∧ W.cell? ⟨wr.heap.size, 4, none⟩ = some (.int .i64 (oat os k).o.prio) ∧ W.cell? ⟨wr.heap.size, 5, none⟩ = some (.bool (oat os k).o.drop) ∧ W.cell? ⟨wr.heap.size, 6, none⟩ = some (.int .i64 (oat os k).o.vid) ∧ W.cell? ⟨wr.heap.size, 7, none⟩ = some (.int .i64 f.type) ∧ W.cell? ⟨wr.heap.size, 8, none⟩ = some (.slice (oat os k).da f.n (oat os k).dc))) := fun W hW => ou_cells (keep hX5 hW)
        obtain ⟨m1, m2, m3, m4⟩ := HME.out k hlt
        have m5 := HLS.out k hlt
        have e1 : ((oat os k).o.port == p) = false := by simpa using m1
        have e2 : decide ((oat os k).o.port ≤ lastO os k) = false := decide_eq_false (by omega)
        have HL2 : Hid (lastO os (k + 1) = (oat os k).o.port) := by show lastO os (k + 1) = _; unfold lastO; rw [if_neg (by omega)]; rfl
        have HXX : Hid (Below X.heap.size X X) := Below.refl _ _
        have HCA : Hid (∀ (q : Int) (V W : World), Below X.heap.size X V → Below V.heap.size V W → Calls Try.prog 16 #[.slice ao l.length cap, .int .i64 q] W fun e w' => e = .returned (.agg #[.int .i64 (Rl.atG l q).port, .slice (Rl.atG l q).wo (Rl.atG l q).ways.length (Rl.atG l q).wcap, .int .i64 (Rl.atG l q).plain, .slice (Rl.atG l q).oo (Rl.atG l q).opens.length (Rl.atG l q).ocap]) ∧ Hid (Below V.heap.size V w')) := fun q V W hV hW => (at9_any ao cap l q W (CX.out.inn W (HUP.out W (below_up hV hW))).gates).mono (fun _ _ h => ⟨h.1, below_up hW h.2⟩)
        have HCW : Hid (∀ (V W : World), Below V.heap.size V W → Calls Try.prog 17 #[.agg #[.int .i64 (Rl.atG l p).port, .slice (Rl.atG l p).wo (Rl.atG l p).ways.length (Rl.atG l p).wcap, .int .i64 (Rl.atG l p).plain, .slice (Rl.atG l p).oo (Rl.atG l p).opens.length (Rl.atG l p).ocap], .agg #[.int .u64 f.dst, .int .u64 f.src, .bool f.tagged, .int .i64 f.prio, .bool f.drop, .int .i64 f.vid, .int .i64 f.type, .slice f.ao f.n f.cap]] W fun e w' => e = .returned (.int .i64 (Rl.vid l p f)) ∧ Hid (Below V.heap.size V w')) := fun V W hW => (way9_any f (Rl.atG l p) W).mono (fun _ _ h => ⟨h.1, below_up hW h.2⟩)
        have HCP : Hid (∀ (q : Int) (V W : World), Below X.heap.size X V → Below V.heap.size V W → Rl.passes (Rl.atG l q) (r.tree (Rl.vid l p f)) (Rl.vid l p f) = true → Calls Try.prog 18 #[.agg #[.int .i64 (Rl.atG l q).port, .slice (Rl.atG l q).wo (Rl.atG l q).ways.length (Rl.atG l q).wcap, .int .i64 (Rl.atG l q).plain, .slice (Rl.atG l q).oo (Rl.atG l q).opens.length (Rl.atG l q).ocap], .agg #[.string r.name, .int .i64 r.rev, .slice r.ao r.n r.cap], .int .i64 (Rl.vid l p f)] W fun e w' => e = .returned (.bool true) ∧ Hid (Below V.heap.size V w')) := fun q V W hV hW hp => by
          have := passes8_any (Rl.atG l q) r (Rl.vid l p f) W ((CX.out.inn W (HUP.out W (below_up hV hW))).gates.atG q) HOK.out.reg (CX.out.inn W (HUP.out W (below_up hV hW))).ways
          rw [hp] at this
          exact this.mono (fun _ _ h => ⟨h.1, below_up hW h.2⟩)
        have HCP1 : Hid (∀ (V W : World), Below X.heap.size X V → Below V.heap.size V W → Calls Try.prog 18 #[.agg #[.int .i64 (Rl.atG l (oat os k).o.port).port, .slice (Rl.atG l (oat os k).o.port).wo (Rl.atG l (oat os k).o.port).ways.length (Rl.atG l (oat os k).o.port).wcap, .int .i64 (Rl.atG l (oat os k).o.port).plain, .slice (Rl.atG l (oat os k).o.port).oo (Rl.atG l (oat os k).o.port).opens.length (Rl.atG l (oat os k).o.port).ocap], .agg #[.string r.name, .int .i64 r.rev, .slice r.ao r.n r.cap], .int .i64 (Rl.vid l p f)] W fun e w' => e = .returned (.bool true) ∧ Hid (Below V.heap.size V w')) := fun V W hV hW => HCP.out _ V W hV hW m3
        have HCP2 : Hid (∀ (V W : World), Below X.heap.size X V → Below V.heap.size V W → Calls Try.prog 18 #[.agg #[.int .i64 (Rl.atG l p).port, .slice (Rl.atG l p).wo (Rl.atG l p).ways.length (Rl.atG l p).wcap, .int .i64 (Rl.atG l p).plain, .slice (Rl.atG l p).oo (Rl.atG l p).opens.length (Rl.atG l p).ocap], .agg #[.string r.name, .int .i64 r.rev, .slice r.ao r.n r.cap], .int .i64 (Rl.vid l p f)] W fun e w' => e = .returned (.bool true) ∧ Hid (Below V.heap.size V w')) := fun V W hV hW => HCP.out _ V W hV hW m4
        have HCA1 : Hid (∀ (V W : World), Below X.heap.size X V → Below V.heap.size V W → Calls Try.prog 16 #[.slice ao l.length cap, .int .i64 (oat os k).o.port] W fun e w' => e = .returned (.agg #[.int .i64 (Rl.atG l (oat os k).o.port).port, .slice (Rl.atG l (oat os k).o.port).wo (Rl.atG l (oat os k).o.port).ways.length (Rl.atG l (oat os k).o.port).wcap, .int .i64 (Rl.atG l (oat os k).o.port).plain, .slice (Rl.atG l (oat os k).o.port).oo (Rl.atG l (oat os k).o.port).opens.length (Rl.atG l (oat os k).o.port).ocap]) ∧ Hid (Below V.heap.size V w')) := fun V W hV hW => HCA.out _ V W hV hW
        have HCA2 : Hid (∀ (V W : World), Below X.heap.size X V → Below V.heap.size V W → Calls Try.prog 16 #[.slice ao l.length cap, .int .i64 p] W fun e w' => e = .returned (.agg #[.int .i64 (Rl.atG l p).port, .slice (Rl.atG l p).wo (Rl.atG l p).ways.length (Rl.atG l p).wcap, .int .i64 (Rl.atG l p).plain, .slice (Rl.atG l p).oo (Rl.atG l p).opens.length (Rl.atG l p).ocap]) ∧ Hid (Below V.heap.size V w')) := fun V W hV hW => HCA.out _ V W hV hW
        have HRC : Hid (∀ W, Below X.heap.size X W → (W.cell? ⟨w.heap.size, 0, none⟩ = some (.string r.name) ∧ W.cell? ⟨w.heap.size, 1, none⟩ = some (.int .i64 r.rev) ∧ W.cell? ⟨w.heap.size, 2, none⟩ = some (.slice r.ao r.n r.cap)) ∧ (W.cell? ⟨w.heap.size + 1, 0, none⟩ = some (.int .u64 f.dst) ∧ W.cell? ⟨w.heap.size + 1, 1, none⟩ = some (.int .u64 f.src) ∧ W.cell? ⟨w.heap.size + 1, 2, none⟩ = some (.bool f.tagged) ∧ W.cell? ⟨w.heap.size + 1, 3, none⟩ = some (.int .i64 f.prio) ∧ W.cell? ⟨w.heap.size + 1, 4, none⟩ = some (.bool f.drop) ∧ W.cell? ⟨w.heap.size + 1, 5, none⟩ = some (.int .i64 f.vid) ∧ W.cell? ⟨w.heap.size + 1, 6, none⟩ = some (.int .i64 f.type) ∧ W.cell? ⟨w.heap.size + 1, 7, none⟩ = some (.slice f.ao f.n f.cap))) := fun W hW => ⟨CX.out.reg W (HUP.out W hW), CX.out.frm W (HUP.out W hW)⟩
        clear HCA HCP hXB hX5 h2X h0X m1 m2 m3 m4 m5 HME HLS HOW hB HOK CX HUP
        generalize Rl.atG l (oat os k).o.port = ga at *
        generalize Rl.atG l p = gp at *
        generalize Rl.vid l p f = vi at *
        generalize lastO os k = la at *
        generalize oat os k = o at *
        go_upto_region 10 with fail
        rw [← HX.out]
        clear g0 g1 g2 g3 g4 g5 g6 g7 g8
        obtain ⟨g0, g1, g2, g3, g4, g5, g6, g7, g8⟩ := HOC.out X HXX.out
        go_wp2_with fail
        refine (HCA1.out X X HXX.out HXX.out).mono ?_
        rintro e w4 ⟨rfl, HB4⟩
        obtain ⟨Y, HY⟩ : ∃ Y, Hid (Y = w4.alloc (.cells #[.int .i64 ga.port, .slice ga.wo ga.ways.length ga.wcap, .int .i64 ga.plain, .slice ga.oo ga.opens.length ga.ocap] 47)) := ⟨_, rfl⟩
        have hY1 : Below w4.heap.size w4 Y := by rw [HY.out]; exact below_alloc1 _ _
        have hY2 : Y.heap[w4.heap.size]? = some (.cells #[.int .i64 ga.port, .slice ga.wo ga.ways.length ga.wcap, .int .i64 ga.plain, .slice ga.oo ga.opens.length ga.ocap] 47 (0, 0)) := by rw [HY.out]; exact heap_alloc_last _ _
        have hXY : Below X.heap.size X Y := below_up HB4.out hY1
        have HYY : Hid (Below Y.heap.size Y Y) := Below.refl _ _
        have HYX : Hid (∀ W, Below Y.heap.size Y W → Below X.heap.size X W) := fun W hW => below_up hXY hW
        have HSS : Hid (∀ W, Below Y.heap.size Y W → ((W.cell? ⟨w.heap.size, 0, none⟩ = some (.string r.name) ∧ W.cell? ⟨w.heap.size, 1, none⟩ = some (.int .i64 r.rev) ∧ W.cell? ⟨w.heap.size, 2, none⟩ = some (.slice r.ao r.n r.cap)) ∧ (W.cell? ⟨w.heap.size + 1, 0, none⟩ = some (.int .u64 f.dst) ∧ W.cell? ⟨w.heap.size + 1, 1, none⟩ = some (.int .u64 f.src) ∧ W.cell? ⟨w.heap.size + 1, 2, none⟩ = some (.bool f.tagged) ∧ W.cell? ⟨w.heap.size + 1, 3, none⟩ = some (.int .i64 f.prio) ∧ W.cell? ⟨w.heap.size + 1, 4, none⟩ = some (.bool f.drop) ∧ W.cell? ⟨w.heap.size + 1, 5, none⟩ = some (.int .i64 f.vid) ∧ W.cell? ⟨w.heap.size + 1, 6, none⟩ = some (.int .i64 f.type) ∧ W.cell? ⟨w.heap.size + 1, 7, none⟩ = some (.slice f.ao f.n f.cap))) ∧ (W.cell? ⟨wr.heap.size, 0, none⟩ = some (.int .i64 o.o.port) ∧ W.cell? ⟨wr.heap.size, 1, none⟩ = some (.int .u64 f.dst) ∧ W.cell? ⟨wr.heap.size, 2, none⟩ = some (.int .u64 f.src) ∧ W.cell? ⟨wr.heap.size, 3, none⟩ = some (.bool o.o.tagged) ∧ W.cell? ⟨wr.heap.size, 4, none⟩ = some (.int .i64 o.o.prio) ∧ W.cell? ⟨wr.heap.size, 5, none⟩ = some (.bool o.o.drop) ∧ W.cell? ⟨wr.heap.size, 6, none⟩ = some (.int .i64 o.o.vid) ∧ W.cell? ⟨wr.heap.size, 7, none⟩ = some (.int .i64 f.type) ∧ W.cell? ⟨wr.heap.size, 8, none⟩ = some (.slice o.da f.n o.dc)) ∧ (W.cell? ⟨w4.heap.size, 0, none⟩ = some (.int .i64 ga.port) ∧ W.cell? ⟨w4.heap.size, 1, none⟩ = some (.slice ga.wo ga.ways.length ga.wcap) ∧ W.cell? ⟨w4.heap.size, 2, none⟩ = some (.int .i64 ga.plain) ∧ W.cell? ⟨w4.heap.size, 3, none⟩ = some (.slice ga.oo ga.opens.length ga.ocap))) := fun W hW => ⟨HRC.out W (HYX.out W hW), HOC.out W (HYX.out W hW), gt_cells (keep hY2 hW)⟩
        have HXY : Hid (Below X.heap.size X Y) := hXY
        clear hY1 hY2 hXY HRC HOC HCA1
        go_wp2_with fail
        rw [← HY.out]
        clear g0 g1 g2 g3 g4 g5 g6 g7 g8
        obtain ⟨⟨⟨c0, c1, c2⟩, d0, d1, d2, d3, d4, d5, d6, d7⟩, ⟨g0, g1, g2, g3, g4, g5, g6, g7, g8⟩, a0, a1, a2, a3⟩ := HSS.out Y HYY.out
        go_cut [18] (fun v W => v = .int .i64 vi ∧ Hid (Below Y.heap.size Y W))
        case first =>
          go_region_held3 (fun W => ((W.cell? ⟨w.heap.size, 0, none⟩ = some (.string r.name) ∧ W.cell? ⟨w.heap.size, 1, none⟩ = some (.int .i64 r.rev) ∧ W.cell? ⟨w.heap.size, 2, none⟩ = some (.slice r.ao r.n r.cap)) ∧ (W.cell? ⟨w.heap.size + 1, 0, none⟩ = some (.int .u64 f.dst) ∧ W.cell? ⟨w.heap.size + 1, 1, none⟩ = some (.int .u64 f.src) ∧ W.cell? ⟨w.heap.size + 1, 2, none⟩ = some (.bool f.tagged) ∧ W.cell? ⟨w.heap.size + 1, 3, none⟩ = some (.int .i64 f.prio) ∧ W.cell? ⟨w.heap.size + 1, 4, none⟩ = some (.bool f.drop) ∧ W.cell? ⟨w.heap.size + 1, 5, none⟩ = some (.int .i64 f.vid) ∧ W.cell? ⟨w.heap.size + 1, 6, none⟩ = some (.int .i64 f.type) ∧ W.cell? ⟨w.heap.size + 1, 7, none⟩ = some (.slice f.ao f.n f.cap))) ∧ (W.cell? ⟨wr.heap.size, 0, none⟩ = some (.int .i64 o.o.port) ∧ W.cell? ⟨wr.heap.size, 1, none⟩ = some (.int .u64 f.dst) ∧ W.cell? ⟨wr.heap.size, 2, none⟩ = some (.int .u64 f.src) ∧ W.cell? ⟨wr.heap.size, 3, none⟩ = some (.bool o.o.tagged) ∧ W.cell? ⟨wr.heap.size, 4, none⟩ = some (.int .i64 o.o.prio) ∧ W.cell? ⟨wr.heap.size, 5, none⟩ = some (.bool o.o.drop) ∧ W.cell? ⟨wr.heap.size, 6, none⟩ = some (.int .i64 o.o.vid) ∧ W.cell? ⟨wr.heap.size, 7, none⟩ = some (.int .i64 f.type) ∧ W.cell? ⟨wr.heap.size, 8, none⟩ = some (.slice o.da f.n o.dc)) ∧ (W.cell? ⟨w4.heap.size, 0, none⟩ = some (.int .i64 ga.port) ∧ W.cell? ⟨w4.heap.size, 1, none⟩ = some (.slice ga.wo ga.ways.length ga.wcap) ∧ W.cell? ⟨w4.heap.size, 2, none⟩ = some (.int .i64 ga.plain) ∧ W.cell? ⟨w4.heap.size, 3, none⟩ = some (.slice ga.oo ga.opens.length ga.ocap)))
            (first | (exact HSS.out _ (Hid.out (by assumption))) | (exact HSS.out _ (Below.drew (Hid.out (by assumption)))))
            (first | (go_at_call 16; (with_reducible refine (HCA2.out Y _ HXY.out (by first | exact (Hid.out (by assumption)) | exact Below.drew (Hid.out (by assumption)))).mono ?_); rintro e w5 ⟨rfl, HB5⟩) | (go_at_call 17; (with_reducible refine (HCW.out Y _ (by first | exact (Hid.out (by assumption)) | exact Below.drew (Hid.out (by assumption)))).mono ?_); rintro e w5 ⟨rfl, HB5⟩))
          all_goals go_wp2_with fail
          all_goals go_meet
          all_goals exact ⟨rfl, HB5⟩
        case rest =>
        rename World => w6
        obtain ⟨rfl, HB6⟩ := hcut
        clear c0 c1 c2 d0 d1 d2 d3 d4 d5 d6 d7 g0 g1 g2 g3 g4 g5 g6 g7 g8 a0 a1 a2 a3 HCW
        obtain ⟨⟨⟨c0, c1, c2⟩, d0, d1, d2, d3, d4, d5, d6, d7⟩, ⟨g0, g1, g2, g3, g4, g5, g6, g7, g8⟩, a0, a1, a2, a3⟩ := HSS.out w6 HB6.out
        go_wp2_with fail
        go_region_held3 (fun W => ((W.cell? ⟨w.heap.size, 0, none⟩ = some (.string r.name) ∧ W.cell? ⟨w.heap.size, 1, none⟩ = some (.int .i64 r.rev) ∧ W.cell? ⟨w.heap.size, 2, none⟩ = some (.slice r.ao r.n r.cap)) ∧ (W.cell? ⟨w.heap.size + 1, 0, none⟩ = some (.int .u64 f.dst) ∧ W.cell? ⟨w.heap.size + 1, 1, none⟩ = some (.int .u64 f.src) ∧ W.cell? ⟨w.heap.size + 1, 2, none⟩ = some (.bool f.tagged) ∧ W.cell? ⟨w.heap.size + 1, 3, none⟩ = some (.int .i64 f.prio) ∧ W.cell? ⟨w.heap.size + 1, 4, none⟩ = some (.bool f.drop) ∧ W.cell? ⟨w.heap.size + 1, 5, none⟩ = some (.int .i64 f.vid) ∧ W.cell? ⟨w.heap.size + 1, 6, none⟩ = some (.int .i64 f.type) ∧ W.cell? ⟨w.heap.size + 1, 7, none⟩ = some (.slice f.ao f.n f.cap))) ∧ (W.cell? ⟨wr.heap.size, 0, none⟩ = some (.int .i64 o.o.port) ∧ W.cell? ⟨wr.heap.size, 1, none⟩ = some (.int .u64 f.dst) ∧ W.cell? ⟨wr.heap.size, 2, none⟩ = some (.int .u64 f.src) ∧ W.cell? ⟨wr.heap.size, 3, none⟩ = some (.bool o.o.tagged) ∧ W.cell? ⟨wr.heap.size, 4, none⟩ = some (.int .i64 o.o.prio) ∧ W.cell? ⟨wr.heap.size, 5, none⟩ = some (.bool o.o.drop) ∧ W.cell? ⟨wr.heap.size, 6, none⟩ = some (.int .i64 o.o.vid) ∧ W.cell? ⟨wr.heap.size, 7, none⟩ = some (.int .i64 f.type) ∧ W.cell? ⟨wr.heap.size, 8, none⟩ = some (.slice o.da f.n o.dc)) ∧ (W.cell? ⟨w4.heap.size, 0, none⟩ = some (.int .i64 ga.port) ∧ W.cell? ⟨w4.heap.size, 1, none⟩ = some (.slice ga.wo ga.ways.length ga.wcap) ∧ W.cell? ⟨w4.heap.size, 2, none⟩ = some (.int .i64 ga.plain) ∧ W.cell? ⟨w4.heap.size, 3, none⟩ = some (.slice ga.oo ga.opens.length ga.ocap)))
          (first | (exact HSS.out _ (Hid.out (by assumption))) | (exact HSS.out _ (Below.drew (Hid.out (by assumption)))))
          (first | (go_at_call 16; (with_reducible refine (HCA2.out Y _ HXY.out (by first | exact (Hid.out (by assumption)) | exact Below.drew (Hid.out (by assumption)))).mono ?_); rintro e w7 ⟨rfl, HB7⟩) | (go_at_call 18; (with_reducible refine (HCP1.out Y _ HXY.out (by first | exact (Hid.out (by assumption)) | exact Below.drew (Hid.out (by assumption)))).mono ?_); rintro e w7 ⟨rfl, HB7⟩) | (go_at_call 18; (with_reducible refine (HCP2.out Y _ HXY.out (by first | exact (Hid.out (by assumption)) | exact Below.drew (Hid.out (by assumption)))).mono ?_); rintro e w7 ⟨rfl, HB7⟩))
        all_goals clear c0 c1 c2 d0 d1 d2 d3 d4 d5 d6 d7 g0 g1 g2 g3 g4 g5 g6 g7 g8 a0 a1 a2 a3
        all_goals obtain ⟨_, ⟨g0, g1, g2, g3, g4, g5, g6, g7, g8⟩, _⟩ := HSS.out _ HB7.out
        all_goals go_wp2_with fail
        all_goals exact ⟨⟨k + 1, by omega, by go_num, by rw [HL2.out], HU2.out _ (HYX.out _ HB7.out)⟩, by simp [intOf]; omega⟩
      · obtain rfl : k = os.length := by omega
        clear HOW HME HLS
        go_wp2_with fail
        go_ret
        exact ⟨rfl, CX.out.low _ (below_up HB2.out hB.out)⟩
  · have hos : os.length = 0 := by
      have := congrArg List.length HO.out.out
      rw [Rl.out_none he, List.length_map] at this
      exact this
    have dq : ((Rl.relay r l bk p f).err != 0) = true := by simp [he]
    rw [hos]
    clear he HO
    go_wp2_with fail
    go_ret
    exact ⟨rfl, CX.out.low _ HB2.out⟩
end Go.Proofs.Ytgkmaihleilchaa
