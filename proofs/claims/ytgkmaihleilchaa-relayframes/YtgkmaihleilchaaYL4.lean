/- walks: hedgelaw9.RelayFrames -/
import Derived.Test.YtgkmaihleilchaaYLc
import Derived.Test.YtgkmaihleilchaaR1w
import Derived.Test.YtgkmaihleilchaaHT
namespace Go.Proofs.Ytgkmaihleilchaa
open Go.RowKit
open Bk (E at')
open Rl (G gat F O R)

/-- A store of a struct into its own block, in a region that draws its order. -/
theorem step_store_row {w : World} {ops : Array Oper} {o : Oper} {a : Act} {K : Act → World → Prop} {Q : Exit → Act → World → Prop} {E : Prop} (d : Option Tmp) (hd : o.dst = d) (hgd : o.guard = none) (ty : TypeId) (x y : Operand) (ho : o.op = .store ty x y)
    (g : Nat) (cells : Array Value) (hx : a.eval x = .pointer (some ⟨g, 0, none⟩)) (hy : a.eval y = .agg cells)
    (t : TypeId) (old : Array Value) (hg : w.heap[g]? = some (.cells old t (0, 0))) (hi : (Try.prog.info? ty).map (·.size) = some cells.size)
    (hold : old.size = cells.size) (h1 : cells.all (·.oneCell') = true)
    (h : K (a.put d undef) (w.setRow g cells)) : if Region.wanted o (yielded ops a.tmps) = true then Oper.wp Try.prog o a w K Q else E := by
  have hw : Region.wanted o (yielded ops a.tmps) = true := by simp [Region.wanted, hgd]
  rw [if_pos hw]
  exact wp_store_row ty x y ho g cells hx hy t old hg hi hold h1 (by rw [hd]; exact h)
set_option maxRecDepth 20000 in
set_option maxHeartbeats 8000000 in
theorem rframes_law (r : R) (ao : Option Addr) (cap : Nat) (l : List G) (bo : Option Addr) (bcap : Nat) (bk : List E) (p : Int) (f : F) (w : World) (hin : RelIn w r ao cap l bo bcap bk f) :
    Calls Try.prog 6 #[.agg #[.string r.name, .int .i64 r.rev, .slice r.ao r.n r.cap], .slice ao l.length cap, .slice bo bk.length bcap, .int .i64 p, .agg #[.int .u64 f.dst, .int .u64 f.src, .bool f.tagged, .int .i64 f.prio, .bool f.drop, .int .i64 f.vid, .int .i64 f.type, .slice f.ao f.n f.cap]] w fun e w' => e = .returned (.bool true) ∧ Below w.heap.size w w' := by
  obtain ⟨W0, HW0⟩ : ∃ W0, Hid (W0 = (w.alloc (.cells #[.string r.name, .int .i64 r.rev, .slice r.ao r.n r.cap] 24)).alloc (.cells #[.int .u64 f.dst, .int .u64 f.src, .bool f.tagged, .int .i64 f.prio, .bool f.drop, .int .i64 f.vid, .int .i64 f.type, .slice f.ao f.n f.cap] 30)) := ⟨_, rfl⟩
  have CX : Hid (Cx W0 w r ao cap l bo bcap bk f) := by rw [HW0.out]; exact cx_of hin
  have HB0 : Hid (Below W0.heap.size W0 W0) := Below.refl _ _
  have hsrc := hin.src
  clear hin
  go_enter Try.func6, Try.ntmps6
  go_wp2_with fail
  rw [← HW0.out]
  refine (CX.out.alive W0 HB0.out).mono ?_
  rintro e w1 ⟨rfl, HB1⟩
  obtain ⟨c0, c1, c2⟩ := CX.out.reg w1 HB1.out
  obtain ⟨d0, d1, d2, d3, d4, d5, d6, d7⟩ := CX.out.frm w1 HB1.out
  go_wp2_with fail
  refine (CX.out.relay p w1 HB1.out).mono ?_
  rintro e w2 ⟨oo, oc, os, bo', bc', rfl, HO, HB2⟩
  clear c0 c1 c2 d0 d1 d2 d3 d4 d5 d6 d7
  by_cases he : (Rl.relay r l bk p f).err = 0
  · have hok := Rl.ok_of he
    have HOW : Hid (∀ W, Below w2.heap.size w2 W → ORw W oo oc f os) := fun W hW => HO.out.row.below hW
    have HME : Hid (∀ i, i < os.length → (oat os i).o.tagged = decide ((Rl.atG l (oat os i).o.port).plain ≠ Rl.vid l p f) ∧ ((oat os i).o.tagged = true → (oat os i).o.vid = Rl.vid l p f) ∧ wrong f.dst f.src (oat os i).o.tagged (oat os i).o.prio (oat os i).o.vid f.type f.n = 0) := fun i hi => by
      obtain ⟨_, _, _, _, h4, h5⟩ := Rl.out_at he (os_mem HO.out.out hi)
      exact Rl.leave_right hok h4 _ h5
    have hcap : os.length ≤ oc := HO.out.row.row.1
    have hn : os.length ≤ 31 := by
      have h1 : os.length = (Rl.relay r l bk p f).out.length := by rw [← HO.out.out, List.length_map]
      have h2 : (Rl.relay r l bk p f).out.length ≤ l.length := by
        rcases Rl.relay_cases r l bk p f with ⟨_, h3, _⟩ | ⟨_, _, ⟨_, h3⟩ | ⟨_, h3⟩⟩
        · rw [h3]; simp
        · rw [h3]; simp
        · rw [h3]
          show (Rl.outs r l bk p f).length ≤ l.length
          unfold Rl.outs
          rw [List.length_map]
          exact List.length_filter_le _ _
      have := hok.right.many
      omega
    rw [he]
    clear he HO hok
    have HCA : Hid (∀ (q : Int) (V W : World), Below W0.heap.size W0 W → Below V.heap.size V W → Calls Try.prog 16 #[.slice ao l.length cap, .int .i64 q] W fun e w' => e = .returned (.agg #[.int .i64 (Rl.atG l q).port, .slice (Rl.atG l q).wo (Rl.atG l q).ways.length (Rl.atG l q).wcap, .int .i64 (Rl.atG l q).plain, .slice (Rl.atG l q).oo (Rl.atG l q).opens.length (Rl.atG l q).ocap]) ∧ Hid (Below V.heap.size V w')) := fun q V W h0 hW => (at9_any ao cap l q W (CX.out.inn W h0).gates).mono (fun _ _ h => ⟨h.1, below_up hW h.2⟩)
    have HCW : Hid (∀ (V W : World), Below V.heap.size V W → Calls Try.prog 17 #[.agg #[.int .i64 (Rl.atG l p).port, .slice (Rl.atG l p).wo (Rl.atG l p).ways.length (Rl.atG l p).wcap, .int .i64 (Rl.atG l p).plain, .slice (Rl.atG l p).oo (Rl.atG l p).opens.length (Rl.atG l p).ocap], .agg #[.int .u64 f.dst, .int .u64 f.src, .bool f.tagged, .int .i64 f.prio, .bool f.drop, .int .i64 f.vid, .int .i64 f.type, .slice f.ao f.n f.cap]] W fun e w' => e = .returned (.int .i64 (Rl.vid l p f)) ∧ Hid (Below V.heap.size V w')) := fun V W hW => (way9_any f (Rl.atG l p) W).mono (fun _ _ h => ⟨h.1, below_up hW h.2⟩)
    have HUP2 : Hid (∀ W, Below w2.heap.size w2 W → Below W0.heap.size W0 W) := fun W hW => below_up HB2.out hW
    have HSR : Hid (∀ W, Below w2.heap.size w2 W → (W.cell? ⟨w.heap.size, 0, none⟩ = some (.string r.name) ∧ W.cell? ⟨w.heap.size, 1, none⟩ = some (.int .i64 r.rev) ∧ W.cell? ⟨w.heap.size, 2, none⟩ = some (.slice r.ao r.n r.cap)) ∧ (W.cell? ⟨w.heap.size + 1, 0, none⟩ = some (.int .u64 f.dst) ∧ W.cell? ⟨w.heap.size + 1, 1, none⟩ = some (.int .u64 f.src) ∧ W.cell? ⟨w.heap.size + 1, 2, none⟩ = some (.bool f.tagged) ∧ W.cell? ⟨w.heap.size + 1, 3, none⟩ = some (.int .i64 f.prio) ∧ W.cell? ⟨w.heap.size + 1, 4, none⟩ = some (.bool f.drop) ∧ W.cell? ⟨w.heap.size + 1, 5, none⟩ = some (.int .i64 f.vid) ∧ W.cell? ⟨w.heap.size + 1, 6, none⟩ = some (.int .i64 f.type) ∧ W.cell? ⟨w.heap.size + 1, 7, none⟩ = some (.slice f.ao f.n f.cap))) := fun W hW => ⟨CX.out.reg W (HUP2.out W hW), CX.out.frm W (HUP2.out W hW)⟩
    have HB22 : Hid (Below w2.heap.size w2 w2) := Below.refl _ _
    obtain ⟨⟨c0, c1, c2⟩, d0, d1, d2, d3, d4, d5, d6, d7⟩ := HSR.out w2 HB22.out
    have HCA2 : Hid (∀ (W : World), Below w2.heap.size w2 W → Calls Try.prog 16 #[.slice ao l.length cap, .int .i64 p] W fun e w' => e = .returned (.agg #[.int .i64 (Rl.atG l p).port, .slice (Rl.atG l p).wo (Rl.atG l p).ways.length (Rl.atG l p).wcap, .int .i64 (Rl.atG l p).plain, .slice (Rl.atG l p).oo (Rl.atG l p).opens.length (Rl.atG l p).ocap]) ∧ Hid (Below w2.heap.size w2 w')) := fun W hW => HCA.out p w2 W (HUP2.out W hW) hW
    obtain ⟨vi, hvi⟩ : ∃ vi, vi = Rl.vid l p f := ⟨_, rfl⟩
    rw [← hvi] at HCW HME
    obtain ⟨gp, hgp⟩ : ∃ gp, gp = Rl.atG l p := ⟨_, rfl⟩
    rw [← hgp] at HCW HCA2
    clear hvi hgp
    go_wp2_with fail
    go_cut [14] (fun v W => v = .int .i64 vi ∧ Hid (Below w2.heap.size w2 W))
    case first =>
      go_region_held3 (fun W => (W.cell? ⟨w.heap.size, 0, none⟩ = some (.string r.name) ∧ W.cell? ⟨w.heap.size, 1, none⟩ = some (.int .i64 r.rev) ∧ W.cell? ⟨w.heap.size, 2, none⟩ = some (.slice r.ao r.n r.cap)) ∧ (W.cell? ⟨w.heap.size + 1, 0, none⟩ = some (.int .u64 f.dst) ∧ W.cell? ⟨w.heap.size + 1, 1, none⟩ = some (.int .u64 f.src) ∧ W.cell? ⟨w.heap.size + 1, 2, none⟩ = some (.bool f.tagged) ∧ W.cell? ⟨w.heap.size + 1, 3, none⟩ = some (.int .i64 f.prio) ∧ W.cell? ⟨w.heap.size + 1, 4, none⟩ = some (.bool f.drop) ∧ W.cell? ⟨w.heap.size + 1, 5, none⟩ = some (.int .i64 f.vid) ∧ W.cell? ⟨w.heap.size + 1, 6, none⟩ = some (.int .i64 f.type) ∧ W.cell? ⟨w.heap.size + 1, 7, none⟩ = some (.slice f.ao f.n f.cap)))
        (first | (exact HSR.out _ (Hid.out (by assumption))) | (exact HSR.out _ (Below.drew (Hid.out (by assumption)))))
        (first | (go_at_call 16; (with_reducible refine (HCA2.out _ (by first | exact (Hid.out (by assumption)) | exact Below.drew (Hid.out (by assumption)))).mono ?_); rintro e w5 ⟨rfl, HB5⟩) | (go_at_call 17; (with_reducible refine (HCW.out w2 _ (by first | exact (Hid.out (by assumption)) | exact Below.drew (Hid.out (by assumption)))).mono ?_); rintro e w5 ⟨rfl, HB5⟩))
      all_goals go_wp2_with fail
      all_goals go_meet
      all_goals exact ⟨rfl, HB5⟩
    case rest =>
    rename World => w3
    obtain ⟨rfl, HB3⟩ := hcut
    clear c0 c1 c2 d0 d1 d2 d3 d4 d5 d6 d7 HCA2 HCW
    go_wp2_with fail
    go_loopw [40] (fun i wr => ∃ k : Nat, k ≤ os.length ∧ i = .int .i64 k ∧ Hid (Below w2.heap.size w2 wr)) (fun i _ => os.length - (intOf i).toNat)
    case atStart => exact ⟨0, by omega, rfl, HB3⟩
    case round =>
      obtain ⟨k, hk, rfl, hB⟩ := hrel
      by_cases hlt : k < os.length
      · obtain ⟨b, off, rfl, _⟩ := (HOW.out wr hB.out).place (by omega)
        obtain ⟨g0, g1, g2, g3, g4, g5, g6, g7, g8⟩ := (HOW.out wr hB.out).cells hlt
        obtain ⟨X, HX⟩ : ∃ X, Hid (X = wr.alloc (.cells #[.int .i64 (oat os k).o.port, .int .u64 f.dst, .int .u64 f.src, .bool (oat os k).o.tagged, .int .i64 (oat os k).o.prio, .bool (oat os k).o.drop, .int .i64 (oat os k).o.vid, .int .i64 f.type, .slice (oat os k).da f.n (oat os k).dc] 43)) := ⟨_, rfl⟩
        have hXB : Below wr.heap.size wr X := by rw [HX.out]; exact below_alloc1 _ _
        have hX5 : X.heap[wr.heap.size]? = some (.cells #[.int .i64 (oat os k).o.port, .int .u64 f.dst, .int .u64 f.src, .bool (oat os k).o.tagged, .int .i64 (oat os k).o.prio, .bool (oat os k).o.drop, .int .i64 (oat os k).o.vid, .int .i64 f.type, .slice (oat os k).da f.n (oat os k).dc] 43 (0, 0)) := by rw [HX.out]; exact heap_alloc_last _ _
        have h2X : Below w2.heap.size w2 X := below_up hB.out hXB
        have HOC : Hid (∀ W, Below X.heap.size X W → (W.cell? ⟨wr.heap.size, 0, none⟩ = some (.int .i64 (oat os k).o.port) ∧ W.cell? ⟨wr.heap.size, 1, none⟩ = some (.int .u64 f.dst) ∧ W.cell? ⟨wr.heap.size, 2, none⟩ = some (.int .u64 f.src) ∧ W.cell? ⟨wr.heap.size, 3, none⟩ = some (.bool (oat os k).o.tagged) ∧ W.cell? ⟨wr.heap.size, 4, none⟩ = some (.int .i64 (oat os k).o.prio) ∧ W.cell? ⟨wr.heap.size, 5, none⟩ = some (.bool (oat os k).o.drop) ∧ W.cell? ⟨wr.heap.size, 6, none⟩ = some (.int .i64 (oat os k).o.vid) ∧ W.cell? ⟨wr.heap.size, 7, none⟩ = some (.int .i64 f.type) ∧ W.cell? ⟨wr.heap.size, 8, none⟩ = some (.slice (oat os k).da f.n (oat os k).dc))) := fun W hW => ou_cells (keep hX5 hW)
        have HU2 : Hid (∀ W, Below X.heap.size X W → Below w2.heap.size w2 W) := fun W hW => below_up h2X hW
        obtain ⟨m1, m2, m3⟩ := HME.out k hlt
        have HXX : Hid (Below X.heap.size X X) := Below.refl _ _
        have HCX0 : Hid (∀ W, Below X.heap.size X W → Calls Try.prog 16 #[.slice ao l.length cap, .int .i64 (oat os k).o.port] W fun e w' => e = .returned (.agg #[.int .i64 (Rl.atG l (oat os k).o.port).port, .slice (Rl.atG l (oat os k).o.port).wo (Rl.atG l (oat os k).o.port).ways.length (Rl.atG l (oat os k).o.port).wcap, .int .i64 (Rl.atG l (oat os k).o.port).plain, .slice (Rl.atG l (oat os k).o.port).oo (Rl.atG l (oat os k).o.port).opens.length (Rl.atG l (oat os k).o.port).ocap]) ∧ Hid (Below X.heap.size X w') ∧ Hid (Below W.heap.size W w')) := fun W hW => (at9_any ao cap l _ W (CX.out.inn W (HUP2.out W (HU2.out W hW))).gates).mono (fun _ _ h => ⟨h.1, below_up hW h.2, h.2⟩)
        have HDT : Hid (∀ W, Below X.heap.size X W → (convert 28 9 (.slice (oat os k).da f.n (oat os k).dc)).run Try.prog W = .ok (.string (strOf f.n f.bs)) W ∧ (convert 28 9 (.slice f.ao f.n f.cap)).run Try.prog W = .ok (.string (strOf f.n f.bs)) W) := fun W hW => by
          have h1 := ((HOW.out W (HU2.out W hW)).data (oat os k) (oat_mem os k hlt))
          have h2 := CX.out.inn W (HUP2.out W (HU2.out W hW))
          exact ⟨run_str W _ _ _ _ h1.1 h1.2, run_str W _ _ _ _ h2.data h2.dnil⟩
        have HWR : Hid (∀ W, Calls Try.prog 20 #[.agg #[.int .u64 f.dst, .int .u64 f.src, .bool (oat os k).o.tagged, .int .i64 (oat os k).o.prio, .bool (oat os k).o.drop, .int .i64 (oat os k).o.vid, .int .i64 f.type, .slice (oat os k).da f.n (oat os k).dc]] W fun e w' => e = .returned (.int .i64 0) ∧ Hid (Below W.heap.size W w')) := fun W => by
          have := rwrong2_any f.dst f.src (oat os k).o.tagged (oat os k).o.prio (oat os k).o.drop (oat os k).o.vid f.type (oat os k).da f.n (oat os k).dc W hsrc.1
          rw [m3] at this
          exact this.mono (fun _ _ h => ⟨h.1, h.2⟩)
        have HM1 : Hid _ := m1
        have HM2 : Hid _ := m2
        have HSX : Hid (∀ W, Below X.heap.size X W → ((W.cell? ⟨w.heap.size, 0, none⟩ = some (.string r.name) ∧ W.cell? ⟨w.heap.size, 1, none⟩ = some (.int .i64 r.rev) ∧ W.cell? ⟨w.heap.size, 2, none⟩ = some (.slice r.ao r.n r.cap)) ∧ (W.cell? ⟨w.heap.size + 1, 0, none⟩ = some (.int .u64 f.dst) ∧ W.cell? ⟨w.heap.size + 1, 1, none⟩ = some (.int .u64 f.src) ∧ W.cell? ⟨w.heap.size + 1, 2, none⟩ = some (.bool f.tagged) ∧ W.cell? ⟨w.heap.size + 1, 3, none⟩ = some (.int .i64 f.prio) ∧ W.cell? ⟨w.heap.size + 1, 4, none⟩ = some (.bool f.drop) ∧ W.cell? ⟨w.heap.size + 1, 5, none⟩ = some (.int .i64 f.vid) ∧ W.cell? ⟨w.heap.size + 1, 6, none⟩ = some (.int .i64 f.type) ∧ W.cell? ⟨w.heap.size + 1, 7, none⟩ = some (.slice f.ao f.n f.cap))) ∧ (W.cell? ⟨wr.heap.size, 0, none⟩ = some (.int .i64 (oat os k).o.port) ∧ W.cell? ⟨wr.heap.size, 1, none⟩ = some (.int .u64 f.dst) ∧ W.cell? ⟨wr.heap.size, 2, none⟩ = some (.int .u64 f.src) ∧ W.cell? ⟨wr.heap.size, 3, none⟩ = some (.bool (oat os k).o.tagged) ∧ W.cell? ⟨wr.heap.size, 4, none⟩ = some (.int .i64 (oat os k).o.prio) ∧ W.cell? ⟨wr.heap.size, 5, none⟩ = some (.bool (oat os k).o.drop) ∧ W.cell? ⟨wr.heap.size, 6, none⟩ = some (.int .i64 (oat os k).o.vid) ∧ W.cell? ⟨wr.heap.size, 7, none⟩ = some (.int .i64 f.type) ∧ W.cell? ⟨wr.heap.size, 8, none⟩ = some (.slice (oat os k).da f.n (oat os k).dc))) := fun W hW => ⟨HSR.out W (HU2.out W hW), HOC.out W hW⟩
        clear m1 m2 m3 hXB hX5 h2X HOW HME hB HCA HOC
        generalize Rl.atG l (oat os k).o.port = ga at *
        generalize (oat os k).o.tagged = tg at *
        generalize (oat os k).o.vid = ov at *
        generalize (oat os k).o.prio = pr at *
        generalize (oat os k).o.drop = dr at *
        generalize (oat os k).o.port = po at *
        generalize (oat os k).da = da at *
        generalize (oat os k).dc = dc at *
        go_upto_region 10 with fail
        rw [← HX.out]
        clear g0 g1 g2 g3 g4 g5 g6 g7 g8
        obtain ⟨⟨⟨c0, c1, c2⟩, d0, d1, d2, d3, d4, d5, d6, d7⟩, g0, g1, g2, g3, g4, g5, g6, g7, g8⟩ := HSX.out X HXX.out
        go_cut [17, 18] (fun s17 s18 W => ∃ B1 B2, s17 = .pointer (some ⟨B1, 0, none⟩) ∧ s18 = .pointer (some ⟨B2, 0, none⟩) ∧ Hid (W.heap[B1]? = some (.cells #[.int .i64 ga.port, .slice ga.wo ga.ways.length ga.wcap, .int .i64 ga.plain, .slice ga.oo ga.opens.length ga.ocap] 47 (0, 0)) ∧ W.heap[B2]? = some (.cells #[.int .u64 f.dst, .int .u64 f.src, .bool tg, .int .i64 pr, .bool dr, .int .i64 ov, .int .i64 f.type, .slice da f.n dc] 30 (0, 0)) ∧ Below X.heap.size X W))
        case first =>
          clear HDT HWR HM1 HM2
          refine wp_region_held_drew (S := fun W => ((W.cell? ⟨w.heap.size, 0, none⟩ = some (.string r.name) ∧ W.cell? ⟨w.heap.size, 1, none⟩ = some (.int .i64 r.rev) ∧ W.cell? ⟨w.heap.size, 2, none⟩ = some (.slice r.ao r.n r.cap)) ∧ (W.cell? ⟨w.heap.size + 1, 0, none⟩ = some (.int .u64 f.dst) ∧ W.cell? ⟨w.heap.size + 1, 1, none⟩ = some (.int .u64 f.src) ∧ W.cell? ⟨w.heap.size + 1, 2, none⟩ = some (.bool f.tagged) ∧ W.cell? ⟨w.heap.size + 1, 3, none⟩ = some (.int .i64 f.prio) ∧ W.cell? ⟨w.heap.size + 1, 4, none⟩ = some (.bool f.drop) ∧ W.cell? ⟨w.heap.size + 1, 5, none⟩ = some (.int .i64 f.vid) ∧ W.cell? ⟨w.heap.size + 1, 6, none⟩ = some (.int .i64 f.type) ∧ W.cell? ⟨w.heap.size + 1, 7, none⟩ = some (.slice f.ao f.n f.cap))) ∧ (W.cell? ⟨wr.heap.size, 0, none⟩ = some (.int .i64 po) ∧ W.cell? ⟨wr.heap.size, 1, none⟩ = some (.int .u64 f.dst) ∧ W.cell? ⟨wr.heap.size, 2, none⟩ = some (.int .u64 f.src) ∧ W.cell? ⟨wr.heap.size, 3, none⟩ = some (.bool tg) ∧ W.cell? ⟨wr.heap.size, 4, none⟩ = some (.int .i64 pr) ∧ W.cell? ⟨wr.heap.size, 5, none⟩ = some (.bool dr) ∧ W.cell? ⟨wr.heap.size, 6, none⟩ = some (.int .i64 ov) ∧ W.cell? ⟨wr.heap.size, 7, none⟩ = some (.int .i64 f.type) ∧ W.cell? ⟨wr.heap.size, 8, none⟩ = some (.slice da f.n dc))) (by kernel_rfl) (HSX.out _ (Below.drew HXX.out)) (fun hHeld => ?_)
          refine held_take (i := 0) (v := ?_) (some 44) rfl rfl (by kernel_rfl) (by kernel_rfl) (by kernel_rfl) (fun _ _ _ h => h) (by rfl) ?_ hHeld ?_
          rotate_left 1
          · (intro wq hSw; go_simp; try with_reducible rfl)
          simp only [Act.put, List.setIfInBounds_toArray, List.set_cons_zero, List.set_cons_succ]
          refine held_take (i := 1) (v := ?_) (some 45) rfl rfl (by kernel_rfl) (by kernel_rfl) (by kernel_rfl) (fun _ _ _ h => h) (by rfl) ?_ hHeld ?_
          rotate_left 1
          · (intro wq hSw; go_simp; try with_reducible rfl)
          simp only [Act.put, List.setIfInBounds_toArray, List.set_cons_zero, List.set_cons_succ]
          refine held_take (i := 2) (v := ?_) (some 46) rfl rfl (by kernel_rfl) (by kernel_rfl) (by kernel_rfl) (fun _ _ _ h => h) (by rfl) ?_ hHeld ?_
          rotate_left 1
          · (intro wq hSw; go_simp; try with_reducible rfl)
          simp only [Act.put, List.setIfInBounds_toArray, List.set_cons_zero, List.set_cons_succ]
          refine held_take (i := 4) (v := ?_) (some 48) rfl rfl (by kernel_rfl) (by kernel_rfl) (by kernel_rfl) (fun _ _ _ h => h) (by rfl) ?_ hHeld ?_
          rotate_left 1
          · (intro wq hSw; go_simp; try with_reducible rfl)
          simp only [Act.put, List.setIfInBounds_toArray, List.set_cons_zero, List.set_cons_succ]
          refine held_take (i := 5) (v := ?_) (some 49) rfl rfl (by kernel_rfl) (by kernel_rfl) (by kernel_rfl) (fun _ _ _ h => h) (by rfl) ?_ hHeld ?_
          rotate_left 1
          · (intro wq hSw; go_simp; try with_reducible rfl)
          simp only [Act.put, List.setIfInBounds_toArray, List.set_cons_zero, List.set_cons_succ]
          obtain ⟨V, HV⟩ : ∃ V, Hid (V = X.drew) := ⟨_, rfl⟩
          have BV : Hid (Below X.heap.size X V) := by rw [HV.out]; exact Below.drew HXX.out
          rw [← HV.out] at hHeld ⊢
          refine wpAnyH_ready (rs := [3, 6, 7]) (by kernel_rfl) (by simp) ?_
          refine AllReadyH.cons rfl (fun K hK => ?_) (AllReadyH.cons rfl (fun K hK => ?_) (AllReadyH.cons rfl (fun K hK => ?_) AllReadyH.nil))
          · go_simp
            refine (HCX0.out _ BV.out).mono ?_
            rintro e V1 ⟨rfl, BV1, KV1⟩
            refine hK.out _ _ (HSX.out _ BV1.out) (fun hHeld => ?_)
            clear hK K
            (try simp only [Act.put, List.setIfInBounds_toArray, List.set_cons_zero, List.set_cons_succ])
            refine wpAnyH_ready (rs := [6, 7]) (by kernel_rfl) (by simp) ?_
            refine AllReadyH.cons rfl (fun K hK => ?_) (AllReadyH.cons rfl (fun K hK => ?_) AllReadyH.nil)
            · go_simp
              obtain ⟨V2, HV2⟩ : ∃ Vx, Hid (Vx = V1.alloc (.cells #[.int .i64 0, .slice none 0 0, .int .i64 0, .slice none 0 0] 47)) := ⟨_, rfl⟩
              obtain ⟨Bg, HBg⟩ : ∃ Bx, Hid (Bx = V1.heap.size) := ⟨_, rfl⟩
              have BV2 : Hid (Below X.heap.size X V2) := by rw [HV2.out]; exact below_al BV1.out _
              have KV2 : Hid (Below V1.heap.size V1 V2) := by rw [HV2.out]; exact below_alloc1 _ _
              have LBg : Hid (X.heap.size ≤ Bg) := by rw [HBg.out]; exact BV1.out.size
              have FBg : Hid (V2.heap[Bg]? = some (.cells #[.int .i64 0, .slice none 0 0, .int .i64 0, .slice none 0 0] 47 (0, 0))) := by rw [HV2.out, HBg.out]; exact heap_alloc_last _ _
              rw [← HV2.out]
              (try rw [← HBg.out])
              refine hK.out _ _ (HSX.out _ BV2.out) (fun hHeld => ?_)
              clear hK K
              (try simp only [Act.put, List.setIfInBounds_toArray, List.set_cons_zero, List.set_cons_succ])
              refine wpAnyH_ready (rs := [7]) (by kernel_rfl) (by simp) ?_
              refine AllReadyH.cons rfl (fun K hK => ?_) AllReadyH.nil
              go_simp
              obtain ⟨V3, HV3⟩ : ∃ Vx, Hid (Vx = V2.alloc (.cells #[.int .u64 0, .int .u64 0, .bool false, .int .i64 0, .bool false, .int .i64 0, .int .i64 0, .slice none 0 0] 30)) := ⟨_, rfl⟩
              obtain ⟨Bh, HBh⟩ : ∃ Bx, Hid (Bx = V2.heap.size) := ⟨_, rfl⟩
              have BV3 : Hid (Below X.heap.size X V3) := by rw [HV3.out]; exact below_al BV2.out _
              have KV3 : Hid (Below V2.heap.size V2 V3) := by rw [HV3.out]; exact below_alloc1 _ _
              have LBh : Hid (X.heap.size ≤ Bh) := by rw [HBh.out]; exact BV2.out.size
              have FBh : Hid (V3.heap[Bh]? = some (.cells #[.int .u64 0, .int .u64 0, .bool false, .int .i64 0, .bool false, .int .i64 0, .int .i64 0, .slice none 0 0] 30 (0, 0))) := by rw [HV3.out, HBh.out]; exact heap_alloc_last _ _
              have FBg : Hid (V3.heap[Bg]? = some (.cells #[.int .i64 0, .slice none 0 0, .int .i64 0, .slice none 0 0] 47 (0, 0))) := keep FBg.out KV3.out
              rw [← HV3.out]
              (try rw [← HBh.out])
              refine hK.out _ _ (HSX.out _ BV3.out) (fun hHeld => ?_)
              clear hK K
              (try simp only [Act.put, List.setIfInBounds_toArray, List.set_cons_zero, List.set_cons_succ])
              have hne : Bg ≠ Bh := fun q => by have h1 := FBg.out; rw [q, FBh.out] at h1; injection h1 with h1; injection h1 with _ h1; exact absurd h1 (by decide)
              refine wpAnyH_ready (rs := [8]) (by kernel_rfl) (by simp) ?_
              refine AllReadyH.cons rfl (fun K hK => ?_) AllReadyH.nil
              refine step_store_row none rfl rfl 47 (.tmp 17) (.tmp 47) rfl Bg #[.int .i64 ga.port, .slice ga.wo ga.ways.length ga.wcap, .int .i64 ga.plain, .slice ga.oo ga.opens.length ga.ocap] rfl rfl 47 _ FBg.out (by rw [sizeGt]; rfl) rfl (by simp [Value.oneCell']) ?_
              have BX1 : Hid (Below X.heap.size X (V3.setRow Bg #[.int .i64 ga.port, .slice ga.wo ga.ways.length ga.wcap, .int .i64 ga.plain, .slice ga.oo ga.opens.length ga.ocap])) := below_setRow BV3.out LBg.out _
              have G1 : Hid ((V3.setRow Bg #[.int .i64 ga.port, .slice ga.wo ga.ways.length ga.wcap, .int .i64 ga.plain, .slice ga.oo ga.opens.length ga.ocap]).heap[Bg]? = some (.cells #[.int .i64 ga.port, .slice ga.wo ga.ways.length ga.wcap, .int .i64 ga.plain, .slice ga.oo ga.opens.length ga.ocap] 47 (0, 0))) := setRow_heap _ _ _ _ _ _ FBg.out
              have G2 : Hid ((V3.setRow Bg #[.int .i64 ga.port, .slice ga.wo ga.ways.length ga.wcap, .int .i64 ga.plain, .slice ga.oo ga.opens.length ga.ocap]).heap[Bh]? = some (.cells #[.int .u64 0, .int .u64 0, .bool false, .int .i64 0, .bool false, .int .i64 0, .int .i64 0, .slice none 0 0] 30 (0, 0))) := (setRow_other _ _ _ _ (Ne.symm hne)).trans FBh.out
              refine hK.out _ _ (HSX.out _ BX1.out) (fun hHeld => ?_)
              clear hK K
              generalize V3.setRow Bg #[.int .i64 ga.port, .slice ga.wo ga.ways.length ga.wcap, .int .i64 ga.plain, .slice ga.oo ga.opens.length ga.ocap] = Va at *
              (try simp only [Act.put])
              refine wpAnyH_ready (rs := [9]) (by kernel_rfl) (by simp) ?_
              refine AllReadyH.cons rfl (fun K hK => ?_) AllReadyH.nil
              refine step_store_row none rfl rfl 30 (.tmp 18) (.tmp 49) rfl Bh #[.int .u64 f.dst, .int .u64 f.src, .bool tg, .int .i64 pr, .bool dr, .int .i64 ov, .int .i64 f.type, .slice da f.n dc] rfl rfl 30 _ G2.out (by rw [sizeFr]; rfl) rfl (by simp [Value.oneCell']) ?_
              have BX2 : Hid (Below X.heap.size X (Va.setRow Bh #[.int .u64 f.dst, .int .u64 f.src, .bool tg, .int .i64 pr, .bool dr, .int .i64 ov, .int .i64 f.type, .slice da f.n dc])) := below_setRow BX1.out LBh.out _
              have G3 : Hid ((Va.setRow Bh #[.int .u64 f.dst, .int .u64 f.src, .bool tg, .int .i64 pr, .bool dr, .int .i64 ov, .int .i64 f.type, .slice da f.n dc]).heap[Bh]? = some (.cells #[.int .u64 f.dst, .int .u64 f.src, .bool tg, .int .i64 pr, .bool dr, .int .i64 ov, .int .i64 f.type, .slice da f.n dc] 30 (0, 0))) := setRow_heap _ _ _ _ _ _ G2.out
              have G4 : Hid ((Va.setRow Bh #[.int .u64 f.dst, .int .u64 f.src, .bool tg, .int .i64 pr, .bool dr, .int .i64 ov, .int .i64 f.type, .slice da f.n dc]).heap[Bg]? = some (.cells #[.int .i64 ga.port, .slice ga.wo ga.ways.length ga.wcap, .int .i64 ga.plain, .slice ga.oo ga.opens.length ga.ocap] 47 (0, 0))) := (setRow_other _ _ _ _ hne).trans G1.out
              refine hK.out _ _ (HSX.out _ BX2.out) (fun hHeld => ?_)
              clear hK K
              generalize Va.setRow Bh #[.int .u64 f.dst, .int .u64 f.src, .bool tg, .int .i64 pr, .bool dr, .int .i64 ov, .int .i64 f.type, .slice da f.n dc] = Vb at *
              (try simp only [Act.put])
              refine wpAnyH_done (by kernel_rfl) ?_ _
              go_wp2_with fail
              go_meet
              exact ⟨Bg, Bh, rfl, rfl, G4.out, G3.out, BX2.out⟩
            · go_simp
              obtain ⟨V4, HV4⟩ : ∃ Vx, Hid (Vx = V1.alloc (.cells #[.int .u64 0, .int .u64 0, .bool false, .int .i64 0, .bool false, .int .i64 0, .int .i64 0, .slice none 0 0] 30)) := ⟨_, rfl⟩
              obtain ⟨Bh, HBh⟩ : ∃ Bx, Hid (Bx = V1.heap.size) := ⟨_, rfl⟩
              have BV4 : Hid (Below X.heap.size X V4) := by rw [HV4.out]; exact below_al BV1.out _
              have KV4 : Hid (Below V1.heap.size V1 V4) := by rw [HV4.out]; exact below_alloc1 _ _
              have LBh : Hid (X.heap.size ≤ Bh) := by rw [HBh.out]; exact BV1.out.size
              have FBh : Hid (V4.heap[Bh]? = some (.cells #[.int .u64 0, .int .u64 0, .bool false, .int .i64 0, .bool false, .int .i64 0, .int .i64 0, .slice none 0 0] 30 (0, 0))) := by rw [HV4.out, HBh.out]; exact heap_alloc_last _ _
              rw [← HV4.out]
              (try rw [← HBh.out])
              refine hK.out _ _ (HSX.out _ BV4.out) (fun hHeld => ?_)
              clear hK K
              (try simp only [Act.put, List.setIfInBounds_toArray, List.set_cons_zero, List.set_cons_succ])
              refine wpAnyH_ready (rs := [6]) (by kernel_rfl) (by simp) ?_
              refine AllReadyH.cons rfl (fun K hK => ?_) AllReadyH.nil
              go_simp
              obtain ⟨V5, HV5⟩ : ∃ Vx, Hid (Vx = V4.alloc (.cells #[.int .i64 0, .slice none 0 0, .int .i64 0, .slice none 0 0] 47)) := ⟨_, rfl⟩
              obtain ⟨Bg, HBg⟩ : ∃ Bx, Hid (Bx = V4.heap.size) := ⟨_, rfl⟩
              have BV5 : Hid (Below X.heap.size X V5) := by rw [HV5.out]; exact below_al BV4.out _
              have KV5 : Hid (Below V4.heap.size V4 V5) := by rw [HV5.out]; exact below_alloc1 _ _
              have LBg : Hid (X.heap.size ≤ Bg) := by rw [HBg.out]; exact BV4.out.size
              have FBg : Hid (V5.heap[Bg]? = some (.cells #[.int .i64 0, .slice none 0 0, .int .i64 0, .slice none 0 0] 47 (0, 0))) := by rw [HV5.out, HBg.out]; exact heap_alloc_last _ _
              have FBh : Hid (V5.heap[Bh]? = some (.cells #[.int .u64 0, .int .u64 0, .bool false, .int .i64 0, .bool false, .int .i64 0, .int .i64 0, .slice none 0 0] 30 (0, 0))) := keep FBh.out KV5.out
              rw [← HV5.out]
              (try rw [← HBg.out])
              refine hK.out _ _ (HSX.out _ BV5.out) (fun hHeld => ?_)
              clear hK K
              (try simp only [Act.put, List.setIfInBounds_toArray, List.set_cons_zero, List.set_cons_succ])
              have hne : Bg ≠ Bh := fun q => by have h1 := FBg.out; rw [q, FBh.out] at h1; injection h1 with h1; injection h1 with _ h1; exact absurd h1 (by decide)
              refine wpAnyH_ready (rs := [8]) (by kernel_rfl) (by simp) ?_
              refine AllReadyH.cons rfl (fun K hK => ?_) AllReadyH.nil
              refine step_store_row none rfl rfl 47 (.tmp 17) (.tmp 47) rfl Bg #[.int .i64 ga.port, .slice ga.wo ga.ways.length ga.wcap, .int .i64 ga.plain, .slice ga.oo ga.opens.length ga.ocap] rfl rfl 47 _ FBg.out (by rw [sizeGt]; rfl) rfl (by simp [Value.oneCell']) ?_
              have BX1 : Hid (Below X.heap.size X (V5.setRow Bg #[.int .i64 ga.port, .slice ga.wo ga.ways.length ga.wcap, .int .i64 ga.plain, .slice ga.oo ga.opens.length ga.ocap])) := below_setRow BV5.out LBg.out _
              have G1 : Hid ((V5.setRow Bg #[.int .i64 ga.port, .slice ga.wo ga.ways.length ga.wcap, .int .i64 ga.plain, .slice ga.oo ga.opens.length ga.ocap]).heap[Bg]? = some (.cells #[.int .i64 ga.port, .slice ga.wo ga.ways.length ga.wcap, .int .i64 ga.plain, .slice ga.oo ga.opens.length ga.ocap] 47 (0, 0))) := setRow_heap _ _ _ _ _ _ FBg.out
              have G2 : Hid ((V5.setRow Bg #[.int .i64 ga.port, .slice ga.wo ga.ways.length ga.wcap, .int .i64 ga.plain, .slice ga.oo ga.opens.length ga.ocap]).heap[Bh]? = some (.cells #[.int .u64 0, .int .u64 0, .bool false, .int .i64 0, .bool false, .int .i64 0, .int .i64 0, .slice none 0 0] 30 (0, 0))) := (setRow_other _ _ _ _ (Ne.symm hne)).trans FBh.out
              refine hK.out _ _ (HSX.out _ BX1.out) (fun hHeld => ?_)
              clear hK K
              generalize V5.setRow Bg #[.int .i64 ga.port, .slice ga.wo ga.ways.length ga.wcap, .int .i64 ga.plain, .slice ga.oo ga.opens.length ga.ocap] = Va at *
              (try simp only [Act.put])
              refine wpAnyH_ready (rs := [9]) (by kernel_rfl) (by simp) ?_
              refine AllReadyH.cons rfl (fun K hK => ?_) AllReadyH.nil
              refine step_store_row none rfl rfl 30 (.tmp 18) (.tmp 49) rfl Bh #[.int .u64 f.dst, .int .u64 f.src, .bool tg, .int .i64 pr, .bool dr, .int .i64 ov, .int .i64 f.type, .slice da f.n dc] rfl rfl 30 _ G2.out (by rw [sizeFr]; rfl) rfl (by simp [Value.oneCell']) ?_
              have BX2 : Hid (Below X.heap.size X (Va.setRow Bh #[.int .u64 f.dst, .int .u64 f.src, .bool tg, .int .i64 pr, .bool dr, .int .i64 ov, .int .i64 f.type, .slice da f.n dc])) := below_setRow BX1.out LBh.out _
              have G3 : Hid ((Va.setRow Bh #[.int .u64 f.dst, .int .u64 f.src, .bool tg, .int .i64 pr, .bool dr, .int .i64 ov, .int .i64 f.type, .slice da f.n dc]).heap[Bh]? = some (.cells #[.int .u64 f.dst, .int .u64 f.src, .bool tg, .int .i64 pr, .bool dr, .int .i64 ov, .int .i64 f.type, .slice da f.n dc] 30 (0, 0))) := setRow_heap _ _ _ _ _ _ G2.out
              have G4 : Hid ((Va.setRow Bh #[.int .u64 f.dst, .int .u64 f.src, .bool tg, .int .i64 pr, .bool dr, .int .i64 ov, .int .i64 f.type, .slice da f.n dc]).heap[Bg]? = some (.cells #[.int .i64 ga.port, .slice ga.wo ga.ways.length ga.wcap, .int .i64 ga.plain, .slice ga.oo ga.opens.length ga.ocap] 47 (0, 0))) := (setRow_other _ _ _ _ hne).trans G1.out
              refine hK.out _ _ (HSX.out _ BX2.out) (fun hHeld => ?_)
              clear hK K
              generalize Va.setRow Bh #[.int .u64 f.dst, .int .u64 f.src, .bool tg, .int .i64 pr, .bool dr, .int .i64 ov, .int .i64 f.type, .slice da f.n dc] = Vb at *
              (try simp only [Act.put])
              refine wpAnyH_done (by kernel_rfl) ?_ _
              go_wp2_with fail
              go_meet
              exact ⟨Bg, Bh, rfl, rfl, G4.out, G3.out, BX2.out⟩
          · go_simp
            obtain ⟨V6, HV6⟩ : ∃ Vx, Hid (Vx = V.alloc (.cells #[.int .i64 0, .slice none 0 0, .int .i64 0, .slice none 0 0] 47)) := ⟨_, rfl⟩
            obtain ⟨Bg, HBg⟩ : ∃ Bx, Hid (Bx = V.heap.size) := ⟨_, rfl⟩
            have BV6 : Hid (Below X.heap.size X V6) := by rw [HV6.out]; exact below_al BV.out _
            have KV6 : Hid (Below V.heap.size V V6) := by rw [HV6.out]; exact below_alloc1 _ _
            have LBg : Hid (X.heap.size ≤ Bg) := by rw [HBg.out]; exact BV.out.size
            have FBg : Hid (V6.heap[Bg]? = some (.cells #[.int .i64 0, .slice none 0 0, .int .i64 0, .slice none 0 0] 47 (0, 0))) := by rw [HV6.out, HBg.out]; exact heap_alloc_last _ _
            rw [← HV6.out]
            (try rw [← HBg.out])
            refine hK.out _ _ (HSX.out _ BV6.out) (fun hHeld => ?_)
            clear hK K
            (try simp only [Act.put, List.setIfInBounds_toArray, List.set_cons_zero, List.set_cons_succ])
            refine wpAnyH_ready (rs := [3, 7]) (by kernel_rfl) (by simp) ?_
            refine AllReadyH.cons rfl (fun K hK => ?_) (AllReadyH.cons rfl (fun K hK => ?_) AllReadyH.nil)
            · go_simp
              refine (HCX0.out _ BV6.out).mono ?_
              rintro e V7 ⟨rfl, BV7, KV7⟩
              have FBg : Hid (V7.heap[Bg]? = some (.cells #[.int .i64 0, .slice none 0 0, .int .i64 0, .slice none 0 0] 47 (0, 0))) := keep FBg.out KV7.out
              refine hK.out _ _ (HSX.out _ BV7.out) (fun hHeld => ?_)
              clear hK K
              (try simp only [Act.put, List.setIfInBounds_toArray, List.set_cons_zero, List.set_cons_succ])
              refine wpAnyH_ready (rs := [7]) (by kernel_rfl) (by simp) ?_
              refine AllReadyH.cons rfl (fun K hK => ?_) AllReadyH.nil
              go_simp
              obtain ⟨V8, HV8⟩ : ∃ Vx, Hid (Vx = V7.alloc (.cells #[.int .u64 0, .int .u64 0, .bool false, .int .i64 0, .bool false, .int .i64 0, .int .i64 0, .slice none 0 0] 30)) := ⟨_, rfl⟩
              obtain ⟨Bh, HBh⟩ : ∃ Bx, Hid (Bx = V7.heap.size) := ⟨_, rfl⟩
              have BV8 : Hid (Below X.heap.size X V8) := by rw [HV8.out]; exact below_al BV7.out _
              have KV8 : Hid (Below V7.heap.size V7 V8) := by rw [HV8.out]; exact below_alloc1 _ _
              have LBh : Hid (X.heap.size ≤ Bh) := by rw [HBh.out]; exact BV7.out.size
              have FBh : Hid (V8.heap[Bh]? = some (.cells #[.int .u64 0, .int .u64 0, .bool false, .int .i64 0, .bool false, .int .i64 0, .int .i64 0, .slice none 0 0] 30 (0, 0))) := by rw [HV8.out, HBh.out]; exact heap_alloc_last _ _
              have FBg : Hid (V8.heap[Bg]? = some (.cells #[.int .i64 0, .slice none 0 0, .int .i64 0, .slice none 0 0] 47 (0, 0))) := keep FBg.out KV8.out
              rw [← HV8.out]
              (try rw [← HBh.out])
              refine hK.out _ _ (HSX.out _ BV8.out) (fun hHeld => ?_)
              clear hK K
              (try simp only [Act.put, List.setIfInBounds_toArray, List.set_cons_zero, List.set_cons_succ])
              have hne : Bg ≠ Bh := fun q => by have h1 := FBg.out; rw [q, FBh.out] at h1; injection h1 with h1; injection h1 with _ h1; exact absurd h1 (by decide)
              refine wpAnyH_ready (rs := [8]) (by kernel_rfl) (by simp) ?_
              refine AllReadyH.cons rfl (fun K hK => ?_) AllReadyH.nil
              refine step_store_row none rfl rfl 47 (.tmp 17) (.tmp 47) rfl Bg #[.int .i64 ga.port, .slice ga.wo ga.ways.length ga.wcap, .int .i64 ga.plain, .slice ga.oo ga.opens.length ga.ocap] rfl rfl 47 _ FBg.out (by rw [sizeGt]; rfl) rfl (by simp [Value.oneCell']) ?_
              have BX1 : Hid (Below X.heap.size X (V8.setRow Bg #[.int .i64 ga.port, .slice ga.wo ga.ways.length ga.wcap, .int .i64 ga.plain, .slice ga.oo ga.opens.length ga.ocap])) := below_setRow BV8.out LBg.out _
              have G1 : Hid ((V8.setRow Bg #[.int .i64 ga.port, .slice ga.wo ga.ways.length ga.wcap, .int .i64 ga.plain, .slice ga.oo ga.opens.length ga.ocap]).heap[Bg]? = some (.cells #[.int .i64 ga.port, .slice ga.wo ga.ways.length ga.wcap, .int .i64 ga.plain, .slice ga.oo ga.opens.length ga.ocap] 47 (0, 0))) := setRow_heap _ _ _ _ _ _ FBg.out
              have G2 : Hid ((V8.setRow Bg #[.int .i64 ga.port, .slice ga.wo ga.ways.length ga.wcap, .int .i64 ga.plain, .slice ga.oo ga.opens.length ga.ocap]).heap[Bh]? = some (.cells #[.int .u64 0, .int .u64 0, .bool false, .int .i64 0, .bool false, .int .i64 0, .int .i64 0, .slice none 0 0] 30 (0, 0))) := (setRow_other _ _ _ _ (Ne.symm hne)).trans FBh.out
              refine hK.out _ _ (HSX.out _ BX1.out) (fun hHeld => ?_)
              clear hK K
              generalize V8.setRow Bg #[.int .i64 ga.port, .slice ga.wo ga.ways.length ga.wcap, .int .i64 ga.plain, .slice ga.oo ga.opens.length ga.ocap] = Va at *
              (try simp only [Act.put])
              refine wpAnyH_ready (rs := [9]) (by kernel_rfl) (by simp) ?_
              refine AllReadyH.cons rfl (fun K hK => ?_) AllReadyH.nil
              refine step_store_row none rfl rfl 30 (.tmp 18) (.tmp 49) rfl Bh #[.int .u64 f.dst, .int .u64 f.src, .bool tg, .int .i64 pr, .bool dr, .int .i64 ov, .int .i64 f.type, .slice da f.n dc] rfl rfl 30 _ G2.out (by rw [sizeFr]; rfl) rfl (by simp [Value.oneCell']) ?_
              have BX2 : Hid (Below X.heap.size X (Va.setRow Bh #[.int .u64 f.dst, .int .u64 f.src, .bool tg, .int .i64 pr, .bool dr, .int .i64 ov, .int .i64 f.type, .slice da f.n dc])) := below_setRow BX1.out LBh.out _
              have G3 : Hid ((Va.setRow Bh #[.int .u64 f.dst, .int .u64 f.src, .bool tg, .int .i64 pr, .bool dr, .int .i64 ov, .int .i64 f.type, .slice da f.n dc]).heap[Bh]? = some (.cells #[.int .u64 f.dst, .int .u64 f.src, .bool tg, .int .i64 pr, .bool dr, .int .i64 ov, .int .i64 f.type, .slice da f.n dc] 30 (0, 0))) := setRow_heap _ _ _ _ _ _ G2.out
              have G4 : Hid ((Va.setRow Bh #[.int .u64 f.dst, .int .u64 f.src, .bool tg, .int .i64 pr, .bool dr, .int .i64 ov, .int .i64 f.type, .slice da f.n dc]).heap[Bg]? = some (.cells #[.int .i64 ga.port, .slice ga.wo ga.ways.length ga.wcap, .int .i64 ga.plain, .slice ga.oo ga.opens.length ga.ocap] 47 (0, 0))) := (setRow_other _ _ _ _ hne).trans G1.out
              refine hK.out _ _ (HSX.out _ BX2.out) (fun hHeld => ?_)
              clear hK K
              generalize Va.setRow Bh #[.int .u64 f.dst, .int .u64 f.src, .bool tg, .int .i64 pr, .bool dr, .int .i64 ov, .int .i64 f.type, .slice da f.n dc] = Vb at *
              (try simp only [Act.put])
              refine wpAnyH_done (by kernel_rfl) ?_ _
              go_wp2_with fail
              go_meet
              exact ⟨Bg, Bh, rfl, rfl, G4.out, G3.out, BX2.out⟩
            · go_simp
              obtain ⟨V9, HV9⟩ : ∃ Vx, Hid (Vx = V6.alloc (.cells #[.int .u64 0, .int .u64 0, .bool false, .int .i64 0, .bool false, .int .i64 0, .int .i64 0, .slice none 0 0] 30)) := ⟨_, rfl⟩
              obtain ⟨Bh, HBh⟩ : ∃ Bx, Hid (Bx = V6.heap.size) := ⟨_, rfl⟩
              have BV9 : Hid (Below X.heap.size X V9) := by rw [HV9.out]; exact below_al BV6.out _
              have KV9 : Hid (Below V6.heap.size V6 V9) := by rw [HV9.out]; exact below_alloc1 _ _
              have LBh : Hid (X.heap.size ≤ Bh) := by rw [HBh.out]; exact BV6.out.size
              have FBh : Hid (V9.heap[Bh]? = some (.cells #[.int .u64 0, .int .u64 0, .bool false, .int .i64 0, .bool false, .int .i64 0, .int .i64 0, .slice none 0 0] 30 (0, 0))) := by rw [HV9.out, HBh.out]; exact heap_alloc_last _ _
              have FBg : Hid (V9.heap[Bg]? = some (.cells #[.int .i64 0, .slice none 0 0, .int .i64 0, .slice none 0 0] 47 (0, 0))) := keep FBg.out KV9.out
              rw [← HV9.out]
              (try rw [← HBh.out])
              refine hK.out _ _ (HSX.out _ BV9.out) (fun hHeld => ?_)
              clear hK K
              (try simp only [Act.put, List.setIfInBounds_toArray, List.set_cons_zero, List.set_cons_succ])
              refine wpAnyH_ready (rs := [3]) (by kernel_rfl) (by simp) ?_
              refine AllReadyH.cons rfl (fun K hK => ?_) AllReadyH.nil
              go_simp
              refine (HCX0.out _ BV9.out).mono ?_
              rintro e V10 ⟨rfl, BV10, KV10⟩
              have FBg : Hid (V10.heap[Bg]? = some (.cells #[.int .i64 0, .slice none 0 0, .int .i64 0, .slice none 0 0] 47 (0, 0))) := keep FBg.out KV10.out
              have FBh : Hid (V10.heap[Bh]? = some (.cells #[.int .u64 0, .int .u64 0, .bool false, .int .i64 0, .bool false, .int .i64 0, .int .i64 0, .slice none 0 0] 30 (0, 0))) := keep FBh.out KV10.out
              refine hK.out _ _ (HSX.out _ BV10.out) (fun hHeld => ?_)
              clear hK K
              (try simp only [Act.put, List.setIfInBounds_toArray, List.set_cons_zero, List.set_cons_succ])
              have hne : Bg ≠ Bh := fun q => by have h1 := FBg.out; rw [q, FBh.out] at h1; injection h1 with h1; injection h1 with _ h1; exact absurd h1 (by decide)
              refine wpAnyH_ready (rs := [8]) (by kernel_rfl) (by simp) ?_
              refine AllReadyH.cons rfl (fun K hK => ?_) AllReadyH.nil
              refine step_store_row none rfl rfl 47 (.tmp 17) (.tmp 47) rfl Bg #[.int .i64 ga.port, .slice ga.wo ga.ways.length ga.wcap, .int .i64 ga.plain, .slice ga.oo ga.opens.length ga.ocap] rfl rfl 47 _ FBg.out (by rw [sizeGt]; rfl) rfl (by simp [Value.oneCell']) ?_
              have BX1 : Hid (Below X.heap.size X (V10.setRow Bg #[.int .i64 ga.port, .slice ga.wo ga.ways.length ga.wcap, .int .i64 ga.plain, .slice ga.oo ga.opens.length ga.ocap])) := below_setRow BV10.out LBg.out _
              have G1 : Hid ((V10.setRow Bg #[.int .i64 ga.port, .slice ga.wo ga.ways.length ga.wcap, .int .i64 ga.plain, .slice ga.oo ga.opens.length ga.ocap]).heap[Bg]? = some (.cells #[.int .i64 ga.port, .slice ga.wo ga.ways.length ga.wcap, .int .i64 ga.plain, .slice ga.oo ga.opens.length ga.ocap] 47 (0, 0))) := setRow_heap _ _ _ _ _ _ FBg.out
              have G2 : Hid ((V10.setRow Bg #[.int .i64 ga.port, .slice ga.wo ga.ways.length ga.wcap, .int .i64 ga.plain, .slice ga.oo ga.opens.length ga.ocap]).heap[Bh]? = some (.cells #[.int .u64 0, .int .u64 0, .bool false, .int .i64 0, .bool false, .int .i64 0, .int .i64 0, .slice none 0 0] 30 (0, 0))) := (setRow_other _ _ _ _ (Ne.symm hne)).trans FBh.out
              refine hK.out _ _ (HSX.out _ BX1.out) (fun hHeld => ?_)
              clear hK K
              generalize V10.setRow Bg #[.int .i64 ga.port, .slice ga.wo ga.ways.length ga.wcap, .int .i64 ga.plain, .slice ga.oo ga.opens.length ga.ocap] = Va at *
              (try simp only [Act.put])
              refine wpAnyH_ready (rs := [9]) (by kernel_rfl) (by simp) ?_
              refine AllReadyH.cons rfl (fun K hK => ?_) AllReadyH.nil
              refine step_store_row none rfl rfl 30 (.tmp 18) (.tmp 49) rfl Bh #[.int .u64 f.dst, .int .u64 f.src, .bool tg, .int .i64 pr, .bool dr, .int .i64 ov, .int .i64 f.type, .slice da f.n dc] rfl rfl 30 _ G2.out (by rw [sizeFr]; rfl) rfl (by simp [Value.oneCell']) ?_
              have BX2 : Hid (Below X.heap.size X (Va.setRow Bh #[.int .u64 f.dst, .int .u64 f.src, .bool tg, .int .i64 pr, .bool dr, .int .i64 ov, .int .i64 f.type, .slice da f.n dc])) := below_setRow BX1.out LBh.out _
              have G3 : Hid ((Va.setRow Bh #[.int .u64 f.dst, .int .u64 f.src, .bool tg, .int .i64 pr, .bool dr, .int .i64 ov, .int .i64 f.type, .slice da f.n dc]).heap[Bh]? = some (.cells #[.int .u64 f.dst, .int .u64 f.src, .bool tg, .int .i64 pr, .bool dr, .int .i64 ov, .int .i64 f.type, .slice da f.n dc] 30 (0, 0))) := setRow_heap _ _ _ _ _ _ G2.out
              have G4 : Hid ((Va.setRow Bh #[.int .u64 f.dst, .int .u64 f.src, .bool tg, .int .i64 pr, .bool dr, .int .i64 ov, .int .i64 f.type, .slice da f.n dc]).heap[Bg]? = some (.cells #[.int .i64 ga.port, .slice ga.wo ga.ways.length ga.wcap, .int .i64 ga.plain, .slice ga.oo ga.opens.length ga.ocap] 47 (0, 0))) := (setRow_other _ _ _ _ hne).trans G1.out
              refine hK.out _ _ (HSX.out _ BX2.out) (fun hHeld => ?_)
              clear hK K
              generalize Va.setRow Bh #[.int .u64 f.dst, .int .u64 f.src, .bool tg, .int .i64 pr, .bool dr, .int .i64 ov, .int .i64 f.type, .slice da f.n dc] = Vb at *
              (try simp only [Act.put])
              refine wpAnyH_done (by kernel_rfl) ?_ _
              go_wp2_with fail
              go_meet
              exact ⟨Bg, Bh, rfl, rfl, G4.out, G3.out, BX2.out⟩
          · go_simp
            obtain ⟨V11, HV11⟩ : ∃ Vx, Hid (Vx = V.alloc (.cells #[.int .u64 0, .int .u64 0, .bool false, .int .i64 0, .bool false, .int .i64 0, .int .i64 0, .slice none 0 0] 30)) := ⟨_, rfl⟩
            obtain ⟨Bh, HBh⟩ : ∃ Bx, Hid (Bx = V.heap.size) := ⟨_, rfl⟩
            have BV11 : Hid (Below X.heap.size X V11) := by rw [HV11.out]; exact below_al BV.out _
            have KV11 : Hid (Below V.heap.size V V11) := by rw [HV11.out]; exact below_alloc1 _ _
            have LBh : Hid (X.heap.size ≤ Bh) := by rw [HBh.out]; exact BV.out.size
            have FBh : Hid (V11.heap[Bh]? = some (.cells #[.int .u64 0, .int .u64 0, .bool false, .int .i64 0, .bool false, .int .i64 0, .int .i64 0, .slice none 0 0] 30 (0, 0))) := by rw [HV11.out, HBh.out]; exact heap_alloc_last _ _
            rw [← HV11.out]
            (try rw [← HBh.out])
            refine hK.out _ _ (HSX.out _ BV11.out) (fun hHeld => ?_)
            clear hK K
            (try simp only [Act.put, List.setIfInBounds_toArray, List.set_cons_zero, List.set_cons_succ])
            refine wpAnyH_ready (rs := [3, 6]) (by kernel_rfl) (by simp) ?_
            refine AllReadyH.cons rfl (fun K hK => ?_) (AllReadyH.cons rfl (fun K hK => ?_) AllReadyH.nil)
            · go_simp
              refine (HCX0.out _ BV11.out).mono ?_
              rintro e V12 ⟨rfl, BV12, KV12⟩
              have FBh : Hid (V12.heap[Bh]? = some (.cells #[.int .u64 0, .int .u64 0, .bool false, .int .i64 0, .bool false, .int .i64 0, .int .i64 0, .slice none 0 0] 30 (0, 0))) := keep FBh.out KV12.out
              refine hK.out _ _ (HSX.out _ BV12.out) (fun hHeld => ?_)
              clear hK K
              (try simp only [Act.put, List.setIfInBounds_toArray, List.set_cons_zero, List.set_cons_succ])
              refine wpAnyH_ready (rs := [6]) (by kernel_rfl) (by simp) ?_
              refine AllReadyH.cons rfl (fun K hK => ?_) AllReadyH.nil
              go_simp
              obtain ⟨V13, HV13⟩ : ∃ Vx, Hid (Vx = V12.alloc (.cells #[.int .i64 0, .slice none 0 0, .int .i64 0, .slice none 0 0] 47)) := ⟨_, rfl⟩
              obtain ⟨Bg, HBg⟩ : ∃ Bx, Hid (Bx = V12.heap.size) := ⟨_, rfl⟩
              have BV13 : Hid (Below X.heap.size X V13) := by rw [HV13.out]; exact below_al BV12.out _
              have KV13 : Hid (Below V12.heap.size V12 V13) := by rw [HV13.out]; exact below_alloc1 _ _
              have LBg : Hid (X.heap.size ≤ Bg) := by rw [HBg.out]; exact BV12.out.size
              have FBg : Hid (V13.heap[Bg]? = some (.cells #[.int .i64 0, .slice none 0 0, .int .i64 0, .slice none 0 0] 47 (0, 0))) := by rw [HV13.out, HBg.out]; exact heap_alloc_last _ _
              have FBh : Hid (V13.heap[Bh]? = some (.cells #[.int .u64 0, .int .u64 0, .bool false, .int .i64 0, .bool false, .int .i64 0, .int .i64 0, .slice none 0 0] 30 (0, 0))) := keep FBh.out KV13.out
              rw [← HV13.out]
              (try rw [← HBg.out])
              refine hK.out _ _ (HSX.out _ BV13.out) (fun hHeld => ?_)
              clear hK K
              (try simp only [Act.put, List.setIfInBounds_toArray, List.set_cons_zero, List.set_cons_succ])
              have hne : Bg ≠ Bh := fun q => by have h1 := FBg.out; rw [q, FBh.out] at h1; injection h1 with h1; injection h1 with _ h1; exact absurd h1 (by decide)
              refine wpAnyH_ready (rs := [8]) (by kernel_rfl) (by simp) ?_
              refine AllReadyH.cons rfl (fun K hK => ?_) AllReadyH.nil
              refine step_store_row none rfl rfl 47 (.tmp 17) (.tmp 47) rfl Bg #[.int .i64 ga.port, .slice ga.wo ga.ways.length ga.wcap, .int .i64 ga.plain, .slice ga.oo ga.opens.length ga.ocap] rfl rfl 47 _ FBg.out (by rw [sizeGt]; rfl) rfl (by simp [Value.oneCell']) ?_
              have BX1 : Hid (Below X.heap.size X (V13.setRow Bg #[.int .i64 ga.port, .slice ga.wo ga.ways.length ga.wcap, .int .i64 ga.plain, .slice ga.oo ga.opens.length ga.ocap])) := below_setRow BV13.out LBg.out _
              have G1 : Hid ((V13.setRow Bg #[.int .i64 ga.port, .slice ga.wo ga.ways.length ga.wcap, .int .i64 ga.plain, .slice ga.oo ga.opens.length ga.ocap]).heap[Bg]? = some (.cells #[.int .i64 ga.port, .slice ga.wo ga.ways.length ga.wcap, .int .i64 ga.plain, .slice ga.oo ga.opens.length ga.ocap] 47 (0, 0))) := setRow_heap _ _ _ _ _ _ FBg.out
              have G2 : Hid ((V13.setRow Bg #[.int .i64 ga.port, .slice ga.wo ga.ways.length ga.wcap, .int .i64 ga.plain, .slice ga.oo ga.opens.length ga.ocap]).heap[Bh]? = some (.cells #[.int .u64 0, .int .u64 0, .bool false, .int .i64 0, .bool false, .int .i64 0, .int .i64 0, .slice none 0 0] 30 (0, 0))) := (setRow_other _ _ _ _ (Ne.symm hne)).trans FBh.out
              refine hK.out _ _ (HSX.out _ BX1.out) (fun hHeld => ?_)
              clear hK K
              generalize V13.setRow Bg #[.int .i64 ga.port, .slice ga.wo ga.ways.length ga.wcap, .int .i64 ga.plain, .slice ga.oo ga.opens.length ga.ocap] = Va at *
              (try simp only [Act.put])
              refine wpAnyH_ready (rs := [9]) (by kernel_rfl) (by simp) ?_
              refine AllReadyH.cons rfl (fun K hK => ?_) AllReadyH.nil
              refine step_store_row none rfl rfl 30 (.tmp 18) (.tmp 49) rfl Bh #[.int .u64 f.dst, .int .u64 f.src, .bool tg, .int .i64 pr, .bool dr, .int .i64 ov, .int .i64 f.type, .slice da f.n dc] rfl rfl 30 _ G2.out (by rw [sizeFr]; rfl) rfl (by simp [Value.oneCell']) ?_
              have BX2 : Hid (Below X.heap.size X (Va.setRow Bh #[.int .u64 f.dst, .int .u64 f.src, .bool tg, .int .i64 pr, .bool dr, .int .i64 ov, .int .i64 f.type, .slice da f.n dc])) := below_setRow BX1.out LBh.out _
              have G3 : Hid ((Va.setRow Bh #[.int .u64 f.dst, .int .u64 f.src, .bool tg, .int .i64 pr, .bool dr, .int .i64 ov, .int .i64 f.type, .slice da f.n dc]).heap[Bh]? = some (.cells #[.int .u64 f.dst, .int .u64 f.src, .bool tg, .int .i64 pr, .bool dr, .int .i64 ov, .int .i64 f.type, .slice da f.n dc] 30 (0, 0))) := setRow_heap _ _ _ _ _ _ G2.out
              have G4 : Hid ((Va.setRow Bh #[.int .u64 f.dst, .int .u64 f.src, .bool tg, .int .i64 pr, .bool dr, .int .i64 ov, .int .i64 f.type, .slice da f.n dc]).heap[Bg]? = some (.cells #[.int .i64 ga.port, .slice ga.wo ga.ways.length ga.wcap, .int .i64 ga.plain, .slice ga.oo ga.opens.length ga.ocap] 47 (0, 0))) := (setRow_other _ _ _ _ hne).trans G1.out
              refine hK.out _ _ (HSX.out _ BX2.out) (fun hHeld => ?_)
              clear hK K
              generalize Va.setRow Bh #[.int .u64 f.dst, .int .u64 f.src, .bool tg, .int .i64 pr, .bool dr, .int .i64 ov, .int .i64 f.type, .slice da f.n dc] = Vb at *
              (try simp only [Act.put])
              refine wpAnyH_done (by kernel_rfl) ?_ _
              go_wp2_with fail
              go_meet
              exact ⟨Bg, Bh, rfl, rfl, G4.out, G3.out, BX2.out⟩
            · go_simp
              obtain ⟨V14, HV14⟩ : ∃ Vx, Hid (Vx = V11.alloc (.cells #[.int .i64 0, .slice none 0 0, .int .i64 0, .slice none 0 0] 47)) := ⟨_, rfl⟩
              obtain ⟨Bg, HBg⟩ : ∃ Bx, Hid (Bx = V11.heap.size) := ⟨_, rfl⟩
              have BV14 : Hid (Below X.heap.size X V14) := by rw [HV14.out]; exact below_al BV11.out _
              have KV14 : Hid (Below V11.heap.size V11 V14) := by rw [HV14.out]; exact below_alloc1 _ _
              have LBg : Hid (X.heap.size ≤ Bg) := by rw [HBg.out]; exact BV11.out.size
              have FBg : Hid (V14.heap[Bg]? = some (.cells #[.int .i64 0, .slice none 0 0, .int .i64 0, .slice none 0 0] 47 (0, 0))) := by rw [HV14.out, HBg.out]; exact heap_alloc_last _ _
              have FBh : Hid (V14.heap[Bh]? = some (.cells #[.int .u64 0, .int .u64 0, .bool false, .int .i64 0, .bool false, .int .i64 0, .int .i64 0, .slice none 0 0] 30 (0, 0))) := keep FBh.out KV14.out
              rw [← HV14.out]
              (try rw [← HBg.out])
              refine hK.out _ _ (HSX.out _ BV14.out) (fun hHeld => ?_)
              clear hK K
              (try simp only [Act.put, List.setIfInBounds_toArray, List.set_cons_zero, List.set_cons_succ])
              refine wpAnyH_ready (rs := [3]) (by kernel_rfl) (by simp) ?_
              refine AllReadyH.cons rfl (fun K hK => ?_) AllReadyH.nil
              go_simp
              refine (HCX0.out _ BV14.out).mono ?_
              rintro e V15 ⟨rfl, BV15, KV15⟩
              have FBg : Hid (V15.heap[Bg]? = some (.cells #[.int .i64 0, .slice none 0 0, .int .i64 0, .slice none 0 0] 47 (0, 0))) := keep FBg.out KV15.out
              have FBh : Hid (V15.heap[Bh]? = some (.cells #[.int .u64 0, .int .u64 0, .bool false, .int .i64 0, .bool false, .int .i64 0, .int .i64 0, .slice none 0 0] 30 (0, 0))) := keep FBh.out KV15.out
              refine hK.out _ _ (HSX.out _ BV15.out) (fun hHeld => ?_)
              clear hK K
              (try simp only [Act.put, List.setIfInBounds_toArray, List.set_cons_zero, List.set_cons_succ])
              have hne : Bg ≠ Bh := fun q => by have h1 := FBg.out; rw [q, FBh.out] at h1; injection h1 with h1; injection h1 with _ h1; exact absurd h1 (by decide)
              refine wpAnyH_ready (rs := [8]) (by kernel_rfl) (by simp) ?_
              refine AllReadyH.cons rfl (fun K hK => ?_) AllReadyH.nil
              refine step_store_row none rfl rfl 47 (.tmp 17) (.tmp 47) rfl Bg #[.int .i64 ga.port, .slice ga.wo ga.ways.length ga.wcap, .int .i64 ga.plain, .slice ga.oo ga.opens.length ga.ocap] rfl rfl 47 _ FBg.out (by rw [sizeGt]; rfl) rfl (by simp [Value.oneCell']) ?_
              have BX1 : Hid (Below X.heap.size X (V15.setRow Bg #[.int .i64 ga.port, .slice ga.wo ga.ways.length ga.wcap, .int .i64 ga.plain, .slice ga.oo ga.opens.length ga.ocap])) := below_setRow BV15.out LBg.out _
              have G1 : Hid ((V15.setRow Bg #[.int .i64 ga.port, .slice ga.wo ga.ways.length ga.wcap, .int .i64 ga.plain, .slice ga.oo ga.opens.length ga.ocap]).heap[Bg]? = some (.cells #[.int .i64 ga.port, .slice ga.wo ga.ways.length ga.wcap, .int .i64 ga.plain, .slice ga.oo ga.opens.length ga.ocap] 47 (0, 0))) := setRow_heap _ _ _ _ _ _ FBg.out
              have G2 : Hid ((V15.setRow Bg #[.int .i64 ga.port, .slice ga.wo ga.ways.length ga.wcap, .int .i64 ga.plain, .slice ga.oo ga.opens.length ga.ocap]).heap[Bh]? = some (.cells #[.int .u64 0, .int .u64 0, .bool false, .int .i64 0, .bool false, .int .i64 0, .int .i64 0, .slice none 0 0] 30 (0, 0))) := (setRow_other _ _ _ _ (Ne.symm hne)).trans FBh.out
              refine hK.out _ _ (HSX.out _ BX1.out) (fun hHeld => ?_)
              clear hK K
              generalize V15.setRow Bg #[.int .i64 ga.port, .slice ga.wo ga.ways.length ga.wcap, .int .i64 ga.plain, .slice ga.oo ga.opens.length ga.ocap] = Va at *
              (try simp only [Act.put])
              refine wpAnyH_ready (rs := [9]) (by kernel_rfl) (by simp) ?_
              refine AllReadyH.cons rfl (fun K hK => ?_) AllReadyH.nil
              refine step_store_row none rfl rfl 30 (.tmp 18) (.tmp 49) rfl Bh #[.int .u64 f.dst, .int .u64 f.src, .bool tg, .int .i64 pr, .bool dr, .int .i64 ov, .int .i64 f.type, .slice da f.n dc] rfl rfl 30 _ G2.out (by rw [sizeFr]; rfl) rfl (by simp [Value.oneCell']) ?_
              have BX2 : Hid (Below X.heap.size X (Va.setRow Bh #[.int .u64 f.dst, .int .u64 f.src, .bool tg, .int .i64 pr, .bool dr, .int .i64 ov, .int .i64 f.type, .slice da f.n dc])) := below_setRow BX1.out LBh.out _
              have G3 : Hid ((Va.setRow Bh #[.int .u64 f.dst, .int .u64 f.src, .bool tg, .int .i64 pr, .bool dr, .int .i64 ov, .int .i64 f.type, .slice da f.n dc]).heap[Bh]? = some (.cells #[.int .u64 f.dst, .int .u64 f.src, .bool tg, .int .i64 pr, .bool dr, .int .i64 ov, .int .i64 f.type, .slice da f.n dc] 30 (0, 0))) := setRow_heap _ _ _ _ _ _ G2.out
              have G4 : Hid ((Va.setRow Bh #[.int .u64 f.dst, .int .u64 f.src, .bool tg, .int .i64 pr, .bool dr, .int .i64 ov, .int .i64 f.type, .slice da f.n dc]).heap[Bg]? = some (.cells #[.int .i64 ga.port, .slice ga.wo ga.ways.length ga.wcap, .int .i64 ga.plain, .slice ga.oo ga.opens.length ga.ocap] 47 (0, 0))) := (setRow_other _ _ _ _ hne).trans G1.out
              refine hK.out _ _ (HSX.out _ BX2.out) (fun hHeld => ?_)
              clear hK K
              generalize Va.setRow Bh #[.int .u64 f.dst, .int .u64 f.src, .bool tg, .int .i64 pr, .bool dr, .int .i64 ov, .int .i64 f.type, .slice da f.n dc] = Vb at *
              (try simp only [Act.put])
              refine wpAnyH_done (by kernel_rfl) ?_ _
              go_wp2_with fail
              go_meet
              exact ⟨Bg, Bh, rfl, rfl, G4.out, G3.out, BX2.out⟩
        case rest =>
        rename World => w6
        obtain ⟨B1, B2, rfl, rfl, HQ⟩ := hcut
        clear c0 c1 c2 d0 d1 d2 d3 d4 d5 d6 d7 g0 g1 g2 g3 g4 g5 g6 g7 g8 HCX0
        obtain ⟨a0, a1, a2, a3⟩ := gt_cells HQ.out.1
        obtain ⟨x0, x1, x2, x3, x4, x5, x6, x7⟩ := fr_cells HQ.out.2.1
        obtain ⟨⟨⟨c0, c1, c2⟩, d0, d1, d2, d3, d4, d5, d6, d7⟩, _⟩ := HSX.out w6 HQ.out.2.2
        obtain ⟨q1, q2⟩ := HDT.out w6 HQ.out.2.2
        have n1 : (f.dst != f.dst) = false := by simp
        have n2 : (f.src != f.src) = false := by simp
        have n3 : (f.type != f.type) = false := by simp
        clear HDT HSX HSR
        by_cases hpl : ga.plain = vi
        · have e1 : (ga.plain != vi) = false := by simp [hpl]
          have e2 : tg = false := by rw [HM1.out]; simp [hpl]
          subst e2
          clear HM1 HM2 hpl
          go_wp2_with fail
          refine (HWR.out _).mono ?_
          rintro e w7 ⟨rfl, HB7⟩
          go_wp2_with fail
          exact ⟨⟨k + 1, by omega, by go_num, HU2.out _ (below_up HQ.out.2.2 HB7.out)⟩, by simp [intOf]; omega⟩
        · have e1 : (ga.plain != vi) = true := by simp [hpl]
          have e2 : tg = true := by rw [HM1.out]; simp [hpl]
          have e3 : ov = vi := HM2.out e2
          subst e2 e3
          have e4 : (ov != ov) = false := by simp
          clear HM1 HM2 hpl
          go_wp2_with fail
          refine (HWR.out _).mono ?_
          rintro e w7 ⟨rfl, HB7⟩
          go_wp2_with fail
          exact ⟨⟨k + 1, by omega, by go_num, HU2.out _ (below_up HQ.out.2.2 HB7.out)⟩, by simp [intOf]; omega⟩
      · obtain rfl : k = os.length := by omega
        clear HOW HME
        go_wp2_with fail
        go_ret
        exact ⟨rfl, CX.out.low _ (HUP2.out _ hB.out)⟩
  · have dq : ((Rl.relay r l bk p f).err != 0) = true := by simp [he]
    clear he HO
    go_wp2_with fail
    go_ret
    exact ⟨rfl, CX.out.low _ HB2.out⟩
end Go.Proofs.Ytgkmaihleilchaa
