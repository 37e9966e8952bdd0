/- walks: hedgelaw9's at, way, gate, alive; the document's Passes -/
import Derived.Test.YtgkmaihleilchaaYW7
import Derived.Test.YtgkmaihleilchaaGR2b
import Derived.Test.YtgkmaihleilchaaBRa
namespace Go.Proofs.Ytgkmaihleilchaa
open Go.RowKit
open Bk (E at')
open Rl (G gat F O R)

/-- The gate that has that port, or none. -/
def Rl.atG (l : List G) (p : Int) : G := if Rl.idx l p l.length < 0 then Rl.g0 else Rl.inG l p
theorem Rl.atG_at {l : List G} {p : Int} {k : Nat} (h : Rl.idx l p l.length = (k : Int)) : Rl.atG l p = gat l k := by
  unfold Rl.atG Rl.inG
  rw [h, if_neg (by omega), Int.toNat_natCast]
theorem Rl.atG_none {l : List G} {p : Int} (h : Rl.idx l p l.length = -1) : Rl.atG l p = Rl.g0 := by
  unfold Rl.atG
  rw [h, if_pos (by omega)]
theorem gin0 (w : World) : GIn w Rl.g0 := ⟨CRow.none _ _ _ _ _, CRow.none _ _ _ _ _, by decide, by decide⟩
theorem GRow.atG {w : World} {ao : Option Addr} {cap : Nat} {l : List G} (h : GRow w ao cap l) (p : Int) : GIn w (Rl.atG l p) := by
  rcases Rl.idx_cases l p l.length with ⟨h1, _⟩ | ⟨k, hk, h1, _⟩
  · rw [Rl.atG_none h1]; exact gin0 w
  · rw [Rl.atG_at h1]; exact h.at hk
theorem gt_free {w : World} {g : Nat} {a0 a1 a2 a3 : Value} {ty : TypeId} (h : w.heap[g]? = some (.cells #[a0, a1, a2, a3] ty (0, 0))) : w.frozen? ⟨g, 0, none⟩ = false ∧ w.frozen? ⟨g, 1, none⟩ = false ∧ w.frozen? ⟨g, 2, none⟩ = false ∧ w.frozen? ⟨g, 3, none⟩ = false :=
  ⟨frozen_of_row _ _ _ _ _ h, frozen_of_row _ _ _ _ _ h, frozen_of_row _ _ _ _ _ h, frozen_of_row _ _ _ _ _ h⟩
theorem gt_set4 {w : World} {g : Nat} {a0 a1 a2 a3 v0 v1 v2 v3 : Value} {ty : TypeId} (h : w.heap[g]? = some (.cells #[a0, a1, a2, a3] ty (0, 0))) :
    ((((w.setCell ⟨g, 0, none⟩ v0).setCell ⟨g, 1, none⟩ v1).setCell ⟨g, 2, none⟩ v2).setCell ⟨g, 3, none⟩ v3).heap[g]? = some (.cells #[v0, v1, v2, v3] ty (0, 0)) := by
  have h0 : (w.setCell ⟨g, 0, none⟩ v0).heap[g]? = some (.cells #[v0, a1, a2, a3] ty (0, 0)) := by rw [heap_setCell_same _ _ _ _ _ _ h]; rfl
  have h1 : ((w.setCell ⟨g, 0, none⟩ v0).setCell ⟨g, 1, none⟩ v1).heap[g]? = some (.cells #[v0, v1, a2, a3] ty (0, 0)) := by rw [heap_setCell_same _ _ _ _ _ _ h0]; rfl
  have h2 : (((w.setCell ⟨g, 0, none⟩ v0).setCell ⟨g, 1, none⟩ v1).setCell ⟨g, 2, none⟩ v2).heap[g]? = some (.cells #[v0, v1, v2, a3] ty (0, 0)) := by rw [heap_setCell_same _ _ _ _ _ _ h1]; rfl
  rw [heap_setCell_same _ _ _ _ _ _ h2]; rfl
theorem sizeGt : (Try.prog.info? 47).map (·.size) = some 4 := by kernel_rfl
set_option maxHeartbeats 2000000 in
theorem at9_any (ao : Option Addr) (cap : Nat) (l : List G) (p : Int) (w : World) (hr : GRow w ao cap l) :
    Calls Try.prog 16 #[.slice ao l.length cap, .int .i64 p] w fun e w' => e = .returned (.agg #[.int .i64 (Rl.atG l p).port, .slice (Rl.atG l p).wo (Rl.atG l p).ways.length (Rl.atG l p).wcap, .int .i64 (Rl.atG l p).plain, .slice (Rl.atG l p).oo (Rl.atG l p).opens.length (Rl.atG l p).ocap]) ∧ Below w.heap.size w w' := by
  have hn := hr.many
  have HRW : Hid (∀ W, Below w.heap.size w W → GRow W ao cap l) := fun W hW => hr.below hW
  have hcap : l.length ≤ cap := hr.row.1
  clear hr
  obtain ⟨G, HG⟩ : ∃ G, Hid (G = w.heap.size) := ⟨_, rfl⟩
  have HI : Hid (∀ W, W = w.alloc (.cells #[.int .i64 0, .slice none 0 0, .int .i64 0, .slice none 0 0] 47) → Below w.heap.size w W ∧ W.heap[G]? = some (.cells #[.int .i64 0, .slice none 0 0, .int .i64 0, .slice none 0 0] 47 (0, 0))) := by
    intro W hW
    rw [hW, HG.out]
    exact ⟨below_alloc1 _ _, heap_alloc_last _ _⟩
  have hGM : w.heap.size ≤ G := by rw [HG.out]; exact Nat.le_refl _
  go_enter Try.func16, Try.ntmps16
  go_wp2_with fail
  rw [← HG.out]
  go_loopw [9] (fun i wr => ∃ k : Nat, k ≤ l.length ∧ i = .int .i64 k ∧ Hid (Rl.idx l p k = -1) ∧ Hid (Below w.heap.size w wr ∧ wr.heap[G]? = some (.cells #[.int .i64 0, .slice none 0 0, .int .i64 0, .slice none 0 0] 47 (0, 0)))) (fun i _ => l.length - (intOf i).toNat)
  case atStart => exact ⟨0, by omega, rfl, rfl, HI.out _ rfl⟩
  case round =>
    obtain ⟨k, hk, rfl, hS, hX⟩ := hrel
    clear HI
    by_cases hlt : k < l.length
    · obtain ⟨b, off, rfl, _⟩ := (HRW.out wr hX.out.1).place (by omega)
      obtain ⟨c0, c1, c2, c3⟩ := (HRW.out wr hX.out.1).cells hlt
      obtain ⟨X, HX⟩ : ∃ X, Hid (X = wr.alloc (.cells #[.int .i64 (gat l k).port, .slice (gat l k).wo (gat l k).ways.length (gat l k).wcap, .int .i64 (gat l k).plain, .slice (gat l k).oo (gat l k).opens.length (gat l k).ocap] 47)) := ⟨_, rfl⟩
      have hXB : Below wr.heap.size wr X := by rw [HX.out]; exact below_alloc1 _ _
      have hX5 : X.heap[wr.heap.size]? = some (.cells #[.int .i64 (gat l k).port, .slice (gat l k).wo (gat l k).ways.length (gat l k).wcap, .int .i64 (gat l k).plain, .slice (gat l k).oo (gat l k).opens.length (gat l k).ocap] 47 (0, 0)) := by rw [HX.out]; exact heap_alloc_last _ _
      have HFX : Hid (Below w.heap.size w X ∧ X.heap[G]? = some (.cells #[.int .i64 0, .slice none 0 0, .int .i64 0, .slice none 0 0] 47 (0, 0))) := ⟨hX.out.1.trans (hXB.mono hX.out.1.size), keep hX.out.2 hXB⟩
      have HS2 : Hid (Rl.idx l p (k + 1) = if (gat l k).port = p then (k : Int) else -1) := by
        show (if 0 ≤ Rl.idx l p k then Rl.idx l p k else if (gat l k).port = p then (k : Int) else -1) = _
        rw [if_neg (by rw [hS.out]; omega)]
      have HSS : Hid ((gat l k).port = p → Rl.atG l p = gat l k) := fun h => by
        have h1 := HS2.out
        rw [if_pos h] at h1
        exact Rl.atG_at (by rw [Rl.idx_stay l p (k + 1) (by omega) l.length (by omega), h1])
      obtain ⟨d0, d1, d2, d3⟩ := gt_cells hX5
      obtain ⟨r0, r1, r2, r3⟩ := gt_cells HFX.out.2
      obtain ⟨y0, y1, y2, y3⟩ := gt_free HFX.out.2
      clear hX hS hXB hX5 HRW
      go_upto_region 4 with fail
      rw [← HX.out]
      clear c0 c1 c2 c3
      by_cases q : (gat l k).port = p
      · have HS3 : Hid _ := HSS.out q
        have e1 : ((gat l k).port == p) = true := by simp [q]
        clear HSS HS2 q
        generalize gat l k = x at *
        go_wp2_with fail
        exact bodyPost_ret (v := .agg #[.int .i64 x.port, .slice x.wo x.ways.length x.wcap, .int .i64 x.plain, .slice x.oo x.opens.length x.ocap]) (results_row (p := 4) (ty := 47) Try.results16 _ _ G 47 #[.int .i64 x.port, .slice x.wo x.ways.length x.wcap, .int .i64 x.plain, .slice x.oo x.opens.length x.ocap] (0, 0) _ rfl (gt_set4 HFX.out.2) Try.underlying47 rfl (by rw [sizeGt]; rfl)) rfl ⟨by rw [HS3.out], (((HFX.out.1.setCell hGM _).setCell hGM _).setCell hGM _).setCell hGM _⟩
      · have HS3 : Hid (Rl.idx l p (k + 1) = -1) := by rw [HS2.out, if_neg q]; rfl
        have e1 : ((gat l k).port == p) = false := by simpa using q
        clear HSS HS2 q
        generalize gat l k = x at *
        go_wp2_with fail
        exact ⟨⟨k + 1, by omega, by go_num, HS3, HFX⟩, by simp [intOf]; omega⟩
    · obtain rfl : k = l.length := by omega
      have HS3 : Hid (Rl.atG l p = Rl.g0) := Rl.atG_none hS.out
      obtain ⟨r0, r1, r2, r3⟩ := gt_cells hX.out.2
      obtain ⟨y0, y1, y2, y3⟩ := gt_free hX.out.2
      clear HRW
      go_wp2_with fail
      exact bodyPost_ret (v := .agg #[.int .i64 0, .slice none 0 0, .int .i64 0, .slice none 0 0]) (results_row (p := 4) (ty := 47) Try.results16 _ _ G 47 #[.int .i64 0, .slice none 0 0, .int .i64 0, .slice none 0 0] (0, 0) _ rfl (gt_set4 hX.out.2) Try.underlying47 rfl (by rw [sizeGt]; rfl)) rfl ⟨by rw [HS3.out]; rfl, (((hX.out.1.setCell hGM _).setCell hGM _).setCell hGM _).setCell hGM _⟩
set_option maxHeartbeats 1000000 in
theorem way9_any (f : Rl.F) (g : G) (w : World) : Calls Try.prog 17 #[.agg #[.int .i64 g.port, .slice g.wo g.ways.length g.wcap, .int .i64 g.plain, .slice g.oo g.opens.length g.ocap], .agg #[.int .u64 f.dst, .int .u64 f.src, .bool f.tagged, .int .i64 f.prio, .bool f.drop, .int .i64 f.vid, .int .i64 f.type, .slice f.ao f.n f.cap]] w fun e w' => e = .returned (.int .i64 (Rl.wayOf f g)) ∧ Below w.heap.size w w' := by
  unfold Rl.wayOf
  have HB : Hid (∀ o1 o2, Below w.heap.size w ((w.alloc o1).alloc o2)) := fun o1 o2 => below_alloc2 w o1 o2
  by_cases h1 : f.tagged = true
  · by_cases h2 : f.vid = 0
    · have e2 : (f.vid != 0) = false := by simp [h2]
      rw [if_neg (fun h => h.2 h2)]
      clear h2
      go_enter Try.func17, Try.ntmps17
      rw [h1]
      go_wp2
      go_ret
      exact ⟨rfl, HB.out _ _⟩
    · have e2 : (f.vid != 0) = true := by simp [h2]
      rw [if_pos ⟨h1, h2⟩]
      clear h2
      go_enter Try.func17, Try.ntmps17
      rw [h1]
      go_wp2
      go_ret
      exact ⟨rfl, HB.out _ _⟩
  · rw [if_neg (fun h => h1 h.1)]
    have e1 : f.tagged = false := by simpa using h1
    clear h1
    go_enter Try.func17, Try.ntmps17
    rw [e1]
    go_wp2
    go_ret
    exact ⟨rfl, HB.out _ _⟩
set_option maxHeartbeats 2000000 in
theorem passes8_any (g : G) (r : R) (vid : Int) (w : World) (hg : GIn w g) (hR : Rg.Right r.vs r.ts r.n) (hr : WayRow w r.ao r.n r.cap r.vs r.ts) :
    Calls Try.prog 18 #[.agg #[.int .i64 g.port, .slice g.wo g.ways.length g.wcap, .int .i64 g.plain, .slice g.oo g.opens.length g.ocap], .agg #[.string r.name, .int .i64 r.rev, .slice r.ao r.n r.cap], .int .i64 vid] w fun e w' => e = .returned (.bool (Rl.passes g (r.tree vid) vid)) ∧ Below w.heap.size w w' := by
  obtain ⟨t, ht⟩ : ∃ t, t = r.tree vid := ⟨_, rfl⟩
  have ht0 : 0 ≤ t := by rw [ht]; exact (Rg.tree_range hR vid r.n (Nat.le_refl _)).1
  obtain ⟨k, rfl⟩ := Int.eq_ofNat_of_zero_le ht0
  obtain ⟨W0, HW0⟩ : ∃ W0, Hid (W0 = (w.alloc (.cells #[.int .i64 g.port, .slice g.wo g.ways.length g.wcap, .int .i64 g.plain, .slice g.oo g.opens.length g.ocap] 47)).alloc (.cells #[.string r.name, .int .i64 r.rev, .slice r.ao r.n r.cap] 24)) := ⟨_, rfl⟩
  have hb0 : Below w.heap.size w W0 := by rw [HW0.out]; exact below_alloc2 _ _ _
  have hg0 : W0.heap[w.heap.size]? = some (.cells #[.int .i64 g.port, .slice g.wo g.ways.length g.wcap, .int .i64 g.plain, .slice g.oo g.opens.length g.ocap] 47 (0, 0)) := by rw [HW0.out]; exact heap_alloc2_old _ _ _
  have HT : Hid (Calls Try.prog 45 #[.agg #[.string r.name, .int .i64 r.rev, .slice r.ao r.n r.cap], .int .i64 vid] W0 fun e w' => e = .returned (.int .i64 (k : Int)) ∧ Hid (Below W0.heap.size W0 w')) := by
    rw [ht]
    exact (rtree_any r.name r.rev r.ao r.n r.cap r.vs r.ts vid W0 hR (hr.below hb0)).mono (fun e w' h => ⟨h.1, h.2⟩)
  have HC : Hid (∀ W, Below W0.heap.size W0 W → Calls Try.prog 46 #[.slice g.wo g.ways.length g.wcap, .int .i64 vid] W fun e w' => e = .returned (.bool (g.ways.contains vid)) ∧ w' = W) := fun W hW => rin_any g.wo g.wcap g.ways vid W hg.wn ((hg.ways.below hb0).below hW)
  have HL : Hid (∀ W, Below W0.heap.size W0 W → Below w.heap.size w W) := fun W hW => below_up hb0 hW
  have HK : Hid (∀ W, Below W0.heap.size W0 W → W.cell? ⟨w.heap.size, 0, none⟩ = some (.int .i64 g.port) ∧ W.cell? ⟨w.heap.size, 1, none⟩ = some (.slice g.wo g.ways.length g.wcap) ∧ W.cell? ⟨w.heap.size, 2, none⟩ = some (.int .i64 g.plain) ∧ W.cell? ⟨w.heap.size, 3, none⟩ = some (.slice g.oo g.opens.length g.ocap)) := fun W hW => gt_cells (keep hg0 hW)
  have HO : Hid (∀ W, Below W0.heap.size W0 W → BLs W g.oo g.ocap g.opens) := fun W hW => (hg.opens.below hb0).below hW
  have HP : Hid (Rl.passes g (r.tree vid) vid = (g.ways.contains vid && (decide ((k : Int) < g.opens.length) && g.opens.getD k false))) := by
    show Rl.passes g (r.tree vid) vid = _
    rw [← ht]
    unfold Rl.passes
    rw [Int.toNat_natCast]
    congr 2
    exact decide_eq_decide.2 ⟨fun h => by omega, fun h => by omega⟩
  have hon := hg.on
  have hoc : g.opens.length ≤ g.ocap := hg.opens.1
  clear hg hR hr hb0 hg0 ht ht0
  go_enter Try.func18, Try.ntmps18
  go_wp2_with fail
  rw [← HW0.out]
  refine HT.out.mono ?_
  rintro e w1 ⟨rfl, HB1⟩
  obtain ⟨d0, d1, d2, d3⟩ := HK.out w1 HB1.out
  cases hc : g.ways.contains vid with
  | false =>
    rw [hc] at HC HP
    have HP2 : Hid (Rl.passes g (r.tree vid) vid = false) := HP.out
    clear HP hc HO
    go_wp2_with (go_at_call 46; refine (HC.out _ HB1.out).mono ?_; rintro e w2 ⟨rfl, rfl⟩)
    go_ret
    exact ⟨by rw [HP2.out]; rfl, HL.out _ HB1.out⟩
  | true =>
    rw [hc, Bool.true_and] at HP
    rw [hc] at HC
    clear hc
    by_cases hd : (k : Int) < g.opens.length
    · have e1 : decide ((k : Int) < (g.opens.length : Int)) = true := decide_eq_true hd
      rw [e1, Bool.true_and] at HP
      have hk : k < g.opens.length := by omega
      obtain ⟨b, off, hoo, hb⟩ := (HO.out w1 HB1.out).place (by omega)
      have hcl : w1.cell? ⟨b, off + k, none⟩ = some (.bool (g.opens.getD k false)) := BLs.cell (cap := g.ocap) (by rw [← hoo]; exact HO.out w1 HB1.out) hk
      have ik : (0 : Int) ≤ (k : Int) := by omega
      rw [hoo] at d3
      clear HO
      generalize g.opens.getD k false = bo at *
      generalize hon' : g.opens.length = on at *
      clear hon'
      go_wp2_with (go_at_call 46; refine (HC.out _ HB1.out).mono ?_; rintro e w2 ⟨rfl, rfl⟩)
      go_ret
      exact ⟨by rw [HP.out]; rfl, HL.out _ HB1.out⟩
    · have e1 : decide ((k : Int) < (g.opens.length : Int)) = false := decide_eq_false hd
      rw [e1, Bool.false_and] at HP
      clear HO
      go_wp2_with (go_at_call 46; refine (HC.out _ HB1.out).mono ?_; rintro e w2 ⟨rfl, rfl⟩)
      go_ret
      exact ⟨by rw [HP.out]; rfl, HL.out _ HB1.out⟩
end Go.Proofs.Ytgkmaihleilchaa
