/- walks: hedgelaw4.HelloMore -/
import Derived.Test.YtmjgmngdahhbkaaLW7
import Derived.Test.YtmjgmngdahhbkaaLFr
import Derived.Test.YtmjgmngdahhbkaaLAp
namespace Go.Proofs.Ytmjgmngdahhbkaa
open Go.RowKit
open Hl (Tl)

/-- What two appends leave: n tales and one more, in a row of the call's own. -/
structure AppW (V y : World) (n : Nat) (us : Nat → Tl) (a : Option Addr) (c : Nat) : Prop where
  row : TaleRow y a (n + 1) c us
  low : Below V.heap.size V y
  new : ∀ ad, a = some ad → V.heap.size ≤ ad.block
/-- The two appends, the tale's block made behind the first. -/
theorem app1 (V : World) (ao : Option Addr) (n cap : Nat) (ts : Nat → Tl) (t : Tl) (hr : TaleRow V ao n cap ts) (hnil : NilOk ao n cap) (hb : (n + 1) * 48 ≤ 140737488355328) :
    ∃ a1 c1 x a2 c2 y, (Builtin.append_ #[23, 23] 23 #[.slice (some ⟨V.heap.size, 0, none⟩) 0 0, .slice ao n cap]).run Try.prog (V.alloc (.cells #[] 39)).drew = .ok (.slice a1 n c1) x ∧
      (Builtin.append_ #[23, 23] 23 #[.slice a1 n c1, .slice (some ⟨x.heap.size, 0, none⟩) 1 1]).run Try.prog (x.alloc (.cells (tlA t) 39)) = .ok (.slice a2 (n + 1) c2) y ∧
      Below V.heap.size V x ∧ AppW V y n (catT n ts (fun _ => t)) a2 c2 := by
  obtain ⟨a1, c1, x, h1, h2, h3⟩ := append_tales (V.alloc (.cells #[] 39)).drew V.heap.size _ 0 ts (ownsT_empty ts (drew_row (heap_alloc_last V _)) (Nat.le_refl _)) ao n cap ts (hr.below (below_alloc1 V _).drew) hnil (by omega) (by simp)
  have hx : Below V.heap.size V x := (below_alloc1 V _).drew.trans h3
  rw [Nat.zero_add] at h1 h2
  obtain ⟨a2, c2, y, k1, k2, k3⟩ := append_tales (x.alloc (.cells (tlA t) 39)) V.heap.size _ n _ (ownsT_below h2 (below_alloc1 x _)) (some ⟨x.heap.size, 0, none⟩) 1 1 (fun _ => t) (one_tale (heap_alloc_last x _)) (fun e => by cases e) (by omega) (by have := hx.size; simp; omega)
  obtain ⟨a2', c2', e, k4, _, k6⟩ := owns_tales k2
  cases e
  exact ⟨a1, c1, x, a2, c2, y, h1, k1, hx, k4.congr (fun i _ => by unfold catT; by_cases e : i < n; simp [e]; simp [e]), (hx.alloc hx.size _).trans k3, k6⟩
/-- .. ahead of the first, behind the empty row. -/
theorem app2 (V : World) (ao : Option Addr) (n cap : Nat) (ts : Nat → Tl) (t : Tl) (hr : TaleRow V ao n cap ts) (hnil : NilOk ao n cap) (hb : (n + 1) * 48 ≤ 140737488355328) :
    ∃ a1 c1 x a2 c2 y, (Builtin.append_ #[23, 23] 23 #[.slice (some ⟨V.heap.size, 0, none⟩) 0 0, .slice ao n cap]).run Try.prog ((V.alloc (.cells #[] 39)).alloc (.cells (tlA t) 39)).drew = .ok (.slice a1 n c1) x ∧
      (Builtin.append_ #[23, 23] 23 #[.slice a1 n c1, .slice (some ⟨V.heap.size + 1, 0, none⟩) 1 1]).run Try.prog x = .ok (.slice a2 (n + 1) c2) y ∧
      Below V.heap.size V x ∧ AppW V y n (catT n ts (fun _ => t)) a2 c2 := by
  obtain ⟨a1, c1, x, h1, h2, h3, h5⟩ := append_tales_at ((V.alloc (.cells #[] 39)).alloc (.cells (tlA t) 39)).drew V.heap.size _ 0 ts (ownsT_empty ts (drew_row (heap_alloc2_old V _ _)) (Nat.le_refl _)) ao n cap ts (hr.below (below_alloc2 V _ _).drew) hnil (by omega) (by simp; omega)
  have hx : Below V.heap.size V x := (below_alloc2 V _ _).drew.trans h3
  have ht : x.heap[V.heap.size + 1]? = some (.cells (tlA t) 39 (0, 0)) := (h5 _ (by simp) (by simp [Value.ownBlock])).trans (drew_row (heap_alloc2_new V _ _))
  rw [Nat.zero_add] at h1 h2
  obtain ⟨a2, c2, y, k1, k2, k3⟩ := append_tales x V.heap.size _ n _ h2 (some ⟨V.heap.size + 1, 0, none⟩) 1 1 (fun _ => t) (one_tale ht) (fun e => by cases e) (by omega) hx.size
  obtain ⟨a2', c2', e, k4, _, k6⟩ := owns_tales k2
  cases e
  exact ⟨a1, c1, x, a2, c2, y, h1, k1, hx, k4.congr (fun i _ => by unfold catT; by_cases e : i < n; simp [e]; simp [e]), hx.trans k3, k6⟩
/-- .. ahead of both. -/
theorem app3 (V : World) (ao : Option Addr) (n cap : Nat) (ts : Nat → Tl) (t : Tl) (hr : TaleRow V ao n cap ts) (hnil : NilOk ao n cap) (hb : (n + 1) * 48 ≤ 140737488355328) :
    ∃ a1 c1 x a2 c2 y, (Builtin.append_ #[23, 23] 23 #[.slice (some ⟨V.heap.size + 1, 0, none⟩) 0 0, .slice ao n cap]).run Try.prog ((V.alloc (.cells (tlA t) 39)).alloc (.cells #[] 39)).drew = .ok (.slice a1 n c1) x ∧
      (Builtin.append_ #[23, 23] 23 #[.slice a1 n c1, .slice (some ⟨V.heap.size, 0, none⟩) 1 1]).run Try.prog x = .ok (.slice a2 (n + 1) c2) y ∧
      Below V.heap.size V x ∧ AppW V y n (catT n ts (fun _ => t)) a2 c2 := by
  obtain ⟨a1, c1, x, h1, h2, h3, h5⟩ := append_tales_at ((V.alloc (.cells (tlA t) 39)).alloc (.cells #[] 39)).drew V.heap.size _ 0 ts (ownsT_empty ts (drew_row (heap_alloc2_new V _ _)) (by omega)) ao n cap ts (hr.below (below_alloc2 V _ _).drew) hnil (by omega) (by simp; omega)
  have hx : Below V.heap.size V x := (below_alloc2 V _ _).drew.trans h3
  have ht : x.heap[V.heap.size]? = some (.cells (tlA t) 39 (0, 0)) := (h5 _ (by simp; omega) (by simp [Value.ownBlock])).trans (drew_row (heap_alloc2_old V _ _))
  rw [Nat.zero_add] at h1 h2
  obtain ⟨a2, c2, y, k1, k2, k3⟩ := append_tales x V.heap.size _ n _ h2 (some ⟨V.heap.size, 0, none⟩) 1 1 (fun _ => t) (one_tale ht) (fun e => by cases e) (by omega) hx.size
  obtain ⟨a2', c2', e, k4, _, k6⟩ := owns_tales k2
  cases e
  exact ⟨a1, c1, x, a2, c2, y, h1, k1, hx, k4.congr (fun i _ => by unfold catT; by_cases e : i < n; simp [e]; simp [e]), hx.trans k3, k6⟩
/-- 'append' in a region that draws its order, by its run. -/
theorem step_append_run {w w' : World} {ops : Array Oper} {o : Oper} {a : Act} {K : Act → World → Prop} {Q : Exit → Act → World → Prop} {E : Prop} (hgd : o.guard = none) (s x : Operand) (t : TypeId)
    (ho : o.op = .call { callee := .builtin .append, args := #[s, x], argTypes := #[t, t] }) (v vx v' : Value) (hs : a.eval s = v) (hx : a.eval x = vx) (hr : (Builtin.append_ #[t, t] o.type #[v, vx]).run Try.prog w = .ok v' w')
    (h : K (a.put o.dst v') w') : if Region.wanted o (yielded ops a.tmps) = true then Oper.wp Try.prog o a w K Q else E := by
  have hw : Region.wanted o (yielded ops a.tmps) = true := by simp [Region.wanted, hgd]
  rw [if_pos hw]
  unfold Oper.wp execOp
  simp only [ho, resolve, invoke, builtin, Sem.run_bind, Sem.run_pure, Result.andThen_ok, List.map_toArray, List.map_cons, List.map_nil, hs, hx, hr]
  exact h
/-- Behind the appends: the two hellos. -/
structure MoreW (w wx : World) (gb : Nat) (da : Option Addr) (dn dc : Nat) (ao : Option Addr) (n cap : Nat) (us : Nat → Tl) (a2 : Option Addr) (c2 : Nat) : Prop where
  hel : wx.heap[w.heap.size]? = some (.cells #[.slice da dn dc, .slice ao n cap] 25 (0, 0))
  more : wx.heap[gb]? = some (.cells #[.slice da dn dc, .slice a2 (n + 1) c2] 25 (0, 0))
  row : TaleRow wx a2 (n + 1) c2 us
  low : Below w.heap.size w wx
set_option maxHeartbeats 1000000 in
theorem lmore_any (r : HlIn) (t : Tl) (w : World) (hr : r.at' w) (hwt : t.wide) (hb48 : (r.n + 1) * 48 ≤ 140737488355328) :
    Calls Try.prog 5 #[.agg #[.slice r.da r.dn r.dc, .slice r.ao r.n r.cap], .agg #[.int .i64 t.tree, .int .u64 t.root, .int .i64 t.cost, .int .u64 t.bridge, .int .i64 t.port, .int .i64 t.age]] w fun e w' => e = .returned (.bool true) ∧ Below w.heap.size w w' := by
  obtain ⟨da, dn, dc, dg, ao, n, cap, ts⟩ := r
  obtain ⟨hd, hdr, hdn, ht, hwd, htn, hmany⟩ := hr
  simp only at hd hdr hdn ht hwd htn hmany hb48 ⊢
  have HD : Hid (ByteRow w da dn dc dg) := hd
  have HT : Hid (TaleRow w ao n cap ts) := ht
  have HTN : Hid (NilOk ao n cap) := htn
  go_enter Try.func5, Try.ntmps5
  go_wp2_with fail
  refine (lalive_any _).mono ?_
  rintro e w1 ⟨rfl, hb1⟩
  have HB1 : Hid (Below w.heap.size w w1) := (below_alloc2 w _ _).trans (hb1.mono (by simp; omega))
  have HA1 : Hid (w1.heap[w.heap.size]? = some (.cells #[.slice da dn dc, .slice ao n cap] 25 (0, 0))) := keep (heap_alloc2_old w _ _) hb1
  have HA2 : Hid (w1.heap[w.heap.size + 1]? = some (.cells (tlA t) 39 (0, 0))) := keep (heap_alloc2_new w _ _) hb1
  clear hb1
  obtain ⟨k0, k1⟩ := hl_cells HA1.out
  go_wp2_with fail
  obtain ⟨V, HV⟩ : ∃ V, Hid (V = w1.alloc (.cells #[.slice da dn dc, .slice ao n cap] 25)) := ⟨_, rfl⟩
  rw [← HV.out]
  have HVB : Hid (Below w.heap.size w V) := by rw [HV.out]; exact HB1.out.alloc HB1.out.size _
  have HVh : Hid (V.heap[w.heap.size]? = some (.cells #[.slice da dn dc, .slice ao n cap] 25 (0, 0))) := by rw [HV.out]; exact keep HA1.out (below_alloc1 w1 _)
  have HVt : Hid (V.heap[w.heap.size + 1]? = some (.cells (tlA t) 39 (0, 0))) := by rw [HV.out]; exact keep HA2.out (below_alloc1 w1 _)
  have HVg : Hid (V.heap[w1.heap.size]? = some (.cells #[.slice da dn dc, .slice ao n cap] 25 (0, 0))) := by rw [HV.out]; exact heap_alloc_last w1 _
  have hGw : w.heap.size < w1.heap.size := (Array.getElem?_eq_some_iff.1 HA1.out).1
  have hGw2 : w.heap.size + 1 < w1.heap.size := (Array.getElem?_eq_some_iff.1 HA2.out).1
  have hGV : w1.heap.size < V.heap.size := (Array.getElem?_eq_some_iff.1 HVg.out).1
  clear HV HA1 HA2 HB1 k0 k1
  generalize w1.heap.size = G at *
  go_cut [20] (fun _ wx => ∃ a2 c2, Hid (MoreW w wx G da dn dc ao n cap (catT n ts (fun _ => t)) a2 c2))
  case first =>
    obtain ⟨p1, q1, x1, p2, q2, y1, r1, r2, hx1, hy1⟩ := app1 V ao n cap ts t (HT.out.below HVB.out) HTN.out hb48
    obtain ⟨p3, q3, x3, p4, q4, y3, r3, r4, hx3, hy3⟩ := app2 V ao n cap ts t (HT.out.below HVB.out) HTN.out hb48
    obtain ⟨p5, q5, x5, p6, q6, y5, r5, r6, hx5, hy5⟩ := app3 V ao n cap ts t (HT.out.below HVB.out) HTN.out hb48
    have HX1 : Hid (Below V.heap.size V x1) := hx1
    have HX3 : Hid (Below V.heap.size V x3) := hx3
    have HX5 : Hid (Below V.heap.size V x5) := hx5
    have HX7 : Hid (∀ o, Below V.heap.size V (x1.alloc o)) := fun o => hx1.alloc hx1.size o
    have HY1 : Hid (AppW V y1 n (catT n ts (fun _ => t)) p2 q2) := hy1
    have HY3 : Hid (AppW V y3 n (catT n ts (fun _ => t)) p4 q4) := hy3
    have HY5 : Hid (AppW V y5 n (catT n ts (fun _ => t)) p6 q6) := hy5
    have HS : Hid (∀ W, Below V.heap.size V W → W.cell? ⟨w.heap.size, 1, none⟩ = some (.slice ao n cap) ∧ W.cell? ⟨w.heap.size + 1, 0, none⟩ = some (.int .i64 t.tree) ∧ W.cell? ⟨w.heap.size + 1, 1, none⟩ = some (.int .u64 t.root) ∧ W.cell? ⟨w.heap.size + 1, 2, none⟩ = some (.int .i64 t.cost) ∧ W.cell? ⟨w.heap.size + 1, 3, none⟩ = some (.int .u64 t.bridge) ∧ W.cell? ⟨w.heap.size + 1, 4, none⟩ = some (.int .i64 t.port) ∧ W.cell? ⟨w.heap.size + 1, 5, none⟩ = some (.int .i64 t.age)) := fun W hW => ⟨(hl_cells (keep HVh.out hW)).2, tl_cells (keep HVt.out hW)⟩
    have HGC : Hid (∀ W, Below V.heap.size V W → W.cell? ⟨G, 1, none⟩ = some (.slice ao n cap) ∧ W.frozen? ⟨G, 1, none⟩ = false) := fun W hW => ⟨(hl_cells (keep HVg.out hW)).2, (hl_free (keep HVg.out hW)).2⟩
    have HZ : Hid (∀ W v, Below V.heap.size V W → (W.setCell ⟨G, 1, none⟩ v).cell? ⟨w.heap.size, 1, none⟩ = some (.slice ao n cap) ∧ (W.setCell ⟨G, 1, none⟩ v).cell? ⟨w.heap.size + 1, 0, none⟩ = some (.int .i64 t.tree) ∧ (W.setCell ⟨G, 1, none⟩ v).cell? ⟨w.heap.size + 1, 1, none⟩ = some (.int .u64 t.root) ∧ (W.setCell ⟨G, 1, none⟩ v).cell? ⟨w.heap.size + 1, 2, none⟩ = some (.int .i64 t.cost) ∧ (W.setCell ⟨G, 1, none⟩ v).cell? ⟨w.heap.size + 1, 3, none⟩ = some (.int .u64 t.bridge) ∧ (W.setCell ⟨G, 1, none⟩ v).cell? ⟨w.heap.size + 1, 4, none⟩ = some (.int .i64 t.port) ∧ (W.setCell ⟨G, 1, none⟩ v).cell? ⟨w.heap.size + 1, 5, none⟩ = some (.int .i64 t.age)) := fun W v hW => by
      have hh := keep HVh.out hW
      have hk := keep HVt.out hW
      exact ⟨(hl_cells ((heap_setCell_other _ _ _ _ (by show w.heap.size ≠ G; omega)).trans hh)).2, tl_cells ((heap_setCell_other _ _ _ _ (by show w.heap.size + 1 ≠ G; omega)).trans hk)⟩
    obtain ⟨g1, g2⟩ := HGC.out y1 hy1.low
    obtain ⟨g3, g4⟩ := HGC.out y3 hy3.low
    obtain ⟨g5, g6⟩ := HGC.out y5 hy5.low
    obtain ⟨s1, s2, s3, s4, s5, s6, s7⟩ := HS.out V (Below.refl _ _)
    have HFIN : Hid (∀ W a c, AppW V W n (catT n ts (fun _ => t)) a c → MoreW w (W.setCell ⟨G, 1, none⟩ (.slice a (n + 1) c)) G da dn dc ao n cap (catT n ts (fun _ => t)) a c) := fun W a c h => by
      refine ⟨(heap_setCell_other _ _ _ _ (by show w.heap.size ≠ G; omega)).trans (keep HVh.out h.low), ?_, h.row.other (fun b off e hlt => heap_setCell_other _ _ _ _ (by have := h.new _ e; show b ≠ G; simp only at this; omega)) (by simp [World.setCell]), (HVB.out.trans (h.low.mono HVB.out.size)).setCell (by show w.heap.size ≤ G; omega) _⟩
      rw [heap_setCell_same _ _ _ _ _ _ (keep HVg.out h.low)]; rfl
    clear hx1 hx3 hx5 hy1 hy3 hy5 HGC
    unfold tlA at r2 r3 r5
    go_region_held3 (fun W => W.cell? ⟨w.heap.size, 1, none⟩ = some (.slice ao n cap) ∧ W.cell? ⟨w.heap.size + 1, 0, none⟩ = some (.int .i64 t.tree) ∧ W.cell? ⟨w.heap.size + 1, 1, none⟩ = some (.int .u64 t.root) ∧ W.cell? ⟨w.heap.size + 1, 2, none⟩ = some (.int .i64 t.cost) ∧ W.cell? ⟨w.heap.size + 1, 3, none⟩ = some (.int .u64 t.bridge) ∧ W.cell? ⟨w.heap.size + 1, 4, none⟩ = some (.int .i64 t.port) ∧ W.cell? ⟨w.heap.size + 1, 5, none⟩ = some (.int .i64 t.age))
      (first | (with_reducible exact HS.out _ HX1.out) | (with_reducible exact HS.out _ HX3.out) | (with_reducible exact HS.out _ HX5.out) | (with_reducible exact HS.out _ (HX7.out _)) | (with_reducible exact HS.out _ HY1.out.low) | (with_reducible exact HS.out _ HY3.out.low) | (with_reducible exact HS.out _ HY5.out.low) | (with_reducible exact HZ.out _ _ HY1.out.low) | (with_reducible exact HZ.out _ _ HY3.out.low) | (with_reducible exact HZ.out _ _ HY5.out.low) | go_keep)
      (first | ((with_reducible refine step_append_run ?_ (.tmp 13) (.tmp 15) 23 ?_ _ _ _ ?_ ?_ r1 ?_); rfl; rfl; rfl; rfl) | ((with_reducible refine step_append_run ?_ (.tmp 13) (.tmp 15) 23 ?_ _ _ _ ?_ ?_ r3 ?_); rfl; rfl; rfl; rfl) | ((with_reducible refine step_append_run ?_ (.tmp 13) (.tmp 15) 23 ?_ _ _ _ ?_ ?_ r5 ?_); rfl; rfl; rfl; rfl) | ((with_reducible refine step_append_run ?_ (.tmp 16) (.tmp 18) 23 ?_ _ _ _ ?_ ?_ r2 ?_); rfl; rfl; rfl; rfl) | ((with_reducible refine step_append_run ?_ (.tmp 16) (.tmp 18) 23 ?_ _ _ _ ?_ ?_ r4 ?_); rfl; rfl; rfl; rfl) | ((with_reducible refine step_append_run ?_ (.tmp 16) (.tmp 18) 23 ?_ _ _ _ ?_ ?_ r6 ?_); rfl; rfl; rfl; rfl))
    all_goals go_wp2_with fail
    all_goals go_meet
    · exact ⟨_, _, HFIN.out _ _ _ HY1.out⟩
    · exact ⟨_, _, HFIN.out _ _ _ HY3.out⟩
    · exact ⟨_, _, HFIN.out _ _ _ HY5.out⟩
  case rest =>
  obtain ⟨a2, c2, H0⟩ := hcut
  clear HVB HVh HVt HVg hGw2 hGV HTN
  obtain ⟨k0, k1⟩ := hl_cells H0.out.hel
  have HUW : Hid (∀ i, i < n + 1 → (catT n ts (fun _ => t) i).wide) := fun i _ => by
    unfold catT
    by_cases e : i < n
    · rw [if_pos e]; exact hwd i e
    · rw [if_neg e]; exact hwt
  have HUE : Hid (∀ i, i < n → catT n ts (fun _ => t) i = ts i) := fun i hi => if_pos hi
  have hn1 : n + 1 ≤ 9223372036854775807 := by omega
  generalize catT n ts (fun _ => t) = us at *
  by_cases hw : Hl.wrong dn ts n = 0
  · obtain ⟨rfl, hw0, hR⟩ := Hl.wrong_zero hw
    have hn16 : n ≤ 16 := hR.many
    go_wp2_with fail
    refine (lbytes_right da 16 dc dg ao n cap ts _ (HD.out.below H0.out.low) (HT.out.below H0.out.low) hw).mono ?_
    rintro e w2 ⟨g1, rfl, hg1, _, hb2⟩
    have HB2 : Hid (Below w.heap.size w w2) := H0.out.low.trans (hb2.mono H0.out.low.size)
    have HG1 : Hid (w2.heap[g1]? = some (.cells (rowF (17 + n * 23) (Hl.byt dg n ts)) 5 (0, 0))) := hg1
    have HM2 : Hid (w2.heap[G]? = some (.cells #[.slice da 16 dc, .slice a2 (n + 1) c2] 25 (0, 0))) := keep H0.out.more hb2
    have HR2 : Hid (TaleRow w2 a2 (n + 1) c2 us) := H0.out.row.below hb2
    clear hg1 hb2 H0 k0 k1
    obtain ⟨m0, m1⟩ := hl_cells HM2.out
    by_cases hv : Hl.wrong 16 us (n + 1) = 0
    · go_wp2_with fail
      refine (lbytes_right da 16 dc dg a2 (n + 1) c2 us _ (HD.out.below HB2.out) HR2.out hv).mono ?_
      rintro e w3 ⟨g2, rfl, hg2, _, hb3⟩
      have HB3 : Hid (Below w.heap.size w w3) := HB2.out.trans (hb3.mono HB2.out.size)
      have HG2 : Hid (w3.heap[g1]? = some (.cells (rowF (17 + n * 23) (Hl.byt dg n ts)) 5 (0, 0))) := keep HG1.out hb3
      have HG3 : Hid (w3.heap[g2]? = some (.cells (rowF (17 + (n + 1) * 23) (Hl.byt dg (n + 1) us)) 5 (0, 0))) := hg2
      clear hg2 hb3 HG1 HM2 HR2 m0 m1 HB2
      have e16 : ∀ i, i < 16 → Hl.byt dg n ts i = Hl.byt dg (n + 1) us i := fun i hi => by rw [byt_dig dg n ts i hi, byt_dig dg (n + 1) us i hi]
      have e17 : ∀ i, i < n * 23 → Hl.byt dg n ts (17 + i) = Hl.byt dg (n + 1) us (17 + i) := fun i hi => by
        have h1 := Hl.byt_tale dg n ts (i / 23) (i % 23) (Nat.mod_lt _ (by omega))
        have h2 := Hl.byt_tale dg (n + 1) us (i / 23) (i % 23) (Nat.mod_lt _ (by omega))
        rw [show 17 + i / 23 * 23 + i % 23 = 17 + i by omega] at h1 h2
        rw [h1, h2, HUE.out (i / 23) (by omega)]
      have R1 : ByteRow w3 (some ⟨g1, 0, none⟩) (17 + n * 23) (17 + n * 23) (Hl.byt dg n ts) := (ByteRow.of_row (off := 0) HG2.out (by omega) (Nat.le_refl _)).congr (fun i _ => by rw [Nat.zero_add])
      have R2 : ByteRow w3 (some ⟨g2, 0, none⟩) (17 + (n + 1) * 23) (17 + (n + 1) * 23) (Hl.byt dg (n + 1) us) := (ByteRow.of_row (off := 0) HG3.out (by omega) (Nat.le_refl _)).congr (fun i _ => by rw [Nat.zero_add])
      have c1 : w3.cell? ⟨g1, 16, none⟩ = some (.int .u8 (n : Int)) := (cell_of_row w3 _ 16 _ _ _ HG2.out).trans ((rowF_get _ _ _ (by omega)).trans (by rw [byt16]))
      have c2 : w3.cell? ⟨g2, 16, none⟩ = some (.int .u8 ((n : Int) + 1)) := (cell_of_row w3 _ 16 _ _ _ HG3.out).trans ((rowF_get _ _ _ (by omega)).trans (by rw [byt16]; rfl))
      have hu : IntKind.u8.wrap ((n : Int) + 1) = (n : Int) + 1 := by simp [IntKind.wrap, IntKind.bits, IntKind.signed]; omega
      obtain ⟨S, hS⟩ : ∃ S, S = strOf 16 (Hl.byt dg n ts) := ⟨_, rfl⟩
      obtain ⟨T, hT⟩ : ∃ T, T = strOf (n * 23) (fun i => Hl.byt dg n ts (17 + i)) := ⟨_, rfl⟩
      have qs1 : ∀ k, (convert 22 9 (.slice (some ⟨g1, 0, none⟩) 16 (17 + n * 23))).run Try.prog (w3.drewN k) = .ok (.string S) (w3.drewN k) := fun k => by rw [hS]; exact run_str (w3.drewN k) _ 16 _ _ (R1.prefix (by omega)) (fun e => by cases e)
      have qs2 : ∀ k, (convert 22 9 (.slice (some ⟨g2, 0, none⟩) 16 (17 + (n + 1) * 23))).run Try.prog (w3.drewN k) = .ok (.string S) (w3.drewN k) := fun k => by rw [hS, strOf_congr 16 _ _ e16]; exact run_str (w3.drewN k) _ 16 _ _ (R2.prefix (by omega)) (fun e => by cases e)
      have qs4 : ∀ k, (convert 22 9 (.slice (some ⟨g2, 17, none⟩) (17 + n * 23 - 17) (17 + (n + 1) * 23 - 17))).run Try.prog (w3.drewN k) = .ok (.string T) (w3.drewN k) := fun k => by
        rw [hT, strOf_congr (n * 23) _ (fun i => Hl.byt dg (n + 1) us (17 + i)) e17, show 17 + n * 23 - 17 = n * 23 by omega]
        have := (R2.behind 17 (by omega)).prefix (m := n * 23) (by omega)
        rw [Nat.zero_add] at this
        exact run_str (w3.drewN k) _ _ _ _ this (fun e => by cases e)
      by_cases h0 : n = 0
      · subst h0
        have qs3 : ∀ k, (convert 22 9 (.slice (some ⟨g1, 0, none⟩) 0 0)).run Try.prog (w3.drewN k) = .ok (.string T) (w3.drewN k) := fun k => by
          rw [hT]; exact run_str (w3.drewN k) _ 0 0 _ ⟨Nat.le_refl _, fun h => absurd h (by omega)⟩ (fun e => by cases e)
        clear hS hT R1 R2 e16 e17 HG2 HG3 HUW HUE hR hw0 hw hv
        simp only [Nat.zero_add, Nat.zero_mul, Nat.add_zero, Nat.one_mul, Nat.reduceAdd, Nat.reduceSub, Int.natCast_zero, Int.zero_add] at *
        go_wp2_with fail
        go_quiet (fail)
        go_wp2
        go_ret
        exact ⟨rfl, below_drewN HB3.out _⟩
      · have qs3 : ∀ k, (convert 22 9 (.slice (some ⟨g1, 17, none⟩) (17 + n * 23 - 17) (17 + n * 23 - 17))).run Try.prog (w3.drewN k) = .ok (.string T) (w3.drewN k) := fun k => by
          rw [hT, show 17 + n * 23 - 17 = n * 23 by omega]
          have := R1.behind 17 (by omega)
          rw [Nat.zero_add, show 17 + n * 23 - 17 = n * 23 by omega] at this
          exact run_str (w3.drewN k) _ _ _ _ this (fun e => by cases e)
        clear hS hT R1 R2 e16 e17 HG2 HG3 HUW HUE hR hw0 hw hv
        have hq : IntKind.i64.wrap (((17 + n * 23 : Nat) : Int) + 23) = ((17 + (n + 1) * 23 : Nat) : Int) := by simp [IntKind.wrap, IntKind.bits, IntKind.signed]; omega
        have l0 : 17 + n * 23 ≤ 17 + (n + 1) * 23 := by omega
        have l7 : 17 < 17 + n * 23 := by omega
        generalize 17 + n * 23 = L1 at *
        generalize 17 + (n + 1) * 23 = L2 at *
        have l1 : (17 : Int) ≤ L1 := by omega
        have l2 : (17 : Int) ≤ L2 := by omega
        have l3 : (L1 : Int) ≤ L2 := by omega
        have l5 : ¬ L1 = 17 := by omega
        have l6 : ¬ L2 = 17 := by omega
        have l8 : (16 : Int) ≤ L1 := by omega
        have l9 : (16 : Int) ≤ L2 := by omega
        have l10 : (16 : Int) < L1 := by omega
        have l11 : (16 : Int) < L2 := by omega
        go_wp2_with fail
        go_quiet (fail)
        go_wp2
        go_ret
        exact ⟨rfl, below_drewN HB3.out _⟩
    · have HBW : Hid (∀ W, TaleRow W a2 (n + 1) c2 us → Calls Try.prog 8 #[.agg #[.slice da 16 dc, .slice a2 (n + 1) c2]] W fun e w' => e = .returned (.tuple #[.slice none 0 0, .int .i64 (Hl.wrong 16 us (n + 1))]) ∧ Below W.heap.size W w') := fun W h => lbytes_wrong da 16 dc a2 (n + 1) c2 us W hn1 h hv
      generalize Hl.wrong 16 us (n + 1) = E at *
      have hE : (E != 0) = true := by simp [hv]
      go_wp2_with fail
      refine (HBW.out _ HR2.out).mono ?_
      rintro e w3 ⟨rfl, hb3⟩
      have HB3 : Hid (Below w.heap.size w w3) := HB2.out.trans (hb3.mono HB2.out.size)
      clear hb3
      go_wp2_with fail
      go_ret
      exact ⟨rfl, HB3.out⟩
  · have HBW : Hid (∀ W, TaleRow W ao n cap ts → Calls Try.prog 8 #[.agg #[.slice da dn dc, .slice ao n cap]] W fun e w' => e = .returned (.tuple #[.slice none 0 0, .int .i64 (Hl.wrong dn ts n)]) ∧ Below W.heap.size W w') := fun W h => lbytes_wrong da dn dc ao n cap ts W hmany h hw
    have HBF : Hid (∀ W, ByteRow W da dn dc dg → TaleRow W a2 (n + 1) c2 us → Calls Try.prog 8 #[.agg #[.slice da dn dc, .slice a2 (n + 1) c2]] W fun e w' => (∃ a k c E, e = .returned (.tuple #[.slice a k c, .int .i64 E])) ∧ Below W.heap.size W w') := fun W h1 h2 => by
      by_cases hv : Hl.wrong dn us (n + 1) = 0
      · refine (lbytes_right da dn dc dg a2 (n + 1) c2 us W h1 h2 hv).mono ?_
        rintro e w' ⟨g, he, _, _, hb⟩
        exact ⟨⟨_, _, _, _, he⟩, hb⟩
      · refine (lbytes_wrong da dn dc a2 (n + 1) c2 us W hn1 h2 hv).mono ?_
        rintro e w' ⟨he, hb⟩
        exact ⟨⟨_, _, _, _, he⟩, hb⟩
    generalize Hl.wrong dn ts n = E at *
    have hE : (E != 0) = true := by simp [hw]
    go_wp2_with fail
    refine (HBW.out _ (HT.out.below H0.out.low)).mono ?_
    rintro e w2 ⟨rfl, hb2⟩
    have HB2 : Hid (Below w.heap.size w w2) := H0.out.low.trans (hb2.mono H0.out.low.size)
    have HM2 : Hid (w2.heap[G]? = some (.cells #[.slice da dn dc, .slice a2 (n + 1) c2] 25 (0, 0))) := keep H0.out.more hb2
    have HR2 : Hid (TaleRow w2 a2 (n + 1) c2 us) := H0.out.row.below hb2
    clear hb2 H0 k0 k1
    obtain ⟨m0, m1⟩ := hl_cells HM2.out
    go_wp2_with fail
    refine (HBF.out _ (HD.out.below HB2.out) HR2.out).mono ?_
    rintro e w3 ⟨⟨a3, k3, c3, E3, rfl⟩, hb3⟩
    have HB3 : Hid (Below w.heap.size w w3) := HB2.out.trans (hb3.mono HB2.out.size)
    clear hb3
    go_wp2_with fail
    go_ret
    exact ⟨rfl, HB3.out⟩
end Go.Proofs.Ytmjgmngdahhbkaa
