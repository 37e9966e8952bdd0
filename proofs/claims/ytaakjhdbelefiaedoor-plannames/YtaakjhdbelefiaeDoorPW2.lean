/- walks: package plan's wrongBridges: its closure, firstWrong at it -/
import Derived.Test.YtaakjhdbelefiaeDoorPW1
import Derived.Test.YtaakjhdbelefiaeDoorPM2
namespace Go.Proofs.YtaakjhdbelefiaeDoor
open Go.RowKit Go.Maps
open Pl (Br Net Pc Lk En St)

theorem grown_of_below {w w' : World} {b : Nat} (h : Below w.heap.size w w') : w.grownBy w' (some b) := ⟨h.os, h.tape, h.output, h.size, fun i hi _ => h.block i hi⟩
theorem below_of_grown {w w' : World} {b n : Nat} (h : w.grownBy w' (some b)) (hn : n ≤ w.heap.size) (hb : n ≤ b) : Below n w w' := (Below.refl n w).grown h hn (fun j hj => by cases hj; exact hb)
/-- What the closure says of a bridge. -/
def bSay (b : Br) (c : Int) : Int := if Pl.brErr b ≠ 0 then Pl.brErr b else if 0 < c then 7 else 0
set_option maxRecDepth 100000 in
set_option maxHeartbeats 1000000 in
theorem pbClosure_any (b : Br) (Q P B m : Nat) (f : Nat → Int) (w : World) (hb : b.at' w) (hQ : w.cell? ⟨Q, 0, none⟩ = some (.func (.func 44) #[] #[.pointer (some ⟨P, 0, none⟩)])) (hP : w.cell? ⟨P, 0, none⟩ = some (.map (some B))) (hne : P ≠ B) (hc : UCnt w B f m) (hm : m ≤ 1000) (hf : f m = b.addr) (hwf : (Lit.int .u64 b.addr).wf = true) :
    Calls Tryd.prog 31 #[.agg (brA b), .pointer (some ⟨Q, 0, none⟩)] w fun e w' => e = .returned (.int .i64 (bSay b (cntI f b.addr m))) ∧ (Pl.brErr b = 0 → UCnt w' B f (m + 1)) ∧ w.grownBy w' (some B) := by
  obtain ⟨X, HX⟩ : ∃ X, Hid (X = w.alloc (.cells (brA b) 33)) := ⟨_, rfl⟩
  have hXB : Below w.heap.size w X := by rw [HX.out]; exact below_alloc1 _ _
  have hXb : X.heap[w.heap.size]? = some (.cells (brA b) 33 (0, 0)) := by rw [HX.out]; exact heap_alloc_last _ _
  have hlt := hc.lt
  have hQl := block_lt_of_cell hQ
  have hPl := block_lt_of_cell hP
  simp only at hQl hPl
  have HC : Hid (Calls Tryd.prog 32 #[.agg (brA b)] X fun e w' => e = .returned (.int .i64 (Pl.brErr b)) ∧ Below X.heap.size X w') := pwrongBridge_any b X (hb.below hXB)
  have HT : Hid (∀ W, Below X.heap.size X W → Calls Tryd.prog 44 #[.int .u64 b.addr, .pointer (some ⟨P, 0, none⟩)] W fun e w' => e = .returned (.int .i64 (if 0 < cntI f b.addr m then 7 else 0)) ∧ UCnt w' B f (m + 1) ∧ w.grownBy w' (some B)) := by
    intro W hW
    have h1 : Below w.heap.size w W := hXB.trans (hW.mono hXB.size)
    refine (utake_any P B m f b.addr W ((h1.cell (by exact hPl)).trans hP) hne (hc.same (h1.block B hlt)) hm hf hwf).mono ?_
    rintro e w' ⟨rfl, k1, k2⟩
    exact ⟨rfl, k1, (grown_of_below h1).trans k2⟩
  have HL : Hid (∀ W, Below X.heap.size X W → W.cell? ⟨Q, 0, none⟩ = some (.func (.func 44) #[] #[.pointer (some ⟨P, 0, none⟩)]) ∧ W.cell? ⟨w.heap.size, 0, none⟩ = some (.int .u64 b.addr) ∧ w.grownBy W (some B)) := by
    intro W hW
    have h1 : Below w.heap.size w W := hXB.trans (hW.mono hXB.size)
    exact ⟨(h1.cell (by exact hQl)).trans hQ, (br_cells (keep hXb hW)).1, grown_of_below h1⟩
  obtain ⟨q0, q1, q2, q3, q4⟩ := br_cells hXb
  unfold bSay
  generalize Pl.brErr b = E at *
  generalize cntI f b.addr m = t at *
  generalize (if 0 < t then (7 : Int) else 0) = R at *
  clear hQ hP hc hf hwf hXb hXB hb
  obtain ⟨addr, pao, pn, pcap, pv, ⟨s, rev, ao, n, cap, vs, ts⟩⟩ := b
  simp only [brA] at *
  by_cases e0 : E = 0
  · subst e0
    rw [if_neg (by omega)]
    go_enter Tryd.func31, Tryd.ntmps31
    go_wp2_with fail
    rw [← HX.out]
    refine HC.out.mono ?_
    rintro e w1 ⟨rfl, hb1⟩
    obtain ⟨k0, k1, k2⟩ := HL.out w1 hb1
    have ht1 := HT.out w1 hb1
    clear hb1 k2 HL HT HC
    go_wp2_with fail
    refine ht1.mono ?_
    rintro e w2 ⟨rfl, k3, k4⟩
    go_wp2_with fail
    go_ret
    first | exact ⟨rfl, fun _ => k3, k4⟩ | exact ⟨rfl, k3, k4⟩
  · rw [if_pos e0]
    have e1 : (E == 0) = false := by simp [e0]
    go_enter Tryd.func31, Tryd.ntmps31
    go_wp2_with fail
    rw [← HX.out]
    refine HC.out.mono ?_
    rintro e w1 ⟨rfl, hb1⟩
    obtain ⟨k0, k1, k2⟩ := HL.out w1 hb1
    go_wp2_with fail
    go_ret
    exact ⟨rfl, fun h => absurd h e0, k2⟩
/-- A fault, as it lies. -/
def ftA (x : Int × Int) : Array Value := #[.int .i64 x.1, .int .i64 x.2]
theorem sizeFt : (Tryd.prog.info? 39).map (·.size) = some 2 := by kernel_rfl
theorem results_row {P : Program} {fn : Func} {p : Tmp} {ty : TypeId} (h : fn.results = #[.cell p ty]) (tmps : Array Value) (w : World) (g : Nat) (t : TypeId) (cs : Array Value) (fr : Nat × Nat) (d : TypeDesc)
    (hp : tmps.getD p undef = .pointer (some ⟨g, 0, none⟩)) (hg : w.heap[g]? = some (.cells cs t fr))
    (hu : P.underlying ty = some d) (hd : (match d with | .struct _ | .array _ _ => true | _ => false) = true) (hi : (P.info? ty).map (·.size) = some cs.size) :
    (results fn tmps).run P w = .ok (.agg cs) w := by
  have hp' : tmps[p]?.getD undef = .pointer (some ⟨g, 0, none⟩) := by simpa using hp
  simp [results, h, hp', asAddr, run_loadVar_row w g t ty cs fr d hg hu hd hi]
theorem set2_same {w : World} {g : Nat} {a0 a1 v0 v1 : Value} {ty : TypeId} (h : w.heap[g]? = some (.cells #[a0, a1] ty (0, 0))) :
    ((w.setCell ⟨g, 0, none⟩ v0).setCell ⟨g, 1, none⟩ v1).heap[g]? = some (.cells #[v0, v1] ty (0, 0)) := by
  have h0 : (w.setCell ⟨g, 0, none⟩ v0).heap[g]? = some (.cells #[v0, a1] ty (0, 0)) := by rw [heap_setCell_same _ _ _ _ _ _ h]; rfl
  rw [heap_setCell_same _ _ _ _ _ _ h0]; rfl
theorem bSay_err (bs : Nat → Br) (k : Nat) : bSay (bs k) (cntI (fun j => (bs j).addr) (bs k).addr k) = Pl.bErr bs k := by
  unfold bSay Pl.bErr
  have := cntI_pos (fun j => (bs j).addr) (bs k).addr k
  by_cases h : Pl.brErr (bs k) = 0
  · have hn : ¬ Pl.brErr (bs k) ≠ 0 := fun q => q h
    rw [if_neg hn, if_neg hn]
    by_cases c : 0 < cntI (fun j => (bs j).addr) (bs k).addr k
    · rw [if_pos c, if_pos (this.1 c)]
    · rw [if_neg c, if_neg (fun q => c (this.2 q))]
  · rw [if_pos h, if_pos h]
theorem bErr_zero {bs : Nat → Br} {k : Nat} (h : Pl.bErr bs k = 0) : Pl.brErr (bs k) = 0 := by
  unfold Pl.bErr at h
  by_cases q : Pl.brErr (bs k) = 0
  · exact q
  · rw [if_pos q] at h; exact absurd h q
set_option maxRecDepth 100000 in
set_option maxHeartbeats 2000000 in
theorem pbFirst_any (ao : Option Addr) (n cap : Nat) (bs : Nat → Br) (Q P B : Nat) (W0 w : World) (hn : n ≤ 12) (hr : BRow W0 ao n cap bs) (hb : ∀ i, i < n → (bs i).at' W0) (hwf : ∀ i, i < n → (Lit.int .u64 (bs i).addr).wf = true)
    (hQ : w.cell? ⟨Q, 0, none⟩ = some (.func (.func 44) #[] #[.pointer (some ⟨P, 0, none⟩)])) (hP : w.cell? ⟨P, 0, none⟩ = some (.map (some B))) (hPB : P ≠ B) (hQB : Q ≠ B) (hc : UCnt w B (fun j => (bs j).addr) 0)
    (hM : W0.heap.size ≤ B) (hW0 : Below W0.heap.size W0 w) :
    Calls Tryd.prog 30 #[.slice ao n cap, .func (.func 31) #[] #[.pointer (some ⟨Q, 0, none⟩)]] w fun e w' => e = .returned (.agg (ftA (Pl.firstTo (Pl.bErr bs) n))) ∧ Below W0.heap.size W0 w' := by
  have HRW : Hid (∀ W, Below W0.heap.size W0 W → BRow W ao n cap bs ∧ ∀ i, i < n → (bs i).at' W) := fun W hW => ⟨CRow.other hr (fun q _ _ hq => hW.block q hq) hW.size, fun i hi => (hb i hi).below hW⟩
  have HWF : Hid (∀ i, i < n → (Lit.int .u64 (bs i).addr).wf = true) := hwf
  have hcap := hr.1
  have hBl := hc.lt
  obtain ⟨G, HG⟩ : ∃ G, Hid (G = w.heap.size) := ⟨_, rfl⟩
  have hGB : G ≠ B := by rw [HG.out]; omega
  have hGM : W0.heap.size ≤ G := by rw [HG.out]; exact hW0.size
  have HI : Hid (∀ W, W = w.alloc (.cells #[.int .i64 0, .int .i64 0] 39) → Below W0.heap.size W0 W ∧ UCnt W B (fun j => (bs j).addr) 0 ∧ W.heap[G]? = some (.cells #[.int .i64 0, .int .i64 0] 39 (0, 0)) ∧ W.cell? ⟨Q, 0, none⟩ = some (.func (.func 44) #[] #[.pointer (some ⟨P, 0, none⟩)]) ∧ W.cell? ⟨P, 0, none⟩ = some (.map (some B))) := by
    intro W hW
    have h1 : Below w.heap.size w W := by rw [hW]; exact below_alloc1 _ _
    have hQl := block_lt_of_cell hQ
    have hPl := block_lt_of_cell hP
    exact ⟨hW0.trans (h1.mono hW0.size), hc.same (h1.block B hBl), by rw [hW, HG.out]; exact heap_alloc_last _ _, (h1.cell (by exact hQl)).trans hQ, (h1.cell (by exact hPl)).trans hP⟩
  clear hr hb hwf hQ hP hc hW0 hBl
  go_enter Tryd.func30, Tryd.ntmps30
  go_wp2_with fail
  rw [← HG.out]
  go_loopw [10] (fun i wr => ∃ k : Nat, k ≤ n ∧ i = .int .i64 k ∧ Hid (∀ j, j < k → Pl.bErr bs j = 0) ∧ Hid (Below W0.heap.size W0 wr ∧ UCnt wr B (fun j => (bs j).addr) k ∧ wr.heap[G]? = some (.cells #[.int .i64 0, .int .i64 0] 39 (0, 0)) ∧ wr.cell? ⟨Q, 0, none⟩ = some (.func (.func 44) #[] #[.pointer (some ⟨P, 0, none⟩)]) ∧ wr.cell? ⟨P, 0, none⟩ = some (.map (some B)))) (fun i _ => n - (intOf i).toNat)
  case atStart => exact ⟨0, by omega, rfl, (fun j hj => absurd hj (by omega)), HI.out _ rfl⟩
  case round =>
    obtain ⟨k, hk, rfl, hS, hX⟩ := hrel
    clear HI
    by_cases hlt : k < n
    · obtain ⟨b, off, rfl, _⟩ := CRow.some (HRW.out wr hX.out.1).1 (by omega)
      obtain ⟨c0, c1, c2, c3, c4⟩ := BRow.cells (HRW.out wr hX.out.1).1 hlt
      obtain ⟨X, HX⟩ : ∃ X, Hid (X = wr.alloc (.cells (brA (bs k)) 33)) := ⟨_, rfl⟩
      have HXB : Hid (Below wr.heap.size wr X) := by rw [HX.out]; exact below_alloc1 _ _
      have HX5 : Hid (X.heap[wr.heap.size]? = some (.cells (brA (bs k)) 33 (0, 0))) := by rw [HX.out]; exact heap_alloc_last _ _
      have HCL : Hid (Calls Tryd.prog 31 #[.agg (brA (bs k)), .pointer (some ⟨Q, 0, none⟩)] X fun e w' => e = .returned (.int .i64 (Pl.bErr bs k)) ∧ Hid (Below W0.heap.size W0 w' ∧ (Pl.bErr bs k = 0 → UCnt w' B (fun j => (bs j).addr) (k + 1)) ∧ w'.heap[G]? = some (.cells #[.int .i64 0, .int .i64 0] 39 (0, 0)) ∧ w'.cell? ⟨Q, 0, none⟩ = some (.func (.func 44) #[] #[.pointer (some ⟨P, 0, none⟩)]) ∧ w'.cell? ⟨P, 0, none⟩ = some (.map (some B)))) := by
        obtain ⟨x1, x2, x3, x4, x5⟩ := hX.out
        have l1 := block_lt_of_cell x4
        have l2 := block_lt_of_cell x5
        have y1 : Below W0.heap.size W0 X := x1.trans (HXB.out.mono x1.size)
        have y4 := (HXB.out.cell (by exact l1)).trans x4
        have y5 := (HXB.out.cell (by exact l2)).trans x5
        have y3 := keep x3 HXB.out
        refine (pbClosure_any (bs k) Q P B k (fun j => (bs j).addr) X ((HRW.out X y1).2 k hlt) y4 y5 hPB (x2.same (HXB.out.block B x2.lt)) (by omega) rfl (HWF.out k hlt)).mono ?_
        rintro e w' ⟨rfl, z1, z2⟩
        rw [bSay_err]
        exact ⟨rfl, y1.trans (below_of_grown z2 y1.size hM), fun h => z1 (bErr_zero h), grown_block y3 z2 hGB, grown_cell y4 z2 hQB, grown_cell y5 z2 hPB⟩
      have HF1 : Hid (Pl.bErr bs k ≠ 0 → ftA (Pl.firstTo (Pl.bErr bs) n) = #[.int .i64 (Pl.bErr bs k), .int .i64 (k : Int)]) := fun h => by rw [Pl.firstTo_here (Pl.bErr bs) k hS.out h n hlt]; rfl
      have HS1 : Hid (Pl.bErr bs k = 0 → ∀ j, j < k + 1 → Pl.bErr bs j = 0) := fun h j hj => by
        by_cases e : j = k
        · subst e; exact h
        · exact hS.out j (by omega)
      obtain ⟨d0, d1, d2, d3, d4⟩ := br_cells HX5.out
      clear hX hS HX5 HXB HWF HRW
      generalize Pl.bErr bs k = E at *
      by_cases e0 : E = 0
      · subst e0
        have HS2 : Hid (∀ j, j < k + 1 → Pl.bErr bs j = 0) := HS1.out rfl
        clear HS1 HF1
        simp only [brA] at *
        go_wp2_with fail
        rw [← HX.out]
        refine HCL.out.mono ?_
        rintro e w1 ⟨rfl, hY⟩
        clear d0 d1 d2 d3 d4 c0 c1 c2 c3 c4
        go_wp2_with fail
        exact ⟨⟨k + 1, by omega, by go_num, HS2, ⟨hY.out.1, hY.out.2.1 (by first | exact rfl | trivial), hY.out.2.2⟩⟩, by simp [intOf]; omega⟩
      · have e1 : (E == 0) = false := by simp [e0]
        have HF2 : Hid _ := HF1.out e0
        clear HS1 HF1
        simp only [brA] at *
        go_wp2_with fail
        rw [← HX.out]
        refine HCL.out.mono ?_
        rintro e w1 ⟨rfl, hY⟩
        clear d0 d1 d2 d3 d4 c0 c1 c2 c3 c4
        obtain ⟨f0, f1⟩ := two_cells2 hY.out.2.2.1
        obtain ⟨g0, g1, _, _⟩ := vc_free hY.out.2.2.1
        go_wp2_with fail
        exact bodyPost_ret (v := .agg #[.int .i64 E, .int .i64 (k : Int)]) (results_row (p := 4) (ty := 39) Tryd.results30 _ _ G 39 #[.int .i64 E, .int .i64 (k : Int)] (0, 0) _ rfl (set2_same hY.out.2.2.1) Tryd.underlying39 rfl (by rw [sizeFt]; rfl)) rfl ⟨by rw [HF2.out], (hY.out.1.setCell hGM _).setCell hGM _⟩
    · obtain rfl : k = n := by omega
      have HF2 : Hid (ftA (Pl.firstTo (Pl.bErr bs) k) = #[.int .i64 0, .int .i64 0]) := by rw [Pl.firstTo_all _ _ hS.out]; rfl
      obtain ⟨f0, f1⟩ := two_cells2 hX.out.2.2.1
      obtain ⟨g0, g1, _, _⟩ := vc_free hX.out.2.2.1
      go_wp2_with fail
      exact bodyPost_ret (v := .agg #[.int .i64 0, .int .i64 0]) (results_row (p := 4) (ty := 39) Tryd.results30 _ _ G 39 #[.int .i64 0, .int .i64 0] (0, 0) _ rfl (set2_same hX.out.2.2.1) Tryd.underlying39 rfl (by rw [sizeFt]; rfl)) rfl ⟨by rw [HF2.out], (hX.out.1.setCell hGM _).setCell hGM _⟩
end Go.Proofs.YtaakjhdbelefiaeDoor
