/- walks: package plan's Ident and identsOf -/
import Derived.Test.YtaakjhdbelefiaeDoorPW1
import Derived.Test.YtaakjhdbelefiaeDoorPR
import Derived.Test.YtaakjhdbelefiaeDoorGW7a
namespace Go.Proofs.YtaakjhdbelefiaeDoor
open Go.RowKit
open Pl (Br Net Pc Lk En St)

theorem lk_free0 {w : World} {g : Nat} {A : Array Value} {ty : TypeId} (h : w.heap[g]? = some (.cells A ty (0, 0))) (j : Nat) : w.frozen? ⟨g, j, none⟩ = false := frozen_of_row _ _ _ _ _ h
/-- A bridge's priorities and its address are right. -/
structure Pl.Br.Fine (b : Br) : Prop where
  addr : 0 ≤ b.addr ∧ b.addr ≤ 281474976710655
  few : b.pn ≤ 16
  prio : ∀ i, i < b.pn → 0 ≤ b.pv i ∧ b.pv i ≤ 61440
  reg : b.reg.ok
set_option maxRecDepth 100000 in
set_option maxHeartbeats 1000000 in
theorem pident_any (b : Br) (tree : Int) (w : World) (hb : b.at' w) (hf : b.Fine) :
    Calls Tryd.prog 26 #[.agg (brA b), .int .i64 tree] w fun e w' => e = .returned (.int .u64 (b.id tree)) ∧ Below w.heap.size w w' := by
  obtain ⟨hp, _, _, _⟩ := hb
  obtain ⟨ha, hfew, hpr, _⟩ := hf
  have HW : Hid (∀ W, Calls Tryd.prog 12 #[.int .i64 tree, .int .i64 0, .int .i64 ((b.pn : Int) - 1)] W fun e w' => e = .returned (.bool (decide (0 ≤ tree ∧ tree ≤ (b.pn : Int) - 1))) ∧ w' = W) := fun W => gwithin_any _ _ _ W
  have wk : IntKind.i64.wrap ((b.pn : Int) - 1) = (b.pn : Int) - 1 := by rw [IntKind.wrap_i64]; omega
  have hX := heap_alloc_last w (.cells (brA b) 33)
  have hpx : IRow (w.alloc (.cells (brA b) 33)) b.pao b.pn b.pcap b.pv := CRow.below hp (below_alloc1 _ _)
  unfold Pl.Br.id Pl.Br.prio
  obtain ⟨addr, pao, pn, pcap, pv, ⟨s, rev, ao, n, cap, vs, ts⟩⟩ := b
  simp only [brA] at *
  obtain ⟨q0, q1, q2, q3, q4⟩ := br_cells hX
  have shl : ∀ p : Int, 0 ≤ p → p ≤ 61440 → IntKind.u64.wrap (p * 281474976710656 + addr) = p * 281474976710656 + addr := fun p h1 h2 => wraps_u64 _ (by omega) (by omega)
  by_cases h : 0 ≤ tree ∧ tree ≤ (pn : Int) - 1
  · rw [if_pos h]
    rw [decide_eq_true h] at HW
    obtain ⟨t, rfl⟩ : ∃ t : Nat, tree = t := ⟨tree.toNat, by omega⟩
    have ht : t < pn := by omega
    rw [Int.toNat_natCast]
    obtain ⟨pb, poff, rfl, _⟩ := CRow.some hpx (by omega)
    have hcap := hpx.1
    have c0 := IRow.cells hpx ht
    obtain ⟨p0, p1⟩ := hpr t ht
    have HS := shl (pv t) p0 p1
    have w1 : IntKind.u64.wrap (pv t) = pv t := wraps_u64 _ (by omega) (by omega)
    have w2 : IntKind.u64.wrap (pv t * 281474976710656) = pv t * 281474976710656 := wraps_u64 _ (by omega) (by omega)
    have i0 : (0 : Int) ≤ (t : Int) := by omega
    have i1 : (t : Int) < (pn : Int) := by omega
    generalize pv t = p at *
    clear hpx hp hpr shl hX
    go_enter Tryd.func26, Tryd.ntmps26
    go_wp2_with (go_at_call 12; refine (HW.out _).mono ?_; rintro e w1 ⟨rfl, rfl⟩)
    go_ret
    exact ⟨rfl, below_alloc1 _ _⟩
  · rw [if_neg h]
    rw [decide_eq_false h] at HW
    have HS := shl 32768 (by omega) (by omega)
    clear hpx hp hpr shl hX
    go_enter Tryd.func26, Tryd.ntmps26
    go_wp2_with (go_at_call 12; refine (HW.out _).mono ?_; rintro e w1 ⟨rfl, rfl⟩)
    go_ret
    exact ⟨rfl, below_alloc1 _ _⟩
theorem infoBytes : (Tryd.prog.info? 69).map (fun i => (i.zero, i.size, i.bytes)) = some (some (.slice none 0 0), 1, 24) := by kernel_rfl
/-- The identities of bridges, as they lie: a slice of slices of bytes, in block g. -/
def IdsAt (w : World) (g K : Nat) (bs : Nat → Br) (v : Nat → Value) (k : Nat) : Prop :=
  w.heap[g]? = some (.cells (rowC K 1 (fun i _ => v i)) 69 (0, 0)) ∧ ∀ i, i < k → ∃ b off rc, v i = .slice (some ⟨b, off, none⟩) 50 rc ∧ ByteRow w (some ⟨b, off, none⟩) 50 rc (bs i).reg.id ∧ b ≠ g
theorem IdsAt.below {w w' : World} {g K : Nat} {bs : Nat → Br} {v : Nat → Value} {k : Nat} (h : IdsAt w g K bs v k) (hb : Below w.heap.size w w') : IdsAt w' g K bs v k :=
  ⟨keep h.1 hb, fun i hi => by
    obtain ⟨b, off, rc, e, h1, h2⟩ := h.2 i hi
    exact ⟨b, off, rc, e, h1.below hb, h2⟩⟩
theorem byteRow_other {w w' : World} {ao : Option Addr} {n cap : Nat} {f : Nat → Int} (h : ByteRow w ao n cap f) (e : ∀ b off, ao = some ⟨b, off, none⟩ → b < w.heap.size → w'.heap[b]? = w.heap[b]?) (hs : w.heap.size ≤ w'.heap.size) : ByteRow w' ao n cap f := by
  refine ⟨h.1, fun hp => ?_⟩
  obtain ⟨b, off, e1, hlt, hc⟩ := h.2 hp
  exact ⟨b, off, e1, Nat.lt_of_lt_of_le hlt hs, fun i hi => (World.cell?_of_block (w := w) (e b off e1 hlt)).trans (hc i hi)⟩
set_option maxRecDepth 100000 in
set_option maxHeartbeats 2000000 in
theorem pidents_any (ao : Option Addr) (K cap : Nat) (bs : Nat → Br) (w : World) (hK : K ≤ 12) (hr : BRow w ao K cap bs) (hb : ∀ i, i < K → (bs i).at' w) (hf : ∀ i, i < K → (bs i).Fine) (ht : Tabs w) (hbt : 2 ≤ w.heap.size) :
    Calls Tryd.prog 21 #[.slice ao K cap] w fun e w' => ∃ v, e = .returned (.slice (some ⟨w.heap.size, 0, none⟩) K K) ∧ IdsAt w' w.heap.size K bs v K ∧ Below w.heap.size w w' := by
  have HRW : Hid (∀ W, Below w.heap.size w W → BRow W ao K cap bs ∧ (∀ i, i < K → (bs i).at' W) ∧ Tabs W) := fun W hW => ⟨CRow.below hr hW, fun i hi => (hb i hi).below hW, ht.below hW hbt⟩
  have HFI : Hid (∀ i, i < K → (bs i).Fine) := hf
  have hcap := hr.1
  have hmk : ∀ W : World, (Instr.makeSlice 66 (.int .i64 (K : Int)) (.int .i64 (K : Int))).run Tryd.prog W = .ok (.slice (some ⟨W.heap.size, 0, none⟩) K K) (W.alloc (.cells (rowC K 1 (fun _ _ => .slice none 0 0)) 69)) := fun W => make_rowD W 66 69 (.slice none 0 0) 1 24 K Tryd.underlying66 infoBytes (by omega) rfl (by omega) (by omega) _ (fun _ j hj => by rw [show j = 0 by omega]; rfl)
  clear hr hb hf ht
  obtain ⟨G, HG⟩ : ∃ G, Hid (G = w.heap.size) := ⟨_, rfl⟩
  have H0 : Hid (∃ v, IdsAt (w.alloc (.cells (rowC K 1 (fun _ _ => .slice none 0 0)) 69)) G K bs v 0 ∧ Below w.heap.size w (w.alloc (.cells (rowC K 1 (fun _ _ => .slice none 0 0)) 69))) := ⟨fun _ => .slice none 0 0, ⟨by rw [HG.out]; exact heap_alloc_last _ _, fun i hi => absurd hi (by omega)⟩, below_alloc1 _ _⟩
  rw [← HG.out]
  go_enter Tryd.func21, Tryd.ntmps21
  go_wp2_with fail
  rw [← HG.out]
  go_loopw [11] (fun i wr => ∃ k : Nat, k ≤ K ∧ i = .int .i64 k ∧ Hid (∃ v, IdsAt wr G K bs v k ∧ Below w.heap.size w wr)) (fun i _ => K - (intOf i).toNat)
  case atStart => exact ⟨0, by omega, rfl, H0⟩
  case round =>
    obtain ⟨k, hk, rfl, hX⟩ := hrel
    clear H0
    obtain ⟨v, hI, hB⟩ := hX.out
    by_cases hlt : k < K
    · obtain ⟨b, off, rfl, _⟩ := CRow.some (HRW.out wr hB).1 (by omega)
      obtain ⟨c0, c1, c2, c3, c4⟩ := BRow.cells (HRW.out wr hB).1 hlt
      obtain ⟨X, HX⟩ : ∃ X, Hid (X = wr.alloc (.cells (brA (bs k)) 33)) := ⟨_, rfl⟩
      have hXB : Below wr.heap.size wr X := by rw [HX.out]; exact below_alloc1 _ _
      have hX5 : X.heap[wr.heap.size]? = some (.cells (brA (bs k)) 33 (0, 0)) := by rw [HX.out]; exact heap_alloc_last _ _
      have hIX := hI.below hXB
      have hBX : Below w.heap.size w X := hB.trans (hXB.mono hB.size)
      obtain ⟨d0, d1, d2, d3, d4⟩ := br_cells hX5
      have HCL : Hid (Calls Tryd.prog 38 #[.agg #[.string (bs k).reg.s, .int .i64 (bs k).reg.rev, .slice (bs k).reg.ao (bs k).reg.n (bs k).reg.cap]] X fun e w' => ∃ ro rc, e = .returned (.slice ro 50 rc) ∧ w'.cell? ⟨G, k, none⟩ = some (v k) ∧ w'.frozen? ⟨G, k, none⟩ = false ∧ Hid (∃ v, IdsAt (w'.setCell ⟨G, k, none⟩ (.slice ro 50 rc)) G K bs v (k + 1) ∧ Below w.heap.size w (w'.setCell ⟨G, k, none⟩ (.slice ro 50 rc)))) := by
        obtain ⟨_, x2, x3⟩ := HRW.out X hBX
        refine (gident_reg_new (bs k).reg X (HFI.out k hlt).reg (x2 k hlt).2.1 x3).mono ?_
        rintro e w' ⟨ro, rc, rfl, y1, y2, y3⟩
        have z1 := hIX.below y2
        have hBw : Below w.heap.size w w' := hBX.trans (y2.mono hBX.size)
        have e1 : (⟨G, k, none⟩ : Addr) = ⟨G, k * 1 + 0, none⟩ := by simp
        have hGlt : G < X.heap.size := by have := (Array.getElem?_eq_some_iff.1 hIX.1).1; exact this
        obtain ⟨rb, roff, er, hrb, _⟩ := y1.2 (by omega)
        subst er
        have hne : rb ≠ G := by have := y3 _ rfl; simp only at this; omega
        refine ⟨_, rc, rfl, ?_, ?_, fun i => if i = k then .slice (some ⟨rb, roff, none⟩) 50 rc else v i, ⟨?_, fun i hi => ?_⟩, hBw.setCell (by rw [HG.out]; exact Nat.le_refl _) _⟩
        · rw [e1]; exact rowC_cell z1.1 hlt (by omega)
        · exact lk_free0 z1.1 _
        · rw [e1, rowC_set z1.1 hlt (by omega), rowC_congr2 (d := fun i _ => if i = k then .slice (some ⟨rb, roff, none⟩) 50 rc else v i) (fun i _ j hj => by
            unfold updC
            by_cases q : i = k
            · rw [if_pos ⟨q, by omega⟩, if_pos q]
            · rw [if_neg (fun p => q p.1), if_neg q])]
        · have oth : ∀ b, b ≠ G → (w'.setCell ⟨G, k, none⟩ (.slice (some ⟨rb, roff, none⟩) 50 rc)).heap[b]? = w'.heap[b]? := fun b hb => heap_setCell_other _ _ _ _ (by exact hb)
          by_cases q : i = k
          · subst q
            exact ⟨rb, roff, rc, if_pos rfl, byteRow_other y1 (fun b off e _ => by cases e; exact oth _ hne) (by simp), hne⟩
          · obtain ⟨b1, off1, rc1, q1, q2, q3⟩ := z1.2 i (by omega)
            exact ⟨b1, off1, rc1, by simp only; rw [if_neg q]; exact q1, byteRow_other q2 (fun b off e _ => by cases e; exact oth _ q3) (by simp), q3⟩
      clear hX hI hB hIX hBX hXB hX5 HRW HFI
      simp only [brA] at *
      generalize (bs k).reg.s = s at *
      have i0 : (0 : Int) ≤ (k : Int) := by omega
      have i1 : (k : Int) < (K : Int) := by omega
      go_wp2_with fail
      rw [← HX.out]
      refine HCL.out.mono ?_
      rintro e w1 ⟨ro, rc, rfl, k1, k2, HN⟩
      clear HCL
      go_wp2_with fail
      exact ⟨⟨k + 1, by omega, by go_num, HN⟩, by simp [intOf]; omega⟩
    · obtain rfl : k = K := by omega
      go_wp2_with fail
      go_ret
      exact ⟨v, rfl, hI, by rw [HG.out]; exact hB⟩
end Go.Proofs.YtaakjhdbelefiaeDoor
