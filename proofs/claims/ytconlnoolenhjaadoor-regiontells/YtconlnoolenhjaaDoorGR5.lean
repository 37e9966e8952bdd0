/- walks: the document's Ident of regions -/
import Derived.Test.YtconlnoolenhjaaDoorGR4
namespace Go.Proofs.YtconlnoolenhjaaDoor
open Go.RowKit

def slen : Value → Nat
  | .slice _ n _ => n
  | _ => 0
theorem OwnC.from {w w' : World} {base n : Nat} {v : Value} {f : Nat → Int} (h : OwnC w base v n f) (hb : Below w.heap.size w w') : OwnC w' base v n f := h.below hb
/-- A new row of one byte, of two. -/
theorem one_new (w : World) (y : Int) : ByteRow (w.alloc (.cells #[.int .u8 y] 5)) (some ⟨w.heap.size, 0, none⟩) 1 1 (fun _ => y) := by
  have hl : (w.alloc (.cells #[.int .u8 y] 5)).heap[w.heap.size]? = some (.cells (rowF 1 (fun _ => y)) 5 (0, 0)) := heap_alloc_last _ _
  exact ByteRow.of_row (off := 0) (n := 1) (cap := 1) hl (by omega) (Nat.le_refl _)
theorem two_new (w : World) (y z : Int) : ByteRow (w.alloc (.cells #[.int .u8 y, .int .u8 z] 5)) (some ⟨w.heap.size, 0, none⟩) 2 2 (fun i => if i = 0 then y else z) := by
  have hl : (w.alloc (.cells #[.int .u8 y, .int .u8 z] 5)).heap[w.heap.size]? = some (.cells (rowF 2 (fun i => if i = 0 then y else z)) 5 (0, 0)) := heap_alloc_last _ _
  exact (ByteRow.of_row (off := 0) (n := 2) (cap := 2) hl (by omega) (Nat.le_refl _)).congr (fun i _ => by rw [Nat.zero_add])
set_option maxHeartbeats 2000000 in
theorem rident_new (s : ByteArray) (rev : Int) (ao : Option Addr) (n cap : Nat) (vs ts : Nat → Int) (w : World) (hs : s.size ≤ 32) (hv : 0 ≤ rev ∧ rev ≤ 65535) (hR : Rg.Right vs ts n) (hr : WayRow w ao n cap vs ts) :
    Calls Tryd.prog 14 #[.agg #[.string s, .int .i64 rev, .slice ao n cap]] w fun e w' => ∃ ro rc, e = .returned (.slice ro 50 rc) ∧ ByteRow w' ro 50 rc (Rg.ident s rev (Md.dg (Rg.dig vs ts n))) ∧ Below w.heap.size w w' ∧ ∀ ad, ro = some ad → w.heap.size < ad.block := by
  have HRt : Hid (Rg.Right vs ts n) := hR
  obtain ⟨P, HP⟩ : ∃ P, Hid (P = Rg.ident s rev (Md.dg (Rg.dig vs ts n))) := ⟨_, rfl⟩
  have HP0 : Hid (∀ i, i < s.size → Rg.nb s i = P i) := by
    intro i hi
    rw [HP.out]
    unfold Rg.ident
    rw [if_pos (by omega), if_pos hi]
  have HP1 : Hid (∀ k, s.size ≤ k → k < 32 → ∀ i, i < k + 1 → cat k P (fun _ => 0) i = P i) := by
    intro k h1 h2 i hi
    unfold cat
    by_cases e : i < k
    · rw [if_pos e]
    · rw [if_neg e, HP.out]
      unfold Rg.ident
      rw [if_pos (by omega), if_neg (by omega)]
  have HP2 : Hid (∀ i, i < 34 → cat 32 P (fun i => if i = 0 then rev / 256 else rev % 256) i = P i) := by
    intro i hi
    unfold cat
    by_cases e : i < 32
    · rw [if_pos e]
    · rw [if_neg e, HP.out]
      unfold Rg.ident
      rw [if_neg e]
      show (if i - 32 = 0 then rev / 256 else rev % 256) = _
      by_cases e2 : i = 32
      · rw [if_pos (show i - 32 = 0 by omega), if_pos e2]
      · rw [if_neg (show ¬ i - 32 = 0 by omega), if_neg e2, if_pos (show i = 33 by omega)]
  have HP3 : Hid (∀ i, i < 50 → cat 34 P (Md.dg (Rg.dig vs ts n)) i = P i) := by
    intro i hi
    unfold cat
    by_cases e : i < 34
    · rw [if_pos e]
    · rw [if_neg e, HP.out]
      unfold Rg.ident
      rw [if_neg (by omega), if_neg (by omega), if_neg (by omega)]
  obtain ⟨ccap, cur, w1, hrun, hbr, hb1, hz1, hrow1, hcs1, hcl1⟩ := conv_bytes (w.alloc (.cells #[.string s, .int .i64 rev, .slice ao n cap] 24)) s
  have hza : (w.alloc (.cells #[.string s, .int .i64 rev, .slice ao n cap] 24)).heap.size = w.heap.size + 1 := by simp
  rw [hza] at hrun hbr hb1 hz1 hrow1
  have HO1 : Hid (OwnC w1 (w.heap.size + 1) (.slice (some ⟨w.heap.size + 1, 0, none⟩) s.size ccap) s.size P) := by
    refine (ownC_of_row (f := Rg.nb s) hrow1 (Or.inr (Nat.le_refl _)) hcs1 hcl1 (Nat.le_refl _) (fun i hi => ?_)).congr HP0.out
    obtain ⟨b, off, e0, _, hc⟩ := hbr.2 (by omega)
    cases e0
    have := hc i hi
    rw [Nat.zero_add, cell_of_row _ _ _ _ _ _ hrow1] at this
    exact this
  have HW : Hid (∀ W, Below (w.heap.size + 1) w1 W → W.cell? ⟨w.heap.size, 0, none⟩ = some (.string s) ∧ W.cell? ⟨w.heap.size, 1, none⟩ = some (.int .i64 rev) ∧ W.cell? ⟨w.heap.size, 2, none⟩ = some (.slice ao n cap) ∧ WayRow W ao n cap vs ts ∧ Below w.heap.size w W ∧ w.heap.size + 2 ≤ W.heap.size) := by
    intro W hW
    have hb2 := hb1.trans hW
    have h := rg_cells ((hb2.block w.heap.size (by omega)).trans (heap_alloc_last w (.cells #[.string s, .int .i64 rev, .slice ao n cap] 24)))
    have hl : Below w.heap.size w W := (below_alloc1 w _).trans (hb2.mono (by omega))
    have hsz := hW.size
    exact ⟨h.1, h.2.1, h.2.2, hr.below hl, hl, by omega⟩
  clear hbr hb1 hza hr hR hrow1 hcs1 hz1
  go_enter Tryd.func14, Tryd.ntmps14
  go_wp2_with fail
  go_loopw [3] (fun v wr => ∃ k : Nat, s.size ≤ k ∧ k ≤ 32 ∧ Hid (OwnC wr (w.heap.size + 1) v k P) ∧ Hid (Below (w.heap.size + 1) w1 wr)) (fun v _ => 32 - slen v)
  case atStart => exact ⟨s.size, Nat.le_refl _, hs, HO1, Below.refl _ _⟩
  case round =>
    clear hrun HO1
    obtain ⟨k, hk0, hk, hX, hB⟩ := hrel
    obtain ⟨g, gc, rfl, hx1⟩ := hX.out
    have HX : Hid (OwnC wr (w.heap.size + 1) (.slice (some ⟨g, 0, none⟩) k gc) k P) := hX
    obtain ⟨c0, c1, c2, hway, hlow, hsz⟩ := HW.out _ hB.out
    have HWY : Hid (WayRow wr ao n cap vs ts) := hway
    have HLW : Hid (Below w.heap.size w wr) := hlow
    clear hx1 hX hway hlow
    by_cases hlt : k < 32
    · have HA : Hid (∀ v3 w3, OwnC w3 (w.heap.size + 1) v3 (k + 1) (cat k P (fun _ => 0)) → Below (w.heap.size + 1) (wr.alloc (.cells #[.int .u8 0] 5)) w3 → OwnC w3 (w.heap.size + 1) v3 (k + 1) P ∧ Below (w.heap.size + 1) w1 w3 ∧ slen v3 = k + 1) := by
        intro v3 w3 h1 h2
        refine ⟨h1.congr (HP1.out k hk0 hlt), (hB.out.alloc (by omega) _).trans h2, ?_⟩
        obtain ⟨g3, c3, rfl, _⟩ := h1
        rfl
      clear HP0 HP1 HP2 HP3 HW
      go_wp2_with (at_builtin; refine wpList_append_c rfl (.tmp 10) (.tmp 11) rfl (w.heap.size + 1) _ k P rfl (HX.out.below (below_alloc1 _ _)) wr.heap.size 0 1 1 (fun _ => 0) rfl (one_new wr 0) (by omega) (by omega) (by simp; omega) ?_; intro v3 w3 ho3 hb3; obtain ⟨hp1, hp2, hp3⟩ := HA.out v3 w3 ho3 hb3; have HO3 : Hid (OwnC w3 (w.heap.size + 1) v3 (k + 1) P) := hp1; have HB3 : Hid (Below (w.heap.size + 1) w1 w3) := hp2; have HS3 : Hid (slen v3 = k + 1) := hp3; clear ho3 hb3 hp1 hp2 hp3)
      exact ⟨⟨k + 1, by omega, by omega, HO3, HB3⟩, by rw [HS3.out]; show 32 - (k + 1) < 32 - k; omega⟩
    · obtain rfl : k = 32 := by omega
      obtain ⟨v1, v2⟩ := hv
      have HA : Hid (∀ o v3 w3, OwnC w3 (w.heap.size + 1) v3 34 (cat 32 P (fun i => if i = 0 then rev / 256 else rev % 256)) → Below (w.heap.size + 1) (wr.alloc o) w3 → ∃ g3 c3, v3 = .slice (some ⟨g3, 0, none⟩) 34 c3 ∧ Hid (OwnC w3 (w.heap.size + 1) (.slice (some ⟨g3, 0, none⟩) 34 c3) 34 P) ∧ Hid (Below (w.heap.size + 1) w1 w3)) := by
        intro o v3 w3 h1 h2
        have h3 := h1.congr HP2.out
        obtain ⟨g3, c3, rfl, _⟩ := h1
        exact ⟨g3, c3, rfl, h3, (hB.out.alloc (by omega) _).trans h2⟩
      clear HP0 HP1 HP2 HWY HLW
      go_wp2_with (at_builtin; refine wpList_append_c rfl (.tmp 13) (.tmp 22) rfl (w.heap.size + 1) _ 32 P rfl (HX.out.below (below_alloc1 _ _)) wr.heap.size 0 2 2 (fun i => if i = 0 then rev / 256 else rev % 256) rfl (two_new wr _ _) (by omega) (by omega) (by simp; omega) ?_; intro v3 w3 ho3 hb3; obtain ⟨g3, c3, rfl, HO3, HB3⟩ := HA.out _ v3 w3 ho3 hb3; clear ho3 hb3; obtain ⟨k0, k1, k2, hway3, hlow3, hsz3⟩ := HW.out _ HB3.out; have HWY3 : Hid (WayRow w3 ao n cap vs ts) := hway3; have HLW3 : Hid (Below w.heap.size w w3) := hlow3; clear hway3 hlow3)
      refine (rdigest_any s rev ao n cap vs ts _ HRt.out HWY3.out).mono ?_
      rintro e w4 ⟨ro, rc, rfl, hr4, hb4⟩
      obtain ⟨xg, xo, rfl, _, _⟩ := hr4.2 (by omega)
      have HR4 : Hid (ByteRow w4 (some ⟨xg, xo, none⟩) 16 rc (Md.dg (Rg.dig vs ts n))) := hr4
      have HO4 : Hid (OwnC w4 (w.heap.size + 1) (.slice (some ⟨g3, 0, none⟩) 34 c3) 34 P) := HO3.out.below hb4
      have HLW4 : Hid (Below w.heap.size w w4) := HLW3.out.trans (hb4.mono HLW3.out.size)
      have hsz4 : w.heap.size + 1 ≤ w4.heap.size := by have := hb4.size; omega
      have HA2 : Hid (∀ v5 w5, OwnC w5 (w.heap.size + 1) v5 50 (cat 34 P (Md.dg (Rg.dig vs ts n))) → Below (w.heap.size + 1) w4 w5 → ∃ g5 c5, v5 = .slice (some ⟨g5, 0, none⟩) 50 c5 ∧ Hid (ByteRow w5 (some ⟨g5, 0, none⟩) 50 c5 P) ∧ Hid (Below w.heap.size w w5) ∧ Hid (w.heap.size < g5)) := by
        intro v5 w5 h1 h2
        obtain ⟨g5, c5, rfl, h3⟩ := (h1.congr HP3.out).bytes
        obtain ⟨g6, c6, e6, hg, _⟩ := h1
        cases e6
        exact ⟨g5, c5, rfl, h3, HLW4.out.trans (h2.mono (by omega)), hg⟩
      clear hr4 hb4 HO3 HB3 HLW3 HWY3 k0 k1 k2 HA HX HW hB c0 c1 c2 HRt
      go_wp2_with (at_builtin; refine wpList_append_c rfl (.tmp 24) (.tmp 26) rfl (w.heap.size + 1) _ 34 P rfl HO4.out xg xo 16 rc _ rfl HR4.out (by omega) (by omega) hsz4 ?_; intro v5 w5 ho5 hb5; obtain ⟨g5, c5, rfl, HR5, HB5, HG5⟩ := HA2.out v5 w5 ho5 hb5; clear ho5 hb5)
      go_ret
      exact ⟨_, c5, rfl, by rw [← HP.out]; exact HR5.out, HB5.out, fun ad e => by cases e; exact HG5.out⟩
theorem rident_any (s : ByteArray) (rev : Int) (ao : Option Addr) (n cap : Nat) (vs ts : Nat → Int) (w : World) (hs : s.size ≤ 32) (hv : 0 ≤ rev ∧ rev ≤ 65535) (hR : Rg.Right vs ts n) (hr : WayRow w ao n cap vs ts) :
    Calls Tryd.prog 14 #[.agg #[.string s, .int .i64 rev, .slice ao n cap]] w fun e w' => ∃ ro rc, e = .returned (.slice ro 50 rc) ∧ ByteRow w' ro 50 rc (Rg.ident s rev (Md.dg (Rg.dig vs ts n))) ∧ Below w.heap.size w w' := by
  refine (rident_new s rev ao n cap vs ts w hs hv hR hr).mono ?_
  rintro e w' ⟨ro, rc, h1, h2, h3, _⟩
  exact ⟨ro, rc, h1, h2, h3⟩
end Go.Proofs.YtconlnoolenhjaaDoor
