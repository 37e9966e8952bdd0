/- walks: region.isName, wrongWays, Wrong -/
import Derived.Test.YtcbpafpaimpfnaaGreatDoorGW1
import Derived.Laws.IdiomStrings
namespace Go.Proofs.YtcbpafpaimpfnaaGreatDoor
open Go.RowKit

/-- '[]byte(s)': a new row. -/
theorem conv_bytes (w : World) (s : ByteArray) : ∃ cap cur w1, (convert 9 93 (.string s)).run Tryz.prog w = .ok (.slice (some ⟨w.heap.size, 0, none⟩) s.size cap) w1 ∧ ByteRow w1 (some ⟨w.heap.size, 0, none⟩) s.size cap (Rg.nb s) ∧ Below w.heap.size w w1 ∧ w1.heap.size = w.heap.size + 1 ∧
    w1.heap[w.heap.size]? = some (.cells cur 5 (cur.size, cur.size + 1)) ∧ cur.size = cap ∧ s.size ≤ cap := by
  have hrun := run_bytes_of_string (P := Tryz.prog) w 9 93 5 s Tryz.underlying9 Tryz.underlying93 Tryz.underlying5
  generalize hcap : grownCap w s.size 0 5 = cap at hrun
  have hle : s.size ≤ cap := by rw [← hcap]; exact grownCap_ge w s.size 0 5
  have hsz : (bytesRow s cap).size = cap := by
    have h1 : s.data.size = s.size := rfl
    simp only [bytesRow, Array.size_append, Array.size_map, Array.size_replicate]
    omega
  refine ⟨cap, bytesRow s cap, _, hrun, ⟨hle, fun _ => ⟨w.heap.size, 0, rfl, by simp, fun i hi => ?_⟩⟩, (Below.refl _ _).drew.alloc (by simp) _, by simp, ?_, hsz, hle⟩
  · have hh : (w.drew.alloc (.cells (bytesRow s cap) 5 ((bytesRow s cap).size, (bytesRow s cap).size + 1))).heap[w.heap.size]? = some (.cells (bytesRow s cap) 5 ((bytesRow s cap).size, (bytesRow s cap).size + 1)) := heap_alloc_last w.drew _
    refine (cell_of_row _ _ _ _ _ _ hh).trans ?_
    unfold bytesRow Rg.nb
    have hi' : i < s.data.size := hi
    rw [Nat.zero_add, Array.getElem?_append_left (by simpa using hi')]
    simp [List.getD, Array.getElem?_eq_getElem hi']
  · exact heap_alloc_last w.drew _
set_option maxHeartbeats 400000 in
theorem gisName_any (s : ByteArray) (w : World) :
    Calls Tryz.prog 80 #[.string s] w fun e w' => e = .returned (.bool (Rg.isName s)) ∧ Below w.heap.size w w' := by
  by_cases c : 1 ≤ s.size ∧ s.size ≤ 32
  · have c1 : decide ((1 : Int) ≤ (s.size : Int) ∧ (s.size : Int) ≤ 32) = true := decide_eq_true (by omega)
    have e1 : Rg.isName s = !Rg.anyOdd (Rg.nb s) s.size := by unfold Rg.isName; simp [c.1, c.2]
    rw [e1]
    obtain ⟨cap, cur, w1, hrun, hr, hb, _, _, _, _⟩ := conv_bytes w s
    have HR : Hid (ByteRow w1 (some ⟨w.heap.size, 0, none⟩) s.size cap (Rg.nb s)) := hr
    have HB : Hid (Below w.heap.size w w1) := hb
    have hs := c.2
    clear hr hb e1 c
    go_enter Tryz.func80, Tryz.ntmps80
    go_wp2_with (first | (go_at_call 28; refine (gwithin_any _ _ _ _).mono ?_; rintro e w2 ⟨rfl, rfl⟩; rw [c1]) | (go_at_call 102; refine (gcontains_any _ _ _ _ _ hs HR.out).mono ?_; rintro e w2 ⟨rfl, rfl⟩))
    go_ret
    exact ⟨rfl, HB.out⟩
  · have c1 : decide ((1 : Int) ≤ (s.size : Int) ∧ (s.size : Int) ≤ 32) = false := decide_eq_false (by omega)
    have e1 : Rg.isName s = false := by
      unfold Rg.isName
      by_cases c2 : 1 ≤ s.size
      · have c3 : ¬ s.size ≤ 32 := fun h => c ⟨c2, h⟩
        simp [c3]
      · simp [c2]
    rw [e1]
    clear e1 c
    go_enter Tryz.func80, Tryz.ntmps80
    go_wp2_with (go_at_call 28; refine (gwithin_any _ _ _ _).mono ?_; rintro e w2 ⟨rfl, rfl⟩; rw [c1])
    go_ret
    exact ⟨rfl, Below.refl _ _⟩
/-- A slice of n ways. -/
def WayRow (w : World) (ao : Option Addr) (n cap : Nat) (vs ts : Nat → Int) : Prop :=
  n ≤ cap ∧ (0 < n → ∃ b off, ao = some ⟨b, off, none⟩ ∧ b < w.heap.size ∧ ∀ i, i < n → w.cell? ⟨b, off + i * 2, none⟩ = some (.int .i64 (vs i)) ∧ w.cell? ⟨b, off + i * 2 + 1, none⟩ = some (.int .i64 (ts i)))
theorem WayRow.below {w w' : World} {ao : Option Addr} {n cap : Nat} {vs ts : Nat → Int} (h : WayRow w ao n cap vs ts) (hb : Below w.heap.size w w') : WayRow w' ao n cap vs ts := by
  refine ⟨h.1, fun hp => ?_⟩
  obtain ⟨b, off, e, hlt, hc⟩ := h.2 hp
  exact ⟨b, off, e, Nat.lt_of_lt_of_le hlt hb.size, fun i hi => ⟨(hb.cell (by exact hlt)).trans (hc i hi).1, (hb.cell (by exact hlt)).trans (hc i hi).2⟩⟩
set_option maxHeartbeats 1000000 in
theorem gways_any (ao : Option Addr) (n cap : Nat) (vs ts : Nat → Int) (w : World) (hn : n ≤ 9223372036854775807) (hr : WayRow w ao n cap vs ts) :
    Calls Tryz.prog 81 #[.slice ao n cap] w fun e w' => e = .returned (.int .i64 (Rg.wrongTo vs ts n)) ∧ Below w.heap.size w w' := by
  have HR : Hid (WayRow w ao n cap vs ts) := hr
  clear hr
  go_enter Tryz.func81, Tryz.ntmps81
  go_wp2_with fail
  go_loopw [3, 8] (fun a i wr => ∃ k : Nat, k ≤ n ∧ i = .int .i64 k ∧ a = .int .i64 (Rg.last vs k) ∧ Hid (Rg.wrongTo vs ts k = 0) ∧ Hid (Below w.heap.size w wr)) (fun _ i _ => n - (intOf i).toNat)
  case atStart => exact ⟨0, by omega, rfl, rfl, rfl, Below.refl _ _⟩
  case round =>
    obtain ⟨k, hk, rfl, rfl, hX, hB⟩ := hrel
    by_cases hlt : k < n
    · obtain ⟨b, off, rfl, hb, hc⟩ := HR.out.2 (by omega)
      have hcap := HR.out.1
      have hbw : b < wr.heap.size := Nat.lt_of_lt_of_le hb hB.out.size
      have c0 : wr.cell? ⟨b, off + k * 2, none⟩ = some (.int .i64 (vs k)) := (hB.out.cell (by exact hb)).trans (hc k hlt).1
      have c1 : wr.cell? ⟨b, off + k * 2 + 1, none⟩ = some (.int .i64 (ts k)) := (hB.out.cell (by exact hb)).trans (hc k hlt).2
      have HE : Hid (Rg.wayErr (Rg.last vs k) (vs k) (ts k) ≠ 0 → Rg.wrongTo vs ts n = Rg.wayErr (Rg.last vs k) (vs k) (ts k)) := fun h => Rg.wrongTo_here vs ts k n hlt hX.out h
      have HZ : Hid (Rg.wayErr (Rg.last vs k) (vs k) (ts k) = 0 → Rg.wrongTo vs ts (k + 1) = 0) := fun h => Rg.wrongTo_succ vs ts k hX.out h
      have HL : Hid (Rg.last vs (k + 1) = vs k) := by show Rg.last vs (k + 1) = vs k; unfold Rg.last; rw [if_neg (by omega)]; rfl
      have HBL : Hid (∀ o, Below w.heap.size w (wr.alloc o)) := fun o => hB.out.alloc hB.out.size _
      clear hc HR hX hB
      generalize Rg.last vs k = l at *
      generalize vs k = v at *
      generalize ts k = t at *
      by_cases h1 : 1 ≤ v ∧ v ≤ 4094
      · have d1 : decide (1 ≤ v ∧ v ≤ 4094) = true := decide_eq_true h1
        by_cases h2 : 1 ≤ t ∧ t ≤ 15
        · have d2 : decide (1 ≤ t ∧ t ≤ 15) = true := decide_eq_true h2
          by_cases h3 : v ≤ l
          · have HW : Hid (Rg.wayErr l v t = 2) := by show Rg.wayErr l v t = 2; unfold Rg.wayErr; rw [if_pos ⟨h1, h2⟩, if_pos h3]
            clear h1 h2
            go_wp2_with (go_at_call 28; refine (gwithin_any _ _ _ _).mono ?_; rintro e w2 ⟨rfl, rfl⟩; first | rw [d1] | rw [d2])
            go_ret
            exact ⟨by rw [HE.out (by rw [HW.out]; decide), HW.out]; rfl, HBL.out _⟩
          · have HW : Hid (Rg.wayErr l v t = 0) := by show Rg.wayErr l v t = 0; unfold Rg.wayErr; rw [if_pos ⟨h1, h2⟩, if_neg h3]
            clear h1 h2
            go_wp2_with (go_at_call 28; refine (gwithin_any _ _ _ _).mono ?_; rintro e w2 ⟨rfl, rfl⟩; first | rw [d1] | rw [d2])
            exact ⟨⟨k + 1, by omega, by go_num, by rw [HL.out], HZ.out HW.out, HBL.out _⟩, by simp [intOf]; omega⟩
        · have d2 : decide (1 ≤ t ∧ t ≤ 15) = false := decide_eq_false h2
          have HW : Hid (Rg.wayErr l v t = 3) := by show Rg.wayErr l v t = 3; unfold Rg.wayErr; rw [if_neg (fun h => h2 h.2)]
          clear h1 h2
          go_wp2_with (go_at_call 28; refine (gwithin_any _ _ _ _).mono ?_; rintro e w2 ⟨rfl, rfl⟩; first | rw [d1] | rw [d2])
          go_ret
          exact ⟨by rw [HE.out (by rw [HW.out]; decide), HW.out]; rfl, HBL.out _⟩
      · have d1 : decide (1 ≤ v ∧ v ≤ 4094) = false := decide_eq_false h1
        have HW : Hid (Rg.wayErr l v t = 3) := by show Rg.wayErr l v t = 3; unfold Rg.wayErr; rw [if_neg (fun h => h1 h.1)]
        clear h1
        go_wp2_with (go_at_call 28; refine (gwithin_any _ _ _ _).mono ?_; rintro e w2 ⟨rfl, rfl⟩; rw [d1])
        go_ret
        exact ⟨by rw [HE.out (by rw [HW.out]; decide), HW.out]; rfl, HBL.out _⟩
    · obtain rfl : k = n := by omega
      go_wp2
      go_ret
      exact ⟨by rw [hX.out]; rfl, hB.out⟩
/-- A region's three cells, in a block of their own. -/
theorem rg_cells {w : World} {g : Nat} {a0 a1 a2 : Value} {ty : TypeId} (h : w.heap[g]? = some (.cells #[a0, a1, a2] ty (0, 0))) :
    w.cell? ⟨g, 0, none⟩ = some a0 ∧ w.cell? ⟨g, 1, none⟩ = some a1 ∧ w.cell? ⟨g, 2, none⟩ = some a2 :=
  ⟨cell_of_row w g 0 _ _ _ h, cell_of_row w g 1 _ _ _ h, cell_of_row w g 2 _ _ _ h⟩
set_option maxHeartbeats 1000000 in
theorem gwrong_any (s : ByteArray) (rev : Int) (ao : Option Addr) (n cap : Nat) (vs ts : Nat → Int) (w : World) (hn : n ≤ 9223372036854775807) (hr : WayRow w ao n cap vs ts) :
    Calls Tryz.prog 68 #[.agg #[.string s, .int .i64 rev, .slice ao n cap]] w fun e w' => e = .returned (.int .i64 (Rg.wrong s rev vs ts n)) ∧ Below w.heap.size w w' := by
  have HR : Hid (WayRow w ao n cap vs ts) := hr
  clear hr
  have HB : Hid (∀ w1 : World, Below (w.alloc (.cells #[.string s, .int .i64 rev, .slice ao n cap] 38)).heap.size (w.alloc (.cells #[.string s, .int .i64 rev, .slice ao n cap] 38)) w1 → w1.cell? ⟨w.heap.size, 1, none⟩ = some (.int .i64 rev) ∧ w1.cell? ⟨w.heap.size, 2, none⟩ = some (.slice ao n cap) ∧ Hid (Below w.heap.size w w1)) := by
    intro w1 hb
    have h := rg_cells ((hb.block _ (by simp)).trans (heap_alloc_last w (.cells #[.string s, .int .i64 rev, .slice ao n cap] 38)))
    exact ⟨h.2.1, h.2.2, (below_alloc1 w _).trans (hb.mono (by simp))⟩
  unfold Rg.wrong
  cases hnm : Rg.isName s with
  | false =>
    have HN : Hid (Rg.isName s = false) := hnm
    clear hnm
    rw [if_neg (by decide)]
    go_enter Tryz.func68, Tryz.ntmps68
    go_wp2_with (go_at_call 80; refine (gisName_any _ _).mono ?_; rintro e w1 ⟨rfl, hb⟩; rw [HN.out]; obtain ⟨q1, q2, HBB⟩ := HB.out _ hb; clear hb)
    go_ret
    exact ⟨rfl, HBB.out⟩
  | true =>
    have HN : Hid (Rg.isName s = true) := hnm
    clear hnm
    rw [if_pos rfl]
    by_cases h1 : 0 ≤ rev ∧ rev ≤ 65535
    · rw [if_pos h1]
      have d1 : decide (0 ≤ rev ∧ rev ≤ 65535) = true := decide_eq_true h1
      clear h1
      go_enter Tryz.func68, Tryz.ntmps68
      go_wp2_with (first | (go_at_call 80; refine (gisName_any _ _).mono ?_; rintro e w1 ⟨rfl, hb⟩; rw [HN.out]; obtain ⟨q1, q2, HBB⟩ := HB.out _ hb; clear hb) | (go_at_call 28; refine (gwithin_any _ _ _ _).mono ?_; rintro e w2 ⟨rfl, rfl⟩; rw [d1]) | (go_at_call 81; refine (gways_any _ _ _ _ _ _ hn (HR.out.below HBB.out)).mono ?_; rintro e w3 ⟨rfl, hb3⟩))
      go_ret
      exact ⟨rfl, HBB.out.trans (hb3.mono HBB.out.size)⟩
    · rw [if_neg h1]
      have d1 : decide (0 ≤ rev ∧ rev ≤ 65535) = false := decide_eq_false h1
      clear h1
      go_enter Tryz.func68, Tryz.ntmps68
      go_wp2_with (first | (go_at_call 80; refine (gisName_any _ _).mono ?_; rintro e w1 ⟨rfl, hb⟩; rw [HN.out]; obtain ⟨q1, q2, HBB⟩ := HB.out _ hb; clear hb) | (go_at_call 28; refine (gwithin_any _ _ _ _).mono ?_; rintro e w2 ⟨rfl, rfl⟩; rw [d1]))
      go_ret
      exact ⟨rfl, HBB.out⟩
end Go.Proofs.YtcbpafpaimpfnaaGreatDoor
