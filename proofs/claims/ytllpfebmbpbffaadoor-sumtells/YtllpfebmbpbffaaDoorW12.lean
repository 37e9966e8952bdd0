/- walks: hex -/
import Derived.Test.YtllpfebmbpbffaaDoorW4
import Derived.Laws.IdiomStrings
namespace Go.Proofs.YtllpfebmbpbffaaDoor
open Go.RowKit

def nib (n c : Int) : Int := if 97 ≤ c then ((16 * n + c - 97) % 256 + 10) % 256 else ((16 * n + c) % 256 - 48) % 256
def byteAt (s : ByteArray) (i : Nat) : Int := ((s.data.toList.getD i 0).toNat : Int)
def nibTo (s : ByteArray) (k : Nat) : Nat → Int
  | 0 => 0
  | j + 1 => nib (nibTo s k j) (byteAt s (2 * k + j))
def hx (s : ByteArray) (i : Nat) : Int := nibTo s i 2

theorem conv2 (w : World) (s : ByteArray) (k : Nat) (h : 2 * k + 2 ≤ s.size) : ∃ cap W1, (convert 9 22 (.string (s.extract (2 * k) (2 * k + 2)))).run Tryd.prog w = .ok (.slice (some ⟨w.heap.size, 0, none⟩) 2 cap) W1 ∧
    (∀ j, j < 2 → W1.cell? ⟨w.heap.size, j, none⟩ = some (.int .u8 (byteAt s (2 * k + j)))) ∧ w.heap.size < W1.heap.size ∧ Below w.heap.size w W1 := by
  have hsz : (s.extract (2 * k) (2 * k + 2)).size = 2 := by simp [ByteArray.size_extract]; omega
  have e := run_bytes_of_string (P := Tryd.prog) w 9 22 5 (s.extract (2 * k) (2 * k + 2)) Tryd.underlying9 Tryd.underlying22 Tryd.underlying5
  rw [hsz] at e
  refine ⟨_, _, e, fun j hj => ?_, ?_, ?_⟩
  · rw [cell_of_row _ w.heap.size j _ _ _ (heap_alloc_last w.drew _), bytesRow_at _ _ _ (by show j < (s.extract (2 * k) (2 * k + 2)).size; omega)]
    have hk : 2 * k + j < s.data.size := by have : s.data.size = s.size := rfl; omega
    have e1 : byteAt s (2 * k + j) = ((s.data[2 * k + j]'hk).toNat : Int) := by
      unfold byteAt
      rw [List.getD_eq_getElem?_getD, Array.getElem?_toList, Array.getElem?_eq_getElem hk]
      rfl
    rw [e1]
    simp [ByteArray.data_extract, Array.getElem_extract]
  · simp
  · exact (Below.refl _ w).drew.alloc (Nat.le_refl _) _

theorem info5 : (Tryd.prog.info? 5).map (fun i => (i.zero, i.size, i.bytes)) = some (some (.int .u8 0), 1, 1) := by kernel_rfl
theorem owns_below {w w' : World} {base e size n : Nat} {v : Value} {xs : List Value} (h : w.ownsRow base e size v n xs) (hb : Below w.heap.size w w') : w'.ownsRow base e size v n xs := by
  obtain ⟨h1, h2⟩ := h
  refine ⟨h1, ?_⟩
  rcases h2 with h2 | ⟨g, cap, cur, hv, hg, hh, r⟩
  · exact Or.inl h2
  · exact Or.inr ⟨g, cap, cur, hv, hg, by rw [hb.block g (by
      rcases Nat.lt_or_ge g w.heap.size with h | h
      · exact h
      · rw [Array.getElem?_eq_none h] at hh; cases hh)]; exact hh, r⟩

theorem owns_block {w : World} {base e size n : Nat} {v : Value} {xs : List Value} (h : w.ownsRow base e size v n xs) : ∀ k, v.ownBlock = some k → base ≤ k := by
  intro k hk
  obtain ⟨_, h2⟩ := h
  rcases h2 with ⟨rfl, _⟩ | ⟨g, cap, cur, rfl, hg, _⟩
  · simp [Value.ownBlock] at hk
  · simp [Value.ownBlock] at hk; omega
theorem owns_row {w : World} {base n : Nat} {v : Value} {f : Nat → Int} (h : w.ownsRow base 5 1 v n ((List.range n).map fun i => Value.int .u8 (f i))) : ∃ ao cap, v = .slice ao n cap ∧ ByteRow w ao n cap f ∧ cap ≤ maxLen := by
  have h' := h
  obtain ⟨_, h2⟩ := h
  rcases h2 with ⟨rfl, rfl⟩ | ⟨g, cap, cur, rfl, hg, hh, hn, hm, _, _⟩
  · exact ⟨none, 0, rfl, ⟨Nat.le_refl _, fun h => absurd h (by omega)⟩, by unfold maxLen; omega⟩
  · refine ⟨_, cap, rfl, ⟨hn, fun hp => ⟨g, 0, rfl, ?_, fun i hi => ?_⟩⟩, hm⟩
    · rcases Nat.lt_or_ge g w.heap.size with h | h
      · exact h
      · rw [Array.getElem?_eq_none h] at hh; cases hh
    · rw [Nat.zero_add, h'.cellAt i (by omega)]
      simp [hi]

set_option maxHeartbeats 1000000 in
theorem hex_any (s : ByteArray) (m : Nat) (w : World) (hs : s.size = 2 * m) (hm : m ≤ 1000)  :
    Calls Tryd.prog 12 #[.string s] w fun e w' => ∃ ao cap, e = .returned (.slice ao m cap) ∧ ByteRow w' ao m cap (hx s) ∧ Below w.heap.size w w' := by
  have HS : Hid _ := hs
  clear hs
  go_enter Tryd.func12, Tryd.ntmps12
  go_wp2
  go_loopw [3, 4] (fun v i wr => ∃ k : Nat, k ≤ m ∧ i = .int .i64 (2 * k) ∧ Hid (wr.ownsRow w.heap.size 5 1 v k ((List.range k).map fun i => Value.int .u8 (hx s i)) ∧ Below w.heap.size w wr)) (fun _ i _ => 2 * m - (intOf i).toNat)
  case atStart => exact ⟨0, by omega, rfl, World.ownsRow_nil _ _ _ _, Below.refl _ _⟩
  case round =>
    obtain ⟨k, hk, rfl, hX⟩ := hrel
    by_cases hlt : k < m
    · have hs1 : 2 * k + 1 < s.size := by have := HS.out; omega
      have hs2 : 2 * k + 2 ≤ s.size := by have := HS.out; omega
      have hs3 : s.size ≤ 2000 := by have := HS.out; omega
      have hd : decide (2 * (k : Int) + 1 < (s.size : Int)) = true := by simp; omega
      obtain ⟨cap, W1, hcv, hcell, hw1, hb1⟩ := conv2 wr s k hs2
      have HCELL : Hid _ := hcell
      have HB1 : Hid _ := hb1
      clear hcell hb1
      go_wp2_with fail
      go_loop [5, 22] (fun n i => ∃ j : Nat, j ≤ 2 ∧ i = .int .i64 j ∧ n = .int .u8 (nibTo s k j)) (fun _ i => 2 - (intOf i).toNat)
      case atStart => exact ⟨0, by omega, rfl, rfl⟩
      case round =>
        obtain ⟨j, hj, rfl, rfl⟩ := hrel
        by_cases hlt2 : j < 2
        · have hc1 := HCELL.out j hlt2
          have HN : Hid (nibTo s k (j + 1) = nib (nibTo s k j) (byteAt s (2 * k + j))) := rfl
          generalize byteAt s (2 * k + j) = c at *
          by_cases hc : 97 ≤ c
          · have HN2 : Hid (nibTo s k (j + 1) = ((16 * nibTo s k j + c - 97) % 256 + 10) % 256) := by rw [HN.out, nib, if_pos hc]; rfl
            go_wp2
            exact ⟨⟨j + 1, by omega, by go_num, by rw [HN2.out]⟩, by simp [intOf]; omega⟩
          · have HN2 : Hid (nibTo s k (j + 1) = ((16 * nibTo s k j + c) % 256 - 48) % 256) := by rw [HN.out, nib, if_neg hc]; rfl
            go_wp2
            exact ⟨⟨j + 1, by omega, by go_num, by rw [HN2.out]⟩, by simp [intOf]; omega⟩
        · obtain rfl : j = 2 := by omega
          obtain ⟨i0, hi, hz0, hz1, hz2⟩ := info_parts info5
          have HO : Hid (W1.ownsRow w.heap.size 5 1 u3 k ((List.range k).map fun i => Value.int .u8 (hx s i))) := owns_below hX.out.1 HB1.out
          have HBW : Hid (Below w.heap.size w W1) := hX.out.2.trans (HB1.out.mono hX.out.2.size)
          clear hX HB1 HCELL hcv
          go_wp2_with (at_builtin; refine wpList_append_own _ rfl (.tmp 40) (.tmp 42) 22 rfl w.heap.size 5 i0 (.int .u8 0) 1 1 Tryd.underlying22 hi hz0 hz1 hz2 rfl (by decide) _ _ _ rfl (HO.out.alloc _) ⟨W1.heap.size, 0, none⟩ 1 1 [.int .u8 (nibTo s k 2)] rfl rfl (cell_one_new _ _ _) (by simp [Value.oneCell']) (by unfold maxLen; omega) (by omega) (by have := HBW.out.size; simp; omega) ?_; intro v' w2 hown2 hgrow2 _; have HO2 : Hid _ := hown2; have HG2 : Hid _ := hgrow2; clear hown2 hgrow2)
          have HB2 : Below w.heap.size w w2 := (HBW.out.alloc HBW.out.size _).grown HG2.out (by have := HBW.out.size; simp; omega) (owns_block HO.out)
          have HO3 : w2.ownsRow w.heap.size 5 1 v' (k + 1) ((List.range (k + 1)).map fun i => Value.int .u8 (hx s i)) := by
            rw [List.range_succ, List.map_append]; exact HO2.out
          exact ⟨⟨k + 1, by omega, by go_num, HO3, HB2⟩, by simp [intOf]; omega⟩
    · obtain rfl : k = m := by omega
      have hd : decide (2 * (k : Int) + 1 < (s.size : Int)) = false := by have := HS.out; simp; omega
      have hd2 : ¬ (2 * (k : Int) + 1 < (s.size : Int)) := by have := HS.out; omega
      have hs3 : s.size ≤ 2000 := by have := HS.out; omega
      obtain ⟨ao, cap, rfl, hrow, _⟩ := owns_row hX.out.1
      have HR : Hid _ := hrow
      clear hrow
      go_wp2
      go_ret
      exact ⟨ao, cap, rfl, HR.out, hX.out.2⟩
end Go.Proofs.YtllpfebmbpbffaaDoor
