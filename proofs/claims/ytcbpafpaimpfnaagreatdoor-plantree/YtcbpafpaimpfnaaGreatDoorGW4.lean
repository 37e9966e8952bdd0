/- walks: region.appendPair, digestKey, Digest -/
import Derived.Test.YtcbpafpaimpfnaaGreatDoorGW3
import Derived.Test.YtcbpafpaimpfnaaGreatDoorDW10
namespace Go.Proofs.YtcbpafpaimpfnaaGreatDoor
open Go.RowKit

theorem make_room (w : World) (m c : Nat) (hm : m ≤ c) (hc : c ≤ 100000) : (Instr.makeSlice 93 (.int .i64 (m : Int)) (.int .i64 (c : Int))).run Tryz.prog w = .ok (.slice (some ⟨w.heap.size, 0, none⟩) m c) (w.alloc (.cells (rowF c (fun _ => 0)) 5)) := by
  obtain ⟨i0, hi, hz0, hz1, hz2⟩ := info_parts info5
  have h := run_make (P := Tryz.prog) w 93 5 i0 (.int .u8 0) Tryz.underlying93 hi hz0 .i64 .i64 (m : Int) (c : Int) (by omega) (by omega) (by rw [hz2]; omega) (by omega)
  rw [hz1, Nat.mul_one, Int.toNat_natCast, Int.toNat_natCast, made_zeros] at h
  exact h
theorem owns_room {w : World} {g n c base : Nat} {f : Nat → Int} (h : w.heap[g]? = some (.cells (rowF c f) 5 (0, 0))) (hb : base ≤ g) (hn : n ≤ c) (hc : c ≤ 100000) : w.ownsRow base 5 1 (.slice (some ⟨g, 0, none⟩) n c) n (bytesL n f) := by
  refine ⟨by rw [bytesL_length, Nat.mul_one], Or.inr ⟨g, c, rowF c f, rfl, hb, h, hn, by unfold maxLen; omega, by rw [rowF_size, Nat.mul_one], ?_⟩⟩
  rw [Nat.mul_one]
  apply List.ext_getElem?
  intro i
  show ((bytesL c f).take n)[i]? = _
  by_cases hi : i < n
  · rw [List.getElem?_take_of_lt hi]
    simp [bytesL, hi, show i < c by omega]
  · rw [List.getElem?_eq_none (by simp [bytesL_length]; omega), List.getElem?_eq_none (by rw [bytesL_length]; omega)]
/-- Two bytes more, out of a new row of two. -/
theorem wpList_append_pair {w : World} {ops : Array Oper} {rest : List Oper} {o : Oper} {a : Act} {Q : Exit → Act → World → Prop} (hgd : o.guard = none) (s x : Operand)
    (ho : o.op = .call { callee := .builtin .append, args := #[s, x], argTypes := #[93, 93] }) (base : Nat)
    (v : Value) (n : Nat) (P : Nat → Int) (hs : a.eval s = v) (y z : Int) (hown : w.ownsRow base 5 1 v n (bytesL n P)) (hbase : base ≤ w.heap.size)
    (hx : a.eval x = .slice (some ⟨w.heap.size, 0, none⟩) 2 2) (hy : y = P n) (hz : z = P (n + 1)) (hb : n + 2 ≤ 1000000)
    (h : ∀ v' w', w'.ownsRow base 5 1 v' (n + 2) (bytesL (n + 2) P) → Below base w w' → wpList Tryz.prog ops Q rest (a.put o.dst v') w') : wpList Tryz.prog ops Q (o :: rest) a (w.alloc (.cells #[.int .u8 y, .int .u8 z] 5)) := by
  have hl : (w.alloc (.cells #[.int .u8 y, .int .u8 z] 5)).heap[w.heap.size]? = some (.cells (rowF 2 (fun i => if i = 0 then y else z)) 5 (0, 0)) := heap_alloc_last _ _
  have hr : ByteRow (w.alloc (.cells #[.int .u8 y, .int .u8 z] 5)) (some ⟨w.heap.size, 0, none⟩) 2 2 (fun i => if i = 0 then y else z) :=
    (ByteRow.of_row (off := 0) (n := 2) (cap := 2) hl (by omega) (Nat.le_refl _)).congr (fun i _ => by rw [Nat.zero_add])
  have ho2 := hown.alloc (.cells #[.int .u8 y, .int .u8 z] 5)
  refine wpList_append_bytes hgd s x ho base v n _ hs ho2 _ 2 2 _ hx hr (fun h => by cases h) (by omega) (by simp; omega) ?_
  intro v' w' h1 h2
  refine h v' w' ?_ (grown_own ((Below.refl _ _).alloc hbase _) ho2 (by simp; omega) h2)
  rw [bytesL_append] at h1
  rw [bytesL_congr (n + 2) P (fun i => if i < n then P i else if i - n = 0 then y else z)]
  · exact h1
  · intro i hi
    by_cases e : i < n
    · rw [if_pos e]
    · rw [if_neg e]
      by_cases e2 : i - n = 0
      · rw [if_pos e2, hy, show i = n by omega]
      · rw [if_neg e2, hz, show i = n + 1 by omega]
set_option maxHeartbeats 400000 in
theorem gpair_any (base n : Nat) (v : Value) (P : Nat → Int) (N : Int) (w : World) (hown : w.ownsRow base 5 1 v n (bytesL n P)) (hbase : base ≤ w.heap.size) (h0 : 0 ≤ N ∧ N ≤ 65535) (hy : N / 256 = P n) (hz : N % 256 = P (n + 1)) (hn : n + 2 ≤ 1000000) :
    Calls Tryz.prog 82 #[v, .int .i64 N] w fun e w' => ∃ v', e = .returned v' ∧ w'.ownsRow base 5 1 v' (n + 2) (bytesL (n + 2) P) ∧ Below base w w' := by
  have HO : Hid (w.ownsRow base 5 1 v n (bytesL n P)) := hown
  have HY : Hid (N / 256 = P n) := hy
  have HZ : Hid (N % 256 = P (n + 1)) := hz
  clear hown hy hz
  obtain ⟨h1, h2⟩ := h0
  go_enter Tryz.func82, Tryz.ntmps82
  go_wp2_with (at_builtin; refine wpList_append_pair rfl (.tmp 5) (.tmp 11) rfl base _ n P rfl _ _ HO.out hbase rfl HY.out HZ.out hn ?_; intro v' w' ho hb; have HO2 : Hid (w'.ownsRow base 5 1 v' (n + 2) (bytesL (n + 2) P)) := ho; have HB : Hid (Below base w w') := hb; clear ho hb)
  go_ret
  exact ⟨_, rfl, HO2.out, HB.out⟩
namespace Rg
def keyL : List Int := [19, 172, 6, 166, 46, 71, 253, 81, 249, 93, 43, 162, 67, 205, 3, 70]
def key (i : Nat) : Int := keyL.getD i 0
/-- The digest's state. -/
def dig (vs ts : Nat → Int) (n : Nat) : Md.St := Md.mac 16 key 8192 (pairs vs ts n)
end Rg
set_option maxHeartbeats 400000 in
theorem gkey_any (w : World) :
    Calls Tryz.prog 105 #[] w fun e w' => e = .returned (.slice (some ⟨w.heap.size, 0, none⟩) 16 16) ∧ w'.heap[w.heap.size]? = some (.cells (rowF 16 Rg.key) 5 (0, 0)) ∧ Below w.heap.size w w' := by
  go_enter Tryz.func105, Tryz.ntmps105
  go_wp2
  go_ret
  exact ⟨rfl, heap_alloc_last _ _, below_alloc1 _ _⟩
end Go.Proofs.YtcbpafpaimpfnaaGreatDoor
