/- walks: package book's Flush; slices.Index and Contains at ints -/
import Derived.Test.YtcicenmlpoonaaaBKF
namespace Go.Proofs.Ytcicenmlpoonaaa
open Go.RowKit
open Bk (E at')

/-- A slice of ints: the list l. -/
def ILs (w : World) (ao : Option Addr) (cap : Nat) (l : List Int) : Prop := CRow w ao l.length cap 1 (fun i _ => .int .i64 (l.getD i 0))
theorem ILs.below {w w' : World} {ao : Option Addr} {cap : Nat} {l : List Int} (h : ILs w ao cap l) (hb : Below w.heap.size w w') : ILs w' ao cap l := CRow.below h hb
theorem ILs.cell {w : World} {b off cap : Nat} {l : List Int} (h : ILs w (some ⟨b, off, none⟩) cap l) {i : Nat} (hi : i < l.length) : w.cell? ⟨b, off + i, none⟩ = some (.int .i64 (l.getD i 0)) := by
  obtain ⟨b', off', e, _, hc⟩ := h.2 (by omega)
  cases e
  have := hc i hi 0 (by omega)
  rw [Nat.mul_one, Nat.add_zero] at this
  exact this
theorem ILs.place {w : World} {ao : Option Addr} {cap : Nat} {l : List Int} (h : ILs w ao cap l) (hn : 0 < l.length) : ∃ b off, ao = .some ⟨b, off, .none⟩ ∧ b < w.heap.size := by
  obtain ⟨b, off, e, hb, _⟩ := h.2 hn
  exact ⟨b, off, e, hb⟩
theorem ILs.of {w : World} {ao : Option Addr} {n cap : Nat} {f : Nat → Int} (h : CRow w ao n cap 1 (fun i _ => .int .i64 (f i))) : ILs w ao cap ((List.range n).map f) := by
  unfold ILs
  rw [show ((List.range n).map f).length = n by simp]
  exact h.congr (fun i hi => by simp [hi])
/-- Where n stands first, or -1. -/
def Bk.idx (l : List Int) (n : Int) : Nat → Int
  | 0 => -1
  | k + 1 => if 0 ≤ Bk.idx l n k then Bk.idx l n k else if n = l.getD k 0 then (k : Int) else -1
theorem Bk.idx_contains (l : List Int) (n : Int) : decide (Bk.idx l n l.length ≥ 0) = l.contains n := by
  have H : ∀ k, k ≤ l.length → (0 ≤ Bk.idx l n k ↔ ∃ i, i < k ∧ n = l.getD i 0) := by
    intro k
    induction k with
    | zero => intro _; simp [Bk.idx]
    | succ k ih =>
      intro hk
      have ih := ih (by omega)
      show (0 ≤ if 0 ≤ Bk.idx l n k then Bk.idx l n k else if n = l.getD k 0 then (k : Int) else -1) ↔ _
      by_cases q : 0 ≤ Bk.idx l n k
      · rw [if_pos q]
        obtain ⟨i, hi, he⟩ := ih.1 q
        exact ⟨fun _ => ⟨i, by omega, he⟩, fun _ => q⟩
      · rw [if_neg q]
        by_cases q2 : n = l.getD k 0
        · rw [if_pos q2]
          exact ⟨fun _ => ⟨k, by omega, q2⟩, fun _ => by omega⟩
        · rw [if_neg q2]
          refine ⟨fun h => by omega, ?_⟩
          rintro ⟨i, hi, he⟩
          by_cases e : i = k
          · subst e; exact absurd he q2
          · exact absurd (ih.2 ⟨i, by omega, he⟩) q
  have h := H l.length (Nat.le_refl _)
  have h2 : (∃ i, i < l.length ∧ n = l.getD i 0) ↔ n ∈ l := by
    constructor
    · rintro ⟨i, hi, he⟩
      rw [he]
      simp [hi]
    · intro hm
      obtain ⟨i, hi, he⟩ := List.getElem_of_mem hm
      exact ⟨i, hi, by simp [hi, he]⟩
  by_cases q : n ∈ l
  · rw [decide_eq_true (show Bk.idx l n l.length ≥ 0 from h.2 (h2.2 q))]
    simp [q]
  · rw [decide_eq_false (show ¬ Bk.idx l n l.length ≥ 0 from fun hh => q (h2.1 (h.1 hh)))]
    simp [q]
theorem Bk.idx_stay (l : List Int) (n : Int) (k : Nat) (h : 0 ≤ Bk.idx l n k) : ∀ m, k ≤ m → Bk.idx l n m = Bk.idx l n k := by
  intro m hm
  induction m with
  | zero => obtain rfl : k = 0 := by omega
            rfl
  | succ m ih =>
    by_cases e : k = m + 1
    · subst e; rfl
    · have := ih (by omega)
      show (if 0 ≤ Bk.idx l n m then Bk.idx l n m else _) = _
      rw [if_pos (by omega), this]
set_option maxHeartbeats 400000 in
theorem bindex_any (ao : Option Addr) (cap : Nat) (l : List Int) (n : Int) (w : World) (hn : l.length ≤ 9223372036854775807) (hr : ILs w ao cap l) :
    Calls Try.prog 37 #[.slice ao l.length cap, .int .i64 n] w fun e w' => e = .returned (.int .i64 (Bk.idx l n l.length)) ∧ w' = w := by
  have hcap : l.length ≤ cap := hr.1
  have HR : Hid (ILs w ao cap l) := hr
  clear hr
  go_enter Try.func37, Try.ntmps37
  go_wp2_with fail
  go_loopw [8] (fun i wr => ∃ k : Nat, k ≤ l.length ∧ i = .int .i64 k ∧ Hid (Bk.idx l n k = -1) ∧ wr = w) (fun i _ => l.length - (intOf i).toNat)
  case atStart => exact ⟨0, by omega, rfl, rfl, rfl⟩
  case round =>
    obtain ⟨k, hk, rfl, hS, rfl⟩ := hrel
    by_cases hlt : k < l.length
    · obtain ⟨b, off, rfl, _⟩ := HR.out.place (by omega)
      have c0 := HR.out.cell hlt
      have HS2 : Hid (Bk.idx l n (k + 1) = if n = l.getD k 0 then (k : Int) else -1) := by
        show (if 0 ≤ Bk.idx l n k then Bk.idx l n k else if n = l.getD k 0 then (k : Int) else -1) = _
        rw [if_neg (by rw [hS.out]; omega)]
      have HSS : Hid (n = l.getD k 0 → Bk.idx l n l.length = (k : Int)) := fun h => by
        have h1 := HS2.out
        rw [if_pos h] at h1
        rw [Bk.idx_stay l n (k + 1) (by omega) l.length (by omega), h1]
      clear HR hS
      by_cases q : n = l.getD k 0
      · have HS3 : Hid _ := HSS.out q
        rw [← q] at c0
        clear HSS HS2 q
        go_wp2_with fail
        go_ret
        exact ⟨by rw [HS3.out]; rfl, rfl⟩
      · have HS3 : Hid (Bk.idx l n (k + 1) = -1) := by rw [HS2.out, if_neg q]; rfl
        have dq : (n == l.getD k 0) = false := by simpa using q
        clear HSS HS2
        generalize l.getD k 0 = y at *
        go_wp2_with fail
        exact ⟨⟨k + 1, by omega, by go_num, HS3, trivial⟩, by simp [intOf]; omega⟩
    · obtain rfl : k = l.length := by omega
      clear HR
      go_wp2_with fail
      go_ret
      exact ⟨by rw [hS.out]; rfl, rfl⟩
set_option maxHeartbeats 400000 in
theorem bcontains_any (ao : Option Addr) (cap : Nat) (l : List Int) (n : Int) (w : World) (hn : l.length ≤ 9223372036854775807) (hr : ILs w ao cap l) :
    Calls Try.prog 29 #[.slice ao l.length cap, .int .i64 n] w fun e w' => e = .returned (.bool (l.contains n)) ∧ w' = w := by
  have HI : Hid (Calls Try.prog 37 #[.slice ao l.length cap, .int .i64 n] w fun e w' => e = .returned (.int .i64 (Bk.idx l n l.length)) ∧ w' = w) := bindex_any ao cap l n w hn hr
  have HC : Hid (decide (Bk.idx l n l.length ≥ 0) = l.contains n) := Bk.idx_contains l n
  clear hr
  generalize Bk.idx l n l.length = q at *
  go_enter Try.func29, Try.ntmps29
  go_wp2_with (go_at_call 37; refine HI.out.mono ?_; rintro e w1 ⟨rfl, rfl⟩)
  go_ret
  exact ⟨by rw [← HC.out]; rfl, rfl⟩
set_option maxHeartbeats 1000000 in
theorem bflush1_any (B1 B2 : Nat) (port : Int) (wo : Option Addr) (wcap : Nat) (ways : List Int) (x : E) (w : World) (hwn : ways.length ≤ 9223372036854775807) (hw : ILs w wo wcap ways) (h1 : w.heap[B1]? = some (.cells #[.int .i64 port] 3 (0, 0))) (h2 : w.heap[B2]? = some (.cells #[.slice wo ways.length wcap] 24 (0, 0))) :
    Calls Try.prog 28 #[.agg #[.int .i64 x.vid, .int .u64 x.addr, .int .i64 x.port, .int .i64 x.age], .pointer (some ⟨B1, 0, none⟩), .pointer (some ⟨B2, 0, none⟩)] w fun e w' => e = .returned (.bool (Bk.left port ways x)) ∧ Below w.heap.size w w' := by
  have c1 : w.cell? ⟨B1, 0, none⟩ = some (.int .i64 port) := cell_of_row w B1 0 _ _ _ h1
  have c2 : w.cell? ⟨B2, 0, none⟩ = some (.slice wo ways.length wcap) := cell_of_row w B2 0 _ _ _ h2
  have l1 := block_lt_of_cell c1
  have l2 := block_lt_of_cell c2
  have HC : Hid (∀ W, Below w.heap.size w W → Calls Try.prog 29 #[.slice wo ways.length wcap, .int .i64 x.vid] W fun e w' => e = .returned (.bool (ways.contains x.vid)) ∧ w' = W) := fun W hW => bcontains_any wo wcap ways x.vid W hwn (hw.below hW)
  have HB : Hid (∀ o, Below w.heap.size w (w.alloc o)) := fun o => below_alloc1 w o
  by_cases hp : x.port = port
  · have HD : Hid (Bk.left port ways x = !ways.contains x.vid) := by
      show (!(decide (x.port = port) && ways.contains x.vid)) = !ways.contains x.vid
      rw [decide_eq_true hp, Bool.true_and]
    have dq : (x.port != port) = false := by simp [hp]
    clear h1 h2 hw hp
    go_enter Try.func28, Try.ntmps28
    go_wp2_with (go_at_call 29; refine (HC.out _ (HB.out _)).mono ?_; rintro e w1 ⟨rfl, rfl⟩)
    go_ret
    exact ⟨by rw [HD.out]; simp, HB.out _⟩
  · have HD : Hid (Bk.left port ways x = true) := by
      show (!(decide (x.port = port) && ways.contains x.vid)) = true
      rw [decide_eq_false hp]
      rfl
    have dq : (x.port != port) = true := by simp [hp]
    clear h1 h2 hw hp HC
    go_enter Try.func28, Try.ntmps28
    go_wp2_with fail
    go_ret
    exact ⟨by rw [HD.out]; rfl, HB.out _⟩
set_option maxHeartbeats 1000000 in
theorem bflush_any (ao : Option Addr) (cap : Nat) (l : List E) (port : Int) (wo : Option Addr) (wcap : Nat) (ways : List Int) (w : World) (hn : l.length ≤ 1000) (hr : EL w ao cap l) (hwn : ways.length ≤ 9223372036854775807) (hw : ILs w wo wcap ways) :
    Calls Try.prog 17 #[.slice ao l.length cap, .int .i64 port, .slice wo ways.length wcap] w fun e w' => ∃ v, e = .returned v ∧ OwnE w' w.heap.size v (Bk.flush l port ways) ∧ Below w.heap.size w w' := by
  have HK : Hid (∀ W, W = (w.alloc (.cells #[.int .i64 port] 3)).alloc (.cells #[.slice wo ways.length wcap] 24) → Calls Try.prog 25 #[.slice ao l.length cap, .func (.func 28) #[] #[.pointer (some ⟨w.heap.size, 0, none⟩), .pointer (some ⟨w.heap.size + 1, 0, none⟩)]] W fun e w' => ∃ v, e = .returned v ∧ Hid (OwnE w' w.heap.size v (Bk.flush l port ways) ∧ Below w.heap.size w w')) := by
    intro W hW
    have hb : Below w.heap.size w W := by rw [hW]; exact below_alloc2 _ _ _
    have h0 : W.heap[w.heap.size]? = some (.cells #[.int .i64 port] 3 (0, 0)) := by rw [hW]; exact heap_alloc2_old _ _ _
    have h1 : W.heap[w.heap.size + 1]? = some (.cells #[.slice wo ways.length wcap] 24 (0, 0)) := by rw [hW]; exact heap_alloc2_new _ _ _
    refine (bkeptF_any ao cap l (Bk.left port ways) w.heap.size (w.heap.size + 1) W hn (EL.below hr hb) (fun V hV x _ => bflush1_any _ _ port wo wcap ways x V hwn ((hw.below hb).below hV) (keep h0 hV) (keep h1 hV))).mono ?_
    rintro e w' ⟨v, rfl, ho, hb'⟩
    exact ⟨v, rfl, ⟨ho.mono hb.size, hb.trans (hb'.mono hb.size)⟩⟩
  clear hr hw
  go_enter Try.func17, Try.ntmps17
  go_wp2_with fail
  refine (HK.out _ rfl).mono ?_
  rintro e w1 ⟨v, rfl, HX1⟩
  clear HK
  go_wp2_with fail
  go_ret
  exact ⟨_, rfl, HX1.out.1, HX1.out.2⟩
end Go.Proofs.Ytcicenmlpoonaaa
