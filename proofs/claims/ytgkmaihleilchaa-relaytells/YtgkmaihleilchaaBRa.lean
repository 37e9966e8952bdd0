/- walks: the document's ahead, Look, in (hedgeref8) -/
import Derived.Test.YtgkmaihleilchaaBLe
import Derived.Test.YtgkmaihleilchaaBI
namespace Go.Proofs.Ytgkmaihleilchaa
open Go.RowKit
open Bk (E at')

set_option maxHeartbeats 1000000 in
theorem rahead_any (a b : E) (w : World) :
    Calls Try.prog 63 #[.agg #[.int .i64 a.vid, .int .u64 a.addr, .int .i64 a.port, .int .i64 a.age], .agg #[.int .i64 b.vid, .int .u64 b.addr, .int .i64 b.port, .int .i64 b.age]] w fun e w' => e = .returned (.bool (Bk.ltb a b)) ∧ Below w.heap.size w w' := by
  have HB : Hid (∀ o1 o2, Below w.heap.size w ((w.alloc o1).alloc o2)) := fun o1 o2 => below_alloc2 w o1 o2
  by_cases h1 : a.vid < b.vid
  · have HD : Hid (Bk.ltb a b = true) := decide_eq_true (Or.inl h1)
    go_enter Try.func63, Try.ntmps63
    go_wp2_with fail
    go_ret
    exact ⟨by rw [HD.out]; rfl, HB.out _ _⟩
  · by_cases h2 : a.vid = b.vid
    · have HD : Hid (Bk.ltb a b = decide (a.addr < b.addr)) := decide_eq_decide.2 ⟨fun q => q.elim (fun r => absurd r h1) (fun r => r.2), fun q => Or.inr ⟨h2, q⟩⟩
      have e2 : (a.vid == b.vid) = true := by simp [h2]
      have e1 : decide (a.vid < b.vid) = false := decide_eq_false h1
      clear h2 h1
      go_enter Try.func63, Try.ntmps63
      go_wp2_with fail
      go_ret
      exact ⟨by rw [HD.out]; rfl, HB.out _ _⟩
    · have HD : Hid (Bk.ltb a b = false) := decide_eq_false (fun q => q.elim h1 (fun r => h2 r.1))
      have e2 : (a.vid == b.vid) = false := by simpa using h2
      go_enter Try.func63, Try.ntmps63
      go_wp2_with fail
      go_ret
      exact ⟨by rw [HD.out]; rfl, HB.out _ _⟩
/-- 'append(out, x)', out a row of the call's own. -/
theorem more_e (W0 W : World) (hb : Below W0.heap.size W0 W) (v : Value) (o : List E) (x : E) (ho : OwnE W W0.heap.size v o) (hl : o.length ≤ 1000) :
    ∃ a m c W2, runAppE v (.slice (some ⟨W.heap.size, 0, none⟩) 1 1) (W.alloc (.cells #[.int .i64 x.vid, .int .u64 x.addr, .int .i64 x.port, .int .i64 x.age] 76)) (.slice a m c) W2 ∧ m = (o ++ [x]).length ∧ OwnE W2 W0.heap.size (.slice a m c) (o ++ [x]) ∧ Below W0.heap.size W0 W2 ∧ (∀ q, q < W.heap.size → some q ≠ v.ownBlock → W2.heap[q]? = W.heap[q]?) := by
  obtain ⟨a1, c1, w2, r, o2, bb, q2⟩ := append_e (W.alloc (.cells #[.int .i64 x.vid, .int .u64 x.addr, .int .i64 x.port, .int .i64 x.age] 76)) W0.heap.size v o (ho.below (below_alloc1 W _)) (some ⟨W.heap.size, 0, none⟩) 1 [x] 1 rfl (one_entry (heap_alloc_last W _)) (fun h => by cases h) (by omega) (by have := hb.size; simp; omega)
  exact ⟨a1, _, c1, w2, r, rfl, o2, (hb.alloc hb.size _).trans bb, fun q hq hne => (q2 q (by simp; omega) hne).trans ((below_alloc1 W _).block q hq)⟩
set_option maxHeartbeats 1000000 in
theorem rlook8_any (ao : Option Addr) (cap : Nat) (l : List E) (vid addr : Int) (w : World) (hbk : Bk.Book l) (hr : BEL w ao cap l) :
    Calls Try.prog 42 #[.slice ao l.length cap, .int .i64 vid, .int .u64 addr] w fun e w' => e = .returned (.tuple #[.int .i64 (Bk.lookP l (sought vid addr)), .bool (decide (Bk.Known l (sought vid addr)))]) ∧ Below w.heap.size w w' := by
  have hn := hbk.many
  have hcap : l.length ≤ cap := hr.1
  have HBK : Hid (Bk.Book l) := hbk
  have HRW : Hid (∀ W, Below w.heap.size w W → BEL W ao cap l) := fun W hW => BEL.below hr hW
  clear hr hbk
  go_enter Try.func42, Try.ntmps42
  go_wp2_with fail
  go_loopw [12] (fun i wr => ∃ k : Nat, k ≤ l.length ∧ i = .int .i64 k ∧ Hid (∀ j, j < k → ¬ Bk.key (at' l j) (sought vid addr)) ∧ Hid (Below w.heap.size w wr)) (fun i _ => l.length - (intOf i).toNat)
  case atStart => exact ⟨0, by omega, rfl, (fun j hj => absurd hj (by omega)), Below.refl _ _⟩
  case round =>
    obtain ⟨k, hk, rfl, HN, HB⟩ := hrel
    by_cases hlt : k < l.length
    · obtain ⟨b, off, rfl, _⟩ := (HRW.out wr HB.out).place (by omega)
      obtain ⟨c0, c1, c2, c3⟩ := (HRW.out wr HB.out).cells hlt
      have HB2 : Hid (∀ o, Below w.heap.size w (wr.alloc o)) := fun o => HB.out.alloc HB.out.size o
      have HNX : Hid (¬ Bk.key (at' l k) (sought vid addr) → ∀ j, j < k + 1 → ¬ Bk.key (at' l j) (sought vid addr)) := fun h j hj => by
        by_cases e : j = k
        · subst e; exact h
        · exact HN.out j (by omega)
      have HYES : Hid (Bk.key (at' l k) (sought vid addr) → Bk.lookP l (sought vid addr) = (at' l k).port ∧ decide (Bk.Known l (sought vid addr)) = true) := fun h => ⟨Bk.lookP_some HBK.out (Bk.at_mem l k hlt) h, decide_eq_true ⟨_, Bk.at_mem l k hlt, h⟩⟩
      have HKY : Hid (Bk.key (at' l k) (sought vid addr) ↔ (at' l k).vid = vid ∧ (at' l k).addr = addr) := Iff.rfl
      clear HRW HBK HN HB
      by_cases q1 : (at' l k).vid = vid
      · have e1 : ((at' l k).vid == vid) = true := by simp [q1]
        by_cases q2 : (at' l k).addr = addr
        · have e2 : ((at' l k).addr == addr) = true := by simp [q2]
          have HZ : Hid _ := HYES.out (HKY.out.2 ⟨q1, q2⟩)
          clear HYES HNX HKY q1 q2
          generalize at' l k = y at *
          go_wp2_with fail
          go_ret2
          exact ⟨by rw [HZ.out.1, HZ.out.2]; rfl, HB2.out _⟩
        · have e2 : ((at' l k).addr == addr) = false := by simpa using q2
          have HZ : Hid _ := HNX.out (fun h => q2 (HKY.out.1 h).2)
          clear HYES HNX HKY q1 q2
          generalize at' l k = y at *
          go_wp2_with fail
          exact ⟨⟨k + 1, by omega, by go_num, HZ, HB2.out _⟩, by simp [intOf]; omega⟩
      · have e1 : ((at' l k).vid == vid) = false := by simpa using q1
        have HZ : Hid _ := HNX.out (fun h => q1 (HKY.out.1 h).1)
        clear HYES HNX HKY q1
        generalize at' l k = y at *
        go_wp2_with fail
        exact ⟨⟨k + 1, by omega, by go_num, HZ, HB2.out _⟩, by simp [intOf]; omega⟩
    · obtain rfl : k = l.length := by omega
      have HZ : Hid (¬ Bk.Known l (sought vid addr)) := by
        rintro ⟨e, he, hk⟩
        obtain ⟨i, hi, rfl⟩ := Bk.mem_at he
        exact HN.out i hi hk
      clear HN HRW
      go_wp2_with fail
      go_ret2
      exact ⟨by rw [Bk.lookP_none HZ.out, decide_eq_false HZ.out]; rfl, HB.out⟩
set_option maxHeartbeats 400000 in
theorem rin_any (ao : Option Addr) (cap : Nat) (l : List Int) (n : Int) (w : World) (hn : l.length ≤ 9223372036854775807) (hr : ILs w ao cap l) :
    Calls Try.prog 46 #[.slice ao l.length cap, .int .i64 n] w fun e w' => e = .returned (.bool (l.contains n)) ∧ w' = w := by
  have hcap : l.length ≤ cap := hr.1
  have HR : Hid (ILs w ao cap l) := hr
  clear hr
  go_enter Try.func46, Try.ntmps46
  go_wp2_with fail
  go_loopw [9] (fun i wr => ∃ k : Nat, k ≤ l.length ∧ i = .int .i64 k ∧ Hid (∀ j, j < k → l.getD j 0 ≠ n) ∧ wr = w) (fun i _ => l.length - (intOf i).toNat)
  case atStart => exact ⟨0, by omega, rfl, (fun j hj => absurd hj (by omega)), rfl⟩
  case round =>
    obtain ⟨k, hk, rfl, hS, rfl⟩ := hrel
    by_cases hlt : k < l.length
    · obtain ⟨b, off, rfl, _⟩ := HR.out.place (by omega)
      have c0 := HR.out.cell hlt
      by_cases q : l.getD k 0 = n
      · have HC : Hid (l.contains n = true) := by
          have : n ∈ l := by rw [← q]; simp [hlt]
          show l.contains n = true
          simpa using this
        have e1 : (l.getD k 0 == n) = true := beq_iff_eq.2 q
        clear HR hS q
        generalize l.getD k 0 = v at *
        go_wp2_with fail
        go_ret
        exact ⟨by rw [HC.out]; rfl, rfl⟩
      · have HS2 : Hid (∀ j, j < k + 1 → l.getD j 0 ≠ n) := fun j hj => by
          by_cases e : j = k
          · subst e; exact q
          · exact hS.out j (by omega)
        have e1 : (l.getD k 0 == n) = false := by simpa using q
        clear HR hS q
        generalize l.getD k 0 = v at *
        go_wp2_with fail
        exact ⟨⟨k + 1, by omega, by go_num, HS2, trivial⟩, by simp [intOf]; omega⟩
    · obtain rfl : k = l.length := by omega
      have HC : Hid (l.contains n = false) := by
        have : ¬ n ∈ l := by
          intro hm
          obtain ⟨i, hi, he⟩ := List.getElem_of_mem hm
          exact hS.out i hi (by simp [hi, he])
        show l.contains n = false
        simpa using this
      clear HR hS
      go_wp2_with fail
      go_ret
      exact ⟨by rw [HC.out]; rfl, rfl⟩
end Go.Proofs.Ytgkmaihleilchaa
