/- walks: relay's passer and its closure, Relay's two closures, slices.IndexFunc at gates -/
import Derived.Test.YtgkmaihleilchaaYW2
namespace Go.Proofs.Ytgkmaihleilchaa
open Go.RowKit
open Bk (E at')
open Rl (G gat)

set_option maxHeartbeats 1000000 in
theorem pass1_any (g : G) (Bw Bt : Nat) (way tree : Int) (w : World) (hg : GIn w g) (hw : w.cell? ⟨Bw, 0, none⟩ = some (.int .i64 way)) (ht : w.cell? ⟨Bt, 0, none⟩ = some (.int .i64 tree)) :
    Calls Try.prog 58 #[.agg #[.int .i64 g.port, .slice g.wo g.ways.length g.wcap, .int .i64 g.plain, .slice g.oo g.opens.length g.ocap], .pointer (some ⟨Bw, 0, none⟩), .pointer (some ⟨Bt, 0, none⟩)] w fun e w' => e = .returned (.bool (Rl.passes g tree way)) ∧ Below w.heap.size w w' := by
  have l1 := block_lt_of_cell hw
  have l2 := block_lt_of_cell ht
  have HC : Hid (∀ W, Below w.heap.size w W → Calls Try.prog 59 #[.slice g.wo g.ways.length g.wcap, .int .i64 way] W fun e w' => e = .returned (.bool (g.ways.contains way)) ∧ w' = W) := fun W hW => bcontains_any g.wo g.wcap g.ways way W hg.wn (hg.ways.below hW)
  have HB : Hid (∀ o, Below w.heap.size w (w.alloc o)) := fun o => below_alloc1 w o
  have HP : Hid (Rl.passes g tree way = (g.ways.contains way && (decide (0 ≤ tree ∧ tree ≤ (g.opens.length : Int) - 1) && g.opens.getD tree.toNat false))) := rfl
  have hon := hg.on
  have hwr : IntKind.i64.wrap ((g.opens.length : Int) - 1) = (g.opens.length : Int) - 1 := by
    simp [IntKind.wrap, IntKind.bits, IntKind.signed]
    omega
  have hoc : g.opens.length ≤ g.ocap := hg.opens.1
  have HO : Hid (BLs w g.oo g.ocap g.opens) := hg.opens
  clear hg
  cases hc : g.ways.contains way with
  | false =>
    rw [hc] at HC HP
    have HP2 : Hid (Rl.passes g tree way = false) := HP.out
    clear HP hc HO
    go_enter Try.func58, Try.ntmps58
    go_wp2_with (go_at_call 59; refine (HC.out _ (HB.out _)).mono ?_; rintro e w1 ⟨rfl, rfl⟩)
    go_ret
    exact ⟨by rw [HP2.out]; rfl, HB.out _⟩
  | true =>
    rw [hc, Bool.true_and] at HP
    rw [hc] at HC
    clear hc
    by_cases hd : 0 ≤ tree ∧ tree ≤ (g.opens.length : Int) - 1
    · have e1 : decide (0 ≤ tree ∧ tree ≤ (g.opens.length : Int) - 1) = true := decide_eq_true hd
      rw [e1, Bool.true_and] at HP
      obtain ⟨k, rfl⟩ := Int.eq_ofNat_of_zero_le hd.1
      rw [Int.toNat_natCast] at HP
      have hk : k < g.opens.length := by omega
      obtain ⟨b, off, hoo, hb⟩ := HO.out.place (by omega)
      have hcl : w.cell? ⟨b, off + k, none⟩ = some (.bool (g.opens.getD k false)) := BLs.cell (cap := g.ocap) (by rw [← hoo]; exact HO.out) hk
      have ik : (0 : Int) ≤ (k : Int) := by omega
      have nk : (k : Int) < (g.opens.length : Int) := by omega
      clear hd HO
      generalize g.opens.getD k false = bo at *
      generalize hon' : g.opens.length = on at *
      clear hon'
      rw [hoo]
      go_enter Try.func58, Try.ntmps58
      go_wp2_with (first | (go_at_call 59; refine (HC.out _ (HB.out _)).mono ?_; rintro e w1 ⟨rfl, rfl⟩) | (go_at_call 50; refine (vwithin_any _ _ _ _).mono ?_; rintro e w1 ⟨rfl, rfl⟩; (try rw [hwr]); rw [e1]))
      go_ret
      exact ⟨by rw [HP.out]; rfl, HB.out _⟩
    · have e1 : decide (0 ≤ tree ∧ tree ≤ (g.opens.length : Int) - 1) = false := decide_eq_false hd
      rw [e1, Bool.false_and] at HP
      clear hd HO
      go_enter Try.func58, Try.ntmps58
      go_wp2_with (first | (go_at_call 59; refine (HC.out _ (HB.out _)).mono ?_; rintro e w1 ⟨rfl, rfl⟩) | (go_at_call 50; refine (vwithin_any _ _ _ _).mono ?_; rintro e w1 ⟨rfl, rfl⟩; (try rw [hwr]); rw [e1]))
      go_ret
      exact ⟨by rw [HP.out]; rfl, HB.out _⟩
set_option maxHeartbeats 400000 in
theorem passer_any (way tree : Int) (w : World) :
    Calls Try.prog 33 #[.int .i64 way, .int .i64 tree] w fun e w' => e = .returned (.func (.func 58) #[] #[.pointer (some ⟨w.heap.size, 0, none⟩), .pointer (some ⟨w.heap.size + 1, 0, none⟩)]) ∧ w'.heap[w.heap.size]? = some (.cells #[.int .i64 way] 3 (0, 0)) ∧ w'.heap[w.heap.size + 1]? = some (.cells #[.int .i64 tree] 3 (0, 0)) ∧ Below w.heap.size w w' := by
  have H1 : Hid (∀ o1 o2, ((w.alloc o1).alloc o2).heap[w.heap.size]? = some o1) := fun o1 o2 => heap_alloc2_old w o1 o2
  have H2 : Hid (∀ o1 o2, ((w.alloc o1).alloc o2).heap[w.heap.size + 1]? = some o2) := fun o1 o2 => heap_alloc2_new w o1 o2
  have HB : Hid (∀ o1 o2, Below w.heap.size w ((w.alloc o1).alloc o2)) := fun o1 o2 => below_alloc2 w o1 o2
  go_enter Try.func33, Try.ntmps33
  go_wp2
  go_ret
  exact ⟨rfl, H1.out _ _, H2.out _ _, HB.out _ _⟩
set_option maxHeartbeats 400000 in
theorem isport_any (g : G) (Bp : Nat) (p : Int) (w : World) (hp : w.cell? ⟨Bp, 0, none⟩ = some (.int .i64 p)) :
    Calls Try.prog 31 #[.agg #[.int .i64 g.port, .slice g.wo g.ways.length g.wcap, .int .i64 g.plain, .slice g.oo g.opens.length g.ocap], .pointer (some ⟨Bp, 0, none⟩)] w fun e w' => e = .returned (.bool (decide (g.port = p))) ∧ Below w.heap.size w w' := by
  have l1 := block_lt_of_cell hp
  have HB : Hid (∀ o, Below w.heap.size w (w.alloc o)) := fun o => below_alloc1 w o
  go_enter Try.func31, Try.ntmps31
  go_wp2
  go_ret
  exact ⟨rfl, HB.out _⟩
set_option maxHeartbeats 1000000 in
theorem gindex9_any (ao : Option Addr) (cap : Nat) (l : List G) (Bp : Nat) (p : Int) (w : World) (hr : GRow w ao cap l) (hp : w.cell? ⟨Bp, 0, none⟩ = some (.int .i64 p)) :
    Calls Try.prog 30 #[.slice ao l.length cap, .func (.func 31) #[] #[.pointer (some ⟨Bp, 0, none⟩)]] w fun e w' => e = .returned (.int .i64 (Rl.idx l p l.length)) ∧ Below w.heap.size w w' := by
  have hn := hr.many
  have hcap : l.length ≤ cap := hr.row.1
  have HR : Hid (∀ W, Below w.heap.size w W → GRow W ao cap l) := fun W hW => hr.below hW
  have l1 := block_lt_of_cell hp
  have HC : Hid (∀ W, Below w.heap.size w W → ∀ g : G, Calls Try.prog 31 #[.agg #[.int .i64 g.port, .slice g.wo g.ways.length g.wcap, .int .i64 g.plain, .slice g.oo g.opens.length g.ocap], .pointer (some ⟨Bp, 0, none⟩)] W fun e w' => e = .returned (.bool (decide (g.port = p))) ∧ Hid (Below w.heap.size w w')) := fun W hW g => (isport_any g Bp p W ((hW.cell (by exact l1)).trans hp)).mono (fun e w' h => ⟨h.1, hW.trans (h.2.mono hW.size)⟩)
  clear hr hp l1
  go_enter Try.func30, Try.ntmps30
  go_wp2_with fail
  go_loopw [8] (fun i wr => ∃ k : Nat, k ≤ l.length ∧ i = .int .i64 k ∧ Hid (Rl.idx l p k = -1) ∧ Hid (Below w.heap.size w wr)) (fun i _ => l.length - (intOf i).toNat)
  case atStart => exact ⟨0, by omega, rfl, rfl, Below.refl _ _⟩
  case round =>
    obtain ⟨k, hk, rfl, hS, hB⟩ := hrel
    by_cases hlt : k < l.length
    · obtain ⟨b, off, rfl, _⟩ := (HR.out wr hB.out).place (by omega)
      obtain ⟨c0, c1, c2, c3⟩ := (HR.out wr hB.out).cells hlt
      have HS2 : Hid (Rl.idx l p (k + 1) = if (gat l k).port = p then (k : Int) else -1) := by
        show (if 0 ≤ Rl.idx l p k then Rl.idx l p k else if (gat l k).port = p then (k : Int) else -1) = _
        rw [if_neg (by rw [hS.out]; omega)]
      have HSS : Hid ((gat l k).port = p → Rl.idx l p l.length = (k : Int)) := fun h => by
        have h1 := HS2.out
        rw [if_pos h] at h1
        rw [Rl.idx_stay l p (k + 1) (by omega) l.length (by omega), h1]
      have HCG : Hid (Calls Try.prog 31 #[.agg #[.int .i64 (gat l k).port, .slice (gat l k).wo (gat l k).ways.length (gat l k).wcap, .int .i64 (gat l k).plain, .slice (gat l k).oo (gat l k).opens.length (gat l k).ocap], .pointer (some ⟨Bp, 0, none⟩)] wr fun e w' => e = .returned (.bool (decide ((gat l k).port = p))) ∧ Hid (Below w.heap.size w w')) := HC.out wr hB.out (gat l k)
      clear HR hS HC hB
      by_cases q : (gat l k).port = p
      · have HS3 : Hid _ := HSS.out q
        rw [decide_eq_true q] at HCG
        clear HSS HS2 q
        generalize gat l k = x at *
        go_wp2_with (go_at_call 31; refine HCG.out.mono ?_; rintro e w2 ⟨rfl, HB2⟩)
        go_ret
        exact ⟨by rw [HS3.out]; rfl, HB2.out⟩
      · have HS3 : Hid (Rl.idx l p (k + 1) = -1) := by rw [HS2.out, if_neg q]; rfl
        rw [decide_eq_false q] at HCG
        clear HSS HS2 q
        generalize gat l k = x at *
        go_wp2_with (go_at_call 31; refine HCG.out.mono ?_; rintro e w2 ⟨rfl, HB2⟩)
        exact ⟨⟨k + 1, by omega, by go_num, HS3, HB2⟩, by simp [intOf]; omega⟩
    · obtain rfl : k = l.length := by omega
      clear HR HC
      go_wp2_with fail
      go_ret
      exact ⟨by rw [hS.out]; rfl, hB.out⟩
set_option maxHeartbeats 1000000 in
theorem leads_any (g : G) (Bp Bf Bk Bs Bw Bt : Nat) (p way tree s : Int) (kn : Bool) (w : World) (hg : GIn w g) (hp : w.cell? ⟨Bp, 0, none⟩ = some (.int .i64 p)) (hf : w.cell? ⟨Bf, 0, none⟩ = some (.func (.func 58) #[] #[.pointer (some ⟨Bw, 0, none⟩), .pointer (some ⟨Bt, 0, none⟩)])) (hk : w.cell? ⟨Bk, 0, none⟩ = some (.bool kn)) (hs : w.cell? ⟨Bs, 0, none⟩ = some (.int .i64 s)) (hw : w.cell? ⟨Bw, 0, none⟩ = some (.int .i64 way)) (ht : w.cell? ⟨Bt, 0, none⟩ = some (.int .i64 tree)) :
    Calls Try.prog 36 #[.agg #[.int .i64 g.port, .slice g.wo g.ways.length g.wcap, .int .i64 g.plain, .slice g.oo g.opens.length g.ocap], .pointer (some ⟨Bp, 0, none⟩), .pointer (some ⟨Bf, 0, none⟩), .pointer (some ⟨Bk, 0, none⟩), .pointer (some ⟨Bs, 0, none⟩)] w fun e w' => e = .returned (.bool (decide (g.port ≠ p) && (Rl.passes g tree way && (!kn || decide (g.port = s))))) ∧ Below w.heap.size w w' := by
  have l1 := block_lt_of_cell hp
  have l2 := block_lt_of_cell hf
  have l3 := block_lt_of_cell hk
  have l4 := block_lt_of_cell hs
  have l5 := block_lt_of_cell hw
  have l6 := block_lt_of_cell ht
  obtain ⟨W0, HW0⟩ : ∃ W0, Hid (W0 = w.alloc (.cells #[.int .i64 g.port, .slice g.wo g.ways.length g.wcap, .int .i64 g.plain, .slice g.oo g.opens.length g.ocap] 47)) := ⟨_, rfl⟩
  have hb0 : Below w.heap.size w W0 := by rw [HW0.out]; exact below_alloc1 _ _
  have hX5 : W0.heap[w.heap.size]? = some (.cells #[.int .i64 g.port, .slice g.wo g.ways.length g.wcap, .int .i64 g.plain, .slice g.oo g.opens.length g.ocap] 47 (0, 0)) := by rw [HW0.out]; exact heap_alloc_last _ _
  have HB0 : Hid (Below w.heap.size w W0) := hb0
  have HC : Hid (Calls Try.prog 58 #[.agg #[.int .i64 g.port, .slice g.wo g.ways.length g.wcap, .int .i64 g.plain, .slice g.oo g.opens.length g.ocap], .pointer (some ⟨Bw, 0, none⟩), .pointer (some ⟨Bt, 0, none⟩)] W0 fun e w' => e = .returned (.bool (Rl.passes g tree way)) ∧ Hid (Below w.heap.size w w') ∧ w'.cell? ⟨w.heap.size, 0, none⟩ = some (.int .i64 g.port) ∧ w'.cell? ⟨Bk, 0, none⟩ = some (.bool kn) ∧ w'.cell? ⟨Bs, 0, none⟩ = some (.int .i64 s)) :=
    (pass1_any g Bw Bt way tree W0 (hg.below hb0) ((hb0.cell (by exact l5)).trans hw) ((hb0.cell (by exact l6)).trans ht)).mono (fun e w' h => by
      have hb := hb0.trans (h.2.mono hb0.size)
      exact ⟨h.1, hb, (gt_cells (keep hX5 h.2)).1, (hb.cell (by exact l3)).trans hk, (hb.cell (by exact l4)).trans hs⟩)
  clear hg hw ht hb0 hX5 l5 l6
  generalize Rl.passes g tree way = ps at *
  by_cases q1 : g.port = p
  · have n1 : (g.port != p) = false := by simp [q1]
    have n2 : decide (g.port ≠ p) = false := by simp [q1]
    rw [n2, Bool.false_and]
    clear q1 n2 HC
    go_enter Try.func36, Try.ntmps36
    go_wp2_with fail
    go_ret
    exact ⟨rfl, by rw [← HW0.out]; exact HB0.out⟩
  · have n1 : (g.port != p) = true := by simp [q1]
    have n2 : decide (g.port ≠ p) = true := by simp [q1]
    rw [n2, Bool.true_and]
    clear q1 n2
    cases ps with
    | false =>
      go_enter Try.func36, Try.ntmps36
      go_wp2_with (go_at_call 58; rw [← HW0.out]; refine HC.out.mono ?_; rintro e w1 ⟨rfl, HB1, f0, f1, f2⟩)
      go_ret
      exact ⟨rfl, HB1.out⟩
    | true =>
      rw [Bool.true_and]
      cases kn with
      | false =>
        go_enter Try.func36, Try.ntmps36
        go_wp2_with (go_at_call 58; rw [← HW0.out]; refine HC.out.mono ?_; rintro e w1 ⟨rfl, HB1, f0, f1, f2⟩; clear hp hf hk hs)
        go_ret
        exact ⟨rfl, HB1.out⟩
      | true =>
        go_enter Try.func36, Try.ntmps36
        go_wp2_with (go_at_call 58; rw [← HW0.out]; refine HC.out.mono ?_; rintro e w1 ⟨rfl, HB1, f0, f1, f2⟩; clear hp hf hk hs)
        go_ret
        exact ⟨rfl, HB1.out⟩
end Go.Proofs.Ytgkmaihleilchaa
