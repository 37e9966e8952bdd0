/- Plain: one root, no way is shorter, one of two ends speaks, one link more -/
import Derived.Test.YtflghpnpjmodaaaGreatDoorK08
import Derived.Test.YtflghpnpjmodaaaGreatDoorK03
import Derived.Deep.RegionHeld3
namespace Go.Proofs.YtflghpnpjmodaaaGreatDoor
open Go.RowKit Go.Maps
open Pl (Br Net Pc Lk En St)

/-- The ends, one behind the other. -/
def endSeq (ls : Nat → Lk) (j : Nat) : Int × Int := if j % 2 = 0 then ((ls (j / 2)).a, (ls (j / 2)).pa) else ((ls (j / 2)).b, (ls (j / 2)).pb)
theorem endSeq_even (ls : Nat → Lk) (k : Nat) : endSeq ls (2 * k) = ((ls k).a, (ls k).pa) := by
  unfold endSeq
  rw [if_pos (by omega), show 2 * k / 2 = k by omega]
theorem endSeq_odd (ls : Nat → Lk) (k : Nat) : endSeq ls (2 * k + 1) = ((ls k).b, (ls k).pb) := by
  unfold endSeq
  rw [if_neg (by omega), show (2 * k + 1) / 2 = k by omega]
/-- What the closure says of a link. -/
def lSay (K : Nat) (l : Lk) (c d : Int) : Int := if Pl.lkErr K l ≠ 0 then Pl.lkErr K l else if 0 < c then 7 else if 0 < d then 7 else 0
theorem lk_free {w : World} {g : Nat} {A : Array Value} {ty : TypeId} (h : w.heap[g]? = some (.cells A ty (0, 0))) (j : Nat) : w.frozen? ⟨g, j, none⟩ = false := frozen_of_row _ _ _ _ _ h
set_option maxRecDepth 100000 in
set_option maxHeartbeats 4000000 in
theorem plClosure_any (K : Nat) (hK : K ≤ 12) (l : Lk) (N Q P B m : Nat) (f : Nat → Int × Int) (w : World) (hN : w.cell? ⟨N, 0, none⟩ = some (.int .i64 K)) (hQ : w.cell? ⟨Q, 0, none⟩ = some (.func (.func 160) #[] #[.pointer (some ⟨P, 0, none⟩)])) (hP : w.cell? ⟨P, 0, none⟩ = some (.map (some B))) (hPB : P ≠ B) (hQB : Q ≠ B) (hc : PCnt w B f m) (hm : m ≤ 900) (hf : f m = (l.a, l.pa)) (hf1 : f (m + 1) = (l.b, l.pb))
    (wa : (Lit.int .i64 l.a).wf = true) (wpa : (Lit.int .i64 l.pa).wf = true) (wb : (Lit.int .i64 l.b).wf = true) (wpb : (Lit.int .i64 l.pb).wf = true) :
    Calls Tryz.prog 110 #[.agg (lkA l), .pointer (some ⟨N, 0, none⟩), .pointer (some ⟨Q, 0, none⟩)] w fun e w' => e = .returned (.int .i64 (lSay K l (cntI f (l.a, l.pa) m) (cntI f (l.b, l.pb) (m + 1)))) ∧ (Pl.lkErr K l = 0 → PCnt w' B f (m + 2)) ∧ w.grownBy w' (some B) := by
  obtain ⟨X, HX⟩ : ∃ X, Hid (X = w.alloc (.cells (lkA l) 83)) := ⟨_, rfl⟩
  have hXB : Below w.heap.size w X := by rw [HX.out]; exact below_alloc1 _ _
  have hXb : X.heap[w.heap.size]? = some (.cells (lkA l) 83 (0, 0)) := by rw [HX.out]; exact heap_alloc_last _ _
  have hlt := hc.lt
  have hQl := block_lt_of_cell hQ
  have hPl := block_lt_of_cell hP
  have hNl := block_lt_of_cell hN
  simp only at hQl hPl hNl
  have HL : Hid (∀ W, X.grownBy W (some B) → (W.cell? ⟨w.heap.size, 0, none⟩ = some (.int .i64 l.a) ∧ W.cell? ⟨w.heap.size, 1, none⟩ = some (.int .i64 l.pa) ∧ W.cell? ⟨w.heap.size, 2, none⟩ = some (.int .i64 l.b) ∧ W.cell? ⟨w.heap.size, 3, none⟩ = some (.int .i64 l.pb)) ∧ W.cell? ⟨Q, 0, none⟩ = some (.func (.func 160) #[] #[.pointer (some ⟨P, 0, none⟩)])) := by
    intro W hW
    obtain ⟨x0, x1, x2, x3, _⟩ := lk_cells (grown_block hXb hW (by omega))
    exact ⟨⟨x0, x1, x2, x3⟩, grown_cell ((hXB.cell (by exact hQl)).trans hQ) hW hQB⟩
  have HGG : Hid (∀ W, X.grownBy W (some B) → w.grownBy W (some B)) := fun W hW => (grown_of_below hXB).trans hW
  have HC : Hid (Calls Tryz.prog 111 #[.agg (lkA l), .int .i64 K] X fun e w' => e = .returned (.int .i64 (Pl.lkErr K l)) ∧ Hid (X.grownBy w' (some B) ∧ PCnt w' B f m)) := by
    refine (pwrongLink_any K l X hK).mono ?_
    rintro e w' ⟨rfl, h2⟩
    exact ⟨rfl, grown_of_below h2, (hc.same (hXB.block B hlt)).same (h2.block B (Nat.lt_of_lt_of_le hlt hXB.size))⟩
  have HT1 : Hid (∀ W, Hid (X.grownBy W (some B) ∧ PCnt W B f m) → Calls Tryz.prog 160 #[.agg #[.int .i64 l.a, .int .i64 l.pa], .pointer (some ⟨P, 0, none⟩)] W fun e w' => e = .returned (.int .i64 (if 0 < cntI f (l.a, l.pa) m then 7 else 0)) ∧ Hid (X.grownBy w' (some B) ∧ PCnt w' B f (m + 1))) := by
    intro W hW
    refine (ptake_any P B m f (l.a, l.pa) W (grown_cell ((hXB.cell (by exact hPl)).trans hP) hW.out.1 hPB) hPB hW.out.2 (by omega) hf wa wpa).mono ?_
    rintro e w' ⟨rfl, k1, k2⟩
    exact ⟨rfl, hW.out.1.trans k2, k1⟩
  have HT2 : Hid (∀ W, Hid (X.grownBy W (some B) ∧ PCnt W B f (m + 1)) → Calls Tryz.prog 160 #[.agg #[.int .i64 l.b, .int .i64 l.pb], .pointer (some ⟨P, 0, none⟩)] W fun e w' => e = .returned (.int .i64 (if 0 < cntI f (l.b, l.pb) (m + 1) then 7 else 0)) ∧ Hid (X.grownBy w' (some B) ∧ PCnt w' B f (m + 2))) := by
    intro W hW
    refine (ptake_any P B (m + 1) f (l.b, l.pb) W (grown_cell ((hXB.cell (by exact hPl)).trans hP) hW.out.1 hPB) hPB hW.out.2 (by omega) hf1 wb wpb).mono ?_
    rintro e w' ⟨rfl, k1, k2⟩
    exact ⟨rfl, hW.out.1.trans k2, k1⟩
  obtain ⟨q0, q1, q2, q3, q4, q5⟩ := lk_cells hXb
  have n0 : X.cell? ⟨N, 0, none⟩ = some (.int .i64 K) := (hXB.cell (by exact hNl)).trans hN
  have HFIN : Hid (∀ W (o : Obj), Hid (X.grownBy W (some B) ∧ PCnt W B f (m + 2)) → PCnt (W.alloc o) B f (m + 2) ∧ w.grownBy (W.alloc o) (some B)) := fun W o hW => by
    have h1 := hW.out.2.lt
    exact ⟨hW.out.2.same ((below_alloc1 W o).block B h1), (HGG.out W hW.out.1).trans (grown_of_below (below_alloc1 W o))⟩
  have HAD : Hid (∀ W, Hid (X.grownBy W (some B) ∧ PCnt W B f m) → Hid (X.grownBy W.drew (some B) ∧ PCnt W.drew B f m)) := fun W hW => ⟨⟨hW.out.1.os, hW.out.1.tape, hW.out.1.output, hW.out.1.size, hW.out.1.block⟩, hW.out.2⟩
  have HSAY : Hid (Pl.lkErr K l = 0 → lSay K l (cntI f (l.a, l.pa) m) (cntI f (l.b, l.pb) (m + 1)) = if (if 0 < cntI f (l.a, l.pa) m then (7 : Int) else 0) = 0 then (if 0 < cntI f (l.b, l.pb) (m + 1) then 7 else 0) else (if 0 < cntI f (l.a, l.pa) m then 7 else 0)) := fun h => by
    unfold lSay
    rw [if_neg (fun q => q h)]
    by_cases c : 0 < cntI f (l.a, l.pa) m
    · rw [if_pos c, if_pos c]; rfl
    · rw [if_neg c, if_neg c]; rfl
  have HSAY2 : Hid (Pl.lkErr K l ≠ 0 → lSay K l (cntI f (l.a, l.pa) m) (cntI f (l.b, l.pb) (m + 1)) = Pl.lkErr K l) := fun h => if_pos h
  generalize lSay K l (cntI f (l.a, l.pa) m) (cntI f (l.b, l.pb) (m + 1)) = S at *
  generalize (if 0 < cntI f (l.a, l.pa) m then (7 : Int) else 0) = R1 at *
  generalize (if 0 < cntI f (l.b, l.pb) (m + 1) then (7 : Int) else 0) = R2 at *
  generalize Pl.lkErr K l = E at *
  clear hQ hP hc hf hf1 hXb hXB hN wa wpa wb wpb
  obtain ⟨a, pa, b, pb, c, up⟩ := l
  simp only [lkA] at *
  rw [HX.out] at n0
  by_cases e0 : E = 0
  · subst e0
    have HS : Hid (S = if R1 = 0 then R2 else R1) := HSAY.out (by first | exact rfl | trivial)
    have HOR : Hid (∀ (g : Nat) (ty : TypeId) (W : World), W.heap[g]? = some (.cells #[.int .i64 R1, .int .i64 R2] ty (0, 0)) → Calls Tryz.prog 112 #[.slice (some ⟨g, 0, none⟩) 2 2] W fun e w' => e = .returned (.int .i64 S) ∧ w' = W) := fun g ty W h => by rw [HS.out]; exact core2 R1 R2 g ty W h
    clear HSAY HSAY2 HS
    go_enter Tryz.func110, Tryz.ntmps110
    go_wp2_with fail
    rw [← HX.out]
    refine HC.out.mono ?_
    rintro e w1 ⟨rfl, hA⟩
    obtain ⟨⟨x0, x1, x2, x3⟩, x4⟩ := HL.out w1 hA.out.1
    have HA0 : Hid _ := HAD.out w1 hA
    have HAd : Hid (X.grownBy w1.drew (some B)) := HA0.out.1
    clear q0 q1 q2 q3 q4 q5 n0 hA HAD HC
    go_wp2_with fail
    go_region_held3 (fun W => (W.cell? ⟨w.heap.size, 0, none⟩ = some (.int .i64 a) ∧ W.cell? ⟨w.heap.size, 1, none⟩ = some (.int .i64 pa) ∧ W.cell? ⟨w.heap.size, 2, none⟩ = some (.int .i64 b) ∧ W.cell? ⟨w.heap.size, 3, none⟩ = some (.int .i64 pb)) ∧ W.cell? ⟨Q, 0, none⟩ = some (.func (.func 160) #[] #[.pointer (some ⟨P, 0, none⟩)]))
      (first | (exact HL.out _ HAd.out) | (exact HL.out _ HA1.out.1) | (exact HL.out _ HA2.out.1) | (exact HL.out _ (HA2.out.1.trans (grown_of_below (below_alloc1 _ _)))))
      (first | (go_at_call 160; first | ((with_reducible refine (HT1.out _ HA0).mono ?_); rintro e wa ⟨rfl, HA1⟩) | ((with_reducible refine (HT2.out _ HA1).mono ?_); rintro e wb ⟨rfl, HA2⟩)) | (go_at_call 112; refine (HOR.out _ _ _ (heap_alloc_last _ _)).mono ?_; rintro e wc ⟨rfl, rfl⟩))
    all_goals go_wp2_with fail
    all_goals go_ret
    all_goals first | exact ⟨rfl, fun _ => (HFIN.out _ _ HA2).1, (HFIN.out _ _ HA2).2⟩ | exact ⟨rfl, (HFIN.out _ _ HA2).1, (HFIN.out _ _ HA2).2⟩
  · have e1 : (E == 0) = false := by simp [e0]
    have HS : Hid (S = E) := HSAY2.out e0
    clear HSAY HSAY2
    go_enter Tryz.func110, Tryz.ntmps110
    go_wp2_with fail
    rw [← HX.out]
    refine HC.out.mono ?_
    rintro e w1 ⟨rfl, hA⟩
    go_wp2_with fail
    go_ret
    exact ⟨by rw [HS.out]; rfl, fun h => absurd h e0, HGG.out _ hA.out.1⟩
end Go.Proofs.YtflghpnpjmodaaaGreatDoor

namespace Go.Proofs.YtflghpnpjmodaaaGreatDoor
namespace Pl
open Vc (V Of)
/-- Nothing is wrong with the links. -/
structure RightL (K L : Nat) (ls : Nat → Lk) : Prop where
  ok : ∀ k, k < L → (0 ≤ (ls k).a ∧ (ls k).a < K) ∧ (0 ≤ (ls k).b ∧ (ls k).b < K) ∧ (ls k).a ≠ (ls k).b ∧ (1 ≤ (ls k).pa ∧ (ls k).pa ≤ 30) ∧ (1 ≤ (ls k).pb ∧ (ls k).pb ≤ 30) ∧ (1 ≤ (ls k).cost ∧ (ls k).cost ≤ 200000)
  one : ∀ j k, j < k → k < L → isEnd (ls j) (ls k).a (ls k).pa = false ∧ isEnd (ls j) (ls k).b (ls k).pb = false
theorem someTo_false {p : Nat → Bool} : ∀ {n : Nat}, Vc.someTo p n = false → ∀ i, i < n → p i = false
  | 0, _, i, hi => by omega
  | n + 1, h, i, hi => by
    simp only [Vc.someTo, Bool.or_eq_false_iff] at h
    by_cases e : i = n
    · subst e; exact h.2
    · exact someTo_false h.1 i (by omega)
theorem someTo_none {p : Nat → Bool} : ∀ {n : Nat}, (∀ i, i < n → p i = false) → Vc.someTo p n = false
  | 0, _ => rfl
  | n + 1, h => by simp only [Vc.someTo, Bool.or_eq_false_iff]; exact ⟨someTo_none (fun i hi => h i (by omega)), h n (by omega)⟩
theorem lkErr_ok {K : Nat} {l : Lk} (h : lkErr K l = 0) : (0 ≤ l.a ∧ l.a < K) ∧ (0 ≤ l.b ∧ l.b < K) ∧ l.a ≠ l.b ∧ (1 ≤ l.pa ∧ l.pa ≤ 30) ∧ (1 ≤ l.pb ∧ l.pb ≤ 30) ∧ (1 ≤ l.cost ∧ l.cost ≤ 200000) := by
  unfold lkErr at h
  split at h
  · omega
  · split at h
    · omega
    · split at h
      · omega
      · omega
theorem lErr_ok {K : Nat} {ls : Nat → Lk} {i : Nat} (h : lErr K ls i = 0) : lkErr K (ls i) = 0 ∧ ∀ j, j < i → isEnd (ls j) (ls i).a (ls i).pa = false ∧ isEnd (ls j) (ls i).b (ls i).pb = false := by
  unfold lErr at h
  split at h
  · omega
  · rename_i h1
    split at h
    · omega
    · rename_i h2
      refine ⟨by omega, fun j hj => ?_⟩
      have := someTo_false (by simpa using h2) j hj
      simpa using this
theorem rightL {K L : Nat} {ls : Nat → Lk} (h : ∀ i, i < L → lErr K ls i = 0) : RightL K L ls :=
  ⟨fun k hk => lkErr_ok (lErr_ok (h k hk)).1, fun j k hj hk => (lErr_ok (h k hk)).2 j hj⟩
theorem endsAt_mem {l : Lk} {lv : Bool} {i : Nat} {e : En} : e ∈ endsAt l lv i ↔ (l.a = (i : Int) ∧ e = ⟨l.pa, l.cost, l.b, l.pb, lv⟩) ∨ (l.b = (i : Int) ∧ e = ⟨l.pb, l.cost, l.a, l.pa, lv⟩) := by
  unfold endsAt
  by_cases h1 : l.a = (i : Int) <;> by_cases h2 : l.b = (i : Int) <;> simp [h1, h2]
theorem endsTo_mem {ls : Nat → Lk} {lv : Nat → Bool} {i : Nat} {e : En} : ∀ {L : Nat}, e ∈ endsTo ls lv i L ↔ ∃ k, k < L ∧ e ∈ endsAt (ls k) (lv k) i
  | 0 => ⟨fun h => by simp [endsTo] at h, fun ⟨k, hk, _⟩ => by omega⟩
  | L + 1 => by
    simp only [endsTo, List.mem_append]
    rw [endsTo_mem (L := L)]
    constructor
    · rintro (⟨k, hk, h⟩ | h)
      · exact ⟨k, by omega, h⟩
      · exact ⟨L, by omega, h⟩
    · rintro ⟨k, hk, h⟩
      by_cases e : k = L
      · subst e; exact Or.inr h
      · exact Or.inl ⟨k, by omega, h⟩
theorem ends_perm (ls : Nat → Lk) (lv : Nat → Bool) (L i : Nat) : (ends ls lv L i).Perm (endsTo ls lv i L) := List.mergeSort_perm _ _
theorem ends_mem {ls : Nat → Lk} {lv : Nat → Bool} {L i : Nat} {e : En} : e ∈ ends ls lv L i ↔ ∃ k, k < L ∧ (((ls k).a = (i : Int) ∧ e = ⟨(ls k).pa, (ls k).cost, (ls k).b, (ls k).pb, lv k⟩) ∨ ((ls k).b = (i : Int) ∧ e = ⟨(ls k).pb, (ls k).cost, (ls k).a, (ls k).pa, lv k⟩)) := by
  rw [(ends_perm ls lv L i).mem_iff, endsTo_mem]
  constructor
  · rintro ⟨k, hk, h⟩; exact ⟨k, hk, endsAt_mem.1 h⟩
  · rintro ⟨k, hk, h⟩; exact ⟨k, hk, endsAt_mem.2 h⟩
/-- No port is there twice. -/
theorem endsTo_ports {K L : Nat} {ls : Nat → Lk} (R : RightL K L ls) (lv : Nat → Bool) (i : Nat) : ∀ n, n ≤ L → (endsTo ls lv i n).Pairwise (fun x y => x.port ≠ y.port)
  | 0, _ => List.Pairwise.nil
  | n + 1, hn => by
    simp only [endsTo]
    rw [List.pairwise_append]
    refine ⟨endsTo_ports R lv i n (by omega), ?_, ?_⟩
    · have := (R.ok n (by omega)).2.2.1
      unfold endsAt
      by_cases h1 : (ls n).a = (i : Int) <;> by_cases h2 : (ls n).b = (i : Int) <;> simp [h1, h2]
      omega
    · intro x hx y hy
      obtain ⟨k, hk, hx⟩ := endsTo_mem.1 hx
      obtain ⟨o1, o2⟩ := R.one k n (by omega) (by omega)
      unfold isEnd at o1 o2
      simp only [Bool.or_eq_false_iff, decide_eq_false_iff_not] at o1 o2
      rcases endsAt_mem.1 hx with ⟨a1, rfl⟩ | ⟨a1, rfl⟩ <;> rcases endsAt_mem.1 hy with ⟨b1, rfl⟩ | ⟨b1, rfl⟩ <;> simp only <;> intro e
      · exact o1.1 ⟨by omega, e⟩
      · exact o2.1 ⟨by omega, e⟩
      · exact o1.2 ⟨by omega, e⟩
      · exact o2.2 ⟨by omega, e⟩
theorem ends_sorted {K L : Nat} {ls : Nat → Lk} (R : RightL K L ls) (lv : Nat → Bool) (i : Nat) : (ends ls lv L i).Pairwise (fun x y => x.port < y.port) := by
  have h1 : (ends ls lv L i).Pairwise (fun x y => leP x y = true) := List.pairwise_mergeSort (fun a b c h1 h2 => by simp [leP] at *; omega) (fun a b => by simp [leP]; omega) _
  have h2 : (ends ls lv L i).Pairwise (fun x y => x.port ≠ y.port) := ((ends_perm ls lv L i).pairwise_iff (fun {a b} (h : a.port ≠ b.port) => h.symm)).2 (endsTo_ports R lv i L (Nat.le_refl _))
  have := h1.and h2
  exact this.imp (fun {a b} ⟨q1, q2⟩ => by simp [leP] at q1; omega)
/-- What is sorted by ports is this. -/
theorem ends_unique {K L : Nat} {ls : Nat → Lk} (R : RightL K L ls) (lv : Nat → Bool) (i : Nat) {l : List En} (hp : l.Perm (endsTo ls lv i L)) (h : l.Pairwise (fun x y => ¬ y.port < x.port)) : l = ends ls lv L i := by
  have h2 : l.Pairwise (fun x y => x.port ≠ y.port) := (hp.pairwise_iff (fun {a b} (h : a.port ≠ b.port) => h.symm)).2 (endsTo_ports R lv i L (Nat.le_refl _))
  exact sorted_unique (hp.trans (ends_perm ls lv L i).symm) ((h.and h2).imp (fun {a b} ⟨q1, q2⟩ => by omega)) (ends_sorted R lv i)
theorem good {K L : Nat} {ls : Nat → Lk} (R : RightL K L ls) (hK : K ≤ 12) (ids : Nat → Int) (lv : Nat → Bool) : Good ids (fun i => ends ls lv L i) K := by
  refine ⟨hK, fun i hi e he _ => ?_⟩
  obtain ⟨k, hk, h⟩ := ends_mem.1 he
  obtain ⟨o1, o2, o3, o4, o5, o6⟩ := R.ok k hk
  rcases h with ⟨_, rfl⟩ | ⟨_, rfl⟩ <;> simp only <;> omega
/-- The port of a bridge has one link. -/
theorem ends_one {K L : Nat} {ls : Nat → Lk} (R : RightL K L ls) (lv : Nat → Bool) {i : Nat} {x y : En} (hx : x ∈ ends ls lv L i) (hy : y ∈ ends ls lv L i) (h : x.port = y.port) : x = y := by
  have S := ends_sorted R lv i
  obtain ⟨a, ha, ea⟩ := List.getElem_of_mem hx
  obtain ⟨b, hb, eb⟩ := List.getElem_of_mem hy
  have key := List.pairwise_iff_getElem.1 S
  by_cases e : a = b
  · subst e; rw [← ea, ← eb]
  · rcases Nat.lt_or_ge a b with q | q
    · have := key a b ha hb q
      rw [ea, eb] at this; omega
    · have := key b a hb ha (by omega)
      rw [ea, eb] at this; omega
end Pl
end Go.Proofs.YtflghpnpjmodaaaGreatDoor

namespace Go.Proofs.YtflghpnpjmodaaaGreatDoor
namespace Pl
open Vc (V Of)
section
variable {ids : Nat → Int} {E : Nat → List En} {K : Nat}
theorem fin_edge (G : Good ids E K) {i : Nat} (hi : i < K) {e : En} (he : e ∈ E i) (hl : e.live = true) : le2 (fin ids E K i).v (fin ids E K e.other.toNat).v.root ((fin ids E K e.other.toNat).v.cost + e.cost) := by
  obtain ⟨vs, hw⟩ := fin_real G e.other.toNat (toNat_lt (G.lt i hi e he hl).1)
  exact fin_up G hi (Walk.over i e vs _ _ hi he hl hw)
theorem fin_bridge (i : Nat) : (fin ids E K i).v.bridge = ids i ∧ (fin ids E K i).v.port = 0 := rounds_bridge ids E K K i
theorem fin_cost (G : Good ids E K) {i : Nat} (hi : i < K) : 0 ≤ (fin ids E K i).v.cost ∧ (fin ids E K i).v.cost ≤ 28800000 := by
  have h := (rounds_inv G K G.few).1 i hi
  have := G.few
  have h2 : (fin ids E K i).v.cost = (rounds ids E K K i).v.cost := rfl
  omega
/-- Who is the root, and by which port the others hear of it. -/
theorem fin_port (G : Good ids E K) {i : Nat} (hi : i < K) : ((fin ids E K i).rp = -1 ∧ (fin ids E K i).v.root = ids i ∧ (fin ids E K i).v.cost = 0) ∨
    (0 ≤ (fin ids E K i).rp ∧ (fin ids E K i).v.root < ids i ∧ ∃ e, e ∈ E i ∧ e.live = true ∧ e.port = (fin ids E K i).rp ∧ (fin ids E K i).v.root = (fin ids E K e.other.toNat).v.root ∧ (fin ids E K i).v.cost = (fin ids E K e.other.toNat).v.cost + e.cost ∧
      ∀ q, q ∈ E i → q.live = true → ¬ Vc.ahead (offerOf (fin ids E K) q) (offerOf (fin ids E K) e)) := by
  have hf := fin_fix G i hi
  obtain ⟨X, hX⟩ : ∃ X, X = fin ids E K := ⟨_, rfl⟩
  rw [← hX] at hf ⊢
  rcases chS_real (ids i) (offs (E i) X) with ⟨h, _⟩ | ⟨o, ho, hm, h, hn⟩
  · rw [h] at hf
    rw [hf]
    exact Or.inl ⟨rfl, rfl, rfl⟩
  · rw [h] at hf
    obtain ⟨e, h1, h2, rfl⟩ := offs_mem ho
    refine Or.inr ?_
    rw [hf]
    refine ⟨hm.2.1, hm.2.2.2, e, h1, h2, rfl, rfl, rfl, fun q hq hql => ?_⟩
    by_cases hmq : Vc.may (ids i) (offerOf X q)
    · exact hn _ (mem_offs hq hql) hmq
    · intro ha
      apply hmq
      have hB := (rounds_inv G K G.few).1
      have hk := G.few
      have hfit := fits G (x := X) (by rw [hX]; exact hB) (by omega) hi hq hql
      refine ⟨hfit, (G.lt i hi q hq hql).2.2, ⟨Int.le_refl _, show (0 : Int) < 20 by decide⟩, ?_⟩
      have hr : (offerOf X e).vec.root < ids i := hm.2.2.2
      have : (offerOf X q).v.root ≤ (offerOf X e).v.root := by
        rcases ha with ha | ⟨ha, _⟩
        · unfold Vc.lt at ha; omega
        · rw [ha]; exact Int.le_refl _
      have e1 : (offerOf X q).v.root = (offerOf X q).vec.root := rfl
      have e2 : (offerOf X e).v.root = (offerOf X e).vec.root := rfl
      omega
theorem Walk.last {i : Nat} {vs : List Nat} {ρ c : Int} (h : Walk ids E K i vs ρ c) : ∃ j, j < K ∧ ids j = ρ ∧ ∀ us ρ' c', Walk ids E K j us ρ' c' → ∃ ws d, Walk ids E K i ws ρ' d := by
  induction h with
  | here i hi => exact ⟨i, hi, rfl, fun us ρ' c' h => ⟨us, c', h⟩⟩
  | over i e vs ρ c hi he hl _ ih =>
    obtain ⟨j, hj, e1, h2⟩ := ih
    refine ⟨j, hj, e1, fun us ρ' c' h => ?_⟩
    obtain ⟨ws, d, hw⟩ := h2 us ρ' c' h
    exact ⟨_, _, Walk.over i e ws ρ' d hi he hl hw⟩
/-- The root is one of the bridges, and says so. -/
theorem fin_there (G : Good ids E K) {i : Nat} (hi : i < K) : ∃ k, k < K ∧ (fin ids E K k).v.root = (fin ids E K i).v.root ∧ (fin ids E K k).v.bridge = (fin ids E K k).v.root := by
  obtain ⟨vs, hw⟩ := fin_real G i hi
  obtain ⟨j, hj, e1, h2⟩ := hw.last
  obtain ⟨us, hu⟩ := fin_real G j hj
  obtain ⟨ws, d, h3⟩ := h2 us _ _ hu
  have a := fin_up G hi h3
  have b := fin_up G hj (Walk.here j hj)
  unfold le2 at a b
  have e : (fin ids E K j).v.root = (fin ids E K i).v.root := by omega
  exact ⟨j, hj, e, by rw [(fin_bridge j).1, e1, e]⟩
theorem someTo_iff {p : Nat → Bool} : ∀ {n : Nat}, Vc.someTo p n = true ↔ ∃ i, i < n ∧ p i = true
  | 0 => ⟨fun h => by simp [Vc.someTo] at h, fun ⟨i, hi, _⟩ => by omega⟩
  | n + 1 => by
    simp only [Vc.someTo, Bool.or_eq_true]
    rw [someTo_iff (n := n)]
    constructor
    · rintro (⟨i, hi, h⟩ | h)
      · exact ⟨i, by omega, h⟩
      · exact ⟨n, by omega, h⟩
    · rintro ⟨i, hi, h⟩
      by_cases e : i = n
      · subst e; exact Or.inr h
      · exact Or.inl ⟨i, by omega, h⟩
/-- What a port is, by the one link that is there. -/
theorem role_eq {i : Nat} {x : Nat → St} {l : List En} (one : ∀ p q, p ∈ l → q ∈ l → p.port = q.port → p = q) {e : En} (he : e ∈ l) (hl : e.live = true) :
    roleAt (x i) (offs l x) e = if e.port = (x i).rp then 1 else if Vc.lt ⟨(x e.other.toNat).v.root, (x e.other.toNat).v.cost, (x e.other.toNat).v.bridge, e.oport⟩ ⟨(x i).v.root, (x i).v.cost, (x i).v.bridge, e.port⟩ then 3 else 2 := by
  unfold roleAt Vc.role
  rw [if_pos hl]
  by_cases h : e.port = (x i).rp
  · rw [if_pos h, if_pos h]
  · rw [if_neg h, if_neg h]
    have key : Vc.someTo (fun j => decide (Vc.hears (x i).v e.port (lf (offs l x) j))) (offs l x).length = true ↔ Vc.lt ⟨(x e.other.toNat).v.root, (x e.other.toNat).v.cost, (x e.other.toNat).v.bridge, e.oport⟩ ⟨(x i).v.root, (x i).v.cost, (x i).v.bridge, e.port⟩ := by
      rw [someTo_iff]
      constructor
      · rintro ⟨j, hj, hh⟩
        have hh := of_decide_eq_true hh
        obtain ⟨q, q1, q2, q3⟩ := offs_mem (lf_mem hj)
        rw [q3] at hh
        obtain ⟨k1, _, k3⟩ := hh
        have := one q e q1 he k1
        subst this
        exact k3
      · intro hlt
        obtain ⟨j, hj, e1⟩ := lf_of_mem (mem_offs (x := x) he hl)
        refine ⟨j, hj, decide_eq_true ?_⟩
        rw [e1]
        exact ⟨rfl, ⟨Int.le_refl _, show (0 : Int) ≤ 20 by decide⟩, hlt⟩
    by_cases hlt : Vc.lt ⟨(x e.other.toNat).v.root, (x e.other.toNat).v.cost, (x e.other.toNat).v.bridge, e.oport⟩ ⟨(x i).v.root, (x i).v.cost, (x i).v.bridge, e.port⟩
    · rw [if_pos (key.2 hlt), if_pos hlt]
    · rw [if_neg (fun q => hlt (key.1 q)), if_neg hlt]
end
section
variable {K L : Nat} {ls : Nat → Lk}
theorem three_ways {p q : Prop} [Decidable p] [Decidable q] {r : Int} (h : r = if p then 1 else if q then 3 else 2) : (p ∧ r = 1) ∨ (¬ p ∧ q ∧ r = 3) ∨ (¬ p ∧ ¬ q ∧ r = 2) := by
  by_cases h1 : p
  · rw [if_pos h1] at h; exact Or.inl ⟨h1, h⟩
  · rw [if_neg h1] at h
    by_cases h2 : q
    · rw [if_pos h2] at h; exact Or.inr (Or.inl ⟨h1, h2, h⟩)
    · rw [if_neg h2] at h; exact Or.inr (Or.inr ⟨h1, h2, h⟩)
/-- A link's two ends. -/
def eA (l : Lk) (lv : Bool) : En := ⟨l.pa, l.cost, l.b, l.pb, lv⟩
def eB (l : Lk) (lv : Bool) : En := ⟨l.pb, l.cost, l.a, l.pa, lv⟩
theorem eA_mem (R : RightL K L ls) (lv : Nat → Bool) {k : Nat} (hk : k < L) : eA (ls k) (lv k) ∈ ends ls lv L (ls k).a.toNat :=
  ends_mem.2 ⟨k, hk, Or.inl ⟨by have := (R.ok k hk).1; omega, rfl⟩⟩
theorem eB_mem (R : RightL K L ls) (lv : Nat → Bool) {k : Nat} (hk : k < L) : eB (ls k) (lv k) ∈ ends ls lv L (ls k).b.toNat :=
  ends_mem.2 ⟨k, hk, Or.inr ⟨by have := (R.ok k hk).2.1; omega, rfl⟩⟩
/-- What all say. -/
def says (ids : Nat → Int) (ls : Nat → Lk) (lv : Nat → Bool) (K L : Nat) : Nat → St := fin ids (fun i => ends ls lv L i) K
/-- PlanRoot, PlanFar: over a live link. -/
theorem says_link (R : RightL K L ls) (hK : K ≤ 12) (ids : Nat → Int) (lv : Nat → Bool) {k : Nat} (hk : k < L) (hl : lv k = true) :
    (says ids ls lv K L (ls k).a.toNat).v.root = (says ids ls lv K L (ls k).b.toNat).v.root ∧
    (says ids ls lv K L (ls k).a.toNat).v.cost ≤ (says ids ls lv K L (ls k).b.toNat).v.cost + (ls k).cost ∧
    (says ids ls lv K L (ls k).b.toNat).v.cost ≤ (says ids ls lv K L (ls k).a.toNat).v.cost + (ls k).cost := by
  have G := good R hK ids lv
  obtain ⟨o1, o2, _⟩ := R.ok k hk
  have h1 := fin_edge G (i := (ls k).a.toNat) (by omega) (eA_mem R lv hk) hl
  have h2 := fin_edge G (i := (ls k).b.toNat) (by omega) (eB_mem R lv hk) hl
  unfold le2 eA at h1
  unfold le2 eB at h2
  simp only at h1 h2
  unfold says
  omega
/-- PlanEnds: of the two ends of a live link one is designated. -/
theorem says_roles (R : RightL K L ls) (hK : K ≤ 12) (ids : Nat → Int) (hids : ∀ i j, i < K → j < K → ids i = ids j → i = j) (lv : Nat → Bool) {k : Nat} (hk : k < L) (hl : lv k = true) (ra rb : Int)
    (ea : ra = roleAt (says ids ls lv K L (ls k).a.toNat) (offs (ends ls lv L (ls k).a.toNat) (says ids ls lv K L)) (eA (ls k) (lv k)))
    (eb : rb = roleAt (says ids ls lv K L (ls k).b.toNat) (offs (ends ls lv L (ls k).b.toNat) (says ids ls lv K L)) (eB (ls k) (lv k))) :
    (ra = 2 ∧ (rb = 1 ∨ rb = 3)) ∨ (rb = 2 ∧ (ra = 1 ∨ ra = 3)) := by
  have G := good R hK ids lv
  obtain ⟨o1, o2, o3, o4, o5, o6⟩ := R.ok k hk
  have hlink := says_link R hK ids lv hk hl
  rw [role_eq (fun p q hp hq h => ends_one R lv hp hq h) (eA_mem R lv hk) hl] at ea
  rw [role_eq (fun p q hp hq h => ends_one R lv hp hq h) (eB_mem R lv hk) hl] at eb
  have na : (ls k).a.toNat < K := by omega
  have nb : (ls k).b.toNat < K := by omega
  have hne : ids (ls k).a.toNat ≠ ids (ls k).b.toNat := fun e => by have := hids _ _ na nb e; omega
  have ba := (fin_bridge (ids := ids) (E := fun i => ends ls lv L i) (K := K) (ls k).a.toNat).1
  have bb := (fin_bridge (ids := ids) (E := fun i => ends ls lv L i) (K := K) (ls k).b.toNat).1
  have pa := fin_port G na
  have pb := fin_port G nb
  change (says ids ls lv K L _).v.bridge = _ at ba bb
  have ca : (ls k).pa = (says ids ls lv K L (ls k).a.toNat).rp → (says ids ls lv K L (ls k).a.toNat).v.cost = (says ids ls lv K L (ls k).b.toNat).v.cost + (ls k).cost := by
    intro e
    rcases pa with ⟨h, _⟩ | ⟨_, _, q, q1, q2, q3, q4, q5, _⟩
    · exfalso; change (says ids ls lv K L _).rp = -1 at h; omega
    · have := ends_one R lv q1 (eA_mem R lv hk) (by rw [q3]; exact e.symm)
      subst this
      exact q5
  have cb : (ls k).pb = (says ids ls lv K L (ls k).b.toNat).rp → (says ids ls lv K L (ls k).b.toNat).v.cost = (says ids ls lv K L (ls k).a.toNat).v.cost + (ls k).cost := by
    intro e
    rcases pb with ⟨h, _⟩ | ⟨_, _, q, q1, q2, q3, q4, q5, _⟩
    · exfalso; change (says ids ls lv K L _).rp = -1 at h; omega
    · have := ends_one R lv q1 (eB_mem R lv hk) (by rw [q3]; exact e.symm)
      subst this
      exact q5
  have fa := three_ways ea
  have fb := three_ways eb
  clear ea eb pa pb
  unfold eA Vc.lt at fa
  unfold eB Vc.lt at fb
  simp only at fa fb
  rcases fa with ⟨c1, fa⟩ | ⟨c1, d1, fa⟩ | ⟨c1, d1, fa⟩ <;> rcases fb with ⟨c2, fb⟩ | ⟨c2, d2, fb⟩ | ⟨c2, d2, fb⟩
  · have := ca c1; have := cb c2; omega
  · have := ca c1; omega
  · have := ca c1; omega
  · have := cb c2; omega
  · omega
  · omega
  · have := cb c2; omega
  · omega
  · omega
/-- PlanMore: with more that is live nothing is worse. -/
theorem Walk.more {ids : Nat → Int} {E E' : Nat → List En} (h : ∀ i, i < K → ∀ e, e ∈ E i → e.live = true → ∃ q, q ∈ E' i ∧ q.live = true ∧ q.other = e.other ∧ q.cost = e.cost) {i : Nat} {vs : List Nat} {ρ c : Int} (hw : Walk ids E K i vs ρ c) : Walk ids E' K i vs ρ c := by
  induction hw with
  | here i hi => exact Walk.here i hi
  | over i e vs ρ c hi he hl _ ih =>
    obtain ⟨q, q1, q2, q3, q4⟩ := h i hi e he hl
    rw [← q4]
    exact Walk.over i q vs ρ c hi q1 q2 (by rw [q3]; exact ih)
theorem says_more {ls' : Nat → Lk} (R : RightL K L ls) (R' : RightL K L ls') (hK : K ≤ 12) (ids : Nat → Int) (lv lv' : Nat → Bool) (hls : ∀ k, k < L → (ls' k).a = (ls k).a ∧ (ls' k).b = (ls k).b ∧ (ls' k).pa = (ls k).pa ∧ (ls' k).pb = (ls k).pb ∧ (ls' k).cost = (ls k).cost ∧ (lv k = true → lv' k = true)) {i : Nat} (hi : i < K) :
    le2 (says ids ls' lv' K L i).v (says ids ls lv K L i).v.root (says ids ls lv K L i).v.cost := by
  obtain ⟨vs, hw⟩ := fin_real (good R hK ids lv) i hi
  refine fin_up (good R' hK ids lv') hi (Walk.more (fun j hj e he hl => ?_) hw)
  obtain ⟨k, hk, h⟩ := ends_mem.1 he
  obtain ⟨a1, a2, a3, a4, a5, a6⟩ := hls k hk
  rcases h with ⟨h1, rfl⟩ | ⟨h1, rfl⟩
  · exact ⟨_, ends_mem.2 ⟨k, hk, Or.inl ⟨by rw [a1]; exact h1, rfl⟩⟩, a6 hl, a2, a5⟩
  · exact ⟨_, ends_mem.2 ⟨k, hk, Or.inr ⟨by rw [a2]; exact h1, rfl⟩⟩, a6 hl, a1, a5⟩
end
end Pl
end Go.Proofs.YtflghpnpjmodaaaGreatDoor
