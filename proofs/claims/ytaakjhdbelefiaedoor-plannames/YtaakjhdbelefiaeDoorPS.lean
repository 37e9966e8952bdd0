/- slices.SortFunc at ends, by their ports -/
import Derived.Test.YtaakjhdbelefiaeDoorPSh
import Derived.Test.YtaakjhdbelefiaeDoorPB
import Derived.Test.YtaakjhdbelefiaeDoorVK
namespace Go.Proofs.YtaakjhdbelefiaeDoor
open Go.RowKit
open Pl (Br Net Pc Lk En St)

instance : Inhabited En := ⟨⟨0, 0, 0, 0, false⟩⟩
/-- An end's five cells. -/
def encE (e : En) : List Value := [.int .i64 e.port, .int .i64 e.cost, .int .i64 e.other, .int .i64 e.oport, .bool e.live]
theorem encE_get (e : En) {j : Nat} (hj : j < 5) : (encE e)[j]! = enC e j := by
  rcases (by omega : j = 0 ∨ j = 1 ∨ j = 2 ∨ j = 3 ∨ j = 4) with q | q | q | q | q <;> subst q <;> rfl
/-- A list of ends lies in a row. -/
abbrev EL (l : List En) (j : Nat) : En := l.getD j default
set_option maxHeartbeats 1000000 in
theorem pcmp_any (x y : En) (W : World) : Calls Tryd.prog 24 #[.agg #[.int .i64 x.port, .int .i64 x.cost, .int .i64 x.other, .int .i64 x.oport, .bool x.live], .agg #[.int .i64 y.port, .int .i64 y.cost, .int .i64 y.other, .int .i64 y.oport, .bool y.live]] W fun e w' => e = .returned (.int .i64 (sg x.port y.port)) ∧ ∃ q os', w' = Go.Sort.grow (W.drewN q) os' := by
  have hcon := fun W' => ccmpi_any x.port y.port W'
  generalize sg x.port y.port = r at hcon ⊢
  go_enter Tryd.func24, Tryd.ntmps24
  go_wp2_with (go_at_call 25; refine (hcon _).mono ?_; rintro e w' ⟨rfl, rfl⟩)
  go_ret
  exact ⟨rfl, 0, _, by rw [Go.Sort.alloc_eq_grow, Go.Sort.alloc_eq_grow, Go.Sort.grow_grow]; rfl⟩
/-- At no end nothing turns. -/
theorem pins_none (fv : Value) (w : World) : Calls Tryd.prog 51 #[.slice none 0 0, .int .i64 0, .int .i64 0, fv] w fun e w' => e = .returned (.tuple #[]) ∧ w' = w := by
  go_enter Tryd.func51, Tryd.ntmps51
  go_wp2
  refine wp_loop_rounds 1 ?_
  rw [rounds_succ]
  go_wp2
  go_end0
  exact ⟨rfl, rfl⟩
theorem ppdq_none (lim : Int) (fv : Value) (w : World) : Calls Tryd.prog 39 #[.slice none 0 0, .int .i64 0, .int .i64 0, .int .i64 lim, fv] w fun e w' => e = .returned (.tuple #[]) ∧ w' = w := by
  have hi := fun W => pins_none fv W
  go_enter Tryd.func39, Tryd.ntmps39
  go_wp2
  refine wp_loop_rounds 1 ?_
  rw [rounds_succ]
  go_wp2_with (go_at_call 51; refine (hi _).mono ?_; rintro e w' ⟨rfl, rfl⟩)
  (try simp only [Exit.inBlock, Exit.then])
  refine bodyPost_ret (results_none rfl _ _ _) rfl ?_
  exact ⟨rfl, rfl⟩
theorem psort_none (fv : Value) (w : World) : Calls Tryd.prog 23 #[.slice none 0 0, fv] w fun e w' => e = .returned (.tuple #[]) ∧ w' = w := by
  have hp := fun lim W => ppdq_none lim fv W
  have hl : ∀ W, Calls Tryd.prog 40 #[.int .u64 0] W fun e w' => e = .returned (.int .i64 (Go.Lib.bitLen 0 : Nat)) ∧ w' = W := fun W =>
    Go.Proofs.Any.bits_Len (Go.Proofs.SlLaysF0.n15.bits (P := Tryd.prog) (ρ := Tryd.sortEn_ren) { Tryd.sortEn with }) 0 W (by omega) (by omega)
  go_enter Tryd.func23, Tryd.ntmps23
  go_wp2_with (first | (go_at_call 40; refine (hl _).mono ?_; rintro e w' ⟨rfl, rfl⟩) | (go_at_call 39; refine (hp _ _).mono ?_; rintro e w' ⟨rfl, rfl⟩))
  go_end0
  exact ⟨rfl, rfl⟩
theorem ltP (x y : En) : Go.Proofs.ltOf (fun x y : En => sg x.port y.port) x y = decide (x.port < y.port) := by
  unfold Go.Proofs.ltOf sg
  by_cases h1 : x.port < y.port
  · simp [h1]
  · by_cases h2 : y.port < x.port <;> simp [h1, h2]
theorem swoP : Go.Sort.SWO (Go.Proofs.ltOf fun x y : En => sg x.port y.port) where
  irrefl x := by rw [ltP]; simp
  trans x y z h1 h2 := by rw [ltP] at *; simp at *; omega
  ntrans x y z h1 h2 := by rw [ltP] at *; simp at *; omega
theorem grownBy_sortK {α : Type} [Inhabited α] (enc : α → List Value) (k : Nat) {w : World} {g off n : Nat} {os : Array Obj} (d : Array α) : w.grownBy (Go.Proofs.sortWorldK enc k w g off n d os) (some g) := by
  refine ⟨rfl, rfl, rfl, ?_, fun j hj hne => ?_⟩
  · exact Go.Proofs.size_sortWorldK_c enc k w g off n d os
  · unfold Go.Proofs.sortWorldK
    have hs : (Go.Sort.putRowK enc k (Go.Sort.ahead w n) g off d).heap.size = w.heap.size := by rw [Go.Sort.size_putRowK]; rfl
    rw [Go.Sort.heap_grow_old _ _ (by rw [hs]; exact hj)]
    have : g ≠ j := fun e => hne (by rw [e])
    simp [Go.Sort.putRowK, Go.Sort.putRow, Go.Sort.mapBlock, Go.Sort.ahead, Array.getElem?_modify, this]
theorem el_get (l : List En) {i : Nat} (hi : i < l.length) : l.toArray[i]! = EL l i := by
  rw [getElem!_pos l.toArray i (by simpa using hi)]
  simp [EL, List.getD, List.getElem?_eq_getElem hi]
theorem aggE : ∀ w, (isAgg 71).run Tryd.prog w = .ok true w := Tryd.isAgg71
theorem sizeE : ∀ w, (Go.sizeOf 71).run Tryd.prog w = .ok 5 w := Tryd.sizeOf71
set_option maxHeartbeats 1000000 in
/-- THE SORT. -/
theorem psort_any (base : Nat) (v : Value) (l : List En) (w : World) (hl : l.length ≤ 1000) (ho : w.ownsRow base 71 5 v l.length (cellsL l.length 5 (fun j => enC (EL l j)))) :
    Calls Tryd.prog 23 #[v, .func (.func 24) #[] #[]] w fun e w' => e = .returned (.tuple #[]) ∧ ∃ l' : List En, l'.Perm l ∧ l'.Pairwise (fun x y => ¬ y.port < x.port) ∧ (∃ ao cap, v = .slice ao l'.length cap ∧ ERow w' ao l'.length cap (EL l')) ∧ w.grownBy w' v.ownBlock := by
  have ho' := ho
  obtain ⟨_, h2⟩ := ho
  rcases h2 with ⟨rfl, h0⟩ | ⟨g, cap, cur, rfl, hg, hh, hn, hm, _, _⟩
  · have e0 : l = [] := List.eq_nil_of_length_eq_zero h0
    subst e0
    refine (psort_none (.func (.func 24) #[] #[]) w).mono ?_
    rintro e w' ⟨rfl, rfl⟩
    exact ⟨rfl, [], List.Perm.refl _, List.Pairwise.nil, ⟨none, 0, rfl, CRow.none _ _ _ _ _⟩, ⟨rfl, rfl, rfl, Nat.le_refl _, fun _ _ _ => rfl⟩⟩
  · have hblk : g < w.heap.size := (Array.getElem?_eq_some_iff.1 hh).1
    have hH : Go.Sort.HoldsK encE 5 w g 0 l.toArray := by
      intro t ht
      rw [Go.Sort.size_flatK] at ht
      have ht2 : t < l.length * 5 := by simpa using ht
      have hq : t / 5 < l.length := by omega
      refine ⟨?_, by rw [Nat.zero_add]; exact ho'.frozenAt t⟩
      rw [Nat.zero_add, ho'.cellAt t ht2, Go.Sort.get_flatK _ _ _ _ ht, el_get l hq, encE_get _ (Nat.mod_lt _ (by omega))]
      simp [cellsL, ht2]
    have eg : ∀ args w, (callFunc 24 args).run Tryd.prog w = .ok (.enter 24 args) w := enters_of Tryd.func24 (by kernel_rfl) rfl
    have hcon := Go.Proofs.AnyQ.slices_SortFunc Tryd.sortEn 5 aggE sizeE encE (fun _ => rfl) (fun x v hv => by simp [encE] at hv; rcases hv with rfl | rfl | rfl | rfl | rfl <;> rfl) (fun x y : En => sg x.port y.port) swoP 24 #[] g 0 cap l.toArray w eg (fun _ _ _ _ x y => pcmp_any x y _) hH hblk (by simp; omega)
    change Calls Tryd.prog 23 _ _ _ at hcon
    rw [List.size_toArray] at hcon
    refine hcon.mono ?_
    rintro e w' ⟨rfl, d', n, os, hp, hs, rfl⟩
    obtain ⟨p1, _, p3⟩ := hp
    have sz : d'.toList.length = l.length := by simpa using p1
    have hH' := Go.Proofs.holdsK_sortWorldK_c encE 5 w g 0 l.toArray d' n os hH hblk p1
    have hget : ∀ i, i < d'.toList.length → d'[i]! = EL d'.toList i := fun i hi => by
      have h := el_get d'.toList hi
      rw [Array.toArray_toList] at h
      exact h
    refine ⟨rfl, d'.toList, ?_, ?_, ⟨_, cap, by rw [sz], ?_⟩, grownBy_sortK encE 5 d'⟩
    · have e1 : d'.extract 0 l.length = d' := by rw [← sz, Array.length_toList, Array.extract_size]
      have e2 : l.toArray.extract 0 l.length = l.toArray := by simp
      rw [e1, e2] at p3
      simpa using p3
    · rw [List.pairwise_iff_getElem]
      intro i j hi hj hij
      have := hs i j (Nat.zero_le _) hij (by rw [← sz]; exact hj)
      rw [ltP] at this
      have this := of_decide_eq_false this
      rw [hget i hi, hget j hj] at this
      simpa [EL, List.getD, List.getElem?_eq_getElem hi, List.getElem?_eq_getElem hj] using this
    · refine ⟨by omega, fun _ => ⟨g, 0, rfl, Nat.lt_of_lt_of_le hblk (Go.Proofs.size_sortWorldK_c encE 5 w g 0 n d' os), fun i hi j hj => ?_⟩⟩
      have := (hH'.cell (i := i) (c := j) (by simpa using hi) hj).1
      rw [encE_get _ hj, hget i hi] at this
      exact this
end Go.Proofs.YtaakjhdbelefiaeDoor
