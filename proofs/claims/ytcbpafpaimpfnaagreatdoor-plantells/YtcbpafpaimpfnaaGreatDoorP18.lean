/- Regions that draw their order, walked by hand: an operation that is taken, an append -/
import Derived.Test.YtcbpafpaimpfnaaGreatDoorP17
import Derived.Test.YtcbpafpaimpfnaaGreatDoorP14
import Derived.Test.YtcbpafpaimpfnaaGreatDoorP09
import Derived.Test.YtcbpafpaimpfnaaGreatDoorP10
import Derived.Test.YtcbpafpaimpfnaaGreatDoorP02
import Derived.Maps.AppendAt
import Derived.Deep.RegionHeld3
import Derived.Deep.DeepCutAuto
namespace Go.Proofs.YtcbpafpaimpfnaaGreatDoor
section
open Go.RowKit
open Pl (En)
namespace Es
def At (sp : Array Value) (g n : Nat) (f : Nat → En) (w : World) (G : Nat → En) (w' : World) : Prop :=
 w'.heap[g]? = some (.cells (rowE sp n G) 111 (0, 0)) ∧ Ec.Pm 0 n f G ∧ But g w w'
theorem At.next {sp : Array Value} {g n : Nat} {f G H : Nat → En} {w w1 w2 : World} (h : At sp g n f w G w1) (h1 : w2.heap[g]? = some (.cells (rowE sp n H) 111 (0, 0))) (h2 : Ec.Pm 0 n G H) (h3 : But g w1 w2) : At sp g n f w H w2 :=
 ⟨h1, h.2.1.trans h2, h.2.2.trans h3⟩
set_option maxRecDepth 100000 in
set_option maxHeartbeats 4000000 in
theorem sstable_any (sp : Array Value) (g n cap : Nat) (f : Nat → En) (w : World) (hA : w.heap[g]? = some (.cells (rowE sp n f) 111 (0, 0))) (hn : n ≤ 4398046511104) :
  Calls Tryz.prog 71 #[.slice (some ⟨g, 0, none⟩) n cap, .int .i64 n, .func (.func 56) #[] #[]] w fun x w' => x = .returned (.tuple #[]) ∧ ∃ G, At sp g n f w G w' ∧ Ec.SIn 0 n G := by
 have HA : Hid (At sp g n f w f w) := ⟨hA, Ec.Pm.refl, But.refl _ _⟩
 have HIN : Hid (∀ (a b : Nat) (G : Nat → En) (W : World), At sp g n f w G W → a ≤ n → b ≤ n → Calls Tryz.prog 84 #[.slice (some ⟨g, 0, none⟩) n cap, .int .i64 a, .int .i64 b, .func (.func 56) #[] #[]] W fun x w' => x = .returned (.tuple #[]) ∧ ∃ H, At sp g n f w H w' ∧ Ec.Pm a b G H ∧ Ec.SIn a b H) := fun a b G W hW q1 q2 => (sinsertion_any sp g n cap a b G W hW.1 hn q1 q2).mono (fun x w' h => by
  obtain ⟨e, H, k1, k2, k3, k4⟩ := h
  exact ⟨e, H, hW.next k1 (k2.mono (by omega) q2) k4, k2, k3⟩)
 have HME : Hid (∀ (a m b : Nat) (G : Nat → En) (W : World), At sp g n f w G W → a < m → m < b → b ≤ n → Ec.SIn a m G → Ec.SIn m b G → Calls Tryz.prog 85 #[.slice (some ⟨g, 0, none⟩) n cap, .int .i64 a, .int .i64 m, .int .i64 b, .func (.func 56) #[] #[]] W fun x w' => x = .returned (.tuple #[]) ∧ ∃ H, At sp g n f w H w' ∧ Ec.Pm a b G H ∧ Ec.SIn a b H) := fun a m b G W hW q1 q2 q3 q4 q5 => (smerge_any sp g n cap hn (b - a) a m b G W (Nat.le_refl _) hW.1 q1 q2 q3 q4 q5).mono (fun x w' h => by
  obtain ⟨e, H, k1, k2, k3, k4⟩ := h
  exact ⟨e, H, hW.next k1 (k2.mono (by omega) q3) k4, k2, k3⟩)
 clear hA
 go_enter Tryz.func71, Tryz.ntmps71
 go_wp2_with fail
 go_loopw [7, 8] (fun va vb wr => ∃ A B : Nat, B = A + 20 ∧ A ≤ n ∧ va = .int .i64 A ∧ vb = .int .i64 B ∧ Hid (∃ t G, A = t * 20 ∧ At sp g n f w G wr ∧ ∀ q, q < t → Ec.SIn (q * 20) ((q + 1) * 20) G)) (fun va _ _ => n - (intOf va).toNat)
 case atStart => exact ⟨0, 20, rfl, by omega, rfl, rfl, 0, f, rfl, HA.out, fun q hq => by omega⟩
 case round =>
  obtain ⟨A, B, hB, lA, rfl, rfl, hX⟩ := hrel
  obtain ⟨t, G, hAt, hG, hS⟩ := hX.out
  clear hX HA
  by_cases hlt : B ≤ n
  ·have HC := HIN.out A B G wr hG lA hlt
   obtain ⟨B2, hB2⟩ : ∃ B2, B2 = B + 20 := ⟨_, rfl⟩
   have wB : IntKind.i64.wrap ((B : Int) + 20) = (B2 : Int) := by rw [wraps_i64 _ (by omega) (by omega)]; omega
   have lB : (B : Int) ≤ (n : Int) := by omega
   have HST : Hid (∀ H, Ec.Pm A B G H → Ec.SIn A B H → B = (t + 1) * 20 ∧ ∀ q, q < t + 1 → Ec.SIn (q * 20) ((q + 1) * 20) H) := fun H k1 k2 => by
    subst hB
    exact ⟨by omega, Ec.first_step hAt hS k1 k2⟩
   have HB2 : Hid (B2 = B + 20) := hB2
   have HBA : Hid (B = A + 20) := hB
   clear hAt hG hS HIN HME hB2 hB
   go_wp2_with fail
   refine HC.mono ?_
   rintro x w1 ⟨rfl, H, k1, k2, k3⟩
   have HF : Hid (∃ t G, B = t * 20 ∧ At sp g n f w G w1 ∧ ∀ q, q < t → Ec.SIn (q * 20) ((q + 1) * 20) G) := ⟨t + 1, H, (HST.out H k2 k3).1, k1, (HST.out H k2 k3).2⟩
   clear k1 k2 k3 HST HC
   go_wp2_with fail
   exact ⟨⟨B, B2, HB2.out, hlt, rfl, rfl, HF⟩, by have := HBA.out; simp [intOf]; omega⟩
  ·have HC := HIN.out A n G wr hG lA (Nat.le_refl _)
   have HFD : Hid (∀ H, Ec.Pm A n G H → Ec.SIn A n H → Ec.Blks 20 n H) := fun H k1 k2 => Ec.first_done hAt (by omega) hS k1 k2
   have lB : ¬ (B : Int) ≤ (n : Int) := by omega
   have lB2 : decide ((B : Int) ≤ (n : Int)) = false := decide_eq_false lB
   clear hAt hG hS HIN hB
   go_wp2_with fail
   refine HC.mono ?_
   rintro x w1 ⟨rfl, H, k1, k2, k3⟩
   have H0 : Hid (∃ G, At sp g n f w G w1 ∧ Ec.Blks 20 n G) := ⟨H, k1, HFD.out H k2 k3⟩
   clear k1 k2 k3 HFD HC lB lB2 hlt
   go_wp2_with fail
   go_loopw [6] (fun vb wr => ∃ bs : Nat, 0 < bs ∧ bs ≤ 2 * n + 20 ∧ vb = .int .i64 bs ∧ Hid (∃ G, At sp g n f w G wr ∧ Ec.Blks bs n G)) (fun vb _ => n - (intOf vb).toNat)
   case atStart => exact ⟨20, by omega, by omega, rfl, H0⟩
   case round =>
    obtain ⟨bs, pb, ub, rfl, hX⟩ := hrel
    clear H0
    by_cases hbn : bs < n
    ·obtain ⟨D, hD⟩ : ∃ D, D = 2 * bs := ⟨_, rfl⟩
     have eD : IntKind.i64.wrap (2 * (bs : Int)) = (D : Int) := by rw [wraps_i64 _ (by omega) (by omega)]; omega
     have eD2 : IntKind.i64.wrap ((bs : Int) * 2) = (D : Int) := by rw [wraps_i64 _ (by omega) (by omega)]; omega
     have hbn2 : (bs : Int) < (n : Int) := by omega
     have HDD : Hid (D = 2 * bs) := hD
     have uD : D ≤ 8796093022208 := by omega
     have uD2 : D ≤ 2 * n := by omega
     have pD : bs < D := by omega
     have HX : Hid (∃ G, At sp g n f w G wr ∧ Ec.Blks bs n G) := hX
     clear hX hD
     go_wp2_with fail
     go_loopw [7, 8] (fun va vb wi => ∃ A B : Nat, B = A + D ∧ A ≤ n ∧ va = .int .i64 A ∧ vb = .int .i64 B ∧ Hid (∃ t G, A = t * (2 * bs) ∧ At sp g n f w G wi ∧ Ec.Half bs n t G)) (fun va _ _ => n - (intOf va).toNat)
     case atStart =>
      obtain ⟨G, k1, k2⟩ := HX.out
      exact ⟨0, D, by omega, by omega, rfl, rfl, 0, G, by omega, k1, Ec.half_start k2⟩
     case round =>
      obtain ⟨A, B, hB, lA, rfl, rfl, hY⟩ := hrel
      obtain ⟨t, G, hAt, hG, hH⟩ := hY.out
      clear hY HX
      obtain ⟨s1, s2⟩ := Ec.half_parts hH hAt
      obtain ⟨M, hM⟩ : ∃ M, M = A + bs := ⟨_, rfl⟩
      have wM : IntKind.i64.wrap ((A : Int) + (bs : Int)) = (M : Int) := by rw [wraps_i64 _ (by omega) (by omega)]; omega
      have hDD := HDD.out
      by_cases hlt : B ≤ n
      ·have HC := HME.out A M B G wr hG (by omega) (by omega) hlt (s1.sub (Nat.le_refl _) (by omega)) (s2.sub (by omega) (by omega))
       obtain ⟨B2, hB2⟩ : ∃ B2, B2 = B + D := ⟨_, rfl⟩
       have wB : IntKind.i64.wrap ((B : Int) + (D : Int)) = (B2 : Int) := by rw [wraps_i64 _ (by omega) (by omega)]; omega
       have lB : (B : Int) ≤ (n : Int) := by omega
       have HST : Hid (∀ H, Ec.Pm A B G H → Ec.SIn A B H → B = (t + 1) * (2 * bs) ∧ Ec.Half bs n (t + 1) H) := fun H k1 k2 => by
        have e : B = A + 2 * bs := by omega
        rw [e] at k1 k2
        refine ⟨?_, Ec.half_step hH hAt k1 k2⟩
        rw [Nat.add_mul, Nat.one_mul, ← hAt]; exact e
       have HB2 : Hid (B2 = B + D) := hB2
       have hAB : A < B := by omega
       clear hAt hG hH s1 s2 hM hDD HME hB2 hB
       go_wp2_with fail
       refine HC.mono ?_
       rintro x w2 ⟨rfl, H, k1, k2, k3⟩
       have HF : Hid (∃ t G, B = t * (2 * bs) ∧ At sp g n f w G w2 ∧ Ec.Half bs n t G) := ⟨t + 1, H, (HST.out H k2 k3).1, k1, (HST.out H k2 k3).2⟩
       clear k1 k2 k3 HST HC
       go_wp2_with fail
       exact ⟨⟨B, B2, HB2.out, hlt, rfl, rfl, HF⟩, by simp [intOf]; omega⟩
      ·have lB : decide ((B : Int) ≤ (n : Int)) = false := decide_eq_false (by omega)
       have lB0 : ¬ (B : Int) ≤ (n : Int) := by omega
       have HFD : Hid (∀ H, Ec.Pm A n G H → Ec.SIn A n H → Ec.Blks D n H) := fun H k1 k2 => by rw [hDD]; exact Ec.half_done hH hAt (by omega) k1 k2
       by_cases hmn : M < n
       ·have HC := HME.out A M n G wr hG (by omega) hmn (Nat.le_refl _) (s1.sub (Nat.le_refl _) (by omega)) (s2.sub (by omega) (by omega))
        have hmn2 : (M : Int) < (n : Int) := by omega
        clear hAt hG hH s1 s2 hM hDD HME hB hlt
        go_wp2_with fail
        refine HC.mono ?_
        rintro x w2 ⟨rfl, H, k1, k2, k3⟩
        have HF : Hid (∃ G, At sp g n f w G w2 ∧ Ec.Blks D n G) := ⟨H, k1, HFD.out H k2 k3⟩
        clear k1 k2 k3 HFD HC
        go_wp2_with fail
        exact ⟨⟨D, by omega, by omega, rfl, HF⟩, by simp [intOf]; omega⟩
       ·have HF : Hid (∃ G, At sp g n f w G wr ∧ Ec.Blks D n G) := ⟨G, hG, HFD.out G Ec.Pm.refl (s1.sub (Nat.le_refl _) (by omega))⟩
        have hmn2 : decide ((M : Int) < (n : Int)) = false := decide_eq_false (by omega)
        have hmn3 : ¬ (M : Int) < (n : Int) := by omega
        clear hAt hG hH s1 s2 hM hDD HME hB hlt HFD
        go_wp2_with fail
        exact ⟨⟨D, by omega, by omega, rfl, HF⟩, by simp [intOf]; omega⟩
    ·have HF : Hid (∃ G, At sp g n f w G wr ∧ Ec.SIn 0 n G) := by
      obtain ⟨G, k1, k2⟩ := hX.out
      exact ⟨G, k1, Ec.blks_all k2 (by omega)⟩
     have hbn2 : decide ((bs : Int) < (n : Int)) = false := decide_eq_false (by omega)
     have hbn3 : ¬ (bs : Int) < (n : Int) := by omega
     clear hX HME
     go_wp2_with fail
     exact bodyPost_end (results_none Tryz.results71 _ _ _) rfl ⟨rfl, HF.out⟩
end Es
end
section
open Go.RowKit
open Pl (Br Net Pc Lk En St)
instance : Inhabited En := ⟨⟨0, 0, 0, 0, false⟩⟩
def encE (e : En) : List Value := [.int .i64 e.port, .int .i64 e.cost, .int .i64 e.other, .int .i64 e.oport, .bool e.live]
abbrev EL (l : List En) (j : Nat) : En := l.getD j default
namespace Es
theorem eins_none (fv : Value) (w : World) : Calls Tryz.prog 84 #[.slice none 0 0, .int .i64 0, .int .i64 0, fv] w fun e w' => e = .returned (.tuple #[]) ∧ w' = w := by
 go_enter Tryz.func84, Tryz.ntmps84
 go_wp2
 refine wp_loop_rounds 1 ?_
 rw [rounds_succ]
 go_wp2
 go_end0
 exact ⟨rfl, rfl⟩
theorem estable_none (fv : Value) (w : World) : Calls Tryz.prog 71 #[.slice none 0 0, .int .i64 0, fv] w fun e w' => e = .returned (.tuple #[]) ∧ w' = w := by
 have hi := fun W => eins_none fv W
 go_enter Tryz.func71, Tryz.ntmps71
 go_wp2
 refine wp_loop_rounds 1 ?_
 rw [rounds_succ]
 go_wp2_with (go_at_call 84; refine (hi _).mono ?_; rintro e w' ⟨rfl, rfl⟩)
 refine wp_loop_rounds 1 ?_
 rw [rounds_succ]
 go_wp2
 go_end0
 exact ⟨rfl, rfl⟩
theorem esort_none (fv : Value) (w : World) : Calls Tryz.prog 55 #[.slice none 0 0, fv] w fun e w' => e = .returned (.tuple #[]) ∧ w' = w := by
 have hp := fun W => estable_none fv W
 go_enter Tryz.func55, Tryz.ntmps55
 go_wp2_with (go_at_call 71; refine (hp _).mono ?_; rintro e w' ⟨rfl, rfl⟩)
 go_end0
 exact ⟨rfl, rfl⟩
set_option maxHeartbeats 1000000 in
theorem ssort_any (sp : Array Value) (g n cap : Nat) (f : Nat → En) (w : World) (hA : w.heap[g]? = some (.cells (rowE sp n f) 111 (0, 0))) (hn : n ≤ 4398046511104) :
  Calls Tryz.prog 55 #[.slice (some ⟨g, 0, none⟩) n cap, .func (.func 56) #[] #[]] w fun x w' => x = .returned (.tuple #[]) ∧ ∃ G, At sp g n f w G w' ∧ Ec.SIn 0 n G := by
 have HC : Hid (Calls Tryz.prog 71 #[.slice (some ⟨g, 0, none⟩) n cap, .int .i64 n, .func (.func 56) #[] #[]] w fun x w' => x = .returned (.tuple #[]) ∧ ∃ G, At sp g n f w G w' ∧ Ec.SIn 0 n G) := sstable_any sp g n cap f w hA hn
 clear hA
 go_enter Tryz.func55, Tryz.ntmps55
 go_wp2_with fail
 refine HC.out.mono ?_
 rintro x w1 ⟨rfl, hG⟩
 have HF : Hid (∃ G, At sp g n f w G w1 ∧ Ec.SIn 0 n G) := hG
 clear hG
 go_wp2_with fail
 exact bodyPost_end (results_none Tryz.results55 _ _ _) rfl ⟨rfl, HF.out⟩
end Es
theorem listOf_EL (l : List En) : Ec.listOf l.length (EL l) = l := by
 unfold Ec.listOf
 apply List.ext_getElem
 ·simp
 ·intro i h1 h2
  simp [EL, List.getD, List.getElem?_eq_getElem h2]
set_option maxHeartbeats 1000000 in
theorem psort_any (base : Nat) (v : Value) (l : List En) (w : World) (hl : l.length ≤ 1000) (ho : w.ownsRow base 111 5 v l.length (cellsL l.length 5 (fun j => enC (EL l j)))) :
  Calls Tryz.prog 55 #[v, .func (.func 56) #[] #[]] w fun e w' => e = .returned (.tuple #[]) ∧ ∃ l' : List En, l'.Perm l ∧ l'.Pairwise (fun x y => ¬ y.port < x.port) ∧ (∃ ao cap, v = .slice ao l'.length cap ∧ ERow w' ao l'.length cap (EL l')) ∧ w.grownBy w' v.ownBlock ∧ ∀ q, v.ownBlock = some q → ∃ cur, w'.heap[q]? = some (.cells cur 111 (0, 0)) := by
 obtain ⟨_, h2⟩ := ho
 rcases h2 with ⟨rfl, h0⟩ | ⟨g, cap, cur, rfl, hg, hh, hn, hm, hs, hx⟩
 ·have e0 : l = [] := List.eq_nil_of_length_eq_zero h0
  subst e0
  refine (Es.esort_none (.func (.func 56) #[] #[]) w).mono ?_
  rintro e w' ⟨rfl, rfl⟩
  exact ⟨rfl, [], List.Perm.refl _, List.Pairwise.nil, ⟨none, 0, rfl, CRow.none _ _ _ _ _⟩, ⟨rfl, rfl, rfl, Nat.le_refl _, fun _ _ _ => rfl⟩, fun q hq => by simp [Value.ownBlock] at hq⟩
 ·have e1 : cur = Es.rowE (cur.toList.drop (l.length * 5)).toArray l.length (EL l) := by
   apply Array.ext'
   unfold Es.rowE rowC
   rw [Array.toList_append]
   simp only
   rw [← hx, List.take_append_drop]
  rw [e1] at hh
  refine (Es.ssort_any _ g l.length cap (EL l) w hh (by omega)).mono ?_
  rintro e w' ⟨rfl, G, ⟨h1, h2, h3⟩, hS⟩
  have hp := h2.perm l.length (Nat.le_refl _)
  rw [listOf_EL] at hp
  have hlen : (Ec.listOf l.length G).length = l.length := by simp [Ec.listOf]
  have hget : ∀ i, i < l.length → EL (Ec.listOf l.length G) i = G i := fun i hi => by
   simp [EL, Ec.listOf, List.getD, hi]
  refine ⟨rfl, Ec.listOf l.length G, hp, ?_, ⟨_, cap, by rw [hlen], ?_⟩, h3, fun q hq => by simp [Value.ownBlock] at hq; subst hq; exact ⟨_, h1⟩⟩
  ·rw [List.pairwise_iff_getElem]
   intro i j hi hj hij
   have := hS i j (Nat.zero_le _) hij (by rw [← hlen]; exact hj)
   simpa [Ec.listOf, Ec.lt] using this
  ·rw [hlen]
   refine ⟨hn, fun _ => ⟨g, 0, rfl, (Array.getElem?_eq_some_iff.1 h1).1, fun i hi j hj => ?_⟩⟩
   rw [Nat.zero_add]
   show _ = some (enC (EL (Ec.listOf l.length G) i) j)
   rw [hget i hi]
   exact (cell_of_row w' g _ _ _ _ h1).trans (Es.rowE_get _ _ G i j hi hj)
theorem infoE : (Tryz.prog.info? 111).map (fun i => (i.zero, i.size, i.bytes)) = some (some (.agg #[.int .i64 0, .int .i64 0, .int .i64 0, .int .i64 0, .bool false]), 5, 40) := by kernel_rfl
theorem infoEs : (Tryz.prog.info? 79).map (fun i => (i.zero, i.size, i.bytes)) = some (some (.slice none 0 0), 1, 24) := by kernel_rfl
abbrev eCells (l : List En) : List Value := cellsL l.length 5 (fun j => enC (EL l j))
theorem eCells_snoc (l : List En) (e : En) : eCells l ++ encE e = eCells (l ++ [e]) := by
 have h1 : encE e = cellsL 1 5 (fun _ => enC e) := by
  simp [encE, cellsL, enC, List.range_succ]
 unfold eCells
 rw [h1, cellsL_cat _ _ _ (by omega), List.length_append]
 apply cellsL_congr
 intro i hi
 simp only [catC]
 by_cases q : i < l.length
 ·rw [if_pos q]
  simp [EL, List.getD, List.getElem?_append_left q]
 ·rw [if_neg q]
  obtain rfl : i = l.length := by omega
  simp [EL, List.getD]
structure EnAt (w : World) (G K : Nat) (v : Nat → Value) (L : Nat → List En) : Prop where
 blk : w.heap[G]? = some (.cells (rowC K 1 (fun i _ => v i)) 79 (0, 0))
 own : ∀ i, i < K → w.ownsRow (G + 1) 111 5 (v i) (L i).length (eCells (L i))
 apart : ∀ i j, i < K → j < K → i ≠ j → ∀ q, (v i).ownBlock = some q → (v j).ownBlock ≠ some q
theorem EnAt.below {w w' : World} {G K : Nat} {v : Nat → Value} {L : Nat → List En} (h : EnAt w G K v L) (hb : Below w.heap.size w w') : EnAt w' G K v L :=
 ⟨keep h.blk hb, fun i hi => ownsC_below (h.own i hi) hb, h.apart⟩
theorem grown_owns {w w' : World} {base n : Nat} {v : Value} {xs : List Value} {r : Option Nat} (h : w.ownsRow base 111 5 v n xs) (hg : w.grownBy w' r) (hne : ∀ q, v.ownBlock = some q → r ≠ some q) : w'.ownsRow base 111 5 v n xs := by
 refine h.kept hg ?_
 cases hv : v.ownBlock with
 | none => exact Or.inl rfl
 | some q => exact Or.inr (fun e => hne q hv e.symm)
set_option maxHeartbeats 1000000 in
theorem en_append {Z : World} {G K : Nat} {v : Nat → Value} {L : Nat → List En} (hE : EnAt Z G K v L) (i : Nat) (hi : i < K) (e : En) (hlen : (L i).length ≤ 1000) :
  ∃ v' w2, (Builtin.append_ #[79, 79] 79 #[v i, .slice (some ⟨Z.heap.size, 0, none⟩) 1 1]).run Tryz.prog (Z.drew.alloc (.cells #[.int .i64 e.port, .int .i64 e.cost, .int .i64 e.other, .int .i64 e.oport, .bool e.live] 111)) = .ok v' w2 ∧
   w2.cell? ⟨G, i, none⟩ = some (v i) ∧ w2.frozen? ⟨G, i, none⟩ = false ∧ EnAt (w2.setCell ⟨G, i, none⟩ v') G K (fun j => if j = i then v' else v j) (fun j => if j = i then L i ++ [e] else L j) ∧
   Below G Z (w2.setCell ⟨G, i, none⟩ v') ∧ (v'.ownBlock = (v i).ownBlock ∨ v'.ownBlock = some (Z.heap.size + 1)) ∧ (∀ q, q < Z.heap.size → (v i).ownBlock ≠ some q → w2.heap[q]? = Z.heap[q]?) ∧ Z.heap.size ≤ w2.heap.size := by
 obtain ⟨i0, hi0, hz0, hz1, hz2⟩ := info_parts infoE
 have hGl : G < Z.heap.size := (Array.getElem?_eq_some_iff.1 hE.blk).1
 obtain ⟨C, hC⟩ : ∃ C, C = Z.drew.alloc (.cells #[.int .i64 e.port, .int .i64 e.cost, .int .i64 e.other, .int .i64 e.oport, .bool e.live] 111) := ⟨_, rfl⟩
 have hCb : Below Z.heap.size Z C := by rw [hC]; exact (Below.drew (Below.refl _ _)).alloc (Nat.le_refl _) _
 have hCs : C.heap.size = Z.heap.size + 1 := by rw [hC]; simp
 have hCl : C.heap[Z.heap.size]? = some (.cells #[.int .i64 e.port, .int .i64 e.cost, .int .i64 e.other, .int .i64 e.oport, .bool e.live] 111 (0, 0)) := by rw [hC]; exact heap_alloc_last Z.drew _
 have hEC := hE.below hCb
 have hsrc : ∀ j u, (encE e)[j]? = some u → C.cell? ((⟨Z.heap.size, 0, none⟩ : Addr).add j) = some u := by
  intro j u hj
  have hl : j < 5 := by
   have := (List.getElem?_eq_some_iff.1 hj).1
   simpa [encE] using this
  rw [add_row, Nat.zero_add]
  rcases (by omega : j = 0 ∨ j = 1 ∨ j = 2 ∨ j = 3 ∨ j = 4) with q | q | q | q | q <;> subst q <;> (have := cell_of_row C Z.heap.size 0 _ _ _ hCl; simp [encE] at hj; subst hj; exact cell_of_row C Z.heap.size _ _ _ _ hCl)
 obtain ⟨v', w2, hrun, h1, h2, _, h3⟩ := run_append_own_at (P := Tryz.prog) C (G + 1) 79 79 111 i0 _ 5 40 Tryz.underlying79 hi0 hz0 hz1 hz2 rfl (by omega) (v i) (L i).length (eCells (L i)) (hEC.own i hi) ⟨Z.heap.size, 0, none⟩ 1 1 (encE e) rfl hsrc (fun u hu => by simp [encE] at hu; rcases hu with rfl | rfl | rfl | rfl | rfl <;> rfl) (by unfold maxLen; omega) (by omega) (by omega)
 rw [eCells_snoc] at h1
 have hG1 : (v i).ownBlock ≠ some G := fun q => by have := (ownsC_block (hEC.own i hi) G q).1; omega
 have hw2G : w2.heap[G]? = some (.cells (rowC K 1 (fun i _ => v i)) 79 (0, 0)) := (h2.block G (by omega) (fun q => hG1 q.symm)).trans hEC.blk
 have hsame : ∀ q, q < C.heap.size → (v i).ownBlock ≠ some q → w2.heap[q]? = C.heap[q]? := fun q hq hne => h2.block q hq (fun p => hne p.symm)
 have hv'G : v'.ownBlock ≠ some G := fun q => by rcases h3 with h3 | h3 <;> rw [h3] at q; exact hG1 q; injection q with q; omega
 have eC : (⟨G, i, none⟩ : Addr) = ⟨G, i * 1 + 0, none⟩ := by simp
 have oth : ∀ q, q ≠ G → (w2.setCell ⟨G, i, none⟩ v').heap[q]? = w2.heap[q]? := fun q hq => heap_setCell_other _ _ _ _ (by exact hq)
 have hgs : w2.grownBy (w2.setCell ⟨G, i, none⟩ v') (some G) := ⟨by first | rfl | simp, by first | rfl | simp, by first | rfl | simp, by first | exact Nat.le_refl _ | simp, fun q _ hne => oth q (fun p => hne (by rw [p]))⟩
 refine ⟨v', w2, by rw [← hC]; exact hrun, ?_, frozen_of_row _ _ _ _ _ hw2G, ⟨?_, fun j hj => ?_, fun j k hj hk hjk q hq => ?_⟩, ?_, ?_, fun q hq hne => ?_, ?_⟩
 ·rw [eC]; exact rowC_cell hw2G hi (by omega)
 ·rw [eC, rowC_set hw2G hi (by omega), rowC_congr2 (d := fun j _ => if j = i then v' else v j) (fun j _ m hm => by
   unfold updC
   by_cases q : j = i
   ·rw [if_pos ⟨q, by omega⟩, if_pos q]
   ·rw [if_neg (fun p => q p.1), if_neg q])]
 ·by_cases q : j = i
  ·subst q
   simp only [if_true]
   rw [List.length_append]
   exact grown_owns h1 hgs (fun q hq p => hv'G (by rw [hq]; exact p.symm))
  ·simp only [if_neg q]
   refine grown_owns (grown_owns (hEC.own j hj) h2 (fun p hp r => hE.apart j i hj hi q p hp r)) hgs (fun p hp r => ?_)
   have := (ownsC_block (hEC.own j hj) p hp).1
   injection r with r
   omega
 ·by_cases c1 : j = i <;> by_cases c2 : k = i
  ·exact absurd (c1.trans c2.symm) hjk
  ·simp only [if_pos c1] at hq
   simp only [if_neg c2]
   intro r
   rcases h3 with h3 | h3
   ·exact hE.apart i k hi hk (fun p => c2 p.symm) q (by rw [← h3]; exact hq) r
   ·have := (ownsC_block (hE.own k hk) q r).2
    rw [h3] at hq
    injection hq with hq
    omega
  ·simp only [if_neg c1] at hq
   simp only [if_pos c2]
   intro r
   rcases h3 with h3 | h3
   ·exact hE.apart j i hj hi c1 q hq (by rw [← h3]; exact r)
   ·have := (ownsC_block (hE.own j hj) q hq).2
    rw [h3] at r
    injection r with r
    omega
  ·simp only [if_neg c1] at hq
   simp only [if_neg c2]
   exact hE.apart j k hj hk hjk q hq
 ·have b1 : Below G Z C := hCb.mono (Nat.le_of_lt hGl)
  have b2 : Below G C w2 := (Below.refl _ _).grown h2 (by omega) (fun q hq => by have := (ownsC_block (hEC.own i hi) q hq).1; omega)
  exact (b1.trans b2).setCell (Nat.le_refl _) _
 ·rcases h3 with h3 | h3
  ·exact Or.inl h3
  ·exact Or.inr (by rw [h3, hCs])
 ·rw [hsame q (by omega) hne]
  exact hCb.block q hq
 ·have := h2.size; omega
structure EndsOk (w : World) (G K : Nat) (v : Nat → Value) (E : Nat → List En) : Prop where
 blk : w.heap[G]? = some (.cells (rowC K 1 (fun i _ => v i)) 79 (0, 0))
 row : ∀ i, i < K → ∃ ao cap, v i = .slice ao (E i).length cap ∧ ERow w ao (E i).length cap (EL (E i))
 ty : ∀ i, i < K → ∀ q, (v i).ownBlock = some q → ∃ cur, w.heap[q]? = some (.cells cur 111 (0, 0))
theorem EndsOk.below {w w' : World} {G K : Nat} {v : Nat → Value} {E : Nat → List En} (h : EndsOk w G K v E) (hb : Below w.heap.size w w') : EndsOk w' G K v E :=
 ⟨keep h.blk hb, fun i hi => by
  obtain ⟨ao, cap, e, h1⟩ := h.row i hi
  exact ⟨ao, cap, e, CRow.below h1 hb⟩, fun i hi q hq => by
  obtain ⟨cur, hc⟩ := h.ty i hi q hq
  exact ⟨cur, keep hc hb⟩⟩
structure SrtAt (w : World) (G K : Nat) (v : Nat → Value) (L E : Nat → List En) (k : Nat) : Prop where
 blk : w.heap[G]? = some (.cells (rowC K 1 (fun i _ => v i)) 79 (0, 0))
 own : ∀ i, i < K → k ≤ i → w.ownsRow (G + 1) 111 5 (v i) (L i).length (eCells (L i))
 row : ∀ i, i < k → ∃ ao cap, v i = .slice ao (E i).length cap ∧ ERow w ao (E i).length cap (EL (E i))
 ty : ∀ i, i < k → ∀ q, (v i).ownBlock = some q → ∃ cur, w.heap[q]? = some (.cells cur 111 (0, 0))
 apart : ∀ i j, i < K → j < K → i ≠ j → ∀ q, (v i).ownBlock = some q → (v j).ownBlock ≠ some q
theorem srt_next {w w' : World} {G K : Nat} {v : Nat → Value} {L E : Nat → List En} {k : Nat} (h : SrtAt w G K v L E k) (hk : k < K) (hg : w.grownBy w' (v k).ownBlock) (hr : ∃ ao cap, v k = .slice ao (E k).length cap ∧ ERow w' ao (E k).length cap (EL (E k))) (hty : ∀ q, (v k).ownBlock = some q → ∃ cur, w'.heap[q]? = some (.cells cur 111 (0, 0))) : SrtAt w' G K v L E (k + 1) := by
 have hGl : G < w.heap.size := (Array.getElem?_eq_some_iff.1 h.blk).1
 have hG1 : (v k).ownBlock ≠ some G := fun q => by have := (ownsC_block (h.own k hk (Nat.le_refl _)) G q).1; omega
 refine ⟨(hg.block G hGl (fun q => hG1 q.symm)).trans h.blk, fun i hi hki => grown_owns (h.own i hi (by omega)) hg (fun q hq p => h.apart i k hi hk (by omega) q hq p), fun i hi => ?_, fun i hi q hq => ?_, h.apart⟩
 rotate_left
 ·by_cases e : i = k
  ·subst e; exact hty q hq
  ·obtain ⟨cur, hc⟩ := h.ty i (by omega) q hq
   exact ⟨cur, (hg.block q (Array.getElem?_eq_some_iff.1 hc).1 (fun p => h.apart i k (by omega) hk e q hq p.symm)).trans hc⟩
 by_cases e : i = k
 ·subst e; exact hr
 ·obtain ⟨ao, cap, e1, h1⟩ := h.row i (by omega)
  refine ⟨ao, cap, e1, CRow.other h1 (fun b off hb hlt => hg.block b hlt (fun q => ?_)) hg.size⟩
  subst hb
  exact h.apart i k (by omega) hk e b (by rw [e1]; rfl) q.symm
end
section
namespace Tk
open Vc (V Of)
open Pl (Lk En St lf lf_mem lf_of_mem le2 Walk fin fin_real fin_up fin_fix fin_port fin_edge fin_bridge fin_cost offerOf offs toNat_lt)
structure Md where
 v : V
 age : Int
 rp : Int
def heardOf (x : Nat → Md) (e : En) : Of := ⟨e.port, e.cost, (x e.other.toNat).age, ⟨(x e.other.toNat).v.root, (x e.other.toNat).v.cost, (x e.other.toNat).v.bridge, e.oport⟩⟩
def heard (E : List En) (x : Nat → Md) : List Of := (E.filter (·.live)).map (heardOf x)
section
variable {ids : Nat → Int} {E : Nat → List En} {K : Nat}
inductive Dep (ids : Nat → Int) (E : Nat → List En) (K : Nat) : Nat → List Nat → Prop
 | root (i : Nat) : i < K → (fin ids E K i).rp = -1 → Dep ids E K i [i]
 | step (i : Nat) (e : En) (vs : List Nat) : i < K → e ∈ E i → e.live = true → e.port = (fin ids E K i).rp → (fin ids E K i).v.root < ids i → (fin ids E K i).v.root = (fin ids E K e.other.toNat).v.root → (fin ids E K i).v.cost = (fin ids E K e.other.toNat).v.cost + e.cost →
   (∀ q, q ∈ E i → q.live = true → ¬ Vc.ahead (offerOf (fin ids E K) q) (offerOf (fin ids E K) e)) → Dep ids E K e.other.toNat vs → Dep ids E K i (i :: vs)
theorem Dep.near (G : Pl.Good ids E K) {i : Nat} {vs : List Nat} (h : Dep ids E K i vs) : (∀ v ∈ vs, v < K ∧ (fin ids E K v).v.cost ≤ (fin ids E K i).v.cost) ∧ vs.Nodup := by
 induction h with
 | root i hi _ => exact ⟨fun v hv => by rw [List.mem_singleton] at hv; subst hv; exact ⟨hi, Int.le_refl _⟩, by simp⟩
 | step i e vs hi h1 h2 _ _ _ h5 _ _ ih =>
  obtain ⟨_, g2, _⟩ := G.lt i hi e h1 h2
  refine ⟨fun v hv => ?_, List.nodup_cons.2 ⟨fun hm => ?_, ih.2⟩⟩
  ·rcases List.mem_cons.1 hv with q | q
   ·subst q; exact ⟨hi, Int.le_refl _⟩
   ·have := ih.1 v q; exact ⟨this.1, by omega⟩
  ·have := (ih.1 i hm).2; omega
theorem Dep.len (G : Pl.Good ids E K) {i : Nat} {vs : List Nat} (h : Dep ids E K i vs) : vs.length ≤ 12 :=
 Nat.le_trans (Pl.nodup_few K vs (h.near G).2 (fun v hv => ((h.near G).1 v hv).1)) G.few
end
def roleM (m : Md) (l : List Of) (e : En) : Int := if e.live = true then Vc.role m.v m.rp e.port (lf l) l.length else 0
section
variable {ids : Nat → Int} {E : Nat → List En} {K : Nat}
theorem someTo_congr {p q : Nat → Bool} : ∀ n, (∀ i, i < n → p i = q i) → Vc.someTo p n = Vc.someTo q n
 | 0, _ => rfl
 | n + 1, h => by simp only [Vc.someTo]; rw [someTo_congr n (fun i hi => h i (by omega)), h n (by omega)]
theorem role_same (m : Md) (s : St) (hv : m.v = s.v) (hr : m.rp = s.rp) (l : List En) (x : Nat → Md) (y : Nat → St) (h : ∀ e, e ∈ l → e.live = true → (x e.other.toNat).v = (y e.other.toNat).v ∧ 0 ≤ (x e.other.toNat).age ∧ (x e.other.toNat).age ≤ 20) (e : En) : roleM m (heard l x) e = Pl.roleAt s (offs l y) e := by
 unfold roleM Pl.roleAt
 by_cases hl : e.live = true
 ·rw [if_pos hl, if_pos hl, hv, hr]
  unfold Vc.role
  have hlen : (heard l x).length = (offs l y).length := by unfold heard offs; rw [List.length_map, List.length_map]
  rw [hlen]
  have key : Vc.someTo (fun i => decide (Vc.hears s.v e.port (lf (heard l x) i))) (offs l y).length = Vc.someTo (fun i => decide (Vc.hears s.v e.port (lf (offs l y) i))) (offs l y).length := by
   apply someTo_congr
   intro i hi
   have hi' : i < (l.filter (·.live)).length := by unfold offs at hi; rw [List.length_map] at hi; exact hi
   have hm := List.getElem_mem hi'
   obtain ⟨m1, m2⟩ := List.mem_filter.1 hm
   obtain ⟨k1, k2, k3⟩ := h _ m1 m2
   have a1 : lf (heard l x) i = heardOf x ((l.filter (·.live))[i]) := by
    unfold lf heard
    rw [List.getD_eq_getElem?_getD, List.getElem?_map, List.getElem?_eq_getElem hi']
    rfl
   have a2 : lf (offs l y) i = offerOf y ((l.filter (·.live))[i]) := by
    unfold lf offs
    rw [List.getD_eq_getElem?_getD, List.getElem?_map, List.getElem?_eq_getElem hi']
    rfl
   rw [a1, a2]
   apply decide_eq_decide.2
   unfold Vc.hears heardOf offerOf
   simp only
   rw [k1]
   constructor
   ·rintro ⟨p1, p2, p3⟩; exact ⟨p1, ⟨by omega, by omega⟩, p3⟩
   ·rintro ⟨p1, p2, p3⟩; exact ⟨p1, ⟨k2, k3⟩, p3⟩
  rw [key]
 ·rw [if_neg hl, if_neg hl]
end
end Tk
end
section
open Go.RowKit
theorem step_append_d {w w' : World} {ops : Array Oper} {o : Oper} {a : Act} {K : Act → World → Prop} {Q : Exit → Act → World → Prop} {E : Prop} (d : Option Tmp) (hd : o.dst = d) (hgd : o.guard = none) (s x : Operand) (t : TypeId)
  (ho : o.op = .call { callee := .builtin .append, args := #[s, x], argTypes := #[t, t] }) (v vx v' : Value) (hs : a.eval s = v) (hx : a.eval x = vx) (hr : (Builtin.append_ #[t, t] o.type #[v, vx]).run Tryz.prog w = .ok v' w')
  (h : K (a.put d v') w') : if Region.wanted o (yielded ops a.tmps) = true then Oper.wp Tryz.prog o a w K Q else E := by
 subst hd
 exact step_append_c hgd s x t ho v vx v' hs hx hr h
section
variable {P : Program} {ops : Array Oper} {Q : Exit → Act → World → Prop} {md : Region.Mode} {S : World → Prop}
theorem pheld_take {i : Nat} {oi : Oper} {v : Value} (d : Option Tmp) {fuel : Nat} {listed : Array Bool} {a : Act} {w : World} (hi : ops[i]? = some oi) (hd : oi.dst = d)
  (hs : Region.noSelect ops = true) (hf : Region.free md ops listed i = true) (hr : (Region.ready md ops listed).contains i = true)
  (hQ : ∀ c a w, Q (.panic c) (a.put d v) w → Q (.panic c) a w) (hw : Region.wanted oi (yielded ops a.tmps) = true) (hy : ∀ w, S w → (execOp a.eval oi).run P w = .ok (.value v) w) (hS : S w)
  (h : wpAnyH P md ops Q S fuel (listed.setIfInBounds i true) (a.put d v) w) : wpAnyH P md ops Q S (fuel + 1) listed a w := by
 subst hd
 exact wpAnyH_take hi hs hf hr hQ (Or.inl ⟨hw, hy⟩) hS h
end
end
end Go.Proofs.YtcbpafpaimpfnaaGreatDoor
