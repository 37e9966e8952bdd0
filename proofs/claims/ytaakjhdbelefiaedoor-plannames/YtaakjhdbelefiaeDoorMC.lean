/- What the laws of plans ask: live links, as a list; identities are apart; places, cell by cell -/
import Derived.Test.YtaakjhdbelefiaeDoorMA
import Derived.Test.YtaakjhdbelefiaeDoorMB
import Derived.Test.YtaakjhdbelefiaeDoorPW8
namespace Go.Proofs.YtaakjhdbelefiaeDoor
open Go.RowKit
open Vc (V Of)
open Pl (Br Net Pc Lk En St)

/-- Ports and roles of places lie there. -/
def PortsAt (w : World) (P : Nat) (x : St) (es : List En) (os : List Of) (v5 v6 : Value) : Prop :=
  ∃ (pao rao : Option Addr) (pcap rcap : Nat), v5 = .slice pao es.length pcap ∧ v6 = .slice rao es.length rcap ∧ IRow w pao es.length pcap (fun j => (EL es j).port) ∧ IRow w rao es.length rcap (fun j => Pl.roleAt x os (EL es j)) ∧ (∀ b off, pao = some ⟨b, off, none⟩ → b ≠ P) ∧ (∀ b off, rao = some ⟨b, off, none⟩ → b ≠ P)
theorem PortsAt.grown {w W : World} {P : Nat} {x : St} {es : List En} {os : List Of} {v5 v6 : Value} (h : PortsAt w P x es os v5 v6) (hW : w.grownBy W (some P)) : PortsAt W P x es os v5 v6 := by
  obtain ⟨pao, rao, pcap, rcap, e5, e6, h1, h2, h3, h4⟩ := h
  exact ⟨pao, rao, pcap, rcap, e5, e6, row_but h1 hW (fun _ => h3), row_but h2 hW (fun _ => h4), h3, h4⟩
/-- The places of K bridges, as they lie in block P; the first k have their ports. -/
def PlacesAt (w : World) (P K : Nat) (x : Nat → St) (E : Nat → List En) (k : Nat) : Prop :=
  ∃ c, w.heap[P]? = some (.cells (rowC K 7 c) 48 (0, 0)) ∧ (∀ i, i < K → ∀ j, j < 5 → c i j = plS (x i) j) ∧ (∀ i, i < K → k ≤ i → c i 5 = .slice none 0 0 ∧ c i 6 = .slice none 0 0) ∧ ∀ i, i < k → PortsAt w P (x i) (E i) (Pl.offs (E i) x) (c i 5) (c i 6)
theorem PlacesAt.below {w w' : World} {P K : Nat} {x : Nat → St} {E : Nat → List En} {k : Nat} (h : PlacesAt w P K x E k) (hb : Below w.heap.size w w') : PlacesAt w' P K x E k := by
  obtain ⟨c, h1, h2, h3, h4⟩ := h
  exact ⟨c, keep h1 hb, h2, h3, fun i hi => (h4 i hi).grown ⟨hb.os, hb.tape, hb.output, hb.size, fun j hj _ => hb.block j hj⟩⟩
theorem PlAt.places {w : World} {P K : Nat} {x : Nat → St} {E : Nat → List En} (h : PlAt w P K x) : PlacesAt w P K x E 0 :=
  ⟨_, h, fun _ _ _ _ => rfl, fun _ _ _ => ⟨rfl, rfl⟩, fun i hi => absurd hi (by omega)⟩
theorem PlacesAt.says {w : World} {P K : Nat} {x : Nat → St} {E : Nat → List En} {k : Nat} (h : PlacesAt w P K x E k) : SaysAt w P K x := by
  obtain ⟨c, h1, h2, _⟩ := h
  refine ⟨(Array.getElem?_eq_some_iff.1 h1).1, fun i hi j hj => ?_⟩
  rw [rowC_cell h1 hi (show j < 7 by omega), h2 i hi j (by omega)]
  unfold plS
  rw [if_pos hj]
theorem EndsOk.grown {w W : World} {G K P : Nat} {v : Nat → Value} {E : Nat → List En} (h : EndsOk w G K v E) (hW : w.grownBy W (some P)) (hP : w.heap.size ≤ P) : EndsOk W G K v E := by
  have hl := (Array.getElem?_eq_some_iff.1 h.blk).1
  refine ⟨(hW.block G hl (fun q => by injection q with q; omega)).trans h.blk, fun i hi => ?_⟩
  obtain ⟨ao, cap, e, h1⟩ := h.row i hi
  exact ⟨ao, cap, e, CRow.other h1 (fun b off _ hlt => hW.block b hlt (fun q => by injection q with q; omega)) hW.size⟩
/-- One place has its ports and roles: the next is to have them. -/
theorem places_next {w W : World} {P K : Nat} {x : Nat → St} {E : Nat → List En} {i : Nat} {c : Nat → Nat → Value} {v5 v6 : Value} (hi : i < K) (h2 : ∀ i, i < K → ∀ j, j < 5 → c i j = plS (x i) j) (h3 : ∀ q, q < K → i ≤ q → c q 5 = .slice none 0 0 ∧ c q 6 = .slice none 0 0) (h4 : ∀ q, q < i → PortsAt w P (x q) (E q) (Pl.offs (E q) x) (c q 5) (c q 6)) (hg : w.grownBy W (some P)) (hW : W.heap[P]? = some (.cells (rowC K 7 (updP c i v5 v6)) 48 (0, 0))) (hp : PortsAt W P (x i) (E i) (Pl.offs (E i) x) v5 v6) : PlacesAt W P K x E (i + 1) := by
  refine ⟨_, hW, fun q hq j hj => ?_, fun q hq hle => ?_, fun q hq => ?_⟩
  · unfold updP
    rw [if_neg (by omega), if_neg (by omega)]
    exact h2 q hq j hj
  · unfold updP
    rw [if_neg (by omega), if_neg (by omega), if_neg (by omega), if_neg (by omega)]
    exact h3 q hq (by omega)
  · unfold updP
    by_cases e : q = i
    · subst e
      rw [if_pos ⟨rfl, rfl⟩, if_neg (by omega), if_pos ⟨rfl, rfl⟩]
      exact hp
    · rw [if_neg (by omega), if_neg (by omega), if_neg (by omega), if_neg (by omega)]
      exact (h4 q (by omega)).grown hg
/-- Noughts over noughts. -/
theorem below_same {w : World} {T : Nat} (h : w.heap[T]? = some (.cells #[.int .i64 0, .int .i64 0] 39 (0, 0))) : Below w.heap.size w ((w.setCell ⟨T, 0, none⟩ (.int .i64 0)).setCell ⟨T, 1, none⟩ (.int .i64 0)) := by
  have b : Below 0 w ((w.setCell ⟨T, 0, none⟩ (.int .i64 0)).setCell ⟨T, 1, none⟩ (.int .i64 0)) := ((Below.refl 0 w).setCell (Nat.zero_le _) _).setCell (Nat.zero_le _) _
  refine ⟨b.os, b.tape, b.output, b.size, fun j _ => ?_⟩
  by_cases e : j = T
  · subst e
    rw [set2_same h, h]
  · exact (heap_setCell_other _ _ _ _ (by exact e)).trans (heap_setCell_other _ _ _ _ (by exact e))
theorem ends_few (n : Net) (i : Nat) (h : n.L ≤ 40) : (n.ends i).length ≤ 1000 := by
  have h1 := (Pl.ends_perm n.ls n.live n.L i).length_eq
  have h2 := endsTo_few n.ls n.live i n.L
  show (Pl.ends n.ls n.live n.L i).length ≤ 1000
  omega
/-- A net with nothing wrong. -/
structure Pl.Net.Right (n : Net) : Prop where
  few : n.K ≤ 12
  fewL : n.L ≤ 40
  fine : ∀ i, i < n.K → (n.bs i).Fine
  links : Pl.RightL n.K n.L n.ls
  apart : ∀ i j, i < n.K → j < n.K → (n.bs i).addr = (n.bs j).addr → i = j
theorem right_of {n : Net} (hw : n.Wf) (h : n.wrong.1 = 0) : n.Right := by
  unfold Pl.Net.wrong at h
  by_cases c1 : 12 < n.K ∨ 40 < n.L
  · rw [if_pos c1] at h; cases h
  · rw [if_neg c1] at h
    by_cases c2 : (Pl.firstTo (Pl.bErr n.bs) n.K).1 = 0
    · rw [if_neg (fun q => q c2)] at h
      have hb := (Pl.firstTo_zero _ _ c2).2
      have hl := (Pl.firstTo_zero _ _ h).2
      refine ⟨by omega, by omega, fun i hi => ?_, Pl.rightL hl, fun i j hi hj e => ?_⟩
      · have h0 := bErr_zero (hb i hi)
        have ha := wf_u64 (hw.addr i hi)
        unfold Pl.brErr at h0
        split at h0
        · omega
        · split at h0
          · omega
          · split at h0
            · omega
            · rename_i q1 q2 q3
              refine ⟨by omega, by omega, fun t ht => ?_, Rg.wrong_zero h0⟩
              have := Pl.someTo_false (by simpa using q3) t ht
              unfold Pl.oddP at this
              simp only [Bool.or_eq_false_iff, Bool.not_eq_false', decide_eq_true_eq] at this
              exact this.1
      · have key : ∀ a b, a < b → b < n.K → (n.bs a).addr ≠ (n.bs b).addr := fun a b hab hb' e2 => by
          have h7 := hb b hb'
          unfold Pl.bErr at h7
          rw [if_neg (fun q => q (bErr_zero (hb b hb'))), if_pos (Pl.someTo_iff.2 ⟨a, hab, decide_eq_true e2⟩)] at h7
          cases h7
        rcases Nat.lt_trichotomy i j with q | q | q
        · exact absurd e (key i j q hj)
        · exact q
        · exact absurd e.symm (key j i q hi)
    · rw [if_pos c2] at h; exact absurd h c2
set_option maxRecDepth 100000 in
set_option maxHeartbeats 4000000 in
theorem pplan_any (n : Net) (tree : Int) (w : World) (hat : n.at' w) (hwf : n.Wf) (ht : Tabs w) (hbt : 2 ≤ w.heap.size) :
    Calls Tryd.prog 7 #[n.val, .int .i64 tree] w fun e w' => Below w.heap.size w w' ∧
      ((n.wrong.1 ≠ 0 ∧ e = .returned (.tuple #[.slice none 0 0, .agg (ftA n.wrong)])) ∨ (n.wrong.1 = 0 ∧ ¬ (0 ≤ tree ∧ tree ≤ 15) ∧ e = .returned (.tuple #[.slice none 0 0, .agg #[.int .i64 3, .int .i64 0]])) ∨
        (n.wrong.1 = 0 ∧ (0 ≤ tree ∧ tree ≤ 15) ∧ ∃ P, e = .returned (.tuple #[.slice (some ⟨P, 0, none⟩) n.K n.K, .agg #[.int .i64 0, .int .i64 0]]) ∧ PlacesAt w' P n.K (Pl.rounds (n.ids tree) n.ends n.K n.K) n.ends n.K ∧ w.heap.size ≤ P)) := by
  have hright : n.wrong.1 = 0 → n.Right := right_of hwf
  have hplc : Hid (∀ i, Pl.ends n.ls (lvF n.bs n.ls) n.L i = n.ends i) := fun i => rfl
  obtain ⟨X, HX⟩ : ∃ X, Hid (X = (w.alloc (.cells #[.slice n.bao n.K n.bcap, .slice n.lao n.L n.lcap] 25)).alloc (.cells #[.int .i64 0, .int .i64 0] 39)) := ⟨_, rfl⟩
  have hXB : Below w.heap.size w X := by rw [HX.out]; exact below_alloc2 _ _ _
  have hXn : X.heap[w.heap.size]? = some (.cells #[.slice n.bao n.K n.bcap, .slice n.lao n.L n.lcap] 25 (0, 0)) := by rw [HX.out]; exact heap_alloc2_old w _ _
  have hXf : X.heap[w.heap.size + 1]? = some (.cells #[.int .i64 0, .int .i64 0] 39 (0, 0)) := by rw [HX.out]; exact heap_alloc2_new w _ _
  have hXs : X.heap.size = w.heap.size + 2 := by rw [HX.out]; simp
  have HC : Hid (∀ W, Below X.heap.size X W → (W.cell? ⟨w.heap.size, 0, none⟩ = some (.slice n.bao n.K n.bcap) ∧ W.cell? ⟨w.heap.size, 1, none⟩ = some (.slice n.lao n.L n.lcap)) ∧ W.heap[w.heap.size + 1]? = some (.cells #[.int .i64 0, .int .i64 0] 39 (0, 0)) ∧ Below w.heap.size w W) := fun W hW => ⟨two_cells2 (keep hXn hW), keep hXf hW, hXB.trans (hW.mono hXB.size)⟩
  have HWR : Hid (Calls Tryd.prog 11 #[n.val] X fun e w' => e = .returned (.agg (ftA n.wrong)) ∧ Hid (Below X.heap.size X w')) := pwrong_any n X (hat.below hXB) hwf
  obtain ⟨⟨n0, n1⟩, _, _⟩ := HC.out X (Below.refl _ _)
  rw [HX.out] at n0 n1
  have HAT : Hid (n.at' w) := hat
  have HT : Hid (Tabs w) := ht
  have HRI : Hid (n.wrong.1 = 0 → n.Right) := hright
  clear hat ht hright hXn hXf hwf
  obtain ⟨⟨E1, E2⟩, hE⟩ : ∃ E, E = n.wrong := ⟨_, rfl⟩
  rw [← hE] at HWR HRI ⊢
  have HEE : Hid ((E1, E2) = n.wrong) := hE
  clear hE
  simp only [ftA, Pl.Net.val] at *
  go_enter Tryd.func7, Tryd.ntmps7
  go_wp2_with fail
  rw [← HX.out]
  refine HWR.out.mono ?_
  rintro e w1 ⟨rfl, HB1⟩
  clear HWR n0 n1
  obtain ⟨Y, HY⟩ : ∃ Y, Hid (Y = w1.alloc (.cells #[.int .i64 E1, .int .i64 E2] 39)) := ⟨_, rfl⟩
  have HBY : Hid (Below X.heap.size X Y) := by rw [HY.out]; exact HB1.out.alloc HB1.out.size _
  have hYf : Y.heap[w1.heap.size]? = some (.cells #[.int .i64 E1, .int .i64 E2] 39 (0, 0)) := by rw [HY.out]; exact heap_alloc_last _ _
  obtain ⟨y0, y1⟩ := two_cells2 hYf
  obtain ⟨⟨m0, m1⟩, m2, m3⟩ := HC.out Y HBY.out
  obtain ⟨z0, z1⟩ := two_cells2 m2
  obtain ⟨f0, f1, _, _⟩ := vc_free m2
  have HM2 : Hid (Y.heap[w.heap.size + 1]? = some (.cells #[.int .i64 0, .int .i64 0] 39 (0, 0))) := m2
  have HM3 : Hid (Below w.heap.size w Y) := m3
  clear hYf m2 m3
  by_cases e0 : E1 = 0
  · subst e0
    have HR : Hid n.Right := HRI.out (by first | exact rfl | trivial)
    have HWI : Hid (∀ W, Calls Tryd.prog 12 #[.int .i64 tree, .int .i64 0, .int .i64 15] W fun e w' => e = .returned (.bool (decide (0 ≤ tree ∧ tree ≤ 15))) ∧ w' = W) := fun W => gwithin_any _ _ _ W
    rw [HY.out] at y0 y1
    by_cases htr : 0 ≤ tree ∧ tree ≤ 15
    · rw [decide_eq_true htr] at HWI
      have HEN : Hid (Calls Tryd.prog 13 #[.agg #[.slice n.bao n.K n.bcap, .slice n.lao n.L n.lcap]] Y fun e w' => ∃ G v, e = .returned (.slice (some ⟨G, 0, none⟩) n.K n.K) ∧ EndsOk w' G n.K v n.ends ∧ Y.heap.size ≤ G ∧ Below Y.heap.size Y w') := by
        have hn := HAT.out.below HM3.out
        exact pends_any n.bao n.K n.bcap n.bs n.lao n.L n.lcap n.ls Y HR.out.few HR.out.fewL hn.brs hn.each HR.out.fine hn.lks HR.out.links (HT.out.below HM3.out (by omega)) (by have := HM3.out.size; omega)
      rw [HY.out] at m0 m1
      go_wp2_with fail
      rw [← HY.out]
      refine (HWI.out _).mono ?_
      rintro e w' ⟨rfl, rfl⟩
      rw [← HY.out] at m0 m1
      go_wp2_with fail
      refine HEN.out.mono ?_
      rintro e w2 ⟨G, v, rfl, hEn, _, hb2⟩
      have HB2 : Hid (Below X.heap.size X w2) := HBY.out.trans (hb2.mono HBY.out.size)
      obtain ⟨⟨k0, k1⟩, k2, k3⟩ := HC.out w2 HB2.out
      have HIN : Hid (SetIn w2 n.bao n.K n.bcap n.bs G v n.ends) := by
        have hn := HAT.out.below k3
        exact ⟨HR.out.few, hn.brs, hn.each, HR.out.fine, hEn, fun i _ => ends_few n i HR.out.fewL, fun i hi e he hl => ((Pl.good HR.out.links HR.out.few (n.ids tree) n.live).lt i hi e he hl).1⟩
      have HSE : Hid (Calls Tryd.prog 14 #[.slice n.bao n.K n.bcap, .int .i64 tree, .slice (some ⟨G, 0, none⟩) n.K n.K] w2 fun e w' => e = .returned (.slice (some ⟨w2.heap.size, 0, none⟩) n.K n.K) ∧ PlAt w' w2.heap.size n.K (Pl.rounds (fun i => (n.bs i).id tree) n.ends n.K n.K) ∧ Below w2.heap.size w2 w') := psettled_any n.bao n.K n.bcap n.bs G v n.ends tree w2 HIN.out
      clear HEN HWI y0 y1 m0 m1 hEn hb2 k2 k3
      go_wp2_with fail
      refine HSE.out.mono ?_
      rintro e w3 ⟨rfl, hPl, hb3⟩
      obtain ⟨P, HP⟩ : ∃ P, Hid (P = w2.heap.size) := ⟨_, rfl⟩
      rw [← HP.out] at hPl ⊢
      obtain ⟨x, HXX⟩ : ∃ x, Hid (x = Pl.rounds (n.ids tree) n.ends n.K n.K) := ⟨_, rfl⟩
      have H0 : Hid (PlacesAt w3 P n.K x n.ends 0 ∧ w3.grownBy w3 (some P)) := ⟨by rw [HXX.out]; exact hPl.places, rfl, rfl, rfl, Nat.le_refl _, fun _ _ _ => rfl⟩
      have HIN3 : Hid (SetIn w3 n.bao n.K n.bcap n.bs G v n.ends ∧ ∀ W, w3.grownBy W (some P) → EndsOk W G n.K v n.ends) := by
        refine ⟨HIN.out.below hb3, fun W hW => ?_⟩
        have h1 : w2.grownBy W (some P) := (show w2.grownBy w3 (some P) from ⟨hb3.os, hb3.tape, hb3.output, hb3.size, fun j hj _ => hb3.block j hj⟩).trans hW
        exact HIN.out.ends.grown h1 (by rw [HP.out]; exact Nat.le_refl _)
      have HIN2 : Hid (EndsOk w2 G n.K v n.ends) := HIN.out.ends
      have hPw : w.heap.size + 1 < P := by
        have := HB2.out.size
        rw [HP.out]; omega
      have HFI : Hid (∀ W, w3.grownBy W (some P) → W.heap[w.heap.size + 1]? = some (.cells #[.int .i64 0, .int .i64 0] 39 (0, 0)) ∧ Below w.heap.size w W) := fun W hW => by
        have hB3 : Below X.heap.size X w3 := HB2.out.trans (hb3.mono HB2.out.size)
        obtain ⟨_, q2, q3⟩ := HC.out w3 hB3
        exact ⟨(hW.block _ (Array.getElem?_eq_some_iff.1 q2).1 (fun e => by injection e with e; omega)).trans q2, q3.trans (below_of_grown hW q3.size (by omega))⟩
      have hfK := HR.out.few
      clear HSE hPl hb3 HIN HC HB2 k0 k1 HR HAT HT HRI HBY HM2 HM3 HY HX hplc
      go_wp2_with fail
      go_loopw [29] (fun q wr => ∃ k : Nat, k ≤ n.K ∧ q = .int .i64 k ∧ Hid (PlacesAt wr P n.K x n.ends k ∧ w3.grownBy wr (some P))) (fun q _ => n.K - (intOf q).toNat)
      case atStart => exact ⟨0, by omega, rfl, H0⟩
      case round =>
        obtain ⟨k, hk, rfl, hZ⟩ := hrel
        clear H0
        by_cases hlt : k < n.K
        · obtain ⟨⟨c, h1, h2, h3, h4⟩, hg⟩ := hZ.out
          have hEO := HIN3.out.2 wr hg
          obtain ⟨eao, ecap, ev, hrow⟩ := hEO.row k hlt
          have eA : (⟨G, k, none⟩ : Addr) = ⟨G, k * 1 + 0, none⟩ := by simp
          have hlen := HIN3.out.1.len k hlt
          have hoth := HIN3.out.1.oth k hlt
          have hsay := PlacesAt.says (E := n.ends) (k := k) ⟨c, h1, h2, h3, h4⟩
          have hfew : (Pl.offs (n.ends k) x).length ≤ 1000 := by
            unfold Pl.offs
            rw [List.length_map]
            exact Nat.le_trans (List.length_filter_le _ _) hlen
          have hGP : G ≠ P := fun e => by
            have q := hEO.blk
            rw [e, h1] at q
            injection q with q
            injection q with _ q
            revert q
            decide
          have hPl : P < wr.heap.size := (Array.getElem?_eq_some_iff.1 h1).1
          have hrb : 0 < (n.ends k).length → ∀ b off, eao = some ⟨b, off, none⟩ → b ≠ P := fun hp b off e => by
            obtain ⟨ao', cap', ev', hrow'⟩ := HIN2.out.row k hlt
            rw [ev] at ev'
            injection ev' with q1 q2 q3
            subst q1
            obtain ⟨b', off', e', hb', _⟩ := hrow'.2 hp
            rw [e] at e'
            cases e'
            rw [HP.out]
            omega
          have HS : Hid (∀ W, wr.grownBy W (some P) → W.cell? ⟨G, k, none⟩ = some (.slice eao (n.ends k).length ecap)) := fun W hW => by
            have q := hEO.blk
            have q2 := (hW.block G (Array.getElem?_eq_some_iff.1 q).1 (fun e => hGP (by injection e))).trans q
            have q3 := rowC_cell q2 hlt (show 0 < 1 by omega)
            rw [← eA, ev] at q3
            exact q3
          have HOF : Hid (∀ W, Below wr.heap.size wr W → Calls Tryd.prog 16 #[.slice eao (n.ends k).length ecap, .slice (some ⟨P, 0, none⟩) n.K n.K] W fun e w' => ∃ ao cap, e = .returned (.slice ao (Pl.offs (n.ends k) x).length cap) ∧ Hid (ORow w' ao (Pl.offs (n.ends k) x).length cap (Pl.lf (Pl.offs (n.ends k) x)) ∧ (∀ ad, ao = some ad → wr.heap.size ≤ ad.block) ∧ Below wr.heap.size wr w')) := fun W hW => by
            refine (poffers_any (n.ends k) eao ecap P n.K x W hlen (CRow.below hrow hW) (hsay.below hW) hoth).mono ?_
            rintro e w' ⟨ao, cap, rfl, z1, z2, z3⟩
            exact ⟨ao, cap, rfl, z1, fun ad e => Nat.le_trans hW.size (z3 ad e), hW.trans (z2.mono hW.size)⟩
          have HSR : Hid (∀ (W : World) (oao : Option Addr) (ocap : Nat), Hid (ORow W oao (Pl.offs (n.ends k) x).length ocap (Pl.lf (Pl.offs (n.ends k) x)) ∧ (∀ ad, oao = some ad → wr.heap.size ≤ ad.block) ∧ Below wr.heap.size wr W) → Calls Tryd.prog 15 #[.pointer (some ⟨P, k * 7, none⟩), .slice eao (n.ends k).length ecap, .slice oao (Pl.offs (n.ends k) x).length ocap] W fun e w' => e = .returned (.tuple #[]) ∧ Hid (PlacesAt w' P n.K x n.ends (k + 1) ∧ w3.grownBy w' (some P) ∧ wr.grownBy w' (some P))) := fun W oao ocap hh => by
            obtain ⟨z1, z2, z3⟩ := hh.out
            have zg : wr.grownBy W (some P) := grown_of_below z3
            refine (psetRoles_any P n.K k c (x k) (n.ends k) eao ecap (Pl.offs (n.ends k) x) oao ocap W hlt hlen hfew (keep h1 z3) (h2 k hlt) (h3 k hlt (Nat.le_refl _)).1 (h3 k hlt (Nat.le_refl _)).2 (CRow.below hrow z3) z1 hrb (fun _ b off e => by have := z2 _ e; simp only at this; omega)).mono ?_
            rintro e w' ⟨rfl, g1, pao, rao, pcap, rcap, g2, g3, g4, g5, g6⟩
            have gg : wr.grownBy w' (some P) := zg.trans g1
            exact ⟨rfl, places_next hlt h2 h3 h4 gg g2 ⟨pao, rao, pcap, rcap, rfl, rfl, g3, g4, g5, g6⟩, hg.trans gg, gg⟩
          have HB0 : Hid (Below wr.heap.size wr wr.drew) := Below.drew (Below.refl _ _)
          have HG0 : Hid (wr.grownBy wr.drew (some P)) := grown_of_below HB0.out
          have s0 := HS.out wr ⟨rfl, rfl, rfl, Nat.le_refl _, fun _ _ _ => rfl⟩
          have i0 : (0 : Int) ≤ (k : Int) := by omega
          have i1 : (k : Int) < (n.K : Int) := by omega
          generalize (Pl.offs (n.ends k) x).length = m at *
          generalize (n.ends k).length = en at *
          clear hZ h1 h2 h3 h4 hg hEO hrow ev eA hlen hoth hsay hfew hGP hrb HIN3 HIN2
          go_wp2_with fail
          go_region_held3 (fun W => W.cell? ⟨G, k, none⟩ = some (.slice eao en ecap))
            (first | (with_reducible exact HS.out _ HG0.out) | (with_reducible exact HS.out _ (grown_of_below HO1.out.2.2)) | (with_reducible exact HS.out _ HN.out.2.2))
            (first | (go_at_call 16; (with_reducible refine (HOF.out _ HB0.out).mono ?_); rintro e w4 ⟨oao, ocap, rfl, HO1⟩) | (go_at_call 15; (with_reducible refine (HSR.out _ _ _ HO1).mono ?_); rintro e w5 ⟨rfl, HN⟩))
          all_goals go_wp2_with fail
          all_goals exact ⟨⟨k + 1, by omega, by go_num, HN.out.1, HN.out.2.1⟩, by simp [intOf]; omega⟩
        · obtain hkK : k = n.K := by omega
          obtain ⟨hPA, hg⟩ := hZ.out
          obtain ⟨q2, q3⟩ := HFI.out wr hg
          obtain ⟨z0, z1⟩ := two_cells2 q2
          obtain ⟨f0, f1, _, _⟩ := vc_free q2
          have HQ2 : Hid (wr.heap[w.heap.size + 1]? = some (.cells #[.int .i64 0, .int .i64 0] 39 (0, 0))) := q2
          have HQ3 : Hid (Below w.heap.size w wr) := q3
          have HPA : Hid (PlacesAt ((wr.setCell ⟨w.heap.size + 1, 0, none⟩ (.int .i64 0)).setCell ⟨w.heap.size + 1, 1, none⟩ (.int .i64 0)) P n.K (Pl.rounds (n.ids tree) n.ends n.K n.K) n.ends n.K) := by
            rw [hkK, HXX.out] at hPA
            exact hPA.below (below_same q2)
          have hnk : ¬ (k : Int) < (n.K : Int) := by omega
          clear hZ hPA hg q2 q3 HFI HIN3 HIN2
          go_wp2_with fail
          exact bodyPost_ret (v := .tuple #[.slice (some ⟨P, 0, none⟩) n.K n.K, .agg #[.int .i64 0, .int .i64 0]]) (results_tmp_row (u := 4) (p := 5) (ty := 39) Tryd.results7 _ _ (w.heap.size + 1) 39 #[.int .i64 0, .int .i64 0] (0, 0) _ rfl (set2_same HQ2.out) Tryd.underlying39 rfl (by rw [sizeFt]; rfl)) rfl ⟨(HQ3.out.setCell (Nat.le_add_right _ _) _).setCell (Nat.le_add_right _ _) _, by first | exact ⟨P, rfl, HPA.out, by omega⟩ | exact Or.inr (Or.inr ⟨rfl, htr, P, rfl, HPA.out, by omega⟩)⟩
    · rw [decide_eq_false htr] at HWI
      rw [HY.out] at z0 z1 f0 f1
      go_wp2_with fail
      rw [← HY.out]
      refine (HWI.out _).mono ?_
      rintro e w' ⟨rfl, rfl⟩
      rw [← HY.out] at z0 z1 f0 f1
      go_wp2_with fail
      exact bodyPost_ret (v := .tuple #[.slice none 0 0, .agg #[.int .i64 3, .int .i64 0]]) (results_tmp_row (u := 4) (p := 5) (ty := 39) Tryd.results7 _ _ (w.heap.size + 1) 39 #[.int .i64 3, .int .i64 0] (0, 0) _ rfl (set2_same HM2.out) Tryd.underlying39 rfl (by rw [sizeFt]; rfl)) rfl ⟨(HM3.out.setCell (Nat.le_add_right _ _) _).setCell (Nat.le_add_right _ _) _, by first | exact rfl | exact Or.inr (Or.inl ⟨rfl, htr, rfl⟩)⟩
  · have e1 : (E1 == 0) = false := by simp [e0]
    rw [HY.out] at y0 y1 z0 z1 f0 f1
    go_wp2_with fail
    rw [← HY.out] at y0 y1 z0 z1 f0 f1 ⊢
    go_region
    all_goals go_wp2_with fail
    all_goals exact bodyPost_ret (v := .tuple #[.slice none 0 0, .agg #[.int .i64 E1, .int .i64 E2]]) (results_tmp_row (u := 4) (p := 5) (ty := 39) Tryd.results7 _ _ (w.heap.size + 1) 39 #[.int .i64 E1, .int .i64 E2] (0, 0) _ rfl (set2_same HM2.out) Tryd.underlying39 rfl (by rw [sizeFt]; rfl)) rfl ⟨(Below.setCell (by first | exact HM3.out.drew | exact HM3.out) (Nat.le_add_right _ _) _).setCell (Nat.le_add_right _ _) _, by first | exact Or.inl ⟨e0, rfl⟩ | exact rfl⟩
end Go.Proofs.YtaakjhdbelefiaeDoor

namespace Go.Proofs.YtaakjhdbelefiaeDoor
open Go.RowKit
open Vc (V Of)
open Pl (Br Net Pc Lk En St)

def regR : Rg.Reg := ⟨⟨#[114]⟩, 0, none, 0, 0, fun _ => 0, fun _ => 0⟩
def bsTwo (i : Nat) : Br := ⟨(i : Int) + 1, none, 0, 0, fun _ => 0, regR⟩
def lsTwo (_ : Nat) : Lk := ⟨0, 1, 1, 2, 5, true⟩
/-- The net of two bridges. -/
def netTwo (b1 b2 : Nat) : Net := ⟨some ⟨b1, 0, none⟩, 2, 2, bsTwo, some ⟨b2, 0, none⟩, 1, 1, lsTwo⟩
theorem sizeNet : (Tryd.prog.info? 25).map (·.size) = some 2 := by kernel_rfl
theorem two_at {W : World} {b1 b2 : Nat} {t1 t2 : TypeId} (h1 : W.heap[b1]? = some (.cells #[.int .u64 1, .slice none 0 0, .string ⟨#[114]⟩, .int .i64 0, .slice none 0 0, .int .u64 2, .slice none 0 0, .string ⟨#[114]⟩, .int .i64 0, .slice none 0 0] t1 (0, 0))) (h2 : W.heap[b2]? = some (.cells #[.int .i64 0, .int .i64 1, .int .i64 1, .int .i64 2, .int .i64 5, .bool true] t2 (0, 0))) : (netTwo b1 b2).at' W := by
  refine ⟨⟨Nat.le_refl _, fun _ => ⟨b1, 0, rfl, (Array.getElem?_eq_some_iff.1 h1).1, fun i hi j hj => ?_⟩⟩, fun i hi => ⟨CRow.none _ _ _ _ _, ⟨Nat.le_refl _, fun q => absurd q (Nat.lt_irrefl 0)⟩, Nat.zero_le _, Nat.zero_le _⟩, ⟨Nat.le_refl _, fun _ => ⟨b2, 0, rfl, (Array.getElem?_eq_some_iff.1 h2).1, fun i hi j hj => ?_⟩⟩, by simp [netTwo], by simp [netTwo]⟩
  · have hi : i < 2 := hi
    rcases (by omega : i = 0 ∨ i = 1) with e | e <;> subst e <;> rcases (by omega : j = 0 ∨ j = 1 ∨ j = 2 ∨ j = 3 ∨ j = 4) with e | e | e | e | e <;> subst e <;> exact cell_of_row W b1 _ _ _ _ h1
  · have hi : i < 1 := hi
    obtain rfl : i = 0 := by omega
    rcases (by omega : j = 0 ∨ j = 1 ∨ j = 2 ∨ j = 3 ∨ j = 4 ∨ j = 5) with e | e | e | e | e | e <;> subst e <;> exact cell_of_row W b2 _ _ _ _ h2
set_option maxRecDepth 100000 in
set_option maxHeartbeats 1000000 in
theorem ptwo_any (w : World) : Calls Tryd.prog 10 #[] w fun e w' => ∃ b1 b2, e = .returned (netTwo b1 b2).val ∧ (netTwo b1 b2).at' w' ∧ Below w.heap.size w w' := by
  go_enter Tryd.func10, Tryd.ntmps10
  go_wp2_with fail
  obtain ⟨X, hX⟩ : ∃ X, X = (w.alloc (.cells #[.slice (some ⟨w.heap.size + 1 + 1, 0, none⟩) 2 2, .slice (some ⟨w.heap.size + 1 + 1 + 1, 0, none⟩) 1 1] 25)).alloc (.cells #[.string ⟨#[114]⟩, .int .i64 0, .slice none 0 0] 31) := ⟨_, rfl⟩
  rw [← hX]
  have hs : X.heap.size = w.heap.size + 1 + 1 := by rw [hX]; simp
  have hn : X.heap[w.heap.size]? = some (.cells #[.slice (some ⟨w.heap.size + 1 + 1, 0, none⟩) 2 2, .slice (some ⟨w.heap.size + 1 + 1 + 1, 0, none⟩) 1 1] 25 (0, 0)) := by rw [hX]; exact heap_alloc2_old w _ _
  have hb : Below w.heap.size w X := by rw [hX]; exact below_alloc2 _ _ _
  have hb2 := below_alloc2 X (.cells #[.int .u64 1, .slice none 0 0, .string ⟨#[114]⟩, .int .i64 0, .slice none 0 0, .int .u64 2, .slice none 0 0, .string ⟨#[114]⟩, .int .i64 0, .slice none 0 0] 33) (.cells #[.int .i64 0, .int .i64 1, .int .i64 1, .int .i64 2, .int .i64 5, .bool true] 35)
  have h1 := heap_alloc2_old X (.cells #[.int .u64 1, .slice none 0 0, .string ⟨#[114]⟩, .int .i64 0, .slice none 0 0, .int .u64 2, .slice none 0 0, .string ⟨#[114]⟩, .int .i64 0, .slice none 0 0] 33) (.cells #[.int .i64 0, .int .i64 1, .int .i64 1, .int .i64 2, .int .i64 5, .bool true] 35)
  have h2 := heap_alloc2_new X (.cells #[.int .u64 1, .slice none 0 0, .string ⟨#[114]⟩, .int .i64 0, .slice none 0 0, .int .u64 2, .slice none 0 0, .string ⟨#[114]⟩, .int .i64 0, .slice none 0 0] 33) (.cells #[.int .i64 0, .int .i64 1, .int .i64 1, .int .i64 2, .int .i64 5, .bool true] 35)
  rw [hs] at h1 h2
  exact bodyPost_ret (v := .agg #[.slice (some ⟨w.heap.size + 1 + 1, 0, none⟩) 2 2, .slice (some ⟨w.heap.size + 1 + 1 + 1, 0, none⟩) 1 1]) (results_row (p := 0) (ty := 25) Tryd.results10 _ _ w.heap.size 25 _ (0, 0) _ rfl (keep hn hb2) Tryd.underlying25 rfl (by rw [sizeNet]; rfl)) rfl ⟨w.heap.size + 1 + 1, w.heap.size + 1 + 1 + 1, rfl, two_at h1 h2, hb.trans (hb2.mono hb.size)⟩
theorem two_wf (b1 b2 : Nat) : (netTwo b1 b2).Wf := by
  refine ⟨fun i hi => ?_, fun i _ => ⟨show (Lit.int .i64 0).wf = true by decide, show (Lit.int .i64 1).wf = true by decide, show (Lit.int .i64 1).wf = true by decide, show (Lit.int .i64 2).wf = true by decide⟩⟩
  have hi : i < 2 := hi
  rcases (by omega : i = 0 ∨ i = 1) with e | e <;> subst e
  · show (Lit.int .u64 1).wf = true; decide
  · show (Lit.int .u64 2).wf = true; decide
theorem two_right (b1 b2 : Nat) : (netTwo b1 b2).wrong.1 = 0 := by
  have h1 : Pl.bErr bsTwo 0 = 0 := by kernel_rfl
  have h2 : Pl.bErr bsTwo 1 = 0 := by kernel_rfl
  have h3 : Pl.lErr 2 lsTwo 0 = 0 := by kernel_rfl
  have hb : Pl.firstTo (Pl.bErr bsTwo) 2 = (0, 0) := Pl.firstTo_all _ _ (fun i hi => by rcases (by omega : i = 0 ∨ i = 1) with e | e <;> subst e; exact h1; exact h2)
  have hl : Pl.firstTo (Pl.lErr 2 lsTwo) 1 = (0, 0) := Pl.firstTo_all _ _ (fun i hi => by rw [show i = 0 by omega]; exact h3)
  show (if 12 < 2 ∨ 40 < 1 then ((5 : Int), (0 : Int)) else if (Pl.firstTo (Pl.bErr bsTwo) 2).1 ≠ 0 then Pl.firstTo (Pl.bErr bsTwo) 2 else Pl.firstTo (Pl.lErr 2 lsTwo) 1).1 = 0
  rw [hb, hl]
  rfl
def e2a : En := ⟨1, 5, 1, 2, true⟩
def e2b : En := ⟨2, 5, 0, 1, true⟩
def E2 (i : Nat) : List En := if i = 0 then [e2a] else if i = 1 then [e2b] else []
def ids2 (i : Nat) : Int := 32768 * 281474976710656 + ((i : Int) + 1)
theorem two_ids (b1 b2 : Nat) : (netTwo b1 b2).ids 0 = ids2 := by
  funext i
  show (if (0 : Int) ≤ 0 ∧ (0 : Int) ≤ ((0 : Nat) : Int) - 1 then (0 : Int) else 32768) * 281474976710656 + ((i : Int) + 1) = _
  rw [if_neg (by decide)]
  rfl
theorem two_live (b1 b2 : Nat) (k : Nat) : (netTwo b1 b2).live k = true := by
  show (true && decide (strOf 50 regR.id = strOf 50 regR.id)) = true
  simp
theorem two_ends (b1 b2 : Nat) : (netTwo b1 b2).ends = E2 := by
  funext i
  show (([] ++ Pl.endsAt (lsTwo 0) ((netTwo b1 b2).live 0) i) : List En).mergeSort Pl.leP = E2 i
  rw [two_live]
  unfold Pl.endsAt E2 lsTwo
  by_cases h0 : i = 0
  · subst h0; simp [e2a]
  · by_cases h1 : i = 1
    · subst h1; simp [e2b]
    · rw [if_neg (by show ¬ (0 : Int) = (i : Int); omega), if_neg (by show ¬ (1 : Int) = (i : Int); omega), if_neg h0, if_neg h1]
      simp
/-- How the two stand. -/
theorem two_stand : (Pl.rounds ids2 E2 2 2 1).rp = 2 ∧ (Pl.rounds ids2 E2 2 2 1).v.cost = 5 ∧ (Pl.rounds ids2 E2 2 2 0).rp = -1 ∧ Pl.roleAt (Pl.rounds ids2 E2 2 2 0) (Pl.offs (E2 0) (Pl.rounds ids2 E2 2 2)) e2a = 2 := ⟨by kernel_rfl, by kernel_rfl, by kernel_rfl, by kernel_rfl⟩
set_option maxRecDepth 100000 in
set_option maxHeartbeats 2000000 in
theorem palive_any (w : World) (ht : Tabs w) (hbt : 2 ≤ w.heap.size) : Calls Tryd.prog 6 #[] w fun e w' => e = .returned (.bool true) ∧ Below w.heap.size w w' := by
  have HT : Hid (Tabs w) := ht
  clear ht
  go_enter Tryd.func6, Tryd.ntmps6
  go_wp2_with fail
  refine (ptwo_any _).mono ?_
  rintro e w1 ⟨b1, b2, rfl, hat, hb1⟩
  have HP : Hid (Calls Tryd.prog 7 #[(netTwo b1 b2).val, .int .i64 0] w1 fun e w' => ∃ P r6 n6 c6, e = .returned (.tuple #[.slice (some ⟨P, 0, none⟩) 2 2, .agg #[.int .i64 0, .int .i64 0]]) ∧ (w'.cell? ⟨P, 11, none⟩ = some (.int .i64 2) ∧ w'.cell? ⟨P, 8, none⟩ = some (.int .i64 5) ∧ w'.cell? ⟨P, 4, none⟩ = some (.int .i64 (-1)) ∧ w'.cell? ⟨P, 6, none⟩ = some (.slice (some ⟨r6, n6, none⟩) 1 c6) ∧ 1 ≤ c6 ∧ w'.cell? ⟨r6, n6, none⟩ = some (.int .i64 2)) ∧ Hid (Below w.heap.size w w')) := by
    refine (pplan_any (netTwo b1 b2) 0 w1 hat (two_wf b1 b2) (HT.out.below hb1 hbt) (Nat.le_trans hbt hb1.size)).mono ?_
    rintro e w' ⟨z1, z2⟩
    rcases z2 with ⟨q, _⟩ | ⟨_, q, _⟩ | ⟨_, _, P, rfl, z3, _⟩
    · exact absurd (two_right b1 b2) q
    · exact absurd ⟨by decide, by decide⟩ q
    · rw [two_ids, two_ends] at z3
      obtain ⟨c, h1, h2, _, h4⟩ := z3
      obtain ⟨s1, s2, s3, s4⟩ := two_stand
      obtain ⟨_, rao, _, rcap, _, e6, _, hr, _, _⟩ := h4 0 (show 0 < 2 by omega)
      obtain ⟨rb, roff, er, _⟩ := CRow.some hr (show 0 < 1 by omega)
      subst er
      have hrc := IRow.cells hr (show 0 < 1 by omega)
      have hK : (netTwo b1 b2).K = 2 := rfl
      rw [hK] at h1
      refine ⟨P, rb, roff, rcap, rfl, ⟨?_, ?_, ?_, ?_, hr.1, ?_⟩, hb1.trans (z1.mono hb1.size)⟩
      · have := rowC_cell h1 (show 1 < 2 by omega) (show 4 < 7 by omega)
        rw [h2 1 (show 1 < 2 by omega) 4 (by omega)] at this
        rw [show (11 : Nat) = 1 * 7 + 4 by omega, this]
        show some (Value.int .i64 (Pl.rounds ids2 E2 2 2 1).rp) = _
        rw [s1]
      · have := rowC_cell h1 (show 1 < 2 by omega) (show 1 < 7 by omega)
        rw [h2 1 (show 1 < 2 by omega) 1 (by omega)] at this
        rw [show (8 : Nat) = 1 * 7 + 1 by omega, this]
        show some (Value.int .i64 (Pl.rounds ids2 E2 2 2 1).v.cost) = _
        rw [s2]
      · have := rowC_cell h1 (show 0 < 2 by omega) (show 4 < 7 by omega)
        rw [h2 0 (show 0 < 2 by omega) 4 (by omega)] at this
        rw [show (4 : Nat) = 0 * 7 + 4 by omega, this]
        show some (Value.int .i64 (Pl.rounds ids2 E2 2 2 0).rp) = _
        rw [s3]
      · have := rowC_cell h1 (show 0 < 2 by omega) (show 6 < 7 by omega)
        rw [e6] at this
        rw [show (6 : Nat) = 0 * 7 + 6 by omega, this]
        rfl
      · rw [Nat.add_zero] at hrc
        rw [hrc]
        show some (Value.int .i64 (Pl.roleAt (Pl.rounds ids2 E2 2 2 0) (Pl.offs (E2 0) (Pl.rounds ids2 E2 2 2)) e2a)) = _
        rw [s4]
  clear hat hb1 HT
  unfold Pl.Net.val netTwo at HP ⊢
  go_wp2_with fail
  refine HP.out.mono ?_
  rintro e w2 ⟨P, r6, n6, c6, rfl, ⟨g1, g2, g3, g4, g5, g6⟩, HB⟩
  have k1 : ∀ o, (w2.alloc o).cell? ⟨P, 11, none⟩ = some (.int .i64 2) := fun o => ((below_alloc1 w2 o).cell (by exact block_lt_of_cell g1)).trans g1
  have k2 : ∀ o, (w2.alloc o).cell? ⟨P, 8, none⟩ = some (.int .i64 5) := fun o => ((below_alloc1 w2 o).cell (by exact block_lt_of_cell g2)).trans g2
  have k3 : ∀ o, (w2.alloc o).cell? ⟨P, 4, none⟩ = some (.int .i64 (-1)) := fun o => ((below_alloc1 w2 o).cell (by exact block_lt_of_cell g3)).trans g3
  have k4 : ∀ o, (w2.alloc o).cell? ⟨P, 6, none⟩ = some (.slice (some ⟨r6, n6, none⟩) 1 c6) := fun o => ((below_alloc1 w2 o).cell (by exact block_lt_of_cell g4)).trans g4
  have k6 : ∀ o, (w2.alloc o).cell? ⟨r6, n6, none⟩ = some (.int .i64 2) := fun o => ((below_alloc1 w2 o).cell (by exact block_lt_of_cell g6)).trans g6
  have HF : Hid (∀ o, Below w.heap.size w (w2.alloc o)) := fun o => HB.out.alloc HB.out.size o
  clear HP HB
  go_wp2_with fail
  go_ret
  exact ⟨rfl, HF.out _⟩
theorem infoLk : (Tryd.prog.info? 35).map (fun i => (i.zero, i.size, i.bytes)) = some (some (.agg #[.int .i64 0, .int .i64 0, .int .i64 0, .int .i64 0, .int .i64 0, .bool false]), 6, 48) := by kernel_rfl
/-- What Plan answers. -/
def PlRes (n : Net) (tree : Int) (base : Nat) (w : World) (a : Option Addr) (k c : Nat) (f1 f2 : Int) : Prop :=
  (n.wrong.1 ≠ 0 ∧ (a = none ∧ k = 0 ∧ c = 0) ∧ (f1, f2) = n.wrong) ∨ (n.wrong.1 = 0 ∧ ¬ (0 ≤ tree ∧ tree ≤ 15) ∧ (a = none ∧ k = 0 ∧ c = 0) ∧ f1 = 3 ∧ f2 = 0) ∨
    (n.wrong.1 = 0 ∧ (0 ≤ tree ∧ tree ≤ 15) ∧ ∃ P, (a = some ⟨P, 0, none⟩ ∧ k = n.K ∧ c = n.K) ∧ (f1 = 0 ∧ f2 = 0) ∧ PlacesAt w P n.K (Pl.rounds (n.ids tree) n.ends n.K n.K) n.ends n.K ∧ base ≤ P)
theorem PlRes.below {n : Net} {tree : Int} {base : Nat} {w w' : World} {a : Option Addr} {k c : Nat} {f1 f2 : Int} (h : PlRes n tree base w a k c f1 f2) (hb : Below w.heap.size w w') : PlRes n tree base w' a k c f1 f2 := by
  rcases h with h | h | ⟨h1, h2, P, h3, h4, h5, h6⟩
  · exact Or.inl h
  · exact Or.inr (Or.inl h)
  · exact Or.inr (Or.inr ⟨h1, h2, P, h3, h4, h5.below hb, h6⟩)
theorem PlRes.mono {n : Net} {tree : Int} {base base' : Nat} {w : World} {a : Option Addr} {k c : Nat} {f1 f2 : Int} (h : PlRes n tree base w a k c f1 f2) (hb : base' ≤ base) : PlRes n tree base' w a k c f1 f2 := by
  rcases h with h | h | ⟨h1, h2, P, h3, h4, h5, h6⟩
  · exact Or.inl h
  · exact Or.inr (Or.inl h)
  · exact Or.inr (Or.inr ⟨h1, h2, P, h3, h4, h5, Nat.le_trans hb h6⟩)
/-- The fault is told in a block of its own. -/
theorem PlRes.told {n : Net} {tree : Int} {base : Nat} {w : World} {a : Option Addr} {k c : Nat} {f1 f2 : Int} {T : Nat} (h : PlRes n tree base w a k c f1 f2) (hT : w.heap[T]? = some (.cells #[.int .i64 0, .int .i64 0] 39 (0, 0))) : PlRes n tree base ((w.setCell ⟨T, 0, none⟩ (.int .i64 f1)).setCell ⟨T, 1, none⟩ (.int .i64 f2)) a k c f1 f2 := by
  rcases h with h | h | ⟨h1, h2, P, h3, ⟨rfl, rfl⟩, h5, h6⟩
  · exact Or.inl h
  · exact Or.inr (Or.inl h)
  · exact Or.inr (Or.inr ⟨h1, h2, P, h3, ⟨rfl, rfl⟩, h5.below (below_same hT), h6⟩)
theorem pplan_res (n : Net) (tree : Int) (w : World) (hat : n.at' w) (hwf : n.Wf) (ht : Tabs w) (hbt : 2 ≤ w.heap.size) :
    Calls Tryd.prog 7 #[n.val, .int .i64 tree] w fun e w' => ∃ a k c f1 f2, e = .returned (.tuple #[.slice a k c, .agg #[.int .i64 f1, .int .i64 f2]]) ∧ Hid (Below w.heap.size w w' ∧ PlRes n tree w.heap.size w' a k c f1 f2) := by
  refine (pplan_any n tree w hat hwf ht hbt).mono ?_
  rintro e w' ⟨hb, ⟨q, rfl⟩ | ⟨q, q2, rfl⟩ | ⟨q, q2, P, rfl, q3, q4⟩⟩
  · exact ⟨none, 0, 0, n.wrong.1, n.wrong.2, rfl, hb, Or.inl ⟨q, ⟨rfl, rfl, rfl⟩, rfl⟩⟩
  · exact ⟨none, 0, 0, 3, 0, rfl, hb, Or.inr (Or.inl ⟨q, q2, ⟨rfl, rfl, rfl⟩, rfl, rfl⟩)⟩
  · exact ⟨_, _, _, 0, 0, rfl, hb, Or.inr (Or.inr ⟨q, q2, P, ⟨rfl, rfl, rfl⟩, ⟨rfl, rfl⟩, q3, q4⟩)⟩
end Go.Proofs.YtaakjhdbelefiaeDoor

namespace Go.Proofs.YtaakjhdbelefiaeDoor
namespace Pl
open Vc (V Of)
/-- Who is joined by the first k links, told by the least one; whether one of them made a ring. -/
def lab (es : Nat → Nat × Nat) : Nat → (Nat → Nat)
  | 0 => fun i => i
  | k + 1 => fun i => if lab es k i = lab es k (es k).1 ∨ lab es k i = lab es k (es k).2 then min (lab es k (es k).1) (lab es k (es k).2) else lab es k i
def ring (es : Nat → Nat × Nat) : Nat → Bool
  | 0 => false
  | k + 1 => ring es k || decide (lab es k (es k).1 = lab es k (es k).2)
theorem lab_edge (es : Nat → Nat × Nat) : ∀ k j, j < k → lab es k (es j).1 = lab es k (es j).2
  | 0, j, h => by omega
  | k + 1, j, h => by
    simp only [lab]
    by_cases e : j = k
    · subst e
      rw [if_pos (Or.inl rfl), if_pos (Or.inr rfl)]
    · rw [lab_edge es k j (by omega)]
theorem lab_hit {es : Nat → Nat × Nat} {k i : Nat} (h : lab es k i = lab es k (es k).1 ∨ lab es k i = lab es k (es k).2) : lab es (k + 1) i = min (lab es k (es k).1) (lab es k (es k).2) := if_pos h
theorem lab_miss {es : Nat → Nat × Nat} {k i : Nat} (h : ¬ (lab es k i = lab es k (es k).1 ∨ lab es k i = lab es k (es k).2)) : lab es (k + 1) i = lab es k i := if_neg h
theorem lab_min (es : Nat → Nat × Nat) : ∀ k i, lab es k i ≤ i ∧ lab es k (lab es k i) = lab es k i
  | 0, i => ⟨Nat.le_refl _, rfl⟩
  | k + 1, i => by
    obtain ⟨h1, h2⟩ := lab_min es k i
    have ha := (lab_min es k (es k).1).2
    have hb := (lab_min es k (es k).2).2
    by_cases h : lab es k i = lab es k (es k).1 ∨ lab es k i = lab es k (es k).2
    · rw [lab_hit h]
      refine ⟨by rcases h with h | h <;> omega, lab_hit ?_⟩
      rcases Nat.le_total (lab es k (es k).1) (lab es k (es k).2) with q | q
      · rw [Nat.min_eq_left q]; exact Or.inl ha
      · rw [Nat.min_eq_right q]; exact Or.inr hb
    · rw [lab_miss h]
      exact ⟨h1, (lab_miss (by rw [h2]; exact h)).trans h2⟩
theorem lab_equiv (es : Nat → Nat × Nat) {R : Nat → Nat → Prop} (hr : ∀ u, R u u) (hs : ∀ u v, R u v → R v u) (ht : ∀ u v x, R u v → R v x → R u x) : ∀ k, (∀ j, j < k → R (es j).1 (es j).2) → ∀ u v, lab es k u = lab es k v → R u v
  | 0, _, u, v, h => by simp only [lab] at h; subst h; exact hr u
  | k + 1, hR, u, v, h => by
    have ih := lab_equiv es hr hs ht k (fun j hj => hR j (by omega))
    have hk := hR k (by omega)
    simp only [lab] at h
    have toE : ∀ x, lab es k x = lab es k (es k).1 ∨ lab es k x = lab es k (es k).2 → R x (es k).1 := fun x hx => by
      rcases hx with hx | hx
      · exact ih _ _ hx
      · exact ht _ _ _ (ih _ _ hx) (hs _ _ hk)
    by_cases h1 : lab es k u = lab es k (es k).1 ∨ lab es k u = lab es k (es k).2 <;> by_cases h2 : lab es k v = lab es k (es k).1 ∨ lab es k v = lab es k (es k).2
    · exact ht _ _ _ (toE u h1) (hs _ _ (toE v h2))
    · rw [if_pos h1, if_neg h2] at h
      exfalso
      apply h2
      rcases Nat.le_total (lab es k (es k).1) (lab es k (es k).2) with q | q
      · rw [Nat.min_eq_left q] at h; exact Or.inl h.symm
      · rw [Nat.min_eq_right q] at h; exact Or.inr h.symm
    · rw [if_neg h1, if_pos h2] at h
      exfalso
      apply h1
      rcases Nat.le_total (lab es k (es k).1) (lab es k (es k).2) with q | q
      · rw [Nat.min_eq_left q] at h; exact Or.inl h
      · rw [Nat.min_eq_right q] at h; exact Or.inr h
    · rw [if_neg h1, if_neg h2] at h
      exact ih u v h
theorem lab_same (es fs : Nat → Nat × Nat) (k m : Nat) (h1 : ∀ j, j < k → lab fs m (es j).1 = lab fs m (es j).2) (h2 : ∀ j, j < m → lab es k (fs j).1 = lab es k (fs j).2) (i : Nat) : lab es k i = lab fs m i := by
  have a : ∀ u v, lab es k u = lab es k v → lab fs m u = lab fs m v := lab_equiv es (R := fun u v => lab fs m u = lab fs m v) (fun _ => rfl) (fun _ _ h => h.symm) (fun _ _ _ h q => h.trans q) k h1
  have b : ∀ u v, lab fs m u = lab fs m v → lab es k u = lab es k v := lab_equiv fs (R := fun u v => lab es k u = lab es k v) (fun _ => rfl) (fun _ _ h => h.symm) (fun _ _ _ h q => h.trans q) m h2
  have x1 := lab_min es k i
  have x2 := lab_min fs m i
  have y1 := a _ _ x1.2
  have y2 := b _ _ x2.2
  have z1 := (lab_min fs m (lab es k i)).1
  have z2 := (lab_min es k (lab fs m i)).1
  omega
section
variable {K L : Nat} {ls : Nat → Lk} {ids : Nat → Int} {lv : Nat → Bool}
/-- A live link by which one of its two hears of the root. -/
def isOn (ids : Nat → Int) (ls : Nat → Lk) (lv : Nat → Bool) (K L k : Nat) : Prop := (ls k).pa = (says ids ls lv K L (ls k).a.toNat).rp ∨ (ls k).pb = (says ids ls lv K L (ls k).b.toNat).rp
def edge (ls : Nat → Lk) (k : Nat) : Nat × Nat := ((ls k).a.toNat, (ls k).b.toNat)
/-- Below c in the tree. -/
inductive Sub (ids : Nat → Int) (ls : Nat → Lk) (lv : Nat → Bool) (K L c : Nat) : Nat → Prop
  | self : Sub ids ls lv K L c c
  | up (v : Nat) (e : En) : v < K → e ∈ ends ls lv L v → e.live = true → e.port = (says ids ls lv K L v).rp → Sub ids ls lv K L c e.other.toNat → Sub ids ls lv K L c v
theorem up_cost (R : RightL K L ls) (hK : K ≤ 12) {v : Nat} (hv : v < K) {e : En} (he : e ∈ ends ls lv L v) (hl : e.live = true) (hp : e.port = (says ids ls lv K L v).rp) :
    (says ids ls lv K L v).v.cost = (says ids ls lv K L e.other.toNat).v.cost + e.cost ∧ (says ids ls lv K L v).v.root = (says ids ls lv K L e.other.toNat).v.root ∧ 1 ≤ e.cost ∧ e.other.toNat < K := by
  have G := good R hK ids lv
  obtain ⟨g1, g2, _⟩ := G.lt v hv e he hl
  rcases fin_port G hv with ⟨h, _⟩ | ⟨_, _, q, q1, q2, q3, q4, q5, _⟩
  · exfalso
    change (says ids ls lv K L v).rp = -1 at h
    obtain ⟨k, hk, hh⟩ := ends_mem.1 he
    obtain ⟨_, _, _, o4, o5, _⟩ := R.ok k hk
    rcases hh with ⟨_, rfl⟩ | ⟨_, rfl⟩ <;> simp only at hp <;> omega
  · have := ends_one R lv he q1 (by rw [q3]; exact hp)
    subst this
    exact ⟨q5, q4, g2.1, toNat_lt g1⟩
theorem Sub.cost (R : RightL K L ls) (hK : K ≤ 12) {c v : Nat} (h : Sub ids ls lv K L c v) : (says ids ls lv K L c).v.cost ≤ (says ids ls lv K L v).v.cost := by
  induction h with
  | self => exact Int.le_refl _
  | up v e hv he hl hp _ ih => have := up_cost R hK hv he hl hp; omega
theorem Sub.iff (R : RightL K L ls) {c v : Nat} (hv : v < K) {e : En} (he : e ∈ ends ls lv L v) (hl : e.live = true) (hp : e.port = (says ids ls lv K L v).rp) (hne : v ≠ c) : Sub ids ls lv K L c v ↔ Sub ids ls lv K L c e.other.toNat := by
  constructor
  · intro h
    cases h with
    | self => exact absurd rfl hne
    | up _ e' _ he' hl' hp' h =>
      have := ends_one R lv he he' (by rw [hp, hp'])
      rw [this]
      exact h
  · intro h
    exact Sub.up v e hv he hl hp h
/-- Two links by whose ends one and the same port hears are one. -/
theorem child_one (R : RightL K L ls) {k m : Nat} (hk : k < L) (hm : m < L) (h : isEnd (ls k) (ls m).a (ls m).pa = true ∨ isEnd (ls k) (ls m).b (ls m).pb = true) : k = m := by
  rcases Nat.lt_trichotomy k m with q | q | q
  · obtain ⟨h1, h2⟩ := R.one k m q hm
    rw [h1, h2] at h
    simp at h
  · exact q
  · obtain ⟨h1, h2⟩ := R.one m k q hk
    unfold isEnd at h h1 h2
    simp only [Bool.or_eq_false_iff, decide_eq_false_iff_not, Bool.or_eq_true, decide_eq_true_eq] at h h1 h2
    rcases h with (⟨a, b⟩ | ⟨a, b⟩) | (⟨a, b⟩ | ⟨a, b⟩)
    · exact absurd ⟨a.symm, b.symm⟩ h1.1
    · exact absurd ⟨a.symm, b.symm⟩ h2.1
    · exact absurd ⟨a.symm, b.symm⟩ h1.2
    · exact absurd ⟨a.symm, b.symm⟩ h2.2
theorem isEnd_a (l m : Lk) (h1 : l.a = m.a) (h2 : l.pa = m.pa) : isEnd l m.a m.pa = true := by simp [isEnd, h1, h2]
theorem isEnd_b (l m : Lk) (h1 : l.b = m.b) (h2 : l.pb = m.pb) : isEnd l m.b m.pb = true := by simp [isEnd, h1, h2]
/-- NO RING. -/
theorem no_ring (R : RightL K L ls) (hK : K ≤ 12) {n : Nat} {on : Nat → Nat} (hon : ∀ j, j < n → on j < L ∧ lv (on j) = true ∧ isOn ids ls lv K L (on j)) (hne : ∀ i j, i < j → j < n → on i ≠ on j) : ring (fun j => edge ls (on j)) n = false := by
  have key : ∀ j, j < n → lab (fun j => edge ls (on j)) j (edge ls (on j)).1 ≠ lab (fun j => edge ls (on j)) j (edge ls (on j)).2 := by
    intro j hj he
    obtain ⟨hk, hl, ho⟩ := hon j hj
    obtain ⟨o1, o2, o3, _⟩ := R.ok (on j) hk
    have step : ∀ c, (∀ i, i < j → (Sub ids ls lv K L c (edge ls (on i)).1 ↔ Sub ids ls lv K L c (edge ls (on i)).2)) → (Sub ids ls lv K L c (edge ls (on j)).1 ↔ Sub ids ls lv K L c (edge ls (on j)).2) := fun c hc =>
      lab_equiv (fun j => edge ls (on j)) (R := fun u v => (Sub ids ls lv K L c u ↔ Sub ids ls lv K L c v)) (fun _ => Iff.rfl) (fun _ _ h => h.symm) (fun _ _ _ h q => h.trans q) j hc _ _ he
    rcases ho with ho | ho
    · have S := step (ls (on j)).a.toNat (fun i hi => by
        obtain ⟨hk', hl', ho'⟩ := hon i (by omega)
        obtain ⟨p1, p2, p3, _⟩ := R.ok (on i) hk'
        have hd := hne i j hi hj
        rcases ho' with ho' | ho'
        · refine Sub.iff R (by omega) (eA_mem R lv hk') hl' ho' (fun e => hd ?_)
          refine child_one R hk' hk (Or.inl (isEnd_a _ _ (by omega) ?_))
          rw [ho', ho, e]
        · refine (Sub.iff R (by omega) (eB_mem R lv hk') hl' ho' (fun e => hd ?_)).symm
          refine child_one R hk' hk (Or.inl ?_)
          have : (ls (on i)).pb = (ls (on j)).pa := by rw [ho', ho, e]
          simp [isEnd, this, show (ls (on i)).b = (ls (on j)).a by omega])
      have c1 := (S.1 Sub.self).cost R hK
      have c2 := up_cost R hK (v := (ls (on j)).a.toNat) (by omega) (eA_mem R lv hk) hl ho
      simp only [edge, eA] at c1 c2
      omega
    · have S := step (ls (on j)).b.toNat (fun i hi => by
        obtain ⟨hk', hl', ho'⟩ := hon i (by omega)
        obtain ⟨p1, p2, p3, _⟩ := R.ok (on i) hk'
        have hd := hne i j hi hj
        rcases ho' with ho' | ho'
        · refine Sub.iff R (by omega) (eA_mem R lv hk') hl' ho' (fun e => hd ?_)
          refine child_one R hk' hk (Or.inr ?_)
          have : (ls (on i)).pa = (ls (on j)).pb := by rw [ho', ho, e]
          simp [isEnd, this, show (ls (on i)).a = (ls (on j)).b by omega]
        · refine (Sub.iff R (by omega) (eB_mem R lv hk') hl' ho' (fun e => hd ?_)).symm
          refine child_one R hk' hk (Or.inr (isEnd_b _ _ (by omega) ?_))
          rw [ho', ho, e])
      have c1 := (S.2 Sub.self).cost R hK
      have c2 := up_cost R hK (v := (ls (on j)).b.toNat) (by omega) (eB_mem R lv hk) hl ho
      simp only [edge, eB] at c1 c2
      omega
  have all : ∀ m, m ≤ n → ring (fun j => edge ls (on j)) m = false := by
    intro m
    induction m with
    | zero => intro _; rfl
    | succ m ih =>
      intro hm
      simp only [ring]
      rw [ih (by omega), decide_eq_false (key m (by omega))]
      rfl
  exact all n (Nat.le_refl _)
/-- ALL ARE JOINED. -/
theorem tree_joins (R : RightL K L ls) (hK : K ≤ 12) (hids : ∀ i j, i < K → j < K → ids i = ids j → i = j) {n m : Nat} {on al : Nat → Nat} (hon : ∀ j, j < n → on j < L ∧ lv (on j) = true ∧ isOn ids ls lv K L (on j)) (hall : ∀ j, j < m → al j < L ∧ lv (al j) = true)
    (on_all : ∀ k, k < L → lv k = true → isOn ids ls lv K L k → ∃ j, j < n ∧ on j = k) (all_all : ∀ k, k < L → lv k = true → ∃ j, j < m ∧ al j = k) (i : Nat) : lab (fun j => edge ls (al j)) m i = lab (fun j => edge ls (on j)) n i := by
  have G := good R hK ids lv
  have root : ∀ (c : Nat) (i : Nat), i < K → (says ids ls lv K L i).v.cost.toNat ≤ c → ∃ r, r < K ∧ ids r = (says ids ls lv K L i).v.root ∧ lab (fun j => edge ls (on j)) n i = lab (fun j => edge ls (on j)) n r := by
    intro c
    induction c with
    | zero =>
      intro i hi hc
      rcases fin_port G hi with ⟨_, h, _⟩ | ⟨_, _, q, q1, q2, q3, q4, q5, _⟩
      · exact ⟨i, hi, h.symm, rfl⟩
      · exfalso
        have := up_cost R hK hi q1 q2 q3
        have := fin_cost G this.2.2.2
        change 0 ≤ (says ids ls lv K L _).v.cost ∧ _ at this
        omega
    | succ c ih =>
      intro i hi hc
      rcases fin_port G hi with ⟨_, h, _⟩ | ⟨_, _, q, q1, q2, q3, q4, q5, _⟩
      · exact ⟨i, hi, h.symm, rfl⟩
      · obtain ⟨u1, u2, u3, u4⟩ := up_cost R hK hi q1 q2 q3
        have uc := fin_cost G u4
        change 0 ≤ (says ids ls lv K L _).v.cost ∧ _ at uc
        obtain ⟨r, r1, r2, r3⟩ := ih q.other.toNat u4 (by omega)
        refine ⟨r, r1, by rw [r2, u2], ?_⟩
        rw [← r3]
        obtain ⟨k, hk, hh⟩ := ends_mem.1 q1
        rcases hh with ⟨a1, rfl⟩ | ⟨a1, rfl⟩
        · obtain ⟨j, hj, ej⟩ := on_all k hk q2 (Or.inl (by rw [show (ls k).a.toNat = i by omega]; exact q3))
          have := lab_edge (fun j => edge ls (on j)) n j hj
          simp only [ej, edge] at this
          rw [show (ls k).a.toNat = i by omega] at this
          exact this
        · obtain ⟨j, hj, ej⟩ := on_all k hk q2 (Or.inr (by rw [show (ls k).b.toNat = i by omega]; exact q3))
          have := lab_edge (fun j => edge ls (on j)) n j hj
          simp only [ej, edge] at this
          rw [show (ls k).b.toNat = i by omega] at this
          exact this.symm
  refine lab_same _ _ m n (fun j hj => ?_) (fun j hj => ?_) i
  · obtain ⟨hk, hl⟩ := hall j hj
    obtain ⟨o1, o2, _⟩ := R.ok (al j) hk
    obtain ⟨ra, a1, a2, a3⟩ := root _ (ls (al j)).a.toNat (by omega) (Nat.le_refl _)
    obtain ⟨rb, b1, b2, b3⟩ := root _ (ls (al j)).b.toNat (by omega) (Nat.le_refl _)
    have := (says_link R hK ids lv hk hl).1
    have e := hids ra rb a1 b1 (by rw [a2, b2, this])
    show lab (fun j => edge ls (on j)) n (ls (al j)).a.toNat = lab (fun j => edge ls (on j)) n (ls (al j)).b.toNat
    rw [a3, b3, e]
  · obtain ⟨hk, hl, _⟩ := hon j hj
    obtain ⟨q, hq, eq⟩ := all_all (on j) hk hl
    have := lab_edge (fun j => edge ls (al j)) m q hq
    simp only [eq] at this
    exact this
end
end Pl
end Go.Proofs.YtaakjhdbelefiaeDoor

namespace Go.Proofs.YtaakjhdbelefiaeDoor
open Go.RowKit
open Vc (V Of)
open Pl (Br Net Pc Lk En St)
namespace Pl
def LN (l : List Nat) (j : Nat) : Nat := l.getD j 0
/-- The live links among the first k. -/
def Net.lvsTo (n : Net) (k : Nat) : List Nat := (List.range k).filter n.live
def Net.lvs (n : Net) : List Nat := n.lvsTo n.L
theorem Net.lvsTo_next (n : Net) (k : Nat) : n.lvsTo (k + 1) = n.lvsTo k ++ if n.live k = true then [k] else [] := by
  unfold Net.lvsTo
  rw [List.range_succ, List.filter_append]
  congr 1
  cases h : n.live k <;> simp [h]
theorem Net.lvsTo_few (n : Net) (k : Nat) : (n.lvsTo k).length ≤ k := by
  have := List.length_filter_le n.live (List.range k)
  rw [List.length_range] at this
  exact this
theorem LN_get {l : List Nat} {j : Nat} (h : j < l.length) : LN l j = l[j] := by
  unfold LN
  rw [List.getD_eq_getElem?_getD, List.getElem?_eq_getElem h]
  rfl
theorem Net.lvs_mem {n : Net} {j : Nat} (h : j < n.lvs.length) : LN n.lvs j < n.L ∧ n.live (LN n.lvs j) = true := by
  have hm : LN n.lvs j ∈ n.lvs := by rw [LN_get h]; exact List.getElem_mem h
  unfold Net.lvs Net.lvsTo at hm
  obtain ⟨h1, h2⟩ := List.mem_filter.1 hm
  exact ⟨List.mem_range.1 h1, h2⟩
theorem Net.lvs_rise {n : Net} {i j : Nat} (hij : i < j) (h : j < n.lvs.length) : LN n.lvs i < LN n.lvs j := by
  have hp : n.lvs.Pairwise (· < ·) := by
    unfold Net.lvs Net.lvsTo
    exact List.Pairwise.filter _ List.pairwise_lt_range
  rw [LN_get (by omega), LN_get h]
  exact List.pairwise_iff_getElem.1 hp i j (by omega) h hij
theorem Net.lvs_all {n : Net} {k : Nat} (hk : k < n.L) (h : n.live k = true) : ∃ j, j < n.lvs.length ∧ LN n.lvs j = k := by
  have hm : k ∈ n.lvs := List.mem_filter.2 ⟨List.mem_range.2 hk, h⟩
  obtain ⟨j, hj, e⟩ := List.getElem_of_mem hm
  exact ⟨j, hj, by rw [LN_get hj]; exact e⟩
end Pl
open Pl (LN)
abbrev lkCells (ls : Nat → Lk) (l : List Nat) : List Value := cellsL l.length 6 (fun j => lkC (ls (LN l j)))
theorem ln_snoc (ls : Nat → Lk) (l : List Nat) (k : Nat) : cellsL (l.length + 1) 6 (catC l.length (fun j => lkC (ls (LN l j))) (fun _ => lkC (ls k))) = lkCells ls (l ++ [k]) := by
  unfold lkCells
  rw [List.length_append]
  apply cellsL_congr
  intro i hi
  simp only [catC]
  by_cases q : i < l.length
  · rw [if_pos q]
    simp [LN, List.getD, List.getElem?_append_left q]
  · rw [if_neg q]
    obtain rfl : i = l.length := by omega
    simp [LN, List.getD]
theorem one_lk_row {w : World} {g : Nat} {l : Lk} {ty : TypeId} (h : w.heap[g]? = some (.cells (lkA l) ty (0, 0))) : LRow w (some ⟨g, 0, none⟩) 1 1 (fun _ => l) := by
  refine ⟨Nat.le_refl _, fun _ => ⟨g, 0, rfl, (Array.getElem?_eq_some_iff.1 h).1, fun i hi j hj => ?_⟩⟩
  obtain rfl : i = 0 := by omega
  rcases (by omega : j = 0 ∨ j = 1 ∨ j = 2 ∨ j = 3 ∨ j = 4 ∨ j = 5) with e | e | e | e | e | e <;> subst e <;> exact cell_of_row w g _ _ _ _ h
/-- Identities are apart, and within 64 bits. -/
theorem ids_range {n : Net} (R : n.Right) (tree : Int) {i : Nat} (hi : i < n.K) : 0 ≤ n.ids tree i ∧ n.ids tree i < 18446744073709551616 := by
  obtain ⟨h1, h2, h3, _⟩ := R.fine i hi
  have hp : 0 ≤ (n.bs i).prio tree ∧ (n.bs i).prio tree ≤ 61440 := by
    unfold Pl.Br.prio
    by_cases h : 0 ≤ tree ∧ tree ≤ ((n.bs i).pn : Int) - 1
    · rw [if_pos h]; exact h3 _ (by omega)
    · rw [if_neg h]; exact ⟨by decide, by decide⟩
  unfold Pl.Net.ids Pl.Br.id
  generalize (n.bs i).prio tree = p at *
  omega
theorem ids_apart {n : Net} (R : n.Right) (tree : Int) : ∀ i j, i < n.K → j < n.K → n.ids tree i = n.ids tree j → i = j := by
  intro i j hi hj e
  have h1 := (R.fine i hi).addr
  have h2 := (R.fine j hj).addr
  refine R.apart i j hi hj ?_
  unfold Pl.Net.ids Pl.Br.id at e
  generalize (n.bs i).prio tree = p at *
  generalize (n.bs j).prio tree = q at *
  omega
end Go.Proofs.YtaakjhdbelefiaeDoor
