/- 'hedgelaw6.PlanRoot' returns true for every net and every tree, and leaves it as it was: the row and its tied card. Conditions: none beyond the form's own (the tables lie as the program's text lays them: the card's tie). -/
import Derived.Test.YtcbpafpaimpfnaaGreatDoorME
import Derived.Test.YtcbpafpaimpfnaaGreatDoorMG
import Derived.Test.YtcbpafpaimpfnaaGreatDoorCards
import Derived.Test.YtcbpafpaimpfnaaGreatDoorTie
import Derived.Test.YtcbpafpaimpfnaaGreatDoorMF
namespace Go.Proofs.YtcbpafpaimpfnaaGreatDoor
open Go.RowKit
open Vc (V Of)
open Pl (Br Net Pc Lk En St)

set_option maxRecDepth 100000 in
set_option maxHeartbeats 1000000 in
theorem rid6_any (b : Br) (tree : Int) (w : World) (hb : b.at' w) (hf : b.Fine) (ht : 0 ≤ tree ∧ tree ≤ 15) :
    Calls Tryz.prog 16 #[.agg (brA b), .int .i64 tree] w fun e w' => e = .returned (.int .u64 (b.id tree)) ∧ Below w.heap.size w w' := by
  obtain ⟨X, HX⟩ : ∃ X, Hid (X = w.alloc (.cells (brA b) 40)) := ⟨_, rfl⟩
  have hXB : Below w.heap.size w X := by rw [HX.out]; exact below_alloc1 _ _
  have hp := CRow.below hb.1 hXB
  have hpr := hf.prio
  have hfew := hf.few
  have hadr := hf.addr
  clear hb hf hXB
  unfold Pl.Br.id Pl.Br.prio
  obtain ⟨addr, pao, pn, pcap, pv, ⟨s, rev, ao, n, cap, vs, ts⟩⟩ := b
  simp only [brA] at *
  by_cases h : tree ≤ (pn : Int) - 1
  · rw [if_pos ⟨ht.1, h⟩]
    obtain ⟨k, hk⟩ : ∃ k : Nat, tree = k := ⟨tree.toNat, by omega⟩
    subst hk
    have hkn : k < pn := by omega
    obtain ⟨pb, poff, rfl, _⟩ := CRow.some hp (by omega)
    have c0 := IRow.cells hp hkn
    have hcap := hp.1
    have hv := hpr k hkn
    rw [Int.toNat_natCast]
    generalize pv k = p at *
    have i0 : (0 : Int) ≤ (k : Int) := by omega
    have i1 : (k : Int) < (pn : Int) := by omega
    have u0 : IntKind.u64.wrap p = p := wraps_u64 _ (by omega) (by omega)
    have u1 : IntKind.u64.wrap (p * 281474976710656) = p * 281474976710656 := wraps_u64 _ (by omega) (by omega)
    have u2 : IntKind.u64.wrap (p * 281474976710656 + addr) = p * 281474976710656 + addr := wraps_u64 _ (by omega) (by omega)
    rw [HX.out] at c0
    clear hp hpr
    go_enter Tryz.func16, Tryz.ntmps16
    go_wp2_with fail
    go_ret
    exact ⟨rfl, below_alloc1 _ _⟩
  · rw [if_neg (fun q => h q.2)]
    have i1 : ¬ tree < (pn : Int) := by omega
    have u2 : IntKind.u64.wrap (32768 * 281474976710656 + addr) = 32768 * 281474976710656 + addr := wraps_u64 _ (by omega) (by omega)
    clear hp hpr
    go_enter Tryz.func16, Tryz.ntmps16
    go_wp2_with fail
    go_ret
    exact ⟨rfl, below_alloc1 _ _⟩
end Go.Proofs.YtcbpafpaimpfnaaGreatDoor

namespace Go.Proofs.YtcbpafpaimpfnaaGreatDoor
open Go.RowKit
open Vc (V Of)
open Pl (Br Net Pc Lk En St LN)

theorem net_says (n : Net) (tree : Int) : Pl.rounds (n.ids tree) n.ends n.K n.K = Pl.says (n.ids tree) n.ls n.live n.K n.L := rfl
/-- What stands in a place's first five cells. -/
theorem PlacesAt.five {w : World} {P K : Nat} {x : Nat → St} {E : Nat → List En} {k : Nat} (h : PlacesAt w P K x E k) {i : Nat} (hi : i < K) :
    w.cell? ⟨P, i * 7, none⟩ = some (.int .u64 (x i).v.root) ∧ w.cell? ⟨P, i * 7 + 1, none⟩ = some (.int .i64 (x i).v.cost) ∧ w.cell? ⟨P, i * 7 + 2, none⟩ = some (.int .u64 (x i).v.bridge) ∧ w.cell? ⟨P, i * 7 + 3, none⟩ = some (.int .i64 (x i).v.port) ∧ w.cell? ⟨P, i * 7 + 4, none⟩ = some (.int .i64 (x i).rp) := by
  obtain ⟨c, h1, h2, _⟩ := h
  refine ⟨?_, ?_, ?_, ?_, ?_⟩
  · have := rowC_cell h1 hi (show 0 < 7 by omega); rw [h2 i hi 0 (by omega)] at this; exact this
  · have := rowC_cell h1 hi (show 1 < 7 by omega); rw [h2 i hi 1 (by omega)] at this; exact this
  · have := rowC_cell h1 hi (show 2 < 7 by omega); rw [h2 i hi 2 (by omega)] at this; exact this
  · have := rowC_cell h1 hi (show 3 < 7 by omega); rw [h2 i hi 3 (by omega)] at this; exact this
  · have := rowC_cell h1 hi (show 4 < 7 by omega); rw [h2 i hi 4 (by omega)] at this; exact this
/-- How a bridge stands to the root. -/
theorem root_stand {n : Net} (R : n.Right) (tree : Int) {i : Nat} (hi : i < n.K) (x : Nat → St) (hx : x = Pl.rounds (n.ids tree) n.ends n.K n.K) :
    (x i).v.bridge = n.ids tree i ∧ (((x i).rp = -1 ∧ (x i).v.root = n.ids tree i ∧ (x i).v.cost = 0) ∨ (0 ≤ (x i).rp ∧ (x i).v.root < n.ids tree i)) := by
  subst hx
  have G := Pl.good R.links R.few (n.ids tree) n.live
  refine ⟨(Pl.rounds_bridge (n.ids tree) n.ends n.K n.K i).1, ?_⟩
  rcases Pl.fin_port G hi with ⟨h1, h2, h3⟩ | ⟨h1, h2, _⟩
  · exact Or.inl ⟨h1, h2, h3⟩
  · exact Or.inr ⟨h1, h2⟩
def thereP (x : Nat → St) (i k : Nat) : Bool := decide ((x k).v.root = (x i).v.root) && decide ((x k).v.bridge = (x k).v.root)
set_option maxRecDepth 100000 in
set_option maxHeartbeats 4000000 in
theorem proot_any (n : Net) (tree : Int) (w : World) (hat : n.at' w) (hwf : n.Wf) (ht : Tabs w) (hbt : 2 ≤ w.heap.size) :
    Calls Tryz.prog 4 #[n.val, .int .i64 tree] w fun e w' => e = .returned (.bool true) ∧ Below w.heap.size w w' := by
  obtain ⟨X, HX⟩ : ∃ X, Hid (X = w.alloc (.cells #[.slice n.bao n.K n.bcap, .slice n.lao n.L n.lcap] 25)) := ⟨_, rfl⟩
  have hXB : Below w.heap.size w X := by rw [HX.out]; exact below_alloc1 _ _
  have hXn : X.heap[w.heap.size]? = some (.cells #[.slice n.bao n.K n.bcap, .slice n.lao n.L n.lcap] 25 (0, 0)) := by rw [HX.out]; exact heap_alloc_last _ _
  have HC : Hid (∀ W, Below X.heap.size X W → (W.cell? ⟨w.heap.size, 0, none⟩ = some (.slice n.bao n.K n.bcap) ∧ W.cell? ⟨w.heap.size, 1, none⟩ = some (.slice n.lao n.L n.lcap)) ∧ n.at' W ∧ (Tabs W ∧ 2 ≤ W.heap.size) ∧ Below w.heap.size w W) := fun W hW => by
    have h1 : Below w.heap.size w W := hXB.trans (hW.mono hXB.size)
    exact ⟨two_cells2 (keep hXn hW), hat.below h1, ⟨ht.below h1 hbt, Nat.le_trans hbt h1.size⟩, h1⟩
  have HAL : Hid (Calls Tryz.prog 17 #[] X fun e w' => e = .returned (.bool true) ∧ Below X.heap.size X w') := palive_any X (ht.below hXB hbt) (Nat.le_trans hbt hXB.size)
  have HRI : Hid (n.wrong.1 = 0 → n.Right) := right_of hwf
  have HWF : Hid n.Wf := hwf
  have hcap := hat.brs.1
  clear hat ht hXn hXB hwf
  simp only [Pl.Net.val]
  go_enter Tryz.func4, Tryz.ntmps4
  go_wp2_with fail
  rw [← HX.out]
  refine HAL.out.mono ?_
  rintro e w1 ⟨rfl, hb1⟩
  obtain ⟨⟨d0, d1⟩, hat1, ⟨ht1, hg1⟩, _⟩ := HC.out w1 hb1
  have HP : Hid (Calls Tryz.prog 12 #[.agg #[.slice n.bao n.K n.bcap, .slice n.lao n.L n.lcap], .int .i64 tree] w1 fun e w' => ∃ a k c f1 f2, e = .returned (.tuple #[.slice a k c, .agg #[.int .i64 f1, .int .i64 f2]]) ∧ Hid (Below w1.heap.size w1 w' ∧ PlRes n tree w1.heap.size w' a k c f1 f2)) := pplan_res n tree w1 hat1 HWF.out ht1 hg1
  clear HAL hat1 ht1 hg1
  go_wp2_with fail
  refine HP.out.mono ?_
  rintro e w2 ⟨a, m, c, f1, f2, rfl, hA⟩
  obtain ⟨Y, HY⟩ : ∃ Y, Hid (Y = w2.alloc (.cells #[.int .i64 f1, .int .i64 f2] 28)) := ⟨_, rfl⟩
  have hYB : Below w2.heap.size w2 Y := by rw [HY.out]; exact below_alloc1 _ _
  have hXw2 : Below X.heap.size X w2 := hb1.trans (hA.out.1.mono hb1.size)
  have hXY : Below X.heap.size X Y := hXw2.trans (hYB.mono hXw2.size)
  have hres := hA.out.2.below hYB
  obtain ⟨⟨m0, m1⟩, _, _, hlow⟩ := HC.out Y hXY
  rw [HY.out] at m0 m1
  have HLO : Hid (Below w.heap.size w Y) := hlow
  clear HP hA d0 d1 hlow hYB hXw2 hb1
  rcases hres with ⟨e0, ⟨rfl, rfl, rfl⟩, e1⟩ | ⟨_, _, ⟨rfl, rfl, rfl⟩, rfl, rfl⟩ | ⟨e0, htr, P, ⟨rfl, rfl, rfl⟩, ⟨rfl, rfl⟩, hPA, _⟩
  · obtain ⟨rfl, rfl⟩ : f1 = n.wrong.1 ∧ f2 = n.wrong.2 := by rw [← e1]; exact ⟨rfl, rfl⟩
    have g0 : (n.wrong.1 == 0) = false := by simp [e0]
    clear m0 m1 e1
    go_wp2_with fail
    go_ret
    exact ⟨rfl, by rw [← HY.out]; exact HLO.out⟩
  · go_wp2_with fail
    go_ret
    exact ⟨rfl, by rw [← HY.out]; exact HLO.out⟩
  · have R := HRI.out e0
    have HR : Hid n.Right := R
    have hK := R.few
    obtain ⟨x, HXX⟩ : ∃ x, Hid (x = Pl.rounds (n.ids tree) n.ends n.K n.K) := ⟨_, rfl⟩
    rw [← HXX.out] at hPA
    have HLV : Hid (Calls Tryz.prog 18 #[.agg #[.slice n.bao n.K n.bcap, .slice n.lao n.L n.lcap]] Y fun e w' => ∃ ao cap, e = .returned (.slice ao n.lvs.length cap) ∧ LRow w' ao n.lvs.length cap (fun j => n.ls (LN n.lvs j)) ∧ NilOk ao n.lvs.length cap ∧ (∀ ad, ao = some ad → Y.heap.size ≤ ad.block) ∧ Below Y.heap.size Y w') := rlive_any n Y (HC.out Y hXY).2.1 R
    have HS : Hid (∀ W, Below Y.heap.size Y W → PlacesAt W P n.K x n.ends n.K ∧ (W.cell? ⟨w.heap.size, 0, none⟩ = some (.slice n.bao n.K n.bcap) ∧ W.cell? ⟨w.heap.size, 1, none⟩ = some (.slice n.lao n.L n.lcap)) ∧ n.at' W ∧ Below w.heap.size w W) := fun W hW => by
      obtain ⟨q1, q2, _, q3⟩ := HC.out W (hXY.trans (hW.mono hXY.size))
      exact ⟨hPA.below hW, q1, q2, q3⟩
    clear hPA HC HLO hXY R HRI HWF
    go_wp2_with fail
    rw [← HY.out]
    refine HLV.out.mono ?_
    rintro e w3 ⟨ao, cap, rfl, hLR, _, _, hb3⟩
    have HL3 : Hid (∀ W, Below w3.heap.size w3 W → LRow W ao n.lvs.length cap (fun j => n.ls (LN n.lvs j)) ∧ Below Y.heap.size Y W) := fun W hW => ⟨CRow.below hLR hW, hb3.trans (hW.mono hb3.size)⟩
    have hlcap := hLR.1
    have hlfew : n.lvs.length ≤ 40 := Nat.le_trans (n.lvsTo_few n.L) HR.out.fewL
    clear HLV hLR hb3 m0 m1
    go_wp2_with fail
    go_loopw [30] (fun q wr => ∃ j : Nat, j ≤ n.lvs.length ∧ q = .int .i64 j ∧ Hid (Below w3.heap.size w3 wr)) (fun q _ => n.lvs.length - (intOf q).toNat)
    case atStart => exact ⟨0, by omega, rfl, Below.refl _ _⟩
    case round =>
      obtain ⟨j, hj, rfl, hW⟩ := hrel
      by_cases hlt : j < n.lvs.length
      · obtain ⟨f1, f2⟩ := HL3.out wr hW.out
        obtain ⟨lb, loff, rfl, _⟩ := CRow.some f1 (by omega)
        obtain ⟨c0, c1, c2, c3, c4, c5⟩ := LRow.cells f1 hlt
        obtain ⟨hkL, hlive⟩ := Pl.Net.lvs_mem hlt
        obtain ⟨o1, o2, o3, _⟩ := HR.out.links.ok _ hkL
        have hsame := (Pl.says_link HR.out.links HR.out.few (n.ids tree) n.live hkL hlive).1
        rw [← net_says, ← HXX.out] at hsame
        generalize n.ls (LN n.lvs j) = l at *
        obtain ⟨la, pa, lb', pb, co, up⟩ := l
        simp only at c0 c1 c2 c3 c4 c5 o1 o2 hsame
        obtain ⟨na, rfl⟩ : ∃ na : Nat, la = na := ⟨la.toNat, by omega⟩
        obtain ⟨nb, rfl⟩ : ∃ nb : Nat, lb' = nb := ⟨lb'.toNat, by omega⟩
        rw [Int.toNat_natCast, Int.toNat_natCast] at hsame
        obtain ⟨Z, HZ⟩ : ∃ Z, Hid (Z = wr.alloc (.cells #[.int .i64 na, .int .i64 pa, .int .i64 nb, .int .i64 pb, .int .i64 co, .bool up] 46)) := ⟨_, rfl⟩
        have hZB : Below wr.heap.size wr Z := by rw [HZ.out]; exact below_alloc1 _ _
        have hZl : Z.heap[wr.heap.size]? = some (.cells #[.int .i64 na, .int .i64 pa, .int .i64 nb, .int .i64 pb, .int .i64 co, .bool up] 46 (0, 0)) := by rw [HZ.out]; exact heap_alloc_last _ _
        obtain ⟨q0, q1, q2, q3, q4, q5⟩ := lk_cells hZl
        have hpl := (HS.out Z (f2.trans (hZB.mono f2.size))).1
        have pa0 := (hpl.five (show na < n.K by omega)).1
        have pb0 := (hpl.five (show nb < n.K by omega)).1
        rw [← hsame] at pb0
        generalize (x na).v.root = r at *
        have i0 : (0 : Int) ≤ (j : Int) := by omega
        have i1 : (j : Int) < (n.lvs.length : Int) := by omega
        have ia0 : (0 : Int) ≤ (na : Int) := by omega
        have ia1 : (na : Int) < (n.K : Int) := by omega
        have ib0 : (0 : Int) ≤ (nb : Int) := by omega
        have ib1 : (nb : Int) < (n.K : Int) := by omega
        have HN : Hid (∀ q, Below w3.heap.size w3 (Z.drewN q)) := fun q => below_drewN (hW.out.trans (hZB.mono hW.out.size)) q
        clear hW f1 f2 hpl hZB hZl o1 o2 hsame HL3 HS HR HXX HX HY
        go_wp2_with fail
        rw [← HZ.out]
        go_quiet (fail)
        go_wp2_with fail
        exact ⟨⟨j + 1, by omega, by go_num, HN.out _⟩, by simp [intOf]; omega⟩
      · have hnk : ¬ (j : Int) < (n.lvs.length : Int) := by omega
        obtain ⟨w4, hw4⟩ : ∃ w4, w4 = wr := ⟨_, rfl⟩
        subst hw4
        have HS4 : Hid (∀ W, Below w4.heap.size w4 W → PlacesAt W P n.K x n.ends n.K ∧ (W.cell? ⟨w.heap.size, 0, none⟩ = some (.slice n.bao n.K n.bcap) ∧ W.cell? ⟨w.heap.size, 1, none⟩ = some (.slice n.lao n.L n.lcap)) ∧ n.at' W ∧ Below w.heap.size w W) := fun W hWW => HS.out W (HL3.out W (hW.out.trans (hWW.mono hW.out.size))).2
        clear hW HL3 HS HY
        go_wp2_with fail
        go_loopw [52] (fun q wr => ∃ i : Nat, i ≤ n.K ∧ q = .int .i64 i ∧ Hid (Below w4.heap.size w4 wr)) (fun q _ => n.K - (intOf q).toNat)
        case atStart => exact ⟨0, by omega, rfl, Below.refl _ _⟩
        case round =>
          obtain ⟨i, hi, rfl, hW⟩ := hrel
          by_cases hik : i < n.K
          · obtain ⟨_, ⟨n0, _⟩, hatW, _⟩ := HS4.out wr hW.out
            obtain ⟨bb, boff, eb, _⟩ := CRow.some hatW.brs (by omega)
            have hbr := hatW.brs
            rw [eb] at hbr n0
            obtain ⟨c0, c1, c2, c3, c4⟩ := BRow.cells hbr hik
            have HID : Hid (Calls Tryz.prog 16 #[.agg (brA (n.bs i)), .int .i64 tree] wr fun e w' => e = .returned (.int .u64 (n.ids tree i)) ∧ Below wr.heap.size wr w') := rid6_any (n.bs i) tree wr (hatW.each i hik) (HR.out.fine i hik) htr
            obtain ⟨hbrg, hst⟩ := root_stand HR.out tree hik x HXX.out
            have HTH : Hid (Vc.someTo (thereP x i) n.K = true) := by
              obtain ⟨k, hk, k1, k2⟩ := Pl.fin_there (Pl.good HR.out.links HR.out.few (n.ids tree) n.live) hik
              refine Pl.someTo_iff.2 ⟨k, hk, ?_⟩
              unfold thereP
              rw [HXX.out, Bool.and_eq_true, decide_eq_true_eq, decide_eq_true_eq]
              exact ⟨k1, k2⟩
            have i0 : (0 : Int) ≤ (i : Int) := by omega
            have i1 : (i : Int) < (n.K : Int) := by omega
            have HS5 : Hid (∀ W, Below wr.heap.size wr W → PlacesAt W P n.K x n.ends n.K ∧ Below w4.heap.size w4 W) := fun W hWW => by
              have h1 := hW.out.trans (hWW.mono hW.out.size)
              exact ⟨(HS4.out W h1).1, h1⟩
            clear hbr hatW hW
            generalize n.ids tree i = id at *
            obtain ⟨wi, hwi⟩ : ∃ wi, wi = wr := ⟨_, rfl⟩
            subst hwi
            simp only [brA] at HID
            go_wp2_with fail
            refine HID.out.mono ?_
            rintro e w5 ⟨rfl, hb5⟩
            obtain ⟨hp5, _⟩ := HS5.out w5 hb5
            obtain ⟨x0, x1, x2, x3, x4⟩ := hp5.five hik
            rw [hbrg] at x2
            have HS6 : Hid (∀ W, Below w5.heap.size w5 W → PlacesAt W P n.K x n.ends n.K ∧ Below w4.heap.size w4 W) := fun W hWW => HS5.out W (hb5.trans (hWW.mono hb5.size))
            clear HID hp5 hb5 HS5 c0 c1 c2 c3 c4 n0 eb
            go_wp2_with fail
            go_cut [9, 115] (fun s9 s115 wx => s9 = .int .i64 i ∧ s115 = .bool false ∧ Hid (Below w5.heap.size w5 wx))
            case first =>
              clear HS6 HTH HR HXX HX
              rcases hst with ⟨h1, h2, h3⟩ | ⟨h1, h2⟩
              · rw [h2] at x0
                rw [h3] at x1
                rw [h1] at x4
                go_quiet (fail)
                go_wp2_with fail
                go_meet
                exact ⟨rfl, rfl, below_drewN (Below.refl _ _) _⟩
              · generalize (x i).v.root = r at *
                generalize (x i).v.cost = co at *
                generalize (x i).rp = rp at *
                have g1 : decide (id < r) = false := decide_eq_false (by omega)
                have g2 : decide (rp < 0) = false := decide_eq_false (by omega)
                have g3 : (r == id) = false := by simp; omega
                go_quiet (fail)
                go_wp2_with fail
                go_meet
                exact ⟨rfl, rfl, below_drewN (Below.refl _ _) _⟩
            case rest =>
            obtain ⟨rfl, rfl, HB6⟩ := hcut
            clear x0 x1 x2 x3 x4 hst
            go_wp2_with fail
            go_loopw [11, 118] (fun s11 q wr => ∃ k : Nat, k ≤ n.K ∧ q = .int .i64 k ∧ s11 = .bool (Vc.someTo (thereP x i) k) ∧ Hid (Below w5.heap.size w5 wr)) (fun _ q _ => n.K - (intOf q).toNat)
            case atStart => exact ⟨0, by omega, rfl, rfl, HB6⟩
            case round =>
              obtain ⟨k, hk, rfl, rfl, hW⟩ := hrel
              by_cases hkk : k < n.K
              · obtain ⟨hpl, _⟩ := HS6.out wr hW.out
                obtain ⟨x0, _⟩ := hpl.five hik
                obtain ⟨y0, _, y2, _⟩ := hpl.five hkk
                have hnext : Vc.someTo (thereP x i) (k + 1) = (Vc.someTo (thereP x i) k || (decide ((x k).v.root = (x i).v.root) && decide ((x k).v.bridge = (x k).v.root))) := rfl
                have HNX : Hid (Vc.someTo (thereP x i) (k + 1) = (Vc.someTo (thereP x i) k || (decide ((x k).v.root = (x i).v.root) && decide ((x k).v.bridge = (x k).v.root)))) := hnext
                have HW2 : Hid (∀ q, Below w5.heap.size w5 (wr.drewN q)) := fun q => below_drewN hW.out q
                clear hW hpl HS6 HTH HR HXX HB6 hnext HX
                obtain ⟨S1, HS1⟩ : ∃ S1, Hid (Vc.someTo (thereP x i) (k + 1) = S1) := ⟨_, rfl⟩
                rw [HS1.out] at HNX
                generalize Vc.someTo (thereP x i) k = S0 at *
                generalize (x i).v.root = ri at *
                generalize (x k).v.root = rk at *
                generalize (x k).v.bridge = bk at *
                have k0 : (0 : Int) ≤ (k : Int) := by omega
                have k1 : (k : Int) < (n.K : Int) := by omega
                cases S0 with
                | true =>
                  have e1 : S1 = true := by rw [HNX.out, Bool.true_or]
                  subst e1
                  go_wp2_with fail
                  go_quiet (fail)
                  go_wp2_with fail
                  exact ⟨⟨k + 1, by omega, by go_num, by rw [HS1.out], HW2.out _⟩, by simp [intOf]; omega⟩
                | false =>
                  by_cases e1 : rk = ri
                  · subst e1
                    by_cases e2 : bk = rk
                    · have e3 : S1 = true := by rw [HNX.out, decide_eq_true e2]; simp
                      subst e2
                      subst e3
                      go_wp2_with fail
                      go_quiet (fail)
                      go_wp2_with fail
                      exact ⟨⟨k + 1, by omega, by go_num, by rw [HS1.out], HW2.out _⟩, by simp [intOf]; omega⟩
                    · have e3 : S1 = false := by rw [HNX.out, decide_eq_false e2]; simp
                      subst e3
                      have g1 : (bk == rk) = false := by simp [e2]
                      go_wp2_with fail
                      go_quiet (fail)
                      go_wp2_with fail
                      exact ⟨⟨k + 1, by omega, by go_num, by rw [HS1.out], HW2.out _⟩, by simp [intOf]; omega⟩
                  · have e3 : S1 = false := by rw [HNX.out, decide_eq_false e1]; simp
                    subst e3
                    have g1 : (rk == ri) = false := by simp [e1]
                    go_wp2_with fail
                    go_quiet (fail)
                    go_wp2_with fail
                    exact ⟨⟨k + 1, by omega, by go_num, by rw [HS1.out], HW2.out _⟩, by simp [intOf]; omega⟩
              · obtain hkK : k = n.K := by omega
                have hnk2 : ¬ (k : Int) < (n.K : Int) := by omega
                have h1 := (HS6.out wr hW.out).2
                rw [hkK, HTH.out]
                rw [hkK] at hnk2
                clear HS6 HTH hW HB6
                go_wp2_with fail
                exact ⟨⟨i + 1, by omega, by go_num, h1⟩, by simp [intOf]; omega⟩
          · have hnk2 : ¬ (i : Int) < (n.K : Int) := by omega
            have h1 := (HS4.out wr hW.out).2.2.2
            clear HS4 hW
            go_wp2_with fail
            go_ret
            exact ⟨rfl, h1⟩
end Go.Proofs.YtcbpafpaimpfnaaGreatDoor

namespace Go.Proofs.YtcbpafpaimpfnaaGreatDoor.planRoot
open Go.ChangeShapes Go.WideShapes Go.ChangeAt Go.RowKit

set_option maxRecDepth 100000 in
theorem contract (H : Type) (enc : TypeId × Value → H) (W : World) (base : Nat) (args : Array Value) (ds gs : List (DataW H)) (before : List MemPlace)
    (hval : ∀ (j : Nat) t v, Tryz.f4.params[j]? = some t → args[j]? = some v → Value.okWide Tryz.prog W .any base t v)
    (hW : DataW.Whole enc Tryz.prog Tryz.f4.params.toList Rows.planRootSpec.vars false W args.toList ds gs before)
    (hsz : (DataW.weightsEach Tryz.prog (Tryz.f4.params.toList ++ (OpenSpec.ofChange Rows.planRootSpec).bare.plain.varTypes Tryz.prog) (ds ++ gs)).all (· ≤ reachBytes) = true)
    (hL : laidMetH Tryz.prog Rows.planRootRow.laid W) :
    Calls Tryz.prog 4 args W fun e W' => ∃ v, e = .returned v ∧ Rows.planRootSpec.post enc Tryz.prog Tryz.f4 false true false false W args v W' := by
  have hW' := hW
  obtain ⟨p, q, hA0, hV, rfl, hfz, hnd⟩ := hW
  have hA : DataW.TrodAll enc Tryz.prog W 0 (fun _ => true) true Tryz.f4.params.toList args.toList ds p := hA0
  rw [Tryz.params4] at hA hval hsz
  obtain ⟨v0, vs0, d0, ds0, p0, q0, hargs, rfl, rfl, h0, r0⟩ := trodAll_cons hA
  obtain ⟨v1, vs1, d1, ds1, p1, q1, rfl, rfl, rfl, h1, r1⟩ := trodAll_cons r0
  obtain ⟨rfl, rfl, rfl⟩ := trodAll_nil r1
  obtain rfl : args = #[v0, v1] := by cases args; simp_all
  obtain ⟨rfl, rfl⟩ := trodVars_none hV
  have lt0 : ∀ x ∈ p0, x.block < W.heap.size := by obtain ⟨m, hm⟩ := h0; exact DataW.trod_lt m _ _ _ hm
  obtain ⟨n0, rfl, hat0, hwf0, hz0⟩ := net_in (hval 0 25 v0 rfl rfl) h0
  have lt1 : ∀ x ∈ p1, x.block < W.heap.size := by obtain ⟨m, hm⟩ := h1; exact DataW.trod_lt m _ _ _ hm
  obtain ⟨z1, rfl⟩ := okWide_int Tryz.underlying3 (hval 1 3 v1 rfl rfl)
  have hall := hsz
  simp only [List.cons_append, DataW.weightsEach, List.all_append, Bool.and_eq_true] at hall
  have hm0 := hz0 hall.1
  unfold reachBytes at hm0
  have hT := tabs_of hL
  have hG : 2 ≤ W.heap.size := hT.lt
  clear hA0 hall hsz
  refine (proot_any n0 z1 W hat0 hwf0 hT hG).mono fun e W' ⟨he, bel⟩ => ?_
  subst he
  exact ⟨_, rfl, _, _, _, [], _, [], hW', trodAll_mk1 (shut_bool Tryz.underlying4 _), (trodAll_cons_mk (Below.trod laidOut (by kernel_rfl) (of_decide_eq_true (by kernel_rfl)) h0 bel lt0) (trodAll_cons_mk (Below.trod laidOut (by kernel_rfl) (of_decide_eq_true (by kernel_rfl)) h1 bel lt1) trodAll_mk0)), rfl, bel.frame _, fun h => by cases h⟩

theorem laid_met (os : Os) : laidMet Tryz.prog Rows.planRootRow.laid ((laidW (World.holding Tryz.prog os ⟨#[], #[], []⟩)).forCall (fun _ _ => 0) ⟨#[], #[.agg #[.slice none 0 0, .slice none 0 0], .int .i64 0], []⟩).memory :=
  laidMet_of_run' 8 (by kernel_rfl) (by kernel_rfl)
theorem reads (os : Os) {H : Type} (enc : TypeId × Value → H) : ∃ places, DataW.whole enc Tryz.prog ((laidW (World.holding Tryz.prog os ⟨#[], #[], []⟩)).forCall (fun _ _ => 0) ⟨#[], #[.agg #[.slice none 0 0, .slice none 0 0], .int .i64 0], []⟩).memory Tryz.f4.params.toList Rows.planRootSpec.vars false #[Value.agg #[.slice none 0 0, .slice none 0 0], .int .i64 0].toList 8 = some ([.agg [.nil, .nil], .lit (.int .i64 0)], [], places) :=
  ⟨[], by kernel_rfl⟩

set_option maxRecDepth 100000 in
theorem lifted (os : Os) (started : os.Started) (H : Type) (enc : TypeId × Value → H) (F : Stop.Interp) :
    ReturnsInHanded {} Tryz.checked os 4 .any ((OpenSpec.ofChange Rows.planRootSpec).preRow enc Tryz.prog Tryz.f4 Rows.planRootRow.domain false Rows.planRootRow.laid) (((OpenSpec.ofChange Rows.planRootSpec).at F).post enc Tryz.prog Tryz.f4 false true false false) := by
  obtain ⟨places, hx⟩ := reads os enc
  refine returnsInHanded_of_row (C := Tryz.checked) (s := OpenSpec.ofChange Rows.planRootSpec) own started (by kernel_rfl) Tryz.func4
    (witness_row_at (enc := enc) (C := Tryz.checked) false (laidW (World.holding Tryz.prog os ⟨#[], #[], []⟩)) #[.agg #[.slice none 0 0, .slice none 0 0], .int .i64 0] rfl (by kernel_rfl) (by kernel_rfl) (by kernel_rfl)
      (OpenSpec.preRow_of_cond 8 hx (by kernel_rfl) (fun k hk => by cases hk) (by kernel_rfl) (laid_met os))) ?_
  intro W base args ds gs before hval hW _ _ hsz hL _ _
  exact contract H enc W base args ds gs before hval hW hsz hL

theorem said : Rows.PlanRootSaid :=
  OpenClaim.holds_of_cond 4 Tryz.f4 rfl rfl rfl rfl rfl rfl rfl ⟨rfl, rfl, rfl, rfl, rfl⟩ rfl rfl rfl rfl rfl (by kernel_rfl) Tryz.func4 (by kernel_rfl)
    (of_decide_eq_true (by kernel_rfl)) (by unfold Func.isWrapper; first | (rw [if_pos (by decide +kernel)]; kernel_rfl) | (rw [if_neg (by decide +kernel)]; exact ⟨rfl, rfl⟩))
    (fun os started H enc _ F => by rw [OpenClaim.pre_eq_preRow]; exact lifted os started H enc F)

theorem plain (f : FuncId) (fn : Func) (hf : Tryz.pinned.checked.prog.funcNamed "hedgerow/hedgelaw6.PlanRoot" = some f) (hfn : Tryz.pinned.checked.prog.funcs[f]? = some fn) :
    false = Tryz.pinned.checked.prog.looks [] ∧ ∀ (j : Nat) t, fn.params[j]? = some t → Tryz.pinned.checked.prog.wantsStandIn t = false := by
  obtain rfl : f = 4 := Option.some.inj ((show Tryz.prog.funcNamed "hedgerow/hedgelaw6.PlanRoot" = some 4 by kernel_rfl).symm.trans hf) |>.symm
  obtain rfl : fn = Tryz.f4 := (Option.some.inj (Tryz.func4.symm.trans hfn)).symm
  refine ⟨by kernel_rfl, fun j t ht => ?_⟩
  rw [Tryz.params4] at ht
  have h1 : Tryz.prog.wantsStandIn 25 = false := by kernel_rfl
  have h2 : Tryz.prog.wantsStandIn 3 = false := by kernel_rfl
  have ht2 : t = 25 ∨ t = 3 := by simpa using Array.mem_of_getElem? ht
  rcases ht2 with rfl | rfl
  · exact h1
  · exact h2

/-- ████ THE CARD ████ -/
theorem card : Rows.PlanRootCardSaid :=
  Claim7.holds_tied_plain_at .later [] _ _ _ _ said (fun _ h => by cases h) (by kernel_rfl) (fun _ h => by cases h) planRoot_row_tie rfl ⟨rfl, rfl⟩ (by kernel_rfl) rfl plain (by kernel_rfl)
end Go.Proofs.YtcbpafpaimpfnaaGreatDoor.planRoot
namespace Go.Proofs.YtcbpafpaimpfnaaGreatDoor
/-- ONE ROOT: the statement, as it was given. -/
theorem planRoot_card : Rows.PlanRootCardSaid := planRoot.card
#print axioms planRoot_card
end Go.Proofs.YtcbpafpaimpfnaaGreatDoor
