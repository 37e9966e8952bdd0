/- 'hedgelaw6.PlanTree' returns true for every net and every tree, and leaves it as it was: the row and its tied card. Conditions: none beyond the form's own (the tables lie as the program's text lays them: the card's tie). -/
import Derived.Test.YtcbpafpaimpfnaaGreatDoorME
import Derived.Test.YtcbpafpaimpfnaaGreatDoorCR
import Derived.Test.YtcbpafpaimpfnaaGreatDoorMG
import Derived.Test.YtcbpafpaimpfnaaGreatDoorHT
import Derived.Test.YtcbpafpaimpfnaaGreatDoorCards
import Derived.Test.YtcbpafpaimpfnaaGreatDoorTie
import Derived.Test.YtcbpafpaimpfnaaGreatDoorMF
import Derived.BigQuiet
import Derived.Maps.AppendAt
import Derived.Deep.RegionHeld3
namespace Go.Proofs.YtcbpafpaimpfnaaGreatDoor
open Go.RowKit
open Vc (V Of)
open Pl (Br Net Pc Lk En St LN)

/-- A place, as it lies. -/
def pcA (s : St) (v5 v6 : Value) : Array Value := #[.int .u64 s.v.root, .int .i64 s.v.cost, .int .u64 s.v.bridge, .int .i64 s.v.port, .int .i64 s.rp, v5, v6]
theorem pc_cells {w : World} {g : Nat} {a0 a1 a2 a3 a4 a5 a6 : Value} {ty : TypeId} (h : w.heap[g]? = some (.cells #[a0, a1, a2, a3, a4, a5, a6] ty (0, 0))) :
    w.cell? ⟨g, 0, none⟩ = some a0 ∧ w.cell? ⟨g, 1, none⟩ = some a1 ∧ w.cell? ⟨g, 2, none⟩ = some a2 ∧ w.cell? ⟨g, 3, none⟩ = some a3 ∧ w.cell? ⟨g, 4, none⟩ = some a4 ∧ w.cell? ⟨g, 5, none⟩ = some a5 ∧ w.cell? ⟨g, 6, none⟩ = some a6 :=
  ⟨cell_of_row w g 0 _ _ _ h, cell_of_row w g 1 _ _ _ h, cell_of_row w g 2 _ _ _ h, cell_of_row w g 3 _ _ _ h, cell_of_row w g 4 _ _ _ h, cell_of_row w g 5 _ _ _ h, cell_of_row w g 6 _ _ _ h⟩
/-- The role at a port: that of the first one among the ports; none. -/
def roleIn (ports roles : Nat → Int) (port : Int) : Nat → Int
  | 0 => 0
  | k + 1 => if ports 0 = port then roles 0 else roleIn (fun i => ports (i + 1)) (fun i => roles (i + 1)) port k
theorem roleIn_at (port : Int) : ∀ (n k : Nat) (ports roles : Nat → Int), k < n → ports k = port → (∀ i, i < k → ports i ≠ port) → roleIn ports roles port n = roles k
  | 0, k, _, _, h, _, _ => by omega
  | n + 1, 0, ports, roles, _, h, _ => by simp [roleIn, h]
  | n + 1, k + 1, ports, roles, hk, h, hn => by
    simp only [roleIn]
    rw [if_neg (hn 0 (by omega))]
    exact roleIn_at port n k (fun i => ports (i + 1)) (fun i => roles (i + 1)) (by omega) h (fun i hi => hn (i + 1) (by omega))
theorem roleIn_none (port : Int) : ∀ (n : Nat) (ports roles : Nat → Int), (∀ i, i < n → ports i ≠ port) → roleIn ports roles port n = 0
  | 0, _, _, _ => rfl
  | n + 1, ports, roles, hn => by
    simp only [roleIn]
    rw [if_neg (hn 0 (by omega))]
    exact roleIn_none port n (fun i => ports (i + 1)) (fun i => roles (i + 1)) (fun i hi => hn (i + 1) (by omega))
set_option maxRecDepth 100000 in
set_option maxHeartbeats 1000000 in
theorem prole_any (s : St) (pao rao : Option Addr) (n pcap rcap : Nat) (ports roles : Nat → Int) (port : Int) (w : World) (hn : n ≤ 1000) (hp : IRow w pao n pcap ports) (hr : IRow w rao n rcap roles) :
    Calls Tryz.prog 19 #[.agg (pcA s (.slice pao n pcap) (.slice rao n rcap)), .int .i64 port] w fun e w' => e = .returned (.int .i64 (roleIn ports roles port n)) ∧ Below w.heap.size w w' := by
  obtain ⟨X, HX⟩ : ∃ X, Hid (X = w.alloc (.cells (pcA s (.slice pao n pcap) (.slice rao n rcap)) 50)) := ⟨_, rfl⟩
  have hXB : Below w.heap.size w X := by rw [HX.out]; exact below_alloc1 _ _
  have HP : Hid (IRow X pao n pcap ports) := CRow.below hp hXB
  have HQ : Hid (IRow X rao n rcap roles) := CRow.below hr hXB
  have HB : Hid (Below w.heap.size w X) := hXB
  have h1 := hp.1
  have h2 := hr.1
  have hc : X.heap[w.heap.size]? = some (.cells (pcA s (.slice pao n pcap) (.slice rao n rcap)) 50 (0, 0)) := by rw [HX.out]; exact heap_alloc_last _ _
  obtain ⟨c0, c1, c2, c3, c4, c5, c6⟩ := pc_cells hc
  clear hp hr hXB hc
  obtain ⟨⟨ro, co, br, po⟩, rp⟩ := s
  simp only [pcA] at *
  go_enter Tryz.func19, Tryz.ntmps19
  go_wp2_with fail
  rw [← HX.out]
  go_loopw [10] (fun i wr => ∃ k : Nat, k ≤ n ∧ i = .int .i64 k ∧ wr = X ∧ Hid (∀ j, j < k → ports j ≠ port)) (fun i _ => n - (intOf i).toNat)
  case atStart => exact ⟨0, by omega, rfl, rfl, fun j hj => absurd hj (by omega)⟩
  case round =>
    obtain ⟨k, hk, rfl, rfl, hS⟩ := hrel
    by_cases hlt : k < n
    · obtain ⟨pb, poff, rfl, _⟩ := CRow.some HP.out (by omega)
      obtain ⟨rb, roff, rfl, _⟩ := CRow.some HQ.out (by omega)
      have p0 := IRow.cells HP.out hlt
      have r0 := IRow.cells HQ.out hlt
      have i0 : (0 : Int) ≤ (k : Int) := by omega
      have i1 : (k : Int) < (n : Int) := by omega
      by_cases e : ports k = port
      · have HE : Hid (roleIn ports roles port n = roles k) := roleIn_at port n k ports roles hlt e hS.out
        rw [e] at p0
        generalize roles k = r at *
        go_wp2_with fail
        go_ret
        exact ⟨by rw [HE.out]; rfl, HB.out⟩
      · have HS : Hid (∀ j, j < k + 1 → ports j ≠ port) := fun j hj => by
          by_cases q : j = k
          · rw [q]; exact e
          · exact hS.out j (by omega)
        have e1 : (ports k == port) = false := by simp [e]
        generalize ports k = q at *
        go_wp2_with fail
        exact ⟨⟨k + 1, by omega, by go_num, by first | rfl | trivial, HS⟩, by simp [intOf]; omega⟩
    · have hnk : ¬ (k : Int) < (n : Int) := by omega
      have HE : Hid (roleIn ports roles port n = 0) := roleIn_none port n ports roles (fun i hi => hS.out i (by omega))
      go_wp2_with fail
      go_ret
      exact ⟨by rw [HE.out]; rfl, HB.out⟩
end Go.Proofs.YtcbpafpaimpfnaaGreatDoor

namespace Go.Proofs.YtcbpafpaimpfnaaGreatDoor
open Go.RowKit
open Vc (V Of)
open Pl (Br Net Pc Lk En St)

/-- Pairs of bridges, as they lie. -/
def edC (es : Nat → Nat × Nat) (j q : Nat) : Value := if q = 0 then .int .i64 ((es j).1 : Nat) else .int .i64 ((es j).2 : Nat)
def LabAt (W : World) (G K : Nat) (f : Nat → Nat) : Prop := W.heap[G]? = some (.cells (rowC K 1 (fun i _ => .int .i64 ((f i : Nat) : Int))) 3 (0, 0))
theorem LabAt.cell {W : World} {G K : Nat} {f : Nat → Nat} (h : LabAt W G K f) {i : Nat} (hi : i < K) : W.cell? ⟨G, i, none⟩ = some (.int .i64 ((f i : Nat) : Int)) := by
  have := rowC_cell h hi (show 0 < 1 by omega)
  rw [show i * 1 + 0 = i by omega] at this
  exact this
theorem LabAt.put {W : World} {G K : Nat} {f g : Nat → Nat} (h : LabAt W G K f) {a : Nat} (ha : a < K) (v : Nat) (hg : ∀ i, i < K → g i = if i = a then v else f i) : LabAt (W.setCell ⟨G, a, none⟩ (.int .i64 ((v : Nat) : Int))) G K g := by
  have := rowC_set h ha (show 0 < 1 by omega) (.int .i64 ((v : Nat) : Int))
  rw [show a * 1 + 0 = a by omega] at this
  unfold LabAt
  rw [this, rowC_congr2 (d := fun i _ => .int .i64 ((g i : Nat) : Int)) (fun i hi j hj => by
    unfold updC
    rw [hg i hi]
    by_cases q : i = a
    · rw [if_pos ⟨q, by omega⟩, if_pos q]
    · rw [if_neg (fun p => q p.1), if_neg q])]
theorem LabAt.congr {W : World} {G K : Nat} {f g : Nat → Nat} (h : LabAt W G K f) (hg : ∀ i, i < K → f i = g i) : LabAt W G K g := by
  unfold LabAt at h ⊢
  rw [h, rowC_congr2 (d := fun i _ => .int .i64 ((g i : Nat) : Int)) (fun i hi j hj => by rw [hg i hi])]
def labMid (es : Nat → Nat × Nat) (k q i : Nat) : Nat := if i < q then Pl.lab es (k + 1) i else Pl.lab es k i
set_option maxRecDepth 100000 in
set_option maxHeartbeats 4000000 in
theorem pjoined_any (K m cap : Nat) (ao : Option Addr) (es : Nat → Nat × Nat) (w : World) (hK : K ≤ 12) (hm : m ≤ 1000) (hr : CRow w ao m cap 2 (edC es)) (hes : ∀ j, j < m → (es j).1 < K ∧ (es j).2 < K) :
    Calls Tryz.prog 21 #[.int .i64 K, .slice ao m cap] w fun e w' => ∃ G, e = .returned (.tuple #[.slice (some ⟨G, 0, none⟩) K K, .bool (Pl.ring es m)]) ∧ LabAt w' G K (Pl.lab es m) ∧ w.heap.size ≤ G ∧ Below w.heap.size w w' := by
  have HR : Hid (∀ W, Below w.heap.size w W → CRow W ao m cap 2 (edC es)) := fun W hW => CRow.below hr hW
  have HE : Hid (∀ j, j < m → (es j).1 < K ∧ (es j).2 < K) := hes
  have hcap := hr.1
  obtain ⟨G, HG⟩ : ∃ G, Hid (G = w.heap.size) := ⟨_, rfl⟩
  have hmk : ∀ W : World, (Instr.makeSlice 35 (.int .i64 (K : Int)) (.int .i64 (K : Int))).run Tryz.prog W = .ok (.slice (some ⟨W.heap.size, 0, none⟩) K K) (W.alloc (.cells (rowC K 1 (fun _ _ => .int .i64 0)) 3)) := fun W => make_rowD W 35 3 (.int .i64 0) 1 8 K Tryz.underlying35 infoI (by omega) rfl (by omega) (by omega) _ (fun _ j hj => by rw [show j = 0 by omega]; rfl)
  have H0 : Hid (LabAt (w.alloc (.cells (rowC K 1 (fun _ _ => .int .i64 0)) 3)) G K (fun i => if i < 0 then i else 0) ∧ Below w.heap.size w (w.alloc (.cells (rowC K 1 (fun _ _ => .int .i64 0)) 3))) := ⟨by rw [HG.out]; exact heap_alloc_last _ _, below_alloc1 _ _⟩
  have HGW : Hid (w.heap.size ≤ G) := by rw [HG.out]; exact Nat.le_refl _
  clear hr hes
  go_enter Tryz.func21, Tryz.ntmps21
  go_wp2_with fail
  rw [← HG.out]
  go_loopw [18] (fun q wr => ∃ k : Nat, k ≤ K ∧ q = .int .i64 k ∧ Hid (LabAt wr G K (fun i => if i < k then i else 0) ∧ Below w.heap.size w wr)) (fun q _ => K - (intOf q).toNat)
  case atStart => exact ⟨0, by omega, rfl, H0⟩
  case round =>
    obtain ⟨k, hk, rfl, hX⟩ := hrel
    clear H0
    by_cases hlt : k < K
    · have c0 := hX.out.1.cell hlt
      have c1 : wr.frozen? ⟨G, k, none⟩ = false := lk_free0 hX.out.1 _
      have HN : Hid (LabAt (wr.setCell ⟨G, k, none⟩ (.int .i64 (k : Int))) G K (fun i => if i < k + 1 then i else 0) ∧ Below w.heap.size w (wr.setCell ⟨G, k, none⟩ (.int .i64 (k : Int)))) := by
        refine ⟨hX.out.1.put hlt k (fun i hi => ?_), hX.out.2.setCell HGW.out _⟩
        by_cases e : i = k
        · rw [if_pos e, if_pos (by omega), e]
        · rw [if_neg e]
          by_cases q : i < k
          · rw [if_pos (by omega), if_pos q]
          · rw [if_neg (by omega), if_neg q]
      have i0 : (0 : Int) ≤ (k : Int) := by omega
      have i1 : (k : Int) < (K : Int) := by omega
      clear hX HR HE
      go_wp2_with fail
      exact ⟨⟨k + 1, by omega, by go_num, HN⟩, by simp [intOf]; omega⟩
    · have hnk : ¬ (k : Int) < (K : Int) := by omega
      have H1 : Hid (LabAt wr G K (Pl.lab es 0) ∧ Below w.heap.size w wr) := ⟨hX.out.1.congr (fun i hi => by rw [if_pos (by omega)]; rfl), hX.out.2⟩
      clear hX hmk
      go_wp2_with fail
      go_loopw [8, 28] (fun s8 q wr => ∃ j : Nat, j ≤ m ∧ q = .int .i64 j ∧ s8 = .bool (Pl.ring es j) ∧ Hid (LabAt wr G K (Pl.lab es j) ∧ Below w.heap.size w wr)) (fun _ q _ => m - (intOf q).toNat)
      case atStart => exact ⟨0, by omega, rfl, rfl, H1⟩
      case round =>
        obtain ⟨j, hj, rfl, rfl, hY⟩ := hrel
        clear H1
        by_cases hlt2 : j < m
        · obtain ⟨hL, hB⟩ := hY.out
          have hrow := HR.out wr hB
          obtain ⟨eb, eoff, ee, _, hcells⟩ := hrow.2 (by omega)
          subst ee
          have d0 : wr.cell? ⟨eb, eoff + j * 2, none⟩ = some (.int .i64 ((es j).1 : Nat)) := hcells j hlt2 0 (by omega)
          have d1 : wr.cell? ⟨eb, eoff + j * 2 + 1, none⟩ = some (.int .i64 ((es j).2 : Nat)) := hcells j hlt2 1 (by omega)
          obtain ⟨ha, hb⟩ := HE.out j hlt2
          obtain ⟨B, HB⟩ : ∃ B, Hid (B = wr.heap.size) := ⟨_, rfl⟩
          obtain ⟨Z, HZ⟩ : ∃ Z, Hid (Z = wr.alloc (.cells #[.int .i64 ((es j).1 : Nat), .int .i64 ((es j).2 : Nat)] 57)) := ⟨_, rfl⟩
          have hZB : Below wr.heap.size wr Z := by rw [HZ.out]; exact below_alloc1 _ _
          have hZl : Z.heap[B]? = some (.cells #[.int .i64 ((es j).1 : Nat), .int .i64 ((es j).2 : Nat)] 57 (0, 0)) := by rw [HZ.out, HB.out]; exact heap_alloc_last _ _
          obtain ⟨q0, q1⟩ := two_cells2 hZl
          have hLZ : LabAt Z G K (Pl.lab es j) := keep hL hZB
          have g0 := hLZ.cell ha
          have g1 := hLZ.cell hb
          have HLZ : Hid (∀ m', LabAt (Z.drewN m') G K (Pl.lab es j) ∧ Below w.heap.size w (Z.drewN m')) := fun m' => ⟨hLZ, below_drewN (hB.trans (hZB.mono hB.size)) m'⟩
          have HHIT : Hid (∀ i, Pl.lab es (j + 1) i = if Pl.lab es j i = Pl.lab es j (es j).1 ∨ Pl.lab es j i = Pl.lab es j (es j).2 then min (Pl.lab es j (es j).1) (Pl.lab es j (es j).2) else Pl.lab es j i) := fun i => rfl
          have HRG : Hid (Pl.ring es (j + 1) = (Pl.ring es j || decide (Pl.lab es j (es j).1 = Pl.lab es j (es j).2))) := rfl
          have i0 : (0 : Int) ≤ (j : Int) := by omega
          have i1 : (j : Int) < (m : Int) := by omega
          have ia0 : (0 : Int) ≤ ((es j).1 : Int) := by omega
          have ia1 : ((es j).1 : Int) < (K : Int) := by omega
          have ib0 : (0 : Int) ≤ ((es j).2 : Int) := by omega
          have ib1 : ((es j).2 : Int) < (K : Int) := by omega
          clear hY hL hB hrow hcells hZB hZl hLZ
          generalize hAA : Pl.lab es j (es j).1 = A at *
          generalize hBB : Pl.lab es j (es j).2 = Bb at *
          clear hAA hBB
          generalize (es j).1 = x0 at *
          generalize (es j).2 = x1 at *
          go_wp2_with fail
          rw [← HZ.out, ← HB.out]
          go_cut [10, 11, 12] (fun s10 s11 s12 wx => s11 = .int .i64 (A : Int) ∧ s12 = .int .i64 (Bb : Int) ∧ Hid (LabAt wx G K (Pl.lab es j) ∧ Below w.heap.size w wx))
          case first =>
            clear HR HE HHIT HRG HGW HB HZ
            go_quiet (fail)
            go_wp2_with fail
            go_meet
            exact ⟨rfl, rfl, HLZ.out _⟩
          case rest =>
          obtain ⟨rfl, rfl, HM⟩ := hcut
          clear HLZ q0 q1 g0 g1 d0 d1 HZ HB
          go_upto_region 12 with fail
          go_cut [8, 11, 12] (fun s8 s11 s12 wx => s8 = .bool (Pl.ring es (j + 1)) ∧ s11 = .int .i64 (A : Int) ∧ s12 = .int .i64 (Bb : Int) ∧ Hid (LabAt wx G K (Pl.lab es j) ∧ Below w.heap.size w wx))
          case first =>
            clear HR HE HHIT HGW
            generalize Pl.ring es j = r0 at *
            cases r0 with
            | true =>
              have HV : Hid (Pl.ring es (j + 1) = true) := by show _ = _; rw [HRG.out, Bool.true_or]
              go_wp2_with fail
              go_meet
              exact ⟨by rw [HV.out], rfl, rfl, HM⟩
            | false =>
              by_cases e : A = Bb
              · have HV : Hid (Pl.ring es (j + 1) = true) := by show _ = _; rw [HRG.out, decide_eq_true e, Bool.or_true]
                have e1 : ((A : Int) == (Bb : Int)) = true := by simp [e]
                clear HRG e
                go_wp2_with fail
                go_meet
                exact ⟨by rw [HV.out], rfl, rfl, HM⟩
              · have HV : Hid (Pl.ring es (j + 1) = false) := by show _ = _; rw [HRG.out, decide_eq_false e]; rfl
                have e1 : ((A : Int) == (Bb : Int)) = false := by simp; omega
                clear HRG
                go_wp2_with fail
                go_meet
                exact ⟨by rw [HV.out], rfl, rfl, HM⟩
          case rest =>
          obtain ⟨rfl, rfl, rfl, HMX⟩ := hcut
          have HM2 : Hid (LabAt _ G K (labMid es j 0) ∧ Below w.heap.size w _) := ⟨HMX.out.1.congr (fun i hi => by unfold labMid; rw [if_neg (by omega)]), HMX.out.2⟩
          clear HM HMX HRG
          go_wp2_with fail
          go_loopw [50] (fun q wr => ∃ t : Nat, t ≤ K ∧ q = .int .i64 t ∧ Hid (LabAt wr G K (labMid es j t) ∧ Below w.heap.size w wr)) (fun q _ => K - (intOf q).toNat)
          case atStart => exact ⟨0, by omega, rfl, HM2⟩
          case round =>
            obtain ⟨t, ht, rfl, hV⟩ := hrel
            clear HM2
            by_cases hlt3 : t < K
            · have c0 := hV.out.1.cell hlt3
              have c1 : wr.frozen? ⟨G, t, none⟩ = false := lk_free0 hV.out.1 _
              have e0 : labMid es j t t = Pl.lab es j t := by unfold labMid; rw [if_neg (by omega)]
              rw [e0] at c0
              have hhit := HHIT.out t
              have HPUT : Hid (∀ v : Nat, Pl.lab es (j + 1) t = v → LabAt (wr.setCell ⟨G, t, none⟩ (.int .i64 (v : Int))) G K (labMid es j (t + 1)) ∧ Below w.heap.size w (wr.setCell ⟨G, t, none⟩ (.int .i64 (v : Int)))) := fun v hv => by
                refine ⟨hV.out.1.put hlt3 v (fun i hi => ?_), hV.out.2.setCell HGW.out _⟩
                unfold labMid
                by_cases e : i = t
                · rw [if_pos e, if_pos (by omega), e, hv]
                · rw [if_neg e]
                  by_cases q : i < t
                  · rw [if_pos (by omega), if_pos q]
                  · rw [if_neg (by omega), if_neg q]
              have HSAME : Hid (Pl.lab es (j + 1) t = Pl.lab es j t → LabAt wr G K (labMid es j (t + 1)) ∧ Below w.heap.size w wr) := fun hv => by
                refine ⟨hV.out.1.congr (fun i hi => ?_), hV.out.2⟩
                unfold labMid
                by_cases e : i = t
                · rw [if_neg (by omega), if_pos (by omega), e, hv]
                · by_cases q : i < t
                  · rw [if_pos q, if_pos (by omega)]
                  · rw [if_neg q, if_neg (by omega)]
              have i2 : (0 : Int) ≤ (t : Int) := by omega
              have i3 : (t : Int) < (K : Int) := by omega
              clear hV HHIT HR HE e0
              generalize Pl.lab es (j + 1) t = L1 at *
              generalize Pl.lab es j t = L0 at *
              by_cases e1 : L0 = A
              · rw [if_pos (Or.inl e1)] at hhit
                have HP := HPUT.out _ rfl
                rw [hhit] at HP
                have HPP : Hid _ := HP
                subst e1
                clear HP HPUT HSAME hhit
                rcases Nat.le_total L0 Bb with hle | hle
                · have hmin : min (L0 : Int) (Bb : Int) = (L0 : Int) := by omega
                  rw [Nat.min_eq_left hle] at HPP
                  go_wp2_with fail
                  exact ⟨⟨t + 1, by omega, by go_num, HPP⟩, by simp [intOf]; omega⟩
                · have hmin : min (L0 : Int) (Bb : Int) = (Bb : Int) := by omega
                  rw [Nat.min_eq_right hle] at HPP
                  go_wp2_with fail
                  exact ⟨⟨t + 1, by omega, by go_num, HPP⟩, by simp [intOf]; omega⟩
              · have f1 : ((L0 : Int) == (A : Int)) = false := by simp; omega
                by_cases e2 : L0 = Bb
                · rw [if_pos (Or.inr e2)] at hhit
                  have HP := HPUT.out _ rfl
                  rw [hhit] at HP
                  have HPP : Hid _ := HP
                  subst e2
                  clear HP HPUT HSAME hhit
                  rcases Nat.le_total A L0 with hle | hle
                  · have hmin : min (A : Int) (L0 : Int) = (A : Int) := by omega
                    rw [Nat.min_eq_left hle] at HPP
                    go_wp2_with fail
                    exact ⟨⟨t + 1, by omega, by go_num, HPP⟩, by simp [intOf]; omega⟩
                  · have hmin : min (A : Int) (L0 : Int) = (L0 : Int) := by omega
                    rw [Nat.min_eq_right hle] at HPP
                    go_wp2_with fail
                    exact ⟨⟨t + 1, by omega, by go_num, HPP⟩, by simp [intOf]; omega⟩
                · have f2 : ((L0 : Int) == (Bb : Int)) = false := by simp; omega
                  rw [if_neg (by omega)] at hhit
                  have HPP : Hid _ := HSAME.out hhit
                  clear HPUT HSAME hhit
                  go_wp2_with fail
                  exact ⟨⟨t + 1, by omega, by go_num, HPP⟩, by simp [intOf]; omega⟩
            · have hnk3 : ¬ (t : Int) < (K : Int) := by omega
              have HPP : Hid (LabAt wr G K (Pl.lab es (j + 1)) ∧ Below w.heap.size w wr) := ⟨hV.out.1.congr (fun i hi => by unfold labMid; rw [if_pos (by omega)]), hV.out.2⟩
              clear hV HHIT
              go_wp2_with fail
              exact ⟨⟨j + 1, by omega, by go_num, rfl, HPP⟩, by simp [intOf]; omega⟩
        · have hnm : ¬ (j : Int) < (m : Int) := by omega
          have hjm : j = m := by omega
          subst hjm
          have HPP : Hid (LabAt wr G K (Pl.lab es j) ∧ Below w.heap.size w wr) := hY
          clear hY HR HE
          go_wp2_with fail
          go_ret2
          exact ⟨G, rfl, HPP.out.1, HGW.out, HPP.out.2⟩
end Go.Proofs.YtcbpafpaimpfnaaGreatDoor

namespace Go.Proofs.YtcbpafpaimpfnaaGreatDoor
open Go.RowKit

theorem append_at (w : World) (t e : TypeId) (z : Value) (k bytes : Nat) (ht : Tryz.prog.underlying t = some (.slice e)) (hinfo : (Tryz.prog.info? e).map (fun i => (i.zero, i.size, i.bytes)) = some (some z, k, bytes)) (hzk : z.cells.size = k) (hk : 0 < k)
    (base : Nat) (v : Value) (n : Nat) (c : Nat → Nat → Value) (hown : w.ownsRow base e k v n (cellsL n k c)) (ad : Addr) (m cp : Nat) (d : Nat → Nat → Value) (hd : ∀ i j, (d i j).oneCell' = true) (hr : CRow w (some ad) m cp k d) (h63 : n + m ≤ maxLen) (hb : (n + m) * bytes ≤ 140737488355328) (hbase : base ≤ w.heap.size) :
    ∃ a1 c1 w', (Builtin.append_ #[t, t] t #[v, .slice (some ad) m cp]).run Tryz.prog w = .ok (.slice a1 (n + m) c1) w' ∧ w'.ownsRow base e k (.slice a1 (n + m) c1) (n + m) (cellsL (n + m) k (catC n c d)) ∧ w.grownBy w' v.ownBlock ∧ Below base w w' ∧ ((Value.slice a1 (n + m) c1).ownBlock = v.ownBlock ∨ (Value.slice a1 (n + m) c1).ownBlock = some w.heap.size) := by
  obtain ⟨i0, hi, hz0, hz1, hz2⟩ := info_parts hinfo
  obtain ⟨v', w', hrun, h1, h2, _, h3⟩ := run_append_own_at (P := Tryz.prog) w base t t e i0 z k bytes ht hi hz0 hz1 hz2 hzk hk v n _ hown ad m cp (cellsL m k d) (cellsL_length _ _ _) (src_cells hk hr rfl) (cellsL_one _ _ _ hd) h63 hb hbase
  rw [cellsL_cat n m k hk] at h1
  obtain ⟨a1, c1, rfl, _⟩ := owns_c hk h1
  exact ⟨a1, c1, w', hrun, h1, h2, (Below.refl _ _).grown h2 hbase (fun q hq => (ownsC_block hown q hq).1), h3⟩
end Go.Proofs.YtcbpafpaimpfnaaGreatDoor

namespace Go.Proofs.YtcbpafpaimpfnaaGreatDoor
open Go.RowKit
open Vc (V Of)
open Pl (Br Net Pc Lk En St LN)

theorem infoPair : (Tryz.prog.info? 57).map (fun i => (i.zero, i.size, i.bytes)) = some (some (.agg #[.int .i64 0, .int .i64 0]), 2, 16) := by kernel_rfl
theorem tree_says (n : Net) (tree : Int) : Pl.rounds (n.ids tree) n.ends n.K n.K = Pl.says (n.ids tree) n.ls n.live n.K n.L := rfl
theorem edC_one (es : Nat → Nat × Nat) (j q : Nat) : (edC es j q).oneCell' = true := by
  unfold edC
  split <;> rfl
theorem pforw_any (r : Int) (w : World) : Calls Tryz.prog 20 #[.int .i64 r] w fun e w' => e = .returned (.bool (decide (r = 1 ∨ r = 2))) ∧ w' = w := by
  by_cases h1 : r = 1
  · subst h1
    rw [decide_eq_true (Or.inl rfl)]
    go_enter Tryz.func20, Tryz.ntmps20
    go_wp2_with fail
    go_ret
    exact ⟨rfl, rfl⟩
  · have e1 : (r == 1) = false := by simp [h1]
    by_cases h2 : r = 2
    · subst h2
      rw [decide_eq_true (Or.inr rfl)]
      go_enter Tryz.func20, Tryz.ntmps20
      go_wp2_with fail
      go_ret
      exact ⟨rfl, rfl⟩
    · have e2 : (r == 2) = false := by simp [h2]
      rw [decide_eq_false (by omega)]
      go_enter Tryz.func20, Tryz.ntmps20
      go_wp2_with fail
      go_ret
      exact ⟨rfl, rfl⟩
/-- The role of a bridge's port, as it is told. -/
def roleTo (E : Nat → List En) (x : Nat → St) (i : Nat) (port : Int) : Int := roleIn (fun j => (EL (E i) j).port) (fun j => Pl.roleAt (x i) (Pl.offs (E i) x) (EL (E i) j)) port (E i).length
theorem roleTo_at {n : Net} (R : n.Right) (x : Nat → St) {i : Nat} {e : En} (he : e ∈ n.ends i) : roleTo n.ends x i e.port = Pl.roleAt (x i) (Pl.offs (n.ends i) x) e := by
  obtain ⟨k, hk, ek⟩ := List.getElem_of_mem he
  have el : ∀ j, (h : j < (n.ends i).length) → EL (n.ends i) j = (n.ends i)[j] := fun j h => by simp [EL, List.getD, List.getElem?_eq_getElem h]
  have hs : (n.ends i).Pairwise (fun x y => x.port < y.port) := Pl.ends_sorted R.links n.live i
  unfold roleTo
  rw [roleIn_at e.port (n.ends i).length k _ _ hk (by rw [el k hk, ek]) (fun j hj => by
    have h1 := List.pairwise_iff_getElem.1 hs j k (by omega) hk hj
    rw [el j (by omega)]
    rw [ek] at h1
    omega)]
  rw [el k hk, ek]
theorem place_roleT {w : World} {P K : Nat} {x : Nat → St} {E : Nat → List En} (h : PlacesAt w P K x E K) {i : Nat} (hi : i < K) (hl : (E i).length ≤ 1000) :
    ∃ v5 v6, (w.cell? ⟨P, i * 7, none⟩ = some (.int .u64 (x i).v.root) ∧ w.cell? ⟨P, i * 7 + 1, none⟩ = some (.int .i64 (x i).v.cost) ∧ w.cell? ⟨P, i * 7 + 2, none⟩ = some (.int .u64 (x i).v.bridge) ∧ w.cell? ⟨P, i * 7 + 3, none⟩ = some (.int .i64 (x i).v.port) ∧ w.cell? ⟨P, i * 7 + 4, none⟩ = some (.int .i64 (x i).rp) ∧ w.cell? ⟨P, i * 7 + 5, none⟩ = some v5 ∧ w.cell? ⟨P, i * 7 + 6, none⟩ = some v6) ∧
      ∀ (port : Int) (W : World), Below w.heap.size w W → Calls Tryz.prog 19 #[.agg #[.int .u64 (x i).v.root, .int .i64 (x i).v.cost, .int .u64 (x i).v.bridge, .int .i64 (x i).v.port, .int .i64 (x i).rp, v5, v6], .int .i64 port] W fun e w' => e = .returned (.int .i64 (roleTo E x i port)) ∧ Hid (Below w.heap.size w w') := by
  obtain ⟨c, h1, h2, _, h4⟩ := h
  obtain ⟨pao, rao, pcap, rcap, e5, e6, hp, hr, _, _⟩ := h4 i hi
  refine ⟨c i 5, c i 6, ⟨?_, ?_, ?_, ?_, ?_, rowC_cell h1 hi (by omega), rowC_cell h1 hi (by omega)⟩, fun port W hW => ?_⟩
  · have := rowC_cell h1 hi (show 0 < 7 by omega); rw [h2 i hi 0 (by omega)] at this; exact this
  · have := rowC_cell h1 hi (show 1 < 7 by omega); rw [h2 i hi 1 (by omega)] at this; exact this
  · have := rowC_cell h1 hi (show 2 < 7 by omega); rw [h2 i hi 2 (by omega)] at this; exact this
  · have := rowC_cell h1 hi (show 3 < 7 by omega); rw [h2 i hi 3 (by omega)] at this; exact this
  · have := rowC_cell h1 hi (show 4 < 7 by omega); rw [h2 i hi 4 (by omega)] at this; exact this
  · rw [e5, e6]
    refine (prole_any (x i) pao rao (E i).length pcap rcap _ _ port W hl (CRow.below hp hW) (CRow.below hr hW)).mono ?_
    rintro e w' ⟨rfl, hb⟩
    exact ⟨rfl, hW.trans (hb.mono hW.size)⟩
/-- A live link's two roles; whether it is on. -/
def rA (n : Net) (x : Nat → St) (k : Nat) : Int := roleTo n.ends x (n.ls k).a.toNat (n.ls k).pa
def rB (n : Net) (x : Nat → St) (k : Nat) : Int := roleTo n.ends x (n.ls k).b.toNat (n.ls k).pb
def onB (n : Net) (x : Nat → St) (k : Nat) : Bool := decide (rA n x k = 1 ∨ rA n x k = 2) && decide (rB n x k = 1 ∨ rB n x k = 2)
theorem roles_of {n : Net} (R : n.Right) (tree : Int) {x : Nat → St} (hx : x = Pl.rounds (n.ids tree) n.ends n.K n.K) {k : Nat} (hk : k < n.L) (hl : n.live k = true) :
    ((rA n x k = 2 ∧ (rB n x k = 1 ∨ rB n x k = 3)) ∨ (rB n x k = 2 ∧ (rA n x k = 1 ∨ rA n x k = 3))) ∧ (onB n x k = true ↔ Pl.isOn (n.ids tree) n.ls n.live n.K n.L k) := by
  have ea : rA n x k = Pl.roleAt (x (n.ls k).a.toNat) (Pl.offs (n.ends (n.ls k).a.toNat) x) (Pl.eA (n.ls k) (n.live k)) := roleTo_at R x (e := Pl.eA (n.ls k) (n.live k)) (Pl.eA_mem R.links n.live hk)
  have eb : rB n x k = Pl.roleAt (x (n.ls k).b.toNat) (Pl.offs (n.ends (n.ls k).b.toNat) x) (Pl.eB (n.ls k) (n.live k)) := roleTo_at R x (e := Pl.eB (n.ls k) (n.live k)) (Pl.eB_mem R.links n.live hk)
  have h1 := Pl.says_roles R.links R.few (n.ids tree) (ids_apart R tree) n.live hk hl (rA n x k) (rB n x k) (by rw [← tree_says, ← hx]; exact ea) (by rw [← tree_says, ← hx]; exact eb)
  refine ⟨h1, ?_⟩
  have qa := Pl.three_ways (ea.trans (Pl.role_eq (i := (n.ls k).a.toNat) (x := x) (l := n.ends (n.ls k).a.toNat) (fun p q hp hq h => Pl.ends_one R.links n.live hp hq h) (Pl.eA_mem R.links n.live hk) hl))
  have qb := Pl.three_ways (eb.trans (Pl.role_eq (i := (n.ls k).b.toNat) (x := x) (l := n.ends (n.ls k).b.toNat) (fun p q hp hq h => Pl.ends_one R.links n.live hp hq h) (Pl.eB_mem R.links n.live hk) hl))
  have ia : rA n x k = 1 ↔ (n.ls k).pa = (x (n.ls k).a.toNat).rp := by
    have e : (Pl.eA (n.ls k) (n.live k)).port = (n.ls k).pa := rfl
    rw [e] at qa
    omega
  have ib : rB n x k = 1 ↔ (n.ls k).pb = (x (n.ls k).b.toNat).rp := by
    have e : (Pl.eB (n.ls k) (n.live k)).port = (n.ls k).pb := rfl
    rw [e] at qb
    omega
  unfold onB Pl.isOn
  rw [← tree_says, ← hx, Bool.and_eq_true, decide_eq_true_eq, decide_eq_true_eq, ← ia, ← ib]
  omega
/-- The links that are on, among the first j live ones. -/
def onsTo (n : Net) (x : Nat → St) (j : Nat) : List Nat := (n.lvs.take j).filter (onB n x)
theorem onsTo_next (n : Net) (x : Nat → St) {j : Nat} (hj : j < n.lvs.length) : onsTo n x (j + 1) = onsTo n x j ++ if onB n x (LN n.lvs j) = true then [LN n.lvs j] else [] := by
  unfold onsTo
  have e : n.lvs.take (j + 1) = n.lvs.take j ++ [LN n.lvs j] := by
    rw [List.take_add_one, List.getElem?_eq_getElem hj, Pl.LN_get hj]
    rfl
  rw [e, List.filter_append]
  congr 1
  cases h : onB n x (LN n.lvs j) <;> simp [h]
theorem onsTo_few (n : Net) (x : Nat → St) (j : Nat) : (onsTo n x j).length ≤ j := by
  have h1 := List.length_filter_le (onB n x) (n.lvs.take j)
  rw [List.length_take] at h1
  exact Nat.le_trans h1 (Nat.min_le_left _ _)
/-- The pairs of a list of links. -/
def edL (n : Net) (l : List Nat) (j : Nat) : Nat × Nat := Pl.edge n.ls (LN l j)
abbrev edCells (n : Net) (l : List Nat) : List Value := cellsL l.length 2 (edC (edL n l))
theorem ed_snoc (n : Net) (l : List Nat) (k : Nat) : cellsL (l.length + 1) 2 (catC l.length (edC (edL n l)) (edC (fun _ => Pl.edge n.ls k))) = edCells n (l ++ [k]) := by
  unfold edCells
  rw [List.length_append]
  apply cellsL_congr
  intro i hi
  simp only [catC]
  funext q
  by_cases h : i < l.length
  · rw [if_pos h]
    simp [edC, edL, LN, List.getD, List.getElem?_append_left h]
  · rw [if_neg h]
    obtain rfl : i = l.length := by omega
    simp [edC, edL, LN, List.getD]
theorem one_pair_row {w : World} {g a b : Nat} {ty : TypeId} (h : w.heap[g]? = some (.cells #[.int .i64 (a : Int), .int .i64 (b : Int)] ty (0, 0))) : CRow w (some ⟨g, 0, none⟩) 1 1 2 (edC (fun _ => (a, b))) := by
  refine ⟨Nat.le_refl _, fun _ => ⟨g, 0, rfl, (Array.getElem?_eq_some_iff.1 h).1, fun i hi j hj => ?_⟩⟩
  obtain rfl : i = 0 := by omega
  rcases (by omega : j = 0 ∨ j = 1) with e | e <;> subst e <;> exact cell_of_row w g _ _ _ _ h
/-- Two rows of pairs that grow, apart from each other. -/
structure TwoR (w3 W : World) (n : Net) (l1 l2 : List Nat) (v1 v2 : Value) : Prop where
  low : Below w3.heap.size w3 W
  one : W.ownsRow w3.heap.size 57 2 v1 l1.length (edCells n l1)
  two : W.ownsRow w3.heap.size 57 2 v2 l2.length (edCells n l2)
  apart : ∀ q, v1.ownBlock = some q → v2.ownBlock ≠ some q
theorem TwoR.below {w3 W W' : World} {n : Net} {l1 l2 : List Nat} {v1 v2 : Value} (h : TwoR w3 W n l1 l2 v1 v2) (hb : Below W.heap.size W W') : TwoR w3 W' n l1 l2 v1 v2 :=
  ⟨h.low.trans (hb.mono h.low.size), ownsC_below h.one hb, ownsC_below h.two hb, h.apart⟩
theorem TwoR.swap {w3 W : World} {n : Net} {l1 l2 : List Nat} {v1 v2 : Value} (h : TwoR w3 W n l1 l2 v1 v2) : TwoR w3 W n l2 l1 v2 v1 := ⟨h.low, h.two, h.one, fun q h1 h2 => h.apart q h2 h1⟩
/-- One pair more in the first row. -/
theorem TwoR.more {w3 W : World} {n : Net} {l1 l2 : List Nat} {v1 v2 : Value} (h : TwoR w3 W n l1 l2 v1 v2) (k a b : Nat) (he : Pl.edge n.ls k = (a, b)) (hf : l1.length ≤ 1000) :
    ∃ a1 c1 w2, (Builtin.append_ #[56, 56] 56 #[v1, .slice (some ⟨W.heap.size, 0, none⟩) 1 1]).run Tryz.prog (W.alloc (.cells #[.int .i64 (a : Int), .int .i64 (b : Int)] 57)) = .ok (.slice a1 (l1 ++ [k]).length c1) w2 ∧ TwoR w3 w2 n (l1 ++ [k]) l2 (.slice a1 (l1 ++ [k]).length c1) v2 ∧ (∀ q, q < W.heap.size → v1.ownBlock ≠ some q → w2.heap[q]? = W.heap[q]?) ∧ W.heap.size ≤ w2.heap.size := by
  have hB : Below W.heap.size W (W.alloc (.cells #[.int .i64 (a : Int), .int .i64 (b : Int)] 57)) := below_alloc1 _ _
  have hC := h.below hB
  have hr := one_pair_row (heap_alloc_last W (.cells #[.int .i64 (a : Int), .int .i64 (b : Int)] 57))
  have hs : (W.alloc (.cells #[.int .i64 (a : Int), .int .i64 (b : Int)] 57)).heap.size = W.heap.size + 1 := by simp
  obtain ⟨a1, c1, w2, r, ho, hg, hb, hw⟩ := append_at (W.alloc (.cells #[.int .i64 (a : Int), .int .i64 (b : Int)] 57)) 56 57 _ 2 16 Tryz.underlying56 infoPair rfl (by omega) w3.heap.size v1 l1.length (edC (edL n l1)) hC.one ⟨W.heap.size, 0, none⟩ 1 1 (edC (fun _ => (a, b))) (fun _ _ => edC_one _ _ _) hr (by unfold maxLen; omega) (by omega) (by have := h.low.size; omega)
  rw [← he, ed_snoc] at ho
  have e1 : (l1 ++ [k]).length = l1.length + 1 := by simp
  rw [← e1] at r ho hw
  refine ⟨a1, c1, w2, r, ⟨hC.low.trans hb, ho, hC.two.kept hg ?_, fun q hq => ?_⟩, fun q hq hne => ?_, ?_⟩
  · cases hv : v2.ownBlock with
    | none => exact Or.inl rfl
    | some q => exact Or.inr (fun e => h.apart q e.symm hv)
  · rcases hw with hw | hw
    · rw [hw] at hq; exact h.apart q hq
    · intro e
      have := (ownsC_block h.two q e).2
      rw [hw] at hq
      injection hq with hq
      omega
  · rw [hg.block q (by omega) (fun e => hne e.symm)]
    exact hB.block q hq
  · have := hg.size; omega
end Go.Proofs.YtcbpafpaimpfnaaGreatDoor

namespace Go.Proofs.YtcbpafpaimpfnaaGreatDoor
open Go.RowKit
open Vc (V Of)
open Pl (Br Net Pc Lk En St LN)

/-- The first j live links. -/
def tk (n : Net) (j : Nat) : List Nat := n.lvs.take j
theorem take_next {n : Net} {j : Nat} (hj : j < n.lvs.length) : tk n (j + 1) = tk n j ++ [LN n.lvs j] := by
  unfold tk
  rw [List.take_add_one, List.getElem?_eq_getElem hj, Pl.LN_get hj]
  rfl
theorem tk_few (n : Net) (j : Nat) : (tk n j).length ≤ j := by
  unfold tk
  rw [List.length_take]
  exact Nat.min_le_left _ _
theorem onsTo_mem {n : Net} {x : Nat → St} {j k : Nat} (h : k ∈ onsTo n x j) : k < n.L ∧ n.live k = true ∧ onB n x k = true := by
  obtain ⟨h1, h2⟩ := List.mem_filter.1 h
  obtain ⟨h3, h4⟩ := List.mem_filter.1 (List.mem_of_mem_take h1)
  exact ⟨List.mem_range.1 h3, h4, h2⟩
/-- What the two tellings come to. -/
theorem tree_plain {n : Net} (R : n.Right) (tree : Int) {x : Nat → St} (hx : x = Pl.rounds (n.ids tree) n.ends n.K n.K) : Pl.ring (edL n (onsTo n x n.lvs.length)) (onsTo n x n.lvs.length).length = false ∧ ∀ i, Pl.lab (edL n n.lvs) n.lvs.length i = Pl.lab (edL n (onsTo n x n.lvs.length)) (onsTo n x n.lvs.length).length i := by
  have hmem : ∀ j, j < (onsTo n x n.lvs.length).length → LN (onsTo n x n.lvs.length) j < n.L ∧ n.live (LN (onsTo n x n.lvs.length) j) = true ∧ Pl.isOn (n.ids tree) n.ls n.live n.K n.L (LN (onsTo n x n.lvs.length) j) := fun j hj => by
    have hm : LN (onsTo n x n.lvs.length) j ∈ onsTo n x n.lvs.length := by rw [Pl.LN_get hj]; exact List.getElem_mem hj
    obtain ⟨h3, h4, h2⟩ := onsTo_mem hm
    exact ⟨h3, h4, (roles_of R tree hx h3 h4).2.1 h2⟩
  have hrise : ∀ i j, i < j → j < (onsTo n x n.lvs.length).length → LN (onsTo n x n.lvs.length) i ≠ LN (onsTo n x n.lvs.length) j := fun i j hij hj => by
    have hp : (onsTo n x n.lvs.length).Pairwise (· < ·) := by
      unfold onsTo
      rw [List.take_length]
      apply List.Pairwise.filter
      unfold Pl.Net.lvs Pl.Net.lvsTo
      exact List.Pairwise.filter _ List.pairwise_lt_range
    rw [Pl.LN_get (by omega), Pl.LN_get hj]
    have := List.pairwise_iff_getElem.1 hp i j (by omega) hj hij
    omega
  refine ⟨Pl.no_ring R.links R.few hmem hrise, fun i => ?_⟩
  refine Pl.tree_joins R.links R.few (ids_apart R tree) (on := LN (onsTo n x n.lvs.length)) (al := LN n.lvs) hmem (fun j hj => Pl.Net.lvs_mem hj) (fun k hk hl ho => ?_) (fun k hk hl => Pl.Net.lvs_all hk hl) i
  have hb := (roles_of R tree hx hk hl).2.2 ho
  have hm : k ∈ onsTo n x n.lvs.length := by
    unfold onsTo
    rw [List.take_length]
    exact List.mem_filter.2 ⟨List.mem_filter.2 ⟨List.mem_range.2 hk, hl⟩, hb⟩
  obtain ⟨j, hj, e⟩ := List.getElem_of_mem hm
  exact ⟨j, hj, by rw [Pl.LN_get hj]; exact e⟩
set_option maxRecDepth 100000 in
set_option maxHeartbeats 40000000 in
theorem ptree_any (n : Net) (tree : Int) (w : World) (hat : n.at' w) (hwf : n.Wf) (ht : Tabs w) (hbt : 2 ≤ w.heap.size) :
    Calls Tryz.prog 7 #[n.val, .int .i64 tree] w fun e w' => e = .returned (.bool true) ∧ Below w.heap.size w w' := by
  obtain ⟨X, HX⟩ : ∃ X, Hid (X = w.alloc (.cells #[.slice n.bao n.K n.bcap, .slice n.lao n.L n.lcap] 25)) := ⟨_, rfl⟩
  have hXB : Below w.heap.size w X := by rw [HX.out]; exact below_alloc1 _ _
  have hXn : X.heap[w.heap.size]? = some (.cells #[.slice n.bao n.K n.bcap, .slice n.lao n.L n.lcap] 25 (0, 0)) := by rw [HX.out]; exact heap_alloc_last _ _
  have HC : Hid (∀ W, Below X.heap.size X W → (W.cell? ⟨w.heap.size, 0, none⟩ = some (.slice n.bao n.K n.bcap) ∧ W.cell? ⟨w.heap.size, 1, none⟩ = some (.slice n.lao n.L n.lcap)) ∧ n.at' W ∧ (Tabs W ∧ 2 ≤ W.heap.size) ∧ Below w.heap.size w W) := fun W hW => by
    have h1 : Below w.heap.size w W := hXB.trans (hW.mono hXB.size)
    exact ⟨two_cells2 (keep hXn hW), hat.below h1, ⟨ht.below h1 hbt, Nat.le_trans hbt h1.size⟩, h1⟩
  have HAL : Hid (Calls Tryz.prog 17 #[] X fun e w' => e = .returned (.bool true) ∧ Below X.heap.size X w') := palive_any X (ht.below hXB hbt) (Nat.le_trans hbt hXB.size)
  have HRI : Hid (n.wrong.1 = 0 → n.Right) := right_of hwf
  have HWF : Hid n.Wf := hwf
  clear hat ht hXn hXB hwf
  simp only [Pl.Net.val]
  go_enter Tryz.func7, Tryz.ntmps7
  go_wp2_with fail
  rw [← HX.out]
  refine HAL.out.mono ?_
  rintro e w1 ⟨rfl, hb1⟩
  obtain ⟨⟨d0, d1⟩, hat1, ⟨ht1, hg1⟩, _⟩ := HC.out w1 hb1
  have HP : Hid (Calls Tryz.prog 12 #[.agg #[.slice n.bao n.K n.bcap, .slice n.lao n.L n.lcap], .int .i64 tree] w1 fun e w' => ∃ a k c f1 f2, e = .returned (.tuple #[.slice a k c, .agg #[.int .i64 f1, .int .i64 f2]]) ∧ Hid (Below w1.heap.size w1 w' ∧ PlRes n tree w1.heap.size w' a k c f1 f2)) := pplan_res n tree w1 hat1 HWF.out ht1 hg1
  clear HAL hat1 ht1 hg1
  go_wp2_with fail
  refine HP.out.mono ?_
  rintro e w2 ⟨a, m, c, f1, f2, rfl, hA⟩
  obtain ⟨Y, HY⟩ : ∃ Y, Hid (Y = w2.alloc (.cells #[.int .i64 f1, .int .i64 f2] 28)) := ⟨_, rfl⟩
  have hYB : Below w2.heap.size w2 Y := by rw [HY.out]; exact below_alloc1 _ _
  have hXw2 : Below X.heap.size X w2 := hb1.trans (hA.out.1.mono hb1.size)
  have hXY : Below X.heap.size X Y := hXw2.trans (hYB.mono hXw2.size)
  have hres := hA.out.2.below hYB
  obtain ⟨⟨m0, m1⟩, _, _, hlow⟩ := HC.out Y hXY
  rw [HY.out] at m0 m1
  have HLO : Hid (Below w.heap.size w Y) := hlow
  clear HP hA d0 d1 hlow hYB hXw2 hb1
  rcases hres with ⟨e0, ⟨rfl, rfl, rfl⟩, e1⟩ | ⟨_, _, ⟨rfl, rfl, rfl⟩, rfl, rfl⟩ | ⟨e0, htr, P, ⟨rfl, rfl, rfl⟩, ⟨rfl, rfl⟩, hPA, _⟩
  · obtain ⟨rfl, rfl⟩ : f1 = n.wrong.1 ∧ f2 = n.wrong.2 := by rw [← e1]; exact ⟨rfl, rfl⟩
    have g0 : (n.wrong.1 == 0) = false := by simp [e0]
    clear m0 m1 e1
    go_wp2_with fail
    go_ret
    exact ⟨rfl, by rw [← HY.out]; exact HLO.out⟩
  · clear m0 m1
    go_wp2_with fail
    go_ret
    exact ⟨rfl, by rw [← HY.out]; exact HLO.out⟩
  · have R := HRI.out e0
    have HR : Hid n.Right := R
    have hK := R.few
    have hLf := R.fewL
    obtain ⟨x, HXX⟩ : ∃ x, Hid (x = Pl.rounds (n.ids tree) n.ends n.K n.K) := ⟨_, rfl⟩
    rw [← HXX.out] at hPA
    have HLV : Hid (Calls Tryz.prog 18 #[.agg #[.slice n.bao n.K n.bcap, .slice n.lao n.L n.lcap]] Y fun e w' => ∃ ao cap, e = .returned (.slice ao n.lvs.length cap) ∧ LRow w' ao n.lvs.length cap (fun j => n.ls (LN n.lvs j)) ∧ NilOk ao n.lvs.length cap ∧ (∀ ad, ao = some ad → Y.heap.size ≤ ad.block) ∧ Below Y.heap.size Y w') := rlive_any n Y (HC.out Y hXY).2.1 R
    have HS : Hid (∀ W, Below Y.heap.size Y W → PlacesAt W P n.K x n.ends n.K ∧ Below w.heap.size w W) := fun W hW => by
      obtain ⟨q1, q2, _, q3⟩ := HC.out W (hXY.trans (hW.mono hXY.size))
      exact ⟨hPA.below hW, q3⟩
    clear hPA HC HLO hXY R HRI HWF
    go_wp2_with fail
    rw [← HY.out]
    refine HLV.out.mono ?_
    rintro e w3 ⟨ao, cap, rfl, hLR, _, _, hb3⟩
    have HL3 : Hid (∀ W, Below w3.heap.size w3 W → LRow W ao n.lvs.length cap (fun j => n.ls (LN n.lvs j)) ∧ PlacesAt W P n.K x n.ends n.K ∧ Below w.heap.size w W) := fun W hW => by
      obtain ⟨q1, q2⟩ := HS.out W (hb3.trans (hW.mono hb3.size))
      exact ⟨CRow.below hLR hW, q1, q2⟩
    have hlcap := hLR.1
    have hlfew : n.lvs.length ≤ 40 := Nat.le_trans (n.lvsTo_few n.L) HR.out.fewL
    have H0 : Hid (TwoR w3 w3 n (tk n 0) (onsTo n x 0) (.slice none (tk n 0).length 0) (.slice none (onsTo n x 0).length 0)) := ⟨Below.refl _ _, ownsC_nil _ _ _ _ _, ownsC_nil _ _ _ _ _, fun q hq => by simp [Value.ownBlock] at hq⟩
    clear HLV hLR hb3 m0 m1 HS HY
    go_wp2_with fail
    go_loopw [7, 8, 30] (fun s7 s8 q wr => ∃ (j : Nat) (a7 a8 : Option Addr) (c7 c8 : Nat), j ≤ n.lvs.length ∧ q = .int .i64 j ∧ s7 = .slice a7 (tk n j).length c7 ∧ s8 = .slice a8 (onsTo n x j).length c8 ∧ Hid (TwoR w3 wr n (tk n j) (onsTo n x j) (.slice a7 (tk n j).length c7) (.slice a8 (onsTo n x j).length c8))) (fun _ _ q _ => n.lvs.length - (intOf q).toNat)
    case atStart => exact ⟨0, none, none, 0, 0, by omega, rfl, rfl, rfl, H0⟩
    case round =>
      obtain ⟨j, a7, a8, c7, c8, hj, rfl, rfl, rfl, hW⟩ := hrel
      clear H0
      by_cases hlt : j < n.lvs.length
      · obtain ⟨f1, _, _⟩ := HL3.out wr hW.out.low
        obtain ⟨lb, loff, rfl, _⟩ := CRow.some f1 (by omega)
        obtain ⟨c0, c1, c2, c3, c4, c5⟩ := LRow.cells f1 hlt
        obtain ⟨hkL, hlive⟩ := Pl.Net.lvs_mem hlt
        obtain ⟨o1, o2, o3, _, _, o6⟩ := HR.out.links.ok _ hkL
        obtain ⟨hroles, _⟩ := roles_of HR.out tree HXX.out hkL hlive
        have htk := take_next hlt
        have hon := onsTo_next n x hlt
        have hf1 := onsTo_few n x j
        obtain ⟨kk, HKK⟩ : ∃ kk, Hid (kk = LN n.lvs j) := ⟨_, rfl⟩
        rw [← HKK.out] at c0 c1 c2 c3 c4 c5 o1 o2 o3 hroles htk hon
        have hed : Pl.edge n.ls kk = ((n.ls kk).a.toNat, (n.ls kk).b.toNat) := rfl
        have hrA : rA n x kk = roleTo n.ends x (n.ls kk).a.toNat (n.ls kk).pa := rfl
        have hrB : rB n x kk = roleTo n.ends x (n.ls kk).b.toNat (n.ls kk).pb := rfl
        generalize n.ls kk = l at *
        obtain ⟨la, pa, lb', pb, co, up⟩ := l
        simp only at c0 c1 c2 c3 c4 c5 o1 o2 o3 hed hrA hrB
        obtain ⟨na, rfl⟩ : ∃ na : Nat, la = na := ⟨la.toNat, by omega⟩
        obtain ⟨nb, rfl⟩ : ∃ nb : Nat, lb' = nb := ⟨lb'.toNat, by omega⟩
        rw [Int.toNat_natCast] at hrA hrB
        rw [Int.toNat_natCast, Int.toNat_natCast] at hed
        have hna : na < n.K := by omega
        have hnb : nb < n.K := by omega
        obtain ⟨B, HB⟩ : ∃ B, Hid (B = wr.heap.size) := ⟨_, rfl⟩
        obtain ⟨Z, HZ⟩ : ∃ Z, Hid (Z = wr.alloc (.cells #[.int .i64 na, .int .i64 pa, .int .i64 nb, .int .i64 pb, .int .i64 co, .bool up] 46)) := ⟨_, rfl⟩
        have hZB : Below wr.heap.size wr Z := by rw [HZ.out]; exact below_alloc1 _ _
        have hZs : Z.heap.size = wr.heap.size + 1 := by rw [HZ.out]; simp
        have hZl : Z.heap[B]? = some (.cells #[.int .i64 na, .int .i64 pa, .int .i64 nb, .int .i64 pb, .int .i64 co, .bool up] 46 (0, 0)) := by rw [HZ.out, HB.out]; exact heap_alloc_last _ _
        have hT := hW.out.below hZB
        obtain ⟨b7, d7, w5, hrun5, hT5, hkeep5, hsz5⟩ := hT.more kk na nb hed (by have := tk_few n j; omega)
        rw [← htk] at hrun5 hT5
        have hBo : (Value.slice a7 (tk n j).length c7).ownBlock ≠ some B := fun e => by
          have := (ownsC_block hW.out.one B e).2
          rw [HB.out] at this
          omega
        have h5l : w5.heap[B]? = some (.cells #[.int .i64 na, .int .i64 pa, .int .i64 nb, .int .i64 pb, .int .i64 co, .bool up] 46 (0, 0)) := (hkeep5 B (by rw [HB.out, hZs]; omega) hBo).trans hZl
        have hpl := (HL3.out w5 hT5.low).2.1
        obtain ⟨va5, va6, hcA, hRA⟩ := place_roleT hpl hna (ends_few n na hLf)
        obtain ⟨vb5, vb6, hcB, hRB⟩ := place_roleT hpl hnb (ends_few n nb hLf)
        obtain ⟨ra, hra⟩ : ∃ ra, rA n x kk = ra := ⟨_, rfl⟩
        obtain ⟨rb, hrb⟩ : ∃ rb, rB n x kk = rb := ⟨_, rfl⟩
        have HCA : Hid (∀ W, Below w5.heap.size w5 W → Calls Tryz.prog 19 #[.agg #[.int .u64 (x na).v.root, .int .i64 (x na).v.cost, .int .u64 (x na).v.bridge, .int .i64 (x na).v.port, .int .i64 (x na).rp, va5, va6], .int .i64 pa] W fun e w' => e = .returned (.int .i64 ra) ∧ Hid (Below w5.heap.size w5 w')) := by rw [← hra, hrA]; exact hRA pa
        have HCB : Hid (∀ W, Below w5.heap.size w5 W → Calls Tryz.prog 19 #[.agg #[.int .u64 (x nb).v.root, .int .i64 (x nb).v.cost, .int .u64 (x nb).v.bridge, .int .i64 (x nb).v.port, .int .i64 (x nb).rp, vb5, vb6], .int .i64 pb] W fun e w' => e = .returned (.int .i64 rb) ∧ Hid (Below w5.heap.size w5 w')) := by rw [← hrb, hrB]; exact hRB pb
        rw [hra, hrb] at hroles
        have HRA : Hid (rA n x kk = ra) := hra
        have HRB : Hid (rB n x kk = rb) := hrb
        have HSW : Hid (∀ W, Below w5.heap.size w5 W → (W.cell? ⟨B, 0, none⟩ = some (.int .i64 na) ∧ W.cell? ⟨B, 1, none⟩ = some (.int .i64 pa) ∧ W.cell? ⟨B, 2, none⟩ = some (.int .i64 nb) ∧ W.cell? ⟨B, 3, none⟩ = some (.int .i64 pb)) ∧ (W.cell? ⟨P, na * 7, none⟩ = some (.int .u64 (x na).v.root) ∧ W.cell? ⟨P, na * 7 + 1, none⟩ = some (.int .i64 (x na).v.cost) ∧ W.cell? ⟨P, na * 7 + 2, none⟩ = some (.int .u64 (x na).v.bridge) ∧ W.cell? ⟨P, na * 7 + 3, none⟩ = some (.int .i64 (x na).v.port) ∧ W.cell? ⟨P, na * 7 + 4, none⟩ = some (.int .i64 (x na).rp) ∧ W.cell? ⟨P, na * 7 + 5, none⟩ = some va5 ∧ W.cell? ⟨P, na * 7 + 6, none⟩ = some va6) ∧ (W.cell? ⟨P, nb * 7, none⟩ = some (.int .u64 (x nb).v.root) ∧ W.cell? ⟨P, nb * 7 + 1, none⟩ = some (.int .i64 (x nb).v.cost) ∧ W.cell? ⟨P, nb * 7 + 2, none⟩ = some (.int .u64 (x nb).v.bridge) ∧ W.cell? ⟨P, nb * 7 + 3, none⟩ = some (.int .i64 (x nb).v.port) ∧ W.cell? ⟨P, nb * 7 + 4, none⟩ = some (.int .i64 (x nb).rp) ∧ W.cell? ⟨P, nb * 7 + 5, none⟩ = some vb5 ∧ W.cell? ⟨P, nb * 7 + 6, none⟩ = some vb6)) := fun W hWW => by
          obtain ⟨q0, q1, q2, q3, _, _⟩ := lk_cells (keep h5l hWW)
          have hPZ := block_lt_of_cell hcA.1
          have up : ∀ (s : Nat) v, w5.cell? ⟨P, s, none⟩ = some v → W.cell? ⟨P, s, none⟩ = some v := fun s v h => (hWW.cell (by exact hPZ)).trans h
          exact ⟨⟨q0, q1, q2, q3⟩, ⟨up _ _ hcA.1, up _ _ hcA.2.1, up _ _ hcA.2.2.1, up _ _ hcA.2.2.2.1, up _ _ hcA.2.2.2.2.1, up _ _ hcA.2.2.2.2.2.1, up _ _ hcA.2.2.2.2.2.2⟩, ⟨up _ _ hcB.1, up _ _ hcB.2.1, up _ _ hcB.2.2.1, up _ _ hcB.2.2.2.1, up _ _ hcB.2.2.2.2.1, up _ _ hcB.2.2.2.2.2.1, up _ _ hcB.2.2.2.2.2.2⟩⟩
        have HMORE : Hid (onB n x kk = true → ∀ W, Below w5.heap.size w5 W → ∃ a9 c9 w9, (Builtin.append_ #[56, 56] 56 #[.slice a8 (onsTo n x j).length c8, .slice (some ⟨W.heap.size, 0, none⟩) 1 1]).run Tryz.prog (W.alloc (.cells #[.int .i64 (na : Int), .int .i64 (nb : Int)] 57)) = .ok (.slice a9 (onsTo n x (j + 1)).length c9) w9 ∧ Hid (TwoR w3 w9 n (tk n (j + 1)) (onsTo n x (j + 1)) (.slice b7 (tk n (j + 1)).length d7) (.slice a9 (onsTo n x (j + 1)).length c9))) := fun ho W hWW => by
          obtain ⟨a9, c9, w9, r, h1, _, _⟩ := (hT5.below hWW).swap.more kk na nb hed (by omega)
          rw [ho, if_pos rfl] at hon
          rw [← hon] at r h1
          exact ⟨a9, c9, w9, r, h1.swap⟩
        have HSTAY : Hid (onB n x kk = false → ∀ W, Below w5.heap.size w5 W → Hid (TwoR w3 W n (tk n (j + 1)) (onsTo n x (j + 1)) (.slice b7 (tk n (j + 1)).length d7) (.slice a8 (onsTo n x (j + 1)).length c8))) := fun ho W hWW => by
          rw [ho, if_neg (by decide), List.append_nil] at hon
          rw [hon]
          exact hT5.below hWW
        have HLEN : Hid (onB n x kk = false → (onsTo n x (j + 1)).length = (onsTo n x j).length) := fun ho => by
          rw [ho, if_neg (by decide), List.append_nil] at hon
          rw [hon]
        have HR5 : Hid _ := hrun5
        rw [hZs] at HR5
        have HB0 : Hid (Below w5.heap.size w5 w5) := Below.refl _ _
        obtain ⟨q0, q1, q2, q3, q4, q5⟩ := lk_cells hZl
        rw [HZ.out, HB.out] at q0 q2
        rw [HZ.out] at HR5
        have i0 : (0 : Int) ≤ (j : Int) := by omega
        have i1 : (j : Int) < (n.lvs.length : Int) := by omega
        have ia0 : (0 : Int) ≤ (na : Int) := by omega
        have ia1 : (na : Int) < (n.K : Int) := by omega
        have ib0 : (0 : Int) ≤ (nb : Int) := by omega
        have ib1 : (nb : Int) < (n.K : Int) := by omega
        clear hon htk hW f1 hkL hlive o1 o2 hpl hcA hcB hRA hRB hra hrb hrA hrB hZl hZB HL3 HR HXX HX hT hrun5 hT5 hkeep5 hsz5 hBo h5l q1 q3 q4 q5 hZs
        generalize (x na).v.root = xa0 at *
        generalize (x na).v.cost = xa1 at *
        generalize (x na).v.bridge = xa2 at *
        generalize (x na).v.port = xa3 at *
        generalize (x na).rp = xa4 at *
        generalize (x nb).v.root = xb0 at *
        generalize (x nb).v.cost = xb1 at *
        generalize (x nb).v.bridge = xb2 at *
        generalize (x nb).v.port = xb3 at *
        generalize (x nb).rp = xb4 at *
        go_wp2_with (at_builtin; refine wpList_append_run rfl (.tmp 34) (.tmp 40) 56 rfl _ _ _ rfl rfl HR5.out ?_)
        rw [← HB.out]
        clear HZ HB c0 c1 c2 c3 c4 c5 q0 q2 HR5
        go_cut [7, 8, 10, 61] (fun s7 s8 s10 s61 wx => s7 = .slice b7 (tk n (j + 1)).length d7 ∧ s8 = .slice a8 (onsTo n x j).length c8 ∧ s10 = .pointer (some ⟨B, 0, none⟩) ∧ s61 = .bool (onB n x kk) ∧ Hid (Below w5.heap.size w5 wx))
        case first =>
          have s0 := HSW.out w5 HB0.out
          rcases hroles with ⟨rfl, rfl | rfl⟩ | ⟨rfl, rfl | rfl⟩
          · as_aux_lemma =>
              have HON : Hid (onB n x kk = true) := by show _ = _; unfold onB; rw [HRA.out, HRB.out]; decide
              clear HMORE HSTAY HRA HRB HLEN
              have hfa : decide ((2 : Int) = 1 ∨ (2 : Int) = 2) = true := by decide
              have hfb : decide ((1 : Int) = 1 ∨ (1 : Int) = 2) = true := by decide
              have HFA : Hid (∀ W, Calls Tryz.prog 20 #[.int .i64 2] W fun e w' => e = .returned (.bool true) ∧ w' = W) := fun W => by rw [← hfa]; exact pforw_any _ W
              have HFB : Hid (∀ W, Calls Tryz.prog 20 #[.int .i64 1] W fun e w' => e = .returned (.bool true) ∧ w' = W) := fun W => by rw [← hfb]; exact pforw_any _ W
              clear hfa hfb
              go_region_held3 (fun W => (W.cell? ⟨B, 0, none⟩ = some (.int .i64 na) ∧ W.cell? ⟨B, 1, none⟩ = some (.int .i64 pa) ∧ W.cell? ⟨B, 2, none⟩ = some (.int .i64 nb) ∧ W.cell? ⟨B, 3, none⟩ = some (.int .i64 pb)) ∧ (W.cell? ⟨P, na * 7, none⟩ = some (.int .u64 xa0) ∧ W.cell? ⟨P, na * 7 + 1, none⟩ = some (.int .i64 xa1) ∧ W.cell? ⟨P, na * 7 + 2, none⟩ = some (.int .u64 xa2) ∧ W.cell? ⟨P, na * 7 + 3, none⟩ = some (.int .i64 xa3) ∧ W.cell? ⟨P, na * 7 + 4, none⟩ = some (.int .i64 xa4) ∧ W.cell? ⟨P, na * 7 + 5, none⟩ = some va5 ∧ W.cell? ⟨P, na * 7 + 6, none⟩ = some va6) ∧ (W.cell? ⟨P, nb * 7, none⟩ = some (.int .u64 xb0) ∧ W.cell? ⟨P, nb * 7 + 1, none⟩ = some (.int .i64 xb1) ∧ W.cell? ⟨P, nb * 7 + 2, none⟩ = some (.int .u64 xb2) ∧ W.cell? ⟨P, nb * 7 + 3, none⟩ = some (.int .i64 xb3) ∧ W.cell? ⟨P, nb * 7 + 4, none⟩ = some (.int .i64 xb4) ∧ W.cell? ⟨P, nb * 7 + 5, none⟩ = some vb5 ∧ W.cell? ⟨P, nb * 7 + 6, none⟩ = some vb6))
                (first | (exact HSW.out _ (Hid.out (by assumption))) | (exact HSW.out _ (Below.drew (Hid.out (by assumption)))))
                (first | (go_at_call 19; (with_reducible refine (HCA.out _ (Below.drew HB0.out)).mono ?_); rintro e w6 ⟨rfl, HB6⟩) | (go_at_call 20; (with_reducible refine (HFA.out _).mono ?_); rintro e w7 ⟨rfl, rfl⟩) | (go_at_call 19; (with_reducible refine (HCB.out _ HB6.out).mono ?_); rintro e w8 ⟨rfl, HB8⟩) | (go_at_call 20; (with_reducible refine (HFB.out _).mono ?_); rintro e w9 ⟨rfl, rfl⟩))
              clear HCA HCB HFA HFB s0 HSW
              go_wp2_with fail
              go_meet
              exact ⟨rfl, rfl, rfl, by rw [HON.out], HB8⟩
          · as_aux_lemma =>
              have HON : Hid (onB n x kk = false) := by show _ = _; unfold onB; rw [HRA.out, HRB.out]; decide
              clear HMORE HSTAY HRA HRB HLEN
              have hfa : decide ((2 : Int) = 1 ∨ (2 : Int) = 2) = true := by decide
              have hfb : decide ((3 : Int) = 1 ∨ (3 : Int) = 2) = false := by decide
              have HFA : Hid (∀ W, Calls Tryz.prog 20 #[.int .i64 2] W fun e w' => e = .returned (.bool true) ∧ w' = W) := fun W => by rw [← hfa]; exact pforw_any _ W
              have HFB : Hid (∀ W, Calls Tryz.prog 20 #[.int .i64 3] W fun e w' => e = .returned (.bool false) ∧ w' = W) := fun W => by rw [← hfb]; exact pforw_any _ W
              clear hfa hfb
              go_region_held3 (fun W => (W.cell? ⟨B, 0, none⟩ = some (.int .i64 na) ∧ W.cell? ⟨B, 1, none⟩ = some (.int .i64 pa) ∧ W.cell? ⟨B, 2, none⟩ = some (.int .i64 nb) ∧ W.cell? ⟨B, 3, none⟩ = some (.int .i64 pb)) ∧ (W.cell? ⟨P, na * 7, none⟩ = some (.int .u64 xa0) ∧ W.cell? ⟨P, na * 7 + 1, none⟩ = some (.int .i64 xa1) ∧ W.cell? ⟨P, na * 7 + 2, none⟩ = some (.int .u64 xa2) ∧ W.cell? ⟨P, na * 7 + 3, none⟩ = some (.int .i64 xa3) ∧ W.cell? ⟨P, na * 7 + 4, none⟩ = some (.int .i64 xa4) ∧ W.cell? ⟨P, na * 7 + 5, none⟩ = some va5 ∧ W.cell? ⟨P, na * 7 + 6, none⟩ = some va6) ∧ (W.cell? ⟨P, nb * 7, none⟩ = some (.int .u64 xb0) ∧ W.cell? ⟨P, nb * 7 + 1, none⟩ = some (.int .i64 xb1) ∧ W.cell? ⟨P, nb * 7 + 2, none⟩ = some (.int .u64 xb2) ∧ W.cell? ⟨P, nb * 7 + 3, none⟩ = some (.int .i64 xb3) ∧ W.cell? ⟨P, nb * 7 + 4, none⟩ = some (.int .i64 xb4) ∧ W.cell? ⟨P, nb * 7 + 5, none⟩ = some vb5 ∧ W.cell? ⟨P, nb * 7 + 6, none⟩ = some vb6))
                (first | (exact HSW.out _ (Hid.out (by assumption))) | (exact HSW.out _ (Below.drew (Hid.out (by assumption)))))
                (first | (go_at_call 19; (with_reducible refine (HCA.out _ (Below.drew HB0.out)).mono ?_); rintro e w6 ⟨rfl, HB6⟩) | (go_at_call 20; (with_reducible refine (HFA.out _).mono ?_); rintro e w7 ⟨rfl, rfl⟩) | (go_at_call 19; (with_reducible refine (HCB.out _ HB6.out).mono ?_); rintro e w8 ⟨rfl, HB8⟩) | (go_at_call 20; (with_reducible refine (HFB.out _).mono ?_); rintro e w9 ⟨rfl, rfl⟩))
              clear HCA HCB HFA HFB s0 HSW
              go_wp2_with fail
              go_meet
              exact ⟨rfl, rfl, rfl, by rw [HON.out], HB8⟩
          · as_aux_lemma =>
              have HON : Hid (onB n x kk = true) := by show _ = _; unfold onB; rw [HRA.out, HRB.out]; decide
              clear HMORE HSTAY HRA HRB HLEN
              have hfa : decide ((1 : Int) = 1 ∨ (1 : Int) = 2) = true := by decide
              have hfb : decide ((2 : Int) = 1 ∨ (2 : Int) = 2) = true := by decide
              have HFA : Hid (∀ W, Calls Tryz.prog 20 #[.int .i64 1] W fun e w' => e = .returned (.bool true) ∧ w' = W) := fun W => by rw [← hfa]; exact pforw_any _ W
              have HFB : Hid (∀ W, Calls Tryz.prog 20 #[.int .i64 2] W fun e w' => e = .returned (.bool true) ∧ w' = W) := fun W => by rw [← hfb]; exact pforw_any _ W
              clear hfa hfb
              go_region_held3 (fun W => (W.cell? ⟨B, 0, none⟩ = some (.int .i64 na) ∧ W.cell? ⟨B, 1, none⟩ = some (.int .i64 pa) ∧ W.cell? ⟨B, 2, none⟩ = some (.int .i64 nb) ∧ W.cell? ⟨B, 3, none⟩ = some (.int .i64 pb)) ∧ (W.cell? ⟨P, na * 7, none⟩ = some (.int .u64 xa0) ∧ W.cell? ⟨P, na * 7 + 1, none⟩ = some (.int .i64 xa1) ∧ W.cell? ⟨P, na * 7 + 2, none⟩ = some (.int .u64 xa2) ∧ W.cell? ⟨P, na * 7 + 3, none⟩ = some (.int .i64 xa3) ∧ W.cell? ⟨P, na * 7 + 4, none⟩ = some (.int .i64 xa4) ∧ W.cell? ⟨P, na * 7 + 5, none⟩ = some va5 ∧ W.cell? ⟨P, na * 7 + 6, none⟩ = some va6) ∧ (W.cell? ⟨P, nb * 7, none⟩ = some (.int .u64 xb0) ∧ W.cell? ⟨P, nb * 7 + 1, none⟩ = some (.int .i64 xb1) ∧ W.cell? ⟨P, nb * 7 + 2, none⟩ = some (.int .u64 xb2) ∧ W.cell? ⟨P, nb * 7 + 3, none⟩ = some (.int .i64 xb3) ∧ W.cell? ⟨P, nb * 7 + 4, none⟩ = some (.int .i64 xb4) ∧ W.cell? ⟨P, nb * 7 + 5, none⟩ = some vb5 ∧ W.cell? ⟨P, nb * 7 + 6, none⟩ = some vb6))
                (first | (exact HSW.out _ (Hid.out (by assumption))) | (exact HSW.out _ (Below.drew (Hid.out (by assumption)))))
                (first | (go_at_call 19; (with_reducible refine (HCA.out _ (Below.drew HB0.out)).mono ?_); rintro e w6 ⟨rfl, HB6⟩) | (go_at_call 20; (with_reducible refine (HFA.out _).mono ?_); rintro e w7 ⟨rfl, rfl⟩) | (go_at_call 19; (with_reducible refine (HCB.out _ HB6.out).mono ?_); rintro e w8 ⟨rfl, HB8⟩) | (go_at_call 20; (with_reducible refine (HFB.out _).mono ?_); rintro e w9 ⟨rfl, rfl⟩))
              clear HCA HCB HFA HFB s0 HSW
              go_wp2_with fail
              go_meet
              exact ⟨rfl, rfl, rfl, by rw [HON.out], HB8⟩
          · as_aux_lemma =>
              have HON : Hid (onB n x kk = false) := by show _ = _; unfold onB; rw [HRA.out, HRB.out]; decide
              clear HMORE HSTAY HRA HRB HLEN
              have hfa : decide ((3 : Int) = 1 ∨ (3 : Int) = 2) = false := by decide
              have HFA : Hid (∀ W, Calls Tryz.prog 20 #[.int .i64 3] W fun e w' => e = .returned (.bool false) ∧ w' = W) := fun W => by rw [← hfa]; exact pforw_any _ W
              clear hfa
              refine wp_region_held_drew (S := fun W => (W.cell? ⟨B, 0, none⟩ = some (.int .i64 na) ∧ W.cell? ⟨B, 1, none⟩ = some (.int .i64 pa) ∧ W.cell? ⟨B, 2, none⟩ = some (.int .i64 nb) ∧ W.cell? ⟨B, 3, none⟩ = some (.int .i64 pb)) ∧ (W.cell? ⟨P, na * 7, none⟩ = some (.int .u64 xa0) ∧ W.cell? ⟨P, na * 7 + 1, none⟩ = some (.int .i64 xa1) ∧ W.cell? ⟨P, na * 7 + 2, none⟩ = some (.int .u64 xa2) ∧ W.cell? ⟨P, na * 7 + 3, none⟩ = some (.int .i64 xa3) ∧ W.cell? ⟨P, na * 7 + 4, none⟩ = some (.int .i64 xa4) ∧ W.cell? ⟨P, na * 7 + 5, none⟩ = some va5 ∧ W.cell? ⟨P, na * 7 + 6, none⟩ = some va6) ∧ (W.cell? ⟨P, nb * 7, none⟩ = some (.int .u64 xb0) ∧ W.cell? ⟨P, nb * 7 + 1, none⟩ = some (.int .i64 xb1) ∧ W.cell? ⟨P, nb * 7 + 2, none⟩ = some (.int .u64 xb2) ∧ W.cell? ⟨P, nb * 7 + 3, none⟩ = some (.int .i64 xb3) ∧ W.cell? ⟨P, nb * 7 + 4, none⟩ = some (.int .i64 xb4) ∧ W.cell? ⟨P, nb * 7 + 5, none⟩ = some vb5 ∧ W.cell? ⟨P, nb * 7 + 6, none⟩ = some vb6)) (by kernel_rfl) (HSW.out _ (Below.drew HB0.out)) (fun hHeld => ?_)
              refine held_take (i := 0) (v := ?_) (some 42) rfl rfl (by kernel_rfl) (by kernel_rfl) (by kernel_rfl) (fun _ _ _ h => h) (by rfl) ?_ hHeld ?_
              rotate_left 1
              · (intro wq hSw; go_simp; try with_reducible rfl)
              (try simp only [Act.put, List.setIfInBounds_toArray, List.set_cons_zero, List.set_cons_succ])
              refine held_take (i := 1) (v := ?_) (some 43) rfl rfl (by kernel_rfl) (by kernel_rfl) (by kernel_rfl) (fun _ _ _ h => h) (by rfl) ?_ hHeld ?_
              rotate_left 1
              · (intro wq hSw; go_simp; try with_reducible rfl)
              (try simp only [Act.put, List.setIfInBounds_toArray, List.set_cons_zero, List.set_cons_succ])
              refine held_take (i := 2) (v := ?_) (some 44) rfl rfl (by kernel_rfl) (by kernel_rfl) (by kernel_rfl) (fun _ _ _ h => h) (by rfl) ?_ hHeld ?_
              rotate_left 1
              · (intro wq hSw; go_simp; try with_reducible rfl)
              (try simp only [Act.put, List.setIfInBounds_toArray, List.set_cons_zero, List.set_cons_succ])
              refine held_take (i := 3) (v := ?_) (some 45) rfl rfl (by kernel_rfl) (by kernel_rfl) (by kernel_rfl) (fun _ _ _ h => h) (by rfl) ?_ hHeld ?_
              rotate_left 1
              · (intro wq hSw; go_simp; try with_reducible rfl)
              (try simp only [Act.put, List.setIfInBounds_toArray, List.set_cons_zero, List.set_cons_succ])
              refine held_take (i := 4) (v := ?_) (some 46) rfl rfl (by kernel_rfl) (by kernel_rfl) (by kernel_rfl) (fun _ _ _ h => h) (by rfl) ?_ hHeld ?_
              rotate_left 1
              · (intro wq hSw; go_simp; try with_reducible rfl)
              (try simp only [Act.put, List.setIfInBounds_toArray, List.set_cons_zero, List.set_cons_succ])
              refine held_take (i := 5) (v := ?_) (some 47) rfl rfl (by kernel_rfl) (by kernel_rfl) (by kernel_rfl) (fun _ _ _ h => h) (by rfl) ?_ hHeld ?_
              rotate_left 1
              · (intro wq hSw; go_simp; try with_reducible rfl)
              (try simp only [Act.put, List.setIfInBounds_toArray, List.set_cons_zero, List.set_cons_succ])
              refine held_take (i := 6) (v := ?_) (some 48) rfl rfl (by kernel_rfl) (by kernel_rfl) (by kernel_rfl) (fun _ _ _ h => h) (by rfl) ?_ hHeld ?_
              rotate_left 1
              · (intro wq hSw; go_simp; try with_reducible rfl)
              (try simp only [Act.put, List.setIfInBounds_toArray, List.set_cons_zero, List.set_cons_succ])
              refine wpAnyH_ready (rs := [7]) (by kernel_rfl) (by simp) ?_
              refine AllReadyH.cons rfl (fun K hK => ?_) AllReadyH.nil
              go_simp
              refine (HCA.out _ (Below.drew HB0.out)).mono ?_
              rintro e w6 ⟨rfl, HB6⟩
              refine hK.out _ _ (HSW.out _ HB6.out) (fun hHeld => ?_)
              clear hK K
              (try simp only [Act.put, List.setIfInBounds_toArray, List.set_cons_zero, List.set_cons_succ])
              refine wpAnyH_ready (rs := [8]) (by kernel_rfl) (by simp) ?_
              refine AllReadyH.cons rfl (fun K hK => ?_) AllReadyH.nil
              go_simp
              refine (HFA.out _).mono ?_
              rintro e w7 ⟨rfl, rfl⟩
              refine hK.out _ _ (HSW.out _ HB6.out) (fun hHeld => ?_)
              clear hK K
              (try simp only [Act.put, List.setIfInBounds_toArray, List.set_cons_zero, List.set_cons_succ])
              refine held_take (i := 9) (v := ?_) (some 51) rfl rfl (by kernel_rfl) (by kernel_rfl) (by kernel_rfl) (fun _ _ _ h => h) (by rfl) ?_ hHeld ?_
              rotate_left 1
              · (intro wq hSw; go_simp; try with_reducible rfl)
              (try simp only [Act.put, List.setIfInBounds_toArray, List.set_cons_zero, List.set_cons_succ])
              refine held_skip (i := 10) (some 52) rfl rfl (by kernel_rfl) (by kernel_rfl) (by kernel_rfl) (fun _ _ _ h => h) (by rfl) hHeld ?_
              (try simp only [Act.put, List.setIfInBounds_toArray, List.set_cons_zero, List.set_cons_succ])
              refine held_skip (i := 11) (some 53) rfl rfl (by kernel_rfl) (by kernel_rfl) (by kernel_rfl) (fun _ _ _ h => h) (by rfl) hHeld ?_
              (try simp only [Act.put, List.setIfInBounds_toArray, List.set_cons_zero, List.set_cons_succ])
              refine held_skip (i := 12) (some 54) rfl rfl (by kernel_rfl) (by kernel_rfl) (by kernel_rfl) (fun _ _ _ h => h) (by rfl) hHeld ?_
              (try simp only [Act.put, List.setIfInBounds_toArray, List.set_cons_zero, List.set_cons_succ])
              refine held_skip (i := 13) (some 55) rfl rfl (by kernel_rfl) (by kernel_rfl) (by kernel_rfl) (fun _ _ _ h => h) (by rfl) hHeld ?_
              (try simp only [Act.put, List.setIfInBounds_toArray, List.set_cons_zero, List.set_cons_succ])
              refine held_skip (i := 14) (some 56) rfl rfl (by kernel_rfl) (by kernel_rfl) (by kernel_rfl) (fun _ _ _ h => h) (by rfl) hHeld ?_
              (try simp only [Act.put, List.setIfInBounds_toArray, List.set_cons_zero, List.set_cons_succ])
              refine held_skip (i := 15) (some 57) rfl rfl (by kernel_rfl) (by kernel_rfl) (by kernel_rfl) (fun _ _ _ h => h) (by rfl) hHeld ?_
              (try simp only [Act.put, List.setIfInBounds_toArray, List.set_cons_zero, List.set_cons_succ])
              refine held_skip (i := 16) (some 58) rfl rfl (by kernel_rfl) (by kernel_rfl) (by kernel_rfl) (fun _ _ _ h => h) (by rfl) hHeld ?_
              (try simp only [Act.put, List.setIfInBounds_toArray, List.set_cons_zero, List.set_cons_succ])
              refine held_skip (i := 17) (some 59) rfl rfl (by kernel_rfl) (by kernel_rfl) (by kernel_rfl) (fun _ _ _ h => h) (by rfl) hHeld ?_
              (try simp only [Act.put, List.setIfInBounds_toArray, List.set_cons_zero, List.set_cons_succ])
              refine held_skip (i := 18) (some 60) rfl rfl (by kernel_rfl) (by kernel_rfl) (by kernel_rfl) (fun _ _ _ h => h) (by rfl) hHeld ?_
              (try simp only [Act.put, List.setIfInBounds_toArray, List.set_cons_zero, List.set_cons_succ])
              refine held_take (i := 19) (v := ?_) (some 61) rfl rfl (by kernel_rfl) (by kernel_rfl) (by kernel_rfl) (fun _ _ _ h => h) (by rfl) ?_ hHeld ?_
              rotate_left 1
              · (intro wq hSw; go_simp; try with_reducible rfl)
              (try simp only [Act.put, List.setIfInBounds_toArray, List.set_cons_zero, List.set_cons_succ])
              refine wpAnyH_done (by kernel_rfl) ?_ _
              clear HSW HCA HCB HFA s0 hHeld
              go_wp2_with fail
              go_meet
              exact ⟨rfl, rfl, rfl, by rw [HON.out], HB6⟩
        case rest =>
        obtain ⟨rfl, rfl, rfl, rfl, HB9⟩ := hcut
        obtain ⟨⟨y0, y1, y2, y3⟩, _⟩ := HSW.out wc HB9.out
        clear HCA HCB HRA HRB hroles HSW
        cases hon : onB n x kk with
        | true =>
          obtain ⟨a9, c9, w9, hrun, HN⟩ := HMORE.out hon wc HB9.out
          have HR9 : Hid _ := hrun
          clear hrun HMORE HSTAY HLEN hon
          go_wp2_with (at_builtin; refine wpList_append_run rfl (.tmp 62) (.tmp 68) 56 rfl _ _ _ rfl rfl HR9.out ?_)
          exact ⟨⟨j + 1, b7, a9, d7, c9, by omega, by go_num, rfl, rfl, HN⟩, by simp [intOf]; omega⟩
        | false =>
          have HN := HSTAY.out hon wc HB9.out
          have HLE : Hid ((onsTo n x (j + 1)).length = (onsTo n x j).length) := HLEN.out hon
          clear HMORE HSTAY HLEN hon
          go_wp2_with fail
          exact ⟨⟨j + 1, b7, a8, d7, c8, by omega, by go_num, rfl, by rw [HLE.out], HN⟩, by simp [intOf]; omega⟩
      · have hnk : ¬ (j : Int) < (n.lvs.length : Int) := by omega
        have HJL : Hid (j = n.lvs.length) := by show _ = _; omega
        obtain ⟨hring, hlab⟩ := tree_plain HR.out tree HXX.out
        have hes : ∀ (l : List Nat), (∀ k, k ∈ l → k < n.L) → ∀ q, q < l.length → (edL n l q).1 < n.K ∧ (edL n l q).2 < n.K := fun l hl q hq => by
          have hm : LN l q < n.L := hl _ (by rw [Pl.LN_get hq]; exact List.getElem_mem hq)
          obtain ⟨o1, o2, _⟩ := HR.out.links.ok _ hm
          unfold edL Pl.edge
          simp only
          omega
        have hin1 : ∀ k, k ∈ tk n j → k < n.L := fun k hk => List.mem_range.1 (List.mem_filter.1 (List.mem_of_mem_take hk)).1
        have hin2 : ∀ k, k ∈ onsTo n x j → k < n.L := fun k hk => hin1 k (List.mem_filter.1 hk).1
        have hl1 : (tk n j).length ≤ 1000 := by have := tk_few n j; omega
        have hl2 : (onsTo n x j).length ≤ 1000 := by have := onsTo_few n x j; omega
        obtain ⟨b7, d7, e7, r7, _, _⟩ := owns_c (by omega) hW.out.one
        obtain ⟨b8, d8, e8, r8, _, _⟩ := owns_c (by omega) hW.out.two
        injection e7 with e7a _ e7b
        injection e8 with e8a _ e8b
        subst e7a
        subst e7b
        subst e8a
        subst e8b
        have hlow := (HL3.out wr hW.out.low).2.2
        have HJ1 : Hid (Calls Tryz.prog 21 #[.int .i64 n.K, .slice a7 (tk n j).length c7] wr fun e w' => ∃ G, e = .returned (.tuple #[.slice (some ⟨G, 0, none⟩) n.K n.K, .bool (Pl.ring (edL n (tk n j)) (tk n j).length)]) ∧ LabAt w' G n.K (Pl.lab (edL n (tk n j)) (tk n j).length) ∧ wr.heap.size ≤ G ∧ Below wr.heap.size wr w') := pjoined_any n.K (tk n j).length c7 a7 (edL n (tk n j)) wr hK hl1 r7 (hes _ hin1)
        have HJ2 : Hid (∀ W, Below wr.heap.size wr W → Calls Tryz.prog 21 #[.int .i64 n.K, .slice a8 (onsTo n x j).length c8] W fun e w' => ∃ G, e = .returned (.tuple #[.slice (some ⟨G, 0, none⟩) n.K n.K, .bool (Pl.ring (edL n (onsTo n x j)) (onsTo n x j).length)]) ∧ LabAt w' G n.K (Pl.lab (edL n (onsTo n x j)) (onsTo n x j).length) ∧ W.heap.size ≤ G ∧ Below W.heap.size W w') := fun W hWW => pjoined_any n.K (onsTo n x j).length c8 a8 (edL n (onsTo n x j)) W hK hl2 (CRow.below r8 hWW) (hes _ hin2)
        have HEQ : Hid (∀ i, Pl.lab (edL n (tk n j)) (tk n j).length i = Pl.lab (edL n (onsTo n x j)) (onsTo n x j).length i) := fun i => by rw [HJL.out]; unfold tk; rw [List.take_length]; exact hlab i
        have HRG : Hid (Pl.ring (edL n (onsTo n x j)) (onsTo n x j).length = false) := by show _ = _; rw [HJL.out]; exact hring
        have HLW : Hid (Below w.heap.size w wr) := hlow
        clear hW hes hin1 hin2 r7 r8 hlow HL3 HR hring hlab
        go_wp2_with fail
        refine HJ1.out.mono ?_
        rintro e w4 ⟨G1, rfl, hLab1, _, hb4⟩
        have hj2 := HJ2.out w4 hb4
        clear HJ1 HJ2
        go_wp2_with fail
        refine hj2.mono ?_
        rintro e w5 ⟨G2, rfl, hLab2, _, hb5⟩
        have HLA : Hid (LabAt w5 G1 n.K (Pl.lab (edL n (tk n j)) (tk n j).length) ∧ LabAt w5 G2 n.K (Pl.lab (edL n (tk n j)) (tk n j).length)) := ⟨keep hLab1 hb5, hLab2.congr (fun i _ => (HEQ.out i).symm)⟩
        have HLW5 : Hid (Below w.heap.size w w5) := (HLW.out.trans (hb4.mono HLW.out.size)).trans (hb5.mono (Nat.le_trans HLW.out.size hb4.size))
        rw [HRG.out]
        clear hLab1 hLab2 hb4 hb5 hj2 HEQ HLW
        generalize Pl.lab (edL n (tk n j)) (tk n j).length = F at *
        go_wp2_with fail
        go_loopw [87] (fun q wr => ∃ i m : Nat, i ≤ n.K ∧ q = .int .i64 i ∧ wr = w5.drewN m) (fun q _ => n.K - (intOf q).toNat)
        case atStart => exact ⟨0, 0, by omega, rfl, rfl⟩
        case round =>
          obtain ⟨i, m, hi, rfl, HWE⟩ := hrel
          by_cases hik : i < n.K
          · have y0 : wr.cell? ⟨G1, i, none⟩ = some (.int .i64 ((F i : Nat) : Int)) := by rw [HWE]; exact HLA.out.1.cell hik
            have y1 : wr.cell? ⟨G2, i, none⟩ = some (.int .i64 ((F i : Nat) : Int)) := by rw [HWE]; exact HLA.out.2.cell hik
            have HE : Hid (wr = w5.drewN m) := HWE
            have i0 : (0 : Int) ≤ (i : Int) := by omega
            have i1 : (i : Int) < (n.K : Int) := by omega
            clear HWE HLA HX HXX
            generalize F i = z at *
            go_wp2_with fail
            go_quiet (fail)
            go_wp2_with fail
            exact ⟨⟨i + 1, _, by omega, by go_num, by rw [HE.out, World.drewN_drewN]⟩, by simp [intOf]; omega⟩
          · have hnk2 : ¬ (i : Int) < (n.K : Int) := by omega
            have HE : Hid (Below w.heap.size w wr) := by rw [HWE]; exact below_drewN HLW5.out m
            clear HWE HLA HLW5
            go_wp2_with fail
            go_ret
            exact ⟨rfl, HE.out⟩
end Go.Proofs.YtcbpafpaimpfnaaGreatDoor

namespace Go.Proofs.YtcbpafpaimpfnaaGreatDoor.planTree
open Go.ChangeShapes Go.WideShapes Go.ChangeAt Go.RowKit

set_option maxRecDepth 100000 in
theorem contract (H : Type) (enc : TypeId × Value → H) (W : World) (base : Nat) (args : Array Value) (ds gs : List (DataW H)) (before : List MemPlace)
    (hval : ∀ (j : Nat) t v, Tryz.f7.params[j]? = some t → args[j]? = some v → Value.okWide Tryz.prog W .any base t v)
    (hW : DataW.Whole enc Tryz.prog Tryz.f7.params.toList Rows.planTreeSpec.vars false W args.toList ds gs before)
    (hsz : (DataW.weightsEach Tryz.prog (Tryz.f7.params.toList ++ (OpenSpec.ofChange Rows.planTreeSpec).bare.plain.varTypes Tryz.prog) (ds ++ gs)).all (· ≤ reachBytes) = true)
    (hL : laidMetH Tryz.prog Rows.planTreeRow.laid W) :
    Calls Tryz.prog 7 args W fun e W' => ∃ v, e = .returned v ∧ Rows.planTreeSpec.post enc Tryz.prog Tryz.f7 false true false false W args v W' := by
  have hW' := hW
  obtain ⟨p, q, hA0, hV, rfl, hfz, hnd⟩ := hW
  have hA : DataW.TrodAll enc Tryz.prog W 0 (fun _ => true) true Tryz.f7.params.toList args.toList ds p := hA0
  rw [Tryz.params7] at hA hval hsz
  obtain ⟨v0, vs0, d0, ds0, p0, q0, hargs, rfl, rfl, h0, r0⟩ := trodAll_cons hA
  obtain ⟨v1, vs1, d1, ds1, p1, q1, rfl, rfl, rfl, h1, r1⟩ := trodAll_cons r0
  obtain ⟨rfl, rfl, rfl⟩ := trodAll_nil r1
  obtain rfl : args = #[v0, v1] := by cases args; simp_all
  obtain ⟨rfl, rfl⟩ := trodVars_none hV
  have lt0 : ∀ x ∈ p0, x.block < W.heap.size := by obtain ⟨m, hm⟩ := h0; exact DataW.trod_lt m _ _ _ hm
  obtain ⟨n0, rfl, hat0, hwf0, hz0⟩ := net_in (hval 0 25 v0 rfl rfl) h0
  have lt1 : ∀ x ∈ p1, x.block < W.heap.size := by obtain ⟨m, hm⟩ := h1; exact DataW.trod_lt m _ _ _ hm
  obtain ⟨z1, rfl⟩ := okWide_int Tryz.underlying3 (hval 1 3 v1 rfl rfl)
  have hall := hsz
  simp only [List.cons_append, DataW.weightsEach, List.all_append, Bool.and_eq_true] at hall
  have hm0 := hz0 hall.1
  unfold reachBytes at hm0
  have hT := tabs_of hL
  have hG : 2 ≤ W.heap.size := hT.lt
  clear hA0 hall hsz
  refine (ptree_any n0 z1 W hat0 hwf0 hT hG).mono fun e W' ⟨he, bel⟩ => ?_
  subst he
  exact ⟨_, rfl, _, _, _, [], _, [], hW', trodAll_mk1 (shut_bool Tryz.underlying4 _), (trodAll_cons_mk (Below.trod laidOut (by kernel_rfl) (of_decide_eq_true (by kernel_rfl)) h0 bel lt0) (trodAll_cons_mk (Below.trod laidOut (by kernel_rfl) (of_decide_eq_true (by kernel_rfl)) h1 bel lt1) trodAll_mk0)), rfl, bel.frame _, fun h => by cases h⟩

theorem laid_met (os : Os) : laidMet Tryz.prog Rows.planTreeRow.laid ((laidW (World.holding Tryz.prog os ⟨#[], #[], []⟩)).forCall (fun _ _ => 0) ⟨#[], #[.agg #[.slice none 0 0, .slice none 0 0], .int .i64 0], []⟩).memory :=
  laidMet_of_run' 8 (by kernel_rfl) (by kernel_rfl)
theorem reads (os : Os) {H : Type} (enc : TypeId × Value → H) : ∃ places, DataW.whole enc Tryz.prog ((laidW (World.holding Tryz.prog os ⟨#[], #[], []⟩)).forCall (fun _ _ => 0) ⟨#[], #[.agg #[.slice none 0 0, .slice none 0 0], .int .i64 0], []⟩).memory Tryz.f7.params.toList Rows.planTreeSpec.vars false #[Value.agg #[.slice none 0 0, .slice none 0 0], .int .i64 0].toList 8 = some ([.agg [.nil, .nil], .lit (.int .i64 0)], [], places) :=
  ⟨[], by kernel_rfl⟩

set_option maxRecDepth 100000 in
theorem lifted (os : Os) (started : os.Started) (H : Type) (enc : TypeId × Value → H) (F : Stop.Interp) :
    ReturnsInHanded {} Tryz.checked os 7 .any ((OpenSpec.ofChange Rows.planTreeSpec).preRow enc Tryz.prog Tryz.f7 Rows.planTreeRow.domain false Rows.planTreeRow.laid) (((OpenSpec.ofChange Rows.planTreeSpec).at F).post enc Tryz.prog Tryz.f7 false true false false) := by
  obtain ⟨places, hx⟩ := reads os enc
  refine returnsInHanded_of_row (C := Tryz.checked) (s := OpenSpec.ofChange Rows.planTreeSpec) own started (by kernel_rfl) Tryz.func7
    (witness_row_at (enc := enc) (C := Tryz.checked) false (laidW (World.holding Tryz.prog os ⟨#[], #[], []⟩)) #[.agg #[.slice none 0 0, .slice none 0 0], .int .i64 0] rfl (by kernel_rfl) (by kernel_rfl) (by kernel_rfl)
      (OpenSpec.preRow_of_cond 8 hx (by kernel_rfl) (fun k hk => by cases hk) (by kernel_rfl) (laid_met os))) ?_
  intro W base args ds gs before hval hW _ _ hsz hL _ _
  exact contract H enc W base args ds gs before hval hW hsz hL

theorem said : Rows.PlanTreeSaid :=
  OpenClaim.holds_of_cond 7 Tryz.f7 rfl rfl rfl rfl rfl rfl rfl ⟨rfl, rfl, rfl, rfl, rfl⟩ rfl rfl rfl rfl rfl (by kernel_rfl) Tryz.func7 (by kernel_rfl)
    (of_decide_eq_true (by kernel_rfl)) (by unfold Func.isWrapper; first | (rw [if_pos (by decide +kernel)]; kernel_rfl) | (rw [if_neg (by decide +kernel)]; exact ⟨rfl, rfl⟩))
    (fun os started H enc _ F => by rw [OpenClaim.pre_eq_preRow]; exact lifted os started H enc F)

theorem plain (f : FuncId) (fn : Func) (hf : Tryz.pinned.checked.prog.funcNamed "hedgerow/hedgelaw6.PlanTree" = some f) (hfn : Tryz.pinned.checked.prog.funcs[f]? = some fn) :
    false = Tryz.pinned.checked.prog.looks [] ∧ ∀ (j : Nat) t, fn.params[j]? = some t → Tryz.pinned.checked.prog.wantsStandIn t = false := by
  obtain rfl : f = 7 := Option.some.inj ((show Tryz.prog.funcNamed "hedgerow/hedgelaw6.PlanTree" = some 7 by kernel_rfl).symm.trans hf) |>.symm
  obtain rfl : fn = Tryz.f7 := (Option.some.inj (Tryz.func7.symm.trans hfn)).symm
  refine ⟨by kernel_rfl, fun j t ht => ?_⟩
  rw [Tryz.params7] at ht
  have h1 : Tryz.prog.wantsStandIn 25 = false := by kernel_rfl
  have h2 : Tryz.prog.wantsStandIn 3 = false := by kernel_rfl
  have ht2 : t = 25 ∨ t = 3 := by simpa using Array.mem_of_getElem? ht
  rcases ht2 with rfl | rfl
  · exact h1
  · exact h2

/-- ████ THE CARD ████ -/
theorem card : Rows.PlanTreeCardSaid :=
  Claim7.holds_tied_plain_at .later [] _ _ _ _ said (fun _ h => by cases h) (by kernel_rfl) (fun _ h => by cases h) planTree_row_tie rfl ⟨rfl, rfl⟩ (by kernel_rfl) rfl plain (by kernel_rfl)
end Go.Proofs.YtcbpafpaimpfnaaGreatDoor.planTree
namespace Go.Proofs.YtcbpafpaimpfnaaGreatDoor
/-- A SPANNING TREE: the statement, as it was given. -/
theorem planTree_card : Rows.PlanTreeCardSaid := planTree.card
#print axioms planTree_card
end Go.Proofs.YtcbpafpaimpfnaaGreatDoor
