/- 'hedgelaw6.PlanEnds' returns true for every net and every tree, and leaves it as it was: the row and its tied card. Conditions: none beyond the form's own (the tables lie as the program's text lays them: the card's tie). -/
import Derived.Test.YtcbpafpaimpfnaaGreatDoorME
import Derived.Test.YtcbpafpaimpfnaaGreatDoorMG
import Derived.Test.YtcbpafpaimpfnaaGreatDoorCards
import Derived.Test.YtcbpafpaimpfnaaGreatDoorTie
import Derived.Test.YtcbpafpaimpfnaaGreatDoorMF
import Derived.Deep.RegionHeld3
namespace Go.Proofs.YtcbpafpaimpfnaaGreatDoor
open Go.RowKit
open Vc (V Of)
open Pl (Br Net Pc Lk En St LN)

/-- A place, as it lies. -/
def pcA (s : St) (v5 v6 : Value) : Array Value := #[.int .u64 s.v.root, .int .i64 s.v.cost, .int .u64 s.v.bridge, .int .i64 s.v.port, .int .i64 s.rp, v5, v6]
theorem pc_cells {w : World} {g : Nat} {a0 a1 a2 a3 a4 a5 a6 : Value} {ty : TypeId} (h : w.heap[g]? = some (.cells #[a0, a1, a2, a3, a4, a5, a6] ty (0, 0))) :
    w.cell? ⟨g, 0, none⟩ = some a0 ∧ w.cell? ⟨g, 1, none⟩ = some a1 ∧ w.cell? ⟨g, 2, none⟩ = some a2 ∧ w.cell? ⟨g, 3, none⟩ = some a3 ∧ w.cell? ⟨g, 4, none⟩ = some a4 ∧ w.cell? ⟨g, 5, none⟩ = some a5 ∧ w.cell? ⟨g, 6, none⟩ = some a6 :=
  ⟨cell_of_row w g 0 _ _ _ h, cell_of_row w g 1 _ _ _ h, cell_of_row w g 2 _ _ _ h, cell_of_row w g 3 _ _ _ h, cell_of_row w g 4 _ _ _ h, cell_of_row w g 5 _ _ _ h, cell_of_row w g 6 _ _ _ h⟩
/-- The role at a port: that of the first one among the ports; none. -/
def roleIn (ports roles : Nat → Int) (port : Int) : Nat → Int
  | 0 => 0
  | k + 1 => if ports 0 = port then roles 0 else roleIn (fun i => ports (i + 1)) (fun i => roles (i + 1)) port k
theorem roleIn_at (port : Int) : ∀ (n k : Nat) (ports roles : Nat → Int), k < n → ports k = port → (∀ i, i < k → ports i ≠ port) → roleIn ports roles port n = roles k
  | 0, k, _, _, h, _, _ => by omega
  | n + 1, 0, ports, roles, _, h, _ => by simp [roleIn, h]
  | n + 1, k + 1, ports, roles, hk, h, hn => by
    simp only [roleIn]
    rw [if_neg (hn 0 (by omega))]
    exact roleIn_at port n k (fun i => ports (i + 1)) (fun i => roles (i + 1)) (by omega) h (fun i hi => hn (i + 1) (by omega))
theorem roleIn_none (port : Int) : ∀ (n : Nat) (ports roles : Nat → Int), (∀ i, i < n → ports i ≠ port) → roleIn ports roles port n = 0
  | 0, _, _, _ => rfl
  | n + 1, ports, roles, hn => by
    simp only [roleIn]
    rw [if_neg (hn 0 (by omega))]
    exact roleIn_none port n (fun i => ports (i + 1)) (fun i => roles (i + 1)) (fun i hi => hn (i + 1) (by omega))
set_option maxRecDepth 100000 in
set_option maxHeartbeats 1000000 in
theorem prole_any (s : St) (pao rao : Option Addr) (n pcap rcap : Nat) (ports roles : Nat → Int) (port : Int) (w : World) (hn : n ≤ 1000) (hp : IRow w pao n pcap ports) (hr : IRow w rao n rcap roles) :
    Calls Tryz.prog 19 #[.agg (pcA s (.slice pao n pcap) (.slice rao n rcap)), .int .i64 port] w fun e w' => e = .returned (.int .i64 (roleIn ports roles port n)) ∧ Below w.heap.size w w' := by
  obtain ⟨X, HX⟩ : ∃ X, Hid (X = w.alloc (.cells (pcA s (.slice pao n pcap) (.slice rao n rcap)) 50)) := ⟨_, rfl⟩
  have hXB : Below w.heap.size w X := by rw [HX.out]; exact below_alloc1 _ _
  have HP : Hid (IRow X pao n pcap ports) := CRow.below hp hXB
  have HQ : Hid (IRow X rao n rcap roles) := CRow.below hr hXB
  have HB : Hid (Below w.heap.size w X) := hXB
  have h1 := hp.1
  have h2 := hr.1
  have hc : X.heap[w.heap.size]? = some (.cells (pcA s (.slice pao n pcap) (.slice rao n rcap)) 50 (0, 0)) := by rw [HX.out]; exact heap_alloc_last _ _
  obtain ⟨c0, c1, c2, c3, c4, c5, c6⟩ := pc_cells hc
  clear hp hr hXB hc
  obtain ⟨⟨ro, co, br, po⟩, rp⟩ := s
  simp only [pcA] at *
  go_enter Tryz.func19, Tryz.ntmps19
  go_wp2_with fail
  rw [← HX.out]
  go_loopw [10] (fun i wr => ∃ k : Nat, k ≤ n ∧ i = .int .i64 k ∧ wr = X ∧ Hid (∀ j, j < k → ports j ≠ port)) (fun i _ => n - (intOf i).toNat)
  case atStart => exact ⟨0, by omega, rfl, rfl, fun j hj => absurd hj (by omega)⟩
  case round =>
    obtain ⟨k, hk, rfl, rfl, hS⟩ := hrel
    by_cases hlt : k < n
    · obtain ⟨pb, poff, rfl, _⟩ := CRow.some HP.out (by omega)
      obtain ⟨rb, roff, rfl, _⟩ := CRow.some HQ.out (by omega)
      have p0 := IRow.cells HP.out hlt
      have r0 := IRow.cells HQ.out hlt
      have i0 : (0 : Int) ≤ (k : Int) := by omega
      have i1 : (k : Int) < (n : Int) := by omega
      by_cases e : ports k = port
      · have HE : Hid (roleIn ports roles port n = roles k) := roleIn_at port n k ports roles hlt e hS.out
        rw [e] at p0
        generalize roles k = r at *
        go_wp2_with fail
        go_ret
        exact ⟨by rw [HE.out]; rfl, HB.out⟩
      · have HS : Hid (∀ j, j < k + 1 → ports j ≠ port) := fun j hj => by
          by_cases q : j = k
          · rw [q]; exact e
          · exact hS.out j (by omega)
        have e1 : (ports k == port) = false := by simp [e]
        generalize ports k = q at *
        go_wp2_with fail
        exact ⟨⟨k + 1, by omega, by go_num, by first | rfl | trivial, HS⟩, by simp [intOf]; omega⟩
    · have hnk : ¬ (k : Int) < (n : Int) := by omega
      have HE : Hid (roleIn ports roles port n = 0) := roleIn_none port n ports roles (fun i hi => hS.out i (by omega))
      go_wp2_with fail
      go_ret
      exact ⟨by rw [HE.out]; rfl, HB.out⟩
end Go.Proofs.YtcbpafpaimpfnaaGreatDoor

namespace Go.Proofs.YtcbpafpaimpfnaaGreatDoor
open Go.RowKit Go.Maps Go.WideElems Go.ChangeShapes Go.WideShapes Go.MapKept Go.ChangeMaps
open Vc (V Of)
open Pl (Br Net Pc Lk En St LN)

theorem ends_says (n : Net) (tree : Int) : Pl.rounds (n.ids tree) n.ends n.K n.K = Pl.says (n.ids tree) n.ls n.live n.K n.L := rfl
/-- The role of a bridge's port, as it is told. -/
def roleOf (E : Nat → List En) (x : Nat → St) (i : Nat) (port : Int) : Int := roleIn (fun j => (EL (E i) j).port) (fun j => Pl.roleAt (x i) (Pl.offs (E i) x) (EL (E i) j)) port (E i).length
theorem roleOf_at {n : Net} (R : n.Right) (x : Nat → St) {i : Nat} {e : En} (he : e ∈ n.ends i) : roleOf n.ends x i e.port = Pl.roleAt (x i) (Pl.offs (n.ends i) x) e := by
  obtain ⟨k, hk, ek⟩ := List.getElem_of_mem he
  have el : ∀ j, (h : j < (n.ends i).length) → EL (n.ends i) j = (n.ends i)[j] := fun j h => by simp [EL, List.getD, List.getElem?_eq_getElem h]
  have hs : (n.ends i).Pairwise (fun x y => x.port < y.port) := Pl.ends_sorted R.links n.live i
  unfold roleOf
  rw [roleIn_at e.port (n.ends i).length k _ _ hk (by rw [el k hk, ek]) (fun j hj => by
    have h1 := List.pairwise_iff_getElem.1 hs j k (by omega) hk hj
    rw [el j (by omega)]
    rw [ek] at h1
    omega)]
  rw [el k hk, ek]
/-- A place, cell by cell; the role of a port of it. -/
theorem place_role {w : World} {P K : Nat} {x : Nat → St} {E : Nat → List En} (h : PlacesAt w P K x E K) {i : Nat} (hi : i < K) (hl : (E i).length ≤ 1000) :
    ∃ v5 v6, (w.cell? ⟨P, i * 7, none⟩ = some (.int .u64 (x i).v.root) ∧ w.cell? ⟨P, i * 7 + 1, none⟩ = some (.int .i64 (x i).v.cost) ∧ w.cell? ⟨P, i * 7 + 2, none⟩ = some (.int .u64 (x i).v.bridge) ∧ w.cell? ⟨P, i * 7 + 3, none⟩ = some (.int .i64 (x i).v.port) ∧ w.cell? ⟨P, i * 7 + 4, none⟩ = some (.int .i64 (x i).rp) ∧ w.cell? ⟨P, i * 7 + 5, none⟩ = some v5 ∧ w.cell? ⟨P, i * 7 + 6, none⟩ = some v6) ∧
      ∀ (port : Int) (W : World), Below w.heap.size w W → Calls Tryz.prog 19 #[.agg #[.int .u64 (x i).v.root, .int .i64 (x i).v.cost, .int .u64 (x i).v.bridge, .int .i64 (x i).v.port, .int .i64 (x i).rp, v5, v6], .int .i64 port] W fun e w' => e = .returned (.int .i64 (roleOf E x i port)) ∧ Hid (Below w.heap.size w w') := by
  obtain ⟨c, h1, h2, _, h4⟩ := h
  obtain ⟨pao, rao, pcap, rcap, e5, e6, hp, hr, _, _⟩ := h4 i hi
  refine ⟨c i 5, c i 6, ⟨?_, ?_, ?_, ?_, ?_, rowC_cell h1 hi (by omega), rowC_cell h1 hi (by omega)⟩, fun port W hW => ?_⟩
  · have := rowC_cell h1 hi (show 0 < 7 by omega); rw [h2 i hi 0 (by omega)] at this; exact this
  · have := rowC_cell h1 hi (show 1 < 7 by omega); rw [h2 i hi 1 (by omega)] at this; exact this
  · have := rowC_cell h1 hi (show 2 < 7 by omega); rw [h2 i hi 2 (by omega)] at this; exact this
  · have := rowC_cell h1 hi (show 3 < 7 by omega); rw [h2 i hi 3 (by omega)] at this; exact this
  · have := rowC_cell h1 hi (show 4 < 7 by omega); rw [h2 i hi 4 (by omega)] at this; exact this
  · rw [e5, e6]
    refine (prole_any (x i) pao rao (E i).length pcap rcap _ _ port W hl (CRow.below hp hW) (CRow.below hr hW)).mono ?_
    rintro e w' ⟨rfl, hb⟩
    exact ⟨rfl, hW.trans (hb.mono hW.size)⟩
theorem bzero (w : World) : (zeroValue 4).run Tryz.prog w = .ok (.bool false) w := by kernel_rfl
theorem plainElem_bool_inv {H : Type} {P : Program} {e : TypeId} (he : P.underlying e = some .bool) {v : Value} {z : DataW H × List MemPlace} (h : plainElem P e v = some z) : ∃ b, v = .bool b ∧ z = (.lit (.bool b), []) := by
  unfold plainElem at h
  rw [he] at h
  cases v <;> simp at h
  exact ⟨_, rfl, h.symm⟩
/-- The map of live ports, behind the first k of f. -/
def LvM (w : World) (b : Nat) (f : Nat → Int × Int) (k : Nat) : Prop := ∃ D : DataW Unit, w.ownsMap Tryz.prog 55 (plainElem Tryz.prog 4) b k D ∧ IsMap D ∧ ∀ a : Int × Int, (Lit.int .i64 a.1).wf = true → (Lit.int .i64 a.2).wf = true → D.atKey (pkl a) (.lit (.bool false)) = .lit (.bool (Vc.someTo (fun j => decide (f j = a)) k))
theorem LvM.same {w w' : World} {b k : Nat} {f : Nat → Int × Int} (h : LvM w b f k) (e : w'.heap[b]? = w.heap[b]?) : LvM w' b f k := by
  obtain ⟨D, ⟨es, clock, hb, r⟩, h2⟩ := h
  exact ⟨D, ⟨es, clock, e.trans hb, r⟩, h2⟩
theorem LvM.lt {w : World} {b k : Nat} {f : Nat → Int × Int} (h : LvM w b f k) : b < w.heap.size := by
  obtain ⟨D, h1, _⟩ := h
  exact h1.lt
theorem LvM.put {w : World} {b k : Nat} {f : Nat → Int × Int} (h : LvM w b f k) (hk : k ≤ 1000) (hf : ∀ j, j ≤ k → (Lit.int .i64 (f j).1).wf = true ∧ (Lit.int .i64 (f j).2).wf = true) :
    ∃ w', (Instr.mapUpdate 52 (.map (some b)) (pV (f k)) (.bool true)).run Tryz.prog w = .ok () w' ∧ LvM w' b f (k + 1) ∧ w.grownBy w' (some b) := by
  obtain ⟨D, ho, hD, hat⟩ := h
  have ht := Tryz.underlying52
  obtain ⟨k1, k2⟩ := hf k (Nat.le_refl _)
  have hkey := pkey_of (f k) k1 k2
  obtain ⟨w', e, ho1, hg⟩ := ho.update pkeyed ht (by unfold maxLen; omega) hkey (plainElem_bool Tryz.underlying4 true)
  refine ⟨w', e, ⟨_, ho1, hD.put _ _, fun a h1 h2 => ?_⟩, hg⟩
  simp only [Vc.someTo]
  by_cases q : f k = a
  · subst q
    rw [atKey_put_same hD (pkeyed.key hkey), decide_eq_true rfl, Bool.or_true]
  · rw [atKey_put_other (fun p => q (pkl_inj k1 k2 h1 h2 p.symm)), hat a h1 h2, decide_eq_false q, Bool.or_false]
theorem LvM.look {w : World} {b k : Nat} {f : Nat → Int × Int} (h : LvM w b f k) (a : Int × Int) (h1 : (Lit.int .i64 a.1).wf = true) (h2 : (Lit.int .i64 a.2).wf = true) :
    (Instr.lookup 52 (.map (some b)) (pV a) false).run Tryz.prog w = .ok (.bool (Vc.someTo (fun j => decide (f j = a)) k)) w := by
  obtain ⟨D, ho, hD, hat⟩ := h
  obtain ⟨v, ps, hrun, hv⟩ := ho.lookup pkeyed Tryz.underlying52 (bzero w) (plainElem_bool Tryz.underlying4 false) (pkey_of a h1 h2)
  obtain ⟨c, rfl, hc⟩ := plainElem_bool_inv Tryz.underlying4 hv
  simp only [Prod.mk.injEq] at hc
  rw [hat a h1 h2] at hc
  have h3 : Vc.someTo (fun j => decide (f j = a)) k = c := by
    have := hc.1
    simpa using this
  rw [hrun, h3]
/-- The ports of live links. -/
def lvF2 (n : Net) (j : Nat) : Int × Int := ((n.ls (LN n.lvs j)).a, (n.ls (LN n.lvs j)).pa)
theorem lv_told {n : Net} (R : n.Right) {k : Nat} (hk : k < n.L) : Vc.someTo (fun j => decide (lvF2 n j = ((n.ls k).a, (n.ls k).pa))) n.lvs.length = n.live k := by
  cases h : n.live k with
  | true =>
    obtain ⟨j, hj, ej⟩ := Pl.Net.lvs_all hk h
    exact Pl.someTo_iff.2 ⟨j, hj, decide_eq_true (by unfold lvF2; rw [ej])⟩
  | false =>
    apply Pl.someTo_none
    intro j hj
    apply decide_eq_false
    intro e
    obtain ⟨h1, h2⟩ := Pl.Net.lvs_mem hj
    unfold lvF2 at e
    injection e with e1 e2
    have := Pl.child_one R.links h1 hk (Or.inl (Pl.isEnd_a _ _ e1 e2))
    rw [this, h] at h2
    cases h2
set_option maxRecDepth 100000 in
set_option maxHeartbeats 20000000 in
theorem pendsLaw_any (n : Net) (tree : Int) (w : World) (hat : n.at' w) (hwf : n.Wf) (ht : Tabs w) (hbt : 2 ≤ w.heap.size) :
    Calls Tryz.prog 6 #[n.val, .int .i64 tree] w fun e w' => e = .returned (.bool true) ∧ Below w.heap.size w w' := by
  have hmm := @run_makeMap Tryz.prog
  obtain ⟨X, HX⟩ : ∃ X, Hid (X = w.alloc (.cells #[.slice n.bao n.K n.bcap, .slice n.lao n.L n.lcap] 25)) := ⟨_, rfl⟩
  have hXB : Below w.heap.size w X := by rw [HX.out]; exact below_alloc1 _ _
  have hXn : X.heap[w.heap.size]? = some (.cells #[.slice n.bao n.K n.bcap, .slice n.lao n.L n.lcap] 25 (0, 0)) := by rw [HX.out]; exact heap_alloc_last _ _
  have HC : Hid (∀ W, Below X.heap.size X W → (W.cell? ⟨w.heap.size, 0, none⟩ = some (.slice n.bao n.K n.bcap) ∧ W.cell? ⟨w.heap.size, 1, none⟩ = some (.slice n.lao n.L n.lcap)) ∧ n.at' W ∧ (Tabs W ∧ 2 ≤ W.heap.size) ∧ Below w.heap.size w W) := fun W hW => by
    have h1 : Below w.heap.size w W := hXB.trans (hW.mono hXB.size)
    exact ⟨two_cells2 (keep hXn hW), hat.below h1, ⟨ht.below h1 hbt, Nat.le_trans hbt h1.size⟩, h1⟩
  have HAL : Hid (Calls Tryz.prog 17 #[] X fun e w' => e = .returned (.bool true) ∧ Below X.heap.size X w') := palive_any X (ht.below hXB hbt) (Nat.le_trans hbt hXB.size)
  have HRI : Hid (n.wrong.1 = 0 → n.Right) := right_of hwf
  have HWF : Hid n.Wf := hwf
  have hcapL := hat.lks.1
  clear hat ht hXn hXB hwf
  simp only [Pl.Net.val]
  go_enter Tryz.func6, Tryz.ntmps6
  go_wp2_with fail
  rw [← HX.out]
  refine HAL.out.mono ?_
  rintro e w1 ⟨rfl, hb1⟩
  obtain ⟨⟨d0, d1⟩, hat1, ⟨ht1, hg1⟩, _⟩ := HC.out w1 hb1
  have HP : Hid (Calls Tryz.prog 12 #[.agg #[.slice n.bao n.K n.bcap, .slice n.lao n.L n.lcap], .int .i64 tree] w1 fun e w' => ∃ a k c f1 f2, e = .returned (.tuple #[.slice a k c, .agg #[.int .i64 f1, .int .i64 f2]]) ∧ Hid (Below w1.heap.size w1 w' ∧ PlRes n tree w1.heap.size w' a k c f1 f2)) := pplan_res n tree w1 hat1 HWF.out ht1 hg1
  clear HAL hat1 ht1 hg1
  go_wp2_with fail
  refine HP.out.mono ?_
  rintro e w2 ⟨a, m, c, f1, f2, rfl, hA⟩
  obtain ⟨Y, HY⟩ : ∃ Y, Hid (Y = w2.alloc (.cells #[.int .i64 f1, .int .i64 f2] 28)) := ⟨_, rfl⟩
  have hYB : Below w2.heap.size w2 Y := by rw [HY.out]; exact below_alloc1 _ _
  have hYs : Y.heap.size = w2.heap.size + 1 := by rw [HY.out]; simp
  have hXw2 : Below X.heap.size X w2 := hb1.trans (hA.out.1.mono hb1.size)
  have hXY : Below X.heap.size X Y := hXw2.trans (hYB.mono hXw2.size)
  have hres := hA.out.2.below hYB
  have HLO : Hid (Below w.heap.size w Y) := (HC.out Y hXY).2.2.2
  clear HP hA d0 d1 hYB hXw2 hb1
  rcases hres with ⟨e0, ⟨rfl, rfl, rfl⟩, e1⟩ | ⟨_, _, ⟨rfl, rfl, rfl⟩, rfl, rfl⟩ | ⟨e0, htr, P, ⟨rfl, rfl, rfl⟩, ⟨rfl, rfl⟩, hPA, _⟩
  · obtain ⟨rfl, rfl⟩ : f1 = n.wrong.1 ∧ f2 = n.wrong.2 := by rw [← e1]; exact ⟨rfl, rfl⟩
    have g0 : (n.wrong.1 == 0) = false := by simp [e0]
    clear e1
    go_wp2_with fail
    go_ret
    exact ⟨rfl, by rw [← HY.out]; exact HLO.out⟩
  · go_wp2_with fail
    go_ret
    exact ⟨rfl, by rw [← HY.out]; exact HLO.out⟩
  · have R := HRI.out e0
    have HR : Hid n.Right := R
    have hK := R.few
    have hLf := R.fewL
    obtain ⟨x, HXX⟩ : ∃ x, Hid (x = Pl.rounds (n.ids tree) n.ends n.K n.K) := ⟨_, rfl⟩
    rw [← HXX.out] at hPA
    obtain ⟨M, HM⟩ : ∃ M, Hid (M = w2.heap.size + 1) := ⟨_, rfl⟩
    have hYM : Y.heap.size = M := by rw [HM.out]; exact hYs
    obtain ⟨V, HV⟩ : ∃ V, Hid (V = Y.alloc (.map #[] 0)) := ⟨_, rfl⟩
    have hVB : Below Y.heap.size Y V := by rw [HV.out]; exact below_alloc1 _ _
    have hVs : V.heap.size = M + 1 := by rw [HV.out, ← hYM]; simp
    have hXV : Below X.heap.size X V := hXY.trans (hVB.mono hXY.size)
    have hV0 : LvM V M (lvF2 n) 0 := by
      refine ⟨.map [], ?_, isMap_empty, fun _ _ _ => rfl⟩
      rw [HV.out, ← hYM]
      exact World.ownsMap_made Y _ _ _
    obtain ⟨⟨m0, m1⟩, hatV, _, hwV⟩ := HC.out V hXV
    have HLV : Hid (Calls Tryz.prog 18 #[.agg #[.slice n.bao n.K n.bcap, .slice n.lao n.L n.lcap]] V fun e w' => ∃ ao cap, e = .returned (.slice ao n.lvs.length cap) ∧ LRow w' ao n.lvs.length cap (fun j => n.ls (LN n.lvs j)) ∧ NilOk ao n.lvs.length cap ∧ (∀ ad, ao = some ad → V.heap.size ≤ ad.block) ∧ Below V.heap.size V w') := rlive_any n V hatV R
    rw [HV.out, HY.out] at m0 m1
    have HFY : Hid (∀ W, Below Y.heap.size Y W → PlacesAt W P n.K x n.ends n.K ∧ (W.cell? ⟨w.heap.size, 0, none⟩ = some (.slice n.bao n.K n.bcap) ∧ W.cell? ⟨w.heap.size, 1, none⟩ = some (.slice n.lao n.L n.lcap)) ∧ n.at' W ∧ Below w.heap.size w W) := fun W hW => by
      obtain ⟨q1, q2, _, q3⟩ := HC.out W (hXY.trans (hW.mono hXY.size))
      exact ⟨hPA.below hW, q1, q2, q3⟩
    clear hPA HC R HRI hatV hXV hwV hXY HLO
    go_wp2_with fail
    rw [← HY.out, ← HV.out, ← HM.out]
    refine HLV.out.mono ?_
    rintro e w3 ⟨ao, cap, rfl, hLR, _, hnew, hb3⟩
    have hMl : M < w3.heap.size := by have := hb3.size; omega
    have HS : Hid (∀ W, w3.grownBy W (some M) → LRow W ao n.lvs.length cap (fun j => n.ls (LN n.lvs j)) ∧ Below Y.heap.size Y W) := fun W hW => by
      have h1 : Below Y.heap.size Y w3 := hVB.trans (hb3.mono hVB.size)
      refine ⟨row_but hLR hW (fun _ b off e => ?_), h1.trans (below_of_grown hW h1.size (by omega))⟩
      have := hnew _ e
      simp only at this
      omega
    have HM0 : Hid (w3.grownBy w3 (some M) ∧ LvM w3 M (lvF2 n) 0) := ⟨⟨rfl, rfl, rfl, Nat.le_refl _, fun _ _ _ => rfl⟩, hV0.same (hb3.block M (by omega))⟩
    have hlcap := hLR.1
    have hlfew : n.lvs.length ≤ 40 := Nat.le_trans (n.lvsTo_few n.L) HR.out.fewL
    clear HLV hLR hnew hb3 m0 m1 hVs hVB hYs hV0 hmm
    go_wp2_with fail
    clear HY HV
    go_loopw [29] (fun q wr => ∃ j : Nat, j ≤ n.lvs.length ∧ q = .int .i64 j ∧ Hid (w3.grownBy wr (some M) ∧ LvM wr M (lvF2 n) j)) (fun q _ => n.lvs.length - (intOf q).toNat)
    case atStart => exact ⟨0, by omega, rfl, HM0⟩
    case round =>
      obtain ⟨j, hj, rfl, hW⟩ := hrel
      clear HM0
      by_cases hlt : j < n.lvs.length
      · obtain ⟨f1, f2⟩ := HS.out wr hW.out.1
        obtain ⟨lb, loff, rfl, _⟩ := CRow.some f1 (by omega)
        obtain ⟨c0, c1, c2, c3, c4, c5⟩ := LRow.cells f1 hlt
        obtain ⟨hkL, hlive⟩ := Pl.Net.lvs_mem hlt
        obtain ⟨o1, o2, o3, _, _, o6⟩ := HR.out.links.ok _ hkL
        have hra : ∃ ra rb, roleOf n.ends x (n.ls (LN n.lvs j)).a.toNat (n.ls (LN n.lvs j)).pa = ra ∧ roleOf n.ends x (n.ls (LN n.lvs j)).b.toNat (n.ls (LN n.lvs j)).pb = rb ∧ ((ra = 2 ∧ (rb = 1 ∨ rb = 3)) ∨ (rb = 2 ∧ (ra = 1 ∨ ra = 3))) := by
          refine ⟨_, _, rfl, rfl, ?_⟩
          refine Pl.says_roles HR.out.links HR.out.few (n.ids tree) (ids_apart HR.out tree) n.live hkL hlive _ _ ?_ ?_
          · rw [← ends_says, ← HXX.out]
            exact roleOf_at HR.out x (e := Pl.eA (n.ls (LN n.lvs j)) (n.live (LN n.lvs j))) (Pl.eA_mem HR.out.links n.live hkL)
          · rw [← ends_says, ← HXX.out]
            exact roleOf_at HR.out x (e := Pl.eB (n.ls (LN n.lvs j)) (n.live (LN n.lvs j))) (Pl.eB_mem HR.out.links n.live hkL)
        have hF : lvF2 n j = ((n.ls (LN n.lvs j)).a, (n.ls (LN n.lvs j)).pa) := rfl
        have HWA : Hid (∀ q, q ≤ j → (Lit.int .i64 (lvF2 n q).1).wf = true ∧ (Lit.int .i64 (lvF2 n q).2).wf = true) := fun q hq => by
          have hq2 := HWF.out.link _ (Pl.Net.lvs_mem (n := n) (j := q) (by omega)).1
          exact ⟨hq2.1, hq2.2.1⟩
        generalize n.ls (LN n.lvs j) = l at *
        obtain ⟨la, pa, lb', pb, co, up⟩ := l
        simp only at c0 c1 c2 c3 c4 c5 o1 o2 o3 hra hF
        obtain ⟨na, rfl⟩ : ∃ na : Nat, la = na := ⟨la.toNat, by omega⟩
        obtain ⟨nb, rfl⟩ : ∃ nb : Nat, lb' = nb := ⟨lb'.toNat, by omega⟩
        obtain ⟨ra, rb, hra, hrb, hrr⟩ := hra
        rw [Int.toNat_natCast] at hra hrb
        have hna : na < n.K := by omega
        have hnb : nb < n.K := by omega
        obtain ⟨Z, HZ⟩ : ∃ Z, Hid (Z = wr.alloc (.cells #[.int .i64 na, .int .i64 pa, .int .i64 nb, .int .i64 pb, .int .i64 co, .bool up] 46)) := ⟨_, rfl⟩
        have hZB : Below wr.heap.size wr Z := by rw [HZ.out]; exact below_alloc1 _ _
        obtain ⟨B, HB⟩ : ∃ B, Hid (B = wr.heap.size) := ⟨_, rfl⟩
        have hZl : Z.heap[B]? = some (.cells #[.int .i64 na, .int .i64 pa, .int .i64 nb, .int .i64 pb, .int .i64 co, .bool up] 46 (0, 0)) := by rw [HZ.out, HB.out]; exact heap_alloc_last _ _
        have hpl := (HFY.out Z (f2.trans (hZB.mono f2.size))).1
        obtain ⟨va5, va6, hcA, hRA⟩ := place_role hpl hna (ends_few n na hLf)
        obtain ⟨vb5, vb6, hcB, hRB⟩ := place_role hpl hnb (ends_few n nb hLf)
        have HCA : Hid (∀ W, Below Z.heap.size Z W → Calls Tryz.prog 19 #[.agg #[.int .u64 (x na).v.root, .int .i64 (x na).v.cost, .int .u64 (x na).v.bridge, .int .i64 (x na).v.port, .int .i64 (x na).rp, va5, va6], .int .i64 pa] W fun e w' => e = .returned (.int .i64 ra) ∧ Hid (Below Z.heap.size Z w')) := by rw [← hra]; exact hRA pa
        have HCB : Hid (∀ W, Below Z.heap.size Z W → Calls Tryz.prog 19 #[.agg #[.int .u64 (x nb).v.root, .int .i64 (x nb).v.cost, .int .u64 (x nb).v.bridge, .int .i64 (x nb).v.port, .int .i64 (x nb).rp, vb5, vb6], .int .i64 pb] W fun e w' => e = .returned (.int .i64 rb) ∧ Hid (Below Z.heap.size Z w')) := by rw [← hrb]; exact hRB pb
        have HSW : Hid (∀ W, Below Z.heap.size Z W → (W.cell? ⟨B, 0, none⟩ = some (.int .i64 na) ∧ W.cell? ⟨B, 1, none⟩ = some (.int .i64 pa) ∧ W.cell? ⟨B, 2, none⟩ = some (.int .i64 nb) ∧ W.cell? ⟨B, 3, none⟩ = some (.int .i64 pb)) ∧
            (W.cell? ⟨P, na * 7, none⟩ = some (.int .u64 (x na).v.root) ∧ W.cell? ⟨P, na * 7 + 1, none⟩ = some (.int .i64 (x na).v.cost) ∧ W.cell? ⟨P, na * 7 + 2, none⟩ = some (.int .u64 (x na).v.bridge) ∧ W.cell? ⟨P, na * 7 + 3, none⟩ = some (.int .i64 (x na).v.port) ∧ W.cell? ⟨P, na * 7 + 4, none⟩ = some (.int .i64 (x na).rp) ∧ W.cell? ⟨P, na * 7 + 5, none⟩ = some va5 ∧ W.cell? ⟨P, na * 7 + 6, none⟩ = some va6) ∧
            (W.cell? ⟨P, nb * 7, none⟩ = some (.int .u64 (x nb).v.root) ∧ W.cell? ⟨P, nb * 7 + 1, none⟩ = some (.int .i64 (x nb).v.cost) ∧ W.cell? ⟨P, nb * 7 + 2, none⟩ = some (.int .u64 (x nb).v.bridge) ∧ W.cell? ⟨P, nb * 7 + 3, none⟩ = some (.int .i64 (x nb).v.port) ∧ W.cell? ⟨P, nb * 7 + 4, none⟩ = some (.int .i64 (x nb).rp) ∧ W.cell? ⟨P, nb * 7 + 5, none⟩ = some vb5 ∧ W.cell? ⟨P, nb * 7 + 6, none⟩ = some vb6)) := fun W hWW => by
          obtain ⟨q0, q1, q2, q3, _, _⟩ := lk_cells (keep hZl hWW)
          have hPZ := block_lt_of_cell hcA.1
          have up : ∀ (s : Nat) v, Z.cell? ⟨P, s, none⟩ = some v → W.cell? ⟨P, s, none⟩ = some v := fun s v h => (hWW.cell (by exact hPZ)).trans h
          exact ⟨⟨q0, q1, q2, q3⟩, ⟨up _ _ hcA.1, up _ _ hcA.2.1, up _ _ hcA.2.2.1, up _ _ hcA.2.2.2.1, up _ _ hcA.2.2.2.2.1, up _ _ hcA.2.2.2.2.2.1, up _ _ hcA.2.2.2.2.2.2⟩, ⟨up _ _ hcB.1, up _ _ hcB.2.1, up _ _ hcB.2.2.1, up _ _ hcB.2.2.2.1, up _ _ hcB.2.2.2.2.1, up _ _ hcB.2.2.2.2.2.1, up _ _ hcB.2.2.2.2.2.2⟩⟩
        have HPUT : Hid (∀ W, Below Z.heap.size Z W → ∃ w', (Instr.mapUpdate 52 (.map (some M)) (.agg #[.int .i64 na, .int .i64 pa]) (.bool true)).run Tryz.prog W = .ok () w' ∧ Hid (w3.grownBy w' (some M) ∧ LvM w' M (lvF2 n) (j + 1))) := fun W hWW => by
          have h1 : Below wr.heap.size wr W := hZB.trans (hWW.mono hZB.size)
          obtain ⟨w', e, h2, h3⟩ := (hW.out.2.same (h1.block M hW.out.2.lt)).put (by omega) HWA.out
          rw [hF] at e
          exact ⟨w', e, hW.out.1.trans ((grown_of_below h1).trans h3), h2⟩
        have HB0 : Hid (Below Z.heap.size Z Z) := Below.refl _ _
        have i0 : (0 : Int) ≤ (j : Int) := by omega
        have i1 : (j : Int) < (n.lvs.length : Int) := by omega
        have ia0 : (0 : Int) ≤ (na : Int) := by omega
        have ia1 : (na : Int) < (n.K : Int) := by omega
        have ib0 : (0 : Int) ≤ (nb : Int) := by omega
        have ib1 : (nb : Int) < (n.K : Int) := by omega
        clear hW f1 f2 hkL hlive o1 o2 hpl hcA hcB hRA hRB hra hrb hZl hZB HS HFY HR HWA HWF HXX hF HM HX
        generalize (x na).v.root = xa0 at *
        generalize (x na).v.cost = xa1 at *
        generalize (x na).v.bridge = xa2 at *
        generalize (x na).v.port = xa3 at *
        generalize (x na).rp = xa4 at *
        generalize (x nb).v.root = xb0 at *
        generalize (x nb).v.cost = xb1 at *
        generalize (x nb).v.bridge = xb2 at *
        generalize (x nb).v.port = xb3 at *
        generalize (x nb).rp = xb4 at *
        go_wp2_with fail
        rw [← HZ.out, ← HB.out]
        clear HZ HB c0 c1 c2 c3 c4 c5
        have s0 := HSW.out Z HB0.out
        go_region_held3 (fun W => (W.cell? ⟨B, 0, none⟩ = some (.int .i64 na) ∧ W.cell? ⟨B, 1, none⟩ = some (.int .i64 pa) ∧ W.cell? ⟨B, 2, none⟩ = some (.int .i64 nb) ∧ W.cell? ⟨B, 3, none⟩ = some (.int .i64 pb)) ∧
            (W.cell? ⟨P, na * 7, none⟩ = some (.int .u64 xa0) ∧ W.cell? ⟨P, na * 7 + 1, none⟩ = some (.int .i64 xa1) ∧ W.cell? ⟨P, na * 7 + 2, none⟩ = some (.int .u64 xa2) ∧ W.cell? ⟨P, na * 7 + 3, none⟩ = some (.int .i64 xa3) ∧ W.cell? ⟨P, na * 7 + 4, none⟩ = some (.int .i64 xa4) ∧ W.cell? ⟨P, na * 7 + 5, none⟩ = some va5 ∧ W.cell? ⟨P, na * 7 + 6, none⟩ = some va6) ∧
            (W.cell? ⟨P, nb * 7, none⟩ = some (.int .u64 xb0) ∧ W.cell? ⟨P, nb * 7 + 1, none⟩ = some (.int .i64 xb1) ∧ W.cell? ⟨P, nb * 7 + 2, none⟩ = some (.int .u64 xb2) ∧ W.cell? ⟨P, nb * 7 + 3, none⟩ = some (.int .i64 xb3) ∧ W.cell? ⟨P, nb * 7 + 4, none⟩ = some (.int .i64 xb4) ∧ W.cell? ⟨P, nb * 7 + 5, none⟩ = some vb5 ∧ W.cell? ⟨P, nb * 7 + 6, none⟩ = some vb6))
          (first | (exact HSW.out _ (Hid.out (by assumption))) | (exact HSW.out _ (Below.drew (Hid.out (by assumption)))))
          (first | (go_at_call 19; (with_reducible refine (HCA.out _ (Below.drew HB0.out)).mono ?_); rintro e w5 ⟨rfl, HB5⟩) | (go_at_call 19; (with_reducible refine (HCB.out _ HB5.out).mono ?_); rintro e w6 ⟨rfl, HB6⟩))
        obtain ⟨⟨y0, y1, y2, y3⟩, _⟩ := HSW.out w6 HB6.out
        obtain ⟨w7, hup, HN⟩ := HPUT.out w6 HB6.out
        clear s0 HSW HCA HCB HPUT
        rcases hrr with ⟨rfl, rfl | rfl⟩ | ⟨rfl, rfl | rfl⟩
        · go_wp2_with fail
          exact ⟨⟨j + 1, by omega, by go_num, HN⟩, by simp [intOf]; omega⟩
        · go_wp2_with fail
          exact ⟨⟨j + 1, by omega, by go_num, HN⟩, by simp [intOf]; omega⟩
        · go_wp2_with fail
          exact ⟨⟨j + 1, by omega, by go_num, HN⟩, by simp [intOf]; omega⟩
        · go_wp2_with fail
          exact ⟨⟨j + 1, by omega, by go_num, HN⟩, by simp [intOf]; omega⟩
      · have hnk : ¬ (j : Int) < (n.lvs.length : Int) := by omega
        have hjL : j = n.lvs.length := by omega
        rw [hjL] at hW
        obtain ⟨w4, hw4⟩ : ∃ w4, w4 = wr := ⟨_, rfl⟩
        subst hw4
        have HS4 : Hid (∀ W, Below w4.heap.size w4 W → PlacesAt W P n.K x n.ends n.K ∧ LRow W n.lao n.L n.lcap n.ls ∧ Below w.heap.size w W ∧ LvM W M (lvF2 n) n.lvs.length) := fun W hWW => by
          have h1 := (HS.out w4 hW.out.1).2
          obtain ⟨q1, _, q3, q4⟩ := HFY.out W (h1.trans (hWW.mono h1.size))
          exact ⟨q1, q3.lks, q4, hW.out.2.same (hWW.block M hW.out.2.lt)⟩
        obtain ⟨_, ⟨m0, m1⟩, _⟩ := HFY.out w4 (HS.out w4 hW.out.1).2
        clear hW HS HFY
        go_wp2_with fail
        clear m0 m1
        go_loopw [72] (fun q wr => ∃ k : Nat, k ≤ n.L ∧ q = .int .i64 k ∧ Hid (Below w4.heap.size w4 wr)) (fun q _ => n.L - (intOf q).toNat)
        case atStart => exact ⟨0, by omega, rfl, Below.refl _ _⟩
        case round =>
          obtain ⟨k, hk, rfl, hW⟩ := hrel
          by_cases hkL : k < n.L
          · obtain ⟨_, f1, _, _⟩ := HS4.out wr hW.out
            obtain ⟨lb, loff, el, _⟩ := CRow.some f1 (by omega)
            rw [el] at f1 ⊢
            obtain ⟨c0, c1, c2, c3, c4, c5⟩ := LRow.cells f1 hkL
            obtain ⟨o1, o2, o3, _⟩ := HR.out.links.ok _ hkL
            obtain ⟨lw1, lw2, _, _⟩ := HWF.out.link k hkL
            have htold := lv_told HR.out hkL
            have hra : n.live k = false → roleOf n.ends x (n.ls k).a.toNat (n.ls k).pa = 0 ∧ roleOf n.ends x (n.ls k).b.toNat (n.ls k).pb = 0 := fun hl => by
              constructor
              · refine (roleOf_at HR.out x (e := Pl.eA (n.ls k) (n.live k)) (Pl.eA_mem HR.out.links n.live hkL)).trans ?_
                unfold Pl.roleAt Pl.eA
                rw [hl]
                rfl
              · refine (roleOf_at HR.out x (e := Pl.eB (n.ls k) (n.live k)) (Pl.eB_mem HR.out.links n.live hkL)).trans ?_
                unfold Pl.roleAt Pl.eB
                rw [hl]
                rfl
            generalize n.live k = lv at *
            generalize n.ls k = l at *
            obtain ⟨la, pa, lb', pb, co, up⟩ := l
            simp only at c0 c1 c2 c3 c4 c5 o1 o2 o3 hra htold lw1 lw2
            obtain ⟨na, rfl⟩ : ∃ na : Nat, la = na := ⟨la.toNat, by omega⟩
            obtain ⟨nb, rfl⟩ : ∃ nb : Nat, lb' = nb := ⟨lb'.toNat, by omega⟩
            rw [Int.toNat_natCast, Int.toNat_natCast] at hra
            have hna : na < n.K := by omega
            have hnb : nb < n.K := by omega
            obtain ⟨Z, HZ⟩ : ∃ Z, Hid (Z = wr.alloc (.cells #[.int .i64 na, .int .i64 pa, .int .i64 nb, .int .i64 pb, .int .i64 co, .bool up] 46)) := ⟨_, rfl⟩
            have hZB : Below wr.heap.size wr Z := by rw [HZ.out]; exact below_alloc1 _ _
            obtain ⟨B, HB⟩ : ∃ B, Hid (B = wr.heap.size) := ⟨_, rfl⟩
            have hZl : Z.heap[B]? = some (.cells #[.int .i64 na, .int .i64 pa, .int .i64 nb, .int .i64 pb, .int .i64 co, .bool up] 46 (0, 0)) := by rw [HZ.out, HB.out]; exact heap_alloc_last _ _
            have hwZ : Below w4.heap.size w4 Z := hW.out.trans (hZB.mono hW.out.size)
            have hpl := (HS4.out Z hwZ).1
            have HLK : Hid (∀ W, Below Z.heap.size Z W → (Instr.lookup 52 (.map (some M)) (.agg #[.int .i64 na, .int .i64 pa]) false).run Tryz.prog W = .ok (.bool lv) W) := fun W hWW => by
              have h1 := (HS4.out W (hwZ.trans (hWW.mono hwZ.size))).2.2.2.look ((na : Int), pa) lw1 lw2
              rw [htold] at h1
              exact h1
            obtain ⟨q0, q1, q2, q3, q4, q5⟩ := lk_cells hZl
            have HN : Hid (∀ W, Below Z.heap.size Z W → Below w4.heap.size w4 W) := fun W hWW => hwZ.trans (hWW.mono hwZ.size)
            have i0 : (0 : Int) ≤ (k : Int) := by omega
            have i1 : (k : Int) < (n.L : Int) := by omega
            have ia0 : (0 : Int) ≤ (na : Int) := by omega
            have ia1 : (na : Int) < (n.K : Int) := by omega
            have ib0 : (0 : Int) ≤ (nb : Int) := by omega
            have ib1 : (nb : Int) < (n.K : Int) := by omega
            cases lv with
            | true =>
              have lk0 : ∀ q, (Instr.lookup 52 (.map (some M)) (.agg #[.int .i64 na, .int .i64 pa]) false).run Tryz.prog (Z.drewN q) = .ok (.bool true) (Z.drewN q) := fun q => HLK.out _ (below_drewN (Below.refl _ _) q)
              clear hW f1 o1 o2 o3 hpl hra htold lw1 lw2 hZB hZl hwZ HS4 HR HWF HXX HLK HX HM el
              go_wp2_with fail
              rw [← HZ.out, ← HB.out]
              go_quiet (fail)
              go_wp2_with fail
              exact ⟨⟨k + 1, by omega, by go_num, HN.out _ (below_drewN (Below.refl _ _) _)⟩, by simp [intOf]; omega⟩
            | false =>
              obtain ⟨hra0, hrb0⟩ := hra rfl
              obtain ⟨va5, va6, hcA, hRA⟩ := place_role hpl hna (ends_few n na hLf)
              obtain ⟨vb5, vb6, hcB, hRB⟩ := place_role hpl hnb (ends_few n nb hLf)
              have HCA : Hid (∀ W, Below Z.heap.size Z W → Calls Tryz.prog 19 #[.agg #[.int .u64 (x na).v.root, .int .i64 (x na).v.cost, .int .u64 (x na).v.bridge, .int .i64 (x na).v.port, .int .i64 (x na).rp, va5, va6], .int .i64 pa] W fun e w' => e = .returned (.int .i64 0) ∧ Hid (Below Z.heap.size Z w')) := by rw [← hra0]; exact hRA pa
              have HCB : Hid (∀ W, Below Z.heap.size Z W → Calls Tryz.prog 19 #[.agg #[.int .u64 (x nb).v.root, .int .i64 (x nb).v.cost, .int .u64 (x nb).v.bridge, .int .i64 (x nb).v.port, .int .i64 (x nb).rp, vb5, vb6], .int .i64 pb] W fun e w' => e = .returned (.int .i64 0) ∧ Hid (Below Z.heap.size Z w')) := by rw [← hrb0]; exact hRB pb
              have HSW : Hid (∀ W, Below Z.heap.size Z W → (Instr.lookup 52 (.map (some M)) (.agg #[.int .i64 na, .int .i64 pa]) false).run Tryz.prog W = .ok (.bool false) W ∧ (W.cell? ⟨B, 0, none⟩ = some (.int .i64 na) ∧ W.cell? ⟨B, 1, none⟩ = some (.int .i64 pa) ∧ W.cell? ⟨B, 2, none⟩ = some (.int .i64 nb) ∧ W.cell? ⟨B, 3, none⟩ = some (.int .i64 pb)) ∧
                  (W.cell? ⟨P, na * 7, none⟩ = some (.int .u64 (x na).v.root) ∧ W.cell? ⟨P, na * 7 + 1, none⟩ = some (.int .i64 (x na).v.cost) ∧ W.cell? ⟨P, na * 7 + 2, none⟩ = some (.int .u64 (x na).v.bridge) ∧ W.cell? ⟨P, na * 7 + 3, none⟩ = some (.int .i64 (x na).v.port) ∧ W.cell? ⟨P, na * 7 + 4, none⟩ = some (.int .i64 (x na).rp) ∧ W.cell? ⟨P, na * 7 + 5, none⟩ = some va5 ∧ W.cell? ⟨P, na * 7 + 6, none⟩ = some va6) ∧
                  (W.cell? ⟨P, nb * 7, none⟩ = some (.int .u64 (x nb).v.root) ∧ W.cell? ⟨P, nb * 7 + 1, none⟩ = some (.int .i64 (x nb).v.cost) ∧ W.cell? ⟨P, nb * 7 + 2, none⟩ = some (.int .u64 (x nb).v.bridge) ∧ W.cell? ⟨P, nb * 7 + 3, none⟩ = some (.int .i64 (x nb).v.port) ∧ W.cell? ⟨P, nb * 7 + 4, none⟩ = some (.int .i64 (x nb).rp) ∧ W.cell? ⟨P, nb * 7 + 5, none⟩ = some vb5 ∧ W.cell? ⟨P, nb * 7 + 6, none⟩ = some vb6)) := fun W hWW => by
                obtain ⟨q0, q1, q2, q3, _, _⟩ := lk_cells (keep hZl hWW)
                have hPZ := block_lt_of_cell hcA.1
                have up : ∀ (s : Nat) v, Z.cell? ⟨P, s, none⟩ = some v → W.cell? ⟨P, s, none⟩ = some v := fun s v h => (hWW.cell (by exact hPZ)).trans h
                exact ⟨HLK.out W hWW, ⟨q0, q1, q2, q3⟩, ⟨up _ _ hcA.1, up _ _ hcA.2.1, up _ _ hcA.2.2.1, up _ _ hcA.2.2.2.1, up _ _ hcA.2.2.2.2.1, up _ _ hcA.2.2.2.2.2.1, up _ _ hcA.2.2.2.2.2.2⟩, ⟨up _ _ hcB.1, up _ _ hcB.2.1, up _ _ hcB.2.2.1, up _ _ hcB.2.2.2.1, up _ _ hcB.2.2.2.2.1, up _ _ hcB.2.2.2.2.2.1, up _ _ hcB.2.2.2.2.2.2⟩⟩
              have HB0 : Hid (Below Z.heap.size Z Z) := Below.refl _ _
              clear hW f1 o1 o2 o3 hpl hra htold lw1 lw2 hZB hZl hwZ HS4 HR HWF HXX HLK HX HM el hcA hcB hRA hRB hra0 hrb0 q0 q1 q2 q3 q4 q5
              generalize (x na).v.root = xa0 at *
              generalize (x na).v.cost = xa1 at *
              generalize (x na).v.bridge = xa2 at *
              generalize (x na).v.port = xa3 at *
              generalize (x na).rp = xa4 at *
              generalize (x nb).v.root = xb0 at *
              generalize (x nb).v.cost = xb1 at *
              generalize (x nb).v.bridge = xb2 at *
              generalize (x nb).v.port = xb3 at *
              generalize (x nb).rp = xb4 at *
              go_wp2_with fail
              rw [← HZ.out, ← HB.out]
              clear HZ HB c0 c1 c2 c3 c4 c5
              have s0 := HSW.out Z HB0.out
              go_region_held3 (fun W => (Instr.lookup 52 (.map (some M)) (.agg #[.int .i64 na, .int .i64 pa]) false).run Tryz.prog W = .ok (.bool false) W ∧ (W.cell? ⟨B, 0, none⟩ = some (.int .i64 na) ∧ W.cell? ⟨B, 1, none⟩ = some (.int .i64 pa) ∧ W.cell? ⟨B, 2, none⟩ = some (.int .i64 nb) ∧ W.cell? ⟨B, 3, none⟩ = some (.int .i64 pb)) ∧
                  (W.cell? ⟨P, na * 7, none⟩ = some (.int .u64 xa0) ∧ W.cell? ⟨P, na * 7 + 1, none⟩ = some (.int .i64 xa1) ∧ W.cell? ⟨P, na * 7 + 2, none⟩ = some (.int .u64 xa2) ∧ W.cell? ⟨P, na * 7 + 3, none⟩ = some (.int .i64 xa3) ∧ W.cell? ⟨P, na * 7 + 4, none⟩ = some (.int .i64 xa4) ∧ W.cell? ⟨P, na * 7 + 5, none⟩ = some va5 ∧ W.cell? ⟨P, na * 7 + 6, none⟩ = some va6) ∧
                  (W.cell? ⟨P, nb * 7, none⟩ = some (.int .u64 xb0) ∧ W.cell? ⟨P, nb * 7 + 1, none⟩ = some (.int .i64 xb1) ∧ W.cell? ⟨P, nb * 7 + 2, none⟩ = some (.int .u64 xb2) ∧ W.cell? ⟨P, nb * 7 + 3, none⟩ = some (.int .i64 xb3) ∧ W.cell? ⟨P, nb * 7 + 4, none⟩ = some (.int .i64 xb4) ∧ W.cell? ⟨P, nb * 7 + 5, none⟩ = some vb5 ∧ W.cell? ⟨P, nb * 7 + 6, none⟩ = some vb6))
                (first | (exact HSW.out _ (Hid.out (by assumption))) | (exact HSW.out _ (Below.drew (Hid.out (by assumption)))))
                (first | (go_at_call 19; (with_reducible refine (HCA.out _ (Below.drew HB0.out)).mono ?_); rintro e w5 ⟨rfl, HB5⟩) | (go_at_call 19; (with_reducible refine (HCB.out _ HB5.out).mono ?_); rintro e w6 ⟨rfl, HB6⟩))
              clear s0 HSW HCA HCB
              go_wp2_with fail
              exact ⟨⟨k + 1, by omega, by go_num, HN.out _ HB6.out⟩, by simp [intOf]; omega⟩
          · have hnk2 : ¬ (k : Int) < (n.L : Int) := by omega
            have h1 := (HS4.out wr hW.out).2.2.1
            clear HS4 hW
            go_wp2_with fail
            go_ret
            exact ⟨rfl, h1⟩
end Go.Proofs.YtcbpafpaimpfnaaGreatDoor

namespace Go.Proofs.YtcbpafpaimpfnaaGreatDoor.planEnds
open Go.ChangeShapes Go.WideShapes Go.ChangeAt Go.RowKit

set_option maxRecDepth 100000 in
theorem contract (H : Type) (enc : TypeId × Value → H) (W : World) (base : Nat) (args : Array Value) (ds gs : List (DataW H)) (before : List MemPlace)
    (hval : ∀ (j : Nat) t v, Tryz.f6.params[j]? = some t → args[j]? = some v → Value.okWide Tryz.prog W .any base t v)
    (hW : DataW.Whole enc Tryz.prog Tryz.f6.params.toList Rows.planEndsSpec.vars false W args.toList ds gs before)
    (hsz : (DataW.weightsEach Tryz.prog (Tryz.f6.params.toList ++ (OpenSpec.ofChange Rows.planEndsSpec).bare.plain.varTypes Tryz.prog) (ds ++ gs)).all (· ≤ reachBytes) = true)
    (hL : laidMetH Tryz.prog Rows.planEndsRow.laid W) :
    Calls Tryz.prog 6 args W fun e W' => ∃ v, e = .returned v ∧ Rows.planEndsSpec.post enc Tryz.prog Tryz.f6 false true false false W args v W' := by
  have hW' := hW
  obtain ⟨p, q, hA0, hV, rfl, hfz, hnd⟩ := hW
  have hA : DataW.TrodAll enc Tryz.prog W 0 (fun _ => true) true Tryz.f6.params.toList args.toList ds p := hA0
  rw [Tryz.params6] at hA hval hsz
  obtain ⟨v0, vs0, d0, ds0, p0, q0, hargs, rfl, rfl, h0, r0⟩ := trodAll_cons hA
  obtain ⟨v1, vs1, d1, ds1, p1, q1, rfl, rfl, rfl, h1, r1⟩ := trodAll_cons r0
  obtain ⟨rfl, rfl, rfl⟩ := trodAll_nil r1
  obtain rfl : args = #[v0, v1] := by cases args; simp_all
  obtain ⟨rfl, rfl⟩ := trodVars_none hV
  have lt0 : ∀ x ∈ p0, x.block < W.heap.size := by obtain ⟨m, hm⟩ := h0; exact DataW.trod_lt m _ _ _ hm
  obtain ⟨n0, rfl, hat0, hwf0, hz0⟩ := net_in (hval 0 25 v0 rfl rfl) h0
  have lt1 : ∀ x ∈ p1, x.block < W.heap.size := by obtain ⟨m, hm⟩ := h1; exact DataW.trod_lt m _ _ _ hm
  obtain ⟨z1, rfl⟩ := okWide_int Tryz.underlying3 (hval 1 3 v1 rfl rfl)
  have hall := hsz
  simp only [List.cons_append, DataW.weightsEach, List.all_append, Bool.and_eq_true] at hall
  have hm0 := hz0 hall.1
  unfold reachBytes at hm0
  have hT := tabs_of hL
  have hG : 2 ≤ W.heap.size := hT.lt
  clear hA0 hall hsz
  refine (pendsLaw_any n0 z1 W hat0 hwf0 hT hG).mono fun e W' ⟨he, bel⟩ => ?_
  subst he
  exact ⟨_, rfl, _, _, _, [], _, [], hW', trodAll_mk1 (shut_bool Tryz.underlying4 _), (trodAll_cons_mk (Below.trod laidOut (by kernel_rfl) (of_decide_eq_true (by kernel_rfl)) h0 bel lt0) (trodAll_cons_mk (Below.trod laidOut (by kernel_rfl) (of_decide_eq_true (by kernel_rfl)) h1 bel lt1) trodAll_mk0)), rfl, bel.frame _, fun h => by cases h⟩

theorem laid_met (os : Os) : laidMet Tryz.prog Rows.planEndsRow.laid ((laidW (World.holding Tryz.prog os ⟨#[], #[], []⟩)).forCall (fun _ _ => 0) ⟨#[], #[.agg #[.slice none 0 0, .slice none 0 0], .int .i64 0], []⟩).memory :=
  laidMet_of_run' 8 (by kernel_rfl) (by kernel_rfl)
theorem reads (os : Os) {H : Type} (enc : TypeId × Value → H) : ∃ places, DataW.whole enc Tryz.prog ((laidW (World.holding Tryz.prog os ⟨#[], #[], []⟩)).forCall (fun _ _ => 0) ⟨#[], #[.agg #[.slice none 0 0, .slice none 0 0], .int .i64 0], []⟩).memory Tryz.f6.params.toList Rows.planEndsSpec.vars false #[Value.agg #[.slice none 0 0, .slice none 0 0], .int .i64 0].toList 8 = some ([.agg [.nil, .nil], .lit (.int .i64 0)], [], places) :=
  ⟨[], by kernel_rfl⟩

set_option maxRecDepth 100000 in
theorem lifted (os : Os) (started : os.Started) (H : Type) (enc : TypeId × Value → H) (F : Stop.Interp) :
    ReturnsInHanded {} Tryz.checked os 6 .any ((OpenSpec.ofChange Rows.planEndsSpec).preRow enc Tryz.prog Tryz.f6 Rows.planEndsRow.domain false Rows.planEndsRow.laid) (((OpenSpec.ofChange Rows.planEndsSpec).at F).post enc Tryz.prog Tryz.f6 false true false false) := by
  obtain ⟨places, hx⟩ := reads os enc
  refine returnsInHanded_of_row (C := Tryz.checked) (s := OpenSpec.ofChange Rows.planEndsSpec) own started (by kernel_rfl) Tryz.func6
    (witness_row_at (enc := enc) (C := Tryz.checked) false (laidW (World.holding Tryz.prog os ⟨#[], #[], []⟩)) #[.agg #[.slice none 0 0, .slice none 0 0], .int .i64 0] rfl (by kernel_rfl) (by kernel_rfl) (by kernel_rfl)
      (OpenSpec.preRow_of_cond 8 hx (by kernel_rfl) (fun k hk => by cases hk) (by kernel_rfl) (laid_met os))) ?_
  intro W base args ds gs before hval hW _ _ hsz hL _ _
  exact contract H enc W base args ds gs before hval hW hsz hL

theorem said : Rows.PlanEndsSaid :=
  OpenClaim.holds_of_cond 6 Tryz.f6 rfl rfl rfl rfl rfl rfl rfl ⟨rfl, rfl, rfl, rfl, rfl⟩ rfl rfl rfl rfl rfl (by kernel_rfl) Tryz.func6 (by kernel_rfl)
    (of_decide_eq_true (by kernel_rfl)) (by unfold Func.isWrapper; first | (rw [if_pos (by decide +kernel)]; kernel_rfl) | (rw [if_neg (by decide +kernel)]; exact ⟨rfl, rfl⟩))
    (fun os started H enc _ F => by rw [OpenClaim.pre_eq_preRow]; exact lifted os started H enc F)

theorem plain (f : FuncId) (fn : Func) (hf : Tryz.pinned.checked.prog.funcNamed "hedgerow/hedgelaw6.PlanEnds" = some f) (hfn : Tryz.pinned.checked.prog.funcs[f]? = some fn) :
    false = Tryz.pinned.checked.prog.looks [] ∧ ∀ (j : Nat) t, fn.params[j]? = some t → Tryz.pinned.checked.prog.wantsStandIn t = false := by
  obtain rfl : f = 6 := Option.some.inj ((show Tryz.prog.funcNamed "hedgerow/hedgelaw6.PlanEnds" = some 6 by kernel_rfl).symm.trans hf) |>.symm
  obtain rfl : fn = Tryz.f6 := (Option.some.inj (Tryz.func6.symm.trans hfn)).symm
  refine ⟨by kernel_rfl, fun j t ht => ?_⟩
  rw [Tryz.params6] at ht
  have h1 : Tryz.prog.wantsStandIn 25 = false := by kernel_rfl
  have h2 : Tryz.prog.wantsStandIn 3 = false := by kernel_rfl
  have ht2 : t = 25 ∨ t = 3 := by simpa using Array.mem_of_getElem? ht
  rcases ht2 with rfl | rfl
  · exact h1
  · exact h2

/-- ████ THE CARD ████ -/
theorem card : Rows.PlanEndsCardSaid :=
  Claim7.holds_tied_plain_at .later [] _ _ _ _ said (fun _ h => by cases h) (by kernel_rfl) (fun _ h => by cases h) planEnds_row_tie rfl ⟨rfl, rfl⟩ (by kernel_rfl) rfl plain (by kernel_rfl)
end Go.Proofs.YtcbpafpaimpfnaaGreatDoor.planEnds
namespace Go.Proofs.YtcbpafpaimpfnaaGreatDoor
/-- EACH LINK HAS ONE WHO SPEAKS: the statement, as it was given. -/
theorem planEnds_card : Rows.PlanEndsCardSaid := planEnds.card
#print axioms planEnds_card
end Go.Proofs.YtcbpafpaimpfnaaGreatDoor
