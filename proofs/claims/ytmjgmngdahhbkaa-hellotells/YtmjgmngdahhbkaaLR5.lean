/- walks: the document's Parse, of hellos -/
import Derived.Test.YtmjgmngdahhbkaaLR1
import Derived.Test.YtmjgmngdahhbkaaLR2
import Derived.Test.YtmjgmngdahhbkaaLAp
import Derived.Test.YtmjgmngdahhbkaaLW5
namespace Go.Proofs.Ytmjgmngdahhbkaa
open Go.RowKit
open Hl (Tl)

/-- 'append(s, x...)', of tales, s a row of the call's own. -/
theorem wpList_append_tales {w : World} {ops : Array Oper} {rest : List Oper} {o : Oper} {a : Act} {Q : Exit → Act → World → Prop} (hgd : o.guard = none) (s x : Operand)
    (ho : o.op = .call { callee := .builtin .append, args := #[s, x], argTypes := #[23, 23] }) (hty : o.type = 23) (base : Nat)
    (v : Value) (n : Nat) (us : Nat → Tl) (hs : a.eval s = v) (hown : w.ownsRow base 39 6 v n (talesL n us))
    (xo : Option Addr) (m c : Nat) (ts : Nat → Tl) (hx : a.eval x = .slice xo m c) (hr : TaleRow w xo m c ts) (hnil : NilOk xo m c) (hb : (n + m) * 48 ≤ 140737488355328) (hbase : base ≤ w.heap.size)
    (h : ∀ a1 c1 w', Hid (w'.ownsRow base 39 6 (.slice a1 (n + m) c1) (n + m) (talesL (n + m) (catT n us ts)) ∧ Below base w w') → wpList Try.prog ops Q rest (a.put o.dst (.slice a1 (n + m) c1)) w') : wpList Try.prog ops Q (o :: rest) a w := by
  obtain ⟨a1, c1, w', hrun, h1, h2⟩ := append_tales w base v n us hown xo m c ts hr hnil hb hbase
  refine wpList_plain hgd fun K hK => ?_
  unfold Oper.wp execOp
  simp only [ho, hty, resolve, invoke, builtin, Sem.run_bind, Sem.run_pure, Result.andThen_ok, List.map_toArray, List.map_cons, List.map_nil, hs, hx, hrun]
  exact hK _ _ (h a1 c1 w' ⟨h1, h2⟩)
set_option maxHeartbeats 1000000 in
theorem rparse_short_hl (ao : Option Addr) (n c : Nat) (bs : Nat → Int) (w : World) (hr : ByteRow w ao n c bs) (hbs : ∀ i, i < n → 0 ≤ bs i ∧ bs i ≤ 255) (hs : ¬ (17 ≤ n ∧ (n : Int) = 17 + bs 16 * 23)) :
    Calls Try.prog 11 #[.slice ao n c] w fun e w' => e = .returned (.tuple #[.agg #[.slice none 0 0, .slice none 0 0], .int .i64 2]) ∧ Below w.heap.size w w' := by
  have hcap : n ≤ c := hr.1
  by_cases h17 : (n : Int) < 17
  · clear hr hs hbs
    go_enter Try.func11, Try.ntmps11
    go_wp2_with fail
    exact bodyPost_ret (v := .tuple #[.agg #[.slice none 0 0, .slice none 0 0], .int .i64 2]) (results_row_tmp (p := 2) (u := 3) (ty := 25) Try.results11 _ _ w.heap.size 25 #[.slice none 0 0, .slice none 0 0] (0, 0) _ rfl (heap_alloc_last w _) Try.underlying25 rfl (by rw [sizeHl]; rfl)) rfl ⟨rfl, below_alloc1 _ _⟩
  · obtain ⟨b, off, rfl, hb, hc⟩ := hr.2 (by omega)
    obtain ⟨m, hm⟩ := Int.eq_ofNat_of_zero_le (hbs 16 (by omega)).1
    have hm2 : m ≤ 255 := by have := (hbs 16 (by omega)).2; omega
    have c16 : (w.alloc (.cells #[.slice none 0 0, .slice none 0 0] 25)).cell? ⟨b, off + 16, none⟩ = some (.int .u8 (m : Int)) := by
      rw [← hm]; exact ((below_alloc1 w _).cell (by exact hb)).trans (hc 16 (by omega))
    have hne : ((n : Int) != 17 + 23 * (m : Int)) = true := by
      simp
      intro e
      exact hs ⟨by omega, by rw [hm]; omega⟩
    clear hr hs hbs hc hm
    go_enter Try.func11, Try.ntmps11
    go_wp2_with fail
    exact bodyPost_ret (v := .tuple #[.agg #[.slice none 0 0, .slice none 0 0], .int .i64 2]) (results_row_tmp (p := 2) (u := 3) (ty := 25) Try.results11 _ _ w.heap.size 25 #[.slice none 0 0, .slice none 0 0] (0, 0) _ rfl (heap_alloc_last w _) Try.underlying25 rfl (by rw [sizeHl]; rfl)) rfl ⟨rfl, below_alloc1 _ _⟩
theorem num_ext (f g : Nat → Int) (h : ∀ i, f i = g i) {k : Nat} : num f k = num g k := by rw [show f = g from funext h]
theorem ownsT_lt {w : World} {base n : Nat} {v : Value} {xs : List Value} (h : w.ownsRow base 39 6 v n xs) : ∀ k, v.ownBlock = some k → k < w.heap.size := by
  intro k hk
  obtain ⟨_, h2⟩ := h
  rcases h2 with ⟨rfl, _⟩ | ⟨g, cap, cur, rfl, hg, hh, _⟩
  · simp [Value.ownBlock] at hk
  · simp [Value.ownBlock] at hk
    subst hk
    exact (Array.getElem?_eq_some_iff.1 hh).1
/-- Within the document's Parse: the answer's block, the hello's, and the tales so far (v). -/
structure RPar (w wx : World) (b off c k : Nat) (bs : Nat → Int) (v : Value) : Prop where
  res : wx.heap[w.heap.size]? = some (.cells #[.slice none 0 0, .slice none 0 0] 25 (0, 0))
  hel : wx.heap[w.heap.size + 1]? = some (.cells #[.slice (some ⟨b, off, none⟩) 16 c, v] 25 (0, 0))
  own : wx.ownsRow (w.heap.size + 2) 39 6 v k (talesL k (Hl.talesF bs))
  low : Below w.heap.size w wx
  base : w.heap.size + 2 ≤ wx.heap.size
theorem RPar.grow {w wx w1 : World} {b off c k : Nat} {bs : Nat → Int} {v : Value} (h : RPar w wx b off c k bs v) (hb : Below wx.heap.size wx w1) : RPar w w1 b off c k bs v :=
  ⟨keep h.res hb, keep h.hel hb, ownsT_below h.own hb, h.low.trans (hb.mono h.low.size), Nat.le_trans h.base hb.size⟩
theorem RPar.drew {w wx : World} {b off c k : Nat} {bs : Nat → Int} {v : Value} (h : RPar w wx b off c k bs v) : RPar w wx.drew b off c k bs v :=
  ⟨h.res, h.hel, h.own, h.low.drew, h.base⟩
/-- A store into a block of its own. -/
theorem RPar.set {w wx : World} {b off c k : Nat} {bs : Nat → Int} {v : Value} (h : RPar w wx b off c k bs v) {g i : Nat} {x : Value} (hg : w.heap.size + 2 ≤ g) (hne : v.ownBlock ≠ some g) : RPar w (wx.setCell ⟨g, i, none⟩ x) b off c k bs v := by
  refine ⟨(heap_setCell_other _ _ _ _ (by show w.heap.size ≠ g; omega)).trans h.res, (heap_setCell_other _ _ _ _ (by show w.heap.size + 1 ≠ g; omega)).trans h.hel, ?_, h.low.setCell (by show w.heap.size ≤ g; omega) _, by have := h.base; simp [World.setCell]; exact this⟩
  obtain ⟨h1, h2⟩ := h.own
  refine ⟨h1, ?_⟩
  rcases h2 with h2 | ⟨q, cap, cur, hv, hq, hh, r⟩
  · exact Or.inl h2
  · refine Or.inr ⟨q, cap, cur, hv, hq, (heap_setCell_other _ _ _ _ (by show q ≠ g; intro e; subst e; rw [hv] at hne; exact hne rfl)).trans hh, r⟩
set_option maxHeartbeats 2000000 in
theorem rparse_long_hl (b off m c N : Nat) (bs : Nat → Int) (w : World) (hr : ByteRow w (some ⟨b, off, none⟩) N c bs) (hbs : ∀ i, i < N → 0 ≤ bs i ∧ bs i ≤ 255) (hm : bs 16 = (m : Int)) (hm2 : m ≤ 255) (hN : N = 17 + m * 23) :
    Calls Try.prog 11 #[.slice (some ⟨b, off, none⟩) N c] w fun e w' => LParse N bs e w' ∧ Below w.heap.size w w' := by
  have hcap : N ≤ c := hr.1
  have HR : Hid (ByteRow w (some ⟨b, off, none⟩) N c bs) := hr
  have HBS : Hid (∀ i, i < N → 0 ≤ bs i ∧ bs i ≤ 255) := hbs
  have hbw : b < w.heap.size := by obtain ⟨_, _, e, h, _⟩ := hr.2 (by omega); cases e; exact h
  have HCB : Hid (∀ W i, Below w.heap.size w W → i < N → W.cell? ⟨b, off + i, none⟩ = some (.int .u8 (bs i))) := fun W i hW hi => by
    obtain ⟨_, _, e, _, hc⟩ := HR.out.2 (by omega)
    cases e
    exact (hW.cell (by exact hbw)).trans (hc i hi)
  have c16 : (w.alloc (.cells #[.slice none 0 0, .slice none 0 0] 25)).cell? ⟨b, off + 16, none⟩ = some (.int .u8 (m : Int)) := by rw [← hm]; exact HCB.out _ 16 (below_alloc1 _ _) (by omega)
  have hne : ((N : Int) != 17 + 23 * (m : Int)) = false := by rw [hN]; simp; omega
  have i17 : ¬ ((N : Int) < 17) := by omega
  have i16 : (16 : Int) ≤ (c : Int) := by omega
  have i18 : (16 : Int) < (N : Int) := by omega
  have HNN : Hid (N = 17 + m * 23) := hN
  have h17N : 17 ≤ N := by omega
  clear hr hbs hN
  go_enter Try.func11, Try.ntmps11
  go_wp2_with fail
  have H0 : Hid (RPar w ((w.alloc (.cells #[.slice none 0 0, .slice none 0 0] 25)).alloc (.cells #[.slice (some ⟨b, off, none⟩) 16 c, .slice none 0 0] 25)) b off c 0 bs (.slice none 0 0)) :=
    ⟨heap_alloc2_old w _ _, heap_alloc2_new w _ _, ⟨rfl, Or.inl ⟨rfl, rfl⟩⟩, below_alloc2 _ _ _, by simp⟩
  clear c16 hne i17 i16
  go_loopw [6] (fun i wr => ∃ k : Nat, ∃ v, k ≤ m ∧ i = .int .i64 k ∧ Hid (RPar w wr b off c k bs v)) (fun i _ => m - (intOf i).toNat)
  case atStart => exact ⟨0, _, by omega, rfl, H0⟩
  case round =>
    obtain ⟨k, v, hk, rfl, hX⟩ := hrel
    by_cases hlt : k < m
    · obtain ⟨P, hP⟩ : ∃ P : Nat, P = 17 + k * 23 := ⟨17 + k * 23, rfl⟩
      have hNN := HNN.out
      have hP2 : (17 : Int) + 23 * (k : Int) = (P : Int) := by omega
      have e0 : wr.cell? ⟨b, off + P, none⟩ = some (.int .u8 (bs P)) := HCB.out _ _ hX.out.low (by omega)
      have e1 : wr.cell? ⟨b, off + (P + 1), none⟩ = some (.int .u8 (bs (P + 1))) := HCB.out _ _ hX.out.low (by omega)
      have HE22 : Hid (∀ W, Below w.heap.size w W → W.cell? ⟨b, off + (P + 22), none⟩ = some (.int .u8 (bs (P + 22)))) := fun W hW => HCB.out _ _ hW (by omega)
      have r0 := HBS.out P (by omega)
      have r1 := HBS.out (P + 1) (by omega)
      have r22 := HBS.out (P + 22) (by omega)
      have v0 : IntKind.i64.wrap (bs P) = bs P := wraps_i64 _ (by omega) (by omega)
      have v1 : IntKind.i64.wrap (bs (P + 1)) = bs (P + 1) := wraps_i64 _ (by omega) (by omega)
      have w1 : IntKind.i64.wrap ((P : Int) + 1) = (P : Int) + 1 := wraps_i64 _ (by omega) (by omega)
      have l0 : (P : Int) < (N : Int) := by omega
      have l1 : (P : Int) + 1 < (N : Int) := by omega
      have l2 : (P : Int) + 22 < (N : Int) := by omega
      have l3 : (0 : Int) ≤ (P : Int) + 1 := by omega
      have l4 : ¬ ((P : Int) + 1 < 0) := by omega
      have l5 : ((P : Int) + 1).toNat = P + 1 := by omega
      clear hNN
      have HP : Hid (P = 17 + k * 23) := hP
      clear H0 hP
      go_wp2_with fail
      clear hP2
      have HRP : Hid (∀ ty, RPar w (wr.alloc (.cells #[.int .i64 (bs P), .int .u64 0, .int .i64 0, .int .u64 0, .int .i64 0, .int .i64 (bs (P + 1))] ty)).drew b off c k bs v ∧ (wr.alloc (.cells #[.int .i64 (bs P), .int .u64 0, .int .i64 0, .int .u64 0, .int .i64 0, .int .i64 (bs (P + 1))] ty)).drew.heap[wr.heap.size]? = some (.cells (tlA ⟨bs P, 0, 0, 0, 0, bs (P + 1)⟩) ty (0, 0))) := fun ty => ⟨(hX.out.grow (below_alloc1 wr _)).drew, drew_row (heap_alloc_last wr _)⟩
      go_cut [8] (fun s8 wx => s8 = .pointer (some ⟨wr.heap.size, 0, none⟩) ∧ Hid (RPar w wx b off c k bs v ∧ wx.heap[wr.heap.size]? = some (.cells (tlA ⟨bs (P), 0, 0, 0, 0, bs (P + 1)⟩) 39 (0, 0))))
      case first =>
        go_region_held3 (fun W => W.cell? ⟨b, off + P, none⟩ = some (.int .u8 (bs (P))) ∧ W.cell? ⟨b, off + (P + 1), none⟩ = some (.int .u8 (bs (P + 1))))
          (go_keep)
          (fail)
        all_goals go_wp2_with fail
        all_goals go_meet
        all_goals exact ⟨rfl, HRP.out _⟩
      case rest =>
      obtain ⟨rfl, H1⟩ := hcut
      have HNE : Hid (v.ownBlock ≠ some wr.heap.size) := fun e => by have := ownsT_lt hX.out.own _ e; omega
      have HTB : Hid (w.heap.size + 2 ≤ wr.heap.size) := hX.out.base
      have HAT : Hid (∀ (a S : Nat) (A : Int) (W : World), A = (a : Int) → a + S ≤ N → S ≤ 8 → 0 < S → a ≤ 100000 → Below w.heap.size w W → Calls Try.prog 21 #[.slice (some ⟨b, off, none⟩) N c, .int .i64 A, .int .i64 (S : Int)] W fun e w' => e = .returned (.int .u64 (num (fun i => bs (a + i)) S)) ∧ w' = W) := fun a S A W hA h1 h2 h3 h4 hW => by
        rw [hA]; exact lat_core b off N c a S bs W (HR.out.below hW) HBS.out h1 h2 h3 h4
      have hP' := HP.out
      have hN' := HNN.out
      have HA2 : Hid (∀ (W : World), Below w.heap.size w W → Calls Try.prog 21 #[.slice (some ⟨b, off, none⟩) N c, .int .i64 ((P : Int) + 2), .int .i64 8] W fun e w' => e = .returned (.int .u64 (Hl.talesF bs k).root) ∧ w' = W) := fun W hW => by
        have := HAT.out (P + 2) 8 ((P : Int) + 2) W (by omega) (by omega) (by omega) (by omega) (by omega) hW
        rw [num_ext (fun i => bs (P + 2 + i)) (fun i => bs (17 + k * 23 + (2 + i))) (fun i => by rw [hP', Nat.add_assoc])] at this
        exact this
      have HA10 : Hid (∀ (W : World), Below w.heap.size w W → Calls Try.prog 21 #[.slice (some ⟨b, off, none⟩) N c, .int .i64 ((P : Int) + 10), .int .i64 4] W fun e w' => e = .returned (.int .u64 (Hl.talesF bs k).cost) ∧ w' = W) := fun W hW => by
        have := HAT.out (P + 10) 4 ((P : Int) + 10) W (by omega) (by omega) (by omega) (by omega) (by omega) hW
        rw [num_ext (fun i => bs (P + 10 + i)) (fun i => bs (17 + k * 23 + (10 + i))) (fun i => by rw [hP', Nat.add_assoc])] at this
        exact this
      have HA14 : Hid (∀ (W : World), Below w.heap.size w W → Calls Try.prog 21 #[.slice (some ⟨b, off, none⟩) N c, .int .i64 ((P : Int) + 14), .int .i64 8] W fun e w' => e = .returned (.int .u64 (Hl.talesF bs k).bridge) ∧ w' = W) := fun W hW => by
        have := HAT.out (P + 14) 8 ((P : Int) + 14) W (by omega) (by omega) (by omega) (by omega) (by omega) hW
        rw [num_ext (fun i => bs (P + 14 + i)) (fun i => bs (17 + k * 23 + (14 + i))) (fun i => by rw [hP', Nat.add_assoc])] at this
        exact this
      have HTL : Hid (Hl.talesF bs k = ⟨bs P, (Hl.talesF bs k).root, (Hl.talesF bs k).cost, (Hl.talesF bs k).bridge, bs (P + 22), bs (P + 1)⟩) := by rw [hP']; rfl
      have hco : 0 ≤ (Hl.talesF bs k).cost ∧ (Hl.talesF bs k).cost < 4294967296 := Hl.num_range' (fun i => bs (17 + k * 23 + (10 + i))) 4 (fun i hi => HBS.out _ (by omega))
      have hPb : (P : Int) ≤ 100000 := by omega
      have HM2 : Hid (m ≤ 255) := hm2
      clear hP' hN' HAT HRP e0 e1 v0 v1 w1 l3 l4 l5 hX
      generalize (Hl.talesF bs k).root = ro at *
      generalize (Hl.talesF bs k).cost = co at *
      generalize (Hl.talesF bs k).bridge = br at *
      generalize wr.heap.size = TB at *
      obtain ⟨c0, c1, c2, c3, c4, c5⟩ := tl_cells H1.out.2
      obtain ⟨z0, z1, z2, z3, z4, z5⟩ := tl_free H1.out.2
      go_wp2_with fail
      refine (HA2.out _ H1.out.1.low).mono ?_
      rintro e wy ⟨rfl, rfl⟩
      have H2 : Hid (RPar w (wy.setCell ⟨TB, 1, none⟩ (.int .u64 ro)) b off c k bs v ∧ (wy.setCell ⟨TB, 1, none⟩ (.int .u64 ro)).heap[TB]? = some (.cells (tlA ⟨bs P, ro, 0, 0, 0, bs (P + 1)⟩) 39 (0, 0))) :=
        ⟨H1.out.1.set HTB.out HNE.out, by rw [heap_setCell_same _ _ _ _ _ _ H1.out.2]; rfl⟩
      go_wp2_with fail
      generalize wy.setCell ⟨TB, 1, none⟩ (.int .u64 ro) = Y1 at H2 ⊢
      clear H1 c0 c1 c2 c3 c4 c5 z0 z1 z2 z3 z4 z5
      obtain ⟨c0, c1, c2, c3, c4, c5⟩ := tl_cells H2.out.2
      obtain ⟨z0, z1, z2, z3, z4, z5⟩ := tl_free H2.out.2
      refine (HA10.out _ H2.out.1.low).mono ?_
      rintro e wy ⟨rfl, rfl⟩
      have H3 : Hid (RPar w (wy.setCell ⟨TB, 2, none⟩ (.int .i64 co)) b off c k bs v ∧ (wy.setCell ⟨TB, 2, none⟩ (.int .i64 co)).heap[TB]? = some (.cells (tlA ⟨bs P, ro, co, 0, 0, bs (P + 1)⟩) 39 (0, 0))) :=
        ⟨H2.out.1.set HTB.out HNE.out, by rw [heap_setCell_same _ _ _ _ _ _ H2.out.2]; rfl⟩
      go_wp2_with fail
      generalize wy.setCell ⟨TB, 2, none⟩ (.int .i64 co) = Y2 at H3 ⊢
      clear H2 c0 c1 c2 c3 c4 c5 z0 z1 z2 z3 z4 z5
      obtain ⟨c0, c1, c2, c3, c4, c5⟩ := tl_cells H3.out.2
      obtain ⟨z0, z1, z2, z3, z4, z5⟩ := tl_free H3.out.2
      refine (HA14.out _ H3.out.1.low).mono ?_
      rintro e wy ⟨rfl, rfl⟩
      have H4 : Hid (RPar w (wy.setCell ⟨TB, 3, none⟩ (.int .u64 br)) b off c k bs v ∧ (wy.setCell ⟨TB, 3, none⟩ (.int .u64 br)).heap[TB]? = some (.cells (tlA ⟨bs P, ro, co, br, 0, bs (P + 1)⟩) 39 (0, 0))) :=
        ⟨H3.out.1.set HTB.out HNE.out, by rw [heap_setCell_same _ _ _ _ _ _ H3.out.2]; rfl⟩
      have e22 := HE22.out _ H4.out.1.low
      obtain ⟨d0, d1, d2, d3, d4, d5⟩ := tl_cells H4.out.2
      obtain ⟨y0, y1, y2, y3, y4, y5⟩ := tl_free H4.out.2
      have H5 : Hid (RPar w ((wy.setCell ⟨TB, 3, none⟩ (.int .u64 br)).setCell ⟨TB, 4, none⟩ (.int .i64 (bs (P + 22)))) b off c k bs v ∧ ((wy.setCell ⟨TB, 3, none⟩ (.int .u64 br)).setCell ⟨TB, 4, none⟩ (.int .i64 (bs (P + 22)))).heap[TB]? = some (.cells (tlA ⟨bs P, ro, co, br, bs (P + 22), bs (P + 1)⟩) 39 (0, 0))) :=
        ⟨H4.out.1.set HTB.out HNE.out, by rw [heap_setCell_same _ _ _ _ _ _ H4.out.2]; rfl⟩
      obtain ⟨f0, f1, f2, f3, f4, f5⟩ := tl_cells H5.out.2
      have hsz : ((wy.setCell ⟨TB, 3, none⟩ (.int .u64 br)).setCell ⟨TB, 4, none⟩ (.int .i64 (bs (P + 22)))).heap.size = wy.heap.size := by simp [World.setCell]
      have h1v : ((wy.setCell ⟨TB, 3, none⟩ (.int .u64 br)).setCell ⟨TB, 4, none⟩ (.int .i64 (bs (P + 22)))).cell? ⟨w.heap.size + 1, 1, none⟩ = some v := (hl_cells H5.out.1.hel).2
      have HOW : Hid ((((wy.setCell ⟨TB, 3, none⟩ (.int .u64 br)).setCell ⟨TB, 4, none⟩ (.int .i64 (bs (P + 22)))).alloc (.cells #[.int .i64 (bs P), .int .u64 ro, .int .i64 co, .int .u64 br, .int .i64 (bs (P + 22)), .int .i64 (bs (P + 1))] 39)).ownsRow (w.heap.size + 2) 39 6 v k (talesL k (Hl.talesF bs))) := ownsT_below H5.out.1.own (below_alloc1 _ _)
      have HT1 : Hid (TaleRow (((wy.setCell ⟨TB, 3, none⟩ (.int .u64 br)).setCell ⟨TB, 4, none⟩ (.int .i64 (bs (P + 22)))).alloc (.cells #[.int .i64 (bs P), .int .u64 ro, .int .i64 co, .int .u64 br, .int .i64 (bs (P + 22)), .int .i64 (bs (P + 1))] 39)) (some ⟨wy.heap.size, 0, none⟩) 1 1 (fun _ => Hl.talesF bs k)) := by
        rw [HTL.out, ← hsz]
        exact one_tale (t := ⟨bs P, ro, co, br, bs (P + 22), bs (P + 1)⟩) (heap_alloc_last _ _)
      have HBA : Hid (w.heap.size + 2 ≤ (((wy.setCell ⟨TB, 3, none⟩ (.int .u64 br)).setCell ⟨TB, 4, none⟩ (.int .i64 (bs (P + 22)))).alloc (.cells #[.int .i64 (bs P), .int .u64 ro, .int .i64 co, .int .u64 br, .int .i64 (bs (P + 22)), .int .i64 (bs (P + 1))] 39)).heap.size) := by have := H5.out.1.base; show _ ≤ _; simp only [World.alloc, Array.size_push]; omega
      have HG5 : Hid (∀ a1 c1 w', Hid (w'.ownsRow (w.heap.size + 2) 39 6 (.slice a1 (k + 1) c1) (k + 1) (talesL (k + 1) (catT k (Hl.talesF bs) (fun _ => Hl.talesF bs k))) ∧ Below (w.heap.size + 2) (((wy.setCell ⟨TB, 3, none⟩ (.int .u64 br)).setCell ⟨TB, 4, none⟩ (.int .i64 (bs (P + 22)))).alloc (.cells #[.int .i64 (bs P), .int .u64 ro, .int .i64 co, .int .u64 br, .int .i64 (bs (P + 22)), .int .i64 (bs (P + 1))] 39)) w') → RPar w (w'.setCell ⟨w.heap.size + 1, 1, none⟩ (.slice a1 (k + 1) c1)) b off c (k + 1) bs (.slice a1 (k + 1) c1) ∧ (∃ x, w'.cell? ⟨w.heap.size + 1, 1, none⟩ = some x) ∧ w'.frozen? ⟨w.heap.size + 1, 1, none⟩ = false) := fun a1 c1 w' h => by
        have hhe : w'.heap[w.heap.size + 1]? = some (.cells #[.slice (some ⟨b, off, none⟩) 16 c, v] 25 (0, 0)) := (h.out.2.block _ (by omega)).trans (keep H5.out.1.hel (below_alloc1 _ _))
        have hre : w'.heap[w.heap.size]? = some (.cells #[.slice none 0 0, .slice none 0 0] 25 (0, 0)) := (h.out.2.block _ (by omega)).trans (keep H5.out.1.res (below_alloc1 _ _))
        refine ⟨⟨(heap_setCell_other _ _ _ _ (by show w.heap.size ≠ w.heap.size + 1; omega)).trans hre, by rw [heap_setCell_same _ _ _ _ _ _ hhe]; rfl, ?_, ?_, ?_⟩, ⟨_, (hl_cells hhe).2⟩, (hl_free hhe).2⟩
        · have ho := h.out.1
          rw [talesL_congr (k + 1) _ (Hl.talesF bs) (fun i hi => by
            unfold catT
            by_cases e : i < k
            · rw [if_pos e]
            · rw [if_neg e, show i = k by omega])] at ho
          obtain ⟨g1, g2⟩ := ho
          refine ⟨g1, ?_⟩
          rcases g2 with g2 | ⟨q, cap, cur, hv, hq, hh, r⟩
          · exact Or.inl g2
          · exact Or.inr ⟨q, cap, cur, hv, hq, (heap_setCell_other _ _ _ _ (by show q ≠ w.heap.size + 1; omega)).trans hh, r⟩
        · exact ((H5.out.1.low.alloc H5.out.1.low.size _).trans (h.out.2.mono (by omega))).setCell (by show w.heap.size ≤ w.heap.size + 1; omega) _
        · have := h.out.2.size
          have := HBA.out
          simp only [World.setCell, Array.size_modify]
          omega
      clear H3 H4 H5 hsz
      go_wp2_with (at_builtin; refine wpList_append_tales rfl (.tmp 76) (.tmp 78) rfl rfl (w.heap.size + 2) v k (Hl.talesF bs) rfl HOW.out (some ⟨wy.heap.size, 0, none⟩) 1 1 (fun _ => Hl.talesF bs k) rfl HT1.out (fun e => by cases e) (by have := HM2.out; omega) HBA.out ?_; intro a6 c6 w6 h6; obtain ⟨R6, ⟨x6, g6⟩, fz6⟩ := HG5.out a6 c6 w6 h6; have H6 : Hid _ := R6; clear h6 R6)
      exact ⟨⟨k + 1, _, by omega, by go_num, H6⟩, by simp [intOf]; omega⟩
    · obtain rfl : k = m := by omega
      obtain ⟨ta, tc, rfl, ht0, hn0, hnew⟩ := owns_tales hX.out.own
      obtain ⟨c0, c1⟩ := hl_cells hX.out.hel
      have HNL : Hid (NilOk ta k tc) := hn0
      have HNW : Hid (∀ ad, ta = some ad → w.heap.size + 2 ≤ ad.block) := hnew
      have HWR : Hid (Calls Try.prog 7 #[.agg #[.slice (some ⟨b, off, none⟩) 16 c, .slice ta k tc]] wr fun e w' => e = .returned (.int .i64 (Hl.wrongTo (Hl.talesF bs) k)) ∧ Hid (RPar w w' b off c k bs (.slice ta k tc)) ∧ Hid (TaleRow w' ta k tc (Hl.talesF bs))) := by
        refine (rwrong_hl (some ⟨b, off, none⟩) 16 c ta k tc (Hl.talesF bs) wr (by omega) ht0).mono ?_
        rintro e w' ⟨rfl, hb⟩
        exact ⟨rfl, hX.out.grow hb, ht0.below hb⟩
      have HPO : Hid (∀ e w', (Hl.wrongTo (Hl.talesF bs) k ≠ 0 ∧ e = .returned (.tuple #[.agg #[.slice none 0 0, .slice none 0 0], .int .i64 (Hl.wrongTo (Hl.talesF bs) k)])) ∨
     (Hl.wrongTo (Hl.talesF bs) k = 0 ∧ ∃ da dc ta tc, e = .returned (.tuple #[.agg #[.slice da 16 dc, .slice ta k tc], .int .i64 0]) ∧ ByteRow w' da 16 dc bs ∧ TaleRow w' ta k tc (Hl.talesF bs) ∧ NilOk da 16 dc ∧ NilOk ta k tc) → LParse N bs e w') := fun e w' h => Or.inr ⟨k, HNN.out, hm, h⟩
      have HDG : Hid (∀ W, Below w.heap.size w W → ByteRow W (some ⟨b, off, none⟩) 16 c bs) := fun W hW => (HR.out.below hW).prefix (by have := HNN.out; omega)
      clear hX H0 ht0 hn0 hnew
      generalize Hl.wrongTo (Hl.talesF bs) k = E at *
      go_wp2_with fail
      refine HWR.out.mono ?_
      rintro e w5 ⟨rfl, H5, HT5⟩
      obtain ⟨d0, d1⟩ := hl_cells H5.out.hel
      obtain ⟨e0, e1⟩ := hl_cells H5.out.res
      obtain ⟨z0, z1⟩ := hl_free H5.out.res
      by_cases hE : E = 0
      · subst hE
        go_wp2_with fail
        exact bodyPost_ret (v := .tuple #[.agg #[.slice (some ⟨b, off, none⟩) 16 c, .slice ta k tc], .int .i64 0]) (results_row_tmp (p := 2) (u := 3) (ty := 25) Try.results11 _ _ w.heap.size 25 #[.slice (some ⟨b, off, none⟩) 16 c, .slice ta k tc] (0, 0) _ rfl (hl_set2 H5.out.res) Try.underlying25 rfl (by rw [sizeHl]; rfl)) rfl ⟨HPO.out _ _ (Or.inr ⟨by first | rfl | trivial, _, c, ta, tc, rfl, HDG.out _ ((H5.out.low.setCell (Nat.le_refl _) _).setCell (Nat.le_refl _) _), HT5.out.other (fun b off e _ => set2_other (by have := HNW.out _ e; simp only at this; omega)) (by simp [World.setCell]), (fun e => by cases e), HNL.out⟩), (H5.out.low.setCell (Nat.le_refl _) _).setCell (Nat.le_refl _) _⟩
      · have hE1 : (E != 0) = true := by simp [hE]
        go_wp2_with fail
        exact bodyPost_ret (v := .tuple #[.agg #[.slice none 0 0, .slice none 0 0], .int .i64 E]) (results_row_tmp (p := 2) (u := 3) (ty := 25) Try.results11 _ _ w.heap.size 25 #[.slice none 0 0, .slice none 0 0] (0, 0) _ rfl (hl_set2 H5.out.res) Try.underlying25 rfl (by rw [sizeHl]; rfl)) rfl ⟨HPO.out _ _ (Or.inl ⟨hE, rfl⟩), (H5.out.low.setCell (Nat.le_refl _) _).setCell (Nat.le_refl _) _⟩
/-- THE DOCUMENT's PARSE, of whatever bytes. -/
theorem rparse_hl (ao : Option Addr) (n c : Nat) (bs : Nat → Int) (w : World) (hr : ByteRow w ao n c bs) (hbs : ∀ i, i < n → 0 ≤ bs i ∧ bs i ≤ 255) :
    Calls Try.prog 11 #[.slice ao n c] w fun e w' => LParse n bs e w' ∧ Below w.heap.size w w' := by
  by_cases hs : 17 ≤ n ∧ (n : Int) = 17 + bs 16 * 23
  · obtain ⟨m, hm⟩ := Int.eq_ofNat_of_zero_le (hbs 16 (by omega)).1
    have hm2 : m ≤ 255 := by have := (hbs 16 (by omega)).2; omega
    have hn : n = 17 + m * 23 := by have := hs.2; rw [hm] at this; omega
    obtain ⟨b, off, rfl, _, _⟩ := hr.2 (by omega)
    exact rparse_long_hl b off m c n bs w hr hbs hm hm2 hn
  · refine (rparse_short_hl ao n c bs w hr hbs hs).mono ?_
    rintro e w' ⟨h1, h2⟩
    exact ⟨Or.inl ⟨hs, h1⟩, h2⟩
end Go.Proofs.Ytmjgmngdahhbkaa
