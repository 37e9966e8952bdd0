/- walks: the document's Bytes, of hellos: the walk -/
import Derived.Test.YtmjgmngdahhbkaaLR3
namespace Go.Proofs.Ytmjgmngdahhbkaa
open Go.RowKit
open Hl (Tl)

set_option maxHeartbeats 1000000 in
theorem rbytes_wrong_hl (da : Option Addr) (dn dc : Nat) (ao : Option Addr) (n cap : Nat) (ts : Nat → Tl) (w : World) (hn : n ≤ 9223372036854775807) (hr : TaleRow w ao n cap ts) (hw : Hl.wrong dn ts n ≠ 0) :
    Calls Try.prog 9 #[.agg #[.slice da dn dc, .slice ao n cap]] w fun e w' => e = .returned (.tuple #[.slice none 0 0, .int .i64 (Hl.wrong dn ts n)]) ∧ Below w.heap.size w w' := by
  have HC : Hid (∀ o, Calls Try.prog 7 #[.agg #[.slice da dn dc, .slice ao n cap]] (w.alloc o) fun e w' => e = .returned (.int .i64 (Hl.wrong dn ts n)) ∧ Below (w.alloc o).heap.size (w.alloc o) w') := fun o => rwrong_hl da dn dc ao n cap ts (w.alloc o) hn (hr.below (below_alloc1 w o))
  clear hr
  generalize Hl.wrong dn ts n = E at *
  have hE : (E != 0) = true := by simp [hw]
  go_enter Try.func9, Try.ntmps9
  go_wp2_with (go_at_call 7; refine (HC.out _).mono ?_; rintro e w1 ⟨rfl, hb⟩; have HB : Hid (Below w.heap.size w w1) := (below_alloc1 w _).trans (hb.mono (by simp)); clear hb)
  exact bodyPost_ret (results_tmp2 Try.results9 _ _ _) rfl ⟨rfl, HB.out⟩
theorem one_byte (w : World) (x : Int) : ByteRow (w.alloc (.cells #[.int .u8 x] 5)) (some ⟨w.heap.size, 0, none⟩) 1 1 (fun _ => x) := by
  refine ⟨Nat.le_refl _, fun _ => ⟨w.heap.size, 0, rfl, by simp, fun i hi => ?_⟩⟩
  obtain rfl : i = 0 := by omega
  exact cell_of_row _ _ 0 _ _ _ (heap_alloc_last w _)
theorem owns_lt {w : World} {base e size n : Nat} {v : Value} {xs : List Value} (h : w.ownsRow base e size v n xs) : ∀ k, v.ownBlock = some k → k < w.heap.size := by
  intro k hk
  obtain ⟨_, h2⟩ := h
  rcases h2 with ⟨rfl, _⟩ | ⟨g, cap, cur, rfl, hg, hh, _⟩
  · simp [Value.ownBlock] at hk
  · simp [Value.ownBlock] at hk
    subst hk
    exact (Array.getElem?_eq_some_iff.1 hh).1
/-- A tale's parts, beside the bytes so far (v). -/
structure Parts (w : World) (B : Nat) (wi : World) (q : Nat) (p : Nat → Nat) (t : Tl) (v : Value) : Prop where
  cells : ∀ j, j < 6 → wi.cell? ⟨q, j, none⟩ = some (.slice (some ⟨p j, 0, none⟩) (Hl.sz j) (Hl.sz j))
  rows : ∀ j, j < 6 → wi.heap[p j]? = some (.cells (rowF (Hl.sz j) (Hl.bv t j)) 5 (0, 0))
  ql : q < wi.heap.size
  low : Below w.heap.size w wi
  base : B ≤ wi.heap.size
  nq : v.ownBlock ≠ some q
  np : ∀ j, j < 6 → v.ownBlock ≠ some (p j)
theorem Parts.step {w : World} {B : Nat} {wi w' : World} {q : Nat} {p : Nat → Nat} {t : Tl} {v v' : Value} (h : Parts w B wi q p t v) (hB : w.heap.size < B) (hb : Below B wi w') (hk : ∀ k, k < wi.heap.size → v.ownBlock ≠ some k → w'.heap[k]? = wi.heap[k]? ∧ v'.ownBlock ≠ some k) : Parts w B w' q p t v' := by
  have hp : ∀ j, j < 6 → p j < wi.heap.size := fun j hj => (Array.getElem?_eq_some_iff.1 (h.rows j hj)).1
  exact ⟨fun j hj => (World.cell?_of_block (w := wi) (hk q h.ql h.nq).1).trans (h.cells j hj), fun j hj => ((hk _ (hp j hj) (h.np j hj)).1).trans (h.rows j hj), Nat.lt_of_lt_of_le h.ql hb.size, h.low.trans (hb.mono (Nat.le_of_lt hB)), Nat.le_trans h.base hb.size, (hk q h.ql h.nq).2, fun j hj => (hk _ (hp j hj) (h.np j hj)).2⟩
set_option maxHeartbeats 2000000 in
theorem rbytes_right_hl (da : Option Addr) (dn dc : Nat) (dg : Nat → Int) (ao : Option Addr) (n cap : Nat) (ts : Nat → Tl) (w : World) (hd : ByteRow w da dn dc dg) (hr : TaleRow w ao n cap ts) (hwd : ∀ i, i < n → (ts i).wide) (hw : Hl.wrong dn ts n = 0) :
    Calls Try.prog 9 #[.agg #[.slice da dn dc, .slice ao n cap]] w fun e w' => ∃ a1 c1, e = .returned (.tuple #[.slice a1 (17 + n * 23) c1, .int .i64 0]) ∧ ByteRow w' a1 (17 + n * 23) c1 (Hl.byt dg n ts) ∧ NilOk a1 (17 + n * 23) c1 ∧ Below w.heap.size w w' := by
  obtain ⟨rfl, _, hR⟩ := Hl.wrong_zero hw
  have hn : n ≤ 16 := hR.many
  have HF : Hid (∀ i, i < n → (ts i).fits) := hR.fits
  have HWD : Hid (∀ i, i < n → (ts i).wide) := hwd
  have HC : Hid (∀ o, Calls Try.prog 7 #[.agg #[.slice da 16 dc, .slice ao n cap]] (w.alloc o) fun e w' => e = .returned (.int .i64 0) ∧ Below (w.alloc o).heap.size (w.alloc o) w') := fun o => by
    have := rwrong_hl da 16 dc ao n cap ts (w.alloc o) (by omega) (hr.below (below_alloc1 w o))
    rw [hw] at this
    exact this
  have HR : Hid (TaleRow w ao n cap ts) := hr
  have HD : Hid (ByteRow w da 16 dc dg) := hd
  have hcap : n ≤ cap := hr.1
  obtain ⟨db, doff, rfl, _, _⟩ := hd.2 (by omega)
  have vn : IntKind.u8.wrap (n : Int) = (n : Int) := by simp [IntKind.wrap, IntKind.bits, IntKind.signed]; omega
  clear hr hd hw hR hwd
  go_enter Try.func9, Try.ntmps9
  go_wp2_with fail
  refine (HC.out _).mono ?_
  rintro e w1 ⟨rfl, hb⟩
  have HB1 : Hid (Below w.heap.size w w1) := (below_alloc1 w _).trans (hb.mono (by simp))
  have HA1 : Hid (w1.heap[w.heap.size]? = some (.cells #[.slice (some ⟨db, doff, none⟩) 16 dc, .slice ao n cap] 25 (0, 0))) := (hb.block _ (by simp)).trans (heap_alloc_last w _)
  have HL : Hid (w.heap.size < w1.heap.size) := by have := hb.size; simp at this; exact this
  clear hb HC
  have HCE : Hid (∀ W, Below w1.heap.size w1 W → W.cell? ⟨w.heap.size, 0, none⟩ = some (.slice (some ⟨db, doff, none⟩) 16 dc) ∧ W.cell? ⟨w.heap.size, 1, none⟩ = some (.slice ao n cap)) := fun W hW => hl_cells ((hW.block _ HL.out).trans HA1.out)
  obtain ⟨c0, c1⟩ := HCE.out w1 (Below.refl _ _)
  obtain ⟨d0, d1⟩ := HCE.out (w1.alloc (.cells #[] 5)) (below_alloc1 _ _)
  have HO1 : Hid ((w1.alloc (.cells #[] 5)).ownsRow w1.heap.size 5 1 (.slice (some ⟨w1.heap.size, 0, none⟩) 0 0) 0 (bytesL 0 dg)) := owns_empty w1
  have HD1 : Hid (ByteRow (w1.alloc (.cells #[] 5)) (some ⟨db, doff, none⟩) 16 dc dg) := (HD.out.below HB1.out).below (below_alloc1 _ _)
  go_wp2_with (first
    | (at_builtin; refine wpList_append_at rfl (.tmp 15) (.tmp 17) rfl w1.heap.size _ 0 dg rfl HO1.out db doff 16 dc dg rfl HD1.out (by omega) (by simp) ?_; intro v2 w2 h2; have HB2 : Hid (Below w1.heap.size w1 w2) := (below_alloc1 w1 _).trans h2.out.2.1; obtain ⟨e0, e1⟩ := HCE.out w2 HB2.out; have HO2 : Hid ((w2.alloc (.cells #[.int .u8 (n : Int)] 5)).ownsRow w1.heap.size 5 1 v2 16 (bytesL 16 (cat 0 dg dg))) := owns_below h2.out.1 (below_alloc1 w2 _); have HS2 : Hid (w1.heap.size ≤ (w2.alloc (.cells #[.int .u8 (n : Int)] 5)).heap.size) := by {have := HB2.out.size; simp [Hid]; omega}; clear h2)
    | (at_builtin; refine wpList_append_at rfl (.tmp 19) (.tmp 24) rfl w1.heap.size v2 16 _ rfl HO2.out w2.heap.size 0 1 1 (fun _ => (n : Int)) rfl (one_byte w2 _) (by omega) HS2.out ?_; intro v3 w3 h3; have HB3 : Hid (Below w1.heap.size w1 w3) := (HB2.out.alloc HB2.out.size _).trans h3.out.2.1; obtain ⟨f0, f1⟩ := HCE.out w3 HB3.out; have HO3 : Hid (w3.ownsRow w1.heap.size 5 1 v3 17 (bytesL 17 (cat 16 (cat 0 dg dg) (fun _ => (n : Int))))) := h3.out.1; clear h3))
  have HO4 : Hid (w3.ownsRow w1.heap.size 5 1 v3 (17 + 0 * 23) (bytesL (17 + 0 * 23) (Hl.byt dg n ts)) ∧ Below w.heap.size w w3 ∧ w1.heap.size ≤ w3.heap.size) := by
    refine ⟨?_, HB1.out.trans (HB3.out.mono (Nat.le_of_lt HL.out)), HB3.out.size⟩
    have := HO3.out
    rw [bytesL_congr 17 _ (Hl.byt dg n ts) (fun i hi => by
      unfold cat Hl.byt
      by_cases e : i < 16
      · rw [if_pos e, if_neg (by omega), if_pos e, Nat.sub_zero]
      · rw [if_neg e, if_neg e, if_pos (by omega)])] at this
    exact this
  clear HO3 HB3 HO2 HB2 HS2 HD1 HO1 c0 c1 d0 d1 e0 e1 f0 f1 HCE HA1 HD vn
  generalize w1.heap.size = B at *
  go_loopw [29, 5] (fun i v wr => ∃ k : Nat, k ≤ n ∧ i = .int .i64 k ∧ Hid (wr.ownsRow B 5 1 v (17 + k * 23) (bytesL (17 + k * 23) (Hl.byt dg n ts)) ∧ Below w.heap.size w wr ∧ B ≤ wr.heap.size)) (fun i _ _ => n - (intOf i).toNat)
  case atStart => exact ⟨0, by omega, rfl, HO4⟩
  case round =>
    obtain ⟨k, hk, rfl, hX⟩ := hrel
    by_cases hlt : k < n
    · obtain ⟨b, off, rfl, hb, hc⟩ := HR.out.2 (by omega)
      have hbw : b < wr.heap.size := Nat.lt_of_lt_of_le hb hX.out.2.1.size
      have c0 : wr.cell? ⟨b, off + k * 6, none⟩ = some (.int .i64 (ts k).tree) := (hX.out.2.1.cell (by exact hb)).trans (hc k hlt).1
      have c1 : wr.cell? ⟨b, off + k * 6 + 1, none⟩ = some (.int .u64 (ts k).root) := (hX.out.2.1.cell (by exact hb)).trans (hc k hlt).2.1
      have c2 : wr.cell? ⟨b, off + k * 6 + 2, none⟩ = some (.int .i64 (ts k).cost) := (hX.out.2.1.cell (by exact hb)).trans (hc k hlt).2.2.1
      have c3 : wr.cell? ⟨b, off + k * 6 + 3, none⟩ = some (.int .u64 (ts k).bridge) := (hX.out.2.1.cell (by exact hb)).trans (hc k hlt).2.2.2.1
      have c4 : wr.cell? ⟨b, off + k * 6 + 4, none⟩ = some (.int .i64 (ts k).port) := (hX.out.2.1.cell (by exact hb)).trans (hc k hlt).2.2.2.2.1
      have c5 : wr.cell? ⟨b, off + k * 6 + 5, none⟩ = some (.int .i64 (ts k).age) := (hX.out.2.1.cell (by exact hb)).trans (hc k hlt).2.2.2.2.2
      have HP : Hid (∀ j, j < 6 → ∀ i, i < Hl.sz j → Hl.byt dg n ts (17 + k * 23 + Hl.st j + i) = Hl.bv (ts k) j i) := fun j hj i hi => Hl.byt_part dg n ts k j (HF.out k hlt) hj i hi
      obtain ⟨⟨t1, t2⟩, ⟨g1, g2⟩, ⟨o1, o2⟩, p1, p2⟩ := HF.out k hlt
      obtain ⟨⟨r1, r2⟩, b1, b2⟩ := HWD.out k hlt
      clear hc hb HO4
      generalize ts k = t at *
      obtain ⟨tr, ro, co, br, po, ag⟩ := t
      simp only at c0 c1 c2 c3 c4 c5 t1 t2 g1 g2 o1 o2 p1 p2 r1 r2 b1 b2
      obtain ⟨X, HX⟩ : ∃ X, Hid (X = wr.alloc (.cells #[.int .i64 tr, .int .u64 ro, .int .i64 co, .int .u64 br, .int .i64 po, .int .i64 ag] 39)) := ⟨_, rfl⟩
      have HXr : Hid (X.heap[wr.heap.size]? = some (.cells (tlA ⟨tr, ro, co, br, po, ag⟩) 39 (0, 0))) := by rw [HX.out]; exact heap_alloc_last wr _
      go_wp2_with fail
      rw [← HX.out]
      go_cut [59, 60, 61] (fun s59 s60 s61 wx => ∃ q p, s59 = .slice (some ⟨q, 0, none⟩) 6 6 ∧ s60 = .int .i64 6 ∧ s61 = .int .i64 0 ∧ Hid (NumW wr wx q p ⟨tr, ro, co, br, po, ag⟩))
      case first =>
        have HS : Hid (∀ W, Below X.heap.size X W → W.cell? ⟨wr.heap.size, 0, none⟩ = some (.int .i64 tr) ∧ W.cell? ⟨wr.heap.size, 1, none⟩ = some (.int .u64 ro) ∧ W.cell? ⟨wr.heap.size, 2, none⟩ = some (.int .i64 co) ∧ W.cell? ⟨wr.heap.size, 3, none⟩ = some (.int .u64 br) ∧ W.cell? ⟨wr.heap.size, 4, none⟩ = some (.int .i64 po) ∧ W.cell? ⟨wr.heap.size, 5, none⟩ = some (.int .i64 ag)) := fun W hW => tl_cells (keep HXr.out hW)
        have HN1 : Hid (∀ (N : Int) (W : World), 0 ≤ N → N < 18446744073709551616 → Below X.heap.size X W → Calls Try.prog 18 #[.int .u64 N, .int .i64 1] W fun e w' => e = .returned (.slice (some ⟨W.heap.size, 0, none⟩) 1 1) ∧ Hid (Nm X W w' 1 (be 1 N))) := fun N W h0 h1 hW => by
          refine (lnum1_any N W h0 h1).mono ?_
          rintro e w' ⟨he, h2, h3⟩
          exact ⟨he, h2, hW.trans (h3.mono hW.size), h3, hW.size⟩
        have HN4 : Hid (∀ (N : Int) (W : World), 0 ≤ N → N < 18446744073709551616 → Below X.heap.size X W → Calls Try.prog 18 #[.int .u64 N, .int .i64 4] W fun e w' => e = .returned (.slice (some ⟨W.heap.size, 0, none⟩) 4 4) ∧ Hid (Nm X W w' 4 (be 4 N))) := fun N W h0 h1 hW => by
          refine (lnum4_any N W h0 h1).mono ?_
          rintro e w' ⟨he, h2, h3⟩
          exact ⟨he, h2, hW.trans (h3.mono hW.size), h3, hW.size⟩
        have HN8 : Hid (∀ (N : Int) (W : World), 0 ≤ N → N < 18446744073709551616 → Below X.heap.size X W → Calls Try.prog 18 #[.int .u64 N, .int .i64 8] W fun e w' => e = .returned (.slice (some ⟨W.heap.size, 0, none⟩) 8 8) ∧ Hid (Nm X W w' 8 (be 8 N))) := fun N W h0 h1 hW => by
          refine (lnum8_any N W h0 h1).mono ?_
          rintro e w' ⟨he, h2, h3⟩
          exact ⟨he, h2, hW.trans (h3.mono hW.size), h3, hW.size⟩
        have NT : Hid (∀ W, Below X.heap.size X W → _) := fun W => HN1.out tr W t1 (by omega)
        have HB0 : Hid (Below X.heap.size X X.drew) := (Below.refl _ _).drew
        have NA : Hid (∀ W, Below X.heap.size X W → _) := fun W => HN1.out ag W g1 (by omega)
        have NR : Hid (∀ W, Below X.heap.size X W → _) := fun W => HN8.out ro W r1 r2
        have NC : Hid (∀ W, Below X.heap.size X W → _) := fun W => HN4.out co W o1 (by omega)
        have NB : Hid (∀ W, Below X.heap.size X W → _) := fun W => HN8.out br W b1 b2
        have NP : Hid (∀ W, Below X.heap.size X W → _) := fun W => HN1.out po W p1 (by omega)
        have vt : IntKind.u64.wrap tr = tr := wraps_u64 _ t1 (by omega)
        have va : IntKind.u64.wrap ag = ag := wraps_u64 _ g1 (by omega)
        have vc : IntKind.u64.wrap co = co := wraps_u64 _ o1 (by omega)
        have vp : IntKind.u64.wrap po = po := wraps_u64 _ p1 (by omega)
        obtain ⟨s0, s1, s2, s3, s4, s5⟩ := HS.out X (Below.refl _ _)
        clear HN1 HN4 HN8 c0 c1 c2 c3 c4 c5 HP
        go_region_held3 (fun W => W.cell? ⟨wr.heap.size, 0, none⟩ = some (.int .i64 tr) ∧ W.cell? ⟨wr.heap.size, 1, none⟩ = some (.int .u64 ro) ∧ W.cell? ⟨wr.heap.size, 2, none⟩ = some (.int .i64 co) ∧ W.cell? ⟨wr.heap.size, 3, none⟩ = some (.int .u64 br) ∧ W.cell? ⟨wr.heap.size, 4, none⟩ = some (.int .i64 po) ∧ W.cell? ⟨wr.heap.size, 5, none⟩ = some (.int .i64 ag))
          (first | (with_reducible exact HS.out _ H2.out.low) | (with_reducible exact HS.out _ H3.out.low) | (with_reducible exact HS.out _ H4.out.low) | (with_reducible exact HS.out _ H5.out.low) | (with_reducible exact HS.out _ H6.out.low) | (with_reducible exact HS.out _ H7.out.low) | go_keep)
          (first | (go_at_call 18; (with_reducible refine (NT.out _ HB0.out).mono ?_); rintro e w2 ⟨rfl, H2⟩) | (go_at_call 18; (with_reducible refine (NA.out _ H2.out.low).mono ?_); rintro e w3 ⟨rfl, H3⟩) | (go_at_call 18; (with_reducible refine (NR.out _ H3.out.low).mono ?_); rintro e w4 ⟨rfl, H4⟩) | (go_at_call 18; (with_reducible refine (NC.out _ H4.out.low).mono ?_); rintro e w5 ⟨rfl, H5⟩) | (go_at_call 18; (with_reducible refine (NB.out _ H5.out.low).mono ?_); rintro e w6 ⟨rfl, H6⟩) | (go_at_call 18; (with_reducible refine (NP.out _ H6.out.low).mono ?_); rintro e w7 ⟨rfl, H7⟩))
        go_wp2_with fail
        go_meet
        exact ⟨w7.heap.size, _, rfl, rfl, rfl, numW_of _ HX.out H2.out H3.out H4.out H5.out H6.out H7.out _⟩
      case rest =>
      obtain ⟨q, p, rfl, rfl, rfl, HN⟩ := hcut
      have HPA : Hid (wc.ownsRow B 5 1 u5 (17 + k * 23 + Hl.st 0) (bytesL (17 + k * 23 + Hl.st 0) (Hl.byt dg n ts)) ∧ Parts w B wc q p ⟨tr, ro, co, br, po, ag⟩ u5) := by
        have hlt5 : ∀ j, u5.ownBlock = some j → j < wr.heap.size := fun j hj => owns_lt hX.out.1 j hj
        refine ⟨owns_below hX.out.1 HN.out.low, HN.out.cells, HN.out.rows, HN.out.ql, hX.out.2.1.trans (HN.out.low.mono hX.out.2.1.size), Nat.le_trans hX.out.2.2 HN.out.low.size, fun e => ?_, fun j hj e => ?_⟩
        · have := hlt5 _ e; have := HN.out.qn; omega
        · have := hlt5 _ e; have := HN.out.pn j hj; omega
      clear HN hX HX HXr c0 c1 c2 c3 c4 c5 hbw t1 t2 g1 g2 o1 o2 p1 p2 r1 r2 b1 b2
      generalize (⟨tr, ro, co, br, po, ag⟩ : Tl) = t at *
      go_wp2_with fail
      go_loopw [61, 5] (fun j v wi => ∃ r : Nat, r ≤ 6 ∧ j = .int .i64 r ∧ Hid (wi.ownsRow B 5 1 v (17 + k * 23 + Hl.st r) (bytesL (17 + k * 23 + Hl.st r) (Hl.byt dg n ts)) ∧ Parts w B wi q p t v)) (fun j _ _ => 6 - (intOf j).toNat)
      case atStart => exact ⟨0, by omega, rfl, HPA⟩
      case round =>
        obtain ⟨r, hr6, rfl, hI⟩ := hrel
        by_cases hr : r < 6
        · have d0 := hI.out.2.cells r hr
          have HO : Hid (wr.ownsRow B 5 1 u5 (17 + k * 23 + Hl.st r) (bytesL (17 + k * 23 + Hl.st r) (Hl.byt dg n ts))) := hI.out.1
          have HBR : Hid (ByteRow wr (some ⟨p r, 0, none⟩) (Hl.sz r) (Hl.sz r) (Hl.bv t r)) := (ByteRow.of_row (off := 0) (hI.out.2.rows r hr) (by omega) (Nat.le_refl _)).congr (fun i _ => by rw [Nat.zero_add])
          have HLE : Hid (17 + k * 23 + Hl.st r + Hl.sz r ≤ 100000) := by
            have h1 := Hl.st_le r (by omega)
            have h2 := Hl.sz_le r
            show 17 + k * 23 + Hl.st r + Hl.sz r ≤ 100000
            omega
          have HNX : Hid (∀ v' w', Hid (w'.ownsRow B 5 1 v' (17 + k * 23 + Hl.st r + Hl.sz r) (bytesL (17 + k * 23 + Hl.st r + Hl.sz r) (cat (17 + k * 23 + Hl.st r) (Hl.byt dg n ts) (Hl.bv t r))) ∧ Below B wr w' ∧ (∀ k, k < wr.heap.size → u5.ownBlock ≠ some k → w'.heap[k]? = wr.heap[k]? ∧ v'.ownBlock ≠ some k)) → w'.ownsRow B 5 1 v' (17 + k * 23 + Hl.st (r + 1)) (bytesL (17 + k * 23 + Hl.st (r + 1)) (Hl.byt dg n ts)) ∧ Parts w B w' q p t v') := fun v' w' h => by
            refine ⟨?_, hI.out.2.step HL.out h.out.2.1 h.out.2.2⟩
            have h1 := h.out.1
            rw [bytesL_congr _ _ (Hl.byt dg n ts) (fun i hi => by
              unfold cat
              by_cases e : i < 17 + k * 23 + Hl.st r
              · rw [if_pos e]
              · rw [if_neg e, ← HP.out r hr _ (by omega)]
                congr 1
                omega), show 17 + k * 23 + Hl.st r + Hl.sz r = 17 + k * 23 + Hl.st (r + 1) by rw [Nat.add_assoc]; rfl] at h1
            exact h1
          have HBS : Hid (B ≤ wr.heap.size) := hI.out.2.base
          clear hI HPA
          generalize 17 + k * 23 + Hl.st r = L at *
          go_wp2_with (at_builtin; refine wpList_append_at rfl (.tmp 65) (.tmp 66) rfl B u5 L _ rfl HO.out (p r) 0 (Hl.sz r) (Hl.sz r) (Hl.bv t r) rfl HBR.out HLE.out HBS.out ?_; intro v6 w6 h6; have H6 : Hid _ := HNX.out v6 w6 h6; clear h6)
          exact ⟨⟨r + 1, by omega, by go_num, H6⟩, by simp [intOf]; omega⟩
        · obtain rfl : r = 6 := by omega
          have HFN : Hid (wr.ownsRow B 5 1 u5 (17 + (k + 1) * 23) (bytesL (17 + (k + 1) * 23) (Hl.byt dg n ts)) ∧ Below w.heap.size w wr ∧ B ≤ wr.heap.size) := by
            have h := hI.out.1
            rw [show 17 + k * 23 + Hl.st 6 = 17 + (k + 1) * 23 by have : Hl.st 6 = 23 := rfl; omega] at h
            exact ⟨h, hI.out.2.low, hI.out.2.base⟩
          clear hI HPA
          go_wp2_with fail
          exact ⟨⟨k + 1, by omega, by go_num, HFN⟩, by simp [intOf]; omega⟩
    · obtain rfl : k = n := by omega
      obtain ⟨a1, k1, rfl, hrow, _, hnil, _⟩ := owns_row hX.out.1
      have HFR : Hid (ByteRow wr a1 (17 + k * 23) k1 (Hl.byt dg k ts)) := hrow
      clear hrow
      go_wp2
      exact bodyPost_ret (results_tmp2 Try.results9 _ _ _) rfl ⟨a1, k1, rfl, HFR.out, hnil, hX.out.2.1⟩
end Go.Proofs.Ytmjgmngdahhbkaa
