/- walks: the document's own Sum -/
import Derived.Test.YtconlnoolenhjaaDoorDR2
namespace Go.Proofs.YtconlnoolenhjaaDoor
open Go.RowKit

def lenV : Value → Nat
  | .slice _ n _ => n
  | _ => 0
theorem owns_shape {w : World} {base n : Nat} {v : Value} {P : Nat → Int} (h : w.ownsRow base 5 1 v n (bytesL n P)) : ∃ ao c, v = .slice ao n c ∧ ByteRow w ao n c P := by
  obtain ⟨ao, c, h1, h2, _⟩ := owns_row (f := P) h
  exact ⟨ao, c, h1, h2⟩

theorem four32 {w2 : World} {g : Nat} {q : Md.St} (h2 : w2.heap[g]? = some (.cells (Md.stA q) 52 (0, 0))) :
    w2.cell? ⟨g, 0, none⟩ = some (.int .u32 q.a) ∧ w2.cell? ⟨g, 1, none⟩ = some (.int .u32 q.b) ∧ w2.cell? ⟨g, 2, none⟩ = some (.int .u32 q.c) ∧ w2.cell? ⟨g, 3, none⟩ = some (.int .u32 q.d) ∧
    w2.frozen? ⟨g, 0, none⟩ = false ∧ w2.frozen? ⟨g, 1, none⟩ = false ∧ w2.frozen? ⟨g, 2, none⟩ = false ∧ w2.frozen? ⟨g, 3, none⟩ = false :=
  ⟨cell_of_row w2 g 0 _ _ _ h2, cell_of_row w2 g 1 _ _ _ h2, cell_of_row w2 g 2 _ _ _ h2, cell_of_row w2 g 3 _ _ _ h2, frozen_of_row _ _ _ _ _ h2, frozen_of_row _ _ _ _ _ h2, frozen_of_row _ _ _ _ _ h2, frozen_of_row _ _ _ _ _ h2⟩
theorem set32 {w : World} {g : Nat} {q s' : Md.St} (hA : w.heap[g]? = some (.cells (Md.stA q) 52 (0, 0))) :
    ((((w.setCell ⟨g, 0, none⟩ (.int .u32 s'.a)).setCell ⟨g, 1, none⟩ (.int .u32 s'.b)).setCell ⟨g, 2, none⟩ (.int .u32 s'.c)).setCell ⟨g, 3, none⟩ (.int .u32 s'.d)).heap[g]? = some (.cells (Md.stA s') 52 (0, 0)) ∧
    (∀ B a, B ≤ g → Below B a w → Below B a ((((w.setCell ⟨g, 0, none⟩ (.int .u32 s'.a)).setCell ⟨g, 1, none⟩ (.int .u32 s'.b)).setCell ⟨g, 2, none⟩ (.int .u32 s'.c)).setCell ⟨g, 3, none⟩ (.int .u32 s'.d))) := by
  refine ⟨?_, fun B a hB hb => (((hb.setCell hB _).setCell hB _).setCell hB _).setCell hB _⟩
  rw [heap_setCell_same _ _ _ _ _ _ (heap_setCell_same _ _ _ _ _ _ (heap_setCell_same _ _ _ _ _ _ (heap_setCell_same _ _ _ _ _ _ hA)))]
  rfl
/-- A word, its bytes taken from the last one on. -/
def wdTo (B : Nat → Int) (kk : Nat) : Nat → Int
  | 0 => 0
  | t + 1 => (256 * wdTo B kk t % 4294967296 + B (4 * kk + (3 - t)) % 4294967296) % 4294967296
theorem wraps32 (n : Int) (h0 : 0 ≤ n) (h1 : n < 2 ^ 32) : IntKind.u32.wrap n = n := by
  simp [IntKind.wrap, IntKind.bits, IntKind.signed]; omega
theorem or_comm32 (x y : Int) : bits .or .u32 x y = bits .or .u32 y x := by
  unfold bits
  simp only [BitVec.or_comm]
theorem wdTo_wd (B : Nat → Int) (kk : Nat) (h : ∀ i, i < 64 → 0 ≤ B i ∧ B i ≤ 255) (hk : kk < 16) : wdTo B kk 4 = Md.wd B kk := by
  have h0 := h (4 * kk) (by omega)
  have h1 := h (4 * kk + 1) (by omega)
  have h2 := h (4 * kk + 2) (by omega)
  have h3 := h (4 * kk + 3) (by omega)
  simp only [wdTo, Md.wd, Nat.sub_zero, Nat.reduceSub, Nat.add_zero]
  generalize B (4 * kk) = x0 at *
  generalize B (4 * kk + 1) = x1 at *
  generalize B (4 * kk + 2) = x2 at *
  generalize B (4 * kk + 3) = x3 at *
  have e1 : x0 % 4294967296 = x0 := by omega
  have e2 : x1 % 4294967296 * 256 % 4294967296 = x1 * 256 := by omega
  have e3 : x2 % 4294967296 * 65536 % 4294967296 = x2 * 65536 := by omega
  have e4 : x3 % 4294967296 * 16777216 % 4294967296 = x3 * 16777216 := by omega
  rw [e1, e2, e3, e4]
  have c (x y : Int) : bits .or .u32 x y = bits .or .u32 y x := or_comm32 x y
  have j1 : bits .or .u32 x0 (x1 * 256) = x1 * 256 + x0 := by
    rw [c]; exact bits_join .u32 32 (by decide) wraps32 8 _ _ (by omega) (by omega) (by omega) (by omega) (by omega) (by omega)
  rw [j1]
  have j2 : bits .or .u32 (x1 * 256 + x0) (x2 * 65536) = x2 * 65536 + (x1 * 256 + x0) := by
    rw [c]; exact bits_join .u32 32 (by decide) wraps32 16 _ _ (by omega) (by omega) (by omega) (by omega) (by omega) (by omega)
  rw [j2]
  have j3 : bits .or .u32 (x2 * 65536 + (x1 * 256 + x0)) (x3 * 16777216) = x3 * 16777216 + (x2 * 65536 + (x1 * 256 + x0)) := by
    rw [c]; exact bits_join .u32 32 (by decide) wraps32 24 _ _ (by omega) (by omega) (by omega) (by omega) (by omega) (by omega)
  rw [j3]
  omega
theorem pad_range (n : Nat) (bs : Nat → Int) (h : ∀ i, i < n → 0 ≤ bs i ∧ bs i ≤ 255) (i : Nat) (_hi : i < 64 * Md.padM n) : 0 ≤ Md.pad n bs i ∧ Md.pad n bs i ≤ 255 := by
  unfold Md.pad
  split
  · exact h i (by assumption)
  · split
    · omega
    · split
      · omega
      · have := Int.emod_nonneg (8 * (n : Int) / 2 ^ (8 * (i + 8 - 64 * Md.padM n))) (show (256 : Int) ≠ 0 by decide)
        have := Int.emod_lt_of_pos (8 * (n : Int) / 2 ^ (8 * (i + 8 - 64 * Md.padM n))) (show (0 : Int) < 256 by decide)
        omega
theorem pad_head (n : Nat) (bs : Nat → Int) : bytesL n bs = bytesL n (Md.pad n bs) := by
  unfold bytesL
  apply List.map_congr_left
  intro i hi
  have : i < n := by simpa using hi
  simp [Md.pad, this]

set_option maxRecDepth 100000 in
set_option maxHeartbeats 4000000 in
theorem rsum_any (ao : Option Addr) (n cap : Nat) (bs : Nat → Int) (w : World) (hr : ByteRow w ao n cap bs) (hnil : ao = none → n = 0 ∧ cap = 0) (hn : n ≤ 140737488351300) (hrange : ∀ i, i < n → 0 ≤ bs i ∧ bs i ≤ 255) :
    Calls Tryd.prog 33 #[.slice ao n cap] w fun e w' => ∃ ro rcap, e = .returned (.slice ro 16 rcap) ∧ ByteRow w' ro 16 rcap (Md.dg (Md.mixN Md.st0 (Md.pad n bs) (Md.padM n))) ∧ Below w.heap.size w w' := by
  have HR : Hid (ByteRow (w.alloc (.cells #[] 5)) ao n cap bs) := hr.below ((Below.refl _ w).alloc (Nat.le_refl _) _)
  have HN : Hid _ := hnil
  have HP : Hid _ := Md.padM_ge n
  have HPd : Hid (Md.pad n bs n = 128) := by show _ = _; simp [Md.pad]
  have HPz : Hid (∀ i, n < i → i + 8 < 64 * Md.padM n → Md.pad n bs i = 0) := fun i h1 h2 => by simp [Md.pad, h2, show ¬ i < n by omega, show ¬ i = n by omega]
  have HPl : Hid (∀ j, j < 8 → Md.pad n bs (64 * Md.padM n - 8 + j) = 8 * (n : Int) / 2 ^ (8 * j) % 256) := fun j h1 => by
    have h9 := HP.out.1
    simp only [Md.pad]
    rw [if_neg (by omega), if_neg (by omega), if_neg (by omega), show 64 * Md.padM n - 8 + j + 8 - 64 * Md.padM n = j by omega]
  have HE : Hid (bytesL n bs = bytesL n (Md.pad n bs)) := pad_head n bs
  have HPr : Hid (∀ i, i < 64 * Md.padM n → 0 ≤ Md.pad n bs i ∧ Md.pad n bs i ≤ 255) := pad_range n bs hrange
  clear hr hnil hrange
  generalize Md.pad n bs = P at *
  obtain ⟨M, HM⟩ : ∃ M, Hid (M = Md.padM n) := ⟨_, rfl⟩
  rw [← HM.out] at HP HPz HPl HPr ⊢
  have hM1 : n + 9 ≤ 64 * M := HP.out.1
  have hM2 : 64 * M < n + 9 + 64 := HP.out.2
  clear HP
  go_enter Tryd.func33, Tryd.ntmps33
  go_wp2_with (first | (at_builtin; refine wpList_append_bytes rfl (.tmp 25) (.tmp 26) rfl w.heap.size _ 0 [] rfl (owns_empty w) ao n cap bs rfl HR.out HN.out (by omega) (by simp) ?_; intro v1 w1 ho1 hg1; have HO1 : Hid (w1.ownsRow w.heap.size 5 1 v1 n (bytesL n P)) := (by rw [← HE.out]; exact owns_cast ho1); have HB1 : Hid (Below w.heap.size w w1) := grown_empty hg1; clear ho1 hg1) | (at_builtin; refine wpList_append_byte rfl (.tmp 28) (.tmp 29) rfl w.heap.size _ n P rfl 128 HO1.out HB1.out.size rfl HPd.out.symm (by omega) ?_; intro v2 w2 ho2 hb2; have HO2 : Hid _ := ho2; have HB2 : Hid (Below w.heap.size w w2) := HB1.out.trans hb2; clear ho2 hb2))
  go_loopw [3] (fun v wr => ∃ L : Nat, n + 1 ≤ L ∧ L + 8 ≤ 64 * M ∧ Hid (wr.ownsRow w.heap.size 5 1 v L (bytesL L P) ∧ Below w.heap.size w wr)) (fun v _ => 64 * M - lenV v)
  case atStart => exact ⟨n + 1, by omega, by omega, HO2.out, HB2.out⟩
  case round =>
    obtain ⟨L, hL1, hL2, hX⟩ := hrel
    obtain ⟨lo, lc, rfl, _⟩ := owns_shape hX.out.1
    clear HO1 HB1 HO2 HB2
    by_cases hL : L % 64 = 56
    · have hd : ((L : Int) % 64 != 56) = false := by simp; omega
      obtain rfl : L = 64 * M - 8 := by omega
      go_wp2_with fail
      rename World => wc
      go_loopw [3, 5] (fun v i wr => ∃ j : Nat, j ≤ 8 ∧ i = .int .i64 j ∧ Hid (wr.ownsRow w.heap.size 5 1 v (64 * M - 8 + j) (bytesL (64 * M - 8 + j) P) ∧ Below w.heap.size w wr)) (fun _ i _ => 8 - (intOf i).toNat)
      case atStart => exact ⟨0, by omega, rfl, hX.out.1, hX.out.2⟩
      case round =>
        clear hX
        obtain ⟨j, hj, rfl, hX⟩ := hrel
        obtain ⟨lo, lc, rfl, hlr⟩ := owns_shape hX.out.1
        have HLR : Hid (ByteRow wr lo (64 * M - 8 + j) lc P) := hlr
        clear hlr
        by_cases hlt : j < 8
        · have HZ : Hid (8 * (n : Int) / 2 ^ (8 * j) % 256 = P (64 * M - 8 + j)) := (HPl.out j hlt).symm
          go_wp2_with (at_builtin; refine wpList_append_byte rfl (.tmp 46) (.tmp 52) rfl w.heap.size _ (64 * M - 8 + j) P rfl _ hX.out.1 hX.out.2.size rfl HZ.out (by omega) ?_; intro v3 w3 ho3 hb3; have HO3 : Hid _ := ho3; have HB3 : Hid (Below w.heap.size w w3) := hX.out.2.trans hb3; clear ho3 hb3)
          exact ⟨⟨j + 1, by omega, by go_num, HO3.out, HB3.out⟩, by simp [intOf]; omega⟩
        · obtain rfl : j = 8 := by omega
          have e64 : 64 * M - 8 + 8 = 64 * M := by omega
          rw [e64]
          rename World => wd
          have HLM : Hid (ByteRow wd lo (64 * M) lc P) := HLR.out.cast e64
          have HBD : Hid (Below w.heap.size w wd) := hX.out.2
          clear hX e64 HPz HPl HPd HN HR HE
          go_wp2_with fail
          refine (table_any _).mono ?_
          rintro e w6 ⟨rfl, ht6, hs6, hb6⟩
          have HT6 : Hid (∀ i, i < 64 → w6.cell? ⟨wd.heap.size, i, none⟩ = some (.int .u32 (Md.tabAt i))) := ht6
          have HL6 : Hid (ByteRow w6 lo (64 * M) lc P) := HLM.out.below hb6
          have HB6 : Hid (Below w.heap.size w w6) := HBD.out.trans (hb6.mono HBD.out.size)
          clear ht6 hb6 HLR HLM
          obtain ⟨lb, loff, rfl, hlb, hlc⟩ := HL6.out.2 (by omega)
          have HLC : Hid _ := hlc
          have hlcap : 64 * M ≤ lc := HL6.out.1
          clear hlc HL6
          go_wp2_with fail
          go_loopw [8] (fun i wr => ∃ q : Nat, q ≤ M ∧ i = .int .i64 (64 * q) ∧ Hid (wr.heap[w6.heap.size]? = some (.cells (Md.stA (Md.mixN Md.st0 P q)) 52 (0, 0)) ∧ Below w6.heap.size w6 wr)) (fun i _ => 64 * M - (intOf i).toNat)
          case atStart => exact ⟨0, by omega, rfl, heap_alloc_last _ _, (Below.refl _ w6).alloc (Nat.le_refl _) _⟩
          case round =>
            obtain ⟨q, hq, rfl, hX⟩ := hrel
            rename World => w8
            by_cases hlt : q < M
            · obtain ⟨B, HBq⟩ : ∃ B : Nat → Int, Hid (B = fun i => P (64 * q + i)) := ⟨_, rfl⟩
              have HQ : Hid (Md.mixN Md.st0 P (q + 1) = Md.mixS (Md.mixN Md.st0 P q) B) := by rw [HBq.out]; rfl
              have HH8 : Hid (w8.heap[w6.heap.size]? = some (.cells (Md.stA (Md.mixN Md.st0 P q)) 52 (0, 0))) := hX.out.1
              have HB8 : Hid (Below w6.heap.size w6 w8) := hX.out.2
              have hl8 : w6.heap.size < w8.heap.size := block_lt_of_cell (cell_of_row w8 _ 0 _ _ _ HH8.out)
              have a0 : w8.cell? ⟨w6.heap.size, 0, none⟩ = some (.int .u32 (Md.mixN Md.st0 P q).a) := cell_of_row w8 _ 0 _ _ _ HH8.out
              have a1 : w8.cell? ⟨w6.heap.size, 1, none⟩ = some (.int .u32 (Md.mixN Md.st0 P q).b) := cell_of_row w8 _ 1 _ _ _ HH8.out
              have a2 : w8.cell? ⟨w6.heap.size, 2, none⟩ = some (.int .u32 (Md.mixN Md.st0 P q).c) := cell_of_row w8 _ 2 _ _ _ HH8.out
              have a3 : w8.cell? ⟨w6.heap.size, 3, none⟩ = some (.int .u32 (Md.mixN Md.st0 P q).d) := cell_of_row w8 _ 3 _ _ _ HH8.out
              have HT8 : Hid (∀ i, i < 64 → w8.cell? ⟨wd.heap.size, i, none⟩ = some (.int .u32 (Md.tabAt i))) := fun i hi => (HB8.out.cell (by exact hs6)).trans (HT6.out i hi)
              have HL8 : Hid (∀ i, i < 64 → w8.cell? ⟨lb, loff + (64 * q + i), none⟩ = some (.int .u8 (B i))) := fun i hi => by rw [HBq.out]; exact (HB8.out.cell (by exact hlb)).trans (HLC.out _ (by omega))
              have HBr : Hid (∀ i, i < 64 → 0 ≤ B i ∧ B i ≤ 255) := fun i hi => by rw [HBq.out]; exact HPr.out _ (by omega)
              clear hX
              generalize Md.mixN Md.st0 P q = s0 at *
              clear HBq HLC HT6
              have hdq : decide (64 * (q : Int) < 64 * (M : Int)) = true := by simp; omega
              go_wp2_with fail
              go_quiet (fail)
              go_wp2_with fail
              go_loopw [9, 10, 11, 12, 13] (fun ra rb rc rd i wr => ∃ r : Nat, r ≤ 4 ∧ i = .int .i64 r ∧ ra = .int .u32 (Md.runTo B (16 * r) s0).a ∧ rb = .int .u32 (Md.runTo B (16 * r) s0).b ∧ rc = .int .u32 (Md.runTo B (16 * r) s0).c ∧ rd = .int .u32 (Md.runTo B (16 * r) s0).d ∧ Hid (Below w8.heap.size w8 wr)) (fun _ _ _ _ i _ => 4 - (intOf i).toNat)
              case atStart => exact ⟨0, by omega, rfl, rfl, rfl, rfl, rfl, below_drewN (Below.refl _ _) _⟩
              case round =>
                obtain ⟨r, hr, rfl, rfl, rfl, rfl, rfl, hX⟩ := hrel
                rename World => w9
                by_cases hrlt : r < 4
                · have hdr : decide ((r : Int) < 4) = true := by simp; omega
                  go_wp2_with fail
                  go_loopw [9, 10, 11, 12, 14] (fun ra rb rc rd i wr => ∃ k : Nat, k ≤ 16 ∧ i = .int .i64 k ∧ ra = .int .u32 (Md.runTo B (16 * r + k) s0).a ∧ rb = .int .u32 (Md.runTo B (16 * r + k) s0).b ∧ rc = .int .u32 (Md.runTo B (16 * r + k) s0).c ∧ rd = .int .u32 (Md.runTo B (16 * r + k) s0).d ∧ Hid (Below w8.heap.size w8 wr)) (fun _ _ _ _ i _ => 16 - (intOf i).toNat)
                  case atStart => exact ⟨0, by omega, rfl, rfl, rfl, rfl, rfl, hX.out⟩
                  case round =>
                    clear hX
                    obtain ⟨k, hk, rfl, rfl, rfl, rfl, rfl, hX⟩ := hrel
                    rename World => wa
                    by_cases hklt : k < 16
                    · have HXx : Hid (Md.runTo B (16 * r + (k + 1)) s0 = Md.stp B (16 * r + k) (Md.runTo B (16 * r + k) s0)) := rfl
                      generalize Md.runTo B (16 * r + k) s0 = s1 at *
                      go_wp2_with fail
                      refine (round_any r k _ _ _ _ hrlt hklt).mono ?_
                      rintro e wb ⟨rfl, hbb⟩
                      have HBb : Hid (Below w8.heap.size w8 wb) := hX.out.trans (hbb.mono hX.out.size)
                      have hkk : Md.ksel (16 * r + k) < 16 := Md.ksel_lt _
                      have HKK : Hid (16 * r + k < 64) := by show _ < _; omega
                      have htr := Md.trnAt_range ((16 * r + k) / 16 * 4 + (16 * r + k) % 4) (by omega)
                      have htr0 := htr.1
                      have htr1 := htr.2
                      have c6 : wb.cell? ⟨wd.heap.size, 16 * r + k, none⟩ = some (.int .u32 (Md.tabAt (16 * r + k))) := (HBb.out.cell (by show wd.heap.size < w8.heap.size; omega)).trans (HT8.out _ (by omega))
                      clear hbb htr hX
                      have HXs : Hid (Md.runTo B (16 * r + (k + 1)) s0 = ⟨s1.d, (s1.b + Md.rotl ((s1.a + Md.fsel (16 * r + k) s1.b s1.c s1.d + Md.tabAt (16 * r + k) + wdTo B (Md.ksel (16 * r + k)) 4) % 4294967296) (Md.trnAt ((16 * r + k) / 16 * 4 + (16 * r + k) % 4))) % 4294967296, s1.b, s1.c⟩) := by
                        rw [HXx.out, wdTo_wd B _ HBr.out hkk]; rfl
                      clear HXx
                      generalize Md.trnAt ((16 * r + k) / 16 * 4 + (16 * r + k) % 4) = tn at *
                      generalize Md.fsel (16 * r + k) s1.b s1.c s1.d = fs at *
                      generalize Md.tabAt (16 * r + k) = ta at *
                      generalize Md.ksel (16 * r + k) = kk at *
                      go_wp2_with fail
                      go_loop [18, 19] (fun x i => ∃ t u : Nat, t + u = 4 ∧ i = .int .i64 ((u : Int) - 1) ∧ x = .int .u32 (wdTo B kk t)) (fun _ i => ((intOf i) + 1).toNat)
                      case atStart => exact ⟨0, 4, by omega, rfl, rfl⟩
                      case round =>
                        obtain ⟨t, u, htu, rfl, rfl⟩ := hrel
                        cases u with
                        | zero =>
                          obtain rfl : t = 4 := by omega
                          rw [show (((0 : Nat) : Int) - 1) = (-1 : Int) by omega]
                          go_wp2_with fail
                          refine (turn_any _ _ _ htr0 htr1).mono ?_
                          rintro e wt ⟨rfl, nt, hwt⟩
                          subst hwt
                          go_wp2
                          refine ⟨⟨k + 1, by omega, by go_num, ?_⟩, by simp [intOf]; omega⟩
                          rw [HXs.out]
                          exact ⟨rfl, rfl, rfl, rfl, below_drewN HBb.out _⟩
                        | succ u =>
                          rw [show (((u + 1 : Nat) : Int) - 1) = (u : Int) by omega]
                          have cu : wb.cell? ⟨lb, loff + (64 * q + 4 * kk + u), none⟩ = some (.int .u8 (B (4 * kk + u))) := by
                            rw [show 64 * q + 4 * kk + u = 64 * q + (4 * kk + u) by omega]
                            exact (HBb.out.cell (by show lb < w8.heap.size; omega)).trans (HL8.out _ (by omega))
                          have hu : 64 * q + 4 * kk + u < 64 * M := by omega
                          have hu4 : u < 4 := by omega
                          have ht4 : t = 3 - u := by omega
                          have HTT : Hid (t = 3 - u) := ht4
                          clear ht4 htu
                          have HW1 : Hid (wdTo B kk (t + 1) = (256 * wdTo B kk t % 4294967296 + B (4 * kk + u) % 4294967296) % 4294967296) := by
                            show _ = _
                            rw [wdTo, show 3 - t = u by have := HTT.out; omega]
                          go_wp2
                          exact ⟨⟨t + 1, u, by have := HTT.out; omega, rfl, by rw [HW1.out]⟩, by simp [intOf]⟩
                    · obtain rfl : k = 16 := by omega
                      go_wp2
                      exact ⟨⟨r + 1, by omega, by go_num, by rw [show 16 * (r + 1) = 16 * r + 16 by omega]; exact ⟨rfl, rfl, rfl, rfl, hX.out⟩⟩, by simp [intOf]; omega⟩
                · obtain rfl : r = 4 := by omega
                  have HH9 : Hid (w9.heap[w6.heap.size]? = some (.cells (Md.stA s0) 52 (0, 0))) := (hX.out.block _ hl8).trans HH8.out
                  have HB9 : Hid (Below w6.heap.size w6 w9) := HB8.out.trans (hX.out.mono (by omega))
                  obtain ⟨b0, b1, b2, b3, f0, f1, f2, f3⟩ := four32 HH9.out
                  clear hX a0 a1 a2 a3
                  have HM6 : Hid (Md.mixN Md.st0 P (q + 1) = ⟨(s0.a + (Md.runTo B (16 * 4) s0).a) % 4294967296, (s0.b + (Md.runTo B (16 * 4) s0).b) % 4294967296, (s0.c + (Md.runTo B (16 * 4) s0).c) % 4294967296, (s0.d + (Md.runTo B (16 * 4) s0).d) % 4294967296⟩) := by rw [HQ.out]; rfl
                  generalize Md.runTo B (16 * 4) s0 = s4 at *
                  go_wp2_with fail
                  go_region
                  all_goals go_wp2
                  all_goals
                    have hset := set32 (s' := ⟨(s0.a + s4.a) % 4294967296, (s0.b + s4.b) % 4294967296, (s0.c + s4.c) % 4294967296, (s0.d + s4.d) % 4294967296⟩) HH9.out
                    exact ⟨⟨q + 1, by omega, by go_num, by rw [HM6.out]; exact hset.1, (hset.2 _ _ (Nat.le_refl _) HB9.out).drew⟩, by simp [intOf]; omega⟩
            · obtain rfl : q = M := by omega
              have hdq : decide (64 * (q : Int) < 64 * (q : Int)) = false := by simp
              have HH8 : Hid (w8.heap[w6.heap.size]? = some (.cells (Md.stA (Md.mixN Md.st0 P q)) 52 (0, 0))) := hX.out.1
              have HB8 : Hid (Below w.heap.size w w8) := HB6.out.trans (hX.out.2.mono HB6.out.size)
              have hl8 : w6.heap.size < w8.heap.size := block_lt_of_cell (cell_of_row w8 _ 0 _ _ _ HH8.out)
              clear hX HLC HT6
              generalize hsF : Md.mixN Md.st0 P q = sF at *
              have HSF : Hid (Md.mixN Md.st0 P q = sF) := hsF
              clear hsF
              go_wp2_with fail
              go_loopw [21, 160] (fun v i wr => ∃ j : Nat, j ≤ 4 ∧ i = .int .i64 j ∧ Hid (wr.ownsRow w8.heap.size 5 1 v (4 * j) (bytesL (4 * j) (Md.dg sF)) ∧ Below w8.heap.size w8 wr)) (fun _ i _ => 4 - (intOf i).toNat)
              case atStart => exact ⟨0, by omega, rfl, World.ownsRow_nil _ _ _ _, Below.refl _ _⟩
              case round =>
                obtain ⟨j, hj, rfl, hX⟩ := hrel
                rename World => w9
                by_cases hjlt : j < 4
                · have hdj : decide ((j : Int) < 4) = true := by simp; omega
                  have cj : w9.cell? ⟨w6.heap.size, j, none⟩ = some (.int .u32 (Md.wordOf sF j)) := by
                    rw [hX.out.2.cell (by exact hl8), cell_of_row w8 _ j _ _ _ HH8.out]
                    rcases (show j = 0 ∨ j = 1 ∨ j = 2 ∨ j = 3 by omega) with rfl | rfl | rfl | rfl <;> rfl
                  have HDG : Hid (∀ t, t < 4 → Md.wordOf sF j / 2 ^ (8 * t) % 256 = Md.dg sF (4 * j + t)) := fun t ht => by
                    unfold Md.dg
                    rw [show (4 * j + t) / 4 = j by omega, show (4 * j + t) % 4 = t by omega]
                  generalize Md.wordOf sF j = x at *
                  go_wp2_with fail
                  go_loopw [21, 24] (fun v i wr => ∃ t : Nat, t ≤ 4 ∧ i = .int .i64 t ∧ Hid (wr.ownsRow w8.heap.size 5 1 v (4 * j + t) (bytesL (4 * j + t) (Md.dg sF)) ∧ Below w8.heap.size w8 wr)) (fun _ i _ => 4 - (intOf i).toNat)
                  case atStart => exact ⟨0, by omega, rfl, hX.out.1, hX.out.2⟩
                  case round =>
                    clear hX
                    obtain ⟨t, ht, rfl, hX⟩ := hrel
                    by_cases htlt : t < 4
                    · have HZ : Hid (x / 2 ^ (8 * t) % 256 = Md.dg sF (4 * j + t)) := HDG.out t htlt
                      go_wp2_with (at_builtin; refine wpList_append_byte rfl (.tmp 168) (.tmp 174) rfl w8.heap.size _ (4 * j + t) (Md.dg sF) rfl _ hX.out.1 hX.out.2.size rfl HZ.out (by omega) ?_; intro v3 w3 ho3 hb3; have HO3 : Hid _ := ho3; have HB3 : Hid (Below w8.heap.size w8 w3) := hX.out.2.trans hb3; clear ho3 hb3)
                      exact ⟨⟨t + 1, by omega, by go_num, HO3.out, HB3.out⟩, by simp [intOf]; omega⟩
                    · obtain rfl : t = 4 := by omega
                      go_wp2
                      exact ⟨⟨j + 1, by omega, by go_num, by rw [show 4 * (j + 1) = 4 * j + 4 by omega]; exact hX.out.1, hX.out.2⟩, by simp [intOf]; omega⟩
                · obtain rfl : j = 4 := by omega
                  obtain ⟨ro, rcap, rfl, hrr⟩ := owns_shape hX.out.1
                  have HRR : Hid (ByteRow w9 ro 16 rcap (Md.dg sF)) := hrr
                  clear hrr
                  go_wp2
                  go_ret
                  exact ⟨ro, rcap, rfl, by rw [HSF.out]; exact HRR.out, HB8.out.trans (hX.out.2.mono HB8.out.size)⟩
    · have hd : ((L : Int) % 64 != 56) = true := by simp; omega
      have HZ : Hid (0 = P L) := (HPz.out L (by omega) (by omega)).symm
      go_wp2_with (at_builtin; refine wpList_append_byte rfl (.tmp 35) (.tmp 36) rfl w.heap.size _ L P rfl 0 hX.out.1 hX.out.2.size rfl HZ.out (by omega) ?_; intro v3 w3 ho3 hb3; obtain ⟨lo3, lc3, rfl, hr3⟩ := owns_shape ho3; have HO3 : Hid _ := ho3; have HB3 : Hid (Below w.heap.size w w3) := hX.out.2.trans hb3; clear ho3 hb3 hr3)
      exact ⟨⟨L + 1, by omega, by omega, HO3.out, HB3.out⟩, by simp [lenV]; omega⟩
end Go.Proofs.YtconlnoolenhjaaDoor
