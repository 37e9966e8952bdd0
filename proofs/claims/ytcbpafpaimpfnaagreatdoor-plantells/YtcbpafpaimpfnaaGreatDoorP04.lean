/- What md5's functions come to: plain functions, second part. -/
import Derived.Test.YtcbpafpaimpfnaaGreatDoorP02
import GoSem.Claim
import Derived.WalkSpells
import Derived.WalkLawsBesides
import Derived.BigRegion
import Derived.RegionTactic
import Derived.Deep.WholeRow
import Derived.Laws.CopyOwn
import Derived.Deep.QuietTactic
import Derived.BigQuiet
import Derived.Deep.RegionWith
namespace Go.Proofs.YtcbpafpaimpfnaaGreatDoor
section
namespace Md
def rowU (n : Nat) (f : Nat → Int) (k : Nat) : Array Value := ((List.range n).map fun i => Value.int .u32 (if i < k then f i else 0)).toArray
theorem rowU_size (n : Nat) (f : Nat → Int) (k : Nat) : (rowU n f k).size = n := by simp [rowU]
theorem rowU_get (n : Nat) (f : Nat → Int) (k j : Nat) (h : j < n) : (rowU n f k)[j]? = some (.int .u32 (if j < k then f j else 0)) := by
 simp [rowU, h]
theorem rowU_set (n : Nat) (f : Nat → Int) (k : Nat) (h : k < n) : (rowU n f k).setIfInBounds k (.int .u32 (f k)) = rowU n f (k + 1) := by
 apply Array.ext_getElem?
 intro i
 by_cases hi : i < n
 ·rw [rowU_get n f (k + 1) i hi, Array.getElem?_setIfInBounds]
  by_cases e : k = i
  ·subst e; simp [rowU_size, h]
  ·rw [if_neg e, rowU_get n f k i hi]
   have : (i < k) ↔ (i < k + 1) := by omega
   simp [this]
 ·have h1 : n ≤ i := by omega
  rw [Array.getElem?_eq_none (by simp [rowU_size]; omega), Array.getElem?_eq_none (by simp [rowU_size]; omega)]
theorem rowU_all (n : Nat) (f : Nat → Int) (k : Nat) : (rowU n f k).all (·.oneCell') = true := by
 rw [Array.all_eq_true_iff_forall_mem]
 intro v hv
 simp [rowU] at hv
 obtain ⟨i, _, rfl⟩ := hv
 rfl
def rowB (n : Nat) (f : Nat → Int) (k : Nat) : Array Value := ((List.range n).map fun i => Value.int .u8 (if i < k then f i else 0)).toArray
theorem rowB_size (n : Nat) (f : Nat → Int) (k : Nat) : (rowB n f k).size = n := by simp [rowB]
theorem rowB_get (n : Nat) (f : Nat → Int) (k j : Nat) (h : j < n) : (rowB n f k)[j]? = some (.int .u8 (if j < k then f j else 0)) := by
 simp [rowB, h]
theorem rowB_set (n : Nat) (f : Nat → Int) (k : Nat) (h : k < n) : (rowB n f k).setIfInBounds k (.int .u8 (f k)) = rowB n f (k + 1) := by
 apply Array.ext_getElem?
 intro i
 by_cases hi : i < n
 ·rw [rowB_get n f (k + 1) i hi, Array.getElem?_setIfInBounds]
  by_cases e : k = i
  ·subst e; simp [rowB_size, h]
  ·rw [if_neg e, rowB_get n f k i hi]
   have : (i < k) ↔ (i < k + 1) := by omega
   simp [this]
 ·have h1 : n ≤ i := by omega
  rw [Array.getElem?_eq_none (by simp [rowB_size]; omega), Array.getElem?_eq_none (by simp [rowB_size]; omega)]
def wd (bs : Nat → Int) (i : Nat) : Int :=
 bits BinOp.or IntKind.u32 (bits BinOp.or IntKind.u32 (bits BinOp.or IntKind.u32 (bs (4 * i) % 4294967296) (bs (4 * i + 1) % 4294967296 * 256 % 4294967296)) (bs (4 * i + 2) % 4294967296 * 65536 % 4294967296)) (bs (4 * i + 3) % 4294967296 * 16777216 % 4294967296)
def tab : List Int := [0xD76AA478, 0xE8C7B756, 0x242070DB, 0xC1BDCEEE, 0xF57C0FAF, 0x4787C62A, 0xA8304613, 0xFD469501,
 0x698098D8, 0x8B44F7AF, 0xFFFF5BB1, 0x895CD7BE, 0x6B901122, 0xFD987193, 0xA679438E, 0x49B40821,
 0xF61E2562, 0xC040B340, 0x265E5A51, 0xE9B6C7AA, 0xD62F105D, 0x02441453, 0xD8A1E681, 0xE7D3FBC8,
 0x21E1CDE6, 0xC33707D6, 0xF4D50D87, 0x455A14ED, 0xA9E3E905, 0xFCEFA3F8, 0x676F02D9, 0x8D2A4C8A,
 0xFFFA3942, 0x8771F681, 0x6D9D6122, 0xFDE5380C, 0xA4BEEA44, 0x4BDECFA9, 0xF6BB4B60, 0xBEBFBC70,
 0x289B7EC6, 0xEAA127FA, 0xD4EF3085, 0x04881D05, 0xD9D4D039, 0xE6DB99E5, 0x1FA27CF8, 0xC4AC5665,
 0xF4292244, 0x432AFF97, 0xAB9423A7, 0xFC93A039, 0x655B59C3, 0x8F0CCC92, 0xFFEFF47D, 0x85845DD1,
 0x6FA87E4F, 0xFE2CE6E0, 0xA3014314, 0x4E0811A1, 0xF7537E82, 0xBD3AF235, 0x2AD7D2BB, 0xEB86D391]
def trn : List Int := [7, 12, 17, 22, 5, 9, 14, 20, 4, 11, 16, 23, 6, 10, 15, 21]
def tabAt (i : Nat) : Int := tab.getD i 0
def trnAt (i : Nat) : Int := trn.getD i 0
theorem trnAt_range : ∀ i, i < 16 → 0 ≤ trnAt i ∧ trnAt i < 32 := by decide
def rotl (x k : Int) : Int := bits BinOp.or IntKind.u32 (x * 2 ^ k.toNat % 4294967296) (x / 2 ^ (32 - k).toNat)
def fsel (i : Nat) (b c d : Int) : Int :=
 if i < 16 then bits BinOp.or IntKind.u32 (bits BinOp.and IntKind.u32 b c) (bits BinOp.and IntKind.u32 (bits BinOp.xor IntKind.u32 IntKind.u32.max b) d)
 else if i < 32 then bits BinOp.or IntKind.u32 (bits BinOp.and IntKind.u32 b d) (bits BinOp.andNot IntKind.u32 c d)
 else if i < 48 then bits BinOp.xor IntKind.u32 (bits BinOp.xor IntKind.u32 b c) d
 else bits BinOp.xor IntKind.u32 c (bits BinOp.or IntKind.u32 b (bits BinOp.xor IntKind.u32 IntKind.u32.max d))
def ksel (i : Nat) : Nat :=
 if i < 16 then i else if i < 32 then (5 * i + 1) % 16 else if i < 48 then (3 * i + 5) % 16 else 7 * i % 16
theorem ksel_lt (i : Nat) : ksel i < 16 := by
 unfold ksel
 split
 ·assumption
 ·split
  ·omega
  ·split <;> omega
structure St where
 a : Int
 b : Int
 c : Int
 d : Int
def stV (s : St) : Value := .agg #[.int .u32 s.a, .int .u32 s.b, .int .u32 s.c, .int .u32 s.d]
theorem all4 (a b c d : Int) : (#[Value.int .u32 a, .int .u32 b, .int .u32 c, .int .u32 d] : Array Value).all (·.oneCell') = true := by
 rw [Array.all_eq_true_iff_forall_mem]
 intro v hv
 simp at hv
 rcases hv with rfl | rfl | rfl | rfl <;> rfl
def stp (bs : Nat → Int) (i : Nat) (s : St) : St :=
 ⟨s.d, (s.b + rotl ((s.a + fsel i s.b s.c s.d + tabAt i + wd bs (ksel i)) % 4294967296) (trnAt (i / 16 * 4 + i % 4))) % 4294967296, s.b, s.c⟩
def runTo (bs : Nat → Int) : Nat → St → St
 | 0, s => s
 | k + 1, s => stp bs k (runTo bs k s)
def mixS (s : St) (bs : Nat → Int) : St :=
 ⟨(s.a + (runTo bs 64 s).a) % 4294967296, (s.b + (runTo bs 64 s).b) % 4294967296, (s.c + (runTo bs 64 s).c) % 4294967296, (s.d + (runTo bs 64 s).d) % 4294967296⟩
def st0 : St := ⟨1732584193, 4023233417, 2562383102, 271733878⟩
def mixN (s : St) (bs : Nat → Int) : Nat → St
 | 0 => s
 | k + 1 => mixS (mixN s bs k) (fun i => bs (64 * k + i))
def stA (s : St) : Array Value := #[.int .u32 s.a, .int .u32 s.b, .int .u32 s.c, .int .u32 s.d]
theorem stA_all (s : St) : (stA s).all (·.oneCell') = true := all4 _ _ _ _
theorem stA_size (s : St) : (stA s).size = 4 := rfl
def wordOf (s : St) : Nat → Int
 | 0 => s.a
 | 1 => s.b
 | 2 => s.c
 | _ => s.d
def dg (s : St) (i : Nat) : Int := wordOf s (i / 4) / 2 ^ (8 * (i % 4)) % 256
end Md
end
section
open Go.RowKit
theorem size50 : (Tryz.prog.info? 187).map (·.size) = some 16 := by kernel_rfl
set_option maxHeartbeats 400000 in
theorem words_any (b off cap : Nat) (bs : Nat → Int) (w : World) (hb : b < w.heap.size) (hcap : 64 ≤ cap) (hc : ∀ i, i < 64 → w.cell? ⟨b, off + i, none⟩ = some (.int .u8 (bs i))) :
  Calls Tryz.prog 132 #[.slice (some ⟨b, off, none⟩) 64 cap] w fun e w' => e = .returned (.agg (Md.rowU 16 (Md.wd bs) 16)) ∧ Below w.heap.size w w' := by
 go_enter Tryz.func132, Tryz.ntmps132
 go_wp2
 go_loopw [6] (fun i wr => ∃ k : Nat, k ≤ 16 ∧ i = .int .i64 k ∧ wr.heap[w.heap.size]? = some (.cells (Md.rowU 16 (Md.wd bs) 0) 187 (0, 0)) ∧ wr.heap[w.heap.size + 1]? = some (.cells (Md.rowU 16 (Md.wd bs) k) 187 (0, 0)) ∧ Below w.heap.size w wr) (fun i _ => 16 - (intOf i).toNat)
 case atStart => exact ⟨0, by omega, rfl, heap_alloc2_old w _ _, heap_alloc2_new w _ _, ((Below.refl _ _).alloc (Nat.le_refl _) _).alloc (by simp) _⟩
 case round =>
  obtain ⟨k, hk, rfl, hA, hB, hbel⟩ := hrel
  by_cases hlt : k < 16
  ·have c0 : wr.cell? ⟨b, off + 4 * k, none⟩ = some (.int .u8 (bs (4 * k))) := (hbel.cell (by exact hb)).trans (hc (4 * k) (by omega))
   have c1 : wr.cell? ⟨b, off + 4 * k + 1, none⟩ = some (.int .u8 (bs (4 * k + 1))) := (hbel.cell (by exact hb)).trans (hc (4 * k + 1) (by omega))
   have c2 : wr.cell? ⟨b, off + 4 * k + 2, none⟩ = some (.int .u8 (bs (4 * k + 2))) := (hbel.cell (by exact hb)).trans (hc (4 * k + 2) (by omega))
   have c3 : wr.cell? ⟨b, off + 4 * k + 3, none⟩ = some (.int .u8 (bs (4 * k + 3))) := (hbel.cell (by exact hb)).trans (hc (4 * k + 3) (by omega))
   have c4 : wr.cell? ⟨w.heap.size + 1, k, none⟩ = some (.int .u32 0) := (cell_of_row wr _ k _ _ _ hB).trans (by rw [Md.rowU_get _ _ _ _ hlt]; simp)
   have f4 : wr.frozen? ⟨w.heap.size + 1, k, none⟩ = false := frozen_of_row _ _ _ _ _ hB
   have R1 : Hid ((wr.setCell ⟨w.heap.size + 1, k, none⟩ (.int .u32 (Md.wd bs k))).heap[w.heap.size]? = some (.cells (Md.rowU 16 (Md.wd bs) 0) 187 (0, 0)) ∧ (wr.setCell ⟨w.heap.size + 1, k, none⟩ (.int .u32 (Md.wd bs k))).heap[w.heap.size + 1]? = some (.cells (Md.rowU 16 (Md.wd bs) (k + 1)) 187 (0, 0)) ∧ Below w.heap.size w (wr.setCell ⟨w.heap.size + 1, k, none⟩ (.int .u32 (Md.wd bs k))).drew) := by
    refine ⟨by rw [heap_setCell_other _ _ _ _ (by simp)]; exact hA, ?_, (hbel.setCell (by simp) _).drew⟩
    rw [heap_setCell_same _ _ _ _ _ _ hB, Md.rowU_set _ _ _ hlt]
   clear hc hA hB hbel
   go_wp2
   go_region
   go_wp2
   exact ⟨⟨k + 1, by omega, by go_num, R1.out.1, R1.out.2.1, R1.out.2.2⟩, by simp [intOf]; omega⟩
  ·obtain rfl : k = 16 := by omega
   go_wp2_with (first | refine wpList_load_row rfl 187 _ rfl (w.heap.size + 1) rfl 187 _ (0, 0) _ hB Tryz.underlying187 rfl (by rw [size50, Md.rowU_size]) ?_ | refine wpList_store_row rfl 187 _ _ rfl (w.heap.size) _ rfl rfl 187 _ hA (by rw [size50, Md.rowU_size]) (by simp [Md.rowU_size]) (Md.rowU_all _ _ _) ?_)
   exact bodyPost_ret (v := .agg (Md.rowU 16 (Md.wd bs) 16)) (results_cell_row (p := 2) (ty := 187) rfl _ _ w.heap.size 187 _ (0, 0) _ rfl (setRow_heap _ _ _ _ _ _ hA) Tryz.underlying187 rfl (by rw [size50, Md.rowU_size])) rfl ⟨rfl, below_setRow hbel (Nat.le_refl _) _⟩
set_option maxHeartbeats 400000 in
theorem start_any (w : World) :
  Calls Tryz.prog 131 #[] w fun e w' => e = .returned (Md.stV Md.st0) ∧ Below w.heap.size w w' := by
 go_enter Tryz.func131, Tryz.ntmps131
 go_wp2
 exact bodyPost_ret (v := Md.stV Md.st0) (by simp [results, Tryz.results131, go_sem, Md.stV, Md.st0]) rfl ⟨rfl, (Below.refl _ _).alloc (Nat.le_refl _) _⟩
theorem and31 (k : Int) (h0 : 0 ≤ k) (h1 : k < 32) : bits BinOp.and IntKind.u64 k 31 = k := by
 go_bits2
set_option maxHeartbeats 400000 in
theorem rot_any (x k : Int) (w : World) (h0 : 0 ≤ k) (h1 : k < 32) :
  Calls Tryz.prog 134 #[.int .u32 x, .int .i64 k] w fun e w' => e = .returned (.int .u32 (Md.rotl x k)) ∧ w' = w := by
 have hk := and31 k h0 h1
 go_enter Tryz.func134, Tryz.ntmps134
 go_wp2
 go_ret
 exact ⟨rfl, rfl⟩
set_option maxHeartbeats 1000000 in
theorem choose_any (i : Nat) (b c d : Int) (w : World) (h1 : i < 64) :
  Calls Tryz.prog 133 #[.int .i64 i, .int .u32 b, .int .u32 c, .int .u32 d] w fun e w' => e = .returned (.tuple #[.int .u32 (Md.fsel i b c d), .int .i64 (Md.ksel i)]) ∧ w' = w := by
 rcases (show i < 16 ∨ (16 ≤ i ∧ i < 32) ∨ (32 ≤ i ∧ i < 48) ∨ (48 ≤ i ∧ i < 64) by omega) with h | h | h | h
 ·have e1 : Md.fsel i b c d = bits BinOp.or IntKind.u32 (bits BinOp.and IntKind.u32 b c) (bits BinOp.and IntKind.u32 (bits BinOp.xor IntKind.u32 IntKind.u32.max b) d) := by simp [Md.fsel, h]
  have e2 : Md.ksel i = i := by simp [Md.ksel, h]
  rw [e1, e2]; clear e1 e2
  go_enter Tryz.func133, Tryz.ntmps133
  go_wp2
  go_ret2
  exact ⟨rfl, rfl⟩
 ·obtain ⟨h2, h3⟩ := h
  have e1 : Md.fsel i b c d = bits BinOp.or IntKind.u32 (bits BinOp.and IntKind.u32 b d) (bits BinOp.andNot IntKind.u32 c d) := by simp [Md.fsel, h3, show ¬ i < 16 by omega]
  have e2 : ((Md.ksel i : Nat) : Int) = (5 * (i : Int) + 1) % 16 := by simp [Md.ksel, h3, show ¬ i < 16 by omega]
  rw [e1, e2]; clear e1 e2
  go_enter Tryz.func133, Tryz.ntmps133
  go_wp2
  go_ret2
  exact ⟨rfl, rfl⟩
 ·obtain ⟨h2, h3⟩ := h
  have e1 : Md.fsel i b c d = bits BinOp.xor IntKind.u32 (bits BinOp.xor IntKind.u32 b c) d := by simp [Md.fsel, h3, show ¬ i < 16 by omega, show ¬ i < 32 by omega]
  have e2 : ((Md.ksel i : Nat) : Int) = (3 * (i : Int) + 5) % 16 := by simp [Md.ksel, h3, show ¬ i < 16 by omega, show ¬ i < 32 by omega]
  rw [e1, e2]; clear e1 e2
  go_enter Tryz.func133, Tryz.ntmps133
  go_wp2
  go_ret2
  exact ⟨rfl, rfl⟩
 ·obtain ⟨h2, h3⟩ := h
  have e1 : Md.fsel i b c d = bits BinOp.xor IntKind.u32 c (bits BinOp.or IntKind.u32 b (bits BinOp.xor IntKind.u32 IntKind.u32.max d)) := by simp [Md.fsel, show ¬ i < 48 by omega, show ¬ i < 16 by omega, show ¬ i < 32 by omega]
  have e2 : ((Md.ksel i : Nat) : Int) = 7 * (i : Int) % 16 := by simp [Md.ksel, show ¬ i < 48 by omega, show ¬ i < 16 by omega, show ¬ i < 32 by omega]
  rw [e1, e2]; clear e1 e2
  go_enter Tryz.func133, Tryz.ntmps133
  go_wp2
  go_ret2
  exact ⟨rfl, rfl⟩
structure Tabs (w : World) : Prop where
 adds : ∀ i, i < 64 → w.cell? ⟨0, i, none⟩ = some (.int .u32 (Md.tabAt i))
 turn : ∀ i, i < 16 → w.cell? ⟨1, i, none⟩ = some (.int .i64 (Md.trnAt i))
theorem Tabs.lt {w : World} (h : Tabs w) : 1 < w.heap.size := block_lt_of_cell (h.turn 0 (by decide))
theorem Tabs.below {w w' : World} {B : Nat} (h : Tabs w) (hb : Below B w w') (hB : 2 ≤ B) : Tabs w' :=
 ⟨fun i hi => (hb.cell (by show 0 < B; omega)).trans (h.adds i hi), fun i hi => (hb.cell (by show 1 < B; omega)).trans (h.turn i hi)⟩
theorem w64id (n : Int) (h0 : 0 ≤ n) (h1 : n < 100) : IntKind.i64.wrap n = n := by
 simp [IntKind.wrap, IntKind.bits, IntKind.signed]; omega
theorem size34 : (Tryz.prog.info? 176).map (·.size) = some 4 := by kernel_rfl
set_option maxHeartbeats 1000000 in
theorem mix_any (s : Md.St) (b off cap : Nat) (bs : Nat → Int) (w : World) (ht : Tabs w) (hb : b < w.heap.size) (hcap : 64 ≤ cap) (hc : ∀ i, i < 64 → w.cell? ⟨b, off + i, none⟩ = some (.int .u8 (bs i))) :
  Calls Tryz.prog 130 #[Md.stV s, .slice (some ⟨b, off, none⟩) 64 cap] w fun e w' => e = .returned (Md.stV (Md.mixS s bs)) ∧ Below w.heap.size w w' := by
 have HT : Hid (Tabs w) := ht
 have hbt := ht.lt
 clear ht
 unfold Md.stV
 go_enter Tryz.func130, Tryz.ntmps130
 go_wp2_with fail
 refine (words_any b off cap bs _ (by simp; omega) hcap (fun i hi => ?_)).mono ?_
 ·rw [World.cell?_alloc_past _ _ _ (by simp; omega), World.cell?_alloc_past _ _ _ hb]
  exact hc i hi
 rintro e w1 ⟨rfl, hb1⟩
 have hA : w1.heap[w.heap.size]? = some (.cells #[.int .u32 s.a, .int .u32 s.b, .int .u32 s.c, .int .u32 s.d] 176 (0, 0)) := (hb1.block w.heap.size (by simp; omega)).trans (heap_alloc2_old w _ _)
 have hB : w1.heap[w.heap.size + 1]? = some (.cells #[.int .u32 0, .int .u32 0, .int .u32 0, .int .u32 0] 176 (0, 0)) := (hb1.block _ (by simp)).trans (heap_alloc2_new w _ _)
 have hz : w.heap.size + 2 ≤ w1.heap.size := by have := hb1.size; simpa using this
 have hbel : Below w.heap.size w w1 := (((Below.refl _ w).alloc (Nat.le_refl _) _).alloc (by simp) _).trans (hb1.mono (by simp; omega))
 clear hb1
 have cA := fun j => cell_of_row w1 _ j _ _ _ hA
 have hs0 : w1.cell? ⟨w.heap.size, 0, none⟩ = some (.int .u32 s.a) := cA 0
 have hs1 : w1.cell? ⟨w.heap.size, 1, none⟩ = some (.int .u32 s.b) := cA 1
 have hs2 : w1.cell? ⟨w.heap.size, 2, none⟩ = some (.int .u32 s.c) := cA 2
 have hs3 : w1.cell? ⟨w.heap.size, 3, none⟩ = some (.int .u32 s.d) := cA 3
 have HA := Hid.out (p := Hid _) (show Hid (Hid _) from hA)
 have HB : Hid _ := hB
 clear cA hA hB hc
 go_wp2_with (refine wpList_store_row rfl 187 _ _ rfl (w1.heap.size) _ rfl rfl 187 _ (heap_alloc_last _ _) (by rw [size50, Md.rowU_size]) (by simp [Md.rowU_size]) (Md.rowU_all _ _ _) ?_; rw [World.setRow_alloc_new])
 have i0 : w.heap.size < w1.heap.size := by omega
 go_quiet (fail)
 go_wp2
 go_loopw [6, 7, 8, 9, 24] (fun ra rb rc rd i wr => ∃ k : Nat, k ≤ 64 ∧ i = .int .i64 k ∧ ra = .int .u32 (Md.runTo bs k s).a ∧ rb = .int .u32 (Md.runTo bs k s).b ∧ rc = .int .u32 (Md.runTo bs k s).c ∧ rd = .int .u32 (Md.runTo bs k s).d ∧ wr.heap[w1.heap.size]? = some (.cells (Md.rowU 16 (Md.wd bs) 16) 187 (0, 0)) ∧ Below w1.heap.size w1 wr) (fun _ _ _ _ i _ => 64 - (intOf i).toNat)
 case atStart => exact ⟨0, by omega, rfl, rfl, rfl, rfl, rfl, heap_alloc_last _ _, below_drewN ((Below.refl _ w1).alloc (Nat.le_refl _) _) _⟩
 case round =>
  obtain ⟨k, hk, rfl, rfl, rfl, rfl, rfl, hW, hbw⟩ := hrel
  by_cases hlt : k < 64
  ·have hT : Tabs wr := HT.out.below (B := w.heap.size) (hbel.trans (hbw.mono (by omega))) (by omega)
   have t0 : wr.cell? ⟨0, k, none⟩ = some (.int .u32 (Md.tabAt k)) := hT.adds k hlt
   have t1 : wr.cell? ⟨1, k / 16 * 4 + k % 4, none⟩ = some (.int .i64 (Md.trnAt (k / 16 * 4 + k % 4))) := hT.turn _ (by omega)
   have t2 : wr.cell? ⟨w1.heap.size, Md.ksel k, none⟩ = some (.int .u32 (Md.wd bs (Md.ksel k))) := (cell_of_row wr _ _ _ _ _ hW).trans (by rw [Md.rowU_get _ _ _ _ (Md.ksel_lt k)]; simp [Md.ksel_lt k])
   have hr := Md.trnAt_range (k / 16 * 4 + k % 4) (by omega)
   have hr0 := hr.1
   have hr1 := hr.2
   have hks : ((Md.ksel k : Nat) : Int) < 16 := by have := Md.ksel_lt k; omega
   have HX : Hid (Md.runTo bs (k + 1) s = ⟨(Md.runTo bs k s).d, ((Md.runTo bs k s).b + Md.rotl (((Md.runTo bs k s).a + Md.fsel k (Md.runTo bs k s).b (Md.runTo bs k s).c (Md.runTo bs k s).d + Md.tabAt k + Md.wd bs (Md.ksel k)) % 4294967296) (Md.trnAt (k / 16 * 4 + k % 4))) % 4294967296, (Md.runTo bs k s).b, (Md.runTo bs k s).c⟩) := rfl
   have HW : Hid _ := hW
   have HBW : Hid _ := hbw
   have HBL : Hid _ := hbel
   clear hr hT hW hbw hbel hs0 hs1 hs2 hs3
   generalize Md.runTo bs k s = q at *
   go_wp2_with fail
   refine (choose_any k _ _ _ _ hlt).mono ?_
   rintro e w2 ⟨rfl, rfl⟩
   obtain ⟨r, hr⟩ : ∃ r, r = k / 16 := ⟨_, rfl⟩
   obtain ⟨j, hj⟩ : ∃ j, j = k % 4 := ⟨_, rfl⟩
   have k1 : IntKind.i64.wrap ((k : Int) / 16) = (r : Int) := by rw [w64id _ (by omega) (by omega)]; omega
   have k2 : Int.tmod (k : Int) 4 = (j : Int) := by rw [Int.tmod_eq_emod_of_nonneg (by omega)]; omega
   have k3 : r < 4 := by omega
   have k4 : j < 4 := by omega
   have k5 : (r : Int) < 4 := by omega
   have k6 : (j : Int) < 4 := by omega
   rw [← hr, ← hj] at t1 hr0 hr1 HX
   have HR : Hid (r = k / 16) := hr
   have HJ : Hid (j = k % 4) := hj
   clear hr hj
   go_wp2_with fail
   go_quiet ((go_at_call 134; refine Calls.quiet_of_same (rot_any _ _ _ (by assumption) (by assumption))))
   go_wp2
   refine ⟨⟨k + 1, by omega, by go_num, ?_⟩, by simp [intOf]; omega⟩
   rw [HX.out]
   exact ⟨rfl, rfl, rfl, rfl, HW.out, below_drewN HBW.out _⟩
  ·obtain rfl : k = 64 := by omega
   have hbl : w.heap.size < w1.heap.size := by omega
   have gA : wr.heap[w.heap.size]? = _ := (hbw.block _ hbl).trans HA.out
   have gB : wr.heap[w.heap.size + 1]? = _ := (hbw.block _ (by omega)).trans HB.out
   have cA := fun j => cell_of_row wr _ j _ _ _ gA
   have ws0 : wr.cell? ⟨w.heap.size, 0, none⟩ = some (.int .u32 s.a) := cA 0
   have ws1 : wr.cell? ⟨w.heap.size, 1, none⟩ = some (.int .u32 s.b) := cA 1
   have ws2 : wr.cell? ⟨w.heap.size, 2, none⟩ = some (.int .u32 s.c) := cA 2
   have ws3 : wr.cell? ⟨w.heap.size, 3, none⟩ = some (.int .u32 s.d) := cA 3
   have HX : Hid (Md.mixS s bs = ⟨(s.a + (Md.runTo bs 64 s).a) % 4294967296, (s.b + (Md.runTo bs 64 s).b) % 4294967296, (s.c + (Md.runTo bs 64 s).c) % 4294967296, (s.d + (Md.runTo bs 64 s).d) % 4294967296⟩) := rfl
   have HBW : Hid _ := hbw
   have HBL : Hid _ := hbel
   have HGB : Hid _ := gB
   clear cA gA hW hbw hbel hs0 hs1 hs2 hs3 gB
   generalize Md.runTo bs 64 s = q at *
   go_wp2_with (refine wpList_store_row rfl 176 _ _ rfl (w.heap.size + 1) #[.int .u32 ((s.a + q.a) % 4294967296), .int .u32 ((s.b + q.b) % 4294967296), .int .u32 ((s.c + q.c) % 4294967296), .int .u32 ((s.d + q.d) % 4294967296)] rfl rfl 176 _ HGB.out (by rw [size34]; rfl) (by rfl) (Md.all4 _ _ _ _) ?_)
   rw [HX.out]
   exact bodyPost_ret (v := .agg #[.int .u32 ((s.a + q.a) % 4294967296), .int .u32 ((s.b + q.b) % 4294967296), .int .u32 ((s.c + q.c) % 4294967296), .int .u32 ((s.d + q.d) % 4294967296)]) (results_cell_row (p := 4) (ty := 176) rfl _ _ (w.heap.size + 1) 176 _ (0, 0) _ rfl (setRow_heap _ _ _ _ _ _ HGB.out) Tryz.underlying176 rfl (by rw [size34]; rfl)) rfl ⟨rfl, below_setRow (HBL.out.trans (HBW.out.mono (by omega))) (by omega) _⟩
theorem mix_out (s : Md.St) (b off cap : Nat) (bs : Nat → Int) (w : World) (ht : Tabs w) (hb : b < w.heap.size) (hcap : 64 ≤ cap) (hc : ∀ i, i < 64 → w.cell? ⟨b, off + i, none⟩ = some (.int .u8 (bs i))) :
  Calls Tryz.prog 130 #[.agg #[.int .u32 s.a, .int .u32 s.b, .int .u32 s.c, .int .u32 s.d], .slice (some ⟨b, off, none⟩) 64 cap] w fun e w' => e = .returned (.agg #[.int .u32 (Md.mixS s bs).a, .int .u32 (Md.mixS s bs).b, .int .u32 (Md.mixS s bs).c, .int .u32 (Md.mixS s bs).d]) ∧ Below w.heap.size w w' :=
 mix_any s b off cap bs w ht hb hcap hc
theorem set4 {w : World} {g : Nat} {q s' : Md.St} (hA : w.heap[g]? = some (.cells (Md.stA q) 176 (0, 0))) :
  ((((w.setCell ⟨g, 0, none⟩ (.int .u32 s'.a)).setCell ⟨g, 1, none⟩ (.int .u32 s'.b)).setCell ⟨g, 2, none⟩ (.int .u32 s'.c)).setCell ⟨g, 3, none⟩ (.int .u32 s'.d)).heap[g]? = some (.cells (Md.stA s') 176 (0, 0)) ∧
  (∀ k, k ≠ g → ((((w.setCell ⟨g, 0, none⟩ (.int .u32 s'.a)).setCell ⟨g, 1, none⟩ (.int .u32 s'.b)).setCell ⟨g, 2, none⟩ (.int .u32 s'.c)).setCell ⟨g, 3, none⟩ (.int .u32 s'.d)).heap[k]? = w.heap[k]?) ∧
  (∀ B a, B ≤ g → Below B a w → Below B a ((((w.setCell ⟨g, 0, none⟩ (.int .u32 s'.a)).setCell ⟨g, 1, none⟩ (.int .u32 s'.b)).setCell ⟨g, 2, none⟩ (.int .u32 s'.c)).setCell ⟨g, 3, none⟩ (.int .u32 s'.d))) := by
 refine ⟨?_, fun k hk => ?_, fun B a hB hb => (((hb.setCell hB _).setCell hB _).setCell hB _).setCell hB _⟩
 ·rw [heap_setCell_same _ _ _ _ _ _ (heap_setCell_same _ _ _ _ _ _ (heap_setCell_same _ _ _ _ _ _ (heap_setCell_same _ _ _ _ _ _ hA)))]
  rfl
 ·rw [heap_setCell_other _ _ _ _ hk, heap_setCell_other _ _ _ _ hk, heap_setCell_other _ _ _ _ hk, heap_setCell_other _ _ _ _ hk]
theorem four {wr w2 : World} {g : Nat} {q : Md.St} (hb : Below wr.drew.heap.size wr.drew w2) (hA : wr.heap[g]? = some (.cells (Md.stA q) 176 (0, 0))) :
  w2.cell? ⟨g, 0, none⟩ = some (.int .u32 q.a) ∧ w2.cell? ⟨g, 1, none⟩ = some (.int .u32 q.b) ∧ w2.cell? ⟨g, 2, none⟩ = some (.int .u32 q.c) ∧ w2.cell? ⟨g, 3, none⟩ = some (.int .u32 q.d) ∧
  w2.frozen? ⟨g, 0, none⟩ = false ∧ w2.frozen? ⟨g, 1, none⟩ = false ∧ w2.frozen? ⟨g, 2, none⟩ = false ∧ w2.frozen? ⟨g, 3, none⟩ = false := by
 have hlt : g < wr.heap.size := block_lt_of_cell (cell_of_row wr g 0 _ _ _ hA)
 have h2 : w2.heap[g]? = some (.cells (Md.stA q) 176 (0, 0)) := (hb.block g hlt).trans hA
 exact ⟨cell_of_row w2 g 0 _ _ _ h2, cell_of_row w2 g 1 _ _ _ h2, cell_of_row w2 g 2 _ _ _ h2, cell_of_row w2 g 3 _ _ _ h2, frozen_of_row _ _ _ _ _ h2, frozen_of_row _ _ _ _ _ h2, frozen_of_row _ _ _ _ _ h2, frozen_of_row _ _ _ _ _ h2⟩
set_option maxHeartbeats 1000000 in
theorem mixAll_any (s : Md.St) (ao : Option Addr) (m cap : Nat) (bs : Nat → Int) (w : World) (ht : Tabs w) (hr : ByteRow w ao (64 * m) cap bs) (hm : 64 * m ≤ 140737488355328) :
  Calls Tryz.prog 127 #[.agg (Md.stA s), .slice ao (64 * m) cap] w fun e w' => e = .returned (.agg (Md.stA (Md.mixN s bs m))) ∧ Below w.heap.size w w' := by
 have HT : Hid (Tabs w) := ht
 have HR : Hid _ := hr
 have hbt := ht.lt
 clear ht hr
 unfold Md.stA
 go_enter Tryz.func127, Tryz.ntmps127
 go_wp2
 go_loopw [5] (fun i wr => ∃ k : Nat, k ≤ m ∧ i = .int .i64 (64 * k) ∧ wr.heap[w.heap.size]? = some (.cells (Md.stA (Md.mixN s bs k)) 176 (0, 0)) ∧ wr.heap[w.heap.size + 1]? = some (.cells (Md.stA ⟨0, 0, 0, 0⟩) 176 (0, 0)) ∧ Below w.heap.size w wr) (fun i _ => 64 * m - (intOf i).toNat)
 case atStart => exact ⟨0, by omega, rfl, heap_alloc2_old w _ _, heap_alloc2_new w _ _, ((Below.refl _ _).alloc (Nat.le_refl _) _).alloc (by simp) _⟩
 case round =>
  obtain ⟨k, hk, rfl, hA, hB, hbel⟩ := hrel
  by_cases hlt : k < m
  ·obtain ⟨hcap, hrow⟩ := HR.out
   obtain ⟨b, off, rfl, hb, hc⟩ := hrow (by omega)
   have HA : Hid _ := hA
   have HB : Hid _ := hB
   have HBL : Hid _ := hbel
   have HC : Hid _ := hc
   have hs := hbel.size
   have hsz := block_lt_of_cell (cell_of_row wr _ 0 _ _ _ hB)
   have a0 : wr.cell? ⟨w.heap.size, 0, none⟩ = some (.int .u32 (Md.mixN s bs k).a) := cell_of_row wr _ 0 _ _ _ hA
   have a1 : wr.cell? ⟨w.heap.size, 1, none⟩ = some (.int .u32 (Md.mixN s bs k).b) := cell_of_row wr _ 1 _ _ _ hA
   have a2 : wr.cell? ⟨w.heap.size, 2, none⟩ = some (.int .u32 (Md.mixN s bs k).c) := cell_of_row wr _ 2 _ _ _ hA
   have a3 : wr.cell? ⟨w.heap.size, 3, none⟩ = some (.int .u32 (Md.mixN s bs k).d) := cell_of_row wr _ 3 _ _ _ hA
   have hw : IntKind.i64.wrap (64 * (k : Int) + 64) = ((64 * k + 64 : Nat) : Int) := by simp [IntKind.wrap, IntKind.bits, IntKind.signed]; omega
   have h64 : (64 * k + 64 : Nat) ≤ cap := by omega
   have h65 : ((64 * k + 64 : Nat) : Int) ≤ (cap : Int) := by omega
   have HT' : Hid (Tabs wr.drew) := HT.out.below hbel.drew (by omega)
   have HB' : Hid (b < wr.drew.heap.size) := (show b < wr.heap.size from by omega)
   have HC' : Hid (∀ i, i < 64 → wr.drew.cell? ⟨b, off + 64 * k + i, none⟩ = some (.int .u8 (bs (64 * k + i)))) := fun i hi => ((hbel.drew.cell (by exact hb)).trans (by rw [Nat.add_assoc]; exact hc (64 * k + i) (by omega)))
   clear hA hB hbel hc hrow HR HC HT
   have HQ : Hid (Md.mixN s bs (k + 1) = Md.mixS (Md.mixN s bs k) fun i => bs (64 * k + i)) := rfl
   generalize Md.mixN s bs k = q at *
   go_wp2_with fail
   go_region_with (go_at_call 130; refine (mix_out q b (off + 64 * k) (cap - 64 * k) (fun i => bs (64 * k + i)) _ HT'.out HB'.out (by omega) HC'.out).mono ?_; rintro e w2 ⟨rfl, hb2⟩; have c2 := four hb2 HA.out; obtain ⟨c20, c21, c22, c23, f20, f21, f22, f23⟩ := c2; have HB2 : Hid _ := hb2; clear hb2)
   all_goals go_wp2
   all_goals
    have hset := set4 (s' := Md.mixS q fun i => bs (64 * k + i)) ((HB2.out.block w.heap.size (show _ < wr.heap.size from by omega)).trans HA.out)
    exact ⟨⟨k + 1, by omega, by go_num, by rw [HQ.out]; exact hset.1, (hset.2.1 _ (by omega)).trans ((HB2.out.block (w.heap.size + 1) (show _ < wr.heap.size from by omega)).trans HB.out), hset.2.2 _ _ (Nat.le_refl _) (HBL.out.drew.trans (HB2.out.mono (show _ ≤ wr.heap.size from by omega)))⟩, by simp [intOf]; omega⟩
  ·obtain rfl : k = m := by omega
   clear HR HT
   go_wp2_with (first | refine wpList_load_row rfl 176 _ rfl (w.heap.size) rfl 176 _ (0, 0) _ hA Tryz.underlying176 rfl (by rw [size34, Md.stA_size]) ?_ | refine wpList_store_row rfl 176 _ _ rfl (w.heap.size + 1) (Md.stA (Md.mixN s bs k)) rfl rfl 176 _ hB (by rw [size34, Md.stA_size]) (by rfl) (Md.stA_all _) ?_)
   exact bodyPost_ret (v := .agg (Md.stA (Md.mixN s bs k))) (results_cell_row (p := 4) (ty := 176) rfl _ _ (w.heap.size + 1) 176 _ (0, 0) _ rfl (setRow_heap _ _ _ _ _ _ hB) Tryz.underlying176 rfl (by rw [size34, Md.stA_size])) rfl ⟨rfl, below_setRow hbel (by omega) _⟩
theorem make16 (w : World) : (Instr.makeSlice 93 (.int .i64 16) (.int .i64 16)).run Tryz.prog w = .ok (.slice (some ⟨w.heap.size, 0, none⟩) 16 16) (w.alloc (.cells #[.int .u8 0, .int .u8 0, .int .u8 0, .int .u8 0, .int .u8 0, .int .u8 0, .int .u8 0, .int .u8 0, .int .u8 0, .int .u8 0, .int .u8 0, .int .u8 0, .int .u8 0, .int .u8 0, .int .u8 0, .int .u8 0] 5)) := by kernel_rfl
set_option maxHeartbeats 1000000 in
theorem digest_any (s : Md.St) (w : World) :
  Calls Tryz.prog 128 #[.agg (Md.stA s)] w fun e w' => e = .returned (.slice (some ⟨w.heap.size + 1, 0, none⟩) 16 16) ∧ w'.heap[w.heap.size + 1]? = some (.cells (Md.rowB 16 (Md.dg s) 16) 5 (0, 0)) ∧ Below w.heap.size w w' := by
 have hmk := make16
 unfold Md.stA
 go_enter Tryz.func128, Tryz.ntmps128
 go_wp2
 go_loopw [8] (fun i wr => ∃ k : Nat, k ≤ 16 ∧ i = .int .i64 k ∧ wr.heap[w.heap.size]? = some (.cells (Md.stA s) 176 (0, 0)) ∧ wr.heap[w.heap.size + 1]? = some (.cells (Md.rowB 16 (Md.dg s) k) 5 (0, 0)) ∧ Below w.heap.size w wr) (fun i _ => 16 - (intOf i).toNat)
 case atStart => exact ⟨0, by omega, rfl, heap_alloc2_old w _ _, heap_alloc2_new w _ _, ((Below.refl _ _).alloc (Nat.le_refl _) _).alloc (by simp) _⟩
 case round =>
  obtain ⟨k, hk, rfl, hA, hB, hbel⟩ := hrel
  by_cases hlt : k < 16
  ·have ca : ∀ j, j < 4 → wr.cell? ⟨w.heap.size, j, none⟩ = some (.int .u32 (Md.wordOf s j)) := by
    intro j hj
    rw [cell_of_row wr _ j _ _ _ hA]
    rcases (show j = 0 ∨ j = 1 ∨ j = 2 ∨ j = 3 by omega) with rfl | rfl | rfl | rfl <;> rfl
   have c1 := ca (k / 4) (by omega)
   have c4 : wr.cell? ⟨w.heap.size + 1, k, none⟩ = some (.int .u8 0) := (cell_of_row wr _ k _ _ _ hB).trans (by rw [Md.rowB_get _ _ _ _ hlt]; simp)
   have f4 : wr.frozen? ⟨w.heap.size + 1, k, none⟩ = false := frozen_of_row _ _ _ _ _ hB
   have HR : Hid ((wr.setCell ⟨w.heap.size + 1, k, none⟩ (.int .u8 (Md.dg s k))).heap[w.heap.size]? = some (.cells (Md.stA s) 176 (0, 0)) ∧ (wr.setCell ⟨w.heap.size + 1, k, none⟩ (.int .u8 (Md.dg s k))).heap[w.heap.size + 1]? = some (.cells (Md.rowB 16 (Md.dg s) (k + 1)) 5 (0, 0)) ∧ Below w.heap.size w (wr.setCell ⟨w.heap.size + 1, k, none⟩ (.int .u8 (Md.dg s k)))) :=
    ⟨by rw [heap_setCell_other _ _ _ _ (by simp)]; exact hA, by rw [heap_setCell_same _ _ _ _ _ _ hB, Md.rowB_set _ _ _ hlt], hbel.setCell (by simp) _⟩
   clear ca hA hB hbel
   go_wp2
   exact ⟨⟨k + 1, by omega, by go_num, HR.out.1, HR.out.2.1, HR.out.2.2⟩, by simp [intOf]; omega⟩
  ·obtain rfl : k = 16 := by omega
   go_wp2
   go_ret
   exact ⟨rfl, hB, hbel⟩
end
section
namespace Md
def lastN (n : Nat) : Nat := if n + 9 ≤ 64 then 1 else 2
def lastTo (n sz : Nat) (bs : Nat → Int) (bits : Int) (k i : Nat) : Int :=
 if i < n then bs i else if i = n then 128 else if sz - 8 ≤ i ∧ i < sz - 8 + k then bits / 2 ^ (8 * (i + 8 - sz)) % 256 else 0
def lastB (n : Nat) (bs : Nat → Int) (bits : Int) (i : Nat) : Int := lastTo n (64 * lastN n) bs bits 8 i
theorem lastTo_step (n sz : Nat) (bs : Nat → Int) (bits : Int) (k : Nat) (hsz : n + 9 ≤ sz) (i : Nat) : (if i = sz - 8 + k then bits / 2 ^ (8 * k) % 256 else lastTo n sz bs bits k i) = lastTo n sz bs bits (k + 1) i := by
 unfold lastTo
 by_cases h : i = sz - 8 + k
 ·rw [if_pos h, if_neg (by omega), if_neg (by omega), if_pos (by omega), show i + 8 - sz = k by omega]
 ·rw [if_neg h]
  by_cases h1 : i < n
  ·simp [h1]
  ·by_cases h2 : i = n
   ·simp [h2]
   ·simp only [h1, h2, if_false]
    have : (sz - 8 ≤ i ∧ i < sz - 8 + k) ↔ (sz - 8 ≤ i ∧ i < sz - 8 + (k + 1)) := by omega
    simp only [this]
theorem lastTo_zero (n sz : Nat) (bs : Nat → Int) (bits : Int) (i : Nat) : (if i = n then (128 : Int) else if i < n then bs i else 0) = lastTo n sz bs bits 0 i := by
 unfold lastTo
 by_cases h1 : i < n
 ·rw [if_neg (by omega), if_pos h1, if_pos h1]
 ·by_cases h2 : i = n
  ·rw [if_pos h2, if_neg h1, if_pos h2]
  ·rw [if_neg h2, if_neg h1, if_neg h1, if_neg h2, if_neg (by omega)]
end Md
end
end Go.Proofs.YtcbpafpaimpfnaaGreatDoor
