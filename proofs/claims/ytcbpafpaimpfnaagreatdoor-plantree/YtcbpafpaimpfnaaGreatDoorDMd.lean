/- What md5's functions come to, in the walk's own words: plain functions on integers. -/
import GoSem.Claim
import Derived.Test.YtcbpafpaimpfnaaGreatDoorG
namespace Go.Proofs.YtcbpafpaimpfnaaGreatDoor
namespace Md

/-- A row of n words: the first k are f's, the rest 0. -/
def rowU (n : Nat) (f : Nat → Int) (k : Nat) : Array Value := ((List.range n).map fun i => Value.int .u32 (if i < k then f i else 0)).toArray
theorem rowU_size (n : Nat) (f : Nat → Int) (k : Nat) : (rowU n f k).size = n := by simp [rowU]
theorem rowU_get (n : Nat) (f : Nat → Int) (k j : Nat) (h : j < n) : (rowU n f k)[j]? = some (.int .u32 (if j < k then f j else 0)) := by
  simp [rowU, h]
theorem rowU_set (n : Nat) (f : Nat → Int) (k : Nat) (h : k < n) : (rowU n f k).setIfInBounds k (.int .u32 (f k)) = rowU n f (k + 1) := by
  apply Array.ext_getElem?
  intro i
  by_cases hi : i < n
  · rw [rowU_get n f (k + 1) i hi, Array.getElem?_setIfInBounds]
    by_cases e : k = i
    · subst e; simp [rowU_size, h]
    · rw [if_neg e, rowU_get n f k i hi]
      have : (i < k) ↔ (i < k + 1) := by omega
      simp [this]
  · have h1 : n ≤ i := by omega
    rw [Array.getElem?_eq_none (by simp [rowU_size]; omega), Array.getElem?_eq_none (by simp [rowU_size]; omega)]
theorem rowU_all (n : Nat) (f : Nat → Int) (k : Nat) : (rowU n f k).all (·.oneCell') = true := by
  rw [Array.all_eq_true_iff_forall_mem]
  intro v hv
  simp [rowU] at hv
  obtain ⟨i, _, rfl⟩ := hv
  rfl

/-- A row of n bytes: the first k are f's, the rest 0. -/
def rowB (n : Nat) (f : Nat → Int) (k : Nat) : Array Value := ((List.range n).map fun i => Value.int .u8 (if i < k then f i else 0)).toArray
theorem rowB_size (n : Nat) (f : Nat → Int) (k : Nat) : (rowB n f k).size = n := by simp [rowB]
theorem rowB_get (n : Nat) (f : Nat → Int) (k j : Nat) (h : j < n) : (rowB n f k)[j]? = some (.int .u8 (if j < k then f j else 0)) := by
  simp [rowB, h]
theorem rowB_set (n : Nat) (f : Nat → Int) (k : Nat) (h : k < n) : (rowB n f k).setIfInBounds k (.int .u8 (f k)) = rowB n f (k + 1) := by
  apply Array.ext_getElem?
  intro i
  by_cases hi : i < n
  · rw [rowB_get n f (k + 1) i hi, Array.getElem?_setIfInBounds]
    by_cases e : k = i
    · subst e; simp [rowB_size, h]
    · rw [if_neg e, rowB_get n f k i hi]
      have : (i < k) ↔ (i < k + 1) := by omega
      simp [this]
  · have h1 : n ≤ i := by omega
    rw [Array.getElem?_eq_none (by simp [rowB_size]; omega), Array.getElem?_eq_none (by simp [rowB_size]; omega)]
theorem rowB_all (n : Nat) (f : Nat → Int) (k : Nat) : (rowB n f k).all (·.oneCell') = true := by
  rw [Array.all_eq_true_iff_forall_mem]
  intro v hv
  simp [rowB] at hv
  obtain ⟨i, _, rfl⟩ := hv
  rfl

/-- A block's word i, the low byte first. -/
def wd (bs : Nat → Int) (i : Nat) : Int :=
  bits BinOp.or IntKind.u32 (bits BinOp.or IntKind.u32 (bits BinOp.or IntKind.u32 (bs (4 * i) % 4294967296) (bs (4 * i + 1) % 4294967296 * 256 % 4294967296)) (bs (4 * i + 2) % 4294967296 * 65536 % 4294967296)) (bs (4 * i + 3) % 4294967296 * 16777216 % 4294967296)

def tab : List Int := [0xD76AA478, 0xE8C7B756, 0x242070DB, 0xC1BDCEEE, 0xF57C0FAF, 0x4787C62A, 0xA8304613, 0xFD469501,
  0x698098D8, 0x8B44F7AF, 0xFFFF5BB1, 0x895CD7BE, 0x6B901122, 0xFD987193, 0xA679438E, 0x49B40821,
  0xF61E2562, 0xC040B340, 0x265E5A51, 0xE9B6C7AA, 0xD62F105D, 0x02441453, 0xD8A1E681, 0xE7D3FBC8,
  0x21E1CDE6, 0xC33707D6, 0xF4D50D87, 0x455A14ED, 0xA9E3E905, 0xFCEFA3F8, 0x676F02D9, 0x8D2A4C8A,
  0xFFFA3942, 0x8771F681, 0x6D9D6122, 0xFDE5380C, 0xA4BEEA44, 0x4BDECFA9, 0xF6BB4B60, 0xBEBFBC70,
  0x289B7EC6, 0xEAA127FA, 0xD4EF3085, 0x04881D05, 0xD9D4D039, 0xE6DB99E5, 0x1FA27CF8, 0xC4AC5665,
  0xF4292244, 0x432AFF97, 0xAB9423A7, 0xFC93A039, 0x655B59C3, 0x8F0CCC92, 0xFFEFF47D, 0x85845DD1,
  0x6FA87E4F, 0xFE2CE6E0, 0xA3014314, 0x4E0811A1, 0xF7537E82, 0xBD3AF235, 0x2AD7D2BB, 0xEB86D391]
def trn : List Int := [7, 12, 17, 22, 5, 9, 14, 20, 4, 11, 16, 23, 6, 10, 15, 21]
def tabAt (i : Nat) : Int := tab.getD i 0
def trnAt (i : Nat) : Int := trn.getD i 0
theorem trnAt_range : ∀ i, i < 16 → 0 ≤ trnAt i ∧ trnAt i < 32 := by decide

def rotl (x k : Int) : Int := bits BinOp.or IntKind.u32 (x * 2 ^ k.toNat % 4294967296) (x / 2 ^ (32 - k).toNat)

/-- The round's function of three words, and which word of the block step i takes. -/
def fsel (i : Nat) (b c d : Int) : Int :=
  if i < 16 then bits BinOp.or IntKind.u32 (bits BinOp.and IntKind.u32 b c) (bits BinOp.and IntKind.u32 (bits BinOp.xor IntKind.u32 IntKind.u32.max b) d)
  else if i < 32 then bits BinOp.or IntKind.u32 (bits BinOp.and IntKind.u32 b d) (bits BinOp.andNot IntKind.u32 c d)
  else if i < 48 then bits BinOp.xor IntKind.u32 (bits BinOp.xor IntKind.u32 b c) d
  else bits BinOp.xor IntKind.u32 c (bits BinOp.or IntKind.u32 b (bits BinOp.xor IntKind.u32 IntKind.u32.max d))
def ksel (i : Nat) : Nat :=
  if i < 16 then i else if i < 32 then (5 * i + 1) % 16 else if i < 48 then (3 * i + 5) % 16 else 7 * i % 16
theorem ksel_lt (i : Nat) : ksel i < 16 := by unfold ksel; split; · assumption
                                              · split; · omega
                                                · split <;> omega

structure St where
  a : Int
  b : Int
  c : Int
  d : Int
def stV (s : St) : Value := .agg #[.int .u32 s.a, .int .u32 s.b, .int .u32 s.c, .int .u32 s.d]
theorem all4 (a b c d : Int) : (#[Value.int .u32 a, .int .u32 b, .int .u32 c, .int .u32 d] : Array Value).all (·.oneCell') = true := by
  rw [Array.all_eq_true_iff_forall_mem]
  intro v hv
  simp at hv
  rcases hv with rfl | rfl | rfl | rfl <;> rfl
def stp (bs : Nat → Int) (i : Nat) (s : St) : St :=
  ⟨s.d, (s.b + rotl ((s.a + fsel i s.b s.c s.d + tabAt i + wd bs (ksel i)) % 4294967296) (trnAt (i / 16 * 4 + i % 4))) % 4294967296, s.b, s.c⟩
def runTo (bs : Nat → Int) : Nat → St → St
  | 0, s => s
  | k + 1, s => stp bs k (runTo bs k s)
def mixS (s : St) (bs : Nat → Int) : St :=
  ⟨(s.a + (runTo bs 64 s).a) % 4294967296, (s.b + (runTo bs 64 s).b) % 4294967296, (s.c + (runTo bs 64 s).c) % 4294967296, (s.d + (runTo bs 64 s).d) % 4294967296⟩
def st0 : St := ⟨1732584193, 4023233417, 2562383102, 271733878⟩

/-- m blocks, one after the other. -/
def mixN (s : St) (bs : Nat → Int) : Nat → St
  | 0 => s
  | k + 1 => mixS (mixN s bs k) (fun i => bs (64 * k + i))
def stA (s : St) : Array Value := #[.int .u32 s.a, .int .u32 s.b, .int .u32 s.c, .int .u32 s.d]
theorem stA_all (s : St) : (stA s).all (·.oneCell') = true := all4 _ _ _ _
theorem stA_size (s : St) : (stA s).size = 4 := rfl

def wordOf (s : St) : Nat → Int
  | 0 => s.a
  | 1 => s.b
  | 2 => s.c
  | _ => s.d
def dg (s : St) (i : Nat) : Int := wordOf s (i / 4) / 2 ^ (8 * (i % 4)) % 256

end Md
end Go.Proofs.YtcbpafpaimpfnaaGreatDoor
