/- Rows of bytes, slices of bytes, what is appended to them: for whatever program. -/
import Derived.Test.YtcbpafpaimpfnaaGreatDoorGG
namespace Go.Proofs.YtcbpafpaimpfnaaGreatDoor
open Go.RowKit

/-- A row of n bytes, f's. -/
def rowF (n : Nat) (f : Nat → Int) : Array Value := ((List.range n).map fun i => Value.int .u8 (f i)).toArray
theorem rowF_size (n : Nat) (f : Nat → Int) : (rowF n f).size = n := by simp [rowF]
theorem rowF_get (n : Nat) (f : Nat → Int) (j : Nat) (h : j < n) : (rowF n f)[j]? = some (.int .u8 (f j)) := by simp [rowF, h]
theorem rowF_set (n : Nat) (f : Nat → Int) (k : Nat) (v : Int) (h : k < n) : (rowF n f).setIfInBounds k (.int .u8 v) = rowF n (fun i => if i = k then v else f i) := by
  apply Array.ext_getElem?
  intro i
  by_cases hi : i < n
  · rw [rowF_get n _ i hi, Array.getElem?_setIfInBounds]
    by_cases e : k = i
    · subst e; simp [rowF_size, h]
    · rw [if_neg e, rowF_get n f i hi, if_neg (fun h => e h.symm)]
  · rw [Array.getElem?_eq_none (by simp [rowF_size]; omega), Array.getElem?_eq_none (by simp [rowF_size]; omega)]
theorem rowF_congr (n : Nat) (f g : Nat → Int) (h : ∀ i, i < n → f i = g i) : rowF n f = rowF n g := by
  unfold rowF
  congr 1
  apply List.map_congr_left
  intro i hi
  rw [h i (by simpa using hi)]
theorem rowF_all (n : Nat) (f : Nat → Int) : (rowF n f).all (·.oneCell') = true := by
  rw [Array.all_eq_true_iff_forall_mem]
  intro v hv
  simp [rowF] at hv
  obtain ⟨i, _, rfl⟩ := hv
  rfl
def bytesL (n : Nat) (f : Nat → Int) : List Value := (List.range n).map fun i => Value.int .u8 (f i)
theorem bytesL_length (n : Nat) (f : Nat → Int) : (bytesL n f).length = n := by simp [bytesL]
theorem bytesL_get (n : Nat) (f : Nat → Int) (j : Nat) (v : Value) (h : (bytesL n f)[j]? = some v) : j < n ∧ v = .int .u8 (f j) := by
  have hj : j < n := by
    have := (List.getElem?_eq_some_iff.1 h).1
    simpa [bytesL] using this
  refine ⟨hj, ?_⟩
  simp [bytesL, hj] at h
  exact h.symm
theorem bytesL_one (n : Nat) (f : Nat → Int) : ∀ v ∈ bytesL n f, v.oneCell' = true := by
  intro v hv
  simp [bytesL] at hv
  obtain ⟨i, _, rfl⟩ := hv
  rfl
theorem bytesL_congr (n : Nat) (f g : Nat → Int) (h : ∀ i, i < n → f i = g i) : bytesL n f = bytesL n g := by
  unfold bytesL
  apply List.map_congr_left
  intro i hi
  rw [h i (by simpa using hi)]
theorem bytesL_append (n m : Nat) (f g : Nat → Int) : bytesL n f ++ bytesL m g = bytesL (n + m) (fun i => if i < n then f i else g (i - n)) := by
  apply List.ext_getElem?
  intro i
  by_cases h : i < n
  · rw [List.getElem?_append_left (by rw [bytesL_length]; exact h)]
    simp [bytesL, h, show i < n + m by omega]
  · rw [List.getElem?_append_right (by rw [bytesL_length]; omega), bytesL_length]
    by_cases h2 : i < n + m
    · simp [bytesL, h, h2, show i - n < m by omega]
    · rw [List.getElem?_eq_none (by rw [bytesL_length]; omega), List.getElem?_eq_none (by rw [bytesL_length]; omega)]
/-- n bytes laid over the head of a row of m noughts. -/
theorem splice_row (m n : Nat) (f : Nat → Int) (h : n ≤ m) : (splice (bytesL m (fun _ => 0)) 0 (bytesL n f)).toArray = rowF m (fun i => if i < n then f i else 0) := by
  unfold splice rowF
  congr 1
  apply List.ext_getElem?
  intro i
  simp only [List.take_zero, List.nil_append, Nat.zero_add, bytesL_length]
  by_cases hi : i < n
  · rw [List.getElem?_append_left (by simpa [bytesL_length] using hi)]
    simp [bytesL, hi, show i < m by omega]
  · rw [List.getElem?_append_right (by simp [bytesL_length]; omega)]
    by_cases hm : i < m
    · simp [bytesL, List.getElem?_drop, hi, show n + (i - n) = i by omega, hm]
    · simp [bytesL, List.getElem?_drop, show n + (i - n) = i by omega, hm]
/-- A slice of n bytes: bs. -/
def ByteRow (w : World) (ao : Option Addr) (n cap : Nat) (bs : Nat → Int) : Prop :=
  n ≤ cap ∧ (0 < n → ∃ b off, ao = some ⟨b, off, none⟩ ∧ b < w.heap.size ∧ ∀ i, i < n → w.cell? ⟨b, off + i, none⟩ = some (.int .u8 (bs i)))
theorem ByteRow.below {w w' : World} {ao : Option Addr} {n cap : Nat} {bs : Nat → Int} (h : ByteRow w ao n cap bs) (hb : Below w.heap.size w w') : ByteRow w' ao n cap bs := by
  refine ⟨h.1, fun hp => ?_⟩
  obtain ⟨b, off, e, hlt, hc⟩ := h.2 hp
  exact ⟨b, off, e, Nat.lt_of_lt_of_le hlt hb.size, fun i hi => (hb.cell (by exact hlt)).trans (hc i hi)⟩
theorem ByteRow.congr {w : World} {ao : Option Addr} {n cap : Nat} {bs cs : Nat → Int} (h : ByteRow w ao n cap bs) (e : ∀ i, i < n → bs i = cs i) : ByteRow w ao n cap cs := by
  refine ⟨h.1, fun hp => ?_⟩
  obtain ⟨b, off, e1, hlt, hc⟩ := h.2 hp
  exact ⟨b, off, e1, hlt, fun i hi => by rw [← e i hi]; exact hc i hi⟩
theorem src_row {W : World} {ao : Option Addr} {n cap : Nat} {bs : Nat → Int} (h : ByteRow W ao n cap bs) {ad : Addr} (e : ao = some ad) : ∀ j v, (bytesL n bs)[j]? = some v → W.cell? (ad.add j) = some v := by
  intro j v hj
  obtain ⟨hj1, rfl⟩ := bytesL_get _ _ _ _ hj
  obtain ⟨b, off, e2, _, hc⟩ := h.2 (by omega)
  rw [e] at e2
  cases e2
  rw [add_row]
  exact hc j hj1
theorem ByteRow.of_row {w : World} {g N off n cap : Nat} {f : Nat → Int} {ty : TypeId} (h : w.heap[g]? = some (.cells (rowF N f) ty (0, 0))) (hn : off + n ≤ N) (hc : n ≤ cap) : ByteRow w (some ⟨g, off, none⟩) n cap (fun i => f (off + i)) := by
  refine ⟨hc, fun hp => ⟨g, off, rfl, block_lt_of_cell ((cell_of_row w g off _ _ _ h).trans (rowF_get _ _ _ (by omega))), fun i hi => (cell_of_row w g (off + i) _ _ _ h).trans (rowF_get _ _ _ (by omega))⟩⟩
theorem size5 : (Tryz.prog.info? 5).map (·.size) = some 1 := by kernel_rfl
theorem copy_src {W : World} {ao : Option Addr} {n m cap : Nat} {bs : Nat → Int} (h : ByteRow W ao n cap bs) (hm : m ≤ n) (hp : 0 < (bytesL m bs).length) : ∃ ad, ao = some ad ∧ ∀ j v, (bytesL m bs)[j]? = some v → W.cell? (ad.add j) = some v := by
  rw [bytesL_length] at hp
  obtain ⟨b, off, rfl, hb, hc⟩ := h.2 (by omega)
  refine ⟨_, rfl, fun j v hj => ?_⟩
  obtain ⟨hj1, rfl⟩ := bytesL_get _ _ _ _ hj
  rw [add_row]
  exact hc j (by omega)
theorem ByteRow.other {w w' : World} {ao : Option Addr} {n c : Nat} {bs : Nat → Int} (h : ByteRow w ao n c bs) (e : ∀ b off, ao = some ⟨b, off, none⟩ → w'.heap[b]? = w.heap[b]?) (hs : w.heap.size ≤ w'.heap.size) : ByteRow w' ao n c bs := by
  refine ⟨h.1, fun hp => ?_⟩
  obtain ⟨b, off, e1, hlt, hc⟩ := h.2 hp
  exact ⟨b, off, e1, Nat.lt_of_lt_of_le hlt hs, fun i hi => (World.cell?_of_block (w := w) (e b off e1)).trans (hc i hi)⟩
theorem ByteRow.prefix {w : World} {ao : Option Addr} {n m c : Nat} {bs : Nat → Int} (h : ByteRow w ao n c bs) (hm : m ≤ n) : ByteRow w ao m c bs := by
  refine ⟨Nat.le_trans hm h.1, fun hp => ?_⟩
  obtain ⟨b, off, e1, hlt, hc⟩ := h.2 (by omega)
  exact ⟨b, off, e1, hlt, fun i hi => hc i (by omega)⟩
theorem ByteRow.drewN {w : World} {ao : Option Addr} {n c : Nat} {bs : Nat → Int} (h : ByteRow w ao n c bs) (k : Nat) : ByteRow (w.drewN k) ao n c bs := h
/-- What lies behind the first k bytes. -/
theorem ByteRow.behind {w : World} {b off : Nat} {n c : Nat} {bs : Nat → Int} (h : ByteRow w (some ⟨b, off, none⟩) n c bs) (k : Nat) (hk : k < n) : ByteRow w (some ⟨b, off + k, none⟩) (n - k) (c - k) (fun i => bs (k + i)) := by
  refine ⟨by have := h.1; omega, fun hp => ?_⟩
  obtain ⟨b1, off1, e, hlt, hc⟩ := h.2 (by omega)
  cases e
  exact ⟨b, off + k, rfl, hlt, fun i hi => by rw [Nat.add_assoc]; exact hc (k + i) (by omega)⟩
theorem info5 : (Tryz.prog.info? 5).map (fun i => (i.zero, i.size, i.bytes)) = some (some (.int .u8 0), 1, 1) := by kernel_rfl
theorem owns_below {w w' : World} {base e size n : Nat} {v : Value} {xs : List Value} (h : w.ownsRow base e size v n xs) (hb : Below w.heap.size w w') : w'.ownsRow base e size v n xs := by
  obtain ⟨h1, h2⟩ := h
  refine ⟨h1, ?_⟩
  rcases h2 with h2 | ⟨g, cap, cur, hv, hg, hh, r⟩
  · exact Or.inl h2
  · exact Or.inr ⟨g, cap, cur, hv, hg, by rw [hb.block g (by
      rcases Nat.lt_or_ge g w.heap.size with h | h
      · exact h
      · rw [Array.getElem?_eq_none h] at hh; cases hh)]; exact hh, r⟩
theorem owns_block {w : World} {base e size n : Nat} {v : Value} {xs : List Value} (h : w.ownsRow base e size v n xs) : ∀ k, v.ownBlock = some k → base ≤ k := by
  intro k hk
  obtain ⟨_, h2⟩ := h
  rcases h2 with ⟨rfl, _⟩ | ⟨g, cap, cur, rfl, hg, _⟩
  · simp [Value.ownBlock] at hk
  · simp [Value.ownBlock] at hk; omega
theorem owns_row {w : World} {base n : Nat} {v : Value} {f : Nat → Int} (h : w.ownsRow base 5 1 v n (bytesL n f)) : ∃ ao cap, v = .slice ao n cap ∧ ByteRow w ao n cap f ∧ cap ≤ maxLen ∧ (ao = none → n = 0 ∧ cap = 0) ∧ (∀ ad, ao = some ad → base ≤ ad.block) := by
  have h' := h
  obtain ⟨_, h2⟩ := h
  rcases h2 with ⟨rfl, rfl⟩ | ⟨g, cap, cur, rfl, hg, hh, hn, hm, _, _⟩
  · exact ⟨none, 0, rfl, ⟨Nat.le_refl _, fun h => absurd h (by omega)⟩, by unfold maxLen; omega, fun _ => ⟨rfl, rfl⟩, fun ad e => by cases e⟩
  · refine ⟨_, cap, rfl, ⟨hn, fun hp => ⟨g, 0, rfl, ?_, fun i hi => ?_⟩⟩, hm, (fun e => by cases e), (fun ad e => by cases e; exact hg)⟩
    · rcases Nat.lt_or_ge g w.heap.size with h | h
      · exact h
      · rw [Array.getElem?_eq_none h] at hh; cases hh
    · rw [Nat.zero_add, h'.cellAt i (by omega)]
      simp [bytesL, hi]
theorem owns_empty (w : World) : (w.alloc (.cells #[] 5)).ownsRow w.heap.size 5 1 (.slice (some ⟨w.heap.size, 0, none⟩) 0 0) 0 [] :=
  ⟨rfl, Or.inr ⟨w.heap.size, 0, #[], rfl, Nat.le_refl _, heap_alloc_last w _, Nat.le_refl _, by unfold maxLen; omega, rfl, rfl⟩⟩
/-- 'append(s, x...)', s a row of the call's own, x bytes of whatever make. -/
theorem wpList_append_bytes {w : World} {ops : Array Oper} {rest : List Oper} {o : Oper} {a : Act} {Q : Exit → Act → World → Prop} (hgd : o.guard = none) (s x : Operand)
    (ho : o.op = .call { callee := .builtin .append, args := #[s, x], argTypes := #[93, 93] }) (base : Nat)
    (v : Value) (n : Nat) (xs : List Value) (hs : a.eval s = v) (hown : w.ownsRow base 5 1 v n xs)
    (ao : Option Addr) (m c : Nat) (bs : Nat → Int) (hx : a.eval x = .slice ao m c) (hr : ByteRow w ao m c bs) (hnil : ao = none → m = 0 ∧ c = 0) (hb : n + m ≤ 140737488355328) (hbase : base ≤ w.heap.size)
    (h : ∀ v' w', w'.ownsRow base 5 1 v' (n + m) (xs ++ bytesL m bs) → w.grownBy w' v.ownBlock → wpList Tryz.prog ops Q rest (a.put o.dst v') w') : wpList Tryz.prog ops Q (o :: rest) a w := by
  obtain ⟨i0, hi, hz0, hz1, hz2⟩ := info_parts info5
  cases ao with
  | none =>
    obtain ⟨rfl, rfl⟩ := hnil rfl
    refine wpList_append_own_none hgd s x 93 ho base 5 i0 1 Tryz.underlying93 hi v n xs hs hown hx ?_
    exact h v w (by simpa [bytesL] using hown) ⟨rfl, rfl, rfl, Nat.le_refl _, fun _ _ _ => rfl⟩
  | some ad =>
    refine wpList_append_own _ hgd s x 93 ho base 5 i0 (.int .u8 0) 1 1 Tryz.underlying93 hi hz0 hz1 hz2 rfl (by decide) v n xs hs hown ad m c (bytesL m bs) hx (by rw [bytesL_length]; omega) (src_row hr rfl) (bytesL_one _ _) (by unfold maxLen; omega) (by omega) hbase ?_
    intro v' w' h1 h2 _
    exact h v' w' h1 h2
theorem grown_own {w w0 w' : World} {v : Value} {base : Nat} {n : Nat} {xs : List Value} (hb : Below base w0 w) (hown : w.ownsRow base 5 1 v n xs) (hbase : base ≤ w.heap.size) (hg : w.grownBy w' v.ownBlock) : Below base w0 w' :=
  hb.grown hg hbase (owns_block hown)
def strOf (n : Nat) (bs : Nat → Int) : ByteArray := ((List.range n).map bs).foldl (fun r n => r.push (UInt8.ofNat n.toNat)) ByteArray.empty
theorem strOf_congr (n : Nat) (f g : Nat → Int) (h : ∀ i, i < n → f i = g i) : strOf n f = strOf n g := by
  unfold strOf
  rw [List.map_congr_left (fun i hi => h i (by simpa using hi))]
theorem run_str (w : World) (ao : Option Addr) (n cap : Nat) (bs : Nat → Int) (hr : ByteRow w ao n cap bs) (hn : NilOk ao n cap) :
    (convert 93 9 (.slice ao n cap)).run Tryz.prog w = .ok (.string (strOf n bs)) w := by
  rw [run_convert_bytes_string w 93 9 5 _ _ _ Tryz.underlying93 Tryz.underlying5 Tryz.underlying9]
  cases ao with
  | none =>
    obtain ⟨rfl, rfl⟩ := hn rfl
    rfl
  | some ad =>
    unfold strOf
    apply run_bytesToString
    have := run_loadCells_list (P := Tryz.prog) w ad (((List.range n).map bs).map (Value.int .u8)) (fun j v hj => by
      have hjn : j < n := by
        have := (List.getElem?_eq_some_iff.1 hj).1
        simpa using this
      obtain ⟨b, off, e, _, hc⟩ := hr.2 (by omega)
      cases e
      rw [add_row, hc j hjn]
      simp [hjn] at hj
      rw [← hj])
    simpa using this
theorem made_zeros (m : Nat) : madeCells (Value.int .u8 0).cells m = rowF m (fun _ => 0) := by
  apply Array.ext_getElem?
  intro i
  by_cases h : i < m
  · rw [rowF_get _ _ _ h]
    simp [madeCells, Value.cells, h, Nat.mod_one]
  · rw [Array.getElem?_eq_none (by simp [madeCells]; omega), Array.getElem?_eq_none (by rw [rowF_size]; omega)]
theorem make_zeros (w : World) (m : Nat) (hm : m ≤ 1000) : (Instr.makeSlice 93 (.int .i64 (m : Int)) (.int .i64 (m : Int))).run Tryz.prog w = .ok (.slice (some ⟨w.heap.size, 0, none⟩) m m) (w.alloc (.cells (rowF m (fun _ => 0)) 5)) := by
  obtain ⟨i0, hi, hz0, hz1, hz2⟩ := info_parts info5
  have h := run_make (P := Tryz.prog) w 93 5 i0 (.int .u8 0) Tryz.underlying93 hi hz0 .i64 .i64 (m : Int) (m : Int) (by omega) (Int.le_refl _) (by rw [hz2]; omega) (by omega)
  rw [hz1, Nat.mul_one, Int.toNat_natCast, made_zeros] at h
  exact h
theorem owns_of_row {w : World} {g n base : Nat} {f : Nat → Int} (h : w.heap[g]? = some (.cells (rowF n f) 5 (0, 0))) (hb : base ≤ g) (hn : n ≤ 1000) : w.ownsRow base 5 1 (.slice (some ⟨g, 0, none⟩) n n) n (bytesL n f) := by
  refine ⟨by rw [bytesL_length, Nat.mul_one], Or.inr ⟨g, n, rowF n f, rfl, hb, h, Nat.le_refl _, by unfold maxLen; omega, by rw [rowF_size, Nat.mul_one], ?_⟩⟩
  rw [Nat.mul_one]
  show ((bytesL n f).toArray.toList).take n = _
  rw [List.toList_toArray, List.take_of_length_le (by rw [bytesL_length]; exact Nat.le_refl _)]
theorem news_of_row {w : World} {g n : Nat} {f : Nat → Int} (h : w.heap[g]? = some (.cells (rowF n f) 5 (0, 0))) : ∀ j u, (bytesL n f)[j]? = some u → w.cell? ((⟨g, 0, none⟩ : Addr).add j) = some u :=
  src_row ((ByteRow.of_row (off := 0) (n := n) (cap := n) h (by omega) (Nat.le_refl _)).congr (fun i _ => by rw [Nat.zero_add])) rfl
/-- One after the other. -/
def cat (L : Nat) (f g : Nat → Int) (i : Nat) : Int := if i < L then f i else g (i - L)
theorem bytesL_cat (n m : Nat) (f g : Nat → Int) : bytesL n f ++ bytesL m g = bytesL (n + m) (cat n f g) := bytesL_append n m f g
end Go.Proofs.YtcbpafpaimpfnaaGreatDoor
