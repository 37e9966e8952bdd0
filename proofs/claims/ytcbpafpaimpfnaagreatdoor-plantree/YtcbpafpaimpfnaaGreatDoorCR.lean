/- Slices of structs, by their cells: k cells an element; what is appended to them. -/
import Derived.Test.YtcbpafpaimpfnaaGreatDoorGG
import Derived.Laws.OwnMore
namespace Go.Proofs.YtcbpafpaimpfnaaGreatDoor
open Go.RowKit

/-- A slice of n elements of k cells each: c. -/
def CRow (w : World) (ao : Option Addr) (n cap k : Nat) (c : Nat → Nat → Value) : Prop :=
  n ≤ cap ∧ (0 < n → ∃ b off, ao = some ⟨b, off, none⟩ ∧ b < w.heap.size ∧ ∀ i, i < n → ∀ j, j < k → w.cell? ⟨b, off + i * k + j, none⟩ = some (c i j))
theorem CRow.other {w w' : World} {ao : Option Addr} {n cap k : Nat} {c : Nat → Nat → Value} (h : CRow w ao n cap k c) (e : ∀ b off, ao = some ⟨b, off, none⟩ → b < w.heap.size → w'.heap[b]? = w.heap[b]?) (hs : w.heap.size ≤ w'.heap.size) : CRow w' ao n cap k c := by
  refine ⟨h.1, fun hp => ?_⟩
  obtain ⟨b, off, e1, hlt, hc⟩ := h.2 hp
  exact ⟨b, off, e1, Nat.lt_of_lt_of_le hlt hs, fun i hi j hj => (World.cell?_of_block (w := w) (e b off e1 hlt)).trans (hc i hi j hj)⟩
theorem CRow.below {w w' : World} {ao : Option Addr} {n cap k : Nat} {c : Nat → Nat → Value} (h : CRow w ao n cap k c) (hb : Below w.heap.size w w') : CRow w' ao n cap k c :=
  h.other (fun b _ _ hlt => hb.block b hlt) hb.size
theorem CRow.congr {w : World} {ao : Option Addr} {n cap k : Nat} {c d : Nat → Nat → Value} (h : CRow w ao n cap k c) (e : ∀ i, i < n → c i = d i) : CRow w ao n cap k d := by
  refine ⟨h.1, fun hp => ?_⟩
  obtain ⟨b, off, e1, hlt, hc⟩ := h.2 hp
  exact ⟨b, off, e1, hlt, fun i hi j hj => by rw [← e i hi]; exact hc i hi j hj⟩
theorem CRow.drew {w : World} {ao : Option Addr} {n cap k : Nat} {c : Nat → Nat → Value} (h : CRow w ao n cap k c) : CRow w.drew ao n cap k c := h
theorem CRow.prefix {w : World} {ao : Option Addr} {n m cap k : Nat} {c : Nat → Nat → Value} (h : CRow w ao n cap k c) (hm : m ≤ n) : CRow w ao m cap k c := by
  refine ⟨Nat.le_trans hm h.1, fun hp => ?_⟩
  obtain ⟨b, off, e1, hlt, hc⟩ := h.2 (by omega)
  exact ⟨b, off, e1, hlt, fun i hi j hj => hc i (by omega) j hj⟩
/-- What lies behind the first s elements. -/
theorem CRow.behind {w : World} {b off n cap k : Nat} {c : Nat → Nat → Value} (h : CRow w (some ⟨b, off, none⟩) n cap k c) (s : Nat) (hs : s ≤ n) : CRow w (some ⟨b, off + s * k, none⟩) (n - s) (cap - s) k (fun i => c (s + i)) := by
  refine ⟨by have := h.1; omega, fun hp => ?_⟩
  obtain ⟨b1, off1, e, hlt, hc⟩ := h.2 (by omega)
  cases e
  refine ⟨b, off + s * k, rfl, hlt, fun i hi j hj => ?_⟩
  have := hc (s + i) (by omega) j hj
  rw [Nat.add_mul] at this
  rw [show off + s * k + i * k + j = off + (s * k + i * k) + j by omega]
  exact this
theorem CRow.none (w : World) (cap k : Nat) (c : Nat → Nat → Value) (ao : Option Addr) : CRow w ao 0 cap k c := ⟨Nat.zero_le _, fun h => absurd h (by omega)⟩
/-- The cells of n elements, as a list. -/
def cellsL (n k : Nat) (c : Nat → Nat → Value) : List Value := (List.range (n * k)).map (fun x => c (x / k) (x % k))
theorem cellsL_length (n k : Nat) (c : Nat → Nat → Value) : (cellsL n k c).length = n * k := by simp [cellsL]
theorem cellsL_get (n k : Nat) (c : Nat → Nat → Value) (j : Nat) (v : Value) (h : (cellsL n k c)[j]? = some v) : j < n * k ∧ v = c (j / k) (j % k) := by
  have hj : j < n * k := by
    have := (List.getElem?_eq_some_iff.1 h).1
    simpa [cellsL] using this
  refine ⟨hj, ?_⟩
  simp [cellsL, hj] at h
  exact h.symm
theorem cellsL_one (n k : Nat) (c : Nat → Nat → Value) (h : ∀ i j, (c i j).oneCell' = true) : ∀ v ∈ cellsL n k c, v.oneCell' = true := by
  intro v hv
  simp [cellsL] at hv
  obtain ⟨i, _, rfl⟩ := hv
  exact h _ _
/-- One after the other. -/
def catC (n : Nat) (c d : Nat → Nat → Value) (i : Nat) : Nat → Value := if i < n then c i else d (i - n)
theorem div_lt_of {x n k : Nat} (hk : 0 < k) (h : x < n * k) : x / k < n := (Nat.div_lt_iff_lt_mul hk).2 h
theorem cellsL_cat (n m k : Nat) (hk : 0 < k) (c d : Nat → Nat → Value) : cellsL n k c ++ cellsL m k d = cellsL (n + m) k (catC n c d) := by
  apply List.ext_getElem?
  intro i
  by_cases h : i < n * k
  · rw [List.getElem?_append_left (by rw [cellsL_length]; exact h)]
    have h2 : i < (n + m) * k := by rw [Nat.add_mul]; omega
    simp [cellsL, h, h2]
    unfold catC
    rw [if_pos (div_lt_of hk h)]
  · rw [List.getElem?_append_right (by rw [cellsL_length]; omega), cellsL_length]
    by_cases h2 : i < (n + m) * k
    · have h3 : i - n * k < m * k := by rw [Nat.add_mul] at h2; omega
      simp [cellsL, h2, h3]
      unfold catC
      have e1 : i / k = n + (i - n * k) / k := by
        have := Nat.add_mul_div_right (i - n * k) n hk
        rw [show i - n * k + n * k = i by omega, Nat.add_comm] at this
        exact this
      have e2 : i % k = (i - n * k) % k := by
        have := Nat.add_mul_mod_self_right (i - n * k) n k
        rw [show i - n * k + n * k = i by omega] at this
        exact this
      rw [e1, e2, if_neg (Nat.not_lt.2 (Nat.le_add_right _ _)), Nat.add_sub_cancel_left]
    · have h4 := Nat.add_mul n m k
      rw [List.getElem?_eq_none (by rw [cellsL_length]; omega), List.getElem?_eq_none (by rw [cellsL_length]; omega)]
theorem cellsL_congr (n k : Nat) (c d : Nat → Nat → Value) (h : ∀ i, i < n → c i = d i) : cellsL n k c = cellsL n k d := by
  unfold cellsL
  apply List.map_congr_left
  intro x hx
  have hx : x < n * k := by simpa using hx
  have hk : 0 < k := by
    rcases Nat.eq_zero_or_pos k with e | e
    · subst e; omega
    · exact e
  rw [h _ (div_lt_of hk hx)]
theorem src_cells {W : World} {ao : Option Addr} {n cap k : Nat} {c : Nat → Nat → Value} (hk : 0 < k) (h : CRow W ao n cap k c) {ad : Addr} (e : ao = some ad) : ∀ j v, (cellsL n k c)[j]? = some v → W.cell? (ad.add j) = some v := by
  intro j v hj
  obtain ⟨hj1, rfl⟩ := cellsL_get _ _ _ _ _ hj
  have hp : 0 < n := by
    rcases Nat.eq_zero_or_pos n with e | e
    · subst e; omega
    · exact e
  obtain ⟨b, off, e2, _, hc⟩ := h.2 hp
  rw [e] at e2
  cases e2
  rw [add_row]
  have := hc (j / k) (div_lt_of hk hj1) (j % k) (Nat.mod_lt _ hk)
  rw [Nat.add_assoc, Nat.mul_comm, Nat.div_add_mod] at this
  exact this
theorem owns_c {w : World} {base n e k : Nat} {v : Value} {c : Nat → Nat → Value} (hk : 0 < k) (h : w.ownsRow base e k v n (cellsL n k c)) : ∃ ao cap, v = .slice ao n cap ∧ CRow w ao n cap k c ∧ NilOk ao n cap ∧ (∀ ad, ao = some ad → base ≤ ad.block) := by
  have h' := h
  obtain ⟨_, h2⟩ := h
  rcases h2 with ⟨rfl, rfl⟩ | ⟨g, cap, cur, rfl, hg, hh, hn, hm, _, _⟩
  · exact ⟨none, 0, rfl, CRow.none _ _ _ _ _, fun _ => ⟨rfl, rfl⟩, fun ad e => by cases e⟩
  · refine ⟨_, cap, rfl, ⟨hn, fun hp => ⟨g, 0, rfl, (Array.getElem?_eq_some_iff.1 hh).1, fun i hi j hj => ?_⟩⟩, (fun e => by cases e), (fun ad e => by cases e; exact hg)⟩
    have hlt : i * k + j < n * k := by
      have : (i + 1) * k ≤ n * k := Nat.mul_le_mul_right k (by omega)
      rw [Nat.add_mul] at this
      omega
    rw [Nat.zero_add, h'.cellAt (i * k + j) hlt]
    simp [cellsL, hlt]
    have e1 : (i * k + j) / k = i := by rw [Nat.add_comm, Nat.add_mul_div_right _ _ hk, Nat.div_eq_of_lt hj, Nat.zero_add]
    have e2 : (i * k + j) % k = j := by rw [Nat.add_comm, Nat.add_mul_mod_self_right, Nat.mod_eq_of_lt hj]
    first | rw [e1, e2] | rw [e1, Nat.mod_eq_of_lt hj]
theorem ownsC_below {w w' : World} {base e k n : Nat} {v : Value} {xs : List Value} (h : w.ownsRow base e k v n xs) (hb : Below w.heap.size w w') : w'.ownsRow base e k v n xs := by
  obtain ⟨h1, h2⟩ := h
  refine ⟨h1, ?_⟩
  rcases h2 with h2 | ⟨g, cap, cur, hv, hg, hh, r⟩
  · exact Or.inl h2
  · exact Or.inr ⟨g, cap, cur, hv, hg, keep hh hb, r⟩
theorem ownsC_block {w : World} {base e k n : Nat} {v : Value} {xs : List Value} (h : w.ownsRow base e k v n xs) : ∀ q, v.ownBlock = some q → base ≤ q ∧ q < w.heap.size := by
  intro q hq
  obtain ⟨_, h2⟩ := h
  rcases h2 with ⟨rfl, _⟩ | ⟨g, cap, cur, rfl, hg, hh, _⟩
  · simp [Value.ownBlock] at hq
  · simp [Value.ownBlock] at hq
    subst hq
    exact ⟨hg, (Array.getElem?_eq_some_iff.1 hh).1⟩
/-- The run of 'append(s, x...)', s a row of the call's own. -/
theorem append_c (w : World) (t e : TypeId) (z : Value) (k bytes : Nat) (ht : Tryz.prog.underlying t = some (.slice e)) (hinfo : (Tryz.prog.info? e).map (fun i => (i.zero, i.size, i.bytes)) = some (some z, k, bytes)) (hzk : z.cells.size = k) (hk : 0 < k)
    (base : Nat) (v : Value) (n : Nat) (c : Nat → Nat → Value) (hown : w.ownsRow base e k v n (cellsL n k c)) (ao : Option Addr) (m cp : Nat) (d : Nat → Nat → Value) (hd : ∀ i j, (d i j).oneCell' = true) (hr : CRow w ao m cp k d) (hnil : NilOk ao m cp) (h63 : n + m ≤ maxLen) (hb : (n + m) * bytes ≤ 140737488355328) (hbase : base ≤ w.heap.size) :
    ∃ a1 c1 w', (Builtin.append_ #[t, t] t #[v, .slice ao m cp]).run Tryz.prog w = .ok (.slice a1 (n + m) c1) w' ∧ w'.ownsRow base e k (.slice a1 (n + m) c1) (n + m) (cellsL (n + m) k (catC n c d)) ∧ Below base w w' ∧ (∀ q, q < w.heap.size → some q ≠ v.ownBlock → w'.heap[q]? = w.heap[q]?) := by
  obtain ⟨i0, hi, hz0, hz1, hz2⟩ := info_parts hinfo
  cases ao with
  | none =>
    obtain ⟨rfl, rfl⟩ := hnil rfl
    have hrun := run_append_owned_none (P := Tryz.prog) (w := w) base t t e i0 k ht hi v n _ hown
    obtain ⟨a1, c1, rfl, _⟩ := owns_c hk hown
    refine ⟨a1, c1, w, hrun, ?_, Below.refl _ _, fun _ _ _ => rfl⟩
    rw [Nat.add_zero, cellsL_congr n k (catC n c d) c (fun i hi => if_pos hi)]
    exact hown
  | some ad =>
    obtain ⟨v', w', hrun, h1, h2, _⟩ := run_append_own (P := Tryz.prog) w base t t e i0 z k bytes ht hi hz0 hz1 hz2 hzk hk v n _ hown ad m cp (cellsL m k d) (cellsL_length _ _ _) (src_cells hk hr rfl) (cellsL_one _ _ _ hd) h63 hb hbase
    rw [cellsL_cat n m k hk] at h1
    obtain ⟨a1, c1, rfl, _⟩ := owns_c hk h1
    exact ⟨a1, c1, w', hrun, h1, (Below.refl _ _).grown h2 hbase (fun q hq => (ownsC_block hown q hq).1), h2.block⟩
theorem ownsC_empty {w : World} {g e k : Nat} {base : Nat} (c : Nat → Nat → Value) (h : w.heap[g]? = some (.cells #[] e (0, 0))) (hb : base ≤ g) : w.ownsRow base e k (.slice (some ⟨g, 0, none⟩) 0 0) 0 (cellsL 0 k c) := by
  refine ⟨by rw [cellsL_length], Or.inr ⟨g, 0, #[], rfl, hb, h, Nat.le_refl _, by unfold maxLen; omega, by simp, by simp [cellsL]⟩⟩
theorem ownsC_nil (w : World) (base e k : Nat) (c : Nat → Nat → Value) : w.ownsRow base e k (.slice none 0 0) 0 (cellsL 0 k c) :=
  ⟨by rw [cellsL_length], Or.inl ⟨rfl, rfl⟩⟩
/-- 'append' in a region that draws its order, by its run. -/
theorem step_append_c {w w' : World} {ops : Array Oper} {o : Oper} {a : Act} {K : Act → World → Prop} {Q : Exit → Act → World → Prop} {E : Prop} (hgd : o.guard = none) (s x : Operand) (t : TypeId)
    (ho : o.op = .call { callee := .builtin .append, args := #[s, x], argTypes := #[t, t] }) (v vx v' : Value) (hs : a.eval s = v) (hx : a.eval x = vx) (hr : (Builtin.append_ #[t, t] o.type #[v, vx]).run Tryz.prog w = .ok v' w')
    (h : K (a.put o.dst v') w') : if Region.wanted o (yielded ops a.tmps) = true then Oper.wp Tryz.prog o a w K Q else E := by
  have hw : Region.wanted o (yielded ops a.tmps) = true := by simp [Region.wanted, hgd]
  rw [if_pos hw]
  unfold Oper.wp execOp
  simp only [ho, resolve, invoke, builtin, Sem.run_bind, Sem.run_pure, Result.andThen_ok, List.map_toArray, List.map_cons, List.map_nil, hs, hx, hr]
  exact h
/-- .. and in a plain one. -/
theorem wpList_append_run {w w' : World} {ops : Array Oper} {rest : List Oper} {o : Oper} {a : Act} {Q : Exit → Act → World → Prop} (hgd : o.guard = none) (s x : Operand) (t : TypeId)
    (ho : o.op = .call { callee := .builtin .append, args := #[s, x], argTypes := #[t, t] }) (v vx v' : Value) (hs : a.eval s = v) (hx : a.eval x = vx) (hr : (Builtin.append_ #[t, t] o.type #[v, vx]).run Tryz.prog w = .ok v' w')
    (h : wpList Tryz.prog ops Q rest (a.put o.dst v') w') : wpList Tryz.prog ops Q (o :: rest) a w := by
  refine wpList_plain hgd fun K hK => ?_
  unfold Oper.wp execOp
  simp only [ho, resolve, invoke, builtin, Sem.run_bind, Sem.run_pure, Result.andThen_ok, List.map_toArray, List.map_cons, List.map_nil, hs, hx, hr]
  exact hK _ _ h
end Go.Proofs.YtcbpafpaimpfnaaGreatDoor
