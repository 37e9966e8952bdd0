/- walks: region.Ident, bytes.Equal -/
import Derived.Test.YtcbpafpaimpfnaaGreatDoorGW5
import Derived.Test.YtcbpafpaimpfnaaGreatDoorDS0
import Derived.Lib.BufferWrite
namespace Go.Proofs.YtcbpafpaimpfnaaGreatDoor
open Go.RowKit

theorem splice_name (N : Nat) (f : Nat → Int) (s : ByteArray) (h : s.size ≤ N) : ((rowF N f).toList.take 0 ++ Lib.byteCells s.data.toList ++ (rowF N f).toList.drop (0 + s.size)).toArray = rowF N (fun i => if i < s.size then Rg.nb s i else f i) := by
  apply Array.ext_getElem?
  intro i
  have hl : (Lib.byteCells s.data.toList).length = s.size := by simp [Lib.byteCells]
  rw [List.getElem?_toArray, List.take_zero, List.nil_append, Nat.zero_add]
  by_cases hi : i < s.size
  · have hi' : i < s.data.size := hi
    rw [List.getElem?_append_left (by rw [hl]; exact hi), rowF_get _ _ _ (by omega), if_pos hi]
    simp [Lib.byteCells, Rg.nb, List.getD, Array.getElem?_eq_getElem hi']
  · rw [List.getElem?_append_right (by rw [hl]; omega), hl, List.getElem?_drop, show s.size + (i - s.size) = i by omega, Array.getElem?_toList]
    by_cases hN : i < N
    · rw [rowF_get _ _ _ hN, rowF_get _ _ _ hN, if_neg hi]
    · rw [Array.getElem?_eq_none (by rw [rowF_size]; omega), Array.getElem?_eq_none (by rw [rowF_size]; omega)]
/-- 'copy(d, s)', s a string that fits. -/
theorem wpList_copy_str {w : World} {ops : Array Oper} {rest : List Oper} {o : Oper} {a : Act} {Q : Exit → Act → World → Prop} (hgd : o.guard = none) (d x : Operand)
    (ho : o.op = .call { callee := .builtin .copy, args := #[d, x], argTypes := #[93, 9] }) (g N dLen dCap : Nat) (f : Nat → Int) (s : ByteArray)
    (hd : a.eval d = .slice (some ⟨g, 0, none⟩) dLen dCap) (hx : a.eval x = .string s) (hle : s.size ≤ dLen) (hN : s.size ≤ N) (hrow : w.heap[g]? = some (.cells (rowF N f) 5 (0, 0)))
    (h : ∀ w', w'.heap[g]? = some (.cells (rowF N (fun i => if i < s.size then Rg.nb s i else f i)) 5 (0, 0)) → w'.heap.size = w.heap.size → Below g w w' → wpList Tryz.prog ops Q rest (a.put o.dst (goInt s.size)) w') : wpList Tryz.prog ops Q (o :: rest) a w := by
  refine wpList_plain hgd fun K hK => ?_
  have hrun := Lib.run_copy_row_string (P := Tryz.prog) w 93 9 o.type 5 g 0 dLen dCap s _ _ Tryz.underlying93 size5 hrow hle (by rw [rowF_size]; omega)
  rw [splice_name N f s hN] at hrun
  unfold Oper.wp
  simp [execOp, ho, resolve, invoke, builtin, hd, hx, hrun, Result.andThen]
  exact hK _ _ (h _ (setRow_heap w g _ _ _ _ hrow) (by simp) (below_setRow (Below.refl _ _) (Nat.le_refl _) _))
set_option maxHeartbeats 400000 in
theorem gequal_any (a1 a2 : Option Addr) (n1 c1 n2 c2 : Nat) (b1 b2 : Nat → Int) (w : World) (h1 : ByteRow w a1 n1 c1 b1) (k1 : NilOk a1 n1 c1) (h2 : ByteRow w a2 n2 c2 b2) (k2 : NilOk a2 n2 c2) :
    Calls Tryz.prog 54 #[.slice a1 n1 c1, .slice a2 n2 c2] w fun e w' => e = .returned (.bool (decide (strOf n1 b1 = strOf n2 b2))) ∧ w' = w := by
  have q1 := run_str w a1 n1 c1 b1 h1 k1
  have q2 := run_str w a2 n2 c2 b2 h2 k2
  clear h1 k1 h2 k2
  generalize strOf n1 b1 = S at *
  generalize strOf n2 b2 = T at *
  go_enter Tryz.func54, Tryz.ntmps54
  go_wp2
  go_ret
  refine ⟨?_, rfl⟩
  by_cases e : S = T
  · subst e; simp
  · have hne : ¬ S.toList = T.toList := fun h => e (ByteArray.ext (Array.toList_inj.mp (by rw [← ByteArray.toList_eq, ← ByteArray.toList_eq]; exact h)))
    simp [e, hne]
theorem nilOk_pos {w : World} {ao : Option Addr} {n c : Nat} {f : Nat → Int} (h : ByteRow w ao n c f) (hn : 0 < n) : NilOk ao n c := by
  intro e
  obtain ⟨b, off, h1, _⟩ := h.2 hn
  rw [e] at h1
  cases h1
set_option maxHeartbeats 2000000 in
theorem gident_new (s : ByteArray) (rev : Int) (ao : Option Addr) (n cap : Nat) (vs ts : Nat → Int) (w : World) (hs : s.size ≤ 32) (hv : 0 ≤ rev ∧ rev ≤ 65535) (hR : Rg.Right vs ts n) (hr : WayRow w ao n cap vs ts) (ht : Tabs w) :
    Calls Tryz.prog 70 #[.agg #[.string s, .int .i64 rev, .slice ao n cap]] w fun e w' => ∃ ro rc, e = .returned (.slice ro 50 rc) ∧ ByteRow w' ro 50 rc (Rg.ident s rev (Md.dg (Rg.dig vs ts n))) ∧ Below w.heap.size w w' ∧ ∀ ad, ro = some ad → w.heap.size < ad.block := by
  have HT : Hid (Tabs w) := ht
  have hbt := ht.lt
  have HRt : Hid (Rg.Right vs ts n) := hR
  have HR : Hid (WayRow w ao n cap vs ts) := hr
  clear ht hr hR
  obtain ⟨P, HP⟩ : ∃ P, Hid (P = Rg.ident s rev (Md.dg (Rg.dig vs ts n))) := ⟨_, rfl⟩
  have HY : Hid (rev / 256 = P 32) := by rw [HP.out]; show _ = _; simp [Rg.ident]
  have HZ : Hid (rev % 256 = P (32 + 1)) := by rw [HP.out]; show _ = _; simp [Rg.ident]
  have HH : Hid (∀ i, i < 32 → (if i < s.size then Rg.nb s i else 0) = P i) := by
    intro i hi
    rw [HP.out]
    unfold Rg.ident
    rw [if_pos hi]
  have HD : Hid (bytesL 34 P ++ bytesL 16 (Md.dg (Rg.dig vs ts n)) = bytesL (34 + 16) P) := by
    show _ = _
    rw [bytesL_append]
    apply bytesL_congr
    intro i hi
    by_cases e : i < 34
    · rw [if_pos e]
    · rw [if_neg e, HP.out]
      unfold Rg.ident
      rw [if_neg (by omega), if_neg (by omega), if_neg (by omega)]
  have hmk : ∀ W : World, (Instr.makeSlice 93 (.int .i64 32) (.int .i64 50)).run Tryz.prog W = .ok (.slice (some ⟨W.heap.size, 0, none⟩) 32 50) (W.alloc (.cells (rowF 50 (fun _ => 0)) 5)) := fun W => make_room W 32 50 (by omega) (by omega)
  have HW : Hid (∀ w2 : World, Below (w.heap.size + 1) ((w.alloc (.cells #[.string s, .int .i64 rev, .slice ao n cap] 38)).alloc (.cells (rowF 50 (fun _ => 0)) 5)) w2 → w2.cell? ⟨w.heap.size, 0, none⟩ = some (.string s) ∧ w2.cell? ⟨w.heap.size, 1, none⟩ = some (.int .i64 rev) ∧ w2.cell? ⟨w.heap.size, 2, none⟩ = some (.slice ao n cap) ∧ Hid (Below w.heap.size w w2) ∧ w.heap.size + 1 < w2.heap.size) := by
    intro w2 hb
    have h := rg_cells ((hb.block w.heap.size (by omega)).trans (heap_alloc2_old w (.cells #[.string s, .int .i64 rev, .slice ao n cap] 38) _))
    have h2 := hb.size
    simp at h2
    exact ⟨h.1, h.2.1, h.2.2, (below_alloc2 w _ _).trans (hb.mono (by omega)), by omega⟩
  have HO : Hid (∀ w2 : World, w2.heap[w.heap.size + 1]? = some (.cells (rowF 50 (fun i => if i < s.size then Rg.nb s i else 0)) 5 (0, 0)) → w2.ownsRow (w.heap.size + 1) 5 1 (.slice (some ⟨w.heap.size + 1, 0, none⟩) 32 50) 32 (bytesL 32 P)) := by
    intro w2 h
    have := owns_room (base := w.heap.size + 1) (n := 32) h (Nat.le_refl _) (by omega) (by omega)
    rw [bytesL_congr 32 _ P HH.out] at this
    exact this
  go_enter Tryz.func70, Tryz.ntmps70
  go_wp2_with (refine wpList_copy_str rfl (.tmp 5) (.tmp 7) rfl (w.heap.size + 1) 50 32 50 (fun _ => 0) s rfl rfl hs (by omega) (heap_alloc2_new w _ _) ?_; intro w2 hrow2 _ hb2; obtain ⟨q0, q1, q2, HB2, z2⟩ := HW.out w2 hb2; have HO2 : Hid _ := HO.out w2 hrow2; have HX2 : Hid _ := hb2; clear hrow2 hb2)
  refine (gpair_any (w.heap.size + 1) 32 _ P rev w2 HO2.out (by omega) hv HY.out HZ.out (by omega)).mono ?_
  rintro e w3 ⟨v3, rfl, ho3, hb3⟩
  obtain ⟨r0, r1, r2, HB3, z3⟩ := HW.out w3 (HX2.out.trans hb3)
  have HO3 : Hid (w3.ownsRow (w.heap.size + 1) 5 1 v3 34 (bytesL 34 P)) := ho3
  clear ho3 hb3 q0 q1 q2 HO2 HX2 HB2 z2 HW HO HY HZ HH
  go_wp2_with fail
  refine (gdigest_any s rev ao n cap vs ts _ HRt.out (HR.out.below HB3.out) (HT.out.below HB3.out (by omega))).mono ?_
  rintro e w4 ⟨g4, rfl, hg4, hrow4, hb4⟩
  have HO4 : Hid (w4.ownsRow (w.heap.size + 1) 5 1 v3 34 (bytesL 34 P)) := owns_below HO3.out hb4
  have HR4 : Hid (ByteRow w4 (some ⟨g4, 0, none⟩) 16 16 (Md.dg (Rg.dig vs ts n))) := sumRow hrow4
  have HB4 : Hid (Below w.heap.size w w4) := HB3.out.trans (hb4.mono HB3.out.size)
  have z4 : w.heap.size + 1 ≤ w4.heap.size := by have := hb4.size; omega
  clear hg4 hrow4 hb4
  have HA : Hid (∀ v5 w5, w5.ownsRow (w.heap.size + 1) 5 1 v5 (34 + 16) (bytesL 34 P ++ bytesL 16 (Md.dg (Rg.dig vs ts n))) → w4.grownBy w5 v3.ownBlock → ∃ ro rc, v5 = .slice ro 50 rc ∧ Hid (ByteRow w5 ro 50 rc P) ∧ Hid (Below w.heap.size w w5) ∧ Hid (∀ ad, ro = some ad → w.heap.size < ad.block)) := by
    intro v5 w5 ho5 hg5
    rw [HD.out] at ho5
    have hb5 : Below w.heap.size w w5 := HB4.out.trans ((grown_own (Below.refl _ _) HO4.out z4 hg5).mono (by omega))
    obtain ⟨ro, rc, rfl, hr5, _, _, hq5⟩ := owns_row ho5
    exact ⟨ro, rc, rfl, hr5, hb5, fun ad e => by have := hq5 ad e; omega⟩
  go_wp2_with (at_builtin; refine wpList_append_bytes rfl (.tmp 13) (.tmp 15) rfl (w.heap.size + 1) _ 34 _ rfl HO4.out _ 16 16 _ rfl HR4.out (fun h => by cases h) (by omega) z4 ?_; intro v5 w5 ho5 hg5; obtain ⟨ro, rc, rfl, HR5, HB5, HQ5⟩ := HA.out v5 w5 ho5 hg5; clear ho5 hg5)
  go_ret
  exact ⟨ro, rc, rfl, by rw [← HP.out]; exact HR5.out, HB5.out, HQ5.out⟩
theorem gident_any (s : ByteArray) (rev : Int) (ao : Option Addr) (n cap : Nat) (vs ts : Nat → Int) (w : World) (hs : s.size ≤ 32) (hv : 0 ≤ rev ∧ rev ≤ 65535) (hR : Rg.Right vs ts n) (hr : WayRow w ao n cap vs ts) (ht : Tabs w) :
    Calls Tryz.prog 70 #[.agg #[.string s, .int .i64 rev, .slice ao n cap]] w fun e w' => ∃ ro rc, e = .returned (.slice ro 50 rc) ∧ ByteRow w' ro 50 rc (Rg.ident s rev (Md.dg (Rg.dig vs ts n))) ∧ Below w.heap.size w w' := by
  refine (gident_new s rev ao n cap vs ts w hs hv hR hr ht).mono ?_
  rintro e w' ⟨ro, rc, rfl, h1, h2, _⟩
  exact ⟨ro, rc, rfl, h1, h2⟩
end Go.Proofs.YtcbpafpaimpfnaaGreatDoor
