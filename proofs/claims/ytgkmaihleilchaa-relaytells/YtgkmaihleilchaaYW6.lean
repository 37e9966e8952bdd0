/- What leaves, in memory; walks: relay's sent -/
import Derived.Test.YtgkmaihleilchaaYW5
namespace Go.Proofs.Ytgkmaihleilchaa
open Go.RowKit
open Bk (E at')
open Rl (G gat F O)

/-- What leaves, and where its data lie. -/
structure OV where
  o : O
  da : Option Addr
  dc : Nat
def ov0 : OV := ⟨⟨0, false, 0, false, 0⟩, none, 0⟩
def oat (l : List OV) (i : Nat) : OV := l.getD i ov0
theorem oat_get (l : List OV) (i : Nat) (h : i < l.length) : oat l i = l[i] := by simp [oat, h]
theorem oat_mem (l : List OV) (i : Nat) (h : i < l.length) : oat l i ∈ l := by rw [oat_get l i h]; exact List.getElem_mem h
theorem oat_left (l m : List OV) (i : Nat) (h : i < l.length) : oat (l ++ m) i = oat l i := by
  simp [oat, h, List.getElem?_append_left]
theorem oat_right (l m : List OV) (i : Nat) (h : l.length ≤ i) : oat (l ++ m) i = oat m (i - l.length) := by
  simp [oat, h, List.getElem?_append_right]
/-- Its nine cells. -/
def oA (f : F) (x : OV) : Array Value := #[.int .i64 x.o.port, .int .u64 f.dst, .int .u64 f.src, .bool x.o.tagged, .int .i64 x.o.prio, .bool x.o.drop, .int .i64 x.o.vid, .int .i64 f.type, .slice x.da f.n x.dc]
def oC (f : F) (x : OV) (j : Nat) : Value := (oA f x).getD j (.int .i64 0)
theorem oC_one (f : F) (x : OV) (j : Nat) : (oC f x j).oneCell' = true := by
  unfold oC oA
  by_cases h : j < 9
  · rcases (by omega : j = 0 ∨ j = 1 ∨ j = 2 ∨ j = 3 ∨ j = 4 ∨ j = 5 ∨ j = 6 ∨ j = 7 ∨ j = 8) with e | e | e | e | e | e | e | e | e <;> subst e <;> rfl
  · simp [h]
    rfl
theorem infoO : (Try.prog.info? 43).map (fun i => (i.zero, i.size, i.bytes)) = some (some (.agg #[.int .i64 0, .int .u64 0, .int .u64 0, .bool false, .int .i64 0, .bool false, .int .i64 0, .int .i64 0, .slice none 0 0]), 9, 88) := by kernel_rfl
/-- A row of the call's own, each with data of the call's own. -/
structure OwnO (w : World) (base : Nat) (v : Value) (f : F) (l : List OV) : Prop where
  row : w.ownsRow base 43 9 v l.length (cellsL l.length 9 (fun i => oC f (oat l i)))
  data : ∀ x ∈ l, w.ownsRow base 5 1 (.slice x.da f.n x.dc) f.n (bytesL f.n f.bs)
theorem OwnO.below {w w' : World} {base : Nat} {v : Value} {f : F} {l : List OV} (h : OwnO w base v f l) (hb : Below w.heap.size w w') : OwnO w' base v f l := ⟨ownsC_below h.row hb, fun x hx => ownsC_below (h.data x hx) hb⟩
theorem OwnO.mono {w : World} {base base' : Nat} {v : Value} {f : F} {l : List OV} (h : OwnO w base v f l) (hb : base' ≤ base) : OwnO w base' v f l := ⟨owns_mono h.row hb, fun x hx => owns_mono (h.data x hx) hb⟩
theorem OwnO.nil (w : World) (base : Nat) (f : F) : OwnO w base (.slice none 0 0) f [] := ⟨ownsC_nil w base _ _ _, fun x h => by simp at h⟩
/-- A slice of what leaves: the list l. -/
structure ORw (w : World) (ao : Option Addr) (cap : Nat) (f : F) (l : List OV) : Prop where
  row : CRow w ao l.length cap 9 (fun i => oC f (oat l i))
  data : ∀ x ∈ l, ByteRow w x.da f.n x.dc f.bs ∧ NilOk x.da f.n x.dc
theorem ORw.below {w w' : World} {ao : Option Addr} {cap : Nat} {f : F} {l : List OV} (h : ORw w ao cap f l) (hb : Below w.heap.size w w') : ORw w' ao cap f l := ⟨h.row.below hb, fun x hx => ⟨(h.data x hx).1.below hb, (h.data x hx).2⟩⟩
theorem OwnO.el {w : World} {base : Nat} {v : Value} {f : F} {l : List OV} (h : OwnO w base v f l) : ∃ ao cap, v = .slice ao l.length cap ∧ ORw w ao cap f l ∧ NilOk ao l.length cap := by
  obtain ⟨ao, cap, rfl, h1, h2, _⟩ := owns_c (by omega) h.row
  refine ⟨ao, cap, rfl, ⟨h1, fun x hx => ?_⟩, h2⟩
  obtain ⟨ao', cap', e, h3, _, h4, _⟩ := owns_row (h.data x hx)
  injection e with e1 _ e2
  subst e1 e2
  exact ⟨h3, h4⟩
theorem ORw.place {w : World} {ao : Option Addr} {cap : Nat} {f : F} {l : List OV} (h : ORw w ao cap f l) (hn : 0 < l.length) : ∃ b off, ao = .some ⟨b, off, .none⟩ ∧ b < w.heap.size := by
  obtain ⟨b, off, e, hb, _⟩ := h.row.2 hn
  exact ⟨b, off, e, hb⟩
theorem ORw.cells {w : World} {b off cap : Nat} {f : F} {l : List OV} (h : ORw w (some ⟨b, off, none⟩) cap f l) {i : Nat} (hi : i < l.length) :
    w.cell? ⟨b, off + i * 9, none⟩ = some (.int .i64 (oat l i).o.port) ∧ w.cell? ⟨b, off + i * 9 + 1, none⟩ = some (.int .u64 f.dst) ∧ w.cell? ⟨b, off + i * 9 + 2, none⟩ = some (.int .u64 f.src) ∧ w.cell? ⟨b, off + i * 9 + 3, none⟩ = some (.bool (oat l i).o.tagged) ∧ w.cell? ⟨b, off + i * 9 + 4, none⟩ = some (.int .i64 (oat l i).o.prio) ∧ w.cell? ⟨b, off + i * 9 + 5, none⟩ = some (.bool (oat l i).o.drop) ∧ w.cell? ⟨b, off + i * 9 + 6, none⟩ = some (.int .i64 (oat l i).o.vid) ∧ w.cell? ⟨b, off + i * 9 + 7, none⟩ = some (.int .i64 f.type) ∧ w.cell? ⟨b, off + i * 9 + 8, none⟩ = some (.slice (oat l i).da f.n (oat l i).dc) := by
  obtain ⟨b', off', e, _, hc⟩ := h.row.2 (by omega)
  cases e
  exact ⟨hc i hi 0 (by omega), hc i hi 1 (by omega), hc i hi 2 (by omega), hc i hi 3 (by omega), hc i hi 4 (by omega), hc i hi 5 (by omega), hc i hi 6 (by omega), hc i hi 7 (by omega), hc i hi 8 (by omega)⟩
/-- One, in a block of its own. -/
theorem one_out {w : World} {g : Nat} {f : F} {x : OV} {ty : TypeId} (h : w.heap[g]? = some (.cells (oA f x) ty (0, 0))) : CRow w (some ⟨g, 0, none⟩) 1 1 9 (fun _ => oC f x) := by
  refine ⟨Nat.le_refl _, fun _ => ⟨g, 0, rfl, (Array.getElem?_eq_some_iff.1 h).1, fun i hi j hj => ?_⟩⟩
  obtain rfl : i = 0 := by omega
  rcases (by omega : j = 0 ∨ j = 1 ∨ j = 2 ∨ j = 3 ∨ j = 4 ∨ j = 5 ∨ j = 6 ∨ j = 7 ∨ j = 8) with e | e | e | e | e | e | e | e | e <;> subst e
  · exact cell_of_row w g 0 _ _ _ h
  · exact cell_of_row w g 1 _ _ _ h
  · exact cell_of_row w g 2 _ _ _ h
  · exact cell_of_row w g 3 _ _ _ h
  · exact cell_of_row w g 4 _ _ _ h
  · exact cell_of_row w g 5 _ _ _ h
  · exact cell_of_row w g 6 _ _ _ h
  · exact cell_of_row w g 7 _ _ _ h
  · exact cell_of_row w g 8 _ _ _ h
abbrev runAppO (v x : Value) (w : World) (v' : Value) (w' : World) : Prop := (Builtin.append_ #[35, 35] 35 #[v, x]).run Try.prog w = .ok v' w'
/-- 'append(out, x)'. -/
theorem more_o (base : Nat) (W : World) (v : Value) (f : F) (l : List OV) (x : OV) (ho : OwnO W base v f l) (hx : W.ownsRow base 5 1 (.slice x.da f.n x.dc) f.n (bytesL f.n f.bs)) (hl : l.length ≤ 1000) (hbase : base ≤ W.heap.size) :
    ∃ a m c W2, runAppO v (.slice (some ⟨W.heap.size, 0, none⟩) 1 1) (W.alloc (.cells (oA f x) 43)) (.slice a m c) W2 ∧ m = (l ++ [x]).length ∧ OwnO W2 base (.slice a m c) f (l ++ [x]) ∧ Below base W W2 ∧ (∀ (q : Nat) (cur : Array Value) (ty : TypeId), W.heap[q]? = some (Obj.cells cur ty (0, 0)) → ty ≠ 43 → W2.heap[q]? = some (Obj.cells cur ty (0, 0))) := by
  have hb1 := below_alloc1 W (.cells (oA f x) 43)
  have ho1 := ho.below hb1
  have hx1 := ownsC_below hx hb1
  obtain ⟨a1, c1, w', r, o, b, q⟩ := append_c (W.alloc (.cells (oA f x) 43)) 35 43 _ 9 88 Try.underlying35 infoO rfl (by omega) base v l.length _ ho1.row (some ⟨W.heap.size, 0, none⟩) 1 1 (fun _ => oC f x) (fun _ _ => oC_one _ _ _) (one_out (heap_alloc_last W _)) (fun h => by cases h) (by unfold maxLen; omega) (by omega) (by have := hb1.size; omega)
  have e : l.length + 1 = (l ++ [x]).length := by simp
  refine ⟨a1, _, c1, w', r, e, ⟨?_, ?_⟩, (hb1.mono hbase).trans b, fun g cur ty hg hty => ?_⟩
  rotate_left 2
  · have hg1 := keep hg hb1
    refine (q g (Array.getElem?_eq_some_iff.1 hg1).1 (fun hv => ?_)).trans hg1
    obtain ⟨c2, h2⟩ := owns_type ho1.row hv.symm
    rw [hg1] at h2
    injection h2 with h2
    injection h2 with _ h2
    exact hty h2
  · rw [e] at o ⊢
    rw [cellsL_congr _ 9 _ (fun i => oC f (oat (l ++ [x]) i))] at o
    · exact o
    · intro i hi
      unfold catC
      by_cases h : i < l.length
      · rw [if_pos h, oat_left l _ i h]
      · have hi' : i = l.length := by simp at hi; omega
        subst hi'
        rw [if_neg (by omega), oat_right l _ _ (Nat.le_refl _), Nat.sub_self]
        rfl
  · have hk : ∀ y : OV, (W.alloc (.cells (oA f x) 43)).ownsRow base 5 1 (.slice y.da f.n y.dc) f.n (bytesL f.n f.bs) → w'.ownsRow base 5 1 (.slice y.da f.n y.dc) f.n (bytesL f.n f.bs) := fun y hy => by
      refine owns_keep hy (fun p hp => q p (ownsC_block hy p hp).2 ?_)
      have := owns_apart hy ho1.row (by decide) hp
      exact fun h => this h.symm
    intro y hy
    rcases List.mem_append.1 hy with h | h
    · exact hk y (ho1.data y h)
    · have : y = x := by simpa using h
      subst this
      exact hk y hx1
set_option maxHeartbeats 4000000 in
theorem sent_any (ao : Option Addr) (cap : Nat) (l : List G) (P1 P2 P3 P4 Bt Bw Bp Bf : Nat) (p : G → Bool) (f : F) (way : Int) (w : World) (hn : l.length ≤ 31) (hr : GRow w ao cap l)
    (hl : ∀ W, Below w.heap.size w W → ∀ g ∈ l, Calls Try.prog 36 #[.agg #[.int .i64 g.port, .slice g.wo g.ways.length g.wcap, .int .i64 g.plain, .slice g.oo g.opens.length g.ocap], .pointer (some ⟨P1, 0, none⟩), .pointer (some ⟨P2, 0, none⟩), .pointer (some ⟨P3, 0, none⟩), .pointer (some ⟨P4, 0, none⟩)] W fun e w' => e = .returned (.bool (p g)) ∧ Below W.heap.size W w')
    (hs : ∀ W, Below w.heap.size w W → ∀ g : G, Calls Try.prog 61 #[.agg #[.int .i64 g.port, .slice g.wo g.ways.length g.wcap, .int .i64 g.plain, .slice g.oo g.opens.length g.ocap], .pointer (some ⟨Bt, 0, none⟩), .pointer (some ⟨Bw, 0, none⟩), .pointer (some ⟨Bp, 0, none⟩), .pointer (some ⟨Bf, 0, none⟩)] W fun e w' => ∃ a c, e = .returned (.agg #[.int .u64 f.dst, .int .u64 f.src, .bool (Rl.leave f way g).tagged, .int .i64 (Rl.leave f way g).prio, .bool (Rl.leave f way g).drop, .int .i64 (Rl.leave f way g).vid, .int .i64 f.type, .slice a f.n c]) ∧ w'.ownsRow W.heap.size 5 1 (.slice a f.n c) f.n (bytesL f.n f.bs) ∧ Below W.heap.size W w') :
    Calls Try.prog 37 #[.slice ao l.length cap, .func (.func 36) #[] #[.pointer (some ⟨P1, 0, none⟩), .pointer (some ⟨P2, 0, none⟩), .pointer (some ⟨P3, 0, none⟩), .pointer (some ⟨P4, 0, none⟩)], .func (.func 61) #[] #[.pointer (some ⟨Bt, 0, none⟩), .pointer (some ⟨Bw, 0, none⟩), .pointer (some ⟨Bp, 0, none⟩), .pointer (some ⟨Bf, 0, none⟩)]] w fun e w' => ∃ v os, e = .returned v ∧ os.map OV.o = (l.filter p).map (Rl.leave f way) ∧ OwnO w' w.heap.size v f os ∧ Below w.heap.size w w' := by
  have hcap : l.length ≤ cap := hr.row.1
  have HR : Hid (∀ W, Below w.heap.size w W → GRow W ao cap l) := fun W hW => hr.below hW
  have HL : Hid (∀ W, Below w.heap.size w W → ∀ g ∈ l, Calls Try.prog 36 #[.agg #[.int .i64 g.port, .slice g.wo g.ways.length g.wcap, .int .i64 g.plain, .slice g.oo g.opens.length g.ocap], .pointer (some ⟨P1, 0, none⟩), .pointer (some ⟨P2, 0, none⟩), .pointer (some ⟨P3, 0, none⟩), .pointer (some ⟨P4, 0, none⟩)] W fun e w' => e = .returned (.bool (p g)) ∧ Below W.heap.size W w') := hl
  have HS : Hid (∀ W, Below w.heap.size w W → ∀ g : G, Calls Try.prog 61 #[.agg #[.int .i64 g.port, .slice g.wo g.ways.length g.wcap, .int .i64 g.plain, .slice g.oo g.opens.length g.ocap], .pointer (some ⟨Bt, 0, none⟩), .pointer (some ⟨Bw, 0, none⟩), .pointer (some ⟨Bp, 0, none⟩), .pointer (some ⟨Bf, 0, none⟩)] W fun e w' => ∃ a c, e = .returned (.agg #[.int .u64 f.dst, .int .u64 f.src, .bool (Rl.leave f way g).tagged, .int .i64 (Rl.leave f way g).prio, .bool (Rl.leave f way g).drop, .int .i64 (Rl.leave f way g).vid, .int .i64 f.type, .slice a f.n c]) ∧ w'.ownsRow W.heap.size 5 1 (.slice a f.n c) f.n (bytesL f.n f.bs) ∧ Below W.heap.size W w') := hs
  clear hr hl hs
  go_enter Try.func37, Try.ntmps37
  go_wp2_with fail
  go_loopw [7, 12] (fun o i wr => ∃ (k : Nat) (a : Option Addr) (m c : Nat), k ≤ l.length ∧ i = .int .i64 k ∧ o = .slice a m c ∧ Hid (∃ os : List OV, os.map OV.o = ((l.take k).filter p).map (Rl.leave f way) ∧ m = os.length ∧ OwnO wr w.heap.size (.slice a m c) f os ∧ Below w.heap.size w wr)) (fun _ i _ => l.length - (intOf i).toNat)
  case atStart => exact ⟨0, none, 0, 0, by omega, rfl, rfl, ⟨[], rfl, rfl, OwnO.nil _ _ _, Below.refl _ _⟩⟩
  case round =>
    obtain ⟨k, a, m, c, hk, rfl, rfl, hX⟩ := hrel
    obtain ⟨os, hmap, hm, hown, hbel⟩ := hX.out
    by_cases hlt : k < l.length
    · obtain ⟨b, off, rfl, _⟩ := (HR.out wr hbel).place (by omega)
      obtain ⟨c0, c1, c2, c3⟩ := (HR.out wr hbel).cells hlt
      obtain ⟨X, HX⟩ : ∃ X, Hid (X = wr.alloc (.cells #[.int .i64 (gat l k).port, .slice (gat l k).wo (gat l k).ways.length (gat l k).wcap, .int .i64 (gat l k).plain, .slice (gat l k).oo (gat l k).opens.length (gat l k).ocap] 47)) := ⟨_, rfl⟩
      have hXB : Below wr.heap.size wr X := by rw [HX.out]; exact below_alloc1 _ _
      have hX5 : X.heap[wr.heap.size]? = some (.cells #[.int .i64 (gat l k).port, .slice (gat l k).wo (gat l k).ways.length (gat l k).wcap, .int .i64 (gat l k).plain, .slice (gat l k).oo (gat l k).opens.length (gat l k).ocap] 47 (0, 0)) := by rw [HX.out]; exact heap_alloc_last _ _
      have hbX : Below w.heap.size w X := hbel.trans (hXB.mono hbel.size)
      have hst : ((l.take (k + 1)).filter p).map (Rl.leave f way) = os.map OV.o ++ (if p (gat l k) = true then [Rl.leave f way (gat l k)] else []) := by
        rw [Rl.take_succ l k hlt, List.filter_append, List.map_append, hmap]
        congr 1
        by_cases q : p (gat l k) = true
        · simp [q]
        · simp [q]
      have HLX : Hid (Calls Try.prog 36 #[.agg #[.int .i64 (gat l k).port, .slice (gat l k).wo (gat l k).ways.length (gat l k).wcap, .int .i64 (gat l k).plain, .slice (gat l k).oo (gat l k).opens.length (gat l k).ocap], .pointer (some ⟨P1, 0, none⟩), .pointer (some ⟨P2, 0, none⟩), .pointer (some ⟨P3, 0, none⟩), .pointer (some ⟨P4, 0, none⟩)] X fun e w' => e = .returned (.bool (p (gat l k))) ∧ Hid (Below X.heap.size X w')) := (HL.out X hbX (gat l k) (Rl.gat_mem l k hlt)).mono (fun e w' h => ⟨h.1, h.2⟩)
      have HCC : Hid (∀ W, Below X.heap.size X W → W.cell? ⟨wr.heap.size, 0, none⟩ = some (.int .i64 (gat l k).port) ∧ W.cell? ⟨wr.heap.size, 1, none⟩ = some (.slice (gat l k).wo (gat l k).ways.length (gat l k).wcap) ∧ W.cell? ⟨wr.heap.size, 2, none⟩ = some (.int .i64 (gat l k).plain) ∧ W.cell? ⟨wr.heap.size, 3, none⟩ = some (.slice (gat l k).oo (gat l k).opens.length (gat l k).ocap)) := fun W hW => gt_cells (keep hX5 hW)
      have HNO : Hid (p (gat l k) = false → ∀ W, Below X.heap.size X W → ∃ os : List OV, os.map OV.o = ((l.take (k + 1)).filter p).map (Rl.leave f way) ∧ m = os.length ∧ OwnO W w.heap.size (.slice a m c) f os ∧ Below w.heap.size w W) := fun hp W hW => ⟨os, by rw [hst, if_neg (by simp [hp]), List.append_nil], hm, (hown.below hXB).below hW, hbX.trans (hW.mono hbX.size)⟩
      have hlen : os.length ≤ l.length := by
        have h1 : os.length = (((l.take k).filter p).map (Rl.leave f way)).length := by rw [← hmap, List.length_map]
        rw [h1, List.length_map]
        exact Nat.le_trans (List.length_filter_le _ _) (by simp; omega)
      have HSX : Hid (∀ W, Below X.heap.size X W → Calls Try.prog 61 #[.agg #[.int .i64 (gat l k).port, .slice (gat l k).wo (gat l k).ways.length (gat l k).wcap, .int .i64 (gat l k).plain, .slice (gat l k).oo (gat l k).opens.length (gat l k).ocap], .pointer (some ⟨Bt, 0, none⟩), .pointer (some ⟨Bw, 0, none⟩), .pointer (some ⟨Bp, 0, none⟩), .pointer (some ⟨Bf, 0, none⟩)] W fun e w' => ∃ da dc, e = .returned (.agg #[.int .u64 f.dst, .int .u64 f.src, .bool (Rl.leave f way (gat l k)).tagged, .int .i64 (Rl.leave f way (gat l k)).prio, .bool (Rl.leave f way (gat l k)).drop, .int .i64 (Rl.leave f way (gat l k)).vid, .int .i64 f.type, .slice da f.n dc]) ∧ Hid (Below X.heap.size X w') ∧ (p (gat l k) = true → ∃ a1 m1 c1 w2, runAppO (.slice a m c) (.slice (some ⟨w'.heap.size, 0, none⟩) 1 1) (w'.alloc (.cells #[.int .i64 (gat l k).port, .int .u64 f.dst, .int .u64 f.src, .bool (Rl.leave f way (gat l k)).tagged, .int .i64 (Rl.leave f way (gat l k)).prio, .bool (Rl.leave f way (gat l k)).drop, .int .i64 (Rl.leave f way (gat l k)).vid, .int .i64 f.type, .slice da f.n dc] 43)) (.slice a1 m1 c1) w2 ∧ Hid (∃ os : List OV, os.map OV.o = ((l.take (k + 1)).filter p).map (Rl.leave f way) ∧ m1 = os.length ∧ OwnO w2 w.heap.size (.slice a1 m1 c1) f os ∧ Below w.heap.size w w2) ∧ Hid (w2.heap[wr.heap.size]? = some (.cells #[.int .i64 (gat l k).port, .slice (gat l k).wo (gat l k).ways.length (gat l k).wcap, .int .i64 (gat l k).plain, .slice (gat l k).oo (gat l k).opens.length (gat l k).ocap] 47 (0, 0)))) ) := fun W hW => by
        have hwW : Below w.heap.size w W := hbX.trans (hW.mono hbX.size)
        refine (HS.out W hwW (gat l k)).mono ?_
        rintro e w' ⟨da, dc, rfl, hd, hb⟩
        have hw' : Below w.heap.size w w' := hwW.trans (hb.mono hwW.size)
        have hX' : Below X.heap.size X w' := hW.trans (hb.mono hW.size)
        refine ⟨da, dc, rfl, hX', fun hp => ?_⟩
        obtain ⟨a1, m1, c1, w2, r, e1, o2, b2, hq⟩ := more_o w.heap.size w' (.slice a m c) f os ⟨Rl.leave f way (gat l k), da, dc⟩ ((hown.below hXB).below hX') (owns_mono hd hwW.size) (by omega) hw'.size
        have hpo : (Rl.leave f way (gat l k)).port = (gat l k).port := Rl.leave_port _ _ _
        refine ⟨a1, m1, c1, w2, ?_, ⟨os ++ [⟨Rl.leave f way (gat l k), da, dc⟩], by rw [hst, if_pos hp, List.map_append]; rfl, e1, o2, hw'.trans b2⟩, ?_⟩
        · unfold oA at r
          rw [hpo] at r
          exact r
        · exact hq _ _ _ (keep hX5 hX') (by decide)
      obtain ⟨d0, d1, d2, d3⟩ := HCC.out X (Below.refl _ _)
      clear hX hmap hm hown hbel hXB hX5 hbX hst hlen HR HL HS
      go_wp2_with fail
      rw [← HX.out]
      clear c0 c1 c2 c3
      cases hp : p (gat l k) with
      | false =>
        rw [hp] at HLX
        have HN2 : Hid (∀ W, Below X.heap.size X W → ∃ os : List OV, os.map OV.o = ((l.take (k + 1)).filter p).map (Rl.leave f way) ∧ m = os.length ∧ OwnO W w.heap.size (.slice a m c) f os ∧ Below w.heap.size w W) := HNO.out hp
        clear HNO HSX HCC hp
        generalize gat l k = x at *
        go_wp2_with (go_at_call 36; refine HLX.out.mono ?_; rintro e w1 ⟨rfl, HB1⟩; clear d0 d1 d2 d3)
        exact ⟨⟨k + 1, a, m, c, by omega, by go_num, rfl, HN2.out _ HB1.out⟩, by simp [intOf]; omega⟩
      | true =>
        rw [hp] at HLX
        have HSY : Hid (∀ W, Below X.heap.size X W → Calls Try.prog 61 #[.agg #[.int .i64 (gat l k).port, .slice (gat l k).wo (gat l k).ways.length (gat l k).wcap, .int .i64 (gat l k).plain, .slice (gat l k).oo (gat l k).opens.length (gat l k).ocap], .pointer (some ⟨Bt, 0, none⟩), .pointer (some ⟨Bw, 0, none⟩), .pointer (some ⟨Bp, 0, none⟩), .pointer (some ⟨Bf, 0, none⟩)] W fun e w' => ∃ da dc a1 m1 c1 w2, e = .returned (.agg #[.int .u64 f.dst, .int .u64 f.src, .bool (Rl.leave f way (gat l k)).tagged, .int .i64 (Rl.leave f way (gat l k)).prio, .bool (Rl.leave f way (gat l k)).drop, .int .i64 (Rl.leave f way (gat l k)).vid, .int .i64 f.type, .slice da f.n dc]) ∧ Hid (Below X.heap.size X w') ∧ Hid (runAppO (.slice a m c) (.slice (some ⟨w'.heap.size, 0, none⟩) 1 1) (w'.alloc (.cells #[.int .i64 (gat l k).port, .int .u64 f.dst, .int .u64 f.src, .bool (Rl.leave f way (gat l k)).tagged, .int .i64 (Rl.leave f way (gat l k)).prio, .bool (Rl.leave f way (gat l k)).drop, .int .i64 (Rl.leave f way (gat l k)).vid, .int .i64 f.type, .slice da f.n dc] 43)) (.slice a1 m1 c1) w2) ∧ Hid (∃ os : List OV, os.map OV.o = ((l.take (k + 1)).filter p).map (Rl.leave f way) ∧ m1 = os.length ∧ OwnO w2 w.heap.size (.slice a1 m1 c1) f os ∧ Below w.heap.size w w2) ∧ Hid (w2.cell? ⟨wr.heap.size, 0, none⟩ = some (.int .i64 (gat l k).port) ∧ w2.cell? ⟨wr.heap.size, 1, none⟩ = some (.slice (gat l k).wo (gat l k).ways.length (gat l k).wcap) ∧ w2.cell? ⟨wr.heap.size, 2, none⟩ = some (.int .i64 (gat l k).plain) ∧ w2.cell? ⟨wr.heap.size, 3, none⟩ = some (.slice (gat l k).oo (gat l k).opens.length (gat l k).ocap))) := fun W hW => by
          refine (HSX.out W hW).mono ?_
          rintro e w' ⟨da, dc, rfl, h1, h2⟩
          obtain ⟨a1, m1, c1, w2, r, h3, h4⟩ := h2 hp
          exact ⟨da, dc, a1, m1, c1, w2, rfl, h1, r, h3, gt_cells h4.out⟩
        clear HNO HSX hp
        generalize Rl.leave f way (gat l k) = lv at *
        generalize gat l k = x at *
        go_wp2_with fail
        refine HLX.out.mono ?_
        rintro e w1 ⟨rfl, HB1⟩
        obtain ⟨u0, u1, u2, u3⟩ := HCC.out w1 HB1.out
        clear d0 d1 d2 d3 HLX
        go_wp2_with fail
        go_region_held3 (fun W => W.cell? ⟨wr.heap.size, 0, none⟩ = some (.int .i64 x.port) ∧ W.cell? ⟨wr.heap.size, 1, none⟩ = some (.slice x.wo x.ways.length x.wcap) ∧ W.cell? ⟨wr.heap.size, 2, none⟩ = some (.int .i64 x.plain) ∧ W.cell? ⟨wr.heap.size, 3, none⟩ = some (.slice x.oo x.opens.length x.ocap))
          (first | (exact HCC.out _ (Hid.out (by assumption))) | (exact HCC.out _ (Below.drew (Hid.out (by assumption)))) | (exact HCC.out _ (below_al (Hid.out (by assumption)) _)) | (exact HE.out))
          (first | (go_at_call 61; refine (HSY.out _ (by first | exact (Hid.out (by assumption)) | exact Below.drew (Hid.out (by assumption)))).mono ?_; rintro e w2 ⟨da, dc, a1, m1, c1, w3, rfl, HB2, HRN, HZ, HE⟩) | ((with_reducible refine step_append_c ?_ (.tmp 19) (.tmp 26) 35 ?_ _ _ _ ?_ ?_ HRN.out ?_); rfl; rfl; rfl; rfl))
        all_goals clear u0 u1 u2 u3 HCC HSY
        all_goals go_wp2_with fail
        all_goals exact ⟨⟨k + 1, a1, m1, c1, by omega, by go_num, rfl, HZ⟩, by simp [intOf]; omega⟩
    · obtain rfl : k = l.length := by omega
      have HF : Hid (os.map OV.o = (l.filter p).map (Rl.leave f way) ∧ OwnO wr w.heap.size (.slice a m c) f os ∧ Below w.heap.size w wr) := by
        rw [List.take_length] at hmap
        exact ⟨hmap, hown, hbel⟩
      clear hX HR HL HS hmap hown hbel
      go_wp2_with fail
      go_ret
      exact ⟨_, os, rfl, HF.out.1, HF.out.2.1, HF.out.2.2⟩
end Go.Proofs.Ytgkmaihleilchaa
