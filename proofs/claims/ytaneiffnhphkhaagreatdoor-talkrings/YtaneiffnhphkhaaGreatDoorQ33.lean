/- Minds in rows of the call's own: one more; regions in which two calls may come in either order -/
import Derived.Test.YtaneiffnhphkhaaGreatDoorQ29
import Derived.Test.YtaneiffnhphkhaaGreatDoorQ32
import Derived.Test.YtaneiffnhphkhaaGreatDoorQ19
import Derived.Test.YtaneiffnhphkhaaGreatDoorQ25
import Derived.Test.YtaneiffnhphkhaaGreatDoorQ23
namespace Go.Proofs.YtaneiffnhphkhaaGreatDoor
open Go.RowKit
open Vc (V Of)
open Pl (En Lk Br Net)
open Tk (Md Mnd Cn Sc Dn ixM ilist lst3 ilm)
section
variable {P : Program} {ops : Array Oper} {Q : Exit → Act → World → Prop} {md : Region.Mode} {z : Nat} {C : World → Prop}
theorem z_two {i j : Nat} {o o2 : Oper} {fuel : Nat} {listed : Array Bool} {a : Act} {w : World} (hr : Region.ready md ops listed = [i, j]) (ho : ops[i]? = some o) (ho2 : ops[j]? = some o2)
  (h : ∀ K' : Act → World → Prop, Shut (∀ a w, ((listed.setIfInBounds i true).getD z true = true ∨ C w) → (((listed.setIfInBounds i true).getD z true = true ∨ C w) → wpAnyZ P md ops Q z C fuel (listed.setIfInBounds i true) a w) → K' a w) → if Region.wanted o (yielded ops a.tmps) = true then Oper.wp P o a w K' Q else K' (a.put o.dst undef) w)
  (h2 : ∀ K' : Act → World → Prop, Shut (∀ a w, ((listed.setIfInBounds j true).getD z true = true ∨ C w) → (((listed.setIfInBounds j true).getD z true = true ∨ C w) → wpAnyZ P md ops Q z C fuel (listed.setIfInBounds j true) a w) → K' a w) → if Region.wanted o2 (yielded ops a.tmps) = true then Oper.wp P o2 a w K' Q else K' (a.put o2.dst undef) w) :
  wpAnyZ P md ops Q z C (fuel + 1) listed a w := by
 refine ⟨fun h0 => (by rw [hr] at h0; cases h0), fun x hx => ?_⟩
 rw [hr] at hx
 rcases (by simpa using hx : x = i ∨ x = j) with q | q
 ·subst q
  exact wpOp_step ho (fun K' hK => h K' (fun a w hS hW => hK a w ⟨hS, hW hS⟩))
 ·subst q
  exact wpOp_step ho2 (fun K' hK => h2 K' (fun a w hS hW => hK a w ⟨hS, hW hS⟩))
end
def miC (m : Mi) : Nat → Value := mdC m.md (.slice m.po m.ports.length m.pc) (.slice m.ro m.roles.length m.rc) (.slice m.co m.calm.length m.cc)
def miA (m : Mi) : Array Value := #[.int .u64 m.md.v.root, .int .i64 m.md.v.cost, .int .u64 m.md.v.bridge, .int .i64 m.md.v.port, .int .i64 m.md.age, .int .i64 m.md.rp, .slice m.po m.ports.length m.pc, .slice m.ro m.roles.length m.rc, .slice m.co m.calm.length m.cc]
structure OwnI (W : World) (base : Nat) (m : Mi) : Prop where
 ports : W.ownsRow base 3 1 (.slice m.po m.ports.length m.pc) m.ports.length (intCells m.ports)
 roles : W.ownsRow base 3 1 (.slice m.ro m.roles.length m.rc) m.roles.length (intCells m.roles)
 calm : W.ownsRow base 3 1 (.slice m.co m.calm.length m.cc) m.calm.length (intCells m.calm)
structure OwnM (W : World) (base : Nat) (v : Value) (l : List Mi) : Prop where
 row : W.ownsRow base 66 9 v l.length (cellsL l.length 9 (fun i => miC (mat l i)))
 each : ∀ m ∈ l, OwnI W base m
theorem OwnI.keep {W W' : World} {base : Nat} {m : Mi} (h : OwnI W base m) (hk : ∀ (q : Nat) (cur : Array Value), W.heap[q]? = some (Obj.cells cur 3 (0, 0)) → W'.heap[q]? = W.heap[q]?) : OwnI W' base m :=
 ⟨owns_keep h.ports (fun q hq => by obtain ⟨cur, hc⟩ := owns_type h.ports hq; exact hk q cur hc), owns_keep h.roles (fun q hq => by obtain ⟨cur, hc⟩ := owns_type h.roles hq; exact hk q cur hc), owns_keep h.calm (fun q hq => by obtain ⟨cur, hc⟩ := owns_type h.calm hq; exact hk q cur hc)⟩
theorem lt_some {W : World} {q : Nat} {o : Obj} (h : W.heap[q]? = some o) : q < W.heap.size := (Array.getElem?_eq_some_iff.1 h).1
theorem OwnI.below {W W' : World} {base : Nat} {m : Mi} (h : OwnI W base m) (hb : Below W.heap.size W W') : OwnI W' base m := h.keep (fun q _ hc => hb.block q (lt_some hc))
theorem OwnI.mono {W : World} {base base' : Nat} {m : Mi} (h : OwnI W base m) (hb : base' ≤ base) : OwnI W base' m := ⟨owns_mono h.ports hb, owns_mono h.roles hb, owns_mono h.calm hb⟩
theorem OwnM.keep {W W' : World} {base : Nat} {v : Value} {l : List Mi} (h : OwnM W base v l) (hk : ∀ (q : Nat) (cur : Array Value) (ty : TypeId), W.heap[q]? = some (Obj.cells cur ty (0, 0)) → ty = 3 ∨ ty = 66 → W'.heap[q]? = W.heap[q]?) : OwnM W' base v l :=
 ⟨owns_keep h.row (fun q hq => by obtain ⟨cur, hc⟩ := owns_type h.row hq; exact hk q cur _ hc (Or.inr rfl)), fun m hm => (h.each m hm).keep (fun q cur hc => hk q cur _ hc (Or.inl rfl))⟩
theorem OwnM.below {W W' : World} {base : Nat} {v : Value} {l : List Mi} (h : OwnM W base v l) (hb : Below W.heap.size W W') : OwnM W' base v l := h.keep (fun q _ _ hc _ => hb.block q (lt_some hc))
theorem OwnM.mono {W : World} {base base' : Nat} {v : Value} {l : List Mi} (h : OwnM W base v l) (hb : base' ≤ base) : OwnM W base' v l := ⟨owns_mono h.row hb, fun m hm => (h.each m hm).mono hb⟩
theorem OwnM.nil (W : World) (base : Nat) : OwnM W base (.slice none 0 0) [] := ⟨ownsC_nil _ _ _ _ _, fun m h => by simp at h⟩
theorem mat_mem {l : List Mi} {i : Nat} (h : i < l.length) : mat l i ∈ l := by
 have : mat l i = l[i] := by simp [mat, h]
 rw [this]
 exact List.getElem_mem h
theorem OwnM.row' {W : World} {base : Nat} {v : Value} {l : List Mi} (h : OwnM W base v l) (hl : l.length ≤ 1000) : ∃ ao cap, v = .slice ao l.length cap ∧ MiRow W ao cap l := by
 obtain ⟨ao, cap, e, h1, _, _⟩ := owns_c (by omega) h.row
 refine ⟨ao, cap, e, h1, fun i hi => ?_, by omega⟩
 have hm := h.each _ (mat_mem hi)
 have f : ∀ {a : Option Addr} {c : Nat} {x : List Int}, W.ownsRow base 3 1 (.slice a x.length c) x.length (intCells x) → ILs W a c x ∧ x.length ≤ 9223372036854775807 := fun {a c x} h => by
  obtain ⟨ao', cap', e', h1, _, _⟩ := owns_c (by omega) h
  injection e' with e1 _ e2
  subst e1 e2
  exact ⟨h1, owns_few h⟩
 exact ⟨(f hm.ports).1, (f hm.roles).1, (f hm.calm).1, (f hm.ports).2, (f hm.roles).2, (f hm.calm).2⟩
theorem one_mind {w : World} {g : Nat} {x : Mi} {ty : TypeId} (h : w.heap[g]? = some (.cells (miA x) ty (0, 0))) : CRow w (some ⟨g, 0, none⟩) 1 1 9 (fun _ => miC x) := by
 refine ⟨Nat.le_refl _, fun _ => ⟨g, 0, rfl, (Array.getElem?_eq_some_iff.1 h).1, fun i hi j hj => ?_⟩⟩
 obtain rfl : i = 0 := by omega
 rcases (by omega : j = 0 ∨ j = 1 ∨ j = 2 ∨ j = 3 ∨ j = 4 ∨ j = 5 ∨ j = 6 ∨ j = 7 ∨ j = 8) with e | e | e | e | e | e | e | e | e <;> subst e
 ·exact cell_of_row w g 0 _ _ _ h
 ·exact cell_of_row w g 1 _ _ _ h
 ·exact cell_of_row w g 2 _ _ _ h
 ·exact cell_of_row w g 3 _ _ _ h
 ·exact cell_of_row w g 4 _ _ _ h
 ·exact cell_of_row w g 5 _ _ _ h
 ·exact cell_of_row w g 6 _ _ _ h
 ·exact cell_of_row w g 7 _ _ _ h
 ·exact cell_of_row w g 8 _ _ _ h
theorem infoMn : (Tryz.prog.info? 66).map (fun i => (i.zero, i.size, i.bytes)) = some (some (.agg #[.int .u64 0, .int .i64 0, .int .u64 0, .int .i64 0, .int .i64 0, .int .i64 0, .slice none 0 0, .slice none 0 0, .slice none 0 0]), 9, 120) := by kernel_rfl
theorem miC_one (m : Mi) (x : Nat) : (miC m x).oneCell' = true := mdC_one _ rfl rfl rfl x
theorem mat_left (l m : List Mi) (i : Nat) (h : i < l.length) : mat (l ++ m) i = mat l i := by
 simp [mat, h, List.getElem?_append_left]
theorem mat_right (l m : List Mi) (i : Nat) (h : l.length ≤ i) : mat (l ++ m) i = mat m (i - l.length) := by
 simp [mat, h, List.getElem?_append_right]
abbrev runAppM (v x : Value) (w : World) (v' : Value) (w' : World) : Prop := (Builtin.append_ #[64, 64] 64 #[v, x]).run Tryz.prog w = .ok v' w'
theorem more_m (base : Nat) (W : World) (v : Value) (l : List Mi) (x : Mi) (ho : OwnM W base v l) (hx : OwnI W base x) (hl : l.length ≤ 1000) (hbase : base ≤ W.heap.size) :
  ∃ a m c W2, runAppM v (.slice (some ⟨W.heap.size, 0, none⟩) 1 1) (W.alloc (.cells (miA x) 66)) (.slice a m c) W2 ∧ m = (l ++ [x]).length ∧ OwnM W2 base (.slice a m c) (l ++ [x]) ∧ Below base W W2 ∧ (∀ (q : Nat) (cur : Array Value) (ty : TypeId), W.heap[q]? = some (Obj.cells cur ty (0, 0)) → ty ≠ 66 → W2.heap[q]? = some (Obj.cells cur ty (0, 0))) := by
 have hb1 := below_alloc1 W (.cells (miA x) 66)
 have ho1 := ho.below hb1
 have hx1 := hx.below hb1
 obtain ⟨a1, c1, w', r, o, b, q⟩ := append_c (W.alloc (.cells (miA x) 66)) 64 66 _ 9 120 Tryz.underlying64 infoMn rfl (by omega) base v l.length _ ho1.row (some ⟨W.heap.size, 0, none⟩) 1 1 (fun _ => miC x) (fun _ _ => miC_one _ _) (one_mind (heap_alloc_last W _)) (fun h => by cases h) (by unfold maxLen; omega) (by omega) (by have := hb1.size; omega)
 have e : l.length + 1 = (l ++ [x]).length := by simp
 refine ⟨a1, _, c1, w', r, e, ⟨?_, ?_⟩, (hb1.mono hbase).trans b, fun g cur ty hg hty => ?_⟩
 rotate_left 2
 ·have hg1 := keep hg hb1
  refine (q g (lt_some hg1) (fun hv => ?_)).trans hg1
  obtain ⟨c2, h2⟩ := owns_type ho1.row hv.symm
  exact hty (cells_type hg1 h2)
 ·rw [e] at o ⊢
  rw [cellsL_congr _ 9 _ (fun i => miC (mat (l ++ [x]) i))] at o
  ·exact o
  ·intro i hi
   unfold catC
   by_cases h : i < l.length
   ·rw [if_pos h, mat_left l _ i h]
   ·have hi' : i = l.length := by simp at hi; omega
    subst hi'
    rw [if_neg (by omega), mat_right l _ _ (Nat.le_refl _), Nat.sub_self]
    rfl
 ·have hk : ∀ (g : Nat) (cur : Array Value), (W.alloc (.cells (miA x) 66)).heap[g]? = some (Obj.cells cur 3 (0, 0)) → w'.heap[g]? = (W.alloc (.cells (miA x) 66)).heap[g]? := fun g cur hg => by
   refine q g (lt_some hg) (fun hv => ?_)
   obtain ⟨c2, h2⟩ := owns_type ho1.row hv.symm
   exact absurd (cells_type hg h2) (by decide)
  intro y hy
  rcases List.mem_append.1 hy with h | h
  ·exact (ho1.each y h).keep hk
  ·have : y = x := by simpa using h
   subst this
   exact hx1.keep hk
def zer (n : Nat) : List Int := List.replicate n 0
theorem zer_len (n : Nat) : (zer n).length = n := by simp [zer]
theorem zer_get (n j : Nat) : (zer n).getD j 0 = 0 := by
 simp [zer, List.getElem?_replicate]
 split <;> rfl
theorem ZeroAt.owns {W : World} {g n base : Nat} (h : ZeroAt W g n) (hn : n ≤ 1000) (hb : base ≤ g) : W.ownsRow base 3 1 (.slice (some ⟨g, 0, none⟩) (zer n).length n) (zer n).length (intCells (zer n)) := by
 have := owns_mono (RlAt.owns h (by omega)) hb
 unfold intCells
 rw [zer_len, cellsL_congr n 1 _ (fun _ _ => .int .i64 0)]
 ·exact this
 ·intro i _
  funext _
  rw [show IL (zer n) i = 0 from zer_get n i]
def startMs (n : Net) (k i : Nat) : Mnd := ⟨⟨⟨n.ids k i, 0, n.ids k i, 0⟩, 0, -1⟩, zer (n.pts i).length, zer (n.pts i).length⟩
def isFirst (n : Net) (k i : Nat) (m : Mi) : Prop := m.md = ⟨⟨n.ids k i, 0, n.ids k i, 0⟩, 0, -1⟩ ∧ m.ports = n.pts i ∧ m.roles = zer (n.pts i).length ∧ m.calm = zer (n.pts i).length
def stErr (n : Net) (trees : Int) : Int × Int := if n.wrong.1 ≠ 0 then n.wrong else if ¬ (1 ≤ trees ∧ trees ≤ 4) then (3, 0) else (0, 0)
structure StA (W Y : World) (n : Net) (T G : Nat) (vs : Nat → Value) (ls : Nat → List Mi) (k : Nat) : Prop where
 out : W.heap[G]? = some (.cells (rowC T 1 (fun j _ => vs j)) 64 (0, 0))
 each : ∀ j, j < k → OwnM W Y.heap.size (vs j) (ls j) ∧ (ls j).length = n.K ∧ ∀ x, x < n.K → isFirst n j x (mat (ls j) x)
 rest : ∀ j, k ≤ j → vs j = .slice none 0 0
 bt : Bt (fun q => q = G) Y W
structure StI (W Z : World) (n : Net) (T G k i : Nat) (vs : Nat → Value) (v : Value) (l : List Mi) : Prop where
 out : W.heap[G]? = some (.cells (rowC T 1 (fun j _ => upF vs k v j)) 64 (0, 0))
 own : OwnM W Z.heap.size v l
 len : l.length = i
 first : ∀ x, x < i → isFirst n k x (mat l x)
 bt : Bt (fun q => q = G) Z W
theorem StI.done {W Z Y : World} {n : Net} {T G k : Nat} {vs : Nat → Value} {ls : Nat → List Mi} {v : Value} {l : List Mi} (hA : StA Z Y n T G vs ls k) (h : StI W Z n T G k n.K vs v l) : StA W Y n T G (upF vs k v) (upF ls k l) (k + 1) := by
 refine ⟨h.out, fun j hj => ?_, fun j hj => ?_, hA.bt.trans h.bt⟩
 ·by_cases q : j = k
  ·subst q
   rw [upF_same, upF_same]
   exact ⟨h.own.mono hA.bt.size, h.len, h.first⟩
  ·rw [upF_other _ _ q, upF_other _ _ q]
   obtain ⟨a1, a2, a3⟩ := hA.each j (by omega)
   refine ⟨a1.keep (fun q cur ty hc ht => h.bt.block q (lt_some hc) (fun e => ?_)), a2, a3⟩
   subst e
   have := cells_type hc hA.out
   rcases ht with ht | ht
   ·exact absurd (ht.symm.trans this) (by decide)
   ·exact absurd (ht.symm.trans this) (by decide)
 ·rw [upF_other _ _ (by omega)]
  exact hA.rest j (by omega)
theorem below_an {a b : World} (h : Below a.heap.size a b) (o : Obj) : Below a.heap.size a (b.alloc o) := h.alloc h.size o
structure StT (w : World) (n : Net) (trees : Int) (oao : Option Addr) (ocap : Nat) (t0 : List Tr) : Prop where
 row : TrRow w oao ocap t0
 len : (t0.length : Int) = trees
 fit : fitT n t0 = true
 calm : CalmT t0
 ms : ∀ k, k < t0.length → ∀ i, i < n.K → startMs n k i = msT t0 k i
theorem StT.below {w w' : World} {n : Net} {trees : Int} {oao : Option Addr} {ocap : Nat} {t0 : List Tr} (h : StT w n trees oao ocap t0) (hb : Below w.heap.size w w') : StT w' n trees oao ocap t0 := ⟨h.row.below hb, h.len, h.fit, h.calm, h.ms⟩
theorem start_all {W : World} {n : Net} {T G b : Nat} {vs : Nat → Value} {ls : Nat → List Mi} (hT : 1 ≤ T ∧ T ≤ 4) (hK : n.K ≤ 12) (hout : W.heap[G]? = some (.cells (rowC T 1 (fun j _ => vs j)) 64 (0, 0)))
  (heach : ∀ j, j < T → OwnM W b (vs j) (ls j) ∧ (ls j).length = n.K ∧ ∀ x, x < n.K → isFirst n j x (mat (ls j) x)) : ∃ t0 : List Tr, t0.length = T ∧ StT W n T (some ⟨G, 0, none⟩) T t0 := by
 obtain ⟨f, hf⟩ := Classical.axiomOfChoice (r := fun (j : Nat) (p : Option Addr × Nat) => j < T → vs j = .slice p.1 (ls j).length p.2 ∧ MiRow W p.1 p.2 (ls j)) (fun j => by
  by_cases q : j < T
  ·obtain ⟨h1, h2, _⟩ := heach j q
   obtain ⟨a, c, e1, e2⟩ := h1.row' (by omega)
   exact ⟨(a, c), fun _ => ⟨e1, e2⟩⟩
  ·exact ⟨(none, 0), fun z => absurd z q⟩)
 obtain ⟨t0, ht0⟩ : ∃ t0 : List Tr, t0 = (List.range T).map (fun j => ⟨(f j).1, (f j).2, ls j⟩) := ⟨_, rfl⟩
 have tl : t0.length = T := by rw [ht0]; simp
 have tk : ∀ j, j < T → tat t0 j = ⟨(f j).1, (f j).2, ls j⟩ := fun j hj => by unfold tat; rw [ht0]; exact range_getD _ _ hj
 have hF : ∀ j, j < T → ∀ x, x < n.K → isFirst n j x (mat (tat t0 j).l x) := fun j hj x hx => by rw [tk j hj]; exact (heach j hj).2.2 x hx
 have hL : ∀ j, j < T → (tat t0 j).l.length = n.K := fun j hj => by rw [tk j hj]; exact (heach j hj).2.1
 refine ⟨t0, tl, ⟨⟨?_, fun j hj => ?_, by omega⟩, by rw [tl], ?_, fun j hj x hx y => ?_, fun j hj x hx => ?_⟩⟩
 ·rw [tl]
  refine (rowC_crow hout).congr (fun j hj => ?_)
  funext _
  rw [(hf j hj).1, tk j hj]
 ·rw [tl] at hj
  rw [tk j hj]
  exact (hf j hj).2
 ·refine fit_iff.2 ⟨by rw [tl]; exact hT, fun j hj => ?_⟩
  rw [tl] at hj
  refine ⟨hL j hj, fun x hx => ?_⟩
  obtain ⟨_, e1, e2, e3⟩ := hF j hj x hx
  rw [e1, e2, e3, zer_len]
  exact ⟨rfl, rfl, rfl⟩
 ·rw [tl] at hj
  rw [hL j hj] at hx
  obtain ⟨_, _, _, e3⟩ := hF j hj x hx
  rw [e3, zer_get]
  exact ⟨Int.le_refl _, fun h => absurd h (Int.lt_irrefl _)⟩
 ·rw [tl] at hj
  obtain ⟨e0, _, e2, e3⟩ := hF j hj x hx
  unfold msT startMs
  rw [e0, e2, e3]
def StartW (w : World) (n : Net) (trees : Int) (e : Ending) (w' : World) : Prop :=
 Below w.heap.size w w' ∧ (((stErr n trees).1 ≠ 0 ∧ e = .returned (.tuple #[.agg #[.slice none 0 0], .agg #[.int .i64 (stErr n trees).1, .int .i64 (stErr n trees).2]])) ∨
  ((stErr n trees).1 = 0 ∧ ∃ (oao : Option Addr) (ocap : Nat) (t0 : List Tr), e = .returned (.tuple #[.agg #[.slice oao t0.length ocap], .agg #[.int .i64 0, .int .i64 0]]) ∧ StT w' n trees oao ocap t0))
end Go.Proofs.YtaneiffnhphkhaaGreatDoor
