/- The document's Plan: the places that it appends; what its offers, ports and roles come to -/
import Derived.Test.YtcbpafpaimpfnaaGreatDoorP31
namespace Go.Proofs.YtcbpafpaimpfnaaGreatDoor
section
open Go.RowKit
open Vc (V Of)
open Pl (Br Net Pc Lk En St LN)
def PlOk (W : World) (v : Value) (x : Nat → St) (E : Nat → List En) (c : Nat → Nat → Value) (i : Nat) : Prop :=
 (∀ q, q < 5 → c i q = plS (x i) q) ∧ ∃ (p r : Option Addr) (pc rc : Nat), c i 5 = .slice p (E i).length pc ∧ c i 6 = .slice r (E i).length rc ∧ (IRow W p (E i).length pc (fun j => (EL (E i) j).port) ∧ IRow W r (E i).length rc (fun j => Pl.roleAt (x i) (Pl.offs (E i) x) (EL (E i) j))) ∧ (0 < (E i).length → (∀ b off, p = some ⟨b, off, none⟩ → v.ownBlock ≠ some b) ∧ (∀ b off, r = some ⟨b, off, none⟩ → v.ownBlock ≠ some b))
def OutW (Wc W : World) (v : Value) (x : Nat → St) (E : Nat → List En) (j : Nat) : Prop :=
 Below Wc.heap.size Wc W ∧ ∃ c, W.ownsRow Wc.heap.size 50 7 v j (cellsL j 7 c) ∧ ∀ i, i < j → PlOk W v x E c i
section
variable {Wc W : World} {v : Value} {x : Nat → St} {E : Nat → List En} {j : Nat}
theorem OutW.below {W' : World} (h : OutW Wc W v x E j) (hb : Below W.heap.size W W') : OutW Wc W' v x E j := by
 obtain ⟨h1, c, h2, h3⟩ := h
 refine ⟨h1.trans (hb.mono h1.size), c, ownsC_below h2 hb, fun i hi => ?_⟩
 obtain ⟨a, p, r, pc, rc, e5, e6, ⟨r5, r6⟩, n5⟩ := h3 i hi
 exact ⟨a, p, r, pc, rc, e5, e6, ⟨CRow.below r5 hb, CRow.below r6 hb⟩, n5⟩
theorem OutW.block (h : OutW Wc W v x E j) : ∀ q, v.ownBlock = some q → q < W.heap.size := by
 obtain ⟨_, c, h2, _⟩ := h
 exact fun q hq => (ownsC_block h2 q hq).2
theorem crow_kept {W W' : World} {ao : Option Addr} {n cap k : Nat} {c : Nat → Nat → Value} {u : Value} (h : CRow W ao n cap k c) (hg : W.grownBy W' u.ownBlock) (hne : 0 < n → ∀ b off, ao = some ⟨b, off, none⟩ → u.ownBlock ≠ some b) : CRow W' ao n cap k c := by
 refine ⟨h.1, fun hp => ?_⟩
 obtain ⟨b, off, e, hlt, hc⟩ := h.2 hp
 exact ⟨b, off, e, Nat.lt_of_lt_of_le hlt hg.size, fun i hi q hq => (World.cell?_of_block (a := ⟨b, off + i * k + q, none⟩) (hg.block b hlt (fun z => hne hp b off e z.symm))).trans (hc i hi q hq)⟩
theorem one_pl {w : World} {g : Nat} {A : Array Value} {d : Nat → Value} {ty : TypeId} (h : w.heap[g]? = some (.cells A ty (0, 0))) (hd : ∀ q, q < 7 → A[q]? = some (d q)) : CRow w (some ⟨g, 0, none⟩) 1 1 7 (fun _ => d) := by
 refine ⟨Nat.le_refl _, fun _ => ⟨g, 0, rfl, plt_some h, fun i hi q hq => ?_⟩⟩
 obtain rfl : i = 0 := by omega
 rw [show 0 + 0 * 7 + q = q by omega]
 exact (cell_of_row w g _ _ _ _ h).trans (hd q hq)
def plC (s : St) (p r : Value) (q : Nat) : Value := if q < 5 then plS s q else if q = 5 then p else r
theorem plC_one (s : St) {p r : Value} (hp : p.oneCell' = true) (hr : r.oneCell' = true) (q : Nat) : (plC s p r q).oneCell' = true := by
 unfold plC plS vC
 repeat' split
 all_goals first | exact hp | exact hr | rfl
set_option maxHeartbeats 1000000 in
theorem OutW.more (h : OutW Wc W v x E j) (hj : j ≤ 1000) {p r : Option Addr} {pc rc : Nat} (hp : IRow W p (E j).length pc (fun q => (EL (E j) q).port)) (hr : IRow W r (E j).length rc (fun q => Pl.roleAt (x j) (Pl.offs (E j) x) (EL (E j) q))) (hn : 0 < (E j).length → (∀ b off, p = some ⟨b, off, none⟩ → v.ownBlock ≠ some b) ∧ (∀ b off, r = some ⟨b, off, none⟩ → v.ownBlock ≠ some b)) :
  ∃ v' w2, (Builtin.append_ #[30, 30] 30 #[v, .slice (some ⟨W.heap.size, 0, none⟩) 1 1]).run Tryz.prog (W.alloc (.cells #[.int .u64 (x j).v.root, .int .i64 (x j).v.cost, .int .u64 (x j).v.bridge, .int .i64 (x j).v.port, .int .i64 (x j).rp, .slice p (E j).length pc, .slice r (E j).length rc] 50)) = .ok v' w2 ∧ OutW Wc w2 v' x E (j + 1) := by
 obtain ⟨C, hC⟩ : ∃ C, C = W.alloc (.cells #[.int .u64 (x j).v.root, .int .i64 (x j).v.cost, .int .u64 (x j).v.bridge, .int .i64 (x j).v.port, .int .i64 (x j).rp, .slice p (E j).length pc, .slice r (E j).length rc] 50) := ⟨_, rfl⟩
 have hCB : Below W.heap.size W C := by rw [hC]; exact below_alloc1 _ _
 have hCs : C.heap.size = W.heap.size + 1 := by rw [hC]; simp
 have hCl : C.heap[W.heap.size]? = some (.cells #[.int .u64 (x j).v.root, .int .i64 (x j).v.cost, .int .u64 (x j).v.bridge, .int .i64 (x j).v.port, .int .i64 (x j).rp, .slice p (E j).length pc, .slice r (E j).length rc] 50 (0, 0)) := by rw [hC]; exact heap_alloc_last _ _
 obtain ⟨g1, c, g2, g3⟩ := h.below hCB
 obtain ⟨a1, c1, w2, run, ho, hg, hb2, hw⟩ := append_at C 30 50 _ 7 88 Tryz.underlying30 infoPl rfl (by omega) Wc.heap.size v j c g2 ⟨W.heap.size, 0, none⟩ 1 1 (fun _ => plC (x j) (.slice p (E j).length pc) (.slice r (E j).length rc)) (fun _ q => plC_one _ rfl rfl q) (one_pl hCl (fun q hq => by
  rcases (by omega : q = 0 ∨ q = 1 ∨ q = 2 ∨ q = 3 ∨ q = 4 ∨ q = 5 ∨ q = 6) with e | e | e | e | e | e | e <;> subst e <;> rfl)) (by unfold maxLen; omega) (by omega) g1.size
 have hnew : ∀ {ao : Option Addr} {m cap : Nat} {f : Nat → Int}, IRow C ao m cap f → 0 < m → (∀ b off, ao = some ⟨b, off, none⟩ → v.ownBlock ≠ some b) → ∀ b off, ao = some ⟨b, off, none⟩ → (Value.slice a1 (j + 1) c1).ownBlock ≠ some b := fun hr hm hne b off e z => by
  obtain ⟨b', off', e', hlt, _⟩ := hr.2 hm
  rw [e] at e'
  injection e' with e'
  injection e' with e1 _
  rcases hw with hw | hw
  ·rw [hw] at z; exact hne b off e z
  ·rw [hw] at z; injection z with z; omega
 refine ⟨.slice a1 (j + 1) c1, w2, by rw [← hC]; exact run, g1.trans hb2, fun i => if i < j then c i else plC (x j) (.slice p (E j).length pc) (.slice r (E j).length rc), ?_, fun i hi => ?_⟩
 ·rw [cellsL_congr (j + 1) 7 _ (fun i => if i < j then c i else plC (x j) (.slice p (E j).length pc) (.slice r (E j).length rc)) (fun i _ => by unfold catC; split <;> rfl)] at ho
  exact ho
 ·by_cases e : i < j
  ·obtain ⟨a, p', r', pc', rc', e5, e6, ⟨r5, r6⟩, n5⟩ := g3 i e
   refine ⟨fun q hq => (congrFun (if_pos e) q).trans (a q hq), p', r', pc', rc', (congrFun (if_pos e) 5).trans e5, (congrFun (if_pos e) 6).trans e6, ⟨crow_kept r5 hg (fun hm => (n5 hm).1), crow_kept r6 hg (fun hm => (n5 hm).2)⟩, fun hm => ⟨hnew r5 hm (n5 hm).1, hnew r6 hm (n5 hm).2⟩⟩
  ·obtain rfl : i = j := by omega
   refine ⟨fun q hq => (congrFun (if_neg e) q).trans (by unfold plC; rw [if_pos hq]), p, r, pc, rc, (congrFun (if_neg e) 5).trans rfl, (congrFun (if_neg e) 6).trans rfl, ⟨crow_kept (CRow.below hp hCB) hg (fun hm => (hn hm).1), crow_kept (CRow.below hr hCB) hg (fun hm => (hn hm).2)⟩, fun hm => ⟨hnew (CRow.below hp hCB) hm (hn hm).1, hnew (CRow.below hr hCB) hm (hn hm).2⟩⟩
end
theorem OutW.fin {Wc W : World} {v : Value} {x : Nat → St} {E : Nat → List En} {j : Nat} (h : OutW Wc W v x E j) : ∃ ao cap, v = .slice ao j cap ∧ RplAt W ao j cap x E ∧ NilOk ao j cap := by
 obtain ⟨_, c, h2, h3⟩ := h
 obtain ⟨ao, cap, e, hr, hn, _⟩ := owns_c (by omega) h2
 refine ⟨ao, cap, e, ⟨c, hr, fun i hi => ?_⟩, hn⟩
 obtain ⟨a, p, r, pc, rc, e5, e6, ⟨r5, r6⟩, _⟩ := h3 i hi
 exact ⟨a, p, r, pc, rc, e5, e6, r5, r6⟩
section
variable {n : Net} {x : Nat → St}
theorem roffs_offL (n : Net) (x : Nat → St) (i : Nat) : roffs (fun j => n.ls (LN n.lvs j)) i (mdS x) n.lvs.length = Pl.offL n.ls (LN n.lvs) n.lvs.length i x := rfl
theorem pts_len (R : Pl.RightL n.K n.L n.ls) (i : Nat) : (Pl.ptsAll n.ls n.L i 30).length = (n.ends i).length := by
 rw [Pl.ports_same R n.live i, List.length_map]
 rfl
theorem EL_mem {l : List En} {q : Nat} (h : q < l.length) : EL l q ∈ l := by
 unfold EL
 rw [List.getD_eq_getElem?_getD, List.getElem?_eq_getElem h]
 exact List.getElem_mem h
theorem pts_at (R : Pl.RightL n.K n.L n.ls) (i : Nat) {q : Nat} (hq : q < (n.ends i).length) : IL (Pl.ptsAll n.ls n.L i 30) q = (EL (n.ends i) q).port := by
 rw [Pl.ports_same R n.live i]
 have hq' : q < (Pl.ends n.ls n.live n.L i).length := hq
 simp only [IL, EL, List.getD_eq_getElem?_getD, List.getElem?_map, Pl.Net.ends, List.getElem?_eq_getElem hq']
 rfl
theorem roles_at (R : Pl.RightL n.K n.L n.ls) {i : Nat} {q : Nat} (hq : q < (n.ends i).length) :
  IL ((Pl.ptsAll n.ls n.L i 30).map (rrole (fun j => n.ls (LN n.lvs j)) n.lvs.length i (fun p => Vc.role (x i).v (x i).rp p (Pl.lf (Pl.offL n.ls (LN n.lvs) n.lvs.length i x)) (Pl.offL n.ls (LN n.lvs) n.lvs.length i x).length))) q = Pl.roleAt (x i) (Pl.offs (n.ends i) x) (EL (n.ends i) q) := by
 have hl : q < (Pl.ptsAll n.ls n.L i 30).length := by rw [pts_len R]; exact hq
 have h1 := pts_at R i hq
 have h2 : Pl.roleR n.ls (LN n.lvs) n.lvs.length i (x i) (Pl.offL n.ls (LN n.lvs) n.lvs.length i x) (EL (n.ends i) q).port = Pl.roleAt (x i) (Pl.offs (n.ends i) x) (EL (n.ends i) q) := Pl.role_same R n.lives (i := i) x (EL_mem hq)
 rw [← h1] at h2
 have h3 : IL ((Pl.ptsAll n.ls n.L i 30).map (rrole (fun j => n.ls (LN n.lvs j)) n.lvs.length i (fun p => Vc.role (x i).v (x i).rp p (Pl.lf (Pl.offL n.ls (LN n.lvs) n.lvs.length i x)) (Pl.offL n.ls (LN n.lvs) n.lvs.length i x).length))) q = rrole (fun j => n.ls (LN n.lvs j)) n.lvs.length i (fun p => Vc.role (x i).v (x i).rp p (Pl.lf (Pl.offL n.ls (LN n.lvs) n.lvs.length i x)) (Pl.offL n.ls (LN n.lvs) n.lvs.length i x).length) (IL (Pl.ptsAll n.ls n.L i 30) q) := by
  simp only [IL, List.getD_eq_getElem?_getD, List.getElem?_map, List.getElem?_eq_getElem hl]
  rfl
 rw [h3]
 exact h2
end
end
end Go.Proofs.YtcbpafpaimpfnaaGreatDoor
