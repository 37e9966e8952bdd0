/- What the laws of relay share: the region and the frame in their boxes; what they call -/
import Derived.Test.YtgkmaihleilchaaYL1
import Derived.Test.YtgkmaihleilchaaYM2
namespace Go.Proofs.Ytgkmaihleilchaa
open Go.RowKit
open Bk (E at')
open Rl (G gat F O R)

/-- The region and the frame in their boxes; all else that came in. -/
structure Cx (W0 w : World) (r : R) (ao : Option Addr) (cap : Nat) (l : List G) (bo : Option Addr) (bcap : Nat) (b : List E) (f : F) : Prop where
  low : ∀ W, Below W0.heap.size W0 W → Below w.heap.size w W
  reg : ∀ W, Below W0.heap.size W0 W → (W.cell? ⟨w.heap.size, 0, none⟩ = some (.string r.name) ∧ W.cell? ⟨w.heap.size, 1, none⟩ = some (.int .i64 r.rev) ∧ W.cell? ⟨w.heap.size, 2, none⟩ = some (.slice r.ao r.n r.cap))
  frm : ∀ W, Below W0.heap.size W0 W → (W.cell? ⟨w.heap.size + 1, 0, none⟩ = some (.int .u64 f.dst) ∧ W.cell? ⟨w.heap.size + 1, 1, none⟩ = some (.int .u64 f.src) ∧ W.cell? ⟨w.heap.size + 1, 2, none⟩ = some (.bool f.tagged) ∧ W.cell? ⟨w.heap.size + 1, 3, none⟩ = some (.int .i64 f.prio) ∧ W.cell? ⟨w.heap.size + 1, 4, none⟩ = some (.bool f.drop) ∧ W.cell? ⟨w.heap.size + 1, 5, none⟩ = some (.int .i64 f.vid) ∧ W.cell? ⟨w.heap.size + 1, 6, none⟩ = some (.int .i64 f.type) ∧ W.cell? ⟨w.heap.size + 1, 7, none⟩ = some (.slice f.ao f.n f.cap))
  inn : ∀ W, Below W0.heap.size W0 W → RelIn W r ao cap l bo bcap b f
theorem cx_of {w : World} {r : R} {ao : Option Addr} {cap : Nat} {l : List G} {bo : Option Addr} {bcap : Nat} {b : List E} {f : F} (h : RelIn w r ao cap l bo bcap b f) : Cx ((w.alloc (.cells #[.string r.name, .int .i64 r.rev, .slice r.ao r.n r.cap] 24)).alloc (.cells #[.int .u64 f.dst, .int .u64 f.src, .bool f.tagged, .int .i64 f.prio, .bool f.drop, .int .i64 f.vid, .int .i64 f.type, .slice f.ao f.n f.cap] 30)) w r ao cap l bo bcap b f := by
  have hb := below_alloc2 w (.cells #[.string r.name, .int .i64 r.rev, .slice r.ao r.n r.cap] 24) (.cells #[.int .u64 f.dst, .int .u64 f.src, .bool f.tagged, .int .i64 f.prio, .bool f.drop, .int .i64 f.vid, .int .i64 f.type, .slice f.ao f.n f.cap] 30)
  exact ⟨fun W hW => below_up hb hW, fun W hW => rg_cells (keep (heap_alloc2_old _ _ _) hW), fun W hW => fr_cells (keep (heap_alloc2_new _ _ _) hW), fun W hW => (h.below hb).below hW⟩
section
variable {W0 w : World} {r : R} {ao : Option Addr} {cap : Nat} {l : List G} {bo : Option Addr} {bcap : Nat} {b : List E} {f : F}
theorem Cx.relay (h : Cx W0 w r ao cap l bo bcap b f) (p : Int) (W : World) (hW : Below W0.heap.size W0 W) :
    Calls Try.prog 11 #[.agg #[.string r.name, .int .i64 r.rev, .slice r.ao r.n r.cap], .slice ao l.length cap, .slice bo b.length bcap, .int .i64 p, .agg #[.int .u64 f.dst, .int .u64 f.src, .bool f.tagged, .int .i64 f.prio, .bool f.drop, .int .i64 f.vid, .int .i64 f.type, .slice f.ao f.n f.cap]] W fun e w' => ∃ oo oc os bo' bc', e = .returned (.tuple #[.slice oo os.length oc, .slice bo' (Rl.relay r l b p f).book.length bc', .int .i64 (Rl.relay r l b p f).err]) ∧ Hid (RelOut W w' f (Rl.relay r l b p f) oo oc os bo' bc') ∧ Hid (Below W0.heap.size W0 w') := by
  refine (relay_any r ao cap l bo bcap b p f W (h.inn W hW)).mono ?_
  rintro e w' ⟨oo, oc, os, bo', bc', rfl, ho⟩
  exact ⟨oo, oc, os, bo', bc', rfl, ho, below_up hW ho.low⟩
theorem Cx.alive (_ : Cx W0 w r ao cap l bo bcap b f) (W : World) (hW : Below W0.heap.size W0 W) : Calls Try.prog 15 #[] W fun e w' => e = .returned (.bool true) ∧ Hid (Below W0.heap.size W0 w') :=
  (alive9_any W).mono (fun _ _ h => ⟨h.1, below_up hW h.2.out⟩)
theorem Cx.at (h : Cx W0 w r ao cap l bo bcap b f) (q : Int) (W : World) (hW : Below W0.heap.size W0 W) :
    Calls Try.prog 16 #[.slice ao l.length cap, .int .i64 q] W fun e w' => e = .returned (.agg #[.int .i64 (Rl.atG l q).port, .slice (Rl.atG l q).wo (Rl.atG l q).ways.length (Rl.atG l q).wcap, .int .i64 (Rl.atG l q).plain, .slice (Rl.atG l q).oo (Rl.atG l q).opens.length (Rl.atG l q).ocap]) ∧ Hid (Below W0.heap.size W0 w') :=
  (at9_any ao cap l q W (h.inn W hW).gates).mono (fun _ _ h => ⟨h.1, below_up hW h.2⟩)
theorem Cx.way (_ : Cx W0 w r ao cap l bo bcap b f) (p : Int) (W : World) (hW : Below W0.heap.size W0 W) :
    Calls Try.prog 17 #[.agg #[.int .i64 (Rl.atG l p).port, .slice (Rl.atG l p).wo (Rl.atG l p).ways.length (Rl.atG l p).wcap, .int .i64 (Rl.atG l p).plain, .slice (Rl.atG l p).oo (Rl.atG l p).opens.length (Rl.atG l p).ocap], .agg #[.int .u64 f.dst, .int .u64 f.src, .bool f.tagged, .int .i64 f.prio, .bool f.drop, .int .i64 f.vid, .int .i64 f.type, .slice f.ao f.n f.cap]] W fun e w' => e = .returned (.int .i64 (Rl.vid l p f)) ∧ Hid (Below W0.heap.size W0 w') :=
  (way9_any f (Rl.atG l p) W).mono (fun _ _ h => ⟨h.1, below_up hW h.2⟩)
theorem Cx.passes (h : Cx W0 w r ao cap l bo bcap b f) (hR : Rg.Right r.vs r.ts r.n) (g : G) (v : Int) (W : World) (hW : Below W0.heap.size W0 W) (hg : GIn W g) :
    Calls Try.prog 18 #[.agg #[.int .i64 g.port, .slice g.wo g.ways.length g.wcap, .int .i64 g.plain, .slice g.oo g.opens.length g.ocap], .agg #[.string r.name, .int .i64 r.rev, .slice r.ao r.n r.cap], .int .i64 v] W fun e w' => e = .returned (.bool (Rl.passes g (r.tree v) v)) ∧ Hid (Below W0.heap.size W0 w') :=
  (passes8_any g r v W hg hR (h.inn W hW).ways).mono (fun _ _ h => ⟨h.1, below_up hW h.2⟩)
end
theorem ou_cells {w : World} {g : Nat} {a0 a1 a2 a3 a4 a5 a6 a7 a8 : Value} {ty : TypeId} (h : w.heap[g]? = some (.cells #[a0, a1, a2, a3, a4, a5, a6, a7, a8] ty (0, 0))) :
    w.cell? ⟨g, 0, none⟩ = some a0 ∧ w.cell? ⟨g, 1, none⟩ = some a1 ∧ w.cell? ⟨g, 2, none⟩ = some a2 ∧ w.cell? ⟨g, 3, none⟩ = some a3 ∧ w.cell? ⟨g, 4, none⟩ = some a4 ∧ w.cell? ⟨g, 5, none⟩ = some a5 ∧ w.cell? ⟨g, 6, none⟩ = some a6 ∧ w.cell? ⟨g, 7, none⟩ = some a7 ∧ w.cell? ⟨g, 8, none⟩ = some a8 :=
  ⟨cell_of_row w g 0 _ _ _ h, cell_of_row w g 1 _ _ _ h, cell_of_row w g 2 _ _ _ h, cell_of_row w g 3 _ _ _ h, cell_of_row w g 4 _ _ _ h, cell_of_row w g 5 _ _ _ h, cell_of_row w g 6 _ _ _ h, cell_of_row w g 7 _ _ _ h, cell_of_row w g 8 _ _ _ h⟩
theorem os_mem {os : List OV} {out : List O} (h : os.map OV.o = out) {i : Nat} (hi : i < os.length) : (oat os i).o ∈ out := by
  rw [← h]
  exact List.mem_map_of_mem (oat_mem os i hi)
theorem os_less {os : List OV} {out : List O} (h : os.map OV.o = out) (ho : out.Pairwise (fun a c => a.port < c.port)) {i j : Nat} (hij : i < j) (hj : j < os.length) : (oat os i).o.port < (oat os j).o.port := by
  rw [← h, List.pairwise_map, List.pairwise_iff_getElem] at ho
  have := ho i j (by omega) hj hij
  rwa [oat_get os i (by omega), oat_get os j hj]
end Go.Proofs.Ytgkmaihleilchaa
