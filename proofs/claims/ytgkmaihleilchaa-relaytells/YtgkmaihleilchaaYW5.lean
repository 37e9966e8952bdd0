/- walks: bytes.Clone (what it answers is the call's own); the sender's closure -/
import Derived.Test.YtgkmaihleilchaaYW4
import Derived.Test.YtgkmaihleilchaaLC
import Derived.Test.YtgkmaihleilchaaFA
namespace Go.Proofs.Ytgkmaihleilchaa
open Go.RowKit
open Bk (E at')
open Rl (G gat F)

theorem owns_bytes_nil (w : World) (base : Nat) (bs : Nat → Int) : w.ownsRow base 5 1 (.slice none 0 0) 0 (bytesL 0 bs) := ⟨by simp [bytesL], Or.inl ⟨rfl, rfl⟩⟩
set_option maxHeartbeats 400000 in
theorem nclone_own (ao : Option Addr) (n c : Nat) (bs : Nat → Int) (w : World) (hr : ByteRow w ao n c bs) (hnil : ao = none → n = 0 ∧ c = 0) (hn : n ≤ 140737488355328) :
    Calls Try.prog 62 #[.slice ao n c] w fun e w' => ∃ v, e = .returned v ∧ w'.ownsRow w.heap.size 5 1 v n (bytesL n bs) ∧ Below w.heap.size w w' := by
  have HR : Hid (ByteRow w ao n c bs) := hr
  clear hr
  cases ao with
  | none =>
    obtain ⟨rfl, rfl⟩ := hnil rfl
    have he : ∀ w : World, (binOp .eql 28 (.slice none 0 0) (.slice none 0 0)).run Try.prog w = .ok (.bool true) w := fun _ => by kernel_rfl
    go_enter Try.func62, Try.ntmps62
    go_wp2_with fail
    go_ret
    exact ⟨_, rfl, owns_bytes_nil _ _ _, Below.refl _ _⟩
  | some ad =>
    clear hnil
    have HR1 : Hid (ByteRow (w.alloc (.cells #[] 5)) (some ad) n c bs) := HR.out.below (below_alloc1 w _)
    have HO : Hid ((w.alloc (.cells #[] 5)).ownsRow w.heap.size 5 1 (.slice (some ⟨w.heap.size, 0, none⟩) 0 0) 0 []) := owns_empty w
    have he : ∀ w : World, (binOp .eql 28 (.slice (some ad) n c) (.slice none 0 0)).run Try.prog w = .ok (.bool false) w := fun _ => by kernel_rfl
    go_enter Try.func62, Try.ntmps62
    go_wp2_with (at_builtin; refine wpList_append_bytes rfl (.tmp 5) (.tmp 6) rfl w.heap.size _ 0 [] rfl HO.out (some ad) n c bs rfl HR1.out (fun e => by cases e) (by omega) (by simp) ?_; intro v1 w1 h1 h2; have HG : Hid (Below w.heap.size w w1) := grown_own (below_alloc1 w _) HO.out (by simp) h2; clear h2; rw [Nat.zero_add, List.nil_append] at h1; have H1 : Hid (w1.ownsRow w.heap.size 5 1 v1 n (bytesL n bs)) := h1; clear h1)
    go_ret
    exact ⟨v1, rfl, H1.out, HG.out⟩
/-- Eight cells of a block are stored. -/
theorem fr_set8 {w : World} {g : Nat} {a0 a1 a2 a3 a4 a5 a6 a7 v0 v1 v2 v3 v4 v5 v6 v7 : Value} {ty : TypeId} (h : w.heap[g]? = some (.cells #[a0, a1, a2, a3, a4, a5, a6, a7] ty (0, 0))) :
    ((((((((w.setCell ⟨g, 0, none⟩ v0).setCell ⟨g, 1, none⟩ v1).setCell ⟨g, 2, none⟩ v2).setCell ⟨g, 3, none⟩ v3).setCell ⟨g, 4, none⟩ v4).setCell ⟨g, 5, none⟩ v5).setCell ⟨g, 6, none⟩ v6).setCell ⟨g, 7, none⟩ v7).heap[g]? = some (.cells #[v0, v1, v2, v3, v4, v5, v6, v7] ty (0, 0)) := by
  have h0 : (w.setCell ⟨g, 0, none⟩ v0).heap[g]? = some (.cells #[v0, a1, a2, a3, a4, a5, a6, a7] ty (0, 0)) := by rw [heap_setCell_same _ _ _ _ _ _ h]; rfl
  have h1 : ((w.setCell ⟨g, 0, none⟩ v0).setCell ⟨g, 1, none⟩ v1).heap[g]? = some (.cells #[v0, v1, a2, a3, a4, a5, a6, a7] ty (0, 0)) := by rw [heap_setCell_same _ _ _ _ _ _ h0]; rfl
  have h2 : (((w.setCell ⟨g, 0, none⟩ v0).setCell ⟨g, 1, none⟩ v1).setCell ⟨g, 2, none⟩ v2).heap[g]? = some (.cells #[v0, v1, v2, a3, a4, a5, a6, a7] ty (0, 0)) := by rw [heap_setCell_same _ _ _ _ _ _ h1]; rfl
  have h3 : ((((w.setCell ⟨g, 0, none⟩ v0).setCell ⟨g, 1, none⟩ v1).setCell ⟨g, 2, none⟩ v2).setCell ⟨g, 3, none⟩ v3).heap[g]? = some (.cells #[v0, v1, v2, v3, a4, a5, a6, a7] ty (0, 0)) := by rw [heap_setCell_same _ _ _ _ _ _ h2]; rfl
  have h4 : (((((w.setCell ⟨g, 0, none⟩ v0).setCell ⟨g, 1, none⟩ v1).setCell ⟨g, 2, none⟩ v2).setCell ⟨g, 3, none⟩ v3).setCell ⟨g, 4, none⟩ v4).heap[g]? = some (.cells #[v0, v1, v2, v3, v4, a5, a6, a7] ty (0, 0)) := by rw [heap_setCell_same _ _ _ _ _ _ h3]; rfl
  have h5 : ((((((w.setCell ⟨g, 0, none⟩ v0).setCell ⟨g, 1, none⟩ v1).setCell ⟨g, 2, none⟩ v2).setCell ⟨g, 3, none⟩ v3).setCell ⟨g, 4, none⟩ v4).setCell ⟨g, 5, none⟩ v5).heap[g]? = some (.cells #[v0, v1, v2, v3, v4, v5, a6, a7] ty (0, 0)) := by rw [heap_setCell_same _ _ _ _ _ _ h4]; rfl
  have h6 : (((((((w.setCell ⟨g, 0, none⟩ v0).setCell ⟨g, 1, none⟩ v1).setCell ⟨g, 2, none⟩ v2).setCell ⟨g, 3, none⟩ v3).setCell ⟨g, 4, none⟩ v4).setCell ⟨g, 5, none⟩ v5).setCell ⟨g, 6, none⟩ v6).heap[g]? = some (.cells #[v0, v1, v2, v3, v4, v5, v6, a7] ty (0, 0)) := by rw [heap_setCell_same _ _ _ _ _ _ h5]; rfl
  rw [heap_setCell_same _ _ _ _ _ _ h6]; rfl
theorem sizeFr : (Try.prog.info? 30).map (·.size) = some 8 := by kernel_rfl
/-- What the sender's closure answers, once it has the data of its own. -/
theorem sent_end (w w1 : World) {ao : Option Addr} {n c : Nat} {bs : Nat → Int} (ho : w1.ownsRow w.heap.size 5 1 (.slice ao n c) n (bytesL n bs)) (g1 g2 : Nat) {c1 c2 : Array Value} (k1 : w1.heap[g1]? = some (.cells c1 30 (0, 0))) (k2 : w1.heap[g2]? = some (.cells c2 30 (0, 0))) (W : World) (hW : ∀ q, q ≠ g1 → q ≠ g2 → W.heap[q]? = w1.heap[q]?) :
    W.ownsRow w.heap.size 5 1 (.slice ao n c) n (bytesL n bs) := by
  refine owns_keep ho (fun q hq => hW q ?_ ?_)
  · rintro rfl
    obtain ⟨cur, h⟩ := owns_type ho hq
    rw [h] at k1
    injection k1 with k1
    injection k1 with _ k1
    exact absurd k1 (by decide)
  · rintro rfl
    obtain ⟨cur, h⟩ := owns_type ho hq
    rw [h] at k2
    injection k2 with k2
    injection k2 with _ k2
    exact absurd k2 (by decide)
set_option maxHeartbeats 2000000 in
theorem sender1_any (f : F) (way : Int) (g : G) (Bt Bw Bp Bf : Nat) (w : World) (hs : Snd w f way Bt Bw Bp Bf) (hd : ByteRow w f.ao f.n f.cap f.bs) (hnil : NilOk f.ao f.n f.cap) (hn : f.n ≤ 1500) :
    Calls Try.prog 61 #[.agg #[.int .i64 g.port, .slice g.wo g.ways.length g.wcap, .int .i64 g.plain, .slice g.oo g.opens.length g.ocap], .pointer (some ⟨Bt, 0, none⟩), .pointer (some ⟨Bw, 0, none⟩), .pointer (some ⟨Bp, 0, none⟩), .pointer (some ⟨Bf, 0, none⟩)] w fun e w' => ∃ a c, e = .returned (.agg #[.int .u64 f.dst, .int .u64 f.src, .bool (Rl.leave f way g).tagged, .int .i64 (Rl.leave f way g).prio, .bool (Rl.leave f way g).drop, .int .i64 (Rl.leave f way g).vid, .int .i64 f.type, .slice a f.n c]) ∧ w'.ownsRow w.heap.size 5 1 (.slice a f.n c) f.n (bytesL f.n f.bs) ∧ Below w.heap.size w w' := by
  obtain ⟨s0, s1, s2, s3, s4, s5, s6, s7⟩ := fr_cells hs.t
  obtain ⟨p0, p1, p2, p3, p4, p5, p6, p7⟩ := fr_cells hs.p
  obtain ⟨_, _, _, _, _, _, _, q7⟩ := fr_cells hs.f
  have cw : w.cell? ⟨Bw, 0, none⟩ = some (.int .i64 way) := cell_of_row w Bw 0 _ _ _ hs.w
  have l1 : Bt < w.heap.size := block_lt_of_cell s0
  have l2 : Bp < w.heap.size := block_lt_of_cell p0
  have l3 : Bf < w.heap.size := block_lt_of_cell q7
  have l4 : Bw < w.heap.size := block_lt_of_cell cw
  have HCL : Hid (∀ A B C : Obj, Calls Try.prog 62 #[.slice f.ao f.n f.cap] (((w.alloc A).alloc B).alloc C) fun e w' => ∃ a c, e = .returned (.slice a f.n c) ∧ Hid (w'.ownsRow w.heap.size 5 1 (.slice a f.n c) f.n (bytesL f.n f.bs) ∧ Below w.heap.size w w') ∧ Hid (w'.heap[w.heap.size + 1]? = some B ∧ w'.heap[w.heap.size + 1 + 1]? = some C)) := fun A B C => by
    obtain ⟨h1, h2, h3, h4⟩ := alloc3 w A B C
    refine (nclone_own f.ao f.n f.cap f.bs _ (hd.below h4) hnil (by omega)).mono ?_
    rintro e w' ⟨v, rfl, ho, hb⟩
    obtain ⟨a, c, rfl, _⟩ := owns_row ho
    exact ⟨a, c, rfl, ⟨owns_mono ho h4.size, h4.trans (hb.mono h4.size)⟩, keep h2 hb, keep h3 hb⟩
  have HFIN : Hid (∀ (w1 : World) (a : Option Addr) (c : Nat) (B1 C1 : Array Value), (w1.ownsRow w.heap.size 5 1 (.slice a f.n c) f.n (bytesL f.n f.bs) ∧ Below w.heap.size w w1) → w1.heap[w.heap.size + 1]? = some (.cells B1 30 (0, 0)) → w1.heap[w.heap.size + 1 + 1]? = some (.cells C1 30 (0, 0)) → ∀ W : World, (∀ q, q ≠ w.heap.size + 1 → q ≠ w.heap.size + 1 + 1 → W.heap[q]? = w1.heap[q]?) → W.ownsRow w.heap.size 5 1 (.slice a f.n c) f.n (bytesL f.n f.bs)) := fun w1 a c B1 C1 h1 k1 k2 W hW => sent_end w w1 h1.1 _ _ k1 k2 W hW
  have HLV : Hid (g.plain = way → Rl.leave f way g = ⟨g.port, false, 0, false, 0⟩) := fun h => if_pos h
  have HLN : Hid (g.plain ≠ way → Rl.leave f way g = ⟨g.port, true, if f.tagged = true then f.prio else 0, f.tagged && f.drop, way⟩) := fun h => if_neg h
  clear hs hd hnil
  have m4 : Bw < w.heap.size + 1 + 1 := by omega
  have m3 : Bf < w.heap.size + 1 + 1 := by omega
  have m2 : Bp < w.heap.size + 1 + 1 := by omega
  have n4 : Bw ≠ w.heap.size + 1 + 1 := by omega
  have n3 : Bf ≠ w.heap.size + 1 + 1 := by omega
  have n2 : Bp ≠ w.heap.size + 1 + 1 := by omega
  generalize (if f.tagged = true then f.prio else 0) = pr at *
  generalize (f.tagged && f.drop) = dr at *
  by_cases hp : g.plain = way
  · have e1 : (g.plain == way) = true := by simp [hp]
    rw [HLV.out hp]
    clear HLV HLN hp
    go_enter Try.func61, Try.ntmps61
    go_wp2_with fail
    refine (HCL.out _ _ _).mono ?_
    rintro e w1 ⟨a, c, rfl, H1, H2⟩
    obtain ⟨B1, HB1⟩ : ∃ B1, Hid (B1 = w.heap.size + 1) := ⟨_, rfl⟩
    obtain ⟨B2, HB2⟩ : ∃ B2, Hid (B2 = w.heap.size + 1 + 1) := ⟨_, rfl⟩
    have hne : B1 ≠ B2 := by have := HB1.out; have := HB2.out; omega
    have h2 := H2.out
    have hf := HFIN.out w1 a c _ _ H1.out h2.1 h2.2
    rw [← HB2.out, ← HB1.out] at h2 hf
    have HF : Hid (∀ W : World, (∀ q, q ≠ B1 → q ≠ B2 → W.heap[q]? = w1.heap[q]?) → W.ownsRow w.heap.size 5 1 (.slice a f.n c) f.n (bytesL f.n f.bs)) := hf
    have HK : Hid (w.heap.size ≤ B1 ∧ w.heap.size ≤ B2) := by have := HB1.out; have := HB2.out; exact ⟨by omega, by omega⟩
    obtain ⟨o0, o1, o2, o3, o4, o5, o6, o7⟩ := fr_cells h2.2
    obtain ⟨z0, z1, z2, z3, z4, z5, z6, z7⟩ := fr_free h2.2
    obtain ⟨r0, r1, r2, r3, r4, r5, r6, r7⟩ := fr_cells h2.1
    obtain ⟨y0, y1, y2, y3, y4, y5, y6, y7⟩ := fr_free h2.1
    have H3 : Hid (w1.heap[B1]? = some (.cells #[.int .u64 0, .int .u64 0, .bool false, .int .i64 0, .bool false, .int .i64 0, .int .i64 0, .slice none 0 0] 30 (0, 0))) := h2.1
    clear s0 s1 s2 s3 s4 s5 s6 s7 p0 p1 p2 p3 p4 p5 p6 p7 q7 cw l1 l2 l3 l4 HCL m2 m3 m4 n2 n3 n4 H2 h2 hf HFIN
    rw [← HB2.out, ← HB1.out]
    clear HB1 HB2
    go_wp2_with fail
    refine bodyPost_ret (v := .agg #[.int .u64 f.dst, .int .u64 f.src, .bool false, .int .i64 0, .bool false, .int .i64 0, .int .i64 f.type, .slice a f.n c]) (results_row (p := 6) (ty := 30) Try.results61 _ _ B1 30 #[.int .u64 f.dst, .int .u64 f.src, .bool false, .int .i64 0, .bool false, .int .i64 0, .int .i64 f.type, .slice a f.n c] (0, 0) _ rfl (fr_set8 (by rw [heap_setCell_other _ _ _ _ (by exact hne)]; exact H3.out)) Try.underlying30 rfl (by rw [sizeFr]; rfl)) rfl ⟨a, c, rfl, HF.out _ (fun q n1 n2 => ?_), ?_⟩
    · rw [heap_setCell_other _ _ _ _ (by exact n1), heap_setCell_other _ _ _ _ (by exact n1), heap_setCell_other _ _ _ _ (by exact n1), heap_setCell_other _ _ _ _ (by exact n1), heap_setCell_other _ _ _ _ (by exact n1), heap_setCell_other _ _ _ _ (by exact n1), heap_setCell_other _ _ _ _ (by exact n1), heap_setCell_other _ _ _ _ (by exact n1), heap_setCell_other _ _ _ _ (by exact n2)]
    · exact ((((((((H1.out.2.setCell HK.out.2 _).setCell HK.out.1 _).setCell HK.out.1 _).setCell HK.out.1 _).setCell HK.out.1 _).setCell HK.out.1 _).setCell HK.out.1 _).setCell HK.out.1 _).setCell HK.out.1 _
  · have e1 : (g.plain == way) = false := by simpa using hp
    rw [HLN.out hp]
    clear HLV HLN hp
    go_enter Try.func61, Try.ntmps61
    go_wp2_with fail
    refine (HCL.out _ _ _).mono ?_
    rintro e w1 ⟨a, c, rfl, H1, H2⟩
    obtain ⟨B1, HB1⟩ : ∃ B1, Hid (B1 = w.heap.size + 1) := ⟨_, rfl⟩
    obtain ⟨B2, HB2⟩ : ∃ B2, Hid (B2 = w.heap.size + 1 + 1) := ⟨_, rfl⟩
    have hne : B1 ≠ B2 := by have := HB1.out; have := HB2.out; omega
    have h2 := H2.out
    have hf := HFIN.out w1 a c _ _ H1.out h2.1 h2.2
    rw [← HB2.out, ← HB1.out] at h2 hf
    have HF : Hid (∀ W : World, (∀ q, q ≠ B1 → q ≠ B2 → W.heap[q]? = w1.heap[q]?) → W.ownsRow w.heap.size 5 1 (.slice a f.n c) f.n (bytesL f.n f.bs)) := hf
    have HK : Hid (w.heap.size ≤ B1 ∧ w.heap.size ≤ B2) := by have := HB1.out; have := HB2.out; exact ⟨by omega, by omega⟩
    obtain ⟨o0, o1, o2, o3, o4, o5, o6, o7⟩ := fr_cells h2.2
    obtain ⟨z0, z1, z2, z3, z4, z5, z6, z7⟩ := fr_free h2.2
    obtain ⟨r0, r1, r2, r3, r4, r5, r6, r7⟩ := fr_cells h2.1
    obtain ⟨y0, y1, y2, y3, y4, y5, y6, y7⟩ := fr_free h2.1
    have H3 : Hid (w1.heap[B1]? = some (.cells #[.int .u64 0, .int .u64 0, .bool false, .int .i64 0, .bool false, .int .i64 0, .int .i64 0, .slice none 0 0] 30 (0, 0))) := h2.1
    clear s0 s1 s2 s3 s4 s5 s6 s7 p0 p1 p2 p3 p4 p5 p6 p7 q7 cw l1 l2 l3 l4 HCL m2 m3 m4 n2 n3 n4 H2 h2 hf HFIN
    rw [← HB2.out, ← HB1.out]
    clear HB1 HB2
    go_wp2_with fail
    refine bodyPost_ret (v := .agg #[.int .u64 f.dst, .int .u64 f.src, .bool true, .int .i64 pr, .bool dr, .int .i64 way, .int .i64 f.type, .slice a f.n c]) (results_row (p := 6) (ty := 30) Try.results61 _ _ B1 30 #[.int .u64 f.dst, .int .u64 f.src, .bool true, .int .i64 pr, .bool dr, .int .i64 way, .int .i64 f.type, .slice a f.n c] (0, 0) _ rfl (fr_set8 (by rw [heap_setCell_other _ _ _ _ (by exact hne)]; exact H3.out)) Try.underlying30 rfl (by rw [sizeFr]; rfl)) rfl ⟨a, c, rfl, HF.out _ (fun q n1 n2 => ?_), ?_⟩
    · rw [heap_setCell_other _ _ _ _ (by exact n1), heap_setCell_other _ _ _ _ (by exact n1), heap_setCell_other _ _ _ _ (by exact n1), heap_setCell_other _ _ _ _ (by exact n1), heap_setCell_other _ _ _ _ (by exact n1), heap_setCell_other _ _ _ _ (by exact n1), heap_setCell_other _ _ _ _ (by exact n1), heap_setCell_other _ _ _ _ (by exact n1), heap_setCell_other _ _ _ _ (by exact n2)]
    · exact ((((((((H1.out.2.setCell HK.out.2 _).setCell HK.out.1 _).setCell HK.out.1 _).setCell HK.out.1 _).setCell HK.out.1 _).setCell HK.out.1 _).setCell HK.out.1 _).setCell HK.out.1 _).setCell HK.out.1 _
end Go.Proofs.Ytgkmaihleilchaa
