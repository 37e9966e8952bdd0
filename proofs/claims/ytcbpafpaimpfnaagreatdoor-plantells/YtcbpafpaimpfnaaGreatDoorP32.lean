/- The document's Plan: a region that draws its order and holds calls (written by tools/gen_pqz.py) -/
import Derived.Test.YtcbpafpaimpfnaaGreatDoorP02
import Derived.Test.YtcbpafpaimpfnaaGreatDoorP31
import Derived.Test.YtcbpafpaimpfnaaGreatDoorP18
import Derived.Deep.RegionHeld3
namespace Go.Proofs.YtcbpafpaimpfnaaGreatDoor
section
open Go.RowKit
section
variable {P : Program} {ops : Array Oper} {Q : Exit → Act → World → Prop} {md : Region.Mode} {z : Nat} {C : World → Prop}
def wpAnyZ (P : Program) (md : Region.Mode) (ops : Array Oper) (Q : Exit → Act → World → Prop) (z : Nat) (C : World → Prop) : Nat → Array Bool → Act → World → Prop
 | 0, listed, a, w => Region.ready md ops listed = [] ∧ Q .normal a w
 | fuel + 1, listed, a, w =>
  (Region.ready md ops listed = [] → Q .normal a w) ∧
  ∀ i ∈ Region.ready md ops listed, wpOp P ops Q i (fun a' w' => ((listed.setIfInBounds i true).getD z true = true ∨ C w') ∧ wpAnyZ P md ops Q z C fuel (listed.setIfInBounds i true) a' w') a w
theorem wpAny_of_z : ∀ (fuel : Nat) (listed : Array Bool) (a : Act) (w : World), wpAnyZ P md ops Q z C fuel listed a w → wpAny P md ops Q fuel listed a w
 | 0, _, _, _, h => h
 | fuel + 1, _, _, _, h => ⟨h.1, fun i hi => wpOp_mono (fun a' w' h' => wpAny_of_z fuel _ a' w' h'.2) (h.2 i hi)⟩
def zwait (md : Region.Mode) (ops : Array Oper) (i : Nat) (D : List Nat) (j : Nat) : Bool :=
 match ops[j]? with
 | some o => o.after.any (fun e => Region.binds md e && (e.on == i || D.contains e.on))
 | none => false
def zdesc (md : Region.Mode) (ops : Array Oper) (i : Nat) : Nat → List Nat
 | 0 => []
 | n + 1 => (List.range ops.size).filter (zwait md ops i (zdesc md ops i n))
def zok (md : Region.Mode) (ops : Array Oper) (listed : Array Bool) (z i : Nat) : Bool :=
 i != z && (zdesc md ops i ops.size).contains z && (zdesc md ops i ops.size).all (fun d => zwait md ops i (zdesc md ops i ops.size) d && !listed.getD d true)
theorem zunlisted {listed : Array Bool} {i : Nat} (h0 : listed.getD i true = false) : listed.getD i false = false := by
 rcases Nat.lt_or_ge i listed.size with h' | h'
 ·simp [h'] at h0 ⊢; exact h0
 ·simp [Array.getElem?_eq_none h'] at h0
theorem wpAnyZ_first {i : Nat} {oi : Oper} {v : Value} (hi : ops[i]? = some oi) (hsel : ∀ (j : Nat) (o : Oper) cs b, ops[j]? = some o → o.op ≠ .select cs b)
  (hQ : ∀ c a w, Q (.panic c) (a.put oi.dst v) w → Q (.panic c) a w) {D : List Nat} (hiz : i ≠ z) (hzD : z ∈ D) (hcl : ∀ d, d ∈ D → zwait md ops i D d = true) :
  ∀ (fuel : Nat) (listed : Array Bool) (a : Act) (w : World),
   (∀ j oj, ops[j]? = some oj → j ≠ i → listed.getD j true = false → (∀ e ∈ oj.after, Region.binds md e = true → e.on ≠ i) → oi.apart ops oj = true) →
   (∀ d, d ∈ D → listed.getD d true = false) → i ∈ Region.ready md ops listed → YieldsIf P ops C oi v a → C w →
   wpAnyZ P md ops Q z C fuel (listed.setIfInBounds i true) (a.put oi.dst v) w → wpAnyZ P md ops Q z C (fuel + 1) listed a w := by
 intro fuel
 induction fuel with
 | zero =>
  intro listed a w _ _ hr hy hS H
  refine ⟨fun h => (by rw [h] at hr; cases hr), fun j hj => ?_⟩
  by_cases hji : j = i
  ·subst hji; exact hy.wpOp hi hS ⟨Or.inr hS, H⟩
  ·have := ready_mono hj hji
   rw [H.1] at this
   cases this
 | succ fuel ih =>
  intro listed a w hfree hun hr hy hS H
  refine ⟨fun h => (by rw [h] at hr; cases hr), fun j hj => ?_⟩
  by_cases hji : j = i
  ·subst hji; exact hy.wpOp hi hS ⟨Or.inr hS, H⟩
  ·have h1 := H.2 j (ready_mono hj hji)
   obtain ⟨hjun, oj, hoj, hall⟩ := mem_ready.1 hj
   have h0 := zunlisted (mem_ready.1 hr).1
   have hnot : ∀ e ∈ oj.after, Region.binds md e = true → e.on ≠ i := fun e he hb heq => by
    have h1 := hall e he hb
    rw [heq, h0] at h1
    cases h1
   have hjD : j ∉ D := fun hm => by
    have hw := hcl j hm
    unfold zwait at hw
    rw [hoj] at hw
    simp only [Array.any_eq_true, Bool.and_eq_true, Bool.or_eq_true, beq_iff_eq, List.contains_iff_mem] at hw
    obtain ⟨x, hx, hb, he⟩ := hw
    have h1 := hall _ (Array.getElem_mem hx) hb
    rcases he with he | he
    ·rw [he, h0] at h1; cases h1
    ·rw [zunlisted (hun _ he)] at h1; cases h1
   have hjz : j ≠ z := fun e => hjD (e ▸ hzD)
   have h2 := wpOp_putIf hoj (hfree j oj hoj hji hjun hnot) (fun cs b => hsel i oi cs b hi) (fun cs b => hsel j oj cs b hoj) hQ hy h1
   have hfree' : ∀ k ok, ops[k]? = some ok → k ≠ i → (listed.setIfInBounds j true).getD k true = false →
     (∀ e ∈ ok.after, Region.binds md e = true → e.on ≠ i) → oi.apart ops ok = true := fun k ok hk hki hun hno => by
    refine hfree k ok hk hki ?_ hno
    by_cases hjk : j = k
    ·subst hjk; exact hjun
    ·rw [getD_set_ne true hjk] at hun; exact hun
   have hun' : ∀ d, d ∈ D → (listed.setIfInBounds j true).getD d true = false := fun d hd => by
    have hne : j ≠ d := fun e => by subst e; exact hjD hd
    rw [getD_set_ne true hne]
    exact hun d hd
   refine wpOp_mono (fun a' w' h3 => ?_) h2
   have hC : C w' := by
    rcases h3.2.1 with h4 | h4
    ·rw [getD_set_ne true hjz, getD_set_ne true hiz, hun z hzD] at h4; cases h4
    ·exact h4
   refine ⟨Or.inr hC, ih (listed.setIfInBounds j true) a' w' hfree' hun' (ready_mono hr (Ne.symm hji)) h3.1 hC ?_⟩
   rw [Array.setIfInBounds_comm _ _ hji]
   exact h3.2.2
theorem wpAnyZ_firstW {i : Nat} {oi : Oper} {v : Value} (hi : ops[i]? = some oi) (hsel : ∀ (j : Nat) (o : Oper) cs b, ops[j]? = some o → o.op ≠ .select cs b)
  (hQ : ∀ c a w, Q (.panic c) (a.put oi.dst v) w → Q (.panic c) a w) (hiz : i ≠ z) :
  ∀ (fuel : Nat) (listed : Array Bool) (a : Act) (w : World),
   (∀ j oj, ops[j]? = some oj → j ≠ i → listed.getD j true = false → (∀ e ∈ oj.after, Region.binds md e = true → e.on ≠ i) → oi.apart ops oj = true) →
   i ∈ Region.ready md ops listed → YieldsIf P ops (fun _ => True) oi v a → (listed.getD z true = true ∨ C w) →
   wpAnyZ P md ops Q z C fuel (listed.setIfInBounds i true) (a.put oi.dst v) w → wpAnyZ P md ops Q z C (fuel + 1) listed a w := by
 intro fuel
 induction fuel with
 | zero =>
  intro listed a w _ hr hy hS H
  refine ⟨fun h => (by rw [h] at hr; cases hr), fun j hj => ?_⟩
  by_cases hji : j = i
  ·subst hji; exact hy.wpOp hi trivial ⟨by rw [getD_set_ne true hiz]; exact hS, H⟩
  ·have := ready_mono hj hji
   rw [H.1] at this
   cases this
 | succ fuel ih =>
  intro listed a w hfree hr hy hS H
  refine ⟨fun h => (by rw [h] at hr; cases hr), fun j hj => ?_⟩
  by_cases hji : j = i
  ·subst hji; exact hy.wpOp hi trivial ⟨by rw [getD_set_ne true hiz]; exact hS, H⟩
  ·have h1 := H.2 j (ready_mono hj hji)
   obtain ⟨hjun, oj, hoj, hall⟩ := mem_ready.1 hj
   have h0 := zunlisted (mem_ready.1 hr).1
   have hnot : ∀ e ∈ oj.after, Region.binds md e = true → e.on ≠ i := fun e he hb heq => by
    have h1 := hall e he hb
    rw [heq, h0] at h1
    cases h1
   have h2 := wpOp_putIf hoj (hfree j oj hoj hji hjun hnot) (fun cs b => hsel i oi cs b hi) (fun cs b => hsel j oj cs b hoj) hQ hy h1
   have hfree' : ∀ k ok, ops[k]? = some ok → k ≠ i → (listed.setIfInBounds j true).getD k true = false →
     (∀ e ∈ ok.after, Region.binds md e = true → e.on ≠ i) → oi.apart ops ok = true := fun k ok hk hki hun hno => by
    refine hfree k ok hk hki ?_ hno
    by_cases hjk : j = k
    ·subst hjk; exact hjun
    ·rw [getD_set_ne true hjk] at hun; exact hun
   refine wpOp_mono (fun a' w' h3 => ?_) h2
   have hS' : (listed.setIfInBounds j true).getD z true = true ∨ C w' := by
    have h4 := h3.2.1
    rw [Array.setIfInBounds_comm _ _ (Ne.symm hji), getD_set_ne true hiz] at h4
    exact h4
   refine ⟨hS', ih (listed.setIfInBounds j true) a' w' hfree' (ready_mono hr (Ne.symm hji)) h3.1 hS' ?_⟩
   rw [Array.setIfInBounds_comm _ _ hji]
   exact h3.2.2
theorem z_load {i : Nat} {oi : Oper} {v : Value} (d : Option Tmp) {fuel : Nat} {listed : Array Bool} {a : Act} {w : World} (hi : ops[i]? = some oi) (hd : oi.dst = d)
  (hs : Region.noSelect ops = true) (hf : Region.free md ops listed i = true) (hr : (Region.ready md ops listed).contains i = true) (hk : zok md ops listed z i = true)
  (hQ : ∀ c a w, Q (.panic c) (a.put d v) w → Q (.panic c) a w) (hw : Region.wanted oi (yielded ops a.tmps) = true) (hy : ∀ w, C w → (execOp a.eval oi).run P w = .ok (.value v) w) (hS : listed.getD z true = true ∨ C w)
  (h : wpAnyZ P md ops Q z C fuel (listed.setIfInBounds i true) (a.put d v) w) : wpAnyZ P md ops Q z C (fuel + 1) listed a w := by
 subst hd
 unfold zok at hk
 simp only [Bool.and_eq_true, bne_iff_ne, ne_eq, List.contains_iff_mem, List.all_eq_true, Bool.not_eq_true'] at hk
 obtain ⟨⟨k1, k2⟩, k3⟩ := hk
 have hC : C w := by
  rcases hS with h1 | h1
  ·rw [(k3 z k2).2] at h1; cases h1
  ·exact h1
 exact wpAnyZ_first hi (Region.noSelect_spec hs) hQ k1 k2 (fun d hd => (k3 d hd).1) fuel listed a w (Region.free_spec hi hf) (fun d hd => (k3 d hd).2) (by simpa using hr) (Or.inl ⟨hw, hy⟩) hC h
theorem z_take {i : Nat} {oi : Oper} {v : Value} (d : Option Tmp) {fuel : Nat} {listed : Array Bool} {a : Act} {w : World} (hi : ops[i]? = some oi) (hd : oi.dst = d)
  (hs : Region.noSelect ops = true) (hf : Region.free md ops listed i = true) (hr : (Region.ready md ops listed).contains i = true) (hiz : i ≠ z)
  (hQ : ∀ c a w, Q (.panic c) (a.put d v) w → Q (.panic c) a w) (hw : Region.wanted oi (yielded ops a.tmps) = true) (hy : ∀ w, (execOp a.eval oi).run P w = .ok (.value v) w) (hS : listed.getD z true = true ∨ C w)
  (h : wpAnyZ P md ops Q z C fuel (listed.setIfInBounds i true) (a.put d v) w) : wpAnyZ P md ops Q z C (fuel + 1) listed a w := by
 subst hd
 exact wpAnyZ_firstW hi (Region.noSelect_spec hs) hQ hiz fuel listed a w (Region.free_spec hi hf) (by simpa using hr) (Or.inl ⟨hw, fun w _ => hy w⟩) hS h
theorem z_one {i : Nat} {o : Oper} {fuel : Nat} {listed : Array Bool} {a : Act} {w : World} (hr : Region.ready md ops listed = [i]) (ho : ops[i]? = some o)
  (h : ∀ K' : Act → World → Prop, Shut (∀ a w, ((listed.setIfInBounds i true).getD z true = true ∨ C w) → (((listed.setIfInBounds i true).getD z true = true ∨ C w) → wpAnyZ P md ops Q z C fuel (listed.setIfInBounds i true) a w) → K' a w) → if Region.wanted o (yielded ops a.tmps) = true then Oper.wp P o a w K' Q else K' (a.put o.dst undef) w) :
  wpAnyZ P md ops Q z C (fuel + 1) listed a w := by
 refine ⟨fun h0 => (by rw [hr] at h0; cases h0), fun j hj => ?_⟩
 rw [hr] at hj
 obtain rfl : j = i := by simpa using hj
 exact wpOp_step ho (fun K' hK => h K' (fun a w hS hW => hK a w ⟨hS, hW hS⟩))
theorem z_done {listed : Array Bool} {a : Act} {w : World} (hr : Region.ready md ops listed = []) (h : Q .normal a w) :
  ∀ fuel, wpAnyZ P md ops Q z C fuel listed a w
 | 0 => ⟨hr, h⟩
 | _ + 1 => ⟨fun _ => h, by rw [hr]; simp⟩
theorem wp_region_z {id : Nat} {a : Act} {w : World} (hm : P.follows .mixedOrders = true) (hC : C w.drew)
  (h : (Array.replicate ops.size false).getD z true = true ∨ C w.drew → wpAnyZ P .any ops Q z C ops.size (Array.replicate ops.size false) a w.drew) : (Code.region id ops true).wp P Q a w :=
 wp_region_any hm (wpAny_of_z _ _ _ _ (h (Or.inr hC)))
end
end
section
open Go.RowKit
open Vc (V Of)
section
variable {P : Program} {md : Region.Mode} {ops : Array Oper} {Q : Exit → Act → World → Prop} {z : Nat} {C : World → Prop}
theorem z_skip {i : Nat} {oi : Oper} (d : Option Tmp) {fuel : Nat} {listed : Array Bool} {a : Act} {w : World} (hi : ops[i]? = some oi) (hd : oi.dst = d)
  (hs : Region.noSelect ops = true) (hf : Region.free md ops listed i = true) (hr : (Region.ready md ops listed).contains i = true) (hiz : i ≠ z)
  (hQ : ∀ c a w, Q (.panic c) (a.put d undef) w → Q (.panic c) a w) (hw : Region.wanted oi (yielded ops a.tmps) = false) (hS : listed.getD z true = true ∨ C w)
  (h : wpAnyZ P md ops Q z C fuel (listed.setIfInBounds i true) (a.put d undef) w) : wpAnyZ P md ops Q z C (fuel + 1) listed a w := by
 subst hd
 exact wpAnyZ_firstW hi (Region.noSelect_spec hs) hQ hiz fuel listed a w (Region.free_spec hi hf) (by simpa using hr) (Or.inr ⟨hw, rfl⟩) hS h
end
def pz35_ops : Array Oper := #[⟨some 131, .move (.tmp 9), 35, "ref.go:164", #[], none⟩, ⟨some 132, .move (.tmp 19), 3, "ref.go:164", #[], none⟩, ⟨some 133, .indexAddr 35 (.tmp 131) (.tmp 132), 0, "ref.go:164", #[⟨0, .data⟩, ⟨1, .data⟩], none⟩, ⟨some 134, .load 3 (.tmp 133), 3, "ref.go:164", #[⟨2, .data⟩], none⟩, ⟨some 135, .move (.tmp 9), 35, "ref.go:164", #[], none⟩, ⟨some 136, .move (.tmp 16), 3, "ref.go:164", #[], none⟩, ⟨some 137, .indexAddr 35 (.tmp 135) (.tmp 136), 0, "ref.go:164", #[⟨4, .data⟩, ⟨5, .data⟩], none⟩, ⟨some 138, .load 3 (.tmp 137), 3, "ref.go:164", #[⟨6, .data⟩], none⟩, ⟨some 139, .binOp .eql 3 (.tmp 134) (.tmp 138) 3, 4, "ref.go:164", #[⟨3, .data⟩, ⟨7, .data⟩], none⟩, ⟨some 140, .move (.tmp 139), 4, "ref.go:164", #[⟨8, .data⟩], none⟩, ⟨some 141, .load 40 (.tmp 20), 40, "ref.go:164", #[⟨9, .guard⟩], some (9, true)⟩, ⟨some 142, .move (.tmp 1), 3, "ref.go:164", #[⟨9, .guard⟩], some (9, true)⟩, ⟨some 143, .call { callee := .value (.func 16), args := #[.tmp 141, .tmp 142], argTypes := #[40, 3] }, 34, "ref.go:164", #[⟨10, .data⟩, ⟨11, .data⟩, ⟨9, .chain⟩, ⟨9, .guard⟩], some (9, true)⟩, ⟨some 144, .move (.tmp 14), 82, "ref.go:164", #[⟨9, .guard⟩], some (9, true)⟩, ⟨some 145, .move (.tmp 16), 3, "ref.go:164", #[⟨9, .guard⟩], some (9, true)⟩, ⟨some 146, .indexAddr 82 (.tmp 144) (.tmp 145), 0, "ref.go:164", #[⟨13, .data⟩, ⟨14, .data⟩, ⟨9, .guard⟩], some (9, true)⟩, ⟨some 147, .fieldAddr 48 (.tmp 146) 0, 0, "ref.go:164", #[⟨15, .data⟩, ⟨9, .guard⟩], some (9, true)⟩, ⟨some 148, .load 34 (.tmp 147), 34, "ref.go:164", #[⟨16, .data⟩, ⟨9, .guard⟩], some (9, true)⟩, ⟨some 149, .binOp .lss 34 (.tmp 143) (.tmp 148) 34, 4, "ref.go:164", #[⟨12, .data⟩, ⟨17, .data⟩, ⟨9, .guard⟩], some (9, true)⟩, ⟨some 150, .pick (.tmp 140) (.tmp 149) (.const (Value.bool false)), 4, "ref.go:164", #[⟨9, .data⟩, ⟨18, .data⟩], none⟩]
section
variable {Q : Exit → Act → World → Prop} (df : List Deferred) (X : World) (g1 g2 B K q j : Nat) (gq tree idq rt : Int) (y0 y1 y2 y3 y4 : Value)
variable (x0 x2 x3 x4 x5 x6 x7 x8 x10 x11 x12 x13 x15 x17 x18 x21 x22 x23 x24 x25 x26 x27 x28 x29 x30 x31 x32 x33 x34 x35 x36 x37 x38 x39 x40 x41 x42 x43 x44 x45 x46 x47 x48 x49 x50 x51 x52 x53 x54 x55 x56 x57 x58 x59 x60 x61 x62 x63 x64 x65 x66 x67 x68 x69 x70 x71 x72 x73 x74 x75 x76 x77 x78 x79 x80 x81 x82 x83 x84 x85 x86 x87 x88 x89 x90 x91 x92 x93 x94 x95 x96 x97 x98 x99 x100 x101 x102 x103 x104 x105 x106 x107 x108 x109 x110 x111 x112 x113 x114 x115 x116 x117 x118 x119 x120 x121 x122 x123 x124 x125 x126 x127 x128 x129 x130 x151 x152 x153 x154 x155 x156 x157 x158 x159 x160 x161 x162 x163 x164 x165 x166 x167 x168 x169 x170 x171 x172 x173 x174 x175 x176 x177 x178 x179 x180 x181 x182 x183 x184 x185 x186 x187 x188 x189 x190 x191 x192 x193 x194 x195 x196 x197 x198 x199 x200 x201 x202 x203 x204 x205 x206 x207 x208 x209 x210 x211 x212 x213 x214 x215 x216 x217 x218 x219 x220 x221 x222 x223 x224 x225 x226 x227 x228 x229 x230 x231 x232 x233 x234 x235 x236 x237 x238 x239 x240 x241 x242 x243 x244 x245 x246 x247 x248 x249 x250 x251 x252 x253 x254 x255 x256 x257 x258 x259 x260 x261 x262 x263 x264 x265 x266 x267 x268 x269 x270 x271 x272 x273 x274 x275 x276 x277 x278 x279 x280 x281 x282 x283 x284 x285 x286 x287 x288 x289 x290 x291 x292 x293 x294 x295 x296 x297 x298 x299 x300 x301 x302 x303 x304 x305 x306 x307 x308 x309 x310 x311 x312 x313 x314 x315 x316 x317 x318 x319 x320 x321 x322 x323 x324 x325 x326 x327 x328 x329 x330 x331 x332 x333 x334 x335 x336 x337 x338 x339 x340 : Value)
variable (hQ : ∀ c (a : Act) (d : Tmp) (v : Value) (w : World), Q (.panic c) (a.put (some d) v) w → Q (.panic c) a w)
variable (hC : ∀ V, Below X.heap.size X V → V.cell? ⟨g1, q, none⟩ = some (.int .i64 gq) ∧ V.cell? ⟨g1, j, none⟩ = some (.int .i64 gq) ∧ (V.cell? ⟨B, 0, none⟩ = some y0 ∧ V.cell? ⟨B, 1, none⟩ = some y1 ∧ V.cell? ⟨B, 2, none⟩ = some y2 ∧ V.cell? ⟨B, 3, none⟩ = some y3 ∧ V.cell? ⟨B, 4, none⟩ = some y4) ∧ V.cell? ⟨g2, j * 4, none⟩ = some (.int .u64 rt))
variable (k1 : q < K)
variable (k2 : j < K)
variable (hI : ∀ W, Below X.heap.size X W → Calls Tryz.prog 16 #[.agg #[y0, y1, y2, y3, y4], .int .i64 tree] W fun e w' => e = .returned (.int .u64 idq) ∧ Below W.heap.size W w')
variable (fin : ∀ (w' : World), Below X.heap.size X w' → Q .normal { tmps := #[x0, (.int .i64 tree), x2, x3, x4, x5, x6, x7, x8, (.slice (some ⟨g1, 0, none⟩) K K), x10, x11, x12, x13, (.slice (some ⟨g2, 0, none⟩) K K), x15, (.int .i64 (j : Int)), x17, x18, (.int .i64 (q : Int)), (.pointer (some ⟨B, 0, none⟩)), x21, x22, x23, x24, x25, x26, x27, x28, x29, x30, x31, x32, x33, x34, x35, x36, x37, x38, x39, x40, x41, x42, x43, x44, x45, x46, x47, x48, x49, x50, x51, x52, x53, x54, x55, x56, x57, x58, x59, x60, x61, x62, x63, x64, x65, x66, x67, x68, x69, x70, x71, x72, x73, x74, x75, x76, x77, x78, x79, x80, x81, x82, x83, x84, x85, x86, x87, x88, x89, x90, x91, x92, x93, x94, x95, x96, x97, x98, x99, x100, x101, x102, x103, x104, x105, x106, x107, x108, x109, x110, x111, x112, x113, x114, x115, x116, x117, x118, x119, x120, x121, x122, x123, x124, x125, x126, x127, x128, x129, x130, (.slice (some ⟨g1, 0, none⟩) K K), (.int .i64 (q : Int)), (.pointer (some ⟨g1, q, none⟩)), (.int .i64 gq), (.slice (some ⟨g1, 0, none⟩) K K), (.int .i64 (j : Int)), (.pointer (some ⟨g1, j, none⟩)), (.int .i64 gq), (.bool true), (.bool true), (.agg #[y0, y1, y2, y3, y4]), (.int .i64 tree), (.int .u64 idq), (.slice (some ⟨g2, 0, none⟩) K K), (.int .i64 (j : Int)), (.pointer (some ⟨g2, j * 4, none⟩)), (.pointer (some ⟨g2, j * 4, none⟩)), (.int .u64 rt), (.bool (decide (idq < rt))), (.bool (decide (idq < rt))), x151, x152, x153, x154, x155, x156, x157, x158, x159, x160, x161, x162, x163, x164, x165, x166, x167, x168, x169, x170, x171, x172, x173, x174, x175, x176, x177, x178, x179, x180, x181, x182, x183, x184, x185, x186, x187, x188, x189, x190, x191, x192, x193, x194, x195, x196, x197, x198, x199, x200, x201, x202, x203, x204, x205, x206, x207, x208, x209, x210, x211, x212, x213, x214, x215, x216, x217, x218, x219, x220, x221, x222, x223, x224, x225, x226, x227, x228, x229, x230, x231, x232, x233, x234, x235, x236, x237, x238, x239, x240, x241, x242, x243, x244, x245, x246, x247, x248, x249, x250, x251, x252, x253, x254, x255, x256, x257, x258, x259, x260, x261, x262, x263, x264, x265, x266, x267, x268, x269, x270, x271, x272, x273, x274, x275, x276, x277, x278, x279, x280, x281, x282, x283, x284, x285, x286, x287, x288, x289, x290, x291, x292, x293, x294, x295, x296, x297, x298, x299, x300, x301, x302, x303, x304, x305, x306, x307, x308, x309, x310, x311, x312, x313, x314, x315, x316, x317, x318, x319, x320, x321, x322, x323, x324, x325, x326, x327, x328, x329, x330, x331, x332, x333, x334, x335, x336, x337, x338, x339, x340], defers := df } w')
include hQ hC k1 k2 hI fin in
set_option maxRecDepth 100000 in
set_option maxHeartbeats 8000000 in
theorem pz35 (x131 x132 x133 x134 x135 x136 x137 x138 x139 x140 x141 x142 x143 x144 x145 x146 x147 x148 x149 x150 : Value) : (Code.region 35 pz35_ops true).wp Tryz.prog Q { tmps := #[x0, (.int .i64 tree), x2, x3, x4, x5, x6, x7, x8, (.slice (some ⟨g1, 0, none⟩) K K), x10, x11, x12, x13, (.slice (some ⟨g2, 0, none⟩) K K), x15, (.int .i64 (j : Int)), x17, x18, (.int .i64 (q : Int)), (.pointer (some ⟨B, 0, none⟩)), x21, x22, x23, x24, x25, x26, x27, x28, x29, x30, x31, x32, x33, x34, x35, x36, x37, x38, x39, x40, x41, x42, x43, x44, x45, x46, x47, x48, x49, x50, x51, x52, x53, x54, x55, x56, x57, x58, x59, x60, x61, x62, x63, x64, x65, x66, x67, x68, x69, x70, x71, x72, x73, x74, x75, x76, x77, x78, x79, x80, x81, x82, x83, x84, x85, x86, x87, x88, x89, x90, x91, x92, x93, x94, x95, x96, x97, x98, x99, x100, x101, x102, x103, x104, x105, x106, x107, x108, x109, x110, x111, x112, x113, x114, x115, x116, x117, x118, x119, x120, x121, x122, x123, x124, x125, x126, x127, x128, x129, x130, x131, x132, x133, x134, x135, x136, x137, x138, x139, x140, x141, x142, x143, x144, x145, x146, x147, x148, x149, x150, x151, x152, x153, x154, x155, x156, x157, x158, x159, x160, x161, x162, x163, x164, x165, x166, x167, x168, x169, x170, x171, x172, x173, x174, x175, x176, x177, x178, x179, x180, x181, x182, x183, x184, x185, x186, x187, x188, x189, x190, x191, x192, x193, x194, x195, x196, x197, x198, x199, x200, x201, x202, x203, x204, x205, x206, x207, x208, x209, x210, x211, x212, x213, x214, x215, x216, x217, x218, x219, x220, x221, x222, x223, x224, x225, x226, x227, x228, x229, x230, x231, x232, x233, x234, x235, x236, x237, x238, x239, x240, x241, x242, x243, x244, x245, x246, x247, x248, x249, x250, x251, x252, x253, x254, x255, x256, x257, x258, x259, x260, x261, x262, x263, x264, x265, x266, x267, x268, x269, x270, x271, x272, x273, x274, x275, x276, x277, x278, x279, x280, x281, x282, x283, x284, x285, x286, x287, x288, x289, x290, x291, x292, x293, x294, x295, x296, x297, x298, x299, x300, x301, x302, x303, x304, x305, x306, x307, x308, x309, x310, x311, x312, x313, x314, x315, x316, x317, x318, x319, x320, x321, x322, x323, x324, x325, x326, x327, x328, x329, x330, x331, x332, x333, x334, x335, x336, x337, x338, x339, x340], defers := df } X := by
 have hX0 : Below X.heap.size X X.drew := Below.drew (Below.refl _ _)
 have i1 : (0 : Int) ≤ (q : Int) := by omega
 have i2 : (q : Int) < (K : Int) := by omega
 have i3 : (0 : Int) ≤ (j : Int) := by omega
 have i4 : (j : Int) < (K : Int) := by omega
 refine wp_region_z (z := 19) (C := fun W => W.cell? ⟨g1, q, none⟩ = some (.int .i64 gq) ∧ W.cell? ⟨g1, j, none⟩ = some (.int .i64 gq) ∧ (W.cell? ⟨B, 0, none⟩ = some y0 ∧ W.cell? ⟨B, 1, none⟩ = some y1 ∧ W.cell? ⟨B, 2, none⟩ = some y2 ∧ W.cell? ⟨B, 3, none⟩ = some y3 ∧ W.cell? ⟨B, 4, none⟩ = some y4) ∧ W.cell? ⟨g2, j * 4, none⟩ = some (.int .u64 rt)) (by kernel_rfl) (hC _ hX0) (fun hHeld => ?_)
 refine z_take (i := 0) (oi := ⟨some 131, .move (.tmp 9), 35, "ref.go:164", #[], none⟩) (v := ?_) (some 131) rfl rfl (by kernel_rfl) (by kernel_rfl) (by kernel_rfl) (by decide) (fun c a w h => hQ c a _ _ w h) (by rfl) ?_ hHeld ?_
 rotate_left 1
 ·(intro wq; go_simp; try with_reducible rfl)
 (try simp only [Act.put, List.setIfInBounds_toArray, List.set_cons_zero, List.set_cons_succ])
 refine z_take (i := 1) (oi := ⟨some 132, .move (.tmp 19), 3, "ref.go:164", #[], none⟩) (v := ?_) (some 132) rfl rfl (by kernel_rfl) (by kernel_rfl) (by kernel_rfl) (by decide) (fun c a w h => hQ c a _ _ w h) (by rfl) ?_ hHeld ?_
 rotate_left 1
 ·(intro wq; go_simp; try with_reducible rfl)
 (try simp only [Act.put, List.setIfInBounds_toArray, List.set_cons_zero, List.set_cons_succ])
 refine z_take (i := 2) (oi := ⟨some 133, .indexAddr 35 (.tmp 131) (.tmp 132), 0, "ref.go:164", #[⟨0, .data⟩, ⟨1, .data⟩], none⟩) (v := ?_) (some 133) rfl rfl (by kernel_rfl) (by kernel_rfl) (by kernel_rfl) (by decide) (fun c a w h => hQ c a _ _ w h) (by rfl) ?_ hHeld ?_
 rotate_left 1
 ·(intro wq; go_simp; try with_reducible rfl)
 (try simp only [Act.put, List.setIfInBounds_toArray, List.set_cons_zero, List.set_cons_succ])
 refine z_load (i := 3) (oi := ⟨some 134, .load 3 (.tmp 133), 3, "ref.go:164", #[⟨2, .data⟩], none⟩) (v := ?_) (some 134) rfl rfl (by kernel_rfl) (by kernel_rfl) (by kernel_rfl) (by kernel_rfl) (fun c a w h => hQ c a _ _ w h) (by rfl) ?_ hHeld ?_
 rotate_left 1
 ·(intro wq hSw; go_simp; try with_reducible rfl)
 (try simp only [Act.put, List.setIfInBounds_toArray, List.set_cons_zero, List.set_cons_succ])
 refine z_take (i := 4) (oi := ⟨some 135, .move (.tmp 9), 35, "ref.go:164", #[], none⟩) (v := ?_) (some 135) rfl rfl (by kernel_rfl) (by kernel_rfl) (by kernel_rfl) (by decide) (fun c a w h => hQ c a _ _ w h) (by rfl) ?_ hHeld ?_
 rotate_left 1
 ·(intro wq; go_simp; try with_reducible rfl)
 (try simp only [Act.put, List.setIfInBounds_toArray, List.set_cons_zero, List.set_cons_succ])
 refine z_take (i := 5) (oi := ⟨some 136, .move (.tmp 16), 3, "ref.go:164", #[], none⟩) (v := ?_) (some 136) rfl rfl (by kernel_rfl) (by kernel_rfl) (by kernel_rfl) (by decide) (fun c a w h => hQ c a _ _ w h) (by rfl) ?_ hHeld ?_
 rotate_left 1
 ·(intro wq; go_simp; try with_reducible rfl)
 (try simp only [Act.put, List.setIfInBounds_toArray, List.set_cons_zero, List.set_cons_succ])
 refine z_take (i := 6) (oi := ⟨some 137, .indexAddr 35 (.tmp 135) (.tmp 136), 0, "ref.go:164", #[⟨4, .data⟩, ⟨5, .data⟩], none⟩) (v := ?_) (some 137) rfl rfl (by kernel_rfl) (by kernel_rfl) (by kernel_rfl) (by decide) (fun c a w h => hQ c a _ _ w h) (by rfl) ?_ hHeld ?_
 rotate_left 1
 ·(intro wq; go_simp; try with_reducible rfl)
 (try simp only [Act.put, List.setIfInBounds_toArray, List.set_cons_zero, List.set_cons_succ])
 refine z_load (i := 7) (oi := ⟨some 138, .load 3 (.tmp 137), 3, "ref.go:164", #[⟨6, .data⟩], none⟩) (v := ?_) (some 138) rfl rfl (by kernel_rfl) (by kernel_rfl) (by kernel_rfl) (by kernel_rfl) (fun c a w h => hQ c a _ _ w h) (by rfl) ?_ hHeld ?_
 rotate_left 1
 ·(intro wq hSw; go_simp; try with_reducible rfl)
 (try simp only [Act.put, List.setIfInBounds_toArray, List.set_cons_zero, List.set_cons_succ])
 refine z_take (i := 8) (oi := ⟨some 139, .binOp .eql 3 (.tmp 134) (.tmp 138) 3, 4, "ref.go:164", #[⟨3, .data⟩, ⟨7, .data⟩], none⟩) (v := ?_) (some 139) rfl rfl (by kernel_rfl) (by kernel_rfl) (by kernel_rfl) (by decide) (fun c a w h => hQ c a _ _ w h) (by rfl) ?_ hHeld ?_
 rotate_left 1
 ·(intro wq; go_simp; try with_reducible rfl)
 (try simp only [Act.put, List.setIfInBounds_toArray, List.set_cons_zero, List.set_cons_succ])
 refine z_take (i := 9) (oi := ⟨some 140, .move (.tmp 139), 4, "ref.go:164", #[⟨8, .data⟩], none⟩) (v := ?_) (some 140) rfl rfl (by kernel_rfl) (by kernel_rfl) (by kernel_rfl) (by decide) (fun c a w h => hQ c a _ _ w h) (by rfl) ?_ hHeld ?_
 rotate_left 1
 ·(intro wq; go_simp; try with_reducible rfl)
 (try simp only [Act.put, List.setIfInBounds_toArray, List.set_cons_zero, List.set_cons_succ])
 refine z_load (i := 10) (oi := ⟨some 141, .load 40 (.tmp 20), 40, "ref.go:164", #[⟨9, .guard⟩], some (9, true)⟩) (v := ?_) (some 141) rfl rfl (by kernel_rfl) (by kernel_rfl) (by kernel_rfl) (by kernel_rfl) (fun c a w h => hQ c a _ _ w h) (by rfl) ?_ hHeld ?_
 rotate_left 1
 ·(intro wq hSw; go_simp; try with_reducible rfl)
 (try simp only [Act.put, List.setIfInBounds_toArray, List.set_cons_zero, List.set_cons_succ])
 refine z_take (i := 11) (oi := ⟨some 142, .move (.tmp 1), 3, "ref.go:164", #[⟨9, .guard⟩], some (9, true)⟩) (v := ?_) (some 142) rfl rfl (by kernel_rfl) (by kernel_rfl) (by kernel_rfl) (by decide) (fun c a w h => hQ c a _ _ w h) (by rfl) ?_ hHeld ?_
 rotate_left 1
 ·(intro wq; go_simp; try with_reducible rfl)
 (try simp only [Act.put, List.setIfInBounds_toArray, List.set_cons_zero, List.set_cons_succ])
 refine z_take (i := 13) (oi := ⟨some 144, .move (.tmp 14), 82, "ref.go:164", #[⟨9, .guard⟩], some (9, true)⟩) (v := ?_) (some 144) rfl rfl (by kernel_rfl) (by kernel_rfl) (by kernel_rfl) (by decide) (fun c a w h => hQ c a _ _ w h) (by rfl) ?_ hHeld ?_
 rotate_left 1
 ·(intro wq; go_simp; try with_reducible rfl)
 (try simp only [Act.put, List.setIfInBounds_toArray, List.set_cons_zero, List.set_cons_succ])
 refine z_take (i := 14) (oi := ⟨some 145, .move (.tmp 16), 3, "ref.go:164", #[⟨9, .guard⟩], some (9, true)⟩) (v := ?_) (some 145) rfl rfl (by kernel_rfl) (by kernel_rfl) (by kernel_rfl) (by decide) (fun c a w h => hQ c a _ _ w h) (by rfl) ?_ hHeld ?_
 rotate_left 1
 ·(intro wq; go_simp; try with_reducible rfl)
 (try simp only [Act.put, List.setIfInBounds_toArray, List.set_cons_zero, List.set_cons_succ])
 refine z_take (i := 15) (oi := ⟨some 146, .indexAddr 82 (.tmp 144) (.tmp 145), 0, "ref.go:164", #[⟨13, .data⟩, ⟨14, .data⟩, ⟨9, .guard⟩], some (9, true)⟩) (v := ?_) (some 146) rfl rfl (by kernel_rfl) (by kernel_rfl) (by kernel_rfl) (by decide) (fun c a w h => hQ c a _ _ w h) (by rfl) ?_ hHeld ?_
 rotate_left 1
 ·(intro wq; go_simp; try with_reducible rfl)
 (try simp only [Act.put, List.setIfInBounds_toArray, List.set_cons_zero, List.set_cons_succ])
 refine z_take (i := 16) (oi := ⟨some 147, .fieldAddr 48 (.tmp 146) 0, 0, "ref.go:164", #[⟨15, .data⟩, ⟨9, .guard⟩], some (9, true)⟩) (v := ?_) (some 147) rfl rfl (by kernel_rfl) (by kernel_rfl) (by kernel_rfl) (by decide) (fun c a w h => hQ c a _ _ w h) (by rfl) ?_ hHeld ?_
 rotate_left 1
 ·(intro wq; go_simp; try with_reducible rfl)
 (try simp only [Act.put, List.setIfInBounds_toArray, List.set_cons_zero, List.set_cons_succ])
 refine z_load (i := 17) (oi := ⟨some 148, .load 34 (.tmp 147), 34, "ref.go:164", #[⟨16, .data⟩, ⟨9, .guard⟩], some (9, true)⟩) (v := ?_) (some 148) rfl rfl (by kernel_rfl) (by kernel_rfl) (by kernel_rfl) (by kernel_rfl) (fun c a w h => hQ c a _ _ w h) (by rfl) ?_ hHeld ?_
 rotate_left 1
 ·(intro wq hSw; go_simp; try with_reducible rfl)
 (try simp only [Act.put, List.setIfInBounds_toArray, List.set_cons_zero, List.set_cons_succ])
 refine z_one (i := 12) (o := ⟨some 143, .call { callee := .value (.func 16), args := #[.tmp 141, .tmp 142], argTypes := #[40, 3] }, 34, "ref.go:164", #[⟨10, .data⟩, ⟨11, .data⟩, ⟨9, .chain⟩, ⟨9, .guard⟩], some (9, true)⟩) (by kernel_rfl) rfl (fun K hK => ?_)
 go_simp
 refine (hI _ hX0).mono ?_
 rintro e w1 ⟨rfl, hb⟩
 have hX1 : Below X.heap.size X w1 := hX0.trans (hb.mono hX0.size)
 clear hHeld
 refine hK.out _ _ (Or.inr (hC _ hX1)) (fun hHeld => ?_)
 clear hK K
 (try simp only [List.setIfInBounds_toArray, List.set_cons_zero, List.set_cons_succ])
 refine z_take (i := 18) (oi := ⟨some 149, .binOp .lss 34 (.tmp 143) (.tmp 148) 34, 4, "ref.go:164", #[⟨12, .data⟩, ⟨17, .data⟩, ⟨9, .guard⟩], some (9, true)⟩) (v := ?_) (some 149) rfl rfl (by kernel_rfl) (by kernel_rfl) (by kernel_rfl) (by decide) (fun c a w h => hQ c a _ _ w h) (by rfl) ?_ hHeld ?_
 rotate_left 1
 ·(intro wq; go_simp; try with_reducible rfl)
 (try simp only [Act.put, List.setIfInBounds_toArray, List.set_cons_zero, List.set_cons_succ])
 refine z_one (i := 19) (o := ⟨some 150, .pick (.tmp 140) (.tmp 149) (.const (Value.bool false)), 4, "ref.go:164", #[⟨9, .data⟩, ⟨18, .data⟩], none⟩) (by kernel_rfl) rfl (fun K hK => ?_)
 go_simp
 refine hK.out _ _ (Or.inl (by kernel_rfl)) (fun hHeld => ?_)
 (try simp only [List.setIfInBounds_toArray, List.set_cons_zero, List.set_cons_succ])
 refine z_done (by kernel_rfl) ?_ _
 exact fin _ hX1
end
end
end Go.Proofs.YtcbpafpaimpfnaaGreatDoor
