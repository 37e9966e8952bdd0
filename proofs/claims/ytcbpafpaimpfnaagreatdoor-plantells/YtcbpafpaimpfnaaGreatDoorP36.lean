/- The document's Plan: a region that draws its order and holds calls (written by tools/gen_pqz.py) -/
import Derived.Test.YtcbpafpaimpfnaaGreatDoorP32
namespace Go.Proofs.YtcbpafpaimpfnaaGreatDoor
section
open Go.RowKit
open Vc (V Of)
def pz73_ops : Array Oper := #[⟨some 316, .move (.tmp 24), 30, "ref.go:198", #[], none⟩, ⟨some 317, .move (.tmp 14), 82, "ref.go:198", #[], none⟩, ⟨some 318, .move (.tmp 25), 3, "ref.go:198", #[], none⟩, ⟨some 319, .indexAddr 82 (.tmp 317) (.tmp 318), 0, "ref.go:198", #[⟨1, .data⟩, ⟨2, .data⟩], none⟩, ⟨some 320, .load 48 (.tmp 319), 48, "ref.go:198", #[⟨3, .data⟩], none⟩, ⟨some 321, .move (.tmp 27), 3, "ref.go:198", #[], none⟩, ⟨some 322, .load 25 (.tmp 2), 25, "ref.go:198", #[], none⟩, ⟨some 323, .move (.tmp 25), 3, "ref.go:198", #[], none⟩, ⟨some 324, .call { callee := .value (.func 36), args := #[.tmp 322, .tmp 323], argTypes := #[25, 3] }, 35, "ref.go:198", #[⟨6, .data⟩, ⟨7, .data⟩], none⟩, ⟨some 325, .load 25 (.tmp 2), 25, "ref.go:198", #[], none⟩, ⟨some 326, .move (.tmp 7), 23, "ref.go:198", #[], none⟩, ⟨some 327, .move (.tmp 25), 3, "ref.go:198", #[], none⟩, ⟨some 328, .move (.tmp 14), 82, "ref.go:198", #[], none⟩, ⟨some 329, .move (.tmp 25), 3, "ref.go:198", #[], none⟩, ⟨some 330, .indexAddr 82 (.tmp 328) (.tmp 329), 0, "ref.go:198", #[⟨12, .data⟩, ⟨13, .data⟩], none⟩, ⟨some 331, .load 48 (.tmp 330), 48, "ref.go:198", #[⟨14, .data⟩], none⟩, ⟨some 332, .move (.tmp 27), 3, "ref.go:198", #[], none⟩, ⟨some 333, .move (.tmp 26), 80, "ref.go:198", #[], none⟩, ⟨some 334, .call { callee := .value (.func 37), args := #[.tmp 325, .tmp 326, .tmp 327, .tmp 331, .tmp 332, .tmp 333], argTypes := #[25, 23, 3, 48, 3, 80] }, 35, "ref.go:198", #[⟨9, .data⟩, ⟨10, .data⟩, ⟨11, .data⟩, ⟨15, .data⟩, ⟨16, .data⟩, ⟨17, .data⟩, ⟨8, .chain⟩], none⟩, ⟨some 335, .build 50 #[(0, .tmp 320), (1, .tmp 321), (2, .tmp 324), (3, .tmp 334)], 50, "ref.go:198", #[⟨4, .data⟩, ⟨5, .data⟩, ⟨8, .data⟩, ⟨18, .data⟩], none⟩, ⟨some 336, .buildSlice 30 1 #[(0, .tmp 335)], 30, "ref.go:198", #[⟨19, .data⟩], none⟩, ⟨some 337, .call { callee := .builtin .append, args := #[.tmp 316, .tmp 336], argTypes := #[30, 30] }, 30, "ref.go:198", #[⟨0, .data⟩, ⟨20, .data⟩, ⟨18, .chain⟩], none⟩, ⟨some 24, .assign (.tmp 337), 30, "ref.go:198", #[⟨21, .data⟩, ⟨21, .chain⟩, ⟨0, .phase⟩, ⟨1, .phase⟩, ⟨2, .phase⟩, ⟨3, .phase⟩, ⟨4, .phase⟩, ⟨5, .phase⟩, ⟨6, .phase⟩, ⟨7, .phase⟩, ⟨8, .phase⟩, ⟨9, .phase⟩, ⟨10, .phase⟩, ⟨11, .phase⟩, ⟨12, .phase⟩, ⟨13, .phase⟩, ⟨14, .phase⟩, ⟨15, .phase⟩, ⟨16, .phase⟩, ⟨17, .phase⟩, ⟨18, .phase⟩, ⟨19, .phase⟩, ⟨20, .phase⟩, ⟨21, .phase⟩], none⟩]
section
variable {Q : Exit → Act → World → Prop} (df : List Deferred) (X : World) (BN g2 K i M lcap ol ocap ln : Nat) (lao oao : Option Addr) (rp : Int) (nb nl v0 v1 v2 v3 ov : Value) (RP RR : World → Option Addr → Nat → Prop) (F : Value → World → Prop)
variable (x0 x1 x3 x4 x5 x6 x8 x9 x10 x11 x12 x13 x15 x16 x17 x18 x19 x20 x21 x22 x23 x28 x29 x30 x31 x32 x33 x34 x35 x36 x37 x38 x39 x40 x41 x42 x43 x44 x45 x46 x47 x48 x49 x50 x51 x52 x53 x54 x55 x56 x57 x58 x59 x60 x61 x62 x63 x64 x65 x66 x67 x68 x69 x70 x71 x72 x73 x74 x75 x76 x77 x78 x79 x80 x81 x82 x83 x84 x85 x86 x87 x88 x89 x90 x91 x92 x93 x94 x95 x96 x97 x98 x99 x100 x101 x102 x103 x104 x105 x106 x107 x108 x109 x110 x111 x112 x113 x114 x115 x116 x117 x118 x119 x120 x121 x122 x123 x124 x125 x126 x127 x128 x129 x130 x131 x132 x133 x134 x135 x136 x137 x138 x139 x140 x141 x142 x143 x144 x145 x146 x147 x148 x149 x150 x151 x152 x153 x154 x155 x156 x157 x158 x159 x160 x161 x162 x163 x164 x165 x166 x167 x168 x169 x170 x171 x172 x173 x174 x175 x176 x177 x178 x179 x180 x181 x182 x183 x184 x185 x186 x187 x188 x189 x190 x191 x192 x193 x194 x195 x196 x197 x198 x199 x200 x201 x202 x203 x204 x205 x206 x207 x208 x209 x210 x211 x212 x213 x214 x215 x216 x217 x218 x219 x220 x221 x222 x223 x224 x225 x226 x227 x228 x229 x230 x231 x232 x233 x234 x235 x236 x237 x238 x239 x240 x241 x242 x243 x244 x245 x246 x247 x248 x249 x250 x251 x252 x253 x254 x255 x256 x257 x258 x259 x260 x261 x262 x263 x264 x265 x266 x267 x268 x269 x270 x271 x272 x273 x274 x275 x276 x277 x278 x279 x280 x281 x282 x283 x284 x285 x286 x287 x288 x289 x290 x291 x292 x293 x294 x295 x296 x297 x298 x299 x300 x301 x302 x303 x304 x305 x306 x307 x308 x309 x310 x311 x312 x313 x314 x315 x338 x339 x340 : Value)
variable (hQ : ∀ c (a : Act) (d : Tmp) (v : Value) (w : World), Q (.panic c) (a.put (some d) v) w → Q (.panic c) a w)
variable (hC : ∀ V, Below X.heap.size X V → V.cell? ⟨BN, 0, none⟩ = some nb ∧ V.cell? ⟨BN, 1, none⟩ = some nl ∧ (V.cell? ⟨g2, i * 4, none⟩ = some v0 ∧ V.cell? ⟨g2, i * 4 + 1, none⟩ = some v1 ∧ V.cell? ⟨g2, i * 4 + 2, none⟩ = some v2 ∧ V.cell? ⟨g2, i * 4 + 3, none⟩ = some v3))
variable (k1 : i < K)
variable (hP : ∀ W, Below X.heap.size X W → Calls Tryz.prog 36 #[.agg #[nb, nl], .int .i64 (i : Int)] W fun e w' => ∃ pa pc, e = .returned (.slice pa ln pc) ∧ Hid (Below W.heap.size W w' ∧ RP w' pa pc))
variable (hR : ∀ W, Below X.heap.size X W → Calls Tryz.prog 37 #[.agg #[nb, nl], .slice lao M lcap, .int .i64 (i : Int), .agg #[v0, v1, v2, v3], .int .i64 rp, .slice oao ol ocap] W fun e w' => ∃ ra rc, e = .returned (.slice ra ln rc) ∧ Hid (Below W.heap.size W w' ∧ RR w' ra rc))
variable (hS : ∀ W W' pa pc, RP W pa pc → Below W.heap.size W W' → RP W' pa pc)
variable (hA : ∀ W pa pc ra rc, Below X.heap.size X W → RP W pa pc → RR W ra rc → ∃ v' w2, (Builtin.append_ #[30, 30] 30 #[ov, .slice (some ⟨W.heap.size, 0, none⟩) 1 1]).run Tryz.prog (W.alloc (.cells #[v0, v1, v2, v3, .int .i64 rp, .slice pa ln pc, .slice ra ln rc] 50)) = .ok v' w2 ∧ F v' w2 ∧ (w2.cell? ⟨BN, 0, none⟩ = some nb ∧ w2.cell? ⟨BN, 1, none⟩ = some nl ∧ (w2.cell? ⟨g2, i * 4, none⟩ = some v0 ∧ w2.cell? ⟨g2, i * 4 + 1, none⟩ = some v1 ∧ w2.cell? ⟨g2, i * 4 + 2, none⟩ = some v2 ∧ w2.cell? ⟨g2, i * 4 + 3, none⟩ = some v3)))
variable (fin : ∀ (pa : Option Addr) (pc : Nat) (ra : Option Addr) (rc gp : Nat) (v' : Value) (w' : World), F v' w' → Q .normal { tmps := #[x0, x1, (.pointer (some ⟨BN, 0, none⟩)), x3, x4, x5, x6, (.slice lao M lcap), x8, x9, x10, x11, x12, x13, (.slice (some ⟨g2, 0, none⟩) K K), x15, x16, x17, x18, x19, x20, x21, x22, x23, v', (.int .i64 (i : Int)), (.slice oao ol ocap), (.int .i64 rp), x28, x29, x30, x31, x32, x33, x34, x35, x36, x37, x38, x39, x40, x41, x42, x43, x44, x45, x46, x47, x48, x49, x50, x51, x52, x53, x54, x55, x56, x57, x58, x59, x60, x61, x62, x63, x64, x65, x66, x67, x68, x69, x70, x71, x72, x73, x74, x75, x76, x77, x78, x79, x80, x81, x82, x83, x84, x85, x86, x87, x88, x89, x90, x91, x92, x93, x94, x95, x96, x97, x98, x99, x100, x101, x102, x103, x104, x105, x106, x107, x108, x109, x110, x111, x112, x113, x114, x115, x116, x117, x118, x119, x120, x121, x122, x123, x124, x125, x126, x127, x128, x129, x130, x131, x132, x133, x134, x135, x136, x137, x138, x139, x140, x141, x142, x143, x144, x145, x146, x147, x148, x149, x150, x151, x152, x153, x154, x155, x156, x157, x158, x159, x160, x161, x162, x163, x164, x165, x166, x167, x168, x169, x170, x171, x172, x173, x174, x175, x176, x177, x178, x179, x180, x181, x182, x183, x184, x185, x186, x187, x188, x189, x190, x191, x192, x193, x194, x195, x196, x197, x198, x199, x200, x201, x202, x203, x204, x205, x206, x207, x208, x209, x210, x211, x212, x213, x214, x215, x216, x217, x218, x219, x220, x221, x222, x223, x224, x225, x226, x227, x228, x229, x230, x231, x232, x233, x234, x235, x236, x237, x238, x239, x240, x241, x242, x243, x244, x245, x246, x247, x248, x249, x250, x251, x252, x253, x254, x255, x256, x257, x258, x259, x260, x261, x262, x263, x264, x265, x266, x267, x268, x269, x270, x271, x272, x273, x274, x275, x276, x277, x278, x279, x280, x281, x282, x283, x284, x285, x286, x287, x288, x289, x290, x291, x292, x293, x294, x295, x296, x297, x298, x299, x300, x301, x302, x303, x304, x305, x306, x307, x308, x309, x310, x311, x312, x313, x314, x315, ov, (.slice (some ⟨g2, 0, none⟩) K K), (.int .i64 (i : Int)), (.pointer (some ⟨g2, i * 4, none⟩)), (.agg #[v0, v1, v2, v3]), (.int .i64 rp), (.agg #[nb, nl]), (.int .i64 (i : Int)), (.slice pa ln pc), (.agg #[nb, nl]), (.slice lao M lcap), (.int .i64 (i : Int)), (.slice (some ⟨g2, 0, none⟩) K K), (.int .i64 (i : Int)), (.pointer (some ⟨g2, i * 4, none⟩)), (.agg #[v0, v1, v2, v3]), (.int .i64 rp), (.slice oao ol ocap), (.slice ra ln rc), (.agg #[v0, v1, v2, v3, .int .i64 rp, .slice pa ln pc, .slice ra ln rc]), (.slice (some ⟨gp, 0, none⟩) 1 1), v', x338, x339, x340], defers := df } w')
include hQ hC k1 hP hR hS hA fin in
set_option maxRecDepth 100000 in
set_option maxHeartbeats 8000000 in
theorem pz73 (x316 x317 x318 x319 x320 x321 x322 x323 x324 x325 x326 x327 x328 x329 x330 x331 x332 x333 x334 x335 x336 x337 : Value) : (Code.region 73 pz73_ops true).wp Tryz.prog Q { tmps := #[x0, x1, (.pointer (some ⟨BN, 0, none⟩)), x3, x4, x5, x6, (.slice lao M lcap), x8, x9, x10, x11, x12, x13, (.slice (some ⟨g2, 0, none⟩) K K), x15, x16, x17, x18, x19, x20, x21, x22, x23, ov, (.int .i64 (i : Int)), (.slice oao ol ocap), (.int .i64 rp), x28, x29, x30, x31, x32, x33, x34, x35, x36, x37, x38, x39, x40, x41, x42, x43, x44, x45, x46, x47, x48, x49, x50, x51, x52, x53, x54, x55, x56, x57, x58, x59, x60, x61, x62, x63, x64, x65, x66, x67, x68, x69, x70, x71, x72, x73, x74, x75, x76, x77, x78, x79, x80, x81, x82, x83, x84, x85, x86, x87, x88, x89, x90, x91, x92, x93, x94, x95, x96, x97, x98, x99, x100, x101, x102, x103, x104, x105, x106, x107, x108, x109, x110, x111, x112, x113, x114, x115, x116, x117, x118, x119, x120, x121, x122, x123, x124, x125, x126, x127, x128, x129, x130, x131, x132, x133, x134, x135, x136, x137, x138, x139, x140, x141, x142, x143, x144, x145, x146, x147, x148, x149, x150, x151, x152, x153, x154, x155, x156, x157, x158, x159, x160, x161, x162, x163, x164, x165, x166, x167, x168, x169, x170, x171, x172, x173, x174, x175, x176, x177, x178, x179, x180, x181, x182, x183, x184, x185, x186, x187, x188, x189, x190, x191, x192, x193, x194, x195, x196, x197, x198, x199, x200, x201, x202, x203, x204, x205, x206, x207, x208, x209, x210, x211, x212, x213, x214, x215, x216, x217, x218, x219, x220, x221, x222, x223, x224, x225, x226, x227, x228, x229, x230, x231, x232, x233, x234, x235, x236, x237, x238, x239, x240, x241, x242, x243, x244, x245, x246, x247, x248, x249, x250, x251, x252, x253, x254, x255, x256, x257, x258, x259, x260, x261, x262, x263, x264, x265, x266, x267, x268, x269, x270, x271, x272, x273, x274, x275, x276, x277, x278, x279, x280, x281, x282, x283, x284, x285, x286, x287, x288, x289, x290, x291, x292, x293, x294, x295, x296, x297, x298, x299, x300, x301, x302, x303, x304, x305, x306, x307, x308, x309, x310, x311, x312, x313, x314, x315, x316, x317, x318, x319, x320, x321, x322, x323, x324, x325, x326, x327, x328, x329, x330, x331, x332, x333, x334, x335, x336, x337, x338, x339, x340], defers := df } X := by
 have hX0 : Below X.heap.size X X.drew := Below.drew (Below.refl _ _)
 have i1 : (0 : Int) ≤ (i : Int) := by omega
 have i2 : (i : Int) < (K : Int) := by omega
 refine wp_region_z (z := 22) (C := fun W => W.cell? ⟨BN, 0, none⟩ = some nb ∧ W.cell? ⟨BN, 1, none⟩ = some nl ∧ (W.cell? ⟨g2, i * 4, none⟩ = some v0 ∧ W.cell? ⟨g2, i * 4 + 1, none⟩ = some v1 ∧ W.cell? ⟨g2, i * 4 + 2, none⟩ = some v2 ∧ W.cell? ⟨g2, i * 4 + 3, none⟩ = some v3)) (by kernel_rfl) (hC _ hX0) (fun hHeld => ?_)
 refine z_take (i := 0) (oi := ⟨some 316, .move (.tmp 24), 30, "ref.go:198", #[], none⟩) (v := ?_) (some 316) rfl rfl (by kernel_rfl) (by kernel_rfl) (by kernel_rfl) (by decide) (fun c a w h => hQ c a _ _ w h) (by rfl) ?_ hHeld ?_
 rotate_left 1
 ·(intro wq; go_simp; try with_reducible rfl)
 (try simp only [Act.put, List.setIfInBounds_toArray, List.set_cons_zero, List.set_cons_succ])
 refine z_take (i := 1) (oi := ⟨some 317, .move (.tmp 14), 82, "ref.go:198", #[], none⟩) (v := ?_) (some 317) rfl rfl (by kernel_rfl) (by kernel_rfl) (by kernel_rfl) (by decide) (fun c a w h => hQ c a _ _ w h) (by rfl) ?_ hHeld ?_
 rotate_left 1
 ·(intro wq; go_simp; try with_reducible rfl)
 (try simp only [Act.put, List.setIfInBounds_toArray, List.set_cons_zero, List.set_cons_succ])
 refine z_take (i := 2) (oi := ⟨some 318, .move (.tmp 25), 3, "ref.go:198", #[], none⟩) (v := ?_) (some 318) rfl rfl (by kernel_rfl) (by kernel_rfl) (by kernel_rfl) (by decide) (fun c a w h => hQ c a _ _ w h) (by rfl) ?_ hHeld ?_
 rotate_left 1
 ·(intro wq; go_simp; try with_reducible rfl)
 (try simp only [Act.put, List.setIfInBounds_toArray, List.set_cons_zero, List.set_cons_succ])
 refine z_take (i := 3) (oi := ⟨some 319, .indexAddr 82 (.tmp 317) (.tmp 318), 0, "ref.go:198", #[⟨1, .data⟩, ⟨2, .data⟩], none⟩) (v := ?_) (some 319) rfl rfl (by kernel_rfl) (by kernel_rfl) (by kernel_rfl) (by decide) (fun c a w h => hQ c a _ _ w h) (by rfl) ?_ hHeld ?_
 rotate_left 1
 ·(intro wq; go_simp; try with_reducible rfl)
 (try simp only [Act.put, List.setIfInBounds_toArray, List.set_cons_zero, List.set_cons_succ])
 refine z_load (i := 4) (oi := ⟨some 320, .load 48 (.tmp 319), 48, "ref.go:198", #[⟨3, .data⟩], none⟩) (v := ?_) (some 320) rfl rfl (by kernel_rfl) (by kernel_rfl) (by kernel_rfl) (by kernel_rfl) (fun c a w h => hQ c a _ _ w h) (by rfl) ?_ hHeld ?_
 rotate_left 1
 ·(intro wq hSw; go_simp; try with_reducible rfl)
 (try simp only [Act.put, List.setIfInBounds_toArray, List.set_cons_zero, List.set_cons_succ])
 refine z_take (i := 5) (oi := ⟨some 321, .move (.tmp 27), 3, "ref.go:198", #[], none⟩) (v := ?_) (some 321) rfl rfl (by kernel_rfl) (by kernel_rfl) (by kernel_rfl) (by decide) (fun c a w h => hQ c a _ _ w h) (by rfl) ?_ hHeld ?_
 rotate_left 1
 ·(intro wq; go_simp; try with_reducible rfl)
 (try simp only [Act.put, List.setIfInBounds_toArray, List.set_cons_zero, List.set_cons_succ])
 refine z_load (i := 6) (oi := ⟨some 322, .load 25 (.tmp 2), 25, "ref.go:198", #[], none⟩) (v := ?_) (some 322) rfl rfl (by kernel_rfl) (by kernel_rfl) (by kernel_rfl) (by kernel_rfl) (fun c a w h => hQ c a _ _ w h) (by rfl) ?_ hHeld ?_
 rotate_left 1
 ·(intro wq hSw; go_simp; try with_reducible rfl)
 (try simp only [Act.put, List.setIfInBounds_toArray, List.set_cons_zero, List.set_cons_succ])
 refine z_take (i := 7) (oi := ⟨some 323, .move (.tmp 25), 3, "ref.go:198", #[], none⟩) (v := ?_) (some 323) rfl rfl (by kernel_rfl) (by kernel_rfl) (by kernel_rfl) (by decide) (fun c a w h => hQ c a _ _ w h) (by rfl) ?_ hHeld ?_
 rotate_left 1
 ·(intro wq; go_simp; try with_reducible rfl)
 (try simp only [Act.put, List.setIfInBounds_toArray, List.set_cons_zero, List.set_cons_succ])
 refine z_load (i := 9) (oi := ⟨some 325, .load 25 (.tmp 2), 25, "ref.go:198", #[], none⟩) (v := ?_) (some 325) rfl rfl (by kernel_rfl) (by kernel_rfl) (by kernel_rfl) (by kernel_rfl) (fun c a w h => hQ c a _ _ w h) (by rfl) ?_ hHeld ?_
 rotate_left 1
 ·(intro wq hSw; go_simp; try with_reducible rfl)
 (try simp only [Act.put, List.setIfInBounds_toArray, List.set_cons_zero, List.set_cons_succ])
 refine z_take (i := 10) (oi := ⟨some 326, .move (.tmp 7), 23, "ref.go:198", #[], none⟩) (v := ?_) (some 326) rfl rfl (by kernel_rfl) (by kernel_rfl) (by kernel_rfl) (by decide) (fun c a w h => hQ c a _ _ w h) (by rfl) ?_ hHeld ?_
 rotate_left 1
 ·(intro wq; go_simp; try with_reducible rfl)
 (try simp only [Act.put, List.setIfInBounds_toArray, List.set_cons_zero, List.set_cons_succ])
 refine z_take (i := 11) (oi := ⟨some 327, .move (.tmp 25), 3, "ref.go:198", #[], none⟩) (v := ?_) (some 327) rfl rfl (by kernel_rfl) (by kernel_rfl) (by kernel_rfl) (by decide) (fun c a w h => hQ c a _ _ w h) (by rfl) ?_ hHeld ?_
 rotate_left 1
 ·(intro wq; go_simp; try with_reducible rfl)
 (try simp only [Act.put, List.setIfInBounds_toArray, List.set_cons_zero, List.set_cons_succ])
 refine z_take (i := 12) (oi := ⟨some 328, .move (.tmp 14), 82, "ref.go:198", #[], none⟩) (v := ?_) (some 328) rfl rfl (by kernel_rfl) (by kernel_rfl) (by kernel_rfl) (by decide) (fun c a w h => hQ c a _ _ w h) (by rfl) ?_ hHeld ?_
 rotate_left 1
 ·(intro wq; go_simp; try with_reducible rfl)
 (try simp only [Act.put, List.setIfInBounds_toArray, List.set_cons_zero, List.set_cons_succ])
 refine z_take (i := 13) (oi := ⟨some 329, .move (.tmp 25), 3, "ref.go:198", #[], none⟩) (v := ?_) (some 329) rfl rfl (by kernel_rfl) (by kernel_rfl) (by kernel_rfl) (by decide) (fun c a w h => hQ c a _ _ w h) (by rfl) ?_ hHeld ?_
 rotate_left 1
 ·(intro wq; go_simp; try with_reducible rfl)
 (try simp only [Act.put, List.setIfInBounds_toArray, List.set_cons_zero, List.set_cons_succ])
 refine z_take (i := 14) (oi := ⟨some 330, .indexAddr 82 (.tmp 328) (.tmp 329), 0, "ref.go:198", #[⟨12, .data⟩, ⟨13, .data⟩], none⟩) (v := ?_) (some 330) rfl rfl (by kernel_rfl) (by kernel_rfl) (by kernel_rfl) (by decide) (fun c a w h => hQ c a _ _ w h) (by rfl) ?_ hHeld ?_
 rotate_left 1
 ·(intro wq; go_simp; try with_reducible rfl)
 (try simp only [Act.put, List.setIfInBounds_toArray, List.set_cons_zero, List.set_cons_succ])
 refine z_load (i := 15) (oi := ⟨some 331, .load 48 (.tmp 330), 48, "ref.go:198", #[⟨14, .data⟩], none⟩) (v := ?_) (some 331) rfl rfl (by kernel_rfl) (by kernel_rfl) (by kernel_rfl) (by kernel_rfl) (fun c a w h => hQ c a _ _ w h) (by rfl) ?_ hHeld ?_
 rotate_left 1
 ·(intro wq hSw; go_simp; try with_reducible rfl)
 (try simp only [Act.put, List.setIfInBounds_toArray, List.set_cons_zero, List.set_cons_succ])
 refine z_take (i := 16) (oi := ⟨some 332, .move (.tmp 27), 3, "ref.go:198", #[], none⟩) (v := ?_) (some 332) rfl rfl (by kernel_rfl) (by kernel_rfl) (by kernel_rfl) (by decide) (fun c a w h => hQ c a _ _ w h) (by rfl) ?_ hHeld ?_
 rotate_left 1
 ·(intro wq; go_simp; try with_reducible rfl)
 (try simp only [Act.put, List.setIfInBounds_toArray, List.set_cons_zero, List.set_cons_succ])
 refine z_take (i := 17) (oi := ⟨some 333, .move (.tmp 26), 80, "ref.go:198", #[], none⟩) (v := ?_) (some 333) rfl rfl (by kernel_rfl) (by kernel_rfl) (by kernel_rfl) (by decide) (fun c a w h => hQ c a _ _ w h) (by rfl) ?_ hHeld ?_
 rotate_left 1
 ·(intro wq; go_simp; try with_reducible rfl)
 (try simp only [Act.put, List.setIfInBounds_toArray, List.set_cons_zero, List.set_cons_succ])
 refine z_one (i := 8) (o := ⟨some 324, .call { callee := .value (.func 36), args := #[.tmp 322, .tmp 323], argTypes := #[25, 3] }, 35, "ref.go:198", #[⟨6, .data⟩, ⟨7, .data⟩], none⟩) (by kernel_rfl) rfl (fun K hK => ?_)
 go_simp
 refine (hP _ hX0).mono ?_
 rintro e w1 ⟨pa, pc, rfl, H1⟩
 have hX1 : Below X.heap.size X w1 := hX0.trans (H1.out.1.mono hX0.size)
 clear hHeld
 refine hK.out _ _ (Or.inr (hC _ hX1)) (fun hHeld => ?_)
 clear hK K
 (try simp only [List.setIfInBounds_toArray, List.set_cons_zero, List.set_cons_succ])
 refine z_one (i := 18) (o := ⟨some 334, .call { callee := .value (.func 37), args := #[.tmp 325, .tmp 326, .tmp 327, .tmp 331, .tmp 332, .tmp 333], argTypes := #[25, 23, 3, 48, 3, 80] }, 35, "ref.go:198", #[⟨9, .data⟩, ⟨10, .data⟩, ⟨11, .data⟩, ⟨15, .data⟩, ⟨16, .data⟩, ⟨17, .data⟩, ⟨8, .chain⟩], none⟩) (by kernel_rfl) rfl (fun K hK => ?_)
 go_simp
 refine (hR _ hX1).mono ?_
 rintro e w2 ⟨ra, rc, rfl, H2⟩
 have hX2 : Below X.heap.size X w2 := hX1.trans (H2.out.1.mono hX1.size)
 clear hHeld
 refine hK.out _ _ (Or.inr (hC _ hX2)) (fun hHeld => ?_)
 clear hK K
 (try simp only [List.setIfInBounds_toArray, List.set_cons_zero, List.set_cons_succ])
 refine z_take (i := 19) (oi := ⟨some 335, .build 50 #[(0, .tmp 320), (1, .tmp 321), (2, .tmp 324), (3, .tmp 334)], 50, "ref.go:198", #[⟨4, .data⟩, ⟨5, .data⟩, ⟨8, .data⟩, ⟨18, .data⟩], none⟩) (v := ?_) (some 335) rfl rfl (by kernel_rfl) (by kernel_rfl) (by kernel_rfl) (by decide) (fun c a w h => hQ c a _ _ w h) (by rfl) ?_ hHeld ?_
 rotate_left 1
 ·(intro wq; go_simp; try with_reducible rfl)
 (try simp only [Act.put, List.setIfInBounds_toArray, List.set_cons_zero, List.set_cons_succ])
 refine z_one (i := 20) (o := ⟨some 336, .buildSlice 30 1 #[(0, .tmp 335)], 30, "ref.go:198", #[⟨19, .data⟩], none⟩) (by kernel_rfl) rfl (fun K hK => ?_)
 go_simp
 have hXa : Below X.heap.size X (w2.alloc (.cells #[v0, v1, v2, v3, .int .i64 rp, .slice pa ln pc, .slice ra ln rc] 50)) := hX2.trans ((below_alloc1 _ _).mono hX2.size)
 refine hK.out _ _ (Or.inr (hC _ hXa)) (fun hHeld => ?_)
 clear hK K
 (try simp only [List.setIfInBounds_toArray, List.set_cons_zero, List.set_cons_succ])
 obtain ⟨v', w3, hrun, hF, hC3⟩ := hA w2 pa pc ra rc hX2 (hS _ _ _ _ H1.out.2 H2.out.1) H2.out.2
 refine z_one (i := 21) (o := ⟨some 337, .call { callee := .builtin .append, args := #[.tmp 316, .tmp 336], argTypes := #[30, 30] }, 30, "ref.go:198", #[⟨0, .data⟩, ⟨20, .data⟩, ⟨18, .chain⟩], none⟩) (by kernel_rfl) rfl (fun K hK => ?_)
 refine step_append_d (some 337) rfl rfl (.tmp 316) (.tmp 336) 30 rfl _ _ _ rfl rfl hrun ?_
 refine hK.out _ _ (Or.inr hC3) (fun hHeld => ?_)
 clear hK K
 (try simp only [Act.put, List.setIfInBounds_toArray, List.set_cons_zero, List.set_cons_succ])
 refine z_one (i := 22) (o := ⟨some 24, .assign (.tmp 337), 30, "ref.go:198", #[⟨21, .data⟩, ⟨21, .chain⟩, ⟨0, .phase⟩, ⟨1, .phase⟩, ⟨2, .phase⟩, ⟨3, .phase⟩, ⟨4, .phase⟩, ⟨5, .phase⟩, ⟨6, .phase⟩, ⟨7, .phase⟩, ⟨8, .phase⟩, ⟨9, .phase⟩, ⟨10, .phase⟩, ⟨11, .phase⟩, ⟨12, .phase⟩, ⟨13, .phase⟩, ⟨14, .phase⟩, ⟨15, .phase⟩, ⟨16, .phase⟩, ⟨17, .phase⟩, ⟨18, .phase⟩, ⟨19, .phase⟩, ⟨20, .phase⟩, ⟨21, .phase⟩], none⟩) (by kernel_rfl) rfl (fun K hK => ?_)
 go_simp
 refine hK.out _ _ (Or.inl (by kernel_rfl)) (fun hHeld => ?_)
 (try simp only [List.setIfInBounds_toArray, List.set_cons_zero, List.set_cons_succ])
 refine z_done (by kernel_rfl) ?_ _
 exact fin pa pc ra rc _ v' _ hF
end
end
end Go.Proofs.YtcbpafpaimpfnaaGreatDoor
