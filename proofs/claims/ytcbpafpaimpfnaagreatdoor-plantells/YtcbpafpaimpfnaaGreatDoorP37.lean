/- The document's Plan: a region that draws its order and holds calls (written by tools/gen_pqz.py) -/
import Derived.Test.YtcbpafpaimpfnaaGreatDoorP33
namespace Go.Proofs.YtcbpafpaimpfnaaGreatDoor
section
open Go.RowKit
open Vc (V Of)
section
variable {Q : Exit → Act → World → Prop} (df : List Deferred) (X : World) (g3 Bv Bb Bo K i : Nat) (fi rt po : Int) (a b : V)
variable (x0 x1 x2 x3 x4 x5 x6 x7 x8 x9 x10 x11 x12 x13 x14 x16 x17 x18 x19 x20 x21 x22 x23 x24 x26 x29 x32 x33 x34 x35 x36 x37 x38 x39 x40 x41 x42 x43 x44 x45 x46 x47 x48 x49 x50 x51 x52 x53 x54 x55 x56 x57 x58 x59 x60 x61 x62 x63 x64 x65 x66 x67 x68 x69 x70 x71 x72 x73 x74 x75 x76 x77 x78 x79 x80 x81 x82 x83 x84 x85 x86 x87 x88 x89 x90 x91 x92 x93 x94 x95 x96 x97 x98 x99 x100 x101 x102 x103 x104 x105 x106 x107 x108 x109 x110 x111 x112 x113 x114 x115 x116 x117 x118 x119 x120 x121 x122 x123 x124 x125 x126 x127 x128 x129 x130 x131 x132 x133 x134 x135 x136 x137 x138 x139 x140 x141 x142 x143 x144 x145 x146 x147 x148 x149 x150 x151 x152 x153 x154 x155 x156 x157 x158 x159 x160 x161 x162 x163 x164 x165 x166 x167 x168 x169 x170 x171 x172 x173 x174 x175 x176 x177 x178 x179 x180 x181 x182 x183 x184 x185 x186 x187 x188 x189 x190 x191 x192 x193 x194 x195 x196 x197 x198 x199 x200 x201 x202 x203 x204 x205 x206 x207 x208 x209 x210 x211 x212 x213 x214 x215 x216 x217 x218 x219 x220 x221 x222 x223 x224 x225 x226 x227 x228 x229 x230 x231 x232 x233 x234 x235 x236 x237 x238 x239 x240 x241 x242 x243 x244 x245 x246 x247 x248 x249 x250 x251 x252 x253 x254 x255 x256 x257 x258 x259 x260 x261 x262 x263 x264 x265 x266 x267 x268 x269 x270 x271 x272 x273 x274 x275 x276 x277 x312 x313 x314 x315 x316 x317 x318 x319 x320 x321 x322 x323 x324 x325 x326 x327 x328 x329 x330 x331 x332 x333 x334 x335 x336 x337 x338 x339 x340 : Value)
variable (hQ : ∀ c (a : Act) (d : Tmp) (v : Value) (w : World), Q (.panic c) (a.put (some d) v) w → Q (.panic c) a w)
variable (hC : ∀ V, Below X.heap.size X V → V.cell? ⟨g3, i, none⟩ = some (.int .i64 fi) ∧ (V.cell? ⟨Bv, 0, none⟩ = some (.int .u64 a.root) ∧ V.cell? ⟨Bv, 1, none⟩ = some (.int .i64 a.cost) ∧ V.cell? ⟨Bv, 2, none⟩ = some (.int .u64 a.bridge) ∧ V.cell? ⟨Bv, 3, none⟩ = some (.int .i64 a.port)) ∧ (V.cell? ⟨Bb, 0, none⟩ = some (.int .u64 b.root) ∧ V.cell? ⟨Bb, 1, none⟩ = some (.int .i64 b.cost) ∧ V.cell? ⟨Bb, 2, none⟩ = some (.int .u64 b.bridge) ∧ V.cell? ⟨Bb, 3, none⟩ = some (.int .i64 b.port)) ∧ V.cell? ⟨Bo, 0, none⟩ = some (.int .i64 po))
variable (k1 : i < K)
variable (hf : ¬ 0 < fi)
variable (fin : ∀ (w' : World), Below X.heap.size X w' → Q .normal { tmps := #[x0, x1, x2, x3, x4, x5, x6, x7, x8, x9, x10, x11, x12, x13, x14, (.slice (some ⟨g3, 0, none⟩) K K), x16, x17, x18, x19, x20, x21, x22, x23, x24, (.int .i64 (i : Int)), x26, (.int .i64 rt), (.pointer (some ⟨Bb, 0, none⟩)), x29, (.pointer (some ⟨Bo, 0, none⟩)), (.pointer (some ⟨Bv, 0, none⟩)), x32, x33, x34, x35, x36, x37, x38, x39, x40, x41, x42, x43, x44, x45, x46, x47, x48, x49, x50, x51, x52, x53, x54, x55, x56, x57, x58, x59, x60, x61, x62, x63, x64, x65, x66, x67, x68, x69, x70, x71, x72, x73, x74, x75, x76, x77, x78, x79, x80, x81, x82, x83, x84, x85, x86, x87, x88, x89, x90, x91, x92, x93, x94, x95, x96, x97, x98, x99, x100, x101, x102, x103, x104, x105, x106, x107, x108, x109, x110, x111, x112, x113, x114, x115, x116, x117, x118, x119, x120, x121, x122, x123, x124, x125, x126, x127, x128, x129, x130, x131, x132, x133, x134, x135, x136, x137, x138, x139, x140, x141, x142, x143, x144, x145, x146, x147, x148, x149, x150, x151, x152, x153, x154, x155, x156, x157, x158, x159, x160, x161, x162, x163, x164, x165, x166, x167, x168, x169, x170, x171, x172, x173, x174, x175, x176, x177, x178, x179, x180, x181, x182, x183, x184, x185, x186, x187, x188, x189, x190, x191, x192, x193, x194, x195, x196, x197, x198, x199, x200, x201, x202, x203, x204, x205, x206, x207, x208, x209, x210, x211, x212, x213, x214, x215, x216, x217, x218, x219, x220, x221, x222, x223, x224, x225, x226, x227, x228, x229, x230, x231, x232, x233, x234, x235, x236, x237, x238, x239, x240, x241, x242, x243, x244, x245, x246, x247, x248, x249, x250, x251, x252, x253, x254, x255, x256, x257, x258, x259, x260, x261, x262, x263, x264, x265, x266, x267, x268, x269, x270, x271, x272, x273, x274, x275, x276, x277, (.slice (some ⟨g3, 0, none⟩) K K), (.int .i64 (i : Int)), (.pointer (some ⟨g3, i, none⟩)), (.int .i64 fi), (.bool false), (.bool false), undef, undef, undef, undef, undef, undef, undef, (.bool false), (.bool false), undef, undef, undef, undef, undef, undef, undef, undef, undef, undef, undef, undef, undef, undef, undef, undef, undef, undef, (.bool false), x312, x313, x314, x315, x316, x317, x318, x319, x320, x321, x322, x323, x324, x325, x326, x327, x328, x329, x330, x331, x332, x333, x334, x335, x336, x337, x338, x339, x340], defers := df } w')
include hQ hC k1 hf fin in
set_option maxRecDepth 100000 in
set_option maxHeartbeats 8000000 in
theorem pz70d (x278 x279 x280 x281 x282 x283 x284 x285 x286 x287 x288 x289 x290 x291 x292 x293 x294 x295 x296 x297 x298 x299 x300 x301 x302 x303 x304 x305 x306 x307 x308 x309 x310 x311 : Value) : (Code.region 70 pz70_ops true).wp Tryz.prog Q { tmps := #[x0, x1, x2, x3, x4, x5, x6, x7, x8, x9, x10, x11, x12, x13, x14, (.slice (some ⟨g3, 0, none⟩) K K), x16, x17, x18, x19, x20, x21, x22, x23, x24, (.int .i64 (i : Int)), x26, (.int .i64 rt), (.pointer (some ⟨Bb, 0, none⟩)), x29, (.pointer (some ⟨Bo, 0, none⟩)), (.pointer (some ⟨Bv, 0, none⟩)), x32, x33, x34, x35, x36, x37, x38, x39, x40, x41, x42, x43, x44, x45, x46, x47, x48, x49, x50, x51, x52, x53, x54, x55, x56, x57, x58, x59, x60, x61, x62, x63, x64, x65, x66, x67, x68, x69, x70, x71, x72, x73, x74, x75, x76, x77, x78, x79, x80, x81, x82, x83, x84, x85, x86, x87, x88, x89, x90, x91, x92, x93, x94, x95, x96, x97, x98, x99, x100, x101, x102, x103, x104, x105, x106, x107, x108, x109, x110, x111, x112, x113, x114, x115, x116, x117, x118, x119, x120, x121, x122, x123, x124, x125, x126, x127, x128, x129, x130, x131, x132, x133, x134, x135, x136, x137, x138, x139, x140, x141, x142, x143, x144, x145, x146, x147, x148, x149, x150, x151, x152, x153, x154, x155, x156, x157, x158, x159, x160, x161, x162, x163, x164, x165, x166, x167, x168, x169, x170, x171, x172, x173, x174, x175, x176, x177, x178, x179, x180, x181, x182, x183, x184, x185, x186, x187, x188, x189, x190, x191, x192, x193, x194, x195, x196, x197, x198, x199, x200, x201, x202, x203, x204, x205, x206, x207, x208, x209, x210, x211, x212, x213, x214, x215, x216, x217, x218, x219, x220, x221, x222, x223, x224, x225, x226, x227, x228, x229, x230, x231, x232, x233, x234, x235, x236, x237, x238, x239, x240, x241, x242, x243, x244, x245, x246, x247, x248, x249, x250, x251, x252, x253, x254, x255, x256, x257, x258, x259, x260, x261, x262, x263, x264, x265, x266, x267, x268, x269, x270, x271, x272, x273, x274, x275, x276, x277, x278, x279, x280, x281, x282, x283, x284, x285, x286, x287, x288, x289, x290, x291, x292, x293, x294, x295, x296, x297, x298, x299, x300, x301, x302, x303, x304, x305, x306, x307, x308, x309, x310, x311, x312, x313, x314, x315, x316, x317, x318, x319, x320, x321, x322, x323, x324, x325, x326, x327, x328, x329, x330, x331, x332, x333, x334, x335, x336, x337, x338, x339, x340], defers := df } X := by
 have hX0 : Below X.heap.size X X.drew := Below.drew (Below.refl _ _)
 have i1 : (0 : Int) ≤ (i : Int) := by omega
 have i2 : (i : Int) < (K : Int) := by omega
 have hz1 : decide (0 < fi) = false := decide_eq_false hf
 refine wp_region_z (z := 33) (C := fun W => W.cell? ⟨g3, i, none⟩ = some (.int .i64 fi) ∧ (W.cell? ⟨Bv, 0, none⟩ = some (.int .u64 a.root) ∧ W.cell? ⟨Bv, 1, none⟩ = some (.int .i64 a.cost) ∧ W.cell? ⟨Bv, 2, none⟩ = some (.int .u64 a.bridge) ∧ W.cell? ⟨Bv, 3, none⟩ = some (.int .i64 a.port)) ∧ (W.cell? ⟨Bb, 0, none⟩ = some (.int .u64 b.root) ∧ W.cell? ⟨Bb, 1, none⟩ = some (.int .i64 b.cost) ∧ W.cell? ⟨Bb, 2, none⟩ = some (.int .u64 b.bridge) ∧ W.cell? ⟨Bb, 3, none⟩ = some (.int .i64 b.port)) ∧ W.cell? ⟨Bo, 0, none⟩ = some (.int .i64 po)) (by kernel_rfl) (hC _ hX0) (fun hHeld => ?_)
 refine z_take (i := 0) (oi := ⟨some 278, .move (.tmp 15), 35, "ref.go:194", #[], none⟩) (v := ?_) (some 278) rfl rfl (by kernel_rfl) (by kernel_rfl) (by kernel_rfl) (by decide) (fun c a w h => hQ c a _ _ w h) (by rfl) ?_ hHeld ?_
 rotate_left 1
 ·(intro wq; go_simp; try with_reducible rfl)
 (try simp only [Act.put, List.setIfInBounds_toArray, List.set_cons_zero, List.set_cons_succ])
 refine z_take (i := 1) (oi := ⟨some 279, .move (.tmp 25), 3, "ref.go:194", #[], none⟩) (v := ?_) (some 279) rfl rfl (by kernel_rfl) (by kernel_rfl) (by kernel_rfl) (by decide) (fun c a w h => hQ c a _ _ w h) (by rfl) ?_ hHeld ?_
 rotate_left 1
 ·(intro wq; go_simp; try with_reducible rfl)
 (try simp only [Act.put, List.setIfInBounds_toArray, List.set_cons_zero, List.set_cons_succ])
 refine z_take (i := 2) (oi := ⟨some 280, .indexAddr 35 (.tmp 278) (.tmp 279), 0, "ref.go:194", #[⟨0, .data⟩, ⟨1, .data⟩], none⟩) (v := ?_) (some 280) rfl rfl (by kernel_rfl) (by kernel_rfl) (by kernel_rfl) (by decide) (fun c a w h => hQ c a _ _ w h) (by rfl) ?_ hHeld ?_
 rotate_left 1
 ·(intro wq; go_simp; try with_reducible rfl)
 (try simp only [Act.put, List.setIfInBounds_toArray, List.set_cons_zero, List.set_cons_succ])
 refine z_load (i := 3) (oi := ⟨some 281, .load 3 (.tmp 280), 3, "ref.go:194", #[⟨2, .data⟩], none⟩) (v := ?_) (some 281) rfl rfl (by kernel_rfl) (by kernel_rfl) (by kernel_rfl) (by kernel_rfl) (fun c a w h => hQ c a _ _ w h) (by rfl) ?_ hHeld ?_
 rotate_left 1
 ·(intro wq hSw; go_simp; try with_reducible rfl)
 (try simp only [Act.put, List.setIfInBounds_toArray, List.set_cons_zero, List.set_cons_succ])
 refine z_take (i := 4) (oi := ⟨some 282, .binOp .gtr 3 (.tmp 281) (.const (.int .i64 0)) 3, 4, "ref.go:194", #[⟨3, .data⟩], none⟩) (v := ?_) (some 282) rfl rfl (by kernel_rfl) (by kernel_rfl) (by kernel_rfl) (by decide) (fun c a w h => hQ c a _ _ w h) (by rfl) ?_ hHeld ?_
 rotate_left 1
 ·(intro wq; go_simp; try with_reducible rfl)
 (try simp only [Act.put, List.setIfInBounds_toArray, List.set_cons_zero, List.set_cons_succ])
 refine z_take (i := 5) (oi := ⟨some 283, .move (.tmp 282), 4, "ref.go:194", #[⟨4, .data⟩], none⟩) (v := ?_) (some 283) rfl rfl (by kernel_rfl) (by kernel_rfl) (by kernel_rfl) (by decide) (fun c a w h => hQ c a _ _ w h) (by rfl) ?_ hHeld ?_
 rotate_left 1
 ·(intro wq; go_simp; try with_reducible rfl)
 (try simp only [Act.put, List.setIfInBounds_toArray, List.set_cons_zero, List.set_cons_succ])
 refine z_skip (i := 6) (oi := ⟨some 284, .fieldAddr 48 (.tmp 31) 1, 0, "ref.go:194", #[⟨5, .guard⟩], some (5, true)⟩) (some 284) rfl rfl (by kernel_rfl) (by kernel_rfl) (by kernel_rfl) (by decide) (fun c a w h => hQ c a _ _ w h) (by rfl) hHeld ?_
 (try simp only [Act.put, List.setIfInBounds_toArray, List.set_cons_zero, List.set_cons_succ])
 refine z_skip (i := 7) (oi := ⟨some 285, .load 3 (.tmp 284), 3, "ref.go:194", #[⟨6, .data⟩, ⟨5, .guard⟩], some (5, true)⟩) (some 285) rfl rfl (by kernel_rfl) (by kernel_rfl) (by kernel_rfl) (by decide) (fun c a w h => hQ c a _ _ w h) (by rfl) hHeld ?_
 (try simp only [Act.put, List.setIfInBounds_toArray, List.set_cons_zero, List.set_cons_succ])
 refine z_skip (i := 8) (oi := ⟨some 286, .move (.tmp 15), 35, "ref.go:194", #[⟨5, .guard⟩], some (5, true)⟩) (some 286) rfl rfl (by kernel_rfl) (by kernel_rfl) (by kernel_rfl) (by decide) (fun c a w h => hQ c a _ _ w h) (by rfl) hHeld ?_
 (try simp only [Act.put, List.setIfInBounds_toArray, List.set_cons_zero, List.set_cons_succ])
 refine z_skip (i := 9) (oi := ⟨some 287, .move (.tmp 25), 3, "ref.go:194", #[⟨5, .guard⟩], some (5, true)⟩) (some 287) rfl rfl (by kernel_rfl) (by kernel_rfl) (by kernel_rfl) (by decide) (fun c a w h => hQ c a _ _ w h) (by rfl) hHeld ?_
 (try simp only [Act.put, List.setIfInBounds_toArray, List.set_cons_zero, List.set_cons_succ])
 refine z_skip (i := 10) (oi := ⟨some 288, .indexAddr 35 (.tmp 286) (.tmp 287), 0, "ref.go:194", #[⟨8, .data⟩, ⟨9, .data⟩, ⟨5, .guard⟩], some (5, true)⟩) (some 288) rfl rfl (by kernel_rfl) (by kernel_rfl) (by kernel_rfl) (by decide) (fun c a w h => hQ c a _ _ w h) (by rfl) hHeld ?_
 (try simp only [Act.put, List.setIfInBounds_toArray, List.set_cons_zero, List.set_cons_succ])
 refine z_skip (i := 11) (oi := ⟨some 289, .load 3 (.tmp 288), 3, "ref.go:194", #[⟨10, .data⟩, ⟨5, .guard⟩], some (5, true)⟩) (some 289) rfl rfl (by kernel_rfl) (by kernel_rfl) (by kernel_rfl) (by decide) (fun c a w h => hQ c a _ _ w h) (by rfl) hHeld ?_
 (try simp only [Act.put, List.setIfInBounds_toArray, List.set_cons_zero, List.set_cons_succ])
 refine z_skip (i := 12) (oi := ⟨some 290, .binOp .eql 3 (.tmp 285) (.tmp 289) 3, 4, "ref.go:194", #[⟨7, .data⟩, ⟨11, .data⟩, ⟨5, .guard⟩], some (5, true)⟩) (some 290) rfl rfl (by kernel_rfl) (by kernel_rfl) (by kernel_rfl) (by decide) (fun c a w h => hQ c a _ _ w h) (by rfl) hHeld ?_
 (try simp only [Act.put, List.setIfInBounds_toArray, List.set_cons_zero, List.set_cons_succ])
 refine z_take (i := 13) (oi := ⟨some 291, .pick (.tmp 283) (.tmp 290) (.const (Value.bool false)), 4, "ref.go:194", #[⟨5, .data⟩, ⟨12, .data⟩], none⟩) (v := ?_) (some 291) rfl rfl (by kernel_rfl) (by kernel_rfl) (by kernel_rfl) (by decide) (fun c a w h => hQ c a _ _ w h) (by rfl) ?_ hHeld ?_
 rotate_left 1
 ·(intro wq; go_simp; try with_reducible rfl)
 (try simp only [Act.put, List.setIfInBounds_toArray, List.set_cons_zero, List.set_cons_succ])
 refine z_take (i := 14) (oi := ⟨some 292, .move (.tmp 291), 4, "ref.go:194", #[⟨13, .data⟩, ⟨5, .chain⟩], none⟩) (v := ?_) (some 292) rfl rfl (by kernel_rfl) (by kernel_rfl) (by kernel_rfl) (by decide) (fun c a w h => hQ c a _ _ w h) (by rfl) ?_ hHeld ?_
 rotate_left 1
 ·(intro wq; go_simp; try with_reducible rfl)
 (try simp only [Act.put, List.setIfInBounds_toArray, List.set_cons_zero, List.set_cons_succ])
 refine z_skip (i := 15) (oi := ⟨some 293, .move (.tmp 27), 3, "ref.go:194", #[⟨14, .guard⟩], some (14, true)⟩) (some 293) rfl rfl (by kernel_rfl) (by kernel_rfl) (by kernel_rfl) (by decide) (fun c a w h => hQ c a _ _ w h) (by rfl) hHeld ?_
 (try simp only [Act.put, List.setIfInBounds_toArray, List.set_cons_zero, List.set_cons_succ])
 refine z_skip (i := 16) (oi := ⟨some 294, .binOp .lss 3 (.tmp 293) (.const (.int .i64 0)) 3, 4, "ref.go:194", #[⟨15, .data⟩, ⟨14, .guard⟩], some (14, true)⟩) (some 294) rfl rfl (by kernel_rfl) (by kernel_rfl) (by kernel_rfl) (by decide) (fun c a w h => hQ c a _ _ w h) (by rfl) hHeld ?_
 (try simp only [Act.put, List.setIfInBounds_toArray, List.set_cons_zero, List.set_cons_succ])
 refine z_skip (i := 17) (oi := ⟨some 295, .move (.tmp 294), 4, "ref.go:194", #[⟨16, .data⟩, ⟨14, .chain⟩, ⟨14, .guard⟩], some (14, true)⟩) (some 295) rfl rfl (by kernel_rfl) (by kernel_rfl) (by kernel_rfl) (by decide) (fun c a w h => hQ c a _ _ w h) (by rfl) hHeld ?_
 (try simp only [Act.put, List.setIfInBounds_toArray, List.set_cons_zero, List.set_cons_succ])
 refine z_skip (i := 18) (oi := ⟨some 296, .load 48 (.tmp 31), 48, "ref.go:194", #[⟨17, .guard⟩], some (17, false)⟩) (some 296) rfl rfl (by kernel_rfl) (by kernel_rfl) (by kernel_rfl) (by decide) (fun c a w h => hQ c a _ _ w h) (by rfl) hHeld ?_
 (try simp only [Act.put, List.setIfInBounds_toArray, List.set_cons_zero, List.set_cons_succ])
 refine z_skip (i := 19) (oi := ⟨some 297, .load 48 (.tmp 28), 48, "ref.go:194", #[⟨17, .guard⟩], some (17, false)⟩) (some 297) rfl rfl (by kernel_rfl) (by kernel_rfl) (by kernel_rfl) (by decide) (fun c a w h => hQ c a _ _ w h) (by rfl) hHeld ?_
 (try simp only [Act.put, List.setIfInBounds_toArray, List.set_cons_zero, List.set_cons_succ])
 refine z_one (i := 20) (o := ⟨some 298, .call { callee := .value (.func 35), args := #[.tmp 296, .tmp 297], argTypes := #[48, 48] }, 4, "ref.go:194", #[⟨18, .data⟩, ⟨19, .data⟩, ⟨17, .chain⟩, ⟨17, .guard⟩], some (17, false)⟩) (by kernel_rfl) rfl (fun K hK => ?_)
 go_simp
 refine hK.out _ _ (Or.inr (hC _ hX0)) (fun hHeld => ?_)
 clear hK K
 (try simp only [Act.put, List.setIfInBounds_toArray, List.set_cons_zero, List.set_cons_succ])
 refine z_skip (i := 21) (oi := ⟨some 299, .pick (.tmp 295) (.const (Value.bool true)) (.tmp 298), 4, "ref.go:194", #[⟨17, .data⟩, ⟨20, .data⟩, ⟨14, .guard⟩], some (14, true)⟩) (some 299) rfl rfl (by kernel_rfl) (by kernel_rfl) (by kernel_rfl) (by decide) (fun c a w h => hQ c a _ _ w h) (by rfl) hHeld ?_
 (try simp only [Act.put, List.setIfInBounds_toArray, List.set_cons_zero, List.set_cons_succ])
 refine z_skip (i := 22) (oi := ⟨some 300, .move (.tmp 299), 4, "ref.go:194", #[⟨21, .data⟩, ⟨20, .chain⟩, ⟨14, .guard⟩], some (14, true)⟩) (some 300) rfl rfl (by kernel_rfl) (by kernel_rfl) (by kernel_rfl) (by decide) (fun c a w h => hQ c a _ _ w h) (by rfl) hHeld ?_
 (try simp only [Act.put, List.setIfInBounds_toArray, List.set_cons_zero, List.set_cons_succ])
 refine z_skip (i := 23) (oi := ⟨some 301, .load 48 (.tmp 31), 48, "ref.go:194", #[⟨22, .guard⟩], some (22, false)⟩) (some 301) rfl rfl (by kernel_rfl) (by kernel_rfl) (by kernel_rfl) (by decide) (fun c a w h => hQ c a _ _ w h) (by rfl) hHeld ?_
 (try simp only [Act.put, List.setIfInBounds_toArray, List.set_cons_zero, List.set_cons_succ])
 refine z_skip (i := 24) (oi := ⟨some 302, .load 48 (.tmp 28), 48, "ref.go:194", #[⟨22, .guard⟩], some (22, false)⟩) (some 302) rfl rfl (by kernel_rfl) (by kernel_rfl) (by kernel_rfl) (by decide) (fun c a w h => hQ c a _ _ w h) (by rfl) hHeld ?_
 (try simp only [Act.put, List.setIfInBounds_toArray, List.set_cons_zero, List.set_cons_succ])
 refine z_skip (i := 25) (oi := ⟨some 303, .binOp .eql 48 (.tmp 301) (.tmp 302) 48, 4, "ref.go:194", #[⟨23, .data⟩, ⟨24, .data⟩, ⟨22, .guard⟩], some (22, false)⟩) (some 303) rfl rfl (by kernel_rfl) (by kernel_rfl) (by kernel_rfl) (by decide) (fun c a w h => hQ c a _ _ w h) (by rfl) hHeld ?_
 (try simp only [Act.put, List.setIfInBounds_toArray, List.set_cons_zero, List.set_cons_succ])
 refine z_skip (i := 26) (oi := ⟨some 304, .move (.tmp 303), 4, "ref.go:194", #[⟨25, .data⟩, ⟨22, .chain⟩, ⟨22, .guard⟩], some (22, false)⟩) (some 304) rfl rfl (by kernel_rfl) (by kernel_rfl) (by kernel_rfl) (by decide) (fun c a w h => hQ c a _ _ w h) (by rfl) hHeld ?_
 (try simp only [Act.put, List.setIfInBounds_toArray, List.set_cons_zero, List.set_cons_succ])
 refine z_skip (i := 27) (oi := ⟨some 305, .fieldAddr 85 (.tmp 30) 0, 0, "ref.go:194", #[⟨26, .guard⟩], some (26, true)⟩) (some 305) rfl rfl (by kernel_rfl) (by kernel_rfl) (by kernel_rfl) (by decide) (fun c a w h => hQ c a _ _ w h) (by rfl) hHeld ?_
 (try simp only [Act.put, List.setIfInBounds_toArray, List.set_cons_zero, List.set_cons_succ])
 refine z_skip (i := 28) (oi := ⟨some 306, .load 3 (.tmp 305), 3, "ref.go:194", #[⟨27, .data⟩, ⟨26, .guard⟩], some (26, true)⟩) (some 306) rfl rfl (by kernel_rfl) (by kernel_rfl) (by kernel_rfl) (by decide) (fun c a w h => hQ c a _ _ w h) (by rfl) hHeld ?_
 (try simp only [Act.put, List.setIfInBounds_toArray, List.set_cons_zero, List.set_cons_succ])
 refine z_skip (i := 29) (oi := ⟨some 307, .move (.tmp 27), 3, "ref.go:194", #[⟨26, .guard⟩], some (26, true)⟩) (some 307) rfl rfl (by kernel_rfl) (by kernel_rfl) (by kernel_rfl) (by decide) (fun c a w h => hQ c a _ _ w h) (by rfl) hHeld ?_
 (try simp only [Act.put, List.setIfInBounds_toArray, List.set_cons_zero, List.set_cons_succ])
 refine z_skip (i := 30) (oi := ⟨some 308, .binOp .lss 3 (.tmp 306) (.tmp 307) 3, 4, "ref.go:194", #[⟨28, .data⟩, ⟨29, .data⟩, ⟨26, .guard⟩], some (26, true)⟩) (some 308) rfl rfl (by kernel_rfl) (by kernel_rfl) (by kernel_rfl) (by decide) (fun c a w h => hQ c a _ _ w h) (by rfl) hHeld ?_
 (try simp only [Act.put, List.setIfInBounds_toArray, List.set_cons_zero, List.set_cons_succ])
 refine z_skip (i := 31) (oi := ⟨some 309, .pick (.tmp 304) (.tmp 308) (.const (Value.bool false)), 4, "ref.go:194", #[⟨26, .data⟩, ⟨30, .data⟩, ⟨22, .guard⟩], some (22, false)⟩) (some 309) rfl rfl (by kernel_rfl) (by kernel_rfl) (by kernel_rfl) (by decide) (fun c a w h => hQ c a _ _ w h) (by rfl) hHeld ?_
 (try simp only [Act.put, List.setIfInBounds_toArray, List.set_cons_zero, List.set_cons_succ])
 refine z_skip (i := 32) (oi := ⟨some 310, .pick (.tmp 300) (.const (Value.bool true)) (.tmp 309), 4, "ref.go:194", #[⟨22, .data⟩, ⟨31, .data⟩, ⟨14, .guard⟩], some (14, true)⟩) (some 310) rfl rfl (by kernel_rfl) (by kernel_rfl) (by kernel_rfl) (by decide) (fun c a w h => hQ c a _ _ w h) (by rfl) hHeld ?_
 (try simp only [Act.put, List.setIfInBounds_toArray, List.set_cons_zero, List.set_cons_succ])
 refine z_one (i := 33) (o := ⟨some 311, .pick (.tmp 292) (.tmp 310) (.const (Value.bool false)), 4, "ref.go:194", #[⟨14, .data⟩, ⟨32, .data⟩], none⟩) (by kernel_rfl) rfl (fun K hK => ?_)
 go_simp
 refine hK.out _ _ (Or.inl (by kernel_rfl)) (fun hHeld => ?_)
 (try simp only [List.setIfInBounds_toArray, List.set_cons_zero, List.set_cons_succ])
 refine z_done (by kernel_rfl) ?_ _
 exact fin _ hX0
end
section
variable {Q : Exit → Act → World → Prop} (df : List Deferred) (X : World) (g3 Bv Bb Bo K i : Nat) (fi rt po : Int) (a b : V)
variable (x0 x1 x2 x3 x4 x5 x6 x7 x8 x9 x10 x11 x12 x13 x14 x16 x17 x18 x19 x20 x21 x22 x23 x24 x26 x29 x32 x33 x34 x35 x36 x37 x38 x39 x40 x41 x42 x43 x44 x45 x46 x47 x48 x49 x50 x51 x52 x53 x54 x55 x56 x57 x58 x59 x60 x61 x62 x63 x64 x65 x66 x67 x68 x69 x70 x71 x72 x73 x74 x75 x76 x77 x78 x79 x80 x81 x82 x83 x84 x85 x86 x87 x88 x89 x90 x91 x92 x93 x94 x95 x96 x97 x98 x99 x100 x101 x102 x103 x104 x105 x106 x107 x108 x109 x110 x111 x112 x113 x114 x115 x116 x117 x118 x119 x120 x121 x122 x123 x124 x125 x126 x127 x128 x129 x130 x131 x132 x133 x134 x135 x136 x137 x138 x139 x140 x141 x142 x143 x144 x145 x146 x147 x148 x149 x150 x151 x152 x153 x154 x155 x156 x157 x158 x159 x160 x161 x162 x163 x164 x165 x166 x167 x168 x169 x170 x171 x172 x173 x174 x175 x176 x177 x178 x179 x180 x181 x182 x183 x184 x185 x186 x187 x188 x189 x190 x191 x192 x193 x194 x195 x196 x197 x198 x199 x200 x201 x202 x203 x204 x205 x206 x207 x208 x209 x210 x211 x212 x213 x214 x215 x216 x217 x218 x219 x220 x221 x222 x223 x224 x225 x226 x227 x228 x229 x230 x231 x232 x233 x234 x235 x236 x237 x238 x239 x240 x241 x242 x243 x244 x245 x246 x247 x248 x249 x250 x251 x252 x253 x254 x255 x256 x257 x258 x259 x260 x261 x262 x263 x264 x265 x266 x267 x268 x269 x270 x271 x272 x273 x274 x275 x276 x277 x312 x313 x314 x315 x316 x317 x318 x319 x320 x321 x322 x323 x324 x325 x326 x327 x328 x329 x330 x331 x332 x333 x334 x335 x336 x337 x338 x339 x340 : Value)
variable (hQ : ∀ c (a : Act) (d : Tmp) (v : Value) (w : World), Q (.panic c) (a.put (some d) v) w → Q (.panic c) a w)
variable (hC : ∀ V, Below X.heap.size X V → V.cell? ⟨g3, i, none⟩ = some (.int .i64 fi) ∧ (V.cell? ⟨Bv, 0, none⟩ = some (.int .u64 a.root) ∧ V.cell? ⟨Bv, 1, none⟩ = some (.int .i64 a.cost) ∧ V.cell? ⟨Bv, 2, none⟩ = some (.int .u64 a.bridge) ∧ V.cell? ⟨Bv, 3, none⟩ = some (.int .i64 a.port)) ∧ (V.cell? ⟨Bb, 0, none⟩ = some (.int .u64 b.root) ∧ V.cell? ⟨Bb, 1, none⟩ = some (.int .i64 b.cost) ∧ V.cell? ⟨Bb, 2, none⟩ = some (.int .u64 b.bridge) ∧ V.cell? ⟨Bb, 3, none⟩ = some (.int .i64 b.port)) ∧ V.cell? ⟨Bo, 0, none⟩ = some (.int .i64 po))
variable (k1 : i < K)
variable (hf : 0 < fi)
variable (hc : a.cost ≠ fi)
variable (fin : ∀ (w' : World), Below X.heap.size X w' → Q .normal { tmps := #[x0, x1, x2, x3, x4, x5, x6, x7, x8, x9, x10, x11, x12, x13, x14, (.slice (some ⟨g3, 0, none⟩) K K), x16, x17, x18, x19, x20, x21, x22, x23, x24, (.int .i64 (i : Int)), x26, (.int .i64 rt), (.pointer (some ⟨Bb, 0, none⟩)), x29, (.pointer (some ⟨Bo, 0, none⟩)), (.pointer (some ⟨Bv, 0, none⟩)), x32, x33, x34, x35, x36, x37, x38, x39, x40, x41, x42, x43, x44, x45, x46, x47, x48, x49, x50, x51, x52, x53, x54, x55, x56, x57, x58, x59, x60, x61, x62, x63, x64, x65, x66, x67, x68, x69, x70, x71, x72, x73, x74, x75, x76, x77, x78, x79, x80, x81, x82, x83, x84, x85, x86, x87, x88, x89, x90, x91, x92, x93, x94, x95, x96, x97, x98, x99, x100, x101, x102, x103, x104, x105, x106, x107, x108, x109, x110, x111, x112, x113, x114, x115, x116, x117, x118, x119, x120, x121, x122, x123, x124, x125, x126, x127, x128, x129, x130, x131, x132, x133, x134, x135, x136, x137, x138, x139, x140, x141, x142, x143, x144, x145, x146, x147, x148, x149, x150, x151, x152, x153, x154, x155, x156, x157, x158, x159, x160, x161, x162, x163, x164, x165, x166, x167, x168, x169, x170, x171, x172, x173, x174, x175, x176, x177, x178, x179, x180, x181, x182, x183, x184, x185, x186, x187, x188, x189, x190, x191, x192, x193, x194, x195, x196, x197, x198, x199, x200, x201, x202, x203, x204, x205, x206, x207, x208, x209, x210, x211, x212, x213, x214, x215, x216, x217, x218, x219, x220, x221, x222, x223, x224, x225, x226, x227, x228, x229, x230, x231, x232, x233, x234, x235, x236, x237, x238, x239, x240, x241, x242, x243, x244, x245, x246, x247, x248, x249, x250, x251, x252, x253, x254, x255, x256, x257, x258, x259, x260, x261, x262, x263, x264, x265, x266, x267, x268, x269, x270, x271, x272, x273, x274, x275, x276, x277, (.slice (some ⟨g3, 0, none⟩) K K), (.int .i64 (i : Int)), (.pointer (some ⟨g3, i, none⟩)), (.int .i64 fi), (.bool true), (.bool true), (.pointer (some ⟨Bv, 1, none⟩)), (.int .i64 a.cost), (.slice (some ⟨g3, 0, none⟩) K K), (.int .i64 (i : Int)), (.pointer (some ⟨g3, i, none⟩)), (.int .i64 fi), (.bool false), (.bool false), (.bool false), undef, undef, undef, undef, undef, undef, undef, undef, undef, undef, undef, undef, undef, undef, undef, undef, undef, undef, (.bool false), x312, x313, x314, x315, x316, x317, x318, x319, x320, x321, x322, x323, x324, x325, x326, x327, x328, x329, x330, x331, x332, x333, x334, x335, x336, x337, x338, x339, x340], defers := df } w')
include hQ hC k1 hf hc fin in
set_option maxRecDepth 100000 in
set_option maxHeartbeats 8000000 in
theorem pz70e (x278 x279 x280 x281 x282 x283 x284 x285 x286 x287 x288 x289 x290 x291 x292 x293 x294 x295 x296 x297 x298 x299 x300 x301 x302 x303 x304 x305 x306 x307 x308 x309 x310 x311 : Value) : (Code.region 70 pz70_ops true).wp Tryz.prog Q { tmps := #[x0, x1, x2, x3, x4, x5, x6, x7, x8, x9, x10, x11, x12, x13, x14, (.slice (some ⟨g3, 0, none⟩) K K), x16, x17, x18, x19, x20, x21, x22, x23, x24, (.int .i64 (i : Int)), x26, (.int .i64 rt), (.pointer (some ⟨Bb, 0, none⟩)), x29, (.pointer (some ⟨Bo, 0, none⟩)), (.pointer (some ⟨Bv, 0, none⟩)), x32, x33, x34, x35, x36, x37, x38, x39, x40, x41, x42, x43, x44, x45, x46, x47, x48, x49, x50, x51, x52, x53, x54, x55, x56, x57, x58, x59, x60, x61, x62, x63, x64, x65, x66, x67, x68, x69, x70, x71, x72, x73, x74, x75, x76, x77, x78, x79, x80, x81, x82, x83, x84, x85, x86, x87, x88, x89, x90, x91, x92, x93, x94, x95, x96, x97, x98, x99, x100, x101, x102, x103, x104, x105, x106, x107, x108, x109, x110, x111, x112, x113, x114, x115, x116, x117, x118, x119, x120, x121, x122, x123, x124, x125, x126, x127, x128, x129, x130, x131, x132, x133, x134, x135, x136, x137, x138, x139, x140, x141, x142, x143, x144, x145, x146, x147, x148, x149, x150, x151, x152, x153, x154, x155, x156, x157, x158, x159, x160, x161, x162, x163, x164, x165, x166, x167, x168, x169, x170, x171, x172, x173, x174, x175, x176, x177, x178, x179, x180, x181, x182, x183, x184, x185, x186, x187, x188, x189, x190, x191, x192, x193, x194, x195, x196, x197, x198, x199, x200, x201, x202, x203, x204, x205, x206, x207, x208, x209, x210, x211, x212, x213, x214, x215, x216, x217, x218, x219, x220, x221, x222, x223, x224, x225, x226, x227, x228, x229, x230, x231, x232, x233, x234, x235, x236, x237, x238, x239, x240, x241, x242, x243, x244, x245, x246, x247, x248, x249, x250, x251, x252, x253, x254, x255, x256, x257, x258, x259, x260, x261, x262, x263, x264, x265, x266, x267, x268, x269, x270, x271, x272, x273, x274, x275, x276, x277, x278, x279, x280, x281, x282, x283, x284, x285, x286, x287, x288, x289, x290, x291, x292, x293, x294, x295, x296, x297, x298, x299, x300, x301, x302, x303, x304, x305, x306, x307, x308, x309, x310, x311, x312, x313, x314, x315, x316, x317, x318, x319, x320, x321, x322, x323, x324, x325, x326, x327, x328, x329, x330, x331, x332, x333, x334, x335, x336, x337, x338, x339, x340], defers := df } X := by
 have hX0 : Below X.heap.size X X.drew := Below.drew (Below.refl _ _)
 have i1 : (0 : Int) ≤ (i : Int) := by omega
 have i2 : (i : Int) < (K : Int) := by omega
 have hz1 : decide (0 < fi) = true := decide_eq_true hf
 have hz2 : (a.cost == fi) = false := beq_eq_false_iff_ne.2 hc
 have hz3 : decide (a.cost = fi) = false := decide_eq_false hc
 refine wp_region_z (z := 33) (C := fun W => W.cell? ⟨g3, i, none⟩ = some (.int .i64 fi) ∧ (W.cell? ⟨Bv, 0, none⟩ = some (.int .u64 a.root) ∧ W.cell? ⟨Bv, 1, none⟩ = some (.int .i64 a.cost) ∧ W.cell? ⟨Bv, 2, none⟩ = some (.int .u64 a.bridge) ∧ W.cell? ⟨Bv, 3, none⟩ = some (.int .i64 a.port)) ∧ (W.cell? ⟨Bb, 0, none⟩ = some (.int .u64 b.root) ∧ W.cell? ⟨Bb, 1, none⟩ = some (.int .i64 b.cost) ∧ W.cell? ⟨Bb, 2, none⟩ = some (.int .u64 b.bridge) ∧ W.cell? ⟨Bb, 3, none⟩ = some (.int .i64 b.port)) ∧ W.cell? ⟨Bo, 0, none⟩ = some (.int .i64 po)) (by kernel_rfl) (hC _ hX0) (fun hHeld => ?_)
 refine z_take (i := 0) (oi := ⟨some 278, .move (.tmp 15), 35, "ref.go:194", #[], none⟩) (v := ?_) (some 278) rfl rfl (by kernel_rfl) (by kernel_rfl) (by kernel_rfl) (by decide) (fun c a w h => hQ c a _ _ w h) (by rfl) ?_ hHeld ?_
 rotate_left 1
 ·(intro wq; go_simp; try with_reducible rfl)
 (try simp only [Act.put, List.setIfInBounds_toArray, List.set_cons_zero, List.set_cons_succ])
 refine z_take (i := 1) (oi := ⟨some 279, .move (.tmp 25), 3, "ref.go:194", #[], none⟩) (v := ?_) (some 279) rfl rfl (by kernel_rfl) (by kernel_rfl) (by kernel_rfl) (by decide) (fun c a w h => hQ c a _ _ w h) (by rfl) ?_ hHeld ?_
 rotate_left 1
 ·(intro wq; go_simp; try with_reducible rfl)
 (try simp only [Act.put, List.setIfInBounds_toArray, List.set_cons_zero, List.set_cons_succ])
 refine z_take (i := 2) (oi := ⟨some 280, .indexAddr 35 (.tmp 278) (.tmp 279), 0, "ref.go:194", #[⟨0, .data⟩, ⟨1, .data⟩], none⟩) (v := ?_) (some 280) rfl rfl (by kernel_rfl) (by kernel_rfl) (by kernel_rfl) (by decide) (fun c a w h => hQ c a _ _ w h) (by rfl) ?_ hHeld ?_
 rotate_left 1
 ·(intro wq; go_simp; try with_reducible rfl)
 (try simp only [Act.put, List.setIfInBounds_toArray, List.set_cons_zero, List.set_cons_succ])
 refine z_load (i := 3) (oi := ⟨some 281, .load 3 (.tmp 280), 3, "ref.go:194", #[⟨2, .data⟩], none⟩) (v := ?_) (some 281) rfl rfl (by kernel_rfl) (by kernel_rfl) (by kernel_rfl) (by kernel_rfl) (fun c a w h => hQ c a _ _ w h) (by rfl) ?_ hHeld ?_
 rotate_left 1
 ·(intro wq hSw; go_simp; try with_reducible rfl)
 (try simp only [Act.put, List.setIfInBounds_toArray, List.set_cons_zero, List.set_cons_succ])
 refine z_take (i := 4) (oi := ⟨some 282, .binOp .gtr 3 (.tmp 281) (.const (.int .i64 0)) 3, 4, "ref.go:194", #[⟨3, .data⟩], none⟩) (v := ?_) (some 282) rfl rfl (by kernel_rfl) (by kernel_rfl) (by kernel_rfl) (by decide) (fun c a w h => hQ c a _ _ w h) (by rfl) ?_ hHeld ?_
 rotate_left 1
 ·(intro wq; go_simp; try with_reducible rfl)
 (try simp only [Act.put, List.setIfInBounds_toArray, List.set_cons_zero, List.set_cons_succ])
 refine z_take (i := 5) (oi := ⟨some 283, .move (.tmp 282), 4, "ref.go:194", #[⟨4, .data⟩], none⟩) (v := ?_) (some 283) rfl rfl (by kernel_rfl) (by kernel_rfl) (by kernel_rfl) (by decide) (fun c a w h => hQ c a _ _ w h) (by rfl) ?_ hHeld ?_
 rotate_left 1
 ·(intro wq; go_simp; try with_reducible rfl)
 (try simp only [Act.put, List.setIfInBounds_toArray, List.set_cons_zero, List.set_cons_succ])
 refine z_take (i := 6) (oi := ⟨some 284, .fieldAddr 48 (.tmp 31) 1, 0, "ref.go:194", #[⟨5, .guard⟩], some (5, true)⟩) (v := ?_) (some 284) rfl rfl (by kernel_rfl) (by kernel_rfl) (by kernel_rfl) (by decide) (fun c a w h => hQ c a _ _ w h) (by rfl) ?_ hHeld ?_
 rotate_left 1
 ·(intro wq; go_simp; try with_reducible rfl)
 (try simp only [Act.put, List.setIfInBounds_toArray, List.set_cons_zero, List.set_cons_succ])
 refine z_load (i := 7) (oi := ⟨some 285, .load 3 (.tmp 284), 3, "ref.go:194", #[⟨6, .data⟩, ⟨5, .guard⟩], some (5, true)⟩) (v := ?_) (some 285) rfl rfl (by kernel_rfl) (by kernel_rfl) (by kernel_rfl) (by kernel_rfl) (fun c a w h => hQ c a _ _ w h) (by rfl) ?_ hHeld ?_
 rotate_left 1
 ·(intro wq hSw; go_simp; try with_reducible rfl)
 (try simp only [Act.put, List.setIfInBounds_toArray, List.set_cons_zero, List.set_cons_succ])
 refine z_take (i := 8) (oi := ⟨some 286, .move (.tmp 15), 35, "ref.go:194", #[⟨5, .guard⟩], some (5, true)⟩) (v := ?_) (some 286) rfl rfl (by kernel_rfl) (by kernel_rfl) (by kernel_rfl) (by decide) (fun c a w h => hQ c a _ _ w h) (by rfl) ?_ hHeld ?_
 rotate_left 1
 ·(intro wq; go_simp; try with_reducible rfl)
 (try simp only [Act.put, List.setIfInBounds_toArray, List.set_cons_zero, List.set_cons_succ])
 refine z_take (i := 9) (oi := ⟨some 287, .move (.tmp 25), 3, "ref.go:194", #[⟨5, .guard⟩], some (5, true)⟩) (v := ?_) (some 287) rfl rfl (by kernel_rfl) (by kernel_rfl) (by kernel_rfl) (by decide) (fun c a w h => hQ c a _ _ w h) (by rfl) ?_ hHeld ?_
 rotate_left 1
 ·(intro wq; go_simp; try with_reducible rfl)
 (try simp only [Act.put, List.setIfInBounds_toArray, List.set_cons_zero, List.set_cons_succ])
 refine z_take (i := 10) (oi := ⟨some 288, .indexAddr 35 (.tmp 286) (.tmp 287), 0, "ref.go:194", #[⟨8, .data⟩, ⟨9, .data⟩, ⟨5, .guard⟩], some (5, true)⟩) (v := ?_) (some 288) rfl rfl (by kernel_rfl) (by kernel_rfl) (by kernel_rfl) (by decide) (fun c a w h => hQ c a _ _ w h) (by rfl) ?_ hHeld ?_
 rotate_left 1
 ·(intro wq; go_simp; try with_reducible rfl)
 (try simp only [Act.put, List.setIfInBounds_toArray, List.set_cons_zero, List.set_cons_succ])
 refine z_load (i := 11) (oi := ⟨some 289, .load 3 (.tmp 288), 3, "ref.go:194", #[⟨10, .data⟩, ⟨5, .guard⟩], some (5, true)⟩) (v := ?_) (some 289) rfl rfl (by kernel_rfl) (by kernel_rfl) (by kernel_rfl) (by kernel_rfl) (fun c a w h => hQ c a _ _ w h) (by rfl) ?_ hHeld ?_
 rotate_left 1
 ·(intro wq hSw; go_simp; try with_reducible rfl)
 (try simp only [Act.put, List.setIfInBounds_toArray, List.set_cons_zero, List.set_cons_succ])
 refine z_take (i := 12) (oi := ⟨some 290, .binOp .eql 3 (.tmp 285) (.tmp 289) 3, 4, "ref.go:194", #[⟨7, .data⟩, ⟨11, .data⟩, ⟨5, .guard⟩], some (5, true)⟩) (v := ?_) (some 290) rfl rfl (by kernel_rfl) (by kernel_rfl) (by kernel_rfl) (by decide) (fun c a w h => hQ c a _ _ w h) (by rfl) ?_ hHeld ?_
 rotate_left 1
 ·(intro wq; go_simp; try with_reducible rfl)
 (try simp only [Act.put, List.setIfInBounds_toArray, List.set_cons_zero, List.set_cons_succ])
 refine z_take (i := 13) (oi := ⟨some 291, .pick (.tmp 283) (.tmp 290) (.const (Value.bool false)), 4, "ref.go:194", #[⟨5, .data⟩, ⟨12, .data⟩], none⟩) (v := ?_) (some 291) rfl rfl (by kernel_rfl) (by kernel_rfl) (by kernel_rfl) (by decide) (fun c a w h => hQ c a _ _ w h) (by rfl) ?_ hHeld ?_
 rotate_left 1
 ·(intro wq; go_simp; try with_reducible rfl)
 (try simp only [Act.put, List.setIfInBounds_toArray, List.set_cons_zero, List.set_cons_succ])
 refine z_take (i := 14) (oi := ⟨some 292, .move (.tmp 291), 4, "ref.go:194", #[⟨13, .data⟩, ⟨5, .chain⟩], none⟩) (v := ?_) (some 292) rfl rfl (by kernel_rfl) (by kernel_rfl) (by kernel_rfl) (by decide) (fun c a w h => hQ c a _ _ w h) (by rfl) ?_ hHeld ?_
 rotate_left 1
 ·(intro wq; go_simp; try with_reducible rfl)
 (try simp only [Act.put, List.setIfInBounds_toArray, List.set_cons_zero, List.set_cons_succ])
 refine z_skip (i := 15) (oi := ⟨some 293, .move (.tmp 27), 3, "ref.go:194", #[⟨14, .guard⟩], some (14, true)⟩) (some 293) rfl rfl (by kernel_rfl) (by kernel_rfl) (by kernel_rfl) (by decide) (fun c a w h => hQ c a _ _ w h) (by rfl) hHeld ?_
 (try simp only [Act.put, List.setIfInBounds_toArray, List.set_cons_zero, List.set_cons_succ])
 refine z_skip (i := 16) (oi := ⟨some 294, .binOp .lss 3 (.tmp 293) (.const (.int .i64 0)) 3, 4, "ref.go:194", #[⟨15, .data⟩, ⟨14, .guard⟩], some (14, true)⟩) (some 294) rfl rfl (by kernel_rfl) (by kernel_rfl) (by kernel_rfl) (by decide) (fun c a w h => hQ c a _ _ w h) (by rfl) hHeld ?_
 (try simp only [Act.put, List.setIfInBounds_toArray, List.set_cons_zero, List.set_cons_succ])
 refine z_skip (i := 17) (oi := ⟨some 295, .move (.tmp 294), 4, "ref.go:194", #[⟨16, .data⟩, ⟨14, .chain⟩, ⟨14, .guard⟩], some (14, true)⟩) (some 295) rfl rfl (by kernel_rfl) (by kernel_rfl) (by kernel_rfl) (by decide) (fun c a w h => hQ c a _ _ w h) (by rfl) hHeld ?_
 (try simp only [Act.put, List.setIfInBounds_toArray, List.set_cons_zero, List.set_cons_succ])
 refine z_skip (i := 18) (oi := ⟨some 296, .load 48 (.tmp 31), 48, "ref.go:194", #[⟨17, .guard⟩], some (17, false)⟩) (some 296) rfl rfl (by kernel_rfl) (by kernel_rfl) (by kernel_rfl) (by decide) (fun c a w h => hQ c a _ _ w h) (by rfl) hHeld ?_
 (try simp only [Act.put, List.setIfInBounds_toArray, List.set_cons_zero, List.set_cons_succ])
 refine z_skip (i := 19) (oi := ⟨some 297, .load 48 (.tmp 28), 48, "ref.go:194", #[⟨17, .guard⟩], some (17, false)⟩) (some 297) rfl rfl (by kernel_rfl) (by kernel_rfl) (by kernel_rfl) (by decide) (fun c a w h => hQ c a _ _ w h) (by rfl) hHeld ?_
 (try simp only [Act.put, List.setIfInBounds_toArray, List.set_cons_zero, List.set_cons_succ])
 refine z_one (i := 20) (o := ⟨some 298, .call { callee := .value (.func 35), args := #[.tmp 296, .tmp 297], argTypes := #[48, 48] }, 4, "ref.go:194", #[⟨18, .data⟩, ⟨19, .data⟩, ⟨17, .chain⟩, ⟨17, .guard⟩], some (17, false)⟩) (by kernel_rfl) rfl (fun K hK => ?_)
 go_simp
 refine hK.out _ _ (Or.inr (hC _ hX0)) (fun hHeld => ?_)
 clear hK K
 (try simp only [Act.put, List.setIfInBounds_toArray, List.set_cons_zero, List.set_cons_succ])
 refine z_skip (i := 21) (oi := ⟨some 299, .pick (.tmp 295) (.const (Value.bool true)) (.tmp 298), 4, "ref.go:194", #[⟨17, .data⟩, ⟨20, .data⟩, ⟨14, .guard⟩], some (14, true)⟩) (some 299) rfl rfl (by kernel_rfl) (by kernel_rfl) (by kernel_rfl) (by decide) (fun c a w h => hQ c a _ _ w h) (by rfl) hHeld ?_
 (try simp only [Act.put, List.setIfInBounds_toArray, List.set_cons_zero, List.set_cons_succ])
 refine z_skip (i := 22) (oi := ⟨some 300, .move (.tmp 299), 4, "ref.go:194", #[⟨21, .data⟩, ⟨20, .chain⟩, ⟨14, .guard⟩], some (14, true)⟩) (some 300) rfl rfl (by kernel_rfl) (by kernel_rfl) (by kernel_rfl) (by decide) (fun c a w h => hQ c a _ _ w h) (by rfl) hHeld ?_
 (try simp only [Act.put, List.setIfInBounds_toArray, List.set_cons_zero, List.set_cons_succ])
 refine z_skip (i := 23) (oi := ⟨some 301, .load 48 (.tmp 31), 48, "ref.go:194", #[⟨22, .guard⟩], some (22, false)⟩) (some 301) rfl rfl (by kernel_rfl) (by kernel_rfl) (by kernel_rfl) (by decide) (fun c a w h => hQ c a _ _ w h) (by rfl) hHeld ?_
 (try simp only [Act.put, List.setIfInBounds_toArray, List.set_cons_zero, List.set_cons_succ])
 refine z_skip (i := 24) (oi := ⟨some 302, .load 48 (.tmp 28), 48, "ref.go:194", #[⟨22, .guard⟩], some (22, false)⟩) (some 302) rfl rfl (by kernel_rfl) (by kernel_rfl) (by kernel_rfl) (by decide) (fun c a w h => hQ c a _ _ w h) (by rfl) hHeld ?_
 (try simp only [Act.put, List.setIfInBounds_toArray, List.set_cons_zero, List.set_cons_succ])
 refine z_skip (i := 25) (oi := ⟨some 303, .binOp .eql 48 (.tmp 301) (.tmp 302) 48, 4, "ref.go:194", #[⟨23, .data⟩, ⟨24, .data⟩, ⟨22, .guard⟩], some (22, false)⟩) (some 303) rfl rfl (by kernel_rfl) (by kernel_rfl) (by kernel_rfl) (by decide) (fun c a w h => hQ c a _ _ w h) (by rfl) hHeld ?_
 (try simp only [Act.put, List.setIfInBounds_toArray, List.set_cons_zero, List.set_cons_succ])
 refine z_skip (i := 26) (oi := ⟨some 304, .move (.tmp 303), 4, "ref.go:194", #[⟨25, .data⟩, ⟨22, .chain⟩, ⟨22, .guard⟩], some (22, false)⟩) (some 304) rfl rfl (by kernel_rfl) (by kernel_rfl) (by kernel_rfl) (by decide) (fun c a w h => hQ c a _ _ w h) (by rfl) hHeld ?_
 (try simp only [Act.put, List.setIfInBounds_toArray, List.set_cons_zero, List.set_cons_succ])
 refine z_skip (i := 27) (oi := ⟨some 305, .fieldAddr 85 (.tmp 30) 0, 0, "ref.go:194", #[⟨26, .guard⟩], some (26, true)⟩) (some 305) rfl rfl (by kernel_rfl) (by kernel_rfl) (by kernel_rfl) (by decide) (fun c a w h => hQ c a _ _ w h) (by rfl) hHeld ?_
 (try simp only [Act.put, List.setIfInBounds_toArray, List.set_cons_zero, List.set_cons_succ])
 refine z_skip (i := 28) (oi := ⟨some 306, .load 3 (.tmp 305), 3, "ref.go:194", #[⟨27, .data⟩, ⟨26, .guard⟩], some (26, true)⟩) (some 306) rfl rfl (by kernel_rfl) (by kernel_rfl) (by kernel_rfl) (by decide) (fun c a w h => hQ c a _ _ w h) (by rfl) hHeld ?_
 (try simp only [Act.put, List.setIfInBounds_toArray, List.set_cons_zero, List.set_cons_succ])
 refine z_skip (i := 29) (oi := ⟨some 307, .move (.tmp 27), 3, "ref.go:194", #[⟨26, .guard⟩], some (26, true)⟩) (some 307) rfl rfl (by kernel_rfl) (by kernel_rfl) (by kernel_rfl) (by decide) (fun c a w h => hQ c a _ _ w h) (by rfl) hHeld ?_
 (try simp only [Act.put, List.setIfInBounds_toArray, List.set_cons_zero, List.set_cons_succ])
 refine z_skip (i := 30) (oi := ⟨some 308, .binOp .lss 3 (.tmp 306) (.tmp 307) 3, 4, "ref.go:194", #[⟨28, .data⟩, ⟨29, .data⟩, ⟨26, .guard⟩], some (26, true)⟩) (some 308) rfl rfl (by kernel_rfl) (by kernel_rfl) (by kernel_rfl) (by decide) (fun c a w h => hQ c a _ _ w h) (by rfl) hHeld ?_
 (try simp only [Act.put, List.setIfInBounds_toArray, List.set_cons_zero, List.set_cons_succ])
 refine z_skip (i := 31) (oi := ⟨some 309, .pick (.tmp 304) (.tmp 308) (.const (Value.bool false)), 4, "ref.go:194", #[⟨26, .data⟩, ⟨30, .data⟩, ⟨22, .guard⟩], some (22, false)⟩) (some 309) rfl rfl (by kernel_rfl) (by kernel_rfl) (by kernel_rfl) (by decide) (fun c a w h => hQ c a _ _ w h) (by rfl) hHeld ?_
 (try simp only [Act.put, List.setIfInBounds_toArray, List.set_cons_zero, List.set_cons_succ])
 refine z_skip (i := 32) (oi := ⟨some 310, .pick (.tmp 300) (.const (Value.bool true)) (.tmp 309), 4, "ref.go:194", #[⟨22, .data⟩, ⟨31, .data⟩, ⟨14, .guard⟩], some (14, true)⟩) (some 310) rfl rfl (by kernel_rfl) (by kernel_rfl) (by kernel_rfl) (by decide) (fun c a w h => hQ c a _ _ w h) (by rfl) hHeld ?_
 (try simp only [Act.put, List.setIfInBounds_toArray, List.set_cons_zero, List.set_cons_succ])
 refine z_one (i := 33) (o := ⟨some 311, .pick (.tmp 292) (.tmp 310) (.const (Value.bool false)), 4, "ref.go:194", #[⟨14, .data⟩, ⟨32, .data⟩], none⟩) (by kernel_rfl) rfl (fun K hK => ?_)
 go_simp
 refine hK.out _ _ (Or.inl (by kernel_rfl)) (fun hHeld => ?_)
 (try simp only [List.setIfInBounds_toArray, List.set_cons_zero, List.set_cons_succ])
 refine z_done (by kernel_rfl) ?_ _
 exact fin _ hX0
end
section
variable {Q : Exit → Act → World → Prop} (df : List Deferred) (X : World) (g3 Bv Bb Bo K i : Nat) (rt po : Int) (a b : V)
variable (x0 x1 x2 x3 x4 x5 x6 x7 x8 x9 x10 x11 x12 x13 x14 x16 x17 x18 x19 x20 x21 x22 x23 x24 x26 x29 x32 x33 x34 x35 x36 x37 x38 x39 x40 x41 x42 x43 x44 x45 x46 x47 x48 x49 x50 x51 x52 x53 x54 x55 x56 x57 x58 x59 x60 x61 x62 x63 x64 x65 x66 x67 x68 x69 x70 x71 x72 x73 x74 x75 x76 x77 x78 x79 x80 x81 x82 x83 x84 x85 x86 x87 x88 x89 x90 x91 x92 x93 x94 x95 x96 x97 x98 x99 x100 x101 x102 x103 x104 x105 x106 x107 x108 x109 x110 x111 x112 x113 x114 x115 x116 x117 x118 x119 x120 x121 x122 x123 x124 x125 x126 x127 x128 x129 x130 x131 x132 x133 x134 x135 x136 x137 x138 x139 x140 x141 x142 x143 x144 x145 x146 x147 x148 x149 x150 x151 x152 x153 x154 x155 x156 x157 x158 x159 x160 x161 x162 x163 x164 x165 x166 x167 x168 x169 x170 x171 x172 x173 x174 x175 x176 x177 x178 x179 x180 x181 x182 x183 x184 x185 x186 x187 x188 x189 x190 x191 x192 x193 x194 x195 x196 x197 x198 x199 x200 x201 x202 x203 x204 x205 x206 x207 x208 x209 x210 x211 x212 x213 x214 x215 x216 x217 x218 x219 x220 x221 x222 x223 x224 x225 x226 x227 x228 x229 x230 x231 x232 x233 x234 x235 x236 x237 x238 x239 x240 x241 x242 x243 x244 x245 x246 x247 x248 x249 x250 x251 x252 x253 x254 x255 x256 x257 x258 x259 x260 x261 x262 x263 x264 x265 x266 x267 x268 x269 x270 x271 x272 x273 x274 x275 x276 x277 x312 x313 x314 x315 x316 x317 x318 x319 x320 x321 x322 x323 x324 x325 x326 x327 x328 x329 x330 x331 x332 x333 x334 x335 x336 x337 x338 x339 x340 : Value)
variable (hQ : ∀ c (a : Act) (d : Tmp) (v : Value) (w : World), Q (.panic c) (a.put (some d) v) w → Q (.panic c) a w)
variable (hC : ∀ V, Below X.heap.size X V → V.cell? ⟨g3, i, none⟩ = some (.int .i64 a.cost) ∧ (V.cell? ⟨Bv, 0, none⟩ = some (.int .u64 a.root) ∧ V.cell? ⟨Bv, 1, none⟩ = some (.int .i64 a.cost) ∧ V.cell? ⟨Bv, 2, none⟩ = some (.int .u64 a.bridge) ∧ V.cell? ⟨Bv, 3, none⟩ = some (.int .i64 a.port)) ∧ (V.cell? ⟨Bb, 0, none⟩ = some (.int .u64 b.root) ∧ V.cell? ⟨Bb, 1, none⟩ = some (.int .i64 b.cost) ∧ V.cell? ⟨Bb, 2, none⟩ = some (.int .u64 b.bridge) ∧ V.cell? ⟨Bb, 3, none⟩ = some (.int .i64 b.port)) ∧ V.cell? ⟨Bo, 0, none⟩ = some (.int .i64 po))
variable (k1 : i < K)
variable (hf : 0 < a.cost)
variable (hr : rt < 0)
variable (fin : ∀ (w' : World), Below X.heap.size X w' → Q .normal { tmps := #[x0, x1, x2, x3, x4, x5, x6, x7, x8, x9, x10, x11, x12, x13, x14, (.slice (some ⟨g3, 0, none⟩) K K), x16, x17, x18, x19, x20, x21, x22, x23, x24, (.int .i64 (i : Int)), x26, (.int .i64 rt), (.pointer (some ⟨Bb, 0, none⟩)), x29, (.pointer (some ⟨Bo, 0, none⟩)), (.pointer (some ⟨Bv, 0, none⟩)), x32, x33, x34, x35, x36, x37, x38, x39, x40, x41, x42, x43, x44, x45, x46, x47, x48, x49, x50, x51, x52, x53, x54, x55, x56, x57, x58, x59, x60, x61, x62, x63, x64, x65, x66, x67, x68, x69, x70, x71, x72, x73, x74, x75, x76, x77, x78, x79, x80, x81, x82, x83, x84, x85, x86, x87, x88, x89, x90, x91, x92, x93, x94, x95, x96, x97, x98, x99, x100, x101, x102, x103, x104, x105, x106, x107, x108, x109, x110, x111, x112, x113, x114, x115, x116, x117, x118, x119, x120, x121, x122, x123, x124, x125, x126, x127, x128, x129, x130, x131, x132, x133, x134, x135, x136, x137, x138, x139, x140, x141, x142, x143, x144, x145, x146, x147, x148, x149, x150, x151, x152, x153, x154, x155, x156, x157, x158, x159, x160, x161, x162, x163, x164, x165, x166, x167, x168, x169, x170, x171, x172, x173, x174, x175, x176, x177, x178, x179, x180, x181, x182, x183, x184, x185, x186, x187, x188, x189, x190, x191, x192, x193, x194, x195, x196, x197, x198, x199, x200, x201, x202, x203, x204, x205, x206, x207, x208, x209, x210, x211, x212, x213, x214, x215, x216, x217, x218, x219, x220, x221, x222, x223, x224, x225, x226, x227, x228, x229, x230, x231, x232, x233, x234, x235, x236, x237, x238, x239, x240, x241, x242, x243, x244, x245, x246, x247, x248, x249, x250, x251, x252, x253, x254, x255, x256, x257, x258, x259, x260, x261, x262, x263, x264, x265, x266, x267, x268, x269, x270, x271, x272, x273, x274, x275, x276, x277, (.slice (some ⟨g3, 0, none⟩) K K), (.int .i64 (i : Int)), (.pointer (some ⟨g3, i, none⟩)), (.int .i64 a.cost), (.bool true), (.bool true), (.pointer (some ⟨Bv, 1, none⟩)), (.int .i64 a.cost), (.slice (some ⟨g3, 0, none⟩) K K), (.int .i64 (i : Int)), (.pointer (some ⟨g3, i, none⟩)), (.int .i64 a.cost), (.bool true), (.bool true), (.bool true), (.int .i64 rt), (.bool true), (.bool true), undef, undef, undef, (.bool true), (.bool true), undef, undef, undef, undef, undef, undef, undef, undef, undef, (.bool true), (.bool true), x312, x313, x314, x315, x316, x317, x318, x319, x320, x321, x322, x323, x324, x325, x326, x327, x328, x329, x330, x331, x332, x333, x334, x335, x336, x337, x338, x339, x340], defers := df } w')
include hQ hC k1 hf hr fin in
set_option maxRecDepth 100000 in
set_option maxHeartbeats 8000000 in
theorem pz70f (x278 x279 x280 x281 x282 x283 x284 x285 x286 x287 x288 x289 x290 x291 x292 x293 x294 x295 x296 x297 x298 x299 x300 x301 x302 x303 x304 x305 x306 x307 x308 x309 x310 x311 : Value) : (Code.region 70 pz70_ops true).wp Tryz.prog Q { tmps := #[x0, x1, x2, x3, x4, x5, x6, x7, x8, x9, x10, x11, x12, x13, x14, (.slice (some ⟨g3, 0, none⟩) K K), x16, x17, x18, x19, x20, x21, x22, x23, x24, (.int .i64 (i : Int)), x26, (.int .i64 rt), (.pointer (some ⟨Bb, 0, none⟩)), x29, (.pointer (some ⟨Bo, 0, none⟩)), (.pointer (some ⟨Bv, 0, none⟩)), x32, x33, x34, x35, x36, x37, x38, x39, x40, x41, x42, x43, x44, x45, x46, x47, x48, x49, x50, x51, x52, x53, x54, x55, x56, x57, x58, x59, x60, x61, x62, x63, x64, x65, x66, x67, x68, x69, x70, x71, x72, x73, x74, x75, x76, x77, x78, x79, x80, x81, x82, x83, x84, x85, x86, x87, x88, x89, x90, x91, x92, x93, x94, x95, x96, x97, x98, x99, x100, x101, x102, x103, x104, x105, x106, x107, x108, x109, x110, x111, x112, x113, x114, x115, x116, x117, x118, x119, x120, x121, x122, x123, x124, x125, x126, x127, x128, x129, x130, x131, x132, x133, x134, x135, x136, x137, x138, x139, x140, x141, x142, x143, x144, x145, x146, x147, x148, x149, x150, x151, x152, x153, x154, x155, x156, x157, x158, x159, x160, x161, x162, x163, x164, x165, x166, x167, x168, x169, x170, x171, x172, x173, x174, x175, x176, x177, x178, x179, x180, x181, x182, x183, x184, x185, x186, x187, x188, x189, x190, x191, x192, x193, x194, x195, x196, x197, x198, x199, x200, x201, x202, x203, x204, x205, x206, x207, x208, x209, x210, x211, x212, x213, x214, x215, x216, x217, x218, x219, x220, x221, x222, x223, x224, x225, x226, x227, x228, x229, x230, x231, x232, x233, x234, x235, x236, x237, x238, x239, x240, x241, x242, x243, x244, x245, x246, x247, x248, x249, x250, x251, x252, x253, x254, x255, x256, x257, x258, x259, x260, x261, x262, x263, x264, x265, x266, x267, x268, x269, x270, x271, x272, x273, x274, x275, x276, x277, x278, x279, x280, x281, x282, x283, x284, x285, x286, x287, x288, x289, x290, x291, x292, x293, x294, x295, x296, x297, x298, x299, x300, x301, x302, x303, x304, x305, x306, x307, x308, x309, x310, x311, x312, x313, x314, x315, x316, x317, x318, x319, x320, x321, x322, x323, x324, x325, x326, x327, x328, x329, x330, x331, x332, x333, x334, x335, x336, x337, x338, x339, x340], defers := df } X := by
 have hX0 : Below X.heap.size X X.drew := Below.drew (Below.refl _ _)
 have i1 : (0 : Int) ≤ (i : Int) := by omega
 have i2 : (i : Int) < (K : Int) := by omega
 have hz1 : decide (0 < a.cost) = true := decide_eq_true hf
 have hz2 : decide (rt < 0) = true := decide_eq_true hr
 refine wp_region_z (z := 33) (C := fun W => W.cell? ⟨g3, i, none⟩ = some (.int .i64 a.cost) ∧ (W.cell? ⟨Bv, 0, none⟩ = some (.int .u64 a.root) ∧ W.cell? ⟨Bv, 1, none⟩ = some (.int .i64 a.cost) ∧ W.cell? ⟨Bv, 2, none⟩ = some (.int .u64 a.bridge) ∧ W.cell? ⟨Bv, 3, none⟩ = some (.int .i64 a.port)) ∧ (W.cell? ⟨Bb, 0, none⟩ = some (.int .u64 b.root) ∧ W.cell? ⟨Bb, 1, none⟩ = some (.int .i64 b.cost) ∧ W.cell? ⟨Bb, 2, none⟩ = some (.int .u64 b.bridge) ∧ W.cell? ⟨Bb, 3, none⟩ = some (.int .i64 b.port)) ∧ W.cell? ⟨Bo, 0, none⟩ = some (.int .i64 po)) (by kernel_rfl) (hC _ hX0) (fun hHeld => ?_)
 refine z_take (i := 0) (oi := ⟨some 278, .move (.tmp 15), 35, "ref.go:194", #[], none⟩) (v := ?_) (some 278) rfl rfl (by kernel_rfl) (by kernel_rfl) (by kernel_rfl) (by decide) (fun c a w h => hQ c a _ _ w h) (by rfl) ?_ hHeld ?_
 rotate_left 1
 ·(intro wq; go_simp; try with_reducible rfl)
 (try simp only [Act.put, List.setIfInBounds_toArray, List.set_cons_zero, List.set_cons_succ])
 refine z_take (i := 1) (oi := ⟨some 279, .move (.tmp 25), 3, "ref.go:194", #[], none⟩) (v := ?_) (some 279) rfl rfl (by kernel_rfl) (by kernel_rfl) (by kernel_rfl) (by decide) (fun c a w h => hQ c a _ _ w h) (by rfl) ?_ hHeld ?_
 rotate_left 1
 ·(intro wq; go_simp; try with_reducible rfl)
 (try simp only [Act.put, List.setIfInBounds_toArray, List.set_cons_zero, List.set_cons_succ])
 refine z_take (i := 2) (oi := ⟨some 280, .indexAddr 35 (.tmp 278) (.tmp 279), 0, "ref.go:194", #[⟨0, .data⟩, ⟨1, .data⟩], none⟩) (v := ?_) (some 280) rfl rfl (by kernel_rfl) (by kernel_rfl) (by kernel_rfl) (by decide) (fun c a w h => hQ c a _ _ w h) (by rfl) ?_ hHeld ?_
 rotate_left 1
 ·(intro wq; go_simp; try with_reducible rfl)
 (try simp only [Act.put, List.setIfInBounds_toArray, List.set_cons_zero, List.set_cons_succ])
 refine z_load (i := 3) (oi := ⟨some 281, .load 3 (.tmp 280), 3, "ref.go:194", #[⟨2, .data⟩], none⟩) (v := ?_) (some 281) rfl rfl (by kernel_rfl) (by kernel_rfl) (by kernel_rfl) (by kernel_rfl) (fun c a w h => hQ c a _ _ w h) (by rfl) ?_ hHeld ?_
 rotate_left 1
 ·(intro wq hSw; go_simp; try with_reducible rfl)
 (try simp only [Act.put, List.setIfInBounds_toArray, List.set_cons_zero, List.set_cons_succ])
 refine z_take (i := 4) (oi := ⟨some 282, .binOp .gtr 3 (.tmp 281) (.const (.int .i64 0)) 3, 4, "ref.go:194", #[⟨3, .data⟩], none⟩) (v := ?_) (some 282) rfl rfl (by kernel_rfl) (by kernel_rfl) (by kernel_rfl) (by decide) (fun c a w h => hQ c a _ _ w h) (by rfl) ?_ hHeld ?_
 rotate_left 1
 ·(intro wq; go_simp; try with_reducible rfl)
 (try simp only [Act.put, List.setIfInBounds_toArray, List.set_cons_zero, List.set_cons_succ])
 refine z_take (i := 5) (oi := ⟨some 283, .move (.tmp 282), 4, "ref.go:194", #[⟨4, .data⟩], none⟩) (v := ?_) (some 283) rfl rfl (by kernel_rfl) (by kernel_rfl) (by kernel_rfl) (by decide) (fun c a w h => hQ c a _ _ w h) (by rfl) ?_ hHeld ?_
 rotate_left 1
 ·(intro wq; go_simp; try with_reducible rfl)
 (try simp only [Act.put, List.setIfInBounds_toArray, List.set_cons_zero, List.set_cons_succ])
 refine z_take (i := 6) (oi := ⟨some 284, .fieldAddr 48 (.tmp 31) 1, 0, "ref.go:194", #[⟨5, .guard⟩], some (5, true)⟩) (v := ?_) (some 284) rfl rfl (by kernel_rfl) (by kernel_rfl) (by kernel_rfl) (by decide) (fun c a w h => hQ c a _ _ w h) (by rfl) ?_ hHeld ?_
 rotate_left 1
 ·(intro wq; go_simp; try with_reducible rfl)
 (try simp only [Act.put, List.setIfInBounds_toArray, List.set_cons_zero, List.set_cons_succ])
 refine z_load (i := 7) (oi := ⟨some 285, .load 3 (.tmp 284), 3, "ref.go:194", #[⟨6, .data⟩, ⟨5, .guard⟩], some (5, true)⟩) (v := ?_) (some 285) rfl rfl (by kernel_rfl) (by kernel_rfl) (by kernel_rfl) (by kernel_rfl) (fun c a w h => hQ c a _ _ w h) (by rfl) ?_ hHeld ?_
 rotate_left 1
 ·(intro wq hSw; go_simp; try with_reducible rfl)
 (try simp only [Act.put, List.setIfInBounds_toArray, List.set_cons_zero, List.set_cons_succ])
 refine z_take (i := 8) (oi := ⟨some 286, .move (.tmp 15), 35, "ref.go:194", #[⟨5, .guard⟩], some (5, true)⟩) (v := ?_) (some 286) rfl rfl (by kernel_rfl) (by kernel_rfl) (by kernel_rfl) (by decide) (fun c a w h => hQ c a _ _ w h) (by rfl) ?_ hHeld ?_
 rotate_left 1
 ·(intro wq; go_simp; try with_reducible rfl)
 (try simp only [Act.put, List.setIfInBounds_toArray, List.set_cons_zero, List.set_cons_succ])
 refine z_take (i := 9) (oi := ⟨some 287, .move (.tmp 25), 3, "ref.go:194", #[⟨5, .guard⟩], some (5, true)⟩) (v := ?_) (some 287) rfl rfl (by kernel_rfl) (by kernel_rfl) (by kernel_rfl) (by decide) (fun c a w h => hQ c a _ _ w h) (by rfl) ?_ hHeld ?_
 rotate_left 1
 ·(intro wq; go_simp; try with_reducible rfl)
 (try simp only [Act.put, List.setIfInBounds_toArray, List.set_cons_zero, List.set_cons_succ])
 refine z_take (i := 10) (oi := ⟨some 288, .indexAddr 35 (.tmp 286) (.tmp 287), 0, "ref.go:194", #[⟨8, .data⟩, ⟨9, .data⟩, ⟨5, .guard⟩], some (5, true)⟩) (v := ?_) (some 288) rfl rfl (by kernel_rfl) (by kernel_rfl) (by kernel_rfl) (by decide) (fun c a w h => hQ c a _ _ w h) (by rfl) ?_ hHeld ?_
 rotate_left 1
 ·(intro wq; go_simp; try with_reducible rfl)
 (try simp only [Act.put, List.setIfInBounds_toArray, List.set_cons_zero, List.set_cons_succ])
 refine z_load (i := 11) (oi := ⟨some 289, .load 3 (.tmp 288), 3, "ref.go:194", #[⟨10, .data⟩, ⟨5, .guard⟩], some (5, true)⟩) (v := ?_) (some 289) rfl rfl (by kernel_rfl) (by kernel_rfl) (by kernel_rfl) (by kernel_rfl) (fun c a w h => hQ c a _ _ w h) (by rfl) ?_ hHeld ?_
 rotate_left 1
 ·(intro wq hSw; go_simp; try with_reducible rfl)
 (try simp only [Act.put, List.setIfInBounds_toArray, List.set_cons_zero, List.set_cons_succ])
 refine z_take (i := 12) (oi := ⟨some 290, .binOp .eql 3 (.tmp 285) (.tmp 289) 3, 4, "ref.go:194", #[⟨7, .data⟩, ⟨11, .data⟩, ⟨5, .guard⟩], some (5, true)⟩) (v := ?_) (some 290) rfl rfl (by kernel_rfl) (by kernel_rfl) (by kernel_rfl) (by decide) (fun c a w h => hQ c a _ _ w h) (by rfl) ?_ hHeld ?_
 rotate_left 1
 ·(intro wq; go_simp; try with_reducible rfl)
 (try simp only [Act.put, List.setIfInBounds_toArray, List.set_cons_zero, List.set_cons_succ])
 refine z_take (i := 13) (oi := ⟨some 291, .pick (.tmp 283) (.tmp 290) (.const (Value.bool false)), 4, "ref.go:194", #[⟨5, .data⟩, ⟨12, .data⟩], none⟩) (v := ?_) (some 291) rfl rfl (by kernel_rfl) (by kernel_rfl) (by kernel_rfl) (by decide) (fun c a w h => hQ c a _ _ w h) (by rfl) ?_ hHeld ?_
 rotate_left 1
 ·(intro wq; go_simp; try with_reducible rfl)
 (try simp only [Act.put, List.setIfInBounds_toArray, List.set_cons_zero, List.set_cons_succ])
 refine z_take (i := 14) (oi := ⟨some 292, .move (.tmp 291), 4, "ref.go:194", #[⟨13, .data⟩, ⟨5, .chain⟩], none⟩) (v := ?_) (some 292) rfl rfl (by kernel_rfl) (by kernel_rfl) (by kernel_rfl) (by decide) (fun c a w h => hQ c a _ _ w h) (by rfl) ?_ hHeld ?_
 rotate_left 1
 ·(intro wq; go_simp; try with_reducible rfl)
 (try simp only [Act.put, List.setIfInBounds_toArray, List.set_cons_zero, List.set_cons_succ])
 refine z_take (i := 15) (oi := ⟨some 293, .move (.tmp 27), 3, "ref.go:194", #[⟨14, .guard⟩], some (14, true)⟩) (v := ?_) (some 293) rfl rfl (by kernel_rfl) (by kernel_rfl) (by kernel_rfl) (by decide) (fun c a w h => hQ c a _ _ w h) (by rfl) ?_ hHeld ?_
 rotate_left 1
 ·(intro wq; go_simp; try with_reducible rfl)
 (try simp only [Act.put, List.setIfInBounds_toArray, List.set_cons_zero, List.set_cons_succ])
 refine z_take (i := 16) (oi := ⟨some 294, .binOp .lss 3 (.tmp 293) (.const (.int .i64 0)) 3, 4, "ref.go:194", #[⟨15, .data⟩, ⟨14, .guard⟩], some (14, true)⟩) (v := ?_) (some 294) rfl rfl (by kernel_rfl) (by kernel_rfl) (by kernel_rfl) (by decide) (fun c a w h => hQ c a _ _ w h) (by rfl) ?_ hHeld ?_
 rotate_left 1
 ·(intro wq; go_simp; try with_reducible rfl)
 (try simp only [Act.put, List.setIfInBounds_toArray, List.set_cons_zero, List.set_cons_succ])
 refine z_take (i := 17) (oi := ⟨some 295, .move (.tmp 294), 4, "ref.go:194", #[⟨16, .data⟩, ⟨14, .chain⟩, ⟨14, .guard⟩], some (14, true)⟩) (v := ?_) (some 295) rfl rfl (by kernel_rfl) (by kernel_rfl) (by kernel_rfl) (by decide) (fun c a w h => hQ c a _ _ w h) (by rfl) ?_ hHeld ?_
 rotate_left 1
 ·(intro wq; go_simp; try with_reducible rfl)
 (try simp only [Act.put, List.setIfInBounds_toArray, List.set_cons_zero, List.set_cons_succ])
 refine z_skip (i := 18) (oi := ⟨some 296, .load 48 (.tmp 31), 48, "ref.go:194", #[⟨17, .guard⟩], some (17, false)⟩) (some 296) rfl rfl (by kernel_rfl) (by kernel_rfl) (by kernel_rfl) (by decide) (fun c a w h => hQ c a _ _ w h) (by rfl) hHeld ?_
 (try simp only [Act.put, List.setIfInBounds_toArray, List.set_cons_zero, List.set_cons_succ])
 refine z_skip (i := 19) (oi := ⟨some 297, .load 48 (.tmp 28), 48, "ref.go:194", #[⟨17, .guard⟩], some (17, false)⟩) (some 297) rfl rfl (by kernel_rfl) (by kernel_rfl) (by kernel_rfl) (by decide) (fun c a w h => hQ c a _ _ w h) (by rfl) hHeld ?_
 (try simp only [Act.put, List.setIfInBounds_toArray, List.set_cons_zero, List.set_cons_succ])
 refine z_one (i := 20) (o := ⟨some 298, .call { callee := .value (.func 35), args := #[.tmp 296, .tmp 297], argTypes := #[48, 48] }, 4, "ref.go:194", #[⟨18, .data⟩, ⟨19, .data⟩, ⟨17, .chain⟩, ⟨17, .guard⟩], some (17, false)⟩) (by kernel_rfl) rfl (fun K hK => ?_)
 go_simp
 refine hK.out _ _ (Or.inr (hC _ hX0)) (fun hHeld => ?_)
 clear hK K
 (try simp only [Act.put, List.setIfInBounds_toArray, List.set_cons_zero, List.set_cons_succ])
 refine z_take (i := 21) (oi := ⟨some 299, .pick (.tmp 295) (.const (Value.bool true)) (.tmp 298), 4, "ref.go:194", #[⟨17, .data⟩, ⟨20, .data⟩, ⟨14, .guard⟩], some (14, true)⟩) (v := ?_) (some 299) rfl rfl (by kernel_rfl) (by kernel_rfl) (by kernel_rfl) (by decide) (fun c a w h => hQ c a _ _ w h) (by rfl) ?_ hHeld ?_
 rotate_left 1
 ·(intro wq; go_simp; try with_reducible rfl)
 (try simp only [Act.put, List.setIfInBounds_toArray, List.set_cons_zero, List.set_cons_succ])
 refine z_take (i := 22) (oi := ⟨some 300, .move (.tmp 299), 4, "ref.go:194", #[⟨21, .data⟩, ⟨20, .chain⟩, ⟨14, .guard⟩], some (14, true)⟩) (v := ?_) (some 300) rfl rfl (by kernel_rfl) (by kernel_rfl) (by kernel_rfl) (by decide) (fun c a w h => hQ c a _ _ w h) (by rfl) ?_ hHeld ?_
 rotate_left 1
 ·(intro wq; go_simp; try with_reducible rfl)
 (try simp only [Act.put, List.setIfInBounds_toArray, List.set_cons_zero, List.set_cons_succ])
 refine z_skip (i := 23) (oi := ⟨some 301, .load 48 (.tmp 31), 48, "ref.go:194", #[⟨22, .guard⟩], some (22, false)⟩) (some 301) rfl rfl (by kernel_rfl) (by kernel_rfl) (by kernel_rfl) (by decide) (fun c a w h => hQ c a _ _ w h) (by rfl) hHeld ?_
 (try simp only [Act.put, List.setIfInBounds_toArray, List.set_cons_zero, List.set_cons_succ])
 refine z_skip (i := 24) (oi := ⟨some 302, .load 48 (.tmp 28), 48, "ref.go:194", #[⟨22, .guard⟩], some (22, false)⟩) (some 302) rfl rfl (by kernel_rfl) (by kernel_rfl) (by kernel_rfl) (by decide) (fun c a w h => hQ c a _ _ w h) (by rfl) hHeld ?_
 (try simp only [Act.put, List.setIfInBounds_toArray, List.set_cons_zero, List.set_cons_succ])
 refine z_skip (i := 25) (oi := ⟨some 303, .binOp .eql 48 (.tmp 301) (.tmp 302) 48, 4, "ref.go:194", #[⟨23, .data⟩, ⟨24, .data⟩, ⟨22, .guard⟩], some (22, false)⟩) (some 303) rfl rfl (by kernel_rfl) (by kernel_rfl) (by kernel_rfl) (by decide) (fun c a w h => hQ c a _ _ w h) (by rfl) hHeld ?_
 (try simp only [Act.put, List.setIfInBounds_toArray, List.set_cons_zero, List.set_cons_succ])
 refine z_skip (i := 26) (oi := ⟨some 304, .move (.tmp 303), 4, "ref.go:194", #[⟨25, .data⟩, ⟨22, .chain⟩, ⟨22, .guard⟩], some (22, false)⟩) (some 304) rfl rfl (by kernel_rfl) (by kernel_rfl) (by kernel_rfl) (by decide) (fun c a w h => hQ c a _ _ w h) (by rfl) hHeld ?_
 (try simp only [Act.put, List.setIfInBounds_toArray, List.set_cons_zero, List.set_cons_succ])
 refine z_skip (i := 27) (oi := ⟨some 305, .fieldAddr 85 (.tmp 30) 0, 0, "ref.go:194", #[⟨26, .guard⟩], some (26, true)⟩) (some 305) rfl rfl (by kernel_rfl) (by kernel_rfl) (by kernel_rfl) (by decide) (fun c a w h => hQ c a _ _ w h) (by rfl) hHeld ?_
 (try simp only [Act.put, List.setIfInBounds_toArray, List.set_cons_zero, List.set_cons_succ])
 refine z_skip (i := 28) (oi := ⟨some 306, .load 3 (.tmp 305), 3, "ref.go:194", #[⟨27, .data⟩, ⟨26, .guard⟩], some (26, true)⟩) (some 306) rfl rfl (by kernel_rfl) (by kernel_rfl) (by kernel_rfl) (by decide) (fun c a w h => hQ c a _ _ w h) (by rfl) hHeld ?_
 (try simp only [Act.put, List.setIfInBounds_toArray, List.set_cons_zero, List.set_cons_succ])
 refine z_skip (i := 29) (oi := ⟨some 307, .move (.tmp 27), 3, "ref.go:194", #[⟨26, .guard⟩], some (26, true)⟩) (some 307) rfl rfl (by kernel_rfl) (by kernel_rfl) (by kernel_rfl) (by decide) (fun c a w h => hQ c a _ _ w h) (by rfl) hHeld ?_
 (try simp only [Act.put, List.setIfInBounds_toArray, List.set_cons_zero, List.set_cons_succ])
 refine z_skip (i := 30) (oi := ⟨some 308, .binOp .lss 3 (.tmp 306) (.tmp 307) 3, 4, "ref.go:194", #[⟨28, .data⟩, ⟨29, .data⟩, ⟨26, .guard⟩], some (26, true)⟩) (some 308) rfl rfl (by kernel_rfl) (by kernel_rfl) (by kernel_rfl) (by decide) (fun c a w h => hQ c a _ _ w h) (by rfl) hHeld ?_
 (try simp only [Act.put, List.setIfInBounds_toArray, List.set_cons_zero, List.set_cons_succ])
 refine z_skip (i := 31) (oi := ⟨some 309, .pick (.tmp 304) (.tmp 308) (.const (Value.bool false)), 4, "ref.go:194", #[⟨26, .data⟩, ⟨30, .data⟩, ⟨22, .guard⟩], some (22, false)⟩) (some 309) rfl rfl (by kernel_rfl) (by kernel_rfl) (by kernel_rfl) (by decide) (fun c a w h => hQ c a _ _ w h) (by rfl) hHeld ?_
 (try simp only [Act.put, List.setIfInBounds_toArray, List.set_cons_zero, List.set_cons_succ])
 refine z_take (i := 32) (oi := ⟨some 310, .pick (.tmp 300) (.const (Value.bool true)) (.tmp 309), 4, "ref.go:194", #[⟨22, .data⟩, ⟨31, .data⟩, ⟨14, .guard⟩], some (14, true)⟩) (v := ?_) (some 310) rfl rfl (by kernel_rfl) (by kernel_rfl) (by kernel_rfl) (by decide) (fun c a w h => hQ c a _ _ w h) (by rfl) ?_ hHeld ?_
 rotate_left 1
 ·(intro wq; go_simp; try with_reducible rfl)
 (try simp only [Act.put, List.setIfInBounds_toArray, List.set_cons_zero, List.set_cons_succ])
 refine z_one (i := 33) (o := ⟨some 311, .pick (.tmp 292) (.tmp 310) (.const (Value.bool false)), 4, "ref.go:194", #[⟨14, .data⟩, ⟨32, .data⟩], none⟩) (by kernel_rfl) rfl (fun K hK => ?_)
 go_simp
 refine hK.out _ _ (Or.inl (by kernel_rfl)) (fun hHeld => ?_)
 (try simp only [List.setIfInBounds_toArray, List.set_cons_zero, List.set_cons_succ])
 refine z_done (by kernel_rfl) ?_ _
 exact fin _ hX0
end
end
end Go.Proofs.YtcbpafpaimpfnaaGreatDoor
