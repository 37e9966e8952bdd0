/- walks: hedgelaw7.TalkTells (written by tools/gen_tf9.py) -/
import Derived.Test.YtaneiffnhphkhaaGreatDoorD19
import Derived.Test.YtaneiffnhphkhaaGreatDoorD08
import Derived.Test.YtaneiffnhphkhaaGreatDoorD15
import Derived.Test.YtaneiffnhphkhaaGreatDoorD37
set_option maxRecDepth 100000
set_option maxHeartbeats 40000000
namespace Go.Proofs.YtaneiffnhphkhaaGreatDoor
section
open Go.RowKit
def tt7_ops:Array Oper:=#[⟨some 64,.load 32 (.tmp 16),32, "law.go:34",#[],none⟩,⟨some 65,.load 32 (.tmp 18),32, "law.go:34",#[],none⟩,⟨some 66,.binOp .neq 32 (.tmp 64) (.tmp 65) 32,4, "law.go:34",#[⟨0,.data⟩,⟨1,.data⟩],none⟩,⟨some 67,.move (.tmp 66),4, "law.go:34",#[⟨2,.data⟩],none⟩,⟨some 68,.load 29 (.tmp 20),29, "law.go:34",#[⟨3,.guard⟩],some (3,false)⟩,⟨some 69,.load 29 (.tmp 22),29, "law.go:34",#[⟨3,.guard⟩],some (3,false)⟩,⟨some 70,.call { callee:=.value (.func 14),args:=#[.tmp 68,.tmp 69],argTypes:=#[29,29] },4, "law.go:34",#[⟨4,.data⟩,⟨5,.data⟩,⟨3,.chain⟩,⟨3,.guard⟩],some (3,false)⟩,⟨some 71,.unOp .not 4 (.tmp 70),4, "law.go:34",#[⟨6,.data⟩,⟨3,.guard⟩],some (3,false)⟩,⟨some 72,.pick (.tmp 67) (.const (Value.bool true)) (.tmp 71),4, "law.go:34",#[⟨3,.data⟩,⟨7,.data⟩],none⟩,⟨some 73,.move (.tmp 72),4, "law.go:34",#[⟨8,.data⟩,⟨6,.chain⟩],none⟩,⟨some 74,.load 25 (.tmp 19),25, "law.go:34",#[⟨9,.guard⟩],some (9,false)⟩,⟨some 75,.load 25 (.tmp 21),25, "law.go:34",#[⟨9,.guard⟩],some (9,false)⟩,⟨some 76,.call { callee:=.value (.func 17),args:=#[.tmp 74,.tmp 75],argTypes:=#[25,25] },4, "law.go:34",#[⟨10,.data⟩,⟨11,.data⟩,⟨9,.chain⟩,⟨9,.guard⟩],some (9,false)⟩,⟨some 77,.unOp .not 4 (.tmp 76),4, "law.go:34",#[⟨12,.data⟩,⟨9,.guard⟩],some (9,false)⟩,⟨some 78,.pick (.tmp 73) (.const (Value.bool true)) (.tmp 77),4, "law.go:34",#[⟨9,.data⟩,⟨13,.data⟩],none⟩,⟨some 79,.move (.tmp 78),4, "law.go:34",#[⟨14,.data⟩,⟨12,.chain⟩],none⟩,⟨some 80,.load 29 (.tmp 20),29, "law.go:34",#[⟨15,.guard⟩],some (15,false)⟩,⟨some 81,.move (.tmp 4),3, "law.go:34",#[⟨15,.guard⟩],some (15,false)⟩,⟨some 82,.move (.tmp 5),3, "law.go:34",#[⟨15,.guard⟩],some (15,false)⟩,⟨some 83,.move (.tmp 6),3, "law.go:34",#[⟨15,.guard⟩],some (15,false)⟩,⟨some 84,.call { callee:=.value (.func 18),args:=#[.tmp 80,.tmp 81,.tmp 82,.tmp 83],argTypes:=#[29,3,3,3] },4, "law.go:34",#[⟨16,.data⟩,⟨17,.data⟩,⟨18,.data⟩,⟨19,.data⟩,⟨15,.chain⟩,⟨15,.guard⟩],some (15,false)⟩,⟨some 85,.load 29 (.tmp 22),29, "law.go:34",#[⟨15,.guard⟩],some (15,false)⟩,⟨some 86,.move (.tmp 4),3, "law.go:34",#[⟨15,.guard⟩],some (15,false)⟩,⟨some 87,.move (.tmp 5),3, "law.go:34",#[⟨15,.guard⟩],some (15,false)⟩,⟨some 88,.move (.tmp 6),3, "law.go:34",#[⟨15,.guard⟩],some (15,false)⟩,⟨some 89,.call { callee:=.value (.func 19),args:=#[.tmp 85,.tmp 86,.tmp 87,.tmp 88],argTypes:=#[29,3,3,3] },4, "law.go:34",#[⟨21,.data⟩,⟨22,.data⟩,⟨23,.data⟩,⟨24,.data⟩,⟨20,.chain⟩,⟨15,.guard⟩],some (15,false)⟩,⟨some 90,.binOp .neq 4 (.tmp 84) (.tmp 89) 4,4, "law.go:34",#[⟨20,.data⟩,⟨25,.data⟩,⟨15,.guard⟩],some (15,false)⟩,⟨some 91,.pick (.tmp 79) (.const (Value.bool true)) (.tmp 90),4, "law.go:34",#[⟨15,.data⟩,⟨26,.data⟩],none⟩]
section
variable {Q:Exit→Act→World→Prop}(df:List Deferred) (X:World) (F G M A O B:Nat) (E1 E2 tree br port:Int) (va vb m0 m1 o0 o1:Value) (op:Bool)
variable (x0 x1 x2 x3 x7 x8 x9 x10 x11 x12 x13 x14 x15 x17 x23 x24 x25 x26 x27 x28 x29 x30 x31 x32 x33 x34 x35 x36 x37 x38 x39 x40 x41 x42 x43 x44 x45 x46 x47 x48 x49 x50 x51 x52 x53 x54 x55 x56 x57 x58 x59 x60 x61 x62 x63 x92 x93 x94 x95 x96 x97 x98 x99 x100 x101 x102 x103 x104 x105 x106 x107 x108 x109 x110 x111 x112 x113 x114 x115 x116 x117 x118 x119 x120:Value)
variable (hQ:∀c (a:Act) (d:Tmp) (v:Value) (w:World),Q (.panic c) (a.put (some d) v) w→Q (.panic c) a w)
variable (hC:∀V,Bl X V→(V.cell? ⟨F,0,none⟩=some (.int .i64 E1)∧V.cell? ⟨F,1,none⟩=some (.int .i64 E2))∧(V.cell? ⟨G,0,none⟩=some (.int .i64 E1)∧V.cell? ⟨G,1,none⟩=some (.int .i64 E2))∧V.cell? ⟨A,0,none⟩=some va∧V.cell? ⟨B,0,none⟩=some vb∧(V.cell? ⟨M,0,none⟩=some m0∧V.cell? ⟨M,1,none⟩=some m1)∧V.cell? ⟨O,0,none⟩=some o0∧V.cell? ⟨O,1,none⟩=some o1)
variable (hS:∀W,Bl X W→Calls Tryz.prog 14 #[.agg #[va],.agg #[vb]] W fun e w'=>e=.returned (.bool true)∧Bl W w')
variable (hN:∀W,Bl X W→Calls Tryz.prog 17 #[.agg #[m0,m1],.agg #[o0,o1]] W fun e w'=>e=.returned (.bool true)∧Bl W w')
variable (hP:∀W,Bl X W→Calls Tryz.prog 18 #[.agg #[va],.int .i64 tree,.int .i64 br,.int .i64 port] W fun e w'=>e=.returned (.bool op)∧Bl W w')
variable (hR:∀W,Bl X W→Calls Tryz.prog 19 #[.agg #[vb],.int .i64 tree,.int .i64 br,.int .i64 port] W fun e w'=>e=.returned (.bool op)∧Bl W w')
variable (fin:∀(w':World),Bl X w'→Q .normal { tmps:=#[x0,x1,x2,x3,(.int .i64 tree),(.int .i64 br),(.int .i64 port),x7,x8,x9,x10,x11,x12,x13,x14,x15,(.pointer (some ⟨F,0,none⟩)),x17,(.pointer (some ⟨G,0,none⟩)),(.pointer (some ⟨M,0,none⟩)),(.pointer (some ⟨A,0,none⟩)),(.pointer (some ⟨O,0,none⟩)),(.pointer (some ⟨B,0,none⟩)),x23,x24,x25,x26,x27,x28,x29,x30,x31,x32,x33,x34,x35,x36,x37,x38,x39,x40,x41,x42,x43,x44,x45,x46,x47,x48,x49,x50,x51,x52,x53,x54,x55,x56,x57,x58,x59,x60,x61,x62,x63,(.agg #[.int .i64 E1,.int .i64 E2]),(.agg #[.int .i64 E1,.int .i64 E2]),(.bool false),(.bool false),(.agg #[va]),(.agg #[vb]),(.bool true),(.bool false),(.bool false),(.bool false),(.agg #[m0,m1]),(.agg #[o0,o1]),(.bool true),(.bool false),(.bool false),(.bool false),(.agg #[va]),(.int .i64 tree),(.int .i64 br),(.int .i64 port),(.bool op),(.agg #[vb]),(.int .i64 tree),(.int .i64 br),(.int .i64 port),(.bool op),(.bool false),(.bool false),x92,x93,x94,x95,x96,x97,x98,x99,x100,x101,x102,x103,x104,x105,x106,x107,x108,x109,x110,x111,x112,x113,x114,x115,x116,x117,x118,x119,x120],defers:=df } w')
include hQ hC hS hN hP hR fin in
theorem tt7 (x64 x65 x66 x67 x68 x69 x70 x71 x72 x73 x74 x75 x76 x77 x78 x79 x80 x81 x82 x83 x84 x85 x86 x87 x88 x89 x90 x91:Value):(Code.region 7 tt7_ops true).wp Tryz.prog Q { tmps:=#[x0,x1,x2,x3,(.int .i64 tree),(.int .i64 br),(.int .i64 port),x7,x8,x9,x10,x11,x12,x13,x14,x15,(.pointer (some ⟨F,0,none⟩)),x17,(.pointer (some ⟨G,0,none⟩)),(.pointer (some ⟨M,0,none⟩)),(.pointer (some ⟨A,0,none⟩)),(.pointer (some ⟨O,0,none⟩)),(.pointer (some ⟨B,0,none⟩)),x23,x24,x25,x26,x27,x28,x29,x30,x31,x32,x33,x34,x35,x36,x37,x38,x39,x40,x41,x42,x43,x44,x45,x46,x47,x48,x49,x50,x51,x52,x53,x54,x55,x56,x57,x58,x59,x60,x61,x62,x63,x64,x65,x66,x67,x68,x69,x70,x71,x72,x73,x74,x75,x76,x77,x78,x79,x80,x81,x82,x83,x84,x85,x86,x87,x88,x89,x90,x91,x92,x93,x94,x95,x96,x97,x98,x99,x100,x101,x102,x103,x104,x105,x106,x107,x108,x109,x110,x111,x112,x113,x114,x115,x116,x117,x118,x119,x120],defers:=df } X:=by
 have hX0:Bl X X.drew:=Below.drew (Below.refl _ _);have hne:=fun W=>ft_neq E1 E2 E1 E2 W;refine wp_region_z (z:=27) (C:=fun W=>(W.cell? ⟨F,0,none⟩=some (.int .i64 E1)∧W.cell? ⟨F,1,none⟩=some (.int .i64 E2))∧(W.cell? ⟨G,0,none⟩=some (.int .i64 E1)∧W.cell? ⟨G,1,none⟩=some (.int .i64 E2))∧W.cell? ⟨A,0,none⟩=some va∧W.cell? ⟨B,0,none⟩=some vb∧(W.cell? ⟨M,0,none⟩=some m0∧W.cell? ⟨M,1,none⟩=some m1)∧W.cell? ⟨O,0,none⟩=some o0∧W.cell? ⟨O,1,none⟩=some o1) (by kernel_rfl) (hC _ hX0) (fun hHeld => ?_);refine z_load (i:=0) (oi:=⟨some 64,.load 32 (.tmp 16),32, "law.go:34",#[],none⟩) (v := ?_) (some 64) rfl rfl (by kernel_rfl) (by kernel_rfl) (by kernel_rfl) (by kernel_rfl) (fun c a w h=>hQ c a _ _ w h) (by rfl) ?_ hHeld ?_;rotate_left 1
 ·(intro wq hSw;go_simp;try with_reducible rfl)
 (try simp only[Act.put,lsA,lsZ,lsS])
 refine z_load (i:=1) (oi:=⟨some 65,.load 32 (.tmp 18),32, "law.go:34",#[],none⟩) (v := ?_) (some 65) rfl rfl (by kernel_rfl) (by kernel_rfl) (by kernel_rfl) (by kernel_rfl) (fun c a w h=>hQ c a _ _ w h) (by rfl) ?_ hHeld ?_;rotate_left 1
 ·(intro wq hSw;go_simp;try with_reducible rfl)
 (try simp only[Act.put,lsA,lsZ,lsS])
 refine z_take (i:=2) (oi:=⟨some 66,.binOp .neq 32 (.tmp 64) (.tmp 65) 32,4, "law.go:34",#[⟨0,.data⟩,⟨1,.data⟩],none⟩) (v := ?_) (some 66) rfl rfl (by kernel_rfl) (by kernel_rfl) (by kernel_rfl) (by decide) (fun c a w h=>hQ c a _ _ w h) (by rfl) ?_ hHeld ?_;rotate_left 1
 ·(intro wq;go_simp;try with_reducible rfl)
 (try simp only[Act.put,lsA,lsZ,lsS])
 refine z_take (i:=3) (oi:=⟨some 67,.move (.tmp 66),4, "law.go:34",#[⟨2,.data⟩],none⟩) (v := ?_) (some 67) rfl rfl (by kernel_rfl) (by kernel_rfl) (by kernel_rfl) (by decide) (fun c a w h=>hQ c a _ _ w h) (by rfl) ?_ hHeld ?_;rotate_left 1
 ·(intro wq;go_simp;try with_reducible rfl)
 (try simp only[Act.put,lsA,lsZ,lsS])
 refine z_load (i:=4) (oi:=⟨some 68,.load 29 (.tmp 20),29, "law.go:34",#[⟨3,.guard⟩],some (3,false)⟩) (v := ?_) (some 68) rfl rfl (by kernel_rfl) (by kernel_rfl) (by kernel_rfl) (by kernel_rfl) (fun c a w h=>hQ c a _ _ w h) (by rfl) ?_ hHeld ?_;rotate_left 1
 ·(intro wq hSw;go_simp;try with_reducible rfl)
 (try simp only[Act.put,lsA,lsZ,lsS])
 refine z_load (i:=5) (oi:=⟨some 69,.load 29 (.tmp 22),29, "law.go:34",#[⟨3,.guard⟩],some (3,false)⟩) (v := ?_) (some 69) rfl rfl (by kernel_rfl) (by kernel_rfl) (by kernel_rfl) (by kernel_rfl) (fun c a w h=>hQ c a _ _ w h) (by rfl) ?_ hHeld ?_;rotate_left 1
 ·(intro wq hSw;go_simp;try with_reducible rfl)
 (try simp only[Act.put,lsA,lsZ,lsS])
 refine z_one (i:=6) (o:=⟨some 70,.call { callee:=.value (.func 14),args:=#[.tmp 68,.tmp 69],argTypes:=#[29,29] },4, "law.go:34",#[⟨4,.data⟩,⟨5,.data⟩,⟨3,.chain⟩,⟨3,.guard⟩],some (3,false)⟩) (by kernel_rfl) rfl (fun K hK => ?_);go_simp;refine(hS _ hX0).mono ?_;rintro e w1 ⟨rfl,hb⟩;have hX1:Bl X w1:=hX0.trans (hb.mono hX0.size);clear hHeld hb;refine hK.out _ _ (Or.inr (hC _ hX1)) (fun hHeld => ?_);clear hK K;(try simp only[lsA,lsZ,lsS])
 refine z_take (i:=7) (oi:=⟨some 71,.unOp .not 4 (.tmp 70),4, "law.go:34",#[⟨6,.data⟩,⟨3,.guard⟩],some (3,false)⟩) (v := ?_) (some 71) rfl rfl (by kernel_rfl) (by kernel_rfl) (by kernel_rfl) (by decide) (fun c a w h=>hQ c a _ _ w h) (by rfl) ?_ hHeld ?_;rotate_left 1
 ·(intro wq;go_simp;try with_reducible rfl)
 (try simp only[Act.put,lsA,lsZ,lsS])
 refine z_take (i:=8) (oi:=⟨some 72,.pick (.tmp 67) (.const (Value.bool true)) (.tmp 71),4, "law.go:34",#[⟨3,.data⟩,⟨7,.data⟩],none⟩) (v := ?_) (some 72) rfl rfl (by kernel_rfl) (by kernel_rfl) (by kernel_rfl) (by decide) (fun c a w h=>hQ c a _ _ w h) (by rfl) ?_ hHeld ?_;rotate_left 1
 ·(intro wq;go_simp;try with_reducible rfl)
 (try simp only[Act.put,lsA,lsZ,lsS])
 refine z_take (i:=9) (oi:=⟨some 73,.move (.tmp 72),4, "law.go:34",#[⟨8,.data⟩,⟨6,.chain⟩],none⟩) (v := ?_) (some 73) rfl rfl (by kernel_rfl) (by kernel_rfl) (by kernel_rfl) (by decide) (fun c a w h=>hQ c a _ _ w h) (by rfl) ?_ hHeld ?_;rotate_left 1
 ·(intro wq;go_simp;try with_reducible rfl)
 (try simp only[Act.put,lsA,lsZ,lsS])
 refine z_load (i:=10) (oi:=⟨some 74,.load 25 (.tmp 19),25, "law.go:34",#[⟨9,.guard⟩],some (9,false)⟩) (v := ?_) (some 74) rfl rfl (by kernel_rfl) (by kernel_rfl) (by kernel_rfl) (by kernel_rfl) (fun c a w h=>hQ c a _ _ w h) (by rfl) ?_ hHeld ?_;rotate_left 1
 ·(intro wq hSw;go_simp;try with_reducible rfl)
 (try simp only[Act.put,lsA,lsZ,lsS])
 refine z_load (i:=11) (oi:=⟨some 75,.load 25 (.tmp 21),25, "law.go:34",#[⟨9,.guard⟩],some (9,false)⟩) (v := ?_) (some 75) rfl rfl (by kernel_rfl) (by kernel_rfl) (by kernel_rfl) (by kernel_rfl) (fun c a w h=>hQ c a _ _ w h) (by rfl) ?_ hHeld ?_;rotate_left 1
 ·(intro wq hSw;go_simp;try with_reducible rfl)
 (try simp only[Act.put,lsA,lsZ,lsS])
 refine z_one (i:=12) (o:=⟨some 76,.call { callee:=.value (.func 17),args:=#[.tmp 74,.tmp 75],argTypes:=#[25,25] },4, "law.go:34",#[⟨10,.data⟩,⟨11,.data⟩,⟨9,.chain⟩,⟨9,.guard⟩],some (9,false)⟩) (by kernel_rfl) rfl (fun K hK => ?_);go_simp;refine(hN _ hX1).mono ?_;rintro e w2 ⟨rfl,hb⟩;have hX2:Bl X w2:=hX1.trans (hb.mono hX1.size);clear hHeld hb;refine hK.out _ _ (Or.inr (hC _ hX2)) (fun hHeld => ?_);clear hK K;(try simp only[lsA,lsZ,lsS])
 refine z_take (i:=13) (oi:=⟨some 77,.unOp .not 4 (.tmp 76),4, "law.go:34",#[⟨12,.data⟩,⟨9,.guard⟩],some (9,false)⟩) (v := ?_) (some 77) rfl rfl (by kernel_rfl) (by kernel_rfl) (by kernel_rfl) (by decide) (fun c a w h=>hQ c a _ _ w h) (by rfl) ?_ hHeld ?_;rotate_left 1
 ·(intro wq;go_simp;try with_reducible rfl)
 (try simp only[Act.put,lsA,lsZ,lsS])
 refine z_take (i:=14) (oi:=⟨some 78,.pick (.tmp 73) (.const (Value.bool true)) (.tmp 77),4, "law.go:34",#[⟨9,.data⟩,⟨13,.data⟩],none⟩) (v := ?_) (some 78) rfl rfl (by kernel_rfl) (by kernel_rfl) (by kernel_rfl) (by decide) (fun c a w h=>hQ c a _ _ w h) (by rfl) ?_ hHeld ?_;rotate_left 1
 ·(intro wq;go_simp;try with_reducible rfl)
 (try simp only[Act.put,lsA,lsZ,lsS])
 refine z_take (i:=15) (oi:=⟨some 79,.move (.tmp 78),4, "law.go:34",#[⟨14,.data⟩,⟨12,.chain⟩],none⟩) (v := ?_) (some 79) rfl rfl (by kernel_rfl) (by kernel_rfl) (by kernel_rfl) (by decide) (fun c a w h=>hQ c a _ _ w h) (by rfl) ?_ hHeld ?_;rotate_left 1
 ·(intro wq;go_simp;try with_reducible rfl)
 (try simp only[Act.put,lsA,lsZ,lsS])
 refine z_load (i:=16) (oi:=⟨some 80,.load 29 (.tmp 20),29, "law.go:34",#[⟨15,.guard⟩],some (15,false)⟩) (v := ?_) (some 80) rfl rfl (by kernel_rfl) (by kernel_rfl) (by kernel_rfl) (by kernel_rfl) (fun c a w h=>hQ c a _ _ w h) (by rfl) ?_ hHeld ?_;rotate_left 1
 ·(intro wq hSw;go_simp;try with_reducible rfl)
 (try simp only[Act.put,lsA,lsZ,lsS])
 refine z_take (i:=17) (oi:=⟨some 81,.move (.tmp 4),3, "law.go:34",#[⟨15,.guard⟩],some (15,false)⟩) (v := ?_) (some 81) rfl rfl (by kernel_rfl) (by kernel_rfl) (by kernel_rfl) (by decide) (fun c a w h=>hQ c a _ _ w h) (by rfl) ?_ hHeld ?_;rotate_left 1
 ·(intro wq;go_simp;try with_reducible rfl)
 (try simp only[Act.put,lsA,lsZ,lsS])
 refine z_take (i:=18) (oi:=⟨some 82,.move (.tmp 5),3, "law.go:34",#[⟨15,.guard⟩],some (15,false)⟩) (v := ?_) (some 82) rfl rfl (by kernel_rfl) (by kernel_rfl) (by kernel_rfl) (by decide) (fun c a w h=>hQ c a _ _ w h) (by rfl) ?_ hHeld ?_;rotate_left 1
 ·(intro wq;go_simp;try with_reducible rfl)
 (try simp only[Act.put,lsA,lsZ,lsS])
 refine z_take (i:=19) (oi:=⟨some 83,.move (.tmp 6),3, "law.go:34",#[⟨15,.guard⟩],some (15,false)⟩) (v := ?_) (some 83) rfl rfl (by kernel_rfl) (by kernel_rfl) (by kernel_rfl) (by decide) (fun c a w h=>hQ c a _ _ w h) (by rfl) ?_ hHeld ?_;rotate_left 1
 ·(intro wq;go_simp;try with_reducible rfl)
 (try simp only[Act.put,lsA,lsZ,lsS])
 refine z_load (i:=21) (oi:=⟨some 85,.load 29 (.tmp 22),29, "law.go:34",#[⟨15,.guard⟩],some (15,false)⟩) (v := ?_) (some 85) rfl rfl (by kernel_rfl) (by kernel_rfl) (by kernel_rfl) (by kernel_rfl) (fun c a w h=>hQ c a _ _ w h) (by rfl) ?_ hHeld ?_;rotate_left 1
 ·(intro wq hSw;go_simp;try with_reducible rfl)
 (try simp only[Act.put,lsA,lsZ,lsS])
 refine z_take (i:=22) (oi:=⟨some 86,.move (.tmp 4),3, "law.go:34",#[⟨15,.guard⟩],some (15,false)⟩) (v := ?_) (some 86) rfl rfl (by kernel_rfl) (by kernel_rfl) (by kernel_rfl) (by decide) (fun c a w h=>hQ c a _ _ w h) (by rfl) ?_ hHeld ?_;rotate_left 1
 ·(intro wq;go_simp;try with_reducible rfl)
 (try simp only[Act.put,lsA,lsZ,lsS])
 refine z_take (i:=23) (oi:=⟨some 87,.move (.tmp 5),3, "law.go:34",#[⟨15,.guard⟩],some (15,false)⟩) (v := ?_) (some 87) rfl rfl (by kernel_rfl) (by kernel_rfl) (by kernel_rfl) (by decide) (fun c a w h=>hQ c a _ _ w h) (by rfl) ?_ hHeld ?_;rotate_left 1
 ·(intro wq;go_simp;try with_reducible rfl)
 (try simp only[Act.put,lsA,lsZ,lsS])
 refine z_take (i:=24) (oi:=⟨some 88,.move (.tmp 6),3, "law.go:34",#[⟨15,.guard⟩],some (15,false)⟩) (v := ?_) (some 88) rfl rfl (by kernel_rfl) (by kernel_rfl) (by kernel_rfl) (by decide) (fun c a w h=>hQ c a _ _ w h) (by rfl) ?_ hHeld ?_;rotate_left 1
 ·(intro wq;go_simp;try with_reducible rfl)
 (try simp only[Act.put,lsA,lsZ,lsS])
 refine z_one (i:=20) (o:=⟨some 84,.call { callee:=.value (.func 18),args:=#[.tmp 80,.tmp 81,.tmp 82,.tmp 83],argTypes:=#[29,3,3,3] },4, "law.go:34",#[⟨16,.data⟩,⟨17,.data⟩,⟨18,.data⟩,⟨19,.data⟩,⟨15,.chain⟩,⟨15,.guard⟩],some (15,false)⟩) (by kernel_rfl) rfl (fun K hK => ?_);go_simp;refine(hP _ hX2).mono ?_;rintro e w3 ⟨rfl,hb⟩;have hX3:Bl X w3:=hX2.trans (hb.mono hX2.size);clear hHeld hb;refine hK.out _ _ (Or.inr (hC _ hX3)) (fun hHeld => ?_);clear hK K;(try simp only[lsA,lsZ,lsS])
 refine z_one (i:=25) (o:=⟨some 89,.call { callee:=.value (.func 19),args:=#[.tmp 85,.tmp 86,.tmp 87,.tmp 88],argTypes:=#[29,3,3,3] },4, "law.go:34",#[⟨21,.data⟩,⟨22,.data⟩,⟨23,.data⟩,⟨24,.data⟩,⟨20,.chain⟩,⟨15,.guard⟩],some (15,false)⟩) (by kernel_rfl) rfl (fun K hK => ?_);go_simp;refine(hR _ hX3).mono ?_;rintro e w4 ⟨rfl,hb⟩;have hX4:Bl X w4:=hX3.trans (hb.mono hX3.size);clear hHeld hb;refine hK.out _ _ (Or.inr (hC _ hX4)) (fun hHeld => ?_);clear hK K;(try simp only[lsA,lsZ,lsS])
 refine z_take (i:=26) (oi:=⟨some 90,.binOp .neq 4 (.tmp 84) (.tmp 89) 4,4, "law.go:34",#[⟨20,.data⟩,⟨25,.data⟩,⟨15,.guard⟩],some (15,false)⟩) (v := ?_) (some 90) rfl rfl (by kernel_rfl) (by kernel_rfl) (by kernel_rfl) (by decide) (fun c a w h=>hQ c a _ _ w h) (by rfl) ?_ hHeld ?_;rotate_left 1
 ·(intro wq;go_simp;try with_reducible rfl)
 (try simp only[Act.put,lsA,lsZ,lsS])
 refine z_one (i:=27) (o:=⟨some 91,.pick (.tmp 79) (.const (Value.bool true)) (.tmp 90),4, "law.go:34",#[⟨15,.data⟩,⟨26,.data⟩],none⟩) (by kernel_rfl) rfl (fun K hK => ?_);go_simp;refine hK.out _ _ (Or.inl (by kernel_rfl)) (fun hHeld => ?_);(try simp only[lsA,lsZ,lsS])
 refine z_done (by kernel_rfl) ?_ _;exact fin _ hX4
end
end
section
open Go.RowKit
open Vc (V Of)
open Pl (En Lk Br Net)
open Tk (Md Mnd Cn Sc Dn)
theorem ft_eql (a b:Int) (W:World):(binOp .eql 32 (.agg #[.int .i64 a,.int .i64 b]) (.agg #[.int .i64 a,.int .i64 b])).run Tryz.prog W=.ok (.bool true) W:=by go_simp
theorem ft_neqs (a b:Int) (W:World):(binOp .neq 32 (.agg #[.int .i64 a,.int .i64 b]) (.agg #[.int .i64 a,.int .i64 b])).run Tryz.prog W=.ok (.bool false) W:=by go_simp
theorem box3 {w4:World}{F:Nat}{a0 a1 x0 x1 x2:Value}(v0 v1:Value) (hF:w4.heap[F]?=some (.cells #[a0,a1] 32)) :
  (((w4.alloc (.cells #[x0,x1] 25)).alloc (.cells #[x2] 29)).cell? ⟨F,0,none⟩=some a0∧((w4.alloc (.cells #[x0,x1] 25)).alloc (.cells #[x2] 29)).cell? ⟨F,1,none⟩=some a1∧((w4.alloc (.cells #[x0,x1] 25)).alloc (.cells #[x2] 29)).frozen? ⟨F,0,none⟩=false∧((w4.alloc (.cells #[x0,x1] 25)).alloc (.cells #[x2] 29)).frozen? ⟨F,1,none⟩=false) ∧
  ∀V,V=(((w4.alloc (.cells #[x0,x1] 25)).alloc (.cells #[x2] 29)).setCell ⟨F,0,none⟩ v0).setCell ⟨F,1,none⟩ v1 →
   V.heap[F]?=some (.cells #[v0,v1] 32)∧V.heap[w4.heap.size]?=some (.cells #[x0,x1] 25)∧V.heap[w4.heap.size+1]?=some (.cells #[x2] 29)∧(∀q x,q≠F→w4.heap[q]?=some x→V.heap[q]?=some x)∧V.heap.size=w4.heap.size+2∧(∀b w,b≤F→b≤w4.heap.size→Below b w w4→Below b w V)∧∀N P,N F→Bz N w4 P→Bz N V P:=by
 have hl:=lt_some hF;have hY:=keep hF (bA2 w4 (.cells #[x0,x1] 25) (.cells #[x2] 29));obtain⟨c0,c1⟩:=tC2 hY;refine⟨⟨c0,c1,frozen_of_row _ _ _ _ _ hY,frozen_of_row _ _ _ _ _ hY⟩,?_⟩;rintro V rfl;refine⟨set2_same hY,set_keep (set_keep (heap_alloc2_old _ _ _) (by omega)) (by omega),set_keep (set_keep (heap_alloc2_new _ _ _) (by omega)) (by omega),fun q x hne hq=>set_keep (set_keep (keep hq (bA2 _ _ _)) hne) hne,by simp,fun b w h1 h2 h3 => ?_,fun N P h1 h2=>((h2.below (bA2 _ _ _)).set h1).set h1⟩;exact((h3.trans ((bA2 _ _ _).mono h2)).setCell h1 _).setCell h1 _
theorem talktells_any (n:Net) (trees:Int) (dao:Option Addr) (dn dcap:Nat) (ds:Nat→Dn) (mao:Option Addr) (mn mcap:Nat) (mds:Nat→Dn) (tree br port:Int) (w:World) (hwf:n.Wf) (hat:n.at' w) (hnb:NilOk n.bao n.K n.bcap) (hnl:NilOk n.lao n.L n.lcap) (hnp:∀i,i<n.K→NilOk (n.bs i).pao (n.bs i).pn (n.bs i).pcap)
  (hdn:dn≤9223372036854775807) (hds:DRow w dao dn dcap ds) (hmn:mn≤9223372036854775807) (hms:DRow w mao mn mcap mds) (htb:Tabs w) (hbt:2≤w.heap.size) :
  Calls Tryz.prog 3 #[n.val,.int .i64 trees,.slice dao dn dcap,.slice mao mn mcap,.int .i64 tree,.int .i64 br,.int .i64 port] w fun e w'=>e=.returned (.bool true)∧Bl w w':=by
 obtain⟨X,HX⟩:∃X,Hid (X=w.alloc (.cells #[.slice n.bao n.K n.bcap,.slice n.lao n.L n.lcap] 25)):=⟨_,rfl⟩
 have hXB:Bl w X:=(by rw[HX.out];exact bA1 _ _)
 have hX0:X.heap[w.heap.size]?=some (.cells #[.slice n.bao n.K n.bcap,.slice n.lao n.L n.lcap] 25):=(by rw[HX.out];exact heap_alloc_last _ _)
 obtain⟨BN,HBN⟩:∃BN,Hid (BN=w.heap.size):=⟨_,rfl⟩
 rw[←HBN.out] at hX0;have HW:Hid (∀V,Bl w V→n.at' V∧(DRow V dao dn dcap ds∧DRow V mao mn mcap mds)∧Tabs V∧2≤V.heap.size):=fun V hV=>⟨hat.below hV,⟨CRow.below hds hV,CRow.below hms hV⟩,htb.below hV hbt,Nat.le_trans hbt hV.size⟩
 have HNA:Hid (∀(N:Nat→Prop) (V:World),(∀q,N q→w.heap.size≤q)→Bl w V→Bz N V (fun V=>n.at' V)):=fun N V hN hV V2 hV2=>net_agree hat (fun q hq=>(hV2 q (Nat.lt_of_lt_of_le hq hV.size) (fun z=>by have:=hN q z;omega)).trans (hV.block q hq));have HNI:Hid (NilOk n.bao n.K n.bcap∧NilOk n.lao n.L n.lcap∧∀i,i<n.K→NilOk (n.bs i).pao (n.bs i).pn (n.bs i).pcap):=⟨hnb,hnl,hnp⟩
 have HWF:Hid n.Wf:=hwf;have HDN:Hid (dn≤9223372036854775807∧mn≤9223372036854775807):=⟨hdn,hmn⟩
 have HNE:Hid (∀(a b:Int) (W:World),(binOp .neq 32 (.agg #[.int .i64 a,.int .i64 b]) (.agg #[.int .i64 a,.int .i64 b])).run Tryz.prog W=.ok (.bool false) W):=ft_neqs;have HEQ:Hid (∀(a b:Int) (W:World),(binOp .eql 32 (.agg #[.int .i64 a,.int .i64 b]) (.agg #[.int .i64 a,.int .i64 b])).run Tryz.prog W=.ok (.bool true) W):=ft_eql;obtain⟨es,HES⟩:∃es,Hid (es=stErr n trees):=⟨_,rfl⟩
 obtain⟨ep,HEP⟩:∃ep,Hid (ep=plErr n trees ds dn):=⟨_,rfl⟩
 have HBX:Hid (X.heap[BN]?=some (.cells #[.slice n.bao n.K n.bcap,.slice n.lao n.L n.lcap] 25)∧Bl w X∧w.heap.size≤BN):=⟨hX0,hXB,by rw[HBN.out];exact Nat.le_refl _⟩
 have HS1:Hid (Calls Tryz.prog 12 #[.agg #[.slice n.bao n.K n.bcap,.slice n.lao n.L n.lcap],.int .i64 trees] X fun e w'=>StZ X n trees e w'):=tstart_z hwf (hat.below hXB);obtain⟨x0,x1⟩:=tC2 hX0;rw[HX.out,HBN.out] at x0 x1;clear hwf hat hnb hnl hnp hdn hds hmn hms htb hbt hXB hX0;simp only[Pl.Net.val];go_enter Tryz.func3,Tryz.ntmps3;(go_wp2_with fail);rw[←HX.out,←HBN.out];refine HS1.out.mono ?_;rintro e w1 ⟨oa1,oc1,ol1,rfl,H1⟩;rw[←HES.out];clear HS1 x0 x1;obtain⟨V1,HV1⟩:∃V,Hid (V=(w1.alloc (.cells #[.slice oa1 ol1 oc1] 29)).alloc (.cells #[.int .i64 es.1,.int .i64 es.2] 32)):=⟨_,rfl⟩
 obtain⟨F,HF⟩:∃F,Hid (F=w1.heap.size+1):=⟨_,rfl⟩
 have b11:Bl w1 V1:=(by rw[HV1.out];exact bA2 _ _ _)
 have bX1:Bl X V1:=H1.out.1.trans (b11.mono H1.out.1.size);have bw1:Bl w V1:=HBX.out.2.1.trans (bX1.mono HBX.out.2.1.size);have hs1:V1.heap[w1.heap.size]?=some (.cells #[.slice oa1 ol1 oc1] 29):=(by rw[HV1.out];exact heap_alloc2_old _ _ _)
 have hf1:V1.heap[F]?=some (.cells #[.int .i64 es.1,.int .i64 es.2] 32):=(by rw[HV1.out,HF.out];exact heap_alloc2_new _ _ _)
 obtain⟨x0,x1⟩:=tC2 (keep HBX.out.1 bX1);have HS2:Hid (Calls Tryz.prog 13 #[.agg #[.slice n.bao n.K n.bcap,.slice n.lao n.L n.lcap],.int .i64 trees] V1 fun e w'=>StZ V1 n trees e w'):=rstart_z HWF.out (HW.out V1 bw1).1;have HG1:Hid (V1.heap[w1.heap.size]?=some (.cells #[.slice oa1 ol1 oc1] 29)∧V1.heap[F]?=some (.cells #[.int .i64 es.1,.int .i64 es.2] 32)∧Bl X V1∧Bl w1 V1∧w.heap.size≤F):=⟨hs1,hf1,bX1,b11,by have h1:=HBX.out.2.1.size;have h2:=H1.out.1.size;have h3:=HF.out;omega⟩
 rw[HV1.out] at x0 x1;clear b11 bX1 bw1 hs1 hf1;(go_wp2_with fail);rw[←HV1.out,←HF.out];refine HS2.out.mono ?_;rintro e w2 ⟨oa2,oc2,ol2,rfl,H2⟩;rw[←HES.out];clear HS2 x0 x1;obtain⟨V2,HV2⟩:∃V,Hid (V=(w2.alloc (.cells #[.slice oa2 ol2 oc2] 29)).alloc (.cells #[.int .i64 es.1,.int .i64 es.2] 32)):=⟨_,rfl⟩
 obtain⟨G,HG⟩:∃G,Hid (G=w2.heap.size+1):=⟨_,rfl⟩
 have b22:Bl w2 V2:=(by rw[HV2.out];exact bA2 _ _ _)
 have b12:Bl V1 V2:=H2.out.1.trans (b22.mono H2.out.1.size);have bX2:Bl X V2:=HG1.out.2.2.1.trans (b12.mono HG1.out.2.2.1.size);have bw2:Bl w V2:=HBX.out.2.1.trans (bX2.mono HBX.out.2.1.size);have hs2:=keep HG1.out.1 b12;have hf2:=keep HG1.out.2.1 b12;have hq2:V2.heap[w2.heap.size]?=some (.cells #[.slice oa2 ol2 oc2] 29):=(by rw[HV2.out];exact heap_alloc2_old _ _ _)
 have hg2:V2.heap[G]?=some (.cells #[.int .i64 es.1,.int .i64 es.2] 32):=(by rw[HV2.out,HG.out];exact heap_alloc2_new _ _ _)
 obtain⟨y0,y1⟩:=tC2 hf2;obtain⟨y2,y3⟩:=tC2 hg2;have y4:=one_cell hs2;have y5:=one_cell hq2;have HSA:Hid (Calls Tryz.prog 14 #[.agg #[.slice oa1 ol1 oc1],.agg #[.slice oa2 ol2 oc2]] V2 fun e w'=>e=.returned (.bool true)∧Hid (Bl V2 w')):=by
  obtain⟨_,t1,rfl,r1,s1⟩:=H1.out;obtain⟨_,t2,rfl,r2,s2⟩:=H2.out;exact(tsame7_any oa1 oa2 oc1 oc2 t1 t2 V2 (r1.below (HG1.out.2.2.2.1.trans (b12.mono HG1.out.2.2.2.1.size))) (r2.below b22) (str_same HWF.out s1 s2)).mono (fun e w' h=>⟨h.1,h.2⟩)
 have HG2:Hid (V2.heap[F]?=some (.cells #[.int .i64 es.1,.int .i64 es.2] 32)∧V2.heap[G]?=some (.cells #[.int .i64 es.1,.int .i64 es.2] 32)∧V2.heap[BN]?=some (.cells #[.slice n.bao n.K n.bcap,.slice n.lao n.L n.lcap] 25)∧Bl w V2∧w.heap.size≤G∧F<G∧BN<F):=⟨hf2,hg2,keep HBX.out.1 bX2,bw2,by have h1:=bw2.size;have h2:=HG.out;have h3:=HBX.out.2.1.size;have h4:=HG1.out.2.2.1.size;have h5:=H2.out.1.size;omega,by have h1:=lt_some HG1.out.2.1;have h2:=H2.out.1.size;have h3:=HG.out;omega,by have h1:=lt_some HBX.out.1;have h2:=H1.out.1.size;have h3:=HF.out;omega⟩
 have hne:=HNE.out es.1 es.2;rw[HV2.out] at y0 y1 y2 y3 y4 y5;rw[HG.out] at y2 y3;clear b22 b12 bX2 bw2 hs2 hf2 hq2 hg2 H1;(go_wp2_with fail);rw[←HV2.out,←HG.out];refine HSA.out.mono ?_;rintro e w3 ⟨rfl,H3⟩;clear HSA y0 y1 y2 y3 y4 y5 hne HG1 H2 HV1 HV2;obtain⟨N,HN⟩:∃N:Nat→Prop,Hid (N=fun q=>q=F∨q=G):=⟨_,rfl⟩
 have HNF:Hid ((N F∧N G)∧∀q,N q→q=F∨q=G):=(by rw[HN.out];exact⟨⟨Or.inl rfl,Or.inr rfl⟩,fun q z=>z⟩)
 have bw3:Bl w w3:=HG2.out.2.2.2.1.trans (H3.out.mono HG2.out.2.2.2.1.size);have hN3:∀q,N q→q<w3.heap.size∧w.heap.size≤q:=fun q z=>by
  have h1:=lt_some HG2.out.2.1;have h2:=H3.out.size;have h3:=HG2.out.2.2.2.2;have h4:=HG2.out.1;have h5:=lt_some h4;have h6:=HBX.out.2.2;rcases HNF.out.2 q z with e | e<;>omega
 have HN3:Hid (∀q,N q→q<w3.heap.size∧w.heap.size≤q):=hN3;have hF3:=keep HG2.out.1 H3.out;have hG3:=keep HG2.out.2.1 H3.out;have hB3:=keep HG2.out.2.2.1 H3.out;obtain⟨x0,x1⟩:=tC2 hB3;have HP1:Hid (Calls Tryz.prog 15 #[.agg #[.slice n.bao n.K n.bcap,.slice n.lao n.L n.lcap],.int .i64 trees,.slice dao dn dcap] w3 fun e w'=>PlZ N w3 (plErr n trees ds dn) n trees.toNat ((n.sc (startMs n)).all n.cn ds dn) e w'):=by
  obtain⟨z1,⟨z2,_⟩,z3,z4⟩:=HW.out w3 bw3;exact tplay_z HWF.out (fun q z=>(hN3 q z).1) z1 HDN.out.1 z2 z3 z4
 have HG3:Hid (w3.heap[F]?=some (.cells #[.int .i64 es.1,.int .i64 es.2] 32)∧w3.heap[G]?=some (.cells #[.int .i64 es.1,.int .i64 es.2] 32)∧w3.heap[BN]?=some (.cells #[.slice n.bao n.K n.bcap,.slice n.lao n.L n.lcap] 25)∧Bl w w3∧(F<G∧BN<F∧w.heap.size≤F)):=⟨hF3,hG3,hB3,bw3,HG2.out.2.2.2.2.2.1,HG2.out.2.2.2.2.2.2,(hN3 F HNF.out.1.1).2⟩
 clear bw3 hN3 hF3 hG3 hB3 H3 HG2;(go_wp2_with fail);refine HP1.out.mono ?_;rintro e w4 ⟨na,nk,nc,la,lk,lc,oa,ol,oc,rfl,H4⟩;rw[←HEP.out];clear HP1 x0 x1;have hF4:=keep HG3.out.1 H4.out.1;obtain⟨⟨f0,f1,f2,f3⟩,hbx⟩:=box3 (x0:=.slice na nk nc) (x1:=.slice la lk lc) (x2:=.slice oa ol oc) (.int .i64 ep.1) (.int .i64 ep.2) hF4;obtain⟨V4,HV4⟩:∃V,Hid (V=(((w4.alloc (.cells #[.slice na nk nc,.slice la lk lc] 25)).alloc (.cells #[.slice oa ol oc] 29)).setCell ⟨F,0,none⟩ (.int .i64 ep.1)).setCell ⟨F,1,none⟩ (.int .i64 ep.2)):=⟨_,rfl⟩
 obtain⟨k1,k2,k3,k4,k5,k6,k7⟩:=hbx V4 HV4.out;have bw34:Bl w w4:=HG3.out.2.2.2.1.trans (H4.out.1.mono HG3.out.2.2.2.1.size);have bw4:Bl w V4:=k6 _ _ HG3.out.2.2.2.2.2.2 bw34.size bw34;have hG4:=k4 G _ (by have:=HG3.out.2.2.2.2.1;omega) (keep HG3.out.2.1 H4.out.1);have hB4:=k4 BN _ (by have:=HG3.out.2.2.2.2.2.1;omega) (keep HG3.out.2.2.1 H4.out.1);have hN4:∀q,N q→q<V4.heap.size:=fun q z=>by
  have h1:=(HN3.out q z).1;have h2:=H4.out.1.size;omega
 obtain⟨x0,x1⟩:=tC2 hB4;have HP2:Hid (Calls Tryz.prog 16 #[.agg #[.slice n.bao n.K n.bcap,.slice n.lao n.L n.lcap],.int .i64 trees,.slice dao dn dcap] V4 fun e w'=>PlZ N V4 (plErr n trees ds dn) n trees.toNat ((n.sc (startMs n)).all n.cn ds dn) e w'):=by
  obtain⟨_,⟨z2,_⟩,_,_⟩:=HW.out V4 bw4;exact rplay_z HWF.out hN4 (HNA.out N V4 (fun q z=>(HN3.out q z).2) bw4) HNI.out.1 HNI.out.2.1 HNI.out.2.2 HDN.out.1 z2
 obtain⟨M,HM⟩:∃M,Hid (M=w4.heap.size):=⟨_,rfl⟩
 obtain⟨A,HA⟩:∃A,Hid (A=w4.heap.size+1):=⟨_,rfl⟩
 rw[←HM.out] at k2;rw[←HA.out] at k3;have HG4:Hid ((V4.heap[F]?=some (.cells #[.int .i64 ep.1,.int .i64 ep.2] 32)∧V4.heap[G]?=some (.cells #[.int .i64 es.1,.int .i64 es.2] 32)∧V4.heap[BN]?=some (.cells #[.slice n.bao n.K n.bcap,.slice n.lao n.L n.lcap] 25)∧V4.heap[M]?=some (.cells #[.slice na nk nc,.slice la lk lc] 25)∧V4.heap[A]?=some (.cells #[.slice oa ol oc] 29))∧Bl w V4∧(G<M∧G<A)∧∀P,Bz N w4 P→Bz N V4 P):=⟨⟨k1,hG4,hB4,k2,k3⟩,bw4,⟨by have h1:=lt_some HG3.out.2.1;have h2:=H4.out.1.size;have h3:=HM.out;omega,by have h1:=lt_some HG3.out.2.1;have h2:=H4.out.1.size;have h3:=HA.out;omega⟩,fun P=>k7 N P HNF.out.1.1⟩
 rw[HV4.out] at x0 x1;clear hbx k1 k2 k3 k4 k5 k6 k7 bw34 bw4 hG4 hB4 hN4 hF4;(go_wp2_with fail);rw[←HV4.out,←HA.out,←HM.out];refine HP2.out.mono ?_;rintro e w5 ⟨na2,nk2,nc2,la2,lk2,lc2,ob,ol2',oc2',rfl,H5⟩;rw[←HEP.out];clear HP2 x0 x1 f0 f1 f2 f3;have hG5:=keep HG4.out.1.2.1 H5.out.1;obtain⟨⟨f0,f1,f2,f3⟩,hbx⟩:=box3 (x0:=.slice na2 nk2 nc2) (x1:=.slice la2 lk2 lc2) (x2:=.slice ob ol2' oc2') (.int .i64 ep.1) (.int .i64 ep.2) hG5;obtain⟨V5,HV5⟩:∃V,Hid (V=(((w5.alloc (.cells #[.slice na2 nk2 nc2,.slice la2 lk2 lc2] 25)).alloc (.cells #[.slice ob ol2' oc2'] 29)).setCell ⟨G,0,none⟩ (.int .i64 ep.1)).setCell ⟨G,1,none⟩ (.int .i64 ep.2)):=⟨_,rfl⟩
 obtain⟨k1,k2,k3,k4,k5,k6,k7⟩:=hbx V5 HV5.out;obtain⟨O,HO⟩:∃O,Hid (O=w5.heap.size):=⟨_,rfl⟩
 obtain⟨B,HB⟩:∃B,Hid (B=w5.heap.size+1):=⟨_,rfl⟩
 rw[←HO.out] at k2;rw[←HB.out] at k3;have hord:=HG4.out.2.2.1;have hord3:=HG3.out.2.2.2.2;have hF5:=k4 F _ (by omega) (keep HG4.out.1.1 H5.out.1);have hB5:=k4 BN _ (by omega) (keep HG4.out.1.2.2.1 H5.out.1);have hM5:=k4 M _ (by omega) (keep HG4.out.1.2.2.2.1 H5.out.1);have hA5:=k4 A _ (by omega) (keep HG4.out.1.2.2.2.2 H5.out.1);have bw45:Bl w w5:=HG4.out.2.1.trans (H5.out.1.mono HG4.out.2.1.size);have bw5:Bl w V5:=k6 _ _ (by omega) bw45.size bw45;obtain⟨m1,t1,⟨e1,e2,e3,e4,e5,e6,e7⟩,sc1,bz1⟩:=H4.out.2;obtain⟨m2,t2,⟨g1,g2,g3,g4,g5,g6,g7⟩,sc2,bz2⟩:=H5.out.2;have hT4:trees.toNat≤1000∨t1=[]:=by
  rcases sc1 with⟨_,_,h⟩ | ⟨h,_⟩
  ·exact Or.inr h
  ·have h0:(plErr n trees ds dn).1=0:=(by simpa using h)
   have:=(plErr_zero h0).1.2;exact Or.inl (by omega)
 have hsame:SameN m1 m2∧SameT t1 t2:=by
  rcases sc1 with⟨a,h1,h2⟩ | ⟨a,h1⟩
  ·exact scr_same (T:=0) (n:=n) (s:=(n.sc (startMs n))) (bad:=True) (Or.inl ⟨trivial,h1,h2⟩) (by rcases sc2 with⟨_,h3,h4⟩ | ⟨b,_⟩;exact Or.inl ⟨trivial,h3,h4⟩;exact absurd a b) (by omega)
  ·have h0:(plErr n trees ds dn).1=0:=(by simpa using a)
   have:=(plErr_zero h0).1.2;exact scr_same (Or.inr ⟨a,h1⟩) sc2 (by omega)
 have bzA:Bz N V5 (fun V=>m1.at' V∧TrRow V oa oc t1):=k7 N _ HNF.out.1.2 ((HG4.out.2.2.2 _ bz1).below H5.out.1);have bzB:Bz N V5 (fun V=>m2.at' V∧TrRow V ob oc2' t2):=k7 N _ HNF.out.1.2 bz2;subst e1 e2 e3 e4 e5 e6 e7 g1 g2 g3 g4 g5 g6 g7;have HAB:Hid (∀V,Bl V5 V→(m1.at' V∧TrRow V oa oc t1)∧(m2.at' V∧TrRow V ob oc2' t2)):=fun V hV=>⟨bzA.at' hV,bzB.at' hV⟩
 have HSM:Hid (SameN m1 m2∧SameT t1 t2):=hsame;have HBB:Hid (Bz N V5 (fun V=>TrRow V ob oc2' t2)):=bzB.imp (fun V h=>h.2);have HCA:Hid (CalmT t2∧t2.length≤1000):=by
  refine⟨scr_calm sc2,?_⟩;have h1:=hsame.2.len;have h2:=hsame.2.few;omega
 have HN5:Hid (∀q,N q→q<V5.heap.size∧w.heap.size≤q):=fun q z=>by
  have h1:=HN3.out q z;have h2:=H4.out.1.size;have h4:=lt_some hM5;have h5:=lt_some k1;rcases HNF.out.2 q z with e | e
  ·have:=lt_some hF5;exact⟨by omega,h1.2⟩
  ·exact⟨by omega,h1.2⟩
 have HG5:Hid ((V5.heap[F]?=some (.cells #[.int .i64 ep.1,.int .i64 ep.2] 32)∧V5.heap[G]?=some (.cells #[.int .i64 ep.1,.int .i64 ep.2] 32)∧V5.heap[BN]?=some (.cells #[.slice n.bao n.K n.bcap,.slice n.lao n.L n.lcap] 25)∧V5.heap[M]?=some (.cells #[.slice m1.bao m1.K m1.bcap,.slice m1.lao m1.L m1.lcap] 25)∧V5.heap[A]?=some (.cells #[.slice oa t1.length oc] 29)∧V5.heap[O]?=some (.cells #[.slice m2.bao m2.K m2.bcap,.slice m2.lao m2.L m2.lcap] 25)∧V5.heap[B]?=some (.cells #[.slice ob t2.length oc2'] 29))∧Bl w V5):=⟨⟨hF5,k1,hB5,hM5,hA5,k2,k3⟩,bw5⟩
 have HO3:Hid (F<G∧BN<F∧w.heap.size≤F):=hord3;clear hbx k1 k2 k3 k4 k5 k6 k7 hF5 hB5 hM5 hA5 bw45 bw5 hG5 sc1 sc2 bz1 bz2 hsame bzA bzB hT4 H4 H5 hord hord3 HG4 HG3 HN3;(go_wp2_with fail);rw[←HV5.out,←HB.out,←HO.out];clear f0 f1 f2 f3;refine tt7 [] V5 F G M A O B ep.1 ep.2 tree br port (.slice oa t1.length oc) (.slice ob t2.length oc2') (.slice m1.bao m1.K m1.bcap) (.slice m1.lao m1.L m1.lcap) (.slice m2.bao m2.K m2.bcap) (.slice m2.lao m2.L m2.lcap) (opT t1 tree br port) _ _ _ _ _ _ _ _ _ _ _ _ _ _ _ _ _ _ _ _ _ _ _ _ _ _ _ _ _ _ _ _ _ _ _ _ _ _ _ _ _ _ _ _ _ _ _ _ _ _ _ _ _ _ _ _ _ _ _ _ _ _ _ _ _ _ _ _ _ _ _ _ _ _ _ _ _ _ _ _ _ _ _ _ ?hQ ?hC ?hS ?hN ?hP ?hR ?fin _ _ _ _ _ _ _ _ _ _ _ _ _ _ _ _ _ _ _ _ _ _ _ _ _ _ _ _
 case hQ=>exact fun c a d v w h=>h
 case hC=>exact fun V hV=>⟨tC2 (keep HG5.out.1.1 hV),tC2 (keep HG5.out.1.2.1 hV),one_cell (keep HG5.out.1.2.2.2.2.1 hV),one_cell (keep HG5.out.1.2.2.2.2.2.2 hV),tC2 (keep HG5.out.1.2.2.2.1 hV),tC2 (keep HG5.out.1.2.2.2.2.2.1 hV)⟩
 case hS=>exact fun V hV=>tsame7_any oa ob oc oc2' t1 t2 V (HAB.out V hV).1.2 (HAB.out V hV).2.2 HSM.out.2
 case hN=>exact fun V hV=>tsamenet_any m1 m2 V (HAB.out V hV).1.1 (HAB.out V hV).2.1 HSM.out.1
 case hP=>exact fun V hV=>topens_any oa oc t1 tree br port V (HAB.out V hV).1.2
 case hR =>
  intro V hV;have h:=ropens_any ob oc2' t2 tree br port V (HAB.out V hV).2.2;rw[opT_same HSM.out.2] at h;exact h
 case fin =>
  intro w6 hw6;have bw6:Bl w w6:=HG5.out.2.trans (hw6.mono HG5.out.2.size);have hN6:∀q,N q→q<w6.heap.size:=fun q z=>Nat.lt_of_lt_of_le (HN5.out q z).1 hw6.size;obtain⟨x0,x1⟩:=tC2 (keep HG5.out.1.2.2.1 hw6);have x2:=one_cell (keep HG5.out.1.2.2.2.2.2.2 hw6);obtain⟨eo,HEO⟩:∃eo,Hid (eo=onErr n t2 mds mn):=⟨_,rfl⟩
  have HO1:Hid (Calls Tryz.prog 20 #[.agg #[.slice n.bao n.K n.bcap,.slice n.lao n.L n.lcap],.agg #[.slice ob t2.length oc2'],.slice mao mn mcap] w6 fun e w'=>PlZ N w6 (onErr n t2 mds mn) n t2.length ((n.sc (msT t2)).all n.cn mds mn) e w'):=by
   obtain⟨z1,⟨_,z2⟩,z3,z4⟩:=HW.out w6 bw6;exact ton_z HWF.out hN6 z1 (HAB.out w6 hw6).2.2 HDN.out.2 z2 HCA.out.1 z3 z4
  have HG6:Hid ((w6.heap[F]?=some (.cells #[.int .i64 ep.1,.int .i64 ep.2] 32)∧w6.heap[G]?=some (.cells #[.int .i64 ep.1,.int .i64 ep.2] 32)∧w6.heap[BN]?=some (.cells #[.slice n.bao n.K n.bcap,.slice n.lao n.L n.lcap] 25)∧w6.heap[B]?=some (.cells #[.slice ob t2.length oc2'] 29))∧Bl w w6∧Bz N w6 (fun V=>TrRow V ob oc2' t2)∧∀q,N q→q<w6.heap.size∧w.heap.size≤q):=⟨⟨keep HG5.out.1.1 hw6,keep HG5.out.1.2.1 hw6,keep HG5.out.1.2.2.1 hw6,keep HG5.out.1.2.2.2.2.2.2 hw6⟩,bw6,HBB.out.below hw6,fun q z=>⟨hN6 q z,(HN5.out q z).2⟩⟩
  have HOB:Hid (G<B):=by
   have h1:=HB.out;have h2:=lt_some HG5.out.1.2.1;have h3:=HG5.out.1.2.2.2.2.2.2;have h4:B≠G:=fun e=>by
    rw[e,HG5.out.1.2.1] at h3;cases h3
   have h5:=lt_some h3;have h6:V5.heap.size=w5.heap.size+2:=(by rw[HV5.out];simp)
   show G<B;omega
  clear bw6 hN6 hw6 HAB HBB HN5 HG5 HV5 HB HO HSM;(go_wp2_with fail);refine HO1.out.mono ?_;rintro e w7 ⟨na3,nk3,nc3,la3,lk3,lc3,oa3,ol3,oc3,rfl,H7⟩;rw[←HEO.out];clear HO1 x0 x1 x2;have hF7:=keep HG6.out.1.1 H7.out.1;obtain⟨⟨f0,f1,f2,f3⟩,hbx⟩:=box3 (x0:=.slice na3 nk3 nc3) (x1:=.slice la3 lk3 lc3) (x2:=.slice oa3 ol3 oc3) (.int .i64 eo.1) (.int .i64 eo.2) hF7;obtain⟨V7,HV7⟩:∃V,Hid (V=(((w7.alloc (.cells #[.slice na3 nk3 nc3,.slice la3 lk3 lc3] 25)).alloc (.cells #[.slice oa3 ol3 oc3] 29)).setCell ⟨F,0,none⟩ (.int .i64 eo.1)).setCell ⟨F,1,none⟩ (.int .i64 eo.2)):=⟨_,rfl⟩
  obtain⟨k1,k2,k3,k4,k5,k6,k7⟩:=hbx V7 HV7.out;obtain⟨M7,HM7⟩:∃M,Hid (M=w7.heap.size):=⟨_,rfl⟩
  obtain⟨A7,HA7⟩:∃A,Hid (A=w7.heap.size+1):=⟨_,rfl⟩
  rw[←HM7.out] at k2;rw[←HA7.out] at k3;have ho3:=HO3.out;have hob:=HOB.out;have hG7:=k4 G _ (by omega) (keep HG6.out.1.2.1 H7.out.1);have hB7:=k4 BN _ (by omega) (keep HG6.out.1.2.2.1 H7.out.1);have hT7:=k4 B _ (by omega) (keep HG6.out.1.2.2.2 H7.out.1);have bw67:Bl w w7:=HG6.out.2.1.trans (H7.out.1.mono HG6.out.2.1.size);have bw7:Bl w V7:=k6 _ _ (by omega) bw67.size bw67;have hN7:∀q,N q→q<V7.heap.size:=fun q z=>by
   have h1:=(HG6.out.2.2.2 q z).1;have h2:=H7.out.1.size;omega
  obtain⟨x0,x1⟩:=tC2 hB7;have x2:=one_cell hT7;have HO2:Hid (Calls Tryz.prog 21 #[.agg #[.slice n.bao n.K n.bcap,.slice n.lao n.L n.lcap],.agg #[.slice ob t2.length oc2'],.slice mao mn mcap] V7 fun e w'=>PlZ N V7 (onErr n t2 mds mn) n t2.length ((n.sc (msT t2)).all n.cn mds mn) e w'):=by
   obtain⟨_,⟨_,z2⟩,_,_⟩:=HW.out V7 bw7;exact ron_z HWF.out hN7 (HNA.out N V7 (fun q z=>(HG6.out.2.2.2 q z).2) bw7) HNI.out.1 HNI.out.2.1 HNI.out.2.2 (k7 N _ HNF.out.1.1 (HG6.out.2.2.1.below H7.out.1)) HDN.out.2 z2 HCA.out.1
  have HG7:Hid ((V7.heap[F]?=some (.cells #[.int .i64 eo.1,.int .i64 eo.2] 32)∧V7.heap[G]?=some (.cells #[.int .i64 ep.1,.int .i64 ep.2] 32)∧V7.heap[M7]?=some (.cells #[.slice na3 nk3 nc3,.slice la3 lk3 lc3] 25)∧V7.heap[A7]?=some (.cells #[.slice oa3 ol3 oc3] 29))∧Bl w V7∧(G<M7∧G<A7)∧∀P,Bz N w7 P→Bz N V7 P):=⟨⟨k1,hG7,k2,k3⟩,bw7,⟨by have h1:=lt_some HG6.out.1.2.1;have h2:=H7.out.1.size;have h3:=HM7.out;omega,by have h1:=lt_some HG6.out.1.2.1;have h2:=H7.out.1.size;have h3:=HA7.out;omega⟩,fun P=>k7 N P HNF.out.1.1⟩
  rw[HV7.out] at x0 x1 x2;clear hbx k1 k2 k3 k4 k5 k6 k7 hG7 hB7 hT7 bw67 bw7 hN7 hF7 ho3 hob HG6;(go_wp2_with fail);rw[←HV7.out,←HA7.out,←HM7.out];refine HO2.out.mono ?_;rintro e w8 ⟨na4,nk4,nc4,la4,lk4,lc4,oa4,ol4,oc4,rfl,H8⟩;rw[←HEO.out];clear HO2 x0 x1 x2 f0 f1 f2 f3;have hG8:=keep HG7.out.1.2.1 H8.out.1;obtain⟨⟨f0,f1,f2,f3⟩,hbx⟩:=box3 (x0:=.slice na4 nk4 nc4) (x1:=.slice la4 lk4 lc4) (x2:=.slice oa4 ol4 oc4) (.int .i64 eo.1) (.int .i64 eo.2) hG8;obtain⟨V8,HV8⟩:∃V,Hid (V=(((w8.alloc (.cells #[.slice na4 nk4 nc4,.slice la4 lk4 lc4] 25)).alloc (.cells #[.slice oa4 ol4 oc4] 29)).setCell ⟨G,0,none⟩ (.int .i64 eo.1)).setCell ⟨G,1,none⟩ (.int .i64 eo.2)):=⟨_,rfl⟩
  obtain⟨k1,k2,k3,k4,k5,k6,k7⟩:=hbx V8 HV8.out;have ho3:=HO3.out;have ho7:=HG7.out.2.2.1;have hF8:=k4 F _ (by omega) (keep HG7.out.1.1 H8.out.1);have hM8:=k4 M7 _ (by omega) (keep HG7.out.1.2.2.1 H8.out.1);have hA8:=k4 A7 _ (by omega) (keep HG7.out.1.2.2.2 H8.out.1);have bw78:Bl w w8:=HG7.out.2.1.trans (H8.out.1.mono HG7.out.2.1.size);have bw8:Bl w V8:=k6 _ _ (by omega) bw78.size bw78;obtain⟨m1,t1,⟨e1,e2,e3,e4,e5,e6,e7⟩,sc1,bz1⟩:=H7.out.2;obtain⟨m2,t3,⟨g1,g2,g3,g4,g5,g6,g7⟩,sc2,bz2⟩:=H8.out.2;obtain⟨hs1,hs2⟩:=scr_same sc1 sc2 HCA.out.2;have bzA:Bz N V8 (fun V=>m1.at' V∧TrRow V oa3 oc3 t1):=k7 N _ HNF.out.1.2 ((HG7.out.2.2.2 _ bz1).below H8.out.1);have bzB:Bz N V8 (fun V=>m2.at' V∧TrRow V oa4 oc4 t3):=k7 N _ HNF.out.1.2 bz2;subst e1 e2 e3 e4 e5 e6 e7 g1 g2 g3 g4 g5 g6 g7;have HSA:Hid (Calls Tryz.prog 14 #[.agg #[.slice oa3 t1.length oc3],.agg #[.slice oa4 t3.length oc4]] V8 fun e w'=>e=.returned (.bool true)∧Hid (Bl V8 w')):=(tsame7_any oa3 oa4 oc3 oc4 t1 t3 V8 bzA.here.2 bzB.here.2 hs2).mono (fun e w' h=>⟨h.1,h.2⟩);have HSN:Hid (∀V,Bl V8 V→Calls Tryz.prog 17 #[.agg #[.slice m1.bao m1.K m1.bcap,.slice m1.lao m1.L m1.lcap],.agg #[.slice m2.bao m2.K m2.bcap,.slice m2.lao m2.L m2.lcap]] V fun e w'=>e=.returned (.bool true)∧Hid (Bl w w')):=fun V hV=>(tsamenet_any m1 m2 V (bzA.at' hV).1 (bzB.at' hV).1 hs1).mono (fun e w' h=>⟨h.1,(bw8.trans (hV.mono bw8.size)).trans (h.2.mono (bw8.trans (hV.mono bw8.size)).size)⟩);have HK8:Hid (V8.heap[M7]?=some (.cells #[.slice m1.bao m1.K m1.bcap,.slice m1.lao m1.L m1.lcap] 25)∧V8.heap[w8.heap.size]?=some (.cells #[.slice m2.bao m2.K m2.bcap,.slice m2.lao m2.L m2.lcap] 25)):=⟨hM8,k2⟩
  obtain⟨y0,y1⟩:=tC2 hF8;obtain⟨y2,y3⟩:=tC2 k1;have y4:=one_cell hA8;have y5:=one_cell k3;have heq:=HEQ.out eo.1 eo.2;rw[HV8.out] at y0 y1 y2 y3 y4 y5;clear hbx k1 k2 k3 k4 k5 k6 k7 hF8 hM8 hA8 bw78 bw8 sc1 sc2 bz1 bz2 hs1 hs2 bzA bzB H7 H8 hG8 ho3 ho7 HG7;(go_wp2_with fail);rw[←HV8.out];refine HSA.out.mono ?_;rintro e w9 ⟨rfl,H9⟩;clear HSA y0 y1 y2 y3 y4 y5 f0 f1 f2 f3;have HSN9:Hid (Calls Tryz.prog 17 #[.agg #[.slice m1.bao m1.K m1.bcap,.slice m1.lao m1.L m1.lcap],.agg #[.slice m2.bao m2.K m2.bcap,.slice m2.lao m2.L m2.lcap]] w9 fun e w'=>e=.returned (.bool true)∧Hid (Bl w w')):=HSN.out w9 H9.out;obtain⟨y0,y1⟩:=tC2 (keep HK8.out.1 H9.out);obtain⟨y2,y3⟩:=tC2 (keep HK8.out.2 H9.out);(go_wp2_with fail);refine HSN9.out.mono ?_;rintro e w10 ⟨rfl,H10⟩;(go_wp2_with fail);go_ret;exact⟨rfl,H10.out⟩
end
end Go.Proofs.YtaneiffnhphkhaaGreatDoor
