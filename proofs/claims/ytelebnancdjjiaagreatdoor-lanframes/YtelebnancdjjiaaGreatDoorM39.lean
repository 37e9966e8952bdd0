/- LanFrames: the region with Wrong and Same -/
import Derived.Test.YtelebnancdjjiaaGreatDoorM37
import Derived.Test.YtelebnancdjjiaaGreatDoorM28
set_option maxRecDepth 100000
set_option maxHeartbeats 6000000
namespace Go.Proofs.YtelebnancdjjiaaGreatDoor
section
open Go.RowKit
section
variable {P:Program}{md:Region.Mode}{ops:Array Oper}{Q:Exit→Act→World→Prop}{z:Nat}{C:World→Prop}
theorem z_skip {i:Nat}{oi:Oper}(d:Option Tmp) {fuel:Nat}{listed:Array Bool}{a:Act}{w:World}(hi:ops[i]?=some oi) (hd:oi.dst=d)
  (hs:Region.noSelect ops=true) (hf:Region.free md ops listed i=true) (hr:(Region.ready md ops listed).contains i=true) (hiz:i≠z)
  (hQ:∀c a w,Q (.panic c) (a.put d undef) w→Q (.panic c) a w) (hw:Region.wanted oi (yielded ops a.tmps)=false) (hS:listed.getD z true=true∨C w)
  (h:wpAnyZ P md ops Q z C fuel (listed.setIfInBounds i true) (a.put d undef) w):wpAnyZ P md ops Q z C (fuel+1) listed a w:=by
 subst hd;exact wpAnyZ_firstW hi (Region.noSelect_spec hs) hQ hiz fuel listed a w (Region.free_spec hi hf) (by simpa using hr) (Or.inr ⟨hw,rfl⟩) hS h
end
def la18_ops:Array Oper:=#[⟨some 86,.move (.tmp 3),27, "law.go:214",#[],none⟩,⟨some 87,.move (.tmp 23),3, "law.go:214",#[],none⟩,⟨some 88,.indexAddr 27 (.tmp 86) (.tmp 87),0, "law.go:214",#[⟨0,.data⟩,⟨1,.data⟩],none⟩,⟨some 89,.load 67 (.tmp 88),67, "law.go:214",#[⟨2,.data⟩],none⟩,⟨some 90,.call { callee:=.value (.func 21),args:=#[.tmp 89],argTypes:=#[67] },37, "law.go:214",#[⟨3,.data⟩],none⟩,⟨some 91,.field 37 (.tmp 90) 0,35, "law.go:214",#[⟨4,.data⟩],none⟩,⟨some 92,.binOp .eql 35 (.tmp 91) (.const (.int .i64 0)) 35,4, "law.go:214",#[⟨5,.data⟩],none⟩,⟨some 93,.move (.tmp 92),4, "law.go:214",#[⟨6,.data⟩,⟨4,.chain⟩],none⟩,⟨some 94,.move (.tmp 19),27, "law.go:214",#[⟨7,.guard⟩],some (7,true)⟩,⟨some 95,.move (.tmp 23),3, "law.go:214",#[⟨7,.guard⟩],some (7,true)⟩,⟨some 96,.indexAddr 27 (.tmp 94) (.tmp 95),0, "law.go:214",#[⟨8,.data⟩,⟨9,.data⟩,⟨7,.guard⟩],some (7,true)⟩,⟨some 97,.load 67 (.tmp 96),67, "law.go:214",#[⟨10,.data⟩,⟨7,.guard⟩],some (7,true)⟩,⟨some 98,.call { callee:=.value (.func 21),args:=#[.tmp 97],argTypes:=#[67] },37, "law.go:214",#[⟨11,.data⟩,⟨7,.chain⟩,⟨7,.guard⟩],some (7,true)⟩,⟨some 99,.field 37 (.tmp 98) 0,35, "law.go:214",#[⟨12,.data⟩,⟨7,.guard⟩],some (7,true)⟩,⟨some 100,.binOp .neq 35 (.tmp 99) (.const (.int .i64 0)) 35,4, "law.go:214",#[⟨13,.data⟩,⟨7,.guard⟩],some (7,true)⟩,⟨some 101,.pick (.tmp 93) (.tmp 100) (.const (Value.bool false)),4, "law.go:214",#[⟨7,.data⟩,⟨14,.data⟩],none⟩,⟨some 102,.move (.tmp 101),4, "law.go:214",#[⟨15,.data⟩,⟨12,.chain⟩],none⟩,⟨some 103,.move (.tmp 3),27, "law.go:214",#[⟨16,.guard⟩],some (16,false)⟩,⟨some 104,.move (.tmp 23),3, "law.go:214",#[⟨16,.guard⟩],some (16,false)⟩,⟨some 105,.indexAddr 27 (.tmp 103) (.tmp 104),0, "law.go:214",#[⟨17,.data⟩,⟨18,.data⟩,⟨16,.guard⟩],some (16,false)⟩,⟨some 106,.load 67 (.tmp 105),67, "law.go:214",#[⟨19,.data⟩,⟨16,.guard⟩],some (16,false)⟩,⟨some 107,.call { callee:=.value (.func 21),args:=#[.tmp 106],argTypes:=#[67] },37, "law.go:214",#[⟨20,.data⟩,⟨16,.chain⟩,⟨16,.guard⟩],some (16,false)⟩,⟨some 108,.field 37 (.tmp 107) 0,35, "law.go:214",#[⟨21,.data⟩,⟨16,.guard⟩],some (16,false)⟩,⟨some 109,.binOp .neq 35 (.tmp 108) (.const (.int .i64 0)) 35,4, "law.go:214",#[⟨22,.data⟩,⟨16,.guard⟩],some (16,false)⟩,⟨some 110,.move (.tmp 109),4, "law.go:214",#[⟨23,.data⟩,⟨21,.chain⟩,⟨16,.guard⟩],some (16,false)⟩,⟨some 111,.move (.tmp 19),27, "law.go:214",#[⟨24,.guard⟩],some (24,true)⟩,⟨some 112,.move (.tmp 23),3, "law.go:214",#[⟨24,.guard⟩],some (24,true)⟩,⟨some 113,.indexAddr 27 (.tmp 111) (.tmp 112),0, "law.go:214",#[⟨25,.data⟩,⟨26,.data⟩,⟨24,.guard⟩],some (24,true)⟩,⟨some 114,.load 67 (.tmp 113),67, "law.go:214",#[⟨27,.data⟩,⟨24,.guard⟩],some (24,true)⟩,⟨some 115,.move (.tmp 3),27, "law.go:214",#[⟨24,.guard⟩],some (24,true)⟩,⟨some 116,.move (.tmp 23),3, "law.go:214",#[⟨24,.guard⟩],some (24,true)⟩,⟨some 117,.indexAddr 27 (.tmp 115) (.tmp 116),0, "law.go:214",#[⟨29,.data⟩,⟨30,.data⟩,⟨24,.guard⟩],some (24,true)⟩,⟨some 118,.load 67 (.tmp 117),67, "law.go:214",#[⟨31,.data⟩,⟨24,.guard⟩],some (24,true)⟩,⟨some 119,.call { callee:=.value (.func 22),args:=#[.tmp 114,.tmp 118],argTypes:=#[67,67] },4, "law.go:214",#[⟨28,.data⟩,⟨32,.data⟩,⟨24,.chain⟩,⟨24,.guard⟩],some (24,true)⟩,⟨some 120,.unOp .not 4 (.tmp 119),4, "law.go:214",#[⟨33,.data⟩,⟨24,.guard⟩],some (24,true)⟩,⟨some 121,.pick (.tmp 110) (.tmp 120) (.const (Value.bool false)),4, "law.go:214",#[⟨24,.data⟩,⟨34,.data⟩,⟨16,.guard⟩],some (16,false)⟩,⟨some 122,.pick (.tmp 102) (.const (Value.bool true)) (.tmp 121),4, "law.go:214",#[⟨16,.data⟩,⟨35,.data⟩],none⟩]
section
variable {Q:Exit→Act→World→Prop}(df:List Deferred) (X:World) (kb koff gk j K kc:Nat) (q1 p1:Option Addr) (l1n q2 l2n p2:Nat)
variable (x0 x1 x2 x4 x5 x6 x7 x8 x9 x10 x11 x12 x13 x14 x15 x16 x17 x18 x20 x21 x22 x24 x25 x26 x27 x28 x29 x30 x31 x32 x33 x34 x35 x36 x37 x38 x39 x40 x41 x42 x43 x44 x45 x46 x47 x48 x49 x50 x51 x52 x53 x54 x55 x56 x57 x58 x59 x60 x61 x62 x63 x64 x65 x66 x67 x68 x69 x70 x71 x72 x73 x74 x75 x76 x77 x78 x79 x80 x81 x82 x83 x84 x85 x123 x124 x125 x126 x127 x128:Value)
variable (hQ:∀c (a:Act) (d:Tmp) (v:Value) (w:World),Q (.panic c) (a.put (some d) v) w→Q (.panic c) a w)
variable (hC:∀V,Bl X V→V.cell? ⟨kb,koff+j,none⟩=some (.slice q1 l1n q2)∧V.cell? ⟨gk,j,none⟩=some (.slice p1 l2n p2))
variable (k1:j<K)
variable (hW1:∀W,Bl X W→Calls Tryz.prog 21 #[.slice q1 l1n q2] W fun e w'=>e=.returned (.agg #[.int .i64 0,.int .i64 0])∧Bl W w')
variable (hW2:∀W,Bl X W→Calls Tryz.prog 21 #[.slice p1 l2n p2] W fun e w'=>e=.returned (.agg #[.int .i64 0,.int .i64 0])∧Bl W w')
variable (fin:∀(w':World),Bl X w'→Q .normal { tmps:=#[x0,x1,x2,(.slice (some ⟨kb,koff,none⟩) K kc),x4,x5,x6,x7,x8,x9,x10,x11,x12,x13,x14,x15,x16,x17,x18,(.slice (some ⟨gk,0,none⟩) K K),x20,x21,x22,(.int .i64 (j:Int)),x24,x25,x26,x27,x28,x29,x30,x31,x32,x33,x34,x35,x36,x37,x38,x39,x40,x41,x42,x43,x44,x45,x46,x47,x48,x49,x50,x51,x52,x53,x54,x55,x56,x57,x58,x59,x60,x61,x62,x63,x64,x65,x66,x67,x68,x69,x70,x71,x72,x73,x74,x75,x76,x77,x78,x79,x80,x81,x82,x83,x84,x85,(.slice (some ⟨kb,koff,none⟩) K kc),(.int .i64 (j:Int)),(.pointer (some ⟨kb,koff+j,none⟩)),(.slice q1 l1n q2),(.agg #[.int .i64 0,.int .i64 0]),(.int .i64 0),(.bool true),(.bool true),(.slice (some ⟨gk,0,none⟩) K K),(.int .i64 (j:Int)),(.pointer (some ⟨gk,j,none⟩)),(.slice p1 l2n p2),(.agg #[.int .i64 0,.int .i64 0]),(.int .i64 0),(.bool false),(.bool false),(.bool false),(.slice (some ⟨kb,koff,none⟩) K kc),(.int .i64 (j:Int)),(.pointer (some ⟨kb,koff+j,none⟩)),(.slice q1 l1n q2),(.agg #[.int .i64 0,.int .i64 0]),(.int .i64 0),(.bool false),(.bool false),undef,undef,undef,undef,undef,undef,undef,undef,undef,undef,(.bool false),(.bool false),x123,x124,x125,x126,x127,x128],defers:=df } w')
include hQ hC k1 hW1 hW2 fin in
theorem la18a (x86 x87 x88 x89 x90 x91 x92 x93 x94 x95 x96 x97 x98 x99 x100 x101 x102 x103 x104 x105 x106 x107 x108 x109 x110 x111 x112 x113 x114 x115 x116 x117 x118 x119 x120 x121 x122:Value):(Code.region 18 la18_ops true).wp Tryz.prog Q { tmps:=#[x0,x1,x2,(.slice (some ⟨kb,koff,none⟩) K kc),x4,x5,x6,x7,x8,x9,x10,x11,x12,x13,x14,x15,x16,x17,x18,(.slice (some ⟨gk,0,none⟩) K K),x20,x21,x22,(.int .i64 (j:Int)),x24,x25,x26,x27,x28,x29,x30,x31,x32,x33,x34,x35,x36,x37,x38,x39,x40,x41,x42,x43,x44,x45,x46,x47,x48,x49,x50,x51,x52,x53,x54,x55,x56,x57,x58,x59,x60,x61,x62,x63,x64,x65,x66,x67,x68,x69,x70,x71,x72,x73,x74,x75,x76,x77,x78,x79,x80,x81,x82,x83,x84,x85,x86,x87,x88,x89,x90,x91,x92,x93,x94,x95,x96,x97,x98,x99,x100,x101,x102,x103,x104,x105,x106,x107,x108,x109,x110,x111,x112,x113,x114,x115,x116,x117,x118,x119,x120,x121,x122,x123,x124,x125,x126,x127,x128],defers:=df } X:=by
 have hX0:Bl X X.drew:=Below.drew (Below.refl _ _);have i1:(0:Int)≤(j:Int):=(by omega)
 have i2:(j:Int)<(K:Int):=(by omega)
 have hfa:∀(a b:Int) (w:World),(Instr.field 37 (.agg #[.int .i64 a,.int .i64 b]) 0).run Tryz.prog w=.ok (.int .i64 a) w:=fa_err;refine wp_region_z (z:=36) (C:=fun W=>W.cell? ⟨kb,koff+j,none⟩=some (.slice q1 l1n q2)∧W.cell? ⟨gk,j,none⟩=some (.slice p1 l2n p2)) (by kernel_rfl) (hC _ hX0) (fun hHeld => ?_);refine z_take (i:=0) (oi:=⟨some 86,.move (.tmp 3),27, "law.go:214",#[],none⟩) (v := ?_) (some 86) rfl rfl (by kernel_rfl) (by kernel_rfl) (by kernel_rfl) (by decide) (fun c a w h=>hQ c a _ _ w h) (by rfl) ?_ hHeld ?_;rotate_left 1
 ·(intro wq;go_simp;try with_reducible rfl)
 (try simp only[Act.put,lsA,lsZ,lsS])
 refine z_take (i:=1) (oi:=⟨some 87,.move (.tmp 23),3, "law.go:214",#[],none⟩) (v := ?_) (some 87) rfl rfl (by kernel_rfl) (by kernel_rfl) (by kernel_rfl) (by decide) (fun c a w h=>hQ c a _ _ w h) (by rfl) ?_ hHeld ?_;rotate_left 1
 ·(intro wq;go_simp;try with_reducible rfl)
 (try simp only[Act.put,lsA,lsZ,lsS])
 refine z_take (i:=2) (oi:=⟨some 88,.indexAddr 27 (.tmp 86) (.tmp 87),0, "law.go:214",#[⟨0,.data⟩,⟨1,.data⟩],none⟩) (v := ?_) (some 88) rfl rfl (by kernel_rfl) (by kernel_rfl) (by kernel_rfl) (by decide) (fun c a w h=>hQ c a _ _ w h) (by rfl) ?_ hHeld ?_;rotate_left 1
 ·(intro wq;go_simp;try with_reducible rfl)
 (try simp only[Act.put,lsA,lsZ,lsS])
 refine z_load (i:=3) (oi:=⟨some 89,.load 67 (.tmp 88),67, "law.go:214",#[⟨2,.data⟩],none⟩) (v := ?_) (some 89) rfl rfl (by kernel_rfl) (by kernel_rfl) (by kernel_rfl) (by kernel_rfl) (fun c a w h=>hQ c a _ _ w h) (by rfl) ?_ hHeld ?_;rotate_left 1
 ·(intro wq hSw;go_simp;try with_reducible rfl)
 (try simp only[Act.put,lsA,lsZ,lsS])
 refine z_one (i:=4) (o:=⟨some 90,.call { callee:=.value (.func 21),args:=#[.tmp 89],argTypes:=#[67] },37, "law.go:214",#[⟨3,.data⟩],none⟩) (by kernel_rfl) rfl (fun K hK => ?_);go_simp;refine(hW1 _ hX0).mono ?_;rintro e w1 ⟨rfl,hb⟩;have hX1:Bl X w1:=hX0.trans (hb.mono hX0.size);clear hHeld hb;refine hK.out _ _ (Or.inr (hC _ hX1)) (fun hHeld => ?_);clear hK K;(try simp only[lsA,lsZ,lsS])
 refine z_take (i:=5) (oi:=⟨some 91,.field 37 (.tmp 90) 0,35, "law.go:214",#[⟨4,.data⟩],none⟩) (v := ?_) (some 91) rfl rfl (by kernel_rfl) (by kernel_rfl) (by kernel_rfl) (by decide) (fun c a w h=>hQ c a _ _ w h) (by rfl) ?_ hHeld ?_;rotate_left 1
 ·(intro wq;go_simp;try with_reducible rfl)
 (try simp only[Act.put,lsA,lsZ,lsS])
 refine z_take (i:=6) (oi:=⟨some 92,.binOp .eql 35 (.tmp 91) (.const (.int .i64 0)) 35,4, "law.go:214",#[⟨5,.data⟩],none⟩) (v := ?_) (some 92) rfl rfl (by kernel_rfl) (by kernel_rfl) (by kernel_rfl) (by decide) (fun c a w h=>hQ c a _ _ w h) (by rfl) ?_ hHeld ?_;rotate_left 1
 ·(intro wq;go_simp;try with_reducible rfl)
 (try simp only[Act.put,lsA,lsZ,lsS])
 refine z_take (i:=7) (oi:=⟨some 93,.move (.tmp 92),4, "law.go:214",#[⟨6,.data⟩,⟨4,.chain⟩],none⟩) (v := ?_) (some 93) rfl rfl (by kernel_rfl) (by kernel_rfl) (by kernel_rfl) (by decide) (fun c a w h=>hQ c a _ _ w h) (by rfl) ?_ hHeld ?_;rotate_left 1
 ·(intro wq;go_simp;try with_reducible rfl)
 (try simp only[Act.put,lsA,lsZ,lsS])
 refine z_take (i:=8) (oi:={ dst:=some 94,op:=Op.move (Operand.tmp 19),type:=27,pos := "law.go:214",after:=#[{ on:=7,ground:=Ground.guard }],guard:=some (7,true) }) (v := ?_) (some 94) rfl rfl (by kernel_rfl) (by kernel_rfl) (by kernel_rfl) (by decide) (fun c a w h=>hQ c a _ _ w h) (by rfl) ?_ hHeld ?_;rotate_left 1
 ·(intro wq;go_simp;try with_reducible rfl)
 (try simp only[Act.put,lsA,lsZ,lsS])
 refine z_take (i:=9) (oi:={ dst:=some 95,op:=Op.move (Operand.tmp 23),type:=3,pos := "law.go:214",after:=#[{ on:=7,ground:=Ground.guard }],guard:=some (7,true) }) (v := ?_) (some 95) rfl rfl (by kernel_rfl) (by kernel_rfl) (by kernel_rfl) (by decide) (fun c a w h=>hQ c a _ _ w h) (by rfl) ?_ hHeld ?_;rotate_left 1
 ·(intro wq;go_simp;try with_reducible rfl)
 (try simp only[Act.put,lsA,lsZ,lsS])
 refine z_take (i:=10) (oi:={ dst:=some 96,op:=Op.indexAddr 27 (Operand.tmp 94) (Operand.tmp 95),type:=0,pos := "law.go:214",after:=#[{ on:=8,ground:=Ground.data },{ on:=9,ground:=Ground.data },{ on:=7,ground:=Ground.guard }],guard:=some (7,true) }) (v := ?_) (some 96) rfl rfl (by kernel_rfl) (by kernel_rfl) (by kernel_rfl) (by decide) (fun c a w h=>hQ c a _ _ w h) (by rfl) ?_ hHeld ?_;rotate_left 1
 ·(intro wq;go_simp;try with_reducible rfl)
 (try simp only[Act.put,lsA,lsZ,lsS])
 refine z_load (i:=11) (oi:={ dst:=some 97,op:=Op.load 67 (Operand.tmp 96),type:=67,pos := "law.go:214",after:=#[{ on:=10,ground:=Ground.data },{ on:=7,ground:=Ground.guard }],guard:=some (7,true) }) (v := ?_) (some 97) rfl rfl (by kernel_rfl) (by kernel_rfl) (by kernel_rfl) (by kernel_rfl) (fun c a w h=>hQ c a _ _ w h) (by rfl) ?_ hHeld ?_;rotate_left 1
 ·(intro wq hSw;go_simp;try with_reducible rfl)
 (try simp only[Act.put,lsA,lsZ,lsS])
 refine z_one (i:=12) (o:={ dst:=some 98,op:=Op.call { callee:=Callee.value (Operand.func 21),args:=#[Operand.tmp 97],argTypes:=#[67] },type:=37,pos := "law.go:214",after:=#[{ on:=11,ground:=Ground.data },{ on:=7,ground:=Ground.chain },{ on:=7,ground:=Ground.guard }],guard:=some (7,true) }) (by kernel_rfl) rfl (fun K hK => ?_);go_simp;refine(hW2 _ hX1).mono ?_;rintro e w2 ⟨rfl,hb⟩;have hX2:Bl X w2:=hX1.trans (hb.mono hX1.size);clear hHeld hb;refine hK.out _ _ (Or.inr (hC _ hX2)) (fun hHeld => ?_);clear hK K;(try simp only[lsA,lsZ,lsS])
 refine z_take (i:=13) (oi:={ dst:=some 99,op:=Op.field 37 (Operand.tmp 98) 0,type:=35,pos := "law.go:214",after:=#[{ on:=12,ground:=Ground.data },{ on:=7,ground:=Ground.guard }],guard:=some (7,true) }) (v := ?_) (some 99) rfl rfl (by kernel_rfl) (by kernel_rfl) (by kernel_rfl) (by decide) (fun c a w h=>hQ c a _ _ w h) (by rfl) ?_ hHeld ?_;rotate_left 1
 ·(intro wq;go_simp;try with_reducible rfl)
 (try simp only[Act.put,lsA,lsZ,lsS])
 refine z_take (i:=14) (oi:={ dst:=some 100,op:=Op.binOp BinOp.neq 35 (Operand.tmp 99) (Operand.const (Value.int IntKind.i64 0)) 35,type:=4,pos := "law.go:214",after:=#[{ on:=13,ground:=Ground.data },{ on:=7,ground:=Ground.guard }],guard:=some (7,true) }) (v := ?_) (some 100) rfl rfl (by kernel_rfl) (by kernel_rfl) (by kernel_rfl) (by decide) (fun c a w h=>hQ c a _ _ w h) (by rfl) ?_ hHeld ?_;rotate_left 1
 ·(intro wq;go_simp;try with_reducible rfl)
 (try simp only[Act.put,lsA,lsZ,lsS])
 refine z_take (i:=15) (oi:=⟨some 101,.pick (.tmp 93) (.tmp 100) (.const (Value.bool false)),4, "law.go:214",#[⟨7,.data⟩,⟨14,.data⟩],none⟩) (v := ?_) (some 101) rfl rfl (by kernel_rfl) (by kernel_rfl) (by kernel_rfl) (by decide) (fun c a w h=>hQ c a _ _ w h) (by rfl) ?_ hHeld ?_;rotate_left 1
 ·(intro wq;go_simp;try with_reducible rfl)
 (try simp only[Act.put,lsA,lsZ,lsS])
 refine z_take (i:=16) (oi:=⟨some 102,.move (.tmp 101),4, "law.go:214",#[⟨15,.data⟩,⟨12,.chain⟩],none⟩) (v := ?_) (some 102) rfl rfl (by kernel_rfl) (by kernel_rfl) (by kernel_rfl) (by decide) (fun c a w h=>hQ c a _ _ w h) (by rfl) ?_ hHeld ?_;rotate_left 1
 ·(intro wq;go_simp;try with_reducible rfl)
 (try simp only[Act.put,lsA,lsZ,lsS])
 refine z_take (i:=17) (oi:={ dst:=some 103,op:=Op.move (Operand.tmp 3),type:=27,pos := "law.go:214",after:=#[{ on:=16,ground:=Ground.guard }],guard:=some (16,false) }) (v := ?_) (some 103) rfl rfl (by kernel_rfl) (by kernel_rfl) (by kernel_rfl) (by decide) (fun c a w h=>hQ c a _ _ w h) (by rfl) ?_ hHeld ?_;rotate_left 1
 ·(intro wq;go_simp;try with_reducible rfl)
 (try simp only[Act.put,lsA,lsZ,lsS])
 refine z_take (i:=18) (oi:={ dst:=some 104,op:=Op.move (Operand.tmp 23),type:=3,pos := "law.go:214",after:=#[{ on:=16,ground:=Ground.guard }],guard:=some (16,false) }) (v := ?_) (some 104) rfl rfl (by kernel_rfl) (by kernel_rfl) (by kernel_rfl) (by decide) (fun c a w h=>hQ c a _ _ w h) (by rfl) ?_ hHeld ?_;rotate_left 1
 ·(intro wq;go_simp;try with_reducible rfl)
 (try simp only[Act.put,lsA,lsZ,lsS])
 refine z_take (i:=19) (oi:={ dst:=some 105,op:=Op.indexAddr 27 (Operand.tmp 103) (Operand.tmp 104),type:=0,pos := "law.go:214",after:=#[{ on:=17,ground:=Ground.data },{ on:=18,ground:=Ground.data },{ on:=16,ground:=Ground.guard }],guard:=some (16,false) }) (v := ?_) (some 105) rfl rfl (by kernel_rfl) (by kernel_rfl) (by kernel_rfl) (by decide) (fun c a w h=>hQ c a _ _ w h) (by rfl) ?_ hHeld ?_;rotate_left 1
 ·(intro wq;go_simp;try with_reducible rfl)
 (try simp only[Act.put,lsA,lsZ,lsS])
 refine z_load (i:=20) (oi:={ dst:=some 106,op:=Op.load 67 (Operand.tmp 105),type:=67,pos := "law.go:214",after:=#[{ on:=19,ground:=Ground.data },{ on:=16,ground:=Ground.guard }],guard:=some (16,false) }) (v := ?_) (some 106) rfl rfl (by kernel_rfl) (by kernel_rfl) (by kernel_rfl) (by kernel_rfl) (fun c a w h=>hQ c a _ _ w h) (by rfl) ?_ hHeld ?_;rotate_left 1
 ·(intro wq hSw;go_simp;try with_reducible rfl)
 (try simp only[Act.put,lsA,lsZ,lsS])
 refine z_one (i:=21) (o:={ dst:=some 107,op:=Op.call { callee:=Callee.value (Operand.func 21),args:=#[Operand.tmp 106],argTypes:=#[67] },type:=37,pos := "law.go:214",after:=#[{ on:=20,ground:=Ground.data },{ on:=16,ground:=Ground.chain },{ on:=16,ground:=Ground.guard }],guard:=some (16,false) }) (by kernel_rfl) rfl (fun K hK => ?_);go_simp;refine(hW1 _ hX2).mono ?_;rintro e w3 ⟨rfl,hb⟩;have hX3:Bl X w3:=hX2.trans (hb.mono hX2.size);clear hHeld hb;refine hK.out _ _ (Or.inr (hC _ hX3)) (fun hHeld => ?_);clear hK K;(try simp only[lsA,lsZ,lsS])
 refine z_take (i:=22) (oi:={ dst:=some 108,op:=Op.field 37 (Operand.tmp 107) 0,type:=35,pos := "law.go:214",after:=#[{ on:=21,ground:=Ground.data },{ on:=16,ground:=Ground.guard }],guard:=some (16,false) }) (v := ?_) (some 108) rfl rfl (by kernel_rfl) (by kernel_rfl) (by kernel_rfl) (by decide) (fun c a w h=>hQ c a _ _ w h) (by rfl) ?_ hHeld ?_;rotate_left 1
 ·(intro wq;go_simp;try with_reducible rfl)
 (try simp only[Act.put,lsA,lsZ,lsS])
 refine z_take (i:=23) (oi:={ dst:=some 109,op:=Op.binOp BinOp.neq 35 (Operand.tmp 108) (Operand.const (Value.int IntKind.i64 0)) 35,type:=4,pos := "law.go:214",after:=#[{ on:=22,ground:=Ground.data },{ on:=16,ground:=Ground.guard }],guard:=some (16,false) }) (v := ?_) (some 109) rfl rfl (by kernel_rfl) (by kernel_rfl) (by kernel_rfl) (by decide) (fun c a w h=>hQ c a _ _ w h) (by rfl) ?_ hHeld ?_;rotate_left 1
 ·(intro wq;go_simp;try with_reducible rfl)
 (try simp only[Act.put,lsA,lsZ,lsS])
 refine z_take (i:=24) (oi:={ dst:=some 110,op:=Op.move (Operand.tmp 109),type:=4,pos := "law.go:214",after:=#[{ on:=23,ground:=Ground.data },{ on:=21,ground:=Ground.chain },{ on:=16,ground:=Ground.guard }],guard:=some (16,false) }) (v := ?_) (some 110) rfl rfl (by kernel_rfl) (by kernel_rfl) (by kernel_rfl) (by decide) (fun c a w h=>hQ c a _ _ w h) (by rfl) ?_ hHeld ?_;rotate_left 1
 ·(intro wq;go_simp;try with_reducible rfl)
 (try simp only[Act.put,lsA,lsZ,lsS])
 refine z_skip (i:=25) (oi:={ dst:=some 111,op:=Op.move (Operand.tmp 19),type:=27,pos := "law.go:214",after:=#[{ on:=24,ground:=Ground.guard }],guard:=some (24,true) }) (some 111) rfl rfl (by kernel_rfl) (by kernel_rfl) (by kernel_rfl) (by decide) (fun c a w h=>hQ c a _ _ w h) (by rfl) hHeld ?_;(try simp only[Act.put,lsA,lsZ,lsS])
 refine z_skip (i:=26) (oi:={ dst:=some 112,op:=Op.move (Operand.tmp 23),type:=3,pos := "law.go:214",after:=#[{ on:=24,ground:=Ground.guard }],guard:=some (24,true) }) (some 112) rfl rfl (by kernel_rfl) (by kernel_rfl) (by kernel_rfl) (by decide) (fun c a w h=>hQ c a _ _ w h) (by rfl) hHeld ?_;(try simp only[Act.put,lsA,lsZ,lsS])
 refine z_skip (i:=29) (oi:={ dst:=some 115,op:=Op.move (Operand.tmp 3),type:=27,pos := "law.go:214",after:=#[{ on:=24,ground:=Ground.guard }],guard:=some (24,true) }) (some 115) rfl rfl (by kernel_rfl) (by kernel_rfl) (by kernel_rfl) (by decide) (fun c a w h=>hQ c a _ _ w h) (by rfl) hHeld ?_;(try simp only[Act.put,lsA,lsZ,lsS])
 refine z_skip (i:=30) (oi:={ dst:=some 116,op:=Op.move (Operand.tmp 23),type:=3,pos := "law.go:214",after:=#[{ on:=24,ground:=Ground.guard }],guard:=some (24,true) }) (some 116) rfl rfl (by kernel_rfl) (by kernel_rfl) (by kernel_rfl) (by decide) (fun c a w h=>hQ c a _ _ w h) (by rfl) hHeld ?_;(try simp only[Act.put,lsA,lsZ,lsS])
 refine z_skip (i:=27) (oi:={ dst:=some 113,op:=Op.indexAddr 27 (Operand.tmp 111) (Operand.tmp 112),type:=0,pos := "law.go:214",after:=#[{ on:=25,ground:=Ground.data },{ on:=26,ground:=Ground.data },{ on:=24,ground:=Ground.guard }],guard:=some (24,true) }) (some 113) rfl rfl (by kernel_rfl) (by kernel_rfl) (by kernel_rfl) (by decide) (fun c a w h=>hQ c a _ _ w h) (by rfl) hHeld ?_;(try simp only[Act.put,lsA,lsZ,lsS])
 refine z_skip (i:=31) (oi:={ dst:=some 117,op:=Op.indexAddr 27 (Operand.tmp 115) (Operand.tmp 116),type:=0,pos := "law.go:214",after:=#[{ on:=29,ground:=Ground.data },{ on:=30,ground:=Ground.data },{ on:=24,ground:=Ground.guard }],guard:=some (24,true) }) (some 117) rfl rfl (by kernel_rfl) (by kernel_rfl) (by kernel_rfl) (by decide) (fun c a w h=>hQ c a _ _ w h) (by rfl) hHeld ?_;(try simp only[Act.put,lsA,lsZ,lsS])
 refine z_skip (i:=28) (oi:={ dst:=some 114,op:=Op.load 67 (Operand.tmp 113),type:=67,pos := "law.go:214",after:=#[{ on:=27,ground:=Ground.data },{ on:=24,ground:=Ground.guard }],guard:=some (24,true) }) (some 114) rfl rfl (by kernel_rfl) (by kernel_rfl) (by kernel_rfl) (by decide) (fun c a w h=>hQ c a _ _ w h) (by rfl) hHeld ?_;(try simp only[Act.put,lsA,lsZ,lsS])
 refine z_skip (i:=32) (oi:={ dst:=some 118,op:=Op.load 67 (Operand.tmp 117),type:=67,pos := "law.go:214",after:=#[{ on:=31,ground:=Ground.data },{ on:=24,ground:=Ground.guard }],guard:=some (24,true) }) (some 118) rfl rfl (by kernel_rfl) (by kernel_rfl) (by kernel_rfl) (by decide) (fun c a w h=>hQ c a _ _ w h) (by rfl) hHeld ?_;(try simp only[Act.put,lsA,lsZ,lsS])
 refine z_one (i:=33) (o:={ dst:=some 119,op:=Op.call { callee:=Callee.value (Operand.func 22),args:=#[Operand.tmp 114,Operand.tmp 118],argTypes:=#[67,67] },type:=4,pos := "law.go:214",after:=#[{ on:=28,ground:=Ground.data },{ on:=32,ground:=Ground.data },{ on:=24,ground:=Ground.chain },{ on:=24,ground:=Ground.guard }],guard:=some (24,true) }) (by kernel_rfl) rfl (fun K hK => ?_);go_simp;refine hK.out _ _ (Or.inr (hC _ hX3)) (fun hHeld => ?_);clear hK K;(try simp only[Act.put,lsA,lsZ,lsS])
 refine z_skip (i:=34) (oi:={ dst:=some 120,op:=Op.unOp UnOp.not 4 (Operand.tmp 119),type:=4,pos := "law.go:214",after:=#[{ on:=33,ground:=Ground.data },{ on:=24,ground:=Ground.guard }],guard:=some (24,true) }) (some 120) rfl rfl (by kernel_rfl) (by kernel_rfl) (by kernel_rfl) (by decide) (fun c a w h=>hQ c a _ _ w h) (by rfl) hHeld ?_;(try simp only[Act.put,lsA,lsZ,lsS])
 refine z_take (i:=35) (oi:={ dst:=some 121,op:=Op.pick (Operand.tmp 110) (Operand.tmp 120) (Operand.const (Value.bool false)),type:=4,pos := "law.go:214",after:=#[{ on:=24,ground:=Ground.data },{ on:=34,ground:=Ground.data },{ on:=16,ground:=Ground.guard }],guard:=some (16,false) }) (v := ?_) (some 121) rfl rfl (by kernel_rfl) (by kernel_rfl) (by kernel_rfl) (by decide) (fun c a w h=>hQ c a _ _ w h) (by rfl) ?_ hHeld ?_;rotate_left 1
 ·(intro wq;go_simp;try with_reducible rfl)
 (try simp only[Act.put,lsA,lsZ,lsS])
 refine z_one (i:=36) (o:=⟨some 122,.pick (.tmp 102) (.const (Value.bool true)) (.tmp 121),4, "law.go:214",#[⟨16,.data⟩,⟨35,.data⟩],none⟩) (by kernel_rfl) rfl (fun K hK => ?_);go_simp;refine hK.out _ _ (Or.inl (by kernel_rfl)) (fun hHeld => ?_);(try simp only[lsA,lsZ,lsS])
 refine z_done (by kernel_rfl) ?_ _;exact fin _ hX3
end
section
variable {Q:Exit→Act→World→Prop}(df:List Deferred) (X:World) (kb koff gk j K kc:Nat) (q1 p1:Option Addr) (l1n q2 l2n p2:Nat) (E1 E2:Int)
variable (x0 x1 x2 x4 x5 x6 x7 x8 x9 x10 x11 x12 x13 x14 x15 x16 x17 x18 x20 x21 x22 x24 x25 x26 x27 x28 x29 x30 x31 x32 x33 x34 x35 x36 x37 x38 x39 x40 x41 x42 x43 x44 x45 x46 x47 x48 x49 x50 x51 x52 x53 x54 x55 x56 x57 x58 x59 x60 x61 x62 x63 x64 x65 x66 x67 x68 x69 x70 x71 x72 x73 x74 x75 x76 x77 x78 x79 x80 x81 x82 x83 x84 x85 x123 x124 x125 x126 x127 x128:Value)
variable (hQ:∀c (a:Act) (d:Tmp) (v:Value) (w:World),Q (.panic c) (a.put (some d) v) w→Q (.panic c) a w)
variable (hC:∀V,Bl X V→V.cell? ⟨kb,koff+j,none⟩=some (.slice q1 l1n q2)∧V.cell? ⟨gk,j,none⟩=some (.slice p1 l2n p2))
variable (k1:j<K) (hE:E1≠0)
variable (hW1:∀W,Bl X W→Calls Tryz.prog 21 #[.slice q1 l1n q2] W fun e w'=>e=.returned (.agg #[.int .i64 E1,.int .i64 E2])∧Bl W w')
variable (hS:∀W,Bl X W→Calls Tryz.prog 22 #[.slice p1 l2n p2,.slice q1 l1n q2] W fun e w'=>e=.returned (.bool true)∧Bl W w')
variable (fin:∀(w':World),Bl X w'→Q .normal { tmps:=#[x0,x1,x2,(.slice (some ⟨kb,koff,none⟩) K kc),x4,x5,x6,x7,x8,x9,x10,x11,x12,x13,x14,x15,x16,x17,x18,(.slice (some ⟨gk,0,none⟩) K K),x20,x21,x22,(.int .i64 (j:Int)),x24,x25,x26,x27,x28,x29,x30,x31,x32,x33,x34,x35,x36,x37,x38,x39,x40,x41,x42,x43,x44,x45,x46,x47,x48,x49,x50,x51,x52,x53,x54,x55,x56,x57,x58,x59,x60,x61,x62,x63,x64,x65,x66,x67,x68,x69,x70,x71,x72,x73,x74,x75,x76,x77,x78,x79,x80,x81,x82,x83,x84,x85,(.slice (some ⟨kb,koff,none⟩) K kc),(.int .i64 (j:Int)),(.pointer (some ⟨kb,koff+j,none⟩)),(.slice q1 l1n q2),(.agg #[.int .i64 E1,.int .i64 E2]),(.int .i64 E1),(.bool false),(.bool false),undef,undef,undef,undef,undef,undef,undef,(.bool false),(.bool false),(.slice (some ⟨kb,koff,none⟩) K kc),(.int .i64 (j:Int)),(.pointer (some ⟨kb,koff+j,none⟩)),(.slice q1 l1n q2),(.agg #[.int .i64 E1,.int .i64 E2]),(.int .i64 E1),(.bool true),(.bool true),(.slice (some ⟨gk,0,none⟩) K K),(.int .i64 (j:Int)),(.pointer (some ⟨gk,j,none⟩)),(.slice p1 l2n p2),(.slice (some ⟨kb,koff,none⟩) K kc),(.int .i64 (j:Int)),(.pointer (some ⟨kb,koff+j,none⟩)),(.slice q1 l1n q2),(.bool true),(.bool false),(.bool false),(.bool false),x123,x124,x125,x126,x127,x128],defers:=df } w')
include hQ hC k1 hE hW1 hS fin in
theorem la18b (x86 x87 x88 x89 x90 x91 x92 x93 x94 x95 x96 x97 x98 x99 x100 x101 x102 x103 x104 x105 x106 x107 x108 x109 x110 x111 x112 x113 x114 x115 x116 x117 x118 x119 x120 x121 x122:Value):(Code.region 18 la18_ops true).wp Tryz.prog Q { tmps:=#[x0,x1,x2,(.slice (some ⟨kb,koff,none⟩) K kc),x4,x5,x6,x7,x8,x9,x10,x11,x12,x13,x14,x15,x16,x17,x18,(.slice (some ⟨gk,0,none⟩) K K),x20,x21,x22,(.int .i64 (j:Int)),x24,x25,x26,x27,x28,x29,x30,x31,x32,x33,x34,x35,x36,x37,x38,x39,x40,x41,x42,x43,x44,x45,x46,x47,x48,x49,x50,x51,x52,x53,x54,x55,x56,x57,x58,x59,x60,x61,x62,x63,x64,x65,x66,x67,x68,x69,x70,x71,x72,x73,x74,x75,x76,x77,x78,x79,x80,x81,x82,x83,x84,x85,x86,x87,x88,x89,x90,x91,x92,x93,x94,x95,x96,x97,x98,x99,x100,x101,x102,x103,x104,x105,x106,x107,x108,x109,x110,x111,x112,x113,x114,x115,x116,x117,x118,x119,x120,x121,x122,x123,x124,x125,x126,x127,x128],defers:=df } X:=by
 have hX0:Bl X X.drew:=Below.drew (Below.refl _ _);have i1:(0:Int)≤(j:Int):=(by omega)
 have i2:(j:Int)<(K:Int):=(by omega)
 have hfa:∀(a b:Int) (w:World),(Instr.field 37 (.agg #[.int .i64 a,.int .i64 b]) 0).run Tryz.prog w=.ok (.int .i64 a) w:=fa_err;have z1:(E1 == 0)=false:=beq_eq_false_iff_ne.2 hE;have z2:(E1 != 0)=true:=(by simp[bne,z1])
 have z3:decide (E1=0)=false:=decide_eq_false hE;refine wp_region_z (z:=36) (C:=fun W=>W.cell? ⟨kb,koff+j,none⟩=some (.slice q1 l1n q2)∧W.cell? ⟨gk,j,none⟩=some (.slice p1 l2n p2)) (by kernel_rfl) (hC _ hX0) (fun hHeld => ?_);refine z_take (i:=0) (oi:=⟨some 86,.move (.tmp 3),27, "law.go:214",#[],none⟩) (v := ?_) (some 86) rfl rfl (by kernel_rfl) (by kernel_rfl) (by kernel_rfl) (by decide) (fun c a w h=>hQ c a _ _ w h) (by rfl) ?_ hHeld ?_;rotate_left 1
 ·(intro wq;go_simp;try with_reducible rfl)
 (try simp only[Act.put,lsA,lsZ,lsS])
 refine z_take (i:=1) (oi:=⟨some 87,.move (.tmp 23),3, "law.go:214",#[],none⟩) (v := ?_) (some 87) rfl rfl (by kernel_rfl) (by kernel_rfl) (by kernel_rfl) (by decide) (fun c a w h=>hQ c a _ _ w h) (by rfl) ?_ hHeld ?_;rotate_left 1
 ·(intro wq;go_simp;try with_reducible rfl)
 (try simp only[Act.put,lsA,lsZ,lsS])
 refine z_take (i:=2) (oi:=⟨some 88,.indexAddr 27 (.tmp 86) (.tmp 87),0, "law.go:214",#[⟨0,.data⟩,⟨1,.data⟩],none⟩) (v := ?_) (some 88) rfl rfl (by kernel_rfl) (by kernel_rfl) (by kernel_rfl) (by decide) (fun c a w h=>hQ c a _ _ w h) (by rfl) ?_ hHeld ?_;rotate_left 1
 ·(intro wq;go_simp;try with_reducible rfl)
 (try simp only[Act.put,lsA,lsZ,lsS])
 refine z_load (i:=3) (oi:=⟨some 89,.load 67 (.tmp 88),67, "law.go:214",#[⟨2,.data⟩],none⟩) (v := ?_) (some 89) rfl rfl (by kernel_rfl) (by kernel_rfl) (by kernel_rfl) (by kernel_rfl) (fun c a w h=>hQ c a _ _ w h) (by rfl) ?_ hHeld ?_;rotate_left 1
 ·(intro wq hSw;go_simp;try with_reducible rfl)
 (try simp only[Act.put,lsA,lsZ,lsS])
 refine z_one (i:=4) (o:=⟨some 90,.call { callee:=.value (.func 21),args:=#[.tmp 89],argTypes:=#[67] },37, "law.go:214",#[⟨3,.data⟩],none⟩) (by kernel_rfl) rfl (fun K hK => ?_);go_simp;refine(hW1 _ hX0).mono ?_;rintro e w1 ⟨rfl,hb⟩;have hX1:Bl X w1:=hX0.trans (hb.mono hX0.size);clear hHeld hb;refine hK.out _ _ (Or.inr (hC _ hX1)) (fun hHeld => ?_);clear hK K;(try simp only[lsA,lsZ,lsS])
 refine z_take (i:=5) (oi:=⟨some 91,.field 37 (.tmp 90) 0,35, "law.go:214",#[⟨4,.data⟩],none⟩) (v := ?_) (some 91) rfl rfl (by kernel_rfl) (by kernel_rfl) (by kernel_rfl) (by decide) (fun c a w h=>hQ c a _ _ w h) (by rfl) ?_ hHeld ?_;rotate_left 1
 ·(intro wq;go_simp;try with_reducible rfl)
 (try simp only[Act.put,lsA,lsZ,lsS])
 refine z_take (i:=6) (oi:=⟨some 92,.binOp .eql 35 (.tmp 91) (.const (.int .i64 0)) 35,4, "law.go:214",#[⟨5,.data⟩],none⟩) (v := ?_) (some 92) rfl rfl (by kernel_rfl) (by kernel_rfl) (by kernel_rfl) (by decide) (fun c a w h=>hQ c a _ _ w h) (by rfl) ?_ hHeld ?_;rotate_left 1
 ·(intro wq;go_simp;try with_reducible rfl)
 (try simp only[Act.put,lsA,lsZ,lsS])
 refine z_take (i:=7) (oi:=⟨some 93,.move (.tmp 92),4, "law.go:214",#[⟨6,.data⟩,⟨4,.chain⟩],none⟩) (v := ?_) (some 93) rfl rfl (by kernel_rfl) (by kernel_rfl) (by kernel_rfl) (by decide) (fun c a w h=>hQ c a _ _ w h) (by rfl) ?_ hHeld ?_;rotate_left 1
 ·(intro wq;go_simp;try with_reducible rfl)
 (try simp only[Act.put,lsA,lsZ,lsS])
 refine z_skip (i:=8) (oi:={ dst:=some 94,op:=Op.move (Operand.tmp 19),type:=27,pos := "law.go:214",after:=#[{ on:=7,ground:=Ground.guard }],guard:=some (7,true) }) (some 94) rfl rfl (by kernel_rfl) (by kernel_rfl) (by kernel_rfl) (by decide) (fun c a w h=>hQ c a _ _ w h) (by rfl) hHeld ?_;(try simp only[Act.put,lsA,lsZ,lsS])
 refine z_skip (i:=9) (oi:={ dst:=some 95,op:=Op.move (Operand.tmp 23),type:=3,pos := "law.go:214",after:=#[{ on:=7,ground:=Ground.guard }],guard:=some (7,true) }) (some 95) rfl rfl (by kernel_rfl) (by kernel_rfl) (by kernel_rfl) (by decide) (fun c a w h=>hQ c a _ _ w h) (by rfl) hHeld ?_;(try simp only[Act.put,lsA,lsZ,lsS])
 refine z_skip (i:=10) (oi:={ dst:=some 96,op:=Op.indexAddr 27 (Operand.tmp 94) (Operand.tmp 95),type:=0,pos := "law.go:214",after:=#[{ on:=8,ground:=Ground.data },{ on:=9,ground:=Ground.data },{ on:=7,ground:=Ground.guard }],guard:=some (7,true) }) (some 96) rfl rfl (by kernel_rfl) (by kernel_rfl) (by kernel_rfl) (by decide) (fun c a w h=>hQ c a _ _ w h) (by rfl) hHeld ?_;(try simp only[Act.put,lsA,lsZ,lsS])
 refine z_skip (i:=11) (oi:={ dst:=some 97,op:=Op.load 67 (Operand.tmp 96),type:=67,pos := "law.go:214",after:=#[{ on:=10,ground:=Ground.data },{ on:=7,ground:=Ground.guard }],guard:=some (7,true) }) (some 97) rfl rfl (by kernel_rfl) (by kernel_rfl) (by kernel_rfl) (by decide) (fun c a w h=>hQ c a _ _ w h) (by rfl) hHeld ?_;(try simp only[Act.put,lsA,lsZ,lsS])
 refine z_one (i:=12) (o:={ dst:=some 98,op:=Op.call { callee:=Callee.value (Operand.func 21),args:=#[Operand.tmp 97],argTypes:=#[67] },type:=37,pos := "law.go:214",after:=#[{ on:=11,ground:=Ground.data },{ on:=7,ground:=Ground.chain },{ on:=7,ground:=Ground.guard }],guard:=some (7,true) }) (by kernel_rfl) rfl (fun K hK => ?_);go_simp;refine hK.out _ _ (Or.inr (hC _ hX1)) (fun hHeld => ?_);clear hK K;(try simp only[Act.put,lsA,lsZ,lsS])
 refine z_skip (i:=13) (oi:={ dst:=some 99,op:=Op.field 37 (Operand.tmp 98) 0,type:=35,pos := "law.go:214",after:=#[{ on:=12,ground:=Ground.data },{ on:=7,ground:=Ground.guard }],guard:=some (7,true) }) (some 99) rfl rfl (by kernel_rfl) (by kernel_rfl) (by kernel_rfl) (by decide) (fun c a w h=>hQ c a _ _ w h) (by rfl) hHeld ?_;(try simp only[Act.put,lsA,lsZ,lsS])
 refine z_skip (i:=14) (oi:={ dst:=some 100,op:=Op.binOp BinOp.neq 35 (Operand.tmp 99) (Operand.const (Value.int IntKind.i64 0)) 35,type:=4,pos := "law.go:214",after:=#[{ on:=13,ground:=Ground.data },{ on:=7,ground:=Ground.guard }],guard:=some (7,true) }) (some 100) rfl rfl (by kernel_rfl) (by kernel_rfl) (by kernel_rfl) (by decide) (fun c a w h=>hQ c a _ _ w h) (by rfl) hHeld ?_;(try simp only[Act.put,lsA,lsZ,lsS])
 refine z_take (i:=15) (oi:=⟨some 101,.pick (.tmp 93) (.tmp 100) (.const (Value.bool false)),4, "law.go:214",#[⟨7,.data⟩,⟨14,.data⟩],none⟩) (v := ?_) (some 101) rfl rfl (by kernel_rfl) (by kernel_rfl) (by kernel_rfl) (by decide) (fun c a w h=>hQ c a _ _ w h) (by rfl) ?_ hHeld ?_;rotate_left 1
 ·(intro wq;go_simp;try with_reducible rfl)
 (try simp only[Act.put,lsA,lsZ,lsS])
 refine z_take (i:=16) (oi:=⟨some 102,.move (.tmp 101),4, "law.go:214",#[⟨15,.data⟩,⟨12,.chain⟩],none⟩) (v := ?_) (some 102) rfl rfl (by kernel_rfl) (by kernel_rfl) (by kernel_rfl) (by decide) (fun c a w h=>hQ c a _ _ w h) (by rfl) ?_ hHeld ?_;rotate_left 1
 ·(intro wq;go_simp;try with_reducible rfl)
 (try simp only[Act.put,lsA,lsZ,lsS])
 refine z_take (i:=17) (oi:={ dst:=some 103,op:=Op.move (Operand.tmp 3),type:=27,pos := "law.go:214",after:=#[{ on:=16,ground:=Ground.guard }],guard:=some (16,false) }) (v := ?_) (some 103) rfl rfl (by kernel_rfl) (by kernel_rfl) (by kernel_rfl) (by decide) (fun c a w h=>hQ c a _ _ w h) (by rfl) ?_ hHeld ?_;rotate_left 1
 ·(intro wq;go_simp;try with_reducible rfl)
 (try simp only[Act.put,lsA,lsZ,lsS])
 refine z_take (i:=18) (oi:={ dst:=some 104,op:=Op.move (Operand.tmp 23),type:=3,pos := "law.go:214",after:=#[{ on:=16,ground:=Ground.guard }],guard:=some (16,false) }) (v := ?_) (some 104) rfl rfl (by kernel_rfl) (by kernel_rfl) (by kernel_rfl) (by decide) (fun c a w h=>hQ c a _ _ w h) (by rfl) ?_ hHeld ?_;rotate_left 1
 ·(intro wq;go_simp;try with_reducible rfl)
 (try simp only[Act.put,lsA,lsZ,lsS])
 refine z_take (i:=19) (oi:={ dst:=some 105,op:=Op.indexAddr 27 (Operand.tmp 103) (Operand.tmp 104),type:=0,pos := "law.go:214",after:=#[{ on:=17,ground:=Ground.data },{ on:=18,ground:=Ground.data },{ on:=16,ground:=Ground.guard }],guard:=some (16,false) }) (v := ?_) (some 105) rfl rfl (by kernel_rfl) (by kernel_rfl) (by kernel_rfl) (by decide) (fun c a w h=>hQ c a _ _ w h) (by rfl) ?_ hHeld ?_;rotate_left 1
 ·(intro wq;go_simp;try with_reducible rfl)
 (try simp only[Act.put,lsA,lsZ,lsS])
 refine z_load (i:=20) (oi:={ dst:=some 106,op:=Op.load 67 (Operand.tmp 105),type:=67,pos := "law.go:214",after:=#[{ on:=19,ground:=Ground.data },{ on:=16,ground:=Ground.guard }],guard:=some (16,false) }) (v := ?_) (some 106) rfl rfl (by kernel_rfl) (by kernel_rfl) (by kernel_rfl) (by kernel_rfl) (fun c a w h=>hQ c a _ _ w h) (by rfl) ?_ hHeld ?_;rotate_left 1
 ·(intro wq hSw;go_simp;try with_reducible rfl)
 (try simp only[Act.put,lsA,lsZ,lsS])
 refine z_one (i:=21) (o:={ dst:=some 107,op:=Op.call { callee:=Callee.value (Operand.func 21),args:=#[Operand.tmp 106],argTypes:=#[67] },type:=37,pos := "law.go:214",after:=#[{ on:=20,ground:=Ground.data },{ on:=16,ground:=Ground.chain },{ on:=16,ground:=Ground.guard }],guard:=some (16,false) }) (by kernel_rfl) rfl (fun K hK => ?_);go_simp;refine(hW1 _ hX1).mono ?_;rintro e w2 ⟨rfl,hb⟩;have hX2:Bl X w2:=hX1.trans (hb.mono hX1.size);clear hHeld hb;refine hK.out _ _ (Or.inr (hC _ hX2)) (fun hHeld => ?_);clear hK K;(try simp only[lsA,lsZ,lsS])
 refine z_take (i:=22) (oi:={ dst:=some 108,op:=Op.field 37 (Operand.tmp 107) 0,type:=35,pos := "law.go:214",after:=#[{ on:=21,ground:=Ground.data },{ on:=16,ground:=Ground.guard }],guard:=some (16,false) }) (v := ?_) (some 108) rfl rfl (by kernel_rfl) (by kernel_rfl) (by kernel_rfl) (by decide) (fun c a w h=>hQ c a _ _ w h) (by rfl) ?_ hHeld ?_;rotate_left 1
 ·(intro wq;go_simp;try with_reducible rfl)
 (try simp only[Act.put,lsA,lsZ,lsS])
 refine z_take (i:=23) (oi:={ dst:=some 109,op:=Op.binOp BinOp.neq 35 (Operand.tmp 108) (Operand.const (Value.int IntKind.i64 0)) 35,type:=4,pos := "law.go:214",after:=#[{ on:=22,ground:=Ground.data },{ on:=16,ground:=Ground.guard }],guard:=some (16,false) }) (v := ?_) (some 109) rfl rfl (by kernel_rfl) (by kernel_rfl) (by kernel_rfl) (by decide) (fun c a w h=>hQ c a _ _ w h) (by rfl) ?_ hHeld ?_;rotate_left 1
 ·(intro wq;go_simp;try with_reducible rfl)
 (try simp only[Act.put,lsA,lsZ,lsS])
 refine z_take (i:=24) (oi:={ dst:=some 110,op:=Op.move (Operand.tmp 109),type:=4,pos := "law.go:214",after:=#[{ on:=23,ground:=Ground.data },{ on:=21,ground:=Ground.chain },{ on:=16,ground:=Ground.guard }],guard:=some (16,false) }) (v := ?_) (some 110) rfl rfl (by kernel_rfl) (by kernel_rfl) (by kernel_rfl) (by decide) (fun c a w h=>hQ c a _ _ w h) (by rfl) ?_ hHeld ?_;rotate_left 1
 ·(intro wq;go_simp;try with_reducible rfl)
 (try simp only[Act.put,lsA,lsZ,lsS])
 refine z_take (i:=25) (oi:={ dst:=some 111,op:=Op.move (Operand.tmp 19),type:=27,pos := "law.go:214",after:=#[{ on:=24,ground:=Ground.guard }],guard:=some (24,true) }) (v := ?_) (some 111) rfl rfl (by kernel_rfl) (by kernel_rfl) (by kernel_rfl) (by decide) (fun c a w h=>hQ c a _ _ w h) (by rfl) ?_ hHeld ?_;rotate_left 1
 ·(intro wq;go_simp;try with_reducible rfl)
 (try simp only[Act.put,lsA,lsZ,lsS])
 refine z_take (i:=26) (oi:={ dst:=some 112,op:=Op.move (Operand.tmp 23),type:=3,pos := "law.go:214",after:=#[{ on:=24,ground:=Ground.guard }],guard:=some (24,true) }) (v := ?_) (some 112) rfl rfl (by kernel_rfl) (by kernel_rfl) (by kernel_rfl) (by decide) (fun c a w h=>hQ c a _ _ w h) (by rfl) ?_ hHeld ?_;rotate_left 1
 ·(intro wq;go_simp;try with_reducible rfl)
 (try simp only[Act.put,lsA,lsZ,lsS])
 refine z_take (i:=27) (oi:={ dst:=some 113,op:=Op.indexAddr 27 (Operand.tmp 111) (Operand.tmp 112),type:=0,pos := "law.go:214",after:=#[{ on:=25,ground:=Ground.data },{ on:=26,ground:=Ground.data },{ on:=24,ground:=Ground.guard }],guard:=some (24,true) }) (v := ?_) (some 113) rfl rfl (by kernel_rfl) (by kernel_rfl) (by kernel_rfl) (by decide) (fun c a w h=>hQ c a _ _ w h) (by rfl) ?_ hHeld ?_;rotate_left 1
 ·(intro wq;go_simp;try with_reducible rfl)
 (try simp only[Act.put,lsA,lsZ,lsS])
 refine z_load (i:=28) (oi:={ dst:=some 114,op:=Op.load 67 (Operand.tmp 113),type:=67,pos := "law.go:214",after:=#[{ on:=27,ground:=Ground.data },{ on:=24,ground:=Ground.guard }],guard:=some (24,true) }) (v := ?_) (some 114) rfl rfl (by kernel_rfl) (by kernel_rfl) (by kernel_rfl) (by kernel_rfl) (fun c a w h=>hQ c a _ _ w h) (by rfl) ?_ hHeld ?_;rotate_left 1
 ·(intro wq hSw;go_simp;try with_reducible rfl)
 (try simp only[Act.put,lsA,lsZ,lsS])
 refine z_take (i:=29) (oi:={ dst:=some 115,op:=Op.move (Operand.tmp 3),type:=27,pos := "law.go:214",after:=#[{ on:=24,ground:=Ground.guard }],guard:=some (24,true) }) (v := ?_) (some 115) rfl rfl (by kernel_rfl) (by kernel_rfl) (by kernel_rfl) (by decide) (fun c a w h=>hQ c a _ _ w h) (by rfl) ?_ hHeld ?_;rotate_left 1
 ·(intro wq;go_simp;try with_reducible rfl)
 (try simp only[Act.put,lsA,lsZ,lsS])
 refine z_take (i:=30) (oi:={ dst:=some 116,op:=Op.move (Operand.tmp 23),type:=3,pos := "law.go:214",after:=#[{ on:=24,ground:=Ground.guard }],guard:=some (24,true) }) (v := ?_) (some 116) rfl rfl (by kernel_rfl) (by kernel_rfl) (by kernel_rfl) (by decide) (fun c a w h=>hQ c a _ _ w h) (by rfl) ?_ hHeld ?_;rotate_left 1
 ·(intro wq;go_simp;try with_reducible rfl)
 (try simp only[Act.put,lsA,lsZ,lsS])
 refine z_take (i:=31) (oi:={ dst:=some 117,op:=Op.indexAddr 27 (Operand.tmp 115) (Operand.tmp 116),type:=0,pos := "law.go:214",after:=#[{ on:=29,ground:=Ground.data },{ on:=30,ground:=Ground.data },{ on:=24,ground:=Ground.guard }],guard:=some (24,true) }) (v := ?_) (some 117) rfl rfl (by kernel_rfl) (by kernel_rfl) (by kernel_rfl) (by decide) (fun c a w h=>hQ c a _ _ w h) (by rfl) ?_ hHeld ?_;rotate_left 1
 ·(intro wq;go_simp;try with_reducible rfl)
 (try simp only[Act.put,lsA,lsZ,lsS])
 refine z_load (i:=32) (oi:={ dst:=some 118,op:=Op.load 67 (Operand.tmp 117),type:=67,pos := "law.go:214",after:=#[{ on:=31,ground:=Ground.data },{ on:=24,ground:=Ground.guard }],guard:=some (24,true) }) (v := ?_) (some 118) rfl rfl (by kernel_rfl) (by kernel_rfl) (by kernel_rfl) (by kernel_rfl) (fun c a w h=>hQ c a _ _ w h) (by rfl) ?_ hHeld ?_;rotate_left 1
 ·(intro wq hSw;go_simp;try with_reducible rfl)
 (try simp only[Act.put,lsA,lsZ,lsS])
 refine z_one (i:=33) (o:={ dst:=some 119,op:=Op.call { callee:=Callee.value (Operand.func 22),args:=#[Operand.tmp 114,Operand.tmp 118],argTypes:=#[67,67] },type:=4,pos := "law.go:214",after:=#[{ on:=28,ground:=Ground.data },{ on:=32,ground:=Ground.data },{ on:=24,ground:=Ground.chain },{ on:=24,ground:=Ground.guard }],guard:=some (24,true) }) (by kernel_rfl) rfl (fun K hK => ?_);go_simp;refine(hS _ hX2).mono ?_;rintro e w3 ⟨rfl,hb⟩;have hX3:Bl X w3:=hX2.trans (hb.mono hX2.size);clear hHeld hb;refine hK.out _ _ (Or.inr (hC _ hX3)) (fun hHeld => ?_);clear hK K;(try simp only[lsA,lsZ,lsS])
 refine z_take (i:=34) (oi:={ dst:=some 120,op:=Op.unOp UnOp.not 4 (Operand.tmp 119),type:=4,pos := "law.go:214",after:=#[{ on:=33,ground:=Ground.data },{ on:=24,ground:=Ground.guard }],guard:=some (24,true) }) (v := ?_) (some 120) rfl rfl (by kernel_rfl) (by kernel_rfl) (by kernel_rfl) (by decide) (fun c a w h=>hQ c a _ _ w h) (by rfl) ?_ hHeld ?_;rotate_left 1
 ·(intro wq;go_simp;try with_reducible rfl)
 (try simp only[Act.put,lsA,lsZ,lsS])
 refine z_take (i:=35) (oi:={ dst:=some 121,op:=Op.pick (Operand.tmp 110) (Operand.tmp 120) (Operand.const (Value.bool false)),type:=4,pos := "law.go:214",after:=#[{ on:=24,ground:=Ground.data },{ on:=34,ground:=Ground.data },{ on:=16,ground:=Ground.guard }],guard:=some (16,false) }) (v := ?_) (some 121) rfl rfl (by kernel_rfl) (by kernel_rfl) (by kernel_rfl) (by decide) (fun c a w h=>hQ c a _ _ w h) (by rfl) ?_ hHeld ?_;rotate_left 1
 ·(intro wq;go_simp;try with_reducible rfl)
 (try simp only[Act.put,lsA,lsZ,lsS])
 refine z_one (i:=36) (o:=⟨some 122,.pick (.tmp 102) (.const (Value.bool true)) (.tmp 121),4, "law.go:214",#[⟨16,.data⟩,⟨35,.data⟩],none⟩) (by kernel_rfl) rfl (fun K hK => ?_);go_simp;refine hK.out _ _ (Or.inl (by kernel_rfl)) (fun hHeld => ?_);(try simp only[lsA,lsZ,lsS])
 refine z_done (by kernel_rfl) ?_ _;exact fin _ hX3
end
end
end Go.Proofs.YtelebnancdjjiaaGreatDoor
