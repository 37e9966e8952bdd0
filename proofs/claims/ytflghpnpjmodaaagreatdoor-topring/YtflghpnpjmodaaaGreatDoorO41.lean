/- TopRing: the region with On -/
import Derived.Test.YtflghpnpjmodaaaGreatDoorO40
set_option maxRecDepth 100000
set_option maxHeartbeats 6000000
namespace Go.Proofs.YtflghpnpjmodaaaGreatDoor
section
open Go.RowKit
open Tk (Dn)
section
variable {Q:Exit→Act→World→Prop}(df:List Deferred) (X:World) (gM gT gF:Nat) (nb nl tb:Value) (p1 p2:Int) (b:Int)
variable (R:World→World→Option Addr→Nat→Nat→Option Addr→Nat→Nat→Option Addr→Nat→Nat→Int→Int→Prop)
variable (x0 x2 x3 x4 x5 x6 x10 x11 x12 x13 x14 x17 x18 x19 x20 x21 x22 x23 x24 x25 x26 x27 x28 x29 x30 x31 x32 x33 x34 x35 x36 x37 x38 x39 x40 x41 x42 x43 x44 x45 x46 x47 x48 x49 x50 x51 x52 x53 x54 x55 x56 x57 x58 x59 x60 x61 x62 x63 x64 x65 x66 x67 x68 x69 x70 x71 x72 x73 x74 x75 x76 x77 x78 x79 x80 x81 x82 x83 x84 x85 x86 x87 x88 x89 x90 x91 x92 x93 x94 x95 x96 x97 x98 x99 x100 x101 x102 x103 x108 x109 x110 x111 x112 x113 x114 x115 x116 x117 x118 x119 x120 x121 x122 x123 x124 x125 x126 x127 x128 x129 x130 x131 x132 x133:Value)
def ur9_ops:Array Oper:=#[⟨some 104,.load 32 (.tmp 7),32, "top.go:70",#[],none⟩,⟨some 105,.load 43 (.tmp 8),43, "top.go:70",#[],none⟩,⟨some 106,.move (.tmp 1),3, "top.go:70",#[],none⟩,⟨some 107,.build 47 #[(0,.const (.int .i64 3)),(1,.tmp 106)],47, "top.go:70",#[⟨2,.data⟩],none⟩,⟨some 108,.call { callee:=.value (.func 16),args:=#[.const (.int .i64 90)],argTypes:=#[3] },47, "top.go:70",#[],none⟩,⟨some 109,.buildSlice 49 2 #[(0,.tmp 107),(1,.tmp 108)],49, "top.go:70",#[⟨3,.data⟩,⟨4,.data⟩],none⟩,⟨some 110,.call { callee:=.value (.func 29),args:=#[.tmp 104,.tmp 105,.tmp 109],argTypes:=#[32,43,49] },44, "top.go:70",#[⟨0,.data⟩,⟨1,.data⟩,⟨5,.data⟩,⟨4,.chain⟩],none⟩,⟨some 103,.move (.tmp 110),44, "top.go:70",#[⟨6,.data⟩],none⟩,⟨some 111,.extract (.tmp 103) 0,32, "top.go:70",#[⟨7,.data⟩],none⟩,⟨some 112,.extract (.tmp 103) 1,43, "top.go:70",#[⟨7,.data⟩,{ on:=13,ground:=Ground.gcOnly Departure.lateStores }],none⟩,⟨some 113,.extract (.tmp 103) 2,26, "top.go:70",#[⟨7,.data⟩,{ on:=14,ground:=Ground.gcOnly Departure.lateStores }],none⟩,⟨some 15,.alloc 32,0, "top.go:70",#[],none⟩,⟨some 16,.alloc 43,0, "top.go:70",#[],none⟩,⟨none,.store 32 (.tmp 15) (.tmp 111),0, "top.go:70",#[⟨11,.data⟩,⟨8,.data⟩,⟨6,.chain⟩,⟨0,.phase⟩,⟨1,.phase⟩,⟨2,.phase⟩,⟨3,.phase⟩,⟨4,.phase⟩,⟨5,.phase⟩,⟨6,.phase⟩,⟨7,.phase⟩,⟨8,.phase⟩,{ on:=9,ground:=Ground.textOnly Departure.lateStores },{ on:=10,ground:=Ground.textOnly Departure.lateStores },⟨11,.phase⟩,⟨12,.phase⟩],none⟩,⟨none,.store 43 (.tmp 16) (.tmp 112),0, "top.go:70",#[⟨12,.data⟩,⟨9,.data⟩,⟨13,.chain⟩,⟨0,.phase⟩,⟨1,.phase⟩,⟨2,.phase⟩,⟨3,.phase⟩,⟨4,.phase⟩,⟨5,.phase⟩,⟨6,.phase⟩,⟨7,.phase⟩,⟨8,.phase⟩,⟨9,.phase⟩,{ on:=10,ground:=Ground.textOnly Departure.lateStores },⟨11,.phase⟩,⟨12,.phase⟩,⟨13,.phase⟩],none⟩,⟨none,.store 26 (.tmp 9) (.tmp 113),0, "top.go:70",#[⟨10,.data⟩,⟨14,.chain⟩,⟨0,.phase⟩,⟨1,.phase⟩,⟨2,.phase⟩,⟨3,.phase⟩,⟨4,.phase⟩,⟨5,.phase⟩,⟨6,.phase⟩,⟨7,.phase⟩,⟨8,.phase⟩,⟨9,.phase⟩,⟨10,.phase⟩,⟨11,.phase⟩,⟨12,.phase⟩,⟨13,.phase⟩,⟨14,.phase⟩],none⟩]
variable (hQ:∀c (a:Act) (d:Tmp) (v:Value) (w:World),Q (.panic c) (a.put (some d) v) w→Q (.panic c) a w)
variable (hC:∀V,Below X.heap.size X V→V.cell? ⟨gM,0,none⟩=some nb∧V.cell? ⟨gM,1,none⟩=some nl∧V.cell? ⟨gT,0,none⟩=some tb)
variable (hFt:X.heap[gF]?=some (.cells #[.int .i64 p1,.int .i64 p2] 26))
variable (hT:∀V,Calls Tryz.prog 16 #[.int .i64 90] V fun e w'=>e=.returned (.agg #[.int .i64 1,.int .i64 90,.int .i64 0,.int .i64 0])∧Below V.heap.size V w')
variable (hP:∀V g,Below X.heap.size X V→DRow V (some ⟨g,0,none⟩) 2 2 (cut2 b)→Calls Tryz.prog 29 #[.agg #[nb,nl],.agg #[tb],.slice (some ⟨g,0,none⟩) 2 2] V fun e w'=>∃na nk nc la lk lc oa ol oc f1 f2,e=.returned (.tuple #[.agg #[.slice na nk nc,.slice la lk lc],.agg #[.slice oa ol oc],.agg #[.int .i64 f1,.int .i64 f2]])∧Hid (Below V.heap.size V w'∧R V w' na nk nc la lk lc oa ol oc f1 f2))
variable (fin:∀(gt:Nat) (V:World) (na:Option Addr) (nk nc:Nat) (la:Option Addr) (lk lc:Nat) (oa:Option Addr) (ol oc:Nat) (f1 f2:Int) (g7 g8:Nat) (W0 W:World),R V W0 na nk nc la lk lc oa ol oc f1 f2→Below W0.heap.size W0 W→Below X.heap.size X W→(W.heap[g7]?=some (.cells #[.slice none 0 0,.slice none 0 0] 32)∧W.heap[g8]?=some (.cells #[.slice none 0 0] 43)∧W.heap[gF]?=some (.cells #[.int .i64 p1,.int .i64 p2] 26))→(X.heap.size≤g7∧X.heap.size≤g8∧gF<X.heap.size∧X.heap.size≤V.heap.size)→((g7<V.heap.size∨W0.heap.size≤g7)∧(g8<V.heap.size∨W0.heap.size≤g8))→Q .normal { tmps:=#[x0,(.int .i64 b),x2,x3,x4,x5,x6,(.pointer (some ⟨gM,0,none⟩)),(.pointer (some ⟨gT,0,none⟩)),(.pointer (some ⟨gF,0,none⟩)),x10,x11,x12,x13,x14,(.pointer (some ⟨g7,0,none⟩)),(.pointer (some ⟨g8,0,none⟩)),x17,x18,x19,x20,x21,x22,x23,x24,x25,x26,x27,x28,x29,x30,x31,x32,x33,x34,x35,x36,x37,x38,x39,x40,x41,x42,x43,x44,x45,x46,x47,x48,x49,x50,x51,x52,x53,x54,x55,x56,x57,x58,x59,x60,x61,x62,x63,x64,x65,x66,x67,x68,x69,x70,x71,x72,x73,x74,x75,x76,x77,x78,x79,x80,x81,x82,x83,x84,x85,x86,x87,x88,x89,x90,x91,x92,x93,x94,x95,x96,x97,x98,x99,x100,x101,x102,(.tuple #[.agg #[.slice na nk nc,.slice la lk lc],.agg #[.slice oa ol oc],.agg #[.int .i64 f1,.int .i64 f2]]),(.agg #[nb,nl]),(.agg #[tb]),(.int .i64 b),(.agg #[.int .i64 3,.int .i64 b,.int .i64 0,.int .i64 0]),(.agg #[.int .i64 1,.int .i64 90,.int .i64 0,.int .i64 0]),(.slice (some ⟨gt,0,none⟩) 2 2),(.tuple #[.agg #[.slice na nk nc,.slice la lk lc],.agg #[.slice oa ol oc],.agg #[.int .i64 f1,.int .i64 f2]]),(.agg #[.slice na nk nc,.slice la lk lc]),(.agg #[.slice oa ol oc]),(.agg #[.int .i64 f1,.int .i64 f2]),x114,x115,x116,x117,x118,x119,x120,x121,x122,x123,x124,x125,x126,x127,x128,x129,x130,x131,x132,x133],defers:=df } (((((W.setCell ⟨g7,0,none⟩ (.slice na nk nc)).setCell ⟨g7,1,none⟩ (.slice la lk lc)).setCell ⟨g8,0,none⟩ (.slice oa ol oc)).setCell ⟨gF,0,none⟩ (.int .i64 f1)).setCell ⟨gF,1,none⟩ (.int .i64 f2)))
set_option maxRecDepth 100000
theorem ur9_rd0 (b7 b8:Bool):Region.ready .any ur9_ops #[true,true,true,true,false,false,false,false,false,false,false,b7,b8,false,false,false]=(4 :: ((if b7 then [] else [11])++(if b8 then [] else [12])):List Nat):=by
 cases b7<;>cases b8<;>kernel_rfl
theorem ur9_rd1 (b7 b8:Bool):Region.ready .any ur9_ops #[true,true,true,true,true,false,false,false,false,false,false,b7,b8,false,false,false]=(5 :: ((if b7 then [] else [11])++(if b8 then [] else [12])):List Nat):=by
 cases b7<;>cases b8<;>kernel_rfl
theorem ur9_rd2 (b7 b8:Bool):Region.ready .any ur9_ops #[true,true,true,true,true,true,false,false,false,false,false,b7,b8,false,false,false]=(6 :: ((if b7 then [] else [11])++(if b8 then [] else [12])):List Nat):=by
 cases b7<;>cases b8<;>kernel_rfl
theorem ur9_rd3 (b7 b8:Bool):Region.ready .any ur9_ops #[true,true,true,true,true,true,true,true,true,true,true,b7,b8,false,false,false]=(if (b7&&b8)=true then [13] else(if b7 then [] else [11])++(if b8 then [] else [12]):List Nat):=by
 cases b7<;>cases b8<;>kernel_rfl
include hC hFt fin in
theorem ur9_3:∀(fuel:Nat) (b7 b8:Bool),3+cnt3 b7 b8 true≤fuel→∀(s7 s8:Value) (g7 g8:Nat) (gt:Nat) (V:World) (na:Option Addr) (nk nc:Nat) (la:Option Addr) (lk lc:Nat) (oa:Option Addr) (ol oc:Nat) (f1 f2:Int) (W0 W:World),R V W0 na nk nc la lk lc oa ol oc f1 f2→Below W0.heap.size W0 W→Below X.heap.size X W→AlF W X.heap.size b7 s7 g7 #[.slice none 0 0,.slice none 0 0] 32→AlF W X.heap.size b8 s8 g8 #[.slice none 0 0] 43→X.heap.size≤V.heap.size→(b7=true→g7<V.heap.size∨W0.heap.size≤g7)→(b8=true→g8<V.heap.size∨W0.heap.size≤g8)→wpAnyZ Tryz.prog .any ur9_ops Q 13 (fun W=>W.cell? ⟨gM,0,none⟩=some nb∧W.cell? ⟨gM,1,none⟩=some nl∧W.cell? ⟨gT,0,none⟩=some tb) fuel #[true,true,true,true,true,true,true,true,true,true,true,b7,b8,false,false,false] { tmps:=#[x0,(.int .i64 b),x2,x3,x4,x5,x6,(.pointer (some ⟨gM,0,none⟩)),(.pointer (some ⟨gT,0,none⟩)),(.pointer (some ⟨gF,0,none⟩)),x10,x11,x12,x13,x14,s7,s8,x17,x18,x19,x20,x21,x22,x23,x24,x25,x26,x27,x28,x29,x30,x31,x32,x33,x34,x35,x36,x37,x38,x39,x40,x41,x42,x43,x44,x45,x46,x47,x48,x49,x50,x51,x52,x53,x54,x55,x56,x57,x58,x59,x60,x61,x62,x63,x64,x65,x66,x67,x68,x69,x70,x71,x72,x73,x74,x75,x76,x77,x78,x79,x80,x81,x82,x83,x84,x85,x86,x87,x88,x89,x90,x91,x92,x93,x94,x95,x96,x97,x98,x99,x100,x101,x102,(.tuple #[.agg #[.slice na nk nc,.slice la lk lc],.agg #[.slice oa ol oc],.agg #[.int .i64 f1,.int .i64 f2]]),(.agg #[nb,nl]),(.agg #[tb]),(.int .i64 b),(.agg #[.int .i64 3,.int .i64 b,.int .i64 0,.int .i64 0]),(.agg #[.int .i64 1,.int .i64 90,.int .i64 0,.int .i64 0]),(.slice (some ⟨gt,0,none⟩) 2 2),(.tuple #[.agg #[.slice na nk nc,.slice la lk lc],.agg #[.slice oa ol oc],.agg #[.int .i64 f1,.int .i64 f2]]),(.agg #[.slice na nk nc,.slice la lk lc]),(.agg #[.slice oa ol oc]),(.agg #[.int .i64 f1,.int .i64 f2]),x114,x115,x116,x117,x118,x119,x120,x121,x122,x123,x124,x125,x126,x127,x128,x129,x130,x131,x132,x133],defers:=df } W:=by
 intro fuel;induction fuel with
 | zero=>intro b7 b8 h;omega
 | succ fuel ih =>
  intro b7 b8 hf s7 s8 g7 g8 gt V na nk nc la lk lc oa ol oc f1 f2 W0 W hF hb hX h7 h8 hVX hz7 hz8;have hHeld:(#[true,true,true,true,true,true,true,true,true,true,true,b7,b8,false,false,false]:Array Bool).getD 13 true=true∨(fun W=>W.cell? ⟨gM,0,none⟩=some nb∧W.cell? ⟨gM,1,none⟩=some nl∧W.cell? ⟨gT,0,none⟩=some tb) W:=Or.inr (hC W hX)
  by_cases hall:b7=true∧b8=true
  ·obtain⟨rfl,rfl⟩:=hall;obtain⟨rfl,k7,l7⟩:=h7 rfl;obtain⟨rfl,k8,l8⟩:=h8 rfl;have k9:=keep hFt hX;have l9:=lt_some hFt;have hfin:=fin gt V na nk nc la lk lc oa ol oc f1 f2 g7 g8 W0 W hF hb hX ⟨k7,k8,k9⟩ ⟨l7,l8,l9,hVX⟩ ⟨hz7 rfl,hz8 rfl⟩;have n78:g7≠g8:=fun e=>by subst e;exact absurd (cells_type k7 k8) (by decide)
   have n79:g7≠gF:=(by omega);have n89:g8≠gF:=(by omega);have n87:=n78.symm;have n97:=n79.symm;have n98:=n89.symm;obtain⟨u0,u1⟩:=tC2 k7;have u2:=one_cell k8;obtain⟨u3,u4⟩:=tC2 k9;have v0:W.frozen? ⟨g7,0,none⟩=false:=frozen_of_row _ _ _ _ _ k7;have v1:W.frozen? ⟨g7,1,none⟩=false:=frozen_of_row _ _ _ _ _ k7;have v2:W.frozen? ⟨g8,0,none⟩=false:=frozen_of_row _ _ _ _ _ k8;have v3:W.frozen? ⟨gF,0,none⟩=false:=frozen_of_row _ _ _ _ _ k9;have v4:W.frozen? ⟨gF,1,none⟩=false:=frozen_of_row _ _ _ _ _ k9;obtain⟨fuel,rfl⟩:∃q,fuel=q+1+1:=⟨fuel-2,by simp[cnt3] at hf;omega⟩
   clear k7 k8 k9 fin ih hz7 hz8 h7 h8;refine z_one (i:=13) (o:=⟨none,.store 32 (.tmp 15) (.tmp 111),0, "top.go:70",#[⟨11,.data⟩,⟨8,.data⟩,⟨6,.chain⟩,⟨0,.phase⟩,⟨1,.phase⟩,⟨2,.phase⟩,⟨3,.phase⟩,⟨4,.phase⟩,⟨5,.phase⟩,⟨6,.phase⟩,⟨7,.phase⟩,⟨8,.phase⟩,{ on:=9,ground:=Ground.textOnly Departure.lateStores },{ on:=10,ground:=Ground.textOnly Departure.lateStores },⟨11,.phase⟩,⟨12,.phase⟩],none⟩) (by kernel_rfl) rfl (fun K hK => ?_)
   go_simp
   refine hK.out _ _ (Or.inl (by kernel_rfl)) (fun hHeld => ?_)
   clear hK K;(try simp only[lsA,lsZ,lsS])
   refine z_one (i:=14) (o:=⟨none,.store 43 (.tmp 16) (.tmp 112),0, "top.go:70",#[⟨12,.data⟩,⟨9,.data⟩,⟨13,.chain⟩,⟨0,.phase⟩,⟨1,.phase⟩,⟨2,.phase⟩,⟨3,.phase⟩,⟨4,.phase⟩,⟨5,.phase⟩,⟨6,.phase⟩,⟨7,.phase⟩,⟨8,.phase⟩,⟨9,.phase⟩,{ on:=10,ground:=Ground.textOnly Departure.lateStores },⟨11,.phase⟩,⟨12,.phase⟩,⟨13,.phase⟩],none⟩) (by kernel_rfl) rfl (fun K hK => ?_)
   go_simp
   refine hK.out _ _ (Or.inl (by kernel_rfl)) (fun hHeld => ?_)
   clear hK K;(try simp only[lsA,lsZ,lsS])
   refine z_one (i:=15) (o:=⟨none,.store 26 (.tmp 9) (.tmp 113),0, "top.go:70",#[⟨10,.data⟩,⟨14,.chain⟩,⟨0,.phase⟩,⟨1,.phase⟩,⟨2,.phase⟩,⟨3,.phase⟩,⟨4,.phase⟩,⟨5,.phase⟩,⟨6,.phase⟩,⟨7,.phase⟩,⟨8,.phase⟩,⟨9,.phase⟩,⟨10,.phase⟩,⟨11,.phase⟩,⟨12,.phase⟩,⟨13,.phase⟩,⟨14,.phase⟩],none⟩) (by kernel_rfl) rfl (fun K hK => ?_)
   go_simp
   refine hK.out _ _ (Or.inl (by kernel_rfl)) (fun hHeld => ?_)
   clear hK K;(try simp only[lsA,lsZ,lsS])
   refine z_done (by kernel_rfl) ?_ _
   exact hfin
  ·refine z_mem (ur9_rd3 b7 b8) (by revert hall;cases b7<;>cases b8<;>simp) (fun i hi => ?_)
   rw[if_neg (by revert hall;cases b7<;>cases b8<;>simp)] at hi
   simp only[List.mem_append] at hi;rcases hi with hi | hi
   ·cases b7 with
    | true=>simp at hi
    | false =>
     obtain rfl:i=11:=by simpa using hi
     refine z_op (o:=⟨some 15,.alloc 32,0, "top.go:70",#[],none⟩) rfl (fun K hK => ?_)
     go_simp
     have hn:Below W.heap.size W (W.alloc (.cells #[.slice none 0 0,.slice none 0 0] 32)):=bA1 _ _;have hXn:=hX.trans (hn.mono hX.size);refine hK.out _ _ (Or.inr (hC _ hXn)) ?_;(try simp only[lsA,lsZ,lsS])
     exact ih true b8 (by revert hf;cases b8<;>simp[cnt3]<;>omega) _ s8 W.heap.size g8 gt V na nk nc la lk lc oa ol oc f1 f2 W0 _ hF (hb.trans (hn.mono hb.size)) hXn (AlF.new W hX.size _ _ _) (h8.below hn) hVX (fun _=>Or.inr hb.size) hz8
   ·cases b8 with
    | true=>simp at hi
    | false =>
     obtain rfl:i=12:=by simpa using hi
     refine z_op (o:=⟨some 16,.alloc 43,0, "top.go:70",#[],none⟩) rfl (fun K hK => ?_)
     go_simp
     have hn:Below W.heap.size W (W.alloc (.cells #[.slice none 0 0] 43)):=bA1 _ _;have hXn:=hX.trans (hn.mono hX.size);refine hK.out _ _ (Or.inr (hC _ hXn)) ?_;(try simp only[lsA,lsZ,lsS])
     exact ih b7 true (by revert hf;cases b7<;>simp[cnt3]<;>omega) s7 _ g7 W.heap.size gt V na nk nc la lk lc oa ol oc f1 f2 W0 _ hF (hb.trans (hn.mono hb.size)) hXn (h7.below hn) (AlF.new W hX.size _ _ _) hVX hz7 (fun _=>Or.inr hb.size)
include hQ hC hFt hP fin in
theorem ur9_2:∀(fuel:Nat) (b7 b8:Bool),8+cnt3 b7 b8 true≤fuel→∀(s7 s8:Value) (g7 g8:Nat) (gt:Nat) (W0 W:World),W0.heap[gt]?=some (.cells #[.int .i64 3,.int .i64 b,.int .i64 0,.int .i64 0,.int .i64 1,.int .i64 90,.int .i64 0,.int .i64 0] 47)→Below W0.heap.size W0 W→Below X.heap.size X W→AlF W X.heap.size b7 s7 g7 #[.slice none 0 0,.slice none 0 0] 32→AlF W X.heap.size b8 s8 g8 #[.slice none 0 0] 43→wpAnyZ Tryz.prog .any ur9_ops Q 13 (fun W=>W.cell? ⟨gM,0,none⟩=some nb∧W.cell? ⟨gM,1,none⟩=some nl∧W.cell? ⟨gT,0,none⟩=some tb) fuel #[true,true,true,true,true,true,false,false,false,false,false,b7,b8,false,false,false] { tmps:=#[x0,(.int .i64 b),x2,x3,x4,x5,x6,(.pointer (some ⟨gM,0,none⟩)),(.pointer (some ⟨gT,0,none⟩)),(.pointer (some ⟨gF,0,none⟩)),x10,x11,x12,x13,x14,s7,s8,x17,x18,x19,x20,x21,x22,x23,x24,x25,x26,x27,x28,x29,x30,x31,x32,x33,x34,x35,x36,x37,x38,x39,x40,x41,x42,x43,x44,x45,x46,x47,x48,x49,x50,x51,x52,x53,x54,x55,x56,x57,x58,x59,x60,x61,x62,x63,x64,x65,x66,x67,x68,x69,x70,x71,x72,x73,x74,x75,x76,x77,x78,x79,x80,x81,x82,x83,x84,x85,x86,x87,x88,x89,x90,x91,x92,x93,x94,x95,x96,x97,x98,x99,x100,x101,x102,x103,(.agg #[nb,nl]),(.agg #[tb]),(.int .i64 b),(.agg #[.int .i64 3,.int .i64 b,.int .i64 0,.int .i64 0]),(.agg #[.int .i64 1,.int .i64 90,.int .i64 0,.int .i64 0]),(.slice (some ⟨gt,0,none⟩) 2 2),x110,x111,x112,x113,x114,x115,x116,x117,x118,x119,x120,x121,x122,x123,x124,x125,x126,x127,x128,x129,x130,x131,x132,x133],defers:=df } W:=by
 intro fuel;induction fuel with
 | zero=>intro b7 b8 h;omega
 | succ fuel ih =>
  intro b7 b8 hf s7 s8 g7 g8 gt W0 W hF hb hX h7 h8;refine z_mem (ur9_rd2 b7 b8) (by simp) (fun i hi => ?_)
  simp only[List.mem_cons,List.mem_append] at hi;rcases hi with rfl | hi | hi
  ·refine z_op (o:=⟨some 110,.call { callee:=.value (.func 29),args:=#[.tmp 104,.tmp 105,.tmp 109],argTypes:=#[32,43,49] },44, "top.go:70",#[⟨0,.data⟩,⟨1,.data⟩,⟨5,.data⟩,⟨4,.chain⟩],none⟩) rfl (fun K hK => ?_)
   go_simp
   refine(hP W gt hX (two_do (keep hF hb))).mono ?_;rintro e w2 ⟨na,nk,nc,la,lk,lc,oa,ol,oc,f1,f2,rfl,H⟩;have hn:=H.out.1;have hXn:=hX.trans (hn.mono hX.size);refine hK.out _ _ (Or.inr (hC _ hXn)) ?_;(try simp only[lsA,lsZ,lsS])
   obtain⟨fuel,rfl⟩:∃q,fuel=q+1+1+1+1:=⟨fuel-4,by omega⟩
   refine z_take (i:=7) (oi:=⟨some 103,.move (.tmp 110),44, "top.go:70",#[⟨6,.data⟩],none⟩) (v := ?_) (some 103) rfl rfl (by cases b7<;>cases b8<;>kernel_rfl) (by cases b7<;>cases b8<;>kernel_rfl) (by cases b7<;>cases b8<;>kernel_rfl) (by decide) (fun c a w h=>hQ c a _ _ w h) (by rfl) ?_ (Or.inr (hC _ hXn)) ?_
   rotate_left 1
   ·(intro wq;go_simp;try with_reducible rfl)
   (try simp only[Act.put,lsA,lsZ,lsS])
   refine z_take (i:=8) (oi:=⟨some 111,.extract (.tmp 103) 0,32, "top.go:70",#[⟨7,.data⟩],none⟩) (v := ?_) (some 111) rfl rfl (by cases b7<;>cases b8<;>kernel_rfl) (by cases b7<;>cases b8<;>kernel_rfl) (by cases b7<;>cases b8<;>kernel_rfl) (by decide) (fun c a w h=>hQ c a _ _ w h) (by rfl) ?_ (Or.inr (hC _ hXn)) ?_
   rotate_left 1
   ·(intro wq;go_simp;try with_reducible rfl)
   (try simp only[Act.put,lsA,lsZ,lsS])
   refine z_take (i:=9) (oi:=⟨some 112,.extract (.tmp 103) 1,43, "top.go:70",#[⟨7,.data⟩,{ on:=13,ground:=Ground.gcOnly Departure.lateStores }],none⟩) (v := ?_) (some 112) rfl rfl (by cases b7<;>cases b8<;>kernel_rfl) (by cases b7<;>cases b8<;>kernel_rfl) (by cases b7<;>cases b8<;>kernel_rfl) (by decide) (fun c a w h=>hQ c a _ _ w h) (by rfl) ?_ (Or.inr (hC _ hXn)) ?_
   rotate_left 1
   ·(intro wq;go_simp;try with_reducible rfl)
   (try simp only[Act.put,lsA,lsZ,lsS])
   refine z_take (i:=10) (oi:=⟨some 113,.extract (.tmp 103) 2,26, "top.go:70",#[⟨7,.data⟩,{ on:=14,ground:=Ground.gcOnly Departure.lateStores }],none⟩) (v := ?_) (some 113) rfl rfl (by cases b7<;>cases b8<;>kernel_rfl) (by cases b7<;>cases b8<;>kernel_rfl) (by cases b7<;>cases b8<;>kernel_rfl) (by decide) (fun c a w h=>hQ c a _ _ w h) (by rfl) ?_ (Or.inr (hC _ hXn)) ?_
   rotate_left 1
   ·(intro wq;go_simp;try with_reducible rfl)
   (try simp only[Act.put,lsA,lsZ,lsS])
   exact ur9_3 df X gM gT gF nb nl tb p1 p2 b R x0 x2 x3 x4 x5 x6 x10 x11 x12 x13 x14 x17 x18 x19 x20 x21 x22 x23 x24 x25 x26 x27 x28 x29 x30 x31 x32 x33 x34 x35 x36 x37 x38 x39 x40 x41 x42 x43 x44 x45 x46 x47 x48 x49 x50 x51 x52 x53 x54 x55 x56 x57 x58 x59 x60 x61 x62 x63 x64 x65 x66 x67 x68 x69 x70 x71 x72 x73 x74 x75 x76 x77 x78 x79 x80 x81 x82 x83 x84 x85 x86 x87 x88 x89 x90 x91 x92 x93 x94 x95 x96 x97 x98 x99 x100 x101 x102 x114 x115 x116 x117 x118 x119 x120 x121 x122 x123 x124 x125 x126 x127 x128 x129 x130 x131 x132 x133 hC hFt fin fuel b7 b8 (by omega) s7 s8 g7 g8 gt W na nk nc la lk lc oa ol oc f1 f2 w2 w2 H.out.2 (Below.refl _ _) hXn (h7.below hn) (h8.below hn) hX.size (fun e=>Or.inl (lt_some (h7 e).2.1)) (fun e=>Or.inl (lt_some (h8 e).2.1))
  ·cases b7 with
   | true=>simp at hi
   | false =>
    obtain rfl:i=11:=by simpa using hi
    refine z_op (o:=⟨some 15,.alloc 32,0, "top.go:70",#[],none⟩) rfl (fun K hK => ?_)
    go_simp
    have hn:Below W.heap.size W (W.alloc (.cells #[.slice none 0 0,.slice none 0 0] 32)):=bA1 _ _;have hXn:=hX.trans (hn.mono hX.size);refine hK.out _ _ (Or.inr (hC _ hXn)) ?_;(try simp only[lsA,lsZ,lsS])
    exact ih true b8 (by revert hf;cases b8<;>simp[cnt3]<;>omega) _ s8 W.heap.size g8 gt W0 _ hF (hb.trans (hn.mono hb.size)) hXn (AlF.new W hX.size _ _ _) (h8.below hn)
  ·cases b8 with
   | true=>simp at hi
   | false =>
    obtain rfl:i=12:=by simpa using hi
    refine z_op (o:=⟨some 16,.alloc 43,0, "top.go:70",#[],none⟩) rfl (fun K hK => ?_)
    go_simp
    have hn:Below W.heap.size W (W.alloc (.cells #[.slice none 0 0] 43)):=bA1 _ _;have hXn:=hX.trans (hn.mono hX.size);refine hK.out _ _ (Or.inr (hC _ hXn)) ?_;(try simp only[lsA,lsZ,lsS])
    exact ih b7 true (by revert hf;cases b7<;>simp[cnt3]<;>omega) s7 _ g7 W.heap.size gt W0 _ hF (hb.trans (hn.mono hb.size)) hXn (h7.below hn) (AlF.new W hX.size _ _ _)
include hQ hC hFt hP fin in
theorem ur9_1:∀(fuel:Nat) (b7 b8:Bool),9+cnt3 b7 b8 true≤fuel→∀(s7 s8:Value) (g7 g8:Nat) (W0 W:World),True→Below W0.heap.size W0 W→Below X.heap.size X W→AlF W X.heap.size b7 s7 g7 #[.slice none 0 0,.slice none 0 0] 32→AlF W X.heap.size b8 s8 g8 #[.slice none 0 0] 43→wpAnyZ Tryz.prog .any ur9_ops Q 13 (fun W=>W.cell? ⟨gM,0,none⟩=some nb∧W.cell? ⟨gM,1,none⟩=some nl∧W.cell? ⟨gT,0,none⟩=some tb) fuel #[true,true,true,true,true,false,false,false,false,false,false,b7,b8,false,false,false] { tmps:=#[x0,(.int .i64 b),x2,x3,x4,x5,x6,(.pointer (some ⟨gM,0,none⟩)),(.pointer (some ⟨gT,0,none⟩)),(.pointer (some ⟨gF,0,none⟩)),x10,x11,x12,x13,x14,s7,s8,x17,x18,x19,x20,x21,x22,x23,x24,x25,x26,x27,x28,x29,x30,x31,x32,x33,x34,x35,x36,x37,x38,x39,x40,x41,x42,x43,x44,x45,x46,x47,x48,x49,x50,x51,x52,x53,x54,x55,x56,x57,x58,x59,x60,x61,x62,x63,x64,x65,x66,x67,x68,x69,x70,x71,x72,x73,x74,x75,x76,x77,x78,x79,x80,x81,x82,x83,x84,x85,x86,x87,x88,x89,x90,x91,x92,x93,x94,x95,x96,x97,x98,x99,x100,x101,x102,x103,(.agg #[nb,nl]),(.agg #[tb]),(.int .i64 b),(.agg #[.int .i64 3,.int .i64 b,.int .i64 0,.int .i64 0]),(.agg #[.int .i64 1,.int .i64 90,.int .i64 0,.int .i64 0]),x109,x110,x111,x112,x113,x114,x115,x116,x117,x118,x119,x120,x121,x122,x123,x124,x125,x126,x127,x128,x129,x130,x131,x132,x133],defers:=df } W:=by
 intro fuel;induction fuel with
 | zero=>intro b7 b8 h;omega
 | succ fuel ih =>
  intro b7 b8 hf s7 s8 g7 g8 W0 W hF hb hX h7 h8;refine z_mem (ur9_rd1 b7 b8) (by simp) (fun i hi => ?_)
  simp only[List.mem_cons,List.mem_append] at hi;rcases hi with rfl | hi | hi
  ·refine z_op (o:=⟨some 109,.buildSlice 49 2 #[(0,.tmp 107),(1,.tmp 108)],49, "top.go:70",#[⟨3,.data⟩,⟨4,.data⟩],none⟩) rfl (fun K hK => ?_)
   go_simp
   have hn:Below W.heap.size W (W.alloc (.cells #[.int .i64 3,.int .i64 b,.int .i64 0,.int .i64 0,.int .i64 1,.int .i64 90,.int .i64 0,.int .i64 0] 47)):=bA1 _ _;have hXn:=hX.trans (hn.mono hX.size);refine hK.out _ _ (Or.inr (hC _ hXn)) ?_;(try simp only[lsA,lsZ,lsS])
   exact ur9_2 df X gM gT gF nb nl tb p1 p2 b R x0 x2 x3 x4 x5 x6 x10 x11 x12 x13 x14 x17 x18 x19 x20 x21 x22 x23 x24 x25 x26 x27 x28 x29 x30 x31 x32 x33 x34 x35 x36 x37 x38 x39 x40 x41 x42 x43 x44 x45 x46 x47 x48 x49 x50 x51 x52 x53 x54 x55 x56 x57 x58 x59 x60 x61 x62 x63 x64 x65 x66 x67 x68 x69 x70 x71 x72 x73 x74 x75 x76 x77 x78 x79 x80 x81 x82 x83 x84 x85 x86 x87 x88 x89 x90 x91 x92 x93 x94 x95 x96 x97 x98 x99 x100 x101 x102 x103 x110 x111 x112 x113 x114 x115 x116 x117 x118 x119 x120 x121 x122 x123 x124 x125 x126 x127 x128 x129 x130 x131 x132 x133 hQ hC hFt hP fin fuel b7 b8 (by omega) s7 s8 g7 g8 W.heap.size _ _ (heap_alloc_last _ _) (Below.refl _ _) hXn (h7.below hn) (h8.below hn)
  ·cases b7 with
   | true=>simp at hi
   | false =>
    obtain rfl:i=11:=by simpa using hi
    refine z_op (o:=⟨some 15,.alloc 32,0, "top.go:70",#[],none⟩) rfl (fun K hK => ?_)
    go_simp
    have hn:Below W.heap.size W (W.alloc (.cells #[.slice none 0 0,.slice none 0 0] 32)):=bA1 _ _;have hXn:=hX.trans (hn.mono hX.size);refine hK.out _ _ (Or.inr (hC _ hXn)) ?_;(try simp only[lsA,lsZ,lsS])
    exact ih true b8 (by revert hf;cases b8<;>simp[cnt3]<;>omega) _ s8 W.heap.size g8 W0 _ hF (hb.trans (hn.mono hb.size)) hXn (AlF.new W hX.size _ _ _) (h8.below hn)
  ·cases b8 with
   | true=>simp at hi
   | false =>
    obtain rfl:i=12:=by simpa using hi
    refine z_op (o:=⟨some 16,.alloc 43,0, "top.go:70",#[],none⟩) rfl (fun K hK => ?_)
    go_simp
    have hn:Below W.heap.size W (W.alloc (.cells #[.slice none 0 0] 43)):=bA1 _ _;have hXn:=hX.trans (hn.mono hX.size);refine hK.out _ _ (Or.inr (hC _ hXn)) ?_;(try simp only[lsA,lsZ,lsS])
    exact ih b7 true (by revert hf;cases b7<;>simp[cnt3]<;>omega) s7 _ g7 W.heap.size W0 _ hF (hb.trans (hn.mono hb.size)) hXn (h7.below hn) (AlF.new W hX.size _ _ _)
include hQ hC hFt hT hP fin in
theorem ur9_0:∀(fuel:Nat) (b7 b8:Bool),10+cnt3 b7 b8 true≤fuel→∀(s7 s8:Value) (g7 g8:Nat) (W0 W:World),True→Below W0.heap.size W0 W→Below X.heap.size X W→AlF W X.heap.size b7 s7 g7 #[.slice none 0 0,.slice none 0 0] 32→AlF W X.heap.size b8 s8 g8 #[.slice none 0 0] 43→wpAnyZ Tryz.prog .any ur9_ops Q 13 (fun W=>W.cell? ⟨gM,0,none⟩=some nb∧W.cell? ⟨gM,1,none⟩=some nl∧W.cell? ⟨gT,0,none⟩=some tb) fuel #[true,true,true,true,false,false,false,false,false,false,false,b7,b8,false,false,false] { tmps:=#[x0,(.int .i64 b),x2,x3,x4,x5,x6,(.pointer (some ⟨gM,0,none⟩)),(.pointer (some ⟨gT,0,none⟩)),(.pointer (some ⟨gF,0,none⟩)),x10,x11,x12,x13,x14,s7,s8,x17,x18,x19,x20,x21,x22,x23,x24,x25,x26,x27,x28,x29,x30,x31,x32,x33,x34,x35,x36,x37,x38,x39,x40,x41,x42,x43,x44,x45,x46,x47,x48,x49,x50,x51,x52,x53,x54,x55,x56,x57,x58,x59,x60,x61,x62,x63,x64,x65,x66,x67,x68,x69,x70,x71,x72,x73,x74,x75,x76,x77,x78,x79,x80,x81,x82,x83,x84,x85,x86,x87,x88,x89,x90,x91,x92,x93,x94,x95,x96,x97,x98,x99,x100,x101,x102,x103,(.agg #[nb,nl]),(.agg #[tb]),(.int .i64 b),(.agg #[.int .i64 3,.int .i64 b,.int .i64 0,.int .i64 0]),x108,x109,x110,x111,x112,x113,x114,x115,x116,x117,x118,x119,x120,x121,x122,x123,x124,x125,x126,x127,x128,x129,x130,x131,x132,x133],defers:=df } W:=by
 intro fuel;induction fuel with
 | zero=>intro b7 b8 h;omega
 | succ fuel ih =>
  intro b7 b8 hf s7 s8 g7 g8 W0 W hF hb hX h7 h8;refine z_mem (ur9_rd0 b7 b8) (by simp) (fun i hi => ?_)
  simp only[List.mem_cons,List.mem_append] at hi;rcases hi with rfl | hi | hi
  ·refine z_op (o:=⟨some 108,.call { callee:=.value (.func 16),args:=#[.const (.int .i64 90)],argTypes:=#[3] },47, "top.go:70",#[],none⟩) rfl (fun K hK => ?_)
   go_simp
   refine(hT W).mono ?_;rintro e w2 ⟨rfl,hn⟩;have hXn:=hX.trans (hn.mono hX.size);refine hK.out _ _ (Or.inr (hC _ hXn)) ?_;(try simp only[lsA,lsZ,lsS])
   exact ur9_1 df X gM gT gF nb nl tb p1 p2 b R x0 x2 x3 x4 x5 x6 x10 x11 x12 x13 x14 x17 x18 x19 x20 x21 x22 x23 x24 x25 x26 x27 x28 x29 x30 x31 x32 x33 x34 x35 x36 x37 x38 x39 x40 x41 x42 x43 x44 x45 x46 x47 x48 x49 x50 x51 x52 x53 x54 x55 x56 x57 x58 x59 x60 x61 x62 x63 x64 x65 x66 x67 x68 x69 x70 x71 x72 x73 x74 x75 x76 x77 x78 x79 x80 x81 x82 x83 x84 x85 x86 x87 x88 x89 x90 x91 x92 x93 x94 x95 x96 x97 x98 x99 x100 x101 x102 x103 x109 x110 x111 x112 x113 x114 x115 x116 x117 x118 x119 x120 x121 x122 x123 x124 x125 x126 x127 x128 x129 x130 x131 x132 x133 hQ hC hFt hP fin fuel b7 b8 (by omega) s7 s8 g7 g8 w2 w2 trivial (Below.refl _ _) hXn (h7.below hn) (h8.below hn)
  ·cases b7 with
   | true=>simp at hi
   | false =>
    obtain rfl:i=11:=by simpa using hi
    refine z_op (o:=⟨some 15,.alloc 32,0, "top.go:70",#[],none⟩) rfl (fun K hK => ?_)
    go_simp
    have hn:Below W.heap.size W (W.alloc (.cells #[.slice none 0 0,.slice none 0 0] 32)):=bA1 _ _;have hXn:=hX.trans (hn.mono hX.size);refine hK.out _ _ (Or.inr (hC _ hXn)) ?_;(try simp only[lsA,lsZ,lsS])
    exact ih true b8 (by revert hf;cases b8<;>simp[cnt3]<;>omega) _ s8 W.heap.size g8 W0 _ hF (hb.trans (hn.mono hb.size)) hXn (AlF.new W hX.size _ _ _) (h8.below hn)
  ·cases b8 with
   | true=>simp at hi
   | false =>
    obtain rfl:i=12:=by simpa using hi
    refine z_op (o:=⟨some 16,.alloc 43,0, "top.go:70",#[],none⟩) rfl (fun K hK => ?_)
    go_simp
    have hn:Below W.heap.size W (W.alloc (.cells #[.slice none 0 0] 43)):=bA1 _ _;have hXn:=hX.trans (hn.mono hX.size);refine hK.out _ _ (Or.inr (hC _ hXn)) ?_;(try simp only[lsA,lsZ,lsS])
    exact ih b7 true (by revert hf;cases b7<;>simp[cnt3]<;>omega) s7 _ g7 W.heap.size W0 _ hF (hb.trans (hn.mono hb.size)) hXn (h7.below hn) (AlF.new W hX.size _ _ _)
include hQ hC hFt hT hP fin in
theorem ur9 (x15 x16 x104 x105 x106 x107:Value):(Code.region 16 ur9_ops true).wp Tryz.prog Q { tmps:=#[x0,(.int .i64 b),x2,x3,x4,x5,x6,(.pointer (some ⟨gM,0,none⟩)),(.pointer (some ⟨gT,0,none⟩)),(.pointer (some ⟨gF,0,none⟩)),x10,x11,x12,x13,x14,x15,x16,x17,x18,x19,x20,x21,x22,x23,x24,x25,x26,x27,x28,x29,x30,x31,x32,x33,x34,x35,x36,x37,x38,x39,x40,x41,x42,x43,x44,x45,x46,x47,x48,x49,x50,x51,x52,x53,x54,x55,x56,x57,x58,x59,x60,x61,x62,x63,x64,x65,x66,x67,x68,x69,x70,x71,x72,x73,x74,x75,x76,x77,x78,x79,x80,x81,x82,x83,x84,x85,x86,x87,x88,x89,x90,x91,x92,x93,x94,x95,x96,x97,x98,x99,x100,x101,x102,x103,x104,x105,x106,x107,x108,x109,x110,x111,x112,x113,x114,x115,x116,x117,x118,x119,x120,x121,x122,x123,x124,x125,x126,x127,x128,x129,x130,x131,x132,x133],defers:=df } X:=by
 have hXd:Below X.heap.size X X.drew:=Below.drew (Below.refl _ _);refine wp_region_z (z:=13) (C:=fun W=>W.cell? ⟨gM,0,none⟩=some nb∧W.cell? ⟨gM,1,none⟩=some nl∧W.cell? ⟨gT,0,none⟩=some tb) (by kernel_rfl) (hC _ hXd) (fun hHeld => ?_)
 refine z_load (i:=0) (oi:=⟨some 104,.load 32 (.tmp 7),32, "top.go:70",#[],none⟩) (v := ?_) (some 104) rfl rfl (by kernel_rfl) (by kernel_rfl) (by kernel_rfl) (by kernel_rfl) (fun c a w h=>hQ c a _ _ w h) (by rfl) ?_ hHeld ?_
 rotate_left 1
 ·(intro wq hSw;go_simp;try with_reducible rfl)
 (try simp only[Act.put,lsA,lsZ,lsS])
 refine z_load (i:=1) (oi:=⟨some 105,.load 43 (.tmp 8),43, "top.go:70",#[],none⟩) (v := ?_) (some 105) rfl rfl (by kernel_rfl) (by kernel_rfl) (by kernel_rfl) (by kernel_rfl) (fun c a w h=>hQ c a _ _ w h) (by rfl) ?_ hHeld ?_
 rotate_left 1
 ·(intro wq hSw;go_simp;try with_reducible rfl)
 (try simp only[Act.put,lsA,lsZ,lsS])
 refine z_take (i:=2) (oi:=⟨some 106,.move (.tmp 1),3, "top.go:70",#[],none⟩) (v := ?_) (some 106) rfl rfl (by kernel_rfl) (by kernel_rfl) (by kernel_rfl) (by decide) (fun c a w h=>hQ c a _ _ w h) (by rfl) ?_ hHeld ?_
 rotate_left 1
 ·(intro wq;go_simp;try with_reducible rfl)
 (try simp only[Act.put,lsA,lsZ,lsS])
 refine z_take (i:=3) (oi:=⟨some 107,.build 47 #[(0,.const (.int .i64 3)),(1,.tmp 106)],47, "top.go:70",#[⟨2,.data⟩],none⟩) (v := ?_) (some 107) rfl rfl (by kernel_rfl) (by kernel_rfl) (by kernel_rfl) (by decide) (fun c a w h=>hQ c a _ _ w h) (by rfl) ?_ hHeld ?_
 rotate_left 1
 ·(intro wq;go_simp;try with_reducible rfl)
 (try simp only[Act.put,lsA,lsZ,lsS])
 exact ur9_0 df X gM gT gF nb nl tb p1 p2 b R x0 x2 x3 x4 x5 x6 x10 x11 x12 x13 x14 x17 x18 x19 x20 x21 x22 x23 x24 x25 x26 x27 x28 x29 x30 x31 x32 x33 x34 x35 x36 x37 x38 x39 x40 x41 x42 x43 x44 x45 x46 x47 x48 x49 x50 x51 x52 x53 x54 x55 x56 x57 x58 x59 x60 x61 x62 x63 x64 x65 x66 x67 x68 x69 x70 x71 x72 x73 x74 x75 x76 x77 x78 x79 x80 x81 x82 x83 x84 x85 x86 x87 x88 x89 x90 x91 x92 x93 x94 x95 x96 x97 x98 x99 x100 x101 x102 x103 x108 x109 x110 x111 x112 x113 x114 x115 x116 x117 x118 x119 x120 x121 x122 x123 x124 x125 x126 x127 x128 x129 x130 x131 x132 x133 hQ hC hFt hT hP fin _ false false (by simp[cnt3]) _ _ 0 0 X _ trivial hXd hXd (fun e=>by cases e) (fun e=>by cases e)
end
end
end Go.Proofs.YtflghpnpjmodaaaGreatDoor
