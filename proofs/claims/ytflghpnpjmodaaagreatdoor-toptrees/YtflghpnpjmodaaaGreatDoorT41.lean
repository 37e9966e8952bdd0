/- TopTrees: the region with Play -/
import Derived.Test.YtflghpnpjmodaaaGreatDoorT26
set_option maxRecDepth 100000
set_option maxHeartbeats 6000000
namespace Go.Proofs.YtflghpnpjmodaaaGreatDoor
section
open Go.RowKit
open Tk (Dn)
section
variable {Q:Exit→Act→World→Prop}(df:List Deferred) (X:World) (BN:Nat) (nb nl:Value)
variable (R:World→World→Option Addr→Nat→Nat→Option Addr→Nat→Nat→Option Addr→Nat→Nat→Int→Int→Prop)
variable (x0 x1 x2 x3 x4 x5 x6 x8 xc xd xe xf xg xh xi xj xl xm xn xp xq xr xs xu xv xw xx xy xz z0 z1 z2 z3 z4 z5 z6 z7 z8 z9 za zb zc zd ze zf zg zh zi zj zl zm zn zp zq zr zs zu zv zw zx zy zz t0 t1 t2 t3 t5 t6 t7 t8 t9 ta tb tc td te tf tg th ti tj tl tm tn tp tq tr ts tu tv tw tx ty tz v0 v1 v2 v3 v4 v5 v6 v7 v8 v9 va vb vc vd ve vf vg vh vi vj vl vm vn vp vq vr vs vu vv vw vx vy vz p0 p1 p2 p3 p4 p5 p6 p7 p8 p9 pa pb pc pd pe pf:Value)
def ur10_ops:Array Oper:=#[⟨some 70,.load 32 (.tmp 7),32, "top.go:161",#[],none⟩,⟨some 71,.call { callee:=.value (.func 16),args:=#[.const (.int .i64 90)],argTypes:=#[3] },47, "top.go:161",#[],none⟩,⟨some 72,.buildSlice 49 1 #[(0,.tmp 71)],49, "top.go:161",#[⟨1,.data⟩],none⟩,⟨some 73,.call { callee:=.value (.func 15),args:=#[.tmp 70,.const (.int .i64 2),.tmp 72],argTypes:=#[32,3,49] },44, "top.go:161",#[⟨0,.data⟩,⟨2,.data⟩,⟨1,.chain⟩],none⟩,⟨some 69,.move (.tmp 73),44, "top.go:161",#[⟨3,.data⟩],none⟩,⟨some 74,.extract (.tmp 69) 0,32, "top.go:161",#[⟨4,.data⟩],none⟩,⟨some 75,.extract (.tmp 69) 1,43, "top.go:161",#[⟨4,.data⟩,{ on:=11,ground:=Ground.gcOnly Departure.lateStores }],none⟩,⟨some 76,.extract (.tmp 69) 2,26, "top.go:161",#[⟨4,.data⟩,{ on:=12,ground:=Ground.gcOnly Departure.lateStores }],none⟩,⟨some 9,.alloc 32,0, "top.go:161",#[],none⟩,⟨some 10,.alloc 43,0, "top.go:161",#[],none⟩,⟨some 11,.alloc 26,0, "top.go:161",#[],none⟩,⟨none,.store 32 (.tmp 9) (.tmp 74),0, "top.go:161",#[⟨8,.data⟩,⟨5,.data⟩,⟨3,.chain⟩,⟨0,.phase⟩,⟨1,.phase⟩,⟨2,.phase⟩,⟨3,.phase⟩,⟨4,.phase⟩,⟨5,.phase⟩,{ on:=6,ground:=Ground.textOnly Departure.lateStores },{ on:=7,ground:=Ground.textOnly Departure.lateStores },⟨8,.phase⟩,⟨9,.phase⟩,⟨10,.phase⟩],none⟩,⟨none,.store 43 (.tmp 10) (.tmp 75),0, "top.go:161",#[⟨9,.data⟩,⟨6,.data⟩,⟨11,.chain⟩,⟨0,.phase⟩,⟨1,.phase⟩,⟨2,.phase⟩,⟨3,.phase⟩,⟨4,.phase⟩,⟨5,.phase⟩,⟨6,.phase⟩,{ on:=7,ground:=Ground.textOnly Departure.lateStores },⟨8,.phase⟩,⟨9,.phase⟩,⟨10,.phase⟩,⟨11,.phase⟩],none⟩,⟨none,.store 26 (.tmp 11) (.tmp 76),0, "top.go:161",#[⟨10,.data⟩,⟨7,.data⟩,⟨12,.chain⟩,⟨0,.phase⟩,⟨1,.phase⟩,⟨2,.phase⟩,⟨3,.phase⟩,⟨4,.phase⟩,⟨5,.phase⟩,⟨6,.phase⟩,⟨7,.phase⟩,⟨8,.phase⟩,⟨9,.phase⟩,⟨10,.phase⟩,⟨11,.phase⟩,⟨12,.phase⟩],none⟩]
variable (hQ:∀c (a:Act) (d:Tmp) (v:Value) (w:World),Q (.panic c) (a.put (some d) v) w→Q (.panic c) a w)
variable (hC:∀V,Bl X V→V.cell? ⟨BN,0,none⟩=some nb∧V.cell? ⟨BN,1,none⟩=some nl)
variable (hT:∀V tk,Calls Tryz.prog 16 #[.int .i64 tk] V fun e w'=>e=.returned (.agg #[.int .i64 1,.int .i64 tk,.int .i64 0,.int .i64 0])∧Bl V w')
variable (hP:∀V g,Bl X V→V.heap[g]?=some (.cells #[.int .i64 1,.int .i64 90,.int .i64 0,.int .i64 0] 47)→Calls Tryz.prog 15 #[.agg #[nb,nl],.int .i64 2,.slice (some ⟨g,0,none⟩) 1 1] V fun e w'=>∃na nk nc la lk lc oa ol oc f1 f2,e=.returned (.tuple #[.agg #[.slice na nk nc,.slice la lk lc],.agg #[.slice oa ol oc],.agg #[.int .i64 f1,.int .i64 f2]])∧Hid (Bl V w'∧R V w' na nk nc la lk lc oa ol oc f1 f2))
variable (fin:∀(gt:Nat) (V:World) (na:Option Addr) (nk nc:Nat) (la:Option Addr) (lk lc:Nat) (oa:Option Addr) (ol oc:Nat) (f1 f2:Int) (g7 g8 g9:Nat) (W0 W:World),R V W0 na nk nc la lk lc oa ol oc f1 f2→Bl W0 W→Bl X W→(W.heap[g7]?=some (.cells #[.slice none 0 0,.slice none 0 0] 32)∧W.heap[g8]?=some (.cells #[.slice none 0 0] 43)∧W.heap[g9]?=some (.cells #[.int .i64 0,.int .i64 0] 26))→(X.heap.size≤g7∧X.heap.size≤g8∧X.heap.size≤g9)→((g7<V.heap.size∨W0.heap.size≤g7)∧(g8<V.heap.size∨W0.heap.size≤g8)∧(g9<V.heap.size∨W0.heap.size≤g9))→Q .normal { tmps:=#[x0,x1,x2,x3,x4,x5,x6,(.pointer (some ⟨BN,0,none⟩)),x8,(.pointer (some ⟨g7,0,none⟩)),(.pointer (some ⟨g8,0,none⟩)),(.pointer (some ⟨g9,0,none⟩)),xc,xd,xe,xf,xg,xh,xi,xj,xl,xm,xn,xp,xq,xr,xs,xu,xv,xw,xx,xy,xz,z0,z1,z2,z3,z4,z5,z6,z7,z8,z9,za,zb,zc,zd,ze,zf,zg,zh,zi,zj,zl,zm,zn,zp,zq,zr,zs,zu,zv,zw,zx,zy,zz,t0,t1,t2,(.tuple #[.agg #[.slice na nk nc,.slice la lk lc],.agg #[.slice oa ol oc],.agg #[.int .i64 f1,.int .i64 f2]]),(.agg #[nb,nl]),(.agg #[.int .i64 1,.int .i64 90,.int .i64 0,.int .i64 0]),(.slice (some ⟨gt,0,none⟩) 1 1),(.tuple #[.agg #[.slice na nk nc,.slice la lk lc],.agg #[.slice oa ol oc],.agg #[.int .i64 f1,.int .i64 f2]]),(.agg #[.slice na nk nc,.slice la lk lc]),(.agg #[.slice oa ol oc]),(.agg #[.int .i64 f1,.int .i64 f2]),tb,tc,td,te,tf,tg,th,ti,tj,tl,tm,tn,tp,tq,tr,ts,tu,tv,tw,tx,ty,tz,v0,v1,v2,v3,v4,v5,v6,v7,v8,v9,va,vb,vc,vd,ve,vf,vg,vh,vi,vj,vl,vm,vn,vp,vq,vr,vs,vu,vv,vw,vx,vy,vz,p0,p1,p2,p3,p4,p5,p6,p7,p8,p9,pa,pb,pc,pd,pe,pf],defers:=df } (((((W.setCell ⟨g7,0,none⟩ (.slice na nk nc)).setCell ⟨g7,1,none⟩ (.slice la lk lc)).setCell ⟨g8,0,none⟩ (.slice oa ol oc)).setCell ⟨g9,0,none⟩ (.int .i64 f1)).setCell ⟨g9,1,none⟩ (.int .i64 f2)))
set_option maxRecDepth 100000
theorem ur10_rd0 (b7 b8 b9:Bool):Region.ready .any ur10_ops #[true,false,false,false,false,false,false,false,b7,b8,b9,false,false,false]=(1 :: ((if b7 then [] else [8])++((if b8 then [] else [9])++(if b9 then [] else [10]))):List Nat):=by
 cases b7<;>cases b8<;>cases b9<;>kernel_rfl
theorem ur10_rd1 (b7 b8 b9:Bool):Region.ready .any ur10_ops #[true,true,false,false,false,false,false,false,b7,b8,b9,false,false,false]=(2 :: ((if b7 then [] else [8])++((if b8 then [] else [9])++(if b9 then [] else [10]))):List Nat):=by
 cases b7<;>cases b8<;>cases b9<;>kernel_rfl
theorem ur10_rd2 (b7 b8 b9:Bool):Region.ready .any ur10_ops #[true,true,true,false,false,false,false,false,b7,b8,b9,false,false,false]=(3 :: ((if b7 then [] else [8])++((if b8 then [] else [9])++(if b9 then [] else [10]))):List Nat):=by
 cases b7<;>cases b8<;>cases b9<;>kernel_rfl
theorem ur10_rd3 (b7 b8 b9:Bool):Region.ready .any ur10_ops #[true,true,true,true,true,true,true,true,b7,b8,b9,false,false,false]=(if (b7&&(b8&&b9))=true then [11] else(if b7 then [] else [8])++((if b8 then [] else [9])++(if b9 then [] else [10])):List Nat):=by
 cases b7<;>cases b8<;>cases b9<;>kernel_rfl
include hC fin in
theorem ur10_3:∀(fuel:Nat) (b7 b8 b9:Bool),3+cnt3 b7 b8 b9≤fuel→∀(s7 s8 s9:Value) (g7 g8 g9:Nat) (gt:Nat) (V:World) (na:Option Addr) (nk nc:Nat) (la:Option Addr) (lk lc:Nat) (oa:Option Addr) (ol oc:Nat) (f1 f2:Int) (W0 W:World),R V W0 na nk nc la lk lc oa ol oc f1 f2→Bl W0 W→Bl X W→AlF W X.heap.size b7 s7 g7 #[.slice none 0 0,.slice none 0 0] 32→AlF W X.heap.size b8 s8 g8 #[.slice none 0 0] 43→AlF W X.heap.size b9 s9 g9 #[.int .i64 0,.int .i64 0] 26→(b7=true→g7<V.heap.size∨W0.heap.size≤g7)→(b8=true→g8<V.heap.size∨W0.heap.size≤g8)→(b9=true→g9<V.heap.size∨W0.heap.size≤g9)→wpAnyZ Tryz.prog .any ur10_ops Q 11 (fun W=>W.cell? ⟨BN,0,none⟩=some nb∧W.cell? ⟨BN,1,none⟩=some nl) fuel #[true,true,true,true,true,true,true,true,b7,b8,b9,false,false,false] { tmps:=#[x0,x1,x2,x3,x4,x5,x6,(.pointer (some ⟨BN,0,none⟩)),x8,s7,s8,s9,xc,xd,xe,xf,xg,xh,xi,xj,xl,xm,xn,xp,xq,xr,xs,xu,xv,xw,xx,xy,xz,z0,z1,z2,z3,z4,z5,z6,z7,z8,z9,za,zb,zc,zd,ze,zf,zg,zh,zi,zj,zl,zm,zn,zp,zq,zr,zs,zu,zv,zw,zx,zy,zz,t0,t1,t2,(.tuple #[.agg #[.slice na nk nc,.slice la lk lc],.agg #[.slice oa ol oc],.agg #[.int .i64 f1,.int .i64 f2]]),(.agg #[nb,nl]),(.agg #[.int .i64 1,.int .i64 90,.int .i64 0,.int .i64 0]),(.slice (some ⟨gt,0,none⟩) 1 1),(.tuple #[.agg #[.slice na nk nc,.slice la lk lc],.agg #[.slice oa ol oc],.agg #[.int .i64 f1,.int .i64 f2]]),(.agg #[.slice na nk nc,.slice la lk lc]),(.agg #[.slice oa ol oc]),(.agg #[.int .i64 f1,.int .i64 f2]),tb,tc,td,te,tf,tg,th,ti,tj,tl,tm,tn,tp,tq,tr,ts,tu,tv,tw,tx,ty,tz,v0,v1,v2,v3,v4,v5,v6,v7,v8,v9,va,vb,vc,vd,ve,vf,vg,vh,vi,vj,vl,vm,vn,vp,vq,vr,vs,vu,vv,vw,vx,vy,vz,p0,p1,p2,p3,p4,p5,p6,p7,p8,p9,pa,pb,pc,pd,pe,pf],defers:=df } W:=by
 intro fuel;induction fuel with
 | zero=>intro b7 b8 b9 h;omega
 | succ fuel ih =>
  intro b7 b8 b9 hf s7 s8 s9 g7 g8 g9 gt V na nk nc la lk lc oa ol oc f1 f2 W0 W hF hb hX h7 h8 h9 hz7 hz8 hz9;have hHeld:(#[true,true,true,true,true,true,true,true,b7,b8,b9,false,false,false]:Array Bool).getD 11 true=true∨(fun W=>W.cell? ⟨BN,0,none⟩=some nb∧W.cell? ⟨BN,1,none⟩=some nl) W:=Or.inr (hC W hX);by_cases hall:b7=true∧b8=true∧b9=true
  ·obtain⟨rfl,rfl,rfl⟩:=hall;obtain⟨rfl,k7,l7⟩:=h7 rfl;obtain⟨rfl,k8,l8⟩:=h8 rfl;obtain⟨rfl,k9,l9⟩:=h9 rfl;have hfin:=fin gt V na nk nc la lk lc oa ol oc f1 f2 g7 g8 g9 W0 W hF hb hX ⟨k7,k8,k9⟩ ⟨l7,l8,l9⟩ ⟨hz7 rfl,hz8 rfl,hz9 rfl⟩;have n78:g7≠g8:=fun e=>by subst e;exact absurd (cells_type k7 k8) (by decide)
   have n79:g7≠g9:=fun e=>by subst e;exact absurd (cells_type k7 k9) (by decide)
   have n89:g8≠g9:=fun e=>by subst e;exact absurd (cells_type k8 k9) (by decide)
   have n87:=n78.symm;have n97:=n79.symm;have n98:=n89.symm;obtain⟨u0,u1⟩:=tC2 k7;have u2:=one_cell k8;obtain⟨u3,u4⟩:=tC2 k9;have v0:W.frozen? ⟨g7,0,none⟩=false:=frozen_of_row _ _ _ _ _ k7;have v1:W.frozen? ⟨g7,1,none⟩=false:=frozen_of_row _ _ _ _ _ k7;have v2:W.frozen? ⟨g8,0,none⟩=false:=frozen_of_row _ _ _ _ _ k8;have v3:W.frozen? ⟨g9,0,none⟩=false:=frozen_of_row _ _ _ _ _ k9;have v4:W.frozen? ⟨g9,1,none⟩=false:=frozen_of_row _ _ _ _ _ k9;obtain⟨fuel,rfl⟩:∃q,fuel=q+1+1:=⟨fuel-2,by simp[cnt3] at hf;omega⟩
   clear k7 k8 k9 fin ih hz7 hz8 hz9 h7 h8 h9;refine z_one (i:=11) (o:=⟨none,.store 32 (.tmp 9) (.tmp 74),0, "top.go:161",#[⟨8,.data⟩,⟨5,.data⟩,⟨3,.chain⟩,⟨0,.phase⟩,⟨1,.phase⟩,⟨2,.phase⟩,⟨3,.phase⟩,⟨4,.phase⟩,⟨5,.phase⟩,{ on:=6,ground:=Ground.textOnly Departure.lateStores },{ on:=7,ground:=Ground.textOnly Departure.lateStores },⟨8,.phase⟩,⟨9,.phase⟩,⟨10,.phase⟩],none⟩) (by kernel_rfl) rfl (fun K hK => ?_);go_simp;refine hK.out _ _ (Or.inl (by kernel_rfl)) (fun hHeld => ?_);clear hK K;(try simp only[lsA,lsZ,lsS])
   refine z_one (i:=12) (o:=⟨none,.store 43 (.tmp 10) (.tmp 75),0, "top.go:161",#[⟨9,.data⟩,⟨6,.data⟩,⟨11,.chain⟩,⟨0,.phase⟩,⟨1,.phase⟩,⟨2,.phase⟩,⟨3,.phase⟩,⟨4,.phase⟩,⟨5,.phase⟩,⟨6,.phase⟩,{ on:=7,ground:=Ground.textOnly Departure.lateStores },⟨8,.phase⟩,⟨9,.phase⟩,⟨10,.phase⟩,⟨11,.phase⟩],none⟩) (by kernel_rfl) rfl (fun K hK => ?_);go_simp;refine hK.out _ _ (Or.inl (by kernel_rfl)) (fun hHeld => ?_);clear hK K;(try simp only[lsA,lsZ,lsS])
   refine z_one (i:=13) (o:=⟨none,.store 26 (.tmp 11) (.tmp 76),0, "top.go:161",#[⟨10,.data⟩,⟨7,.data⟩,⟨12,.chain⟩,⟨0,.phase⟩,⟨1,.phase⟩,⟨2,.phase⟩,⟨3,.phase⟩,⟨4,.phase⟩,⟨5,.phase⟩,⟨6,.phase⟩,⟨7,.phase⟩,⟨8,.phase⟩,⟨9,.phase⟩,⟨10,.phase⟩,⟨11,.phase⟩,⟨12,.phase⟩],none⟩) (by kernel_rfl) rfl (fun K hK => ?_);go_simp;refine hK.out _ _ (Or.inl (by kernel_rfl)) (fun hHeld => ?_);clear hK K;(try simp only[lsA,lsZ,lsS])
   refine z_done (by kernel_rfl) ?_ _;exact hfin
  ·refine z_mem (ur10_rd3 b7 b8 b9) (by revert hall;cases b7<;>cases b8<;>cases b9<;>simp) (fun i hi => ?_);rw[if_neg (by revert hall;cases b7<;>cases b8<;>cases b9<;>simp)] at hi;simp only[List.mem_append] at hi;rcases hi with hi | hi | hi
   ·cases b7 with
    | true=>simp at hi
    | false =>
     obtain rfl:i=8:=by simpa using hi
     refine z_op (o:=⟨some 9,.alloc 32,0, "top.go:161",#[],none⟩) rfl (fun K hK => ?_);go_simp;have hn:Bl W (W.alloc (.cells #[.slice none 0 0,.slice none 0 0] 32)):=bA1 _ _;have hXn:=hX.trans (hn.mono hX.size);refine hK.out _ _ (Or.inr (hC _ hXn)) ?_;(try simp only[lsA,lsZ,lsS])
     exact ih true b8 b9 (by revert hf;cases b8<;>cases b9<;>simp[cnt3]<;>omega) _ s8 s9 W.heap.size g8 g9 gt V na nk nc la lk lc oa ol oc f1 f2 W0 _ hF (hb.trans (hn.mono hb.size)) hXn (AlF.new W hX.size _ _ _) (h8.below hn) (h9.below hn) (fun _=>Or.inr hb.size) hz8 hz9
   ·cases b8 with
    | true=>simp at hi
    | false =>
     obtain rfl:i=9:=by simpa using hi
     refine z_op (o:=⟨some 10,.alloc 43,0, "top.go:161",#[],none⟩) rfl (fun K hK => ?_);go_simp;have hn:Bl W (W.alloc (.cells #[.slice none 0 0] 43)):=bA1 _ _;have hXn:=hX.trans (hn.mono hX.size);refine hK.out _ _ (Or.inr (hC _ hXn)) ?_;(try simp only[lsA,lsZ,lsS])
     exact ih b7 true b9 (by revert hf;cases b7<;>cases b9<;>simp[cnt3]<;>omega) s7 _ s9 g7 W.heap.size g9 gt V na nk nc la lk lc oa ol oc f1 f2 W0 _ hF (hb.trans (hn.mono hb.size)) hXn (h7.below hn) (AlF.new W hX.size _ _ _) (h9.below hn) hz7 (fun _=>Or.inr hb.size) hz9
   ·cases b9 with
    | true=>simp at hi
    | false =>
     obtain rfl:i=10:=by simpa using hi
     refine z_op (o:=⟨some 11,.alloc 26,0, "top.go:161",#[],none⟩) rfl (fun K hK => ?_);go_simp;have hn:Bl W (W.alloc (.cells #[.int .i64 0,.int .i64 0] 26)):=bA1 _ _;have hXn:=hX.trans (hn.mono hX.size);refine hK.out _ _ (Or.inr (hC _ hXn)) ?_;(try simp only[lsA,lsZ,lsS])
     exact ih b7 b8 true (by revert hf;cases b7<;>cases b8<;>simp[cnt3]<;>omega) s7 s8 _ g7 g8 W.heap.size gt V na nk nc la lk lc oa ol oc f1 f2 W0 _ hF (hb.trans (hn.mono hb.size)) hXn (h7.below hn) (h8.below hn) (AlF.new W hX.size _ _ _) hz7 hz8 (fun _=>Or.inr hb.size)
include hQ hC hP fin in
theorem ur10_2:∀(fuel:Nat) (b7 b8 b9:Bool),8+cnt3 b7 b8 b9≤fuel→∀(s7 s8 s9:Value) (g7 g8 g9:Nat) (gt:Nat) (W0 W:World),W0.heap[gt]?=some (.cells #[.int .i64 1,.int .i64 90,.int .i64 0,.int .i64 0] 47)→Bl W0 W→Bl X W→AlF W X.heap.size b7 s7 g7 #[.slice none 0 0,.slice none 0 0] 32→AlF W X.heap.size b8 s8 g8 #[.slice none 0 0] 43→AlF W X.heap.size b9 s9 g9 #[.int .i64 0,.int .i64 0] 26→wpAnyZ Tryz.prog .any ur10_ops Q 11 (fun W=>W.cell? ⟨BN,0,none⟩=some nb∧W.cell? ⟨BN,1,none⟩=some nl) fuel #[true,true,true,false,false,false,false,false,b7,b8,b9,false,false,false] { tmps:=#[x0,x1,x2,x3,x4,x5,x6,(.pointer (some ⟨BN,0,none⟩)),x8,s7,s8,s9,xc,xd,xe,xf,xg,xh,xi,xj,xl,xm,xn,xp,xq,xr,xs,xu,xv,xw,xx,xy,xz,z0,z1,z2,z3,z4,z5,z6,z7,z8,z9,za,zb,zc,zd,ze,zf,zg,zh,zi,zj,zl,zm,zn,zp,zq,zr,zs,zu,zv,zw,zx,zy,zz,t0,t1,t2,t3,(.agg #[nb,nl]),(.agg #[.int .i64 1,.int .i64 90,.int .i64 0,.int .i64 0]),(.slice (some ⟨gt,0,none⟩) 1 1),t7,t8,t9,ta,tb,tc,td,te,tf,tg,th,ti,tj,tl,tm,tn,tp,tq,tr,ts,tu,tv,tw,tx,ty,tz,v0,v1,v2,v3,v4,v5,v6,v7,v8,v9,va,vb,vc,vd,ve,vf,vg,vh,vi,vj,vl,vm,vn,vp,vq,vr,vs,vu,vv,vw,vx,vy,vz,p0,p1,p2,p3,p4,p5,p6,p7,p8,p9,pa,pb,pc,pd,pe,pf],defers:=df } W:=by
 intro fuel;induction fuel with
 | zero=>intro b7 b8 b9 h;omega
 | succ fuel ih =>
  intro b7 b8 b9 hf s7 s8 s9 g7 g8 g9 gt W0 W hF hb hX h7 h8 h9;have hHeld:(#[true,true,true,false,false,false,false,false,b7,b8,b9,false,false,false]:Array Bool).getD 11 true=true∨(fun W=>W.cell? ⟨BN,0,none⟩=some nb∧W.cell? ⟨BN,1,none⟩=some nl) W:=Or.inr (hC W hX);refine z_mem (ur10_rd2 b7 b8 b9) (by simp) (fun i hi => ?_);simp only[List.mem_cons,List.mem_append] at hi;rcases hi with rfl | hi | hi | hi
  ·refine z_op (o:=⟨some 73,.call { callee:=.value (.func 15),args:=#[.tmp 70,.const (.int .i64 2),.tmp 72],argTypes:=#[32,3,49] },44, "top.go:161",#[⟨0,.data⟩,⟨2,.data⟩,⟨1,.chain⟩],none⟩) rfl (fun K hK => ?_);go_simp;refine(hP W gt hX (keep hF hb)).mono ?_;rintro e w2 ⟨na,nk,nc,la,lk,lc,oa,ol,oc,f1,f2,rfl,H⟩;have hn:=H.out.1;have hXn:=hX.trans (hn.mono hX.size);refine hK.out _ _ (Or.inr (hC _ hXn)) ?_;(try simp only[lsA,lsZ,lsS])
   obtain⟨fuel,rfl⟩:∃q,fuel=q+1+1+1+1:=⟨fuel-4,by omega⟩
   refine z_take (i:=4) (oi:=⟨some 69,.move (.tmp 73),44, "top.go:161",#[⟨3,.data⟩],none⟩) (v:=(.tuple #[.agg #[.slice na nk nc,.slice la lk lc],.agg #[.slice oa ol oc],.agg #[.int .i64 f1,.int .i64 f2]])) (some 69) rfl rfl (by cases b7<;>cases b8<;>cases b9<;>kernel_rfl) (by cases b7<;>cases b8<;>cases b9<;>kernel_rfl) (by cases b7<;>cases b8<;>cases b9<;>kernel_rfl) (by decide) (fun c a w h=>hQ c a _ _ w h) (by rfl) ?_ (Or.inr (hC _ hXn)) ?_
   ·(intro wq;go_simp;try with_reducible rfl)
   (try simp only[Act.put,lsA,lsZ,lsS])
   refine z_take (i:=5) (oi:=⟨some 74,.extract (.tmp 69) 0,32, "top.go:161",#[⟨4,.data⟩],none⟩) (v:=(.agg #[.slice na nk nc,.slice la lk lc])) (some 74) rfl rfl (by cases b7<;>cases b8<;>cases b9<;>kernel_rfl) (by cases b7<;>cases b8<;>cases b9<;>kernel_rfl) (by cases b7<;>cases b8<;>cases b9<;>kernel_rfl) (by decide) (fun c a w h=>hQ c a _ _ w h) (by rfl) ?_ (Or.inr (hC _ hXn)) ?_
   ·(intro wq;go_simp;try with_reducible rfl)
   (try simp only[Act.put,lsA,lsZ,lsS])
   refine z_take (i:=6) (oi:=⟨some 75,.extract (.tmp 69) 1,43, "top.go:161",#[⟨4,.data⟩,{ on:=11,ground:=Ground.gcOnly Departure.lateStores }],none⟩) (v:=(.agg #[.slice oa ol oc])) (some 75) rfl rfl (by cases b7<;>cases b8<;>cases b9<;>kernel_rfl) (by cases b7<;>cases b8<;>cases b9<;>kernel_rfl) (by cases b7<;>cases b8<;>cases b9<;>kernel_rfl) (by decide) (fun c a w h=>hQ c a _ _ w h) (by rfl) ?_ (Or.inr (hC _ hXn)) ?_
   ·(intro wq;go_simp;try with_reducible rfl)
   (try simp only[Act.put,lsA,lsZ,lsS])
   refine z_take (i:=7) (oi:=⟨some 76,.extract (.tmp 69) 2,26, "top.go:161",#[⟨4,.data⟩,{ on:=12,ground:=Ground.gcOnly Departure.lateStores }],none⟩) (v:=(.agg #[.int .i64 f1,.int .i64 f2])) (some 76) rfl rfl (by cases b7<;>cases b8<;>cases b9<;>kernel_rfl) (by cases b7<;>cases b8<;>cases b9<;>kernel_rfl) (by cases b7<;>cases b8<;>cases b9<;>kernel_rfl) (by decide) (fun c a w h=>hQ c a _ _ w h) (by rfl) ?_ (Or.inr (hC _ hXn)) ?_
   ·(intro wq;go_simp;try with_reducible rfl)
   (try simp only[Act.put,lsA,lsZ,lsS])
   exact ur10_3 df X BN nb nl  R x0 x1 x2 x3 x4 x5 x6 x8 xc xd xe xf xg xh xi xj xl xm xn xp xq xr xs xu xv xw xx xy xz z0 z1 z2 z3 z4 z5 z6 z7 z8 z9 za zb zc zd ze zf zg zh zi zj zl zm zn zp zq zr zs zu zv zw zx zy zz t0 t1 t2 tb tc td te tf tg th ti tj tl tm tn tp tq tr ts tu tv tw tx ty tz v0 v1 v2 v3 v4 v5 v6 v7 v8 v9 va vb vc vd ve vf vg vh vi vj vl vm vn vp vq vr vs vu vv vw vx vy vz p0 p1 p2 p3 p4 p5 p6 p7 p8 p9 pa pb pc pd pe pf hC fin fuel b7 b8 b9 (by omega) s7 s8 s9 g7 g8 g9 gt W na nk nc la lk lc oa ol oc f1 f2 w2 w2 H.out.2 (Below.refl _ _) hXn (h7.below hn) (h8.below hn) (h9.below hn) (fun e=>Or.inl (lt_some (h7 e).2.1)) (fun e=>Or.inl (lt_some (h8 e).2.1)) (fun e=>Or.inl (lt_some (h9 e).2.1))
  ·cases b7 with
   | true=>simp at hi
   | false =>
    obtain rfl:i=8:=by simpa using hi
    refine z_op (o:=⟨some 9,.alloc 32,0, "top.go:161",#[],none⟩) rfl (fun K hK => ?_);go_simp;have hn:Bl W (W.alloc (.cells #[.slice none 0 0,.slice none 0 0] 32)):=bA1 _ _;have hXn:=hX.trans (hn.mono hX.size);refine hK.out _ _ (Or.inr (hC _ hXn)) ?_;(try simp only[lsA,lsZ,lsS])
    exact ih true b8 b9 (by revert hf;cases b8<;>cases b9<;>simp[cnt3]<;>omega) _ s8 s9 W.heap.size g8 g9 gt W0 _ hF (hb.trans (hn.mono hb.size)) hXn (AlF.new W hX.size _ _ _) (h8.below hn) (h9.below hn)
  ·cases b8 with
   | true=>simp at hi
   | false =>
    obtain rfl:i=9:=by simpa using hi
    refine z_op (o:=⟨some 10,.alloc 43,0, "top.go:161",#[],none⟩) rfl (fun K hK => ?_);go_simp;have hn:Bl W (W.alloc (.cells #[.slice none 0 0] 43)):=bA1 _ _;have hXn:=hX.trans (hn.mono hX.size);refine hK.out _ _ (Or.inr (hC _ hXn)) ?_;(try simp only[lsA,lsZ,lsS])
    exact ih b7 true b9 (by revert hf;cases b7<;>cases b9<;>simp[cnt3]<;>omega) s7 _ s9 g7 W.heap.size g9 gt W0 _ hF (hb.trans (hn.mono hb.size)) hXn (h7.below hn) (AlF.new W hX.size _ _ _) (h9.below hn)
  ·cases b9 with
   | true=>simp at hi
   | false =>
    obtain rfl:i=10:=by simpa using hi
    refine z_op (o:=⟨some 11,.alloc 26,0, "top.go:161",#[],none⟩) rfl (fun K hK => ?_);go_simp;have hn:Bl W (W.alloc (.cells #[.int .i64 0,.int .i64 0] 26)):=bA1 _ _;have hXn:=hX.trans (hn.mono hX.size);refine hK.out _ _ (Or.inr (hC _ hXn)) ?_;(try simp only[lsA,lsZ,lsS])
    exact ih b7 b8 true (by revert hf;cases b7<;>cases b8<;>simp[cnt3]<;>omega) s7 s8 _ g7 g8 W.heap.size gt W0 _ hF (hb.trans (hn.mono hb.size)) hXn (h7.below hn) (h8.below hn) (AlF.new W hX.size _ _ _)
include hQ hC hP fin in
theorem ur10_1:∀(fuel:Nat) (b7 b8 b9:Bool),9+cnt3 b7 b8 b9≤fuel→∀(s7 s8 s9:Value) (g7 g8 g9:Nat) (W0 W:World),True→Bl W0 W→Bl X W→AlF W X.heap.size b7 s7 g7 #[.slice none 0 0,.slice none 0 0] 32→AlF W X.heap.size b8 s8 g8 #[.slice none 0 0] 43→AlF W X.heap.size b9 s9 g9 #[.int .i64 0,.int .i64 0] 26→wpAnyZ Tryz.prog .any ur10_ops Q 11 (fun W=>W.cell? ⟨BN,0,none⟩=some nb∧W.cell? ⟨BN,1,none⟩=some nl) fuel #[true,true,false,false,false,false,false,false,b7,b8,b9,false,false,false] { tmps:=#[x0,x1,x2,x3,x4,x5,x6,(.pointer (some ⟨BN,0,none⟩)),x8,s7,s8,s9,xc,xd,xe,xf,xg,xh,xi,xj,xl,xm,xn,xp,xq,xr,xs,xu,xv,xw,xx,xy,xz,z0,z1,z2,z3,z4,z5,z6,z7,z8,z9,za,zb,zc,zd,ze,zf,zg,zh,zi,zj,zl,zm,zn,zp,zq,zr,zs,zu,zv,zw,zx,zy,zz,t0,t1,t2,t3,(.agg #[nb,nl]),(.agg #[.int .i64 1,.int .i64 90,.int .i64 0,.int .i64 0]),t6,t7,t8,t9,ta,tb,tc,td,te,tf,tg,th,ti,tj,tl,tm,tn,tp,tq,tr,ts,tu,tv,tw,tx,ty,tz,v0,v1,v2,v3,v4,v5,v6,v7,v8,v9,va,vb,vc,vd,ve,vf,vg,vh,vi,vj,vl,vm,vn,vp,vq,vr,vs,vu,vv,vw,vx,vy,vz,p0,p1,p2,p3,p4,p5,p6,p7,p8,p9,pa,pb,pc,pd,pe,pf],defers:=df } W:=by
 intro fuel;induction fuel with
 | zero=>intro b7 b8 b9 h;omega
 | succ fuel ih =>
  intro b7 b8 b9 hf s7 s8 s9 g7 g8 g9 W0 W hF hb hX h7 h8 h9;have hHeld:(#[true,true,false,false,false,false,false,false,b7,b8,b9,false,false,false]:Array Bool).getD 11 true=true∨(fun W=>W.cell? ⟨BN,0,none⟩=some nb∧W.cell? ⟨BN,1,none⟩=some nl) W:=Or.inr (hC W hX);refine z_mem (ur10_rd1 b7 b8 b9) (by simp) (fun i hi => ?_);simp only[List.mem_cons,List.mem_append] at hi;rcases hi with rfl | hi | hi | hi
  ·refine z_op (o:=⟨some 72,.buildSlice 49 1 #[(0,.tmp 71)],49, "top.go:161",#[⟨1,.data⟩],none⟩) rfl (fun K hK => ?_);go_simp;have hn:Bl W (W.alloc (.cells #[.int .i64 1,.int .i64 90,.int .i64 0,.int .i64 0] 47)):=bA1 _ _;have hXn:=hX.trans (hn.mono hX.size);refine hK.out _ _ (Or.inr (hC _ hXn)) ?_;(try simp only[lsA,lsZ,lsS])
   exact ur10_2 df X BN nb nl  R x0 x1 x2 x3 x4 x5 x6 x8 xc xd xe xf xg xh xi xj xl xm xn xp xq xr xs xu xv xw xx xy xz z0 z1 z2 z3 z4 z5 z6 z7 z8 z9 za zb zc zd ze zf zg zh zi zj zl zm zn zp zq zr zs zu zv zw zx zy zz t0 t1 t2 t3 t7 t8 t9 ta tb tc td te tf tg th ti tj tl tm tn tp tq tr ts tu tv tw tx ty tz v0 v1 v2 v3 v4 v5 v6 v7 v8 v9 va vb vc vd ve vf vg vh vi vj vl vm vn vp vq vr vs vu vv vw vx vy vz p0 p1 p2 p3 p4 p5 p6 p7 p8 p9 pa pb pc pd pe pf hQ hC hP fin fuel b7 b8 b9 (by omega) s7 s8 s9 g7 g8 g9 W.heap.size _ _ (heap_alloc_last _ _) (Below.refl _ _) hXn (h7.below hn) (h8.below hn) (h9.below hn)
  ·cases b7 with
   | true=>simp at hi
   | false =>
    obtain rfl:i=8:=by simpa using hi
    refine z_op (o:=⟨some 9,.alloc 32,0, "top.go:161",#[],none⟩) rfl (fun K hK => ?_);go_simp;have hn:Bl W (W.alloc (.cells #[.slice none 0 0,.slice none 0 0] 32)):=bA1 _ _;have hXn:=hX.trans (hn.mono hX.size);refine hK.out _ _ (Or.inr (hC _ hXn)) ?_;(try simp only[lsA,lsZ,lsS])
    exact ih true b8 b9 (by revert hf;cases b8<;>cases b9<;>simp[cnt3]<;>omega) _ s8 s9 W.heap.size g8 g9 W0 _ hF (hb.trans (hn.mono hb.size)) hXn (AlF.new W hX.size _ _ _) (h8.below hn) (h9.below hn)
  ·cases b8 with
   | true=>simp at hi
   | false =>
    obtain rfl:i=9:=by simpa using hi
    refine z_op (o:=⟨some 10,.alloc 43,0, "top.go:161",#[],none⟩) rfl (fun K hK => ?_);go_simp;have hn:Bl W (W.alloc (.cells #[.slice none 0 0] 43)):=bA1 _ _;have hXn:=hX.trans (hn.mono hX.size);refine hK.out _ _ (Or.inr (hC _ hXn)) ?_;(try simp only[lsA,lsZ,lsS])
    exact ih b7 true b9 (by revert hf;cases b7<;>cases b9<;>simp[cnt3]<;>omega) s7 _ s9 g7 W.heap.size g9 W0 _ hF (hb.trans (hn.mono hb.size)) hXn (h7.below hn) (AlF.new W hX.size _ _ _) (h9.below hn)
  ·cases b9 with
   | true=>simp at hi
   | false =>
    obtain rfl:i=10:=by simpa using hi
    refine z_op (o:=⟨some 11,.alloc 26,0, "top.go:161",#[],none⟩) rfl (fun K hK => ?_);go_simp;have hn:Bl W (W.alloc (.cells #[.int .i64 0,.int .i64 0] 26)):=bA1 _ _;have hXn:=hX.trans (hn.mono hX.size);refine hK.out _ _ (Or.inr (hC _ hXn)) ?_;(try simp only[lsA,lsZ,lsS])
    exact ih b7 b8 true (by revert hf;cases b7<;>cases b8<;>simp[cnt3]<;>omega) s7 s8 _ g7 g8 W.heap.size W0 _ hF (hb.trans (hn.mono hb.size)) hXn (h7.below hn) (h8.below hn) (AlF.new W hX.size _ _ _)
include hQ hC hT hP fin in
theorem ur10_0:∀(fuel:Nat) (b7 b8 b9:Bool),10+cnt3 b7 b8 b9≤fuel→∀(s7 s8 s9:Value) (g7 g8 g9:Nat) (W0 W:World),True→Bl W0 W→Bl X W→AlF W X.heap.size b7 s7 g7 #[.slice none 0 0,.slice none 0 0] 32→AlF W X.heap.size b8 s8 g8 #[.slice none 0 0] 43→AlF W X.heap.size b9 s9 g9 #[.int .i64 0,.int .i64 0] 26→wpAnyZ Tryz.prog .any ur10_ops Q 11 (fun W=>W.cell? ⟨BN,0,none⟩=some nb∧W.cell? ⟨BN,1,none⟩=some nl) fuel #[true,false,false,false,false,false,false,false,b7,b8,b9,false,false,false] { tmps:=#[x0,x1,x2,x3,x4,x5,x6,(.pointer (some ⟨BN,0,none⟩)),x8,s7,s8,s9,xc,xd,xe,xf,xg,xh,xi,xj,xl,xm,xn,xp,xq,xr,xs,xu,xv,xw,xx,xy,xz,z0,z1,z2,z3,z4,z5,z6,z7,z8,z9,za,zb,zc,zd,ze,zf,zg,zh,zi,zj,zl,zm,zn,zp,zq,zr,zs,zu,zv,zw,zx,zy,zz,t0,t1,t2,t3,(.agg #[nb,nl]),t5,t6,t7,t8,t9,ta,tb,tc,td,te,tf,tg,th,ti,tj,tl,tm,tn,tp,tq,tr,ts,tu,tv,tw,tx,ty,tz,v0,v1,v2,v3,v4,v5,v6,v7,v8,v9,va,vb,vc,vd,ve,vf,vg,vh,vi,vj,vl,vm,vn,vp,vq,vr,vs,vu,vv,vw,vx,vy,vz,p0,p1,p2,p3,p4,p5,p6,p7,p8,p9,pa,pb,pc,pd,pe,pf],defers:=df } W:=by
 intro fuel;induction fuel with
 | zero=>intro b7 b8 b9 h;omega
 | succ fuel ih =>
  intro b7 b8 b9 hf s7 s8 s9 g7 g8 g9 W0 W hF hb hX h7 h8 h9;have hHeld:(#[true,false,false,false,false,false,false,false,b7,b8,b9,false,false,false]:Array Bool).getD 11 true=true∨(fun W=>W.cell? ⟨BN,0,none⟩=some nb∧W.cell? ⟨BN,1,none⟩=some nl) W:=Or.inr (hC W hX);refine z_mem (ur10_rd0 b7 b8 b9) (by simp) (fun i hi => ?_);simp only[List.mem_cons,List.mem_append] at hi;rcases hi with rfl | hi | hi | hi
  ·refine z_op (o:=⟨some 71,.call { callee:=.value (.func 16),args:=#[.const (.int .i64 90)],argTypes:=#[3] },47, "top.go:161",#[],none⟩) rfl (fun K hK => ?_);go_simp;refine(hT W _).mono ?_;rintro e w2 ⟨rfl,hn⟩;have hXn:=hX.trans (hn.mono hX.size);refine hK.out _ _ (Or.inr (hC _ hXn)) ?_;(try simp only[lsA,lsZ,lsS])
   exact ur10_1 df X BN nb nl  R x0 x1 x2 x3 x4 x5 x6 x8 xc xd xe xf xg xh xi xj xl xm xn xp xq xr xs xu xv xw xx xy xz z0 z1 z2 z3 z4 z5 z6 z7 z8 z9 za zb zc zd ze zf zg zh zi zj zl zm zn zp zq zr zs zu zv zw zx zy zz t0 t1 t2 t3 t6 t7 t8 t9 ta tb tc td te tf tg th ti tj tl tm tn tp tq tr ts tu tv tw tx ty tz v0 v1 v2 v3 v4 v5 v6 v7 v8 v9 va vb vc vd ve vf vg vh vi vj vl vm vn vp vq vr vs vu vv vw vx vy vz p0 p1 p2 p3 p4 p5 p6 p7 p8 p9 pa pb pc pd pe pf hQ hC hP fin fuel b7 b8 b9 (by omega) s7 s8 s9 g7 g8 g9 W0 w2 hF (hb.trans (hn.mono hb.size)) hXn (h7.below hn) (h8.below hn) (h9.below hn)
  ·cases b7 with
   | true=>simp at hi
   | false =>
    obtain rfl:i=8:=by simpa using hi
    refine z_op (o:=⟨some 9,.alloc 32,0, "top.go:161",#[],none⟩) rfl (fun K hK => ?_);go_simp;have hn:Bl W (W.alloc (.cells #[.slice none 0 0,.slice none 0 0] 32)):=bA1 _ _;have hXn:=hX.trans (hn.mono hX.size);refine hK.out _ _ (Or.inr (hC _ hXn)) ?_;(try simp only[lsA,lsZ,lsS])
    exact ih true b8 b9 (by revert hf;cases b8<;>cases b9<;>simp[cnt3]<;>omega) _ s8 s9 W.heap.size g8 g9 W0 _ hF (hb.trans (hn.mono hb.size)) hXn (AlF.new W hX.size _ _ _) (h8.below hn) (h9.below hn)
  ·cases b8 with
   | true=>simp at hi
   | false =>
    obtain rfl:i=9:=by simpa using hi
    refine z_op (o:=⟨some 10,.alloc 43,0, "top.go:161",#[],none⟩) rfl (fun K hK => ?_);go_simp;have hn:Bl W (W.alloc (.cells #[.slice none 0 0] 43)):=bA1 _ _;have hXn:=hX.trans (hn.mono hX.size);refine hK.out _ _ (Or.inr (hC _ hXn)) ?_;(try simp only[lsA,lsZ,lsS])
    exact ih b7 true b9 (by revert hf;cases b7<;>cases b9<;>simp[cnt3]<;>omega) s7 _ s9 g7 W.heap.size g9 W0 _ hF (hb.trans (hn.mono hb.size)) hXn (h7.below hn) (AlF.new W hX.size _ _ _) (h9.below hn)
  ·cases b9 with
   | true=>simp at hi
   | false =>
    obtain rfl:i=10:=by simpa using hi
    refine z_op (o:=⟨some 11,.alloc 26,0, "top.go:161",#[],none⟩) rfl (fun K hK => ?_);go_simp;have hn:Bl W (W.alloc (.cells #[.int .i64 0,.int .i64 0] 26)):=bA1 _ _;have hXn:=hX.trans (hn.mono hX.size);refine hK.out _ _ (Or.inr (hC _ hXn)) ?_;(try simp only[lsA,lsZ,lsS])
    exact ih b7 b8 true (by revert hf;cases b7<;>cases b8<;>simp[cnt3]<;>omega) s7 s8 _ g7 g8 W.heap.size W0 _ hF (hb.trans (hn.mono hb.size)) hXn (h7.below hn) (h8.below hn) (AlF.new W hX.size _ _ _)
include hQ hC hT hP fin  in
theorem ur10 (x9 xa xb t4:Value):(Code.region 12 ur10_ops true).wp Tryz.prog Q { tmps:=#[x0,x1,x2,x3,x4,x5,x6,(.pointer (some ⟨BN,0,none⟩)),x8,x9,xa,xb,xc,xd,xe,xf,xg,xh,xi,xj,xl,xm,xn,xp,xq,xr,xs,xu,xv,xw,xx,xy,xz,z0,z1,z2,z3,z4,z5,z6,z7,z8,z9,za,zb,zc,zd,ze,zf,zg,zh,zi,zj,zl,zm,zn,zp,zq,zr,zs,zu,zv,zw,zx,zy,zz,t0,t1,t2,t3,t4,t5,t6,t7,t8,t9,ta,tb,tc,td,te,tf,tg,th,ti,tj,tl,tm,tn,tp,tq,tr,ts,tu,tv,tw,tx,ty,tz,v0,v1,v2,v3,v4,v5,v6,v7,v8,v9,va,vb,vc,vd,ve,vf,vg,vh,vi,vj,vl,vm,vn,vp,vq,vr,vs,vu,vv,vw,vx,vy,vz,p0,p1,p2,p3,p4,p5,p6,p7,p8,p9,pa,pb,pc,pd,pe,pf],defers:=df } X:=by
 have hXd:Bl X X.drew:=Below.drew (Below.refl _ _);have hc:=hC X (Below.refl _ _);refine wp_region_z (z:=11) (C:=fun W=>W.cell? ⟨BN,0,none⟩=some nb∧W.cell? ⟨BN,1,none⟩=some nl) (by kernel_rfl) (hC _ hXd) (fun hHeld => ?_);refine z_load (i:=0) (oi:=⟨some 70,.load 32 (.tmp 7),32, "top.go:161",#[],none⟩) (v:=.agg #[nb,nl]) (some 70) rfl rfl (by kernel_rfl) (by kernel_rfl) (by kernel_rfl) (by kernel_rfl) (fun c a w h=>hQ c a _ _ w h) (by rfl) ?_ hHeld ?_
 ·(intro wq hSw;go_simp;try with_reducible rfl)
 (try simp only[Act.put,lsA,lsZ,lsS])
 exact ur10_0 df X BN nb nl  R x0 x1 x2 x3 x4 x5 x6 x8 xc xd xe xf xg xh xi xj xl xm xn xp xq xr xs xu xv xw xx xy xz z0 z1 z2 z3 z4 z5 z6 z7 z8 z9 za zb zc zd ze zf zg zh zi zj zl zm zn zp zq zr zs zu zv zw zx zy zz t0 t1 t2 t3 t5 t6 t7 t8 t9 ta tb tc td te tf tg th ti tj tl tm tn tp tq tr ts tu tv tw tx ty tz v0 v1 v2 v3 v4 v5 v6 v7 v8 v9 va vb vc vd ve vf vg vh vi vj vl vm vn vp vq vr vs vu vv vw vx vy vz p0 p1 p2 p3 p4 p5 p6 p7 p8 p9 pa pb pc pd pe pf hQ hC hT hP fin _ false false false (by simp[cnt3]) _ _ _ 0 0 0 X _ trivial hXd hXd (fun e=>by cases e) (fun e=>by cases e) (fun e=>by cases e)
end
end
end Go.Proofs.YtflghpnpjmodaaaGreatDoor
