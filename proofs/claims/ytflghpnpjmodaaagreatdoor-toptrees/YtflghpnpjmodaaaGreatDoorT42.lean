/- TopTrees: the region with two Idents -/
import Derived.Test.YtflghpnpjmodaaaGreatDoorT26
set_option maxRecDepth 100000
set_option maxHeartbeats 6000000
namespace Go.Proofs.YtflghpnpjmodaaaGreatDoor
section
open Go.RowKit
def ut13_ops:Array Oper:=#[⟨some 77,.fieldAddr 26 (.tmp 11) 0,0, "top.go:162",#[],none⟩,⟨some 78,.load 24 (.tmp 77),24, "top.go:162",#[⟨0,.data⟩],none⟩,⟨some 79,.binOp .neq 24 (.tmp 78) (.const (.int .i64 0)) 24,4, "top.go:162",#[⟨1,.data⟩],none⟩,⟨some 80,.move (.tmp 79),4, "top.go:162",#[⟨2,.data⟩],none⟩,⟨some 81,.fieldAddr 43 (.tmp 10) 0,0, "top.go:162",#[⟨3,.guard⟩],some (3,false)⟩,⟨some 82,.load 41 (.tmp 81),41, "top.go:162",#[⟨4,.data⟩,⟨3,.guard⟩],some (3,false)⟩,⟨some 83,.indexAddr 41 (.tmp 82) (.const (.int .i64 0)),0, "top.go:162",#[⟨5,.data⟩,⟨3,.guard⟩],some (3,false)⟩,⟨some 84,.load 50 (.tmp 83),50, "top.go:162",#[⟨6,.data⟩,⟨3,.guard⟩],some (3,false)⟩,⟨some 85,.move (.tmp 0),3, "top.go:162",#[⟨3,.guard⟩],some (3,false)⟩,⟨some 86,.binOp .sub 3 (.tmp 85) (.const (.int .i64 1)) 3,3, "top.go:162",#[⟨8,.data⟩,⟨3,.guard⟩],some (3,false)⟩,⟨some 87,.indexAddr 50 (.tmp 84) (.tmp 86),0, "top.go:162",#[⟨7,.data⟩,⟨9,.data⟩,⟨3,.guard⟩],some (3,false)⟩,⟨some 88,.fieldAddr 52 (.tmp 87) 0,0, "top.go:162",#[⟨10,.data⟩,⟨3,.guard⟩],some (3,false)⟩,⟨some 89,.fieldAddr 36 (.tmp 88) 0,0, "top.go:162",#[⟨11,.data⟩,⟨3,.guard⟩],some (3,false)⟩,⟨some 90,.load 34 (.tmp 89),34, "top.go:162",#[⟨12,.data⟩,⟨3,.guard⟩],some (3,false)⟩,⟨some 91,.fieldAddr 32 (.tmp 7) 0,0, "top.go:162",#[⟨3,.guard⟩],some (3,false)⟩,⟨some 92,.load 29 (.tmp 91),29, "top.go:162",#[⟨14,.data⟩,⟨3,.guard⟩],some (3,false)⟩,⟨some 93,.indexAddr 29 (.tmp 92) (.const (.int .i64 0)),0, "top.go:162",#[⟨15,.data⟩,⟨3,.guard⟩],some (3,false)⟩,⟨some 94,.load 58 (.tmp 93),58, "top.go:162",#[⟨16,.data⟩,⟨3,.guard⟩],some (3,false)⟩,⟨some 95,.call { callee:=.value (.func 17),args:=#[.tmp 94,.const (.int .i64 0)],argTypes:=#[58,3] },34, "top.go:162",#[⟨17,.data⟩,⟨3,.chain⟩,⟨3,.guard⟩],some (3,false)⟩,⟨some 96,.binOp .neq 34 (.tmp 90) (.tmp 95) 34,4, "top.go:162",#[⟨13,.data⟩,⟨18,.data⟩,⟨3,.guard⟩],some (3,false)⟩,⟨some 97,.pick (.tmp 80) (.const (Value.bool true)) (.tmp 96),4, "top.go:162",#[⟨3,.data⟩,⟨19,.data⟩],none⟩,⟨some 98,.move (.tmp 97),4, "top.go:162",#[⟨20,.data⟩,⟨18,.chain⟩],none⟩,⟨some 99,.fieldAddr 43 (.tmp 10) 0,0, "top.go:162",#[⟨21,.guard⟩],some (21,false)⟩,⟨some 100,.load 41 (.tmp 99),41, "top.go:162",#[⟨22,.data⟩,⟨21,.guard⟩],some (21,false)⟩,⟨some 101,.indexAddr 41 (.tmp 100) (.const (.int .i64 1)),0, "top.go:162",#[⟨23,.data⟩,⟨21,.guard⟩],some (21,false)⟩,⟨some 102,.load 50 (.tmp 101),50, "top.go:162",#[⟨24,.data⟩,⟨21,.guard⟩],some (21,false)⟩,⟨some 103,.move (.tmp 0),3, "top.go:162",#[⟨21,.guard⟩],some (21,false)⟩,⟨some 104,.binOp .sub 3 (.tmp 103) (.const (.int .i64 1)) 3,3, "top.go:162",#[⟨26,.data⟩,⟨21,.guard⟩],some (21,false)⟩,⟨some 105,.indexAddr 50 (.tmp 102) (.tmp 104),0, "top.go:162",#[⟨25,.data⟩,⟨27,.data⟩,⟨21,.guard⟩],some (21,false)⟩,⟨some 106,.fieldAddr 52 (.tmp 105) 0,0, "top.go:162",#[⟨28,.data⟩,⟨21,.guard⟩],some (21,false)⟩,⟨some 107,.fieldAddr 36 (.tmp 106) 0,0, "top.go:162",#[⟨29,.data⟩,⟨21,.guard⟩],some (21,false)⟩,⟨some 108,.load 34 (.tmp 107),34, "top.go:162",#[⟨30,.data⟩,⟨21,.guard⟩],some (21,false)⟩,⟨some 109,.fieldAddr 32 (.tmp 7) 0,0, "top.go:162",#[⟨21,.guard⟩],some (21,false)⟩,⟨some 110,.load 29 (.tmp 109),29, "top.go:162",#[⟨32,.data⟩,⟨21,.guard⟩],some (21,false)⟩,⟨some 111,.move (.tmp 1),3, "top.go:162",#[⟨21,.guard⟩],some (21,false)⟩,⟨some 112,.indexAddr 29 (.tmp 110) (.tmp 111),0, "top.go:162",#[⟨33,.data⟩,⟨34,.data⟩,⟨21,.guard⟩],some (21,false)⟩,⟨some 113,.load 58 (.tmp 112),58, "top.go:162",#[⟨35,.data⟩,⟨21,.guard⟩],some (21,false)⟩,⟨some 114,.call { callee:=.value (.func 17),args:=#[.tmp 113,.const (.int .i64 1)],argTypes:=#[58,3] },34, "top.go:162",#[⟨36,.data⟩,⟨21,.chain⟩,⟨21,.guard⟩],some (21,false)⟩,⟨some 115,.binOp .neq 34 (.tmp 108) (.tmp 114) 34,4, "top.go:162",#[⟨31,.data⟩,⟨37,.data⟩,⟨21,.guard⟩],some (21,false)⟩,⟨some 116,.pick (.tmp 98) (.const (Value.bool true)) (.tmp 115),4, "top.go:162",#[⟨21,.data⟩,⟨38,.data⟩],none⟩]
section
variable {Q:Exit→Act→World→Prop}(df:List Deferred) (X:World) (BN g8 g9 g ob off oc b0 o0 k0 b1 o1 k1 c5 k m f:Nat) (r0 r1:Int) (u0 u1 u2 u3 u4 y0 y1 y2 y3 y4:Value)
variable (x2 x3 x4 x5 x6 x8 x9 xc xd xe xf xg xh xi xj xl xm xn xp xq xr xs xu xv xw xx xy xz z0 z1 z2 z3 z4 z5 z6 z7 z8 z9 za zb zc zd ze zf zg zh zi zj zl zm zn zp zq zr zs zu zv zw zx zy zz t0 t1 t2 t3 t4 t5 t6 t7 t8 t9 ta vi vj vl vm vn vp vq vr vs vu vv vw vx vy vz p0 p1 p2 p3 p4 p5 p6 p7 p8 p9 pa pb pc pd pe pf:Value)
variable (hQ:∀c (a:Act) (d:Tmp) (v:Value) (w:World),Q (.panic c) (a.put (some d) v) w→Q (.panic c) a w)
variable (hC:∀V,Bl X V→V.cell? ⟨g9,0,none⟩=some (.int .i64 0)∧V.cell? ⟨g8,0,none⟩=some (.slice (some ⟨ob,off,none⟩) 2 oc)∧V.cell? ⟨ob,off,none⟩=some (.slice (some ⟨b0,o0,none⟩) k k0)∧V.cell? ⟨ob,off+1,none⟩=some (.slice (some ⟨b1,o1,none⟩) k k1)∧V.cell? ⟨b0,o0+m*9,none⟩=some (.int .u64 r0)∧V.cell? ⟨b1,o1+m*9,none⟩=some (.int .u64 r1)∧V.cell? ⟨BN,0,none⟩=some (.slice (some ⟨g,0,none⟩) k c5)∧(V.cell? ⟨g,0,none⟩=some u0∧V.cell? ⟨g,1,none⟩=some u1∧V.cell? ⟨g,2,none⟩=some u2∧V.cell? ⟨g,3,none⟩=some u3∧V.cell? ⟨g,4,none⟩=some u4)∧(V.cell? ⟨g,f*5,none⟩=some y0∧V.cell? ⟨g,f*5+1,none⟩=some y1∧V.cell? ⟨g,f*5+2,none⟩=some y2∧V.cell? ⟨g,f*5+3,none⟩=some y3∧V.cell? ⟨g,f*5+4,none⟩=some y4))
variable (hk:k=m+1) (hf:f<k) (hm:m<100)
variable (hI1:∀W,Bl X W→Calls Tryz.prog 17 #[.agg #[u0,u1,u2,u3,u4],.int .i64 0] W fun e w'=>e=.returned (.int .u64 r0)∧Bl W w')
variable (hI2:∀W,Bl X W→Calls Tryz.prog 17 #[.agg #[y0,y1,y2,y3,y4],.int .i64 1] W fun e w'=>e=.returned (.int .u64 r1)∧Bl W w')
variable (fin:∀(w':World),Bl X w'→Q .normal { tmps:=#[(.int .i64 (k:Int)),(.int .i64 (f:Int)),x2,x3,x4,x5,x6,(.pointer (some ⟨BN,0,none⟩)),x8,x9,(.pointer (some ⟨g8,0,none⟩)),(.pointer (some ⟨g9,0,none⟩)),xc,xd,xe,xf,xg,xh,xi,xj,xl,xm,xn,xp,xq,xr,xs,xu,xv,xw,xx,xy,xz,z0,z1,z2,z3,z4,z5,z6,z7,z8,z9,za,zb,zc,zd,ze,zf,zg,zh,zi,zj,zl,zm,zn,zp,zq,zr,zs,zu,zv,zw,zx,zy,zz,t0,t1,t2,t3,t4,t5,t6,t7,t8,t9,ta,(.pointer (some ⟨g9,0,none⟩)),(.int .i64 0),(.bool false),(.bool false),(.pointer (some ⟨g8,0,none⟩)),(.slice (some ⟨ob,off,none⟩) 2 oc),(.pointer (some ⟨ob,off,none⟩)),(.slice (some ⟨b0,o0,none⟩) k k0),(.int .i64 (k:Int)),(.int .i64 (m:Int)),(.pointer (some ⟨b0,o0+m*9,none⟩)),(.pointer (some ⟨b0,o0+m*9,none⟩)),(.pointer (some ⟨b0,o0+m*9,none⟩)),(.int .u64 r0),(.pointer (some ⟨BN,0,none⟩)),(.slice (some ⟨g,0,none⟩) k c5),(.pointer (some ⟨g,0,none⟩)),(.agg #[u0,u1,u2,u3,u4]),(.int .u64 r0),(.bool false),(.bool false),(.bool false),(.pointer (some ⟨g8,0,none⟩)),(.slice (some ⟨ob,off,none⟩) 2 oc),(.pointer (some ⟨ob,off+1,none⟩)),(.slice (some ⟨b1,o1,none⟩) k k1),(.int .i64 (k:Int)),(.int .i64 (m:Int)),(.pointer (some ⟨b1,o1+m*9,none⟩)),(.pointer (some ⟨b1,o1+m*9,none⟩)),(.pointer (some ⟨b1,o1+m*9,none⟩)),(.int .u64 r1),(.pointer (some ⟨BN,0,none⟩)),(.slice (some ⟨g,0,none⟩) k c5),(.int .i64 (f:Int)),(.pointer (some ⟨g,f*5,none⟩)),(.agg #[y0,y1,y2,y3,y4]),(.int .u64 r1),(.bool false),(.bool false),vi,vj,vl,vm,vn,vp,vq,vr,vs,vu,vv,vw,vx,vy,vz,p0,p1,p2,p3,p4,p5,p6,p7,p8,p9,pa,pb,pc,pd,pe,pf],defers:=df } w')
include hQ hC hk hf hm hI1 hI2 fin in
theorem ut13 (tb tc td te tf tg th ti tj tl tm tn tp tq tr ts tu tv tw tx ty tz v0 v1 v2 v3 v4 v5 v6 v7 v8 v9 va vb vc vd ve vf vg vh:Value):(Code.region 13 ut13_ops true).wp Tryz.prog Q { tmps:=#[(.int .i64 (k:Int)),(.int .i64 (f:Int)),x2,x3,x4,x5,x6,(.pointer (some ⟨BN,0,none⟩)),x8,x9,(.pointer (some ⟨g8,0,none⟩)),(.pointer (some ⟨g9,0,none⟩)),xc,xd,xe,xf,xg,xh,xi,xj,xl,xm,xn,xp,xq,xr,xs,xu,xv,xw,xx,xy,xz,z0,z1,z2,z3,z4,z5,z6,z7,z8,z9,za,zb,zc,zd,ze,zf,zg,zh,zi,zj,zl,zm,zn,zp,zq,zr,zs,zu,zv,zw,zx,zy,zz,t0,t1,t2,t3,t4,t5,t6,t7,t8,t9,ta,tb,tc,td,te,tf,tg,th,ti,tj,tl,tm,tn,tp,tq,tr,ts,tu,tv,tw,tx,ty,tz,v0,v1,v2,v3,v4,v5,v6,v7,v8,v9,va,vb,vc,vd,ve,vf,vg,vh,vi,vj,vl,vm,vn,vp,vq,vr,vs,vu,vv,vw,vx,vy,vz,p0,p1,p2,p3,p4,p5,p6,p7,p8,p9,pa,pb,pc,pd,pe,pf],defers:=df } X:=by
 have hX0:Bl X X.drew:=Below.drew (Below.refl _ _);have i1:(0:Int)≤(f:Int):=(by omega)
 have i2:(f:Int)<(k:Int):=(by omega)
 have i3:(0:Int)<(k:Int):=(by omega)
 have i4:(0:Int)≤(m:Int):=(by omega)
 have i5:(m:Int)<(k:Int):=(by omega)
 have i6:IntKind.i64.wrap ((k:Int)-1)=(m:Int):=(by rw[IntKind.wrap_i64];omega)
 have i7:0<k:=(by omega)
 clear hk hm;refine wp_region_z (z:=39) (C:=fun W=>W.cell? ⟨g9,0,none⟩=some (.int .i64 0)∧W.cell? ⟨g8,0,none⟩=some (.slice (some ⟨ob,off,none⟩) 2 oc)∧W.cell? ⟨ob,off,none⟩=some (.slice (some ⟨b0,o0,none⟩) k k0)∧W.cell? ⟨ob,off+1,none⟩=some (.slice (some ⟨b1,o1,none⟩) k k1)∧W.cell? ⟨b0,o0+m*9,none⟩=some (.int .u64 r0)∧W.cell? ⟨b1,o1+m*9,none⟩=some (.int .u64 r1)∧W.cell? ⟨BN,0,none⟩=some (.slice (some ⟨g,0,none⟩) k c5)∧(W.cell? ⟨g,0,none⟩=some u0∧W.cell? ⟨g,1,none⟩=some u1∧W.cell? ⟨g,2,none⟩=some u2∧W.cell? ⟨g,3,none⟩=some u3∧W.cell? ⟨g,4,none⟩=some u4)∧(W.cell? ⟨g,f*5,none⟩=some y0∧W.cell? ⟨g,f*5+1,none⟩=some y1∧W.cell? ⟨g,f*5+2,none⟩=some y2∧W.cell? ⟨g,f*5+3,none⟩=some y3∧W.cell? ⟨g,f*5+4,none⟩=some y4)) (by kernel_rfl) (hC _ hX0) (fun hHeld => ?_);refine z_take (i:=0) (oi:=⟨some 77,.fieldAddr 26 (.tmp 11) 0,0, "top.go:162",#[],none⟩) (v := ?_) (some 77) rfl rfl (by kernel_rfl) (by kernel_rfl) (by kernel_rfl) (by decide) (fun c a w h=>hQ c a _ _ w h) (by rfl) ?_ hHeld ?_;rotate_left 1
 ·(intro wq;go_simp;try with_reducible rfl)
 (try simp only[Act.put,lsA,lsZ,lsS])
 refine z_load (i:=1) (oi:=⟨some 78,.load 24 (.tmp 77),24, "top.go:162",#[⟨0,.data⟩],none⟩) (v := ?_) (some 78) rfl rfl (by kernel_rfl) (by kernel_rfl) (by kernel_rfl) (by kernel_rfl) (fun c a w h=>hQ c a _ _ w h) (by rfl) ?_ hHeld ?_;rotate_left 1
 ·(intro wq hSw;go_simp;try with_reducible rfl)
 (try simp only[Act.put,lsA,lsZ,lsS])
 refine z_take (i:=2) (oi:=⟨some 79,.binOp .neq 24 (.tmp 78) (.const (.int .i64 0)) 24,4, "top.go:162",#[⟨1,.data⟩],none⟩) (v := ?_) (some 79) rfl rfl (by kernel_rfl) (by kernel_rfl) (by kernel_rfl) (by decide) (fun c a w h=>hQ c a _ _ w h) (by rfl) ?_ hHeld ?_;rotate_left 1
 ·(intro wq;go_simp;try with_reducible rfl)
 (try simp only[Act.put,lsA,lsZ,lsS])
 refine z_take (i:=3) (oi:=⟨some 80,.move (.tmp 79),4, "top.go:162",#[⟨2,.data⟩],none⟩) (v := ?_) (some 80) rfl rfl (by kernel_rfl) (by kernel_rfl) (by kernel_rfl) (by decide) (fun c a w h=>hQ c a _ _ w h) (by rfl) ?_ hHeld ?_;rotate_left 1
 ·(intro wq;go_simp;try with_reducible rfl)
 (try simp only[Act.put,lsA,lsZ,lsS])
 refine z_take (i:=4) (oi:=⟨some 81,.fieldAddr 43 (.tmp 10) 0,0, "top.go:162",#[⟨3,.guard⟩],some (3,false)⟩) (v := ?_) (some 81) rfl rfl (by kernel_rfl) (by kernel_rfl) (by kernel_rfl) (by decide) (fun c a w h=>hQ c a _ _ w h) (by rfl) ?_ hHeld ?_;rotate_left 1
 ·(intro wq;go_simp;try with_reducible rfl)
 (try simp only[Act.put,lsA,lsZ,lsS])
 refine z_load (i:=5) (oi:=⟨some 82,.load 41 (.tmp 81),41, "top.go:162",#[⟨4,.data⟩,⟨3,.guard⟩],some (3,false)⟩) (v := ?_) (some 82) rfl rfl (by kernel_rfl) (by kernel_rfl) (by kernel_rfl) (by kernel_rfl) (fun c a w h=>hQ c a _ _ w h) (by rfl) ?_ hHeld ?_;rotate_left 1
 ·(intro wq hSw;go_simp;try with_reducible rfl)
 (try simp only[Act.put,lsA,lsZ,lsS])
 refine z_take (i:=6) (oi:=⟨some 83,.indexAddr 41 (.tmp 82) (.const (.int .i64 0)),0, "top.go:162",#[⟨5,.data⟩,⟨3,.guard⟩],some (3,false)⟩) (v := ?_) (some 83) rfl rfl (by kernel_rfl) (by kernel_rfl) (by kernel_rfl) (by decide) (fun c a w h=>hQ c a _ _ w h) (by rfl) ?_ hHeld ?_;rotate_left 1
 ·(intro wq;go_simp;try with_reducible rfl)
 (try simp only[Act.put,lsA,lsZ,lsS])
 refine z_load (i:=7) (oi:=⟨some 84,.load 50 (.tmp 83),50, "top.go:162",#[⟨6,.data⟩,⟨3,.guard⟩],some (3,false)⟩) (v := ?_) (some 84) rfl rfl (by kernel_rfl) (by kernel_rfl) (by kernel_rfl) (by kernel_rfl) (fun c a w h=>hQ c a _ _ w h) (by rfl) ?_ hHeld ?_;rotate_left 1
 ·(intro wq hSw;go_simp;try with_reducible rfl)
 (try simp only[Act.put,lsA,lsZ,lsS])
 refine z_take (i:=8) (oi:=⟨some 85,.move (.tmp 0),3, "top.go:162",#[⟨3,.guard⟩],some (3,false)⟩) (v := ?_) (some 85) rfl rfl (by kernel_rfl) (by kernel_rfl) (by kernel_rfl) (by decide) (fun c a w h=>hQ c a _ _ w h) (by rfl) ?_ hHeld ?_;rotate_left 1
 ·(intro wq;go_simp;try with_reducible rfl)
 (try simp only[Act.put,lsA,lsZ,lsS])
 refine z_take (i:=9) (oi:=⟨some 86,.binOp .sub 3 (.tmp 85) (.const (.int .i64 1)) 3,3, "top.go:162",#[⟨8,.data⟩,⟨3,.guard⟩],some (3,false)⟩) (v := ?_) (some 86) rfl rfl (by kernel_rfl) (by kernel_rfl) (by kernel_rfl) (by decide) (fun c a w h=>hQ c a _ _ w h) (by rfl) ?_ hHeld ?_;rotate_left 1
 ·(intro wq;go_simp;try with_reducible rfl)
 (try simp only[Act.put,lsA,lsZ,lsS])
 refine z_take (i:=10) (oi:=⟨some 87,.indexAddr 50 (.tmp 84) (.tmp 86),0, "top.go:162",#[⟨7,.data⟩,⟨9,.data⟩,⟨3,.guard⟩],some (3,false)⟩) (v := ?_) (some 87) rfl rfl (by kernel_rfl) (by kernel_rfl) (by kernel_rfl) (by decide) (fun c a w h=>hQ c a _ _ w h) (by rfl) ?_ hHeld ?_;rotate_left 1
 ·(intro wq;go_simp;try with_reducible rfl)
 (try simp only[Act.put,lsA,lsZ,lsS])
 refine z_take (i:=11) (oi:=⟨some 88,.fieldAddr 52 (.tmp 87) 0,0, "top.go:162",#[⟨10,.data⟩,⟨3,.guard⟩],some (3,false)⟩) (v := ?_) (some 88) rfl rfl (by kernel_rfl) (by kernel_rfl) (by kernel_rfl) (by decide) (fun c a w h=>hQ c a _ _ w h) (by rfl) ?_ hHeld ?_;rotate_left 1
 ·(intro wq;go_simp;try with_reducible rfl)
 (try simp only[Act.put,lsA,lsZ,lsS])
 refine z_take (i:=12) (oi:=⟨some 89,.fieldAddr 36 (.tmp 88) 0,0, "top.go:162",#[⟨11,.data⟩,⟨3,.guard⟩],some (3,false)⟩) (v := ?_) (some 89) rfl rfl (by kernel_rfl) (by kernel_rfl) (by kernel_rfl) (by decide) (fun c a w h=>hQ c a _ _ w h) (by rfl) ?_ hHeld ?_;rotate_left 1
 ·(intro wq;go_simp;try with_reducible rfl)
 (try simp only[Act.put,lsA,lsZ,lsS])
 refine z_load (i:=13) (oi:=⟨some 90,.load 34 (.tmp 89),34, "top.go:162",#[⟨12,.data⟩,⟨3,.guard⟩],some (3,false)⟩) (v := ?_) (some 90) rfl rfl (by kernel_rfl) (by kernel_rfl) (by kernel_rfl) (by kernel_rfl) (fun c a w h=>hQ c a _ _ w h) (by rfl) ?_ hHeld ?_;rotate_left 1
 ·(intro wq hSw;go_simp;try with_reducible rfl)
 (try simp only[Act.put,lsA,lsZ,lsS])
 refine z_take (i:=14) (oi:=⟨some 91,.fieldAddr 32 (.tmp 7) 0,0, "top.go:162",#[⟨3,.guard⟩],some (3,false)⟩) (v := ?_) (some 91) rfl rfl (by kernel_rfl) (by kernel_rfl) (by kernel_rfl) (by decide) (fun c a w h=>hQ c a _ _ w h) (by rfl) ?_ hHeld ?_;rotate_left 1
 ·(intro wq;go_simp;try with_reducible rfl)
 (try simp only[Act.put,lsA,lsZ,lsS])
 refine z_load (i:=15) (oi:=⟨some 92,.load 29 (.tmp 91),29, "top.go:162",#[⟨14,.data⟩,⟨3,.guard⟩],some (3,false)⟩) (v := ?_) (some 92) rfl rfl (by kernel_rfl) (by kernel_rfl) (by kernel_rfl) (by kernel_rfl) (fun c a w h=>hQ c a _ _ w h) (by rfl) ?_ hHeld ?_;rotate_left 1
 ·(intro wq hSw;go_simp;try with_reducible rfl)
 (try simp only[Act.put,lsA,lsZ,lsS])
 refine z_take (i:=16) (oi:=⟨some 93,.indexAddr 29 (.tmp 92) (.const (.int .i64 0)),0, "top.go:162",#[⟨15,.data⟩,⟨3,.guard⟩],some (3,false)⟩) (v := ?_) (some 93) rfl rfl (by kernel_rfl) (by kernel_rfl) (by kernel_rfl) (by decide) (fun c a w h=>hQ c a _ _ w h) (by rfl) ?_ hHeld ?_;rotate_left 1
 ·(intro wq;go_simp;try with_reducible rfl)
 (try simp only[Act.put,lsA,lsZ,lsS])
 refine z_load (i:=17) (oi:=⟨some 94,.load 58 (.tmp 93),58, "top.go:162",#[⟨16,.data⟩,⟨3,.guard⟩],some (3,false)⟩) (v := ?_) (some 94) rfl rfl (by kernel_rfl) (by kernel_rfl) (by kernel_rfl) (by kernel_rfl) (fun c a w h=>hQ c a _ _ w h) (by rfl) ?_ hHeld ?_;rotate_left 1
 ·(intro wq hSw;go_simp;try with_reducible rfl)
 (try simp only[Act.put,lsA,lsZ,lsS])
 refine z_one (i:=18) (o:=⟨some 95,.call { callee:=.value (.func 17),args:=#[.tmp 94,.const (.int .i64 0)],argTypes:=#[58,3] },34, "top.go:162",#[⟨17,.data⟩,⟨3,.chain⟩,⟨3,.guard⟩],some (3,false)⟩) (by kernel_rfl) rfl (fun K hK => ?_);go_simp;refine(hI1 _ hX0).mono ?_;rintro e w1 ⟨rfl,hb⟩;have hX1:Bl X w1:=hX0.trans (hb.mono hX0.size);clear hHeld hb;refine hK.out _ _ (Or.inr (hC _ hX1)) (fun hHeld => ?_);clear hK K;(try simp only[lsA,lsZ,lsS])
 refine z_take (i:=19) (oi:=⟨some 96,.binOp .neq 34 (.tmp 90) (.tmp 95) 34,4, "top.go:162",#[⟨13,.data⟩,⟨18,.data⟩,⟨3,.guard⟩],some (3,false)⟩) (v := ?_) (some 96) rfl rfl (by kernel_rfl) (by kernel_rfl) (by kernel_rfl) (by decide) (fun c a w h=>hQ c a _ _ w h) (by rfl) ?_ hHeld ?_;rotate_left 1
 ·(intro wq;go_simp;try with_reducible rfl)
 (try simp only[Act.put,lsA,lsZ,lsS])
 refine z_take (i:=20) (oi:=⟨some 97,.pick (.tmp 80) (.const (Value.bool true)) (.tmp 96),4, "top.go:162",#[⟨3,.data⟩,⟨19,.data⟩],none⟩) (v := ?_) (some 97) rfl rfl (by kernel_rfl) (by kernel_rfl) (by kernel_rfl) (by decide) (fun c a w h=>hQ c a _ _ w h) (by rfl) ?_ hHeld ?_;rotate_left 1
 ·(intro wq;go_simp;try with_reducible rfl)
 (try simp only[Act.put,lsA,lsZ,lsS])
 refine z_take (i:=21) (oi:=⟨some 98,.move (.tmp 97),4, "top.go:162",#[⟨20,.data⟩,⟨18,.chain⟩],none⟩) (v := ?_) (some 98) rfl rfl (by kernel_rfl) (by kernel_rfl) (by kernel_rfl) (by decide) (fun c a w h=>hQ c a _ _ w h) (by rfl) ?_ hHeld ?_;rotate_left 1
 ·(intro wq;go_simp;try with_reducible rfl)
 (try simp only[Act.put,lsA,lsZ,lsS])
 refine z_take (i:=22) (oi:=⟨some 99,.fieldAddr 43 (.tmp 10) 0,0, "top.go:162",#[⟨21,.guard⟩],some (21,false)⟩) (v := ?_) (some 99) rfl rfl (by kernel_rfl) (by kernel_rfl) (by kernel_rfl) (by decide) (fun c a w h=>hQ c a _ _ w h) (by rfl) ?_ hHeld ?_;rotate_left 1
 ·(intro wq;go_simp;try with_reducible rfl)
 (try simp only[Act.put,lsA,lsZ,lsS])
 refine z_load (i:=23) (oi:=⟨some 100,.load 41 (.tmp 99),41, "top.go:162",#[⟨22,.data⟩,⟨21,.guard⟩],some (21,false)⟩) (v := ?_) (some 100) rfl rfl (by kernel_rfl) (by kernel_rfl) (by kernel_rfl) (by kernel_rfl) (fun c a w h=>hQ c a _ _ w h) (by rfl) ?_ hHeld ?_;rotate_left 1
 ·(intro wq hSw;go_simp;try with_reducible rfl)
 (try simp only[Act.put,lsA,lsZ,lsS])
 refine z_take (i:=24) (oi:=⟨some 101,.indexAddr 41 (.tmp 100) (.const (.int .i64 1)),0, "top.go:162",#[⟨23,.data⟩,⟨21,.guard⟩],some (21,false)⟩) (v := ?_) (some 101) rfl rfl (by kernel_rfl) (by kernel_rfl) (by kernel_rfl) (by decide) (fun c a w h=>hQ c a _ _ w h) (by rfl) ?_ hHeld ?_;rotate_left 1
 ·(intro wq;go_simp;try with_reducible rfl)
 (try simp only[Act.put,lsA,lsZ,lsS])
 refine z_load (i:=25) (oi:=⟨some 102,.load 50 (.tmp 101),50, "top.go:162",#[⟨24,.data⟩,⟨21,.guard⟩],some (21,false)⟩) (v := ?_) (some 102) rfl rfl (by kernel_rfl) (by kernel_rfl) (by kernel_rfl) (by kernel_rfl) (fun c a w h=>hQ c a _ _ w h) (by rfl) ?_ hHeld ?_;rotate_left 1
 ·(intro wq hSw;go_simp;try with_reducible rfl)
 (try simp only[Act.put,lsA,lsZ,lsS])
 refine z_take (i:=26) (oi:=⟨some 103,.move (.tmp 0),3, "top.go:162",#[⟨21,.guard⟩],some (21,false)⟩) (v := ?_) (some 103) rfl rfl (by kernel_rfl) (by kernel_rfl) (by kernel_rfl) (by decide) (fun c a w h=>hQ c a _ _ w h) (by rfl) ?_ hHeld ?_;rotate_left 1
 ·(intro wq;go_simp;try with_reducible rfl)
 (try simp only[Act.put,lsA,lsZ,lsS])
 refine z_take (i:=27) (oi:=⟨some 104,.binOp .sub 3 (.tmp 103) (.const (.int .i64 1)) 3,3, "top.go:162",#[⟨26,.data⟩,⟨21,.guard⟩],some (21,false)⟩) (v := ?_) (some 104) rfl rfl (by kernel_rfl) (by kernel_rfl) (by kernel_rfl) (by decide) (fun c a w h=>hQ c a _ _ w h) (by rfl) ?_ hHeld ?_;rotate_left 1
 ·(intro wq;go_simp;try with_reducible rfl)
 (try simp only[Act.put,lsA,lsZ,lsS])
 refine z_take (i:=28) (oi:=⟨some 105,.indexAddr 50 (.tmp 102) (.tmp 104),0, "top.go:162",#[⟨25,.data⟩,⟨27,.data⟩,⟨21,.guard⟩],some (21,false)⟩) (v := ?_) (some 105) rfl rfl (by kernel_rfl) (by kernel_rfl) (by kernel_rfl) (by decide) (fun c a w h=>hQ c a _ _ w h) (by rfl) ?_ hHeld ?_;rotate_left 1
 ·(intro wq;go_simp;try with_reducible rfl)
 (try simp only[Act.put,lsA,lsZ,lsS])
 refine z_take (i:=29) (oi:=⟨some 106,.fieldAddr 52 (.tmp 105) 0,0, "top.go:162",#[⟨28,.data⟩,⟨21,.guard⟩],some (21,false)⟩) (v := ?_) (some 106) rfl rfl (by kernel_rfl) (by kernel_rfl) (by kernel_rfl) (by decide) (fun c a w h=>hQ c a _ _ w h) (by rfl) ?_ hHeld ?_;rotate_left 1
 ·(intro wq;go_simp;try with_reducible rfl)
 (try simp only[Act.put,lsA,lsZ,lsS])
 refine z_take (i:=30) (oi:=⟨some 107,.fieldAddr 36 (.tmp 106) 0,0, "top.go:162",#[⟨29,.data⟩,⟨21,.guard⟩],some (21,false)⟩) (v := ?_) (some 107) rfl rfl (by kernel_rfl) (by kernel_rfl) (by kernel_rfl) (by decide) (fun c a w h=>hQ c a _ _ w h) (by rfl) ?_ hHeld ?_;rotate_left 1
 ·(intro wq;go_simp;try with_reducible rfl)
 (try simp only[Act.put,lsA,lsZ,lsS])
 refine z_load (i:=31) (oi:=⟨some 108,.load 34 (.tmp 107),34, "top.go:162",#[⟨30,.data⟩,⟨21,.guard⟩],some (21,false)⟩) (v := ?_) (some 108) rfl rfl (by kernel_rfl) (by kernel_rfl) (by kernel_rfl) (by kernel_rfl) (fun c a w h=>hQ c a _ _ w h) (by rfl) ?_ hHeld ?_;rotate_left 1
 ·(intro wq hSw;go_simp;try with_reducible rfl)
 (try simp only[Act.put,lsA,lsZ,lsS])
 refine z_take (i:=32) (oi:=⟨some 109,.fieldAddr 32 (.tmp 7) 0,0, "top.go:162",#[⟨21,.guard⟩],some (21,false)⟩) (v := ?_) (some 109) rfl rfl (by kernel_rfl) (by kernel_rfl) (by kernel_rfl) (by decide) (fun c a w h=>hQ c a _ _ w h) (by rfl) ?_ hHeld ?_;rotate_left 1
 ·(intro wq;go_simp;try with_reducible rfl)
 (try simp only[Act.put,lsA,lsZ,lsS])
 refine z_load (i:=33) (oi:=⟨some 110,.load 29 (.tmp 109),29, "top.go:162",#[⟨32,.data⟩,⟨21,.guard⟩],some (21,false)⟩) (v := ?_) (some 110) rfl rfl (by kernel_rfl) (by kernel_rfl) (by kernel_rfl) (by kernel_rfl) (fun c a w h=>hQ c a _ _ w h) (by rfl) ?_ hHeld ?_;rotate_left 1
 ·(intro wq hSw;go_simp;try with_reducible rfl)
 (try simp only[Act.put,lsA,lsZ,lsS])
 refine z_take (i:=34) (oi:=⟨some 111,.move (.tmp 1),3, "top.go:162",#[⟨21,.guard⟩],some (21,false)⟩) (v := ?_) (some 111) rfl rfl (by kernel_rfl) (by kernel_rfl) (by kernel_rfl) (by decide) (fun c a w h=>hQ c a _ _ w h) (by rfl) ?_ hHeld ?_;rotate_left 1
 ·(intro wq;go_simp;try with_reducible rfl)
 (try simp only[Act.put,lsA,lsZ,lsS])
 refine z_take (i:=35) (oi:=⟨some 112,.indexAddr 29 (.tmp 110) (.tmp 111),0, "top.go:162",#[⟨33,.data⟩,⟨34,.data⟩,⟨21,.guard⟩],some (21,false)⟩) (v := ?_) (some 112) rfl rfl (by kernel_rfl) (by kernel_rfl) (by kernel_rfl) (by decide) (fun c a w h=>hQ c a _ _ w h) (by rfl) ?_ hHeld ?_;rotate_left 1
 ·(intro wq;go_simp;try with_reducible rfl)
 (try simp only[Act.put,lsA,lsZ,lsS])
 refine z_load (i:=36) (oi:=⟨some 113,.load 58 (.tmp 112),58, "top.go:162",#[⟨35,.data⟩,⟨21,.guard⟩],some (21,false)⟩) (v := ?_) (some 113) rfl rfl (by kernel_rfl) (by kernel_rfl) (by kernel_rfl) (by kernel_rfl) (fun c a w h=>hQ c a _ _ w h) (by rfl) ?_ hHeld ?_;rotate_left 1
 ·(intro wq hSw;go_simp;try with_reducible rfl)
 (try simp only[Act.put,lsA,lsZ,lsS])
 refine z_one (i:=37) (o:=⟨some 114,.call { callee:=.value (.func 17),args:=#[.tmp 113,.const (.int .i64 1)],argTypes:=#[58,3] },34, "top.go:162",#[⟨36,.data⟩,⟨21,.chain⟩,⟨21,.guard⟩],some (21,false)⟩) (by kernel_rfl) rfl (fun K hK => ?_);go_simp;refine(hI2 _ hX1).mono ?_;rintro e w2 ⟨rfl,hb⟩;have hX2:Bl X w2:=hX1.trans (hb.mono hX1.size);clear hHeld hb;refine hK.out _ _ (Or.inr (hC _ hX2)) (fun hHeld => ?_);clear hK K;(try simp only[lsA,lsZ,lsS])
 refine z_take (i:=38) (oi:=⟨some 115,.binOp .neq 34 (.tmp 108) (.tmp 114) 34,4, "top.go:162",#[⟨31,.data⟩,⟨37,.data⟩,⟨21,.guard⟩],some (21,false)⟩) (v := ?_) (some 115) rfl rfl (by kernel_rfl) (by kernel_rfl) (by kernel_rfl) (by decide) (fun c a w h=>hQ c a _ _ w h) (by rfl) ?_ hHeld ?_;rotate_left 1
 ·(intro wq;go_simp;try with_reducible rfl)
 (try simp only[Act.put,lsA,lsZ,lsS])
 refine z_one (i:=39) (o:=⟨some 116,.pick (.tmp 98) (.const (Value.bool true)) (.tmp 115),4, "top.go:162",#[⟨21,.data⟩,⟨38,.data⟩],none⟩) (by kernel_rfl) rfl (fun K hK => ?_);go_simp;refine hK.out _ _ (Or.inl (by kernel_rfl)) (fun hHeld => ?_);(try simp only[lsA,lsZ,lsS])
 refine z_done (by kernel_rfl) ?_ _;exact fin _ hX2
end
end
end Go.Proofs.YtflghpnpjmodaaaGreatDoor
