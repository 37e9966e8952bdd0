/- Lists of ints in rows of the call's own: one more; sorted -/
import Derived.Test.YtaneiffnhphkhaaGreatDoorD08
import Derived.Test.YtaneiffnhphkhaaGreatDoorD01
import Derived.Test.YtaneiffnhphkhaaGreatDoorD05
import Derived.Deep.RegionHeld3
import Derived.Deep.DeepCutAuto
import Derived.Shelf.Sort.Plain
import Derived.Shelf.Slices.In.SortNone
import Derived.Sort.OwnSortedInts
set_option maxRecDepth 100000
set_option maxHeartbeats 40000000
namespace Go.Proofs.YtaneiffnhphkhaaGreatDoor
section
open Go.RowKit
open Vc (V Of)
def mayV (id:Int) (o:Of):V:=if Vc.may id o then o.v else Vc.v0
theorem vmay_any (id:Int) (o:Of) (w:World) :
  Calls Tryz.prog 118 #[.int .u64 id,.agg #[.int .i64 o.port,.int .i64 o.cost,.int .i64 o.age,.int .u64 o.vec.root,.int .i64 o.vec.cost,.int .u64 o.vec.bridge,.int .i64 o.vec.port]] w fun e w'=>e=.returned (.tuple #[.agg (vA (mayV id o)),.bool (decide (Vc.may id o))])∧Bl w w':=by
 obtain⟨op,oc,oa,⟨vr,vc,vb,vp⟩⟩:=o;have HM:Hid (Vc.may id ⟨op,oc,oa,⟨vr,vc,vb,vp⟩⟩↔Vc.fitsOver ⟨vr,vc,vb,vp⟩ oc∧0≤op∧(0≤oa∧oa<20)∧vr<id):=Iff.rfl;have HNO:Hid (¬Vc.may id ⟨op,oc,oa,⟨vr,vc,vb,vp⟩⟩→(Ending.returned (.tuple #[.agg (vA (mayV id ⟨op,oc,oa,⟨vr,vc,vb,vp⟩⟩)),.bool (decide (Vc.may id ⟨op,oc,oa,⟨vr,vc,vb,vp⟩⟩))]):Ending)=.returned (.tuple #[.agg (vA Vc.v0),.bool false])):=fun h=>by
  unfold mayV;rw[if_neg h,decide_eq_false h]
 have HYES:Hid (0≤op∧(0≤oa∧oa<20)∧vr<id→(Ending.returned (.tuple #[.agg (vA (mayV id ⟨op,oc,oa,⟨vr,vc,vb,vp⟩⟩)),.bool (decide (Vc.may id ⟨op,oc,oa,⟨vr,vc,vb,vp⟩⟩))]):Ending)=.returned (.tuple #[.agg (vA (Vc.overV ⟨vr,vc,vb,vp⟩ oc)),.bool (decide (Vc.fitsOver ⟨vr,vc,vb,vp⟩ oc))])):=fun h=>by
  unfold mayV Vc.overV;by_cases hf:Vc.fitsOver ⟨vr,vc,vb,vp⟩ oc
  ·rw[if_pos (HM.out.2 ⟨hf,h⟩),if_pos hf,decide_eq_true (HM.out.2 ⟨hf,h⟩),decide_eq_true hf];rfl
  ·have hm:¬Vc.may id ⟨op,oc,oa,⟨vr,vc,vb,vp⟩⟩:=fun q=>hf (HM.out.1 q).1;rw[if_neg hm,if_neg hf,decide_eq_false hm,decide_eq_false hf]
 have HWI:Hid (∀W,Calls Tryz.prog 30 #[.int .i64 oa,.int .i64 0,.int .i64 19] W fun e w'=>e=.returned (.bool (decide (0≤oa∧oa≤19)))∧w'=W):=fun W=>vwithin_any oa 0 19 W;have HOV:Hid (∀W,Calls Tryz.prog 145 #[.agg #[.int .u64 vr,.int .i64 vc,.int .u64 vb,.int .i64 vp],.int .i64 oc] W fun e w'=>e=.returned (.tuple #[.agg (vA (Vc.overV ⟨vr,vc,vb,vp⟩ oc)),.bool (decide (Vc.fitsOver ⟨vr,vc,vb,vp⟩ oc))])∧Bl W w'):=fun W=>vover_any ⟨vr,vc,vb,vp⟩ oc W;simp only;obtain⟨R,hR⟩:∃R:Ending,(Ending.returned (.tuple #[.agg (vA (mayV id ⟨op,oc,oa,⟨vr,vc,vb,vp⟩⟩)),.bool (decide (Vc.may id ⟨op,oc,oa,⟨vr,vc,vb,vp⟩⟩))]):Ending)=R:=⟨_,rfl⟩
 rw[hR] at HNO HYES ⊢;clear hR;by_cases q1:op<0
 ·have HF:Hid _:=HNO.out (fun q=>by have:=(HM.out.1 q).2.1;omega);rw[HF.out];clear HNO HYES HM HF;go_enter Tryz.func118,Tryz.ntmps118;(go_wp2_with fail);exact bodyPost_ret (v:=.tuple #[.agg (vA Vc.v0),.bool false]) (rRt (p:=4) (u:=5) (ty:=58) Tryz.results118 _ _ (w.heap.size+1) 58 (vA Vc.v0) (0,0) _ rfl (heap_alloc2_new w _ _) Tryz.underlying58 rfl (by rw[sizeVc];rfl)) rfl ⟨rfl,bA2 _ _ _⟩
 ·by_cases q2:0≤oa∧oa≤19
  ·rw[decide_eq_true q2] at HWI;by_cases q3:id≤vr
   ·have HF:Hid _:=HNO.out (fun q=>by have:=(HM.out.1 q).2.2.2;omega);rw[HF.out];clear HNO HYES HM HF q2;go_enter Tryz.func118,Tryz.ntmps118;(go_wp2_with fail);refine(HWI.out _).mono ?_;rintro e w1 ⟨rfl,rfl⟩;(go_wp2_with fail);exact bodyPost_ret (v:=.tuple #[.agg (vA Vc.v0),.bool false]) (rRt (p:=4) (u:=5) (ty:=58) Tryz.results118 _ _ (w.heap.size+1) 58 (vA Vc.v0) (0,0) _ rfl (heap_alloc2_new w _ _) Tryz.underlying58 rfl (by rw[sizeVc];rfl)) rfl ⟨rfl,bA2 _ _ _⟩
   ·have HF:Hid _:=HYES.out ⟨by omega,⟨by omega,by omega⟩,by omega⟩;rw[HF.out];clear HNO HYES HM HF q2;generalize Vc.overV ⟨vr,vc,vb,vp⟩ oc=z at *;generalize decide (Vc.fitsOver ⟨vr,vc,vb,vp⟩ oc)=bz at *;obtain⟨z0,z1,z2,z3⟩:=z;obtain⟨W0,HW0⟩:∃W0,Hid (W0=(w.alloc (.cells #[.int .i64 op,.int .i64 oc,.int .i64 oa,.int .u64 vr,.int .i64 vc,.int .u64 vb,.int .i64 vp] 141)).alloc (.cells #[.int .u64 0,.int .i64 0,.int .u64 0,.int .i64 0] 58)):=⟨_,rfl⟩
    have HB0:Hid (Bl w W0):=(by rw[HW0.out];exact bA2 _ _ _)
    have HR0:Hid (W0.heap[w.heap.size+1]?=some (.cells #[.int .u64 0,.int .i64 0,.int .u64 0,.int .i64 0] 58)):=(by rw[HW0.out];exact heap_alloc2_new _ _ _)
    go_enter Tryz.func118,Tryz.ntmps118;(go_wp2_with fail);refine(HWI.out _).mono ?_;rintro e w1 ⟨rfl,rfl⟩;(go_wp2_with fail);rw[←HW0.out];refine(HOV.out _).mono ?_;rintro e w1 ⟨rfl,hb1⟩;have HX:Hid (w1.heap[w.heap.size+1]?=some (.cells #[.int .u64 0,.int .i64 0,.int .u64 0,.int .i64 0] 58)):=keep HR0.out hb1;obtain⟨c0,c1,c2,c3⟩:=vc_cells HX.out;obtain⟨f0,f1,f2,f3⟩:=vc_free HX.out;have HLB:Hid (Bl w w1):=HB0.out.trans (hb1.mono HB0.out.size);clear hb1;simp only[vA];(go_wp2_with fail);have hle:w.heap.size≤w.heap.size+1:=(by omega)
    exact bodyPost_ret (v:=.tuple #[.agg #[.int .u64 z0,.int .i64 z1,.int .u64 z2,.int .i64 z3],.bool bz]) (rRt (p:=4) (u:=5) (ty:=58) Tryz.results118 _ _ (w.heap.size+1) 58 #[.int .u64 z0,.int .i64 z1,.int .u64 z2,.int .i64 z3] (0,0) _ rfl (vc_set4 HX.out) Tryz.underlying58 rfl (by rw[sizeVc];rfl)) rfl ⟨rfl,(((HLB.out.setCell hle _).setCell hle _).setCell hle _).setCell hle _⟩
  ·rw[decide_eq_false q2] at HWI;have HF:Hid _:=HNO.out (fun q=>by have:=(HM.out.1 q).2.2.1;omega);rw[HF.out];clear HNO HYES HM HF q2;go_enter Tryz.func118,Tryz.ntmps118;(go_wp2_with fail);refine(HWI.out _).mono ?_;rintro e w1 ⟨rfl,rfl⟩;(go_wp2_with fail);exact bodyPost_ret (v:=.tuple #[.agg (vA Vc.v0),.bool false]) (rRt (p:=4) (u:=5) (ty:=58) Tryz.results118 _ _ (w.heap.size+1) 58 (vA Vc.v0) (0,0) _ rfl (heap_alloc2_new w _ _) Tryz.underlying58 rfl (by rw[sizeVc];rfl)) rfl ⟨rfl,bA2 _ _ _⟩
theorem drew3 {w w':World}{i j n:Nat}{a b:Option Obj}(h:w'.heap[i]?=a∧w'.heap[j]?=b∧Below n w w'):w'.drew.heap[i]?=a∧w'.drew.heap[j]?=b∧Below n w w'.drew:=⟨h.1,h.2.1,h.2.2.drew⟩
def or2 (x y:Int):Int:=if x=0 then y else x
theorem cor2 (x y:Int) (g:Nat) (ty:TypeId) (w:World) (h:w.heap[g]?=some (.cells #[.int .i64 x,.int .i64 y] ty (0,0))) :
  Calls Tryz.prog 119 #[.slice (some ⟨g,0,none⟩) 2 2] w fun e w'=>e=.returned (.int .i64 (or2 x y))∧w'=w:=by
 have e:orTo (fun i=>if i=0 then x else y) 2=or2 x y:=by
  by_cases h:x=0<;>simp[orTo,or2,h]
 rw[←e];refine cor_any g 0 2 2 _ w (by omega) (by omega) (fun i hi => ?_);rcases(by omega:i=0∨i=1) with e | e<;>subst e
 ·exact cell_of_row w g 0 _ _ _ h
 ·exact cell_of_row w g 1 _ _ _ h
theorem or2_ahead (o p:Of):decide (or2 (Vc.cmp o.v p.v) (sg o.port p.port)<0)=decide (Vc.ahead o p):=by
 by_cases h:Vc.ahead o p
 ·rw[decide_eq_true h];apply decide_eq_true
  rcases h with h | ⟨h,h2⟩
  ·have:Vc.cmp o.v p.v<0:=Vc.cmp_lt.2 h;unfold or2;rw[if_neg (by omega)];exact this
  ·unfold or2 sg;rw[if_pos (Vc.cmp_zero.2 h),if_pos h2];omega
 ·rw[decide_eq_false h];apply decide_eq_false
  unfold or2;by_cases h0:Vc.cmp o.v p.v=0
  ·rw[if_pos h0];unfold sg;rw[if_neg (fun q=>h (Or.inr ⟨Vc.cmp_zero.1 h0,q⟩))];split<;>omega
  ·rw[if_neg h0];exact fun q=>h (Or.inl (Vc.cmp_lt.1 q))
theorem vbestOffer_any (id:Int) (ao:Option Addr) (n cap:Nat) (os:Nat→Of) (w:World) (hn:n≤9223372036854775807) (hr:ORow w ao n cap os) :
  Calls Tryz.prog 89 #[.int .u64 id,.slice ao n cap] w fun e w'=>e=.returned (.tuple #[.int .i64 (atTo id os n),.agg (vA (bestV id os n))])∧Bl w w':=by
 have HR:Hid (ORow w ao n cap os):=hr;clear hr;go_enter Tryz.func89,Tryz.ntmps89;(go_wp2_with fail);go_loopw [6,15] (fun a i wr=>∃k:Nat,k≤n∧i=.int .i64 k∧a=.int .i64 (atTo id os k)∧Hid (wr.heap[w.heap.size]?=some (.cells (vA Vc.v0) 58)∧wr.heap[w.heap.size+1]?=some (.cells (vA (bestV id os k)) 58)∧Bl w wr)) (fun _ i _=>n-(intOf i).toNat)
 case atStart=>exact⟨0,by omega,rfl,rfl,heap_alloc2_old w _ _,heap_alloc2_new w _ _,bA2 _ _ _⟩
 case round =>
  obtain⟨k,hk,rfl,rfl,hX⟩:=hrel;by_cases hlt:k<n
  ·obtain⟨b,off,rfl,hb⟩:=CRow.some HR.out (by omega);have hcap:=HR.out.1;have HRW:Hid (∀W,Bl w W→ORow W (some ⟨b,off,none⟩) n cap os):=fun W hW=>CRow.other HR.out (fun q _ _ hq=>hW.block q hq) hW.size;obtain⟨c0,c1,c2,c3,c4,c5,c6⟩:=ORow.cells (HRW.out wr hX.out.2.2) hlt;have HNO:Hid (¬Vc.may id (os k)→atTo id os (k+1)=atTo id os k∧bestV id os (k+1)=bestV id os k):=fun h=>by
    unfold atTo bestV;have e:Vc.chTo id os (k+1)=Vc.chTo id os k:=(by simp only[Vc.chTo];rw[if_neg h])
    rw[e];exact⟨rfl,rfl⟩
   have HFIRST:Hid (Vc.may id (os k)→Vc.chTo id os k=none→atTo id os (k+1)=k∧bestV id os (k+1)=(os k).v):=fun h h2=>by
    have e:Vc.chTo id os (k+1)=some k:=(by simp only[Vc.chTo];rw[if_pos h,h2])
    unfold atTo bestV;rw[e];exact⟨rfl,rfl⟩
   have HTHEN:Hid (∀j,Vc.may id (os k)→Vc.chTo id os k=some j→(Vc.ahead (os k) (os j)→atTo id os (k+1)=k∧bestV id os (k+1)=(os k).v)∧(¬Vc.ahead (os k) (os j)→atTo id os (k+1)=atTo id os k∧bestV id os (k+1)=bestV id os k)):=fun j h h2=>by
    constructor
    ·intro ha;have e:Vc.chTo id os (k+1)=some k:=(by simp only[Vc.chTo];rw[if_pos h,h2];simp only;rw[if_pos ha])
     unfold atTo bestV;rw[e];exact⟨rfl,rfl⟩
    ·intro ha;have e:Vc.chTo id os (k+1)=some j:=(by simp only[Vc.chTo];rw[if_pos h,h2];simp only;rw[if_neg ha])
     unfold atTo bestV;rw[e,h2];exact⟨rfl,rfl⟩
   have HXX:Hid (wr.heap[w.heap.size]?=some (.cells (vA Vc.v0) 58)∧wr.heap[w.heap.size+1]?=some (.cells (vA (bestV id os k)) 58)∧Bl w wr):=hX;have HLS:Hid (w.heap.size+1<wr.heap.size):=(gSm.1 hX.out.2.1).1;have HBV:Hid (∀j,Vc.chTo id os k=some j→bestV id os k=(os j).v∧atTo id os k=(j:Int)):=fun j h=>by unfold bestV atTo;rw[h];exact⟨rfl,rfl⟩
   have HBN:Hid (Vc.chTo id os k=none→atTo id os k = -1):=fun h=>by unfold atTo;rw[h]
   have HMT:Hid (∀W,Calls Tryz.prog 118 #[.int .u64 id,.agg #[.int .i64 (os k).port,.int .i64 (os k).cost,.int .i64 (os k).age,.int .u64 (os k).vec.root,.int .i64 (os k).vec.cost,.int .u64 (os k).vec.bridge,.int .i64 (os k).vec.port]] W fun e w'=>e=.returned (.tuple #[.agg (vA (mayV id (os k))),.bool (decide (Vc.may id (os k)))])∧Hid (Bl W w')):=fun W=>vmay_any id (os k) W;have HBB:Hid (b<w.heap.size):=hb;clear hX hb HR;by_cases hm:Vc.may id (os k)
   ·have hmv:mayV id (os k)=(os k).v:=if_pos hm;rw[decide_eq_true hm,hmv] at HMT;clear hmv HNO;have HOA:Hid (∀j,decide (or2 (Vc.cmp (os k).v (os j).v) (sg (os k).port (os j).port)<0)=decide (Vc.ahead (os k) (os j))):=fun j=>or2_ahead _ _;obtain⟨Y,HY⟩:∃Y,Hid (Y=wr.alloc (.cells #[.int .i64 (os k).port,.int .i64 (os k).cost,.int .i64 (os k).age,.int .u64 (os k).vec.root,.int .i64 (os k).vec.cost,.int .u64 (os k).vec.bridge,.int .i64 (os k).vec.port] 141)):=⟨_,rfl⟩
    obtain⟨G,HG⟩:∃G,Hid (G=wr.heap.size):=⟨_,rfl⟩
    have HYB:Hid (Bl wr Y):=(by rw[HY.out];exact bA1 _ _)
    have HYO:Hid (Y.heap[G]?=some (.cells #[.int .i64 (os k).port,.int .i64 (os k).cost,.int .i64 (os k).age,.int .u64 (os k).vec.root,.int .i64 (os k).vec.cost,.int .u64 (os k).vec.bridge,.int .i64 (os k).vec.port] 141)):=(by rw[HY.out,HG.out];exact heap_alloc_last _ _)
    generalize hv:(os k).v=v at *;obtain⟨vr,vc,vb,vp⟩:=v;(go_wp2_with fail);rw[←HY.out,←HG.out];refine(HMT.out _).mono ?_;rintro e w2 ⟨rfl,hb2⟩;simp only[vA];obtain⟨X,HX⟩:∃X,Hid (X=w2.alloc (.cells #[.int .u64 vr,.int .i64 vc,.int .u64 vb,.int .i64 vp] 58)):=⟨_,rfl⟩
    obtain⟨G2,HG2⟩:∃G2,Hid (G2=w2.heap.size):=⟨_,rfl⟩
    have HYX:Hid (Bl Y X):=(by rw[HX.out];exact hb2.out.alloc hb2.out.size _)
    have HXB:Hid (Bl wr X):=HYB.out.trans (HYX.out.mono HYB.out.size);have HXO:Hid (X.heap[G]?=some (.cells #[.int .i64 (os k).port,.int .i64 (os k).cost,.int .i64 (os k).age,.int .u64 (os k).vec.root,.int .i64 (os k).vec.cost,.int .u64 (os k).vec.bridge,.int .i64 (os k).vec.port] 141)):=keep HYO.out HYX.out;have HXV:Hid (X.heap[G2]?=some (.cells #[.int .u64 vr,.int .i64 vc,.int .u64 vb,.int .i64 vp] 58)):=(by rw[HX.out,HG2.out];exact heap_alloc_last _ _)
    have HXR:Hid (X.heap[w.heap.size]?=some (.cells (vA Vc.v0) 58)):=keep HXX.out.1 HXB.out;have HXG:Hid (X.heap[w.heap.size+1]?=some (.cells (vA (bestV id os k)) 58)):=keep HXX.out.2.1 HXB.out;have HXL:Hid (Bl w X):=HXX.out.2.2.trans (HXB.out.mono HXX.out.2.2.size);have HN2:Hid (w.heap.size+1≠G2):=by
     have h1:=HLS.out;have h2:=(HYB.out.trans (hb2.out.mono HYB.out.size)).size;show w.heap.size+1≠G2;rw[HG2.out];omega
    have HST:Hid (∀W,Bl X W→bestV id os (k+1)=⟨vr,vc,vb,vp⟩→((((W.setCell ⟨w.heap.size+1,0,none⟩ (.int .u64 vr)).setCell ⟨w.heap.size+1,1,none⟩ (.int .i64 vc)).setCell ⟨w.heap.size+1,2,none⟩ (.int .u64 vb)).setCell ⟨w.heap.size+1,3,none⟩ (.int .i64 vp)).heap[w.heap.size]?=some (.cells (vA Vc.v0) 58)∧((((W.setCell ⟨w.heap.size+1,0,none⟩ (.int .u64 vr)).setCell ⟨w.heap.size+1,1,none⟩ (.int .i64 vc)).setCell ⟨w.heap.size+1,2,none⟩ (.int .u64 vb)).setCell ⟨w.heap.size+1,3,none⟩ (.int .i64 vp)).heap[w.heap.size+1]?=some (.cells (vA (bestV id os (k+1))) 58)∧Bl w ((((W.setCell ⟨w.heap.size+1,0,none⟩ (.int .u64 vr)).setCell ⟨w.heap.size+1,1,none⟩ (.int .i64 vc)).setCell ⟨w.heap.size+1,2,none⟩ (.int .u64 vb)).setCell ⟨w.heap.size+1,3,none⟩ (.int .i64 vp))):=fun W hW h=>by
     rw[h];have hl:=HXL.out.trans (hW.mono HXL.out.size);have hle:w.heap.size≤w.heap.size+1:=(by omega)
     exact⟨(set4_other (by omega)).trans (keep HXR.out hW),vc_set4 (keep HXG.out hW),(((hl.setCell hle _).setCell hle _).setCell hle _).setCell hle _⟩
    have HKP:Hid (∀W,Bl X W→bestV id os (k+1)=bestV id os k→W.heap[w.heap.size]?=some (.cells (vA Vc.v0) 58)∧W.heap[w.heap.size+1]?=some (.cells (vA (bestV id os (k+1))) 58)∧Bl w W):=fun W hW h=>by
     rw[h];exact⟨keep HXR.out hW,keep HXG.out hW,HXL.out.trans (hW.mono HXL.out.size)⟩
    have HVC:Hid (∀W,Bl X W→W.cell? ⟨G2,0,none⟩=some (.int .u64 vr)∧W.cell? ⟨G2,1,none⟩=some (.int .i64 vc)∧W.cell? ⟨G2,2,none⟩=some (.int .u64 vb)∧W.cell? ⟨G2,3,none⟩=some (.int .i64 vp)):=fun W hW=>vc_cells (keep HXV.out hW);have HGF:Hid (∀W,Bl X W→(W.frozen? ⟨w.heap.size+1,0,none⟩=false∧W.frozen? ⟨w.heap.size+1,1,none⟩=false∧W.frozen? ⟨w.heap.size+1,2,none⟩=false∧W.frozen? ⟨w.heap.size+1,3,none⟩=false)∧∃g0 g1 g2 g3,W.cell? ⟨w.heap.size+1,0,none⟩=some g0∧W.cell? ⟨w.heap.size+1,1,none⟩=some g1∧W.cell? ⟨w.heap.size+1,2,none⟩=some g2∧W.cell? ⟨w.heap.size+1,3,none⟩=some g3):=fun W hW=>⟨vc_free (keep HXG.out hW),_,_,_,_,vc_cells (keep HXG.out hW)⟩
    have HXX0:Hid (Bl X X):=Below.refl _ _;clear HMT HY HYB HYO HYX HXB hb2 c0 c1 c2 c3 c4 c5 c6;(go_wp2_with fail);rw[←HX.out,←HG2.out];cases hc:Vc.chTo id os k with
    | none =>
     have hat:=HBN.out hc;obtain⟨z1,z2⟩:=HFIRST.out hm hc;rw[hat];clear HFIRST HTHEN HBV HBN hm hc hat HOA;(go_quiet (fail));obtain⟨Z,HZ⟩:∃Z,Hid (Z=X.drewN nq):=⟨_,rfl⟩
     have HZB:Hid (Bl X Z):=(by rw[HZ.out];exact below_drewN HXX0.out _)
     rw[←HZ.out];obtain⟨y0,y1,y2,y3⟩:=HVC.out Z HZB.out;obtain⟨⟨f0,f1,f2,f3⟩,g0,g1,g2,g3,b0,b1,b2,b3⟩:=HGF.out Z HZB.out;have HFN:Hid _:=drew3 (HST.out Z HZB.out z2);clear HST HKP HVC HGF HXX;(go_wp2_with fail);go_region
     (all_goals go_wp2_with fail);all_goals exact⟨⟨k+1,by omega,by go_num,by rw[z1],HFN⟩,by simp[intOf];omega⟩
    | some j =>
     obtain⟨hbv,hat⟩:=HBV.out j hc;have hjk:=(Vc.chTo_some id os k j hc).1;obtain⟨hw,hl⟩:=HTHEN.out j hm hc;have hoa:=HOA.out j;rw[hat] at hl;rw[hbv] at HXG;have HPJ:Hid (∀W,Bl X W→W.cell? ⟨b,off+j*7,none⟩=some (.int .i64 (os j).port)):=fun W hW=>(ORow.cells (HRW.out W (HXL.out.trans (hW.mono HXL.out.size))) (show j<n by omega)).1;have HOC:Hid (∀W,Bl X W→W.cell? ⟨G,0,none⟩=some (.int .i64 (os k).port)):=fun W hW=>(of_cells (keep HXO.out hW)).1;generalize hvj:(os j).v=u at *;obtain⟨ur,uc,ub,up⟩:=u;have HBC:Hid (∀W,Bl X W→W.cell? ⟨w.heap.size+1,0,none⟩=some (.int .u64 ur)∧W.cell? ⟨w.heap.size+1,1,none⟩=some (.int .i64 uc)∧W.cell? ⟨w.heap.size+1,2,none⟩=some (.int .u64 ub)∧W.cell? ⟨w.heap.size+1,3,none⟩=some (.int .i64 up)):=fun W hW=>vc_cells (keep HXG.out hW);have HCM:Hid (∀W,Bl X W→Calls Tryz.prog 120 #[.agg #[.int .u64 vr,.int .i64 vc,.int .u64 vb,.int .i64 vp],.agg #[.int .u64 ur,.int .i64 uc,.int .u64 ub,.int .i64 up]] W fun e w'=>e=.returned (.int .i64 (Vc.cmp ⟨vr,vc,vb,vp⟩ ⟨ur,uc,ub,up⟩))∧Hid (Bl X w')):=fun W hW=>(vcompare_any ⟨vr,vc,vb,vp⟩ ⟨ur,uc,ub,up⟩ W).mono (fun e w' h=>⟨h.1,hW.trans (h.2.mono hW.size)⟩);have HSX:Hid (∀W,Bl X W→(W.cell? ⟨G2,0,none⟩=some (.int .u64 vr)∧W.cell? ⟨G2,1,none⟩=some (.int .i64 vc)∧W.cell? ⟨G2,2,none⟩=some (.int .u64 vb)∧W.cell? ⟨G2,3,none⟩=some (.int .i64 vp))∧(W.cell? ⟨w.heap.size+1,0,none⟩=some (.int .u64 ur)∧W.cell? ⟨w.heap.size+1,1,none⟩=some (.int .i64 uc)∧W.cell? ⟨w.heap.size+1,2,none⟩=some (.int .u64 ub)∧W.cell? ⟨w.heap.size+1,3,none⟩=some (.int .i64 up))∧W.cell? ⟨b,off+j*7,none⟩=some (.int .i64 (os j).port)∧W.cell? ⟨G,0,none⟩=some (.int .i64 (os k).port)):=fun W hW=>⟨HVC.out W hW,HBC.out W hW,HPJ.out W hW,HOC.out W hW⟩
     have ij:(0:Int)≤(j:Int):=(by omega)
     have jn:(j:Int)<(n:Int):=(by omega)
     have dj:decide ((j:Int)<0)=false:=decide_eq_false (by omega);rw[hat];clear hc hm HFIRST HTHEN HBV HBN HRW HXX HLS HOA hv hvj hat hbv HXG HXO HPJ HOC HBC HXV;generalize hP:(os k).port=kp at *;generalize hQ:(os j).port=jp at *;obtain⟨⟨s0,s1,s2,s3⟩,⟨t0,t1,t2,t3⟩,p0,p1⟩:=HSX.out X HXX0.out;generalize hcv:Vc.cmp ⟨vr,vc,vb,vp⟩ ⟨ur,uc,ub,up⟩=CV at *;obtain⟨OV,hOV⟩:∃OV,or2 CV (sg kp jp)=OV:=⟨_,rfl⟩
     rw[hOV] at hoa;have HOR:Hid (∀(g:Nat) (ty:TypeId) (W:World),W.heap[g]?=some (.cells #[.int .i64 CV,.int .i64 (sg kp jp)] ty (0,0))→Calls Tryz.prog 119 #[.slice (some ⟨g,0,none⟩) 2 2] W fun e w'=>e=.returned (.int .i64 OV)∧w'=W):=fun g ty W h=>by rw[←hOV];exact cor2 _ _ g ty W h
     clear hOV;have HOA2:Hid (decide (OV<0)=decide (Vc.ahead (os k) (os j))):=hoa;clear hoa;go_region_held3 (fun W=>(W.cell? ⟨G2,0,none⟩=some (.int .u64 vr)∧W.cell? ⟨G2,1,none⟩=some (.int .i64 vc)∧W.cell? ⟨G2,2,none⟩=some (.int .u64 vb)∧W.cell? ⟨G2,3,none⟩=some (.int .i64 vp))∧(W.cell? ⟨w.heap.size+1,0,none⟩=some (.int .u64 ur)∧W.cell? ⟨w.heap.size+1,1,none⟩=some (.int .i64 uc)∧W.cell? ⟨w.heap.size+1,2,none⟩=some (.int .u64 ub)∧W.cell? ⟨w.heap.size+1,3,none⟩=some (.int .i64 up))∧W.cell? ⟨b,off+j*7,none⟩=some (.int .i64 jp)∧W.cell? ⟨G,0,none⟩=some (.int .i64 kp))
      (first | (exact HSX.out _ (Below.drew HXX0.out)) | (exact HSX.out _ (Hid.out (by assumption))) | (exact HSX.out _ ((Hid.out HB1).alloc (Hid.out HB1).size _)))
      (first | (go_at_call 120;refine(HCM.out _ (Below.drew HXX0.out)).mono ?_;rintro e w3 ⟨rfl,HB1⟩) | (go_at_call 78;refine(ccmpi_any _ _ _).mono ?_;rintro e w3 ⟨rfl,rfl⟩) | (go_at_call 119;refine(HOR.out _ _ _ (heap_alloc_last _ _)).mono ?_;rintro e w4 ⟨rfl,rfl⟩))
     have HBZ:Hid (∀o,Bl X (w3.alloc o)):=fun o=>HB1.out.alloc HB1.out.size o;by_cases ha:Vc.ahead (os k) (os j)
     ·have hoa2:OV<0:=of_decide_eq_true (HOA2.out.trans (decide_eq_true ha));obtain⟨z1,z2⟩:=hw ha;obtain⟨Z,HZ⟩:∃Z,Hid (Z=w3.alloc (.cells #[.int .i64 CV,.int .i64 (sg kp jp)] 3)):=⟨_,rfl⟩
      have HZB:Hid (Bl X Z):=(by rw[HZ.out];exact HBZ.out _)
      obtain⟨y0,y1,y2,y3⟩:=HVC.out Z HZB.out;obtain⟨⟨f0,f1,f2,f3⟩,g0,g1,g2,g3,b0,b1,b2,b3⟩:=HGF.out Z HZB.out;have HFN:Hid _:=drew3 (HST.out Z HZB.out z2);clear HST HKP HVC HGF HSX HCM hw hl ha s0 s1 s2 s3 t0 t1 t2 t3 p0 p1 HBZ;rw[←HZ.out];(go_wp2_with fail);go_region
      (all_goals go_wp2_with fail);all_goals exact⟨⟨k+1,by omega,by go_num,by rw[z1],HFN⟩,by simp[intOf];omega⟩
     ·have hoa1:decide (OV<0)=false:=HOA2.out.trans (decide_eq_false ha);have hoa2:¬OV<0:=of_decide_eq_false hoa1;obtain⟨z1,z2⟩:=hl ha;clear HST HVC HGF HSX HCM hw hl ha s0 s1 s2 s3 t0 t1 t2 t3 p0 p1;(go_wp2_with fail);exact⟨⟨k+1,by omega,by go_num,by rw[z1],HKP.out _ (HBZ.out _) z2⟩,by simp[intOf];omega⟩
   ·have hmv:mayV id (os k)=Vc.v0:=if_neg hm;rw[decide_eq_false hm,hmv] at HMT;obtain⟨z1,z2⟩:=HNO.out hm;clear hmv HNO HFIRST HTHEN HBV HBN;rw[←z1];(go_wp2_with fail);refine(HMT.out _).mono ?_;rintro e w2 ⟨rfl,hb2⟩;have HFIN:Hid (∀o,(w2.alloc o).heap[w.heap.size]?=some (.cells (vA Vc.v0) 58)∧(w2.alloc o).heap[w.heap.size+1]?=some (.cells (vA (bestV id os (k+1))) 58)∧Bl w (w2.alloc o)):=fun o=>by
     have h:=(bA1 wr _).trans (hb2.out.mono (by simp));have h2:=h.alloc h.size o;rw[z2];exact⟨keep HXX.out.1 h2,keep HXX.out.2.1 h2,HXX.out.2.2.trans (h2.mono HXX.out.2.2.size)⟩
    clear hb2 z1 z2;simp only[vA,Vc.v0];(go_wp2_with fail);exact⟨⟨k+1,by omega,by go_num,rfl,HFIN.out _⟩,by simp[intOf];omega⟩
  ·obtain rfl:k=n:=by omega
   have HRES:Hid (wr.heap[w.heap.size]?=some (.cells (vA Vc.v0) 58)):=hX.out.1;have HLW:Hid (Bl w wr):=hX.out.2.2;obtain⟨r0,r1,r2,r3⟩:=vc_cells hX.out.1;obtain⟨f0,f1,f2,f3⟩:=vc_free hX.out.1;obtain⟨B,hB⟩:∃B,bestV id os k=B:=⟨_,rfl⟩
   rw[hB] at hX;obtain⟨vr,vc,vb,vp⟩:=B;have HBV:Hid (bestV id os k=⟨vr,vc,vb,vp⟩):=hB;clear hB;obtain⟨b0,b1,b2,b3⟩:=vc_cells hX.out.2.1;have HLOW:Hid (Bl w ((((wr.setCell ⟨w.heap.size,0,none⟩ (.int .u64 vr)).setCell ⟨w.heap.size,1,none⟩ (.int .i64 vc)).setCell ⟨w.heap.size,2,none⟩ (.int .u64 vb)).setCell ⟨w.heap.size,3,none⟩ (.int .i64 vp)).drew):=((((HLW.out.setCell (Nat.le_refl _) _).setCell (Nat.le_refl _) _).setCell (Nat.le_refl _) _).setCell (Nat.le_refl _) _).drew;clear hX;(go_wp2_with fail);go_region
   (all_goals go_wp2_with fail);all_goals exact bodyPost_ret (v:=.tuple #[.int .i64 (atTo id os k),.agg #[.int .u64 vr,.int .i64 vc,.int .u64 vb,.int .i64 vp]]) (results_tmp_row (p:=5) (u:=4) (ty:=58) Tryz.results89 _ _ w.heap.size 58 #[.int .u64 vr,.int .i64 vc,.int .u64 vb,.int .i64 vp] (0,0) _ rfl (drew_row (vc_set4 HRES.out)) Tryz.underlying58 rfl (by rw[sizeVc];rfl)) rfl ⟨by rw[HBV.out];rfl,HLOW.out⟩
theorem vchoose_any (id:Int) (ao:Option Addr) (n cap:Nat) (os:Nat→Of) (w:World) (hn:n≤9223372036854775807) (hr:ORow w ao n cap os) :
  Calls Tryz.prog 55 #[.int .u64 id,.slice ao n cap] w fun e w'=>e=.returned (.tuple #[.agg (vA (Vc.chV id os n)),.int .i64 (Vc.chA id os n),.int .i64 (Vc.chP id os n)])∧Bl w w':=by
 obtain⟨W0,HW0⟩:∃W0,Hid (W0=w.alloc (.cells #[.int .u64 0,.int .i64 0,.int .u64 0,.int .i64 0] 58)):=⟨_,rfl⟩
 have HB0:Hid (Bl w W0):=(by rw[HW0.out];exact bA1 _ _)
 have HR0:Hid (W0.heap[w.heap.size]?=some (.cells #[.int .u64 0,.int .i64 0,.int .u64 0,.int .i64 0] 58)):=(by rw[HW0.out];exact heap_alloc_last _ _)
 have HRW:Hid (∀W,Bl w W→ORow W ao n cap os):=fun W hW=>CRow.other hr (fun q _ _ hq=>hW.block q hq) hW.size;have HBB:Hid (∀b off,ao=some ⟨b,off,none⟩→0<n→b<w.heap.size):=fun b off e hp=>by
  obtain⟨b',off',e',hb',_⟩:=hr.2 hp;rw[e] at e';cases e'
  exact hb'
 have hcap:=hr.1;have HBO:Hid (Calls Tryz.prog 89 #[.int .u64 id,.slice ao n cap] W0 fun e w'=>e=.returned (.tuple #[.int .i64 (atTo id os n),.agg (vA (bestV id os n))])∧Bl W0 w'):=vbestOffer_any id ao n cap os W0 hn (HRW.out W0 HB0.out);clear hr;go_enter Tryz.func55,Tryz.ntmps55;(go_wp2_with fail);rw[←HW0.out];refine HBO.out.mono ?_;rintro e w1 ⟨rfl,hb1⟩;obtain⟨B,hB⟩:∃B,bestV id os n=B:=⟨_,rfl⟩
 rw[hB];obtain⟨vr,vc,vb,vp⟩:=B;simp only[vA];obtain⟨X,HX⟩:∃X,Hid (X=w1.alloc (.cells #[.int .u64 vr,.int .i64 vc,.int .u64 vb,.int .i64 vp] 58)):=⟨_,rfl⟩
 obtain⟨G,HG⟩:∃G,Hid (G=w1.heap.size):=⟨_,rfl⟩
 have HXB:Hid (Bl W0 X):=(by rw[HX.out];exact hb1.alloc hb1.size _)
 have HXL:Hid (Bl w X):=HB0.out.trans (HXB.out.mono HB0.out.size);have HXV:Hid (X.heap[G]?=some (.cells #[.int .u64 vr,.int .i64 vc,.int .u64 vb,.int .i64 vp] 58)):=(by rw[HX.out,HG.out];exact heap_alloc_last _ _)
 have HRES:Hid (X.heap[w.heap.size]?=some (.cells #[.int .u64 0,.int .i64 0,.int .u64 0,.int .i64 0] 58)):=keep HR0.out HXB.out;have hne:w.heap.size≠G:=by
  have h1:=hb1.size;have h2:=(gSm.1 HR0.out).1;rw[HG.out];omega
 obtain⟨b0,b1,b2,b3⟩:=vc_cells HXV.out;obtain⟨r0,r1,r2,r3⟩:=vc_cells HRES.out;obtain⟨f0,f1,f2,f3⟩:=vc_free HRES.out;have HBVV:Hid (bestV id os n=⟨vr,vc,vb,vp⟩):=hB;clear hb1 hB HBO;cases hc:Vc.chTo id os n with
 | none =>
  have hat:atTo id os n = -1:=(by unfold atTo;rw[hc])
  have HOUT:Hid ((Ending.returned (.tuple #[.agg (vA (Vc.chV id os n)),.int .i64 (Vc.chA id os n),.int .i64 (Vc.chP id os n)]):Ending)=.returned (.tuple #[.agg #[.int .u64 id,.int .i64 0,.int .u64 id,.int .i64 0],.int .i64 0,.int .i64 (-1)])):=by
   show(Ending.returned _:Ending)=_;unfold Vc.chV Vc.chA Vc.chP;rw[hc];rfl
  rw[hat];have HLOW:Hid (Bl w ((((X.setCell ⟨w.heap.size,0,none⟩ (.int .u64 id)).setCell ⟨w.heap.size,1,none⟩ (.int .i64 0)).setCell ⟨w.heap.size,2,none⟩ (.int .u64 id)).setCell ⟨w.heap.size,3,none⟩ (.int .i64 0))):=(((HXL.out.setCell (Nat.le_refl _) _).setCell (Nat.le_refl _) _).setCell (Nat.le_refl _) _).setCell (Nat.le_refl _) _;clear hat hc;rw[HX.out] at r0 r1 r2 r3 f0 f1 f2 f3;(go_wp2_with fail);rw[←HX.out];exact bodyPost_ret (v:=.tuple #[.agg #[.int .u64 id,.int .i64 0,.int .u64 id,.int .i64 0],.int .i64 0,.int .i64 (-1)]) (results_row_tmp2 (p:=4) (u:=5) (x:=6) (ty:=58) Tryz.results55 _ _ w.heap.size 58 #[.int .u64 id,.int .i64 0,.int .u64 id,.int .i64 0] (0,0) _ rfl (vc_set4 HRES.out) Tryz.underlying58 rfl (by rw[sizeVc];rfl)) rfl ⟨HOUT.out.symm,HLOW.out⟩
 | some j =>
  have hat:atTo id os n=(j:Int):=(by unfold atTo;rw[hc])
  have hbv:(os j).v=⟨vr,vc,vb,vp⟩:=(by rw[←HBVV.out];unfold bestV;rw[hc])
  obtain⟨hjk,hmj,_⟩:=Vc.chTo_some id os n j hc;obtain⟨b,off,rfl,_⟩:=CRow.some (HRW.out X HXL.out) (by omega);have hbn:b≠w.heap.size:=(by have:=HBB.out b off rfl (by omega);omega)
  have hbn2:w.heap.size≠b:=fun e=>hbn e.symm;obtain⟨a0,_,a2,_⟩:=ORow.cells (HRW.out X HXL.out) hjk;have ha1:0≤(os j).age:=hmj.2.2.1.1;have ha2:(os j).age<20:=hmj.2.2.1.2;have wa:IntKind.i64.wrap ((os j).age+1)=(os j).age+1:=wraps_i64 _ (by omega) (by omega);have HOUT:Hid ((Ending.returned (.tuple #[.agg (vA (Vc.chV id os n)),.int .i64 (Vc.chA id os n),.int .i64 (Vc.chP id os n)]):Ending)=.returned (.tuple #[.agg #[.int .u64 vr,.int .i64 vc,.int .u64 id,.int .i64 0],.int .i64 ((os j).age+1),.int .i64 (os j).port])):=by
   show(Ending.returned _:Ending)=_;unfold Vc.chV Vc.chA Vc.chP;rw[hc];simp only;rw[hbv];rfl
  have ij:(0:Int)≤(j:Int):=(by omega)
  have jn:(j:Int)<(n:Int):=(by omega)
  rw[hat];clear hat hbv hc hmj HRW HBB HBVV b2 b3 HXV HXB;generalize (os j).age=oa at *;generalize (os j).port=op at *;have HLOW:Hid (Bl w ((((X.setCell ⟨w.heap.size,0,none⟩ (.int .u64 vr)).setCell ⟨w.heap.size,1,none⟩ (.int .i64 vc)).setCell ⟨w.heap.size,2,none⟩ (.int .u64 id)).setCell ⟨w.heap.size,3,none⟩ (.int .i64 0)).drew):=((((HXL.out.setCell (Nat.le_refl _) _).setCell (Nat.le_refl _) _).setCell (Nat.le_refl _) _).setCell (Nat.le_refl _) _).drew;(go_wp2_with fail);rw[←HX.out,←HG.out];go_region_held3 (fun W=>(W.cell? ⟨G,0,none⟩=some (.int .u64 vr)∧W.cell? ⟨G,1,none⟩=some (.int .i64 vc))∧W.cell? ⟨b,off+j*7,none⟩=some (.int .i64 op)∧W.cell? ⟨b,off+j*7+2,none⟩=some (.int .i64 oa))
   (go_keep) (fail)
  (all_goals go_wp2_with fail);all_goals exact bodyPost_ret (v:=.tuple #[.agg #[.int .u64 vr,.int .i64 vc,.int .u64 id,.int .i64 0],.int .i64 (oa+1),.int .i64 op]) (results_row_tmp2 (p:=4) (u:=5) (x:=6) (ty:=58) Tryz.results55 _ _ w.heap.size 58 #[.int .u64 vr,.int .i64 vc,.int .u64 id,.int .i64 0] (0,0) _ rfl (drew_row (vc_set4 HRES.out)) Tryz.underlying58 rfl (by rw[sizeVc];rfl)) rfl ⟨HOUT.out.symm,HLOW.out⟩
end
section
open Go.RowKit
open Vc (V Of)
open Pl (Br Net Pc Lk En)
theorem infoTl:(Tryz.prog.info? 104).map (fun i=>(i.zero,i.size,i.bytes))=some (some (.agg #[.int .i64 0,.int .u64 0,.int .i64 0,.int .u64 0,.int .i64 0,.int .i64 0]),6,48):=by kernel_rfl
theorem infoI:(Tryz.prog.info? 3).map (fun i=>(i.zero,i.size,i.bytes))=some (some (.int .i64 0),1,8):=by kernel_rfl
def tlC (v:V) (a:Int) (j:Nat):Value:=if j=0 then .int .i64 0 else if j<5 then vC v (j-1) else .int .i64 a
end
end Go.Proofs.YtaneiffnhphkhaaGreatDoor
namespace Go.Proofs
open Go.Shelf
def Tryz.sortI_ren:Go.Shelf.Ren:=⟨fun | 125=>91 | 128=>130 | 129=>131 | 189=>56 | 215=>111 | 216=>127 | 257=>90 | 294=>121 | 295=>122 | 296=>123 | 297=>124 | 298=>125 | 299=>126 | 300=>128 | 301=>129 | 328=>147 | 329=>148 | 330=>149 | 331=>150 | 332=>151 | 343=>161 | n=>n,fun | 0=>0 | 3=>3 | 4=>4 | 5=>5 | 9=>9 | 28=>59 | 46=>114 | 51=>193 | 53=>56 | 131=>190 | 182=>184 | 183=>185 | 218=>206 | 222=>210 | 228=>218 | 229=>219 | n=>n,fun | n=>n⟩
theorem Tryz.sortI:Go.Proofs.Lays.n189 Tryz.prog Tryz.sortI_ren:={
 mixed:=by kernel_rfl
 f125:=Tryz.func91.trans (congrArg some (by kernel_rfl))
 f128:=Tryz.func130.trans (congrArg some (by kernel_rfl))
 f129:=Tryz.func131.trans (congrArg some (by kernel_rfl))
 f189:=Tryz.func56.trans (congrArg some (by kernel_rfl))
 f215:=Tryz.func111.trans (congrArg some (by kernel_rfl))
 f216:=Tryz.func127.trans (congrArg some (by kernel_rfl))
 f257:=Tryz.func90.trans (congrArg some (by kernel_rfl))
 f294:=Tryz.func121.trans (congrArg some (by kernel_rfl))
 f295:=Tryz.func122.trans (congrArg some (by kernel_rfl))
 f296:=Tryz.func123.trans (congrArg some (by kernel_rfl))
 f297:=Tryz.func124.trans (congrArg some (by kernel_rfl))
 f298:=Tryz.func125.trans (congrArg some (by kernel_rfl))
 f299:=Tryz.func126.trans (congrArg some (by kernel_rfl))
 f300:=Tryz.func128.trans (congrArg some (by kernel_rfl))
 f301:=Tryz.func129.trans (congrArg some (by kernel_rfl))
 f328:=Tryz.func147.trans (congrArg some (by kernel_rfl))
 f329:=Tryz.func148.trans (congrArg some (by kernel_rfl))
 f330:=Tryz.func149.trans (congrArg some (by kernel_rfl))
 f331:=Tryz.func150.trans (congrArg some (by kernel_rfl))
 f332:=Tryz.func151.trans (congrArg some (by kernel_rfl))
 f343:=Tryz.func161.trans (congrArg some (by kernel_rfl))
 t0:=Tryz.underlying0
 a0:=Tryz.isAgg0
 z0:=Tryz.sizeOf0
 v0:=Tryz.zeroValue0
 t3:=Tryz.underlying3
 a3:=Tryz.isAgg3
 z3:=Tryz.sizeOf3
 v3:=Tryz.zeroValue3
 t4:=Tryz.underlying4
 a4:=Tryz.isAgg4
 z4:=Tryz.sizeOf4
 v4:=Tryz.zeroValue4
 t5:=Tryz.underlying5
 a5:=Tryz.isAgg5
 z5:=Tryz.sizeOf5
 v5:=Tryz.zeroValue5
 t9:=Tryz.underlying9
 a9:=Tryz.isAgg9
 z9:=Tryz.sizeOf9
 v9:=Tryz.zeroValue9
 t28:=Tryz.underlying59
 a28:=Tryz.isAgg59
 z28:=Tryz.sizeOf59
 v28:=Tryz.zeroValue59
 t46:=Tryz.underlying114
 a46:=Tryz.isAgg114
 z46:=Tryz.sizeOf114
 v46:=Tryz.zeroValue114
 t51:=Tryz.underlying193
 a51:=Tryz.isAgg193
 z51:=Tryz.sizeOf193
 v51:=Tryz.zeroValue193
 t53:=Tryz.underlying56
 a53:=Tryz.isAgg56
 z53:=Tryz.sizeOf56
 v53:=Tryz.zeroValue56
 t131:=Tryz.underlying190
 a131:=Tryz.isAgg190
 z131:=Tryz.sizeOf190
 v131:=Tryz.zeroValue190
 t182:=Tryz.underlying184
 a182:=Tryz.isAgg184
 z182:=Tryz.sizeOf184
 v182:=Tryz.zeroValue184
 t183:=Tryz.underlying185
 a183:=Tryz.isAgg185
 z183:=Tryz.sizeOf185
 v183:=Tryz.zeroValue185
 t218:=Tryz.underlying206
 a218:=Tryz.isAgg206
 z218:=Tryz.sizeOf206
 v218:=Tryz.zeroValue206
 t222:=Tryz.underlying210
 a222:=Tryz.isAgg210
 z222:=Tryz.sizeOf210
 v222:=Tryz.zeroValue210
 t228:=Tryz.underlying218
 a228:=Tryz.isAgg218
 z228:=Tryz.sizeOf218
 v228:=Tryz.zeroValue218
 t229:=Tryz.underlying219
 a229:=Tryz.isAgg219
 z229:=Tryz.sizeOf219
 v229:=Tryz.zeroValue219 }
end Go.Proofs
namespace Go.Proofs.YtaneiffnhphkhaaGreatDoor
section
open Go.RowKit
open Vc (V Of)
open Pl (Br Net Pc Lk En)
abbrev IL (l:List Int) (j:Nat):Int:=l.getD j 0
abbrev intCells (l:List Int):List Value:=cellsL l.length 1 (fun j _=>.int .i64 (IL l j))
theorem int_snoc (l:List Int) (z:Int):cellsL (l.length+1) 1 (catC l.length (fun j _=>.int .i64 (IL l j)) (fun _ _=>.int .i64 z))=intCells (l++[z]):=by
 unfold intCells;rw[List.length_append];apply cellsL_congr
 intro i hi;simp only[catC];by_cases q:i<l.length
 ·rw[if_pos q];simp[IL,List.getD,List.getElem?_append_left q]
 ·rw[if_neg q];obtain rfl:i=l.length:=by omega
  simp[IL,List.getD]
theorem one_int_row {w:World}{g:Nat}{z:Int}{ty:TypeId}(h:w.heap[g]?=some (.cells #[.int .i64 z] ty (0,0))):IRow w (some ⟨g,0,none⟩) 1 1 (fun _=>z):=by
 refine⟨Nat.le_refl _,fun _=>⟨g,0,rfl,(gSm.1 h).1,fun i hi j hj => ?_⟩⟩;obtain rfl:i=0:=by omega
 obtain rfl:j=0:=by omega
 exact cell_of_row w g 0 _ _ _ h
theorem int_more {W:World}{base:Nat}{ao:Option Addr}{cap:Nat}{l:List Int}(h:W.ownsRow base 3 1 (.slice ao l.length cap) l.length (intCells l)) (hb:base≤W.heap.size) (hl:l.length≤100000) (z:Int) :
  ∃a1 c1 w2,(Builtin.append_ #[59,59] 59 #[.slice ao l.length cap,.slice (some ⟨W.heap.size,0,none⟩) 1 1]).run Tryz.prog (W.alloc (.cells #[.int .i64 z] 3))=.ok (.slice a1 (l++[z]).length c1) w2∧w2.ownsRow base 3 1 (.slice a1 (l++[z]).length c1) (l++[z]).length (intCells (l++[z]))∧Below base W w2:=by
 have hB:Bl W (W.alloc (.cells #[.int .i64 z] 3)):=bA1 _ _;obtain⟨a1,c1,w2,r,ho,hb2,_⟩:=append_c (W.alloc (.cells #[.int .i64 z] 3)) 59 3 _ 1 8 Tryz.underlying59 infoI rfl (by omega) base (.slice ao l.length cap) l.length (fun j _=>.int .i64 (IL l j)) (ownsC_below h hB) (some ⟨W.heap.size,0,none⟩) 1 1 (fun _ _=>.int .i64 z) (fun _ _=>rfl) (one_int_row (heap_alloc_last _ _)) (fun h=>by cases h) (by unfold maxLen;omega) (by omega) (by simp;omega);rw[int_snoc] at ho;have e:(l++[z]).length=l.length+1:=(by simp)
 rw[←e] at r ho;exact⟨a1,c1,w2,r,ho,(hB.mono hb).trans hb2⟩
theorem int_more2 {Z Zd:World}{base:Nat}{v:Value}{l:List Int}(ho:Z.ownsRow base 3 1 v l.length (intCells l)) (hbase:base≤Z.heap.size) (hl:l.length≤100000) (z:Int) (hZ:Bl Z Zd) (hs:Zd.heap.size=Z.heap.size) :
  ∃vo vc w2,(Builtin.append_ #[59,59] 59 #[v,.slice (some ⟨Z.heap.size,0,none⟩) 1 1]).run Tryz.prog (Zd.alloc (.cells #[.int .i64 z] 3))=.ok (.slice vo (l++[z]).length vc) w2∧w2.ownsRow base 3 1 (.slice vo (l++[z]).length vc) (l++[z]).length (intCells (l++[z])) ∧
   (∀q,q<Z.heap.size→v.ownBlock≠some q→w2.heap[q]?=Z.heap[q]?)∧((Value.slice vo (l++[z]).length vc).ownBlock=v.ownBlock∨(Value.slice vo (l++[z]).length vc).ownBlock=some (Z.heap.size+1))∧Below base Z w2∧Z.heap.size≤w2.heap.size:=by
 obtain⟨i0,hi0,hz0,hz1,hz2⟩:=info_parts infoI;obtain⟨C,hC⟩:∃C,C=Zd.alloc (.cells #[.int .i64 z] 3):=⟨_,rfl⟩
 have hCb:Bl Z C:=(by rw[hC];exact hZ.alloc (by omega) _)
 have hCs:C.heap.size=Z.heap.size+1:=(by rw[hC];simp[hs])
 have hCl:C.heap[Z.heap.size]?=some (.cells #[.int .i64 z] 3):=(by rw[hC,←hs];exact heap_alloc_last Zd _)
 have hO:=ownsC_below ho hCb;obtain⟨v',w2,hrun,h1,h2,_,h3⟩:=run_append_own_at (P:=Tryz.prog) C base 59 59 3 i0 _ 1 8 Tryz.underlying59 hi0 hz0 hz1 hz2 rfl (by omega) v l.length (intCells l) hO ⟨Z.heap.size,0,none⟩ 1 1 [.int .i64 z] rfl (fun j u hj=>by
  have hl:j=0:=by
   have:=(List.getElem?_eq_some_iff.1 hj).1;simpa using this
  subst hl;rw[add_row,Nat.zero_add];simp at hj;subst hj;exact cell_of_row C Z.heap.size 0 _ _ _ hCl) (fun u hu=>by simp at hu;subst hu;rfl) (by unfold maxLen;omega) (by omega) (by omega)
 have e1:intCells l++[.int .i64 z]=intCells (l++[z]):=by
  have:([.int .i64 z]:List Value)=cellsL 1 1 (fun _ _=>.int .i64 z):=by simp[cellsL]
  rw[this,cellsL_cat _ _ _ (by omega),int_snoc]
 have e2:(l++[z]).length=l.length+1:=(by simp)
 rw[e1,←e2] at h1;obtain⟨ao,cap,rfl,_⟩:=owns_c (by omega) h1;refine⟨ao,cap,w2,by rw[←hC];exact hrun,h1,fun q hq hne=>(h2.block q (by omega) (fun p=>hne p.symm)).trans (hCb.block q hq),?_,?_,by have:=h2.size;omega⟩
 ·rcases h3 with h3 | h3
  ·exact Or.inl h3
  ·exact Or.inr (by rw[h3,hCs])
 ·exact(hCb.mono hbase).trans ((Below.refl _ _).grown h2 (by omega) (fun q hq=>(oCb hO q hq).1))
theorem intCells_map (l:List Int):intCells l=l.map (Value.int .i64):=by
 apply List.ext_getElem
 ·simp[intCells,cellsL]
 ·intro i h1 h2;have hi:i<l.length:=(by simpa using h2)
  simp[intCells,cellsL,IL,List.getD,List.getElem?_eq_getElem hi]
theorem IL_row {w:World}{base:Nat}{v:Value}{l:List Int}(h:w.ownsRow base 3 1 v l.length (intCells l)):∃ao cap,v=.slice ao l.length cap∧IRow w ao l.length cap (IL l)∧∀ad,ao=some ad→base≤ad.block:=by
 obtain⟨ao,cap,e,h1,_,h3⟩:=owns_c (by omega) h;exact⟨ao,cap,e,h1,h3⟩
theorem isort_any (base:Nat) (v:Value) (l:List Int) (w:World) (hl:l.length≤100000) (ho:w.ownsRow base 3 1 v l.length (intCells l)) :
  Calls Tryz.prog 56 #[v] w fun e w'=>e=.returned (.tuple #[])∧w'.ownsRow base 3 1 v (l.mergeSort fun x y=>decide (x≤y)).length (intCells (l.mergeSort fun x y=>decide (x≤y)))∧w.grownBy w' v.ownBlock:=by
 obtain⟨_,h2⟩:=ho;rcases h2 with⟨rfl,h0⟩ | ⟨g,cap,cur,rfl,hg,hh,hn,hm,hs,hx⟩
 ·have e0:l=[]:=List.eq_nil_of_length_eq_zero h0;subst e0;refine(Any.slices_Sort_int_none Tryz.sortI none 0 w).mono ?_;rintro e w' ⟨rfl,rfl⟩;refine⟨rfl,?_,⟨rfl,rfl,rfl,Nat.le_refl _,fun _ _ _=>rfl⟩⟩;have:([]:List Int).mergeSort (fun x y=>decide (x≤y))=[]:=by simp
  rw[this];exact⟨by simp[intCells,cellsL],Or.inl ⟨rfl,rfl⟩⟩
 ·have hH:Go.Sort.Holds (Value.int .i64) w g 0 l.toArray:=holds_of_blockI hh (by rw[←intCells_map,←hx,Nat.mul_one]);have hc:=Any.slices_Sort_int Tryz.sortI g 0 cap l w hH (gSm.1 hh).1 (by omega);change Calls Tryz.prog 56 _ _ _ at hc
  refine hc.mono ?_;rintro e w' ⟨rfl,n,os,rfl⟩;have hlen:(l.mergeSort fun x y=>decide (x≤y)).length=l.length:=List.length_mergeSort _;refine⟨rfl,?_,grownBy_sortedI _⟩;rw[intCells_map,hlen];exact ownsRow_sortedI hlen hg hh hn hm hs
end
end Go.Proofs.YtaneiffnhphkhaaGreatDoor
