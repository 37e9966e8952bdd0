/- walks: hedgelaw7.two, ticks, alive -/
import Derived.Test.YtaneiffnhphkhaaGreatDoorD35
import Derived.Test.YtaneiffnhphkhaaGreatDoorD33
import Derived.Test.YtaneiffnhphkhaaGreatDoorD34
import Derived.Test.YtaneiffnhphkhaaGreatDoorD21
import Derived.Test.YtaneiffnhphkhaaGreatDoorD05
import Derived.Test.YtaneiffnhphkhaaGreatDoorD10
import Derived.Test.YtaneiffnhphkhaaGreatDoorD25
set_option maxRecDepth 100000
set_option maxHeartbeats 40000000
namespace Go.Proofs.YtaneiffnhphkhaaGreatDoor
section
open Go.RowKit
open Vc (V Of)
open Pl (En Lk Br Net)
open Tk (Md Mnd Cn Sc Dn ixM ilist lst3 ilm)
def plErr (n:Net) (trees:Int) (ds:Nat→Dn) (dn:Nat):Int×Int:=if (stErr n trees).1≠0 then stErr n trees else if 30<dn then(5,0) else Tk.errTo n.cn ds dn
theorem stErr_zero {n:Net}{trees:Int}(h:(stErr n trees).1=0):n.wrong.1=0∧(1≤trees∧trees≤4):=by
 unfold stErr at h;by_cases q:n.wrong.1=0
 ·rw[if_neg (fun z=>z q)] at h;by_cases q2:1≤trees∧trees≤4
  ·exact⟨q,q2⟩
  ·rw[if_pos q2] at h;cases h
 ·rw[if_pos q] at h;exact absurd h q
theorem on_start {n:Net}{t0:List Tr}{ds:Nat→Dn}{dn:Nat}(h:n.wrong.1=0) (hf:fitT n t0=true):onErr n t0 ds dn=if 30<dn then(5,0) else Tk.errTo n.cn ds dn:=by
 have e:wrT n t0 dn=if 30<dn then(5,0) else(0,0):=by
  unfold wrT;rw[if_neg (fun z=>z h),if_neg (by rw[hf];exact Bool.noConfusion)]
 unfold onErr;rw[e];by_cases q:30<dn
 ·rw[if_pos q,if_pos q,if_pos (by decide)]
 ·rw[if_neg q,if_neg q,if_neg (fun z=>z rfl)]
theorem plErr_zero {n:Net}{trees:Int}{ds:Nat→Dn}{dn:Nat}(h:(plErr n trees ds dn).1=0):(n.wrong.1=0∧(1≤trees∧trees≤4))∧dn≤30∧∀k,k<dn→Tk.errOf n.cn (ds k)=0:=by
 unfold plErr at h;by_cases q:(stErr n trees).1=0
 ·rw[if_neg (fun z=>z q)] at h;by_cases q2:30<dn
  ·rw[if_pos q2] at h;cases h
  ·rw[if_neg q2] at h;exact⟨stErr_zero q,by omega,(Pl.firstTo_zero _ _ h).2⟩
 ·rw[if_pos q] at h;exact absurd h q
def PlayW (w:World) (n:Net) (trees:Int) (ds:Nat→Dn) (dn:Nat) (e:Ending) (w':World):Prop :=
 Bl w w'∧(((plErr n trees ds dn).1≠0∧e=.returned (.tuple #[.agg #[.slice none 0 0,.slice none 0 0],.agg #[.slice none 0 0],.agg #[.int .i64 (plErr n trees ds dn).1,.int .i64 (plErr n trees ds dn).2]])) ∨
  ((plErr n trees ds dn).1=0∧∃(n':Net) (oao:Option Addr) (ocap:Nat) (t':List Tr),e=.returned (.tuple #[n'.val,.agg #[.slice oao t'.length ocap],.agg #[.int .i64 0,.int .i64 0]])∧∃b,w.heap.size≤b∧Kept w' b (fun V=>SnOut V n trees.toNat ((n.sc (startMs n)).all n.cn ds dn) n' oao ocap t')))
theorem tplay_any (n:Net) (trees:Int) (dao:Option Addr) (dn dcap:Nat) (ds:Nat→Dn) (w:World) (hwf:n.Wf) (hat:n.at' w) (hdn:dn≤9223372036854775807) (hds:DRow w dao dn dcap ds) (htb:Tabs w) (hbt:2≤w.heap.size) :
  Calls Tryz.prog 15 #[n.val,.int .i64 trees,.slice dao dn dcap] w fun e w'=>PlayW w n trees ds dn e w':=by
 obtain⟨X2,HX2⟩:∃X2,Hid (X2=(w.alloc (.cells #[.slice n.bao n.K n.bcap,.slice n.lao n.L n.lcap] 25)).alloc (.cells #[.slice none 0 0,.slice none 0 0] 25)):=⟨_,rfl⟩
 obtain⟨X,HX⟩:∃X,Hid (X=(X2.alloc (.cells #[.slice none 0 0] 29)).alloc (.cells #[.int .i64 0,.int .i64 0] 32)):=⟨_,rfl⟩
 have b1:Bl w X2:=(by rw[HX2.out];exact bA2 _ _ _)
 have s1:X2.heap.size=w.heap.size+1+1:=(by rw[HX2.out];simp)
 have b2:Bl X2 X:=(by rw[HX.out];exact bA2 _ _ _)
 have s2:X.heap.size=X2.heap.size+1+1:=(by rw[HX.out];simp)
 have hXB:Bl w X:=b1.trans (b2.mono b1.size);have g0:X.heap[w.heap.size]?=some (.cells #[.slice n.bao n.K n.bcap,.slice n.lao n.L n.lcap] 25):=keep (by rw[HX2.out];exact heap_alloc2_old _ _ _) b2;have g2:X.heap[w.heap.size+1]?=some (.cells #[.slice none 0 0,.slice none 0 0] 25):=keep (by rw[HX2.out];exact heap_alloc2_new _ _ _) b2;have g3:X.heap[w.heap.size+1+1]?=some (.cells #[.slice none 0 0] 29):=by
  rw[HX.out,←s1];exact heap_alloc2_old _ _ _
 have g4:X.heap[w.heap.size+1+1+1]?=some (.cells #[.int .i64 0,.int .i64 0] 32):=by
  rw[HX.out,←s1];exact heap_alloc2_new _ _ _
 obtain⟨BN,HBN⟩:∃BN,Hid (BN=w.heap.size):=⟨_,rfl⟩
 obtain⟨RN,HRN⟩:∃RN,Hid (RN=w.heap.size+1):=⟨_,rfl⟩
 obtain⟨RT,HRT⟩:∃RT,Hid (RT=w.heap.size+1+1):=⟨_,rfl⟩
 obtain⟨RF,HRF⟩:∃RF,Hid (RF=w.heap.size+1+1+1):=⟨_,rfl⟩
 rw[←HBN.out] at g0;rw[←HRN.out] at g2;rw[←HRT.out] at g3;rw[←HRF.out] at g4;have ne1:RN≠RT:=(by have:=HRN.out;have:=HRT.out;omega)
 have ne2:RN≠RF:=(by have:=HRN.out;have:=HRF.out;omega)
 have ne3:RT≠RF:=(by have:=HRT.out;have:=HRF.out;omega)
 have le1:w.heap.size≤RN:=(by have:=HRN.out;omega)
 have le2:w.heap.size≤RT:=(by have:=HRT.out;omega)
 have le3:w.heap.size≤RF:=(by have:=HRF.out;omega)
 have lt1:RN<X.heap.size:=(by have:=HRN.out;omega)
 have lt2:RT<X.heap.size:=(by have:=HRT.out;omega)
 have lt3:RF<X.heap.size:=(by have:=HRF.out;omega)
 have HC:Hid (∀V,Bl X V→(V.cell? ⟨BN,0,none⟩=some (.slice n.bao n.K n.bcap)∧V.cell? ⟨BN,1,none⟩=some (.slice n.lao n.L n.lcap))∧(V.cell? ⟨RN,0,none⟩=some (.slice none 0 0)∧V.cell? ⟨RN,1,none⟩=some (.slice none 0 0))∧V.cell? ⟨RT,0,none⟩=some (.slice none 0 0)∧(V.cell? ⟨RF,0,none⟩=some (.int .i64 0)∧V.cell? ⟨RF,1,none⟩=some (.int .i64 0))∧(V.frozen? ⟨RN,0,none⟩=false∧V.frozen? ⟨RN,1,none⟩=false)∧V.frozen? ⟨RT,0,none⟩=false∧V.frozen? ⟨RF,0,none⟩=false∧V.frozen? ⟨RF,1,none⟩=false):=fun V hV =>
  ⟨tC2 (keep g0 hV),tC2 (keep g2 hV),one_cell (keep g3 hV),tC2 (keep g4 hV),⟨frozen_of_row _ _ _ _ _ (keep g2 hV),frozen_of_row _ _ _ _ _ (keep g2 hV)⟩,frozen_of_row _ _ _ _ _ (keep g3 hV),frozen_of_row _ _ _ _ _ (keep g4 hV),frozen_of_row _ _ _ _ _ (keep g4 hV)⟩
 have HH:Hid (∀V,Bl X V→V.heap[RN]?=some (.cells #[.slice none 0 0,.slice none 0 0] 25)∧V.heap[RT]?=some (.cells #[.slice none 0 0] 29)∧V.heap[RF]?=some (.cells #[.int .i64 0,.int .i64 0] 32)∧Bl w V):=fun V hV=>⟨keep g2 hV,keep g3 hV,keep g4 hV,hXB.trans (hV.mono hXB.size)⟩
 have HST:Hid (Calls Tryz.prog 12 #[.agg #[.slice n.bao n.K n.bcap,.slice n.lao n.L n.lcap],.int .i64 trees] X fun e w'=>∃oa ol oc f1 f2,e=.returned (.tuple #[.agg #[.slice oa ol oc],.agg #[.int .i64 f1,.int .i64 f2]])∧Hid (Bl X w'∧f1=(stErr n trees).1∧f2=(stErr n trees).2∧(f1=0→∃t0:List Tr,ol=t0.length∧StT w' n trees oa oc t0))):=by
  refine(tstart_any n trees X hwf (hat.below hXB)).mono ?_;rintro e w' ⟨h1,⟨h2,rfl⟩ | ⟨h2,oao,ocap,t0,rfl,h3⟩⟩
  ·exact⟨none,0,0,_,_,rfl,h1,rfl,rfl,fun z=>absurd z h2⟩
  ·have:stErr n trees=(0,0):=by
    obtain⟨z1,z2⟩:=stErr_zero h2;unfold stErr;rw[if_neg (fun z=>z z1),if_neg (fun z=>z z2)]
   exact⟨oao,_,ocap,0,0,rfl,h1,by rw[this],by rw[this],fun _=>⟨t0,rfl,h3⟩⟩
 have HON:Hid ((stErr n trees).1=0→∀(V:World) (oa:Option Addr) (oc:Nat) (t0:List Tr),Bl X V→StT V n trees oa oc t0→Calls Tryz.prog 20 #[.agg #[.slice n.bao n.K n.bcap,.slice n.lao n.L n.lcap],.agg #[.slice oa t0.length oc],.slice dao dn dcap] V fun e w'=>∃na nk nc la lk lc oa ol oc f1 f2,e=.returned (.tuple #[.agg #[.slice na nk nc,.slice la lk lc],.agg #[.slice oa ol oc],.agg #[.int .i64 f1,.int .i64 f2]])∧Hid (Bl X w'∧∀W,w'.heap.size=W.heap.size→(∀q,V.heap.size≤q→W.heap[q]?=w'.heap[q]?)→Bl w W→PlayW w n trees ds dn (.returned (.tuple #[.agg #[.slice na nk nc,.slice la lk lc],.agg #[.slice oa ol oc],.agg #[.int .i64 f1,.int .i64 f2]])) W)):=fun h0 V oa oc t0 hV hT=>by
  have hV2:=hXB.trans (hV.mono hXB.size);obtain⟨z1,z2⟩:=stErr_zero h0;have hp:plErr n trees ds dn=onErr n t0 ds dn:=by
   rw[on_start z1 hT.fit];exact if_neg (fun z=>z h0)
  have hl:t0.length=trees.toNat:=(by have:=hT.len;omega)
  refine(ton_any n oa oc t0 (startMs n) dao dn dcap ds V hwf (hat.below hV2) hT.row hdn (CRow.below hds hV2) hT.calm hT.ms (htb.below hV2 hbt) (Nat.le_trans hbt hV2.size)).mono ?_;rintro e w' ⟨h1,⟨h2,rfl⟩ | ⟨h2,n',oao,ocap,t',rfl,b,hb,h3⟩⟩
  ·refine⟨none,0,0,none,0,0,none,0,0,_,_,rfl,hV.trans (h1.mono hV.size),fun W _ _ hW=>⟨hW,Or.inl ⟨by rw[hp];exact h2,by rw[hp]⟩⟩⟩
  ·refine⟨n'.bao,n'.K,n'.bcap,n'.lao,n'.L,n'.lcap,oao,t'.length,ocap,0,0,rfl,hV.trans (h1.mono hV.size),fun W hs hk hW=>⟨hW,Or.inr ⟨by rw[hp];exact h2,n',oao,ocap,t',rfl,b,Nat.le_trans hV2.size hb,fun V3 hV3 => ?_⟩⟩⟩;rw[←hl];exact h3 V3 (fun q q1 q2=>(hV3 q q1 (by rw[←hs];exact q2)).trans (hk q (Nat.le_trans hb q1)))
 have g0':=HC.out X (Below.refl _ _);have HXS:Hid (∀V,Bl X V→X.heap.size≤V.heap.size):=fun V hV=>hV.size;clear hwf hat hds htb hbt b1 b2 s1 s2 hXB g0 g2 g3 g4;simp only[Pl.Net.val];go_enter Tryz.func15,Tryz.ntmps15;obtain⟨⟨x0,x1⟩,_⟩:=g0';rw[HX.out,HX2.out,HBN.out] at x0 x1;(go_wp2_with fail);rw[←HX2.out,←HX.out,←HRF.out,←HRT.out,←HRN.out,←HBN.out];refine HST.out.mono ?_;rintro e w1 ⟨oa,ol,oc,f1,f2,rfl,H1⟩;clear x0 x1 HST;obtain⟨V1,HV1⟩:∃V1,Hid (V1=(w1.alloc (.cells #[.slice oa ol oc] 29)).alloc (.cells #[.int .i64 f1,.int .i64 f2] 32)):=⟨_,rfl⟩
 have h11:Bl w1 V1:=(by rw[HV1.out];exact bA2 _ _ _)
 have hV1:Bl X V1:=H1.out.1.trans (h11.mono H1.out.1.size);have e0:V1.cell? ⟨w1.heap.size,0,none⟩=some (.slice oa ol oc):=one_cell (by rw[HV1.out];exact heap_alloc2_old _ _ _);have e1:V1.cell? ⟨w1.heap.size+1,0,none⟩=some (.int .i64 f1)∧V1.cell? ⟨w1.heap.size+1,1,none⟩=some (.int .i64 f2):=tC2 (by rw[HV1.out];exact heap_alloc2_new _ _ _);obtain⟨e1,e2⟩:=e1;obtain⟨⟨p0,p1⟩,⟨p3,p4⟩,p5,⟨p6,p7⟩,⟨q0,q1⟩,q2,q3,q4⟩:=HC.out V1 hV1;have y1:=e1;rw[HV1.out] at y1;have HV1B:Hid (Bl X V1):=hV1;by_cases q:f1=0
 ·have h0:(stErr n trees).1=0:=H1.out.2.1.symm.trans q;obtain⟨t0,rfl,hT⟩:=H1.out.2.2.2 q;have HOV:Hid (Calls Tryz.prog 20 #[.agg #[.slice n.bao n.K n.bcap,.slice n.lao n.L n.lcap],.agg #[.slice oa t0.length oc],.slice dao dn dcap] V1 fun e w'=>∃na nk nc la lk lc oa ol oc f1 f2,e=.returned (.tuple #[.agg #[.slice na nk nc,.slice la lk lc],.agg #[.slice oa ol oc],.agg #[.int .i64 f1,.int .i64 f2]])∧Hid (Bl X w'∧∀W,w'.heap.size=W.heap.size→(∀q,V1.heap.size≤q→W.heap[q]?=w'.heap[q]?)→Bl w W→PlayW w n trees ds dn (.returned (.tuple #[.agg #[.slice na nk nc,.slice la lk lc],.agg #[.slice oa ol oc],.agg #[.int .i64 f1,.int .i64 f2]])) W)):=HON.out h0 V1 oa oc t0 hV1 (hT.below h11);have vs:=hV1.size;have lo1:RN<V1.heap.size:=(by omega)
  have lo2:RT<V1.heap.size:=(by omega)
  have lo3:RF<V1.heap.size:=(by omega)
  have r0:=p0;have r1:=p1;have r2:=e0;rw[HV1.out] at r0 r1 r2;subst q;clear h0 hT p0 p1 p3 p4 p5 p6 p7 q0 q1 q2 q3 q4 HON h11 hV1 e0 e1 e2;(go_wp2_with fail);rw[←HV1.out];refine HOV.out.mono ?_;rintro e w2 ⟨na,nk,nc,la,lk,lc,oa2,ol2,oc2,f1,f2,rfl,H2⟩;clear HOV y1 r0 r1 r2;obtain⟨_,⟨p3,p4⟩,p5,⟨p6,p7⟩,⟨q0,q1⟩,q2,q3,q4⟩:=HC.out w2 H2.out.1;(go_wp2_with fail);refine bodyPost_ret (v:=.tuple #[.agg #[.slice na nk nc,.slice la lk lc],.agg #[.slice oa2 ol2 oc2],.agg #[.int .i64 f1,.int .i64 f2]]) (results_row3 Tryz.results15 _ _ RN RT RF 25 29 32 #[.slice na nk nc,.slice la lk lc] #[.slice oa2 ol2 oc2] #[.int .i64 f1,.int .i64 f2] (0,0) (0,0) (0,0) _ _ _ rfl rfl rfl ?h1 ?h2 ?h3 Tryz.underlying25 Tryz.underlying29 Tryz.underlying32 rfl rfl rfl ?i1 ?i2 ?i3) rfl ?post
  case h1=>repeat(first | (with_reducible refine drew_keep ?_) | (with_reducible exact(HH.out _ H2.out.1).1) | (with_reducible refine set2_same (a0:=Value.slice none 0 0) (a1:=Value.slice none 0 0) ?_) | (with_reducible refine set_keep ?_ ne1) | (with_reducible refine set_keep ?_ ne2))
  case h2=>repeat(first | (with_reducible refine drew_keep ?_) | (with_reducible exact(HH.out _ H2.out.1).2.1) | (with_reducible refine set1_same (a0:=Value.slice none 0 0) ?_) | (with_reducible refine set_keep ?_ ne1.symm) | (with_reducible refine set_keep ?_ ne3))
  case h3=>repeat(first | (with_reducible refine drew_keep ?_) | (with_reducible exact(HH.out _ H2.out.1).2.2.1) | (with_reducible refine set2_same (a0:=Value.int .i64 0) (a1:=Value.int .i64 0) ?_) | (with_reducible refine set_keep ?_ ne2.symm) | (with_reducible refine set_keep ?_ ne3.symm))
  case i1=>rw[sizeNt];try rfl
  case i2=>rw[sizeTk];try rfl
  case i3=>rw[sizeFt];try rfl
  case post =>
   refine H2.out.2 _ ?_ ?_ ?_
   ·simp
   ·repeat(first | (with_reducible refine out_drew ?_) | (with_reducible refine out_set ?_ lo1) | (with_reducible refine out_set ?_ lo2) | (with_reducible refine out_set ?_ lo3) | (exact(fun _ _=>rfl)))
   ·repeat(first | (with_reducible refine Below.drew ?_) | (with_reducible exact(HH.out _ H2.out.1).2.2.2) | (with_reducible refine Below.setCell ?_ le1 _) | (with_reducible refine Below.setCell ?_ le2 _) | (with_reducible refine Below.setCell ?_ le3 _))
 ·have HE:Hid ((plErr n trees ds dn).1=f1∧(plErr n trees ds dn).2=f2):=by
   have e3:=H1.out.2.1;have e4:=H1.out.2.2.1;have:plErr n trees ds dn=stErr n trees:=if_pos (by rw[←e3];exact q);rw[this];exact⟨e3.symm,e4.symm⟩
  have q1':(f1 != 0)=true:=(by simpa using q)
  have HNE:Hid (f1≠0):=q;have d1:RN≠w1.heap.size+1:=(by have:=H1.out.1.size;omega)
  have d2:RT≠w1.heap.size+1:=(by have:=H1.out.1.size;omega)
  have d3:RF≠w1.heap.size+1:=(by have:=H1.out.1.size;omega)
  have d4:=d1.symm;have d5:=d2.symm;have d6:=d3.symm;clear p0 p1 hV1 HON HC e0;(go_wp2_with fail);rw[←HV1.out];go_region
  (all_goals go_wp2_with fail);all_goals
   refine bodyPost_ret (v:=.tuple #[.agg #[.slice none 0 0,.slice none 0 0],.agg #[.slice none 0 0],.agg #[.int .i64 f1,.int .i64 f2]]) (results_row3 Tryz.results15 _ _ RN RT RF 25 29 32 #[.slice none 0 0,.slice none 0 0] #[.slice none 0 0] #[.int .i64 f1,.int .i64 f2] (0,0) (0,0) (0,0) _ _ _ rfl rfl rfl ?h1 ?h2 ?h3 Tryz.underlying25 Tryz.underlying29 Tryz.underlying32 rfl rfl rfl ?i1 ?i2 ?i3) rfl ?post
   case h1=>repeat(first | (with_reducible refine drew_keep ?_) | (with_reducible exact(HH.out _ HV1B.out).1) | (with_reducible exact(HH.out _ (below_drewN HV1B.out _)).1) | (with_reducible exact(HH.out _ (Below.drew HV1B.out)).1) | (with_reducible refine set2_same (a0:=Value.slice none 0 0) (a1:=Value.slice none 0 0) ?_) | (with_reducible refine set_keep ?_ ne1) | (with_reducible refine set_keep ?_ ne2))
   case h2=>repeat(first | (with_reducible refine drew_keep ?_) | (with_reducible exact(HH.out _ HV1B.out).2.1) | (with_reducible exact(HH.out _ (below_drewN HV1B.out _)).2.1) | (with_reducible exact(HH.out _ (Below.drew HV1B.out)).2.1) | (with_reducible refine set1_same (a0:=Value.slice none 0 0) ?_) | (with_reducible refine set_keep ?_ ne1.symm) | (with_reducible refine set_keep ?_ ne3))
   case h3=>repeat(first | (with_reducible refine drew_keep ?_) | (with_reducible exact(HH.out _ HV1B.out).2.2.1) | (with_reducible exact(HH.out _ (below_drewN HV1B.out _)).2.2.1) | (with_reducible exact(HH.out _ (Below.drew HV1B.out)).2.2.1) | (with_reducible refine set2_same (a0:=Value.int .i64 0) (a1:=Value.int .i64 0) ?_) | (with_reducible refine set_keep ?_ ne2.symm) | (with_reducible refine set_keep ?_ ne3.symm))
   case i1=>rw[sizeNt];try rfl
   case i2=>rw[sizeTk];try rfl
   case i3=>rw[sizeFt];try rfl
   case post =>
    refine⟨?_,Or.inl ⟨by rw[HE.out.1];exact HNE.out,by rw[HE.out.1,HE.out.2]⟩⟩;repeat(first | (with_reducible refine Below.drew ?_) | (with_reducible exact(HH.out _ HV1B.out).2.2.2) | (with_reducible exact(HH.out _ (below_drewN HV1B.out _)).2.2.2) | (with_reducible exact(HH.out _ (Below.drew HV1B.out)).2.2.2) | (with_reducible refine Below.setCell ?_ le1 _) | (with_reducible refine Below.setCell ?_ le2 _) | (with_reducible refine Below.setCell ?_ le3 _))
end
section
open Go.RowKit
open Vc (V Of)
open Pl (En Lk Br Net)
open Tk (Md Mnd Cn Sc Dn)
def RplW (w:World) (N:Nat→Prop) (n:Net) (trees:Int) (ds:Nat→Dn) (dn:Nat) (e:Ending) (w':World):Prop :=
 Bl w w'∧(((plErr n trees ds dn).1≠0∧e=.returned (.tuple #[.agg #[.slice none 0 0,.slice none 0 0],.agg #[.slice none 0 0],.agg #[.int .i64 (plErr n trees ds dn).1,.int .i64 (plErr n trees ds dn).2]])) ∨
  ((plErr n trees ds dn).1=0∧∃(n':Net) (oao:Option Addr) (ocap:Nat) (t':List Tr),e=.returned (.tuple #[n'.val,.agg #[.slice oao t'.length ocap],.agg #[.int .i64 0,.int .i64 0]])∧Bz N w' (fun V=>SnOut V n trees.toNat ((n.sc (startMs n)).all n.cn ds dn) n' oao ocap t')))
theorem rplay_any (n:Net) (trees:Int) (dao:Option Addr) (dn dcap:Nat) (ds:Nat→Dn) (N:Nat→Prop) (w:World) (hwf:n.Wf) (hN:∀q,N q→q<w.heap.size) (hat:Bz N w (fun V=>n.at' V)) (hnb:NilOk n.bao n.K n.bcap) (hnl:NilOk n.lao n.L n.lcap) (hnp:∀i,i<n.K→NilOk (n.bs i).pao (n.bs i).pn (n.bs i).pcap) (hdn:dn≤9223372036854775807) (hds:DRow w dao dn dcap ds) :
  Calls Tryz.prog 16 #[n.val,.int .i64 trees,.slice dao dn dcap] w fun e w'=>RplW w N n trees ds dn e w':=by
 obtain⟨X2,HX2⟩:∃X2,Hid (X2=(w.alloc (.cells #[.slice n.bao n.K n.bcap,.slice n.lao n.L n.lcap] 25)).alloc (.cells #[.slice none 0 0,.slice none 0 0] 25)):=⟨_,rfl⟩
 obtain⟨X,HX⟩:∃X,Hid (X=(X2.alloc (.cells #[.slice none 0 0] 29)).alloc (.cells #[.int .i64 0,.int .i64 0] 32)):=⟨_,rfl⟩
 have b1:Bl w X2:=(by rw[HX2.out];exact bA2 _ _ _)
 have s1:X2.heap.size=w.heap.size+1+1:=(by rw[HX2.out];simp)
 have b2:Bl X2 X:=(by rw[HX.out];exact bA2 _ _ _)
 have s2:X.heap.size=X2.heap.size+1+1:=(by rw[HX.out];simp)
 have hXB:Bl w X:=b1.trans (b2.mono b1.size);have g0:X.heap[w.heap.size]?=some (.cells #[.slice n.bao n.K n.bcap,.slice n.lao n.L n.lcap] 25):=keep (by rw[HX2.out];exact heap_alloc2_old _ _ _) b2;have g2:X.heap[w.heap.size+1]?=some (.cells #[.slice none 0 0,.slice none 0 0] 25):=keep (by rw[HX2.out];exact heap_alloc2_new _ _ _) b2;have g3:X.heap[w.heap.size+1+1]?=some (.cells #[.slice none 0 0] 29):=by
  rw[HX.out,←s1];exact heap_alloc2_old _ _ _
 have g4:X.heap[w.heap.size+1+1+1]?=some (.cells #[.int .i64 0,.int .i64 0] 32):=by
  rw[HX.out,←s1];exact heap_alloc2_new _ _ _
 obtain⟨BN,HBN⟩:∃BN,Hid (BN=w.heap.size):=⟨_,rfl⟩
 obtain⟨RN,HRN⟩:∃RN,Hid (RN=w.heap.size+1):=⟨_,rfl⟩
 obtain⟨RT,HRT⟩:∃RT,Hid (RT=w.heap.size+1+1):=⟨_,rfl⟩
 obtain⟨RF,HRF⟩:∃RF,Hid (RF=w.heap.size+1+1+1):=⟨_,rfl⟩
 rw[←HBN.out] at g0;rw[←HRN.out] at g2;rw[←HRT.out] at g3;rw[←HRF.out] at g4;have hord:w.heap.size≤BN∧BN<RN∧RN<RT∧RT<RF∧RF<X.heap.size:=by
  have e1:=HBN.out;have e2:=HRN.out;have e3:=HRT.out;have e4:=HRF.out;omega
 have ne1:RN≠RT:=(by omega)
 have ne2:RN≠RF:=(by omega)
 have ne3:RT≠RF:=(by omega)
 have ne4:=ne1.symm;have ne5:=ne2.symm;have ne6:=ne3.symm;have HLE:Hid (w.heap.size≤RN∧w.heap.size≤RT∧w.heap.size≤RF):=⟨by omega,by omega,by omega⟩
 have HRB:Hid (∀V,Bl X V→RB w V RN RT RF):=fun V hV=>⟨keep g2 hV,keep g3 hV,keep g4 hV,hXB.trans (hV.mono hXB.size)⟩
 have HBX:Hid (∀V,Bl X V→V.heap[BN]?=some (.cells #[.slice n.bao n.K n.bcap,.slice n.lao n.L n.lcap] 25)):=fun V hV=>keep g0 hV;have HST:Hid (Calls Tryz.prog 13 #[.agg #[.slice n.bao n.K n.bcap,.slice n.lao n.L n.lcap],.int .i64 trees] X fun e w'=>∃oa ol oc f1 f2,e=.returned (.tuple #[.agg #[.slice oa ol oc],.agg #[.int .i64 f1,.int .i64 f2]])∧Hid (Bl X w'∧f1=(stErr n trees).1∧f2=(stErr n trees).2∧(f1=0→∃t0:List Tr,ol=t0.length∧Kept w' X.heap.size (fun V=>StT V n trees oa oc t0)))):=by
  refine(rstart_any n trees X hwf (hat.at' hXB)).mono ?_;rintro e w' ⟨h1,⟨h2,rfl⟩ | ⟨h2,oao,ocap,t0,rfl,h3⟩⟩
  ·exact⟨none,0,0,_,_,rfl,h1,rfl,rfl,fun z=>absurd z h2⟩
  ·have:stErr n trees=(0,0):=by
    obtain⟨z1,z2⟩:=stErr_zero h2;unfold stErr;rw[if_neg (fun z=>z z1),if_neg (fun z=>z z2)]
   exact⟨oao,_,ocap,0,0,rfl,h1,by rw[this],by rw[this],fun _=>⟨t0,rfl,h3⟩⟩
 have HON:Hid ((stErr n trees).1=0→∀(w1 V:World) (oa:Option Addr) (oc:Nat) (t0:List Tr),Bl X w1→Bl w1 V→Kept w1 X.heap.size (fun V=>StT V n trees oa oc t0)→Calls Tryz.prog 21 #[.agg #[.slice n.bao n.K n.bcap,.slice n.lao n.L n.lcap],.agg #[.slice oa t0.length oc],.slice dao dn dcap] V fun e w'=>∃na nk nc la lk lc oa ol oc f1 f2,e=.returned (.tuple #[.agg #[.slice na nk nc,.slice la lk lc],.agg #[.slice oa ol oc],.agg #[.int .i64 f1,.int .i64 f2]])∧Hid (RB w w' RN RT RF∧RplW w N n trees ds dn (.returned (.tuple #[.agg #[.slice na nk nc,.slice la lk lc],.agg #[.slice oa ol oc],.agg #[.int .i64 f1,.int .i64 f2]])) (((((w'.setCell ⟨RN,0,none⟩ (.slice na nk nc)).setCell ⟨RN,1,none⟩ (.slice la lk lc)).setCell ⟨RT,0,none⟩ (.slice oa ol oc)).setCell ⟨RF,0,none⟩ (.int .i64 f1)).setCell ⟨RF,1,none⟩ (.int .i64 f2)))):=fun h0 w1 V oa oc t0 hw1 hV1 hT=>by
  have hV:=hw1.trans (hV1.mono hw1.size);have hV2:=hXB.trans (hV.mono hXB.size);obtain⟨z1,z2⟩:=stErr_zero h0;have hT0:=hT.here;have hp:plErr n trees ds dn=onErr n t0 ds dn:=by
   rw[on_start z1 hT0.fit];exact if_neg (fun z=>z h0)
  have hl:t0.length=trees.toNat:=(by have:=hT0.len;omega)
  have hN1:∀q,(N q∨(q=RN∨q=RT∨q=RF))→q<V.heap.size:=fun q hq=>by
   have h1:=hV.size;have h2:=hXB.size;rcases hq with z | z | z | z
   ·have:=hN q z;omega
   ·omega
   ·omega
   ·omega
  have hat1:Bz (fun q=>N q∨(q=RN∨q=RT∨q=RF)) V (fun V=>n.at' V):=hat.more hV2 (fun q hq=>by omega);have htr1:Bz (fun q=>N q∨(q=RN∨q=RT∨q=RF)) V (fun V=>TrRow V oa oc t0):=fun V3 hV3=>(hT V3 (fun q h1 h2=>(hV3 q (Nat.lt_of_lt_of_le h2 hV1.size) (fun z=>by
   have h3:=hXB.size;rcases z with z | z | z | z
   ·have:=hN q z;omega
   ·omega
   ·omega
   ·omega)).trans (hV1.block q h2))).row
  refine(ron_any n oa oc t0 (startMs n) dao dn dcap ds (fun q=>N q∨(q=RN∨q=RT∨q=RF)) V hwf hN1 hat1 hnb hnl hnp htr1 hdn (CRow.below hds hV2) hT0.calm hT0.ms).mono ?_;rintro e w' ⟨h1,h⟩;have hRB:RB w w' RN RT RF:=(HRB.out V hV).below h1;have lw:∀v0 v1 v2 v3 v4,Bl w (((((w'.setCell ⟨RN,0,none⟩ v0).setCell ⟨RN,1,none⟩ v1).setCell ⟨RT,0,none⟩ v2).setCell ⟨RF,0,none⟩ v3).setCell ⟨RF,1,none⟩ v4):=fun v0 v1 v2 v3 v4=>((((hRB.low.setCell HLE.out.1 v0).setCell HLE.out.1 v1).setCell HLE.out.2.1 v2).setCell HLE.out.2.2 v3).setCell HLE.out.2.2 v4;rcases h with⟨h2,rfl⟩ | ⟨h2,n',oao,ocap,t',rfl,h3⟩
  ·exact⟨none,0,0,none,0,0,none,0,0,_,_,rfl,hRB,lw _ _ _ _ _,Or.inl ⟨by rw[hp];exact h2,by rw[hp]⟩⟩
  ·refine⟨n'.bao,n'.K,n'.bcap,n'.lao,n'.L,n'.lcap,oao,t'.length,ocap,0,0,rfl,hRB,lw _ _ _ _ _,Or.inr ⟨by rw[hp];exact h2,n',oao,ocap,t',rfl,?_⟩⟩;rw[←hl];have k1:N RN∨(RN=RN∨RN=RT∨RN=RF):=Or.inr (Or.inl rfl);have k2:N RT∨(RT=RN∨RT=RT∨RT=RF):=Or.inr (Or.inr (Or.inl rfl));have k3:N RF∨(RF=RN∨RF=RT∨RF=RF):=Or.inr (Or.inr (Or.inr rfl));exact(((((h3.set (g:=RN) k1).set (g:=RN) k1).set (g:=RT) k2).set (g:=RF) k3).set (g:=RF) k3).of (fun q z=>Or.inl z)
 have HPE:Hid ((stErr n trees).1≠0→plErr n trees ds dn=stErr n trees):=fun h=>if_pos h;obtain⟨x0,x1⟩:=tC2 g0;clear hwf hat hnb hnl hnp hds b1 b2 s1 s2 hXB g0 g2 g3 g4 hN;rw[HX.out,HX2.out,HBN.out] at x0 x1;simp only[Pl.Net.val];go_enter Tryz.func16,Tryz.ntmps16;(go_wp2_with fail);rw[←HX2.out,←HX.out,←HRF.out,←HRT.out,←HRN.out,←HBN.out];refine HST.out.mono ?_;rintro e w1 ⟨oa,ol,oc,f1,f2,rfl,H1⟩;clear x0 x1 HST;obtain⟨V1,HV1⟩:∃V1,Hid (V1=(w1.alloc (.cells #[.slice oa ol oc] 29)).alloc (.cells #[.int .i64 f1,.int .i64 f2] 32)):=⟨_,rfl⟩
 have h11:Bl w1 V1:=(by rw[HV1.out];exact bA2 _ _ _)
 have hV1:Bl X V1:=H1.out.1.trans (h11.mono H1.out.1.size);have e0:V1.cell? ⟨w1.heap.size,0,none⟩=some (.slice oa ol oc):=one_cell (by rw[HV1.out];exact heap_alloc2_old _ _ _);obtain⟨e1,e2⟩:=tC2 (show V1.heap[w1.heap.size+1]?=some (.cells #[.int .i64 f1,.int .i64 f2] 32) by rw[HV1.out];exact heap_alloc2_new _ _ _);obtain⟨p0,p1⟩:=tC2 (HBX.out V1 hV1);have y1:=e1;rw[HV1.out] at y1;by_cases q:f1=0
 ·have h0:(stErr n trees).1=0:=H1.out.2.1.symm.trans q;obtain⟨t0,rfl,hT⟩:=H1.out.2.2.2 q;have HOV:Hid (Calls Tryz.prog 21 #[.agg #[.slice n.bao n.K n.bcap,.slice n.lao n.L n.lcap],.agg #[.slice oa t0.length oc],.slice dao dn dcap] V1 fun e w'=>∃na nk nc la lk lc oa ol oc f1 f2,e=.returned (.tuple #[.agg #[.slice na nk nc,.slice la lk lc],.agg #[.slice oa ol oc],.agg #[.int .i64 f1,.int .i64 f2]])∧Hid (RB w w' RN RT RF∧RplW w N n trees ds dn (.returned (.tuple #[.agg #[.slice na nk nc,.slice la lk lc],.agg #[.slice oa ol oc],.agg #[.int .i64 f1,.int .i64 f2]])) (((((w'.setCell ⟨RN,0,none⟩ (.slice na nk nc)).setCell ⟨RN,1,none⟩ (.slice la lk lc)).setCell ⟨RT,0,none⟩ (.slice oa ol oc)).setCell ⟨RF,0,none⟩ (.int .i64 f1)).setCell ⟨RF,1,none⟩ (.int .i64 f2)))):=HON.out h0 w1 V1 oa oc t0 H1.out.1 h11 hT;have r0:=p0;have r1:=p1;have r2:=e0;rw[HV1.out] at r0 r1 r2;subst q;clear h0 hT p0 p1 HON h11 hV1 e0 e1 e2 hord;(go_wp2_with fail);rw[←HV1.out];refine HOV.out.mono ?_;rintro e w2 ⟨na,nk,nc,la,lk,lc,oa2,ol2,oc2,f3,f4,rfl,H2⟩;clear HOV r0 r1 r2 y1;obtain⟨⟨p0,p1⟩,p2,⟨p3,p4⟩,⟨q0,q1⟩,q2,q3,q4⟩:=H2.out.1.cells;(go_wp2_with fail);obtain⟨z1,z2,z3⟩:=five_set (v0:=.slice na nk nc) (v1:=.slice la lk lc) (v2:=.slice oa2 ol2 oc2) (v3:=.int .i64 f3) (v4:=.int .i64 f4) H2.out.1.n H2.out.1.t H2.out.1.f ne1 ne2 ne3;exact bodyPost_ret (v:=.tuple #[.agg #[.slice na nk nc,.slice la lk lc],.agg #[.slice oa2 ol2 oc2],.agg #[.int .i64 f3,.int .i64 f4]]) (results_row3 Tryz.results16 _ _ RN RT RF 25 29 32 #[.slice na nk nc,.slice la lk lc] #[.slice oa2 ol2 oc2] #[.int .i64 f3,.int .i64 f4] (0,0) (0,0) (0,0) _ _ _ rfl rfl rfl z1 z2 z3 Tryz.underlying25 Tryz.underlying29 Tryz.underlying32 rfl rfl rfl (by rw[sizeNt];rfl) (by rw[sizeTk];rfl) (by rw[sizeFt];rfl)) rfl H2.out.2
 ·have hp:=HPE.out (fun z=>q (H1.out.2.1.trans z));have HE:Hid (plErr n trees ds dn=(f1,f2)):=by
   rw[hp,H1.out.2.1,H1.out.2.2.1];exact rfl
  have HNZ:Hid (f1≠0):=q;have HRW:Hid (RB w V1 RN RT RF):=HRB.out V1 hV1;obtain⟨⟨p3,p4⟩,p5,⟨p6,p7⟩,⟨q0,q1⟩,q2,q3,q4⟩:=HRW.out.cells;have q1':(f1 != 0)=true:=(by simpa using q)
  have d1:RN≠w1.heap.size+1:=(by have:=H1.out.1.size;omega)
  have d2:RT≠w1.heap.size+1:=(by have:=H1.out.1.size;omega)
  have d3:RF≠w1.heap.size+1:=(by have:=H1.out.1.size;omega)
  have d4:=d1.symm;have d5:=d2.symm;have d6:=d3.symm;clear hp p0 p1 hV1 h11 HON HPE HBX HRB hord e0 H1 q;(go_wp2_with fail);rw[←HV1.out];go_region
  (all_goals go_wp2_with fail);all_goals
   refine bodyPost_ret (v:=.tuple #[.agg #[.slice none 0 0,.slice none 0 0],.agg #[.slice none 0 0],.agg #[.int .i64 f1,.int .i64 f2]]) (results_row3 Tryz.results16 _ _ RN RT RF 25 29 32 #[.slice none 0 0,.slice none 0 0] #[.slice none 0 0] #[.int .i64 f1,.int .i64 f2] (0,0) (0,0) (0,0) _ _ _ rfl rfl rfl ?h1 ?h2 ?h3 Tryz.underlying25 Tryz.underlying29 Tryz.underlying32 rfl rfl rfl ?i1 ?i2 ?i3) rfl ?post
   case h1=>repeat(first | (with_reducible refine drew_keep ?_) | (with_reducible exact HRW.out.n) | (with_reducible exact keep HRW.out.n (below_drewN (Below.refl _ _) _)) | (with_reducible exact keep HRW.out.n (Below.drew (Below.refl _ _))) | (with_reducible refine set2_same (a0:=Value.slice none 0 0) (a1:=Value.slice none 0 0) ?_) | (with_reducible refine set_keep ?_ ne1) | (with_reducible refine set_keep ?_ ne2))
   case h2=>repeat(first | (with_reducible refine drew_keep ?_) | (with_reducible exact HRW.out.t) | (with_reducible exact keep HRW.out.t (below_drewN (Below.refl _ _) _)) | (with_reducible exact keep HRW.out.t (Below.drew (Below.refl _ _))) | (with_reducible refine set1_same (a0:=Value.slice none 0 0) ?_) | (with_reducible refine set_keep ?_ ne4) | (with_reducible refine set_keep ?_ ne3))
   case h3=>repeat(first | (with_reducible refine drew_keep ?_) | (with_reducible exact HRW.out.f) | (with_reducible exact keep HRW.out.f (below_drewN (Below.refl _ _) _)) | (with_reducible exact keep HRW.out.f (Below.drew (Below.refl _ _))) | (with_reducible refine set2_same (a0:=Value.int .i64 0) (a1:=Value.int .i64 0) ?_) | (with_reducible refine set_keep ?_ ne5) | (with_reducible refine set_keep ?_ ne6))
   case i1=>rw[sizeNt];try rfl
   case i2=>rw[sizeTk];try rfl
   case i3=>rw[sizeFt];try rfl
   case post =>
    refine⟨?_,Or.inl ⟨by rw[HE.out];exact HNZ.out,by rw[HE.out]⟩⟩;repeat(first | (with_reducible refine Below.drew ?_) | (with_reducible exact HRW.out.low) | (with_reducible exact below_drewN HRW.out.low _) | (with_reducible refine Below.setCell ?_ HLE.out.1 _) | (with_reducible refine Below.setCell ?_ HLE.out.2.1 _) | (with_reducible refine Below.setCell ?_ HLE.out.2.2 _))
end
section
open Go.RowKit
open Tk (Md)
def opM (m:Mi) (port:Int):Bool:=if 0≤Bk.idx m.ports port m.ports.length∧Bk.idx m.ports port m.ports.length≤(m.calm.length:Int)-1 then decide (50≤m.calm.getD (Bk.idx m.ports port m.ports.length).toNat 0) else false
def opT (t:List Tr) (tree bridge port:Int):Bool:=if (0≤tree∧tree≤(t.length:Int)-1)∧(0≤bridge∧bridge≤((tat t tree.toNat).l.length:Int)-1) then opM (mat (tat t tree.toNat).l bridge.toNat) port else false
theorem topens_any (oao:Option Addr) (ocap:Nat) (t:List Tr) (tree bridge port:Int) (w:World) (ht:TrRow w oao ocap t) :
  Calls Tryz.prog 18 #[.agg #[.slice oao t.length ocap],.int .i64 tree,.int .i64 bridge,.int .i64 port] w fun e w'=>e=.returned (.bool (opT t tree bridge port))∧Bl w w':=by
 obtain⟨X,HX⟩:∃X,Hid (X=w.alloc (.cells #[.slice oao t.length ocap] 29)):=⟨_,rfl⟩
 have hXB:Bl w X:=(by rw[HX.out];exact bA1 _ _)
 have hX0:X.heap[w.heap.size]?=some (.cells #[.slice oao t.length ocap] 29):=(by rw[HX.out];exact heap_alloc_last _ _)
 have c0:X.cell? ⟨w.heap.size,0,none⟩=some (.slice oao t.length ocap):=cell_of_row X _ 0 _ _ _ hX0;have hmany:=ht.many;have hcap:=ht.row.1;by_cases h1:0≤tree∧tree≤(t.length:Int)-1
 ·obtain⟨k,rfl⟩:∃k:Nat,tree=(k:Int):=⟨tree.toNat,by omega⟩
  have hk:k<t.length:=(by omega)
  have hrow:=ht.below hXB;obtain⟨b,off,rfl,_⟩:=hrow.place (by omega);have c1:=hrow.cell hk;have hm:=hrow.each k hk;have ik:(0:Int)≤(k:Int):=(by omega)
  have nk:(k:Int)<(t.length:Int):=(by omega)
  have hmm:=hm.many;have hmc:=hm.row.1;have HOP:Hid (opT t k bridge port=if 0≤bridge∧bridge≤((tat t k).l.length:Int)-1 then opM (mat (tat t k).l bridge.toNat) port else false):=by
   show(if (0≤(k:Int)∧(k:Int)≤(t.length:Int)-1)∧(0≤bridge∧bridge≤((tat t ((k:Int)).toNat).l.length:Int)-1) then opM (mat (tat t ((k:Int)).toNat).l bridge.toNat) port else false)=_;rw[Int.toNat_natCast];by_cases z:0≤bridge∧bridge≤((tat t k).l.length:Int)-1
   ·rw[if_pos ⟨h1,z⟩,if_pos z]
   ·rw[if_neg (fun q=>z q.2),if_neg z]
  generalize tat t k=x at *;by_cases h2:0≤bridge∧bridge≤(x.l.length:Int)-1
  ·obtain⟨i,rfl⟩:∃i:Nat,bridge=(i:Int):=⟨bridge.toNat,by omega⟩
   have hi:i<x.l.length:=(by omega)
   obtain⟨xa,xc,xl⟩:=x;simp only at *;obtain⟨b2,off2,rfl,_⟩:=hm.place (by omega);obtain⟨d0,d1,d2,d3,d4,d5,d6,d7,d8⟩:=hm.cells hi;have hmi:=hm.each i hi;have ii:(0:Int)≤(i:Int):=(by omega)
   have ni:(i:Int)<(xl.length:Int):=(by omega)
   rw[Int.toNat_natCast,if_pos h2] at HOP;generalize mat xl i=m at *;obtain⟨Y,HY⟩:∃Y,Hid (Y=X.alloc (.cells #[.int .u64 m.md.v.root,.int .i64 m.md.v.cost,.int .u64 m.md.v.bridge,.int .i64 m.md.v.port,.int .i64 m.md.age,.int .i64 m.md.rp,.slice m.po m.ports.length m.pc,.slice m.ro m.roles.length m.rc,.slice m.co m.calm.length m.cc] 66)):=⟨_,rfl⟩
   have hYB:Bl X Y:=(by rw[HY.out];exact bA1 _ _)
   have hY0:Y.heap[X.heap.size]?=some (.cells #[.int .u64 m.md.v.root,.int .i64 m.md.v.cost,.int .u64 m.md.v.bridge,.int .i64 m.md.v.port,.int .i64 m.md.age,.int .i64 m.md.rp,.slice m.po m.ports.length m.pc,.slice m.ro m.roles.length m.rc,.slice m.co m.calm.length m.cc] 66):=(by rw[HY.out];exact heap_alloc_last _ _)
   have y6:Y.cell? ⟨X.heap.size,6,none⟩=some (.slice m.po m.ports.length m.pc):=cell_of_row Y _ 6 _ _ _ hY0;have y8:Y.cell? ⟨X.heap.size,8,none⟩=some (.slice m.co m.calm.length m.cc):=cell_of_row Y _ 8 _ _ _ hY0;have hXs:X.heap.size=w.heap.size+1:=(by rw[HX.out];simp)
   rw[hXs] at y8;have HIX:Hid (Calls Tryz.prog 38 #[.slice m.po m.ports.length m.pc,.int .i64 port] Y fun e w'=>e=.returned (.int .i64 (Bk.idx m.ports port m.ports.length))∧w'=Y):=bindex_any m.po m.pc m.ports port Y hmi.pn (hmi.ports.below hYB);have HWY:Hid (Bl w Y):=hXB.trans (hYB.mono hXB.size);have hcn:=hmi.cn;have hco:=hmi.calm.below hYB;have hcc:=hco.1;have HM:Hid (opM m port=if 0≤Bk.idx m.ports port m.ports.length∧Bk.idx m.ports port m.ports.length≤(m.calm.length:Int)-1 then decide (50≤m.calm.getD (Bk.idx m.ports port m.ports.length).toNat 0) else false):=rfl;generalize Bk.idx m.ports port m.ports.length=ix at *;rw[HX.out] at c0 c1 d0 d1 d2 d3 d4 d5 d6 d7 d8;have z6:=y6;rw[HY.out,HX.out] at z6;clear hrow hm hmi hXB hX0 hYB hY0 ht;go_enter Tryz.func18,Tryz.ntmps18;(go_wp2_with fail);refine(vwithin_any _ _ _ _).mono ?_;rintro e w1 ⟨rfl,rfl⟩;rw[decide_eq_true h1];(go_wp2_with fail);refine(vwithin_any _ _ _ _).mono ?_;rintro e w1 ⟨rfl,rfl⟩;rw[decide_eq_true h2];(go_wp2_with fail);rw[←HX.out,←HY.out];refine HIX.out.mono ?_;rintro e w1 ⟨rfl,rfl⟩;clear c0 c1 d0 d1 d2 d3 d4 d5 d6 d7 d8 HIX z6;by_cases h3:0≤ix∧ix≤(m.calm.length:Int)-1
   ·obtain⟨j,rfl⟩:∃j:Nat,ix=(j:Int):=⟨ix.toNat,by omega⟩
    have hj:j<m.calm.length:=(by omega)
    obtain⟨b3,off3,e3,_⟩:=hco.place (by omega);rw[e3] at hco y8;have d9:=hco.cell hj;have jj:(0:Int)≤(j:Int):=(by omega)
    have nj:(j:Int)<(m.calm.length:Int):=(by omega)
    rw[Int.toNat_natCast,if_pos h3] at HM;clear hco;(go_wp2_with fail);refine(vwithin_any _ _ _ _).mono ?_;rintro e w1 ⟨rfl,rfl⟩;rw[decide_eq_true h3];(go_wp2_with fail);go_ret;exact⟨by rw[HOP.out,HM.out];first | rfl | simp[hj],HWY.out⟩
   ·rw[if_neg h3] at HM;clear hco;(go_wp2_with fail);refine(vwithin_any _ _ _ _).mono ?_;rintro e w1 ⟨rfl,rfl⟩;rw[decide_eq_false h3];(go_wp2_with fail);go_ret;exact⟨by rw[HOP.out,HM.out];rfl,HWY.out⟩
  ·rw[if_neg h2] at HOP;have HWX:Hid (Bl w X):=hXB;rw[HX.out] at c0 c1;clear hrow hm hXB hX0 ht;go_enter Tryz.func18,Tryz.ntmps18;(go_wp2_with fail);refine(vwithin_any _ _ _ _).mono ?_;rintro e w1 ⟨rfl,rfl⟩;rw[decide_eq_true h1];(go_wp2_with fail);refine(vwithin_any _ _ _ _).mono ?_;rintro e w1 ⟨rfl,rfl⟩;rw[decide_eq_false h2];(go_wp2_with fail);rw[←HX.out];go_ret;exact⟨by rw[HOP.out];rfl,HWX.out⟩
 ·have HOP:Hid (opT t tree bridge port=false):=if_neg (fun q=>h1 q.1);have HWX:Hid (Bl w X):=hXB;rw[HX.out] at c0;clear hXB hX0 ht;go_enter Tryz.func18,Tryz.ntmps18;(go_wp2_with fail);refine(vwithin_any _ _ _ _).mono ?_;rintro e w1 ⟨rfl,rfl⟩;rw[decide_eq_false h1];(go_wp2_with fail);rw[←HX.out];go_ret;exact⟨by rw[HOP.out];rfl,HWX.out⟩
theorem ropens_any (oao:Option Addr) (ocap:Nat) (t:List Tr) (tree bridge port:Int) (w:World) (ht:TrRow w oao ocap t) :
  Calls Tryz.prog 19 #[.agg #[.slice oao t.length ocap],.int .i64 tree,.int .i64 bridge,.int .i64 port] w fun e w'=>e=.returned (.bool (opT t tree bridge port))∧Bl w w':=by
 obtain⟨X,HX⟩:∃X,Hid (X=w.alloc (.cells #[.slice oao t.length ocap] 29)):=⟨_,rfl⟩
 have hXB:Bl w X:=(by rw[HX.out];exact bA1 _ _)
 have hX0:X.heap[w.heap.size]?=some (.cells #[.slice oao t.length ocap] 29):=(by rw[HX.out];exact heap_alloc_last _ _)
 have c0:X.cell? ⟨w.heap.size,0,none⟩=some (.slice oao t.length ocap):=cell_of_row X _ 0 _ _ _ hX0;have hmany:=ht.many;have hcap:=ht.row.1;have HWX:Hid (Bl w X):=hXB;by_cases h0:tree<0
 ·have HOP:Hid (opT t tree bridge port=false):=if_neg (fun q=>by omega);rw[HX.out] at c0;clear hXB hX0 ht;go_enter Tryz.func19,Tryz.ntmps19;(go_wp2_with fail);rw[←HX.out];go_ret;exact⟨by rw[HOP.out];rfl,HWX.out⟩
 ·by_cases h1:tree≥(t.length:Int)
  ·have HOP:Hid (opT t tree bridge port=false):=if_neg (fun q=>by omega);rw[HX.out] at c0;clear hXB hX0 ht;go_enter Tryz.func19,Tryz.ntmps19;(go_wp2_with fail);rw[←HX.out];go_ret;exact⟨by rw[HOP.out];rfl,HWX.out⟩
  ·obtain⟨k,rfl⟩:∃k:Nat,tree=(k:Int):=⟨tree.toNat,by omega⟩
   have hk:k<t.length:=(by omega)
   have hrow:=ht.below hXB;obtain⟨b,off,rfl,_⟩:=hrow.place (by omega);have c1:=hrow.cell hk;have hm:=hrow.each k hk;have ik:(0:Int)≤(k:Int):=(by omega)
   have nk:(k:Int)<(t.length:Int):=(by omega)
   have hmm:=hm.many;have hmc:=hm.row.1;have HOP:Hid (opT t k bridge port=if 0≤bridge∧bridge≤((tat t k).l.length:Int)-1 then opM (mat (tat t k).l bridge.toNat) port else false):=by
    show(if (0≤(k:Int)∧(k:Int)≤(t.length:Int)-1)∧(0≤bridge∧bridge≤((tat t ((k:Int)).toNat).l.length:Int)-1) then opM (mat (tat t ((k:Int)).toNat).l bridge.toNat) port else false)=_;rw[Int.toNat_natCast];by_cases z:0≤bridge∧bridge≤((tat t k).l.length:Int)-1
    ·rw[if_pos ⟨⟨by omega,by omega⟩,z⟩,if_pos z]
    ·rw[if_neg (fun q=>z q.2),if_neg z]
   generalize tat t k=x at *;obtain⟨xa,xc,xl⟩:=x;simp only at *;by_cases h2:bridge<0
   ·rw[if_neg (by omega)] at HOP;rw[HX.out] at c0 c1;clear hrow hm hXB hX0 ht;go_enter Tryz.func19,Tryz.ntmps19;(go_wp2_with fail);rw[←HX.out];go_ret;exact⟨by rw[HOP.out];rfl,HWX.out⟩
   ·by_cases h3:bridge≥(xl.length:Int)
    ·rw[if_neg (by omega)] at HOP;rw[HX.out] at c0 c1;clear hrow hm hXB hX0 ht;go_enter Tryz.func19,Tryz.ntmps19;(go_wp2_with fail);rw[←HX.out];go_ret;exact⟨by rw[HOP.out];rfl,HWX.out⟩
    ·obtain⟨i,rfl⟩:∃i:Nat,bridge=(i:Int):=⟨bridge.toNat,by omega⟩
     have hi:i<xl.length:=(by omega)
     obtain⟨b2,off2,rfl,_⟩:=hm.place (by omega);obtain⟨d0,d1,d2,d3,d4,d5,d6,d7,d8⟩:=hm.cells hi;have hmi:=hm.each i hi;have ii:(0:Int)≤(i:Int):=(by omega)
     have ni:(i:Int)<(xl.length:Int):=(by omega)
     rw[Int.toNat_natCast,if_pos (by omega)] at HOP;generalize mat xl i=m at *;obtain⟨Y,HY⟩:∃Y,Hid (Y=X.alloc (.cells #[.int .u64 m.md.v.root,.int .i64 m.md.v.cost,.int .u64 m.md.v.bridge,.int .i64 m.md.v.port,.int .i64 m.md.age,.int .i64 m.md.rp,.slice m.po m.ports.length m.pc,.slice m.ro m.roles.length m.rc,.slice m.co m.calm.length m.cc] 66)):=⟨_,rfl⟩
     have hYB:Bl X Y:=(by rw[HY.out];exact bA1 _ _)
     have hY0:Y.heap[X.heap.size]?=some (.cells #[.int .u64 m.md.v.root,.int .i64 m.md.v.cost,.int .u64 m.md.v.bridge,.int .i64 m.md.v.port,.int .i64 m.md.age,.int .i64 m.md.rp,.slice m.po m.ports.length m.pc,.slice m.ro m.roles.length m.rc,.slice m.co m.calm.length m.cc] 66):=(by rw[HY.out];exact heap_alloc_last _ _)
     have y6:Y.cell? ⟨X.heap.size,6,none⟩=some (.slice m.po m.ports.length m.pc):=cell_of_row Y _ 6 _ _ _ hY0;have y8:Y.cell? ⟨X.heap.size,8,none⟩=some (.slice m.co m.calm.length m.cc):=cell_of_row Y _ 8 _ _ _ hY0;have hXs:X.heap.size=w.heap.size+1:=(by rw[HX.out];simp)
     have HWY:Hid (Bl w Y):=hXB.trans (hYB.mono hXB.size);have HPO:Hid (ILs Y m.po m.pc m.ports∧ILs Y m.co m.cc m.calm):=⟨hmi.ports.below hYB,hmi.calm.below hYB⟩
     have hpn:=hmi.pn;have hcn:=hmi.cn;have hpc:=hmi.ports.1;have hcc:=hmi.calm.1;have HM:Hid (opM m port=if 0≤Bk.idx m.ports port m.ports.length∧Bk.idx m.ports port m.ports.length≤(m.calm.length:Int)-1 then decide (50≤m.calm.getD (Bk.idx m.ports port m.ports.length).toNat 0) else false):=rfl;rw[hXs] at y6 y8;have y9:=y6;rw[HY.out,HX.out] at y9;rw[HX.out] at c0 c1 d0 d1 d2 d3 d4 d5 d6 d7 d8;clear hrow hm hmi hXB hX0 hYB hY0 ht hXs;go_enter Tryz.func19,Tryz.ntmps19;(go_wp2_with fail);rw[←HX.out,←HY.out];clear c0 c1 d0 d1 d2 d3 d4 d5 d6 d7 d8 y9;go_loopw [46] (fun s wr=>∃j:Nat,j≤m.ports.length∧s=.int .i64 j∧Hid (Bk.idx m.ports port j = -1)∧wr=Y) (fun s _=>m.ports.length-(intOf s).toNat)
     case atStart=>exact⟨0,by omega,rfl,rfl,rfl⟩
     case round =>
      obtain⟨j,hj,rfl,hS,rfl⟩:=hrel;by_cases hlt:j<m.ports.length
      ·obtain⟨pb,po,epo,_⟩:=HPO.out.1.place (by omega);have hpp:=HPO.out.1;rw[epo] at hpp y6 ⊢;have g1:=hpp.cell hlt;have jj:(0:Int)≤(j:Int):=(by omega)
       have nj:(j:Int)<(m.ports.length:Int):=(by omega)
       have HS2:Hid (Bk.idx m.ports port (j+1)=if port=m.ports.getD j 0 then(j:Int) else -1):=by
        show(if 0≤Bk.idx m.ports port j then Bk.idx m.ports port j else if port=m.ports.getD j 0 then(j:Int) else -1)=_;rw[hS.out];rfl
       have HSS:Hid (port=m.ports.getD j 0→Bk.idx m.ports port m.ports.length=(j:Int)):=fun h=>by
        have h1:=HS2.out;rw[if_pos h] at h1;rw[Bk.idx_stay m.ports port (j+1) (by omega) m.ports.length (by omega),h1]
       clear hpp epo hS;generalize m.ports.getD j 0=p at *;by_cases q:p=port
       ·have HX1:Hid (Bk.idx m.ports port m.ports.length=(j:Int)):=HSS.out q.symm;rw[HX1.out] at HM;clear HSS HS2 HX1;by_cases q2:j<m.calm.length
        ·obtain⟨cb,co,eco,_⟩:=HPO.out.2.place (by omega);have hpp:=HPO.out.2;rw[eco] at hpp y8;have g2:=hpp.cell q2;have nc:(j:Int)<(m.calm.length:Int):=(by omega)
         have HM2:Hid (opM m port=decide (50≤m.calm.getD j 0)):=by
          have h:=HM.out;rw[if_pos (by omega),Int.toNat_natCast] at h;exact h
         have e1:(p == port)=true:=(by simp[q])
         clear HM hpp eco q;generalize m.calm.getD j 0=c at *;(go_wp2_with fail);go_ret;exact⟨by rw[HOP.out,HM2.out];rfl,HWY.out⟩
        ·have nc:¬(j:Int)<(m.calm.length:Int):=(by omega)
         have HM2:Hid (opM m port=false):=by
          have h:=HM.out;rw[if_neg (by omega)] at h;exact h
         have e1:(p == port)=true:=(by simp[q])
         clear HM q;(go_wp2_with fail);go_ret;exact⟨by rw[HOP.out,HM2.out];rfl,HWY.out⟩
       ·have HS3:Hid (Bk.idx m.ports port (j+1) = -1):=(by rw[HS2.out,if_neg (fun e=>q e.symm)];rfl)
        have e1:(p == port)=false:=(by simp[q])
        clear HSS HS2 q HM;(go_wp2_with fail);exact⟨⟨j+1,by omega,by go_num,HS3,trivial⟩,by simp[intOf];omega⟩
      ·obtain rfl:j=m.ports.length:=by omega
       have HM2:Hid (opM m port=false):=by
        have h:=HM.out;rw[hS.out,if_neg (by omega)] at h;exact h
       clear HM hS;(go_wp2_with fail);go_ret;exact⟨by rw[HOP.out,HM2.out];rfl,HWY.out⟩
end
section
namespace Tk
open Vc (V Of)
open Pl (Lk En RightL ends)
end Tk
namespace Tk
open Vc (V Of)
open Pl (Lk En RightL ends)
end Tk
end
section
open Go.RowKit
open Vc (V Of)
open Pl (Br Net Pc Lk En)
open Tk (Md Mnd Cn Sc Dn)
end
end Go.Proofs.YtaneiffnhphkhaaGreatDoor
