/- What On leaves behind Play and so many ticks more -/
import Derived.Test.YtelebnancdjjiaaGreatDoorM36
import Derived.Test.YtelebnancdjjiaaGreatDoorM16
import Derived.Test.YtelebnancdjjiaaGreatDoorM07
import Derived.Test.YtelebnancdjjiaaGreatDoorM13
import Derived.Test.YtelebnancdjjiaaGreatDoorM20
import Derived.Test.YtelebnancdjjiaaGreatDoorM11
import Derived.Test.YtelebnancdjjiaaGreatDoorM23
set_option maxRecDepth 100000
set_option maxHeartbeats 6000000
namespace Go.Proofs.YtelebnancdjjiaaGreatDoor
section
open Go.RowKit
open Vc (V Of)
open Pl (En Lk Br Net)
open Tk (Md Mnd Cn Sc Dn ixM ilist lst3 ilm)
def plErr (n:Net) (trees:Int) (ds:Nat→Dn) (dn:Nat):Int×Int:=if (stErr n trees).1≠0 then stErr n trees else if 30<dn then(5,0) else Tk.errTo n.cn ds dn
theorem stErr_zero {n:Net}{trees:Int}(h:(stErr n trees).1=0):n.wrong.1=0∧(1≤trees∧trees≤4):=by
 unfold stErr at h;by_cases q:n.wrong.1=0
 ·rw[if_neg (fun z=>z q)] at h;by_cases q2:1≤trees∧trees≤4
  ·exact⟨q,q2⟩
  ·rw[if_pos q2] at h;cases h
 ·rw[if_pos q] at h;exact absurd h q
theorem on_start {n:Net}{t0:List Tr}{ds:Nat→Dn}{dn:Nat}(h:n.wrong.1=0) (hf:fitT n t0=true):onErr n t0 ds dn=if 30<dn then(5,0) else Tk.errTo n.cn ds dn:=by
 have e:wrT n t0 dn=if 30<dn then(5,0) else(0,0):=by
  unfold wrT;rw[if_neg (fun z=>z h),if_neg (by rw[hf];exact Bool.noConfusion)]
 unfold onErr;rw[e];by_cases q:30<dn
 ·rw[if_pos q,if_pos q,if_pos (by decide)]
 ·rw[if_neg q,if_neg q,if_neg (fun z=>z rfl)]
theorem plErr_zero {n:Net}{trees:Int}{ds:Nat→Dn}{dn:Nat}(h:(plErr n trees ds dn).1=0):(n.wrong.1=0∧(1≤trees∧trees≤4))∧dn≤30∧∀k,k<dn→Tk.errOf n.cn (ds k)=0:=by
 unfold plErr at h;by_cases q:(stErr n trees).1=0
 ·rw[if_neg (fun z=>z q)] at h;by_cases q2:30<dn
  ·rw[if_pos q2] at h;cases h
  ·rw[if_neg q2] at h;exact⟨stErr_zero q,by omega,(Pl.firstTo_zero _ _ h).2⟩
 ·rw[if_pos q] at h;exact absurd h q
def PlayW (w:World) (n:Net) (trees:Int) (ds:Nat→Dn) (dn:Nat) (e:Ending) (w':World):Prop :=
 Bl w w'∧(((plErr n trees ds dn).1≠0∧e=.returned (.tuple #[.agg #[.slice none 0 0,.slice none 0 0],.agg #[.slice none 0 0],.agg #[.int .i64 (plErr n trees ds dn).1,.int .i64 (plErr n trees ds dn).2]])) ∨
  ((plErr n trees ds dn).1=0∧∃(n':Net) (oao:Option Addr) (ocap:Nat) (t':List Tr),e=.returned (.tuple #[n'.val,.agg #[.slice oao t'.length ocap],.agg #[.int .i64 0,.int .i64 0]])∧∃b,w.heap.size≤b∧Kept w' b (fun V=>SnOut V n trees.toNat ((n.sc (startMs n)).all n.cn ds dn) n' oao ocap t')))
theorem tplay_any (n:Net) (trees:Int) (dao:Option Addr) (dn dcap:Nat) (ds:Nat→Dn) (w:World) (hwf:n.Wf) (hat:n.at' w) (hdn:dn≤9223372036854775807) (hds:DRow w dao dn dcap ds) (htb:Tabs w) (hbt:2≤w.heap.size) :
  Calls Tryz.prog 19 #[n.val,.int .i64 trees,.slice dao dn dcap] w fun e w'=>PlayW w n trees ds dn e w':=by
 obtain⟨X2,HX2⟩:∃X2,Hid (X2=(w.alloc (.cells #[.slice n.bao n.K n.bcap,.slice n.lao n.L n.lcap] 25)).alloc (.cells #[.slice none 0 0,.slice none 0 0] 25)):=⟨_,rfl⟩
 obtain⟨X,HX⟩:∃X,Hid (X=(X2.alloc (.cells #[.slice none 0 0] 34)).alloc (.cells #[.int .i64 0,.int .i64 0] 37)):=⟨_,rfl⟩
 have b1:Bl w X2:=(by rw[HX2.out];exact bA2 _ _ _)
 have s1:X2.heap.size=w.heap.size+1+1:=(by rw[HX2.out];simp)
 have b2:Bl X2 X:=(by rw[HX.out];exact bA2 _ _ _)
 have s2:X.heap.size=X2.heap.size+1+1:=(by rw[HX.out];simp)
 have hXB:Bl w X:=b1.trans (b2.mono b1.size);have g0:X.heap[w.heap.size]?=some (.cells #[.slice n.bao n.K n.bcap,.slice n.lao n.L n.lcap] 25):=keep (by rw[HX2.out];exact heap_alloc2_old _ _ _) b2;have g2:X.heap[w.heap.size+1]?=some (.cells #[.slice none 0 0,.slice none 0 0] 25):=keep (by rw[HX2.out];exact heap_alloc2_new _ _ _) b2;have g3:X.heap[w.heap.size+1+1]?=some (.cells #[.slice none 0 0] 34):=by
  rw[HX.out,←s1];exact heap_alloc2_old _ _ _
 have g4:X.heap[w.heap.size+1+1+1]?=some (.cells #[.int .i64 0,.int .i64 0] 37):=by
  rw[HX.out,←s1];exact heap_alloc2_new _ _ _
 obtain⟨BN,HBN⟩:∃BN,Hid (BN=w.heap.size):=⟨_,rfl⟩
 obtain⟨RN,HRN⟩:∃RN,Hid (RN=w.heap.size+1):=⟨_,rfl⟩
 obtain⟨RT,HRT⟩:∃RT,Hid (RT=w.heap.size+1+1):=⟨_,rfl⟩
 obtain⟨RF,HRF⟩:∃RF,Hid (RF=w.heap.size+1+1+1):=⟨_,rfl⟩
 rw[←HBN.out] at g0;rw[←HRN.out] at g2;rw[←HRT.out] at g3;rw[←HRF.out] at g4;have ne1:RN≠RT:=(by have:=HRN.out;have:=HRT.out;omega)
 have ne2:RN≠RF:=(by have:=HRN.out;have:=HRF.out;omega)
 have ne3:RT≠RF:=(by have:=HRT.out;have:=HRF.out;omega)
 have le1:w.heap.size≤RN:=(by have:=HRN.out;omega)
 have le2:w.heap.size≤RT:=(by have:=HRT.out;omega)
 have le3:w.heap.size≤RF:=(by have:=HRF.out;omega)
 have lt1:RN<X.heap.size:=(by have:=HRN.out;omega)
 have lt2:RT<X.heap.size:=(by have:=HRT.out;omega)
 have lt3:RF<X.heap.size:=(by have:=HRF.out;omega)
 have HC:Hid (∀V,Bl X V→(V.cell? ⟨BN,0,none⟩=some (.slice n.bao n.K n.bcap)∧V.cell? ⟨BN,1,none⟩=some (.slice n.lao n.L n.lcap))∧(V.cell? ⟨RN,0,none⟩=some (.slice none 0 0)∧V.cell? ⟨RN,1,none⟩=some (.slice none 0 0))∧V.cell? ⟨RT,0,none⟩=some (.slice none 0 0)∧(V.cell? ⟨RF,0,none⟩=some (.int .i64 0)∧V.cell? ⟨RF,1,none⟩=some (.int .i64 0))∧(V.frozen? ⟨RN,0,none⟩=false∧V.frozen? ⟨RN,1,none⟩=false)∧V.frozen? ⟨RT,0,none⟩=false∧V.frozen? ⟨RF,0,none⟩=false∧V.frozen? ⟨RF,1,none⟩=false):=fun V hV =>
  ⟨tC2 (keep g0 hV),tC2 (keep g2 hV),one_cell (keep g3 hV),tC2 (keep g4 hV),⟨frozen_of_row _ _ _ _ _ (keep g2 hV),frozen_of_row _ _ _ _ _ (keep g2 hV)⟩,frozen_of_row _ _ _ _ _ (keep g3 hV),frozen_of_row _ _ _ _ _ (keep g4 hV),frozen_of_row _ _ _ _ _ (keep g4 hV)⟩
 have HH:Hid (∀V,Bl X V→V.heap[RN]?=some (.cells #[.slice none 0 0,.slice none 0 0] 25)∧V.heap[RT]?=some (.cells #[.slice none 0 0] 34)∧V.heap[RF]?=some (.cells #[.int .i64 0,.int .i64 0] 37)∧Bl w V):=fun V hV=>⟨keep g2 hV,keep g3 hV,keep g4 hV,hXB.trans (hV.mono hXB.size)⟩
 have HST:Hid (Calls Tryz.prog 41 #[.agg #[.slice n.bao n.K n.bcap,.slice n.lao n.L n.lcap],.int .i64 trees] X fun e w'=>∃oa ol oc f1 f2,e=.returned (.tuple #[.agg #[.slice oa ol oc],.agg #[.int .i64 f1,.int .i64 f2]])∧Hid (Bl X w'∧f1=(stErr n trees).1∧f2=(stErr n trees).2∧(f1=0→∃t0:List Tr,ol=t0.length∧StT w' n trees oa oc t0))):=by
  refine(tstart_any n trees X hwf (hat.below hXB)).mono ?_;rintro e w' ⟨h1,⟨h2,rfl⟩ | ⟨h2,oao,ocap,t0,rfl,h3⟩⟩
  ·exact⟨none,0,0,_,_,rfl,h1,rfl,rfl,fun z=>absurd z h2⟩
  ·have:stErr n trees=(0,0):=by
    obtain⟨z1,z2⟩:=stErr_zero h2;unfold stErr;rw[if_neg (fun z=>z z1),if_neg (fun z=>z z2)]
   exact⟨oao,_,ocap,0,0,rfl,h1,by rw[this],by rw[this],fun _=>⟨t0,rfl,h3⟩⟩
 have HON:Hid ((stErr n trees).1=0→∀(V:World) (oa:Option Addr) (oc:Nat) (t0:List Tr),Bl X V→StT V n trees oa oc t0→Calls Tryz.prog 42 #[.agg #[.slice n.bao n.K n.bcap,.slice n.lao n.L n.lcap],.agg #[.slice oa t0.length oc],.slice dao dn dcap] V fun e w'=>∃na nk nc la lk lc oa ol oc f1 f2,e=.returned (.tuple #[.agg #[.slice na nk nc,.slice la lk lc],.agg #[.slice oa ol oc],.agg #[.int .i64 f1,.int .i64 f2]])∧Hid (Bl X w'∧∀W,w'.heap.size=W.heap.size→(∀q,V.heap.size≤q→W.heap[q]?=w'.heap[q]?)→Bl w W→PlayW w n trees ds dn (.returned (.tuple #[.agg #[.slice na nk nc,.slice la lk lc],.agg #[.slice oa ol oc],.agg #[.int .i64 f1,.int .i64 f2]])) W)):=fun h0 V oa oc t0 hV hT=>by
  have hV2:=hXB.trans (hV.mono hXB.size);obtain⟨z1,z2⟩:=stErr_zero h0;have hp:plErr n trees ds dn=onErr n t0 ds dn:=by
   rw[on_start z1 hT.fit];exact if_neg (fun z=>z h0)
  have hl:t0.length=trees.toNat:=(by have:=hT.len;omega)
  refine(ton_any n oa oc t0 (startMs n) dao dn dcap ds V hwf (hat.below hV2) hT.row hdn (CRow.below hds hV2) hT.calm hT.ms (htb.below hV2 hbt) (Nat.le_trans hbt hV2.size)).mono ?_;rintro e w' ⟨h1,⟨h2,rfl⟩ | ⟨h2,n',oao,ocap,t',rfl,b,hb,h3⟩⟩
  ·refine⟨none,0,0,none,0,0,none,0,0,_,_,rfl,hV.trans (h1.mono hV.size),fun W _ _ hW=>⟨hW,Or.inl ⟨by rw[hp];exact h2,by rw[hp]⟩⟩⟩
  ·refine⟨n'.bao,n'.K,n'.bcap,n'.lao,n'.L,n'.lcap,oao,t'.length,ocap,0,0,rfl,hV.trans (h1.mono hV.size),fun W hs hk hW=>⟨hW,Or.inr ⟨by rw[hp];exact h2,n',oao,ocap,t',rfl,b,Nat.le_trans hV2.size hb,fun V3 hV3 => ?_⟩⟩⟩;rw[←hl];exact h3 V3 (fun q q1 q2=>(hV3 q q1 (by rw[←hs];exact q2)).trans (hk q (Nat.le_trans hb q1)))
 have g0':=HC.out X (Below.refl _ _);have HXS:Hid (∀V,Bl X V→X.heap.size≤V.heap.size):=fun V hV=>hV.size;clear hwf hat hds htb hbt b1 b2 s1 s2 hXB g0 g2 g3 g4;simp only[Pl.Net.val];go_enter Tryz.func19,Tryz.ntmps19;obtain⟨⟨x0,x1⟩,_⟩:=g0';rw[HX.out,HX2.out,HBN.out] at x0 x1;(go_wp2_with fail);rw[←HX2.out,←HX.out,←HRF.out,←HRT.out,←HRN.out,←HBN.out];refine HST.out.mono ?_;rintro e w1 ⟨oa,ol,oc,f1,f2,rfl,H1⟩;clear x0 x1 HST;obtain⟨V1,HV1⟩:∃V1,Hid (V1=(w1.alloc (.cells #[.slice oa ol oc] 34)).alloc (.cells #[.int .i64 f1,.int .i64 f2] 37)):=⟨_,rfl⟩
 have h11:Bl w1 V1:=(by rw[HV1.out];exact bA2 _ _ _)
 have hV1:Bl X V1:=H1.out.1.trans (h11.mono H1.out.1.size);have e0:V1.cell? ⟨w1.heap.size,0,none⟩=some (.slice oa ol oc):=one_cell (by rw[HV1.out];exact heap_alloc2_old _ _ _);have e1:V1.cell? ⟨w1.heap.size+1,0,none⟩=some (.int .i64 f1)∧V1.cell? ⟨w1.heap.size+1,1,none⟩=some (.int .i64 f2):=tC2 (by rw[HV1.out];exact heap_alloc2_new _ _ _);obtain⟨e1,e2⟩:=e1;obtain⟨⟨p0,p1⟩,⟨p3,p4⟩,p5,⟨p6,p7⟩,⟨q0,q1⟩,q2,q3,q4⟩:=HC.out V1 hV1;have y1:=e1;rw[HV1.out] at y1;have HV1B:Hid (Bl X V1):=hV1;by_cases q:f1=0
 ·have h0:(stErr n trees).1=0:=H1.out.2.1.symm.trans q;obtain⟨t0,rfl,hT⟩:=H1.out.2.2.2 q;have HOV:Hid (Calls Tryz.prog 42 #[.agg #[.slice n.bao n.K n.bcap,.slice n.lao n.L n.lcap],.agg #[.slice oa t0.length oc],.slice dao dn dcap] V1 fun e w'=>∃na nk nc la lk lc oa ol oc f1 f2,e=.returned (.tuple #[.agg #[.slice na nk nc,.slice la lk lc],.agg #[.slice oa ol oc],.agg #[.int .i64 f1,.int .i64 f2]])∧Hid (Bl X w'∧∀W,w'.heap.size=W.heap.size→(∀q,V1.heap.size≤q→W.heap[q]?=w'.heap[q]?)→Bl w W→PlayW w n trees ds dn (.returned (.tuple #[.agg #[.slice na nk nc,.slice la lk lc],.agg #[.slice oa ol oc],.agg #[.int .i64 f1,.int .i64 f2]])) W)):=HON.out h0 V1 oa oc t0 hV1 (hT.below h11);have vs:=hV1.size;have lo1:RN<V1.heap.size:=(by omega)
  have lo2:RT<V1.heap.size:=(by omega)
  have lo3:RF<V1.heap.size:=(by omega)
  have r0:=p0;have r1:=p1;have r2:=e0;rw[HV1.out] at r0 r1 r2;subst q;clear h0 hT p0 p1 p3 p4 p5 p6 p7 q0 q1 q2 q3 q4 HON h11 hV1 e0 e1 e2;(go_wp2_with fail);rw[←HV1.out];refine HOV.out.mono ?_;rintro e w2 ⟨na,nk,nc,la,lk,lc,oa2,ol2,oc2,f1,f2,rfl,H2⟩;clear HOV y1 r0 r1 r2;obtain⟨_,⟨p3,p4⟩,p5,⟨p6,p7⟩,⟨q0,q1⟩,q2,q3,q4⟩:=HC.out w2 H2.out.1;(go_wp2_with fail);refine bodyPost_ret (v:=.tuple #[.agg #[.slice na nk nc,.slice la lk lc],.agg #[.slice oa2 ol2 oc2],.agg #[.int .i64 f1,.int .i64 f2]]) (results_row3 Tryz.results19 _ _ RN RT RF 25 34 37 #[.slice na nk nc,.slice la lk lc] #[.slice oa2 ol2 oc2] #[.int .i64 f1,.int .i64 f2] (0,0) (0,0) (0,0) _ _ _ rfl rfl rfl ?h1 ?h2 ?h3 Tryz.underlying25 Tryz.underlying34 Tryz.underlying37 rfl rfl rfl ?i1 ?i2 ?i3) rfl ?post
  case h1=>repeat(first | (with_reducible refine drew_keep ?_) | (with_reducible exact(HH.out _ H2.out.1).1) | (with_reducible refine set2_same (a0:=Value.slice none 0 0) (a1:=Value.slice none 0 0) ?_) | (with_reducible refine set_keep ?_ ne1) | (with_reducible refine set_keep ?_ ne2))
  case h2=>repeat(first | (with_reducible refine drew_keep ?_) | (with_reducible exact(HH.out _ H2.out.1).2.1) | (with_reducible refine set1_same (a0:=Value.slice none 0 0) ?_) | (with_reducible refine set_keep ?_ ne1.symm) | (with_reducible refine set_keep ?_ ne3))
  case h3=>repeat(first | (with_reducible refine drew_keep ?_) | (with_reducible exact(HH.out _ H2.out.1).2.2.1) | (with_reducible refine set2_same (a0:=Value.int .i64 0) (a1:=Value.int .i64 0) ?_) | (with_reducible refine set_keep ?_ ne2.symm) | (with_reducible refine set_keep ?_ ne3.symm))
  case i1=>rw[sizeNt];try rfl
  case i2=>rw[sizeTk];try rfl
  case i3=>rw[sizeFt];try rfl
  case post =>
   refine H2.out.2 _ ?_ ?_ ?_
   ·simp
   ·repeat(first | (with_reducible refine out_drew ?_) | (with_reducible refine out_set ?_ lo1) | (with_reducible refine out_set ?_ lo2) | (with_reducible refine out_set ?_ lo3) | (exact(fun _ _=>rfl)))
   ·repeat(first | (with_reducible refine Below.drew ?_) | (with_reducible exact(HH.out _ H2.out.1).2.2.2) | (with_reducible refine Below.setCell ?_ le1 _) | (with_reducible refine Below.setCell ?_ le2 _) | (with_reducible refine Below.setCell ?_ le3 _))
 ·have HE:Hid ((plErr n trees ds dn).1=f1∧(plErr n trees ds dn).2=f2):=by
   have e3:=H1.out.2.1;have e4:=H1.out.2.2.1;have:plErr n trees ds dn=stErr n trees:=if_pos (by rw[←e3];exact q);rw[this];exact⟨e3.symm,e4.symm⟩
  have q1':(f1 != 0)=true:=(by simpa using q)
  have HNE:Hid (f1≠0):=q;have d1:RN≠w1.heap.size+1:=(by have:=H1.out.1.size;omega)
  have d2:RT≠w1.heap.size+1:=(by have:=H1.out.1.size;omega)
  have d3:RF≠w1.heap.size+1:=(by have:=H1.out.1.size;omega)
  have d4:=d1.symm;have d5:=d2.symm;have d6:=d3.symm;clear p0 p1 hV1 HON HC e0;(go_wp2_with fail);rw[←HV1.out];go_region
  (all_goals go_wp2_with fail);all_goals
   refine bodyPost_ret (v:=.tuple #[.agg #[.slice none 0 0,.slice none 0 0],.agg #[.slice none 0 0],.agg #[.int .i64 f1,.int .i64 f2]]) (results_row3 Tryz.results19 _ _ RN RT RF 25 34 37 #[.slice none 0 0,.slice none 0 0] #[.slice none 0 0] #[.int .i64 f1,.int .i64 f2] (0,0) (0,0) (0,0) _ _ _ rfl rfl rfl ?h1 ?h2 ?h3 Tryz.underlying25 Tryz.underlying34 Tryz.underlying37 rfl rfl rfl ?i1 ?i2 ?i3) rfl ?post
   case h1=>repeat(first | (with_reducible refine drew_keep ?_) | (with_reducible exact(HH.out _ HV1B.out).1) | (with_reducible exact(HH.out _ (below_drewN HV1B.out _)).1) | (with_reducible exact(HH.out _ (Below.drew HV1B.out)).1) | (with_reducible refine set2_same (a0:=Value.slice none 0 0) (a1:=Value.slice none 0 0) ?_) | (with_reducible refine set_keep ?_ ne1) | (with_reducible refine set_keep ?_ ne2))
   case h2=>repeat(first | (with_reducible refine drew_keep ?_) | (with_reducible exact(HH.out _ HV1B.out).2.1) | (with_reducible exact(HH.out _ (below_drewN HV1B.out _)).2.1) | (with_reducible exact(HH.out _ (Below.drew HV1B.out)).2.1) | (with_reducible refine set1_same (a0:=Value.slice none 0 0) ?_) | (with_reducible refine set_keep ?_ ne1.symm) | (with_reducible refine set_keep ?_ ne3))
   case h3=>repeat(first | (with_reducible refine drew_keep ?_) | (with_reducible exact(HH.out _ HV1B.out).2.2.1) | (with_reducible exact(HH.out _ (below_drewN HV1B.out _)).2.2.1) | (with_reducible exact(HH.out _ (Below.drew HV1B.out)).2.2.1) | (with_reducible refine set2_same (a0:=Value.int .i64 0) (a1:=Value.int .i64 0) ?_) | (with_reducible refine set_keep ?_ ne2.symm) | (with_reducible refine set_keep ?_ ne3.symm))
   case i1=>rw[sizeNt];try rfl
   case i2=>rw[sizeTk];try rfl
   case i3=>rw[sizeFt];try rfl
   case post =>
    refine⟨?_,Or.inl ⟨by rw[HE.out.1];exact HNE.out,by rw[HE.out.1,HE.out.2]⟩⟩;repeat(first | (with_reducible refine Below.drew ?_) | (with_reducible exact(HH.out _ HV1B.out).2.2.2) | (with_reducible exact(HH.out _ (below_drewN HV1B.out _)).2.2.2) | (with_reducible exact(HH.out _ (Below.drew HV1B.out)).2.2.2) | (with_reducible refine Below.setCell ?_ le1 _) | (with_reducible refine Below.setCell ?_ le2 _) | (with_reducible refine Below.setCell ?_ le3 _))
end
section
open Go.RowKit
open Vc (V Of)
open Pl (Br Net Pc Lk En St)
def regR:Rg.Reg:=⟨⟨#[114]⟩,0,none,0,0,fun _=>0,fun _=>0⟩
def bsTwo (i:Nat):Br:=⟨(i:Int)+1,none,0,0,fun _=>0,regR⟩
def lsTwo (_:Nat):Lk:=⟨0,1,1,2,5,true⟩
def netTwo (b1 b2:Nat):Net:=⟨some ⟨b1,0,none⟩,2,2,bsTwo,some ⟨b2,0,none⟩,1,1,lsTwo⟩
theorem sizeNet:(Tryz.prog.info? 25).map (·.size)=some 2:=by kernel_rfl
theorem two_at {W:World}{b1 b2:Nat}{t1 t2:TypeId}(h1:W.heap[b1]?=some (.cells #[.int .u64 1,.slice none 0 0,.string ⟨#[114]⟩,.int .i64 0,.slice none 0 0,.int .u64 2,.slice none 0 0,.string ⟨#[114]⟩,.int .i64 0,.slice none 0 0] t1)) (h2:W.heap[b2]?=some (.cells #[.int .i64 0,.int .i64 1,.int .i64 1,.int .i64 2,.int .i64 5,.bool true] t2)):(netTwo b1 b2).at' W:=by
 refine⟨⟨Nat.le_refl _,fun _=>⟨b1,0,rfl,(gSm.1 h1).1,fun i hi j hj => ?_⟩⟩,fun i hi=>⟨CRow.none _ _ _ _ _,⟨Nat.le_refl _,fun q=>absurd q (Nat.lt_irrefl 0)⟩,Nat.zero_le _,Nat.zero_le _⟩,⟨Nat.le_refl _,fun _=>⟨b2,0,rfl,(gSm.1 h2).1,fun i hi j hj => ?_⟩⟩,by simp[netTwo],by simp[netTwo]⟩
 ·have hi:i<2:=hi;rcases(by omega:i=0∨i=1) with e | e<;>subst e<;>rcases(by omega:j=0∨j=1∨j=2∨j=3∨j=4) with e | e | e | e | e<;>subst e<;>exact cell_of_row W b1 _ _ _ _ h1
 ·have hi:i<1:=hi;obtain rfl:i=0:=by omega
  rcases(by omega:j=0∨j=1∨j=2∨j=3∨j=4∨j=5) with e | e | e | e | e | e<;>subst e<;>exact cell_of_row W b2 _ _ _ _ h2
theorem two_wf (b1 b2:Nat):(netTwo b1 b2).Wf:=by
 refine⟨fun i hi => ?_,fun i _=>⟨show(Lit.int .i64 0).wf=true by decide,show(Lit.int .i64 1).wf=true by decide,show(Lit.int .i64 1).wf=true by decide,show(Lit.int .i64 2).wf=true by decide⟩⟩;have hi:i<2:=hi;rcases(by omega:i=0∨i=1) with e | e<;>subst e
 ·show(Lit.int .u64 1).wf=true;decide
 ·show(Lit.int .u64 2).wf=true;decide
theorem two_right (b1 b2:Nat):(netTwo b1 b2).wrong.1=0:=by
 have h1:Pl.bErr bsTwo 0=0:=(by kernel_rfl)
 have h2:Pl.bErr bsTwo 1=0:=(by kernel_rfl)
 have h3:Pl.lErr 2 lsTwo 0=0:=(by kernel_rfl)
 have hb:Pl.firstTo (Pl.bErr bsTwo) 2=(0,0):=Pl.firstTo_all _ _ (fun i hi=>by rcases(by omega:i=0∨i=1) with e | e<;>subst e;exact h1;exact h2);have hl:Pl.firstTo (Pl.lErr 2 lsTwo) 1=(0,0):=Pl.firstTo_all _ _ (fun i hi=>by rw[show i=0 by omega];exact h3);show(if 12<2∨40<1 then((5:Int),(0:Int)) else if (Pl.firstTo (Pl.bErr bsTwo) 2).1≠0 then Pl.firstTo (Pl.bErr bsTwo) 2 else Pl.firstTo (Pl.lErr 2 lsTwo) 1).1=0;rw[hb,hl];rfl
def e2a:En:=⟨1,5,1,2,true⟩
def e2b:En:=⟨2,5,0,1,true⟩
def E2 (i:Nat):List En:=if i=0 then [e2a] else if i=1 then [e2b] else []
def ids2 (i:Nat):Int:=32768*281474976710656+((i:Int)+1)
theorem two_ids (b1 b2:Nat):(netTwo b1 b2).ids 0=ids2:=by
 funext i
 show(if (0:Int)≤0∧(0:Int)≤((0:Nat):Int)-1 then(0:Int) else 32768)*281474976710656+((i:Int)+1)=_;rw[if_neg (by decide)];rfl
theorem two_live (b1 b2:Nat) (k:Nat):(netTwo b1 b2).live k=true:=by
 show(true&&decide (strOf 50 regR.id=strOf 50 regR.id))=true;simp
theorem two_ends (b1 b2:Nat):(netTwo b1 b2).ends=E2:=by
 funext i
 show(([]++Pl.endsAt (lsTwo 0) ((netTwo b1 b2).live 0) i):List En).mergeSort Pl.leP=E2 i;rw[two_live];unfold Pl.endsAt E2 lsTwo;by_cases h0:i=0
 ·subst h0;simp[e2a]
 ·by_cases h1:i=1
  ·subst h1;simp[e2b]
  ·rw[if_neg (by show ¬(0:Int)=(i:Int);omega),if_neg (by show ¬(1:Int)=(i:Int);omega),if_neg h0,if_neg h1];simp
end
section
namespace Pl
open Vc (V Of)
section
variable {K L:Nat}{ls:Nat→Lk}{ids:Nat→Int}{lv:Nat→Bool}
inductive Sub (ids:Nat→Int) (ls:Nat→Lk) (lv:Nat→Bool) (K L c:Nat):Nat→Prop
 | self:Sub ids ls lv K L c c
 | up (v:Nat) (e:En):v<K→e∈ends ls lv L v→e.live=true→e.port=(says ids ls lv K L v).rp→Sub ids ls lv K L c e.other.toNat→Sub ids ls lv K L c v
theorem up_cost (R:RightL K L ls) (hK:K≤12) {v:Nat}(hv:v<K) {e:En}(he:e∈ends ls lv L v) (hl:e.live=true) (hp:e.port=(says ids ls lv K L v).rp) :
  (says ids ls lv K L v).v.cost=(says ids ls lv K L e.other.toNat).v.cost+e.cost∧(says ids ls lv K L v).v.root=(says ids ls lv K L e.other.toNat).v.root∧1≤e.cost∧e.other.toNat<K:=by
 have G:=good R hK ids lv;obtain⟨g1,g2,_⟩:=G.lt v hv e he hl;rcases fin_port G hv with⟨h,_⟩ | ⟨_,_,q,q1,q2,q3,q4,q5,_⟩
 ·exfalso
  change (says ids ls lv K L v).rp = -1 at h
  obtain⟨k,hk,hh⟩:=ends_mem.1 he;obtain⟨_,_,_,o4,o5,_⟩:=R.ok k hk;rcases hh with⟨_,rfl⟩ | ⟨_,rfl⟩<;>simp only at hp<;>omega
 ·have:=ends_one R lv he q1 (by rw[q3];exact hp);subst this;exact⟨q5,q4,g2.1,toNat_lt g1⟩
theorem Sub.cost (R:RightL K L ls) (hK:K≤12) {c v:Nat}(h:Sub ids ls lv K L c v):(says ids ls lv K L c).v.cost≤(says ids ls lv K L v).v.cost:=by
 induction h with
 | self=>exact Int.le_refl _
 | up v e hv he hl hp _ ih=>have:=up_cost R hK hv he hl hp;omega
end
end Pl
namespace Tk
open Vc (V Of)
open Pl (Lk En St fin offs RightL ends)
theorem map_getD {α:Type}(l:List α) (f:α→Int) {j:Nat}{e:α}(h:l[j]?=some e):(l.map f).getD j 0=f e:=by
 rw[List.getD_eq_getElem?_getD,List.getElem?_map,h];rfl
theorem get_lt {α:Type}{l:List α}{j:Nat}{e:α}(h:l[j]?=some e):j<l.length:=(List.getElem?_eq_some_iff.1 h).1
theorem Ok.opens {c:Cn}{s:Sc}{T:Nat}(h:Ok c s T) {t:Nat}(ht:83≤t) {k:Nat}(hk:k<T) {i:Nat}(hi:i<c.K) {j:Nat}{e:En}(he:(s.E c i)[j]?=some e) :
  50≤((s.ticks c t).ms k i).calm.getD j 0↔((s.roles c k i).getD j 0=1∨(s.roles c k i).getD j 0=2):=by
 have hj:=get_lt he;have hr:∀u,33≤u→(ticksF (s.ids c k) (s.E c) (s.ms k) u i).roles=s.roles c k i:=fun u hu=>(settledF (h.fine.good _) h.fine.ports (s.ms k) hu hi).2.2;constructor
 ·intro q;have:=(ticksF_Calm (ids:=s.ids c k) (h.fit k hk) (h.calm k hk) t i hi j).2 (by change 50≤_ at q;change 0<_;exact Int.lt_of_lt_of_le (by decide) q);rw[hr t (by omega)] at this;exact this
 ·intro q;have:=calm_on (ids:=s.ids c k) (h.fit k hk) (h.calm k hk) hi hj (t-50) (fun u hu=>by rw[hr u (by omega)];exact q) 50 (Nat.le_refl _);rw[show t-50+50=t by omega] at this;exact this
end Tk
namespace Tk
open Vc (V Of)
open Pl (Lk En St fin offs RightL ends)
def calmTo (l:Nat→Dn):Nat→Int
 | 0=>40
 | k+1=>if (l k).kind=1 then(if calmTo l k+(l k).n<40 then calmTo l k+(l k).n else 40) else 0
theorem Sc.one_tick {s:Sc}{c:Cn}{d:Dn}(h:d.kind=1):s.one c d=s.ticks c d.n.toNat:=by unfold Sc.one;rw[if_pos h]
theorem all_congr (s:Sc) (c:Cn) {l m:Nat→Dn}:∀n,(∀k,k<n→l k=m k)→s.all c l n=s.all c m n
 | 0,_=>rfl
 | n+1,h=>by simp only[Sc.all];rw[all_congr s c n (fun k hk=>h k (by omega)),h n (by omega)]
theorem all_last (s:Sc) (c:Cn) (l:Nat→Dn) (n:Nat) (d:Dn):s.all c (fun k=>if k<n then l k else d) (n+1)=(s.all c l n).one c d:=by
 show(s.all c _ n).one c _=_;rw[all_congr s c n (m:=l) (fun k hk=>if_pos hk)];simp only;rw[if_neg (by omega)]
end Tk
end
section
open Go.RowKit
open Vc (V Of)
open Pl (Br Net Pc Lk En St)
open Tk (Md Mnd Cn Sc Dn)
theorem sizeDo:(Tryz.prog.info? 106).map (·.size)=some 4:=by kernel_rfl
theorem one_do {w:World}{g:Nat}{d:Dn}{ty:TypeId}(h:w.heap[g]?=some (.cells #[.int .i64 d.kind,.int .i64 d.n,.int .i64 d.tree,.int .i64 d.value] ty (0,0))):DRow w (some ⟨g,0,none⟩) 1 1 (fun _=>d):=by
 refine⟨Nat.le_refl _,fun _=>⟨g,0,rfl,(gSm.1 h).1,fun i hi j hj => ?_⟩⟩;obtain rfl:i=0:=by omega
 rcases(by omega:j=0∨j=1∨j=2∨j=3) with e | e | e | e<;>subst e
 ·exact cell_of_row w g 0 _ _ _ h
 ·exact cell_of_row w g 1 _ _ _ h
 ·exact cell_of_row w g 2 _ _ _ h
 ·exact cell_of_row w g 3 _ _ _ h
def tickD (x:Int):Dn:=⟨1,x,0,0⟩
def PlF (w w':World) (n:Net) (trees:Int) (ds:Nat→Dn) (dn:Nat) (na:Option Addr) (nk nc:Nat) (la:Option Addr) (lk lc:Nat) (oa:Option Addr) (ol oc:Nat) (f1 f2:Int):Prop :=
 ((plErr n trees ds dn).1≠0∧(f1=(plErr n trees ds dn).1∧f2=(plErr n trees ds dn).2)∧(na=none∧nk=0∧nc=0)∧(la=none∧lk=0∧lc=0)∧oa=none∧ol=0∧oc=0) ∨
  ((plErr n trees ds dn).1=0∧(f1=0∧f2=0)∧∃(n':Net) (t':List Tr),(na=n'.bao∧nk=n'.K∧nc=n'.bcap)∧(la=n'.lao∧lk=n'.L∧lc=n'.lcap)∧ol=t'.length∧∃b,w.heap.size≤b∧Kept w' b (fun V=>SnOut V n trees.toNat ((n.sc (startMs n)).all n.cn ds dn) n' oa oc t'))
theorem tplay_flat (n:Net) (trees:Int) (dao:Option Addr) (dn dcap:Nat) (ds:Nat→Dn) (w:World) (hwf:n.Wf) (hat:n.at' w) (hdn:dn≤9223372036854775807) (hds:DRow w dao dn dcap ds) (htb:Tabs w) (hbt:2≤w.heap.size) :
  Calls Tryz.prog 19 #[.agg #[.slice n.bao n.K n.bcap,.slice n.lao n.L n.lcap],.int .i64 trees,.slice dao dn dcap] w fun e w'=>∃na nk nc la lk lc oa ol oc f1 f2,e=.returned (.tuple #[.agg #[.slice na nk nc,.slice la lk lc],.agg #[.slice oa ol oc],.agg #[.int .i64 f1,.int .i64 f2]])∧Hid (Bl w w'∧PlF w w' n trees ds dn na nk nc la lk lc oa ol oc f1 f2):=by
 refine(tplay_any n trees dao dn dcap ds w hwf hat hdn hds htb hbt).mono ?_;rintro e w' ⟨h1,⟨h2,rfl⟩ | ⟨h2,n',oao,ocap,t',rfl,b,hb,h3⟩⟩
 ·exact⟨none,0,0,none,0,0,none,0,0,_,_,rfl,h1,Or.inl ⟨h2,⟨rfl,rfl⟩,⟨rfl,rfl,rfl⟩,⟨rfl,rfl,rfl⟩,rfl,rfl,rfl⟩⟩
 ·exact⟨n'.bao,n'.K,n'.bcap,n'.lao,n'.L,n'.lcap,oao,t'.length,ocap,0,0,rfl,h1,Or.inr ⟨h2,⟨rfl,rfl⟩,n',t',⟨rfl,rfl,rfl⟩,⟨rfl,rfl,rfl⟩,rfl,b,hb,h3⟩⟩
end
section
open Go.RowKit
open Tk (Dn)
section
variable {P:Program}{ops:Array Oper}{Q:Exit→Act→World→Prop}{md:Region.Mode}{z:Nat}{C:World→Prop}
end
def AlF (W:World) (lo:Nat) (b:Bool) (s:Value) (g:Nat) (z:Array Value) (ty:TypeId):Prop:=b=true→s=.pointer (some ⟨g,0,none⟩)∧W.heap[g]?=some (.cells z ty (0,0))∧lo≤g
theorem AlF.below {W W':World}{lo:Nat}{b:Bool}{s:Value}{g:Nat}{z:Array Value}{ty:TypeId}(h:AlF W lo b s g z ty) (hb:Bl W W'):AlF W' lo b s g z ty:=fun e=>⟨(h e).1,keep (h e).2.1 hb,(h e).2.2⟩
theorem AlF.new (W:World) {lo:Nat}(hl:lo≤W.heap.size) (b:Bool) (z:Array Value) (ty:TypeId):AlF (W.alloc (.cells z ty)) lo b (.pointer (some ⟨W.heap.size,0,none⟩)) W.heap.size z ty:=fun _=>⟨rfl,heap_alloc_last _ _,hl⟩
def dsT (dn:Nat) (ds:Nat→Dn) (tk:Int) (i:Nat):Dn:=if i<dn then ds i else tickD tk
end
section
open Go.RowKit
open Vc (V Of)
open Pl (Br Net Pc Lk En St)
open Tk (Md Mnd Cn Sc Dn)
theorem start_ok {n:Net}(hw:n.Wf) (h:n.wrong.1=0) (T:Nat):Tk.Ok n.cn (n.sc (startMs n)) T:=by
 refine⟨net_fine hw h _,fun k hk i hi => ?_,fun k hk i hi j => ?_⟩
 ·rw[Pl.Net.sc_E];have e:(n.pts i).length=(n.ends i).length:=(by unfold Pl.Net.pts;simp)
  show(zer (n.pts i).length).length=_∧(zer (n.pts i).length).length=_;rw[zer_len];exact⟨e,e⟩
 ·show 0≤(zer (n.pts i).length).getD j 0∧(0<(zer (n.pts i).length).getD j 0→_)
  rw[zer_get];exact⟨Int.le_refl _,fun h=>absurd h (Int.lt_irrefl _)⟩
theorem all_ticks (s:Sc) (c:Cn) (ds:Nat→Dn) (dn:Nat) (tk:Int):s.all c (dsT dn ds tk) (dn+1)=(s.all c ds dn).ticks c tk.toNat:=by
 have e:dsT dn ds tk=fun k=>if k<dn then ds k else tickD tk:=rfl
 rw[e,Tk.all_last,Tk.Sc.one_tick rfl];rfl
theorem sn_net {W:World}{n:Net}{T:Nat}{s:Sc}{n':Net}{oa:Option Addr}{oc:Nat}{t':List Tr}(h:SnOut W n T s n' oa oc t'):n'.K=n.K∧n'.L=n.L∧n'.ends=s.E n.cn∧∀k:Int,n'.ids k=s.ids n.cn k:=by
 have e1:n'.K=n.K:=congrArg Cn.K h.cn;have e2:n'.L=n.L:=congrArg Cn.L h.cn;refine⟨e1,e2,?_,fun k => ?_⟩
 ·have:=Pl.Net.sc_E n' s.ms;rw[h.sc,h.cn] at this;exact this.symm
 ·funext i
  have:=net_ids (n:=n') s.ms k i;rw[h.sc,h.cn] at this;exact this.symm
theorem idx_at {l:List Int}{j:Nat}(hj:j<l.length) (h:∀a,a<j→l.getD a 0≠l.getD j 0):Bk.idx l (l.getD j 0) l.length=(j:Int):=by
 have H:∀k,k≤l.length→Bk.idx l (l.getD j 0) k=if j<k then(j:Int) else -1:=by
  intro k;induction k with
  | zero=>intro _;rfl
  | succ k ih =>
   intro hk;have ih:=ih (by omega);show(if 0≤Bk.idx l (l.getD j 0) k then Bk.idx l (l.getD j 0) k else if l.getD j 0=l.getD k 0 then(k:Int) else -1)=_;rw[ih];by_cases q:j<k
   ·rw[if_pos q,if_pos (by omega),if_pos (by omega)]
   ·rw[if_neg q,if_neg (by omega)];by_cases q2:j=k
    ·subst q2;rw[if_pos rfl,if_pos (by omega)]
    ·rw[if_neg (fun e=>h k (by omega) e.symm),if_neg (by omega)]
 rw[H _ (Nat.le_refl _),if_pos hj]
theorem EL_get {es:List En}{j:Nat}(hj:j<es.length):es[j]?=some (EL es j):=by
 simp[EL,hj]
theorem pts_get {es:List En}{j:Nat}(hj:j<es.length):(es.map (fun e:En=>e.port)).getD j 0=(EL es j).port:=by
 simp[EL,hj]
theorem sn_opens {W:World}{n:Net}{T:Nat}{ds:Nat→Dn}{dn:Nat}{tk:Int}{n':Net}{oa:Option Addr}{oc:Nat}{t':List Tr}(h:SnOut W n T ((n.sc (startMs n)).all n.cn (dsT dn ds tk) (dn+1)) n' oa oc t') (hw:n.Wf) (h0:n.wrong.1=0) (he:∀k,k<dn→Tk.errOf n.cn (ds k)=0) (ht:83≤tk.toNat)
  {k i j:Nat}(hk:k<T) (hi:i<n.K) (hj:j<(n'.ends i).length) :
  opT t' k i (EL (n'.ends i) j).port=decide (Pl.roleAt (Pl.rounds (n'.ids k) n'.ends n'.K n'.K i) (Pl.offs (n'.ends i) (Pl.rounds (n'.ids k) n'.ends n'.K n'.K)) (EL (n'.ends i) j)=1∨Pl.roleAt (Pl.rounds (n'.ids k) n'.ends n'.K n'.K i) (Pl.offs (n'.ends i) (Pl.rounds (n'.ids k) n'.ends n'.K n'.K)) (EL (n'.ends i) j)=2):=by
 obtain⟨e1,_,e3,e4⟩:=sn_net h;have hE:=h.each k hk;have hlen:=h.len;rw[all_ticks] at hE e3 e4;obtain⟨s0,hs0⟩:∃s0,s0=(n.sc (startMs n)).all n.cn ds dn:=⟨_,rfl⟩
 rw[←hs0] at hE e3 e4;have e3:n'.ends=s0.E n.cn:=e3;have e4:n'.ids k=s0.ids n.cn k:=e4 k;have hok:Tk.Ok n.cn s0 T:=(by rw[hs0];exact(start_ok hw h0 T).all ds dn he)
 have hsame:=((net_fine hw h0 (startMs n)).all ds dn he)
 rw[←hs0] at hsame;have hpts:n.pts i=(n'.ends i).map (fun e:En=>e.port):=by
  have:=(hsame.2.len (net_fine hw h0 (startMs n)) hsame.1 i).1;rw[Pl.Net.sc_E] at this;rw[e3];exact this.symm
 obtain⟨hl,hm⟩:=hE;obtain⟨hm1,hm2⟩:=hm i hi;have hcalm:(mat (tat t' k).l i).calm=((s0.ticks n.cn tk.toNat).ms k i).calm:=congrArg Mnd.calm hm1;have hfit:=((ok_ticks hok tk.toNat).fit k hk i hi).2;have hfit:((s0.ticks n.cn tk.toNat).ms k i).calm.length=(n'.ends i).length:=(by rw[e3];exact hfit)
 rw[e3] at hj hpts hfit ⊢;have hop:=hok.opens ht hk hi (EL_get hj);have hrole:(s0.roles n.cn k i).getD j 0=Pl.roleAt (s0.says n.cn k i) (Pl.offs (s0.E n.cn i) (s0.says n.cn k)) (EL (s0.E n.cn i) j):=by
  unfold Tk.Sc.roles;exact Tk.map_getD _ _ (EL_get hj)
 have hsays:Pl.rounds (n'.ids k) (s0.E n.cn) n'.K n'.K=s0.says n.cn k:=by
  rw[e4,e1];rfl
 rw[hsays,←hrole];have hidx:Bk.idx (mat (tat t' k).l i).ports (EL (s0.E n.cn i) j).port (mat (tat t' k).l i).ports.length=(j:Int):=by
  rw[hm2,hpts,←pts_get hj];refine idx_at (by simpa using hj) (fun a ha => ?_);rw[pts_get (by omega),pts_get hj];have hs:=Pl.ends_sorted hok.fine.links (s0.lv n.cn) i;have:=List.pairwise_iff_getElem.1 hs a j (by have:=hj;unfold Tk.Sc.E at this;omega) (by have:=hj;unfold Tk.Sc.E at this;exact this) ha;have g1:EL (s0.E n.cn i) a=(s0.E n.cn i)[a]'(by omega):=(by simp[EL,show a<(s0.E n.cn i).length by omega])
  have g2:EL (s0.E n.cn i) j=(s0.E n.cn i)[j]:=(by simp[EL,hj])
  rw[g1,g2];exact Int.ne_of_lt this
 unfold opT;rw[Int.toNat_natCast,Int.toNat_natCast,if_pos ⟨⟨by omega,by omega⟩,⟨by omega,by omega⟩⟩];unfold opM;rw[hidx,hcalm,if_pos ⟨by omega,by omega⟩,Int.toNat_natCast];exact decide_eq_decide.2 hop
theorem sn_pts {W:World}{n:Net}{T:Nat}{ds:Nat→Dn}{dn:Nat}{n':Net}{oa:Option Addr}{oc:Nat}{t':List Tr}(h:SnOut W n T ((n.sc (startMs n)).all n.cn ds dn) n' oa oc t') (hw:n.Wf) (h0:n.wrong.1=0) (he:∀k,k<dn→Tk.errOf n.cn (ds k)=0) (i:Nat):n.pts i=n'.pts i:=by
 obtain⟨_,_,e3,_⟩:=sn_net h;have hsame:=((net_fine hw h0 (startMs n)).all ds dn he)
 have:=(hsame.2.len (net_fine hw h0 (startMs n)) hsame.1 i).1;rw[Pl.Net.sc_E,←e3] at this;exact this.symm
theorem sn_fit {W:World}{n:Net}{T:Nat}{s:Sc}{n':Net}{oa:Option Addr}{oc:Nat}{t':List Tr}(h:SnOut W n T s n' oa oc t') (hT:1≤T∧T≤4) (hp:∀i,n.pts i=n'.pts i):fitT n' t'=true∧CalmT t'∧∀k,k<t'.length→∀i,i<n'.K→s.ms k i=msT t' k i:=by
 obtain⟨e1,_,e3,_⟩:=sn_net h;have hl:=h.len;refine⟨fit_iff.2 ⟨by omega,fun k hk => ?_⟩,fun k hk i hi j => ?_,fun k hk i hi => ?_⟩
 ·rw[hl] at hk;obtain⟨a1,a2⟩:=h.each k hk;refine⟨a1.trans e1.symm,fun i hi => ?_⟩;rw[e1] at hi;obtain⟨b1,b2⟩:=a2 i hi;have hf:=h.ok.fit k hk i hi;have hpl:(n'.pts i).length=(s.E n.cn i).length:=(by unfold Pl.Net.pts;rw[e3];simp)
  rw[←b1] at hf;exact⟨b2.trans (hp i),hf.1.trans hpl.symm,hf.2.trans hpl.symm⟩
 ·rw[hl] at hk;obtain⟨a1,a2⟩:=h.each k hk;rw[a1] at hi;obtain⟨b1,_⟩:=a2 i hi;have:=h.ok.calm k hk i hi j;rw[←b1] at this;exact this
 ·rw[hl] at hk;rw[e1] at hi;exact((h.each k hk).2 i hi).1.symm
end
end Go.Proofs.YtelebnancdjjiaaGreatDoor
