/- Plain: lines and rings of bridges as nets: what is known of them -/
import Derived.Test.YtflghpnpjmodaaaGreatDoorH34
import Derived.Test.YtflghpnpjmodaaaGreatDoorH08
import Derived.Test.YtflghpnpjmodaaaGreatDoorH11
import Derived.Test.YtflghpnpjmodaaaGreatDoorH32
import Derived.Test.YtflghpnpjmodaaaGreatDoorH20
import Derived.Test.YtflghpnpjmodaaaGreatDoorH09
import Derived.Test.YtflghpnpjmodaaaGreatDoorH22
import Derived.Test.YtflghpnpjmodaaaGreatDoorH05
set_option maxRecDepth 100000
set_option maxHeartbeats 40000000
namespace Go.Proofs.YtflghpnpjmodaaaGreatDoor
section
open Go.RowKit
open Vc (V Of)
open Pl (En Lk Br Net)
open Tk (Md Mnd Cn Sc Dn ixM ilist lst3 ilm)
def plErr (n:Net) (trees:Int) (ds:Nat→Dn) (dn:Nat):Int×Int:=if (stErr n trees).1≠0 then stErr n trees else if 30<dn then(5,0) else Tk.errTo n.cn ds dn
theorem stErr_zero {n:Net}{trees:Int}(h:(stErr n trees).1=0):n.wrong.1=0∧(1≤trees∧trees≤4):=by
 unfold stErr at h;by_cases q:n.wrong.1=0
 ·rw[if_neg (fun z=>z q)] at h;by_cases q2:1≤trees∧trees≤4
  ·exact⟨q,q2⟩
  ·rw[if_pos q2] at h;cases h
 ·rw[if_pos q] at h;exact absurd h q
theorem on_start {n:Net}{t0:List Tr}{ds:Nat→Dn}{dn:Nat}(h:n.wrong.1=0) (hf:fitT n t0=true):onErr n t0 ds dn=if 30<dn then(5,0) else Tk.errTo n.cn ds dn:=by
 have e:wrT n t0 dn=if 30<dn then(5,0) else(0,0):=by
  unfold wrT;rw[if_neg (fun z=>z h),if_neg (by rw[hf];exact Bool.noConfusion)]
 unfold onErr;rw[e];by_cases q:30<dn
 ·rw[if_pos q,if_pos q,if_pos (by decide)]
 ·rw[if_neg q,if_neg q,if_neg (fun z=>z rfl)]
theorem plErr_zero {n:Net}{trees:Int}{ds:Nat→Dn}{dn:Nat}(h:(plErr n trees ds dn).1=0):(n.wrong.1=0∧(1≤trees∧trees≤4))∧dn≤30∧∀k,k<dn→Tk.errOf n.cn (ds k)=0:=by
 unfold plErr at h;by_cases q:(stErr n trees).1=0
 ·rw[if_neg (fun z=>z q)] at h;by_cases q2:30<dn
  ·rw[if_pos q2] at h;cases h
  ·rw[if_neg q2] at h;exact⟨stErr_zero q,by omega,(Pl.firstTo_zero _ _ h).2⟩
 ·rw[if_pos q] at h;exact absurd h q
def PlayW (w:World) (n:Net) (trees:Int) (ds:Nat→Dn) (dn:Nat) (e:Ending) (w':World):Prop :=
 Bl w w'∧(((plErr n trees ds dn).1≠0∧e=.returned (.tuple #[.agg #[.slice none 0 0,.slice none 0 0],.agg #[.slice none 0 0],.agg #[.int .i64 (plErr n trees ds dn).1,.int .i64 (plErr n trees ds dn).2]])) ∨
  ((plErr n trees ds dn).1=0∧∃(n':Net) (oao:Option Addr) (ocap:Nat) (t':List Tr),e=.returned (.tuple #[n'.val,.agg #[.slice oao t'.length ocap],.agg #[.int .i64 0,.int .i64 0]])∧∃b,w.heap.size≤b∧Kept w' b (fun V=>SnOut V n trees.toNat ((n.sc (startMs n)).all n.cn ds dn) n' oao ocap t')))
theorem tplay_any (n:Net) (trees:Int) (dao:Option Addr) (dn dcap:Nat) (ds:Nat→Dn) (w:World) (hwf:n.Wf) (hat:n.at' w) (hdn:dn≤9223372036854775807) (hds:DRow w dao dn dcap ds) (htb:Tabs w) (hbt:2≤w.heap.size) :
  Calls Tryz.prog 15 #[n.val,.int .i64 trees,.slice dao dn dcap] w fun e w'=>PlayW w n trees ds dn e w':=by
 obtain⟨X2,HX2⟩:∃X2,Hid (X2=(w.alloc (.cells #[.slice n.bao n.K n.bcap,.slice n.lao n.L n.lcap] 32)).alloc (.cells #[.slice none 0 0,.slice none 0 0] 32)):=⟨_,rfl⟩
 obtain⟨X,HX⟩:∃X,Hid (X=(X2.alloc (.cells #[.slice none 0 0] 43)).alloc (.cells #[.int .i64 0,.int .i64 0] 26)):=⟨_,rfl⟩
 have b1:Bl w X2:=(by rw[HX2.out];exact bA2 _ _ _)
 have s1:X2.heap.size=w.heap.size+1+1:=(by rw[HX2.out];simp)
 have b2:Bl X2 X:=(by rw[HX.out];exact bA2 _ _ _)
 have s2:X.heap.size=X2.heap.size+1+1:=(by rw[HX.out];simp)
 have hXB:Bl w X:=b1.trans (b2.mono b1.size);have g0:X.heap[w.heap.size]?=some (.cells #[.slice n.bao n.K n.bcap,.slice n.lao n.L n.lcap] 32):=keep (by rw[HX2.out];exact heap_alloc2_old _ _ _) b2;have g2:X.heap[w.heap.size+1]?=some (.cells #[.slice none 0 0,.slice none 0 0] 32):=keep (by rw[HX2.out];exact heap_alloc2_new _ _ _) b2;have g3:X.heap[w.heap.size+1+1]?=some (.cells #[.slice none 0 0] 43):=by
  rw[HX.out,←s1];exact heap_alloc2_old _ _ _
 have g4:X.heap[w.heap.size+1+1+1]?=some (.cells #[.int .i64 0,.int .i64 0] 26):=by
  rw[HX.out,←s1];exact heap_alloc2_new _ _ _
 obtain⟨BN,HBN⟩:∃BN,Hid (BN=w.heap.size):=⟨_,rfl⟩
 obtain⟨RN,HRN⟩:∃RN,Hid (RN=w.heap.size+1):=⟨_,rfl⟩
 obtain⟨RT,HRT⟩:∃RT,Hid (RT=w.heap.size+1+1):=⟨_,rfl⟩
 obtain⟨RF,HRF⟩:∃RF,Hid (RF=w.heap.size+1+1+1):=⟨_,rfl⟩
 rw[←HBN.out] at g0;rw[←HRN.out] at g2;rw[←HRT.out] at g3;rw[←HRF.out] at g4;have ne1:RN≠RT:=(by have:=HRN.out;have:=HRT.out;omega)
 have ne2:RN≠RF:=(by have:=HRN.out;have:=HRF.out;omega)
 have ne3:RT≠RF:=(by have:=HRT.out;have:=HRF.out;omega)
 have le1:w.heap.size≤RN:=(by have:=HRN.out;omega)
 have le2:w.heap.size≤RT:=(by have:=HRT.out;omega)
 have le3:w.heap.size≤RF:=(by have:=HRF.out;omega)
 have lt1:RN<X.heap.size:=(by have:=HRN.out;omega)
 have lt2:RT<X.heap.size:=(by have:=HRT.out;omega)
 have lt3:RF<X.heap.size:=(by have:=HRF.out;omega)
 have HC:Hid (∀V,Bl X V→(V.cell? ⟨BN,0,none⟩=some (.slice n.bao n.K n.bcap)∧V.cell? ⟨BN,1,none⟩=some (.slice n.lao n.L n.lcap))∧(V.cell? ⟨RN,0,none⟩=some (.slice none 0 0)∧V.cell? ⟨RN,1,none⟩=some (.slice none 0 0))∧V.cell? ⟨RT,0,none⟩=some (.slice none 0 0)∧(V.cell? ⟨RF,0,none⟩=some (.int .i64 0)∧V.cell? ⟨RF,1,none⟩=some (.int .i64 0))∧(V.frozen? ⟨RN,0,none⟩=false∧V.frozen? ⟨RN,1,none⟩=false)∧V.frozen? ⟨RT,0,none⟩=false∧V.frozen? ⟨RF,0,none⟩=false∧V.frozen? ⟨RF,1,none⟩=false):=fun V hV =>
  ⟨tC2 (keep g0 hV),tC2 (keep g2 hV),one_cell (keep g3 hV),tC2 (keep g4 hV),⟨frozen_of_row _ _ _ _ _ (keep g2 hV),frozen_of_row _ _ _ _ _ (keep g2 hV)⟩,frozen_of_row _ _ _ _ _ (keep g3 hV),frozen_of_row _ _ _ _ _ (keep g4 hV),frozen_of_row _ _ _ _ _ (keep g4 hV)⟩
 have HH:Hid (∀V,Bl X V→V.heap[RN]?=some (.cells #[.slice none 0 0,.slice none 0 0] 32)∧V.heap[RT]?=some (.cells #[.slice none 0 0] 43)∧V.heap[RF]?=some (.cells #[.int .i64 0,.int .i64 0] 26)∧Bl w V):=fun V hV=>⟨keep g2 hV,keep g3 hV,keep g4 hV,hXB.trans (hV.mono hXB.size)⟩
 have HST:Hid (Calls Tryz.prog 38 #[.agg #[.slice n.bao n.K n.bcap,.slice n.lao n.L n.lcap],.int .i64 trees] X fun e w'=>∃oa ol oc f1 f2,e=.returned (.tuple #[.agg #[.slice oa ol oc],.agg #[.int .i64 f1,.int .i64 f2]])∧Hid (Bl X w'∧f1=(stErr n trees).1∧f2=(stErr n trees).2∧(f1=0→∃t0:List Tr,ol=t0.length∧StT w' n trees oa oc t0))):=by
  refine(tstart_any n trees X hwf (hat.below hXB)).mono ?_;rintro e w' ⟨h1,⟨h2,rfl⟩ | ⟨h2,oao,ocap,t0,rfl,h3⟩⟩
  ·exact⟨none,0,0,_,_,rfl,h1,rfl,rfl,fun z=>absurd z h2⟩
  ·have:stErr n trees=(0,0):=by
    obtain⟨z1,z2⟩:=stErr_zero h2;unfold stErr;rw[if_neg (fun z=>z z1),if_neg (fun z=>z z2)]
   exact⟨oao,_,ocap,0,0,rfl,h1,by rw[this],by rw[this],fun _=>⟨t0,rfl,h3⟩⟩
 have HON:Hid ((stErr n trees).1=0→∀(V:World) (oa:Option Addr) (oc:Nat) (t0:List Tr),Bl X V→StT V n trees oa oc t0→Calls Tryz.prog 29 #[.agg #[.slice n.bao n.K n.bcap,.slice n.lao n.L n.lcap],.agg #[.slice oa t0.length oc],.slice dao dn dcap] V fun e w'=>∃na nk nc la lk lc oa ol oc f1 f2,e=.returned (.tuple #[.agg #[.slice na nk nc,.slice la lk lc],.agg #[.slice oa ol oc],.agg #[.int .i64 f1,.int .i64 f2]])∧Hid (Bl X w'∧∀W,w'.heap.size=W.heap.size→(∀q,V.heap.size≤q→W.heap[q]?=w'.heap[q]?)→Bl w W→PlayW w n trees ds dn (.returned (.tuple #[.agg #[.slice na nk nc,.slice la lk lc],.agg #[.slice oa ol oc],.agg #[.int .i64 f1,.int .i64 f2]])) W)):=fun h0 V oa oc t0 hV hT=>by
  have hV2:=hXB.trans (hV.mono hXB.size);obtain⟨z1,z2⟩:=stErr_zero h0;have hp:plErr n trees ds dn=onErr n t0 ds dn:=by
   rw[on_start z1 hT.fit];exact if_neg (fun z=>z h0)
  have hl:t0.length=trees.toNat:=(by have:=hT.len;omega)
  refine(ton_any n oa oc t0 (startMs n) dao dn dcap ds V hwf (hat.below hV2) hT.row hdn (CRow.below hds hV2) hT.calm hT.ms (htb.below hV2 hbt) (Nat.le_trans hbt hV2.size)).mono ?_;rintro e w' ⟨h1,⟨h2,rfl⟩ | ⟨h2,n',oao,ocap,t',rfl,b,hb,h3⟩⟩
  ·refine⟨none,0,0,none,0,0,none,0,0,_,_,rfl,hV.trans (h1.mono hV.size),fun W _ _ hW=>⟨hW,Or.inl ⟨by rw[hp];exact h2,by rw[hp]⟩⟩⟩
  ·refine⟨n'.bao,n'.K,n'.bcap,n'.lao,n'.L,n'.lcap,oao,t'.length,ocap,0,0,rfl,hV.trans (h1.mono hV.size),fun W hs hk hW=>⟨hW,Or.inr ⟨by rw[hp];exact h2,n',oao,ocap,t',rfl,b,Nat.le_trans hV2.size hb,fun V3 hV3 => ?_⟩⟩⟩;rw[←hl];exact h3 V3 (fun q q1 q2=>(hV3 q q1 (by rw[←hs];exact q2)).trans (hk q (Nat.le_trans hb q1)))
 have g0':=HC.out X (Below.refl _ _);have HXS:Hid (∀V,Bl X V→X.heap.size≤V.heap.size):=fun V hV=>hV.size;clear hwf hat hds htb hbt b1 b2 s1 s2 hXB g0 g2 g3 g4;simp only[Pl.Net.val];go_enter Tryz.func15,Tryz.ntmps15;obtain⟨⟨x0,x1⟩,_⟩:=g0';rw[HX.out,HX2.out,HBN.out] at x0 x1;(go_wp2_with fail);rw[←HX2.out,←HX.out,←HRF.out,←HRT.out,←HRN.out,←HBN.out];refine HST.out.mono ?_;rintro e w1 ⟨oa,ol,oc,f1,f2,rfl,H1⟩;clear x0 x1 HST;obtain⟨V1,HV1⟩:∃V1,Hid (V1=(w1.alloc (.cells #[.slice oa ol oc] 43)).alloc (.cells #[.int .i64 f1,.int .i64 f2] 26)):=⟨_,rfl⟩
 have h11:Bl w1 V1:=(by rw[HV1.out];exact bA2 _ _ _)
 have hV1:Bl X V1:=H1.out.1.trans (h11.mono H1.out.1.size);have e0:V1.cell? ⟨w1.heap.size,0,none⟩=some (.slice oa ol oc):=one_cell (by rw[HV1.out];exact heap_alloc2_old _ _ _);have e1:V1.cell? ⟨w1.heap.size+1,0,none⟩=some (.int .i64 f1)∧V1.cell? ⟨w1.heap.size+1,1,none⟩=some (.int .i64 f2):=tC2 (by rw[HV1.out];exact heap_alloc2_new _ _ _);obtain⟨e1,e2⟩:=e1;obtain⟨⟨p0,p1⟩,⟨p3,p4⟩,p5,⟨p6,p7⟩,⟨q0,q1⟩,q2,q3,q4⟩:=HC.out V1 hV1;have y1:=e1;rw[HV1.out] at y1;have HV1B:Hid (Bl X V1):=hV1;by_cases q:f1=0
 ·have h0:(stErr n trees).1=0:=H1.out.2.1.symm.trans q;obtain⟨t0,rfl,hT⟩:=H1.out.2.2.2 q;have HOV:Hid (Calls Tryz.prog 29 #[.agg #[.slice n.bao n.K n.bcap,.slice n.lao n.L n.lcap],.agg #[.slice oa t0.length oc],.slice dao dn dcap] V1 fun e w'=>∃na nk nc la lk lc oa ol oc f1 f2,e=.returned (.tuple #[.agg #[.slice na nk nc,.slice la lk lc],.agg #[.slice oa ol oc],.agg #[.int .i64 f1,.int .i64 f2]])∧Hid (Bl X w'∧∀W,w'.heap.size=W.heap.size→(∀q,V1.heap.size≤q→W.heap[q]?=w'.heap[q]?)→Bl w W→PlayW w n trees ds dn (.returned (.tuple #[.agg #[.slice na nk nc,.slice la lk lc],.agg #[.slice oa ol oc],.agg #[.int .i64 f1,.int .i64 f2]])) W)):=HON.out h0 V1 oa oc t0 hV1 (hT.below h11);have vs:=hV1.size;have lo1:RN<V1.heap.size:=(by omega)
  have lo2:RT<V1.heap.size:=(by omega)
  have lo3:RF<V1.heap.size:=(by omega)
  have r0:=p0;have r1:=p1;have r2:=e0;rw[HV1.out] at r0 r1 r2;subst q;clear h0 hT p0 p1 p3 p4 p5 p6 p7 q0 q1 q2 q3 q4 HON h11 hV1 e0 e1 e2;(go_wp2_with fail);rw[←HV1.out];refine HOV.out.mono ?_;rintro e w2 ⟨na,nk,nc,la,lk,lc,oa2,ol2,oc2,f1,f2,rfl,H2⟩;clear HOV y1 r0 r1 r2;obtain⟨_,⟨p3,p4⟩,p5,⟨p6,p7⟩,⟨q0,q1⟩,q2,q3,q4⟩:=HC.out w2 H2.out.1;(go_wp2_with fail);refine bodyPost_ret (v:=.tuple #[.agg #[.slice na nk nc,.slice la lk lc],.agg #[.slice oa2 ol2 oc2],.agg #[.int .i64 f1,.int .i64 f2]]) (results_row3 Tryz.results15 _ _ RN RT RF 32 43 26 #[.slice na nk nc,.slice la lk lc] #[.slice oa2 ol2 oc2] #[.int .i64 f1,.int .i64 f2] (0,0) (0,0) (0,0) _ _ _ rfl rfl rfl ?h1 ?h2 ?h3 Tryz.underlying32 Tryz.underlying43 Tryz.underlying26 rfl rfl rfl ?i1 ?i2 ?i3) rfl ?post
  case h1=>repeat(first | (with_reducible refine drew_keep ?_) | (with_reducible exact(HH.out _ H2.out.1).1) | (with_reducible refine set2_same (a0:=Value.slice none 0 0) (a1:=Value.slice none 0 0) ?_) | (with_reducible refine set_keep ?_ ne1) | (with_reducible refine set_keep ?_ ne2))
  case h2=>repeat(first | (with_reducible refine drew_keep ?_) | (with_reducible exact(HH.out _ H2.out.1).2.1) | (with_reducible refine set1_same (a0:=Value.slice none 0 0) ?_) | (with_reducible refine set_keep ?_ ne1.symm) | (with_reducible refine set_keep ?_ ne3))
  case h3=>repeat(first | (with_reducible refine drew_keep ?_) | (with_reducible exact(HH.out _ H2.out.1).2.2.1) | (with_reducible refine set2_same (a0:=Value.int .i64 0) (a1:=Value.int .i64 0) ?_) | (with_reducible refine set_keep ?_ ne2.symm) | (with_reducible refine set_keep ?_ ne3.symm))
  case i1=>rw[sizeNt];try rfl
  case i2=>rw[sizeTk];try rfl
  case i3=>rw[sizeFt];try rfl
  case post =>
   refine H2.out.2 _ ?_ ?_ ?_
   ·simp
   ·repeat(first | (with_reducible refine out_drew ?_) | (with_reducible refine out_set ?_ lo1) | (with_reducible refine out_set ?_ lo2) | (with_reducible refine out_set ?_ lo3) | (exact(fun _ _=>rfl)))
   ·repeat(first | (with_reducible refine Below.drew ?_) | (with_reducible exact(HH.out _ H2.out.1).2.2.2) | (with_reducible refine Below.setCell ?_ le1 _) | (with_reducible refine Below.setCell ?_ le2 _) | (with_reducible refine Below.setCell ?_ le3 _))
 ·have HE:Hid ((plErr n trees ds dn).1=f1∧(plErr n trees ds dn).2=f2):=by
   have e3:=H1.out.2.1;have e4:=H1.out.2.2.1;have:plErr n trees ds dn=stErr n trees:=if_pos (by rw[←e3];exact q);rw[this];exact⟨e3.symm,e4.symm⟩
  have q1':(f1 != 0)=true:=(by simpa using q)
  have HNE:Hid (f1≠0):=q;have d1:RN≠w1.heap.size+1:=(by have:=H1.out.1.size;omega)
  have d2:RT≠w1.heap.size+1:=(by have:=H1.out.1.size;omega)
  have d3:RF≠w1.heap.size+1:=(by have:=H1.out.1.size;omega)
  have d4:=d1.symm;have d5:=d2.symm;have d6:=d3.symm;clear p0 p1 hV1 HON HC e0;(go_wp2_with fail);rw[←HV1.out];go_region
  (all_goals go_wp2_with fail);all_goals
   refine bodyPost_ret (v:=.tuple #[.agg #[.slice none 0 0,.slice none 0 0],.agg #[.slice none 0 0],.agg #[.int .i64 f1,.int .i64 f2]]) (results_row3 Tryz.results15 _ _ RN RT RF 32 43 26 #[.slice none 0 0,.slice none 0 0] #[.slice none 0 0] #[.int .i64 f1,.int .i64 f2] (0,0) (0,0) (0,0) _ _ _ rfl rfl rfl ?h1 ?h2 ?h3 Tryz.underlying32 Tryz.underlying43 Tryz.underlying26 rfl rfl rfl ?i1 ?i2 ?i3) rfl ?post
   case h1=>repeat(first | (with_reducible refine drew_keep ?_) | (with_reducible exact(HH.out _ HV1B.out).1) | (with_reducible exact(HH.out _ (below_drewN HV1B.out _)).1) | (with_reducible exact(HH.out _ (Below.drew HV1B.out)).1) | (with_reducible refine set2_same (a0:=Value.slice none 0 0) (a1:=Value.slice none 0 0) ?_) | (with_reducible refine set_keep ?_ ne1) | (with_reducible refine set_keep ?_ ne2))
   case h2=>repeat(first | (with_reducible refine drew_keep ?_) | (with_reducible exact(HH.out _ HV1B.out).2.1) | (with_reducible exact(HH.out _ (below_drewN HV1B.out _)).2.1) | (with_reducible exact(HH.out _ (Below.drew HV1B.out)).2.1) | (with_reducible refine set1_same (a0:=Value.slice none 0 0) ?_) | (with_reducible refine set_keep ?_ ne1.symm) | (with_reducible refine set_keep ?_ ne3))
   case h3=>repeat(first | (with_reducible refine drew_keep ?_) | (with_reducible exact(HH.out _ HV1B.out).2.2.1) | (with_reducible exact(HH.out _ (below_drewN HV1B.out _)).2.2.1) | (with_reducible exact(HH.out _ (Below.drew HV1B.out)).2.2.1) | (with_reducible refine set2_same (a0:=Value.int .i64 0) (a1:=Value.int .i64 0) ?_) | (with_reducible refine set_keep ?_ ne2.symm) | (with_reducible refine set_keep ?_ ne3.symm))
   case i1=>rw[sizeNt];try rfl
   case i2=>rw[sizeTk];try rfl
   case i3=>rw[sizeFt];try rfl
   case post =>
    refine⟨?_,Or.inl ⟨by rw[HE.out.1];exact HNE.out,by rw[HE.out.1,HE.out.2]⟩⟩;repeat(first | (with_reducible refine Below.drew ?_) | (with_reducible exact(HH.out _ HV1B.out).2.2.2) | (with_reducible exact(HH.out _ (below_drewN HV1B.out _)).2.2.2) | (with_reducible exact(HH.out _ (Below.drew HV1B.out)).2.2.2) | (with_reducible refine Below.setCell ?_ le1 _) | (with_reducible refine Below.setCell ?_ le2 _) | (with_reducible refine Below.setCell ?_ le3 _))
end
section
namespace Pl
open Vc (V Of)
section
variable {K L:Nat}{ls:Nat→Lk}{ids:Nat→Int}{lv:Nat→Bool}
end
end Pl
namespace Tk
open Vc (V Of)
open Pl (Lk En St fin offs RightL ends)
theorem map_getD {α:Type}(l:List α) (f:α→Int) {j:Nat}{e:α}(h:l[j]?=some e):(l.map f).getD j 0=f e:=by
 rw[List.getD_eq_getElem?_getD,List.getElem?_map,h];rfl
theorem get_lt {α:Type}{l:List α}{j:Nat}{e:α}(h:l[j]?=some e):j<l.length:=(List.getElem?_eq_some_iff.1 h).1
theorem Ok.opens {c:Cn}{s:Sc}{T:Nat}(h:Ok c s T) {t:Nat}(ht:83≤t) {k:Nat}(hk:k<T) {i:Nat}(hi:i<c.K) {j:Nat}{e:En}(he:(s.E c i)[j]?=some e) :
  50≤((s.ticks c t).ms k i).calm.getD j 0↔((s.roles c k i).getD j 0=1∨(s.roles c k i).getD j 0=2):=by
 have hj:=get_lt he;have hr:∀u,33≤u→(ticksF (s.ids c k) (s.E c) (s.ms k) u i).roles=s.roles c k i:=fun u hu=>(settledF (h.fine.good _) h.fine.ports (s.ms k) hu hi).2.2;constructor
 ·intro q;have:=(ticksF_Calm (ids:=s.ids c k) (h.fit k hk) (h.calm k hk) t i hi j).2 (by change 50≤_ at q;change 0<_;exact Int.lt_of_lt_of_le (by decide) q);rw[hr t (by omega)] at this;exact this
 ·intro q;have:=calm_on (ids:=s.ids c k) (h.fit k hk) (h.calm k hk) hi hj (t-50) (fun u hu=>by rw[hr u (by omega)];exact q) 50 (Nat.le_refl _);rw[show t-50+50=t by omega] at this;exact this
end Tk
namespace Tk
open Vc (V Of)
open Pl (Lk En St fin offs RightL ends)
theorem Sc.one_tick {s:Sc}{c:Cn}{d:Dn}(h:d.kind=1):s.one c d=s.ticks c d.n.toNat:=by unfold Sc.one;rw[if_pos h]
theorem all_congr (s:Sc) (c:Cn) {l m:Nat→Dn}:∀n,(∀k,k<n→l k=m k)→s.all c l n=s.all c m n
 | 0,_=>rfl
 | n+1,h=>by simp only[Sc.all];rw[all_congr s c n (fun k hk=>h k (by omega)),h n (by omega)]
theorem all_last (s:Sc) (c:Cn) (l:Nat→Dn) (n:Nat) (d:Dn):s.all c (fun k=>if k<n then l k else d) (n+1)=(s.all c l n).one c d:=by
 show(s.all c _ n).one c _=_;rw[all_congr s c n (m:=l) (fun k hk=>if_pos hk)];simp only;rw[if_neg (by omega)]
end Tk
end
section
open Go.RowKit
open Vc (V Of)
open Pl (Br Net Pc Lk En St)
open Tk (Md Mnd Cn Sc Dn)
theorem sizeDo:(Tryz.prog.info? 47).map (·.size)=some 4:=by kernel_rfl
theorem one_do {w:World}{g:Nat}{d:Dn}{ty:TypeId}(h:w.heap[g]?=some (.cells #[.int .i64 d.kind,.int .i64 d.n,.int .i64 d.tree,.int .i64 d.value] ty (0,0))):DRow w (some ⟨g,0,none⟩) 1 1 (fun _=>d):=by
 refine⟨Nat.le_refl _,fun _=>⟨g,0,rfl,(gSm.1 h).1,fun i hi j hj => ?_⟩⟩;obtain rfl:i=0:=by omega
 rcases(by omega:j=0∨j=1∨j=2∨j=3) with e | e | e | e<;>subst e
 ·exact cell_of_row w g 0 _ _ _ h
 ·exact cell_of_row w g 1 _ _ _ h
 ·exact cell_of_row w g 2 _ _ _ h
 ·exact cell_of_row w g 3 _ _ _ h
def tickD (x:Int):Dn:=⟨1,x,0,0⟩
end
section
open Go.RowKit
open Tk (Dn)
section
variable {P:Program}{ops:Array Oper}{Q:Exit→Act→World→Prop}{md:Region.Mode}{z:Nat}{C:World→Prop}
end
def dsT (dn:Nat) (ds:Nat→Dn) (tk:Int) (i:Nat):Dn:=if i<dn then ds i else tickD tk
end
section
open Go.RowKit
open Tk (Md)
def opM (m:Mi) (port:Int):Bool:=if 0≤Bk.idx m.ports port m.ports.length∧Bk.idx m.ports port m.ports.length≤(m.calm.length:Int)-1 then decide (50≤m.calm.getD (Bk.idx m.ports port m.ports.length).toNat 0) else false
def opT (t:List Tr) (tree bridge port:Int):Bool:=if (0≤tree∧tree≤(t.length:Int)-1)∧(0≤bridge∧bridge≤((tat t tree.toNat).l.length:Int)-1) then opM (mat (tat t tree.toNat).l bridge.toNat) port else false
theorem topens_any (oao:Option Addr) (ocap:Nat) (t:List Tr) (tree bridge port:Int) (w:World) (ht:TrRow w oao ocap t) :
  Calls Tryz.prog 27 #[.agg #[.slice oao t.length ocap],.int .i64 tree,.int .i64 bridge,.int .i64 port] w fun e w'=>e=.returned (.bool (opT t tree bridge port))∧Bl w w':=by
 obtain⟨X,HX⟩:∃X,Hid (X=w.alloc (.cells #[.slice oao t.length ocap] 43)):=⟨_,rfl⟩
 have hXB:Bl w X:=(by rw[HX.out];exact bA1 _ _)
 have hX0:X.heap[w.heap.size]?=some (.cells #[.slice oao t.length ocap] 43):=(by rw[HX.out];exact heap_alloc_last _ _)
 have c0:X.cell? ⟨w.heap.size,0,none⟩=some (.slice oao t.length ocap):=cell_of_row X _ 0 _ _ _ hX0;have hmany:=ht.many;have hcap:=ht.row.1;by_cases h1:0≤tree∧tree≤(t.length:Int)-1
 ·obtain⟨k,rfl⟩:∃k:Nat,tree=(k:Int):=⟨tree.toNat,by omega⟩
  have hk:k<t.length:=(by omega)
  have hrow:=ht.below hXB;obtain⟨b,off,rfl,_⟩:=hrow.place (by omega);have c1:=hrow.cell hk;have hm:=hrow.each k hk;have ik:(0:Int)≤(k:Int):=(by omega)
  have nk:(k:Int)<(t.length:Int):=(by omega)
  have hmm:=hm.many;have hmc:=hm.row.1;have HOP:Hid (opT t k bridge port=if 0≤bridge∧bridge≤((tat t k).l.length:Int)-1 then opM (mat (tat t k).l bridge.toNat) port else false):=by
   show(if (0≤(k:Int)∧(k:Int)≤(t.length:Int)-1)∧(0≤bridge∧bridge≤((tat t ((k:Int)).toNat).l.length:Int)-1) then opM (mat (tat t ((k:Int)).toNat).l bridge.toNat) port else false)=_;rw[Int.toNat_natCast];by_cases z:0≤bridge∧bridge≤((tat t k).l.length:Int)-1
   ·rw[if_pos ⟨h1,z⟩,if_pos z]
   ·rw[if_neg (fun q=>z q.2),if_neg z]
  generalize tat t k=x at *;by_cases h2:0≤bridge∧bridge≤(x.l.length:Int)-1
  ·obtain⟨i,rfl⟩:∃i:Nat,bridge=(i:Int):=⟨bridge.toNat,by omega⟩
   have hi:i<x.l.length:=(by omega)
   obtain⟨xa,xc,xl⟩:=x;simp only at *;obtain⟨b2,off2,rfl,_⟩:=hm.place (by omega);obtain⟨d0,d1,d2,d3,d4,d5,d6,d7,d8⟩:=hm.cells hi;have hmi:=hm.each i hi;have ii:(0:Int)≤(i:Int):=(by omega)
   have ni:(i:Int)<(xl.length:Int):=(by omega)
   rw[Int.toNat_natCast,if_pos h2] at HOP;generalize mat xl i=m at *;obtain⟨Y,HY⟩:∃Y,Hid (Y=X.alloc (.cells #[.int .u64 m.md.v.root,.int .i64 m.md.v.cost,.int .u64 m.md.v.bridge,.int .i64 m.md.v.port,.int .i64 m.md.age,.int .i64 m.md.rp,.slice m.po m.ports.length m.pc,.slice m.ro m.roles.length m.rc,.slice m.co m.calm.length m.cc] 52)):=⟨_,rfl⟩
   have hYB:Bl X Y:=(by rw[HY.out];exact bA1 _ _)
   have hY0:Y.heap[X.heap.size]?=some (.cells #[.int .u64 m.md.v.root,.int .i64 m.md.v.cost,.int .u64 m.md.v.bridge,.int .i64 m.md.v.port,.int .i64 m.md.age,.int .i64 m.md.rp,.slice m.po m.ports.length m.pc,.slice m.ro m.roles.length m.rc,.slice m.co m.calm.length m.cc] 52):=(by rw[HY.out];exact heap_alloc_last _ _)
   have y6:Y.cell? ⟨X.heap.size,6,none⟩=some (.slice m.po m.ports.length m.pc):=cell_of_row Y _ 6 _ _ _ hY0;have y8:Y.cell? ⟨X.heap.size,8,none⟩=some (.slice m.co m.calm.length m.cc):=cell_of_row Y _ 8 _ _ _ hY0;have hXs:X.heap.size=w.heap.size+1:=(by rw[HX.out];simp)
   rw[hXs] at y8;have HIX:Hid (Calls Tryz.prog 55 #[.slice m.po m.ports.length m.pc,.int .i64 port] Y fun e w'=>e=.returned (.int .i64 (Bk.idx m.ports port m.ports.length))∧w'=Y):=bindex_any m.po m.pc m.ports port Y hmi.pn (hmi.ports.below hYB);have HWY:Hid (Bl w Y):=hXB.trans (hYB.mono hXB.size);have hcn:=hmi.cn;have hco:=hmi.calm.below hYB;have hcc:=hco.1;have HM:Hid (opM m port=if 0≤Bk.idx m.ports port m.ports.length∧Bk.idx m.ports port m.ports.length≤(m.calm.length:Int)-1 then decide (50≤m.calm.getD (Bk.idx m.ports port m.ports.length).toNat 0) else false):=rfl;generalize Bk.idx m.ports port m.ports.length=ix at *;rw[HX.out] at c0 c1 d0 d1 d2 d3 d4 d5 d6 d7 d8;have z6:=y6;rw[HY.out,HX.out] at z6;clear hrow hm hmi hXB hX0 hYB hY0 ht;go_enter Tryz.func27,Tryz.ntmps27;(go_wp2_with fail);refine(vwithin_any _ _ _ _).mono ?_;rintro e w1 ⟨rfl,rfl⟩;rw[decide_eq_true h1];(go_wp2_with fail);refine(vwithin_any _ _ _ _).mono ?_;rintro e w1 ⟨rfl,rfl⟩;rw[decide_eq_true h2];(go_wp2_with fail);rw[←HX.out,←HY.out];refine HIX.out.mono ?_;rintro e w1 ⟨rfl,rfl⟩;clear c0 c1 d0 d1 d2 d3 d4 d5 d6 d7 d8 HIX z6;by_cases h3:0≤ix∧ix≤(m.calm.length:Int)-1
   ·obtain⟨j,rfl⟩:∃j:Nat,ix=(j:Int):=⟨ix.toNat,by omega⟩
    have hj:j<m.calm.length:=(by omega)
    obtain⟨b3,off3,e3,_⟩:=hco.place (by omega);rw[e3] at hco y8;have d9:=hco.cell hj;have jj:(0:Int)≤(j:Int):=(by omega)
    have nj:(j:Int)<(m.calm.length:Int):=(by omega)
    rw[Int.toNat_natCast,if_pos h3] at HM;clear hco;(go_wp2_with fail);refine(vwithin_any _ _ _ _).mono ?_;rintro e w1 ⟨rfl,rfl⟩;rw[decide_eq_true h3];(go_wp2_with fail);go_ret;exact⟨by rw[HOP.out,HM.out];first | rfl | simp[hj],HWY.out⟩
   ·rw[if_neg h3] at HM;clear hco;(go_wp2_with fail);refine(vwithin_any _ _ _ _).mono ?_;rintro e w1 ⟨rfl,rfl⟩;rw[decide_eq_false h3];(go_wp2_with fail);go_ret;exact⟨by rw[HOP.out,HM.out];rfl,HWY.out⟩
  ·rw[if_neg h2] at HOP;have HWX:Hid (Bl w X):=hXB;rw[HX.out] at c0 c1;clear hrow hm hXB hX0 ht;go_enter Tryz.func27,Tryz.ntmps27;(go_wp2_with fail);refine(vwithin_any _ _ _ _).mono ?_;rintro e w1 ⟨rfl,rfl⟩;rw[decide_eq_true h1];(go_wp2_with fail);refine(vwithin_any _ _ _ _).mono ?_;rintro e w1 ⟨rfl,rfl⟩;rw[decide_eq_false h2];(go_wp2_with fail);rw[←HX.out];go_ret;exact⟨by rw[HOP.out];rfl,HWX.out⟩
 ·have HOP:Hid (opT t tree bridge port=false):=if_neg (fun q=>h1 q.1);have HWX:Hid (Bl w X):=hXB;rw[HX.out] at c0;clear hXB hX0 ht;go_enter Tryz.func27,Tryz.ntmps27;(go_wp2_with fail);refine(vwithin_any _ _ _ _).mono ?_;rintro e w1 ⟨rfl,rfl⟩;rw[decide_eq_false h1];(go_wp2_with fail);rw[←HX.out];go_ret;exact⟨by rw[HOP.out];rfl,HWX.out⟩
end
section
open Go.RowKit
open Vc (V Of)
open Pl (Br Net Pc Lk En St)
open Tk (Md Mnd Cn Sc Dn)
theorem start_ok {n:Net}(hw:n.Wf) (h:n.wrong.1=0) (T:Nat):Tk.Ok n.cn (n.sc (startMs n)) T:=by
 refine⟨net_fine hw h _,fun k hk i hi => ?_,fun k hk i hi j => ?_⟩
 ·rw[Pl.Net.sc_E];have e:(n.pts i).length=(n.ends i).length:=(by unfold Pl.Net.pts;simp)
  show(zer (n.pts i).length).length=_∧(zer (n.pts i).length).length=_;rw[zer_len];exact⟨e,e⟩
 ·show 0≤(zer (n.pts i).length).getD j 0∧(0<(zer (n.pts i).length).getD j 0→_)
  rw[zer_get];exact⟨Int.le_refl _,fun h=>absurd h (Int.lt_irrefl _)⟩
theorem all_ticks (s:Sc) (c:Cn) (ds:Nat→Dn) (dn:Nat) (tk:Int):s.all c (dsT dn ds tk) (dn+1)=(s.all c ds dn).ticks c tk.toNat:=by
 have e:dsT dn ds tk=fun k=>if k<dn then ds k else tickD tk:=rfl
 rw[e,Tk.all_last,Tk.Sc.one_tick rfl];rfl
theorem sn_net {W:World}{n:Net}{T:Nat}{s:Sc}{n':Net}{oa:Option Addr}{oc:Nat}{t':List Tr}(h:SnOut W n T s n' oa oc t'):n'.K=n.K∧n'.L=n.L∧n'.ends=s.E n.cn∧∀k:Int,n'.ids k=s.ids n.cn k:=by
 have e1:n'.K=n.K:=congrArg Cn.K h.cn;have e2:n'.L=n.L:=congrArg Cn.L h.cn;refine⟨e1,e2,?_,fun k => ?_⟩
 ·have:=Pl.Net.sc_E n' s.ms;rw[h.sc,h.cn] at this;exact this.symm
 ·funext i
  have:=net_ids (n:=n') s.ms k i;rw[h.sc,h.cn] at this;exact this.symm
theorem idx_at {l:List Int}{j:Nat}(hj:j<l.length) (h:∀a,a<j→l.getD a 0≠l.getD j 0):Bk.idx l (l.getD j 0) l.length=(j:Int):=by
 have H:∀k,k≤l.length→Bk.idx l (l.getD j 0) k=if j<k then(j:Int) else -1:=by
  intro k;induction k with
  | zero=>intro _;rfl
  | succ k ih =>
   intro hk;have ih:=ih (by omega);show(if 0≤Bk.idx l (l.getD j 0) k then Bk.idx l (l.getD j 0) k else if l.getD j 0=l.getD k 0 then(k:Int) else -1)=_;rw[ih];by_cases q:j<k
   ·rw[if_pos q,if_pos (by omega),if_pos (by omega)]
   ·rw[if_neg q,if_neg (by omega)];by_cases q2:j=k
    ·subst q2;rw[if_pos rfl,if_pos (by omega)]
    ·rw[if_neg (fun e=>h k (by omega) e.symm),if_neg (by omega)]
 rw[H _ (Nat.le_refl _),if_pos hj]
theorem EL_get {es:List En}{j:Nat}(hj:j<es.length):es[j]?=some (EL es j):=by
 simp[EL,hj]
theorem pts_get {es:List En}{j:Nat}(hj:j<es.length):(es.map (fun e:En=>e.port)).getD j 0=(EL es j).port:=by
 simp[EL,hj]
theorem sn_opens {W:World}{n:Net}{T:Nat}{ds:Nat→Dn}{dn:Nat}{tk:Int}{n':Net}{oa:Option Addr}{oc:Nat}{t':List Tr}(h:SnOut W n T ((n.sc (startMs n)).all n.cn (dsT dn ds tk) (dn+1)) n' oa oc t') (hw:n.Wf) (h0:n.wrong.1=0) (he:∀k,k<dn→Tk.errOf n.cn (ds k)=0) (ht:83≤tk.toNat)
  {k i j:Nat}(hk:k<T) (hi:i<n.K) (hj:j<(n'.ends i).length) :
  opT t' k i (EL (n'.ends i) j).port=decide (Pl.roleAt (Pl.rounds (n'.ids k) n'.ends n'.K n'.K i) (Pl.offs (n'.ends i) (Pl.rounds (n'.ids k) n'.ends n'.K n'.K)) (EL (n'.ends i) j)=1∨Pl.roleAt (Pl.rounds (n'.ids k) n'.ends n'.K n'.K i) (Pl.offs (n'.ends i) (Pl.rounds (n'.ids k) n'.ends n'.K n'.K)) (EL (n'.ends i) j)=2):=by
 obtain⟨e1,_,e3,e4⟩:=sn_net h;have hE:=h.each k hk;have hlen:=h.len;rw[all_ticks] at hE e3 e4;obtain⟨s0,hs0⟩:∃s0,s0=(n.sc (startMs n)).all n.cn ds dn:=⟨_,rfl⟩
 rw[←hs0] at hE e3 e4;have e3:n'.ends=s0.E n.cn:=e3;have e4:n'.ids k=s0.ids n.cn k:=e4 k;have hok:Tk.Ok n.cn s0 T:=(by rw[hs0];exact(start_ok hw h0 T).all ds dn he)
 have hsame:=((net_fine hw h0 (startMs n)).all ds dn he)
 rw[←hs0] at hsame;have hpts:n.pts i=(n'.ends i).map (fun e:En=>e.port):=by
  have:=(hsame.2.len (net_fine hw h0 (startMs n)) hsame.1 i).1;rw[Pl.Net.sc_E] at this;rw[e3];exact this.symm
 obtain⟨hl,hm⟩:=hE;obtain⟨hm1,hm2⟩:=hm i hi;have hcalm:(mat (tat t' k).l i).calm=((s0.ticks n.cn tk.toNat).ms k i).calm:=congrArg Mnd.calm hm1;have hfit:=((ok_ticks hok tk.toNat).fit k hk i hi).2;have hfit:((s0.ticks n.cn tk.toNat).ms k i).calm.length=(n'.ends i).length:=(by rw[e3];exact hfit)
 rw[e3] at hj hpts hfit ⊢;have hop:=hok.opens ht hk hi (EL_get hj);have hrole:(s0.roles n.cn k i).getD j 0=Pl.roleAt (s0.says n.cn k i) (Pl.offs (s0.E n.cn i) (s0.says n.cn k)) (EL (s0.E n.cn i) j):=by
  unfold Tk.Sc.roles;exact Tk.map_getD _ _ (EL_get hj)
 have hsays:Pl.rounds (n'.ids k) (s0.E n.cn) n'.K n'.K=s0.says n.cn k:=by
  rw[e4,e1];rfl
 rw[hsays,←hrole];have hidx:Bk.idx (mat (tat t' k).l i).ports (EL (s0.E n.cn i) j).port (mat (tat t' k).l i).ports.length=(j:Int):=by
  rw[hm2,hpts,←pts_get hj];refine idx_at (by simpa using hj) (fun a ha => ?_);rw[pts_get (by omega),pts_get hj];have hs:=Pl.ends_sorted hok.fine.links (s0.lv n.cn) i;have:=List.pairwise_iff_getElem.1 hs a j (by have:=hj;unfold Tk.Sc.E at this;omega) (by have:=hj;unfold Tk.Sc.E at this;exact this) ha;have g1:EL (s0.E n.cn i) a=(s0.E n.cn i)[a]'(by omega):=(by simp[EL,show a<(s0.E n.cn i).length by omega])
  have g2:EL (s0.E n.cn i) j=(s0.E n.cn i)[j]:=(by simp[EL,hj])
  rw[g1,g2];exact Int.ne_of_lt this
 unfold opT;rw[Int.toNat_natCast,Int.toNat_natCast,if_pos ⟨⟨by omega,by omega⟩,⟨by omega,by omega⟩⟩];unfold opM;rw[hidx,hcalm,if_pos ⟨by omega,by omega⟩,Int.toNat_natCast];exact decide_eq_decide.2 hop
end
section
namespace Pl
open Vc (V Of)
def s0:St:=⟨⟨0,0,0,0⟩,0⟩
def sat (l:List St) (j:Nat):St:=l.getD j s0
def stepL (ids:Nat→Int) (E:Nat→List En) (l:List St) (i:Nat):List St:=l.set i (chS (ids i) (offs (E i) (sat l)))
def roundL (ids:Nat→Int) (E:Nat→List En) (l:List St):Nat→List St
 | 0=>l
 | k+1=>stepL ids E (roundL ids E l k) k
def firstL (ids:Nat→Int) (K:Nat):List St:=(List.range K).map (fun i=>⟨⟨ids i,0,ids i,0⟩,0⟩)
def roundsL (ids:Nat→Int) (E:Nat→List En) (K:Nat):Nat→List St
 | 0=>firstL ids K
 | r+1=>roundL ids E (roundsL ids E K r) K
def finL (ids:Nat→Int) (E:Nat→List En) (K:Nat):List St:=roundsL ids E K K
section
variable {ids:Nat→Int}{E:Nat→List En}{K:Nat}
def Says (K:Nat) (l:List St) (x:Nat→St):Prop:=l.length=K∧∀i,i<K→sat l i=x i
theorem says_step (hE:∀i,i<K→∀e,e∈E i→e.other.toNat<K) {l:List St}{x:Nat→St}(h:Says K l x) {i:Nat}(hi:i<K):Says K (stepL ids E l i) (step ids E x i):=by
 have he:offs (E i) (sat l)=offs (E i) x:=offs_congr (fun e he _=>by rw[h.2 _ (hE i hi e he)]);refine⟨by unfold stepL;rw[List.length_set];exact h.1,fun j hj => ?_⟩;unfold stepL step;rw[he];unfold sat;by_cases e:j=i
 ·subst e;rw[if_pos rfl];simp[h.1,hi]
 ·rw[if_neg e,←h.2 j hj];unfold sat;simp[Ne.symm e]
theorem says_round (hE:∀i,i<K→∀e,e∈E i→e.other.toNat<K) {l:List St}{x:Nat→St}(h:Says K l x):∀k,k≤K→Says K (roundL ids E l k) (roundTo ids E x k)
 | 0,_=>h
 | k+1,hk=>says_step hE (says_round hE h k (by omega)) (by omega)
theorem says_rounds (hE:∀i,i<K→∀e,e∈E i→e.other.toNat<K):∀r,Says K (roundsL ids E K r) (rounds ids E K r)
 | 0=>⟨by simp[roundsL,firstL],fun i hi=>by simp[roundsL,firstL,sat,hi,rounds]⟩
 | r+1=>says_round hE (says_rounds hE r) K (Nat.le_refl _)
theorem finL_eq (hE:∀i,i<K→∀e,e∈E i→e.other.toNat<K) {i:Nat}(hi:i<K):sat (finL ids E K) i=fin ids E K i:=(says_rounds hE K).2 i hi
end
def ringE (k:Nat) (cst:Nat→Int) (lv:Nat→Bool) (i:Nat):List En :=
 [⟨1,cst (if i=0 then k-1 else i-1),((if i=0 then k-1 else i-1:Nat):Int),2,lv (if i=0 then k-1 else i-1)⟩,⟨2,cst i,((if i+1=k then 0 else i+1:Nat):Int),1,lv i⟩]
def ringId (i:Nat):Int:=32768*281474976710656+10+(i:Int)
def ringAll (k:Nat) (cst:Nat→Int) (lv:Nat→Bool):List St:=finL ringId (ringE k cst lv) k
def rolesL (k:Nat) (cst:Nat→Int) (lv:Nat→Bool) (l:List St) (i:Nat):List Int:=(ringE k cst lv i).map (roleAt (sat l i) (offs (ringE k cst lv i) (sat l)))
end Pl
namespace Tk
open Vc (V Of)
open Pl (Lk En St RightL ends)
section
variable {ids:Nat→Int}{E F:Nat→List En}{K:Nat}
end
end Tk
namespace Pl
open Vc (V Of)
theorem ends_by {K L:Nat}{ls:Nat→Lk}(R:RightL K L ls) (lv:Nat→Bool) (i:Nat) {l:List En}(hm:∀e,e∈l↔e∈ends ls lv L i) (hs:l.Pairwise (fun x y=>x.port<y.port)):ends ls lv L i=l:=by
 have S:=ends_sorted R lv i;have nd:∀{m:List En},m.Pairwise (fun x y=>x.port<y.port)→m.Nodup:=fun h=>h.imp (fun {a b} q e=>by rw[e] at q;omega);exact(sorted_unique ((List.perm_ext_iff_of_nodup (nd hs) (nd S)).2 hm) hs S).symm
def lnk (k:Nat) (cst:Nat→Int) (up:Nat→Bool) (j:Nat):Lk:=⟨(j:Int),2,((if j+1=k then 0 else j+1:Nat):Int),1,cst j,up j⟩
theorem ring_right {k:Nat}(hk:3≤k) {cst:Nat→Int}(hc:∀j,j<k→1≤cst j∧cst j≤200000) (up:Nat→Bool):RightL k k (lnk k cst up):=by
 refine⟨fun j hj => ?_,fun i j hij hj => ?_⟩
 ·have:=hc j hj;unfold lnk;simp only;by_cases e:j+1=k
  ·rw[if_pos e];omega
  ·rw[if_neg e];omega
 ·unfold isEnd lnk;simp only[Bool.or_eq_false_iff,decide_eq_false_iff_not];by_cases e:j+1=k
  ·rw[if_pos e];by_cases e2:i+1=k
   ·omega
   ·rw[if_neg e2];omega
  ·rw[if_neg e];by_cases e2:i+1=k
   ·omega
   ·rw[if_neg e2];omega
theorem line_right {k:Nat}{cst:Nat→Int}(hc:∀j,j<k→1≤cst j∧cst j≤200000) (up:Nat→Bool):RightL k (k-1) (lnk k cst up):=by
 refine⟨fun j hj => ?_,fun i j hij hj => ?_⟩
 ·have:=hc j (by omega);unfold lnk;simp only;rw[if_neg (by omega)];omega
 ·unfold isEnd lnk;simp only[Bool.or_eq_false_iff,decide_eq_false_iff_not];rw[if_neg (by omega),if_neg (by omega)];omega
theorem ring_ends {k:Nat}(hk:3≤k) {cst:Nat→Int}(hc:∀j,j<k→1≤cst j∧cst j≤200000) (up lv:Nat→Bool) {i:Nat}(hi:i<k):ends (lnk k cst up) lv k i=ringE k cst lv i:=by
 refine ends_by (ring_right hk hc up) lv i (fun e => ?_) (by simp[ringE]);rw[ends_mem];unfold ringE lnk;simp only[List.mem_cons,List.not_mem_nil,or_false];constructor
 ·rintro(rfl | rfl)
  ·by_cases e0:i=0
   ·refine⟨k-1,by omega,Or.inr ⟨by rw[if_pos (by omega)];omega,?_⟩⟩;rw[if_pos e0]
   ·refine⟨i-1,by omega,Or.inr ⟨by rw[if_neg (by omega)];omega,?_⟩⟩;rw[if_neg e0]
  ·exact⟨i,hi,Or.inl ⟨rfl,rfl⟩⟩
 ·rintro⟨j,hj,⟨ha,rfl⟩ | ⟨hb,rfl⟩⟩
  ·obtain rfl:j=i:=by omega
   exact Or.inr rfl
  ·left
   by_cases e:j+1=k
   ·rw[if_pos e] at hb;have e0:i=0:=(by omega)
    rw[if_pos e0];obtain rfl:j=k-1:=by omega
    rfl
   ·rw[if_neg e] at hb;have e0:i≠0:=(by omega)
    rw[if_neg e0];obtain rfl:j=i-1:=by omega
    rfl
def lineE (k:Nat) (cst:Nat→Int) (lv:Nat→Bool) (i:Nat):List En :=
 (if i=0 then [] else [⟨1,cst (i-1),((i-1:Nat):Int),2,lv (i-1)⟩])++(if i+1=k then [] else [⟨2,cst i,((i+1:Nat):Int),1,lv i⟩])
theorem ringE_in {k:Nat}(hk:3≤k) (cst:Nat→Int) (lv:Nat→Bool):∀i,i<k→∀e,e∈ringE k cst lv i→e.other.toNat<k:=by
 intro i hi e he;unfold ringE at he;simp only[List.mem_cons,List.not_mem_nil,or_false] at he;rcases he with rfl | rfl
 ·simp only[Int.toNat_natCast];by_cases q:i=0
  ·rw[if_pos q];omega
  ·rw[if_neg q];omega
 ·simp only[Int.toNat_natCast];by_cases q:i+1=k
  ·rw[if_pos q];omega
  ·rw[if_neg q];omega
end Pl
namespace Tk
open Vc (V Of)
open Pl (Lk En St lineE ringE ringId)
def ten (_:Nat):Int:=10
def yes (_:Nat):Bool:=true
def onR (k:Nat) (cst:Nat→Int) (lv:Nat→Bool) (l:List St) (i j:Nat):Bool:=let r:=(Pl.rolesL k cst lv l i).getD j 0;decide (r=1)||decide (r=2)
def nxt (k i:Nat):Nat:=if i+1=k then 0 else i+1
end Tk
end
section
open Go.RowKit
open Vc (V Of)
open Pl (Br Net Pc Lk En St ringE lineE ringId)
open Tk (Md Mnd Cn Sc Dn ten yes)
namespace Pl
section
variable {ids:Nat→Int}{E F:Nat→List En}{K:Nat}
theorem roundL_congr (h:∀i,i<K→E i=F i) (l:List St):∀m,m≤K→roundL ids E l m=roundL ids F l m
 | 0,_=>rfl
 | m+1,hm=>by
  show stepL ids E (roundL ids E l m) m=stepL ids F (roundL ids F l m) m;rw[roundL_congr h l m (by omega)];unfold stepL;rw[h m (by omega)]
theorem roundsL_congr (h:∀i,i<K→E i=F i):∀r,roundsL ids E K r=roundsL ids F K r
 | 0=>rfl
 | r+1=>by
  show roundL ids E (roundsL ids E K r) K=roundL ids F (roundsL ids F K r) K;rw[roundsL_congr h r,roundL_congr h _ K (Nat.le_refl _)]
theorem finL_by (h:∀i,i<K→E i=F i) (hF:∀i,i<K→∀e,e∈F i→e.other.toNat<K) {i:Nat}(hi:i<K):sat (finL ids F K) i=rounds ids E K K i:=by
 have:=finL_eq (ids:=ids) (E:=E) (K:=K) (fun i hi e he=>hF i hi e (by rw[←h i hi];exact he)) hi;rw[show finL ids E K=finL ids F K from roundsL_congr h K] at this;exact this
end
end Pl
def bsL (i:Nat):Br:=⟨10+(i:Int),none,0,0,fun _=>0,regR⟩
def lnL (k:Nat) (ring:Bool):Nat:=if ring=true∧2<k then k else k-1
theorem lnL_ring {k:Nat}(hk:3≤k):lnL k true=k:=by unfold lnL;rw[if_pos ⟨rfl,by omega⟩]
def netL (k:Nat) (ring:Bool) (cst:Nat→Int) (a5:Option Addr) (c5:Nat) (a6:Option Addr) (c6:Nat):Net:=⟨a5,k,c5,bsL,a6,lnL k ring,c6,Pl.lnk k cst yes⟩
section
variable {k:Nat}{ring:Bool}{cst:Nat→Int}{a5:Option Addr}{c5:Nat}{a6:Option Addr}{c6:Nat}
theorem netL_wf (hk:k≤12):(netL k ring cst a5 c5 a6 c6).Wf:=by
 refine⟨fun i hi => ?_,fun i hi => ?_⟩
 ·have hi:i<k:=hi;exact u64_wf (show 0≤10+(i:Int)∧10+(i:Int)≤18446744073709551615 by omega)
 ·have hi:i<lnL k ring:=hi;have hi2:i<k∨k=0:=by
   unfold lnL at hi;split at hi<;>omega
  show(Lit.int .i64 (i:Int)).wf=true∧(Lit.int .i64 2).wf=true∧(Lit.int .i64 ((if i+1=k then 0 else i+1:Nat):Int)).wf=true∧(Lit.int .i64 1).wf=true;have h3:lnL k ring≤12:=(by unfold lnL;split<;>omega)
  exact⟨i64_wf (by omega),i64_wf (by omega),i64_wf (by split<;>omega),i64_wf (by omega)⟩
theorem bErrL:∀i,i<12→Pl.bErr bsL i=0:=by
 intro i hi;rcases(by omega:i=0∨i=1∨i=2∨i=3∨i=4∨i=5∨i=6∨i=7∨i=8∨i=9∨i=10∨i=11) with e | e | e | e | e | e | e | e | e | e | e | e<;>subst e<;>kernel_rfl
theorem lnL_right (hc:∀j,j<k→1≤cst j∧cst j≤200000):Pl.RightL k (lnL k ring) (Pl.lnk k cst yes):=by
 by_cases h:ring=true∧2<k
 ·have e:lnL k ring=k:=(by unfold lnL;rw[if_pos h])
  rw[e];exact Pl.ring_right (by omega) hc _
 ·have e:lnL k ring=k-1:=(by unfold lnL;rw[if_neg h])
  rw[e];exact Pl.line_right hc _
theorem netL_right (hk:k≤12) (hc:∀j,j<k→1≤cst j∧cst j≤200000):(netL k ring cst a5 c5 a6 c6).wrong.1=0:=by
 have hl:lnL k ring≤12:=(by unfold lnL;split<;>omega)
 have h1:Pl.firstTo (Pl.bErr bsL) k=(0,0):=Pl.firstTo_all _ _ (fun i hi=>bErrL i (by omega));have h2:Pl.firstTo (Pl.lErr k (Pl.lnk k cst yes)) (lnL k ring)=(0,0):=Pl.firstTo_all _ _ (fun i hi=>lErr_of (lnL_right hc) hi);show(if 12<k∨40<lnL k ring then((5:Int),(0:Int)) else if (Pl.firstTo (Pl.bErr bsL) k).1≠0 then Pl.firstTo (Pl.bErr bsL) k else Pl.firstTo (Pl.lErr k (Pl.lnk k cst yes)) (lnL k ring)).1=0;rw[h1,h2,if_neg (by omega)];rfl
theorem netL_ids (t:Int):(netL k ring cst a5 c5 a6 c6).ids t=ringId:=by
 funext i
 show(if (0:Int)≤t∧t≤((0:Nat):Int)-1 then(0:Int) else 32768)*281474976710656+(10+(i:Int))=_;rw[if_neg (by omega)];unfold ringId;omega
theorem netL_live:(netL k ring cst a5 c5 a6 c6).live=yes:=by
 funext j
 show(true&&decide (strOf 50 regR.id=strOf 50 regR.id))=true;simp
theorem netL_ring (hk:3≤k) (hc:∀j,j<k→1≤cst j∧cst j≤200000) {i:Nat}(hi:i<k):(netL k true cst a5 c5 a6 c6).ends i=ringE k cst yes i:=by
 unfold Pl.Net.ends;rw[netL_live];show Pl.ends (Pl.lnk k cst yes) yes (lnL k true) i=_;rw[lnL_ring hk];exact Pl.ring_ends hk hc yes yes hi
end
theorem ten_ok {k:Nat}:∀j,j<k→1≤ten j∧ten j≤200000:=fun j _=>by unfold ten;omega
def tk1 (x:Int):Nat→Dn:=dsT 0 (fun _=>tickD x) x
theorem tk1_eq (x:Int) (i:Nat):tk1 x i=tickD x:=by unfold tk1 dsT;split<;>rfl
theorem tk1_all (s:Sc) (c:Cn) (x:Int):s.all c (tk1 x) 1=s.ticks c x.toNat:=all_ticks s c (fun _=>tickD x) 0 x
end
end Go.Proofs.YtflghpnpjmodaaaGreatDoor
