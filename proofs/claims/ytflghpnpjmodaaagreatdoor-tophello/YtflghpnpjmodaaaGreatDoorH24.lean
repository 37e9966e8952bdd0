/- Rows of bytes, and what package frame's functions come to: plain functions. -/
import Derived.Test.YtflghpnpjmodaaaGreatDoorH23
import Derived.Test.YtflghpnpjmodaaaGreatDoorH19
import Derived.Test.YtflghpnpjmodaaaGreatDoorH03
import Derived.Test.YtflghpnpjmodaaaGreatDoorH12
import Derived.Test.YtflghpnpjmodaaaGreatDoorH04
import Derived.Test.YtflghpnpjmodaaaGreatDoorH16
import Derived.Test.YtflghpnpjmodaaaGreatDoorH01
import Derived.Test.YtflghpnpjmodaaaGreatDoorH02
import Derived.ProofKit
import Derived.OpenShut
import Derived.ChangeOld
import Derived.SizedLaws
import Derived.Deep.DeepHandedRow
import Derived.Lib.LaidTab
import Derived.Stop.LaidErr
import Derived.Deep.SlicePairs
import Derived.Deep.Slices
set_option maxRecDepth 100000
set_option maxHeartbeats 40000000
namespace Go.Proofs.YtflghpnpjmodaaaGreatDoor
section
open Go.RowKit
open Vc (V Of)
open Pl (En Lk Br Net)
open Tk (Md Mnd Cn Sc Dn ixM ilist lst3 ilm)
def dnC (d:Dn) (j:Nat):Value:=if j=0 then .int .i64 d.kind else if j=1 then .int .i64 d.n else if j=2 then .int .i64 d.tree else .int .i64 d.value
abbrev DRow (w:World) (ao:Option Addr) (n cap:Nat) (ds:Nat→Dn):Prop:=CRow w ao n cap 4 (fun i=>dnC (ds i))
theorem DRow.cells {w:World}{b off n cap:Nat}{ds:Nat→Dn}(h:DRow w (some ⟨b,off,none⟩) n cap ds) {i:Nat}(hi:i<n) :
  w.cell? ⟨b,off+i*4,none⟩=some (.int .i64 (ds i).kind)∧w.cell? ⟨b,off+i*4+1,none⟩=some (.int .i64 (ds i).n)∧w.cell? ⟨b,off+i*4+2,none⟩=some (.int .i64 (ds i).tree)∧w.cell? ⟨b,off+i*4+3,none⟩=some (.int .i64 (ds i).value):=by
 obtain⟨b',off',e,_,hc⟩:=h.2 (by omega);cases e
 exact⟨hc i hi 0 (by omega),hc i hi 1 (by omega),hc i hi 2 (by omega),hc i hi 3 (by omega)⟩
def onErr (n:Net) (t:List Tr) (ds:Nat→Dn) (dn:Nat):Int×Int:=if (wrT n t dn).1≠0 then wrT n t dn else Tk.errTo n.cn ds dn
theorem wrT_zero {n:Net}{t:List Tr}{dn:Nat}(h:(wrT n t dn).1=0):wrT n t dn=(0,0)∧n.wrong.1=0∧fitT n t=true∧dn≤30:=by
 unfold wrT at h ⊢;by_cases q:n.wrong.1=0
 ·rw[if_neg (fun z=>z q)] at h ⊢;by_cases q2:fitT n t=false
  ·rw[if_pos q2] at h;cases h
  ·rw[if_neg q2] at h ⊢;by_cases q3:30<dn
   ·rw[if_pos q3] at h;cases h
   ·rw[if_neg q3];exact⟨rfl,q,by simpa using q2,by omega⟩
 ·rw[if_pos q] at h;exact absurd h q
theorem sizeTk:(Tryz.prog.info? 43).map (·.size)=some 1:=by kernel_rfl
theorem sizeNt:(Tryz.prog.info? 32).map (·.size)=some 2:=by kernel_rfl
def OnW (w:World) (n:Net) (t:List Tr) (ms:Nat→Nat→Mnd) (ds:Nat→Dn) (dn:Nat) (e:Ending) (w':World):Prop :=
 Bl w w'∧(((onErr n t ds dn).1≠0∧e=.returned (.tuple #[.agg #[.slice none 0 0,.slice none 0 0],.agg #[.slice none 0 0],.agg #[.int .i64 (onErr n t ds dn).1,.int .i64 (onErr n t ds dn).2]])) ∨
  ((onErr n t ds dn).1=0∧∃(n':Net) (oao:Option Addr) (ocap:Nat) (t':List Tr),e=.returned (.tuple #[n'.val,.agg #[.slice oao t'.length ocap],.agg #[.int .i64 0,.int .i64 0]])∧∃b,w.heap.size≤b∧Kept w' b (fun V=>SnOut V n t.length ((n.sc ms).all n.cn ds dn) n' oao ocap t')))
theorem low_below {w w' W0 V:World}{b:Nat}(h1:Bl w w') (h2:Below b W0 w') (h3:Below b W0 V) (hb:w.heap.size≤b) (hb2:b≤W0.heap.size):Bl w V :=
 ⟨(h3.os.trans h2.os.symm).trans h1.os,(h3.tape.trans h2.tape.symm).trans h1.tape,(h3.output.trans h2.output.symm).trans h1.output,by have:=h3.size;omega,fun q hq=>((h3.block q (by omega)).trans (h2.block q (by omega)).symm).trans (h1.block q hq)⟩
theorem ton_any (n:Net) (oao:Option Addr) (ocap:Nat) (t:List Tr) (ms:Nat→Nat→Mnd) (dao:Option Addr) (dn dcap:Nat) (ds:Nat→Dn) (w:World) (hwf:n.Wf) (hat:n.at' w) (htr:TrRow w oao ocap t) (hdn:dn≤9223372036854775807) (hds:DRow w dao dn dcap ds) (hc:CalmT t) (hm:∀k,k<t.length→∀i,i<n.K→ms k i=msT t k i) (htb:Tabs w) (hbt:2≤w.heap.size) :
  Calls Tryz.prog 29 #[n.val,.agg #[.slice oao t.length ocap],.slice dao dn dcap] w fun e w'=>OnW w n t ms ds dn e w':=by
 obtain⟨X2,HX2⟩:∃X2,Hid (X2=(w.alloc (.cells #[.slice n.bao n.K n.bcap,.slice n.lao n.L n.lcap] 32)).alloc (.cells #[.slice oao t.length ocap] 43)):=⟨_,rfl⟩
 obtain⟨X,HX⟩:∃X,Hid (X=((X2.alloc (.cells #[.slice none 0 0,.slice none 0 0] 32)).alloc (.cells #[.slice none 0 0] 43)).alloc (.cells #[.int .i64 0,.int .i64 0] 26)):=⟨_,rfl⟩
 have b1:Bl w X2:=(by rw[HX2.out];exact bA2 _ _ _)
 have s1:X2.heap.size=w.heap.size+1+1:=(by rw[HX2.out];simp)
 have b2:Bl X2 X:=(by rw[HX.out];exact((bA2 _ _ _).alloc (by simp;omega) _))
 have s2:X.heap.size=X2.heap.size+1+1+1:=(by rw[HX.out];simp)
 have hXB:Bl w X:=b1.trans (b2.mono b1.size);have g0:X.heap[w.heap.size]?=some (.cells #[.slice n.bao n.K n.bcap,.slice n.lao n.L n.lcap] 32):=keep (by rw[HX2.out];exact heap_alloc2_old _ _ _) b2;have g1:X.heap[w.heap.size+1]?=some (.cells #[.slice oao t.length ocap] 43):=keep (by rw[HX2.out];exact heap_alloc2_new _ _ _) b2;have g2:X.heap[w.heap.size+1+1]?=some (.cells #[.slice none 0 0,.slice none 0 0] 32):=by
  rw[HX.out,←s1];exact keep (heap_alloc2_old _ _ _) (bA1 _ _)
 have g3:X.heap[w.heap.size+1+1+1]?=some (.cells #[.slice none 0 0] 43):=by
  rw[HX.out,←s1];exact keep (heap_alloc2_new _ _ _) (bA1 _ _)
 have g4:X.heap[w.heap.size+1+1+1+1]?=some (.cells #[.int .i64 0,.int .i64 0] 26):=by
  have:w.heap.size+1+1+1+1=((X2.alloc (.cells #[.slice none 0 0,.slice none 0 0] 32)).alloc (.cells #[.slice none 0 0] 43)).heap.size:=by simp[s1]
  rw[HX.out,this];exact heap_alloc_last _ _
 obtain⟨BN,HBN⟩:∃BN,Hid (BN=w.heap.size):=⟨_,rfl⟩
 obtain⟨BT,HBT⟩:∃BT,Hid (BT=w.heap.size+1):=⟨_,rfl⟩
 obtain⟨RN,HRN⟩:∃RN,Hid (RN=w.heap.size+1+1):=⟨_,rfl⟩
 obtain⟨RT,HRT⟩:∃RT,Hid (RT=w.heap.size+1+1+1):=⟨_,rfl⟩
 obtain⟨RF,HRF⟩:∃RF,Hid (RF=w.heap.size+1+1+1+1):=⟨_,rfl⟩
 rw[←HBN.out] at g0;rw[←HBT.out] at g1;rw[←HRN.out] at g2;rw[←HRT.out] at g3;rw[←HRF.out] at g4;have ne1:RN≠RT:=(by have:=HRN.out;have:=HRT.out;omega)
 have ne2:RN≠RF:=(by have:=HRN.out;have:=HRF.out;omega)
 have ne3:RT≠RF:=(by have:=HRT.out;have:=HRF.out;omega)
 have le1:w.heap.size≤RN:=(by have:=HRN.out;omega)
 have le2:w.heap.size≤RT:=(by have:=HRT.out;omega)
 have le3:w.heap.size≤RF:=(by have:=HRF.out;omega)
 have lt1:RN<X.heap.size:=(by have:=HRN.out;omega)
 have lt2:RT<X.heap.size:=(by have:=HRT.out;omega)
 have lt3:RF<X.heap.size:=(by have:=HRF.out;omega)
 have HC:Hid (∀V,Bl X V→(V.cell? ⟨BN,0,none⟩=some (.slice n.bao n.K n.bcap)∧V.cell? ⟨BN,1,none⟩=some (.slice n.lao n.L n.lcap))∧V.cell? ⟨BT,0,none⟩=some (.slice oao t.length ocap)∧(V.cell? ⟨RN,0,none⟩=some (.slice none 0 0)∧V.cell? ⟨RN,1,none⟩=some (.slice none 0 0))∧V.cell? ⟨RT,0,none⟩=some (.slice none 0 0)∧(V.cell? ⟨RF,0,none⟩=some (.int .i64 0)∧V.cell? ⟨RF,1,none⟩=some (.int .i64 0))∧(V.frozen? ⟨RN,0,none⟩=false∧V.frozen? ⟨RN,1,none⟩=false)∧V.frozen? ⟨RT,0,none⟩=false∧V.frozen? ⟨RF,0,none⟩=false∧V.frozen? ⟨RF,1,none⟩=false):=fun V hV =>
  ⟨tC2 (keep g0 hV),one_cell (keep g1 hV),tC2 (keep g2 hV),one_cell (keep g3 hV),tC2 (keep g4 hV),⟨frozen_of_row _ _ _ _ _ (keep g2 hV),frozen_of_row _ _ _ _ _ (keep g2 hV)⟩,frozen_of_row _ _ _ _ _ (keep g3 hV),frozen_of_row _ _ _ _ _ (keep g4 hV),frozen_of_row _ _ _ _ _ (keep g4 hV)⟩
 have HH:Hid (∀V,Bl X V→V.heap[RN]?=some (.cells #[.slice none 0 0,.slice none 0 0] 32)∧V.heap[RT]?=some (.cells #[.slice none 0 0] 43)∧V.heap[RF]?=some (.cells #[.int .i64 0,.int .i64 0] 26)∧Bl w V):=fun V hV=>⟨keep g2 hV,keep g3 hV,keep g4 hV,hXB.trans (hV.mono hXB.size)⟩
 have HWR:Hid (Calls Tryz.prog 56 #[.agg #[.slice n.bao n.K n.bcap,.slice n.lao n.L n.lcap],.agg #[.slice oao t.length ocap],.slice dao dn dcap] X fun e w'=>e=.returned (.agg #[.int .i64 (wrT n t dn).1,.int .i64 (wrT n t dn).2])∧Hid (Bl X w')):=(twrong_any n oao ocap t dao dn dcap X hwf (hat.below hXB) (htr.below hXB) hdn).mono (fun e w' h=>⟨h.1,h.2⟩);have HNS:Hid ((wrT n t dn).1=0→∀V,Bl X V→Calls Tryz.prog 57 #[.agg #[.slice n.bao n.K n.bcap,.slice n.lao n.L n.lcap],.agg #[.slice oao t.length ocap]] V fun e w'=>NewW V n t.length ms e w'):=fun h0 V hV=>by
  obtain⟨_,z1,z2,_⟩:=wrT_zero h0;have hV2:=hXB.trans (hV.mono hXB.size);obtain⟨f1,_⟩:=fit_iff.1 z2;exact tnewscene_any n t.length ms oao ocap (vtT t) (ivT t) V (right_of hwf z1) f1.2 (hat.below hV2) (fit_at (htr.below hV2) z2 (right_of hwf z1).few hm) (fit_ok hwf z1 z2 hc hm) (htb.below hV2 hbt) (Nat.le_trans hbt hV2.size)
 have HDS:Hid (∀V,Bl X V→DRow V dao dn dcap ds):=fun V hV=>CRow.below hds (hXB.trans (hV.mono hXB.size));have HWF:Hid n.Wf:=hwf;have HWX:Hid (w.heap.size≤X.heap.size):=hXB.size;have hcap:=hds.1;clear hwf hat htr hds hc hm htb hbt b1 b2 s1 s2 hXB g0 g1 g2 g3 g4;simp only[Pl.Net.val];go_enter Tryz.func29,Tryz.ntmps29;obtain⟨⟨x0,x1⟩,x2,_⟩:=HC.out X (Below.refl _ _);rw[HX.out,HX2.out,HBN.out] at x0 x1;rw[HX.out,HX2.out,HBT.out] at x2;(go_wp2_with fail);rw[←HX2.out,←HX.out,←HRF.out,←HRT.out,←HRN.out,←HBT.out,←HBN.out];refine HWR.out.mono ?_;rintro e w1 ⟨rfl,H1⟩;clear x0 x1 x2 HWR;obtain⟨V1,HV1⟩:∃V1,Hid (V1=w1.alloc (.cells #[.int .i64 (wrT n t dn).1,.int .i64 (wrT n t dn).2] 26)):=⟨_,rfl⟩
 have hV1:Bl X V1:=(by rw[HV1.out];exact H1.out.alloc H1.out.size _)
 have f0:V1.cell? ⟨w1.heap.size,0,none⟩=some (.int .i64 (wrT n t dn).1)∧V1.cell? ⟨w1.heap.size,1,none⟩=some (.int .i64 (wrT n t dn).2):=tC2 (by rw[HV1.out];exact heap_alloc_last _ _);obtain⟨f0,f1⟩:=f0;obtain⟨⟨p0,p1⟩,p2,⟨p3,p4⟩,p5,⟨p6,p7⟩,⟨q0,q1⟩,q2,q3,q4⟩:=HC.out V1 hV1;have y0:=f0;rw[HV1.out] at y0;by_cases q:(wrT n t dn).1=0
 ·have HE:Hid (onErr n t ds dn=Tk.errTo n.cn ds dn):=if_neg (fun z=>z q);obtain⟨z0,hw0,hfit,hfew⟩:=wrT_zero q;have HN0:Hid (n.wrong.1=0):=hw0;have HNV:Hid (Calls Tryz.prog 57 #[.agg #[.slice n.bao n.K n.bcap,.slice n.lao n.L n.lcap],.agg #[.slice oao t.length ocap]] V1 fun e w'=>NewW V1 n t.length ms e w'):=HNS.out q V1 hV1;have r0:=p0;have r1:=p1;have r2:=p2;rw[HV1.out] at r0 r1 r2;clear hw0 hfit f0 f1 p0 p1 p2 p3 p4 p5 p6 p7 q0 q1 q2 q3 q4 HNS z0;generalize (wrT n t dn).1=r5 at *;generalize (wrT n t dn).2=r6 at *;subst q;(go_wp2_with fail);rw[←HV1.out];refine HNV.out.mono ?_;rintro e w2 ⟨S,F,M,G,ve,rfl,hSc,hF,hb,hB2⟩;have HSW:Hid (∀V,Below F.base F.W0 V→Bl X V):=fun V hV=>hV1.trans ((low_below hB2 hSc.at'.low hV hb (Nat.le_refl _)).mono hV1.size);have HFB:Hid (X.heap.size≤F.base):=Nat.le_trans hV1.size hb;have HFC:Hid (F.c=n.cn∧F.T=t.length∧F.pts=n.pts∧F.rg=fun i=>(n.bs i).reg):=hF;have HST:Hid (∃M G ve,ScOk w2 S F ((n.sc ms).all n.cn ds 0) M G ve):=⟨M,G,ve,hSc⟩
  clear hSc hF hb hB2 hV1 y0 r0 r1 r2 HNV;(go_wp2_with fail);go_loopw [29] (fun i wr=>∃k:Nat,k≤dn∧i=.int .i64 k∧Hid (∀j,j<k→Tk.errOf n.cn (ds j)=0)∧Hid (∃M G ve,ScOk wr S F ((n.sc ms).all n.cn ds k) M G ve)) (fun i _=>dn-(intOf i).toNat)
  case atStart=>exact⟨0,by omega,rfl,(fun j hj=>absurd hj (by omega)),HST⟩
  case round =>
   obtain⟨k,hk,rfl,hZ,hS⟩:=hrel;obtain⟨M,G,ve,hSc⟩:=hS.out;have hXr:=HSW.out wr hSc.at'.low;clear HST;by_cases hlt:k<dn
   ·have hrow:=HDS.out wr hXr;obtain⟨b,off,rfl,_⟩:=CRow.some hrow (by omega);obtain⟨c0,c1,c2,c3⟩:=DRow.cells hrow hlt;have ik:(0:Int)≤(k:Int):=(by omega)
    have nk:(k:Int)<(dn:Int):=(by omega)
    have HDO:Hid (Calls Tryz.prog 58 #[.pointer (some ⟨S,0,none⟩),.agg #[.int .i64 (ds k).kind,.int .i64 (ds k).n,.int .i64 (ds k).tree,.int .i64 (ds k).value]] (wr.alloc (.cells #[.int .i64 (ds k).kind,.int .i64 (ds k).n,.int .i64 (ds k).tree,.int .i64 (ds k).value] 47)) fun e w'=>∃z,e=.returned (.int .i64 z)∧Hid (z=Tk.errOf n.cn (ds k)∧Bl X w'∧(z=0→∃M G ve,ScOk w' S F ((n.sc ms).all n.cn ds (k+1)) M G ve))):=by
     refine(tdo_any _ S F ((n.sc ms).all n.cn ds k) M G ve (ds k) (hSc.below (bA1 _ _))).mono ?_;rintro e w' ⟨rfl,h1,h2⟩;rw[HFC.out.1] at h2;refine⟨_,rfl,by rw[HFC.out.1],HSW.out _ h1,fun z => ?_⟩;rw[HFC.out.1] at z;exact h2 z
    have HK0:Hid (∀z:Int,z=Tk.errOf n.cn (ds k)→z=0→∀j,j<k+1→Tk.errOf n.cn (ds j)=0):=fun z hz h0 j hj=>by
     by_cases e:j=k
     ·subst e;rw[←hz];exact h0
     ·exact hZ.out j (by omega)
    have HK1:Hid (∀z:Int,z=Tk.errOf n.cn (ds k)→z≠0→onErr n t ds dn=(z,(k:Int))):=fun z hz h0=>by
     rw[HE.out,hz];exact Pl.firstTo_here _ k hZ.out (by rw[←hz];exact h0) dn hlt
    clear hSc hS hZ hrow HFC HSW HDS;generalize ds k=d at *;(go_wp2_with fail);refine HDO.out.mono ?_;rintro e w3 ⟨z,rfl,H3⟩;clear HDO c0 c1 c2 c3;by_cases hz:z=0
    ·have HK2:Hid (∀j,j<k+1→Tk.errOf n.cn (ds j)=0):=HK0.out z H3.out.1 hz;have HK3:Hid (∃M G ve,ScOk w3 S F ((n.sc ms).all n.cn ds (k+1)) M G ve):=H3.out.2.2 hz;subst hz;clear HK0 HK1 H3;(go_wp2_with fail);exact⟨⟨k+1,by omega,by go_num,HK2,HK3⟩,by simp[intOf];omega⟩
    ·have HK2:Hid (onErr n t ds dn=(z,(k:Int))):=HK1.out z H3.out.1 hz;have hz1:(z != 0)=true:=(by simpa using hz)
     obtain⟨_,_,⟨p3,p4⟩,p5,⟨p6,p7⟩,⟨q0,q1⟩,q2,q3,q4⟩:=HC.out w3 H3.out.2.1;clear HK0 HK1;(go_wp2_with fail);refine bodyPost_ret (v:=.tuple #[.agg #[.slice none 0 0,.slice none 0 0],.agg #[.slice none 0 0],.agg #[.int .i64 z,.int .i64 (k:Int)]]) (results_row3 Tryz.results29 _ _ RN RT RF 32 43 26 #[.slice none 0 0,.slice none 0 0] #[.slice none 0 0] #[.int .i64 z,.int .i64 (k:Int)] (0,0) (0,0) (0,0) _ _ _ rfl rfl rfl ?h1 ?h2 ?h3 Tryz.underlying32 Tryz.underlying43 Tryz.underlying26 rfl rfl rfl ?i1 ?i2 ?i3) rfl ?post
     case h1=>repeat(first | (with_reducible refine drew_keep ?_) | (with_reducible exact(HH.out _ H3.out.2.1).1) | (with_reducible refine set2_same (a0:=Value.slice none 0 0) (a1:=Value.slice none 0 0) ?_) | (with_reducible refine set_keep ?_ ne1) | (with_reducible refine set_keep ?_ ne2))
     case h2=>repeat(first | (with_reducible refine drew_keep ?_) | (with_reducible exact(HH.out _ H3.out.2.1).2.1) | (with_reducible refine set1_same (a0:=Value.slice none 0 0) ?_) | (with_reducible refine set_keep ?_ ne1.symm) | (with_reducible refine set_keep ?_ ne3))
     case h3=>repeat(first | (with_reducible refine drew_keep ?_) | (with_reducible exact(HH.out _ H3.out.2.1).2.2.1) | (with_reducible refine set2_same (a0:=Value.int .i64 0) (a1:=Value.int .i64 0) ?_) | (with_reducible refine set_keep ?_ ne2.symm) | (with_reducible refine set_keep ?_ ne3.symm))
     case i1=>rw[sizeNt];try rfl
     case i2=>rw[sizeTk];try rfl
     case i3=>rw[sizeFt];try rfl
     case post =>
      refine⟨?_,Or.inl ⟨by rw[HK2.out];exact hz,by rw[HK2.out]⟩⟩;repeat(first | (with_reducible refine Below.drew ?_) | (with_reducible exact(HH.out _ H3.out.2.1).2.2.2) | (with_reducible refine Below.setCell ?_ le1 _) | (with_reducible refine Below.setCell ?_ le2 _) | (with_reducible refine Below.setCell ?_ le3 _))
   ·obtain rfl:k=dn:=by omega
    have hA:=hSc.at';obtain⟨bao,bcap,eb,_,_,_⟩:=owns_c (by omega) hA.brs;obtain⟨lao,lcap,el,_,_,_⟩:=owns_c (by omega) hA.lks;obtain⟨oa,oc,eo,_,_,_⟩:=owns_c (by omega) hA.out;obtain⟨s0,s1,s2,_,_⟩:=hA.cells;rw[eb] at s0;rw[el] at s1;rw[eo] at s2;have HFIN:Hid (∀V,(∀q,F.base≤q→V.heap[q]?=wr.heap[q]?)→V.heap.size=wr.heap.size→Bl w V→OnW w n t ms ds k (.returned (.tuple #[.agg #[.slice bao F.c.K bcap,.slice lao F.c.L lcap],.agg #[.slice oa F.T oc],.agg #[.int .i64 0,.int .i64 0]])) V):=fun V h1 hs h2=>by
     obtain⟨n',oao',ocap',t',⟨e1,e2,e3⟩,h3⟩:=scene_out hSc HWF.out HN0.out HFC.out;refine⟨h2,Or.inr ⟨?_,n',oao',ocap',t',?_,F.base,Nat.le_trans HWX.out HFB.out,fun V2 hV2=>h3 V2 (fun q q1 q2=>(hV2 q q1 (by rw[hs];exact q2)).trans (h1 q q1))⟩⟩
     ·rw[HE.out];exact(congrArg Prod.fst (Pl.firstTo_all _ _ hZ.out))
     ·rw[←eb,←el,←eo,e1,e2,e3];rfl
    have lo1:RN<F.base:=Nat.lt_of_lt_of_le lt1 HFB.out;have lo2:RT<F.base:=Nat.lt_of_lt_of_le lt2 HFB.out;have lo3:RF<F.base:=Nat.lt_of_lt_of_le lt3 HFB.out;have HXR:Hid (Bl X wr):=hXr;obtain⟨_,_,⟨p3,p4⟩,p5,⟨p6,p7⟩,⟨q0,q1⟩,q2,q3,q4⟩:=HC.out wr hXr;clear hSc hS hZ hA eb el eo hXr HFC HSW HDS HE HC;(go_wp2_with fail);go_region
    (all_goals go_wp2_with fail);all_goals
     refine bodyPost_ret (v:=.tuple #[.agg #[.slice bao F.c.K bcap,.slice lao F.c.L lcap],.agg #[.slice oa F.T oc],.agg #[.int .i64 0,.int .i64 0]]) (results_row3 Tryz.results29 _ _ RN RT RF 32 43 26 #[.slice bao F.c.K bcap,.slice lao F.c.L lcap] #[.slice oa F.T oc] #[.int .i64 0,.int .i64 0] (0,0) (0,0) (0,0) _ _ _ rfl rfl rfl ?h1 ?h2 ?h3 Tryz.underlying32 Tryz.underlying43 Tryz.underlying26 rfl rfl rfl ?i1 ?i2 ?i3) rfl ?post
     case h1=>repeat(first | (with_reducible refine drew_keep ?_) | (with_reducible exact(HH.out _ HXR.out).1) | (with_reducible exact(HH.out _ (below_drewN HXR.out _)).1) | (with_reducible exact(HH.out _ (Below.drew HXR.out)).1) | (with_reducible refine set2_same (a0:=Value.slice none 0 0) (a1:=Value.slice none 0 0) ?_) | (with_reducible refine set_keep ?_ ne1) | (with_reducible refine set_keep ?_ ne2))
     case h2=>repeat(first | (with_reducible refine drew_keep ?_) | (with_reducible exact(HH.out _ HXR.out).2.1) | (with_reducible exact(HH.out _ (below_drewN HXR.out _)).2.1) | (with_reducible exact(HH.out _ (Below.drew HXR.out)).2.1) | (with_reducible refine set1_same (a0:=Value.slice none 0 0) ?_) | (with_reducible refine set_keep ?_ ne1.symm) | (with_reducible refine set_keep ?_ ne3))
     case h3=>repeat(first | (with_reducible refine drew_keep ?_) | (with_reducible exact(HH.out _ HXR.out).2.2.1) | (with_reducible exact(HH.out _ (below_drewN HXR.out _)).2.2.1) | (with_reducible exact(HH.out _ (Below.drew HXR.out)).2.2.1) | (with_reducible refine set2_same (a0:=Value.int .i64 0) (a1:=Value.int .i64 0) ?_) | (with_reducible refine set_keep ?_ ne2.symm) | (with_reducible refine set_keep ?_ ne3.symm))
     case i1=>rw[sizeNt];try rfl
     case i2=>rw[sizeTk];try rfl
     case i3=>rw[sizeFt];try rfl
     case post =>
      refine HFIN.out _ ?_ ?_ ?_
      ·repeat(first | (with_reducible refine out_drew ?_) | (with_reducible refine out_set ?_ lo1) | (with_reducible refine out_set ?_ lo2) | (with_reducible refine out_set ?_ lo3) | (exact(fun _ _=>rfl)))
      ·simp
      ·repeat(first | (with_reducible refine Below.drew ?_) | (with_reducible exact(HH.out _ HXR.out).2.2.2) | (with_reducible exact(HH.out _ (below_drewN HXR.out _)).2.2.2) | (with_reducible exact(HH.out _ (Below.drew HXR.out)).2.2.2) | (with_reducible refine Below.setCell ?_ le1 _) | (with_reducible refine Below.setCell ?_ le2 _) | (with_reducible refine Below.setCell ?_ le3 _))
 ·have HE:Hid ((onErr n t ds dn).1=(wrT n t dn).1∧(onErr n t ds dn).2=(wrT n t dn).2):=by
   have:onErr n t ds dn=wrT n t dn:=if_pos q;exact⟨by rw[this],by rw[this]⟩
  have q1':((wrT n t dn).1 != 0)=true:=(by simpa using q)
  have HV1B:Hid (Bl X V1):=hV1;have HNE:Hid ((wrT n t dn).1≠0):=q;have d1:RN≠w1.heap.size:=(by have:=H1.out.size;omega)
  have d2:RT≠w1.heap.size:=(by have:=H1.out.size;omega)
  have d3:RF≠w1.heap.size:=(by have:=H1.out.size;omega)
  have d4:=d1.symm;have d5:=d2.symm;have d6:=d3.symm;clear p0 p1 p2 hV1 HNS HDS HWF HC;generalize (wrT n t dn).1=E1 at *;generalize (wrT n t dn).2=E2 at *;(go_wp2_with fail);rw[←HV1.out];go_region
  (all_goals go_wp2_with fail);all_goals
   refine bodyPost_ret (v:=.tuple #[.agg #[.slice none 0 0,.slice none 0 0],.agg #[.slice none 0 0],.agg #[.int .i64 E1,.int .i64 E2]]) (results_row3 Tryz.results29 _ _ RN RT RF 32 43 26 #[.slice none 0 0,.slice none 0 0] #[.slice none 0 0] #[.int .i64 E1,.int .i64 E2] (0,0) (0,0) (0,0) _ _ _ rfl rfl rfl ?h1 ?h2 ?h3 Tryz.underlying32 Tryz.underlying43 Tryz.underlying26 rfl rfl rfl ?i1 ?i2 ?i3) rfl ?post
   case h1=>repeat(first | (with_reducible refine drew_keep ?_) | (with_reducible exact(HH.out _ HV1B.out).1) | (with_reducible exact(HH.out _ (below_drewN HV1B.out _)).1) | (with_reducible exact(HH.out _ (Below.drew HV1B.out)).1) | (with_reducible refine set2_same (a0:=Value.slice none 0 0) (a1:=Value.slice none 0 0) ?_) | (with_reducible refine set_keep ?_ ne1) | (with_reducible refine set_keep ?_ ne2))
   case h2=>repeat(first | (with_reducible refine drew_keep ?_) | (with_reducible exact(HH.out _ HV1B.out).2.1) | (with_reducible exact(HH.out _ (below_drewN HV1B.out _)).2.1) | (with_reducible exact(HH.out _ (Below.drew HV1B.out)).2.1) | (with_reducible refine set1_same (a0:=Value.slice none 0 0) ?_) | (with_reducible refine set_keep ?_ ne1.symm) | (with_reducible refine set_keep ?_ ne3))
   case h3=>repeat(first | (with_reducible refine drew_keep ?_) | (with_reducible exact(HH.out _ HV1B.out).2.2.1) | (with_reducible exact(HH.out _ (below_drewN HV1B.out _)).2.2.1) | (with_reducible exact(HH.out _ (Below.drew HV1B.out)).2.2.1) | (with_reducible refine set2_same (a0:=Value.int .i64 0) (a1:=Value.int .i64 0) ?_) | (with_reducible refine set_keep ?_ ne2.symm) | (with_reducible refine set_keep ?_ ne3.symm))
   case i1=>rw[sizeNt];try rfl
   case i2=>rw[sizeTk];try rfl
   case i3=>rw[sizeFt];try rfl
   case post =>
    refine⟨?_,Or.inl ⟨by rw[HE.out.1];exact HNE.out,by rw[HE.out.1,HE.out.2]⟩⟩;repeat(first | (with_reducible refine Below.drew ?_) | (with_reducible exact(HH.out _ HV1B.out).2.2.2) | (with_reducible exact(HH.out _ (below_drewN HV1B.out _)).2.2.2) | (with_reducible exact(HH.out _ (Below.drew HV1B.out)).2.2.2) | (with_reducible refine Below.setCell ?_ le1 _) | (with_reducible refine Below.setCell ?_ le2 _) | (with_reducible refine Below.setCell ?_ le3 _))
end
section
open Go.ChangeShapes Go.WideShapes Go.ChangeAt Go.RowKit
theorem gTurns:Tryz.prog.globalNamed "hedgerow/md5.turns" = some 1:=by kernel_rfl
theorem gTurnsType:(Tryz.prog.globals[1]?).map (·.type)=some 279:=by kernel_rfl
theorem gAdds:Tryz.prog.globalNamed "hedgerow/md5.addends" = some 0:=by kernel_rfl
theorem gAddsType:(Tryz.prog.globals[0]?).map (·.type)=some 274:=by kernel_rfl
theorem cells52:Tryz.prog.cellsOf 274=64:=by kernel_rfl
theorem cells55:Tryz.prog.cellsOf 278=4:=by kernel_rfl
theorem cells32:Tryz.prog.cellsOf 168=1:=by kernel_rfl
theorem cells3:Tryz.prog.cellsOf 3=1:=by kernel_rfl
theorem tabs_of {W:World}(h:laidMetH Tryz.prog [("hedgerow/md5.turns",Rows.laid_hedgerow_md5_turns),("hedgerow/md5.addends",Rows.laid_hedgerow_md5_addends)] W):Tabs W:=by
 have h':laidMet Tryz.prog [("hedgerow/md5.turns",Rows.laid_hedgerow_md5_turns),("hedgerow/md5.addends",Rows.laid_hedgerow_md5_addends)] W:=h;refine⟨fun i hi => ?_,fun i hi => ?_⟩
 ·have ht:laidMet Tryz.prog [("hedgerow/md5.addends",Lib.tabData .u32 Md.tab)] W:=laidMet.tail h';have:=Lib.tabIs_of_head (rest:=[]) gAdds gAddsType Tryz.underlying274 Tryz.underlying168 cells32 cells52 ht;exact this.cell gAdds i hi
 ·obtain⟨ps,⟨g',t',cs,fuel,p,q,hg',ht',hvar,hd,_,_⟩,_⟩:=h';obtain rfl:=Option.some.inj (gTurns.symm.trans hg');obtain rfl:=Option.some.inj (gTurnsType.symm.trans ht');obtain⟨xs,m,rfl,hx,hl,hxl,hall⟩:=DataW.trod_array Tryz.underlying279 hd;have hx1:xs.map (·.1)=[Lib.tabData .i64 [7,12,17,22],Lib.tabData .i64 [5,9,14,20],Lib.tabData .i64 [4,11,16,23],Lib.tabData .i64 [6,10,15,21]]:=by
   have:=congrArg Prod.fst hx;simp only[Rows.laid_hedgerow_md5_turns] at this;exact(DataW.agg.inj this).symm
  have row:∀r zs,r<4→(xs.map (·.1))[r]?=some (Lib.tabData .i64 zs)→(cs.toList.drop (r*4)).take 4=zs.map fun z=>Value.int .i64 z:=by
   intro r zs hr hz;have h1:=hall r hr;rw[cells55] at h1;simp only[List.getElem?_map,Option.map_eq_some_iff] at hz;obtain⟨y,hy,hy1⟩:=hz;rw[hy] at h1;obtain⟨y1,y2⟩:=y;simp only at hy1;subst hy1;exact Lib.cells_of_tab Tryz.underlying278 Tryz.underlying3 cells3 cells55 h1
  have cell:=World.var?_cell gTurns hvar i;rw[cell];have hget:∀r j,j<4→cs[r*4+j]?=((cs.toList.drop (r*4)).take 4)[j]?:=by
   intro r j hj;rw[List.getElem?_take_of_lt hj,List.getElem?_drop,Array.getElem?_toList]
  rcases(show(∃j,j<4∧i=0*4+j)∨(∃j,j<4∧i=1*4+j)∨(∃j,j<4∧i=2*4+j)∨(∃j,j<4∧i=3*4+j) from by
   by_cases h1:i<4
   ·exact Or.inl ⟨i,h1,by omega⟩
   ·by_cases h2:i<8
    ·exact Or.inr (Or.inl ⟨i-4,by omega,by omega⟩)
    ·by_cases h3:i<12
     ·exact Or.inr (Or.inr (Or.inl ⟨i-8,by omega,by omega⟩))
     ·exact Or.inr (Or.inr (Or.inr ⟨i-12,by omega,by omega⟩))) with⟨j,hj,rfl⟩ | ⟨j,hj,rfl⟩ | ⟨j,hj,rfl⟩ | ⟨j,hj,rfl⟩
  ·rw[hget 0 j hj,row 0 [7,12,17,22] (by omega) (by rw[hx1];rfl)];rcases(show j=0∨j=1∨j=2∨j=3 by omega) with rfl | rfl | rfl | rfl<;>rfl
  ·rw[hget 1 j hj,row 1 [5,9,14,20] (by omega) (by rw[hx1];rfl)];rcases(show j=0∨j=1∨j=2∨j=3 by omega) with rfl | rfl | rfl | rfl<;>rfl
  ·rw[hget 2 j hj,row 2 [4,11,16,23] (by omega) (by rw[hx1];rfl)];rcases(show j=0∨j=1∨j=2∨j=3 by omega) with rfl | rfl | rfl | rfl<;>rfl
  ·rw[hget 3 j hj,row 3 [6,10,15,21] (by omega) (by rw[hx1];rfl)];rcases(show j=0∨j=1∨j=2∨j=3 by omega) with rfl | rfl | rfl | rfl<;>rfl
def rowPut (cs:Array Value):Obj→Obj
 | .cells _ t frozen=>.cells cs t frozen
 | o=>o
def laidW (w:World):World :=
 { w with heap:=(w.heap.modify 0 (rowPut (Md.tab.map (Value.int .u32)).toArray)).modify 1 (rowPut (Md.trn.map (Value.int .i64)).toArray) }
theorem cellsWay:Tryz.prog.cellsOf 92=2:=by kernel_rfl
theorem cellsInt:Tryz.prog.cellsOf 3=1:=by kernel_rfl
theorem ways_cell {H:Type}{enc:TypeId×Value→H}{W:World}{v:Value}{fuel:Nat}{x:DataW H×List MemPlace}
  (hf:DataW.trod enc Tryz.prog W 0 (fun _=>true) true fuel 54 [v]=some x) :
  ∃ao n cap vs ts,v=.slice ao n cap∧WayRow W ao n cap vs ts∧n≤9223372036854775807:=by
 rcases Deep.open_slice_pairs Tryz.underlying54 Tryz.underlying92 cellsWay rfl rfl cellsInt cellsInt hf with⟨hcs,_⟩ | ⟨a,len,cap,m,k,V0,V1,D0,D1,P0,P1,hcs,_,hl,hm,hmm,_,hx⟩
 ·simp at hcs;subst hcs;exact⟨none,0,0,fun _=>0,fun _=>0,rfl,⟨Nat.le_refl _,fun h=>absurd h (by omega)⟩,by omega⟩
 ·simp at hcs;subst hcs;rw[if_pos rfl] at hmm;have each:∀i,i<len→∃q:Int×Int,V0 i=.int .i64 q.1∧V1 i=.int .i64 q.2:=by
   intro i hi;obtain⟨_,_,t0,t1⟩:=hx i (by omega);obtain⟨y0,e0,_,_⟩:=DataW.trod_int Tryz.underlying3 t0;obtain⟨y1,e1,_,_⟩:=DataW.trod_int Tryz.underlying3 t1;exact⟨(y0,y1),one_of e0,one_of e1⟩
  obtain⟨q,hq⟩:=Deep.choose_lt each;refine⟨some a,len,cap,fun i=>(q i).1,fun i=>(q i).2,rfl,⟨hl,fun hp => ?_⟩,by unfold maxLen at hm;omega⟩;obtain⟨b,off,spot⟩:=a;have hspot:spot=none:=by
   have h0:=(hx 0 (by omega)).1;simpa[Addr.add] using World.cell?_spot h0
  subst hspot;have hc:∀i,i<len→W.cell? ⟨b,off+i*2,none⟩=some (.int .i64 (q i).1)∧W.cell? ⟨b,off+i*2+1,none⟩=some (.int .i64 (q i).2):=by
   intro i hi;obtain⟨c0,c1,_,_⟩:=hx i (by omega);rw[add_row,(hq i hi).1] at c0;rw[add_row,(hq i hi).2] at c1;exact⟨c0,c1⟩
  exact⟨b,off,rfl,block_lt_of_cell (hc 0 hp).1,hc⟩
end
section
open Go.ChangeShapes Go.WideShapes Go.ChangeAt Go.RowKit
open Pl (Br Net Pc Lk En St)
theorem cellsNt:Tryz.prog.cellsOf 32=2:=by kernel_rfl
theorem cellsBg:Tryz.prog.cellsOf 58=5:=by kernel_rfl
theorem cellsLk:Tryz.prog.cellsOf 83=6:=by kernel_rfl
theorem bytesLk:Tryz.prog.bytesOf 83=48:=by kernel_rfl
theorem plist2 {α:Type}{l:List α}(h:l.length=2):∃c0 c1,l=[c0,c1]:=by
 match l,h with
 | [c0,c1],_=>exact⟨c0,c1,rfl⟩
theorem plist3 {α:Type}{l:List α}(h:l.length=3):∃c0 c1 c2,l=[c0,c1,c2]:=by
 match l,h with
 | [c0,c1,c2],_=>exact⟨c0,c1,c2,rfl⟩
theorem plist5 {α:Type}{l:List α}(h:l.length=5):∃c0 c1 c2 c3 c4,l=[c0,c1,c2,c3,c4]:=by
 match l,h with
 | [c0,c1,c2,c3,c4],_=>exact⟨c0,c1,c2,c3,c4,rfl⟩
theorem plist6 {α:Type}{l:List α}(h:l.length=6):∃c0 c1 c2 c3 c4 c5,l=[c0,c1,c2,c3,c4,c5]:=by
 match l,h with
 | [c0,c1,c2,c3,c4,c5],_=>exact⟨c0,c1,c2,c3,c4,c5,rfl⟩
theorem rows_cell {α:Type} [Inhabited α] {H:Type}{enc:TypeId×Value→H}{W:World}{t e:TypeId}{k:Nat}(hk:0<k) (ht:Tryz.prog.underlying t=some (.slice e)) (hc:Tryz.prog.cellsOf e=k) (C:α→Nat→Value) (Q:α→Prop)
  (elem:∀fuel cs x,cs.length=k→DataW.trod enc Tryz.prog W 0 (fun _=>true) true fuel e cs=some x→∃a:α,(∀j,j<k→cs[j]?=some (C a j))∧Q a)
  {v:Value}{fuel:Nat}{x:DataW H×List MemPlace}(hf:DataW.trod enc Tryz.prog W 0 (fun _=>true) true fuel t [v]=some x) :
  ∃(ao:Option Addr) (n cap:Nat) (f:Nat→α),v=.slice ao n cap∧CRow W ao n cap k (fun i=>C (f i))∧NilOk ao n cap∧n≤9223372036854775807∧∀i,i<n→Q (f i):=by
 rcases Deep.open_slice ht hf with⟨hcs,_⟩ | ⟨a,len,cap,m,q,D,Pl,hcs,_,hl,hm,hmm,_,hx⟩
 ·simp at hcs;subst hcs;exact⟨none,0,0,fun _=>default,rfl,CRow.none _ _ _ _ _,fun _=>⟨rfl,rfl⟩,by omega,fun i hi=>absurd hi (by omega)⟩
 ·simp at hcs;subst hcs;rw[if_pos rfl] at hmm;have each:∀i,i<len→∃t:α,(∀j,j<k→W.cell? (a.add (i*k+j))=some (C t j))∧Q t:=by
   intro i hi;obtain⟨cs',h1,h2⟩:=hx i (by omega);rw[hc] at h1;obtain⟨_,hlen,hcell⟩:=World.cells?_some h1;obtain⟨t,h3,h4⟩:=elem _ _ _ hlen h2;refine⟨t,fun j hj => ?_,h4⟩;have kj:=hcell j (by omega);rw[Deep.add_add] at kj;rw[kj];exact h3 j hj
  obtain⟨f,hq⟩:=Deep.choose_lt each;refine⟨some a,len,cap,f,rfl,⟨hl,fun hp => ?_⟩,(fun e=>by cases e),by unfold maxLen at hm;omega,fun i hi=>(hq i hi).2⟩;obtain⟨b,off,spot⟩:=a;have hspot:spot=none:=by
   have h0:=(hq 0 (by omega)).1 0 (by omega);simpa[Addr.add] using World.cell?_spot h0
  subst hspot;have hc:∀i,i<len→∀j,j<k→_:=fun i hi j hj=>(hq i hi).1 j hj;simp only[add_row] at hc;refine⟨b,off,rfl,block_lt_of_cell (hc 0 hp 0 hk),fun i hi j hj => ?_⟩;have:=hc i hi j hj;rw[←Nat.add_assoc] at this;exact this
theorem ints_cell {H:Type}{enc:TypeId×Value→H}{W:World}{v:Value}{fuel:Nat}{x:DataW H×List MemPlace}
  (hf:DataW.trod enc Tryz.prog W 0 (fun _=>true) true fuel 37 [v]=some x) :
  ∃(ao:Option Addr) (n cap:Nat) (f:Nat→Int),v=.slice ao n cap∧IRow W ao n cap f∧NilOk ao n cap∧n≤9223372036854775807:=by
 obtain⟨ao,n,cap,f,h1,h2,h3,h4,_⟩:=rows_cell (by omega) Tryz.underlying37 cellsInt (fun(x:Int) _=>.int .i64 x) (fun _=>True) (fun fuel cs x hl h=>by
  obtain⟨y,e,_,_⟩:=DataW.trod_int Tryz.underlying3 h;exact⟨y,fun j hj=>by
   obtain rfl:j=0:=by omega
   rw[e];rfl,trivial⟩) hf
 exact⟨ao,n,cap,f,h1,h2,h3,h4⟩
theorem links_cell {H:Type}{enc:TypeId×Value→H}{W:World}{v:Value}{fuel:Nat}{x:DataW H×List MemPlace}
  (hf:DataW.trod enc Tryz.prog W 0 (fun _=>true) true fuel 30 [v]=some x) :
  ∃(ao:Option Addr) (n cap:Nat) (f:Nat→Lk),v=.slice ao n cap∧LRow W ao n cap f∧NilOk ao n cap∧n≤9223372036854775807∧∀i,i<n→(Lit.int .i64 (f i).a).wf=true∧(Lit.int .i64 (f i).pa).wf=true∧(Lit.int .i64 (f i).b).wf=true∧(Lit.int .i64 (f i).pb).wf=true:=by
 haveI:Inhabited Lk:=⟨⟨0,0,0,0,0,false⟩⟩
 refine rows_cell (by omega) Tryz.underlying30 cellsLk lkC (fun l=>(Lit.int .i64 l.a).wf=true∧(Lit.int .i64 l.pa).wf=true∧(Lit.int .i64 l.b).wf=true∧(Lit.int .i64 l.pb).wf=true) (fun fuel cs x hl h => ?_) hf;obtain⟨c0,c1,c2,c3,c4,c5,rfl⟩:=plist6 hl;obtain⟨xs,m,_,_,_,hlen,hfs⟩:=DataW.trod_struct Tryz.underlying83 h;obtain⟨y0,y1,y2,y3,y4,y5,rfl⟩:=plist6 (by simpa using hlen);obtain⟨a,e0,_,w0⟩:=DataW.trod_int Tryz.underlying3 (hfs 0 _ rfl);obtain⟨pa,e1,_,w1⟩:=DataW.trod_int Tryz.underlying3 (hfs 1 _ rfl);obtain⟨b,e2,_,w2⟩:=DataW.trod_int Tryz.underlying3 (hfs 2 _ rfl);obtain⟨pb,e3,_,w3⟩:=DataW.trod_int Tryz.underlying3 (hfs 3 _ rfl);obtain⟨co,e4,_,_⟩:=DataW.trod_int Tryz.underlying3 (hfs 4 _ rfl);obtain⟨up,e5,_⟩:=DataW.trod_bool Tryz.underlying4 (hfs 5 _ rfl);refine⟨⟨a,pa,b,pb,co,up⟩,fun j hj => ?_,w0,w1,w2,w3⟩;rw[one_of e0,one_of e1,one_of e2,one_of e3,one_of e4,one_of e5];rcases(by omega:j=0∨j=1∨j=2∨j=3∨j=4∨j=5) with q | q | q | q | q | q<;>subst q<;>rfl
theorem region_cells {H:Type}{enc:TypeId×Value→H}{W:World}{c0 c1 c2:Value}{fuel:Nat}{x:DataW H×List MemPlace}
  (hf:DataW.trod enc Tryz.prog W 0 (fun _=>true) true fuel 56 [c0,c1,c2]=some x) :
  ∃r:Rg.Reg,c0=.string r.s∧c1=.int .i64 r.rev∧c2=.slice r.ao r.n r.cap∧r.at' W∧r.n≤9223372036854775807:=by
 obtain⟨xs,m,_,_,_,hlen,hfs⟩:=DataW.trod_struct Tryz.underlying56 hf;obtain⟨y0,y1,y2,rfl⟩:=plist3 (by simpa using hlen);have g2:=hfs 2 _ rfl;obtain⟨s,e0,_⟩:=DataW.trod_string Tryz.underlying9 (hfs 0 _ rfl);obtain⟨rev,e1,_,_⟩:=DataW.trod_int Tryz.underlying3 (hfs 1 _ rfl);obtain⟨ao,n,cap,vs,ts,e2,hr,hn⟩:=ways_cell g2;exact⟨⟨s,rev,ao,n,cap,vs,ts⟩,one_of e0,one_of e1,e2,hr,hn⟩
theorem bridges_cell {H:Type}{enc:TypeId×Value→H}{W:World}{v:Value}{fuel:Nat}{x:DataW H×List MemPlace}
  (hf:DataW.trod enc Tryz.prog W 0 (fun _=>true) true fuel 29 [v]=some x) :
  ∃(ao:Option Addr) (n cap:Nat) (f:Nat→Br),v=.slice ao n cap∧BRow W ao n cap f∧NilOk ao n cap∧n≤9223372036854775807∧∀i,i<n→(f i).at' W∧(Lit.int .u64 (f i).addr).wf=true:=by
 haveI:Inhabited Br:=⟨⟨0,none,0,0,fun _=>0,⟨⟨#[]⟩,0,none,0,0,fun _=>0,fun _=>0⟩⟩⟩
 refine rows_cell (by omega) Tryz.underlying29 cellsBg brC (fun b=>b.at' W∧(Lit.int .u64 b.addr).wf=true) (fun fuel cs x hl h => ?_) hf;obtain⟨c0,c1,c2,c3,c4,rfl⟩:=plist5 hl;obtain⟨xs,m,_,_,_,hlen,hfs⟩:=DataW.trod_struct Tryz.underlying58 h;obtain⟨y0,y1,y2,rfl⟩:=plist3 (by simpa using hlen);obtain⟨a,e0,_,w0⟩:=DataW.trod_int Tryz.underlying34 (hfs 0 _ rfl);have g1:=hfs 1 _ rfl;have g2:=hfs 2 _ rfl;obtain⟨pao,pn,pcap,pv,e1,hp,_,hpn⟩:=ints_cell g1;obtain⟨r,e2,e3,e4,hr,hn⟩:=region_cells g2;refine⟨⟨a,pao,pn,pcap,pv,r⟩,fun j hj => ?_,⟨hp,hr,hpn,hn⟩,w0⟩;rw[one_of e0,e1,e2,e3,e4];rcases(by omega:j=0∨j=1∨j=2∨j=3∨j=4) with q | q | q | q | q<;>subst q<;>rfl
theorem links_many {H:Type}{enc:TypeId×Value→H}{W:World}{ao:Option Addr}{n cap:Nat}{fuel:Nat}{x:DataW H×List MemPlace}
  (hf:DataW.trod enc Tryz.prog W 0 (fun _=>true) true fuel 30 [.slice ao n cap]=some x) (hz:(x.1.weights Tryz.prog 30).all (·≤reachBytes)=true):n*48≤reachBytes:=by
 rcases Deep.open_slice Tryz.underlying30 hf with⟨hcs,_⟩ | ⟨a,len,cap',m,k,D,Pl,hcs,_,hl,hm,hmm,hx,_⟩
 ·simp at hcs;omega
 ·simp at hcs;obtain⟨_,rfl,rfl⟩:=hcs;rw[if_pos rfl] at hmm;rw[hx] at hz;unfold DataW.weights at hz;rw[Tryz.underlying30] at hz;simp only[List.all_cons,Bool.and_eq_true,decide_eq_true_eq,List.length_map,List.length_range,bytesLk] at hz;have:=hz.1;omega
theorem net_in {H:Type}{enc:TypeId×Value→H}{W:World}{base:Nat}{v:Value}{D:DataW H}{ps:List MemPlace}
  (hv:Value.okWide Tryz.prog W .any base 32 v) (h:DataW.Trod enc Tryz.prog W 0 (fun _=>true) true 32 v D ps) :
  ∃n:Net,v=n.val∧n.at' W∧n.Wf∧((D.weights Tryz.prog 32).all (·≤reachBytes)=true→n.L*48≤reachBytes):=by
 obtain⟨cs,rfl,hcs⟩:=okWide_struct Tryz.underlying32 hv;rw[cellsNt] at hcs;obtain⟨l⟩:=cs;obtain⟨c0,c1,rfl⟩:=plist2 (by simpa using hcs);obtain⟨fuel,hf⟩:=h;obtain⟨xs,m,_,hxy,_,hlen,hfs⟩:=DataW.trod_struct Tryz.underlying32 hf;obtain⟨y0,y1,rfl⟩:=plist2 (by simpa using hlen);have g0:=hfs 0 _ rfl;have g1:=hfs 1 _ rfl;simp only[Value.cells] at g0 g1;obtain⟨bao,K,bcap,bs,rfl,hb,_,hbn,hb2⟩:=bridges_cell g0;obtain⟨lao,L,lcap,ls,rfl,hl,_,hln,hl2⟩:=links_cell g1;refine⟨⟨bao,K,bcap,bs,lao,L,lcap,ls⟩,rfl,⟨hb,fun i hi=>(hb2 i hi).1,hl,hbn,hln⟩,⟨fun i hi=>(hb2 i hi).2,hl2⟩,fun hz => ?_⟩;simp only[Prod.mk.injEq] at hxy;rw[hxy.1] at hz;unfold DataW.weights at hz;rw[Tryz.underlying32] at hz;simp only[List.map_cons,List.map_nil,DataW.weightsEach,List.all_append,Bool.and_eq_true] at hz;exact links_many g1 hz.2.1
end
section
open Go.ChangeShapes Go.WideShapes Go.ChangeAt Go.RowKit
open Tk (Dn)
theorem cellsDo:Tryz.prog.cellsOf 47=4:=by kernel_rfl
theorem bytesDo:Tryz.prog.bytesOf 47=32:=by kernel_rfl
theorem plist4 {α:Type}{l:List α}(h:l.length=4):∃c0 c1 c2 c3,l=[c0,c1,c2,c3]:=by
 match l,h with
 | [c0,c1,c2,c3],_=>exact⟨c0,c1,c2,c3,rfl⟩
theorem dos_cell {H:Type}{enc:TypeId×Value→H}{W:World}{v:Value}{fuel:Nat}{x:DataW H×List MemPlace}
  (hf:DataW.trod enc Tryz.prog W 0 (fun _=>true) true fuel 49 [v]=some x) :
  ∃(ao:Option Addr) (n cap:Nat) (ds:Nat→Dn),v=.slice ao n cap∧DRow W ao n cap ds∧NilOk ao n cap∧n≤9223372036854775807∧∀i,i<n→True:=by
 haveI:Inhabited Dn:=⟨⟨0,0,0,0⟩⟩
 refine rows_cell (by omega) Tryz.underlying49 cellsDo dnC (fun _=>True) (fun fuel cs x hl h => ?_) hf;obtain⟨c0,c1,c2,c3,rfl⟩:=plist4 hl;obtain⟨xs,m,_,_,_,hlen,hfs⟩:=DataW.trod_struct Tryz.underlying47 h;obtain⟨y0,y1,y2,y3,rfl⟩:=plist4 (by simpa using hlen);obtain⟨a,e0,_,_⟩:=DataW.trod_int Tryz.underlying3 (hfs 0 _ rfl);obtain⟨b,e1,_,_⟩:=DataW.trod_int Tryz.underlying3 (hfs 1 _ rfl);obtain⟨c,e2,_,_⟩:=DataW.trod_int Tryz.underlying3 (hfs 2 _ rfl);obtain⟨d,e3,_,_⟩:=DataW.trod_int Tryz.underlying3 (hfs 3 _ rfl);refine⟨⟨a,b,c,d⟩,fun j hj => ?_,trivial⟩;rw[one_of e0,one_of e1,one_of e2,one_of e3];rcases(by omega:j=0∨j=1∨j=2∨j=3) with q | q | q | q<;>subst q<;>rfl
theorem dos_many {H:Type}{enc:TypeId×Value→H}{W:World}{ao:Option Addr}{n cap:Nat}{fuel:Nat}{x:DataW H×List MemPlace}
  (hf:DataW.trod enc Tryz.prog W 0 (fun _=>true) true fuel 49 [.slice ao n cap]=some x) (hz:(x.1.weights Tryz.prog 49).all (·≤reachBytes)=true):n*32≤reachBytes:=by
 rcases Deep.open_slice Tryz.underlying49 hf with⟨hcs,_⟩ | ⟨a,len,cap',m,k,D,Pl,hcs,_,hl,hm,hmm,hx,_⟩
 ·simp at hcs;omega
 ·simp at hcs;obtain⟨_,rfl,rfl⟩:=hcs;rw[if_pos rfl] at hmm;rw[hx] at hz;unfold DataW.weights at hz;rw[Tryz.underlying49] at hz;simp only[List.all_cons,Bool.and_eq_true,decide_eq_true_eq,List.length_map,List.length_range,bytesDo] at hz;have:=hz.1;omega
theorem dos_in {H:Type}{enc:TypeId×Value→H}{W:World}{base:Nat}{v:Value}{D:DataW H}{ps:List MemPlace}
  (hv:Value.okWide Tryz.prog W .any base 49 v) (h:DataW.Trod enc Tryz.prog W 0 (fun _=>true) true 49 v D ps) :
  ∃(ao:Option Addr) (n cap:Nat) (ds:Nat→Dn),v=.slice ao n cap∧DRow W ao n cap ds∧NilOk ao n cap∧n≤9223372036854775807∧((D.weights Tryz.prog 49).all (·≤reachBytes)=true→n*32≤reachBytes):=by
 obtain⟨a0,len0,cap0,rfl⟩:=okWide_slice Tryz.underlying49 hv;obtain⟨fuel,hf⟩:=h;obtain⟨ao,n,cap,ds,e,h1,h2,h3,_⟩:=dos_cell hf;have e2:=e;injection e2 with e3 e4 e5;subst e3 e4 e5;exact⟨_,_,_,ds,rfl,h1,h2,h3,fun hz=>dos_many hf hz⟩
end
section
open Go.RowKit
theorem and40 (s:Int) (h0:0≤s) (h1:s<18446744073709551616):bits BinOp.and IntKind.u64 s 1099511627776=s/1099511627776%2*1099511627776:=by
 obtain⟨a,rfl⟩:=Int.eq_ofNat_of_zero_le h0;have h:=bits_and_u64_nat a 1099511627776 (by omega) (by omega);rw[show((1099511627776:Nat):Int)=1099511627776 from rfl] at h;rw[h];have h2:a &&& 2 ^ 40=a/2 ^ 40%2 ^ 1*2 ^ 40:=by
  apply Nat.eq_of_testBit_eq
  intro i;rw[Nat.testBit_and,Nat.testBit_two_pow,Nat.testBit_mul_two_pow,Nat.testBit_mod_two_pow,Nat.testBit_div_two_pow];by_cases e:40=i
  ·subst e;simp
  ·by_cases e2:40≤i
   ·simp[e,show ¬(i-40<1) by omega]
   ·simp[e,e2]
 rw[show(2:Nat) ^ 40=1099511627776 from rfl] at h2;rw[h2];omega
def wrong (d s:Int) (t:Bool) (p v y:Int) (n:Nat):Int :=
 if 281474976710655<d∨281474976710655<s then 3
 else if s/1099511627776%2=1 then 8
 else if t=true∧¬((0≤v∧v≤4094)∧0≤p∧p≤7) then 3
 else if ¬((1536≤y∧y≤65535)∧y≠33024) then 1
 else if 1500<n then 4 else 0
def be (k:Nat) (N:Int) (i:Nat):Int:=N/2 ^ (8*(k-1-i))%256
def tag (p:Int) (dr:Bool) (v:Int):Int:=p*8192+v+(if dr=true then 4096 else 0)
def headF (d s:Int) (t:Bool) (p:Int) (dr:Bool) (v y:Int) (i:Nat):Int :=
 if i<6 then be 6 d i else if i<12 then be 6 s (i-6)
 else if t=true then(if i<14 then be 2 33024 (i-12) else if i<16 then be 2 (tag p dr v) (i-14) else be 2 y (i-16))
 else(if i<14 then be 2 y (i-12) else 0)
def headN (t:Bool):Nat:=if t=true then 18 else 14
def num (f:Nat→Int):Nat→Int
 | 0=>0
 | k+1=>num f k*256+f k
theorem num_range (f:Nat→Int) (hf:∀i,0≤f i∧f i≤255):∀k,0≤num f k∧num f k<2 ^ (8*k)
 | 0=>by simp[num]
 | k+1=>by
  have h:=num_range f hf k;have:=hf k;have h2:(2:Int) ^ (8*(k+1))=2 ^ (8*k)*256:=(by rw[Nat.mul_add,Int.pow_add];rfl)
  rw[h2];simp only[num];generalize (2:Int) ^ (8*k)=P at *;omega
theorem be_range (k:Nat) (N:Int) (i:Nat):0≤be k N i∧be k N i≤255:=by unfold be;omega
end
end Go.Proofs.YtflghpnpjmodaaaGreatDoor
