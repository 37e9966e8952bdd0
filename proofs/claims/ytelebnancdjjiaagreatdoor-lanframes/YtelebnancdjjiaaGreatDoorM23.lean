/- walks: lan.gatesOf's closure: what is open on each tree -/
import Derived.Test.YtelebnancdjjiaaGreatDoorM22
import Derived.Test.YtelebnancdjjiaaGreatDoorM18
import Derived.Test.YtelebnancdjjiaaGreatDoorM08
import Derived.Test.YtelebnancdjjiaaGreatDoorM06
set_option maxRecDepth 100000
set_option maxHeartbeats 6000000
namespace Go.Proofs.YtelebnancdjjiaaGreatDoor
section
open Go.RowKit
open Vc (V Of)
open Pl (En Lk Br Net)
open Tk (Md Mnd Cn Sc Dn ixM ilist lst3 ilm)
def dnC (d:Dn) (j:Nat):Value:=if j=0 then .int .i64 d.kind else if j=1 then .int .i64 d.n else if j=2 then .int .i64 d.tree else .int .i64 d.value
abbrev DRow (w:World) (ao:Option Addr) (n cap:Nat) (ds:Nat→Dn):Prop:=CRow w ao n cap 4 (fun i=>dnC (ds i))
theorem DRow.cells {w:World}{b off n cap:Nat}{ds:Nat→Dn}(h:DRow w (some ⟨b,off,none⟩) n cap ds) {i:Nat}(hi:i<n) :
  w.cell? ⟨b,off+i*4,none⟩=some (.int .i64 (ds i).kind)∧w.cell? ⟨b,off+i*4+1,none⟩=some (.int .i64 (ds i).n)∧w.cell? ⟨b,off+i*4+2,none⟩=some (.int .i64 (ds i).tree)∧w.cell? ⟨b,off+i*4+3,none⟩=some (.int .i64 (ds i).value):=by
 obtain⟨b',off',e,_,hc⟩:=h.2 (by omega);cases e
 exact⟨hc i hi 0 (by omega),hc i hi 1 (by omega),hc i hi 2 (by omega),hc i hi 3 (by omega)⟩
def onErr (n:Net) (t:List Tr) (ds:Nat→Dn) (dn:Nat):Int×Int:=if (wrT n t dn).1≠0 then wrT n t dn else Tk.errTo n.cn ds dn
theorem onErr_zero {n:Net}{t:List Tr}{ds:Nat→Dn}{dn:Nat}(h:(onErr n t ds dn).1=0):(wrT n t dn).1=0∧(Tk.errTo n.cn ds dn).1=0:=by
 unfold onErr at h;by_cases q:(wrT n t dn).1=0
 ·rw[if_neg (fun z=>z q)] at h;exact⟨q,h⟩
 ·rw[if_pos q] at h;exact absurd h q
theorem wrT_zero {n:Net}{t:List Tr}{dn:Nat}(h:(wrT n t dn).1=0):wrT n t dn=(0,0)∧n.wrong.1=0∧fitT n t=true∧dn≤30:=by
 unfold wrT at h ⊢;by_cases q:n.wrong.1=0
 ·rw[if_neg (fun z=>z q)] at h ⊢;by_cases q2:fitT n t=false
  ·rw[if_pos q2] at h;cases h
  ·rw[if_neg q2] at h ⊢;by_cases q3:30<dn
   ·rw[if_pos q3] at h;cases h
   ·rw[if_neg q3];exact⟨rfl,q,by simpa using q2,by omega⟩
 ·rw[if_pos q] at h;exact absurd h q
theorem sizeTk:(Tryz.prog.info? 34).map (·.size)=some 1:=by kernel_rfl
theorem sizeNt:(Tryz.prog.info? 25).map (·.size)=some 2:=by kernel_rfl
def OnW (w:World) (n:Net) (t:List Tr) (ms:Nat→Nat→Mnd) (ds:Nat→Dn) (dn:Nat) (e:Ending) (w':World):Prop :=
 Bl w w'∧(((onErr n t ds dn).1≠0∧e=.returned (.tuple #[.agg #[.slice none 0 0,.slice none 0 0],.agg #[.slice none 0 0],.agg #[.int .i64 (onErr n t ds dn).1,.int .i64 (onErr n t ds dn).2]])) ∨
  ((onErr n t ds dn).1=0∧∃(n':Net) (oao:Option Addr) (ocap:Nat) (t':List Tr),e=.returned (.tuple #[n'.val,.agg #[.slice oao t'.length ocap],.agg #[.int .i64 0,.int .i64 0]])∧∃b,w.heap.size≤b∧Kept w' b (fun V=>SnOut V n t.length ((n.sc ms).all n.cn ds dn) n' oao ocap t')))
theorem low_below {w w' W0 V:World}{b:Nat}(h1:Bl w w') (h2:Below b W0 w') (h3:Below b W0 V) (hb:w.heap.size≤b) (hb2:b≤W0.heap.size):Bl w V :=
 ⟨(h3.os.trans h2.os.symm).trans h1.os,(h3.tape.trans h2.tape.symm).trans h1.tape,(h3.output.trans h2.output.symm).trans h1.output,by have:=h3.size;omega,fun q hq=>((h3.block q (by omega)).trans (h2.block q (by omega)).symm).trans (h1.block q hq)⟩
theorem ton_any (n:Net) (oao:Option Addr) (ocap:Nat) (t:List Tr) (ms:Nat→Nat→Mnd) (dao:Option Addr) (dn dcap:Nat) (ds:Nat→Dn) (w:World) (hwf:n.Wf) (hat:n.at' w) (htr:TrRow w oao ocap t) (hdn:dn≤9223372036854775807) (hds:DRow w dao dn dcap ds) (hc:CalmT t) (hm:∀k,k<t.length→∀i,i<n.K→ms k i=msT t k i) (htb:Tabs w) (hbt:2≤w.heap.size) :
  Calls Tryz.prog 42 #[n.val,.agg #[.slice oao t.length ocap],.slice dao dn dcap] w fun e w'=>OnW w n t ms ds dn e w':=by
 obtain⟨X2,HX2⟩:∃X2,Hid (X2=(w.alloc (.cells #[.slice n.bao n.K n.bcap,.slice n.lao n.L n.lcap] 25)).alloc (.cells #[.slice oao t.length ocap] 34)):=⟨_,rfl⟩
 obtain⟨X,HX⟩:∃X,Hid (X=((X2.alloc (.cells #[.slice none 0 0,.slice none 0 0] 25)).alloc (.cells #[.slice none 0 0] 34)).alloc (.cells #[.int .i64 0,.int .i64 0] 37)):=⟨_,rfl⟩
 have b1:Bl w X2:=(by rw[HX2.out];exact bA2 _ _ _)
 have s1:X2.heap.size=w.heap.size+1+1:=(by rw[HX2.out];simp)
 have b2:Bl X2 X:=(by rw[HX.out];exact((bA2 _ _ _).alloc (by simp;omega) _))
 have s2:X.heap.size=X2.heap.size+1+1+1:=(by rw[HX.out];simp)
 have hXB:Bl w X:=b1.trans (b2.mono b1.size);have g0:X.heap[w.heap.size]?=some (.cells #[.slice n.bao n.K n.bcap,.slice n.lao n.L n.lcap] 25):=keep (by rw[HX2.out];exact heap_alloc2_old _ _ _) b2;have g1:X.heap[w.heap.size+1]?=some (.cells #[.slice oao t.length ocap] 34):=keep (by rw[HX2.out];exact heap_alloc2_new _ _ _) b2;have g2:X.heap[w.heap.size+1+1]?=some (.cells #[.slice none 0 0,.slice none 0 0] 25):=by
  rw[HX.out,←s1];exact keep (heap_alloc2_old _ _ _) (bA1 _ _)
 have g3:X.heap[w.heap.size+1+1+1]?=some (.cells #[.slice none 0 0] 34):=by
  rw[HX.out,←s1];exact keep (heap_alloc2_new _ _ _) (bA1 _ _)
 have g4:X.heap[w.heap.size+1+1+1+1]?=some (.cells #[.int .i64 0,.int .i64 0] 37):=by
  have:w.heap.size+1+1+1+1=((X2.alloc (.cells #[.slice none 0 0,.slice none 0 0] 25)).alloc (.cells #[.slice none 0 0] 34)).heap.size:=by simp[s1]
  rw[HX.out,this];exact heap_alloc_last _ _
 obtain⟨BN,HBN⟩:∃BN,Hid (BN=w.heap.size):=⟨_,rfl⟩
 obtain⟨BT,HBT⟩:∃BT,Hid (BT=w.heap.size+1):=⟨_,rfl⟩
 obtain⟨RN,HRN⟩:∃RN,Hid (RN=w.heap.size+1+1):=⟨_,rfl⟩
 obtain⟨RT,HRT⟩:∃RT,Hid (RT=w.heap.size+1+1+1):=⟨_,rfl⟩
 obtain⟨RF,HRF⟩:∃RF,Hid (RF=w.heap.size+1+1+1+1):=⟨_,rfl⟩
 rw[←HBN.out] at g0;rw[←HBT.out] at g1;rw[←HRN.out] at g2;rw[←HRT.out] at g3;rw[←HRF.out] at g4;have ne1:RN≠RT:=(by have:=HRN.out;have:=HRT.out;omega)
 have ne2:RN≠RF:=(by have:=HRN.out;have:=HRF.out;omega)
 have ne3:RT≠RF:=(by have:=HRT.out;have:=HRF.out;omega)
 have le1:w.heap.size≤RN:=(by have:=HRN.out;omega)
 have le2:w.heap.size≤RT:=(by have:=HRT.out;omega)
 have le3:w.heap.size≤RF:=(by have:=HRF.out;omega)
 have lt1:RN<X.heap.size:=(by have:=HRN.out;omega)
 have lt2:RT<X.heap.size:=(by have:=HRT.out;omega)
 have lt3:RF<X.heap.size:=(by have:=HRF.out;omega)
 have HC:Hid (∀V,Bl X V→(V.cell? ⟨BN,0,none⟩=some (.slice n.bao n.K n.bcap)∧V.cell? ⟨BN,1,none⟩=some (.slice n.lao n.L n.lcap))∧V.cell? ⟨BT,0,none⟩=some (.slice oao t.length ocap)∧(V.cell? ⟨RN,0,none⟩=some (.slice none 0 0)∧V.cell? ⟨RN,1,none⟩=some (.slice none 0 0))∧V.cell? ⟨RT,0,none⟩=some (.slice none 0 0)∧(V.cell? ⟨RF,0,none⟩=some (.int .i64 0)∧V.cell? ⟨RF,1,none⟩=some (.int .i64 0))∧(V.frozen? ⟨RN,0,none⟩=false∧V.frozen? ⟨RN,1,none⟩=false)∧V.frozen? ⟨RT,0,none⟩=false∧V.frozen? ⟨RF,0,none⟩=false∧V.frozen? ⟨RF,1,none⟩=false):=fun V hV =>
  ⟨tC2 (keep g0 hV),one_cell (keep g1 hV),tC2 (keep g2 hV),one_cell (keep g3 hV),tC2 (keep g4 hV),⟨frozen_of_row _ _ _ _ _ (keep g2 hV),frozen_of_row _ _ _ _ _ (keep g2 hV)⟩,frozen_of_row _ _ _ _ _ (keep g3 hV),frozen_of_row _ _ _ _ _ (keep g4 hV),frozen_of_row _ _ _ _ _ (keep g4 hV)⟩
 have HH:Hid (∀V,Bl X V→V.heap[RN]?=some (.cells #[.slice none 0 0,.slice none 0 0] 25)∧V.heap[RT]?=some (.cells #[.slice none 0 0] 34)∧V.heap[RF]?=some (.cells #[.int .i64 0,.int .i64 0] 37)∧Bl w V):=fun V hV=>⟨keep g2 hV,keep g3 hV,keep g4 hV,hXB.trans (hV.mono hXB.size)⟩
 have HWR:Hid (Calls Tryz.prog 66 #[.agg #[.slice n.bao n.K n.bcap,.slice n.lao n.L n.lcap],.agg #[.slice oao t.length ocap],.slice dao dn dcap] X fun e w'=>e=.returned (.agg #[.int .i64 (wrT n t dn).1,.int .i64 (wrT n t dn).2])∧Hid (Bl X w')):=(twrong_any n oao ocap t dao dn dcap X hwf (hat.below hXB) (htr.below hXB) hdn).mono (fun e w' h=>⟨h.1,h.2⟩);have HNS:Hid ((wrT n t dn).1=0→∀V,Bl X V→Calls Tryz.prog 67 #[.agg #[.slice n.bao n.K n.bcap,.slice n.lao n.L n.lcap],.agg #[.slice oao t.length ocap]] V fun e w'=>NewW V n t.length ms e w'):=fun h0 V hV=>by
  obtain⟨_,z1,z2,_⟩:=wrT_zero h0;have hV2:=hXB.trans (hV.mono hXB.size);obtain⟨f1,_⟩:=fit_iff.1 z2;exact tnewscene_any n t.length ms oao ocap (vtT t) (ivT t) V (right_of hwf z1) f1.2 (hat.below hV2) (fit_at (htr.below hV2) z2 (right_of hwf z1).few hm) (fit_ok hwf z1 z2 hc hm) (htb.below hV2 hbt) (Nat.le_trans hbt hV2.size)
 have HDS:Hid (∀V,Bl X V→DRow V dao dn dcap ds):=fun V hV=>CRow.below hds (hXB.trans (hV.mono hXB.size));have HWF:Hid n.Wf:=hwf;have HWX:Hid (w.heap.size≤X.heap.size):=hXB.size;have hcap:=hds.1;clear hwf hat htr hds hc hm htb hbt b1 b2 s1 s2 hXB g0 g1 g2 g3 g4;simp only[Pl.Net.val];go_enter Tryz.func42,Tryz.ntmps42;obtain⟨⟨x0,x1⟩,x2,_⟩:=HC.out X (Below.refl _ _);rw[HX.out,HX2.out,HBN.out] at x0 x1;rw[HX.out,HX2.out,HBT.out] at x2;(go_wp2_with fail);rw[←HX2.out,←HX.out,←HRF.out,←HRT.out,←HRN.out,←HBT.out,←HBN.out];refine HWR.out.mono ?_;rintro e w1 ⟨rfl,H1⟩;clear x0 x1 x2 HWR;obtain⟨V1,HV1⟩:∃V1,Hid (V1=w1.alloc (.cells #[.int .i64 (wrT n t dn).1,.int .i64 (wrT n t dn).2] 37)):=⟨_,rfl⟩
 have hV1:Bl X V1:=(by rw[HV1.out];exact H1.out.alloc H1.out.size _)
 have f0:V1.cell? ⟨w1.heap.size,0,none⟩=some (.int .i64 (wrT n t dn).1)∧V1.cell? ⟨w1.heap.size,1,none⟩=some (.int .i64 (wrT n t dn).2):=tC2 (by rw[HV1.out];exact heap_alloc_last _ _);obtain⟨f0,f1⟩:=f0;obtain⟨⟨p0,p1⟩,p2,⟨p3,p4⟩,p5,⟨p6,p7⟩,⟨q0,q1⟩,q2,q3,q4⟩:=HC.out V1 hV1;have y0:=f0;rw[HV1.out] at y0;by_cases q:(wrT n t dn).1=0
 ·have HE:Hid (onErr n t ds dn=Tk.errTo n.cn ds dn):=if_neg (fun z=>z q);obtain⟨z0,hw0,hfit,hfew⟩:=wrT_zero q;have HN0:Hid (n.wrong.1=0):=hw0;have HNV:Hid (Calls Tryz.prog 67 #[.agg #[.slice n.bao n.K n.bcap,.slice n.lao n.L n.lcap],.agg #[.slice oao t.length ocap]] V1 fun e w'=>NewW V1 n t.length ms e w'):=HNS.out q V1 hV1;have r0:=p0;have r1:=p1;have r2:=p2;rw[HV1.out] at r0 r1 r2;clear hw0 hfit f0 f1 p0 p1 p2 p3 p4 p5 p6 p7 q0 q1 q2 q3 q4 HNS z0;generalize (wrT n t dn).1=r5 at *;generalize (wrT n t dn).2=r6 at *;subst q;(go_wp2_with fail);rw[←HV1.out];refine HNV.out.mono ?_;rintro e w2 ⟨S,F,M,G,ve,rfl,hSc,hF,hb,hB2⟩;have HSW:Hid (∀V,Below F.base F.W0 V→Bl X V):=fun V hV=>hV1.trans ((low_below hB2 hSc.at'.low hV hb (Nat.le_refl _)).mono hV1.size);have HFB:Hid (X.heap.size≤F.base):=Nat.le_trans hV1.size hb;have HFC:Hid (F.c=n.cn∧F.T=t.length∧F.pts=n.pts∧F.rg=fun i=>(n.bs i).reg):=hF;have HST:Hid (∃M G ve,ScOk w2 S F ((n.sc ms).all n.cn ds 0) M G ve):=⟨M,G,ve,hSc⟩
  clear hSc hF hb hB2 hV1 y0 r0 r1 r2 HNV;(go_wp2_with fail);go_loopw [29] (fun i wr=>∃k:Nat,k≤dn∧i=.int .i64 k∧Hid (∀j,j<k→Tk.errOf n.cn (ds j)=0)∧Hid (∃M G ve,ScOk wr S F ((n.sc ms).all n.cn ds k) M G ve)) (fun i _=>dn-(intOf i).toNat)
  case atStart=>exact⟨0,by omega,rfl,(fun j hj=>absurd hj (by omega)),HST⟩
  case round =>
   obtain⟨k,hk,rfl,hZ,hS⟩:=hrel;obtain⟨M,G,ve,hSc⟩:=hS.out;have hXr:=HSW.out wr hSc.at'.low;clear HST;by_cases hlt:k<dn
   ·have hrow:=HDS.out wr hXr;obtain⟨b,off,rfl,_⟩:=CRow.some hrow (by omega);obtain⟨c0,c1,c2,c3⟩:=DRow.cells hrow hlt;have ik:(0:Int)≤(k:Int):=(by omega)
    have nk:(k:Int)<(dn:Int):=(by omega)
    have HDO:Hid (Calls Tryz.prog 68 #[.pointer (some ⟨S,0,none⟩),.agg #[.int .i64 (ds k).kind,.int .i64 (ds k).n,.int .i64 (ds k).tree,.int .i64 (ds k).value]] (wr.alloc (.cells #[.int .i64 (ds k).kind,.int .i64 (ds k).n,.int .i64 (ds k).tree,.int .i64 (ds k).value] 106)) fun e w'=>∃z,e=.returned (.int .i64 z)∧Hid (z=Tk.errOf n.cn (ds k)∧Bl X w'∧(z=0→∃M G ve,ScOk w' S F ((n.sc ms).all n.cn ds (k+1)) M G ve))):=by
     refine(tdo_any _ S F ((n.sc ms).all n.cn ds k) M G ve (ds k) (hSc.below (bA1 _ _))).mono ?_;rintro e w' ⟨rfl,h1,h2⟩;rw[HFC.out.1] at h2;refine⟨_,rfl,by rw[HFC.out.1],HSW.out _ h1,fun z => ?_⟩;rw[HFC.out.1] at z;exact h2 z
    have HK0:Hid (∀z:Int,z=Tk.errOf n.cn (ds k)→z=0→∀j,j<k+1→Tk.errOf n.cn (ds j)=0):=fun z hz h0 j hj=>by
     by_cases e:j=k
     ·subst e;rw[←hz];exact h0
     ·exact hZ.out j (by omega)
    have HK1:Hid (∀z:Int,z=Tk.errOf n.cn (ds k)→z≠0→onErr n t ds dn=(z,(k:Int))):=fun z hz h0=>by
     rw[HE.out,hz];exact Pl.firstTo_here _ k hZ.out (by rw[←hz];exact h0) dn hlt
    clear hSc hS hZ hrow HFC HSW HDS;generalize ds k=d at *;(go_wp2_with fail);refine HDO.out.mono ?_;rintro e w3 ⟨z,rfl,H3⟩;clear HDO c0 c1 c2 c3;by_cases hz:z=0
    ·have HK2:Hid (∀j,j<k+1→Tk.errOf n.cn (ds j)=0):=HK0.out z H3.out.1 hz;have HK3:Hid (∃M G ve,ScOk w3 S F ((n.sc ms).all n.cn ds (k+1)) M G ve):=H3.out.2.2 hz;subst hz;clear HK0 HK1 H3;(go_wp2_with fail);exact⟨⟨k+1,by omega,by go_num,HK2,HK3⟩,by simp[intOf];omega⟩
    ·have HK2:Hid (onErr n t ds dn=(z,(k:Int))):=HK1.out z H3.out.1 hz;have hz1:(z != 0)=true:=(by simpa using hz)
     obtain⟨_,_,⟨p3,p4⟩,p5,⟨p6,p7⟩,⟨q0,q1⟩,q2,q3,q4⟩:=HC.out w3 H3.out.2.1;clear HK0 HK1;(go_wp2_with fail);refine bodyPost_ret (v:=.tuple #[.agg #[.slice none 0 0,.slice none 0 0],.agg #[.slice none 0 0],.agg #[.int .i64 z,.int .i64 (k:Int)]]) (results_row3 Tryz.results42 _ _ RN RT RF 25 34 37 #[.slice none 0 0,.slice none 0 0] #[.slice none 0 0] #[.int .i64 z,.int .i64 (k:Int)] (0,0) (0,0) (0,0) _ _ _ rfl rfl rfl ?h1 ?h2 ?h3 Tryz.underlying25 Tryz.underlying34 Tryz.underlying37 rfl rfl rfl ?i1 ?i2 ?i3) rfl ?post
     case h1=>repeat(first | (with_reducible refine drew_keep ?_) | (with_reducible exact(HH.out _ H3.out.2.1).1) | (with_reducible refine set2_same (a0:=Value.slice none 0 0) (a1:=Value.slice none 0 0) ?_) | (with_reducible refine set_keep ?_ ne1) | (with_reducible refine set_keep ?_ ne2))
     case h2=>repeat(first | (with_reducible refine drew_keep ?_) | (with_reducible exact(HH.out _ H3.out.2.1).2.1) | (with_reducible refine set1_same (a0:=Value.slice none 0 0) ?_) | (with_reducible refine set_keep ?_ ne1.symm) | (with_reducible refine set_keep ?_ ne3))
     case h3=>repeat(first | (with_reducible refine drew_keep ?_) | (with_reducible exact(HH.out _ H3.out.2.1).2.2.1) | (with_reducible refine set2_same (a0:=Value.int .i64 0) (a1:=Value.int .i64 0) ?_) | (with_reducible refine set_keep ?_ ne2.symm) | (with_reducible refine set_keep ?_ ne3.symm))
     case i1=>rw[sizeNt];try rfl
     case i2=>rw[sizeTk];try rfl
     case i3=>rw[sizeFt];try rfl
     case post =>
      refine⟨?_,Or.inl ⟨by rw[HK2.out];exact hz,by rw[HK2.out]⟩⟩;repeat(first | (with_reducible refine Below.drew ?_) | (with_reducible exact(HH.out _ H3.out.2.1).2.2.2) | (with_reducible refine Below.setCell ?_ le1 _) | (with_reducible refine Below.setCell ?_ le2 _) | (with_reducible refine Below.setCell ?_ le3 _))
   ·obtain rfl:k=dn:=by omega
    have hA:=hSc.at';obtain⟨bao,bcap,eb,_,_,_⟩:=owns_c (by omega) hA.brs;obtain⟨lao,lcap,el,_,_,_⟩:=owns_c (by omega) hA.lks;obtain⟨oa,oc,eo,_,_,_⟩:=owns_c (by omega) hA.out;obtain⟨s0,s1,s2,_,_⟩:=hA.cells;rw[eb] at s0;rw[el] at s1;rw[eo] at s2;have HFIN:Hid (∀V,(∀q,F.base≤q→V.heap[q]?=wr.heap[q]?)→V.heap.size=wr.heap.size→Bl w V→OnW w n t ms ds k (.returned (.tuple #[.agg #[.slice bao F.c.K bcap,.slice lao F.c.L lcap],.agg #[.slice oa F.T oc],.agg #[.int .i64 0,.int .i64 0]])) V):=fun V h1 hs h2=>by
     obtain⟨n',oao',ocap',t',⟨e1,e2,e3⟩,h3⟩:=scene_out hSc HWF.out HN0.out HFC.out;refine⟨h2,Or.inr ⟨?_,n',oao',ocap',t',?_,F.base,Nat.le_trans HWX.out HFB.out,fun V2 hV2=>h3 V2 (fun q q1 q2=>(hV2 q q1 (by rw[hs];exact q2)).trans (h1 q q1))⟩⟩
     ·rw[HE.out];exact(congrArg Prod.fst (Pl.firstTo_all _ _ hZ.out))
     ·rw[←eb,←el,←eo,e1,e2,e3];rfl
    have lo1:RN<F.base:=Nat.lt_of_lt_of_le lt1 HFB.out;have lo2:RT<F.base:=Nat.lt_of_lt_of_le lt2 HFB.out;have lo3:RF<F.base:=Nat.lt_of_lt_of_le lt3 HFB.out;have HXR:Hid (Bl X wr):=hXr;obtain⟨_,_,⟨p3,p4⟩,p5,⟨p6,p7⟩,⟨q0,q1⟩,q2,q3,q4⟩:=HC.out wr hXr;clear hSc hS hZ hA eb el eo hXr HFC HSW HDS HE HC;(go_wp2_with fail);go_region
    (all_goals go_wp2_with fail);all_goals
     refine bodyPost_ret (v:=.tuple #[.agg #[.slice bao F.c.K bcap,.slice lao F.c.L lcap],.agg #[.slice oa F.T oc],.agg #[.int .i64 0,.int .i64 0]]) (results_row3 Tryz.results42 _ _ RN RT RF 25 34 37 #[.slice bao F.c.K bcap,.slice lao F.c.L lcap] #[.slice oa F.T oc] #[.int .i64 0,.int .i64 0] (0,0) (0,0) (0,0) _ _ _ rfl rfl rfl ?h1 ?h2 ?h3 Tryz.underlying25 Tryz.underlying34 Tryz.underlying37 rfl rfl rfl ?i1 ?i2 ?i3) rfl ?post
     case h1=>repeat(first | (with_reducible refine drew_keep ?_) | (with_reducible exact(HH.out _ HXR.out).1) | (with_reducible exact(HH.out _ (below_drewN HXR.out _)).1) | (with_reducible exact(HH.out _ (Below.drew HXR.out)).1) | (with_reducible refine set2_same (a0:=Value.slice none 0 0) (a1:=Value.slice none 0 0) ?_) | (with_reducible refine set_keep ?_ ne1) | (with_reducible refine set_keep ?_ ne2))
     case h2=>repeat(first | (with_reducible refine drew_keep ?_) | (with_reducible exact(HH.out _ HXR.out).2.1) | (with_reducible exact(HH.out _ (below_drewN HXR.out _)).2.1) | (with_reducible exact(HH.out _ (Below.drew HXR.out)).2.1) | (with_reducible refine set1_same (a0:=Value.slice none 0 0) ?_) | (with_reducible refine set_keep ?_ ne1.symm) | (with_reducible refine set_keep ?_ ne3))
     case h3=>repeat(first | (with_reducible refine drew_keep ?_) | (with_reducible exact(HH.out _ HXR.out).2.2.1) | (with_reducible exact(HH.out _ (below_drewN HXR.out _)).2.2.1) | (with_reducible exact(HH.out _ (Below.drew HXR.out)).2.2.1) | (with_reducible refine set2_same (a0:=Value.int .i64 0) (a1:=Value.int .i64 0) ?_) | (with_reducible refine set_keep ?_ ne2.symm) | (with_reducible refine set_keep ?_ ne3.symm))
     case i1=>rw[sizeNt];try rfl
     case i2=>rw[sizeTk];try rfl
     case i3=>rw[sizeFt];try rfl
     case post =>
      refine HFIN.out _ ?_ ?_ ?_
      ·repeat(first | (with_reducible refine out_drew ?_) | (with_reducible refine out_set ?_ lo1) | (with_reducible refine out_set ?_ lo2) | (with_reducible refine out_set ?_ lo3) | (exact(fun _ _=>rfl)))
      ·simp
      ·repeat(first | (with_reducible refine Below.drew ?_) | (with_reducible exact(HH.out _ HXR.out).2.2.2) | (with_reducible exact(HH.out _ (below_drewN HXR.out _)).2.2.2) | (with_reducible exact(HH.out _ (Below.drew HXR.out)).2.2.2) | (with_reducible refine Below.setCell ?_ le1 _) | (with_reducible refine Below.setCell ?_ le2 _) | (with_reducible refine Below.setCell ?_ le3 _))
 ·have HE:Hid ((onErr n t ds dn).1=(wrT n t dn).1∧(onErr n t ds dn).2=(wrT n t dn).2):=by
   have:onErr n t ds dn=wrT n t dn:=if_pos q;exact⟨by rw[this],by rw[this]⟩
  have q1':((wrT n t dn).1 != 0)=true:=(by simpa using q)
  have HV1B:Hid (Bl X V1):=hV1;have HNE:Hid ((wrT n t dn).1≠0):=q;have d1:RN≠w1.heap.size:=(by have:=H1.out.size;omega)
  have d2:RT≠w1.heap.size:=(by have:=H1.out.size;omega)
  have d3:RF≠w1.heap.size:=(by have:=H1.out.size;omega)
  have d4:=d1.symm;have d5:=d2.symm;have d6:=d3.symm;clear p0 p1 p2 hV1 HNS HDS HWF HC;generalize (wrT n t dn).1=E1 at *;generalize (wrT n t dn).2=E2 at *;(go_wp2_with fail);rw[←HV1.out];go_region
  (all_goals go_wp2_with fail);all_goals
   refine bodyPost_ret (v:=.tuple #[.agg #[.slice none 0 0,.slice none 0 0],.agg #[.slice none 0 0],.agg #[.int .i64 E1,.int .i64 E2]]) (results_row3 Tryz.results42 _ _ RN RT RF 25 34 37 #[.slice none 0 0,.slice none 0 0] #[.slice none 0 0] #[.int .i64 E1,.int .i64 E2] (0,0) (0,0) (0,0) _ _ _ rfl rfl rfl ?h1 ?h2 ?h3 Tryz.underlying25 Tryz.underlying34 Tryz.underlying37 rfl rfl rfl ?i1 ?i2 ?i3) rfl ?post
   case h1=>repeat(first | (with_reducible refine drew_keep ?_) | (with_reducible exact(HH.out _ HV1B.out).1) | (with_reducible exact(HH.out _ (below_drewN HV1B.out _)).1) | (with_reducible exact(HH.out _ (Below.drew HV1B.out)).1) | (with_reducible refine set2_same (a0:=Value.slice none 0 0) (a1:=Value.slice none 0 0) ?_) | (with_reducible refine set_keep ?_ ne1) | (with_reducible refine set_keep ?_ ne2))
   case h2=>repeat(first | (with_reducible refine drew_keep ?_) | (with_reducible exact(HH.out _ HV1B.out).2.1) | (with_reducible exact(HH.out _ (below_drewN HV1B.out _)).2.1) | (with_reducible exact(HH.out _ (Below.drew HV1B.out)).2.1) | (with_reducible refine set1_same (a0:=Value.slice none 0 0) ?_) | (with_reducible refine set_keep ?_ ne1.symm) | (with_reducible refine set_keep ?_ ne3))
   case h3=>repeat(first | (with_reducible refine drew_keep ?_) | (with_reducible exact(HH.out _ HV1B.out).2.2.1) | (with_reducible exact(HH.out _ (below_drewN HV1B.out _)).2.2.1) | (with_reducible exact(HH.out _ (Below.drew HV1B.out)).2.2.1) | (with_reducible refine set2_same (a0:=Value.int .i64 0) (a1:=Value.int .i64 0) ?_) | (with_reducible refine set_keep ?_ ne2.symm) | (with_reducible refine set_keep ?_ ne3.symm))
   case i1=>rw[sizeNt];try rfl
   case i2=>rw[sizeTk];try rfl
   case i3=>rw[sizeFt];try rfl
   case post =>
    refine⟨?_,Or.inl ⟨by rw[HE.out.1];exact HNE.out,by rw[HE.out.1,HE.out.2]⟩⟩;repeat(first | (with_reducible refine Below.drew ?_) | (with_reducible exact(HH.out _ HV1B.out).2.2.2) | (with_reducible exact(HH.out _ (below_drewN HV1B.out _)).2.2.2) | (with_reducible exact(HH.out _ (Below.drew HV1B.out)).2.2.2) | (with_reducible refine Below.setCell ?_ le1 _) | (with_reducible refine Below.setCell ?_ le2 _) | (with_reducible refine Below.setCell ?_ le3 _))
end
section
open Go.ChangeShapes Go.WideShapes Go.ChangeAt Go.RowKit
open Tk (Dn)
theorem cellsDo:Tryz.prog.cellsOf 106=4:=by kernel_rfl
theorem bytesDo:Tryz.prog.bytesOf 106=32:=by kernel_rfl
theorem plist4 {α:Type}{l:List α}(h:l.length=4):∃c0 c1 c2 c3,l=[c0,c1,c2,c3]:=by
 match l,h with
 | [c0,c1,c2,c3],_=>exact⟨c0,c1,c2,c3,rfl⟩
theorem dos_cell {H:Type}{enc:TypeId×Value→H}{W:World}{v:Value}{fuel:Nat}{x:DataW H×List MemPlace}
  (hf:DataW.trod enc Tryz.prog W 0 (fun _=>true) true fuel 26 [v]=some x) :
  ∃(ao:Option Addr) (n cap:Nat) (ds:Nat→Dn),v=.slice ao n cap∧DRow W ao n cap ds∧NilOk ao n cap∧n≤9223372036854775807∧∀i,i<n→True:=by
 haveI:Inhabited Dn:=⟨⟨0,0,0,0⟩⟩
 refine rows_cell (by omega) Tryz.underlying26 cellsDo dnC (fun _=>True) (fun fuel cs x hl h => ?_) hf;obtain⟨c0,c1,c2,c3,rfl⟩:=plist4 hl;obtain⟨xs,m,_,_,_,hlen,hfs⟩:=DataW.trod_struct Tryz.underlying106 h;obtain⟨y0,y1,y2,y3,rfl⟩:=plist4 (by simpa using hlen);obtain⟨a,e0,_,_⟩:=DataW.trod_int Tryz.underlying3 (hfs 0 _ rfl);obtain⟨b,e1,_,_⟩:=DataW.trod_int Tryz.underlying3 (hfs 1 _ rfl);obtain⟨c,e2,_,_⟩:=DataW.trod_int Tryz.underlying3 (hfs 2 _ rfl);obtain⟨d,e3,_,_⟩:=DataW.trod_int Tryz.underlying3 (hfs 3 _ rfl);refine⟨⟨a,b,c,d⟩,fun j hj => ?_,trivial⟩;rw[one_of e0,one_of e1,one_of e2,one_of e3];rcases(by omega:j=0∨j=1∨j=2∨j=3) with q | q | q | q<;>subst q<;>rfl
theorem dos_many {H:Type}{enc:TypeId×Value→H}{W:World}{ao:Option Addr}{n cap:Nat}{fuel:Nat}{x:DataW H×List MemPlace}
  (hf:DataW.trod enc Tryz.prog W 0 (fun _=>true) true fuel 26 [.slice ao n cap]=some x) (hz:(x.1.weights Tryz.prog 26).all (·≤reachBytes)=true):n*32≤reachBytes:=by
 rcases Deep.open_slice Tryz.underlying26 hf with⟨hcs,_⟩ | ⟨a,len,cap',m,k,D,Pl,hcs,_,hl,hm,hmm,hx,_⟩
 ·simp at hcs;omega
 ·simp at hcs;obtain⟨_,rfl,rfl⟩:=hcs;rw[if_pos rfl] at hmm;rw[hx] at hz;unfold DataW.weights at hz;rw[Tryz.underlying26] at hz;simp only[List.all_cons,Bool.and_eq_true,decide_eq_true_eq,List.length_map,List.length_range,bytesDo] at hz;have:=hz.1;omega
theorem dos_in {H:Type}{enc:TypeId×Value→H}{W:World}{base:Nat}{v:Value}{D:DataW H}{ps:List MemPlace}
  (hv:Value.okWide Tryz.prog W .any base 26 v) (h:DataW.Trod enc Tryz.prog W 0 (fun _=>true) true 26 v D ps) :
  ∃(ao:Option Addr) (n cap:Nat) (ds:Nat→Dn),v=.slice ao n cap∧DRow W ao n cap ds∧NilOk ao n cap∧n≤9223372036854775807∧((D.weights Tryz.prog 26).all (·≤reachBytes)=true→n*32≤reachBytes):=by
 obtain⟨a0,len0,cap0,rfl⟩:=okWide_slice Tryz.underlying26 hv;obtain⟨fuel,hf⟩:=h;obtain⟨ao,n,cap,ds,e,h1,h2,h3,_⟩:=dos_cell hf;have e2:=e;injection e2 with e3 e4 e5;subst e3 e4 e5;exact⟨_,_,_,ds,rfl,h1,h2,h3,fun hz=>dos_many hf hz⟩
end
section
open Go.RowKit
open Tk (Md)
def opM (m:Mi) (port:Int):Bool:=if 0≤Bk.idx m.ports port m.ports.length∧Bk.idx m.ports port m.ports.length≤(m.calm.length:Int)-1 then decide (50≤m.calm.getD (Bk.idx m.ports port m.ports.length).toNat 0) else false
def opT (t:List Tr) (tree bridge port:Int):Bool:=if (0≤tree∧tree≤(t.length:Int)-1)∧(0≤bridge∧bridge≤((tat t tree.toNat).l.length:Int)-1) then opM (mat (tat t tree.toNat).l bridge.toNat) port else false
theorem topens_any (oao:Option Addr) (ocap:Nat) (t:List Tr) (tree bridge port:Int) (w:World) (ht:TrRow w oao ocap t) :
  Calls Tryz.prog 79 #[.agg #[.slice oao t.length ocap],.int .i64 tree,.int .i64 bridge,.int .i64 port] w fun e w'=>e=.returned (.bool (opT t tree bridge port))∧Bl w w':=by
 obtain⟨X,HX⟩:∃X,Hid (X=w.alloc (.cells #[.slice oao t.length ocap] 34)):=⟨_,rfl⟩
 have hXB:Bl w X:=(by rw[HX.out];exact bA1 _ _)
 have hX0:X.heap[w.heap.size]?=some (.cells #[.slice oao t.length ocap] 34):=(by rw[HX.out];exact heap_alloc_last _ _)
 have c0:X.cell? ⟨w.heap.size,0,none⟩=some (.slice oao t.length ocap):=cell_of_row X _ 0 _ _ _ hX0;have hmany:=ht.many;have hcap:=ht.row.1;by_cases h1:0≤tree∧tree≤(t.length:Int)-1
 ·obtain⟨k,rfl⟩:∃k:Nat,tree=(k:Int):=⟨tree.toNat,by omega⟩
  have hk:k<t.length:=(by omega)
  have hrow:=ht.below hXB;obtain⟨b,off,rfl,_⟩:=hrow.place (by omega);have c1:=hrow.cell hk;have hm:=hrow.each k hk;have ik:(0:Int)≤(k:Int):=(by omega)
  have nk:(k:Int)<(t.length:Int):=(by omega)
  have hmm:=hm.many;have hmc:=hm.row.1;have HOP:Hid (opT t k bridge port=if 0≤bridge∧bridge≤((tat t k).l.length:Int)-1 then opM (mat (tat t k).l bridge.toNat) port else false):=by
   show(if (0≤(k:Int)∧(k:Int)≤(t.length:Int)-1)∧(0≤bridge∧bridge≤((tat t ((k:Int)).toNat).l.length:Int)-1) then opM (mat (tat t ((k:Int)).toNat).l bridge.toNat) port else false)=_;rw[Int.toNat_natCast];by_cases z:0≤bridge∧bridge≤((tat t k).l.length:Int)-1
   ·rw[if_pos ⟨h1,z⟩,if_pos z]
   ·rw[if_neg (fun q=>z q.2),if_neg z]
  generalize tat t k=x at *;by_cases h2:0≤bridge∧bridge≤(x.l.length:Int)-1
  ·obtain⟨i,rfl⟩:∃i:Nat,bridge=(i:Int):=⟨bridge.toNat,by omega⟩
   have hi:i<x.l.length:=(by omega)
   obtain⟨xa,xc,xl⟩:=x;simp only at *;obtain⟨b2,off2,rfl,_⟩:=hm.place (by omega);obtain⟨d0,d1,d2,d3,d4,d5,d6,d7,d8⟩:=hm.cells hi;have hmi:=hm.each i hi;have ii:(0:Int)≤(i:Int):=(by omega)
   have ni:(i:Int)<(xl.length:Int):=(by omega)
   rw[Int.toNat_natCast,if_pos h2] at HOP;generalize mat xl i=m at *;obtain⟨Y,HY⟩:∃Y,Hid (Y=X.alloc (.cells #[.int .u64 m.md.v.root,.int .i64 m.md.v.cost,.int .u64 m.md.v.bridge,.int .i64 m.md.v.port,.int .i64 m.md.age,.int .i64 m.md.rp,.slice m.po m.ports.length m.pc,.slice m.ro m.roles.length m.rc,.slice m.co m.calm.length m.cc] 117)):=⟨_,rfl⟩
   have hYB:Bl X Y:=(by rw[HY.out];exact bA1 _ _)
   have hY0:Y.heap[X.heap.size]?=some (.cells #[.int .u64 m.md.v.root,.int .i64 m.md.v.cost,.int .u64 m.md.v.bridge,.int .i64 m.md.v.port,.int .i64 m.md.age,.int .i64 m.md.rp,.slice m.po m.ports.length m.pc,.slice m.ro m.roles.length m.rc,.slice m.co m.calm.length m.cc] 117):=(by rw[HY.out];exact heap_alloc_last _ _)
   have y6:Y.cell? ⟨X.heap.size,6,none⟩=some (.slice m.po m.ports.length m.pc):=cell_of_row Y _ 6 _ _ _ hY0;have y8:Y.cell? ⟨X.heap.size,8,none⟩=some (.slice m.co m.calm.length m.cc):=cell_of_row Y _ 8 _ _ _ hY0;have hXs:X.heap.size=w.heap.size+1:=(by rw[HX.out];simp)
   rw[hXs] at y8;have HIX:Hid (Calls Tryz.prog 119 #[.slice m.po m.ports.length m.pc,.int .i64 port] Y fun e w'=>e=.returned (.int .i64 (Bk.idx m.ports port m.ports.length))∧w'=Y):=bindex_any m.po m.pc m.ports port Y hmi.pn (hmi.ports.below hYB);have HWY:Hid (Bl w Y):=hXB.trans (hYB.mono hXB.size);have hcn:=hmi.cn;have hco:=hmi.calm.below hYB;have hcc:=hco.1;have HM:Hid (opM m port=if 0≤Bk.idx m.ports port m.ports.length∧Bk.idx m.ports port m.ports.length≤(m.calm.length:Int)-1 then decide (50≤m.calm.getD (Bk.idx m.ports port m.ports.length).toNat 0) else false):=rfl;generalize Bk.idx m.ports port m.ports.length=ix at *;rw[HX.out] at c0 c1 d0 d1 d2 d3 d4 d5 d6 d7 d8;have z6:=y6;rw[HY.out,HX.out] at z6;clear hrow hm hmi hXB hX0 hYB hY0 ht;go_enter Tryz.func79,Tryz.ntmps79;(go_wp2_with fail);refine(vwithin_any _ _ _ _).mono ?_;rintro e w1 ⟨rfl,rfl⟩;rw[decide_eq_true h1];(go_wp2_with fail);refine(vwithin_any _ _ _ _).mono ?_;rintro e w1 ⟨rfl,rfl⟩;rw[decide_eq_true h2];(go_wp2_with fail);rw[←HX.out,←HY.out];refine HIX.out.mono ?_;rintro e w1 ⟨rfl,rfl⟩;clear c0 c1 d0 d1 d2 d3 d4 d5 d6 d7 d8 HIX z6;by_cases h3:0≤ix∧ix≤(m.calm.length:Int)-1
   ·obtain⟨j,rfl⟩:∃j:Nat,ix=(j:Int):=⟨ix.toNat,by omega⟩
    have hj:j<m.calm.length:=(by omega)
    obtain⟨b3,off3,e3,_⟩:=hco.place (by omega);rw[e3] at hco y8;have d9:=hco.cell hj;have jj:(0:Int)≤(j:Int):=(by omega)
    have nj:(j:Int)<(m.calm.length:Int):=(by omega)
    rw[Int.toNat_natCast,if_pos h3] at HM;clear hco;(go_wp2_with fail);refine(vwithin_any _ _ _ _).mono ?_;rintro e w1 ⟨rfl,rfl⟩;rw[decide_eq_true h3];(go_wp2_with fail);go_ret;exact⟨by rw[HOP.out,HM.out];first | rfl | simp[hj],HWY.out⟩
   ·rw[if_neg h3] at HM;clear hco;(go_wp2_with fail);refine(vwithin_any _ _ _ _).mono ?_;rintro e w1 ⟨rfl,rfl⟩;rw[decide_eq_false h3];(go_wp2_with fail);go_ret;exact⟨by rw[HOP.out,HM.out];rfl,HWY.out⟩
  ·rw[if_neg h2] at HOP;have HWX:Hid (Bl w X):=hXB;rw[HX.out] at c0 c1;clear hrow hm hXB hX0 ht;go_enter Tryz.func79,Tryz.ntmps79;(go_wp2_with fail);refine(vwithin_any _ _ _ _).mono ?_;rintro e w1 ⟨rfl,rfl⟩;rw[decide_eq_true h1];(go_wp2_with fail);refine(vwithin_any _ _ _ _).mono ?_;rintro e w1 ⟨rfl,rfl⟩;rw[decide_eq_false h2];(go_wp2_with fail);rw[←HX.out];go_ret;exact⟨by rw[HOP.out];rfl,HWX.out⟩
 ·have HOP:Hid (opT t tree bridge port=false):=if_neg (fun q=>h1 q.1);have HWX:Hid (Bl w X):=hXB;rw[HX.out] at c0;clear hXB hX0 ht;go_enter Tryz.func79,Tryz.ntmps79;(go_wp2_with fail);refine(vwithin_any _ _ _ _).mono ?_;rintro e w1 ⟨rfl,rfl⟩;rw[decide_eq_false h1];(go_wp2_with fail);rw[←HX.out];go_ret;exact⟨by rw[HOP.out];rfl,HWX.out⟩
end
section
open Go.RowKit
def OpAt (W:World) (g n:Nat) (th:Nat→Bool):Prop:=W.heap[g]?=some (.cells (rowC n 1 (fun i _=>.bool (th i))) 4)
theorem OpAt.cell {W:World}{g n:Nat}{th:Nat→Bool}(h:OpAt W g n th) {i:Nat}(hi:i<n):W.cell? ⟨g,i,none⟩=some (.bool (th i))∧W.frozen? ⟨g,i,none⟩=false:=by
 have h1:=rowC_cell h hi (show 0<1 by omega);rw[show i*1+0=i by omega] at h1;exact⟨h1,frozen_of_row _ _ _ _ _ h⟩
theorem OpAt.set {W:World}{g n:Nat}{th:Nat→Bool}(h:OpAt W g n th) {i:Nat}(hi:i<n) (z:Bool):OpAt (W.setCell ⟨g,i,none⟩ (.bool z)) g n (fun j=>if j=i then z else th j):=by
 have h0:=rowC_set h hi (show 0<1 by omega) (.bool z);rw[show i*1+0=i by omega] at h0;unfold OpAt;rw[h0,rC2 (d:=fun j _=>.bool (if j=i then z else th j)) (fun j _ m hm => ?_)];unfold updC;obtain rfl:m=0:=by omega
 by_cases e:j=i
 ·rw[if_pos ⟨e,rfl⟩,if_pos e]
 ·rw[if_neg (fun q=>e q.1),if_neg e]
theorem OpAt.congr {W:World}{g n:Nat}{th h:Nat→Bool}(hr:OpAt W g n th) (e:∀i,i<n→th i=h i):OpAt W g n h:=by
 unfold OpAt at hr ⊢;rw[hr,rC2 (fun i hi j _=>by rw[e i hi])]
theorem OpAt.below {W W':World}{g n:Nat}{th:Nat→Bool}(h:OpAt W g n th) (hb:Bl W W'):OpAt W' g n th:=keep h hb
def gopen (t:List Tr) (bridge port:Int) (k:Nat):Bool:=decide (port=0)||opT t (k:Int) bridge port
theorem jopen_any (port bridge:Int) (TB BB:Nat) (oao:Option Addr) (ocap:Nat) (t:List Tr) (w:World) (hT:w.heap[TB]?=some (.cells #[.slice oao t.length ocap] 34)) (hB:w.heap[BB]?=some (.cells #[.int .i64 bridge] 3)) (htr:TrRow w oao ocap t) (h4:t.length≤4) :
  Calls Tryz.prog 78 #[.int .i64 port,.pointer (some ⟨TB,0,none⟩),.pointer (some ⟨BB,0,none⟩)] w fun e w'=>∃g,e=.returned (.slice (some ⟨g,0,none⟩) t.length t.length)∧Hid (w.heap.size≤g∧OpAt w' g t.length (gopen t bridge port)∧Bl w w'):=by
 have HC:Hid (∀V,Bl w V→V.cell? ⟨TB,0,none⟩=some (.slice oao t.length ocap)∧V.cell? ⟨BB,0,none⟩=some (.int .i64 bridge)∧TrRow V oao ocap t):=fun V hV=>⟨cell_of_row _ _ 0 _ _ _ (keep hT hV),cell_of_row _ _ 0 _ _ _ (keep hB hV),htr.below hV⟩
 obtain⟨G,HG⟩:∃G,Hid (G=w.heap.size):=⟨_,rfl⟩
 have hmk:(Instr.makeSlice 50 (.int .i64 (t.length:Int)) (.int .i64 (t.length:Int))).run Tryz.prog w=.ok (.slice (some ⟨w.heap.size,0,none⟩) t.length t.length) (w.alloc (.cells (rowC t.length 1 (fun _ _=>.bool false)) 4)):=make_rowD w 50 4 (.bool false) 1 1 t.length Tryz.underlying50 (show(Tryz.prog.info? 4).map (fun i=>(i.zero,i.size,i.bytes))=some (some (.bool false),1,1) by kernel_rfl) (by omega) rfl (by omega) (by omega) _ (fun _ j hj=>by rw[show j=0 by omega];rfl);obtain⟨X,HX⟩:∃X,Hid (X=w.alloc (.cells (rowC t.length 1 (fun _ _=>.bool false)) 4)):=⟨_,rfl⟩
 have H0:Hid (OpAt X G t.length (fun k=>if k<0 then gopen t bridge port k else false)∧Bl w X):=by
  rw[HX.out,HG.out];refine⟨?_,bA1 _ _⟩;unfold OpAt;rw[heap_alloc_last];rfl
 obtain⟨c0,c1,_⟩:=HC.out w (Below.refl _ _);clear hT hB htr;go_enter Tryz.func78,Tryz.ntmps78;(go_wp2_with fail);rw[←HX.out];rw[←HG.out];clear c0 c1 hmk;go_loopw [13] (fun i wr=>∃j:Nat,j≤t.length∧i=.int .i64 j∧Hid (OpAt wr G t.length (fun k=>if k<j then gopen t bridge port k else false)∧Bl w wr)) (fun i _=>t.length-(intOf i).toNat)
 case atStart=>exact⟨0,by omega,rfl,H0⟩
 case round =>
  obtain⟨j,hj,rfl,hB⟩:=hrel;clear H0;by_cases hlt:j<t.length
  ·have hi:(j:Int)<(t.length:Int):=(by omega)
   have hi0:(0:Int)≤(j:Int):=(by omega)
   obtain⟨c0,c1,htr⟩:=HC.out wr hB.out.2;obtain⟨g0,f0⟩:=hB.out.1.cell hlt;have wj:IntKind.i64.wrap ((j:Int)+1)=((j+1:Nat):Int):=(by rw[IntKind.wrap_i64];omega)
   have HGL:Hid (w.heap.size≤G):=(by rw[HG.out];exact Nat.le_refl _)
   have HN:Hid (∀V,Bl wr V→OpAt (V.setCell ⟨G,j,none⟩ (.bool (gopen t bridge port j))) G t.length (fun k=>if k<j+1 then gopen t bridge port k else false)∧Bl w (V.setCell ⟨G,j,none⟩ (.bool (gopen t bridge port j)))):=fun V hV=>by
    refine⟨((hB.out.1.below hV).set hlt _).congr (fun i hi => ?_),(hB.out.2.trans (hV.mono hB.out.2.size)).setCell HGL.out _⟩;by_cases e:i=j
    ·subst e;rw[if_pos rfl,if_pos (by omega)]
    ·rw[if_neg e];by_cases e2:i<j
     ·rw[if_pos e2,if_pos (by omega)]
     ·rw[if_neg e2,if_neg (by omega)]
   by_cases hp:port=0
   ·have hg:gopen t bridge port j=true:=(by unfold gopen;rw[decide_eq_true hp];rfl)
    rw[hg] at HN;subst hp;clear hB htr hg;(go_wp2_with fail);exact⟨⟨j+1,by omega,by go_num,HN.out _ (Below.refl _ _)⟩,by simp[intOf];omega⟩
   ·have hg:gopen t bridge port j=opT t (j:Int) bridge port:=(by unfold gopen;rw[decide_eq_false hp];rfl)
    rw[hg] at HN;have hpb:(port == 0)=false:=(by simpa using hp)
    have HO:Hid (Calls Tryz.prog 79 #[.agg #[.slice oao t.length ocap],.int .i64 (j:Int),.int .i64 bridge,.int .i64 port] wr fun e w'=>e=.returned (.bool (opT t (j:Int) bridge port))∧Bl wr w'):=topens_any oao ocap t (j:Int) bridge port wr htr;have HCE:Hid (∀V,Bl wr V→V.cell? ⟨G,j,none⟩=some (.bool (if j<j then gopen t bridge port j else false))∧V.frozen? ⟨G,j,none⟩=false):=fun V hV=>(hB.out.1.below hV).cell hlt;clear hB htr hg;(go_wp2_with fail);refine HO.out.mono ?_;rintro e w2 ⟨rfl,hb2⟩;obtain⟨g1,f1⟩:=HCE.out w2 hb2;have HN2:Hid _:=HN.out w2 hb2;clear HO HCE HN hb2 g0 f0;(go_wp2_with fail);exact⟨⟨j+1,by omega,by go_num,HN2⟩,by simp[intOf];omega⟩
  ·obtain rfl:j=t.length:=by omega
   have hi:¬(t.length:Int)<(t.length:Int):=(by omega)
   have HF:Hid (w.heap.size≤G∧OpAt wr G t.length (gopen t bridge port)∧Bl w wr):=⟨by rw[HG.out];exact Nat.le_refl _,hB.out.1.congr (fun i hi=>by rw[if_pos hi]),hB.out.2⟩
   clear hB HC;(go_wp2_with fail);go_ret;exact⟨G,rfl,HF⟩
end
end Go.Proofs.YtelebnancdjjiaaGreatDoor
