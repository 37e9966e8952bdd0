/- walks: package talk's Start -/
import Derived.Test.YtflghpnpjmodaaaGreatDoorH33
import Derived.Test.YtflghpnpjmodaaaGreatDoorH09
import Derived.Test.YtflghpnpjmodaaaGreatDoorH24
set_option maxRecDepth 100000
set_option maxHeartbeats 40000000
namespace Go.Proofs.YtflghpnpjmodaaaGreatDoor
section
open Go.RowKit
open Vc (V Of)
open Pl (En Lk Br Net)
open Tk (Md Mnd Cn Sc Dn ixM ilist lst3 ilm)
theorem infoMs:(Tryz.prog.info? 50).map (fun i=>(i.zero,i.size,i.bytes))=some (some (.slice none 0 0),1,24):=by kernel_rfl
theorem tstart_any (n:Net) (trees:Int) (w:World) (hwf:n.Wf) (hat:n.at' w) :
  Calls Tryz.prog 38 #[n.val,.int .i64 trees] w fun e w'=>StartW w n trees e w':=by
 obtain⟨X,HX⟩:∃X,Hid (X=((w.alloc (.cells #[.slice n.bao n.K n.bcap,.slice n.lao n.L n.lcap] 32)).alloc (.cells #[.slice none 0 0] 43)).alloc (.cells #[.int .i64 0,.int .i64 0] 26)):=⟨_,rfl⟩
 have hXB:Bl w X:=(by rw[HX.out];exact(bA2 _ _ _).alloc (by simp;omega) _)
 have s2:X.heap.size=w.heap.size+1+1+1:=(by rw[HX.out];simp)
 have g0:X.heap[w.heap.size]?=some (.cells #[.slice n.bao n.K n.bcap,.slice n.lao n.L n.lcap] 32):=(by rw[HX.out];exact keep (heap_alloc2_old _ _ _) (bA1 _ _))
 have g1:X.heap[w.heap.size+1]?=some (.cells #[.slice none 0 0] 43):=(by rw[HX.out];exact keep (heap_alloc2_new _ _ _) (bA1 _ _))
 have g2:X.heap[w.heap.size+1+1]?=some (.cells #[.int .i64 0,.int .i64 0] 26):=by
  have:w.heap.size+1+1=((w.alloc (.cells #[.slice n.bao n.K n.bcap,.slice n.lao n.L n.lcap] 32)).alloc (.cells #[.slice none 0 0] 43)).heap.size:=by simp
  rw[HX.out,this];exact heap_alloc_last _ _
 obtain⟨BN,HBN⟩:∃BN,Hid (BN=w.heap.size):=⟨_,rfl⟩
 obtain⟨RT,HRT⟩:∃RT,Hid (RT=w.heap.size+1):=⟨_,rfl⟩
 obtain⟨RF,HRF⟩:∃RF,Hid (RF=w.heap.size+1+1):=⟨_,rfl⟩
 rw[←HBN.out] at g0;rw[←HRT.out] at g1;rw[←HRF.out] at g2;have ne3:RT≠RF:=(by have:=HRT.out;have:=HRF.out;omega)
 have le2:w.heap.size≤RT:=(by have:=HRT.out;omega)
 have le3:w.heap.size≤RF:=(by have:=HRF.out;omega)
 have lt2:RT<X.heap.size:=(by have:=HRT.out;omega)
 have lt3:RF<X.heap.size:=(by have:=HRF.out;omega)
 have HC:Hid (∀V,Bl X V→(V.cell? ⟨BN,0,none⟩=some (.slice n.bao n.K n.bcap)∧V.cell? ⟨BN,1,none⟩=some (.slice n.lao n.L n.lcap))∧V.cell? ⟨RT,0,none⟩=some (.slice none 0 0)∧(V.cell? ⟨RF,0,none⟩=some (.int .i64 0)∧V.cell? ⟨RF,1,none⟩=some (.int .i64 0))∧V.frozen? ⟨RT,0,none⟩=false∧V.frozen? ⟨RF,0,none⟩=false∧V.frozen? ⟨RF,1,none⟩=false):=fun V hV =>
  ⟨tC2 (keep g0 hV),one_cell (keep g1 hV),tC2 (keep g2 hV),frozen_of_row _ _ _ _ _ (keep g1 hV),frozen_of_row _ _ _ _ _ (keep g2 hV),frozen_of_row _ _ _ _ _ (keep g2 hV)⟩
 have HH:Hid (∀V,Bl X V→V.heap[RT]?=some (.cells #[.slice none 0 0] 43)∧V.heap[RF]?=some (.cells #[.int .i64 0,.int .i64 0] 26)∧Bl w V):=fun V hV=>⟨keep g1 hV,keep g2 hV,hXB.trans (hV.mono hXB.size)⟩
 have HBN2:Hid (∀V,Bl X V→V.heap[BN]?=some (.cells #[.slice n.bao n.K n.bcap,.slice n.lao n.L n.lcap] 32)):=fun V hV=>keep g0 hV;have HWR:Hid (Calls Tryz.prog 31 #[.agg #[.slice n.bao n.K n.bcap,.slice n.lao n.L n.lcap]] X fun e w'=>e=.returned (.agg #[.int .i64 n.wrong.1,.int .i64 n.wrong.2])∧Hid (Bl X w')):=(pwrong_any n X (hat.below hXB) hwf).mono (fun e w' h=>⟨h.1,h.2⟩);have HAT:Hid (∀V,Bl X V→n.at' V):=fun V hV=>hat.below (hXB.trans (hV.mono hXB.size));have HRG:Hid (n.wrong.1=0→n.Right):=right_of hwf;have g0':=HC.out X (Below.refl _ _);clear hwf hat s2 hXB g0 g1 g2;simp only[Pl.Net.val];go_enter Tryz.func38,Tryz.ntmps38;obtain⟨⟨x0,x1⟩,_⟩:=g0';rw[HX.out,HBN.out] at x0 x1;(go_wp2_with fail);rw[←HX.out,←HRF.out,←HRT.out,←HBN.out];refine HWR.out.mono ?_;rintro e w1 ⟨rfl,H1⟩;clear x0 x1 HWR;obtain⟨V1,HV1⟩:∃V1,Hid (V1=w1.alloc (.cells #[.int .i64 n.wrong.1,.int .i64 n.wrong.2] 26)):=⟨_,rfl⟩
 have hV1:Bl X V1:=(by rw[HV1.out];exact H1.out.alloc H1.out.size _)
 have f0:V1.cell? ⟨w1.heap.size,0,none⟩=some (.int .i64 n.wrong.1)∧V1.cell? ⟨w1.heap.size,1,none⟩=some (.int .i64 n.wrong.2):=tC2 (by rw[HV1.out];exact heap_alloc_last _ _);obtain⟨f0,f1⟩:=f0;obtain⟨⟨p0,p1⟩,p2,⟨p3,p4⟩,q2,q3,q4⟩:=HC.out V1 hV1;have y0:=f0;rw[HV1.out] at y0;by_cases q:n.wrong.1=0
 ·have HR:Hid n.Right:=HRG.out q;have HWI:Hid (Calls Tryz.prog 32 #[.int .i64 trees,.int .i64 1,.int .i64 4] V1 fun e w'=>e=.returned (.bool (decide (1≤trees∧trees≤4)))∧w'=V1):=vwithin_any trees 1 4 V1;by_cases ht:1≤trees∧trees≤4
  ·obtain⟨T,rfl⟩:∃T:Nat,trees=(T:Int):=⟨trees.toNat,by omega⟩
   have HT:Hid (1≤T∧T≤4):=⟨by omega,by omega⟩
   have hT4:T≤4:=(by omega)
   have hK12:n.K≤12:=HR.out.few;have HE:Hid (stErr n T=(0,0)):=by
    show(if n.wrong.1≠0 then n.wrong else if ¬(1≤(T:Int)∧(T:Int)≤4) then(3,0) else(0,0))=_;rw[if_neg (fun z=>z q),if_neg (fun z=>z ht)]
   have hmk:∀W:World,(Instr.makeSlice 41 (.int .i64 (T:Int)) (.int .i64 (T:Int))).run Tryz.prog W=.ok (.slice (some ⟨W.heap.size,0,none⟩) T T) (W.alloc (.cells (rowC T 1 (fun _ _=>.slice none 0 0)) 50)):=fun W=>make_rowD W 41 50 _ 1 24 T Tryz.underlying41 infoMs (by omega) rfl (by omega) (by omega) _ (fun _ j hj=>by rw[show j=0 by omega];rfl);rw[decide_eq_true ht] at HWI;obtain⟨Y,HY⟩:∃Y,Hid (Y=(V1.alloc (.cells (rowC T 1 (fun _ _=>.slice none 0 0)) 50)).alloc (.cells #[.slice (some ⟨V1.heap.size,0,none⟩) T T] 43)):=⟨_,rfl⟩
   obtain⟨G,HG⟩:∃G,Hid (G=V1.heap.size):=⟨_,rfl⟩
   obtain⟨TB,HTB⟩:∃TB,Hid (TB=G+1):=⟨_,rfl⟩
   have hYB:Bl V1 Y:=(by rw[HY.out];exact bA2 _ _ _)
   have hYG:Y.heap[G]?=some (.cells (rowC T 1 (fun _ _=>.slice none 0 0)) 50):=(by rw[HY.out,HG.out];exact heap_alloc2_old _ _ _)
   have hYT:Y.heap[TB]?=some (.cells #[.slice (some ⟨G,0,none⟩) T T] 43):=(by rw[HY.out,HTB.out,HG.out];exact heap_alloc2_new _ _ _)
   have hXY:Bl X Y:=hV1.trans (hYB.mono hV1.size);have hGX:X.heap.size≤G:=(by rw[HG.out];exact hV1.size)
   have hneG:TB≠G:=(by have:=HG.out;have:=HTB.out;omega)
   have HBX:Hid (∀V,Bt (fun q=>q=G) Y V→Bl X V):=fun V hV=>hXY.trans (hV.below hXY.size (fun q hq e=>by omega));have HTK:Hid (∀V,Bt (fun q=>q=G) Y V→V.heap[TB]?=some (.cells #[.slice (some ⟨G,0,none⟩) T T] 43)):=fun V hV=>hV.keep hYT hneG;have HS0:Hid (∃vs ls,StA Y Y n T G vs ls 0):=⟨fun _=>.slice none 0 0,fun _=>[],hYG,fun j hj=>absurd hj (by omega),fun _ _=>rfl,Bt.refl _ _⟩
   have yT:=one_cell hYT;have r0:=p0;have r1:=p1;rw[HV1.out] at r0 r1;clear f0 f1 p0 p1 p2 p3 p4 q2 q3 q4 ht hYB hYG hYT hXY hV1 HRG;generalize n.wrong.1=r5 at *;generalize n.wrong.2=r6 at *;subst q;(go_wp2_with fail);rw[←HV1.out];refine HWI.out.mono ?_;rintro e w' ⟨rfl,rfl⟩;clear y0 r0 r1 HWI;have zT:=yT;rw[HY.out,HTB.out,HG.out] at zT;(go_wp2_with fail);rw[←HY.out,←HG.out,←HTB.out];clear zT yT;go_loopw [29] (fun q wr=>∃k:Nat,k≤T∧q=.int .i64 k∧Hid (∃vs ls,StA wr Y n T G vs ls k)) (fun q _=>T-(intOf q).toNat)
   case atStart=>exact⟨0,by omega,rfl,HS0⟩
   case round =>
    obtain⟨k,hk,rfl,hS⟩:=hrel;clear HS0;by_cases hlt:k<T
    ·obtain⟨vs,ls,hA⟩:=hS.out;have hXr:=HBX.out wr hA.bt;obtain⟨⟨p0,p1⟩,_⟩:=HC.out wr hXr;have HA:Hid (StA wr Y n T G vs ls k):=hA;have HI0:Hid (∃l,StI wr wr n T G k 0 vs (.slice none 0 0) l):=⟨[],by
      refine⟨?_,OwnM.nil _ _,rfl,fun x hx=>absurd hx (by omega),Bt.refl _ _⟩;rw[hA.out,rC2 (d:=fun j _=>upF vs k (.slice none 0 0) j) (fun j _ x _ => ?_)];by_cases q:j=k
      ·subst q;rw[upF_same];exact hA.rest j (Nat.le_refl _)
      ·rw[upF_other _ _ q]⟩
     clear hS hA hXr;(go_wp2_with fail);clear p0 p1;obtain⟨wo,hwo⟩:∃wo:World,wo=wr:=⟨wr,rfl⟩
     subst hwo;go_loopw [35] (fun q wr=>∃i:Nat,i≤n.K∧q=.int .i64 i∧∃va vc,Hid (∃l,StI wr wo n T G k i vs (.slice va i vc) l)) (fun q _=>n.K-(intOf q).toNat)
     case atStart=>exact⟨0,by omega,rfl,none,0,HI0⟩
     case round =>
      obtain⟨i,hi,rfl,va,vc,hI⟩:=hrel;clear HI0;by_cases hlt2:i<n.K
      ·obtain⟨l,hJ⟩:=hI.out;have hYx:=HA.out.bt.trans hJ.bt;have hXx:=HBX.out wr hYx;have hnx:=HAT.out wr hXx;obtain⟨bb,boff,eB,_⟩:=CRow.some hnx.brs (by omega);have hrow:=hnx.brs;have hbcap:=hrow.1;rw[eB] at hrow ⊢;obtain⟨c0,c1,c2,c3,c4⟩:=BRow.cells hrow hlt2;obtain⟨Z,HZZ⟩:∃Z,Hid (Z=wr.alloc (.cells #[.int .u64 (n.bs i).addr,.slice (n.bs i).pao (n.bs i).pn (n.bs i).pcap,.string (n.bs i).reg.s,.int .i64 (n.bs i).reg.rev,.slice (n.bs i).reg.ao (n.bs i).reg.n (n.bs i).reg.cap] 58)):=⟨_,rfl⟩
       obtain⟨Bz,HBz⟩:∃Bz,Hid (Bz=wr.heap.size):=⟨_,rfl⟩
       have hZB:Bl wr Z:=(by rw[HZZ.out];exact bA1 _ _)
       have hZz:Z.heap[Bz]?=some (.cells #[.int .u64 (n.bs i).addr,.slice (n.bs i).pao (n.bs i).pn (n.bs i).pcap,.string (n.bs i).reg.s,.int .i64 (n.bs i).reg.rev,.slice (n.bs i).reg.ao (n.bs i).reg.n (n.bs i).reg.cap] 58):=(by rw[HZZ.out,HBz.out];exact heap_alloc_last _ _)
       have hbZ:wr.heap.size≤Z.heap.size:=hZB.size;have HCC:Hid (∀V,Bl Z V→V.cell? ⟨TB,0,none⟩=some (.slice (some ⟨G,0,none⟩) T T)∧V.cell? ⟨G,k,none⟩=some (.slice va i vc)∧(V.cell? ⟨Bz,0,none⟩=some (.int .u64 (n.bs i).addr)∧V.cell? ⟨Bz,1,none⟩=some (.slice (n.bs i).pao (n.bs i).pn (n.bs i).pcap)∧V.cell? ⟨Bz,2,none⟩=some (.string (n.bs i).reg.s)∧V.cell? ⟨Bz,3,none⟩=some (.int .i64 (n.bs i).reg.rev)∧V.cell? ⟨Bz,4,none⟩=some (.slice (n.bs i).reg.ao (n.bs i).reg.n (n.bs i).reg.cap))∧V.cell? ⟨BN,1,none⟩=some (.slice n.lao n.L n.lcap)):=fun V hV=>by
        have h1:Bl wr V:=hZB.trans (hV.mono hbZ);have h2:=keep hZz hV;have h3:=rowC_cell (keep hJ.out h1) hlt (show 0<1 by omega);rw[show k*1+0=k by omega,upF_same] at h3;exact⟨one_cell (keep (HTK.out wr hYx) h1),h3,⟨cell_of_row V Bz 0 _ _ _ h2,cell_of_row V Bz 1 _ _ _ h2,cell_of_row V Bz 2 _ _ _ h2,cell_of_row V Bz 3 _ _ _ h2,cell_of_row V Bz 4 _ _ _ h2⟩,(HC.out V (hXx.trans (h1.mono hXx.size))).1.2⟩
       have HID:Hid (∀V,Bl Z V→Calls Tryz.prog 17 #[.agg #[.int .u64 (n.bs i).addr,.slice (n.bs i).pao (n.bs i).pn (n.bs i).pcap,.string (n.bs i).reg.s,.int .i64 (n.bs i).reg.rev,.slice (n.bs i).reg.ao (n.bs i).reg.n (n.bs i).reg.cap],.int .i64 (k:Int)] V fun e w'=>e=.returned (.int .u64 (n.ids k i))∧Hid (Bl Z w'∧Bl V w')):=fun V hV=>by
        have h1:Bl wr V:=hZB.trans (hV.mono hbZ);exact(pident_any (n.bs i) k V ((hnx.each i hlt2).below h1) (HR.out.fine i hlt2)).mono (fun e w' h=>⟨h.1,hV.trans (h.2.mono hV.size),h.2⟩)
       have hpl:(n.pts i).length≤1000:=by
        have:=ends_few n i HR.out.fewL;have e:(n.pts i).length=(n.ends i).length:=(by unfold Pl.Net.pts;simp)
        omega
       have HPO:Hid (∀V,Bl Z V→Calls Tryz.prog 35 #[.slice n.lao n.L n.lcap,.int .i64 (i:Int)] V fun e w'=>∃pa pc,e=.returned (.slice pa (n.pts i).length pc)∧Hid (Bl Z w'∧w'.ownsRow Z.heap.size 3 1 (.slice pa (n.pts i).length pc) (n.pts i).length (intCells (n.pts i)))):=fun V hV=>by
        have h1:Bl wr V:=hZB.trans (hV.mono hbZ);refine(pports_own n.lao n.K n.L n.lcap n.ls n.live i V HR.out.fewL (hnx.below h1).lks HR.out.links).mono ?_;rintro e w' ⟨ao,cap,rfl,_,z2,_,z4⟩;exact⟨ao,cap,rfl,hV.trans (z2.mono hV.size),owns_mono z4 hV.size⟩
       have HFM:Hid (∀(V5 V:World) (pa:Option Addr) (pc:Nat),Hid (Bl Z V5∧V5.ownsRow Z.heap.size 3 1 (.slice pa (n.pts i).length pc) (n.pts i).length (intCells (n.pts i)))→Bl V5 V→Calls Tryz.prog 77 #[.int .u64 (n.ids k i),.slice pa (n.pts i).length pc] V fun e w'=>∃R C a1 c1 w7,e=.returned (.agg #[.int .u64 (n.ids k i),.int .i64 0,.int .u64 (n.ids k i),.int .i64 0,.int .i64 0,.int .i64 (-1),.slice pa (n.pts i).length pc,.slice (some ⟨R,0,none⟩) (n.pts i).length (n.pts i).length,.slice (some ⟨C,0,none⟩) (n.pts i).length (n.pts i).length])∧Hid (Bl Z w')∧Hid (runAppM (.slice va i vc) (.slice (some ⟨w'.heap.size,0,none⟩) 1 1) (w'.alloc (.cells #[.int .u64 (n.ids k i),.int .i64 0,.int .u64 (n.ids k i),.int .i64 0,.int .i64 0,.int .i64 (-1),.slice pa (n.pts i).length pc,.slice (some ⟨R,0,none⟩) (n.pts i).length (n.pts i).length,.slice (some ⟨C,0,none⟩) (n.pts i).length (n.pts i).length] 52)) (.slice a1 (i+1) c1) w7)∧Hid (w7.cell? ⟨TB,0,none⟩=some (.slice (some ⟨G,0,none⟩) T T)∧w7.cell? ⟨G,k,none⟩=some (.slice va i vc)∧(w7.cell? ⟨Bz,0,none⟩=some (.int .u64 (n.bs i).addr)∧w7.cell? ⟨Bz,1,none⟩=some (.slice (n.bs i).pao (n.bs i).pn (n.bs i).pcap)∧w7.cell? ⟨Bz,2,none⟩=some (.string (n.bs i).reg.s)∧w7.cell? ⟨Bz,3,none⟩=some (.int .i64 (n.bs i).reg.rev)∧w7.cell? ⟨Bz,4,none⟩=some (.slice (n.bs i).reg.ao (n.bs i).reg.n (n.bs i).reg.cap))∧w7.cell? ⟨BN,1,none⟩=some (.slice n.lao n.L n.lcap))∧(w7.cell? ⟨G,k,none⟩=some (.slice va i vc)∧w7.frozen? ⟨G,k,none⟩=false)∧Hid (∃l,StI (w7.setCell ⟨G,k,none⟩ (.slice a1 (i+1) c1)) wo n T G k (i+1) vs (.slice a1 (i+1) c1) l)):=fun V5 V pa pc h5 hV=>by
        obtain⟨h5a,h5b⟩:=h5.out;have hZV:Bl Z V:=h5a.trans (hV.mono h5a.size);refine(tfirst_any (n.ids k i) pa (n.pts i).length pc V hpl).mono ?_;rintro e w' ⟨R,C,rfl,z1,z2,⟨z3,z4⟩,z5⟩;have hZw:Bl Z w':=hZV.trans (z5.mono hZV.size);have hxw:Bl wr w':=hZB.trans (hZw.mono hbZ);have hrs:wo.heap.size≤wr.heap.size:=hJ.bt.size;have hrZ:wo.heap.size≤Z.heap.size:=Nat.le_trans hrs hbZ;have zV:=hZV.size;obtain⟨a1,m1,c1,w7,r1,r2,r3,r4,hq⟩:=more_m wo.heap.size w' (.slice va i vc) l ⟨⟨⟨n.ids k i,0,n.ids k i,0⟩,0,-1⟩,pa,pc,n.pts i,some ⟨R,0,none⟩,(n.pts i).length,zer (n.pts i).length,some ⟨C,0,none⟩,(n.pts i).length,zer (n.pts i).length⟩ (hJ.own.below hxw) ⟨owns_mono (ownsC_below (ownsC_below h5b hV) z5) hrZ,ZeroAt.owns z1 hpl (by omega),ZeroAt.owns z2 hpl (by omega)⟩ (by have:=hJ.len;have:=HR.out.few;omega) (by have:=hxw.size;omega);have el:(l++[(⟨⟨⟨n.ids k i,0,n.ids k i,0⟩,0,-1⟩,pa,pc,n.pts i,some ⟨R,0,none⟩,(n.pts i).length,zer (n.pts i).length,some ⟨C,0,none⟩,(n.pts i).length,zer (n.pts i).length⟩:Mi)]).length=i+1:=(by rw[List.length_append,hJ.len];rfl)
        rw[r2,el] at r1 r3;unfold miA at r1;rw[show(zer (n.pts i).length).length=(n.pts i).length from zer_len _] at r1;have hGr:G<wo.heap.size:=lt_some HA.out.out;have hb7:Below wo.heap.size wr w7:=(hxw.mono hrs).trans r4;have hG7:w7.heap[G]?=some (.cells (rowC T 1 (fun j _=>upF vs k (.slice va i vc) j)) 50):=(hb7.block G hGr).trans hJ.out;have e1:(⟨G,k,none⟩:Addr)=⟨G,k*1+0,none⟩:=(by simp)
        have hcG:=rowC_cell hG7 hlt (show 0<1 by omega);rw[show k*1+0=k by omega,upF_same] at hcG;have bT:=hq TB _ _ (keep (HTK.out wr hYx) hxw) (by decide);have bZ:=hq Bz _ _ (keep hZz hZw) (by decide);have bN:=hq BN _ _ (HBN2.out w' (hXx.trans (hxw.mono hXx.size))) (by decide);refine⟨R,C,a1,c1,w7,rfl,hZw,r1,⟨one_cell bT,hcG,⟨cell_of_row w7 Bz 0 _ _ _ bZ,cell_of_row w7 Bz 1 _ _ _ bZ,cell_of_row w7 Bz 2 _ _ _ bZ,cell_of_row w7 Bz 3 _ _ _ bZ,cell_of_row w7 Bz 4 _ _ _ bZ⟩,(tC2 bN).2⟩,⟨hcG,frozen_of_row _ _ _ _ _ hG7⟩,_,⟨?_,r3.keep (fun q cur ty hc ht=>heap_setCell_other _ _ _ _ (fun e => ?_)),el,fun x hx => ?_,?_⟩⟩
        ·rw[e1,rowC_set hG7 hlt (show 0<1 by omega),rC2 (d:=fun j _=>upF vs k (.slice a1 (i+1) c1) j) (fun j _ y hy => ?_)];unfold updC;by_cases q:j=k
         ·subst q;rw[if_pos ⟨rfl,by omega⟩,upF_same]
         ·rw[if_neg (fun z=>q z.1)];show upF vs k (Value.slice va i vc) j=_;rw[upF_other _ _ q,upF_other _ _ q]
        ·have e:q=G:=e;subst e;have:=cells_type hc hG7;rcases ht with ht | ht
         ·exact absurd (ht.symm.trans this) (by decide)
         ·exact absurd (ht.symm.trans this) (by decide)
        ·by_cases q:x<l.length
         ·rw[mat_left _ _ _ q];exact hJ.first x (by rw[←hJ.len];exact q)
         ·have hxi:x=l.length:=(by have:=hJ.len;omega)
          subst hxi;rw[mat_right _ _ _ (Nat.le_refl _),Nat.sub_self,hJ.len];exact⟨rfl,rfl,rfl,rfl⟩
        ·have bt:Bt (fun q=>q=G) wo w7:=⟨hb7.os.trans hJ.bt.os,hb7.tape.trans hJ.bt.tape,hb7.output.trans hJ.bt.output,Nat.le_trans hrs hb7.size,fun q hq' hn=>(hb7.block q hq').trans (hJ.bt.block q hq' hn)⟩
         exact bt.setCell (Or.inl rfl) _ _
       have HB0:Hid (Bl Z Z.drew):=Below.drew (Below.refl _ _);have ik:(0:Int)≤(i:Int):=(by omega)
       have nk:(i:Int)<(n.K:Int):=(by omega)
       have kk:(0:Int)≤(k:Int):=(by omega)
       have kT:(k:Int)<(T:Int):=(by omega)
       have HIK:Hid (i+1≤n.K):=hlt2;clear hI hJ hYx hXx hnx hrow hZB hZz hbZ hpl eB HTK HAT HBX HA HR HH HBN2 HC HRT HRF HE HT;generalize (n.pts i).length=m at *;generalize n.ids k i=idv at *;generalize (n.bs i).addr=ad at *;generalize (n.bs i).pao=pao at *;generalize (n.bs i).pn=pn at *;generalize (n.bs i).pcap=pcap at *;generalize (n.bs i).reg.s=rs at *;generalize (n.bs i).reg.rev=rv at *;generalize (n.bs i).reg.ao=wao at *;generalize (n.bs i).reg.n=wn at *;generalize (n.bs i).reg.cap=wcap at *;(go_wp2_with fail);rw[←HZZ.out,←HBz.out];clear c0 c1 c2 c3 c4;refine wp_region_z (z:=19) (C:=fun W=>W.cell? ⟨TB,0,none⟩=some (.slice (some ⟨G,0,none⟩) T T)∧W.cell? ⟨G,k,none⟩=some (.slice va i vc)∧(W.cell? ⟨Bz,0,none⟩=some (.int .u64 ad)∧W.cell? ⟨Bz,1,none⟩=some (.slice pao pn pcap)∧W.cell? ⟨Bz,2,none⟩=some (.string rs)∧W.cell? ⟨Bz,3,none⟩=some (.int .i64 rv)∧W.cell? ⟨Bz,4,none⟩=some (.slice wao wn wcap))∧W.cell? ⟨BN,1,none⟩=some (.slice n.lao n.L n.lcap)) (by kernel_rfl) (HCC.out _ HB0.out) (fun hHeld => ?_);refine z_take (i:=0) (v := ?_) (some 40) rfl rfl (by kernel_rfl) (by kernel_rfl) (by kernel_rfl) (by decide) (fun _ _ _ h=>h) (by rfl) ?_ hHeld ?_;rotate_left 1
       ·(intro wq;go_simp;try with_reducible rfl)
       (try simp only[Act.put,lsA,lsZ,lsS])
       refine z_load (i:=1) (v := ?_) (some 41) rfl rfl (by kernel_rfl) (by kernel_rfl) (by kernel_rfl) (by kernel_rfl) (fun _ _ _ h=>h) (by rfl) ?_ hHeld ?_;rotate_left 1
       ·(intro wq hSw;go_simp;try with_reducible rfl)
       (try simp only[Act.put,lsA,lsZ,lsS])
       refine z_take (i:=2) (v := ?_) (some 42) rfl rfl (by kernel_rfl) (by kernel_rfl) (by kernel_rfl) (by decide) (fun _ _ _ h=>h) (by rfl) ?_ hHeld ?_;rotate_left 1
       ·(intro wq;go_simp;try with_reducible rfl)
       (try simp only[Act.put,lsA,lsZ,lsS])
       refine z_take (i:=3) (v := ?_) (some 43) rfl rfl (by kernel_rfl) (by kernel_rfl) (by kernel_rfl) (by decide) (fun _ _ _ h=>h) (by rfl) ?_ hHeld ?_;rotate_left 1
       ·(intro wq;go_simp;try with_reducible rfl)
       (try simp only[Act.put,lsA,lsZ,lsS])
       refine z_load (i:=4) (v := ?_) (some 44) rfl rfl (by kernel_rfl) (by kernel_rfl) (by kernel_rfl) (by kernel_rfl) (fun _ _ _ h=>h) (by rfl) ?_ hHeld ?_;rotate_left 1
       ·(intro wq hSw;go_simp;try with_reducible rfl)
       (try simp only[Act.put,lsA,lsZ,lsS])
       refine z_take (i:=5) (v := ?_) (some 45) rfl rfl (by kernel_rfl) (by kernel_rfl) (by kernel_rfl) (by decide) (fun _ _ _ h=>h) (by rfl) ?_ hHeld ?_;rotate_left 1
       ·(intro wq;go_simp;try with_reducible rfl)
       (try simp only[Act.put,lsA,lsZ,lsS])
       refine z_take (i:=6) (v := ?_) (some 46) rfl rfl (by kernel_rfl) (by kernel_rfl) (by kernel_rfl) (by decide) (fun _ _ _ h=>h) (by rfl) ?_ hHeld ?_;rotate_left 1
       ·(intro wq;go_simp;try with_reducible rfl)
       (try simp only[Act.put,lsA,lsZ,lsS])
       refine z_load (i:=7) (v := ?_) (some 47) rfl rfl (by kernel_rfl) (by kernel_rfl) (by kernel_rfl) (by kernel_rfl) (fun _ _ _ h=>h) (by rfl) ?_ hHeld ?_;rotate_left 1
       ·(intro wq hSw;go_simp;try with_reducible rfl)
       (try simp only[Act.put,lsA,lsZ,lsS])
       refine z_load (i:=8) (v := ?_) (some 48) rfl rfl (by kernel_rfl) (by kernel_rfl) (by kernel_rfl) (by kernel_rfl) (fun _ _ _ h=>h) (by rfl) ?_ hHeld ?_;rotate_left 1
       ·(intro wq hSw;go_simp;try with_reducible rfl)
       (try simp only[Act.put,lsA,lsZ,lsS])
       refine z_take (i:=9) (v := ?_) (some 49) rfl rfl (by kernel_rfl) (by kernel_rfl) (by kernel_rfl) (by decide) (fun _ _ _ h=>h) (by rfl) ?_ hHeld ?_;rotate_left 1
       ·(intro wq;go_simp;try with_reducible rfl)
       (try simp only[Act.put,lsA,lsZ,lsS])
       refine z_take (i:=11) (v := ?_) (some 51) rfl rfl (by kernel_rfl) (by kernel_rfl) (by kernel_rfl) (by decide) (fun _ _ _ h=>h) (by rfl) ?_ hHeld ?_;rotate_left 1
       ·(intro wq;go_simp;try with_reducible rfl)
       (try simp only[Act.put,lsA,lsZ,lsS])
       refine z_load (i:=12) (v := ?_) (some 52) rfl rfl (by kernel_rfl) (by kernel_rfl) (by kernel_rfl) (by kernel_rfl) (fun _ _ _ h=>h) (by rfl) ?_ hHeld ?_;rotate_left 1
       ·(intro wq hSw;go_simp;try with_reducible rfl)
       (try simp only[Act.put,lsA,lsZ,lsS])
       refine z_take (i:=13) (v := ?_) (some 53) rfl rfl (by kernel_rfl) (by kernel_rfl) (by kernel_rfl) (by decide) (fun _ _ _ h=>h) (by rfl) ?_ hHeld ?_;rotate_left 1
       ·(intro wq;go_simp;try with_reducible rfl)
       (try simp only[Act.put,lsA,lsZ,lsS])
       refine z_one (i:=10) (by kernel_rfl) rfl (fun K hK => ?_);go_simp;(with_reducible refine(HID.out _ HB0.out).mono ?_)
       rintro e w4 ⟨rfl,HI1⟩;refine hK.out _ _ (Or.inr (HCC.out _ HI1.out.1)) (fun hHeld => ?_);clear hK K;(try simp only[Act.put,lsA,lsZ,lsS])
       refine z_one (i:=14) (by kernel_rfl) rfl (fun K hK => ?_);go_simp;(with_reducible refine(HPO.out _ HI1.out.1).mono ?_)
       rintro e w5 ⟨pa,pc,rfl,HP1⟩;refine hK.out _ _ (Or.inr (HCC.out _ HP1.out.1)) (fun hHeld => ?_);clear hK K;(try simp only[Act.put,lsA,lsZ,lsS])
       refine z_one (i:=15) (by kernel_rfl) rfl (fun K hK => ?_);go_simp;(with_reducible refine(HFM.out _ _ _ _ HP1 (Below.refl _ _)).mono ?_)
       rintro e w6 ⟨R,C,a1,c1,w7,rfl,HB6,HRN,HC7,⟨k1,k2⟩,HZ⟩;refine hK.out _ _ (Or.inr (HCC.out _ HB6.out)) (fun hHeld => ?_);clear hK K;(try simp only[Act.put,lsA,lsZ,lsS])
       refine z_one (i:=16) (by kernel_rfl) rfl (fun K hK => ?_);go_simp;refine hK.out _ _ (Or.inr (HCC.out _ (below_an HB6.out _))) (fun hHeld => ?_);clear hK K;(try simp only[Act.put,lsA,lsZ,lsS])
       refine z_one (i:=17) (by kernel_rfl) rfl (fun K hK => ?_);refine step_append_d (some 57) rfl rfl (.tmp 47) (.tmp 56) 50 rfl _ _ _ rfl rfl HRN.out ?_;refine hK.out _ _ (Or.inr HC7.out) (fun hHeld => ?_);clear hK K;(try simp only[Act.put,lsA,lsZ,lsS])
       refine z_take (i:=18) (v := ?_) (some 58) rfl rfl (by kernel_rfl) (by kernel_rfl) (by kernel_rfl) (by decide) (fun _ _ _ h=>h) (by rfl) ?_ hHeld ?_;rotate_left 1
       ·(intro wq;go_simp;try with_reducible rfl)
       (try simp only[Act.put,lsA,lsZ,lsS])
       refine z_one (i:=19) (by kernel_rfl) rfl (fun K hK => ?_);go_simp;refine hK.out _ _ (Or.inl (by kernel_rfl)) (fun hHeld => ?_);clear hK K;refine z_done (by kernel_rfl) ?_ _;(go_wp2_with fail);exact⟨⟨i+1,by omega,by go_num,a1,c1,HZ⟩,by simp[intOf];omega⟩
      ·have hiK:i=n.K:=(by omega)
       have HN:Hid (∃vs ls,StA wr Y n T G vs ls (k+1)):=by
        obtain⟨l,hJ⟩:=hI.out;rw[hiK] at hJ;exact⟨_,_,hJ.done HA.out⟩
       have hnk:¬(i:Int)<(n.K:Int):=(by omega)
       clear hI HA HTK HAT HBX HR HH HBN2 HC;(go_wp2_with fail);exact⟨⟨k+1,by omega,by go_num,HN⟩,by simp[intOf];omega⟩
    ·obtain rfl:k=T:=by omega
     obtain⟨vs,ls,hA⟩:=hS.out;have hXr:=HBX.out wr hA.bt;obtain⟨_,p2,⟨p3,p4⟩,q2,q3,q4⟩:=HC.out wr hXr;have tb:=one_cell (HTK.out wr hA.bt);obtain⟨h1,h2,h3⟩:=HH.out wr hXr;have HHR:Hid (wr.heap[RT]?=some (.cells #[.slice none 0 0] 43)∧wr.heap[RF]?=some (.cells #[.int .i64 0,.int .i64 0] 26)∧Bl w wr):=⟨h1,h2,h3⟩
     have HFIN:Hid (∀V,V.heap[G]?=wr.heap[G]?→(∀(q:Nat) (cur:Array Value) (ty:TypeId),wr.heap[q]?=some (Obj.cells cur ty (0,0))→ty=3∨ty=52→V.heap[q]?=wr.heap[q]?)→Bl w V→StartW w n k (.returned (.tuple #[.agg #[.slice (some ⟨G,0,none⟩) k k],.agg #[.int .i64 0,.int .i64 0]])) V):=fun V v1 v2 v3=>by
      obtain⟨t0,tl,ht0⟩:=start_all (b:=Y.heap.size) HT.out HR.out.few (v1.trans hA.out) (fun j hj=>⟨(hA.each j hj).1.keep v2,(hA.each j hj).2⟩);exact⟨v3,Or.inr ⟨by rw[HE.out],_,_,t0,by rw[tl],ht0⟩⟩
     have hGR:G≠RT∧G≠RF:=(by omega)
     have hnk:¬(k:Int)<(k:Int):=(by omega)
     clear hS hA hXr h1 h2 h3 HTK HAT HBX HC HH HBN2 HR HE HT;(go_wp2_with fail);refine bodyPost_ret (v:=.tuple #[.agg #[.slice (some ⟨G,0,none⟩) k k],.agg #[.int .i64 0,.int .i64 0]]) (results_row2 Tryz.results38 _ _ RT RF 43 26 #[.slice (some ⟨G,0,none⟩) k k] #[.int .i64 0,.int .i64 0] (0,0) (0,0) _ _ rfl rfl ?h1 ?h2 Tryz.underlying43 Tryz.underlying26 rfl rfl ?i1 ?i2) rfl ?post
     case h1=>repeat(first | (with_reducible refine drew_keep ?_) | (with_reducible exact HHR.out.1) | (with_reducible refine set1_same (a0:=Value.slice none 0 0) ?_) | (with_reducible refine set_keep ?_ ne3))
     case h2=>repeat(first | (with_reducible refine drew_keep ?_) | (with_reducible exact HHR.out.2.1) | (with_reducible refine set2_same (a0:=Value.int .i64 0) (a1:=Value.int .i64 0) ?_) | (with_reducible refine set_keep ?_ ne3.symm))
     case i1=>rw[sizeTk];try rfl
     case i2=>rw[sizeFt];try rfl
     case post =>
      refine HFIN.out _ ?_ ?_ ?_
      ·rw[heap_setCell_other _ _ _ _ (by exact hGR.2),heap_setCell_other _ _ _ _ (by exact hGR.2),heap_setCell_other _ _ _ _ (by exact hGR.1)]
      ·intro q cur ty hc ht;have n1:q≠RT:=fun e=>by
        subst e;have:=cells_type hc HHR.out.1;rcases ht with ht | ht
        ·exact absurd (ht.symm.trans this) (by decide)
        ·exact absurd (ht.symm.trans this) (by decide)
       have n2:q≠RF:=fun e=>by
        subst e;have:=cells_type hc HHR.out.2.1;rcases ht with ht | ht
        ·exact absurd (ht.symm.trans this) (by decide)
        ·exact absurd (ht.symm.trans this) (by decide)
       rw[heap_setCell_other _ _ _ _ (by exact n2),heap_setCell_other _ _ _ _ (by exact n2),heap_setCell_other _ _ _ _ (by exact n1)]
      ·repeat(first | (with_reducible refine Below.drew ?_) | (with_reducible exact HHR.out.2.2) | (with_reducible refine Below.setCell ?_ le2 _) | (with_reducible refine Below.setCell ?_ le3 _))
  ·have HE:Hid (stErr n trees=(3,0)):=by
    show(if n.wrong.1≠0 then n.wrong else if ¬(1≤trees∧trees≤4) then(3,0) else(0,0))=_;rw[if_neg (fun z=>z q),if_pos ht]
   rw[decide_eq_false ht] at HWI;have HHR:Hid (V1.heap[RT]?=some (.cells #[.slice none 0 0] 43)∧V1.heap[RF]?=some (.cells #[.int .i64 0,.int .i64 0] 26)∧Bl w V1):=HH.out V1 hV1;clear f0 f1 p0 p1 ht HRG HC HH HBN2 HAT;generalize n.wrong.1=r5 at *;generalize n.wrong.2=r6 at *;subst q;(go_wp2_with fail);rw[←HV1.out];refine HWI.out.mono ?_;rintro e w' ⟨rfl,rfl⟩;(go_wp2_with fail);refine bodyPost_ret (v:=.tuple #[.agg #[.slice none 0 0],.agg #[.int .i64 3,.int .i64 0]]) (results_row2 Tryz.results38 _ _ RT RF 43 26 #[.slice none 0 0] #[.int .i64 3,.int .i64 0] (0,0) (0,0) _ _ rfl rfl ?h1 ?h2 Tryz.underlying43 Tryz.underlying26 rfl rfl ?i1 ?i2) rfl ?post
   case h1=>repeat(first | (with_reducible refine drew_keep ?_) | (with_reducible exact HHR.out.1) | (with_reducible refine set1_same (a0:=Value.slice none 0 0) ?_) | (with_reducible refine set_keep ?_ ne3))
   case h2=>repeat(first | (with_reducible refine drew_keep ?_) | (with_reducible exact HHR.out.2.1) | (with_reducible refine set2_same (a0:=Value.int .i64 0) (a1:=Value.int .i64 0) ?_) | (with_reducible refine set_keep ?_ ne3.symm))
   case i1=>rw[sizeTk];try rfl
   case i2=>rw[sizeFt];try rfl
   case post =>
    refine⟨?_,Or.inl ⟨by rw[HE.out];exact(by decide:(3:Int)≠0),by rw[HE.out];try rfl⟩⟩;repeat(first | (with_reducible refine Below.drew ?_) | (with_reducible exact HHR.out.2.2) | (with_reducible refine Below.setCell ?_ le2 _) | (with_reducible refine Below.setCell ?_ le3 _))
 ·have HE:Hid ((stErr n trees).1=n.wrong.1∧(stErr n trees).2=n.wrong.2):=by
   have:stErr n trees=n.wrong:=if_pos q;exact⟨by rw[this],by rw[this]⟩
  have q1:(n.wrong.1 != 0)=true:=(by simpa using q)
  have HHR:Hid (∀m,(V1.drewN m).heap[RT]?=some (.cells #[.slice none 0 0] 43)∧(V1.drewN m).heap[RF]?=some (.cells #[.int .i64 0,.int .i64 0] 26)∧Bl w (V1.drewN m)):=fun m=>HH.out _ (below_drewN hV1 m);have HHD:Hid (V1.drew.heap[RT]?=some (.cells #[.slice none 0 0] 43)∧V1.drew.heap[RF]?=some (.cells #[.int .i64 0,.int .i64 0] 26)∧Bl w V1.drew):=HH.out _ (Below.drew hV1);have HNE:Hid (n.wrong.1≠0):=q;have HHV:Hid (V1.heap[RT]?=some (.cells #[.slice none 0 0] 43)∧V1.heap[RF]?=some (.cells #[.int .i64 0,.int .i64 0] 26)∧Bl w V1):=HH.out _ hV1;have d2:RT≠w1.heap.size:=(by have:=H1.out.size;omega)
  have d3:RF≠w1.heap.size:=(by have:=H1.out.size;omega)
  have d5:=d2.symm;have d6:=d3.symm;clear p0 p1 hV1 HRG HC HH HBN2 HAT;generalize n.wrong.1=E1 at *;generalize n.wrong.2=E2 at *;(go_wp2_with fail);rw[←HV1.out];go_region
  (all_goals go_wp2_with fail);all_goals
   refine bodyPost_ret (v:=.tuple #[.agg #[.slice none 0 0],.agg #[.int .i64 E1,.int .i64 E2]]) (results_row2 Tryz.results38 _ _ RT RF 43 26 #[.slice none 0 0] #[.int .i64 E1,.int .i64 E2] (0,0) (0,0) _ _ rfl rfl ?h1 ?h2 Tryz.underlying43 Tryz.underlying26 rfl rfl ?i1 ?i2) rfl ?post
   case h1=>repeat(first | (with_reducible refine drew_keep ?_) | (with_reducible exact(HHR.out _).1) | (with_reducible exact HHD.out.1) | (with_reducible exact HHV.out.1) | (with_reducible refine set1_same (a0:=Value.slice none 0 0) ?_) | (with_reducible refine set_keep ?_ ne3))
   case h2=>repeat(first | (with_reducible refine drew_keep ?_) | (with_reducible exact(HHR.out _).2.1) | (with_reducible exact HHD.out.2.1) | (with_reducible exact HHV.out.2.1) | (with_reducible refine set2_same (a0:=Value.int .i64 0) (a1:=Value.int .i64 0) ?_) | (with_reducible refine set_keep ?_ ne3.symm))
   case i1=>rw[sizeTk];try rfl
   case i2=>rw[sizeFt];try rfl
   case post =>
    refine⟨?_,Or.inl ⟨by rw[HE.out.1];exact HNE.out,by rw[HE.out.1,HE.out.2]⟩⟩;repeat(first | (with_reducible refine Below.drew ?_) | (with_reducible exact(HHR.out _).2.2) | (with_reducible exact HHD.out.2.2) | (with_reducible exact HHV.out.2.2) | (with_reducible refine Below.setCell ?_ le2 _) | (with_reducible refine Below.setCell ?_ le3 _))
end
end Go.Proofs.YtflghpnpjmodaaaGreatDoor
