/- Plain: how a frame goes, on lists -/
import Derived.Test.YtflghpnpjmodaaaGreatDoorT37
import Derived.Test.YtflghpnpjmodaaaGreatDoorT34
import Derived.Test.YtflghpnpjmodaaaGreatDoorT28
import Derived.Test.YtflghpnpjmodaaaGreatDoorT29
set_option maxRecDepth 100000
set_option maxHeartbeats 6000000
namespace Go.Proofs.YtflghpnpjmodaaaGreatDoor
section
open Go.RowKit
open Pl (Br Net)
open Bk (E at')
open Rl (F O)
theorem set2_ty {w:World}{g:Nat}{c:Array Value}{ty:TypeId}{fr:Nat×Nat}{a b:Value}(h:w.heap[g]?=some (.cells c ty fr)):∀e,e≠ty→Ty w ((w.setCell ⟨g,0,none⟩ a).setCell ⟨g,1,none⟩ b) e:=fun e hne =>
 Ty.but h (fun _ hq _=>(heap_setCell_other _ _ _ _ (fun z=>hq z)).trans (heap_setCell_other _ _ _ _ (fun z=>hq z))) e hne
theorem jsend_any (n:Net) (oao:Option Addr) (ocap:Nat) (t:List Tr) (ko:Option Addr) (B kcap:Nat) (bks:Nat→List E) (bo:Nat→Option Addr) (bc:Nat→Nat) (from' vid:Int) (f:F) (w:World) (hwf:n.Wf) (hat:n.at' w) (htr:TrRow w oao ocap t) (hc:CalmT t) (htb:Tabs w) (hbt:2≤w.heap.size) (hB:B≤9223372036854775807) (hbk:BIn w ko B kcap bks bo bc) (hd:ByteRow w f.ao f.n f.cap f.bs) (hdn:NilOk f.ao f.n f.cap) (hds:0≤f.dst∧f.dst<18446744073709551616) (hs:0≤f.src∧f.src<18446744073709551616) :
  Calls Tryz.prog 30 #[n.val,.agg #[.slice oao t.length ocap],.slice ko B kcap,.int .i64 from',.int .i64 vid,.agg (frA f)] w fun e w'=>SdOut w n t vid f B bks from' e w':=by
 have le3:w.heap.size≤w.heap.size+1+1+1:=(by omega)
 obtain⟨X0,HX0⟩:∃X0,Hid (X0=((w.alloc (.cells #[.slice n.bao n.K n.bcap,.slice n.lao n.L n.lcap] 32)).alloc (.cells #[.slice oao t.length ocap] 43)).alloc (.cells (frA f) 74)):=⟨_,rfl⟩
 have h3:=alloc3 w (.cells #[.slice n.bao n.K n.bcap,.slice n.lao n.L n.lcap] 32) (.cells #[.slice oao t.length ocap] 43) (.cells (frA f) 74);rw[←HX0.out] at h3;obtain⟨g0,g1,g2,b0⟩:=h3;obtain⟨X,HX⟩:∃X,Hid (X=X0.alloc (.cells #[.int .i64 0,.int .i64 0] 26)):=⟨_,rfl⟩
 have b1:Bl X0 X:=(by rw[HX.out];exact bA1 _ _)
 have s0:X0.heap.size=w.heap.size+1+1+1:=(by rw[HX0.out];simp)
 have g3:X.heap[w.heap.size+1+1+1]?=some (.cells #[.int .i64 0,.int .i64 0] 26):=(by rw[HX.out,←s0];exact heap_alloc_last _ _)
 have bX:Bl w X:=b0.trans (b1.mono b0.size);have HH:Hid (∀V,Bl X V→(V.heap[w.heap.size]?=some (.cells #[.slice n.bao n.K n.bcap,.slice n.lao n.L n.lcap] 32)∧V.heap[w.heap.size+1]?=some (.cells #[.slice oao t.length ocap] 43)∧V.heap[w.heap.size+1+1]?=some (.cells (frA f) 74)∧V.heap[w.heap.size+1+1+1]?=some (.cells #[.int .i64 0,.int .i64 0] 26))∧Bl w V∧w.heap.size+1+1+1<V.heap.size):=fun V hV=>by
  have h1:=b1.trans (hV.mono b1.size);have h2:=keep g3 hV;exact⟨⟨keep g0 h1,keep g1 h1,keep g2 h1,h2⟩,bX.trans (hV.mono bX.size),(gSm.1 h2).1⟩
 have HWR:Hid (Calls Tryz.prog 59 #[.agg #[.slice n.bao n.K n.bcap,.slice n.lao n.L n.lcap],.agg #[.slice oao t.length ocap],.slice ko B kcap,.int .i64 from',.int .i64 vid,.agg #[.int .u64 f.dst,.int .u64 f.src,.bool f.tagged,.int .i64 f.prio,.bool f.drop,.int .i64 f.vid,.int .i64 f.type,.slice f.ao f.n f.cap]] X fun e w'=>e=.returned (.agg #[.int .i64 (sErr n t B from' vid f).1,.int .i64 (sErr n t B from' vid f).2])∧Hid (Bl X w')) :=
  (jwrong_any n oao ocap t ko B kcap from' vid f X hwf (hat.below bX) (htr.below bX) hc (htb.below bX hbt) (Nat.le_trans hbt bX.size) hB hs).mono (fun e w' h=>⟨h.1,h.2⟩)
 have HFI:Hid ((sErr n t B from' vid f).1=0→∃i0:Nat,from'=(i0:Int)∧i0<n.K∧B=n.K∧n.Right∧t.length≤4∧(sErr n t B from' vid f).2=0):=fun he=>by
  obtain⟨e0,e1,e2,⟨e3,e4⟩,_⟩:=sErr_zero he;have hz:=wrT_zero (onErr_zero e1).1;exact⟨from'.toNat,by omega,by omega,e2,right_of hwf hz.2.1,(fit_iff.1 hz.2.2.1).1.2,by rw[e0]⟩
 have HAT:Hid (n.at' w∧TrRow w oao ocap t∧BIn w ko B kcap bks bo bc∧ByteRow w f.ao f.n f.cap f.bs∧NilOk f.ao f.n f.cap∧(0≤f.dst∧f.dst<18446744073709551616)∧0≤f.src∧f.src<18446744073709551616):=⟨hat,htr,hbk,hd,hdn,hds,hs⟩
 clear hwf hat htr hc htb hbt g0 g1 g2 g3 b0 b1 bX s0 hs hbk hd hdn hds;unfold frA at HX0 HH;unfold frA Pl.Net.val;obtain⟨e1,he1⟩:∃e1,e1=(sErr n t B from' vid f).1:=⟨_,rfl⟩
 obtain⟨e2,he2⟩:∃e2,e2=(sErr n t B from' vid f).2:=⟨_,rfl⟩
 rw[←he1,←he2] at HFI HWR;have HE1:Hid (e1=(sErr n t B from' vid f).1):=he1;have HE2:Hid (e2=(sErr n t B from' vid f).2):=he2;clear he1 he2;go_enter Tryz.func30,Tryz.ntmps30;(go_wp2_with fail);rw[←HX0.out,←HX.out];refine HWR.out.mono ?_;rintro e w1 ⟨rfl,HB1⟩;clear HWR;obtain⟨V,HV⟩:∃V,Hid (V=w1.alloc (.cells #[.int .i64 e1,.int .i64 e2] 26)):=⟨_,rfl⟩
 have v2:V.heap[w1.heap.size]?=some (.cells #[.int .i64 e1,.int .i64 e2] 26):=(by rw[HV.out];exact heap_alloc_last _ _)
 have bV:Bl w1 V:=(by rw[HV.out];exact bA1 _ _)
 have HBV:Hid (Bl X V):=HB1.out.trans (bV.mono HB1.out.size);obtain⟨x0,x1⟩:=tC2 v2;clear bV v2;by_cases he:e1=0
 ·obtain⟨i0,hi0,hiK,hBK,hR,hT,he2⟩:=HFI.out he;subst he he2 hi0 hBK;clear HFI;obtain⟨a1,a2,a3,a4,a5,a6,a7⟩:=HAT.out;have bwV:=(HH.out V HBV.out).2.1;have hK12:=hR.few;have HCP:Hid (Calls Tryz.prog 60 #[.slice ko n.K kcap] V fun e w'=>e=.returned (.slice (some ⟨V.heap.size,0,none⟩) n.K n.K)∧Hid (∃bo' bc',BkO w' V.heap.size V.heap.size n.K bks bo' bc'∧Bl V w')):=(jcopied_any ko n.K kcap bks bo bc V (a3.below bwV) hK12).mono (fun e w' h=>h);obtain⟨gk,HG⟩:∃gk,Hid (gk=V.heap.size):=⟨_,rfl⟩
  rw[←HG.out] at HCP;(go_upto_region 2 with fail);rw[←HV.out];(go_wp2_with fail);refine HCP.out.mono ?_;rintro e w2 ⟨rfl,H2⟩;clear HCP x0 x1;obtain⟨bo1,bc1,hbo,b2⟩:=H2.out;have b2x:Bl X w2:=HBV.out.trans ((show Bl V w2 from b2).mono HBV.out.size);obtain⟨⟨j0,j1,j2,j3⟩,j4,j5⟩:=HH.out w2 b2x;obtain⟨z0,z1,z2,z3,z4,z5,z6,z7⟩:=fr_cells j2;obtain⟨ZB,HZB⟩:∃ZB,Hid (ZB=w2.heap.size):=⟨_,rfl⟩
  obtain⟨Z,HZ⟩:∃Z,Hid (Z=w2.alloc (.cells #[.int .i64 (i0:Int),.int .i64 0,.int .u64 f.dst,.int .u64 f.src,.bool f.tagged,.int .i64 f.prio,.bool f.drop,.int .i64 f.vid,.int .i64 f.type,.slice f.ao f.n f.cap] 141)):=⟨_,rfl⟩
  have bZ:Bl w2 Z:=(by rw[HZ.out];exact bA1 _ _)
  have sZ:Z.heap.size=w2.heap.size+1:=(by rw[HZ.out];simp)
  have zz:Z.heap[ZB]?=some (.cells #[.int .i64 (i0:Int),.int .i64 0,.int .u64 f.dst,.int .u64 f.src,.bool f.tagged,.int .i64 f.prio,.bool f.drop,.int .i64 f.vid,.int .i64 f.type,.slice f.ao f.n f.cap] 141):=(by rw[HZ.out,HZB.out];exact heap_alloc_last _ _)
  have hgl:gk<w2.heap.size:=(gSm.1 hbo.row).1;have hgw:w.heap.size+1+1+1<gk:=(by rw[HG.out];exact(HH.out V HBV.out).2.2)
  have bwZ:Bl w Z:=j4.trans (bZ.mono j4.size);have hzb:ZB≠gk:=(by rw[HZB.out];omega)
  have HZC:Hid (∀W,Z.grownBy W (some gk)→(W.cell? ⟨w.heap.size,0,none⟩=some (.slice n.bao n.K n.bcap)∧W.cell? ⟨w.heap.size,1,none⟩=some (.slice n.lao n.L n.lcap))∧W.cell? ⟨w.heap.size+1,0,none⟩=some (.slice oao t.length ocap)∧W.cell? ⟨ZB,0,none⟩=some (.int .i64 (i0:Int))∧W.cell? ⟨ZB,1,none⟩=some (.int .i64 0)∧W.cell? ⟨ZB,2,none⟩=some (.int .u64 f.dst)∧W.cell? ⟨ZB,3,none⟩=some (.int .u64 f.src)∧W.cell? ⟨ZB,4,none⟩=some (.bool f.tagged)∧W.cell? ⟨ZB,5,none⟩=some (.int .i64 f.prio)∧W.cell? ⟨ZB,6,none⟩=some (.bool f.drop)∧W.cell? ⟨ZB,7,none⟩=some (.int .i64 f.vid)∧W.cell? ⟨ZB,8,none⟩=some (.int .i64 f.type)∧W.cell? ⟨ZB,9,none⟩=some (.slice f.ao f.n f.cap)):=fun W hW=>by
   have k0:=(hW.block _ (gSm.1 (keep j0 bZ)).1 (by simp;omega)).trans (keep j0 bZ);have k1:=(hW.block _ (gSm.1 (keep j1 bZ)).1 (by simp;omega)).trans (keep j1 bZ);have k2:=(hW.block _ (gSm.1 zz).1 (by simpa using hzb)).trans zz;exact⟨tC2 k0,cell_of_row _ _ 0 _ _ _ k1,cell_of_row _ _ 0 _ _ _ k2,cell_of_row _ _ 1 _ _ _ k2,cell_of_row _ _ 2 _ _ _ k2,cell_of_row _ _ 3 _ _ _ k2,cell_of_row _ _ 4 _ _ _ k2,cell_of_row _ _ 5 _ _ _ k2,cell_of_row _ _ 6 _ _ _ k2,cell_of_row _ _ 7 _ _ _ k2,cell_of_row _ _ 8 _ _ _ k2,cell_of_row _ _ 9 _ _ _ k2⟩
  have HZF:Hid (∀W,Z.grownBy W (some gk)→W.heap[w.heap.size+1+1+1]?=some (.cells #[.int .i64 0,.int .i64 0] 26)∧Bl w W):=fun W hW=>by
   refine⟨(hW.block _ (gSm.1 (keep j3 bZ)).1 (by simp;omega)).trans (keep j3 bZ),⟨hW.os.trans bwZ.os,hW.tape.trans bwZ.tape,hW.output.trans bwZ.output,Nat.le_trans bwZ.size hW.size,fun i hi=>(hW.block i (Nat.lt_of_lt_of_le hi bwZ.size) (by simp;omega)).trans (bwZ.block i hi)⟩⟩
  obtain⟨RR,hRR⟩:∃RR,RR=sent n t vid f bks i0:=⟨_,rfl⟩
  have HRL:Hid (∀W,Bl Z W→Calls Tryz.prog 62 #[.agg #[.slice n.bao n.K n.bcap,.slice n.lao n.L n.lcap],.agg #[.slice oao t.length ocap],.int .i64 vid,.slice (some ⟨gk,0,none⟩) n.K n.K] W fun e w5=>∃TB NB VB KB:Nat,e=.returned (.func (.func 100) #[] #[.pointer (some ⟨TB,0,none⟩),.pointer (some ⟨NB,0,none⟩),.pointer (some ⟨VB,0,none⟩),.pointer (some ⟨KB,0,none⟩)])∧Hid (Z.grownBy w5 (some gk))∧Hid (Calls Tryz.prog 63 #[.slice n.lao n.L n.lcap] w5 fun e w6=>∃P:Nat,e=.returned (.func (.func 103) #[] #[.pointer (some ⟨P,0,none⟩)])∧Hid (Z.grownBy w6 (some gk))∧Hid (Calls Tryz.prog 61 #[.agg #[.int .i64 (i0:Int),.int .i64 0,.int .u64 f.dst,.int .u64 f.src,.bool f.tagged,.int .i64 f.prio,.bool f.drop,.int .i64 f.vid,.int .i64 f.type,.slice f.ao f.n f.cap],.func (.func 100) #[] #[.pointer (some ⟨TB,0,none⟩),.pointer (some ⟨NB,0,none⟩),.pointer (some ⟨VB,0,none⟩),.pointer (some ⟨KB,0,none⟩)],.func (.func 103) #[] #[.pointer (some ⟨P,0,none⟩)]] w6 fun e w7=>∃(so:Option Addr) (sn sc:Nat) (ended:Bool) (er:Int),e=.returned (.tuple #[.slice so sn sc,.bool ended,.int .i64 er])∧Hid (Z.grownBy w7 (some gk))∧Hid (er=RR.err∧((RR.err=0∧ended=decide (RR.wait=[])∧∃ss bo' bc',sn=ss.length∧∀W,(∀e,e≠26→Ty w7 W e)→SdIs w W n.K f RR so sc ss gk bo' bc')∨(RR.err≠0∧ended=false)))))):=fun W hW=>by
   refine(jrelayer_any n oao t.length ocap vid gk n.K n.K W).mono ?_;rintro e w5 ⟨rfl,H5⟩;obtain⟨q1,q2,q3,q4,q5,q6⟩:=H5.out;have b5:Bl Z w5:=hW.trans (q2.mono hW.size);have hWs:=hW.size;refine⟨_,_,_,_,rfl,grown_low (World.grownBy.refl _ _) b5,?_⟩;have bw5:Bl w w5:=bwZ.trans (b5.mono bwZ.size);refine(jcrosser_any n.K n.lao n.L n.lcap n.ls w5 (a1.below bw5).lks hR.fewL hR.links hK12).mono ?_;rintro e w6 ⟨P,M,rfl,H6⟩;obtain⟨r1,r2,r3,r4,r5⟩:=H6.out;have b6:Bl Z w6:=b5.trans (r5.mono b5.size);have h5s:=b5.size;have h6s:=r5.size;refine⟨P,rfl,grown_low (World.grownBy.refl _ _) b6,?_⟩;have bw6:Bl w w6:=bwZ.trans (b6.mono bwZ.size);have hcy:CyH w6 n t oao ocap vid (W.heap.size+1) W.heap.size (W.heap.size+2) (W.heap.size+3) gk gk n.K P M (2*n.L) f:=cyh_of bw6 (by omega) (by omega) (by omega) hR a1 a2 hT a4 a5 a6 a7 ⟨keep q3 r5,keep q4 r5,keep q5 r5,keep q6 r5⟩ ⟨by omega,by omega,by omega,by omega,by omega,by omega⟩ r2 r4;have hbo':BkO w6 gk gk n.K bks bo1 bc1:=hbo.ty (Ty.below _ (bZ.trans (b6.mono bZ.size))) (Ty.below _ (bZ.trans (b6.mono bZ.size)));refine(jcarry_any n t oao ocap vid _ _ _ _ gk gk n.K P M (2*n.L) f i0 ⟨0,f.tagged,f.prio,f.drop,f.vid⟩ bks bo1 bc1 w6 hcy hbo' hiK _ rfl).mono ?_;rintro e w7 ⟨so,sc,ss,ended,bo',bc',rfl,H7⟩;obtain⟨t1,t2,t3⟩:=H7.out;have hRR':Ln.carry n t vid f 41 ⟨[],[(i0,⟨0,f.tagged,f.prio,f.drop,f.vid⟩)],bks,0⟩=RR:=hRR.symm;rw[hRR'] at t1 t3;rw[hRR'];have g7:Z.grownBy w7 (some gk):=⟨t2.os.trans b6.os,t2.tape.trans b6.tape,t2.output.trans b6.output,Nat.le_trans b6.size t2.size,fun i hi hne=>(t2.block i (Nat.lt_of_lt_of_le hi b6.size) hne).trans (b6.block i hi)⟩
   refine⟨so,ss.length,sc,ended,RR.err,rfl,g7,rfl,?_⟩;rcases t3 with⟨c1,c2,c3,c4,c5⟩ | ⟨c1,c2,_⟩
   ·refine Or.inl ⟨c1,c2,ss,bo',bc',rfl,fun U hU=>⟨c3,?_,fun x hx => ?_,?_,by omega⟩⟩
    ·exact(hU _ (by decide)).owns (owns_mono c4 bw6.size)
    ·refine(hU _ (by decide)).dt ?_;rcases c5 x hx with d | d
     ·exact Or.inl d
     ·exact Or.inr (owns_mono d bw6.size)
    ·have h1:=t1.ty (hU _ (by decide)) (hU _ (by decide));exact⟨h1.row,fun i hi=>⟨owns_mono (h1.each i hi).1 (by omega),(h1.each i hi).2⟩⟩
   ·exact Or.inr ⟨c1,c2⟩
  have HB0:Hid (Bl Z Z.drew):=Below.drew (Below.refl _ _);have HG0:Hid (Z.grownBy Z.drew (some gk)):=grown_low (World.grownBy.refl _ _) HB0.out;have HRR:Hid (RR=sent n t vid f bks i0):=hRR;have HSK:Hid (∀(W:World) (so:Option Addr) (sc:Nat) (ss:List AV) (bo':Nat→Option Addr) (bc':Nat→Nat),RR.err=0→RR.wait=[]→Bl w W→SdIs w W n.K f RR so sc ss gk bo' bc'→SdOut w n t vid f n.K bks (i0:Int) (.returned (.tuple #[.slice so ss.length sc,.slice (some ⟨gk,0,none⟩) n.K n.K,.bool true,.agg #[.int .i64 0,.int .i64 0]])) W):=fun W so sc ss bo' bc' k1 k2 k3 k4=>by
   have hq:sent n t vid f bks (i0:Int).toNat=RR:=hRR.symm;refine⟨k3,Or.inr ⟨HE1.out.symm,Or.inr ?_⟩⟩;rw[hq];exact⟨k1,k2,so,sc,ss,gk,bo',bc',rfl,k4⟩
  have HNO:Hid (∀(W:World),¬(RR.err=0∧RR.wait=[])→Bl w W→SdOut w n t vid f n.K bks (i0:Int) (.returned (.tuple #[.slice none 0 0,.slice none 0 0,.bool false,.agg #[.int .i64 RR.err,.int .i64 0]])) W):=fun W k1 k3=>by
   have hq:sent n t vid f bks (i0:Int).toNat=RR:=hRR.symm;refine⟨k3,Or.inr ⟨HE1.out.symm,Or.inl ?_⟩⟩;rw[hq];exact⟨k1,rfl⟩
  clear hRR hbo b2 b2x j0 j1 j2 j3 j4 bZ sZ zz bwZ a1 a2 a3 a4 a5 a6 a7 HAT H2 hR bwV HE1 HE2 HH;(go_upto_region 6 with fail);rw[←HZ.out,←HZB.out];clear z0 z1 z2 z3 z4 z5 z6 z7;go_region_held3 (fun W=>(W.cell? ⟨w.heap.size,0,none⟩=some (.slice n.bao n.K n.bcap)∧W.cell? ⟨w.heap.size,1,none⟩=some (.slice n.lao n.L n.lcap))∧W.cell? ⟨w.heap.size+1,0,none⟩=some (.slice oao t.length ocap)∧W.cell? ⟨ZB,0,none⟩=some (.int .i64 (i0:Int))∧W.cell? ⟨ZB,1,none⟩=some (.int .i64 0)∧W.cell? ⟨ZB,2,none⟩=some (.int .u64 f.dst)∧W.cell? ⟨ZB,3,none⟩=some (.int .u64 f.src)∧W.cell? ⟨ZB,4,none⟩=some (.bool f.tagged)∧W.cell? ⟨ZB,5,none⟩=some (.int .i64 f.prio)∧W.cell? ⟨ZB,6,none⟩=some (.bool f.drop)∧W.cell? ⟨ZB,7,none⟩=some (.int .i64 f.vid)∧W.cell? ⟨ZB,8,none⟩=some (.int .i64 f.type)∧W.cell? ⟨ZB,9,none⟩=some (.slice f.ao f.n f.cap))
   (exact HZC.out _ (Hid.out (by assumption)))
   (first | (go_at_call 62;(with_reducible refine(HRL.out _ (by first | exact(Hid.out (by assumption)) | exact Below.drew (Hid.out (by assumption)))).mono ?_);rintro e w5 ⟨TB,NB,VB,KB,rfl,HG5,HC5⟩) | (go_at_call 63;(with_reducible refine HC5.out.mono ?_);rintro e w6 ⟨P,rfl,HG6,HC6⟩) | (go_at_call 61;(with_reducible refine HC6.out.mono ?_);rintro e w7 ⟨so,sn,sc,ended,er,rfl,HG7,H7⟩))
  all_goals
   obtain⟨h71,h72⟩:=H7.out;obtain⟨f0,f1⟩:=HZF.out w7 HG7.out;obtain⟨q0,q1⟩:=tC2 f0;have q2:=lF0 f0 0;have q3:=lF0 f0 1;have HJ:Hid (w7.heap[w.heap.size+1+1+1]?=some (.cells #[.int .i64 0,.int .i64 0] 26)∧Bl w w7):=⟨f0,f1⟩
   clear f0 f1 H7 HRL HZC HZF HC5 HC6;by_cases hok:er=0∧ended=true
   ·obtain⟨rfl,rfl⟩:=hok;have HS:Hid (∃ss bo' bc',sn=ss.length∧(RR.err=0∧RR.wait=[])∧∀W,(∀e,e≠26→Ty w7 W e)→SdIs w W n.K f RR so sc ss gk bo' bc'):=by
     rcases h72 with⟨c1,c2,ss,bo',bc',c3,c4⟩ | ⟨c1,c2⟩
     ·exact⟨ss,bo',bc',c3,⟨c1,by simpa using c2.symm⟩,c4⟩
     ·cases c2
    clear h71 h72;(go_wp2_with fail);refine bodyPost_ret (v:=.tuple #[.slice so sn sc,.slice (some ⟨gk,0,none⟩) n.K n.K,.bool true,.agg #[.int .i64 0,.int .i64 0]]) (results_tmp3_row (p:=15) (ty:=26) Tryz.results30 _ _ (w.heap.size+1+1+1) 26 #[.int .i64 0,.int .i64 0] (0,0) _ rfl ?h1 Tryz.underlying26 rfl (by rw[sizeFt];rfl)) rfl ?h2
    case h1=>first | (with_reducible exact set2_same HJ.out.1) | (with_reducible exact drew_keep (set2_same HJ.out.1)) | exact set2_same (drew_keep HJ.out.1)
    case h2 =>
     obtain⟨ss,bo',bc',rfl,⟨k1,k2⟩,k3⟩:=HS.out;refine HSK.out _ so sc ss bo' bc' k1 k2 ?_ (k3 _ (set2_ty HJ.out.1));first | exact(HJ.out.2.setCell le3 _).setCell le3 _ | exact((HJ.out.2.setCell le3 _).setCell le3 _).drew | exact(HJ.out.2.drew.setCell le3 _).setCell le3 _
   ·have HS:Hid (¬(RR.err=0∧RR.wait=[])):=by
     rintro⟨k1,k2⟩;rcases h72 with⟨c1,c2,_⟩ | ⟨c1,c2⟩
     ·exact hok ⟨h71.trans c1,by rw[c2,k2];rfl⟩
     ·exact c1 k1
    have hsp:er≠0∨er=0∧ended=false:=by
     by_cases q:er=0
     ·exact Or.inr ⟨q,by cases ended with | true=>exact absurd ⟨q,rfl⟩ hok | false=>rfl⟩
     ·exact Or.inl q
    have HN2:Hid (∀W,Bl w W→SdOut w n t vid f n.K bks (i0:Int) (.returned (.tuple #[.slice none 0 0,.slice none 0 0,.bool false,.agg #[.int .i64 er,.int .i64 0]])) W):=fun W hW=>by
     rw[h71];exact HNO.out W HS.out hW
    clear h71 h72 hok HNO HS HSK;rcases hsp with hq | ⟨rfl,rfl⟩;all_goals
     (go_wp2_with fail);refine bodyPost_ret (v:=.tuple #[.slice none 0 0,.slice none 0 0,.bool false,.agg #[.int .i64 _,.int .i64 0]]) (results_tmp3_row (p:=15) (ty:=26) Tryz.results30 _ _ (w.heap.size+1+1+1) 26 #[.int .i64 _,.int .i64 0] (0,0) _ rfl ?h1 Tryz.underlying26 rfl (by rw[sizeFt];rfl)) rfl (HN2.out _ ?h2)
     case h1=>first | (with_reducible exact set2_same HJ.out.1) | (with_reducible exact drew_keep (set2_same HJ.out.1)) | exact set2_same (drew_keep HJ.out.1)
     case h2=>first | exact(HJ.out.2.setCell le3 _).setCell le3 _ | exact((HJ.out.2.setCell le3 _).setCell le3 _).drew | exact(HJ.out.2.drew.setCell le3 _).setCell le3 _
 ·have HER:Hid (∀W,Bl w W→SdOut w n t vid f B bks from' (.returned (.tuple #[.slice none 0 0,.slice none 0 0,.bool false,.agg #[.int .i64 e1,.int .i64 e2]])) W):=fun W hW=>⟨hW,Or.inl ⟨by rw[←HE1.out];exact he,by rw[←HE1.out,←HE2.out]⟩⟩
  obtain⟨⟨_,_,_,j3⟩,j4,j5⟩:=HH.out V HBV.out;obtain⟨q0,q1⟩:=tC2 j3;have q2:=lF0 j3 0;have q3:=lF0 j3 1;have HJ:Hid (V.heap[w.heap.size+1+1+1]?=some (.cells #[.int .i64 0,.int .i64 0] 26)∧Bl w V):=⟨j3,j4⟩
  have hne:w1.heap.size≠w.heap.size+1+1+1:=(by have:=(HH.out w1 HB1.out).2.2;omega)
  clear j3 j4 HAT HH HFI HE1 HE2;(go_upto_region 2 with fail);rw[←HV.out];(go_wp2_with fail);go_region
  (all_goals go_wp2_with fail);all_goals
   refine bodyPost_ret (v:=.tuple #[.slice none 0 0,.slice none 0 0,.bool false,.agg #[.int .i64 e1,.int .i64 e2]]) (results_tmp3_row (p:=15) (ty:=26) Tryz.results30 _ _ (w.heap.size+1+1+1) 26 #[.int .i64 e1,.int .i64 e2] (0,0) _ rfl ?h1 Tryz.underlying26 rfl (by rw[sizeFt];rfl)) rfl (HER.out _ ?h2)
   case h1=>first | (with_reducible exact set2_same HJ.out.1) | (with_reducible exact drew_keep (set2_same HJ.out.1)) | exact set2_same (drew_keep HJ.out.1)
   case h2=>first | exact(HJ.out.2.setCell le3 _).setCell le3 _ | exact((HJ.out.2.setCell le3 _).setCell le3 _).drew | exact(HJ.out.2.drew.setCell le3 _).setCell le3 _
end
section
open Pl (Net Lk)
open Bk (E at')
open Rl (G gat F R O)
theorem wrongTo_of {vs ts:Nat→Int}:∀{n:Nat},Rg.Right vs ts n→Rg.wrongTo vs ts n=0
 | 0,_=>rfl
 | n+1,h=>by
  have h0:=wrongTo_of (n:=n) ⟨fun i hi=>h.vid i (by omega),fun i hi=>h.tree i (by omega),fun i j hij hj=>h.less i j hij (by omega)⟩;refine Rg.wrongTo_succ vs ts n h0 ?_;unfold Rg.wayErr;rw[if_pos ⟨h.vid n (by omega),h.tree n (by omega)⟩,if_neg];unfold Rg.last;by_cases e:n=0
  ·subst e;have:=(h.vid 0 (by omega)).1;simp;omega
  ·have:=h.less (n-1) n (by omega) (by omega);rw[if_neg e];omega
namespace Ln
def ps (n:Net) (i:Nat):List Int:=0 :: n.pts i
theorem pts_pos {n:Net}(hR:n.Right) {i:Nat}{p:Int}(h:p∈n.pts i):1≤p∧p≤30:=by
 unfold Pl.Net.pts at h;obtain⟨e,he,rfl⟩:=List.mem_map.1 h;obtain⟨k,hk,⟨_,rfl⟩ | ⟨_,rfl⟩⟩:=Pl.ends_mem.1 he
 ·exact(hR.links.ok k hk).2.2.2.1
 ·exact(hR.links.ok k hk).2.2.2.2.1
theorem ps_range {n:Net}(hR:n.Right) {i:Nat}{p:Int}(h:p∈ps n i):0≤p∧p≤30:=by
 rcases List.mem_cons.1 h with rfl | h
 ·omega
 ·have:=pts_pos hR h;omega
theorem ps_sorted {n:Net}(hR:n.Right) (i:Nat):(ps n i).Pairwise (· < ·):=by
 refine List.pairwise_cons.2 ⟨fun p hp=>by have:=pts_pos hR hp;omega,?_⟩;unfold Pl.Net.pts;rw[List.pairwise_map];exact Pl.ends_sorted hR.links n.live i
def gt (t:List Tr) (i:Nat) (vid p:Int):G:=⟨p,if p=0 then vid else 0,[vid],(List.range t.length).map (gopen t (i:Int) p),some ⟨0,0,none⟩,1,some ⟨0,0,none⟩,t.length⟩
theorem gates_eq {n:Net}(hR:n.Right) (t:List Tr) (vid:Int) (i:Nat):gates n t vid i=(ps n i).map (gt t i vid):=by
 have h:∀j,j≤(n.pts i).length→gList t (i:Int) vid (IL (n.pts i)) (fun _=>0) (fun _=>0) j=(0 :: (n.pts i).take j).map (gt t i vid):=by
  intro j;induction j with
  | zero=>intro _;simp[gList,mkG,gt]
  | succ j ih =>
   intro hj;have e:gList t (i:Int) vid (IL (n.pts i)) (fun _=>0) (fun _=>0) (j+1)=gList t (i:Int) vid (IL (n.pts i)) (fun _=>0) (fun _=>0) j++[mkG t (i:Int) vid (IL (n.pts i) j) 0 0 0]:=rfl;rw[e,ih (by omega),List.take_succ_eq_append_getElem (by omega:j<(n.pts i).length)];have e2:IL (n.pts i) j=(n.pts i)[j]'(by omega):=(by simp[IL,show j<(n.pts i).length by omega])
   have e3:=pts_pos hR (List.getElem_mem (by omega:j<(n.pts i).length));rw[e2];simp only[List.map_cons,List.map_append,List.map_nil,List.cons_append];congr 2
   simp only[mkG,gt];rw[if_neg (by omega)]
 unfold gates;rw[h _ (Nat.le_refl _),List.take_length];rfl
theorem gat_map (g:Int→G) (l:List Int) {k:Nat}(hk:k<l.length):gat (l.map g) k=g l[k]:=by
 rw[Rl.gat_get _ _ (by simpa using hk)];simp
theorem gates_right {n:Net}(hR:n.Right) {t:List Tr}(h4:t.length≤4) {vid:Int}(hv:1≤vid∧vid≤4094) (i:Nat):(Rl.wrong ((ps n i).map (gt t i vid))).1=0:=by
 have hz:∀k,k<((ps n i).map (gt t i vid)).length→Rl.gErr ((ps n i).map (gt t i vid)) k=0:=fun k hk=>by
  have hk':k<(ps n i).length:=(by simpa using hk)
  have hm:=ps_range hR (List.getElem_mem hk');have e1:Rl.gateErr (gat ((ps n i).map (gt t i vid)) k)=0:=by
   rw[gat_map _ _ hk'];unfold Rl.gateErr gt;simp only[List.length_map,List.length_range];rw[if_pos ⟨hm,by split<;>omega⟩,if_neg (by omega)]
  have e2:Rl.waysErr (gat ((ps n i).map (gt t i vid)) k).ways=0:=by
   rw[gat_map _ _ hk'];refine wrongTo_of ⟨fun j hj => ?_,fun j hj=>by omega,fun a b hab hb => ?_⟩
   ·obtain rfl:j=0:=by simpa[gt] using hj
    exact hv
   ·have:b<1:=hb;omega
  have e3:Rl.rise (Rl.aheadP ((ps n i).map (gt t i vid)) k) (gat ((ps n i).map (gt t i vid)) k).port=0:=by
   unfold Rl.rise;rw[if_neg];unfold Rl.aheadP;by_cases q:k=0
   ·subst q;rw[if_pos rfl,gat_map _ _ hk'];show ¬(ps n i)[0] ≤ -1;omega
   ·rw[if_neg q,gat_map _ _ hk',gat_map _ _ (show k-1<(ps n i).length by omega)];have:=(List.pairwise_iff_getElem.1 (ps_sorted hR i)) (k-1) k (by omega) hk' (by omega);show ¬(ps n i)[k]≤(ps n i)[k-1];omega
  unfold Rl.gErr Rl.or3;rw[if_pos e1,if_pos e2];exact e3
 unfold Rl.wrong;rw[Bk.firstTo_none _ _ hz]
theorem inG_map {n:Net}{t:List Tr}{vid:Int}{i:Nat}{p:Int}(hp:p∈ps n i):¬Rl.idx ((ps n i).map (gt t i vid)) p ((ps n i).map (gt t i vid)).length<0∧Rl.inG ((ps n i).map (gt t i vid)) p=gt t i vid p:=by
 rcases Rl.idx_cases ((ps n i).map (gt t i vid)) p ((ps n i).map (gt t i vid)).length with⟨_,h2⟩ | ⟨k,hk,h1,h2,_⟩
 ·obtain⟨k,hk,e⟩:=List.getElem_of_mem hp;have:=h2 k (by simpa using hk);rw[gat_map _ _ hk] at this;exact absurd e this
 ·have hk':k<(ps n i).length:=(by simpa using hk)
  refine⟨by omega,?_⟩;unfold Rl.inG;rw[h1];show gat _ k=_;rw[gat_map _ _ hk'] at h2 ⊢;rw[show(ps n i)[k]=p from h2]
def tr (n:Net) (vid:Int) (i:Nat):Int:=Rg.tree (n.bs i).reg.vs (n.bs i).reg.ts vid (n.bs i).reg.n
def op (n:Net) (t:List Tr) (vid:Int) (i:Nat) (p:Int):Bool:=gopen t (i:Int) p (tr n vid i).toNat
theorem passes_gt {n:Net}{t:List Tr}{vid:Int}{i:Nat}(h:0≤tr n vid i∧tr n vid i<t.length) (p:Int):Rl.passes (gt t i vid p) (tr n vid i) vid=op n t vid i p:=by
 unfold Rl.passes gt op;simp only[List.contains_cons,BEq.rfl,Bool.true_or,Bool.true_and,List.length_map,List.length_range];rw[decide_eq_true (show 0≤tr n vid i∧tr n vid i≤(t.length:Int)-1 by omega),Bool.true_and];have hl:(tr n vid i).toNat<t.length:=(by omega)
 simp[List.getD,hl]
def Wy (vid:Int) (o:O):Prop:=(o.port≠0∧o.tagged=true∧o.prio=0∧o.drop=false∧o.vid=vid)∨(o.port=0∧o.tagged=false)
def lv (vid q:Int):O:=if q=0 then⟨0,false,0,false,0⟩ else⟨q,true,0,false,vid⟩
theorem lv_port (vid q:Int):(lv vid q).port=q:=by
 unfold lv;split
 ·rename_i h;exact h.symm
 ·rfl
theorem way_is {t:List Tr}{i:Nat}{vid:Int}{f:F}{o:O}(hv:1≤vid) (h:Wy vid o):Rl.wayOf (frO f o) (gt t i vid o.port)=vid:=by
 unfold Rl.wayOf frO gt;rcases h with⟨_,h2,_,_,h5⟩ | ⟨h1,h2⟩
 ·rw[if_pos ⟨h2,by show o.vid≠0;omega⟩];exact h5
 ·rw[if_neg (by simp[h2]),if_pos h1]
theorem leave_is {t:List Tr}{i:Nat}{vid:Int}{f:F}{o:O}(hv:1≤vid) (h:Wy vid o) (q:Int):Rl.leave (frO f o) vid (gt t i vid q)=lv vid q:=by
 unfold Rl.leave gt lv frO;by_cases e:q=0
 ·subst e;simp
 ·rw[if_neg e];simp only;rw[if_neg (by omega),if_neg e];rcases h with⟨_,h2,h3,h4,_⟩ | ⟨_,h2⟩
  ·simp[h2,h3,h4]
  ·simp[h2]
theorem wrong_tag {d s p v y p' v':Int}{n:Nat}{b:Bool}(h:wrong d s false p v y n=0) (hv:0≤v'∧v'≤4094) (hp:0≤p'∧p'≤7):wrong d s b p' v' y n=0:=by
 unfold wrong at h ⊢;rw[if_neg (show ¬(false=true∧¬((0≤v∧v≤4094)∧0≤p∧p≤7)) by simp)] at h;rw[if_neg (show ¬(b=true∧¬((0≤v'∧v'≤4094)∧0≤p'∧p'≤7)) from fun q=>q.2 ⟨hv,hp⟩)];exact h
theorem wrong_plain {d s p v y p' v':Int}{n:Nat}(h:wrong d s false p v y n=0):wrong d s false p' v' y n=0:=by
 unfold wrong at h ⊢;rw[if_neg (show ¬(false=true∧¬((0≤v∧v≤4094)∧0≤p∧p≤7)) by simp)] at h;rw[if_neg (show ¬(false=true∧¬((0≤v'∧v'≤4094)∧0≤p'∧p'≤7)) by simp)];exact h
def outP (n:Net) (t:List Tr) (vid d:Int) (m:List E) (i:Nat) (p:Int):List Int :=
 (ps n i).filter (fun q=>decide (q≠p)&&(op n t vid i q&&(!decide (Bk.Known m ⟨vid,d,0,0⟩)||decide (q=Bk.lookP m ⟨vid,d,0,0⟩))))
structure Hs (n:Net) (t:List Tr) (vid:Int) (f:F):Prop where
 right:n.Right
 few:t.length≤4
 way:1≤vid∧vid≤4094
 tree:∀i,i<n.K→0≤tr n vid i∧tr n vid i<t.length
 frame:wrong f.dst f.src false f.prio f.vid f.type f.n=0
section
variable {n:Net}{t:List Tr}{vid:Int}{f:F}
theorem Hs.errR (h:Hs n t vid f) {i:Nat}(hi:i<n.K) {o:O}(ho:Wy vid o) (b:List E):Rl.errR (rgR (n.bs i)) ((ps n i).map (gt t i vid)) b (frO f o)=(Bk.wrong (at' b) b.length).1:=by
 have hg:=(h.right.fine i hi).reg;have e1:(rgR (n.bs i)).wrong=0:=by
  show Rg.wrong (n.bs i).reg.s (n.bs i).reg.rev (n.bs i).reg.vs (n.bs i).reg.ts (n.bs i).reg.n=0;unfold Rg.wrong;rw[if_pos hg.1,if_pos hg.2.1];exact wrongTo_of hg.2.2
 have e2:(frO f o).wrong=0:=by
  show wrong f.dst f.src o.tagged o.prio o.vid f.type f.n=0;rcases ho with⟨_,h2,h3,_,h5⟩ | ⟨_,h2⟩
  ·exact wrong_tag h.frame (by have:=h.way;omega) (by omega)
  ·rw[h2];exact wrong_plain h.frame
 unfold Rl.errR Rl.or4 Rl.or3;rw[if_pos e1,if_pos (gates_right h.right h.few h.way i),e2];split
 ·rename_i q;exact q.symm
 ·rfl
theorem rl_good (h:Hs n t vid f) {i:Nat}(hi:i<n.K) {o:O}(ho:Wy vid o) (hp:o.port∈ps n i) {bks:Nat→List E}(hb:Bk.Book (bks i)) :
  rl n t vid f bks i o=if op n t vid i o.port=true∧Rl.res f.dst=false then⟨(outP n t vid f.dst (Bk.learn (bks i) ⟨vid,f.src,o.port,0⟩) i o.port).map (lv vid),Bk.learn (bks i) ⟨vid,f.src,o.port,0⟩,0⟩ else⟨[],bks i,0⟩:=by
 have e0:=h.errR hi ho (bks i);rw[Bk.wrong_zero hb] at e0;obtain⟨e1,e2⟩:=inG_map (t:=t) (vid:=vid) hp;have e3:Rl.wayOf (frO f o) (Rl.inG ((ps n i).map (gt t i vid)) o.port)=vid:=(by rw[e2];exact way_is h.way.1 ho)
 have e4:Rl.stays (rgR (n.bs i)) ((ps n i).map (gt t i vid)) o.port (frO f o)=(!op n t vid i o.port||Rl.res f.dst):=by
  unfold Rl.stays;rw[e3,e2];have:Rl.passes (gt t i vid o.port) ((rgR (n.bs i)).tree vid) vid=op n t vid i o.port:=passes_gt (h.tree i hi) o.port;rw[this];rfl
 unfold rl Rl.relay;rw[gates_eq h.right,if_pos e0,if_neg e1,e4];by_cases c:op n t vid i o.port=true∧Rl.res f.dst=false
 ·rw[if_pos c,if_neg (by rw[c.1,c.2];simp)];have e5:Rl.learnt (bks i) ((ps n i).map (gt t i vid)) o.port (frO f o)=Bk.learn (bks i) ⟨vid,f.src,o.port,0⟩:=by
   unfold Rl.learnt;rw[e3];rfl
  rw[e5];congr 1
  unfold Rl.outs outP;rw[e3,e5,List.filter_map,List.map_map];have e6:(Rl.leave (frO f o) vid ∘ gt t i vid)=lv vid:=by funext q;exact leave_is h.way.1 ho q
  rw[e6];congr 1
  apply List.filter_congr
  intro q _;show Rl.leads (rgR (n.bs i)) _ vid (frO f o) o.port (gt t i vid q)=_;unfold Rl.leads;have:Rl.passes (gt t i vid q) ((rgR (n.bs i)).tree vid) vid=op n t vid i q:=passes_gt (h.tree i hi) q;rw[this];rfl
 ·rw[if_neg c,if_pos];cases hq:op n t vid i o.port with
  | false=>rfl
  | true =>
   cases hr:Rl.res f.dst with
   | true=>rfl
   | false=>exact absurd ⟨hq,hr⟩ c
end
end Ln
end
section
open Bk (E at')
namespace Ln
structure Sm where
 ps:Nat→List Int
 op:Nat→Int→Bool
 cr:Nat→Int→Option (Nat×Int)
 vid:Int
 dst:Int
 src:Int
structure Ss where
 seen:List Nat
 wait:List (Nat×Int)
 books:List (List E)
def Sm.book (M:Sm) (b:List E) (p:Int):List E:=Bk.learn b ⟨M.vid,M.src,p,0⟩
def Sm.out (M:Sm) (m:List E) (i:Nat) (p:Int):List Int :=
 (M.ps i).filter (fun q=>decide (q≠p)&&(M.op i q&&(!decide (Bk.Known m ⟨M.vid,M.dst,0,0⟩)||decide (q=Bk.lookP m ⟨M.vid,M.dst,0,0⟩))))
def Sm.acr (M:Sm) (i:Nat) (q:Int):Option (Nat×Int):=if q=0 then none else M.cr i q
def Sm.put (M:Sm) (s:Ss) (i:Nat) (r:List (Nat×Int)) (m:List E) (o:List Int):Ss:=⟨s.seen++(if 0∈o then [i] else []),r++o.filterMap (M.acr i),s.books.set i m⟩
def Sm.go (M:Sm) (s:Ss) (i:Nat) (p:Int) (r:List (Nat×Int)):Ss :=
 if M.op i p=true∧Rl.res M.dst=false then M.put s i r (M.book (s.books.getD i []) p) (M.out (M.book (s.books.getD i []) p) i p) else⟨s.seen,r,s.books⟩
def Sm.run (M:Sm):Nat→Ss→Ss
 | 0,s=>s
 | k+1,s=>match s.wait with
  | []=>s
  | (i,p) :: r=>M.run k (M.go s i p r)
def prv (k i:Nat):Nat:=if i=0 then k-1 else i-1
def nx (k i:Nat):Nat:=if i+1=k then 0 else i+1
def ringCr (k:Nat) (up:Nat→Bool) (i:Nat) (p:Int):Option (Nat×Int):=if p=2 then(if up i=true then some (nx k i,1) else none) else if p=1 then(if up (prv k i)=true then some (prv k i,2) else none) else none
def ringOp (k i:Nat) (p:Int):Bool:=!(decide (i=(k+1)/2)&&decide (p=if k%2=1 then 1 else 2))
def ringM (k:Nat) (op:Nat→Int→Bool) (up:Nat→Bool) (dst src:Int):Sm:=⟨fun _=>[0,1,2],op,ringCr k up,7,dst,src⟩
def seesAll (M:Sm) (k i:Nat):Bool:=let s:=M.run 41 ⟨[],[(i,0)],List.replicate k []⟩;s.wait.isEmpty&&decide (s.seen.length=k-1)
theorem ring_sees:((List.range 13).drop 3).all (fun k=>(List.range k).all (fun i=>seesAll (ringM k (ringOp k) (fun _=>true) 281474976710655 5) k i))=true:=by decide +kernel
end Ln
end
section
open Pl (Net Lk)
open Bk (E at')
open Rl (G gat F R O)
namespace Ln
def model (n:Net) (t:List Tr) (vid:Int) (f:F):Sm:=⟨ps n,op n t vid,fun i q=>(crossTo n.ls n.L ((i:Int),q)).map (fun z=>(z.1.toNat,z.2)),vid,f.dst,f.src⟩
theorem cross_end {ls:Nat→Lk}{p q:Int×Int}:∀{k:Nat},crossTo ls k p=some q→∃j,j<k∧(ls j).up=true∧(((ls j).a=p.1∧(ls j).pa=p.2∧q=((ls j).b,(ls j).pb))∨((ls j).b=p.1∧(ls j).pb=p.2∧q=((ls j).a,(ls j).pa)))
 | 0,h=>by cases h
 | k+1,h=>by
  unfold crossTo at h;split at h
  ·rename_i hu;split at h
   ·rename_i h1;injection h with h;exact⟨k,by omega,hu,Or.inl ⟨(Prod.ext_iff.1 h1).1.symm,(Prod.ext_iff.1 h1).2.symm,h.symm⟩⟩
   ·split at h
    ·rename_i h1;injection h with h;exact⟨k,by omega,hu,Or.inr ⟨(Prod.ext_iff.1 h1).1.symm,(Prod.ext_iff.1 h1).2.symm,h.symm⟩⟩
    ·obtain⟨j,hj,r⟩:=cross_end h;exact⟨j,by omega,r⟩
  ·obtain⟨j,hj,r⟩:=cross_end h;exact⟨j,by omega,r⟩
theorem cross_mem {n:Net}(hR:n.Right) {p q:Int×Int}(h:crossTo n.ls n.L p=some q):q.1.toNat<n.K∧q.2∈n.pts q.1.toNat∧1≤q.2:=by
 obtain⟨⟨h1,h2⟩,h3,h4⟩:=crossTo_range hR.links n.L (Nat.le_refl _) h;refine⟨by omega,?_,h3⟩;obtain⟨j,hj,_,⟨e1,e2,rfl⟩ | ⟨e1,e2,rfl⟩⟩:=cross_end h
 ·unfold Pl.Net.pts;refine List.mem_map.2 ⟨⟨(n.ls j).pb,(n.ls j).cost,(n.ls j).a,(n.ls j).pa,n.live j⟩,Pl.ends_mem.2 ⟨j,hj,Or.inr ⟨?_,rfl⟩⟩,rfl⟩;simp only at h1 ⊢;omega
 ·unfold Pl.Net.pts;refine List.mem_map.2 ⟨⟨(n.ls j).pa,(n.ls j).cost,(n.ls j).b,(n.ls j).pb,n.live j⟩,Pl.ends_mem.2 ⟨j,hj,Or.inl ⟨?_,rfl⟩⟩,rfl⟩;simp only at h1 ⊢;omega
structure Rel (n:Net) (vid:Int) (s:Cs) (S:Ss):Prop where
 err:s.err=0
 seen:s.seen=S.seen.map (fun i=>(i,lv vid 0))
 wait:s.wait.map (fun x=>(x.1,x.2.port))=S.wait
 ok:∀x∈s.wait,x.1<n.K∧x.2.port∈ps n x.1∧Wy vid x.2
 len:S.books.length=n.K
 books:∀i,i<n.K→s.books i=S.books.getD i []∧Bk.Book (s.books i)
theorem zero_once {l:List Int}(h:l.Pairwise (· < ·)):l.filter (fun q=>decide (q=0))=if 0∈l then [0] else []:=by
 induction l with
 | nil=>rfl
 | cons a l ih =>
  obtain⟨h1,h2⟩:=List.pairwise_cons.1 h;rw[List.filter_cons];by_cases e:a=0
  ·subst e;have hn:(0:Int) ∉ l:=fun q=>by have:=h1 0 q;omega
   rw[ih h2,if_neg hn];simp
  ·rw[ih h2];have e':¬0=a:=fun q=>e q.symm;simp[e,e']
theorem seen_lv (vid:Int) (i:Nat) {l:List Int}(h:l.Pairwise (· < ·)):seenOf i (l.map (lv vid))=if 0∈l then [(i,lv vid 0)] else []:=by
 unfold seenOf;rw[List.filter_map,List.map_map];have e:((fun o:O=>decide (o.port=0)) ∘ lv vid)=fun q=>decide (q=0):=by funext q;simp[lv_port]
 rw[e,zero_once h];split<;>rfl
theorem crs_lv (n:Net) (vid:Int) (i:Nat) (q:Int):crs n i (lv vid q)=if q=0 then none else(crossTo n.ls n.L ((i:Int),q)).map fun z=>(z.1.toNat,{ lv vid q with port:=z.2 }):=by
 unfold crs;rw[lv_port]
theorem wait_lv (n:Net) (t:List Tr) (vid:Int) (f:F) (i:Nat) (l:List Int):(waitOf n i (l.map (lv vid))).map (fun x=>(x.1,x.2.port))=l.filterMap ((model n t vid f).acr i):=by
 unfold waitOf;rw[List.filterMap_map,List.map_filterMap];congr 1
 funext q
 show(crs n i (lv vid q)).map _=_;rw[crs_lv];unfold Sm.acr;split
 ·rfl
 ·show Option.map _ (Option.map _ _)=Option.map _ _;rw[Option.map_map];rfl
section
variable {n:Net}{t:List Tr}{vid:Int}{f:F}
theorem wait_ok (hR:n.Right) {i:Nat}{l:List Int}{y:Nat×O}(h:y∈waitOf n i (l.map (lv vid))):y.1<n.K∧y.2.port∈ps n y.1∧Wy vid y.2:=by
 unfold waitOf at h;obtain⟨o,ho,e⟩:=List.mem_filterMap.1 h;obtain⟨q,_,rfl⟩:=List.mem_map.1 ho;rw[crs_lv] at e;split at e
 ·cases e
 ·rename_i hq;obtain⟨z,hz,rfl⟩:=Option.map_eq_some_iff.1 e;obtain⟨c1,c2,c3⟩:=cross_mem hR hz;refine⟨c1,List.mem_cons_of_mem _ c2,Or.inl ⟨?_,?_⟩⟩
  ·show z.2≠0;omega
  ·unfold lv;rw[if_neg hq];exact⟨rfl,rfl,rfl,rfl⟩
theorem Rel.step (h:Hs n t vid f) {s:Cs}{S:Ss}(r:Rel n vid s S) {x:Nat×O}{w:List (Nat×O)}(hw:s.wait=x :: w) :
  Rel n vid (Ln.step n t vid f s x w) ((model n t vid f).go S x.1 x.2.port (w.map (fun x=>(x.1,x.2.port)))):=by
 obtain⟨hx,hp,hy⟩:=r.ok x (by rw[hw];simp);obtain⟨hb1,hb2⟩:=r.books x.1 hx;have hg:=rl_good h hx hy hp hb2;have hw':∀y∈w,y.1<n.K∧y.2.port∈ps n y.1∧Wy vid y.2:=fun y hy=>r.ok y (by rw[hw];simp[hy]);unfold Ln.step Sm.go;rw[hg];have ec:((model n t vid f).op x.1 x.2.port=true∧Rl.res (model n t vid f).dst=false)↔(op n t vid x.1 x.2.port=true∧Rl.res f.dst=false):=Iff.rfl;by_cases c:op n t vid x.1 x.2.port=true∧Rl.res f.dst=false
 ·rw[if_pos c,if_pos (ec.2 c)];have hm:Bk.Book (Bk.learn (s.books x.1) ⟨vid,f.src,x.2.port,0⟩):=Bk.learn_book hb2 _;have eo:(model n t vid f).out ((model n t vid f).book (S.books.getD x.1 []) x.2.port) x.1 x.2.port=outP n t vid f.dst (Bk.learn (s.books x.1) ⟨vid,f.src,x.2.port,0⟩) x.1 x.2.port:=(by rw[hb1];rfl)
  have em:(model n t vid f).book (S.books.getD x.1 []) x.2.port=Bk.learn (s.books x.1) ⟨vid,f.src,x.2.port,0⟩:=(by rw[hb1];rfl)
  rw[eo,em];have hs:(outP n t vid f.dst (Bk.learn (s.books x.1) ⟨vid,f.src,x.2.port,0⟩) x.1 x.2.port).Pairwise (· < ·):=(ps_sorted h.right x.1).filter _;refine⟨rfl,?_,?_,fun y hy => ?_,?_,fun i hi => ?_⟩
  ·show s.seen++seenOf _ _=(S.seen++_).map _;rw[seen_lv vid x.1 hs,r.seen,List.map_append];congr 1
   split<;>rfl
  ·show(w++waitOf _ _ _).map _=_++_;rw[List.map_append,wait_lv n t vid f]
  ·rcases List.mem_append.1 hy with q | q
   ·exact hw' y q
   ·exact wait_ok h.right q
  ·show(S.books.set _ _).length=_;rw[List.length_set];exact r.len
  ·show(if i=x.1 then _ else s.books i)=(S.books.set x.1 _).getD i []∧Bk.Book (if i=x.1 then _ else s.books i);by_cases e:i=x.1
   ·subst e;rw[if_pos rfl];refine⟨?_,hm⟩;simp[List.getD,r.len,hx]
   ·rw[if_neg e];refine⟨?_,(r.books i hi).2⟩;rw[(r.books i hi).1];have e':¬x.1=i:=fun q=>e q.symm;simp[List.getD,e']
 ·rw[if_neg c,if_neg (fun q=>c (ec.1 q))];refine⟨rfl,?_,?_,fun y hy => ?_,r.len,fun i hi => ?_⟩
  ·show s.seen++seenOf _ []=_;rw[r.seen];simp[seenOf]
  ·show(w++waitOf _ _ []).map _=_;simp[waitOf]
  ·have:y∈w:=by simpa[waitOf] using hy
   exact hw' y this
  ·show(if i=x.1 then s.books x.1 else s.books i)=_∧Bk.Book (if i=x.1 then s.books x.1 else s.books i);by_cases e:i=x.1
   ·subst e;rw[if_pos rfl];exact r.books _ hi
   ·rw[if_neg e];exact r.books i hi
theorem Rel.carry (h:Hs n t vid f):∀(k:Nat) {s:Cs}{S:Ss},Rel n vid s S→Rel n vid (Ln.carry n t vid f k s) ((model n t vid f).run k S)
 | 0,_,_,r=>r
 | k+1,s,S,r=>by
  cases hw:s.wait with
  | nil =>
   have hS:S.wait=[]:=(by rw[←r.wait,hw];rfl)
   rw[carry_nil n t vid f _ s hw];have:(model n t vid f).run (k+1) S=S:=by simp[Sm.run,hS]
   rw[this];exact r
  | cons x w =>
   have hS:S.wait=(x.1,x.2.port) :: w.map (fun x=>(x.1,x.2.port)):=(by rw[←r.wait,hw];rfl)
   have hst:=r.step h hw;rw[carry_cons n t vid f k s hw,if_pos hst.err];have:(model n t vid f).run (k+1) S=(model n t vid f).run k ((model n t vid f).go S x.1 x.2.port (w.map (fun x=>(x.1,x.2.port)))):=by simp[Sm.run,hS]
   rw[this];exact Rel.carry h k hst
end
theorem fm_congr {α β:Type}{f g:α→Option β}:∀{l:List α},(∀x∈l,f x=g x)→l.filterMap f=l.filterMap g
 | [],_=>rfl
 | a :: l,h=>by
  simp only[List.filterMap_cons];rw[h a (by simp),fm_congr (fun x hx=>h x (by simp[hx]))]
theorem run_congr {K:Nat}{M N:Sm}(hv:M.vid=N.vid) (hd:M.dst=N.dst) (hs:M.src=N.src) (hp:∀i,i<K→M.ps i=N.ps i) (ho:∀i,i<K→∀p∈M.ps i,M.op i p=N.op i p) (hc:∀i,i<K→∀p∈M.ps i,M.cr i p=N.cr i p) (hr:∀i,i<K→∀p∈M.ps i,∀z,M.cr i p=some z→z.1<K∧z.2∈M.ps z.1) :
  ∀(k:Nat) (S:Ss),(∀x∈S.wait,x.1<K∧x.2∈M.ps x.1)→M.run k S=N.run k S
 | 0,_,_=>rfl
 | k+1,S,hw=>by
  cases hS:S.wait with
  | nil=>simp[Sm.run,hS]
  | cons x r =>
   obtain⟨i,p⟩:=x;obtain⟨hi,hpm⟩:=hw (i,p) (by rw[hS];simp);have eo:∀m,M.out m i p=N.out m i p:=fun m=>by
    unfold Sm.out;rw[←hp i hi,hv,hd];apply List.filter_congr
    intro q hq;rw[ho i hi q hq]
   have eb:∀b,M.book b p=N.book b p:=fun b=>by unfold Sm.book;rw[hv,hs]
   have ea:∀m,(M.out m i p).filterMap (M.acr i)=(M.out m i p).filterMap (N.acr i):=fun m=>by
    refine fm_congr (fun q hq => ?_);unfold Sm.acr;rw[hc i hi q (List.mem_filter.1 hq).1]
   have eg:M.go S i p r=N.go S i p r:=by
    unfold Sm.go Sm.put;rw[ho i hi p hpm,hd,eb];split
    ·rw[ea,eo]
    ·rfl
   have e1:M.run (k+1) S=M.run k (M.go S i p r):=(by simp[Sm.run,hS])
   have e2:N.run (k+1) S=N.run k (N.go S i p r):=(by simp[Sm.run,hS])
   rw[e1,e2,←eg];refine run_congr hv hd hs hp ho hc hr k _ (fun y hy => ?_);have hwr:∀y∈r,y.1<K∧y.2∈M.ps y.1:=fun y hy=>hw y (by rw[hS];simp[hy]);unfold Sm.go at hy;split at hy
   ·unfold Sm.put at hy;rcases List.mem_append.1 hy with q | q
    ·exact hwr y q
    ·obtain⟨z,hz,e⟩:=List.mem_filterMap.1 q;unfold Sm.acr at e;split at e
     ·cases e
     ·exact hr i hi z (List.mem_filter.1 hz).1 y e
   ·exact hwr y hy
theorem sent_run {n:Net}{t:List Tr}{vid:Int}{f:F}(h:Hs n t vid f) (ht:f.tagged=false) {bks:Nat→List E}{bl:List (List E)}(hl:bl.length=n.K) (hb:∀i,i<n.K→bks i=bl.getD i []∧Bk.Book (bks i)) {i:Nat}(hi:i<n.K) :
  Rel n vid (Ln.carry n t vid f 41 ⟨[],[(i,⟨0,f.tagged,f.prio,f.drop,f.vid⟩)],bks,0⟩) ((model n t vid f).run 41 ⟨[],[(i,0)],bl⟩) :=
 Rel.carry h 41 ⟨rfl,rfl,rfl,fun x hx=>by
  obtain rfl:x=(i,⟨0,f.tagged,f.prio,f.drop,f.vid⟩):=by simpa using hx
  exact⟨hi,List.mem_cons_self,Or.inr ⟨rfl,ht⟩⟩,hl,hb⟩
end Ln
end
end Go.Proofs.YtflghpnpjmodaaaGreatDoor
