/- TalkTells: what the program and the document answer, side by side -/
import Derived.Test.YtaneiffnhphkhaaGreatDoorD36
import Derived.Test.YtaneiffnhphkhaaGreatDoorD19
import Derived.Test.YtaneiffnhphkhaaGreatDoorD08
import Derived.Test.YtaneiffnhphkhaaGreatDoorD22
import Derived.BigQuiet
import Derived.Deep.QuietTactic
set_option maxRecDepth 100000
set_option maxHeartbeats 40000000
namespace Go.Proofs.YtaneiffnhphkhaaGreatDoor
section
open Go.RowKit
open Tk (Dn)
section
variable {P:Program}{ops:Array Oper}{Q:Exit→Act→World→Prop}{md:Region.Mode}{z:Nat}{C:World→Prop}
end
end
section
open Go.RowKit
open Vc (V Of)
open Pl (Br Net Pc Lk En)
open Tk (Md Mnd Cn Sc Dn)
theorem sn_net {W:World}{n:Net}{T:Nat}{s:Sc}{n':Net}{oa:Option Addr}{oc:Nat}{t':List Tr}(h:SnOut W n T s n' oa oc t'):n'.K=n.K∧n'.L=n.L∧n'.ends=s.E n.cn∧∀k:Int,n'.ids k=s.ids n.cn k:=by
 have e1:n'.K=n.K:=congrArg Cn.K h.cn;have e2:n'.L=n.L:=congrArg Cn.L h.cn;refine⟨e1,e2,?_,fun k => ?_⟩
 ·have:=Pl.Net.sc_E n' s.ms;rw[h.sc,h.cn] at this;exact this.symm
 ·funext i
  have:=net_ids (n:=n') s.ms k i;rw[h.sc,h.cn] at this;exact this.symm
end
section
open Go.RowKit
open Vc (V Of)
open Pl (Br Net Pc Lk En)
theorem t7ints_any (ao bo:Option Addr) (n c1 c2:Nat) (f:Nat→Int) (w:World) (hn:n≤1000) (h1:IRow w ao n c1 f) (h2:IRow w bo n c2 f) :
  Calls Tryz.prog 37 #[.slice ao n c1,.slice bo n c2] w fun e w'=>e=.returned (.bool true)∧∃m,w'=w.drewN m:=by
 have HA:Hid (∀m,IRow (w.drewN m) ao n c1 f∧IRow (w.drewN m) bo n c2 f):=fun m=>⟨CRow.below h1 (below_drewN (Below.refl _ _) m),CRow.below h2 (below_drewN (Below.refl _ _) m)⟩
 have k1:=h1.1;have k2:=h2.1;clear h1 h2;go_enter Tryz.func37,Tryz.ntmps37;(go_wp2_with fail);go_loopw [13] (fun i wr=>∃k m:Nat,k≤n∧i=.int .i64 k∧wr=w.drewN m) (fun i _=>n-(intOf i).toNat)
 case atStart=>exact⟨0,0,by omega,rfl,rfl⟩
 case round =>
  obtain⟨k,m,hk,rfl,HW⟩:=hrel;by_cases hlt:k<n
  ·obtain⟨r1,r2⟩:=HA.out m;rw[←HW] at r1 r2;obtain⟨b1,o1,rfl,_⟩:=CRow.some r1 (by omega);obtain⟨b2,o2,rfl,_⟩:=CRow.some r2 (by omega);have x1:=IRow.cells r1 hlt;have x2:=IRow.cells r2 hlt;have HE:Hid (wr=w.drewN m):=HW;have i0:(0:Int)≤(k:Int):=(by omega)
   have i1:(k:Int)<(n:Int):=(by omega)
   clear r1 r2 HA HW;generalize f k=z at *;(go_wp2_with fail);(go_quiet (fail));(go_wp2_with fail);exact⟨⟨k+1,_,by omega,by go_num,by rw[HE.out,World.drewN_drewN]⟩,by simp[intOf];omega⟩
  ·have hnk:¬(k:Int)<(n:Int):=(by omega)
   have HE:Hid (wr=w.drewN m):=HW;clear HA HW;(go_wp2_with fail);go_ret;exact⟨rfl,m,HE.out⟩
structure SameB (a b:Br):Prop where
 addr:b.addr=a.addr
 pn:b.pn=a.pn
 pv:∀j,j<a.pn→b.pv j=a.pv j
 s:b.reg.s=a.reg.s
 rev:b.reg.rev=a.reg.rev
 n:b.reg.n=a.reg.n
 ways:∀j,j<a.reg.n→b.reg.vs j=a.reg.vs j∧b.reg.ts j=a.reg.ts j
structure SameN (a b:Net):Prop where
 K:b.K=a.K
 L:b.L=a.L
 few:a.K≤12∧a.L≤40
 bs:∀i,i<a.K→SameB (a.bs i) (b.bs i)
 small:∀i,i<a.K→(a.bs i).pn≤1000∧(a.bs i).reg.n≤100000
 ls:∀k,k<a.L→b.ls k=a.ls k
theorem tsamenet_any (n m:Net) (w:World) (hn:n.at' w) (hm:m.at' w) (hs:SameN n m) :
  Calls Tryz.prog 17 #[.agg #[.slice n.bao n.K n.bcap,.slice n.lao n.L n.lcap],.agg #[.slice m.bao m.K m.bcap,.slice m.lao m.L m.lcap]] w fun e w'=>e=.returned (.bool true)∧Bl w w':=by
 obtain⟨Z,HZ⟩:∃Z,Hid (Z=(w.alloc (.cells #[.slice n.bao n.K n.bcap,.slice n.lao n.L n.lcap] 25)).alloc (.cells #[.slice m.bao n.K m.bcap,.slice m.lao n.L m.lcap] 25)):=⟨_,rfl⟩
 have hZB:Bl w Z:=(by rw[HZ.out];exact bA2 _ _ _)
 have y7:Z.heap[w.heap.size]?=some (.cells #[.slice n.bao n.K n.bcap,.slice n.lao n.L n.lcap] 25):=(by rw[HZ.out];exact heap_alloc2_old _ _ _)
 have y8:Z.heap[w.heap.size+1]?=some (.cells #[.slice m.bao n.K m.bcap,.slice m.lao n.L m.lcap] 25):=(by rw[HZ.out];exact heap_alloc2_new _ _ _)
 have HG:Hid (∀V,Bl Z V→((V.cell? ⟨w.heap.size,0,none⟩=some (.slice n.bao n.K n.bcap)∧V.cell? ⟨w.heap.size,1,none⟩=some (.slice n.lao n.L n.lcap))∧(V.cell? ⟨w.heap.size+1,0,none⟩=some (.slice m.bao n.K m.bcap)∧V.cell? ⟨w.heap.size+1,1,none⟩=some (.slice m.lao n.L m.lcap)))∧(n.at' V∧m.at' V)∧Bl w V):=fun V hV=>by
  have h:=hZB.trans (hV.mono hZB.size);exact⟨⟨tC2 (keep y7 hV),tC2 (keep y8 hV)⟩,⟨hn.below h,hm.below h⟩,h⟩
 have HS:Hid (SameN n m):=hs;have hfewK:n.K≤12:=hs.few.1;have hfewL:n.L≤40:=hs.few.2;have hbc:=hn.brs.1;have hlc:=hn.lks.1;have hbc2:n.K≤m.bcap:=(by have:=hm.brs.1;rw[hs.K] at this;exact this)
 have hlc2:n.L≤m.lcap:=(by have:=hm.lks.1;rw[hs.L] at this;exact this)
 rw[hs.K,hs.L];obtain⟨⟨⟨c70,c71⟩,c80,c81⟩,_⟩:=HG.out Z (Below.refl _ _);rw[HZ.out] at c70 c71 c80 c81;clear hn hm hs hZB y7 y8;obtain⟨bao,hbao⟩:∃x,x=n.bao:=⟨_,rfl⟩
 obtain⟨mao,hmao⟩:∃x,x=m.bao:=⟨_,rfl⟩
 obtain⟨lao,hlao⟩:∃x,x=n.lao:=⟨_,rfl⟩
 obtain⟨kao,hkao⟩:∃x,x=m.lao:=⟨_,rfl⟩
 rw[←hbao,←hmao,←hlao,←hkao];rw[←hbao,←hlao] at HZ HG;rw[←hmao,←hkao] at HZ HG;rw[←hbao] at c70;rw[←hlao] at c71;rw[←hmao] at c80;rw[←hkao] at c81;have HBA:Hid (bao=n.bao∧mao=m.bao∧lao=n.lao∧kao=m.lao):=⟨hbao,hmao,hlao,hkao⟩
 clear hbao hmao hlao hkao;go_enter Tryz.func17,Tryz.ntmps17;have q1:((n.K:Int) != (n.K:Int))=false:=(by simp)
 have q2:((n.L:Int) != (n.L:Int))=false:=(by simp)
 (go_wp2_with fail);rw[←HZ.out];clear c70 c71 c80 c81 q1 q2;go_loopw [29] (fun i wr=>∃k:Nat,k≤n.K∧i=.int .i64 k∧Hid (Bl Z wr)) (fun i _=>n.K-(intOf i).toNat)
 case atStart=>exact⟨0,by omega,rfl,Below.refl _ _⟩
 case round =>
  obtain⟨k,hk,rfl,hB⟩:=hrel;by_cases hlt:k<n.K
  ·obtain⟨⟨⟨c70,_⟩,c80,_⟩,⟨an,am⟩,_⟩:=HG.out wr hB.out;have r1:=an.brs;have r2:=am.brs;rw[←HBA.out.1] at r1;rw[←HBA.out.2.1] at r2;obtain⟨b1,o1,rfl,lb1⟩:=CRow.some r1 (by omega);obtain⟨b2,o2,rfl,lb2⟩:=CRow.some r2 (by rw[HS.out.K];omega);have lz1:w.heap.size+1<wr.heap.size:=by
    have h1:Z.heap.size=w.heap.size+1+1:=(by rw[HZ.out];simp)
    have h2:=hB.out.size;omega
   have lz0:w.heap.size<wr.heap.size:=(by omega)
   have lz3:w.heap.size+1<wr.heap.size+1:=(by omega)
   have lz2:w.heap.size<wr.heap.size+1:=(by omega)
   have lb3:b1<wr.heap.size+1:=(by omega)
   have lb4:b2<wr.heap.size+1:=(by omega)
   obtain⟨a0,a1,a2,a3,a4⟩:=BRow.cells r1 hlt;obtain⟨d0,d1,d2,d3,d4⟩:=BRow.cells r2 (i:=k) (by rw[HS.out.K];exact hlt);have sb:=HS.out.bs k hlt;rw[sb.addr] at d0;rw[sb.pn] at d1;rw[sb.s] at d2;rw[sb.rev] at d3;rw[sb.n] at d4;have e1:=an.each k hlt;have e2:=am.each k (by rw[HS.out.K];exact hlt);have sm:=HS.out.small k hlt;have HRO:Hid (∀V,Bl wr V→(IRow V (n.bs k).pao (n.bs k).pn (n.bs k).pcap (n.bs k).pv∧IRow V (m.bs k).pao (n.bs k).pn (m.bs k).pcap (n.bs k).pv)∧(WayRow V (n.bs k).reg.ao (n.bs k).reg.n (n.bs k).reg.cap (n.bs k).reg.vs (n.bs k).reg.ts∧WayRow V (m.bs k).reg.ao (n.bs k).reg.n (m.bs k).reg.cap (m.bs k).reg.vs (m.bs k).reg.ts)∧Bl Z V):=fun V hV=>by
    obtain⟨x1,x2,_,_⟩:=e1.below hV;obtain⟨y1,y2,_,_⟩:=e2.below hV;rw[sb.pn] at y1;have y2:WayRow V (m.bs k).reg.ao (m.bs k).reg.n (m.bs k).reg.cap (m.bs k).reg.vs (m.bs k).reg.ts:=y2;rw[sb.n] at y2;exact⟨⟨x1,CRow.congr y1 (fun j hj=>by funext _;rw[sb.pv j hj])⟩,⟨x2,y2⟩,hB.out.trans (hV.mono hB.out.size)⟩
   have HWY:Hid (∀j,j<(n.bs k).reg.n→(m.bs k).reg.vs j=(n.bs k).reg.vs j∧(m.bs k).reg.ts j=(n.bs k).reg.ts j):=sb.ways;have ik:(0:Int)≤(k:Int):=(by omega)
   have nk:(k:Int)<(n.K:Int):=(by omega)
   have HKK:Hid (k+1≤n.K):=hlt;have hn1:=sm.2;have hp1:=sm.1;clear an am r1 r2 sb e1 e2 sm hB HBA HS;generalize m.bs k=mb at *;generalize n.bs k=nb at *;obtain⟨ad,pa,pn,pc,pv,⟨s,rv,wa,wn,wc',vs,ts⟩⟩:=nb;obtain⟨ad2,pa2,pn2,pc2,pv2,⟨s2,rv2,wa2,wn2,wc2,vs2,ts2⟩⟩:=mb;simp only at *;(go_wp2_with fail);go_cut [6,7] (fun s6 s7 wx=>∃g1 g2,s6=.pointer (some ⟨g1,0,none⟩)∧s7=.pointer (some ⟨g2,0,none⟩)∧Hid (wx.heap[g1]?=some (.cells #[.int .u64 ad,.slice pa pn pc,.string s,.int .i64 rv,.slice wa wn wc'] 74)∧wx.heap[g2]?=some (.cells #[.int .u64 ad,.slice pa2 pn pc2,.string s,.int .i64 rv,.slice wa2 wn wc2] 74)∧Bl wr wx))
   case first =>
    go_region
    (all_goals go_wp2_with fail);all_goals go_meet
    all_goals first | (exact⟨_,_,rfl,rfl,drew_keep (heap_alloc2_old _ _ _),drew_keep (heap_alloc2_new _ _ _),Below.drew (bA2 _ _ _)⟩) | (exact⟨_,_,rfl,rfl,drew_keep (heap_alloc2_new _ _ _),drew_keep (heap_alloc2_old _ _ _),Below.drew (bA2 _ _ _)⟩)
   case rest =>
   obtain⟨g1,g2,rfl,rfl,HC⟩:=hcut;clear c70 c80 a0 a1 a2 a3 a4 d0 d1 d2 d3 d4 lz0 lz1 lz2 lz3 lb1 lb2 lb3 lb4;have HCC:Hid (∀V,Bl wc V→((V.cell? ⟨g1,0,none⟩=some (.int .u64 ad)∧V.cell? ⟨g1,1,none⟩=some (.slice pa pn pc)∧V.cell? ⟨g1,2,none⟩=some (.string s)∧V.cell? ⟨g1,3,none⟩=some (.int .i64 rv)∧V.cell? ⟨g1,4,none⟩=some (.slice wa wn wc'))∧(V.cell? ⟨g2,0,none⟩=some (.int .u64 ad)∧V.cell? ⟨g2,1,none⟩=some (.slice pa2 pn pc2)∧V.cell? ⟨g2,2,none⟩=some (.string s)∧V.cell? ⟨g2,3,none⟩=some (.int .i64 rv)∧V.cell? ⟨g2,4,none⟩=some (.slice wa2 wn wc2)))∧Bl wr V):=fun V hV=>by
    obtain⟨h1,h2,h3⟩:=HC.out;have h1:=keep h1 hV;have h2:=keep h2 hV;exact⟨⟨⟨cell_of_row V g1 0 _ _ _ h1,cell_of_row V g1 1 _ _ _ h1,cell_of_row V g1 2 _ _ _ h1,cell_of_row V g1 3 _ _ _ h1,cell_of_row V g1 4 _ _ _ h1⟩,⟨cell_of_row V g2 0 _ _ _ h2,cell_of_row V g2 1 _ _ _ h2,cell_of_row V g2 2 _ _ _ h2,cell_of_row V g2 3 _ _ _ h2,cell_of_row V g2 4 _ _ _ h2⟩⟩,h3.trans (hV.mono h3.size)⟩
   obtain⟨⟨⟨x0,x1,x2,x3,x4⟩,y0,y1,y2,y3,y4⟩,hwc⟩:=HCC.out wc (Below.refl _ _);have HIN:Hid (Calls Tryz.prog 37 #[.slice pa pn pc,.slice pa2 pn pc2] wc fun e w'=>e=.returned (.bool true)∧Hid (Bl wc w')):=by
    refine(t7ints_any pa pa2 pn pc pc2 pv wc hp1 (HRO.out wc hwc).1.1 (HRO.out wc hwc).1.2).mono ?_;rintro e w' ⟨rfl,mm,rfl⟩;exact⟨rfl,below_drewN (Below.refl _ _) mm⟩
   clear hwc HC;(go_wp2_with fail);refine HIN.out.mono ?_;rintro e w4 ⟨rfl,H4⟩;clear HIN x0 x1 x2 x3 x4 y0 y1 y2 y3 y4;obtain⟨⟨⟨x0,x1,x2,x3,x4⟩,y0,y1,y2,y3,y4⟩,_⟩:=HCC.out w4 H4.out;have q1:((wn:Int) != (wn:Int))=false:=(by simp)
   (go_wp2_with fail);clear x0 x1 x2 x3 x4 y0 y1 y2 y3 y4 q1;go_loopw [88] (fun i wr=>∃j:Nat,j≤wn∧i=.int .i64 j∧Hid (Bl wc wr)) (fun i _=>wn-(intOf i).toNat)
   case atStart=>exact⟨0,by omega,rfl,H4⟩
   case round =>
    obtain⟨j,hj,rfl,hB3⟩:=hrel;by_cases hlt3:j<wn
    ·obtain⟨⟨⟨_,_,_,_,x4⟩,_,_,_,_,y4⟩,hB4⟩:=HCC.out wr hB3.out;obtain⟨_,⟨v1,v2⟩,_⟩:=HRO.out wr hB4;obtain⟨u1,f1,rfl,_,t1⟩:=v1.2 (by omega);obtain⟨u2,f2,rfl,_,t2⟩:=v2.2 (by omega);obtain⟨p1,p2⟩:=t1 j hlt3;obtain⟨p3,p4⟩:=t2 j hlt3;rw[(HWY.out j hlt3).1] at p3;rw[(HWY.out j hlt3).2] at p4;have cp1:=v1.1;have cp2:=v2.1;have ij:(0:Int)≤(j:Int):=(by omega)
     have nj:(j:Int)<(wn:Int):=(by omega)
     have HN:Hid (∀mm,Bl wc (wr.drewN mm)):=fun mm=>below_drewN hB3.out mm;have HJJ:Hid (j+1≤wn):=hlt3;clear v1 v2 t1 t2 HCC HRO HWY hB4;(go_wp2_with fail);(go_quiet (fail));(go_wp2_with fail);exact⟨⟨j+1,by omega,by go_num,HN.out _⟩,by simp[intOf];omega⟩
    ·have hjK:j=wn:=(by omega)
     have hnj:¬(j:Int)<(wn:Int):=(by omega)
     have HN:Hid (Bl Z wr):=(HRO.out wr (HCC.out wr hB3.out).2).2.2;have h3:=HKK.out;clear HCC HRO HWY;(go_wp2_with fail);exact⟨⟨k+1,h3,by go_num,HN⟩,by simp[intOf];omega⟩
  ·have hkK:k=n.K:=(by omega)
   have hnk:¬(k:Int)<(n.K:Int):=(by omega)
   obtain⟨⟨⟨_,c71⟩,_,c81⟩,_⟩:=HG.out wr hB.out;(go_wp2_with fail);clear c71 c81;go_loopw [109] (fun i wr=>∃j:Nat,j≤n.L∧i=.int .i64 j∧Hid (Bl Z wr)) (fun i _=>n.L-(intOf i).toNat)
   case atStart=>exact⟨0,by omega,rfl,hB⟩
   case round =>
    obtain⟨j,hj,rfl,hB3⟩:=hrel;by_cases hlt3:j<n.L
    ·obtain⟨⟨⟨_,c71⟩,_,c81⟩,⟨an,am⟩,_⟩:=HG.out wr hB3.out;have r1:=an.lks;have r2:=am.lks;rw[←HBA.out.2.2.1] at r1;rw[←HBA.out.2.2.2] at r2;obtain⟨b1,o1,rfl,_⟩:=CRow.some r1 (by omega);obtain⟨b2,o2,rfl,_⟩:=CRow.some r2 (by rw[HS.out.L];omega);obtain⟨a0,a1,a2,a3,a4,a5⟩:=LRow.cells r1 hlt3;obtain⟨d0,d1,d2,d3,d4,d5⟩:=LRow.cells r2 (i:=j) (by rw[HS.out.L];exact hlt3);rw[HS.out.ls j hlt3] at d0 d1 d2 d3 d4 d5;have ij:(0:Int)≤(j:Int):=(by omega)
     have nj:(j:Int)<(n.L:Int):=(by omega)
     have HN:Hid (∀mm,Bl Z (wr.drewN mm)):=fun mm=>below_drewN hB3.out mm;clear an am r1 r2 HBA HS HG;generalize n.ls j=lk at *;(go_wp2_with fail);(go_quiet (fail));(go_wp2_with fail);exact⟨⟨j+1,by omega,by go_num,HN.out _⟩,by simp[intOf];omega⟩
    ·have hjK:j=n.L:=(by omega)
     have hnj:¬(j:Int)<(n.L:Int):=(by omega)
     have HF:Hid (Bl w wr):=(HG.out wr hB3.out).2.2;clear HBA HS HG;(go_wp2_with fail);go_ret;exact⟨rfl,HF.out⟩
end
section
open Go.RowKit
open Vc (V Of)
open Tk (Md)
structure SameM (a b:Mi):Prop where
 md:b.md=a.md
 ports:b.ports=a.ports
 roles:b.roles=a.roles
 calm:b.calm=a.calm
 small:a.ports.length≤1000∧a.roles.length≤1000∧a.calm.length≤1000
structure SameT (t u:List Tr):Prop where
 len:u.length=t.length
 few:t.length≤1000
 rows:∀k,k<t.length→(tat u k).l.length=(tat t k).l.length∧(tat t k).l.length≤1000
 minds:∀k i,k<t.length→i<(tat t k).l.length→SameM (mat (tat t k).l i) (mat (tat u k).l i)
theorem tsame7_any (ao bo:Option Addr) (cap bcap:Nat) (t u:List Tr) (w:World) (ht:TrRow w ao cap t) (hu:TrRow w bo bcap u) (hs:SameT t u) :
  Calls Tryz.prog 14 #[.agg #[.slice ao t.length cap],.agg #[.slice bo u.length bcap]] w fun e w'=>e=.returned (.bool true)∧Bl w w':=by
 rw[hs.len];obtain⟨Z,HZ⟩:∃Z,Hid (Z=(w.alloc (.cells #[.slice ao t.length cap] 29)).alloc (.cells #[.slice bo t.length bcap] 29)):=⟨_,rfl⟩
 have hZB:Bl w Z:=(by rw[HZ.out];exact bA2 _ _ _)
 have y7:Z.heap[w.heap.size]?=some (.cells #[.slice ao t.length cap] 29):=(by rw[HZ.out];exact heap_alloc2_old _ _ _)
 have y8:Z.heap[w.heap.size+1]?=some (.cells #[.slice bo t.length bcap] 29):=(by rw[HZ.out];exact heap_alloc2_new _ _ _)
 have HG:Hid (∀V,Bl Z V→(V.cell? ⟨w.heap.size,0,none⟩=some (.slice ao t.length cap)∧V.cell? ⟨w.heap.size+1,0,none⟩=some (.slice bo t.length bcap))∧(TrRow V ao cap t∧TrRow V bo bcap u)∧Bl w V):=fun V hV=>by
  have h:=hZB.trans (hV.mono hZB.size);exact⟨⟨one_cell (keep y7 hV),one_cell (keep y8 hV)⟩,⟨ht.below h,hu.below h⟩,h⟩
 have HS:Hid (SameT t u):=hs;have hfew:t.length≤1000:=hs.few;have hcp:t.length≤cap:=ht.row.1;have hcp2:t.length≤bcap:=(by have:=hu.row.1;rw[hs.len] at this;exact this)
 obtain⟨⟨c70,c80⟩,_⟩:=HG.out Z (Below.refl _ _);rw[HZ.out] at c70 c80;have HSZ:Hid (Z.heap.size=w.heap.size+1+1):=by
  have h:Z.heap.size=w.heap.size+1+1:=(by rw[HZ.out];simp)
  exact h
 clear ht hu hs hZB y7 y8;go_enter Tryz.func14,Tryz.ntmps14;have q1:((t.length:Int) != (t.length:Int))=false:=(by simp)
 (go_wp2_with fail);rw[←HZ.out];clear c70 c80 q1;go_loopw [19] (fun i wr=>∃k:Nat,k≤t.length∧i=.int .i64 k∧Hid (Bl Z wr)) (fun i _=>t.length-(intOf i).toNat)
 case atStart=>exact⟨0,by omega,rfl,Below.refl _ _⟩
 case round =>
  obtain⟨k,hk,rfl,hB⟩:=hrel;by_cases hlt:k<t.length
  ·obtain⟨⟨c70,c80⟩,⟨r1,r2⟩,_⟩:=HG.out wr hB.out;obtain⟨b1,o1,hao,lb1⟩:=r1.place (by omega);obtain⟨b2,o2,hbo,lb2⟩:=r2.place (by rw[HS.out.len];omega);subst hao hbo;have x1:=r1.cell hlt;have x2:=r2.cell (i:=k) (by rw[HS.out.len];exact hlt);obtain⟨s1,s2⟩:=HS.out.rows k hlt;rw[s1] at x2;have HR:Hid (∀V,Bl Z V→(V.cell? ⟨w.heap.size,0,none⟩=some (.slice (some ⟨b1,o1,none⟩) t.length cap)∧V.cell? ⟨w.heap.size+1,0,none⟩=some (.slice (some ⟨b2,o2,none⟩) t.length bcap))∧(V.cell? ⟨b1,o1+k,none⟩=some (.slice (tat t k).ao (tat t k).l.length (tat t k).cap)∧V.cell? ⟨b2,o2+k,none⟩=some (.slice (tat u k).ao (tat t k).l.length (tat u k).cap))∧(MiRow V (tat t k).ao (tat t k).cap (tat t k).l∧MiRow V (tat u k).ao (tat u k).cap (tat u k).l)):=fun V hV=>by
    obtain⟨c1,⟨h1,h2⟩,_⟩:=HG.out V hV;have e2:=h2.cell (i:=k) (by rw[HS.out.len];exact hlt);rw[s1] at e2;exact⟨c1,⟨h1.cell hlt,e2⟩,h1.each k hlt,h2.each k (by rw[HS.out.len];exact hlt)⟩
   have HM:Hid (∀i,i<(tat t k).l.length→SameM (mat (tat t k).l i) (mat (tat u k).l i)):=fun i hi=>HS.out.minds k i hlt hi;have HLE:Hid ((tat u k).l.length=(tat t k).l.length):=s1;have hm1:(tat t k).l.length≤(tat t k).cap:=(r1.each k hlt).row.1;have hm2:(tat t k).l.length≤(tat u k).cap:=by
    have:=(r2.each k (by rw[HS.out.len];exact hlt)).row.1;rw[s1] at this;exact this
   have ik:(0:Int)≤(k:Int):=(by omega)
   have nk:(k:Int)<(t.length:Int):=(by omega)
   have HKK:Hid (k+1≤t.length):=hlt;have HLB:Hid (b1<wr.heap.size∧b2<wr.heap.size):=⟨lb1,lb2⟩
   clear r1 r2 s1 HS HG lb1 lb2;generalize tat t k=tk at *;generalize tat u k=uk at *;obtain⟨ta,tc,tl⟩:=tk;obtain⟨ua,uc,ul⟩:=uk;simp only at *;have q1:((tl.length:Int) != (tl.length:Int))=false:=(by simp)
   (go_wp2_with fail);(go_quiet (fail));(go_wp2_with fail);clear x1 x2 c70 c80 q1;have HBD:Hid (∀m,Bl Z (wr.drewN m)):=fun m=>below_drewN hB.out m;obtain⟨S0,HS0⟩:∃S0,Hid (S0=wr.heap.size):=⟨_,rfl⟩
   have HLB2:Hid (b1<S0∧b2<S0):=(by rw[HS0.out];exact HLB.out)
   go_loopw [41] (fun i wq=>∃j:Nat,j≤tl.length∧i=.int .i64 j∧Hid (Bl Z wq∧S0≤wq.heap.size)) (fun i _=>tl.length-(intOf i).toNat)
   case atStart=>exact⟨0,by omega,rfl,HBD.out _,by rw[HS0.out];simp⟩
   case round =>
    obtain⟨j,hj,rfl,hB2⟩:=hrel;by_cases hlt2:j<tl.length
    ·obtain⟨⟨c70,c80⟩,⟨x1,x2⟩,r1,r2⟩:=HR.out wr hB2.out.1;obtain⟨d1,p1,rfl,ld1⟩:=r1.place (by omega);obtain⟨d2,p2,rfl,ld2⟩:=r2.place (by rw[HLE.out];omega);obtain⟨a0,a1,a2,a3,a4,a5,a6,a7,a8⟩:=r1.cells hlt2;obtain⟨e0,e1,e2,e3,e4,e5,e6,e7,e8⟩:=r2.cells (i:=j) (by rw[HLE.out];exact hlt2);have i1:=r1.each j hlt2;have i2:=r2.each j (by rw[HLE.out];exact hlt2);have sm:=HM.out j hlt2;have lz1:w.heap.size+1<wr.heap.size:=by
      have h1:=HSZ.out;have h2:=hB2.out.1.size;omega
     have lb1:b1<wr.heap.size:=Nat.lt_of_lt_of_le HLB2.out.1 hB2.out.2;have lb2:b2<wr.heap.size:=Nat.lt_of_lt_of_le HLB2.out.2 hB2.out.2;have lz0:w.heap.size<wr.heap.size:=(by omega)
     have lz3:w.heap.size+1<wr.heap.size+1:=(by omega)
     have lz2:w.heap.size<wr.heap.size+1:=(by omega)
     have lb3:b1<wr.heap.size+1:=(by omega)
     have lb4:b2<wr.heap.size+1:=(by omega)
     have ld3:d1<wr.heap.size+1:=(by omega)
     have ld4:d2<wr.heap.size+1:=(by omega)
     rw[sm.md] at e0 e1 e2 e3 e4 e5;rw[sm.ports] at e6;rw[sm.roles] at e7;rw[sm.calm] at e8;obtain⟨n1,n2,n3⟩:=sm.small;have HIN:Hid (∀V,Bl wr V→(Calls Tryz.prog 37 #[.slice (mat tl j).po (mat tl j).ports.length (mat tl j).pc,.slice (mat ul j).po (mat tl j).ports.length (mat ul j).pc] V fun e w'=>e=.returned (.bool true)∧Hid (Bl wr w'∧Bl V w'))∧(Calls Tryz.prog 37 #[.slice (mat tl j).ro (mat tl j).roles.length (mat tl j).rc,.slice (mat ul j).ro (mat tl j).roles.length (mat ul j).rc] V fun e w'=>e=.returned (.bool true)∧Hid (Bl wr w'∧Bl V w'))∧(Calls Tryz.prog 37 #[.slice (mat tl j).co (mat tl j).calm.length (mat tl j).cc,.slice (mat ul j).co (mat tl j).calm.length (mat ul j).cc] V fun e w'=>e=.returned (.bool true)∧Hid (Bl wr w'∧Bl V w'))):=fun V hV=>by
      have j1:=i1.below hV;have j2:=i2.below hV;have y1:=j2.ports;have y2:=j2.roles;have y3:=j2.calm;rw[sm.ports] at y1;rw[sm.roles] at y2;rw[sm.calm] at y3;refine⟨(t7ints_any _ _ _ _ _ _ V n1 j1.ports y1).mono ?_,(t7ints_any _ _ _ _ _ _ V n2 j1.roles y2).mono ?_,(t7ints_any _ _ _ _ _ _ V n3 j1.calm y3).mono ?_⟩ <;>
      ·rintro e w' ⟨rfl,m,rfl⟩;exact⟨rfl,below_drewN hV m,below_drewN (Below.refl _ _) m⟩
     have ij:(0:Int)≤(j:Int):=(by omega)
     have nj:(j:Int)<(tl.length:Int):=(by omega)
     have HJJ:Hid (j+1≤tl.length):=hlt2;have HBB:Hid (∀V,Bl wr V→Bl Z V):=fun V hV=>hB2.out.1.trans (hV.mono hB2.out.1.size);have HWS:Hid (S0≤wr.heap.size):=hB2.out.2;clear i1 i2 sm r1 r2 hB2 HM HR HLE n1 n2 n3;generalize mat tl j=A at *;generalize mat ul j=B at *;obtain⟨⟨⟨vr,vc,vb,vp⟩,ag,rp⟩,po,pc,ports,ro,rc,roles,co,cc,calm⟩:=A;obtain⟨bmd,po2,pc2,ports2,ro2,rc2,roles2,co2,cc2,calm2⟩:=B;simp only at *;generalize ports.length=pn at *;generalize roles.length=rn at *;generalize calm.length=cn at *;(go_wp2_with fail);go_cut [7,8] (fun s6 s7 wx=>∃g1 g2,s6=.pointer (some ⟨g1,0,none⟩)∧s7=.pointer (some ⟨g2,0,none⟩)∧Hid (wx.heap[g1]?=some (.cells #[.int .u64 vr,.int .i64 vc,.int .u64 vb,.int .i64 vp,.int .i64 ag,.int .i64 rp,.slice po pn pc,.slice ro rn rc,.slice co cn cc] 66)∧wx.heap[g2]?=some (.cells #[.int .u64 vr,.int .i64 vc,.int .u64 vb,.int .i64 vp,.int .i64 ag,.int .i64 rp,.slice po2 pn pc2,.slice ro2 rn rc2,.slice co2 cn cc2] 66)∧Bl wr wx))
     case first =>
      go_region
      (all_goals go_wp2_with fail);all_goals go_meet
      all_goals first | (exact⟨_,_,rfl,rfl,drew_keep (heap_alloc2_old _ _ _),drew_keep (heap_alloc2_new _ _ _),Below.drew (bA2 _ _ _)⟩) | (exact⟨_,_,rfl,rfl,drew_keep (heap_alloc2_new _ _ _),drew_keep (heap_alloc2_old _ _ _),Below.drew (bA2 _ _ _)⟩)
     case rest =>
     obtain⟨g1,g2,rfl,rfl,HC⟩:=hcut;clear c70 c80 x1 x2 a0 a1 a2 a3 a4 a5 a6 a7 a8 e0 e1 e2 e3 e4 e5 e6 e7 e8 lz0 lz1 lz2 lz3 lb1 lb2 lb3 lb4 ld1 ld2 ld3 ld4;have HCC:Hid (∀V,Bl wc V→((V.cell? ⟨g1,0,none⟩=some (.int .u64 vr)∧V.cell? ⟨g1,1,none⟩=some (.int .i64 vc)∧V.cell? ⟨g1,2,none⟩=some (.int .u64 vb)∧V.cell? ⟨g1,3,none⟩=some (.int .i64 vp)∧V.cell? ⟨g1,4,none⟩=some (.int .i64 ag)∧V.cell? ⟨g1,5,none⟩=some (.int .i64 rp)∧V.cell? ⟨g1,6,none⟩=some (.slice po pn pc)∧V.cell? ⟨g1,7,none⟩=some (.slice ro rn rc)∧V.cell? ⟨g1,8,none⟩=some (.slice co cn cc))∧(V.cell? ⟨g2,0,none⟩=some (.int .u64 vr)∧V.cell? ⟨g2,1,none⟩=some (.int .i64 vc)∧V.cell? ⟨g2,2,none⟩=some (.int .u64 vb)∧V.cell? ⟨g2,3,none⟩=some (.int .i64 vp)∧V.cell? ⟨g2,4,none⟩=some (.int .i64 ag)∧V.cell? ⟨g2,5,none⟩=some (.int .i64 rp)∧V.cell? ⟨g2,6,none⟩=some (.slice po2 pn pc2)∧V.cell? ⟨g2,7,none⟩=some (.slice ro2 rn rc2)∧V.cell? ⟨g2,8,none⟩=some (.slice co2 cn cc2)))∧Bl wr V):=fun V hV=>by
      obtain⟨h1,h2,h3⟩:=HC.out;have h1:=keep h1 hV;have h2:=keep h2 hV;exact⟨⟨⟨cell_of_row V g1 0 _ _ _ h1,cell_of_row V g1 1 _ _ _ h1,cell_of_row V g1 2 _ _ _ h1,cell_of_row V g1 3 _ _ _ h1,cell_of_row V g1 4 _ _ _ h1,cell_of_row V g1 5 _ _ _ h1,cell_of_row V g1 6 _ _ _ h1,cell_of_row V g1 7 _ _ _ h1,cell_of_row V g1 8 _ _ _ h1⟩,⟨cell_of_row V g2 0 _ _ _ h2,cell_of_row V g2 1 _ _ _ h2,cell_of_row V g2 2 _ _ _ h2,cell_of_row V g2 3 _ _ _ h2,cell_of_row V g2 4 _ _ _ h2,cell_of_row V g2 5 _ _ _ h2,cell_of_row V g2 6 _ _ _ h2,cell_of_row V g2 7 _ _ _ h2,cell_of_row V g2 8 _ _ _ h2⟩⟩,h3.trans (hV.mono h3.size)⟩
     obtain⟨⟨⟨x0,x1,x2,x3,x4,x5,x6,x7,x8⟩,y0,y1,y2,y3,y4,y5,y6,y7,y8⟩,hwc⟩:=HCC.out wc (Below.refl _ _);have HI:=HIN.out wc hwc;have HI1:Hid (Calls Tryz.prog 37 #[.slice po pn pc,.slice po2 pn pc2] wc fun e w'=>e=.returned (.bool true)∧Hid (Bl wr w'∧Bl wc w')):=HI.1;clear HC hwc HI;(go_wp2_with fail);refine HI1.out.mono ?_;rintro e w4 ⟨rfl,H4⟩;clear HI1 x0 x1 x2 x3 x4 x5 x6 x7 x8 y0 y1 y2 y3 y4 y5 y6 y7 y8;obtain⟨⟨⟨x0,x1,x2,x3,x4,x5,x6,x7,x8⟩,y0,y1,y2,y3,y4,y5,y6,y7,y8⟩,hw4⟩:=HCC.out w4 H4.out.2;have HI1:Hid (Calls Tryz.prog 37 #[.slice ro rn rc,.slice ro2 rn rc2] w4 fun e w'=>e=.returned (.bool true)∧Hid (Bl wr w'∧Bl w4 w')):=(HIN.out w4 hw4).2.1;clear hw4;(go_wp2_with fail);refine HI1.out.mono ?_;rintro e w5 ⟨rfl,H5⟩;clear HI1 x0 x1 x2 x3 x4 x5 x6 x7 x8 y0 y1 y2 y3 y4 y5 y6 y7 y8;obtain⟨⟨⟨x0,x1,x2,x3,x4,x5,x6,x7,x8⟩,y0,y1,y2,y3,y4,y5,y6,y7,y8⟩,hw5⟩:=HCC.out w5 (H4.out.2.trans (H5.out.2.mono H4.out.2.size));have HI1:Hid (Calls Tryz.prog 37 #[.slice co cn cc,.slice co2 cn cc2] w5 fun e w'=>e=.returned (.bool true)∧Hid (Bl wr w'∧Bl w5 w')):=(HIN.out w5 hw5).2.2;clear hw5;(go_wp2_with fail);refine HI1.out.mono ?_;rintro e w6 ⟨rfl,H6⟩;clear HI1 x0 x1 x2 x3 x4 x5 x6 x7 x8 y0 y1 y2 y3 y4 y5 y6 y7 y8 HCC HIN H4 H5;(go_wp2_with fail);exact⟨⟨j+1,HJJ.out,by go_num,HBB.out _ H6.out.1,Nat.le_trans HWS.out H6.out.1.size⟩,by simp[intOf];omega⟩
    ·have hnj:¬(j:Int)<(tl.length:Int):=(by omega)
     have h3:=HKK.out;have HF:Hid (Bl Z wr):=hB2.out.1;clear HM HR hB2;(go_wp2_with fail);exact⟨⟨k+1,h3,by go_num,HF⟩,by simp[intOf];omega⟩
  ·have hnk:¬(k:Int)<(t.length:Int):=(by omega)
   have HF:Hid (Bl w wr):=(HG.out wr hB.out).2.2;clear HS HG;(go_wp2_with fail);go_ret;exact⟨rfl,HF.out⟩
end
section
open Go.RowKit
open Vc (V Of)
open Pl (Br Net Pc Lk En)
open Tk (Md Mnd Cn Sc Dn)
theorem right_small {n:Net}(h:n.wrong.1=0) {i:Nat}(hi:i<n.K):(n.bs i).pn≤1000∧(n.bs i).reg.n≤100000:=by
 have h0:=bErr_zero (((wrong_iff n).1 h).2.1 i hi);unfold Pl.brErr at h0;by_cases c1:281474976710655<(n.bs i).addr
 ·rw[if_pos c1] at h0;cases h0
 rw[if_neg c1] at h0;by_cases c2:16<(n.bs i).pn
 ·rw[if_pos c2] at h0;cases h0
 rw[if_neg c2] at h0;by_cases c3:Vc.someTo (fun j=>Pl.oddP ((n.bs i).pv j)) (n.bs i).pn=true
 ·rw[if_pos c3] at h0;cases h0
 rw[if_neg c3] at h0;have:=(Rg.wrong_zero h0).2.2.many;omega
theorem net_same {a b:Net}(hr:a.wrong.1=0) (hc:b.cn=a.cn) (hp:∀i,lsF (b.bs i).pv (b.bs i).pn=lsF (a.bs i).pv (a.bs i).pn) (hl:b.ls=a.ls)
  (hg:∀i,(b.bs i).reg.s=(a.bs i).reg.s∧(b.bs i).reg.rev=(a.bs i).reg.rev∧(b.bs i).reg.n=(a.bs i).reg.n∧(b.bs i).reg.vs=(a.bs i).reg.vs∧(b.bs i).reg.ts=(a.bs i).reg.ts):SameN a b:=by
 have hw:=(wrong_iff a).1 hr;refine⟨congrArg Cn.K hc,congrArg Cn.L hc,⟨by omega,by omega⟩,fun i hi => ?_,fun i hi=>right_small hr hi,fun k _=>by rw[hl]⟩;obtain⟨g1,g2,g3,g4,g5⟩:=hg i;have e:(b.bs i).pn=(a.bs i).pn:=by
  have:=congrArg List.length (hp i);rwa [lsF_len,lsF_len] at this
 refine⟨congrFun (congrArg Cn.addr hc) i,e,fun j hj => ?_,g1,g2,g3,fun j _=>⟨by rw[g4],by rw[g5]⟩⟩;have h1:=lsF_get (b.bs i).pv (n:=(b.bs i).pn) (j:=j) (by omega);rw[←h1,hp i];exact lsF_get (a.bs i).pv hj
theorem sn_same {W W2:World}{n m:Net}{T T2:Nat}{s s2:Sc}{a b:Net}{oa oa2:Option Addr}{oc oc2:Nat}{t t2:List Tr}(h:SnOut W n T s a oa oc t) (h2:SnOut W2 m T2 s2 b oa2 oc2 t2) (hc:m.cn=n.cn) (hp:s2.pr=s.pr) (hl:s2.ls=s.ls)
  (hg:∀i,(m.bs i).reg.s=(n.bs i).reg.s∧(m.bs i).reg.rev=(n.bs i).reg.rev∧(m.bs i).reg.n=(n.bs i).reg.n∧(m.bs i).reg.vs=(n.bs i).reg.vs∧(m.bs i).reg.ts=(n.bs i).reg.ts):SameN a b:=by
 refine net_same h.right (h2.cn.trans (hc.trans h.cn.symm)) (fun i => ?_) ?_ (fun i => ?_)
 ·have e1:=congrFun (congrArg Sc.pr h.sc) i;have e2:=congrFun (congrArg Sc.pr h2.sc) i;refine Eq.trans e2 ?_;rw[hp];exact e1.symm
 ·have e1:=congrArg Sc.ls h.sc;have e2:=congrArg Sc.ls h2.sc;refine Eq.trans e2 ?_;rw[hl];exact e1.symm
 ·obtain⟨a1,a2,a3,a4,a5⟩:=h.regs i;obtain⟨b1,b2,b3,b4,b5⟩:=h2.regs i;obtain⟨g1,g2,g3,g4,g5⟩:=hg i;exact⟨by rw[b1,g1,a1],by rw[b2,g2,a2],by rw[b3,g3,a3],by rw[b4,g4,a4],by rw[b5,g5,a5]⟩
theorem sn_sameT {W W2:World}{n m:Net}{T T2:Nat}{s s2:Sc}{a b:Net}{oa oa2:Option Addr}{oc oc2:Nat}{t t2:List Tr}(h:SnOut W n T s a oa oc t) (h2:SnOut W2 m T2 s2 b oa2 oc2 t2) (hT:T≤T2) (hT4:T≤1000) (hK:m.K=n.K) (hm:∀k,k<T→s2.ms k=s.ms k) (hp:∀i,m.pts i=n.pts i):SameT t (t2.take T):=by
 have hR:=right_of h.wf h.right;obtain⟨e1,e2,e3,_⟩:=sn_net h;have hat:∀k,k<T→tat (t2.take T) k=tat t2 k:=fun k hk=>by
  unfold tat;rw[List.getD_eq_getElem?_getD,List.getD_eq_getElem?_getD,List.getElem?_take_of_lt hk]
 have hlen:(t2.take T).length=T:=(by rw[List.length_take,h2.len];omega)
 refine⟨by rw[hlen,h.len],by rw[h.len];exact hT4,fun k hk => ?_,fun k i hk hi => ?_⟩
 ·rw[h.len] at hk;rw[hat k hk,(h.each k hk).1,(h2.each k (by omega)).1,hK];exact⟨rfl,by rw[←e1];have:=hR.few;omega⟩
 ·rw[h.len] at hk;rw[(h.each k hk).1] at hi;rw[hat k hk];obtain⟨m1,m2⟩:=(h.each k hk).2 i hi;obtain⟨o1,o2⟩:=(h2.each k (by omega)).2 i (by rw[hK];exact hi);have em:msT t2 k i=msT t k i:=(by rw[o1,m1,hm k hk])
  have hf:=h.ok.fit k hk i hi;refine⟨congrArg Mnd.md em,by rw[o2,m2,hp i],congrArg Mnd.roles em,congrArg Mnd.calm em,?_⟩;have hen:=ends_few a i hR.fewL;rw[e3] at hen;have z1:(mat (tat t k).l i).roles=(s.ms k i).roles:=congrArg Mnd.roles m1;have z2:(mat (tat t k).l i).calm=(s.ms k i).calm:=congrArg Mnd.calm m1;rw[z1,z2,m2];have hn:=ends_few n i (by rw[←e2];exact hR.fewL);exact⟨by unfold Pl.Net.pts;rw[List.length_map];exact hn,by rw[hf.1];exact hen,by rw[hf.2];exact hen⟩
def Pl.Net.none0 (n:Net):Net:=⟨none,0,0,n.bs,none,0,0,n.ls⟩
end
section
open Go.RowKit
open Vc (V Of)
open Pl (En Lk Br Net)
open Tk (Md Mnd Cn Sc Dn)
theorem pts_few {n:Net}(R:Pl.RightL n.K n.L n.ls) (i:Nat):(n.pts i).length≤30:=by
 have e:Pl.ptsAll n.ls n.L i 30=n.pts i:=Pl.ports_same R n.live i;obtain⟨h1,h2⟩:=Pl.ptsAll_rise R i 30;rw[e] at h1 h2;exact rise_few h1 (fun x hx=>((h2 x).1 hx).1)
theorem none_at (n:Net) (w:World):(Pl.Net.none0 n).at' w:=⟨⟨Nat.le_refl _,fun h=>absurd h (Nat.lt_irrefl _)⟩,fun _ hi=>absurd hi (Nat.not_lt_zero _),⟨Nat.le_refl _,fun h=>absurd h (Nat.lt_irrefl _)⟩,Nat.zero_le _,Nat.zero_le _⟩
theorem none_row (w:World):TrRow w none 0 []:=⟨⟨Nat.le_refl _,fun h=>absurd h (Nat.lt_irrefl _)⟩,fun _ hi=>absurd hi (Nat.not_lt_zero _),Nat.zero_le _⟩
theorem nilT_same:SameT [] []:=⟨rfl,Nat.zero_le _,fun _ hk=>absurd hk (Nat.not_lt_zero _),fun _ _ hk=>absurd hk (Nat.not_lt_zero _)⟩
theorem net_agree {n:Net}{w V:World}(h:n.at' w) (hV:∀q,q<w.heap.size→V.heap[q]?=w.heap[q]?):n.at' V:=by
 have hs:w.heap.size≤V.heap.size:=by
  by_cases q:w.heap.size≤V.heap.size
  ·exact q
  ·have h1:=hV V.heap.size (by omega);rw[Array.getElem?_eq_none (Nat.le_refl _)] at h1;have h2:=Array.getElem?_eq_getElem (xs:=w.heap) (i:=V.heap.size) (by omega);rw[h2] at h1;cases h1
 have h':n.at' { w with heap:=V.heap }:=h.below ⟨rfl,rfl,rfl,hs,hV⟩;exact⟨h'.brs,fun i hi=>h'.each i hi,h'.lks,h'.manyB,h'.manyL⟩
def StR (n:Net) (trees:Int) (t:List Tr):Prop:=((stErr n trees).1≠0∧t=[])∨((stErr n trees).1=0∧(t.length:Int)=trees∧fitT n t=true∧∀k,k<t.length→∀i,i<n.K→startMs n k i=msT t k i)
theorem str_same {n:Net}{trees:Int}{t u:List Tr}(hw:n.Wf) (h:StR n trees t) (h2:StR n trees u):SameT t u:=by
 rcases h with⟨a,rfl⟩ | ⟨a,l1,f1,m1⟩
 ·rcases h2 with⟨_,rfl⟩ | ⟨b,_⟩
  ·exact nilT_same
  ·exact absurd b a
 ·rcases h2 with⟨b,_⟩ | ⟨_,l2,f2,m2⟩
  ·exact absurd a b
  ·have R:=right_of hw (stErr_zero a).1;obtain⟨c1,d1⟩:=fit_iff.1 f1;obtain⟨c2,d2⟩:=fit_iff.1 f2;have hK:=R.few;have hl:u.length=t.length:=(by omega)
   refine⟨hl,by omega,fun k hk => ?_,fun k i hk hi => ?_⟩
   ·have e1:=(d1 k hk).1;have e2:=(d2 k (by omega)).1;exact⟨by omega,by omega⟩
   ·have e1:=(d1 k hk).1;have hiK:i<n.K:=(by omega)
    obtain⟨p1,r1,s1⟩:=(d1 k hk).2 i hiK;obtain⟨p2,r2,s2⟩:=(d2 k (by omega)).2 i hiK;have em:=(m1 k hk i hiK).symm.trans (m2 k (by omega) i hiK);have hp:=pts_few R.links i;have g1:=congrArg Mnd.md em;have g2:=congrArg Mnd.roles em;have g3:=congrArg Mnd.calm em;exact⟨g1.symm,p2.trans p1.symm,g2.symm,g3.symm,⟨by rw[p1];omega,by omega,by omega⟩⟩
def ScR (n:Net) (T:Nat) (s:Sc) (bad:Prop) (m:Net) (t:List Tr):Prop:=(bad∧m=n.none0∧t=[])∨(¬bad∧∃W oa oc,SnOut W n T s m oa oc t)
theorem scr_same {n:Net}{T:Nat}{s:Sc}{bad:Prop}{m m2:Net}{t t2:List Tr}(h:ScR n T s bad m t) (h2:ScR n T s bad m2 t2) (hT:T≤1000):SameN m m2∧SameT t t2:=by
 rcases h with⟨a,rfl,rfl⟩ | ⟨a,W,oa,oc,h⟩
 ·rcases h2 with⟨_,rfl,rfl⟩ | ⟨b,_⟩
  ·exact⟨⟨rfl,rfl,⟨Nat.zero_le _,Nat.zero_le _⟩,fun i hi=>absurd hi (Nat.not_lt_zero _),fun i hi=>absurd hi (Nat.not_lt_zero _),fun _ _=>rfl⟩,nilT_same⟩
  ·exact absurd a b
 ·rcases h2 with⟨b,_⟩ | ⟨_,W2,oa2,oc2,h2⟩
  ·exact absurd b a
  ·have h3:=sn_sameT h h2 (Nat.le_refl _) hT rfl (fun _ _=>rfl) (fun _=>rfl);rw[List.take_of_length_le (by rw[h2.len];exact Nat.le_refl _)] at h3;exact⟨sn_same h h2 rfl rfl rfl (fun i=>⟨rfl,rfl,rfl,rfl,rfl⟩),h3⟩
theorem scr_calm {n:Net}{T:Nat}{s:Sc}{bad:Prop}{m:Net}{t:List Tr}(h:ScR n T s bad m t):CalmT t:=by
 rcases h with⟨_,_,rfl⟩ | ⟨_,W,oa,oc,h⟩
 ·exact fun k hk=>absurd hk (Nat.not_lt_zero _)
 ·intro k hk i hi j;rw[h.len] at hk;obtain⟨a1,a2⟩:=h.each k hk;rw[a1] at hi;have:=h.ok.calm k hk i hi j;rw[←(a2 i hi).1] at this;exact this
theorem opT_same {t u:List Tr}(h:SameT t u) (a b p:Int):opT u a b p=opT t a b p:=by
 unfold opT;rw[h.len];by_cases q:0≤a∧a≤(t.length:Int)-1
 ·have hk:a.toNat<t.length:=(by omega)
  obtain⟨e1,_⟩:=h.rows a.toNat hk;rw[e1];by_cases q2:0≤b∧b≤((tat t a.toNat).l.length:Int)-1
  ·rw[if_pos ⟨q,q2⟩,if_pos ⟨q,q2⟩];have hm:=h.minds a.toNat b.toNat hk (by omega);unfold opM;rw[hm.ports,hm.calm]
  ·rw[if_neg (fun z=>q2 z.2),if_neg (fun z=>q2 z.2)]
 ·rw[if_neg (fun z=>q z.1),if_neg (fun z=>q z.1)]
def PlZ (N:Nat→Prop) (W:World) (E:Int×Int) (n:Net) (T:Nat) (s:Sc) (e:Ending) (w':World):Prop :=
 ∃(na:Option Addr) (nk nc:Nat) (la:Option Addr) (lk lc:Nat) (oa:Option Addr) (ol oc:Nat),e=.returned (.tuple #[.agg #[.slice na nk nc,.slice la lk lc],.agg #[.slice oa ol oc],.agg #[.int .i64 E.1,.int .i64 E.2]]) ∧
  Hid (Bl W w'∧∃m t,(na=m.bao∧nk=m.K∧nc=m.bcap∧la=m.lao∧lk=m.L∧lc=m.lcap∧ol=t.length)∧ScR n T s (E.1≠0) m t∧Bz N w' (fun V=>m.at' V∧TrRow V oa oc t))
theorem plz_bad {N:Nat→Prop}{W w':World}{E:Int×Int}{n:Net}{T:Nat}{s:Sc}(hb:Bl W w') (h:E.1≠0):PlZ N W E n T s (.returned (.tuple #[.agg #[.slice none 0 0,.slice none 0 0],.agg #[.slice none 0 0],.agg #[.int .i64 E.1,.int .i64 E.2]])) w' :=
 ⟨none,0,0,none,0,0,none,0,0,rfl,hb,n.none0,[],⟨rfl,rfl,rfl,rfl,rfl,rfl,rfl⟩,Or.inl ⟨h,rfl,rfl⟩,fun V _=>⟨none_at n V,none_row V⟩⟩
theorem plz_ok {N:Nat→Prop}{W w':World}{E:Int×Int}{n:Net}{T:Nat}{s:Sc}{m:Net}{oa:Option Addr}{oc:Nat}{t:List Tr}(hb:Bl W w') (h:E=(0,0)) (hz:Bz N w' (fun V=>SnOut V n T s m oa oc t)):PlZ N W E n T s (.returned (.tuple #[m.val,.agg #[.slice oa t.length oc],.agg #[.int .i64 0,.int .i64 0]])) w':=by
 subst h;exact⟨m.bao,m.K,m.bcap,m.lao,m.L,m.lcap,oa,t.length,oc,rfl,hb,m,t,⟨rfl,rfl,rfl,rfl,rfl,rfl,rfl⟩,Or.inr ⟨fun z=>z rfl,w',oa,oc,hz.here⟩,hz.imp (fun V hV=>⟨hV.net,hV.row⟩)⟩
theorem kept_bz {N:Nat→Prop}{W w':World}{b:Nat}{P:World→Prop}(hN:∀q,N q→q<W.heap.size) (hb:W.heap.size≤b) (h:Kept w' b P):Bz N w' P:=fun V hV=>h V (fun q h1 h2=>hV q h2 (fun z=>by have:=hN q z;omega))
theorem onErr_pair {n:Net}{t:List Tr}{ds:Nat→Dn}{dn:Nat}(h:(onErr n t ds dn).1=0):onErr n t ds dn=(0,0):=by
 obtain⟨h1,h2⟩:=onErr_zero h;unfold onErr;rw[if_neg (fun z=>z h1)];exact(Pl.firstTo_zero _ _ h2).1
theorem plErr_pair {n:Net}{trees:Int}{ds:Nat→Dn}{dn:Nat}(h:(plErr n trees ds dn).1=0):plErr n trees ds dn=(0,0):=by
 unfold plErr at h ⊢;by_cases q:(stErr n trees).1=0
 ·rw[if_neg (fun z=>z q)] at h ⊢;by_cases q2:30<dn
  ·rw[if_pos q2] at h;cases h
  ·rw[if_neg q2] at h ⊢;exact(Pl.firstTo_zero _ _ h).1
 ·rw[if_pos q] at h;exact absurd h q
theorem tplay_z {n:Net}{trees:Int}{dao:Option Addr}{dn dcap:Nat}{ds:Nat→Dn}{N:Nat→Prop}{W:World}(hwf:n.Wf) (hN:∀q,N q→q<W.heap.size) (hat:n.at' W) (hdn:dn≤9223372036854775807) (hds:DRow W dao dn dcap ds) (htb:Tabs W) (hbt:2≤W.heap.size) :
  Calls Tryz.prog 15 #[.agg #[.slice n.bao n.K n.bcap,.slice n.lao n.L n.lcap],.int .i64 trees,.slice dao dn dcap] W fun e w'=>PlZ N W (plErr n trees ds dn) n trees.toNat ((n.sc (startMs n)).all n.cn ds dn) e w':=by
 refine(tplay_any n trees dao dn dcap ds W hwf hat hdn hds htb hbt).mono ?_;rintro e w' ⟨h1,⟨h2,rfl⟩ | ⟨h2,m,oa,oc,t,rfl,b,hb,h3⟩⟩
 ·exact plz_bad h1 h2
 ·exact plz_ok h1 (plErr_pair h2) (kept_bz hN hb h3)
theorem rplay_z {n:Net}{trees:Int}{dao:Option Addr}{dn dcap:Nat}{ds:Nat→Dn}{N:Nat→Prop}{W:World}(hwf:n.Wf) (hN:∀q,N q→q<W.heap.size) (hat:Bz N W (fun V=>n.at' V)) (hnb:NilOk n.bao n.K n.bcap) (hnl:NilOk n.lao n.L n.lcap) (hnp:∀i,i<n.K→NilOk (n.bs i).pao (n.bs i).pn (n.bs i).pcap) (hdn:dn≤9223372036854775807) (hds:DRow W dao dn dcap ds) :
  Calls Tryz.prog 16 #[.agg #[.slice n.bao n.K n.bcap,.slice n.lao n.L n.lcap],.int .i64 trees,.slice dao dn dcap] W fun e w'=>PlZ N W (plErr n trees ds dn) n trees.toNat ((n.sc (startMs n)).all n.cn ds dn) e w':=by
 refine(rplay_any n trees dao dn dcap ds N W hwf hN hat hnb hnl hnp hdn hds).mono ?_;rintro e w' ⟨h1,⟨h2,rfl⟩ | ⟨h2,m,oa,oc,t,rfl,h3⟩⟩
 ·exact plz_bad h1 h2
 ·exact plz_ok h1 (plErr_pair h2) h3
theorem ton_z {n:Net}{oao:Option Addr}{ocap:Nat}{t:List Tr}{dao:Option Addr}{dn dcap:Nat}{ds:Nat→Dn}{N:Nat→Prop}{W:World}(hwf:n.Wf) (hN:∀q,N q→q<W.heap.size) (hat:n.at' W) (htr:TrRow W oao ocap t) (hdn:dn≤9223372036854775807) (hds:DRow W dao dn dcap ds) (hc:CalmT t) (htb:Tabs W) (hbt:2≤W.heap.size) :
  Calls Tryz.prog 20 #[.agg #[.slice n.bao n.K n.bcap,.slice n.lao n.L n.lcap],.agg #[.slice oao t.length ocap],.slice dao dn dcap] W fun e w'=>PlZ N W (onErr n t ds dn) n t.length ((n.sc (msT t)).all n.cn ds dn) e w':=by
 refine(ton_any n oao ocap t (msT t) dao dn dcap ds W hwf hat htr hdn hds hc (fun _ _ _ _=>rfl) htb hbt).mono ?_;rintro e w' ⟨h1,⟨h2,rfl⟩ | ⟨h2,m,oa,oc,t,rfl,b,hb,h3⟩⟩
 ·exact plz_bad h1 h2
 ·exact plz_ok h1 (onErr_pair h2) (kept_bz hN hb h3)
theorem ron_z {n:Net}{oao:Option Addr}{ocap:Nat}{t:List Tr}{dao:Option Addr}{dn dcap:Nat}{ds:Nat→Dn}{N:Nat→Prop}{W:World}(hwf:n.Wf) (hN:∀q,N q→q<W.heap.size) (hat:Bz N W (fun V=>n.at' V)) (hnb:NilOk n.bao n.K n.bcap) (hnl:NilOk n.lao n.L n.lcap) (hnp:∀i,i<n.K→NilOk (n.bs i).pao (n.bs i).pn (n.bs i).pcap) (htr:Bz N W (fun V=>TrRow V oao ocap t)) (hdn:dn≤9223372036854775807) (hds:DRow W dao dn dcap ds) (hc:CalmT t) :
  Calls Tryz.prog 21 #[.agg #[.slice n.bao n.K n.bcap,.slice n.lao n.L n.lcap],.agg #[.slice oao t.length ocap],.slice dao dn dcap] W fun e w'=>PlZ N W (onErr n t ds dn) n t.length ((n.sc (msT t)).all n.cn ds dn) e w':=by
 refine(ron_any n oao ocap t (msT t) dao dn dcap ds N W hwf hN hat hnb hnl hnp htr hdn hds hc (fun _ _ _ _=>rfl)).mono ?_;rintro e w' ⟨h1,⟨h2,rfl⟩ | ⟨h2,m,oa,oc,t,rfl,h3⟩⟩
 ·exact plz_bad h1 h2
 ·exact plz_ok h1 (onErr_pair h2) h3
def StZ (W:World) (n:Net) (trees:Int) (e:Ending) (w':World):Prop :=
 ∃(oa:Option Addr) (oc ol:Nat),e=.returned (.tuple #[.agg #[.slice oa ol oc],.agg #[.int .i64 (stErr n trees).1,.int .i64 (stErr n trees).2]])∧Hid (Bl W w'∧∃t,ol=t.length∧TrRow w' oa oc t∧StR n trees t)
theorem stErr_pair {n:Net}{trees:Int}(h:(stErr n trees).1=0):stErr n trees=(0,0):=by
 obtain⟨z1,z2⟩:=stErr_zero h;unfold stErr;rw[if_neg (fun z=>z z1),if_neg (fun z=>z z2)]
theorem stz_ok {W w':World}{n:Net}{trees:Int}{oa:Option Addr}{oc:Nat}{t:List Tr}(hb:Bl W w') (h0:(stErr n trees).1=0) (h:StT w' n trees oa oc t):StZ W n trees (.returned (.tuple #[.agg #[.slice oa t.length oc],.agg #[.int .i64 0,.int .i64 0]])) w' :=
 ⟨oa,oc,t.length,by rw[stErr_pair h0],hb,t,rfl,h.row,Or.inr ⟨h0,h.len,h.fit,h.ms⟩⟩
theorem tstart_z {n:Net}{trees:Int}{W:World}(hwf:n.Wf) (hat:n.at' W):Calls Tryz.prog 12 #[.agg #[.slice n.bao n.K n.bcap,.slice n.lao n.L n.lcap],.int .i64 trees] W fun e w'=>StZ W n trees e w':=by
 refine(tstart_any n trees W hwf hat).mono ?_;rintro e w' ⟨h1,⟨h2,rfl⟩ | ⟨h2,oa,oc,t,rfl,h3⟩⟩
 ·exact⟨none,0,0,rfl,h1,[],rfl,none_row _,Or.inl ⟨h2,rfl⟩⟩
 ·exact stz_ok h1 h2 h3
theorem rstart_z {n:Net}{trees:Int}{W:World}(hwf:n.Wf) (hat:n.at' W):Calls Tryz.prog 13 #[.agg #[.slice n.bao n.K n.bcap,.slice n.lao n.L n.lcap],.int .i64 trees] W fun e w'=>StZ W n trees e w':=by
 refine(rstart_any n trees W hwf hat).mono ?_;rintro e w' ⟨h1,⟨h2,rfl⟩ | ⟨h2,oa,oc,t,rfl,h3⟩⟩
 ·exact⟨none,0,0,rfl,h1,[],rfl,none_row _,Or.inl ⟨h2,rfl⟩⟩
 ·exact stz_ok h1 h2 h3.here
end
end Go.Proofs.YtaneiffnhphkhaaGreatDoor
