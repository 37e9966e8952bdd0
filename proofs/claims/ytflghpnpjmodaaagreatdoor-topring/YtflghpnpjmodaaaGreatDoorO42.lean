/- 'hedgetop.TopRing' returns true for every three numbers, and leaves it as it was: the row and its tied card. Conditions: none beyond the form's own (the tables lie as the program's text lays them: the card's tie). -/
import Derived.Test.YtflghpnpjmodaaaGreatDoorO41
import Derived.Test.YtflghpnpjmodaaaGreatDoorCards
import Derived.Test.YtflghpnpjmodaaaGreatDoorTie
import Derived.Test.YtflghpnpjmodaaaGreatDoorO01
set_option maxRecDepth 100000
set_option maxHeartbeats 6000000
namespace Go.Proofs.YtflghpnpjmodaaaGreatDoor
section
open Go.RowKit
open Vc (V Of)
open Pl (Br Net Pc Lk En St ringE lineE ringId)
open Bk (E at')
open Tk (Md Mnd Cn Sc Dn ten yes)
theorem utopring_any (k b i:Int) (w:World) (ht:Tabs w) (hbt:2≤w.heap.size):Calls Tryz.prog 9 #[.int .i64 k,.int .i64 b,.int .i64 i] w fun e w'=>e=.returned (.bool true)∧Below w.heap.size w w':=by
 have HT:Hid (∀V,Below w.heap.size w V→Tabs V∧2≤V.heap.size):=fun V hV=>⟨ht.below hV hbt,Nat.le_trans hbt hV.size⟩
 have HAL:Hid (Calls Tryz.prog 12 #[] w fun e w'=>e=.returned (.bool true)∧Below w.heap.size w w'):=ualive_any w ht hbt
 clear ht hbt;go_enter Tryz.func9,Tryz.ntmps9
 go_wp2_with fail
 refine HAL.out.mono ?_;rintro e w1 ⟨rfl,HB1⟩;have H1:Hid (Below w.heap.size w w1):=HB1;clear HAL HB1;by_cases q1:k<3
 ·clear HT;go_wp2_with fail
  go_ret
  exact⟨rfl,H1.out⟩
 by_cases q2:12<k
 ·clear HT;go_wp2_with fail
  go_ret
  exact⟨rfl,H1.out⟩
 by_cases q3:b<0
 ·clear HT;go_wp2_with fail
  go_ret
  exact⟨rfl,H1.out⟩
 by_cases q4:k≤b
 ·clear HT;go_wp2_with fail
  go_ret
  exact⟨rfl,H1.out⟩
 by_cases q5:i<0
 ·clear HT;go_wp2_with fail
  go_ret
  exact⟨rfl,H1.out⟩
 by_cases q6:k≤i
 ·clear HT;go_wp2_with fail
  go_ret
  exact⟨rfl,H1.out⟩
 obtain⟨k,rfl⟩:∃q:Nat,k=(q:Int):=⟨k.toNat,by omega⟩
 obtain⟨b,rfl⟩:∃q:Nat,b=(q:Int):=⟨b.toNat,by omega⟩
 obtain⟨i,rfl⟩:∃q:Nat,i=(q:Int):=⟨i.toNat,by omega⟩
 have HK:Hid ((3≤k∧k≤12)∧b<k∧i<k):=⟨⟨by omega,by omega⟩,by omega,by omega⟩
 have HLN:Hid (Calls Tryz.prog 14 #[.int .i64 (k:Int),.bool true] w1 fun e w'=>∃a5 c5 a6 c6,e=.returned (.agg #[.slice a5 k c5,.slice a6 k c6])∧Hid (LineW (w1.heap.size+2) w' (Pl.lnk k ten yes) k k (.slice a5 k c5) (.slice a6 k c6)∧Below w1.heap.size w1 w')):=by
  have h:=uline_any k true w1 (by omega)
  rw[lnL_ring (by omega)] at h
  exact h
 go_wp2_with fail
 refine HLN.out.mono ?_;rintro e w2 ⟨a5,c5,a6,c6,rfl,H2⟩;clear HLN q1 q2 q3 q4 q5 q6;go_wp2_with fail
 refine(uticks_any 90 _).mono ?_;rintro e w3 ⟨rfl,hb3⟩;obtain⟨X,HX⟩:∃X,Hid (X=w3.alloc (.cells #[.int .i64 1,.int .i64 90,.int .i64 0,.int .i64 0] 47)):=⟨_,rfl⟩;have hX2:Below w3.heap.size w3 X:=(by rw[HX.out];exact bA1 _ _);have hXd:DRow X (some ⟨w3.heap.size,0,none⟩) 1 1 (tk1 90):=by
  have:=one_do (w:=X) (g:=w3.heap.size) (d:=tickD 90) (ty:=47) (by rw[HX.out];exact heap_alloc_last _ _)
  rw[show tk1 90=fun _=>tickD 90 from funext (tk1_eq 90)]
  exact this
 have h12:=hb3.trans (hX2.mono hb3.size);have h0w2:=H1.out.trans (H2.out.2.mono H1.out.size);have h0X:=h0w2.trans (h12.mono h0w2.size);have HP:Hid (Calls Tryz.prog 15 #[.agg #[.slice a5 k c5,.slice a6 k c6],.int .i64 1,.slice (some ⟨w3.heap.size,0,none⟩) 1 1] X fun e w'=>∃(n':Net) (ob off oc:Nat) (t':List Tr),e=.returned (.tuple #[.agg #[.slice n'.bao k n'.bcap,.slice n'.lao k n'.lcap],.agg #[.slice (some ⟨ob,off,none⟩) 1 oc],.agg #[.int .i64 0,.int .i64 0]])∧1≤oc∧Hid (Below X.heap.size X w'∧SnOut w' (netL k true ten a5 c5 a6 c6) 1 (((netL k true ten a5 c5 a6 c6).sc (startMs (netL k true ten a5 c5 a6 c6))).all (netL k true ten a5 c5 a6 c6).cn (tk1 90) 1) n' (some ⟨ob,off,none⟩) oc t')):=by
  have hr:lnL k true=k:=lnL_ring HK.out.1.1;have h:=uplay_any (k:=k) (ring:=true) (cst:=ten) (a5:=a5) (c5:=c5) (a6:=a6) (c6:=c6) HK.out.1.2 ten_ok _ 1 1 (tk1 90) X ((H2.out.1.at (ring:=true) hr.symm (by have:=HK.out.1.2;omega)).below h12) hXd (by omega) (fun q hq=>by rw[tk1_eq];exact errTick (by omega)) (HT.out X h0X).1 (HT.out X h0X).2
  rw[hr] at h;exact h
 have H0X:Hid (Below w.heap.size w X):=h0X;clear H1 H2 hb3 hX2 hXd h12 h0X h0w2;go_wp2_with fail
 rw[←HX.out];refine HP.out.mono ?_;rintro e w4 ⟨n',ob,off,oc,t',rfl,hoc,H4⟩;clear HP;obtain⟨Z,HZ⟩:∃Z,Hid (Z=((w4.alloc (.cells #[.slice n'.bao k n'.bcap,.slice n'.lao k n'.lcap] 32)).alloc (.cells #[.slice (some ⟨ob,off,none⟩) 1 oc] 43)).alloc (.cells #[.int .i64 0,.int .i64 0] 26)):=⟨_,rfl⟩;have h3:=alloc3 w4 (.cells #[.slice n'.bao k n'.bcap,.slice n'.lao k n'.lcap] 32) (.cells #[.slice (some ⟨ob,off,none⟩) 1 oc] 43) (.cells #[.int .i64 0,.int .i64 0] 26);rw[←HZ.out] at h3;obtain⟨y0,y1,y2,y3⟩:=h3;obtain⟨G,HG⟩:∃G,Hid (G=w4.heap.size):=⟨_,rfl⟩;rw[←HG.out] at y0 y1 y2;have hwZ:Below w.heap.size w Z:=by
  have:=H0X.out.trans (H4.out.1.mono H0X.out.size);exact this.trans (y3.mono this.size)
 obtain⟨eK,eL,hM⟩:=ring_isM H4.out.2 HK.out.1;have HKn:Hid (n'.K=k∧n'.L=k∧IsM n' t' (Ln.ringM k (Ln.ringOp k) (fun _=>true) 281474976710655 5)):=⟨eK,eL,hM⟩
 have HSS:Hid (∀W,Below Z.heap.size Z W→SnOut W (netL k true ten a5 c5 a6 c6) 1 (((netL k true ten a5 c5 a6 c6).sc (startMs (netL k true ten a5 c5 a6 c6))).all (netL k true ten a5 c5 a6 c6).cn (tk1 90) 1) n' (some ⟨ob,off,none⟩) oc t'∧(Tabs W∧2≤W.heap.size)):=fun W hW=>⟨H4.out.2.below (y3.trans (hW.mono y3.size)),HT.out W (hwZ.trans (hW.mono hwZ.size))⟩
 have HSE:Hid (∀W,Below Z.heap.size Z W→Sent W n' (some ⟨ob,off,none⟩) oc t'):=fun W hW=>sn_sent (HSS.out W hW).1 (netL_wf HK.out.1.2) (netL_right HK.out.1.2 ten_ok) (fun q hq=>by rw[tk1_eq];exact errTick (by omega)) (by omega) (HSS.out W hW).2.1 (HSS.out W hW).2.2
 have HS:Hid (∀W,Below Z.heap.size Z W→LRow W n'.lao k n'.lcap (Pl.lnk k ten yes)∧TrRow W (some ⟨ob,off,none⟩) oc t'∧t'.length=1∧W.heap[G+1]?=some (.cells #[.slice (some ⟨ob,off,none⟩) 1 oc] 43)∧W.heap[G+1+1]?=some (.cells #[.int .i64 0,.int .i64 0] 26)∧(∀i j:Nat,i<k→j<2→opT t' 0 i ((j:Int)+1)=Tk.onR k ten yes (Pl.ringAll k ten yes) i j)∧Below w.heap.size w W∧W.heap[G]?=some (.cells #[.slice n'.bao k n'.bcap,.slice n'.lao k n'.lcap] 32)):=fun W hW=>by
  have hS:=(HSS.out W hW).1;obtain⟨e1,e2,e3⟩:=tick_links H4.out.2;have r:=hS.net.lks;rw[e1,eL] at r;exact⟨r,hS.row,hS.len,keep y1 hW,keep y2 hW,fun i j hi hj=>ring_opens (by omega) H4.out.2 HK.out.1 ten_ok hi hj,hwZ.trans (hW.mono hwZ.size),keep y0 hW⟩
 have hlc:k≤n'.lcap:=(HS.out Z (Below.refl _ _)).1.1;have hk3:=HK.out.1.1;have hk12:=HK.out.1.2;obtain⟨lb,loff,elao,_⟩:=CRow.some (HS.out Z (Below.refl _ _)).1 (by omega)
 have HEL:Hid (n'.lao=some ⟨lb,loff,none⟩):=elao;rw[elao] at HZ ⊢;rw[elao] at HS;have HGW:Hid (w.heap.size≤G):=(by rw[HG.out];exact Nat.le_trans H0X.out.size H4.out.1.size);clear HT H0X H4 y0 y1 y2 y3 hwZ eK eL hM elao;go_wp2_with fail
 rw[←HZ.out];rw[←HG.out];obtain⟨m,hm⟩:∃m,k=m+1:=⟨k-1,by omega⟩
 have HM:Hid (k=m+1):=hm;clear hm;go_loopw [10,55] (fun s10 s55 wr=>∃j:Nat,j≤k∧s55=.int .i64 j∧s10=.int .i64 (cntOn k ten j)∧Hid (Below Z.heap.size Z wr)) (fun _ s55 _=>k-(intOf s55).toNat)
 case atStart=>exact⟨0,by omega,rfl,rfl,Below.refl _ _⟩
 case round =>
  obtain⟨j,hj,rfl,rfl,hB⟩:=hrel;by_cases hlt:j<k
  ·have hi:(j:Int)<(k:Int):=(by omega);have hi0:(0:Int)≤(j:Int):=(by omega);obtain⟨r0,r1,r2,r3,r4,r5,r6,_⟩:=HS.out wr hB.out;obtain⟨q0,q1,q2,q3,q4,q5⟩:=LRow.cells r0 hlt;have c0:wr.cell? ⟨lb,loff+j*6,none⟩=some (.int .i64 (j:Int)):=q0;have c1:wr.cell? ⟨lb,loff+j*6+1,none⟩=some (.int .i64 2):=q1;have c2:wr.cell? ⟨lb,loff+j*6+2,none⟩=some (.int .i64 ((Tk.nxt k j:Nat):Int)):=q2;have c3:wr.cell? ⟨lb,loff+j*6+3,none⟩=some (.int .i64 1):=q3;have c4:wr.cell? ⟨lb,loff+j*6+4,none⟩=some (.int .i64 10):=q4;have c5:wr.cell? ⟨lb,loff+j*6+5,none⟩=some (.bool true):=q5;obtain⟨Y,HY⟩:∃Y,Hid (Y=wr.alloc (.cells #[.int .i64 (j:Int),.int .i64 2,.int .i64 ((Tk.nxt k j:Nat):Int),.int .i64 1,.int .i64 10,.bool true] 83)):=⟨_,rfl⟩;have hYB:Below wr.heap.size wr Y:=(by rw[HY.out];exact bA1 _ _);have hYx:Y.heap[wr.heap.size]?=some (.cells #[.int .i64 (j:Int),.int .i64 2,.int .i64 ((Tk.nxt k j:Nat):Int),.int .i64 1,.int .i64 10,.bool true] 83):=(by rw[HY.out];exact heap_alloc_last _ _);have hZY:Below Z.heap.size Z Y:=hB.out.trans (hYB.mono hB.out.size);have d0:=one_cell (HS.out Y hZY).2.2.2.1;rw[HY.out] at d0;have hnx:Tk.nxt k j<k:=by unfold Tk.nxt;split<;>omega
   have HO1:Hid (Calls Tryz.prog 27 #[.agg #[.slice (some ⟨ob,off,none⟩) 1 oc],.int .i64 0,.int .i64 (j:Int),.int .i64 2] Y fun e w'=>e=.returned (.bool (Tk.onR k ten yes (Pl.ringAll k ten yes) j 1))∧Below Y.heap.size Y w'):=by
    obtain⟨_,x1,x2,_⟩:=HS.out Y hZY;have h:=topens_any (some ⟨ob,off,none⟩) oc t' 0 (j:Int) 2 Y x1;have e1:opT t' 0 (j:Int) 2=Tk.onR k ten yes (Pl.ringAll k ten yes) j 1:=r5 j 1 hlt (by omega)
    rw[x2,e1] at h;exact h
   have HO2:Hid (∀V,Below Y.heap.size Y V→(V.cell? ⟨G+1,0,none⟩=some (.slice (some ⟨ob,off,none⟩) 1 oc)∧V.cell? ⟨wr.heap.size,2,none⟩=some (.int .i64 ((Tk.nxt k j:Nat):Int))∧V.cell? ⟨wr.heap.size,3,none⟩=some (.int .i64 1))∧Below Z.heap.size Z V∧Calls Tryz.prog 27 #[.agg #[.slice (some ⟨ob,off,none⟩) 1 oc],.int .i64 0,.int .i64 ((Tk.nxt k j:Nat):Int),.int .i64 1] V fun e w'=>e=.returned (.bool (Tk.onR k ten yes (Pl.ringAll k ten yes) (Tk.nxt k j) 0))∧Below V.heap.size V w'):=fun V hV=>by
    have hZV:=hZY.trans (hV.mono hZY.size);obtain⟨_,x1,x2,x3,_⟩:=HS.out V hZV;have h:=topens_any (some ⟨ob,off,none⟩) oc t' 0 ((Tk.nxt k j:Nat):Int) 1 V x1;have e1:opT t' 0 ((Tk.nxt k j:Nat):Int) 1=Tk.onR k ten yes (Pl.ringAll k ten yes) (Tk.nxt k j) 0:=r5 (Tk.nxt k j) 0 hnx (by omega)
    rw[x2,e1] at h;obtain⟨_,_,k2,k3,_⟩:=lk_cells (keep hYx hV);exact⟨⟨one_cell x3,k2,k3⟩,hZV,h⟩
   have HCN:Hid (cntOn k ten (j+1)=cntOn k ten j+(if (Tk.onR k ten yes (Pl.ringAll k ten yes) j 1&&Tk.onR k ten yes (Pl.ringAll k ten yes) (Tk.nxt k j) 0)=true then 1 else 0)):=rfl
   have hcl:=cntOn_le k ten j;have wc:IntKind.i64.wrap ((cntOn k ten j:Int)+1)=((cntOn k ten j+1:Nat):Int):=(by rw[IntKind.wrap_i64];omega);have wj:IntKind.i64.wrap ((j:Int)+1)=((j+1:Nat):Int):=(by rw[IntKind.wrap_i64];omega);clear r0 r1 r2 r3 r4 r5 r6 q0 q1 q2 q3 q4 q5 hYB hYx hZY hnx hB;generalize Tk.onR k ten yes (Pl.ringAll k ten yes) j 1=o1 at *;generalize Tk.onR k ten yes (Pl.ringAll k ten yes) (Tk.nxt k j) 0=o2 at *;go_wp2_with fail
   rw[←HY.out];refine HO1.out.mono ?_;rintro e w4 ⟨rfl,hb4⟩;obtain⟨⟨d1,d2,d3⟩,hZ4,hO⟩:=HO2.out w4 hb4;have HZ4:Hid (Below Z.heap.size Z w4):=hZ4;have HO:Hid (Calls Tryz.prog 27 #[.agg #[.slice (some ⟨ob,off,none⟩) 1 oc],.int .i64 0,.int .i64 ((Tk.nxt k j:Nat):Int),.int .i64 1] w4 fun e w'=>e=.returned (.bool o2)∧Below w4.heap.size w4 w'):=hO
   clear HO1 HO2 hZ4 hO hb4;cases o1 with
   | false =>
    have e:cntOn k ten (j+1)=cntOn k ten j:=(by rw[HCN.out];simp);go_wp2_with fail
    exact⟨⟨j+1,by omega,by go_num,by rw[e],HZ4⟩,by simp[intOf];omega⟩
   | true =>
    go_wp2_with fail
    refine HO.out.mono ?_;rintro e w5 ⟨rfl,hb5⟩;have HZ5:Hid (Below Z.heap.size Z w5):=HZ4.out.trans (hb5.mono HZ4.out.size);cases o2 with
    | false =>
     have e:cntOn k ten (j+1)=cntOn k ten j:=(by rw[HCN.out];simp);go_wp2_with fail
     exact⟨⟨j+1,by omega,by go_num,by rw[e],HZ5⟩,by simp[intOf];omega⟩
    | true =>
     have e:cntOn k ten (j+1)=cntOn k ten j+1:=(by rw[HCN.out];simp);go_wp2_with fail
     exact⟨⟨j+1,by omega,by go_num,by rw[e];simp,HZ5⟩,by simp[intOf];omega⟩
  ·obtain rfl:j=k:=by omega
   have hcm:cntOn j ten j=m:=(by rw[ring_cnt HK.out.1,HM.out];omega);rw[hcm];obtain⟨_,_,_,r3,r4,_,r6,r7⟩:=HS.out wr hB.out;obtain⟨c0,c1⟩:=tC2 r7;have c2:=one_cell r3;have hi:¬(j:Int)<(j:Int):=(by omega);have wm:IntKind.i64.wrap ((j:Int)-1)=(m:Int):=(by have:=HM.out;rw[IntKind.wrap_i64];omega);have HSD:Hid (Calls Tryz.prog 28 #[.agg #[.slice n'.bao j n'.bcap,.slice (some ⟨lb,loff,none⟩) j n'.lcap],.agg #[.slice (some ⟨ob,off,none⟩) 1 oc],.int .i64 (i:Int),.int .i64 7] wr fun e w'=>∃so sc,e=.returned (.tuple #[.slice so m sc,.bool true])∧Hid (Below Z.heap.size Z w')):=by
    obtain⟨eK,eL,hM⟩:=HKn.out;have hr:=ring_run HK.out.1 HK.out.2.2;have h:=usend_any (HSE.out wr hB.out) hM rfl rfl (i:=i) (by rw[eK];exact HK.out.2.2) (S:=(Ln.ringM j (Ln.ringOp j) (fun _=>true) 281474976710655 5).run 41 ⟨[],[(i,0)],bare j⟩) (by rw[eK]) hr.1
    rw[eK,eL,HEL.out,(HSS.out wr hB.out).1.len,hr.2,show j-1=m by have:=HM.out;omega] at h
    refine h.mono ?_;rintro e w' ⟨so,sc,rfl,H⟩;exact⟨so,sc,rfl,hB.out.trans (H.out.mono hB.out.size)⟩
   clear r3 r4 r6 r7 hB hcm;go_wp2_with fail
   refine HSD.out.mono ?_;rintro e w5 ⟨so,sc,rfl,HB5⟩;obtain⟨_,_,_,r3,r4,_,r6,r7⟩:=HS.out w5 HB5.out;obtain⟨c3,_⟩:=tC2 r4;have HY9:Hid (w5.heap[G+1+1]?=some (.cells #[.int .i64 0,.int .i64 0] 26)):=r4;have H5S:Hid (∀W,Below w5.heap.size w5 W→Below Z.heap.size Z W):=fun W hW=>HB5.out.trans (hW.mono HB5.out.size)
   clear HSD c0 c1 c2 r3 r4 r6 r7;go_wp2_with fail
   refine ur9 [] w5 G (G+1) (G+1+1) (.slice n'.bao j n'.bcap) (.slice (some ⟨lb,loff,none⟩) j n'.lcap) (.slice (some ⟨ob,off,none⟩) 1 oc) 0 0 (b:Int) (fun V W0 na nk nc la lk lc oa ol oc f1 f2=>OnF V W0 n' 1 (((netL j true ten a5 c5 a6 c6).sc (startMs (netL j true ten a5 c5 a6 c6))).all (netL j true ten a5 c5 a6 c6).cn (dsT 2 (cutA (b:Int)) 90) 3) na nk nc la lk lc oa ol oc f1 f2) _ _ _ _ _ _ _ _ _ _ _ _ _ _ _ _ _ _ _ _ _ _ _ _ _ _ _ _ _ _ _ _ _ _ _ _ _ _ _ _ _ _ _ _ _ _ _ _ _ _ _ _ _ _ _ _ _ _ _ _ _ _ _ _ _ _ _ _ _ _ _ _ _ _ _ _ _ _ _ _ _ _ _ _ _ _ _ _ _ _ _ _ _ _ _ _ _ _ _ _ _ _ _ _ _ _ _ _ _ _ _ _ _ _ _ _ _ _ _ _ _ _ _ _ ?hQ ?hC ?hFt ?hT ?hP ?fin _ _ _ _ _ _
   case hQ=>exact fun _ _ _ _ _ h=>h
   case hC =>
    intro V hV;obtain⟨_,_,_,s3,_,_,_,s7⟩:=HS.out V (H5S.out V hV);exact⟨(tC2 s7).1,(tC2 s7).2,one_cell s3⟩
   case hFt=>exact HY9.out
   case hT=>exact fun V=>uticks_any 90 V
   case hP =>
    intro V g hV hrow;have hS:=HSS.out V (H5S.out V hV);obtain⟨eK,eL,_⟩:=HKn.out;have h:=on_two hS.1 (netL_wf HK.out.1.2) (netL_right HK.out.1.2 ten_ok) (b:=b) (show b<lnL j true by rw[lnL_ring HK.out.1.1];exact HK.out.2.1) hrow hS.2.1 hS.2.2
    rw[eK,eL,HEL.out,hS.1.len] at h;exact h
   case fin =>
    intro gt V na nk nc la lk lc oa2 ol oc2 f1 f2 g10 g11 W0 W hR hb hX ⟨k7,k8,k9⟩ ⟨l7,l8,l9,lV⟩ ⟨z7,z8⟩;obtain⟨⟨rfl,rfl⟩,n2,t2,⟨rfl,rfl,rfl⟩,⟨rfl,rfl,rfl⟩,rfl,b',hVb,hK⟩:=hR;have m78:g10≠g11:=fun e=>by subst e;exact absurd (cells_type k7 k8) (by decide)
    have m79:G+1+1≠g10:=fun e=>by rw[←e] at l7;exact absurd l9 (Nat.not_lt.2 l7)
    have m89:G+1+1≠g11:=fun e=>by rw[←e] at l8;exact absurd l9 (Nat.not_lt.2 l8)
    obtain⟨Z2,HZ2⟩:∃Z2,Hid (Z2=((((W.setCell ⟨g10,0,none⟩ (.slice n2.bao n2.K n2.bcap)).setCell ⟨g10,1,none⟩ (.slice n2.lao n2.L n2.lcap)).setCell ⟨g11,0,none⟩ (.slice oa2 t2.length oc2)).setCell ⟨G+1+1,0,none⟩ (.int .i64 0)).setCell ⟨G+1+1,1,none⟩ (.int .i64 0)):=⟨_,rfl⟩;have hZZ:Below w5.heap.size w5 Z2:=(by rw[HZ2.out];exact boxes_same hX l7 l8 m79 m89 k9);have zs2:Z2.heap.size=W.heap.size:=(by rw[HZ2.out];simp);have y10:Z2.heap[g10]?=some (.cells #[.slice n2.bao n2.K n2.bcap,.slice n2.lao n2.L n2.lcap] 32):=(by rw[HZ2.out];exact set_keep (set_keep (set_keep (set2_same k7) m78) m79.symm) m79.symm);have y11:Z2.heap[g11]?=some (.cells #[.slice oa2 t2.length oc2] 43):=(by rw[HZ2.out];exact set_keep (set_keep (set1_same (set_keep (set_keep k8 m78.symm) m78.symm)) m89.symm) m89.symm);have hS2:SnOut Z2 n' 1 (((netL j true ten a5 c5 a6 c6).sc (startMs (netL j true ten a5 c5 a6 c6))).all (netL j true ten a5 c5 a6 c6).cn (dsT 2 (cutA (b:Int)) 90) 3) n2 oa2 oc2 t2:=boxes_kept hK hVb hb z7 z8 (Or.inl (Nat.lt_of_lt_of_le l9 lV)) (by rw[←HZ2.out,←zs2];exact Below.refl _ _)
    have hZB:=H5S.out Z2 hZZ;have hS0:=HSS.out Z2 hZB;have hpts:=sn_pts hS0.1 (netL_wf HK.out.1.2) (netL_right HK.out.1.2 ten_ok) (fun q hq=>by rw[tk1_eq];exact errTick (by omega))
    have hS3:=sn_base hS0.1 hS2 hpts;obtain⟨eK,eL,hM⟩:=brk_isM hS3 HK.out.1 HK.out.2.1;have hst:Sent Z2 n2 oa2 oc2 t2:=sn_sent hS3 (netL_wf HK.out.1.2) (netL_right HK.out.1.2 ten_ok) (fun q hq=>by
     rcases(by omega:q=0∨q=1∨q=2) with e | e | e<;>subst e
     ·exact errTick (by omega)
     ·show(if (0:Int)≤(b:Int)∧(b:Int)≤((lnL j true:Nat):Int)-1 then(if (3:Int)=4∧¬((1:Int)≤0∧(0:Int)≤200000) then(3:Int) else 0) else 6)=0
      rw[lnL_ring HK.out.1.1,if_pos (by have:=HK.out.2.1;omega),if_neg (fun z=>absurd z.1 (by decide))]
     ·exact errTick (by omega)) (by omega) hS0.2.1 hS0.2.2
    have HSD:Hid (Calls Tryz.prog 28 #[.agg #[.slice n2.bao n2.K n2.bcap,.slice n2.lao n2.L n2.lcap],.agg #[.slice oa2 t2.length oc2],.int .i64 (i:Int),.int .i64 7] Z2 fun e w'=>∃so sc,e=.returned (.tuple #[.slice so m sc,.bool true])∧Hid (Below Z2.heap.size Z2 w')):=by
     have hr:=brk_run HK.out.1 HK.out.2.1 HK.out.2.2;have h:=usend_any hst hM rfl rfl (i:=i) (by rw[eK];exact HK.out.2.2) (S:=(Ln.ringM j (Ln.brkOp j b) (fun q=>decide (q≠b)) 281474976710655 5).run 41 ⟨[],[(i,0)],bare j⟩) (by rw[eK]) hr.1
     rw[hr.2,show j-1=m by have:=HM.out;omega] at h
     exact h
    have HBW:Hid (∀W',Below Z2.heap.size Z2 W'→W'.cell? ⟨G+1+1,0,none⟩=some (.int .i64 0)∧Below w.heap.size w W'):=fun W' hW'=>by
     obtain⟨_,_,_,_,r4,_,r6,_⟩:=HS.out W' (hZB.trans (hW'.mono hZB.size));exact⟨(tC2 r4).1,r6⟩
    obtain⟨d0,d1⟩:=tC2 y10;have d2:=one_cell y11;have HZ3:Hid (Z2=((((W.setCell ⟨g10,0,none⟩ (.slice n2.bao n2.K n2.bcap)).setCell ⟨g10,1,none⟩ (.slice n2.lao n2.L n2.lcap)).setCell ⟨g11,0,none⟩ (.slice oa2 t2.length oc2)).setCell ⟨G+1+1,0,none⟩ (.int .i64 0)).setCell ⟨G+1+1,1,none⟩ (.int .i64 0)):=HZ2.out;clear HS HSS HSE HKn HK HM HEL HB5 H5S HY9 hb hX k7 k8 k9 l7 l8 l9 lV z7 z8 hVb hK m78 m79 m89 hZZ zs2 y10 y11 hS2 hZB hS0 hpts hS3 eK eL hM hst HZ2 c3;rw[←HZ3.out];go_wp2_with fail
    refine HSD.out.mono ?_;rintro e w6 ⟨so2,sc2,rfl,HB6⟩;obtain⟨u0,_⟩:=HBW.out w6 HB6.out;clear HSD d0 d1 d2;go_wp2_with fail
    go_ret
    exact⟨rfl,(HBW.out w6 HB6.out).2⟩
end
end Go.Proofs.YtflghpnpjmodaaaGreatDoor
namespace Go.Proofs.YtflghpnpjmodaaaGreatDoor.topRing
open Go.ChangeShapes Go.WideShapes Go.ChangeAt Go.RowKit
theorem contract (H:Type) (enc:TypeId×Value→H) (W:World) (base:Nat) (args:Array Value) (ds gs:List (DataW H)) (before:List MemPlace)
  (hval:∀(j:Nat) t v,Tryz.f9.params[j]?=some t→args[j]?=some v→Value.okWide Tryz.prog W .any base t v)
  (hW:DataW.Whole enc Tryz.prog Tryz.f9.params.toList Rows.topRingSpec.vars false W args.toList ds gs before)
  (hsz:(DataW.weightsEach Tryz.prog (Tryz.f9.params.toList++(OpenSpec.ofChange Rows.topRingSpec).bare.plain.varTypes Tryz.prog) (ds++gs)).all (·≤reachBytes)=true)
  (hL:laidMetH Tryz.prog Rows.topRingRow.laid W) :
  Calls Tryz.prog 9 args W fun e W'=>∃v,e=.returned v∧Rows.topRingSpec.post enc Tryz.prog Tryz.f9 false true false false W args v W':=by
 have hW':=hW;obtain⟨p,q,hA0,hV,rfl,hfz,hnd⟩:=hW;have hA:DataW.TrodAll enc Tryz.prog W 0 (fun _=>true) true Tryz.f9.params.toList args.toList ds p:=hA0
 rw[Tryz.params9] at hA hval hsz;obtain⟨v0,vs0,d0,ds0,p0,q0,hargs,rfl,rfl,h0,r0⟩:=trodAll_cons hA;obtain⟨v1,vs1,d1,ds1,p1,q1,rfl,rfl,rfl,h1,r1⟩:=trodAll_cons r0;obtain⟨v2,vs2,d2,ds2,p2,q2,rfl,rfl,rfl,h2,r2⟩:=trodAll_cons r1;obtain⟨rfl,rfl,rfl⟩:=trodAll_nil r2;obtain rfl:args=#[v0,v1,v2]:=by cases args;simp_all
 obtain⟨rfl,rfl⟩:=trodVars_none hV;have lt0:∀x∈p0,x.block<W.heap.size:=by obtain⟨m,hm⟩:=h0;exact DataW.trod_lt m _ _ _ hm
 obtain⟨z0,rfl⟩:=okWide_int Tryz.underlying3 (hval 0 3 v0 rfl rfl);have lt1:∀x∈p1,x.block<W.heap.size:=by obtain⟨m,hm⟩:=h1;exact DataW.trod_lt m _ _ _ hm
 obtain⟨z1,rfl⟩:=okWide_int Tryz.underlying3 (hval 1 3 v1 rfl rfl);have lt2:∀x∈p2,x.block<W.heap.size:=by obtain⟨m,hm⟩:=h2;exact DataW.trod_lt m _ _ _ hm
 obtain⟨z2,rfl⟩:=okWide_int Tryz.underlying3 (hval 2 3 v2 rfl rfl);have hT:=tabs_of hL;have hG:2≤W.heap.size:=hT.lt;clear hA0 hsz;refine(utopring_any z0 z1 z2 W hT hG).mono fun e W' ⟨he,bel⟩ => ?_
 subst he;exact⟨_,rfl,_,_,_,[],_,[],hW',trodAll_mk1 (shut_bool Tryz.underlying4 _),(trodAll_cons_mk (Below.trod laidOut (by kernel_rfl) (of_decide_eq_true (by kernel_rfl)) h0 bel lt0) (trodAll_cons_mk (Below.trod laidOut (by kernel_rfl) (of_decide_eq_true (by kernel_rfl)) h1 bel lt1) (trodAll_cons_mk (Below.trod laidOut (by kernel_rfl) (of_decide_eq_true (by kernel_rfl)) h2 bel lt2) trodAll_mk0))),rfl,bel.frame _,fun h=>by cases h⟩
theorem laid_met (os:Os):laidMet Tryz.prog Rows.topRingRow.laid ((laidW (World.holding Tryz.prog os ⟨#[],#[],[]⟩)).forCall (fun _ _=>0) ⟨#[],#[.int .i64 0,.int .i64 0,.int .i64 0],[]⟩).memory :=
 laidMet_of_run' 8 (by kernel_rfl) (by kernel_rfl)
theorem reads (os:Os) {H:Type}(enc:TypeId×Value→H):∃places,DataW.whole enc Tryz.prog ((laidW (World.holding Tryz.prog os ⟨#[],#[],[]⟩)).forCall (fun _ _=>0) ⟨#[],#[.int .i64 0,.int .i64 0,.int .i64 0],[]⟩).memory Tryz.f9.params.toList Rows.topRingSpec.vars false #[Value.int .i64 0,.int .i64 0,.int .i64 0].toList 8=some ([.lit (.int .i64 0),.lit (.int .i64 0),.lit (.int .i64 0)],[],places) :=
 ⟨[],by kernel_rfl⟩
theorem lifted (os:Os) (started:os.Started) (H:Type) (enc:TypeId×Value→H) (F:Stop.Interp) :
  ReturnsInHanded {} Tryz.checked os 9 .any ((OpenSpec.ofChange Rows.topRingSpec).preRow enc Tryz.prog Tryz.f9 Rows.topRingRow.domain false Rows.topRingRow.laid) (((OpenSpec.ofChange Rows.topRingSpec).at F).post enc Tryz.prog Tryz.f9 false true false false):=by
 obtain⟨places,hx⟩:=reads os enc;refine returnsInHanded_of_row (C:=Tryz.checked) (s:=OpenSpec.ofChange Rows.topRingSpec) own started (by kernel_rfl) Tryz.func9
  (witness_row_at (enc:=enc) (C:=Tryz.checked) false (laidW (World.holding Tryz.prog os ⟨#[],#[],[]⟩)) #[.int .i64 0,.int .i64 0,.int .i64 0] rfl (by kernel_rfl) (by kernel_rfl) (by kernel_rfl)
   (OpenSpec.preRow_of_cond 8 hx (by kernel_rfl) (fun k hk=>by cases hk) (by kernel_rfl) (laid_met os))) ?_
 intro W base args ds gs before hval hW _ _ hsz hL _ _;exact contract H enc W base args ds gs before hval hW hsz hL
theorem said:Rows.TopRingSaid :=
 OpenClaim.holds_of_cond 9 Tryz.f9 rfl rfl rfl rfl rfl rfl rfl ⟨rfl,rfl,rfl,rfl,rfl⟩ rfl rfl rfl rfl rfl (by kernel_rfl) Tryz.func9 (by kernel_rfl)
  (of_decide_eq_true (by kernel_rfl)) (by unfold Func.isWrapper;first | (rw[if_pos (by decide +kernel)];kernel_rfl) | (rw[if_neg (by decide +kernel)];exact⟨rfl,rfl⟩))
  (fun os started H enc _ F=>by rw[OpenClaim.pre_eq_preRow];exact lifted os started H enc F)
theorem plain (f:FuncId) (fn:Func) (hf:Tryz.pinned.checked.prog.funcNamed "hedgerow/hedgetop.TopRing" = some f) (hfn:Tryz.pinned.checked.prog.funcs[f]?=some fn) :
  false=Tryz.pinned.checked.prog.looks []∧∀(j:Nat) t,fn.params[j]?=some t→Tryz.pinned.checked.prog.wantsStandIn t=false:=by
 obtain rfl:f=9:=Option.some.inj ((show Tryz.prog.funcNamed "hedgerow/hedgetop.TopRing" = some 9 by kernel_rfl).symm.trans hf) |>.symm
 obtain rfl:fn=Tryz.f9:=(Option.some.inj (Tryz.func9.symm.trans hfn)).symm;refine⟨by kernel_rfl,fun j t ht => ?_⟩
 rw[Tryz.params9] at ht;have h1:Tryz.prog.wantsStandIn 3=false:=by kernel_rfl
 have ht2:t=3:=by simpa using Array.mem_of_getElem? ht
 subst ht2;exact h1
theorem card:Rows.TopRingCardSaid :=
 Claim7.holds_tied_plain_at .later [] _ _ _ _ said (fun _ h=>by cases h) (by kernel_rfl) (fun _ h=>by cases h) topRing_row_tie rfl ⟨rfl,rfl⟩ (by kernel_rfl) rfl plain (by kernel_rfl)
end Go.Proofs.YtflghpnpjmodaaaGreatDoor.topRing
namespace Go.Proofs.YtflghpnpjmodaaaGreatDoor
theorem topRing_card:Rows.TopRingCardSaid:=topRing.card
#print axioms topRing_card
end Go.Proofs.YtflghpnpjmodaaaGreatDoor
