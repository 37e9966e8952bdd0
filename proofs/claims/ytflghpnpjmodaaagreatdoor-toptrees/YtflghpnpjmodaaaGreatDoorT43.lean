/- 'hedgetop.TopTrees' returns true for every three numbers, and leaves it as it was: the row and its tied card. Conditions: none beyond the form's own (the tables lie as the program's text lays them: the card's tie). -/
import Derived.Test.YtflghpnpjmodaaaGreatDoorT40
import Derived.Test.YtflghpnpjmodaaaGreatDoorT41
import Derived.Test.YtflghpnpjmodaaaGreatDoorT42
import Derived.Test.YtflghpnpjmodaaaGreatDoorCards
import Derived.Test.YtflghpnpjmodaaaGreatDoorTie
import Derived.Test.YtflghpnpjmodaaaGreatDoorT01
set_option maxRecDepth 100000
set_option maxHeartbeats 6000000
namespace Go.Proofs.YtflghpnpjmodaaaGreatDoor
section
open Go.RowKit
open Vc (V Of)
open Pl (Br Net Pc Lk En St ringE lineE ringId)
open Bk (E at')
open Tk (Md Mnd Cn Sc Dn ten yes)
theorem plT_ok {n:Net}{ds:Nat→Dn}{dn:Nat}(hw:n.wrong.1=0) (hdn:dn≤30) (he:∀q,q<dn→Tk.errOf n.cn (ds q)=0):(plErr n 2 ds dn).1=0:=by
 have e:stErr n 2=(0,0):=by
  unfold stErr;rw[if_neg (fun z=>z hw),if_neg (fun z=>z (by omega))]
 unfold plErr;rw[e,if_neg (fun z=>z rfl),if_neg (by omega)];show(Pl.firstTo (fun q=>Tk.errOf n.cn (ds q)) dn).1=0;rw[Pl.firstTo_all _ _ he]
theorem utoptrees_any (k f v:Int) (w:World) (ht:Tabs w) (hbt:2≤w.heap.size):Calls Tryz.prog 10 #[.int .i64 k,.int .i64 f,.int .i64 v] w fun e w'=>e=.returned (.bool true)∧Bl w w':=by
 have HT:Hid (∀V,Bl w V→Tabs V∧2≤V.heap.size):=fun V hV=>⟨ht.below hV hbt,Nat.le_trans hbt hV.size⟩
 have HAL:Hid (Calls Tryz.prog 12 #[] w fun e w'=>e=.returned (.bool true)∧Bl w w'):=ualive_any w ht hbt;clear ht hbt;go_enter Tryz.func10,Tryz.ntmps10;(go_wp2_with fail);refine HAL.out.mono ?_;rintro e w1 ⟨rfl,HB1⟩;have H1:Hid (Bl w w1):=HB1;clear HAL HB1;by_cases q1:k<4
 ·clear HT;(go_wp2_with fail);go_ret;exact⟨rfl,H1.out⟩
 by_cases q2:12<k
 ·clear HT;(go_wp2_with fail);go_ret;exact⟨rfl,H1.out⟩
 by_cases q3:f<1
 ·clear HT;(go_wp2_with fail);go_ret;exact⟨rfl,H1.out⟩
 by_cases q4:k≤f
 ·clear HT;(go_wp2_with fail);go_ret;exact⟨rfl,H1.out⟩
 by_cases q5:v<1
 ·clear HT;(go_wp2_with fail);go_ret;exact⟨rfl,H1.out⟩
 by_cases q6:4094<v
 ·clear HT;(go_wp2_with fail);go_ret;exact⟨rfl,H1.out⟩
 by_cases q7:v=7
 ·clear HT;(go_wp2_with fail);go_ret;exact⟨rfl,H1.out⟩
 obtain⟨kn,hkn⟩:∃q:Nat,k=(q:Int):=⟨k.toNat,by omega⟩
 have HKN:Hid (k=(kn:Int)):=hkn;have q8:(v == 7)=false:=beq_eq_false_iff_ne.2 q7;have HLN:Hid (Calls Tryz.prog 14 #[.int .i64 k,.bool true] w1 fun e w'=>∃a5 c5 a6 c6,e=.returned (.agg #[.slice a5 kn c5,.slice a6 kn c6])∧Hid (LineW (w1.heap.size+2) w' (Pl.lnk kn ten yes) kn kn (.slice a5 kn c5) (.slice a6 kn c6)∧Bl w1 w')):=by
  have h:=uline_any kn true w1 (by omega);rw[lnL_ring (by omega)] at h;rw[HKN.out];exact h
 clear hkn;(go_wp2_with fail);refine HLN.out.mono ?_;rintro e w2 ⟨a5,c5,a6,c6,rfl,H2⟩;have hkn:=HKN.out;clear HKN HLN;subst hkn;obtain⟨k,hk'⟩:∃q,q=kn:=⟨_,rfl⟩
 subst hk';obtain⟨f,rfl⟩:∃q:Nat,f=(q:Int):=⟨f.toNat,by omega⟩
 have HK:Hid ((4≤k∧k≤12)∧(1≤f∧f<k)∧(1≤v∧v≤4094)∧v≠7):=⟨⟨by omega,by omega⟩,⟨by omega,by omega⟩,⟨by omega,by omega⟩,q7⟩
 obtain⟨X,HX⟩:∃X,Hid (X=w2.alloc (.cells #[.slice a5 k c5,.slice a6 k c6] 32)):=⟨_,rfl⟩
 have hw2:Bl w w2:=H1.out.trans (H2.out.2.mono H1.out.size);obtain⟨g,sp,rfl,hgb,hc5,hW0⟩:=WyW.start (v:=v) (wa:=fun _=>0) H2.out.1 (by omega) hw2 (Nat.le_refl _) HX.out;obtain⟨BN,HBN⟩:∃BN,Hid (BN=w2.heap.size):=⟨_,rfl⟩
 rw[←HBN.out] at hW0;have HW0:Hid (WyW w w.heap.size (w1.heap.size+2) k g c5 v a6 c6 BN (fun _=>0) sp 0 X):=hW0;have HG:Hid (w.heap.size≤g):=(by have:=H1.out.size;exact Nat.le_trans this (by omega))
 have wk:IntKind.i64.wrap ((k:Int)-1)=((k-1:Nat):Int):=(by rw[IntKind.wrap_i64];omega)
 clear H1 H2 hw2 hgb hW0;(go_wp2_with fail);rw[←HX.out];rw[←HBN.out];clear q1 q2 q3 q4 q5 q6 q7;go_loopw [50] (fun i wr=>∃(j:Nat) (wa:Nat→Nat),j≤k∧i=.int .i64 j∧Hid (WyW w w.heap.size (w1.heap.size+2) k g c5 v a6 c6 BN wa sp j wr)) (fun i _=>k-(intOf i).toNat)
 case atStart=>exact⟨0,_,by omega,rfl,HW0⟩
 case round =>
  obtain⟨j,wa,hj,rfl,hB⟩:=hrel;clear HW0;by_cases hlt:j<k
  ·have hi:(j:Int)<(k:Int):=(by omega)
   have hi0:(0:Int)≤(j:Int):=(by omega)
   obtain⟨b0,b1⟩:=tC2 hB.out.box;obtain⟨c0,f0⟩:=hB.out.cell hlt;have hgl:g<wr.heap.size:=lt_some hB.out.row;have hMl:BN<wr.heap.size:=lt_some hB.out.box;have c1':∀o,(wr.alloc o).cell? ⟨g,j*5+2+2,none⟩=some (.slice none 0 0):=fun o=>((bA1 wr o).cell (by exact hgl)).trans c0;have f1':∀o,(wr.alloc o).frozen? ⟨g,j*5+2+2,none⟩=false:=fun o=>frozen_of_row _ _ _ _ _ (keep hB.out.row (bA1 wr o));have c2':∀o,(wr.alloc o).cell? ⟨g,j*5+4,none⟩=some (.slice none 0 0):=c1';have f2':∀o,(wr.alloc o).frozen? ⟨g,j*5+4,none⟩=false:=f1';have wj:IntKind.i64.wrap ((j:Int)+1)=((j+1:Nat):Int):=(by rw[IntKind.wrap_i64];have:=HK.out.1.2;omega)
   have HN:Hid _:=hB.out.step hlt HG.out;clear hB;(go_wp2_with fail);exact⟨⟨j+1,_,by omega,by go_num,HN⟩,by simp[intOf];omega⟩
  ·obtain rfl:j=k:=by omega
   have hi:¬(j:Int)<(j:Int):=(by omega)
   obtain⟨b0,b1⟩:=tC2 hB.out.box;have hfj:f<j:=HK.out.2.1.2;obtain⟨c0,f0⟩:=hB.out.pcell hfj;have hgl:g<wr.heap.size:=lt_some hB.out.row;have hMl:BN<wr.heap.size:=lt_some hB.out.box;have c1':∀o,(wr.alloc o).cell? ⟨g,f*5+1,none⟩=some (.slice none 0 0):=fun o=>((bA1 wr o).cell (by exact hgl)).trans c0;have f1':∀o,(wr.alloc o).frozen? ⟨g,f*5+1,none⟩=false:=fun o=>frozen_of_row _ _ _ _ _ (keep hB.out.row (bA1 wr o));have if0:(0:Int)≤(f:Int):=(by omega)
   have if1:(f:Int)<(j:Int):=(by omega)
   obtain⟨Y,HY⟩:∃Y,Hid (Y=(wr.setCell ⟨g,f*5+1,none⟩ (.slice (some ⟨wr.heap.size,0,none⟩) 2 2)).alloc (.cells #[.int .i64 32768,.int .i64 4096] 3)):=⟨_,rfl⟩
   have HN:Hid (∀V,Bl Y V→(netT j f v (waT wa) (some ⟨wr.heap.size,0,none⟩) (some ⟨g,0,none⟩) c5 a6 c6).at' V∧V.heap[BN]?=some (.cells #[.slice (some ⟨g,0,none⟩) j c5,.slice a6 j c6] 32)∧Bl w V∧(Tabs V∧2≤V.heap.size)):=fun V hV=>by
    obtain⟨n1,n2,n3⟩:=hB.out.net hfj (by have:=HK.out.1;omega) hc5 HG.out HY.out;have h:=n3.trans (hV.mono n3.size);exact⟨n1.below hV,keep n2 hV,h,HT.out V h⟩
   clear hB HT;(go_wp2_with fail);rw[←HY.out];refine ur10 [] Y BN (.slice (some ⟨g,0,none⟩) j c5) (.slice a6 j c6) (fun V W0 na nk nc la lk lc oa ol oc f1 f2=>PlF V W0 (netT j f v (waT wa) (some ⟨wr.heap.size,0,none⟩) (some ⟨g,0,none⟩) c5 a6 c6) 2 (tk1 90) 1 na nk nc la lk lc oa ol oc f1 f2) _ _ _ _ _ _ _ _ _ _ _ _ _ _ _ _ _ _ _ _ _ _ _ _ _ _ _ _ _ _ _ _ _ _ _ _ _ _ _ _ _ _ _ _ _ _ _ _ _ _ _ _ _ _ _ _ _ _ _ _ _ _ _ _ _ _ _ _ _ _ _ _ _ _ _ _ _ _ _ _ _ _ _ _ _ _ _ _ _ _ _ _ _ _ _ _ _ _ _ _ _ _ _ _ _ _ _ _ _ _ _ _ _ _ _ _ _ _ _ _ _ _ _ _ _ _ _ _ _ _ _ _ _ _ _ _ _ _ _ _ _ _ _ ?hQ ?hC ?hT ?hP ?fin _ _ _ _
   case hQ=>exact fun _ _ _ _ _ h=>h
   case hC=>exact fun V hV=>tC2 (HN.out V hV).2.1
   case hT=>exact fun V tk=>uticks_any tk V
   case hP =>
    intro V q hV hg;obtain⟨y1,_,_,y2,y3⟩:=HN.out V hV;have hd:DRow V (some ⟨q,0,none⟩) 1 1 (tk1 90):=by
     rw[show tk1 (90:Int)=fun _=>tickD 90 from funext (tk1_eq 90)];exact one_do (d:=tickD 90) hg
    have h:=tplay_flat (netT j f v (waT wa) (some ⟨wr.heap.size,0,none⟩) (some ⟨g,0,none⟩) c5 a6 c6) 2 (some ⟨q,0,none⟩) 1 1 (tk1 90) V (netT_wf HK.out.1.2) y1 (by omega) hd y2 y3;have e:(netT j f v (waT wa) (some ⟨wr.heap.size,0,none⟩) (some ⟨g,0,none⟩) c5 a6 c6).L=j:=lnL_ring (by have:=HK.out.1;omega);rw[e] at h;exact h
   case fin =>
    intro gt V na nk nc la lk lc oa ol oc f1 f2 g7 g8 g9 W0 W hR hb hX hk hl hz;have hf1:f1=0:=by
     rcases hR with⟨q,_⟩ | ⟨_,⟨e,_⟩,_⟩
     ·exact absurd (plT_ok (netT_right HK.out.1.2 HK.out.2.2.1) (by omega) (fun q hq=>by rw[tk1_eq];exact errTick (by omega))) q
     ·exact e
    obtain⟨Z,HZ⟩:∃Z,Hid (Z=(((((W.setCell ⟨g7,0,none⟩ (.slice na nk nc)).setCell ⟨g7,1,none⟩ (.slice la lk lc)).setCell ⟨g8,0,none⟩ (.slice oa ol oc)).setCell ⟨g9,0,none⟩ (.int .i64 f1)).setCell ⟨g9,1,none⟩ (.int .i64 f2))):=⟨_,rfl⟩
    obtain⟨hXZ,hc9,hcase⟩:=u_finT hR hb hX hk hl hz (Z:=Z) HZ.out;obtain⟨_,_,n',t',⟨rfl,rfl,rfl⟩,⟨rfl,rfl,rfl⟩,rfl,hU⟩:=hcase.resolve_left (fun z=>z hf1);subst hf1;clear hcase hR;have hS0:=(hU Z (Below.refl _ _)).1;obtain⟨eK,eL,isV,is7⟩:=trees_isM hS0 HK.out.1 HK.out.2.1 HK.out.2.2.1 HK.out.2.2.2;obtain⟨rt0,rt1⟩:=trees_roots hS0 HK.out.1 HK.out.2.1 HK.out.2.2.1;have hlen:t'.length=2:=hS0.len;obtain⟨ob,off,rfl,_⟩:=hS0.row.place (by omega);have l0:(tat t' 0).l.length=j:=(hS0.each 0 (by show 0<2;omega)).1;have l1:(tat t' 1).l.length=j:=(hS0.each 1 (by show 1<2;omega)).1;have hj0:0<j:=(by omega)
    obtain⟨m0,o0,em0,_⟩:=(hS0.row.each 0 (by omega)).place (by omega);obtain⟨m1,o1,em1,_⟩:=(hS0.row.each 1 (by omega)).place (by omega);obtain⟨m,hm⟩:∃m,j=m+1:=⟨j-1,by omega⟩
    have hm1:j-1=m:=(by omega)
    rw[hm1] at rt0 rt1;have HM:Hid (j=m+1):=hm;have hRt:=right_of (netT_wf (k:=j) (f:=f) (v:=v) (ra:=waT wa) (pa:=some ⟨wr.heap.size,0,none⟩) (a5:=some ⟨g,0,none⟩) (c5:=c5) (a6:=a6) (c6:=c6) HK.out.1.2) (netT_right HK.out.1.2 HK.out.2.2.1);have HB:Hid (∀U,Bl Z U→Bl Y U):=fun U hUU=>hXZ.trans (hUU.mono hXZ.size);have HI1:Hid (∀U,Bl Z U→Calls Tryz.prog 17 #[.agg #[.int .u64 (bsT f v (waT wa) (some ⟨wr.heap.size,0,none⟩) 0).addr,.slice (bsT f v (waT wa) (some ⟨wr.heap.size,0,none⟩) 0).pao (bsT f v (waT wa) (some ⟨wr.heap.size,0,none⟩) 0).pn (bsT f v (waT wa) (some ⟨wr.heap.size,0,none⟩) 0).pcap,.string (bsT f v (waT wa) (some ⟨wr.heap.size,0,none⟩) 0).reg.s,.int .i64 (bsT f v (waT wa) (some ⟨wr.heap.size,0,none⟩) 0).reg.rev,.slice (bsT f v (waT wa) (some ⟨wr.heap.size,0,none⟩) 0).reg.ao (bsT f v (waT wa) (some ⟨wr.heap.size,0,none⟩) 0).reg.n (bsT f v (waT wa) (some ⟨wr.heap.size,0,none⟩) 0).reg.cap],.int .i64 0] U fun e w'=>e=.returned (.int .u64 (ringId 0))∧Bl U w'):=fun U hUU=>by
     have h:=pident_any (bsT f v (waT wa) (some ⟨wr.heap.size,0,none⟩) 0) 0 U ((HN.out U (HB.out U hUU)).1.each 0 hj0) (hRt.fine 0 hj0);have e:(bsT f v (waT wa) (some ⟨wr.heap.size,0,none⟩) 0).id 0=ringId 0:=congrFun (netT_ids0 (k:=j) (f:=f) (v:=v) (ra:=waT wa) (pa:=some ⟨wr.heap.size,0,none⟩) (a5:=some ⟨g,0,none⟩) (c5:=c5) (a6:=a6) (c6:=c6)) 0;rw[e] at h;exact h
    have HI2:Hid (∀U,Bl Z U→Calls Tryz.prog 17 #[.agg #[.int .u64 (bsT f v (waT wa) (some ⟨wr.heap.size,0,none⟩) f).addr,.slice (bsT f v (waT wa) (some ⟨wr.heap.size,0,none⟩) f).pao (bsT f v (waT wa) (some ⟨wr.heap.size,0,none⟩) f).pn (bsT f v (waT wa) (some ⟨wr.heap.size,0,none⟩) f).pcap,.string (bsT f v (waT wa) (some ⟨wr.heap.size,0,none⟩) f).reg.s,.int .i64 (bsT f v (waT wa) (some ⟨wr.heap.size,0,none⟩) f).reg.rev,.slice (bsT f v (waT wa) (some ⟨wr.heap.size,0,none⟩) f).reg.ao (bsT f v (waT wa) (some ⟨wr.heap.size,0,none⟩) f).reg.n (bsT f v (waT wa) (some ⟨wr.heap.size,0,none⟩) f).reg.cap],.int .i64 1] U fun e w'=>e=.returned (.int .u64 (firstId f f))∧Bl U w'):=fun U hUU=>by
     have h:=pident_any (bsT f v (waT wa) (some ⟨wr.heap.size,0,none⟩) f) 1 U ((HN.out U (HB.out U hUU)).1.each f hfj) (hRt.fine f hfj);have e:(bsT f v (waT wa) (some ⟨wr.heap.size,0,none⟩) f).id 1=firstId f f:=congrFun (netT_ids1 (k:=j) (f:=f) (v:=v) (ra:=waT wa) (pa:=some ⟨wr.heap.size,0,none⟩) (a5:=some ⟨g,0,none⟩) (c5:=c5) (a6:=a6) (c6:=c6)) f;rw[e] at h;exact h
    have HC:Hid (∀U,Bl Z U→U.cell? ⟨g9,0,none⟩=some (.int .i64 0)∧U.cell? ⟨g8,0,none⟩=some (.slice (some ⟨ob,off,none⟩) 2 oc)∧U.cell? ⟨ob,off,none⟩=some (.slice (some ⟨m0,o0,none⟩) j (tat t' 0).cap)∧U.cell? ⟨ob,off+1,none⟩=some (.slice (some ⟨m1,o1,none⟩) j (tat t' 1).cap)∧U.cell? ⟨m0,o0+m*9,none⟩=some (.int .u64 (ringId 0))∧U.cell? ⟨m1,o1+m*9,none⟩=some (.int .u64 (firstId f f))∧U.cell? ⟨BN,0,none⟩=some (.slice (some ⟨g,0,none⟩) j c5)∧(U.cell? ⟨g,0,none⟩=some (.int .u64 (bsT f v (waT wa) (some ⟨wr.heap.size,0,none⟩) 0).addr)∧U.cell? ⟨g,1,none⟩=some (.slice (bsT f v (waT wa) (some ⟨wr.heap.size,0,none⟩) 0).pao (bsT f v (waT wa) (some ⟨wr.heap.size,0,none⟩) 0).pn (bsT f v (waT wa) (some ⟨wr.heap.size,0,none⟩) 0).pcap)∧U.cell? ⟨g,2,none⟩=some (.string (bsT f v (waT wa) (some ⟨wr.heap.size,0,none⟩) 0).reg.s)∧U.cell? ⟨g,3,none⟩=some (.int .i64 (bsT f v (waT wa) (some ⟨wr.heap.size,0,none⟩) 0).reg.rev)∧U.cell? ⟨g,4,none⟩=some (.slice (bsT f v (waT wa) (some ⟨wr.heap.size,0,none⟩) 0).reg.ao (bsT f v (waT wa) (some ⟨wr.heap.size,0,none⟩) 0).reg.n (bsT f v (waT wa) (some ⟨wr.heap.size,0,none⟩) 0).reg.cap))∧(U.cell? ⟨g,f*5,none⟩=some (.int .u64 (bsT f v (waT wa) (some ⟨wr.heap.size,0,none⟩) f).addr)∧U.cell? ⟨g,f*5+1,none⟩=some (.slice (bsT f v (waT wa) (some ⟨wr.heap.size,0,none⟩) f).pao (bsT f v (waT wa) (some ⟨wr.heap.size,0,none⟩) f).pn (bsT f v (waT wa) (some ⟨wr.heap.size,0,none⟩) f).pcap)∧U.cell? ⟨g,f*5+2,none⟩=some (.string (bsT f v (waT wa) (some ⟨wr.heap.size,0,none⟩) f).reg.s)∧U.cell? ⟨g,f*5+3,none⟩=some (.int .i64 (bsT f v (waT wa) (some ⟨wr.heap.size,0,none⟩) f).reg.rev)∧U.cell? ⟨g,f*5+4,none⟩=some (.slice (bsT f v (waT wa) (some ⟨wr.heap.size,0,none⟩) f).reg.ao (bsT f v (waT wa) (some ⟨wr.heap.size,0,none⟩) f).reg.n (bsT f v (waT wa) (some ⟨wr.heap.size,0,none⟩) f).reg.cap))):=fun U hUU=>by
     obtain⟨s1,s2,s3⟩:=hU U hUU;obtain⟨n1,n2,_⟩:=HN.out U (HB.out U hUU);have x0:=s1.row.cell (i:=0) (by omega);have x1:=s1.row.cell (i:=1) (by omega);have z0:=s1.row.each 0 (by omega);have z1:=s1.row.each 1 (by omega);rw[em0,l0] at x0;rw[em1,l1] at x1;rw[em0] at z0;rw[em1] at z1;have z0:=(z0.cells (i:=m) (by rw[l0];omega)).1;have z1:=(z1.cells (i:=m) (by rw[l1];omega)).1;rw[rt0] at z0;rw[rt1] at z1;rw[hlen] at s3;have hbr:BRow U (some ⟨g,0,none⟩) j c5 (bsT f v (waT wa) (some ⟨wr.heap.size,0,none⟩)):=n1.brs;obtain⟨p0,p1,p2,p3,p4⟩:=BRow.cells hbr (i:=0) hj0;obtain⟨q0,q1,q2,q3,q4⟩:=BRow.cells hbr (i:=f) hfj;simp only[Nat.zero_add] at q0 q1 q2 q3 q4;exact⟨hc9 U hUU,one_cell s3,x0,x1,z0,z1,(tC2 n2).1,⟨p0,p1,p2,p3,p4⟩,⟨q0,q1,q2,q3,q4⟩⟩
    have HST:Hid (∀U,Bl Z U→Sent U n' (some ⟨ob,off,none⟩) oc t'):=fun U hUU=>by
     obtain⟨_,_,_,t1,t2⟩:=HN.out U (HB.out U hUU);exact sn_sent (hU U hUU).1 (netT_wf HK.out.1.2) (netT_right HK.out.1.2 HK.out.2.2.1) (fun q hq=>by rw[tk1_eq];exact errTick (by omega)) (by show 1≤2∧2≤4;omega) t1 t2
    have HSV:Hid (∀U,Bl Z U→Calls Tryz.prog 28 #[.agg #[.slice n'.bao n'.K n'.bcap,.slice n'.lao n'.L n'.lcap],.agg #[.slice (some ⟨ob,off,none⟩) 2 oc],.int .i64 0,.int .i64 v] U fun e w'=>∃so sc,e=.returned (.tuple #[.slice so m sc,.bool true])∧Hid (Bl Z w')):=fun U hUU=>by
     have hr:=tr_run HK.out.1 HK.out.2.1 v;have hr2:(({ Ln.ringM j (Ln.trOp j f) (fun _=>true) 281474976710655 5 with vid:=v }:Ln.Sm).run 41 ⟨[],[(0,0)],bare j⟩).seen.length=j-1:=hr.2;have h:=usend_any (HST.out U hUU) isV rfl rfl (i:=0) (by rw[eK];exact hj0) (S:=({ Ln.ringM j (Ln.trOp j f) (fun _=>true) 281474976710655 5 with vid:=v }:Ln.Sm).run 41 ⟨[],[(0,0)],bare j⟩) (by rw[eK]) hr.1;rw[hlen,hr2,hm1] at h;refine h.mono ?_;rintro e w' ⟨so,sc,rfl,H⟩;exact⟨so,sc,rfl,hUU.trans (H.out.mono hUU.size)⟩
    have HS7:Hid (∀U,Bl Z U→Calls Tryz.prog 28 #[.agg #[.slice n'.bao n'.K n'.bcap,.slice n'.lao n'.L n'.lcap],.agg #[.slice (some ⟨ob,off,none⟩) 2 oc],.int .i64 0,.int .i64 7] U fun e w'=>∃so sc,e=.returned (.tuple #[.slice so m sc,.bool true])∧Hid (Bl Z w')):=fun U hUU=>by
     have hr:=ring_run (k:=j) (i:=0) (by have:=HK.out.1;omega) hj0;have hr2:(({ Ln.ringM j (Ln.ringOp j) (fun _=>true) 281474976710655 5 with vid:=7 }:Ln.Sm).run 41 ⟨[],[(0,0)],bare j⟩).seen.length=j-1:=hr.2;have h:=usend_any (HST.out U hUU) is7 rfl rfl (i:=0) (by rw[eK];exact hj0) (S:=({ Ln.ringM j (Ln.ringOp j) (fun _=>true) 281474976710655 5 with vid:=7 }:Ln.Sm).run 41 ⟨[],[(0,0)],bare j⟩) (by rw[eK]) hr.1;rw[hlen,hr2,hm1] at h;refine h.mono ?_;rintro e w' ⟨so,sc,rfl,H⟩;exact⟨so,sc,rfl,hUU.trans (H.out.mono hUU.size)⟩
    have HSS:Hid (∀U,Bl Z U→((U.cell? ⟨g7,0,none⟩=some (.slice n'.bao n'.K n'.bcap)∧U.cell? ⟨g7,1,none⟩=some (.slice n'.lao n'.L n'.lcap))∧U.cell? ⟨g8,0,none⟩=some (.slice (some ⟨ob,off,none⟩) 2 oc))∧Bl w U):=fun U hUU=>by
     obtain⟨_,s7,s8⟩:=hU U hUU;rw[hlen] at s8;exact⟨⟨tC2 s7,one_cell s8⟩,(HN.out U (HB.out U hUU)).2.2.1⟩
    have wm:IntKind.i64.wrap ((j:Int)-1)=(m:Int):=(by have:=HK.out.1.2;rw[IntKind.wrap_i64];omega)
    have hmj:m<100:=(by have:=HK.out.1.2;omega)
    clear hb hX hk hl hz hXZ hc9 hU hS0 eK eL isV is7 rt0 rt1 l0 l1 em0 em1 hm hm1 hRt HB HST HN hlen wk HY;generalize (tat t' 0).cap=mc0 at *;generalize (tat t' 1).cap=mc1 at *;rw[←HZ.out];(go_wp2_with fail);refine ut13 [] Z BN g8 g9 g ob off oc m0 o0 mc0 m1 o1 mc1 c5 j m f (ringId 0) (firstId f f) (.int .u64 (bsT f v (waT wa) (some ⟨wr.heap.size,0,none⟩) 0).addr) (.slice (bsT f v (waT wa) (some ⟨wr.heap.size,0,none⟩) 0).pao (bsT f v (waT wa) (some ⟨wr.heap.size,0,none⟩) 0).pn (bsT f v (waT wa) (some ⟨wr.heap.size,0,none⟩) 0).pcap) (.string (bsT f v (waT wa) (some ⟨wr.heap.size,0,none⟩) 0).reg.s) (.int .i64 (bsT f v (waT wa) (some ⟨wr.heap.size,0,none⟩) 0).reg.rev) (.slice (bsT f v (waT wa) (some ⟨wr.heap.size,0,none⟩) 0).reg.ao (bsT f v (waT wa) (some ⟨wr.heap.size,0,none⟩) 0).reg.n (bsT f v (waT wa) (some ⟨wr.heap.size,0,none⟩) 0).reg.cap) (.int .u64 (bsT f v (waT wa) (some ⟨wr.heap.size,0,none⟩) f).addr) (.slice (bsT f v (waT wa) (some ⟨wr.heap.size,0,none⟩) f).pao (bsT f v (waT wa) (some ⟨wr.heap.size,0,none⟩) f).pn (bsT f v (waT wa) (some ⟨wr.heap.size,0,none⟩) f).pcap) (.string (bsT f v (waT wa) (some ⟨wr.heap.size,0,none⟩) f).reg.s) (.int .i64 (bsT f v (waT wa) (some ⟨wr.heap.size,0,none⟩) f).reg.rev) (.slice (bsT f v (waT wa) (some ⟨wr.heap.size,0,none⟩) f).reg.ao (bsT f v (waT wa) (some ⟨wr.heap.size,0,none⟩) f).reg.n (bsT f v (waT wa) (some ⟨wr.heap.size,0,none⟩) f).reg.cap) _ _ _ _ _ _ _ _ _ _ _ _ _ _ _ _ _ _ _ _ _ _ _ _ _ _ _ _ _ _ _ _ _ _ _ _ _ _ _ _ _ _ _ _ _ _ _ _ _ _ _ _ _ _ _ _ _ _ _ _ _ _ _ _ _ _ _ _ _ _ _ _ _ _ _ _ _ _ _ _ _ _ _ _ _ _ _ _ _ _ _ _ _ _ _ _ _ _ _ _ _ _ _ ?hQ ?hC ?hk ?hf ?hm ?hI1 ?hI2 ?fin _ _ _ _ _ _ _ _ _ _ _ _ _ _ _ _ _ _ _ _ _ _ _ _ _ _ _ _ _ _ _ _ _ _ _ _ _ _ _ _
    case hQ=>exact fun _ _ _ _ _ h=>h
    case hC=>exact HC.out
    case hk=>exact HM.out
    case hf=>exact hfj
    case hm=>exact hmj
    case hI1=>exact HI1.out
    case hI2=>exact HI2.out
    case fin =>
     intro w5 hw5;obtain⟨⟨⟨d0,d1⟩,d2⟩,_⟩:=HSS.out w5 hw5;have HW5:Hid (Bl Z w5):=hw5;clear HC HI1 HI2 hw5;(go_wp2_with fail);refine(HSV.out w5 HW5.out).mono ?_;rintro e w6 ⟨so,sc,rfl,HB6⟩;obtain⟨⟨⟨d0,d1⟩,d2⟩,_⟩:=HSS.out w6 HB6.out;clear HSV HW5;(go_wp2_with fail);refine(HS7.out w6 HB6.out).mono ?_;rintro e w7 ⟨so2,sc2,rfl,HB7⟩;clear HS7 d0 d1 d2;(go_wp2_with fail);go_ret;exact⟨rfl,(HSS.out w7 HB7.out).2⟩
end
end Go.Proofs.YtflghpnpjmodaaaGreatDoor
namespace Go.Proofs.YtflghpnpjmodaaaGreatDoor.topTrees
open Go.ChangeShapes Go.WideShapes Go.ChangeAt Go.RowKit
theorem contract (H:Type) (enc:TypeId×Value→H) (W:World) (base:Nat) (args:Array Value) (ds gs:List (DataW H)) (before:List MemPlace)
  (hval:∀(j:Nat) t v,Tryz.f10.params[j]?=some t→args[j]?=some v→Value.okWide Tryz.prog W .any base t v)
  (hW:DataW.Whole enc Tryz.prog Tryz.f10.params.toList Rows.topTreesSpec.vars false W args.toList ds gs before)
  (hsz:(DataW.weightsEach Tryz.prog (Tryz.f10.params.toList++(OpenSpec.ofChange Rows.topTreesSpec).bare.plain.varTypes Tryz.prog) (ds++gs)).all (·≤reachBytes)=true)
  (hL:laidMetH Tryz.prog Rows.topTreesRow.laid W) :
  Calls Tryz.prog 10 args W fun e W'=>∃v,e=.returned v∧Rows.topTreesSpec.post enc Tryz.prog Tryz.f10 false true false false W args v W':=by
 have hW':=hW;obtain⟨p,q,hA0,hV,rfl,hfz,hnd⟩:=hW;have hA:DataW.TrodAll enc Tryz.prog W 0 (fun _=>true) true Tryz.f10.params.toList args.toList ds p:=hA0;rw[Tryz.params10] at hA hval hsz;obtain⟨v0,vs0,d0,ds0,p0,q0,hargs,rfl,rfl,h0,r0⟩:=trodAll_cons hA;obtain⟨v1,vs1,d1,ds1,p1,q1,rfl,rfl,rfl,h1,r1⟩:=trodAll_cons r0;obtain⟨v2,vs2,d2,ds2,p2,q2,rfl,rfl,rfl,h2,r2⟩:=trodAll_cons r1;obtain⟨rfl,rfl,rfl⟩:=trodAll_nil r2;obtain rfl:args=#[v0,v1,v2]:=by cases args;simp_all
 obtain⟨rfl,rfl⟩:=trodVars_none hV;have lt0:∀x∈p0,x.block<W.heap.size:=by obtain⟨m,hm⟩:=h0;exact DataW.trod_lt m _ _ _ hm
 obtain⟨z0,rfl⟩:=okWide_int Tryz.underlying3 (hval 0 3 v0 rfl rfl);have lt1:∀x∈p1,x.block<W.heap.size:=by obtain⟨m,hm⟩:=h1;exact DataW.trod_lt m _ _ _ hm
 obtain⟨z1,rfl⟩:=okWide_int Tryz.underlying3 (hval 1 3 v1 rfl rfl);have lt2:∀x∈p2,x.block<W.heap.size:=by obtain⟨m,hm⟩:=h2;exact DataW.trod_lt m _ _ _ hm
 obtain⟨z2,rfl⟩:=okWide_int Tryz.underlying3 (hval 2 3 v2 rfl rfl);have hT:=tabs_of hL;have hG:2≤W.heap.size:=hT.lt;clear hA0 hsz;refine(utoptrees_any z0 z1 z2 W hT hG).mono fun e W' ⟨he,bel⟩ => ?_;subst he;exact⟨_,rfl,_,_,_,[],_,[],hW',trodAll_mk1 (shut_bool Tryz.underlying4 _),(trodAll_cons_mk (Below.trod laidOut (by kernel_rfl) (of_decide_eq_true (by kernel_rfl)) h0 bel lt0) (trodAll_cons_mk (Below.trod laidOut (by kernel_rfl) (of_decide_eq_true (by kernel_rfl)) h1 bel lt1) (trodAll_cons_mk (Below.trod laidOut (by kernel_rfl) (of_decide_eq_true (by kernel_rfl)) h2 bel lt2) trodAll_mk0))),rfl,bel.frame _,fun h=>by cases h⟩
theorem laid_met (os:Os):laidMet Tryz.prog Rows.topTreesRow.laid ((laidW (World.holding Tryz.prog os ⟨#[],#[],[]⟩)).forCall (fun _ _=>0) ⟨#[],#[.int .i64 0,.int .i64 0,.int .i64 0],[]⟩).memory :=
 laidMet_of_run' 8 (by kernel_rfl) (by kernel_rfl)
theorem reads (os:Os) {H:Type}(enc:TypeId×Value→H):∃places,DataW.whole enc Tryz.prog ((laidW (World.holding Tryz.prog os ⟨#[],#[],[]⟩)).forCall (fun _ _=>0) ⟨#[],#[.int .i64 0,.int .i64 0,.int .i64 0],[]⟩).memory Tryz.f10.params.toList Rows.topTreesSpec.vars false #[Value.int .i64 0,.int .i64 0,.int .i64 0].toList 8=some ([.lit (.int .i64 0),.lit (.int .i64 0),.lit (.int .i64 0)],[],places) :=
 ⟨[],by kernel_rfl⟩
theorem lifted (os:Os) (started:os.Started) (H:Type) (enc:TypeId×Value→H) (F:Stop.Interp) :
  ReturnsInHanded {} Tryz.checked os 10 .any ((OpenSpec.ofChange Rows.topTreesSpec).preRow enc Tryz.prog Tryz.f10 Rows.topTreesRow.domain false Rows.topTreesRow.laid) (((OpenSpec.ofChange Rows.topTreesSpec).at F).post enc Tryz.prog Tryz.f10 false true false false):=by
 obtain⟨places,hx⟩:=reads os enc;refine returnsInHanded_of_row (C:=Tryz.checked) (s:=OpenSpec.ofChange Rows.topTreesSpec) own started (by kernel_rfl) Tryz.func10
  (witness_row_at (enc:=enc) (C:=Tryz.checked) false (laidW (World.holding Tryz.prog os ⟨#[],#[],[]⟩)) #[.int .i64 0,.int .i64 0,.int .i64 0] rfl (by kernel_rfl) (by kernel_rfl) (by kernel_rfl)
   (OpenSpec.preRow_of_cond 8 hx (by kernel_rfl) (fun k hk=>by cases hk) (by kernel_rfl) (laid_met os))) ?_
 intro W base args ds gs before hval hW _ _ hsz hL _ _;exact contract H enc W base args ds gs before hval hW hsz hL
theorem said:Rows.TopTreesSaid :=
 OpenClaim.holds_of_cond 10 Tryz.f10 rfl rfl rfl rfl rfl rfl rfl ⟨rfl,rfl,rfl,rfl,rfl⟩ rfl rfl rfl rfl rfl (by kernel_rfl) Tryz.func10 (by kernel_rfl)
  (of_decide_eq_true (by kernel_rfl)) (by unfold Func.isWrapper;first | (rw[if_pos (by decide +kernel)];kernel_rfl) | (rw[if_neg (by decide +kernel)];exact⟨rfl,rfl⟩))
  (fun os started H enc _ F=>by rw[OpenClaim.pre_eq_preRow];exact lifted os started H enc F)
theorem plain (f:FuncId) (fn:Func) (hf:Tryz.pinned.checked.prog.funcNamed "hedgerow/hedgetop.TopTrees" = some f) (hfn:Tryz.pinned.checked.prog.funcs[f]?=some fn) :
  false=Tryz.pinned.checked.prog.looks []∧∀(j:Nat) t,fn.params[j]?=some t→Tryz.pinned.checked.prog.wantsStandIn t=false:=by
 obtain rfl:f=10:=Option.some.inj ((show Tryz.prog.funcNamed "hedgerow/hedgetop.TopTrees" = some 10 by kernel_rfl).symm.trans hf) |>.symm;obtain rfl:fn=Tryz.f10:=(Option.some.inj (Tryz.func10.symm.trans hfn)).symm;refine⟨by kernel_rfl,fun j t ht => ?_⟩;rw[Tryz.params10] at ht;have h1:Tryz.prog.wantsStandIn 3=false:=(by kernel_rfl)
 have ht2:t=3:=(by simpa using Array.mem_of_getElem? ht)
 subst ht2;exact h1
theorem card:Rows.TopTreesCardSaid :=
 Claim7.holds_tied_plain_at .later [] _ _ _ _ said (fun _ h=>by cases h) (by kernel_rfl) (fun _ h=>by cases h) topTrees_row_tie rfl ⟨rfl,rfl⟩ (by kernel_rfl) rfl plain (by kernel_rfl)
end Go.Proofs.YtflghpnpjmodaaaGreatDoor.topTrees
namespace Go.Proofs.YtflghpnpjmodaaaGreatDoor
theorem topTrees_card:Rows.TopTreesCardSaid:=topTrees.card
#print axioms topTrees_card
end Go.Proofs.YtflghpnpjmodaaaGreatDoor
