/- What Go's stable sort does: blocks. -/
import Derived.Test.YtflghpnpjmodaaaGreatDoorH06
set_option maxRecDepth 100000
set_option maxHeartbeats 40000000
namespace Go.Proofs.YtflghpnpjmodaaaGreatDoor
section
open Go.RowKit
open Pl (En)
namespace Es
theorem smergeB (sp:Array Value) (g n cap a m b:Nat) (f:Nat→En) (w:World) (hA:w.heap[g]?=some (.cells (rowE sp n f) 153)) (hn:n≤4398046511104) (hm:b=m+1) (h1:a+1<m) (h2:b≤n) (hs:Ec.SIn a m f) :
  Calls Tryz.prog 162 #[.slice (some ⟨g,0,none⟩) n cap,.int .i64 a,.int .i64 m,.int .i64 b,.func (.func 72) #[] #[]] w fun x w'=>x=.returned (.tuple #[])∧∃G,w'.heap[g]?=some (.cells (rowE sp n G) 153)∧Ec.Pm a b f G∧Ec.SIn a b G∧But g w w':=by
 have HA:Hid (w.heap[g]?=some (.cells (rowE sp n f) 153)):=hA;have HS:Hid (Ec.SIn a m f):=hs;have HM:Hid (b=m+1):=hm;obtain⟨d,hd⟩:∃d,d=m-a:=⟨_,rfl⟩
 have wd:IntKind.i64.wrap ((m:Int)-(a:Int))=(d:Int):=(by rw[wraps_i64 _ (by omega) (by omega)];omega)
 have d1:((d:Int) == 1)=false:=(by simp;omega)
 have wm:IntKind.i64.wrap ((b:Int)-(m:Int))=1:=(by rw[wraps_i64 _ (by omega) (by omega)];omega)
 have am:a<m:=(by omega)
 have mb:m<b:=(by omega)
 have mn:m<n:=(by omega)
 clear hA hs hm hd;go_enter Tryz.func162,Tryz.ntmps162;(go_wp2_with fail);go_loopw [14,15] (fun x y wr=>∃i j:Nat,a≤i∧i≤j∧j≤m∧x=.int .i64 i∧y=.int .i64 j∧Hid ((∀q,a≤q→q<i→¬Ec.lt (f m) (f q))∧∀q,j≤q→q<m→Ec.lt (f m) (f q))∧Hid (wr.heap[g]?=some (.cells (rowE sp n f) 153)∧But g w wr)) (fun x y _=>(intOf y-intOf x).toNat)
 case atStart=>exact⟨a,m,by omega,by omega,by omega,rfl,rfl,⟨fun q q1 q2=>by omega,fun q q1 q2=>by omega⟩,HA.out,But.refl _ _⟩
 case round =>
  obtain⟨i,j,li,lij,uj,rfl,rfl,hQ,hX⟩:=hrel;clear HA;by_cases hlt:i<j
  ·obtain⟨h,hh⟩:∃h,h=(i+j)/2:=⟨_,rfl⟩
   have eh:((i:Int)+(j:Int))/2=(h:Int):=(by omega)
   have l1:i≤h:=(by omega)
   have l2:h<j:=(by omega)
   clear hh;have hlt2:(i:Int)<(j:Int):=(by omega)
   have ia:(0:Int)≤(m:Int):=(by omega)
   have ih:(0:Int)≤(h:Int):=(by omega)
   have na:(m:Int)<(n:Int):=(by omega)
   have nh:(h:Int)<(n:Int):=(by omega)
   have HCC:Hid (∀W,Bl wr W→_):=two_cells hX.out.1 (show m<n by omega) (show h<n by omega);have HLO:Hid (∀W,Bl wr W→W.heap[g]?=some (.cells (rowE sp n f) 153)∧But g w W):=row_stay hX.out.1 hX.out.2;have HW0:Hid (Bl wr wr):=Below.refl _ _;have HCM:Hid (∀W,Bl wr W→Calls Tryz.prog 72 #[.agg #[.int .i64 (f m).port,.int .i64 (f m).cost,.int .i64 (f m).other,.int .i64 (f m).oport,.bool (f m).live],.agg #[.int .i64 (f h).port,.int .i64 (f h).cost,.int .i64 (f h).other,.int .i64 (f h).oport,.bool (f h).live]] W fun e w'=>e=.returned (.int .i64 (Ec.cmp (f m) (f h)))∧Hid (Bl wr w')):=fun W hW=>cmp_say (f m) (f h) wr W hW;have HYES:Hid (Ec.cmp (f m) (f h)<0→(∀q,a≤q→q<i→¬Ec.lt (f m) (f q))∧∀q,h≤q→q<m→Ec.lt (f m) (f q)):=fun c=>by
    have c':=Ec.cmp_lt.1 c;refine⟨hQ.out.1,fun q q1 q2 => ?_⟩;by_cases e:q=h
    ·subst e;exact c'
    ·exact lt_of_lt_le c' (HS.out h q (by omega) (by omega) q2)
   have HNO:Hid (¬Ec.cmp (f m) (f h)<0→(∀q,a≤q→q<h+1→¬Ec.lt (f m) (f q))∧∀q,j≤q→q<m→Ec.lt (f m) (f q)):=fun c=>by
    have c':¬Ec.lt (f m) (f h):=fun q=>c (Ec.cmp_lt.2 q);refine⟨fun q q1 q2 => ?_,hQ.out.2⟩;by_cases e:q=h
    ·subst e;exact c'
    ·exact Ec.not_lt_trans (HS.out q h q1 (by omega) (by omega)) c'
   obtain⟨⟨c0,c1,c2,c3,c4⟩,d0,d1',d2,d3,d4⟩:=HCC.out wr HW0.out;obtain⟨CV,hCV⟩:∃CV,Ec.cmp (f m) (f h)=CV:=⟨_,rfl⟩
   rw[hCV] at HCM HYES HNO;clear hCV hQ hX HS;obtain⟨x,hx⟩:∃x,f m=x:=⟨_,rfl⟩
   obtain⟨y,hy⟩:∃y,f h=y:=⟨_,rfl⟩
   rw[hx,hy] at HCC HCM;rw[hx] at c0 c1 c2 c3 c4;rw[hy] at d0 d1' d2 d3 d4;clear hx hy;by_cases hc:CV<0
   ·have HQ2:=HYES.out (by omega);have hc2:decide (CV<0)=true:=decide_eq_true hc;clear HYES HNO;(go_wp2_with fail);go_region_held3 (fun W=>(W.cell? ⟨g,m*5,none⟩=some (.int .i64 x.port)∧W.cell? ⟨g,m*5+1,none⟩=some (.int .i64 x.cost)∧W.cell? ⟨g,m*5+2,none⟩=some (.int .i64 x.other)∧W.cell? ⟨g,m*5+3,none⟩=some (.int .i64 x.oport)∧W.cell? ⟨g,m*5+4,none⟩=some (.bool x.live))∧W.cell? ⟨g,h*5,none⟩=some (.int .i64 y.port)∧W.cell? ⟨g,h*5+1,none⟩=some (.int .i64 y.cost)∧W.cell? ⟨g,h*5+2,none⟩=some (.int .i64 y.other)∧W.cell? ⟨g,h*5+3,none⟩=some (.int .i64 y.oport)∧W.cell? ⟨g,h*5+4,none⟩=some (.bool y.live))
     (first | (exact HCC.out _ (Below.drew HW0.out)) | (exact HCC.out _ (Hid.out (by assumption))))
     (first | (go_at_call 72;refine(HCM.out _ (Below.drew HW0.out)).mono ?_;rintro e w3 ⟨rfl,HB3⟩))
    clear c0 c1 c2 c3 c4 d0 d1' d2 d3 d4;have HX2:Hid _:=HLO.out w3 HB3.out;clear HLO HCC HCM HW0 HB3;(go_wp2_with fail);exact⟨⟨i,h,li,l1,by omega,rfl,rfl,HQ2,HX2⟩,by simp[intOf];omega⟩
   ·have HQ2:=HNO.out (by omega);have hc2:decide (CV<0)=false:=decide_eq_false hc;clear HYES HNO;(go_wp2_with fail);go_region_held3 (fun W=>(W.cell? ⟨g,m*5,none⟩=some (.int .i64 x.port)∧W.cell? ⟨g,m*5+1,none⟩=some (.int .i64 x.cost)∧W.cell? ⟨g,m*5+2,none⟩=some (.int .i64 x.other)∧W.cell? ⟨g,m*5+3,none⟩=some (.int .i64 x.oport)∧W.cell? ⟨g,m*5+4,none⟩=some (.bool x.live))∧W.cell? ⟨g,h*5,none⟩=some (.int .i64 y.port)∧W.cell? ⟨g,h*5+1,none⟩=some (.int .i64 y.cost)∧W.cell? ⟨g,h*5+2,none⟩=some (.int .i64 y.other)∧W.cell? ⟨g,h*5+3,none⟩=some (.int .i64 y.oport)∧W.cell? ⟨g,h*5+4,none⟩=some (.bool y.live))
     (first | (exact HCC.out _ (Below.drew HW0.out)) | (exact HCC.out _ (Hid.out (by assumption))))
     (first | (go_at_call 72;refine(HCM.out _ (Below.drew HW0.out)).mono ?_;rintro e w3 ⟨rfl,HB3⟩))
    clear c0 c1 c2 c3 c4 d0 d1' d2 d3 d4;have HX2:Hid _:=HLO.out w3 HB3.out;clear HLO HCC HCM HW0 HB3;(go_wp2_with fail);exact⟨⟨h+1,j,by omega,by omega,uj,by go_num,rfl,HQ2,HX2⟩,by simp[intOf];omega⟩
  ·obtain rfl:i=j:=by omega
   have HSO:Hid (Ec.SIn a b (Ec.shR m i f)):=by
    have hm:=HM.out;subst hm;exact Ec.shR_sorted a i m f HS.out li uj hQ.out.1 hQ.out.2
   have HX:Hid (wr.heap[g]?=some (.cells (rowE sp n f) 153)∧But g w wr):=hX;clear hQ HS hX;(go_wp2_with fail);go_loopw [17] (fun vk wi=>∃k:Nat,i≤k∧k≤m∧vk=.int .i64 k∧Hid (wi.heap[g]?=some (.cells (rowE sp n (Ec.shR m k f)) 153)∧Ec.Pm a b f (Ec.shR m k f)∧But g w wi)) (fun k _=>(intOf k).toNat)
   case atStart=>exact⟨m,uj,by omega,rfl,by rw[Ec.shR_start];exact⟨HX.out.1,Ec.Pm.refl,HX.out.2⟩⟩
   case round =>
    obtain⟨k,lk,uk,rfl,hY⟩:=hrel;clear HX;by_cases hk:i<k
    ·obtain⟨q,hq⟩:∃q,q=k-1:=⟨_,rfl⟩
     have wq:IntKind.i64.wrap ((k:Int)-1)=(q:Int):=(by rw[wraps_i64 _ (by omega) (by omega)];omega)
     have ik:(0:Int)≤(k:Int):=(by omega)
     have iq:(0:Int)≤(q:Int):=(by omega)
     have nk:(k:Int)<(n:Int):=(by omega)
     have nq':(q:Int)<(n:Int):=(by omega)
     have hk2:(i:Int)<(k:Int):=(by omega)
     obtain⟨c0,c1,c2,c3,c4⟩:=rowE_cells hY.out.1 (show k<n by omega);obtain⟨d0,d1',d2,d3,d4⟩:=rowE_cells hY.out.1 (show q<n by omega);obtain⟨f0,f1,f2,f3,f4⟩:=rowE_free hY.out.1 k;obtain⟨e0,e1,e2,e3,e4⟩:=rowE_free hY.out.1 q;have HFN:Hid _:=swap_fin (F:=Ec.shR m q f) hY.out.1 hY.out.2.2 (Nat.le_refl _) (show k<n by omega) (show q<n by omega) (show k≠q by omega) (by rw[hq];exact Ec.shR_step m k f uk (by omega));have HPM:Hid (Ec.Pm a b f (Ec.shR m q f)):=(by rw[hq,←Ec.shR_step m k f uk (by omega)];exact Ec.Pm.swap _ _ ⟨by omega,by omega⟩ ⟨by omega,by omega⟩ hY.out.2.1)
     have hne:k*5≠q*5:=(by omega)
     have qi:i≤q:=(by omega)
     have kq:q<k:=(by omega)
     generalize Ec.shR m k f=F at *;generalize F k=x at *;generalize F q=y at *;clear hY hq;(go_wp2_with fail);go_region
     (all_goals go_wp2_with fail);all_goals exact⟨⟨q,qi,by omega,rfl,HFN.out.1,HPM.out,HFN.out.2⟩,by simp[intOf];omega⟩
    ·obtain rfl:k=i:=by omega
     have HF:Hid _:=hY.out;clear hY;(go_wp2_with fail);exact bodyPost_ret (results_none Tryz.results162 _ _ _) rfl ⟨rfl,_,HF.out.1,HF.out.2.1,HSO.out,HF.out.2.2⟩
end Es
namespace Es
theorem sswapRange_any (sp:Array Value) (g n cap a b c:Nat) (f:Nat→En) (cv:Value) (w:World) (hA:w.heap[g]?=some (.cells (rowE sp n f) 153)) (hn:n≤4398046511104) (h1:a+c≤b) (h2:b+c≤n) :
  Calls Tryz.prog 214 #[.slice (some ⟨g,0,none⟩) n cap,.int .i64 a,.int .i64 b,.int .i64 c,cv] w fun e w'=>e=.returned (.tuple #[])∧w'.heap[g]?=some (.cells (rowE sp n (Ec.swr a b c f)) 153)∧But g w w':=by
 have HA:Hid (w.heap[g]?=some (.cells (rowE sp n f) 153)):=hA;clear hA;go_enter Tryz.func214,Tryz.ntmps214;(go_wp2_with fail);go_loopw [10] (fun i wr=>∃k:Nat,k≤c∧i=.int .i64 k∧Hid (wr.heap[g]?=some (.cells (rowE sp n (Ec.swr a b k f)) 153)∧But g w wr)) (fun i _=>c-(intOf i).toNat)
 case atStart=>exact⟨0,by omega,rfl,by rw[Ec.swr_zero];exact HA.out,But.refl _ _⟩
 case round =>
  obtain⟨k,hk,rfl,hX⟩:=hrel;by_cases hlt:k<c
  ·obtain⟨i,hi⟩:∃i,i=a+k:=⟨_,rfl⟩
   obtain⟨j,hj⟩:∃j,j=b+k:=⟨_,rfl⟩
   have wi:IntKind.i64.wrap ((a:Int)+(k:Int))=(i:Int):=(by rw[wraps_i64 _ (by omega) (by omega)];omega)
   have wj:IntKind.i64.wrap ((b:Int)+(k:Int))=(j:Int):=(by rw[wraps_i64 _ (by omega) (by omega)];omega)
   have ii:(0:Int)≤(i:Int):=(by omega)
   have ij:(0:Int)≤(j:Int):=(by omega)
   have ni:(i:Int)<(n:Int):=(by omega)
   have nj:(j:Int)<(n:Int):=(by omega)
   obtain⟨c0,c1,c2,c3,c4⟩:=rowE_cells hX.out.1 (show i<n by omega);obtain⟨d0,d1,d2,d3,d4⟩:=rowE_cells hX.out.1 (show j<n by omega);obtain⟨f0,f1,f2,f3,f4⟩:=rowE_free hX.out.1 i;obtain⟨e0,e1,e2,e3,e4⟩:=rowE_free hX.out.1 j;have HFN:Hid _:=swap_fin (F:=Ec.swr a b (k+1) f) hX.out.1 hX.out.2 (Nat.le_refl _) (show i<n by omega) (show j<n by omega) (show i≠j by omega) (by rw[hi,hj];exact Ec.swr_step a b k f (by omega));generalize Ec.swr a b k f=F at *;generalize F i=x at *;generalize F j=y at *;have hne:i*5≠j*5:=(by omega)
   clear hX HA hi hj;(go_wp2_with fail);go_region
   (all_goals go_wp2_with fail);all_goals exact⟨⟨k+1,by omega,by go_num,HFN⟩,by simp[intOf];omega⟩
  ·obtain rfl:k=c:=by omega
   (go_wp2_with fail);exact bodyPost_end (results_none Tryz.results214 _ _ _) rfl ⟨rfl,hX.out⟩
end Es
namespace Es
theorem srotate_any (sp:Array Value) (g n cap s m e:Nat) (f:Nat→En) (cv:Value) (w:World) (hA:w.heap[g]?=some (.cells (rowE sp n f) 153)) (hn:n≤4398046511104) (h1:s<m) (h2:m<e) (h3:e≤n) :
  Calls Tryz.prog 199 #[.slice (some ⟨g,0,none⟩) n cap,.int .i64 s,.int .i64 m,.int .i64 e,cv] w fun x w'=>x=.returned (.tuple #[])∧w'.heap[g]?=some (.cells (rowE sp n (Ec.rot s m e f)) 153)∧Ec.Pm s e f (Ec.rot s m e f)∧But g w w':=by
 have HA:Hid (w.heap[g]?=some (.cells (rowE sp n f) 153)):=hA;have HSW:Hid (∀(a b c:Nat) (A B C:Int) (G:Nat→En) (W:World),A=a→B=b→C=c→W.heap[g]?=some (.cells (rowE sp n G) 153)→a+c≤b→b+c≤n→Calls Tryz.prog 214 #[.slice (some ⟨g,0,none⟩) n cap,.int .i64 A,.int .i64 B,.int .i64 C,cv] W fun e w'=>e=.returned (.tuple #[])∧w'.heap[g]?=some (.cells (rowE sp n (Ec.swr a b c G)) 153)∧But g W w'):=fun a b c A B C G W eA eB eC hW q1 q2=>by
  subst eA;subst eB;subst eC;exact sswapRange_any sp g n cap a b c G cv W hW hn q1 q2
 have hi0:IntKind.i64.wrap ((m:Int)-(s:Int))=((m-s:Nat):Int):=(by rw[wraps_i64 _ (by omega) (by omega)];omega)
 have hj0:IntKind.i64.wrap ((e:Int)-(m:Int))=((e-m:Nat):Int):=(by rw[wraps_i64 _ (by omega) (by omega)];omega)
 clear hA;go_enter Tryz.func199,Tryz.ntmps199;(go_wp2_with fail);go_loopw [10,11] (fun vi vj wr=>∃i j:Nat,0<i∧0<j∧i+s≤m∧j+m≤e∧vi=.int .i64 i∧vj=.int .i64 j∧Hid (∃G,wr.heap[g]?=some (.cells (rowE sp n G) 153)∧Ec.Pm s e f G∧Ec.rot (m-i) m (m+j) G=Ec.rot s m e f∧But g w wr)) (fun i j _=>(intOf i).toNat+(intOf j).toNat)
 case atStart=>exact⟨m-s,e-m,by omega,by omega,by omega,by omega,by first | rfl | (congr 1;omega),by first | rfl | (congr 1;omega),f,HA.out,Ec.Pm.refl,by rw[show m-(m-s)=s by omega,show m+(e-m)=e by omega],But.refl _ _⟩
 case round =>
  obtain⟨i,j,pi,pj,li,lj,rfl,rfl,hX⟩:=hrel;obtain⟨G,hG,hP,hR,hB⟩:=hX.out;have HG:Hid (wr.heap[g]?=some (.cells (rowE sp n G) 153)):=hG;have HP:Hid (Ec.Pm s e f G):=hP;have HR:Hid (Ec.rot (m-i) m (m+j) G=Ec.rot s m e f):=hR;have HB:Hid (But g w wr):=hB;clear hX hG hP hR hB HA hi0 hj0;by_cases q:i=j
  ·subst q;have HC:Hid (Calls Tryz.prog 214 #[.slice (some ⟨g,0,none⟩) n cap,.int .i64 ((m:Int)-(i:Int)),.int .i64 (m:Int),.int .i64 (i:Int),cv] wr fun e w'=>e=.returned (.tuple #[])∧w'.heap[g]?=some (.cells (rowE sp n (Ec.swr (m-i) m i G)) 153)∧But g wr w'):=HSW.out (m-i) m i _ _ _ G wr (by omega) rfl rfl HG.out (by omega) (by omega);clear HSW;(go_wp2_with fail);refine HC.out.mono ?_;rintro x w1 ⟨rfl,k1,k2⟩;have HF:Hid (w1.heap[g]?=some (.cells (rowE sp n (Ec.rot s m e f)) 153)∧Ec.Pm s e f (Ec.rot s m e f)∧But g w w1):=by
    have e1:=Ec.rot_same m i G (by omega);rw[HR.out] at e1;rw[e1] at k1;refine⟨k1,?_,HB.out.trans k2⟩;have:=HP.out.trans ((Ec.swr_pm (m-i) m G i (by omega)).mono (c:=s) (d:=e) (by omega) (by omega));rw[e1] at this;exact this
   clear k1 k2;(go_wp2_with fail);exact bodyPost_end (results_none Tryz.results199 _ _ _) rfl ⟨rfl,HF.out⟩
  ·have dq:((i:Int) != (j:Int))=true:=(by simp;omega)
   have dn:¬((i:Int)=(j:Int)):=(by omega)
   by_cases r:j<i
   ·have HC:Hid (Calls Tryz.prog 214 #[.slice (some ⟨g,0,none⟩) n cap,.int .i64 ((m:Int)-(i:Int)),.int .i64 (m:Int),.int .i64 (j:Int),cv] wr fun e w'=>e=.returned (.tuple #[])∧w'.heap[g]?=some (.cells (rowE sp n (Ec.swr (m-i) m j G)) 153)∧But g wr w'):=HSW.out (m-i) m j _ _ _ G wr (by omega) rfl rfl HG.out (by omega) (by omega);have ri:(j:Int)<(i:Int):=(by omega)
    clear HSW;(go_wp2_with fail);refine HC.out.mono ?_;rintro x w1 ⟨rfl,k1,k2⟩;have HF:Hid (∃G,w1.heap[g]?=some (.cells (rowE sp n G) 153)∧Ec.Pm s e f G∧Ec.rot (m-(i-j)) m (m+j) G=Ec.rot s m e f∧But g w w1) :=
     ⟨_,k1,HP.out.trans ((Ec.swr_pm (m-i) m G j (by omega)).mono (by omega) (by omega)),(Ec.rot_more m i j G (by omega) pj r).trans HR.out,HB.out.trans k2⟩
    clear k1 k2;(go_wp2_with fail);exact⟨⟨i-j,j,by omega,pj,by omega,lj,by congr 1;omega,rfl,HF⟩,by simp[intOf];omega⟩
   ·have HC:Hid (Calls Tryz.prog 214 #[.slice (some ⟨g,0,none⟩) n cap,.int .i64 ((m:Int)-(i:Int)),.int .i64 ((m:Int)+(j:Int)-(i:Int)),.int .i64 (i:Int),cv] wr fun e w'=>e=.returned (.tuple #[])∧w'.heap[g]?=some (.cells (rowE sp n (Ec.swr (m-i) (m+j-i) i G)) 153)∧But g wr w'):=HSW.out (m-i) (m+j-i) i _ _ _ G wr (by omega) (by omega) rfl HG.out (by omega) (by omega);have ri:(i:Int)<(j:Int):=(by omega)
    clear HSW;(go_wp2_with fail);refine HC.out.mono ?_;rintro x w1 ⟨rfl,k1,k2⟩;have HF:Hid (∃G,w1.heap[g]?=some (.cells (rowE sp n G) 153)∧Ec.Pm s e f G∧Ec.rot (m-i) m (m+(j-i)) G=Ec.rot s m e f∧But g w w1) :=
     ⟨_,k1,HP.out.trans ((Ec.swr_pm (m-i) (m+j-i) G i (by omega)).mono (by omega) (by omega)),(Ec.rot_less m i j G (by omega) pi (by omega)).trans HR.out,HB.out.trans k2⟩
    clear k1 k2;(go_wp2_with fail);exact⟨⟨i,j-i,pi,by omega,li,by omega,rfl,by congr 1;omega,HF⟩,by simp[intOf];omega⟩
end Es
namespace Es
def MergeOut (sp:Array Value) (g n a b:Nat) (f:Nat→En) (w:World) (x:Ending) (w':World):Prop :=
 x=.returned (.tuple #[])∧∃G,w'.heap[g]?=some (.cells (rowE sp n G) 153)∧Ec.Pm a b f G∧Ec.SIn a b G∧But g w w'
theorem smergeG (sp:Array Value) (g n cap a m b:Nat) (f:Nat→En) (w:World) (hA:w.heap[g]?=some (.cells (rowE sp n f) 153)) (hn:n≤4398046511104) (h0:a+1<m) (h1:m+1<b) (h2:b≤n) (hs1:Ec.SIn a m f) (hs2:Ec.SIn m b f)
  (ih:∀(a' m' b':Nat) (F:Nat→En) (W:World),b'-a'<b-a→W.heap[g]?=some (.cells (rowE sp n F) 153)→a'<m'→m'<b'→b'≤n→Ec.SIn a' m' F→Ec.SIn m' b' F→Calls Tryz.prog 162 #[.slice (some ⟨g,0,none⟩) n cap,.int .i64 a',.int .i64 m',.int .i64 b',.func (.func 72) #[] #[]] W (MergeOut sp g n a' b' F W)) :
  Calls Tryz.prog 162 #[.slice (some ⟨g,0,none⟩) n cap,.int .i64 a,.int .i64 m,.int .i64 b,.func (.func 72) #[] #[]] w (MergeOut sp g n a b f w):=by
 have HA:Hid (w.heap[g]?=some (.cells (rowE sp n f) 153)):=hA;have HS1:Hid (Ec.SIn a m f):=hs1;have HS2:Hid (Ec.SIn m b f):=hs2;have HIH:Hid (∀(a' m' b':Nat) (F:Nat→En) (W:World),b'-a'<b-a→W.heap[g]?=some (.cells (rowE sp n F) 153)→a'<m'→m'<b'→b'≤n→Ec.SIn a' m' F→Ec.SIn m' b' F→Calls Tryz.prog 162 #[.slice (some ⟨g,0,none⟩) n cap,.int .i64 a',.int .i64 m',.int .i64 b',.func (.func 72) #[] #[]] W (MergeOut sp g n a' b' F W)):=ih;obtain⟨d1,hd1⟩:∃d,d=m-a:=⟨_,rfl⟩
 have w1:IntKind.i64.wrap ((m:Int)-(a:Int))=(d1:Int):=(by rw[wraps_i64 _ (by omega) (by omega)];omega)
 have k1:((d1:Int) == 1)=false:=(by simp;omega)
 obtain⟨d2,hd2⟩:∃d,d=b-m:=⟨_,rfl⟩
 have w2:IntKind.i64.wrap ((b:Int)-(m:Int))=(d2:Int):=(by rw[wraps_i64 _ (by omega) (by omega)];omega)
 have k2:((d2:Int) == 1)=false:=(by simp;omega)
 obtain⟨mid,hmid⟩:∃mid,mid=(a+b)/2:=⟨_,rfl⟩
 have emid:((a:Int)+(b:Int))/2=(mid:Int):=(by omega)
 have m1:a+b≤2*mid+1:=(by omega)
 have m2:2*mid≤a+b:=(by omega)
 obtain⟨N,hN⟩:∃N,N=mid+m:=⟨_,rfl⟩
 have eN:IntKind.i64.wrap ((mid:Int)+(m:Int))=(N:Int):=(by rw[wraps_i64 _ (by omega) (by omega)];omega)
 obtain⟨p,hp⟩:∃p,p=N-1:=⟨_,rfl⟩
 have ep:IntKind.i64.wrap ((N:Int)-1)=(p:Int):=(by rw[wraps_i64 _ (by omega) (by omega)];omega)
 have HN:Hid (N=mid+m):=hN;have HP:Hid (p=N-1):=hp;obtain⟨lo,hi,hcase⟩:∃lo hi:Nat,(mid<m∧lo+b=N∧hi=mid)∨(m≤mid∧lo=a∧hi=m):=by
  by_cases q:mid<m
  ·exact⟨N-b,mid,Or.inl ⟨q,by omega,rfl⟩⟩
  ·exact⟨a,m,Or.inr ⟨by omega,rfl,rfl⟩⟩
 have HCASE:Hid ((mid<m∧lo+b=N∧hi=mid)∨(m≤mid∧lo=a∧hi=m)):=hcase;have HR:Hid (a≤lo∧lo≤hi∧hi≤m∧hi≤mid∧N≤lo+b∧∀c,lo≤c→c<hi→a≤c∧c<m∧m≤p-c∧p-c<b∧c≤p):=by
  rcases hcase with⟨q1,q2,q3⟩ | ⟨q1,q2,q3⟩
  ·exact⟨by omega,by omega,by omega,by omega,by omega,fun c c1 c2=>⟨by omega,by omega,by omega,by omega,by omega⟩⟩
  ·exact⟨by omega,by omega,by omega,by omega,by omega,fun c c1 c2=>⟨by omega,by omega,by omega,by omega,by omega⟩⟩
 have m3:mid<b:=(by omega)
 have m4:a<mid:=(by omega)
 clear hA hs1 hs2 ih hd1 hd2 hmid hN hp hcase;go_enter Tryz.func162,Tryz.ntmps162;go_upto_if 140 with fail
 go_cut [20,21] (fun s20 s21 wx=>s20=.int .i64 lo∧s21=.int .i64 hi∧Hid (wx.heap[g]?=some (.cells (rowE sp n f) 153)∧But g w wx))
 case first =>
  as_aux_lemma =>
   rcases HCASE.out with⟨q1,q2,q3⟩ | ⟨q1,q2,q3⟩
   ·have q1':(mid:Int)<(m:Int):=(by omega)
    have hNN:=HN.out;have el:IntKind.i64.wrap ((N:Int)-(b:Int))=(lo:Int):=(by rw[wraps_i64 _ (by omega) (by omega)];omega)
    have HI:Hid (hi=mid):=q3;clear q2 q3 HCASE HR HN HP hNN;(go_wp2_with fail);go_meet
    exact⟨rfl,by rw[HI.out],HA.out,But.refl _ _⟩
   ·have q1':¬(mid:Int)<(m:Int):=(by omega)
    have q1b:decide ((mid:Int)<(m:Int))=false:=decide_eq_false q1';have HI:Hid (hi=m):=q3;have HL:Hid (lo=a):=q2;clear q2 q3 HCASE HR HN HP;(go_wp2_with fail);go_meet
    exact⟨by rw[HL.out],by rw[HI.out],HA.out,But.refl _ _⟩
 case rest =>
 obtain⟨rfl,rfl,HX0⟩:=hcut;clear HA;(go_wp2_with fail);go_loopw [20,21] (fun x y wr=>∃i j:Nat,lo≤i∧i≤j∧j≤hi∧x=.int .i64 i∧y=.int .i64 j∧Hid ((∀c,lo≤c→c<i→¬Ec.lt (f (p-c)) (f c))∧∀c,j≤c→c<hi→Ec.lt (f (p-c)) (f c))∧Hid (wr.heap[g]?=some (.cells (rowE sp n f) 153)∧But g w wr)) (fun x y _=>(intOf y-intOf x).toNat)
 case atStart=>exact⟨lo,hi,by omega,HR.out.2.1,by omega,rfl,rfl,⟨fun q q1 q2=>by omega,fun q q1 q2=>by omega⟩,HX0.out⟩
 case round =>
  obtain⟨i,j,li,lij,uj,rfl,rfl,hQ,hX⟩:=hrel;clear HX0;by_cases hlt:i<j
  ·as_aux_lemma =>
    obtain⟨h,hh⟩:∃h,h=(i+j)/2:=⟨_,rfl⟩
    have eh:((i:Int)+(j:Int))/2=(h:Int):=(by omega)
    have l1:i≤h:=(by omega)
    have l2:h<j:=(by omega)
    clear hh;obtain⟨r1,r2,r3,r4,r5⟩:=HR.out.2.2.2.2.2 h (by omega) (by omega);obtain⟨q,hq⟩:∃q,q=p-h:=⟨_,rfl⟩
    have wq:IntKind.i64.wrap ((p:Int)-(h:Int))=(q:Int):=(by rw[wraps_i64 _ (by omega) (by have:=HP.out;have:=HN.out;omega)];omega)
    have hlt2:(i:Int)<(j:Int):=(by omega)
    have iq:(0:Int)≤(q:Int):=(by omega)
    have ih:(0:Int)≤(h:Int):=(by omega)
    have nq':(q:Int)<(n:Int):=(by omega)
    have nh:(h:Int)<(n:Int):=(by omega)
    have HCC:Hid (∀W,Bl wr W→_):=two_cells hX.out.1 (show q<n by omega) (show h<n by omega);have HLO:Hid (∀W,Bl wr W→W.heap[g]?=some (.cells (rowE sp n f) 153)∧But g w W):=row_stay hX.out.1 hX.out.2;have HW0:Hid (Bl wr wr):=Below.refl _ _;have HCM:Hid (∀W,Bl wr W→Calls Tryz.prog 72 #[.agg #[.int .i64 (f q).port,.int .i64 (f q).cost,.int .i64 (f q).other,.int .i64 (f q).oport,.bool (f q).live],.agg #[.int .i64 (f h).port,.int .i64 (f h).cost,.int .i64 (f h).other,.int .i64 (f h).oport,.bool (f h).live]] W fun e w'=>e=.returned (.int .i64 (Ec.cmp (f q) (f h)))∧Hid (Bl wr w')):=fun W hW=>cmp_say (f q) (f h) wr W hW;have HYES:Hid (Ec.cmp (f q) (f h)<0→(∀c,lo≤c→c<i→¬Ec.lt (f (p-c)) (f c))∧∀c,h≤c→c<hi→Ec.lt (f (p-c)) (f c)):=fun c=>by
     have c':=Ec.cmp_lt.1 c;refine⟨hQ.out.1,fun x q1 q2 => ?_⟩;by_cases e:x=h
     ·subst e;rw[←hq];exact c'
     ·obtain⟨t1,t2,t3,t4,t5⟩:=HR.out.2.2.2.2.2 x (by omega) q2;refine lt_of_lt_le (lt_of_le_lt (HS2.out (p-x) q t3 (by omega) (by omega)) c') (HS1.out h x r1 (by omega) t2)
    have HNO:Hid (¬Ec.cmp (f q) (f h)<0→(∀c,lo≤c→c<h+1→¬Ec.lt (f (p-c)) (f c))∧∀c,j≤c→c<hi→Ec.lt (f (p-c)) (f c)):=fun c=>by
     have c':¬Ec.lt (f q) (f h):=fun z=>c (Ec.cmp_lt.2 z);refine⟨fun x q1 q2 => ?_,hQ.out.2⟩;by_cases e:x=h
     ·subst e;rw[←hq];exact c'
     ·obtain⟨t1,t2,t3,t4,t5⟩:=HR.out.2.2.2.2.2 x q1 (by omega);exact Ec.not_lt_trans (HS1.out x h t1 (by omega) r2) (Ec.not_lt_trans c' (HS2.out q (p-x) (by omega) (by omega) t4))
    obtain⟨⟨c0,c1,c2,c3,c4⟩,d0,d1',d2',d3,d4⟩:=HCC.out wr HW0.out;obtain⟨CV,hCV⟩:∃CV,Ec.cmp (f q) (f h)=CV:=⟨_,rfl⟩
    rw[hCV] at HCM HYES HNO;clear hCV hQ hX hq r1 r2 r3 r4 r5;obtain⟨x,hx⟩:∃x,f q=x:=⟨_,rfl⟩
    obtain⟨y,hy⟩:∃y,f h=y:=⟨_,rfl⟩
    rw[hx,hy] at HCC HCM;rw[hx] at c0 c1 c2 c3 c4;rw[hy] at d0 d1' d2' d3 d4;clear hx hy;by_cases hc:CV<0
    ·have HQ2:=HYES.out (by omega);have hc2:decide (CV<0)=true:=decide_eq_true hc;clear HYES HNO;(go_wp2_with fail);go_region_held3 (fun W=>(W.cell? ⟨g,q*5,none⟩=some (.int .i64 x.port)∧W.cell? ⟨g,q*5+1,none⟩=some (.int .i64 x.cost)∧W.cell? ⟨g,q*5+2,none⟩=some (.int .i64 x.other)∧W.cell? ⟨g,q*5+3,none⟩=some (.int .i64 x.oport)∧W.cell? ⟨g,q*5+4,none⟩=some (.bool x.live))∧W.cell? ⟨g,h*5,none⟩=some (.int .i64 y.port)∧W.cell? ⟨g,h*5+1,none⟩=some (.int .i64 y.cost)∧W.cell? ⟨g,h*5+2,none⟩=some (.int .i64 y.other)∧W.cell? ⟨g,h*5+3,none⟩=some (.int .i64 y.oport)∧W.cell? ⟨g,h*5+4,none⟩=some (.bool y.live))
      (first | (exact HCC.out _ (Below.drew HW0.out)) | (exact HCC.out _ (Hid.out (by assumption))))
      (first | (go_at_call 72;refine(HCM.out _ (Below.drew HW0.out)).mono ?_;rintro e w3 ⟨rfl,HB3⟩))
     clear c0 c1 c2 c3 c4 d0 d1' d2' d3 d4;have HX2:Hid _:=HLO.out w3 HB3.out;clear HLO HCC HCM HW0 HB3;(go_wp2_with fail);exact⟨⟨i,h,li,l1,by omega,rfl,rfl,HQ2,HX2⟩,by simp[intOf];omega⟩
    ·have HQ2:=HNO.out (by omega);have hc2:decide (CV<0)=false:=decide_eq_false hc;clear HYES HNO;(go_wp2_with fail);go_region_held3 (fun W=>(W.cell? ⟨g,q*5,none⟩=some (.int .i64 x.port)∧W.cell? ⟨g,q*5+1,none⟩=some (.int .i64 x.cost)∧W.cell? ⟨g,q*5+2,none⟩=some (.int .i64 x.other)∧W.cell? ⟨g,q*5+3,none⟩=some (.int .i64 x.oport)∧W.cell? ⟨g,q*5+4,none⟩=some (.bool x.live))∧W.cell? ⟨g,h*5,none⟩=some (.int .i64 y.port)∧W.cell? ⟨g,h*5+1,none⟩=some (.int .i64 y.cost)∧W.cell? ⟨g,h*5+2,none⟩=some (.int .i64 y.other)∧W.cell? ⟨g,h*5+3,none⟩=some (.int .i64 y.oport)∧W.cell? ⟨g,h*5+4,none⟩=some (.bool y.live))
      (first | (exact HCC.out _ (Below.drew HW0.out)) | (exact HCC.out _ (Hid.out (by assumption))))
      (first | (go_at_call 72;refine(HCM.out _ (Below.drew HW0.out)).mono ?_;rintro e w3 ⟨rfl,HB3⟩))
     clear c0 c1 c2 c3 c4 d0 d1' d2' d3 d4;have HX2:Hid _:=HLO.out w3 HB3.out;clear HLO HCC HCM HW0 HB3;(go_wp2_with fail);exact⟨⟨h+1,j,by omega,by omega,uj,by go_num,rfl,HQ2,HX2⟩,by simp[intOf];omega⟩
  ·obtain rfl:i=j:=by omega
   obtain⟨z1,z2,z3,z4,z5,_⟩:=HR.out;have hNN:=HN.out;have hPP:=HP.out;obtain⟨e,he⟩:∃e,e=N-i:=⟨_,rfl⟩
   have we:IntKind.i64.wrap ((N:Int)-(i:Int))=(e:Int):=(by rw[wraps_i64 _ (by omega) (by omega)];omega)
   have y1:a≤i:=(by omega)
   have y2:i≤m:=(by omega)
   have y3:m≤e:=(by omega)
   have y4:e≤b:=(by omega)
   have y5:mid=i+(e-m):=(by omega)
   have y6:i≤mid:=(by omega)
   have y7:mid≤e:=(by omega)
   have HPT:Hid _:=Ec.rot_parts a i m e b f y1 y2 y3 y4 HS1.out HS2.out
    (fun q1 q2=>by
     by_cases c:lo<i
     ·have:=hQ.out.1 (i-1) (by omega) (by omega);rw[show p-(i-1)=e by omega] at this;exact this
     ·rcases HCASE.out with⟨t1,t2,t3⟩ | ⟨t1,t2,t3⟩
      ·omega
      ·omega)
    (fun q1 q2=>by
     by_cases c:i<hi
     ·have:=hQ.out.2 i (by omega) c;rw[show p-i=e-1 by omega] at this;exact this
     ·rcases HCASE.out with⟨t1,t2,t3⟩ | ⟨t1,t2,t3⟩
      ·omega
      ·omega)
   rw[←y5] at HPT;clear y5;have HX:Hid (wr.heap[g]?=some (.cells (rowE sp n f) 153)∧But g w wr):=hX;have HROT:Hid (i<m→m<e→Calls Tryz.prog 199 #[.slice (some ⟨g,0,none⟩) n cap,.int .i64 i,.int .i64 m,.int .i64 e,.func (.func 72) #[] #[]] wr fun x w'=>x=.returned (.tuple #[])∧w'.heap[g]?=some (.cells (rowE sp n (Ec.rot i m e f)) 153)∧Ec.Pm i e f (Ec.rot i m e f)∧But g wr w'):=fun q1 q2=>srotate_any sp g n cap i m e f _ wr HX.out.1 hn q1 q2 (by omega);have HNR:Hid (¬(i<m∧m<e)→Ec.rot i m e f=f):=fun q=>by
    by_cases c:i=m
    ·subst c;exact Ec.rot_none1 i e f y3
    ·have:e=m:=by omega
     subst this;exact Ec.rot_none2 i e f
   clear hQ hX he hNN hPP z1 z2 z3 z4 z5 HR HCASE HN HP HS1 HS2 li uj hlt;generalize Ec.rot i m e f=G0 at *;(go_upto_region 39 with fail);go_cut [185] (fun v wx=>v=.bool (decide (i<m∧m<e))∧Hid (wx.heap[g]?=some (.cells (rowE sp n f) 153)∧wx=wr))
   case first =>
    as_aux_lemma =>
     by_cases q1:i<m
     ·have q1':(i:Int)<(m:Int):=(by omega)
      by_cases q2:m<e
      ·have q2':(m:Int)<(e:Int):=(by omega)
       have HD:Hid (decide (i<m∧m<e)=true):=decide_eq_true ⟨q1,q2⟩;(go_wp2_with fail);go_meet
       exact⟨by rw[HD.out],HX.out.1,rfl⟩
      ·have q2':decide ((m:Int)<(e:Int))=false:=decide_eq_false (by omega);have HD:Hid (decide (i<m∧m<e)=false):=decide_eq_false (fun q=>q2 q.2);(go_wp2_with fail);go_meet
       exact⟨by rw[HD.out],HX.out.1,rfl⟩
     ·have q1':decide ((i:Int)<(m:Int))=false:=decide_eq_false (by omega);have HD:Hid (decide (i<m∧m<e)=false):=decide_eq_false (fun q=>q1 q.1);(go_wp2_with fail);go_meet
      exact⟨by rw[HD.out],HX.out.1,rfl⟩
   case rest =>
   obtain⟨rfl,HXC⟩:=hcut;go_upto_if 185 with fail
   go_cut [191] (fun _ wx=>Hid (wx.heap[g]?=some (.cells (rowE sp n G0) 153)∧Ec.Pm a b f G0∧But g w wx))
   case first =>
    as_aux_lemma =>
     have hw:=HXC.out.2;clear HXC;subst hw;by_cases q:i<m∧m<e
     ·have dq:decide (i<m∧m<e)=true:=decide_eq_true q;have HC:=HROT.out q.1 q.2;clear HROT HNR HIH;rw[dq];(go_wp2_with fail);refine HC.mono ?_;rintro x w5 ⟨rfl,k1,k2,k3⟩;have HF:Hid (w5.heap[g]?=some (.cells (rowE sp n G0) 153)∧Ec.Pm a b f G0∧But g w w5):=⟨k1,k2.mono y1 y4,HX.out.2.trans k3⟩
      clear k1 k2 k3;(go_wp2_with fail);go_meet
      exact HF
     ·have dq:decide (i<m∧m<e)=false:=decide_eq_false q;have HF:Hid (wc.heap[g]?=some (.cells (rowE sp n G0) 153)∧Ec.Pm a b f G0∧But g w wc):=by
       have hq:=HNR.out q;rw[hq];exact⟨HX.out.1,Ec.Pm.refl,HX.out.2⟩
      clear HROT HNR HIH;rw[dq];(go_wp2_with fail);go_meet
      exact HF
   case rest =>
   have HX1:Hid (wc.heap[g]?=some (.cells (rowE sp n G0) 153)∧Ec.Pm a b f G0∧But g w wc):=hcut;have HPM0:Hid (Ec.Pm a b f G0):=HX1.out.2.1;clear hcut HROT HNR HX HXC;(go_upto_region 41 with fail);go_cut [199] (fun v wx=>v=.bool (decide (a<i∧i<mid))∧Hid (wx.heap[g]?=some (.cells (rowE sp n G0) 153)∧But g w wx))
   case first =>
    as_aux_lemma =>
     have HX2:Hid (wc.heap[g]?=some (.cells (rowE sp n G0) 153)∧But g w wc):=⟨HX1.out.1,HX1.out.2.2⟩
     clear HX1 HIH HPT;by_cases q1:a<i
     ·have q1':(a:Int)<(i:Int):=(by omega)
      by_cases q2:i<mid
      ·have q2':(i:Int)<(mid:Int):=(by omega)
       have HD:Hid (decide (a<i∧i<mid)=true):=decide_eq_true ⟨q1,q2⟩;(go_wp2_with fail);go_meet
       exact⟨by rw[HD.out],HX2⟩
      ·have q2':decide ((i:Int)<(mid:Int))=false:=decide_eq_false (by omega);have HD:Hid (decide (a<i∧i<mid)=false):=decide_eq_false (fun q=>q2 q.2);(go_wp2_with fail);go_meet
       exact⟨by rw[HD.out],HX2⟩
     ·have q1':decide ((a:Int)<(i:Int))=false:=decide_eq_false (by omega);have HD:Hid (decide (a<i∧i<mid)=false):=decide_eq_false (fun q=>q1 q.1);(go_wp2_with fail);go_meet
      exact⟨by rw[HD.out],HX2⟩
   case rest =>
   clear HX1;obtain⟨rfl,HX1⟩:=hcut;go_upto_if 199 with fail
   go_cut [205] (fun _ wx=>Hid (∃G1,wx.heap[g]?=some (.cells (rowE sp n G1) 153)∧Ec.Pm a mid G0 G1∧Ec.SIn a mid G1∧But g w wx))
   case first =>
    as_aux_lemma =>
     by_cases q:a<i∧i<mid
     ·have dq:decide (a<i∧i<mid)=true:=decide_eq_true q;have HC:=HIH.out a i mid G0 _ (by omega) HX1.out.1 q.1 q.2 (by omega) HPT.out.1 HPT.out.2.1;clear HIH HPT;rw[dq];(go_wp2_with fail);refine HC.mono ?_;rintro x w5 ⟨rfl,G1,k1,k2,k3,k4⟩;have HF:Hid (∃G1,w5.heap[g]?=some (.cells (rowE sp n G1) 153)∧Ec.Pm a mid G0 G1∧Ec.SIn a mid G1∧But g w w5):=⟨G1,k1,k2,k3,HX1.out.2.trans k4⟩
      clear k1 k2 k3 k4;(go_wp2_with fail);go_meet
      exact HF
     ·have dq:decide (a<i∧i<mid)=false:=decide_eq_false q;have HF:Hid (∃G1,wc.heap[g]?=some (.cells (rowE sp n G1) 153)∧Ec.Pm a mid G0 G1∧Ec.SIn a mid G1∧But g w wc):=⟨G0,HX1.out.1,Ec.Pm.refl,by
       by_cases c:a=i
       ·rw[c];exact HPT.out.2.1
       ·rw[show mid=i by omega];exact HPT.out.1,HX1.out.2⟩
      clear HIH HPT;rw[dq];(go_wp2_with fail);go_meet
      exact HF
   case rest =>
   clear HX1;obtain⟨G1,k1,k2,k3,k4⟩:=hcut.out;have HX1:Hid (wc.heap[g]?=some (.cells (rowE sp n G1) 153)∧But g w wc):=⟨k1,k4⟩
   have HP1:Hid (Ec.Pm a mid G0 G1∧Ec.SIn a mid G1):=⟨k2,k3⟩
   have HS3:Hid (Ec.SIn mid e G1∧Ec.SIn e b G1):=⟨HPT.out.2.2.1.congr (fun x q1 _=>k2.out x (by omega)),HPT.out.2.2.2.1.congr (fun x q1 _=>k2.out x (by omega))⟩
   have HCR:Hid (∀G2,Ec.Pm mid b G1 G2→Ec.SIn mid b G2→Ec.Pm a b f G2∧Ec.SIn a b G2):=fun G2 t1 t2=>⟨(HPM0.out.trans (HP1.out.1.mono (Nat.le_refl _) (by omega))).trans (t1.mono (by omega) (Nat.le_refl _)),Ec.halves a mid b G0 G1 G2 HP1.out.1 t1 HP1.out.2 t2 HPT.out.2.2.2.2⟩
   clear hcut k1 k2 k3 k4 HPT HPM0 HP1;(go_upto_region 43 with fail);go_cut [213] (fun v wx=>v=.bool (decide (mid<e∧e<b))∧Hid (wx.heap[g]?=some (.cells (rowE sp n G1) 153)∧But g w wx))
   case first =>
    as_aux_lemma =>
     clear HIH HCR HS3;by_cases q1:mid<e
     ·have q1':(mid:Int)<(e:Int):=(by omega)
      by_cases q2:e<b
      ·have q2':(e:Int)<(b:Int):=(by omega)
       have HD:Hid (decide (mid<e∧e<b)=true):=decide_eq_true ⟨q1,q2⟩;(go_wp2_with fail);go_meet
       exact⟨by rw[HD.out],HX1⟩
      ·have q2':decide ((e:Int)<(b:Int))=false:=decide_eq_false (by omega);have HD:Hid (decide (mid<e∧e<b)=false):=decide_eq_false (fun q=>q2 q.2);(go_wp2_with fail);go_meet
       exact⟨by rw[HD.out],HX1⟩
     ·have q1':decide ((mid:Int)<(e:Int))=false:=decide_eq_false (by omega);have HD:Hid (decide (mid<e∧e<b)=false):=decide_eq_false (fun q=>q1 q.1);(go_wp2_with fail);go_meet
      exact⟨by rw[HD.out],HX1⟩
   case rest =>
   clear HX1;obtain⟨rfl,HX1⟩:=hcut;by_cases q:mid<e∧e<b
   ·as_aux_lemma =>
     have dq:decide (mid<e∧e<b)=true:=decide_eq_true q;have HC:=HIH.out mid e b G1 _ (by omega) HX1.out.1 q.1 q.2 (by omega) HS3.out.1 HS3.out.2;clear HIH;rw[dq];(go_wp2_with fail);refine HC.mono ?_;rintro x w5 ⟨rfl,G2,k1,k2,k3,k4⟩;have HF:Hid (MergeOut sp g n a b f w (.returned (.tuple #[])) w5):=⟨rfl,G2,k1,(HCR.out G2 k2 k3).1,(HCR.out G2 k2 k3).2,HX1.out.2.trans k4⟩
     clear k1 k2 k3 k4;(go_wp2_with fail);exact bodyPost_end (results_none Tryz.results162 _ _ _) rfl HF.out
   ·as_aux_lemma =>
     have dq:decide (mid<e∧e<b)=false:=decide_eq_false q;have HT:Hid (Ec.Pm a b f G1∧Ec.SIn a b G1):=HCR.out G1 Ec.Pm.refl (by
      by_cases c:mid=e
      ·rw[c];exact HS3.out.2
      ·have hE:e=b:=(by omega)
       rw[←hE];exact HS3.out.1)
     clear HIH HCR;rw[dq];(go_wp2_with fail);exact bodyPost_end (results_none Tryz.results162 _ _ _) rfl ⟨rfl,G1,HX1.out.1,HT.out.1,HT.out.2,HX1.out.2⟩
theorem smerge_any (sp:Array Value) (g n cap:Nat) (hn:n≤4398046511104):∀(d a m b:Nat) (f:Nat→En) (w:World),b-a≤d→w.heap[g]?=some (.cells (rowE sp n f) 153)→a<m→m<b→b≤n→Ec.SIn a m f→Ec.SIn m b f →
  Calls Tryz.prog 162 #[.slice (some ⟨g,0,none⟩) n cap,.int .i64 a,.int .i64 m,.int .i64 b,.func (.func 72) #[] #[]] w (MergeOut sp g n a b f w):=by
 intro d;induction d with
 | zero=>intro a m b f w hd _ h1 h2;omega
 | succ d ih =>
  intro a m b f w hd hA h1 h2 h3 s1 s2;by_cases c1:m=a+1
  ·exact smergeA sp g n cap a m b f w hA hn c1 h2 h3 s2
  ·by_cases c2:b=m+1
   ·exact smergeB sp g n cap a m b f w hA hn c2 (by omega) h3 s1
   ·exact smergeG sp g n cap a m b f w hA hn (by omega) (by omega) h3 s1 s2 (fun a' m' b' F W q1 q2 q3 q4 q5 q6 q7=>ih a' m' b' F W (by omega) q2 q3 q4 q5 q6 q7)
end Es
end
section
namespace Ec
open Pl (En)
def Blks (bs n:Nat) (G:Nat→En):Prop:=∀q,SIn (q*bs) (min ((q+1)*bs) n) G
def Half (bs n t:Nat) (G:Nat→En):Prop:=(∀q,q<t→SIn (q*(2*bs)) ((q+1)*(2*bs)) G)∧∀q,2*t≤q→SIn (q*bs) (min ((q+1)*bs) n) G
theorem mul_up {q t bs:Nat}(h:q<t):(q+1)*bs≤t*bs:=Nat.mul_le_mul_right bs h
theorem first_step {t A:Nat}{G H:Nat→En}(hA:A=t*20) (h:∀q,q<t→SIn (q*20) ((q+1)*20) G) (p:Pm A (A+20) G H) (s:SIn A (A+20) H):∀q,q<t+1→SIn (q*20) ((q+1)*20) H:=by
 intro q hq;by_cases e:q=t
 ·subst e;rw[Nat.add_mul,←hA];exact s
 ·exact(h q (by omega)).congr (fun x h1 h2=>p.out x (by omega))
theorem first_done {t A n:Nat}{G H:Nat→En}(hA:A=t*20) (hn:n<A+20) (h:∀q,q<t→SIn (q*20) ((q+1)*20) G) (p:Pm A n G H) (s:SIn A n H):Blks 20 n H:=by
 intro q;by_cases e:q=t
 ·subst e;rw[←hA];exact s.sub (Nat.le_refl _) (by omega)
 ·by_cases c:q<t
  ·exact((h q c).congr (fun x h1 h2=>p.out x (by omega))).sub (Nat.le_refl _) (by omega)
  ·exact SIn.short _ (by omega)
theorem half_start {bs n:Nat}{G:Nat→En}(h:Blks bs n G):Half bs n 0 G:=⟨fun q hq=>by omega,fun q _=>h q⟩
theorem half_parts {bs n t A:Nat}{G:Nat→En}(h:Half bs n t G) (hA:A=t*(2*bs)):SIn A (min (A+bs) n) G∧SIn (A+bs) (min (A+2*bs) n) G:=by
 have e:2*t*bs=A:=(by rw[hA,Nat.mul_comm 2 t,Nat.mul_assoc])
 have h1:=h.2 (2*t) (Nat.le_refl _);have h2:=h.2 (2*t+1) (by omega);rw[Nat.add_mul,Nat.one_mul,e] at h1;rw[Nat.add_mul (2*t+1) 1 bs,Nat.add_mul (2*t) 1 bs,Nat.one_mul,e] at h2;exact⟨h1,by rw[show A+2*bs=A+bs+bs by omega];exact h2⟩
theorem half_step {bs n t A:Nat}{G H:Nat→En}(h:Half bs n t G) (hA:A=t*(2*bs)) (p:Pm A (A+2*bs) G H) (s:SIn A (A+2*bs) H):Half bs n (t+1) H:=by
 refine⟨fun q hq => ?_,fun q hq => ?_⟩
 ·by_cases e:q=t
  ·subst e;rw[Nat.add_mul,Nat.one_mul,←hA];exact s
  ·have hm:(q+1)*(2*bs)≤A:=(by rw[hA];exact mul_up (by omega))
   exact(h.1 q (by omega)).congr (fun x h1 h2=>p.out x (by omega))
 ·have hm:A+2*bs≤q*bs:=by
   have:(2*(t+1))*bs≤q*bs:=Nat.mul_le_mul_right bs hq;rw[Nat.mul_comm 2 (t+1),Nat.mul_assoc,Nat.add_mul,Nat.one_mul,←hA] at this;exact this
  exact(h.2 q (by omega)).congr (fun x h1 h2=>p.out x (by omega))
theorem half_done {bs n t A:Nat}{G H:Nat→En}(h:Half bs n t G) (hA:A=t*(2*bs)) (hn:n<A+2*bs) (p:Pm A n G H) (s:SIn A n H):Blks (2*bs) n H:=by
 intro q;by_cases e:q=t
 ·subst e;rw[←hA];exact s.sub (Nat.le_refl _) (by omega)
 ·by_cases c:q<t
  ·have hm:(q+1)*(2*bs)≤A:=(by rw[hA];exact mul_up c)
   exact((h.1 q c).congr (fun x h1 h2=>p.out x (by omega))).sub (Nat.le_refl _) (by omega)
  ·have hm:A+2*bs≤q*(2*bs):=by
    have:=mul_up (bs:=2*bs) (show t<q by omega);rw[Nat.add_mul,Nat.one_mul,←hA] at this;exact this
   exact SIn.short _ (by omega)
theorem blks_all {bs n:Nat}{G:Nat→En}(h:Blks bs n G) (hb:n≤bs):SIn 0 n G:=by
 have:=h 0;rw[Nat.zero_mul,Nat.zero_add,Nat.one_mul] at this;exact this.sub (Nat.le_refl _) (by omega)
end Ec
end
end Go.Proofs.YtflghpnpjmodaaaGreatDoor
