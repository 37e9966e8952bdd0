/- The ends of links at a bridge, as ports rise; what is known of a right net's -/
import Derived.Test.YtaneiffnhphkhaaGreatDoorD06
import Derived.Test.YtaneiffnhphkhaaGreatDoorD05
import Derived.Test.YtaneiffnhphkhaaGreatDoorD01
set_option maxRecDepth 100000
set_option maxHeartbeats 40000000
namespace Go.Proofs.YtaneiffnhphkhaaGreatDoor
section
open Go.RowKit
open Pl (En)
namespace Es
def MergeOut (sp:Array Value) (g n a b:Nat) (f:Nat→En) (w:World) (x:Ending) (w':World):Prop :=
 x=.returned (.tuple #[])∧∃G,w'.heap[g]?=some (.cells (rowE sp n G) 135)∧Ec.Pm a b f G∧Ec.SIn a b G∧But g w w'
theorem smergeG (sp:Array Value) (g n cap a m b:Nat) (f:Nat→En) (w:World) (hA:w.heap[g]?=some (.cells (rowE sp n f) 135)) (hn:n≤4398046511104) (h0:a+1<m) (h1:m+1<b) (h2:b≤n) (hs1:Ec.SIn a m f) (hs2:Ec.SIn m b f)
  (ih:∀(a' m' b':Nat) (F:Nat→En) (W:World),b'-a'<b-a→W.heap[g]?=some (.cells (rowE sp n F) 135)→a'<m'→m'<b'→b'≤n→Ec.SIn a' m' F→Ec.SIn m' b' F→Calls Tryz.prog 141 #[.slice (some ⟨g,0,none⟩) n cap,.int .i64 a',.int .i64 m',.int .i64 b',.func (.func 77) #[] #[]] W (MergeOut sp g n a' b' F W)) :
  Calls Tryz.prog 141 #[.slice (some ⟨g,0,none⟩) n cap,.int .i64 a,.int .i64 m,.int .i64 b,.func (.func 77) #[] #[]] w (MergeOut sp g n a b f w):=by
 have HA:Hid (w.heap[g]?=some (.cells (rowE sp n f) 135)):=hA;have HS1:Hid (Ec.SIn a m f):=hs1;have HS2:Hid (Ec.SIn m b f):=hs2;have HIH:Hid (∀(a' m' b':Nat) (F:Nat→En) (W:World),b'-a'<b-a→W.heap[g]?=some (.cells (rowE sp n F) 135)→a'<m'→m'<b'→b'≤n→Ec.SIn a' m' F→Ec.SIn m' b' F→Calls Tryz.prog 141 #[.slice (some ⟨g,0,none⟩) n cap,.int .i64 a',.int .i64 m',.int .i64 b',.func (.func 77) #[] #[]] W (MergeOut sp g n a' b' F W)):=ih;obtain⟨d1,hd1⟩:∃d,d=m-a:=⟨_,rfl⟩
 have w1:IntKind.i64.wrap ((m:Int)-(a:Int))=(d1:Int):=(by rw[wraps_i64 _ (by omega) (by omega)];omega)
 have k1:((d1:Int) == 1)=false:=(by simp;omega)
 obtain⟨d2,hd2⟩:∃d,d=b-m:=⟨_,rfl⟩
 have w2:IntKind.i64.wrap ((b:Int)-(m:Int))=(d2:Int):=(by rw[wraps_i64 _ (by omega) (by omega)];omega)
 have k2:((d2:Int) == 1)=false:=(by simp;omega)
 obtain⟨mid,hmid⟩:∃mid,mid=(a+b)/2:=⟨_,rfl⟩
 have emid:((a:Int)+(b:Int))/2=(mid:Int):=(by omega)
 have m1:a+b≤2*mid+1:=(by omega)
 have m2:2*mid≤a+b:=(by omega)
 obtain⟨N,hN⟩:∃N,N=mid+m:=⟨_,rfl⟩
 have eN:IntKind.i64.wrap ((mid:Int)+(m:Int))=(N:Int):=(by rw[wraps_i64 _ (by omega) (by omega)];omega)
 obtain⟨p,hp⟩:∃p,p=N-1:=⟨_,rfl⟩
 have ep:IntKind.i64.wrap ((N:Int)-1)=(p:Int):=(by rw[wraps_i64 _ (by omega) (by omega)];omega)
 have HN:Hid (N=mid+m):=hN;have HP:Hid (p=N-1):=hp;obtain⟨lo,hi,hcase⟩:∃lo hi:Nat,(mid<m∧lo+b=N∧hi=mid)∨(m≤mid∧lo=a∧hi=m):=by
  by_cases q:mid<m
  ·exact⟨N-b,mid,Or.inl ⟨q,by omega,rfl⟩⟩
  ·exact⟨a,m,Or.inr ⟨by omega,rfl,rfl⟩⟩
 have HCASE:Hid ((mid<m∧lo+b=N∧hi=mid)∨(m≤mid∧lo=a∧hi=m)):=hcase;have HR:Hid (a≤lo∧lo≤hi∧hi≤m∧hi≤mid∧N≤lo+b∧∀c,lo≤c→c<hi→a≤c∧c<m∧m≤p-c∧p-c<b∧c≤p):=by
  rcases hcase with⟨q1,q2,q3⟩ | ⟨q1,q2,q3⟩
  ·exact⟨by omega,by omega,by omega,by omega,by omega,fun c c1 c2=>⟨by omega,by omega,by omega,by omega,by omega⟩⟩
  ·exact⟨by omega,by omega,by omega,by omega,by omega,fun c c1 c2=>⟨by omega,by omega,by omega,by omega,by omega⟩⟩
 have m3:mid<b:=(by omega)
 have m4:a<mid:=(by omega)
 clear hA hs1 hs2 ih hd1 hd2 hmid hN hp hcase;go_enter Tryz.func141,Tryz.ntmps141;go_upto_if 140 with fail
 go_cut [20,21] (fun s20 s21 wx=>s20=.int .i64 lo∧s21=.int .i64 hi∧Hid (wx.heap[g]?=some (.cells (rowE sp n f) 135)∧But g w wx))
 case first =>
  as_aux_lemma =>
   rcases HCASE.out with⟨q1,q2,q3⟩ | ⟨q1,q2,q3⟩
   ·have q1':(mid:Int)<(m:Int):=(by omega)
    have hNN:=HN.out;have el:IntKind.i64.wrap ((N:Int)-(b:Int))=(lo:Int):=(by rw[wraps_i64 _ (by omega) (by omega)];omega)
    have HI:Hid (hi=mid):=q3;clear q2 q3 HCASE HR HN HP hNN;(go_wp2_with fail);go_meet
    exact⟨rfl,by rw[HI.out],HA.out,But.refl _ _⟩
   ·have q1':¬(mid:Int)<(m:Int):=(by omega)
    have q1b:decide ((mid:Int)<(m:Int))=false:=decide_eq_false q1';have HI:Hid (hi=m):=q3;have HL:Hid (lo=a):=q2;clear q2 q3 HCASE HR HN HP;(go_wp2_with fail);go_meet
    exact⟨by rw[HL.out],by rw[HI.out],HA.out,But.refl _ _⟩
 case rest =>
 obtain⟨rfl,rfl,HX0⟩:=hcut;clear HA;(go_wp2_with fail);go_loopw [20,21] (fun x y wr=>∃i j:Nat,lo≤i∧i≤j∧j≤hi∧x=.int .i64 i∧y=.int .i64 j∧Hid ((∀c,lo≤c→c<i→¬Ec.lt (f (p-c)) (f c))∧∀c,j≤c→c<hi→Ec.lt (f (p-c)) (f c))∧Hid (wr.heap[g]?=some (.cells (rowE sp n f) 135)∧But g w wr)) (fun x y _=>(intOf y-intOf x).toNat)
 case atStart=>exact⟨lo,hi,by omega,HR.out.2.1,by omega,rfl,rfl,⟨fun q q1 q2=>by omega,fun q q1 q2=>by omega⟩,HX0.out⟩
 case round =>
  obtain⟨i,j,li,lij,uj,rfl,rfl,hQ,hX⟩:=hrel;clear HX0;by_cases hlt:i<j
  ·as_aux_lemma =>
    obtain⟨h,hh⟩:∃h,h=(i+j)/2:=⟨_,rfl⟩
    have eh:((i:Int)+(j:Int))/2=(h:Int):=(by omega)
    have l1:i≤h:=(by omega)
    have l2:h<j:=(by omega)
    clear hh;obtain⟨r1,r2,r3,r4,r5⟩:=HR.out.2.2.2.2.2 h (by omega) (by omega);obtain⟨q,hq⟩:∃q,q=p-h:=⟨_,rfl⟩
    have wq:IntKind.i64.wrap ((p:Int)-(h:Int))=(q:Int):=(by rw[wraps_i64 _ (by omega) (by have:=HP.out;have:=HN.out;omega)];omega)
    have hlt2:(i:Int)<(j:Int):=(by omega)
    have iq:(0:Int)≤(q:Int):=(by omega)
    have ih:(0:Int)≤(h:Int):=(by omega)
    have nq':(q:Int)<(n:Int):=(by omega)
    have nh:(h:Int)<(n:Int):=(by omega)
    have HCC:Hid (∀W,Bl wr W→_):=two_cells hX.out.1 (show q<n by omega) (show h<n by omega);have HLO:Hid (∀W,Bl wr W→W.heap[g]?=some (.cells (rowE sp n f) 135)∧But g w W):=row_stay hX.out.1 hX.out.2;have HW0:Hid (Bl wr wr):=Below.refl _ _;have HCM:Hid (∀W,Bl wr W→Calls Tryz.prog 77 #[.agg #[.int .i64 (f q).port,.int .i64 (f q).cost,.int .i64 (f q).other,.int .i64 (f q).oport,.bool (f q).live],.agg #[.int .i64 (f h).port,.int .i64 (f h).cost,.int .i64 (f h).other,.int .i64 (f h).oport,.bool (f h).live]] W fun e w'=>e=.returned (.int .i64 (Ec.cmp (f q) (f h)))∧Hid (Bl wr w')):=fun W hW=>cmp_say (f q) (f h) wr W hW;have HYES:Hid (Ec.cmp (f q) (f h)<0→(∀c,lo≤c→c<i→¬Ec.lt (f (p-c)) (f c))∧∀c,h≤c→c<hi→Ec.lt (f (p-c)) (f c)):=fun c=>by
     have c':=Ec.cmp_lt.1 c;refine⟨hQ.out.1,fun x q1 q2 => ?_⟩;by_cases e:x=h
     ·subst e;rw[←hq];exact c'
     ·obtain⟨t1,t2,t3,t4,t5⟩:=HR.out.2.2.2.2.2 x (by omega) q2;refine lt_of_lt_le (lt_of_le_lt (HS2.out (p-x) q t3 (by omega) (by omega)) c') (HS1.out h x r1 (by omega) t2)
    have HNO:Hid (¬Ec.cmp (f q) (f h)<0→(∀c,lo≤c→c<h+1→¬Ec.lt (f (p-c)) (f c))∧∀c,j≤c→c<hi→Ec.lt (f (p-c)) (f c)):=fun c=>by
     have c':¬Ec.lt (f q) (f h):=fun z=>c (Ec.cmp_lt.2 z);refine⟨fun x q1 q2 => ?_,hQ.out.2⟩;by_cases e:x=h
     ·subst e;rw[←hq];exact c'
     ·obtain⟨t1,t2,t3,t4,t5⟩:=HR.out.2.2.2.2.2 x q1 (by omega);exact Ec.not_lt_trans (HS1.out x h t1 (by omega) r2) (Ec.not_lt_trans c' (HS2.out q (p-x) (by omega) (by omega) t4))
    obtain⟨⟨c0,c1,c2,c3,c4⟩,d0,d1',d2',d3,d4⟩:=HCC.out wr HW0.out;obtain⟨CV,hCV⟩:∃CV,Ec.cmp (f q) (f h)=CV:=⟨_,rfl⟩
    rw[hCV] at HCM HYES HNO;clear hCV hQ hX hq r1 r2 r3 r4 r5;obtain⟨x,hx⟩:∃x,f q=x:=⟨_,rfl⟩
    obtain⟨y,hy⟩:∃y,f h=y:=⟨_,rfl⟩
    rw[hx,hy] at HCC HCM;rw[hx] at c0 c1 c2 c3 c4;rw[hy] at d0 d1' d2' d3 d4;clear hx hy;by_cases hc:CV<0
    ·have HQ2:=HYES.out (by omega);have hc2:decide (CV<0)=true:=decide_eq_true hc;clear HYES HNO;(go_wp2_with fail);go_region_held3 (fun W=>(W.cell? ⟨g,q*5,none⟩=some (.int .i64 x.port)∧W.cell? ⟨g,q*5+1,none⟩=some (.int .i64 x.cost)∧W.cell? ⟨g,q*5+2,none⟩=some (.int .i64 x.other)∧W.cell? ⟨g,q*5+3,none⟩=some (.int .i64 x.oport)∧W.cell? ⟨g,q*5+4,none⟩=some (.bool x.live))∧W.cell? ⟨g,h*5,none⟩=some (.int .i64 y.port)∧W.cell? ⟨g,h*5+1,none⟩=some (.int .i64 y.cost)∧W.cell? ⟨g,h*5+2,none⟩=some (.int .i64 y.other)∧W.cell? ⟨g,h*5+3,none⟩=some (.int .i64 y.oport)∧W.cell? ⟨g,h*5+4,none⟩=some (.bool y.live))
      (first | (exact HCC.out _ (Below.drew HW0.out)) | (exact HCC.out _ (Hid.out (by assumption))))
      (first | (go_at_call 77;refine(HCM.out _ (Below.drew HW0.out)).mono ?_;rintro e w3 ⟨rfl,HB3⟩))
     clear c0 c1 c2 c3 c4 d0 d1' d2' d3 d4;have HX2:Hid _:=HLO.out w3 HB3.out;clear HLO HCC HCM HW0 HB3;(go_wp2_with fail);exact⟨⟨i,h,li,l1,by omega,rfl,rfl,HQ2,HX2⟩,by simp[intOf];omega⟩
    ·have HQ2:=HNO.out (by omega);have hc2:decide (CV<0)=false:=decide_eq_false hc;clear HYES HNO;(go_wp2_with fail);go_region_held3 (fun W=>(W.cell? ⟨g,q*5,none⟩=some (.int .i64 x.port)∧W.cell? ⟨g,q*5+1,none⟩=some (.int .i64 x.cost)∧W.cell? ⟨g,q*5+2,none⟩=some (.int .i64 x.other)∧W.cell? ⟨g,q*5+3,none⟩=some (.int .i64 x.oport)∧W.cell? ⟨g,q*5+4,none⟩=some (.bool x.live))∧W.cell? ⟨g,h*5,none⟩=some (.int .i64 y.port)∧W.cell? ⟨g,h*5+1,none⟩=some (.int .i64 y.cost)∧W.cell? ⟨g,h*5+2,none⟩=some (.int .i64 y.other)∧W.cell? ⟨g,h*5+3,none⟩=some (.int .i64 y.oport)∧W.cell? ⟨g,h*5+4,none⟩=some (.bool y.live))
      (first | (exact HCC.out _ (Below.drew HW0.out)) | (exact HCC.out _ (Hid.out (by assumption))))
      (first | (go_at_call 77;refine(HCM.out _ (Below.drew HW0.out)).mono ?_;rintro e w3 ⟨rfl,HB3⟩))
     clear c0 c1 c2 c3 c4 d0 d1' d2' d3 d4;have HX2:Hid _:=HLO.out w3 HB3.out;clear HLO HCC HCM HW0 HB3;(go_wp2_with fail);exact⟨⟨h+1,j,by omega,by omega,uj,by go_num,rfl,HQ2,HX2⟩,by simp[intOf];omega⟩
  ·obtain rfl:i=j:=by omega
   obtain⟨z1,z2,z3,z4,z5,_⟩:=HR.out;have hNN:=HN.out;have hPP:=HP.out;obtain⟨e,he⟩:∃e,e=N-i:=⟨_,rfl⟩
   have we:IntKind.i64.wrap ((N:Int)-(i:Int))=(e:Int):=(by rw[wraps_i64 _ (by omega) (by omega)];omega)
   have y1:a≤i:=(by omega)
   have y2:i≤m:=(by omega)
   have y3:m≤e:=(by omega)
   have y4:e≤b:=(by omega)
   have y5:mid=i+(e-m):=(by omega)
   have y6:i≤mid:=(by omega)
   have y7:mid≤e:=(by omega)
   have HPT:Hid _:=Ec.rot_parts a i m e b f y1 y2 y3 y4 HS1.out HS2.out
    (fun q1 q2=>by
     by_cases c:lo<i
     ·have:=hQ.out.1 (i-1) (by omega) (by omega);rw[show p-(i-1)=e by omega] at this;exact this
     ·rcases HCASE.out with⟨t1,t2,t3⟩ | ⟨t1,t2,t3⟩
      ·omega
      ·omega)
    (fun q1 q2=>by
     by_cases c:i<hi
     ·have:=hQ.out.2 i (by omega) c;rw[show p-i=e-1 by omega] at this;exact this
     ·rcases HCASE.out with⟨t1,t2,t3⟩ | ⟨t1,t2,t3⟩
      ·omega
      ·omega)
   rw[←y5] at HPT;clear y5;have HX:Hid (wr.heap[g]?=some (.cells (rowE sp n f) 135)∧But g w wr):=hX;have HROT:Hid (i<m→m<e→Calls Tryz.prog 157 #[.slice (some ⟨g,0,none⟩) n cap,.int .i64 i,.int .i64 m,.int .i64 e,.func (.func 77) #[] #[]] wr fun x w'=>x=.returned (.tuple #[])∧w'.heap[g]?=some (.cells (rowE sp n (Ec.rot i m e f)) 135)∧Ec.Pm i e f (Ec.rot i m e f)∧But g wr w'):=fun q1 q2=>srotate_any sp g n cap i m e f _ wr HX.out.1 hn q1 q2 (by omega);have HNR:Hid (¬(i<m∧m<e)→Ec.rot i m e f=f):=fun q=>by
    by_cases c:i=m
    ·subst c;exact Ec.rot_none1 i e f y3
    ·have:e=m:=by omega
     subst this;exact Ec.rot_none2 i e f
   clear hQ hX he hNN hPP z1 z2 z3 z4 z5 HR HCASE HN HP HS1 HS2 li uj hlt;generalize Ec.rot i m e f=G0 at *;(go_upto_region 39 with fail);go_cut [185] (fun v wx=>v=.bool (decide (i<m∧m<e))∧Hid (wx.heap[g]?=some (.cells (rowE sp n f) 135)∧wx=wr))
   case first =>
    as_aux_lemma =>
     by_cases q1:i<m
     ·have q1':(i:Int)<(m:Int):=(by omega)
      by_cases q2:m<e
      ·have q2':(m:Int)<(e:Int):=(by omega)
       have HD:Hid (decide (i<m∧m<e)=true):=decide_eq_true ⟨q1,q2⟩;(go_wp2_with fail);go_meet
       exact⟨by rw[HD.out],HX.out.1,rfl⟩
      ·have q2':decide ((m:Int)<(e:Int))=false:=decide_eq_false (by omega);have HD:Hid (decide (i<m∧m<e)=false):=decide_eq_false (fun q=>q2 q.2);(go_wp2_with fail);go_meet
       exact⟨by rw[HD.out],HX.out.1,rfl⟩
     ·have q1':decide ((i:Int)<(m:Int))=false:=decide_eq_false (by omega);have HD:Hid (decide (i<m∧m<e)=false):=decide_eq_false (fun q=>q1 q.1);(go_wp2_with fail);go_meet
      exact⟨by rw[HD.out],HX.out.1,rfl⟩
   case rest =>
   obtain⟨rfl,HXC⟩:=hcut;go_upto_if 185 with fail
   go_cut [191] (fun _ wx=>Hid (wx.heap[g]?=some (.cells (rowE sp n G0) 135)∧Ec.Pm a b f G0∧But g w wx))
   case first =>
    as_aux_lemma =>
     have hw:=HXC.out.2;clear HXC;subst hw;by_cases q:i<m∧m<e
     ·have dq:decide (i<m∧m<e)=true:=decide_eq_true q;have HC:=HROT.out q.1 q.2;clear HROT HNR HIH;rw[dq];(go_wp2_with fail);refine HC.mono ?_;rintro x w5 ⟨rfl,k1,k2,k3⟩;have HF:Hid (w5.heap[g]?=some (.cells (rowE sp n G0) 135)∧Ec.Pm a b f G0∧But g w w5):=⟨k1,k2.mono y1 y4,HX.out.2.trans k3⟩
      clear k1 k2 k3;(go_wp2_with fail);go_meet
      exact HF
     ·have dq:decide (i<m∧m<e)=false:=decide_eq_false q;have HF:Hid (wc.heap[g]?=some (.cells (rowE sp n G0) 135)∧Ec.Pm a b f G0∧But g w wc):=by
       have hq:=HNR.out q;rw[hq];exact⟨HX.out.1,Ec.Pm.refl,HX.out.2⟩
      clear HROT HNR HIH;rw[dq];(go_wp2_with fail);go_meet
      exact HF
   case rest =>
   have HX1:Hid (wc.heap[g]?=some (.cells (rowE sp n G0) 135)∧Ec.Pm a b f G0∧But g w wc):=hcut;have HPM0:Hid (Ec.Pm a b f G0):=HX1.out.2.1;clear hcut HROT HNR HX HXC;(go_upto_region 41 with fail);go_cut [199] (fun v wx=>v=.bool (decide (a<i∧i<mid))∧Hid (wx.heap[g]?=some (.cells (rowE sp n G0) 135)∧But g w wx))
   case first =>
    as_aux_lemma =>
     have HX2:Hid (wc.heap[g]?=some (.cells (rowE sp n G0) 135)∧But g w wc):=⟨HX1.out.1,HX1.out.2.2⟩
     clear HX1 HIH HPT;by_cases q1:a<i
     ·have q1':(a:Int)<(i:Int):=(by omega)
      by_cases q2:i<mid
      ·have q2':(i:Int)<(mid:Int):=(by omega)
       have HD:Hid (decide (a<i∧i<mid)=true):=decide_eq_true ⟨q1,q2⟩;(go_wp2_with fail);go_meet
       exact⟨by rw[HD.out],HX2⟩
      ·have q2':decide ((i:Int)<(mid:Int))=false:=decide_eq_false (by omega);have HD:Hid (decide (a<i∧i<mid)=false):=decide_eq_false (fun q=>q2 q.2);(go_wp2_with fail);go_meet
       exact⟨by rw[HD.out],HX2⟩
     ·have q1':decide ((a:Int)<(i:Int))=false:=decide_eq_false (by omega);have HD:Hid (decide (a<i∧i<mid)=false):=decide_eq_false (fun q=>q1 q.1);(go_wp2_with fail);go_meet
      exact⟨by rw[HD.out],HX2⟩
   case rest =>
   clear HX1;obtain⟨rfl,HX1⟩:=hcut;go_upto_if 199 with fail
   go_cut [205] (fun _ wx=>Hid (∃G1,wx.heap[g]?=some (.cells (rowE sp n G1) 135)∧Ec.Pm a mid G0 G1∧Ec.SIn a mid G1∧But g w wx))
   case first =>
    as_aux_lemma =>
     by_cases q:a<i∧i<mid
     ·have dq:decide (a<i∧i<mid)=true:=decide_eq_true q;have HC:=HIH.out a i mid G0 _ (by omega) HX1.out.1 q.1 q.2 (by omega) HPT.out.1 HPT.out.2.1;clear HIH HPT;rw[dq];(go_wp2_with fail);refine HC.mono ?_;rintro x w5 ⟨rfl,G1,k1,k2,k3,k4⟩;have HF:Hid (∃G1,w5.heap[g]?=some (.cells (rowE sp n G1) 135)∧Ec.Pm a mid G0 G1∧Ec.SIn a mid G1∧But g w w5):=⟨G1,k1,k2,k3,HX1.out.2.trans k4⟩
      clear k1 k2 k3 k4;(go_wp2_with fail);go_meet
      exact HF
     ·have dq:decide (a<i∧i<mid)=false:=decide_eq_false q;have HF:Hid (∃G1,wc.heap[g]?=some (.cells (rowE sp n G1) 135)∧Ec.Pm a mid G0 G1∧Ec.SIn a mid G1∧But g w wc):=⟨G0,HX1.out.1,Ec.Pm.refl,by
       by_cases c:a=i
       ·rw[c];exact HPT.out.2.1
       ·rw[show mid=i by omega];exact HPT.out.1,HX1.out.2⟩
      clear HIH HPT;rw[dq];(go_wp2_with fail);go_meet
      exact HF
   case rest =>
   clear HX1;obtain⟨G1,k1,k2,k3,k4⟩:=hcut.out;have HX1:Hid (wc.heap[g]?=some (.cells (rowE sp n G1) 135)∧But g w wc):=⟨k1,k4⟩
   have HP1:Hid (Ec.Pm a mid G0 G1∧Ec.SIn a mid G1):=⟨k2,k3⟩
   have HS3:Hid (Ec.SIn mid e G1∧Ec.SIn e b G1):=⟨HPT.out.2.2.1.congr (fun x q1 _=>k2.out x (by omega)),HPT.out.2.2.2.1.congr (fun x q1 _=>k2.out x (by omega))⟩
   have HCR:Hid (∀G2,Ec.Pm mid b G1 G2→Ec.SIn mid b G2→Ec.Pm a b f G2∧Ec.SIn a b G2):=fun G2 t1 t2=>⟨(HPM0.out.trans (HP1.out.1.mono (Nat.le_refl _) (by omega))).trans (t1.mono (by omega) (Nat.le_refl _)),Ec.halves a mid b G0 G1 G2 HP1.out.1 t1 HP1.out.2 t2 HPT.out.2.2.2.2⟩
   clear hcut k1 k2 k3 k4 HPT HPM0 HP1;(go_upto_region 43 with fail);go_cut [213] (fun v wx=>v=.bool (decide (mid<e∧e<b))∧Hid (wx.heap[g]?=some (.cells (rowE sp n G1) 135)∧But g w wx))
   case first =>
    as_aux_lemma =>
     clear HIH HCR HS3;by_cases q1:mid<e
     ·have q1':(mid:Int)<(e:Int):=(by omega)
      by_cases q2:e<b
      ·have q2':(e:Int)<(b:Int):=(by omega)
       have HD:Hid (decide (mid<e∧e<b)=true):=decide_eq_true ⟨q1,q2⟩;(go_wp2_with fail);go_meet
       exact⟨by rw[HD.out],HX1⟩
      ·have q2':decide ((e:Int)<(b:Int))=false:=decide_eq_false (by omega);have HD:Hid (decide (mid<e∧e<b)=false):=decide_eq_false (fun q=>q2 q.2);(go_wp2_with fail);go_meet
       exact⟨by rw[HD.out],HX1⟩
     ·have q1':decide ((mid:Int)<(e:Int))=false:=decide_eq_false (by omega);have HD:Hid (decide (mid<e∧e<b)=false):=decide_eq_false (fun q=>q1 q.1);(go_wp2_with fail);go_meet
      exact⟨by rw[HD.out],HX1⟩
   case rest =>
   clear HX1;obtain⟨rfl,HX1⟩:=hcut;by_cases q:mid<e∧e<b
   ·as_aux_lemma =>
     have dq:decide (mid<e∧e<b)=true:=decide_eq_true q;have HC:=HIH.out mid e b G1 _ (by omega) HX1.out.1 q.1 q.2 (by omega) HS3.out.1 HS3.out.2;clear HIH;rw[dq];(go_wp2_with fail);refine HC.mono ?_;rintro x w5 ⟨rfl,G2,k1,k2,k3,k4⟩;have HF:Hid (MergeOut sp g n a b f w (.returned (.tuple #[])) w5):=⟨rfl,G2,k1,(HCR.out G2 k2 k3).1,(HCR.out G2 k2 k3).2,HX1.out.2.trans k4⟩
     clear k1 k2 k3 k4;(go_wp2_with fail);exact bodyPost_end (results_none Tryz.results141 _ _ _) rfl HF.out
   ·as_aux_lemma =>
     have dq:decide (mid<e∧e<b)=false:=decide_eq_false q;have HT:Hid (Ec.Pm a b f G1∧Ec.SIn a b G1):=HCR.out G1 Ec.Pm.refl (by
      by_cases c:mid=e
      ·rw[c];exact HS3.out.2
      ·have hE:e=b:=(by omega)
       rw[←hE];exact HS3.out.1)
     clear HIH HCR;rw[dq];(go_wp2_with fail);exact bodyPost_end (results_none Tryz.results141 _ _ _) rfl ⟨rfl,G1,HX1.out.1,HT.out.1,HT.out.2,HX1.out.2⟩
theorem smerge_any (sp:Array Value) (g n cap:Nat) (hn:n≤4398046511104):∀(d a m b:Nat) (f:Nat→En) (w:World),b-a≤d→w.heap[g]?=some (.cells (rowE sp n f) 135)→a<m→m<b→b≤n→Ec.SIn a m f→Ec.SIn m b f →
  Calls Tryz.prog 141 #[.slice (some ⟨g,0,none⟩) n cap,.int .i64 a,.int .i64 m,.int .i64 b,.func (.func 77) #[] #[]] w (MergeOut sp g n a b f w):=by
 intro d;induction d with
 | zero=>intro a m b f w hd _ h1 h2;omega
 | succ d ih =>
  intro a m b f w hd hA h1 h2 h3 s1 s2;by_cases c1:m=a+1
  ·exact smergeA sp g n cap a m b f w hA hn c1 h2 h3 s2
  ·by_cases c2:b=m+1
   ·exact smergeB sp g n cap a m b f w hA hn c2 (by omega) h3 s1
   ·exact smergeG sp g n cap a m b f w hA hn (by omega) (by omega) h3 s1 s2 (fun a' m' b' F W q1 q2 q3 q4 q5 q6 q7=>ih a' m' b' F W (by omega) q2 q3 q4 q5 q6 q7)
end Es
end
section
namespace Ec
open Pl (En)
def Blks (bs n:Nat) (G:Nat→En):Prop:=∀q,SIn (q*bs) (min ((q+1)*bs) n) G
def Half (bs n t:Nat) (G:Nat→En):Prop:=(∀q,q<t→SIn (q*(2*bs)) ((q+1)*(2*bs)) G)∧∀q,2*t≤q→SIn (q*bs) (min ((q+1)*bs) n) G
theorem mul_up {q t bs:Nat}(h:q<t):(q+1)*bs≤t*bs:=Nat.mul_le_mul_right bs h
theorem first_step {t A:Nat}{G H:Nat→En}(hA:A=t*20) (h:∀q,q<t→SIn (q*20) ((q+1)*20) G) (p:Pm A (A+20) G H) (s:SIn A (A+20) H):∀q,q<t+1→SIn (q*20) ((q+1)*20) H:=by
 intro q hq;by_cases e:q=t
 ·subst e;rw[Nat.add_mul,←hA];exact s
 ·exact(h q (by omega)).congr (fun x h1 h2=>p.out x (by omega))
theorem first_done {t A n:Nat}{G H:Nat→En}(hA:A=t*20) (hn:n<A+20) (h:∀q,q<t→SIn (q*20) ((q+1)*20) G) (p:Pm A n G H) (s:SIn A n H):Blks 20 n H:=by
 intro q;by_cases e:q=t
 ·subst e;rw[←hA];exact s.sub (Nat.le_refl _) (by omega)
 ·by_cases c:q<t
  ·exact((h q c).congr (fun x h1 h2=>p.out x (by omega))).sub (Nat.le_refl _) (by omega)
  ·exact SIn.short _ (by omega)
theorem half_start {bs n:Nat}{G:Nat→En}(h:Blks bs n G):Half bs n 0 G:=⟨fun q hq=>by omega,fun q _=>h q⟩
theorem half_parts {bs n t A:Nat}{G:Nat→En}(h:Half bs n t G) (hA:A=t*(2*bs)):SIn A (min (A+bs) n) G∧SIn (A+bs) (min (A+2*bs) n) G:=by
 have e:2*t*bs=A:=(by rw[hA,Nat.mul_comm 2 t,Nat.mul_assoc])
 have h1:=h.2 (2*t) (Nat.le_refl _);have h2:=h.2 (2*t+1) (by omega);rw[Nat.add_mul,Nat.one_mul,e] at h1;rw[Nat.add_mul (2*t+1) 1 bs,Nat.add_mul (2*t) 1 bs,Nat.one_mul,e] at h2;exact⟨h1,by rw[show A+2*bs=A+bs+bs by omega];exact h2⟩
theorem half_step {bs n t A:Nat}{G H:Nat→En}(h:Half bs n t G) (hA:A=t*(2*bs)) (p:Pm A (A+2*bs) G H) (s:SIn A (A+2*bs) H):Half bs n (t+1) H:=by
 refine⟨fun q hq => ?_,fun q hq => ?_⟩
 ·by_cases e:q=t
  ·subst e;rw[Nat.add_mul,Nat.one_mul,←hA];exact s
  ·have hm:(q+1)*(2*bs)≤A:=(by rw[hA];exact mul_up (by omega))
   exact(h.1 q (by omega)).congr (fun x h1 h2=>p.out x (by omega))
 ·have hm:A+2*bs≤q*bs:=by
   have:(2*(t+1))*bs≤q*bs:=Nat.mul_le_mul_right bs hq;rw[Nat.mul_comm 2 (t+1),Nat.mul_assoc,Nat.add_mul,Nat.one_mul,←hA] at this;exact this
  exact(h.2 q (by omega)).congr (fun x h1 h2=>p.out x (by omega))
theorem half_done {bs n t A:Nat}{G H:Nat→En}(h:Half bs n t G) (hA:A=t*(2*bs)) (hn:n<A+2*bs) (p:Pm A n G H) (s:SIn A n H):Blks (2*bs) n H:=by
 intro q;by_cases e:q=t
 ·subst e;rw[←hA];exact s.sub (Nat.le_refl _) (by omega)
 ·by_cases c:q<t
  ·have hm:(q+1)*(2*bs)≤A:=(by rw[hA];exact mul_up c)
   exact((h.1 q c).congr (fun x h1 h2=>p.out x (by omega))).sub (Nat.le_refl _) (by omega)
  ·have hm:A+2*bs≤q*(2*bs):=by
    have:=mul_up (bs:=2*bs) (show t<q by omega);rw[Nat.add_mul,Nat.one_mul,←hA] at this;exact this
   exact SIn.short _ (by omega)
theorem blks_all {bs n:Nat}{G:Nat→En}(h:Blks bs n G) (hb:n≤bs):SIn 0 n G:=by
 have:=h 0;rw[Nat.zero_mul,Nat.zero_add,Nat.one_mul] at this;exact this.sub (Nat.le_refl _) (by omega)
end Ec
end
section
open Go.RowKit
open Pl (En)
namespace Es
def At (sp:Array Value) (g n:Nat) (f:Nat→En) (w:World) (G:Nat→En) (w':World):Prop :=
 w'.heap[g]?=some (.cells (rowE sp n G) 135)∧Ec.Pm 0 n f G∧But g w w'
theorem At.next {sp:Array Value}{g n:Nat}{f G H:Nat→En}{w w1 w2:World}(h:At sp g n f w G w1) (h1:w2.heap[g]?=some (.cells (rowE sp n H) 135)) (h2:Ec.Pm 0 n G H) (h3:But g w1 w2):At sp g n f w H w2 :=
 ⟨h1,h.2.1.trans h2,h.2.2.trans h3⟩
theorem sstable_any (sp:Array Value) (g n cap:Nat) (f:Nat→En) (w:World) (hA:w.heap[g]?=some (.cells (rowE sp n f) 135)) (hn:n≤4398046511104) :
  Calls Tryz.prog 110 #[.slice (some ⟨g,0,none⟩) n cap,.int .i64 n,.func (.func 77) #[] #[]] w fun x w'=>x=.returned (.tuple #[])∧∃G,At sp g n f w G w'∧Ec.SIn 0 n G:=by
 have HA:Hid (At sp g n f w f w):=⟨hA,Ec.Pm.refl,But.refl _ _⟩
 have HIN:Hid (∀(a b:Nat) (G:Nat→En) (W:World),At sp g n f w G W→a≤n→b≤n→Calls Tryz.prog 140 #[.slice (some ⟨g,0,none⟩) n cap,.int .i64 a,.int .i64 b,.func (.func 77) #[] #[]] W fun x w'=>x=.returned (.tuple #[])∧∃H,At sp g n f w H w'∧Ec.Pm a b G H∧Ec.SIn a b H):=fun a b G W hW q1 q2=>(sinsertion_any sp g n cap a b G W hW.1 hn q1 q2).mono (fun x w' h=>by
  obtain⟨e,H,k1,k2,k3,k4⟩:=h;exact⟨e,H,hW.next k1 (k2.mono (by omega) q2) k4,k2,k3⟩)
 have HME:Hid (∀(a m b:Nat) (G:Nat→En) (W:World),At sp g n f w G W→a<m→m<b→b≤n→Ec.SIn a m G→Ec.SIn m b G→Calls Tryz.prog 141 #[.slice (some ⟨g,0,none⟩) n cap,.int .i64 a,.int .i64 m,.int .i64 b,.func (.func 77) #[] #[]] W fun x w'=>x=.returned (.tuple #[])∧∃H,At sp g n f w H w'∧Ec.Pm a b G H∧Ec.SIn a b H):=fun a m b G W hW q1 q2 q3 q4 q5=>(smerge_any sp g n cap hn (b-a) a m b G W (Nat.le_refl _) hW.1 q1 q2 q3 q4 q5).mono (fun x w' h=>by
  obtain⟨e,H,k1,k2,k3,k4⟩:=h;exact⟨e,H,hW.next k1 (k2.mono (by omega) q3) k4,k2,k3⟩)
 clear hA;go_enter Tryz.func110,Tryz.ntmps110;(go_wp2_with fail);go_loopw [7,8] (fun va vb wr=>∃A B:Nat,B=A+20∧A≤n∧va=.int .i64 A∧vb=.int .i64 B∧Hid (∃t G,A=t*20∧At sp g n f w G wr∧∀q,q<t→Ec.SIn (q*20) ((q+1)*20) G)) (fun va _ _=>n-(intOf va).toNat)
 case atStart=>exact⟨0,20,rfl,by omega,rfl,rfl,0,f,rfl,HA.out,fun q hq=>by omega⟩
 case round =>
  obtain⟨A,B,hB,lA,rfl,rfl,hX⟩:=hrel;obtain⟨t,G,hAt,hG,hS⟩:=hX.out;clear hX HA;by_cases hlt:B≤n
  ·have HC:=HIN.out A B G wr hG lA hlt;obtain⟨B2,hB2⟩:∃B2,B2=B+20:=⟨_,rfl⟩
   have wB:IntKind.i64.wrap ((B:Int)+20)=(B2:Int):=(by rw[wraps_i64 _ (by omega) (by omega)];omega)
   have lB:(B:Int)≤(n:Int):=(by omega)
   have HST:Hid (∀H,Ec.Pm A B G H→Ec.SIn A B H→B=(t+1)*20∧∀q,q<t+1→Ec.SIn (q*20) ((q+1)*20) H):=fun H k1 k2=>by
    subst hB;exact⟨by omega,Ec.first_step hAt hS k1 k2⟩
   have HB2:Hid (B2=B+20):=hB2;have HBA:Hid (B=A+20):=hB;clear hAt hG hS HIN HME hB2 hB;(go_wp2_with fail);refine HC.mono ?_;rintro x w1 ⟨rfl,H,k1,k2,k3⟩;have HF:Hid (∃t G,B=t*20∧At sp g n f w G w1∧∀q,q<t→Ec.SIn (q*20) ((q+1)*20) G):=⟨t+1,H,(HST.out H k2 k3).1,k1,(HST.out H k2 k3).2⟩
   clear k1 k2 k3 HST HC;(go_wp2_with fail);exact⟨⟨B,B2,HB2.out,hlt,rfl,rfl,HF⟩,by have:=HBA.out;simp[intOf];omega⟩
  ·have HC:=HIN.out A n G wr hG lA (Nat.le_refl _);have HFD:Hid (∀H,Ec.Pm A n G H→Ec.SIn A n H→Ec.Blks 20 n H):=fun H k1 k2=>Ec.first_done hAt (by omega) hS k1 k2;have lB:¬(B:Int)≤(n:Int):=(by omega)
   have lB2:decide ((B:Int)≤(n:Int))=false:=decide_eq_false lB;clear hAt hG hS HIN hB;(go_wp2_with fail);refine HC.mono ?_;rintro x w1 ⟨rfl,H,k1,k2,k3⟩;have H0:Hid (∃G,At sp g n f w G w1∧Ec.Blks 20 n G):=⟨H,k1,HFD.out H k2 k3⟩
   clear k1 k2 k3 HFD HC lB lB2 hlt;(go_wp2_with fail);go_loopw [6] (fun vb wr=>∃bs:Nat,0<bs∧bs≤2*n+20∧vb=.int .i64 bs∧Hid (∃G,At sp g n f w G wr∧Ec.Blks bs n G)) (fun vb _=>n-(intOf vb).toNat)
   case atStart=>exact⟨20,by omega,by omega,rfl,H0⟩
   case round =>
    obtain⟨bs,pb,ub,rfl,hX⟩:=hrel;clear H0;by_cases hbn:bs<n
    ·obtain⟨D,hD⟩:∃D,D=2*bs:=⟨_,rfl⟩
     have eD:IntKind.i64.wrap (2*(bs:Int))=(D:Int):=(by rw[wraps_i64 _ (by omega) (by omega)];omega)
     have eD2:IntKind.i64.wrap ((bs:Int)*2)=(D:Int):=(by rw[wraps_i64 _ (by omega) (by omega)];omega)
     have hbn2:(bs:Int)<(n:Int):=(by omega)
     have HDD:Hid (D=2*bs):=hD;have uD:D≤8796093022208:=(by omega)
     have uD2:D≤2*n:=(by omega)
     have pD:bs<D:=(by omega)
     have HX:Hid (∃G,At sp g n f w G wr∧Ec.Blks bs n G):=hX;clear hX hD;(go_wp2_with fail);go_loopw [7,8] (fun va vb wi=>∃A B:Nat,B=A+D∧A≤n∧va=.int .i64 A∧vb=.int .i64 B∧Hid (∃t G,A=t*(2*bs)∧At sp g n f w G wi∧Ec.Half bs n t G)) (fun va _ _=>n-(intOf va).toNat)
     case atStart =>
      obtain⟨G,k1,k2⟩:=HX.out;exact⟨0,D,by omega,by omega,rfl,rfl,0,G,by omega,k1,Ec.half_start k2⟩
     case round =>
      obtain⟨A,B,hB,lA,rfl,rfl,hY⟩:=hrel;obtain⟨t,G,hAt,hG,hH⟩:=hY.out;clear hY HX;obtain⟨s1,s2⟩:=Ec.half_parts hH hAt;obtain⟨M,hM⟩:∃M,M=A+bs:=⟨_,rfl⟩
      have wM:IntKind.i64.wrap ((A:Int)+(bs:Int))=(M:Int):=(by rw[wraps_i64 _ (by omega) (by omega)];omega)
      have hDD:=HDD.out;by_cases hlt:B≤n
      ·have HC:=HME.out A M B G wr hG (by omega) (by omega) hlt (s1.sub (Nat.le_refl _) (by omega)) (s2.sub (by omega) (by omega));obtain⟨B2,hB2⟩:∃B2,B2=B+D:=⟨_,rfl⟩
       have wB:IntKind.i64.wrap ((B:Int)+(D:Int))=(B2:Int):=(by rw[wraps_i64 _ (by omega) (by omega)];omega)
       have lB:(B:Int)≤(n:Int):=(by omega)
       have HST:Hid (∀H,Ec.Pm A B G H→Ec.SIn A B H→B=(t+1)*(2*bs)∧Ec.Half bs n (t+1) H):=fun H k1 k2=>by
        have e:B=A+2*bs:=(by omega)
        rw[e] at k1 k2;refine⟨?_,Ec.half_step hH hAt k1 k2⟩;rw[Nat.add_mul,Nat.one_mul,←hAt];exact e
       have HB2:Hid (B2=B+D):=hB2;have hAB:A<B:=(by omega)
       clear hAt hG hH s1 s2 hM hDD HME hB2 hB;(go_wp2_with fail);refine HC.mono ?_;rintro x w2 ⟨rfl,H,k1,k2,k3⟩;have HF:Hid (∃t G,B=t*(2*bs)∧At sp g n f w G w2∧Ec.Half bs n t G):=⟨t+1,H,(HST.out H k2 k3).1,k1,(HST.out H k2 k3).2⟩
       clear k1 k2 k3 HST HC;(go_wp2_with fail);exact⟨⟨B,B2,HB2.out,hlt,rfl,rfl,HF⟩,by simp[intOf];omega⟩
      ·have lB:decide ((B:Int)≤(n:Int))=false:=decide_eq_false (by omega);have lB0:¬(B:Int)≤(n:Int):=(by omega)
       have HFD:Hid (∀H,Ec.Pm A n G H→Ec.SIn A n H→Ec.Blks D n H):=fun H k1 k2=>by rw[hDD];exact Ec.half_done hH hAt (by omega) k1 k2
       by_cases hmn:M<n
       ·have HC:=HME.out A M n G wr hG (by omega) hmn (Nat.le_refl _) (s1.sub (Nat.le_refl _) (by omega)) (s2.sub (by omega) (by omega));have hmn2:(M:Int)<(n:Int):=(by omega)
        clear hAt hG hH s1 s2 hM hDD HME hB hlt;(go_wp2_with fail);refine HC.mono ?_;rintro x w2 ⟨rfl,H,k1,k2,k3⟩;have HF:Hid (∃G,At sp g n f w G w2∧Ec.Blks D n G):=⟨H,k1,HFD.out H k2 k3⟩
        clear k1 k2 k3 HFD HC;(go_wp2_with fail);exact⟨⟨D,by omega,by omega,rfl,HF⟩,by simp[intOf];omega⟩
       ·have HF:Hid (∃G,At sp g n f w G wr∧Ec.Blks D n G):=⟨G,hG,HFD.out G Ec.Pm.refl (s1.sub (Nat.le_refl _) (by omega))⟩
        have hmn2:decide ((M:Int)<(n:Int))=false:=decide_eq_false (by omega);have hmn3:¬(M:Int)<(n:Int):=(by omega)
        clear hAt hG hH s1 s2 hM hDD HME hB hlt HFD;(go_wp2_with fail);exact⟨⟨D,by omega,by omega,rfl,HF⟩,by simp[intOf];omega⟩
    ·have HF:Hid (∃G,At sp g n f w G wr∧Ec.SIn 0 n G):=by
      obtain⟨G,k1,k2⟩:=hX.out;exact⟨G,k1,Ec.blks_all k2 (by omega)⟩
     have hbn2:decide ((bs:Int)<(n:Int))=false:=decide_eq_false (by omega);have hbn3:¬(bs:Int)<(n:Int):=(by omega)
     clear hX HME;(go_wp2_with fail);exact bodyPost_end (results_none Tryz.results110 _ _ _) rfl ⟨rfl,HF.out⟩
end Es
end
section
open Go.RowKit
open Pl (Br Net Pc Lk En)
instance:Inhabited En:=⟨⟨0,0,0,0,false⟩⟩
def encE (e:En):List Value:=[.int .i64 e.port,.int .i64 e.cost,.int .i64 e.other,.int .i64 e.oport,.bool e.live]
abbrev EL (l:List En) (j:Nat):En:=l.getD j default
namespace Es
theorem eins_none (fv:Value) (w:World):Calls Tryz.prog 140 #[.slice none 0 0,.int .i64 0,.int .i64 0,fv] w fun e w'=>e=.returned (.tuple #[])∧w'=w:=by
 go_enter Tryz.func140,Tryz.ntmps140;go_wp2
 refine wp_loop_rounds 1 ?_;rw[rounds_succ];go_wp2
 go_end0
 exact⟨rfl,rfl⟩
theorem estable_none (fv:Value) (w:World):Calls Tryz.prog 110 #[.slice none 0 0,.int .i64 0,fv] w fun e w'=>e=.returned (.tuple #[])∧w'=w:=by
 have hi:=fun W=>eins_none fv W;go_enter Tryz.func110,Tryz.ntmps110;go_wp2
 refine wp_loop_rounds 1 ?_;rw[rounds_succ];go_wp2_with (go_at_call 140;refine(hi _).mono ?_;rintro e w' ⟨rfl,rfl⟩)
 refine wp_loop_rounds 1 ?_;rw[rounds_succ];go_wp2
 go_end0
 exact⟨rfl,rfl⟩
theorem esort_none (fv:Value) (w:World):Calls Tryz.prog 76 #[.slice none 0 0,fv] w fun e w'=>e=.returned (.tuple #[])∧w'=w:=by
 have hp:=fun W=>estable_none fv W;go_enter Tryz.func76,Tryz.ntmps76;go_wp2_with (go_at_call 110;refine(hp _).mono ?_;rintro e w' ⟨rfl,rfl⟩)
 go_end0
 exact⟨rfl,rfl⟩
theorem ssort_any (sp:Array Value) (g n cap:Nat) (f:Nat→En) (w:World) (hA:w.heap[g]?=some (.cells (rowE sp n f) 135)) (hn:n≤4398046511104) :
  Calls Tryz.prog 76 #[.slice (some ⟨g,0,none⟩) n cap,.func (.func 77) #[] #[]] w fun x w'=>x=.returned (.tuple #[])∧∃G,At sp g n f w G w'∧Ec.SIn 0 n G:=by
 have HC:Hid (Calls Tryz.prog 110 #[.slice (some ⟨g,0,none⟩) n cap,.int .i64 n,.func (.func 77) #[] #[]] w fun x w'=>x=.returned (.tuple #[])∧∃G,At sp g n f w G w'∧Ec.SIn 0 n G):=sstable_any sp g n cap f w hA hn;clear hA;go_enter Tryz.func76,Tryz.ntmps76;(go_wp2_with fail);refine HC.out.mono ?_;rintro x w1 ⟨rfl,hG⟩;have HF:Hid (∃G,At sp g n f w G w1∧Ec.SIn 0 n G):=hG;clear hG;(go_wp2_with fail);exact bodyPost_end (results_none Tryz.results76 _ _ _) rfl ⟨rfl,HF.out⟩
end Es
theorem listOf_EL (l:List En):Ec.listOf l.length (EL l)=l:=by
 unfold Ec.listOf;apply List.ext_getElem
 ·simp
 ·intro i h1 h2;simp[EL,List.getD,List.getElem?_eq_getElem h2]
theorem psort_any (base:Nat) (v:Value) (l:List En) (w:World) (hl:l.length≤1000) (ho:w.ownsRow base 135 5 v l.length (cellsL l.length 5 (fun j=>enC (EL l j)))) :
  Calls Tryz.prog 76 #[v,.func (.func 77) #[] #[]] w fun e w'=>e=.returned (.tuple #[])∧∃l':List En,l'.Perm l∧l'.Pairwise (fun x y=>¬y.port<x.port)∧(∃ao cap,v=.slice ao l'.length cap∧ERow w' ao l'.length cap (EL l'))∧w.grownBy w' v.ownBlock∧∀q,v.ownBlock=some q→∃cur,w'.heap[q]?=some (.cells cur 135):=by
 obtain⟨_,h2⟩:=ho;rcases h2 with⟨rfl,h0⟩ | ⟨g,cap,cur,rfl,hg,hh,hn,hm,hs,hx⟩
 ·have e0:l=[]:=List.eq_nil_of_length_eq_zero h0;subst e0;refine(Es.esort_none (.func (.func 77) #[] #[]) w).mono ?_;rintro e w' ⟨rfl,rfl⟩;exact⟨rfl,[],List.Perm.refl _,List.Pairwise.nil,⟨none,0,rfl,CRow.none _ _ _ _ _⟩,⟨rfl,rfl,rfl,Nat.le_refl _,fun _ _ _=>rfl⟩,fun q hq=>by simp[Value.ownBlock] at hq⟩
 ·have e1:cur=Es.rowE (cur.toList.drop (l.length*5)).toArray l.length (EL l):=by
   apply Array.ext'
   unfold Es.rowE rowC;rw[Array.toList_append];simp only;rw[←hx,List.take_append_drop]
  rw[e1] at hh;refine(Es.ssort_any _ g l.length cap (EL l) w hh (by omega)).mono ?_;rintro e w' ⟨rfl,G,⟨h1,h2,h3⟩,hS⟩;have hp:=h2.perm l.length (Nat.le_refl _);rw[listOf_EL] at hp;have hlen:(Ec.listOf l.length G).length=l.length:=(by simp[Ec.listOf])
  have hget:∀i,i<l.length→EL (Ec.listOf l.length G) i=G i:=fun i hi=>by
   simp[EL,Ec.listOf,List.getD,hi]
  refine⟨rfl,Ec.listOf l.length G,hp,?_,⟨_,cap,by rw[hlen],?_⟩,h3,fun q hq=>by simp[Value.ownBlock] at hq;subst hq;exact⟨_,h1⟩⟩
  ·rw[List.pairwise_iff_getElem];intro i j hi hj hij;have:=hS i j (Nat.zero_le _) hij (by rw[←hlen];exact hj);simpa[Ec.listOf,Ec.lt] using this
  ·rw[hlen];refine⟨hn,fun _=>⟨g,0,rfl,(gSm.1 h1).1,fun i hi j hj => ?_⟩⟩;rw[Nat.zero_add];show _=some (enC (EL (Ec.listOf l.length G) i) j);rw[hget i hi];exact(cell_of_row w' g _ _ _ _ h1).trans (Es.rowE_get _ _ G i j hi hj)
end
section
namespace Pl
open Vc (V Of)
structure RightL (K L:Nat) (ls:Nat→Lk):Prop where
 ok:∀k,k<L→(0≤(ls k).a∧(ls k).a<K)∧(0≤(ls k).b∧(ls k).b<K)∧(ls k).a≠(ls k).b∧(1≤(ls k).pa∧(ls k).pa≤30)∧(1≤(ls k).pb∧(ls k).pb≤30)∧(1≤(ls k).cost∧(ls k).cost≤200000)
 one:∀j k,j<k→k<L→isEnd (ls j) (ls k).a (ls k).pa=false∧isEnd (ls j) (ls k).b (ls k).pb=false
theorem someTo_false {p:Nat→Bool}:∀{n:Nat},Vc.someTo p n=false→∀i,i<n→p i=false
 | 0,_,i,hi=>by omega
 | n+1,h,i,hi=>by
  simp only[Vc.someTo,Bool.or_eq_false_iff] at h;by_cases e:i=n
  ·subst e;exact h.2
  ·exact someTo_false h.1 i (by omega)
theorem lkErr_ok {K:Nat}{l:Lk}(h:lkErr K l=0):(0≤l.a∧l.a<K)∧(0≤l.b∧l.b<K)∧l.a≠l.b∧(1≤l.pa∧l.pa≤30)∧(1≤l.pb∧l.pb≤30)∧(1≤l.cost∧l.cost≤200000):=by
 unfold lkErr at h;split at h
 ·omega
 ·split at h
  ·omega
  ·split at h
   ·omega
   ·omega
theorem lErr_ok {K:Nat}{ls:Nat→Lk}{i:Nat}(h:lErr K ls i=0):lkErr K (ls i)=0∧∀j,j<i→isEnd (ls j) (ls i).a (ls i).pa=false∧isEnd (ls j) (ls i).b (ls i).pb=false:=by
 unfold lErr at h;split at h
 ·omega
 ·rename_i h1;split at h
  ·omega
  ·rename_i h2;refine⟨by omega,fun j hj => ?_⟩;have:=someTo_false (by simpa using h2) j hj;simpa using this
theorem rightL {K L:Nat}{ls:Nat→Lk}(h:∀i,i<L→lErr K ls i=0):RightL K L ls :=
 ⟨fun k hk=>lkErr_ok (lErr_ok (h k hk)).1,fun j k hj hk=>(lErr_ok (h k hk)).2 j hj⟩
theorem endsAt_mem {l:Lk}{lv:Bool}{i:Nat}{e:En}:e∈endsAt l lv i↔(l.a=(i:Int)∧e=⟨l.pa,l.cost,l.b,l.pb,lv⟩)∨(l.b=(i:Int)∧e=⟨l.pb,l.cost,l.a,l.pa,lv⟩):=by
 unfold endsAt;by_cases h1:l.a=(i:Int)<;>by_cases h2:l.b=(i:Int)<;>simp[h1,h2]
theorem endsTo_mem {ls:Nat→Lk}{lv:Nat→Bool}{i:Nat}{e:En}:∀{L:Nat},e∈endsTo ls lv i L↔∃k,k<L∧e∈endsAt (ls k) (lv k) i
 | 0=>⟨fun h=>by simp[endsTo] at h,fun⟨k,hk,_⟩=>by omega⟩
 | L+1=>by
  simp only[endsTo,List.mem_append];rw[endsTo_mem (L:=L)];constructor
  ·rintro(⟨k,hk,h⟩ | h)
   ·exact⟨k,by omega,h⟩
   ·exact⟨L,by omega,h⟩
  ·rintro⟨k,hk,h⟩;by_cases e:k=L
   ·subst e;exact Or.inr h
   ·exact Or.inl ⟨k,by omega,h⟩
theorem ends_perm (ls:Nat→Lk) (lv:Nat→Bool) (L i:Nat):(ends ls lv L i).Perm (endsTo ls lv i L):=List.mergeSort_perm _ _
theorem ends_mem {ls:Nat→Lk}{lv:Nat→Bool}{L i:Nat}{e:En}:e∈ends ls lv L i↔∃k,k<L∧(((ls k).a=(i:Int)∧e=⟨(ls k).pa,(ls k).cost,(ls k).b,(ls k).pb,lv k⟩)∨((ls k).b=(i:Int)∧e=⟨(ls k).pb,(ls k).cost,(ls k).a,(ls k).pa,lv k⟩)):=by
 rw[(ends_perm ls lv L i).mem_iff,endsTo_mem];constructor
 ·rintro⟨k,hk,h⟩;exact⟨k,hk,endsAt_mem.1 h⟩
 ·rintro⟨k,hk,h⟩;exact⟨k,hk,endsAt_mem.2 h⟩
theorem endsTo_ports {K L:Nat}{ls:Nat→Lk}(R:RightL K L ls) (lv:Nat→Bool) (i:Nat):∀n,n≤L→(endsTo ls lv i n).Pairwise (fun x y=>x.port≠y.port)
 | 0,_=>List.Pairwise.nil
 | n+1,hn=>by
  simp only[endsTo];rw[List.pairwise_append];refine⟨endsTo_ports R lv i n (by omega),?_,?_⟩
  ·have:=(R.ok n (by omega)).2.2.1;unfold endsAt;by_cases h1:(ls n).a=(i:Int)<;>by_cases h2:(ls n).b=(i:Int)<;>simp[h1,h2]
   omega
  ·intro x hx y hy;obtain⟨k,hk,hx⟩:=endsTo_mem.1 hx;obtain⟨o1,o2⟩:=R.one k n (by omega) (by omega);unfold isEnd at o1 o2;simp only[Bool.or_eq_false_iff,decide_eq_false_iff_not] at o1 o2;rcases endsAt_mem.1 hx with⟨a1,rfl⟩ | ⟨a1,rfl⟩<;>rcases endsAt_mem.1 hy with⟨b1,rfl⟩ | ⟨b1,rfl⟩<;>simp only<;>intro e
   ·exact o1.1 ⟨by omega,e⟩
   ·exact o2.1 ⟨by omega,e⟩
   ·exact o1.2 ⟨by omega,e⟩
   ·exact o2.2 ⟨by omega,e⟩
theorem ends_sorted {K L:Nat}{ls:Nat→Lk}(R:RightL K L ls) (lv:Nat→Bool) (i:Nat):(ends ls lv L i).Pairwise (fun x y=>x.port<y.port):=by
 have h1:(ends ls lv L i).Pairwise (fun x y=>leP x y=true):=List.pairwise_mergeSort (fun a b c h1 h2=>by simp[leP] at *;omega) (fun a b=>by simp[leP];omega) _;have h2:(ends ls lv L i).Pairwise (fun x y=>x.port≠y.port):=((ends_perm ls lv L i).pairwise_iff (fun {a b}(h:a.port≠b.port)=>h.symm)).2 (endsTo_ports R lv i L (Nat.le_refl _));have:=h1.and h2;exact this.imp (fun {a b} ⟨q1,q2⟩=>by simp[leP] at q1;omega)
theorem ends_unique {K L:Nat}{ls:Nat→Lk}(R:RightL K L ls) (lv:Nat→Bool) (i:Nat) {l:List En}(hp:l.Perm (endsTo ls lv i L)) (h:l.Pairwise (fun x y=>¬y.port<x.port)):l=ends ls lv L i:=by
 have h2:l.Pairwise (fun x y=>x.port≠y.port):=(hp.pairwise_iff (fun {a b}(h:a.port≠b.port)=>h.symm)).2 (endsTo_ports R lv i L (Nat.le_refl _));exact sorted_unique (hp.trans (ends_perm ls lv L i).symm) ((h.and h2).imp (fun {a b} ⟨q1,q2⟩=>by omega)) (ends_sorted R lv i)
theorem good {K L:Nat}{ls:Nat→Lk}(R:RightL K L ls) (hK:K≤12) (ids:Nat→Int) (lv:Nat→Bool):Good ids (fun i=>ends ls lv L i) K:=by
 refine⟨hK,fun i hi e he _ => ?_⟩;obtain⟨k,hk,h⟩:=ends_mem.1 he;obtain⟨o1,o2,o3,o4,o5,o6⟩:=R.ok k hk;rcases h with⟨_,rfl⟩ | ⟨_,rfl⟩<;>simp only<;>omega
theorem ends_one {K L:Nat}{ls:Nat→Lk}(R:RightL K L ls) (lv:Nat→Bool) {i:Nat}{x y:En}(hx:x∈ends ls lv L i) (hy:y∈ends ls lv L i) (h:x.port=y.port):x=y:=by
 have S:=ends_sorted R lv i;obtain⟨a,ha,ea⟩:=List.getElem_of_mem hx;obtain⟨b,hb,eb⟩:=List.getElem_of_mem hy;have key:=List.pairwise_iff_getElem.1 S;by_cases e:a=b
 ·subst e;rw[←ea,←eb]
 ·rcases Nat.lt_or_ge a b with q | q
  ·have:=key a b ha hb q;rw[ea,eb] at this;omega
  ·have:=key b a hb ha (by omega);rw[ea,eb] at this;omega
end Pl
end
end Go.Proofs.YtaneiffnhphkhaaGreatDoor
