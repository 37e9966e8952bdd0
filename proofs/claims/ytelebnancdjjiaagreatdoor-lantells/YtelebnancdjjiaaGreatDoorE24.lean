/- EQ6 -/
import Derived.Test.YtelebnancdjjiaaGreatDoorE23
set_option maxRecDepth 100000
set_option maxHeartbeats 40000000
namespace Go.Proofs.YtelebnancdjjiaaGreatDoor
section
open Go.Proofs.Tryz Go.RowKit
open Pl(En Br Net Pc Lk)
open Vc(V Of)
namespace Es
theorem wmergeG (sp:Array Value) (g n cap a m b:Nat) (u w:World) (hA:Ro sp g n u w) (hn:n<=4398046511104) (h0:a+1<m) (h1:m+1<b) (h2:b<=n)
  (ih:∀(a' m' b':Nat) (W:World),b'-a'<b-a->Ro sp g n u W->a'<m'->m'<b'->b'<=n->Calls prog 208 #[.slice (some (Pv g 0)) n cap,Iv a',Iv m',Iv b',.func (.func 153) #[] #[]] W λx w'=>x=.returned (.tuple #[])/\Ro sp g n u w') :
  Calls prog 208 #[.slice (some (Pv g 0)) n cap,Iv a,Iv m,Iv b,.func (.func 153) #[] #[]] w λx w'=>x=.returned (.tuple #[])/\Ro sp g n u w':=by
 have HA:Hid (Ro sp g n u w):=hA;have ad:Hid (∀(a' m' b':Nat) (W:World),b'-a'<b-a->Ro sp g n u W->a'<m'->m'<b'->b'<=n->Calls prog 208 #[.slice (some (Pv g 0)) n cap,Iv a',Iv m',Iv b',.func (.func 153) #[] #[]] W λx w'=>x=.returned (.tuple #[])/\Ro sp g n u w'):=ih;obtain⟨d1,az⟩:∃d,d=m-a:=⟨_,rfl⟩
 have w1:IntKind.i64.wrap ((m:Int)-(a:Int))=(d1:Int):=(by rw[a0t _ om om];omega)
 have k1:((d1:Int) == 1)=false:=(by simp;omega)
 obtain⟨d2,av⟩:∃d,d=b-m:=⟨_,rfl⟩
 have w2:IntKind.i64.wrap ((b:Int)-(m:Int))=(d2:Int):=(by rw[a0t _ om om];omega)
 have k2:((d2:Int) == 1)=false:=(by simp;omega)
 obtain⟨aa,al⟩:=nn ((a+b)/2)
 have aD:((a:Int)+(b:Int))/2=(aa:Int):=om
 have m1:a+b<=2*aa+1:=om
 have m2:2*aa<=a+b:=om
 obtain⟨N,hN⟩:=nn (aa+m)
 have eN:IntKind.i64.wrap ((aa:Int)+(m:Int))=(N:Int):=(by rw[a0t _ om om];omega)
 obtain⟨p,hp⟩:=nn (N-1)
 have ep:IntKind.i64.wrap ((N:Int)-1)=(p:Int):=(by rw[a0t _ om om];omega)
 have af:Hid (N=aa+m/\p=N-1):=⟨hN,hp⟩
 obtain⟨lo,hi,ac⟩:∃lo hi:Nat,(aa<m/\lo+b=N/\hi=aa)\/(m<=aa/\lo=a/\hi=m):=by
  by_cases q:aa<m
  ·exact⟨N-b,aa,Or.inl ⟨q,om,rfl⟩⟩
  ·exact⟨a,m,Or.inr ⟨om,rfl,rfl⟩⟩
 have ab:Hid ((aa<m/\lo+b=N/\hi=aa)\/(m<=aa/\lo=a/\hi=m)):=ac;have HR:Hid (a<=lo/\lo<=hi/\hi<=m/\hi<=aa/\N<=lo+b/\∀c,lo<=c->c<hi->p-c<b/\c<=p):=by
  rcases ac with⟨q1,q2,q3⟩ | ⟨q1,q2,q3⟩<;>exact⟨om,om,om,om,om,λc c1 c2=>⟨om,om⟩⟩
 have m3:aa<b:=om
 have m4:a<aa:=om
 clear hA ih az av al hN hp ac;go_enter func208,ntmps208;go_upto_if 140 with fail
 go_cut [20,21] (λaB au wx=>aB=Iv lo/\au=Iv hi/\Hid (Ro sp g n u wx))
 case first =>
  as_aux_lemma =>
   rcases ab.o with⟨q1,q2,q3⟩ | ⟨q1,q2,q3⟩
   ·have ae:(aa:Int)<(m:Int):=om
    have ak:=af.o.1;have el:IntKind.i64.wrap ((N:Int)-(b:Int))=(lo:Int):=(by rw[a0t _ om om];omega)
    have HI:Hid (hi=aa):=q3;clear q2 q3 ab HR af ak;(go_wp2_with fail);go_meet
    exact⟨rfl,by rw[HI.o],HA⟩
   ·have ae:¬(aa:Int)<(m:Int):=om
    have aI:decide ((aa:Int)<(m:Int))=false:=b0j ae;have HI:Hid (lo=a/\hi=m):=⟨q2,q3⟩
    clear q2 q3 ab HR af;(go_wp2_with fail);go_meet
    exact⟨by rw[HI.o.1],by rw[HI.o.2],HA⟩
 case rest =>
 obtain⟨rfl,rfl,am⟩:=hcut;clear HA ab;(go_wp2_with fail);go_loopw [20,21] (λx y wr=>∃i j:Nat,lo<=i/\i<=j/\j<=hi/\x=Iv i/\y=Iv j/\Hid (Ro sp g n u wr)) (λx y _=>(intOf y-intOf x).toNat)
 case atStart=>exact⟨lo,hi,om,HR.o.2.1,om,rfl,rfl,am⟩
 case round =>
  obtain⟨i,j,li,aG,uj,rfl,rfl,hX⟩:=hrel;clear am;by_cases hlt:i<j
  ·as_aux_lemma =>
     obtain⟨h,hh⟩:=nn ((i+j)/2)
     have eh:((i:Int)+(j:Int))/2=(h:Int):=om
     have l1:i<=h:=om
     have l2:h<j:=om
     clear hh;have aw:(i:Int)<(j:Int):=om
     obtain⟨r4,r5⟩:=HR.o.2.2.2.2.2 h om om;have aE:p<9223372036854775807:=(by have:=af.o;omega)
     have aF:h<n:=(by have:=HR.o;omega)
     obtain⟨q,hq⟩:=nn (p-h)
     have wq:IntKind.i64.wrap ((p:Int)-(h:Int))=(q:Int):=(by rw[a0t _ om om];omega)
     have iq:(0:Int)<=(q:Int):=om
     have ih:(0:Int)<=(h:Int):=om
     have aH:q<n:=om
     have aJ:(q:Int)<(n:Int):=om
     have nh:(h:Int)<(n:Int):=om
     obtain⟨⟨F,hF⟩,hB⟩:=hX.o;have ah:Hid (∀W,Bl wr W->_):=two_ec hF (show q<n by omega) (show h<n by omega);have ao:Hid (∀W,Bl wr W->Ro sp g n u W):=ro_low hX.o;have ai:Hid (Bl wr wr):=b0h _ _;obtain⟨⟨c0,c1,c2,c3,c4⟩,d0,ay,ax,d3,d4⟩:=ah.o wr ai.o;clear hX hF hB hq r4 r5;generalize F q=x at *;generalize F h=y at *;have aj:Hid (∀W,Bl wr W->_):=wcmp x y wr;obtain⟨CV,aq⟩:∃CV,Ec.cmp x y=CV:=⟨_,rfl⟩
     rw[aq] at aj;clear aq;by_cases hc:CV<0
     case' pos=>have aC:decide (CV<0)=true:=b0k hc
     case' neg=>have aC:decide (CV<0)=false:=b0j hc
     all_goals
      (go_wp2_with fail);go_region_held3 (λW=>(W.cell? (Pv g (q*5))=some (Iv x.port)/\W.cell? (Pv g (q*5+1))=some (Iv x.cost)/\W.cell? (Pv g (q*5+2))=some (Iv x.other)/\W.cell? (Pv g (q*5+3))=some (Iv x.oport)/\W.cell? (Pv g (q*5+4))=some (.bool x.live))/\W.cell? (Pv g (h*5))=some (Iv y.port)/\W.cell? (Pv g (h*5+1))=some (Iv y.cost)/\W.cell? (Pv g (h*5+2))=some (Iv y.other)/\W.cell? (Pv g (h*5+3))=some (Iv y.oport)/\W.cell? (Pv g (h*5+4))=some (.bool y.live))
       (first | (exact ah.o _ (b0i ai.o)) | (exact ah.o _ (Hid.o aS)))
       (first | (go_at_call 153;refine(aj.o _ (b0i ai.o)).mono ?_;rintro e w3 ⟨rfl,ap⟩))
      clear c0 c1 c2 c3 c4 d0 ay ax d3 d4;have an:Hid _:=ao.o w3 ap.o;clear ao ah aj ai ap;go_wp2_with fail
     ·exact⟨⟨h+1,j,om,om,uj,gn,rfl,an⟩,io⟩
     ·exact⟨⟨i,h,li,l1,om,rfl,rfl,an⟩,io⟩
  ·obtain rfl:i=j:=om
   obtain⟨z1,z2,z3,z4,z5,_⟩:=HR.o;obtain⟨ak,ar⟩:=af.o;obtain⟨e,he⟩:=nn (N-i)
   have we:IntKind.i64.wrap ((N:Int)-(i:Int))=(e:Int):=(by rw[a0t _ om om];omega)
   have y1:a<=i:=om
   have y2:i<=m:=om
   have y3:m<=e:=om
   have y4:e<=b:=om
   have y6:i<=aa:=om
   have y7:aa<=e:=om
   clear he ak ar z1 z2 z3 z4 z5 HR af li uj hlt;(go_upto_region 39 with fail);go_cut [185] (λv wx=>v=.bool (decide (i<m/\m<e))/\Hid (Ro sp g n u wx))
   case first =>
    as_aux_lemma =>
     clear ad;by_cases q1:i<m
     ·have ae:(i:Int)<(m:Int):=om
      by_cases q2:m<e
      ·have ag:(m:Int)<(e:Int):=om
       have HD:Hid (decide (i<m/\m<e)=true):=b0k ⟨q1,q2⟩;(go_wp2_with fail);go_meet
       exact⟨by rw[HD.o],hX⟩
      ·have ag:decide ((m:Int)<(e:Int))=false:=b0j om;have HD:Hid (decide (i<m/\m<e)=false):=b0j (λq=>q2 q.2);(go_wp2_with fail);go_meet
       exact⟨by rw[HD.o],hX⟩
     ·have ae:decide ((i:Int)<(m:Int))=false:=b0j om;have HD:Hid (decide (i<m/\m<e)=false):=b0j (λq=>q1 q.1);(go_wp2_with fail);go_meet
      exact⟨by rw[HD.o],hX⟩
   case rest =>
   clear hX;obtain⟨rfl,hX⟩:=hcut;go_upto_if 185 with fail
   go_cut [191] (λ_ wx=>Hid (Ro sp g n u wx))
   case first =>
    as_aux_lemma =>
     clear ad;by_cases q:i<m/\m<e
     ·have dq:decide (i<m/\m<e)=true:=b0k q;rw[dq];(go_wp2_with fail);refine(wrotate sp g n cap i m e _ u _ hX.o hn q.1 q.2 om).mono ?_;rintro x w5 ⟨rfl,k1⟩;have HF:Hid (Ro sp g n u w5):=k1;clear k1;(go_wp2_with fail);go_meet
      exact HF
     ·have dq:decide (i<m/\m<e)=false:=b0j q;rw[dq];(go_wp2_with fail);go_meet
      exact hX
   case rest =>
   clear hX;have hX:Hid (Ro sp g n u wc):=hcut;clear hcut;(go_upto_region 41 with fail);go_cut [199] (λv wx=>v=.bool (decide (a<i/\i<aa))/\Hid (Ro sp g n u wx))
   case first =>
    as_aux_lemma =>
     clear ad;by_cases q1:a<i
     ·have ae:(a:Int)<(i:Int):=om
      by_cases q2:i<aa
      ·have ag:(i:Int)<(aa:Int):=om
       have HD:Hid (decide (a<i/\i<aa)=true):=b0k ⟨q1,q2⟩;(go_wp2_with fail);go_meet
       exact⟨by rw[HD.o],hX⟩
      ·have ag:decide ((i:Int)<(aa:Int))=false:=b0j om;have HD:Hid (decide (a<i/\i<aa)=false):=b0j (λq=>q2 q.2);(go_wp2_with fail);go_meet
       exact⟨by rw[HD.o],hX⟩
     ·have ae:decide ((a:Int)<(i:Int))=false:=b0j om;have HD:Hid (decide (a<i/\i<aa)=false):=b0j (λq=>q1 q.1);(go_wp2_with fail);go_meet
      exact⟨by rw[HD.o],hX⟩
   case rest =>
   clear hX;obtain⟨rfl,hX⟩:=hcut;go_upto_if 199 with fail
   go_cut [205] (λ_ wx=>Hid (Ro sp g n u wx))
   case first =>
    as_aux_lemma =>
     by_cases q:a<i/\i<aa
     ·have dq:decide (a<i/\i<aa)=true:=b0k q;have HC:=ad.o a i aa _ om hX.o q.1 q.2 om;clear ad;rw[dq];(go_wp2_with fail);refine HC.mono ?_;rintro x w5 ⟨rfl,k1⟩;have HF:Hid (Ro sp g n u w5):=k1;clear k1;(go_wp2_with fail);go_meet
      exact HF
     ·have dq:decide (a<i/\i<aa)=false:=b0j q;clear ad;rw[dq];(go_wp2_with fail);go_meet
      exact hX
   case rest =>
   clear hX;have hX:Hid (Ro sp g n u wc):=hcut;clear hcut;(go_upto_region 43 with fail);go_cut [213] (λv wx=>v=.bool (decide (aa<e/\e<b))/\Hid (Ro sp g n u wx))
   case first =>
    as_aux_lemma =>
     clear ad;by_cases q1:aa<e
     ·have ae:(aa:Int)<(e:Int):=om
      by_cases q2:e<b
      ·have ag:(e:Int)<(b:Int):=om
       have HD:Hid (decide (aa<e/\e<b)=true):=b0k ⟨q1,q2⟩;(go_wp2_with fail);go_meet
       exact⟨by rw[HD.o],hX⟩
      ·have ag:decide ((e:Int)<(b:Int))=false:=b0j om;have HD:Hid (decide (aa<e/\e<b)=false):=b0j (λq=>q2 q.2);(go_wp2_with fail);go_meet
       exact⟨by rw[HD.o],hX⟩
     ·have ae:decide ((aa:Int)<(e:Int))=false:=b0j om;have HD:Hid (decide (aa<e/\e<b)=false):=b0j (λq=>q1 q.1);(go_wp2_with fail);go_meet
      exact⟨by rw[HD.o],hX⟩
   case rest =>
   clear hX;obtain⟨rfl,hX⟩:=hcut;by_cases q:aa<e/\e<b
   ·as_aux_lemma =>
     have dq:decide (aa<e/\e<b)=true:=b0k q;have HC:=ad.o aa e b _ om hX.o q.1 q.2 om;clear ad;rw[dq];(go_wp2_with fail);refine HC.mono ?_;rintro x w5 ⟨rfl,k1⟩;have HF:Hid (Ro sp g n u w5):=k1;clear k1;(go_wp2_with fail);exact bodyPost_end (results_none results208 _ _ _) rfl ⟨rfl,HF.o⟩
   ·as_aux_lemma =>
     have dq:decide (aa<e/\e<b)=false:=b0j q;clear ad;rw[dq];(go_wp2_with fail);exact bodyPost_end (results_none results208 _ _ _) rfl ⟨rfl,hX.o⟩
theorem wmerge (sp:Array Value) (g n cap:Nat) (u:World) (hn:n<=4398046511104):∀(d a m b:Nat) (w:World),b-a<=d->Ro sp g n u w->a<m->m<b->b<=n ->
  Calls prog 208 #[.slice (some (Pv g 0)) n cap,Iv a,Iv m,Iv b,.func (.func 153) #[] #[]] w λx w'=>x=.returned (.tuple #[])/\Ro sp g n u w':=by
 intro d;induction d with
 | zero=>intro a m b w hd _ h1 h2;omega
 | succ d ih =>
  intro a m b w hd hA h1 h2 h3;by_cases c1:m=a+1
  ·exact wmergeA sp g n cap a m b u w hA hn c1 h2 h3
  ·by_cases c2:b=m+1
   ·exact wmergeB sp g n cap a m b u w hA hn c2 om h3
   ·exact wmergeG sp g n cap a m b u w hA hn om om h3 (λa' m' b' W q1 q2 q3 q4 q5=>ih a' m' b' W om q2 q3 q4 q5)
end Es
namespace Es
theorem wstable (sp:Array Value) (g n cap:Nat) (u w:World) (hA:Ro sp g n u w) (hn:n<=4398046511104) :
  Calls prog 191 #[.slice (some (Pv g 0)) n cap,Iv n,.func (.func 153) #[] #[]] w λx w'=>x=.returned (.tuple #[])/\Ro sp g n u w':=by
 have HA:Hid (Ro sp g n u w):=hA;have ad:Hid (∀(a b:Nat) (W:World),Ro sp g n u W->a<=n->b<=n->Calls prog 207 #[.slice (some (Pv g 0)) n cap,Iv a,Iv b,.func (.func 153) #[] #[]] W λx w'=>x=.returned (.tuple #[])/\Hid (Ro sp g n u w')):=λa b W hW q1 q2=>winsertion sp g n cap a b u W hW hn q1 q2;have aa:Hid (∀(a m b:Nat) (W:World),Ro sp g n u W->a<m->m<b->b<=n->Calls prog 208 #[.slice (some (Pv g 0)) n cap,Iv a,Iv m,Iv b,.func (.func 153) #[] #[]] W λx w'=>x=.returned (.tuple #[])/\Hid (Ro sp g n u w')):=λa m b W hW q1 q2 q3=>wmerge sp g n cap u hn (b-a) a m b W (b0g _) hW q1 q2 q3;clear hA;go_enter func191,ntmps191;(go_wp2_with fail);go_loopw [7,8] (λva vb wr=>∃A B:Nat,B=A+20/\A<=n/\va=Iv A/\vb=Iv B/\Hid (Ro sp g n u wr)) (λva _ _=>n-(intOf va).toNat)
 case atStart=>exact⟨0,20,rfl,om,rfl,rfl,HA⟩
 case round =>
  obtain⟨A,B,hB,lA,rfl,rfl,hX⟩:=hrel;clear HA;by_cases hlt:B<=n
  ·have HC:=ad.o A B wr hX.o lA hlt;obtain⟨B2,ab⟩:=nn (B+20)
   have wB:IntKind.i64.wrap ((B:Int)+20)=(B2:Int):=(by rw[a0t _ om om];omega)
   have lB:(B:Int)<=(n:Int):=om
   have ac:Hid (B2=B+20/\B=A+20):=⟨ab,hB⟩
   clear hX ad aa ab hB;(go_wp2_with fail);refine HC.mono ?_;rintro x w1 ⟨rfl,HF⟩;clear HC;(go_wp2_with fail);exact⟨⟨B,B2,ac.o.1,hlt,rfl,rfl,HF⟩,by have:=ac.o;simp[intOf];omega⟩
  ·have HC:=ad.o A n wr hX.o lA (b0g _);have lB:¬(B:Int)<=(n:Int):=om
   have ah:decide ((B:Int)<=(n:Int))=false:=b0j lB;clear hX ad hB;(go_wp2_with fail);refine HC.mono ?_;rintro x w1 ⟨rfl,H0⟩;clear HC lB ah hlt;(go_wp2_with fail);go_loopw [6] (λvb wr=>∃bs:Nat,0<bs/\bs<=2*n+20/\vb=Iv bs/\Hid (Ro sp g n u wr)) (λvb _=>n-(intOf vb).toNat)
   case atStart=>exact⟨20,om,om,rfl,H0⟩
   case round =>
    obtain⟨bs,pb,ub,rfl,hX⟩:=hrel;clear H0;by_cases hbn:bs<n
    ·obtain⟨D,hD⟩:=nn (2*bs)
     have eD:IntKind.i64.wrap (2*(bs:Int))=(D:Int):=(by rw[a0t _ om om];omega)
     have aj:IntKind.i64.wrap ((bs:Int)*2)=(D:Int):=(by rw[a0t _ om om];omega)
     have ae:(bs:Int)<(n:Int):=om
     have uD:D<=8796093022208:=om
     have ak:D<=2*n:=om
     have pD:bs<D:=om
     clear hD;(go_wp2_with fail);go_loopw [7,8] (λva vb wi=>∃A B:Nat,B=A+D/\A<=n/\va=Iv A/\vb=Iv B/\Hid (Ro sp g n u wi)) (λva _ _=>n-(intOf va).toNat)
     case atStart=>exact⟨0,D,om,om,rfl,rfl,hX⟩
     case round =>
      obtain⟨A,B,hB,lA,rfl,rfl,hY⟩:=hrel;clear hX;obtain⟨M,hM⟩:=nn (A+bs)
      have wM:IntKind.i64.wrap ((A:Int)+(bs:Int))=(M:Int):=(by rw[a0t _ om om];omega)
      by_cases hlt:B<=n
      ·have HC:=aa.o A M B wr hY.o om om hlt;obtain⟨B2,ab⟩:=nn (B+D)
       have wB:IntKind.i64.wrap ((B:Int)+(D:Int))=(B2:Int):=(by rw[a0t _ om om];omega)
       have lB:(B:Int)<=(n:Int):=om
       have ac:Hid (B2=B+D):=ab;have am:A<B:=om
       clear hY hM aa ab hB;(go_wp2_with fail);refine HC.mono ?_;rintro x w2 ⟨rfl,HF⟩;clear HC;(go_wp2_with fail);exact⟨⟨B,B2,ac.o,hlt,rfl,rfl,HF⟩,io⟩
      ·have lB:decide ((B:Int)<=(n:Int))=false:=b0j om;have al:¬(B:Int)<=(n:Int):=om
       by_cases hmn:M<n
       ·have HC:=aa.o A M n wr hY.o om hmn (b0g _);have af:(M:Int)<(n:Int):=om
        clear hY hM aa hB hlt;(go_wp2_with fail);refine HC.mono ?_;rintro x w2 ⟨rfl,HF⟩;clear HC;(go_wp2_with fail);exact⟨⟨D,om,om,rfl,HF⟩,io⟩
       ·have af:decide ((M:Int)<(n:Int))=false:=b0j om;have ag:¬(M:Int)<(n:Int):=om
        clear hM aa hB hlt;(go_wp2_with fail);exact⟨⟨D,om,om,rfl,hY⟩,io⟩
    ·have ae:decide ((bs:Int)<(n:Int))=false:=b0j om;have ai:¬(bs:Int)<(n:Int):=om
     clear aa;(go_wp2_with fail);exact bodyPost_end (results_none results191 _ _ _) rfl ⟨rfl,hX.o⟩
theorem wsortf (sp:Array Value) (g n cap:Nat) (w:World) (hA:Ro sp g n w w) (hn:n<=4398046511104) :
  Calls prog 152 #[.slice (some (Pv g 0)) n cap,.func (.func 153) #[] #[]] w λx w'=>x=.returned (.tuple #[])/\Ro sp g n w w':=by
 have HC:Hid (Calls prog 191 #[.slice (some (Pv g 0)) n cap,Iv n,.func (.func 153) #[] #[]] w λx w'=>x=.returned (.tuple #[])/\Hid (Ro sp g n w w')):=wstable sp g n cap w w hA hn;clear hA;go_enter func152,ntmps152;(go_wp2_with fail);refine HC.o.mono ?_;rintro x w1 ⟨rfl,HF⟩;(go_wp2_with fail);exact bodyPost_end (results_none results152 _ _ _) rfl ⟨rfl,HF.o⟩
end Es
theorem a9p (base:Nat) (v:Value) (l:List En) (w:World) (hl:l.length<=1000) (ho:w.ownsRow base 221 5 v l.length (a3J l)) :
  Calls prog 152 #[v,.func (.func 153) #[] #[]] w λe w'=>e=.returned (.tuple #[])/\∃l':List En,l'.length=l.length/\w'.ownsRow base 221 5 v l'.length (a3J l')/\w.grownBy w' v.ownBlock:=by
 rcases a1G ho with⟨rfl,h0⟩ | ⟨g,cap,sp,rfl,hg,hn,hm,hs,hh⟩
 ·refine(Es.esort_none _ w).mono ?_;rintro e w' ⟨rfl,rfl⟩;exact⟨rfl,l,rfl,ho,rfl,rfl,rfl,b0g _,λ_ _ _=>rfl⟩
 ·refine(Es.wsortf sp g l.length cap w ⟨⟨EL l,hh⟩,Es.But.refl _ _⟩ om).mono ?_;rintro e w' ⟨rfl,⟨f,hf⟩,hb⟩;have e1:((List.range l.length).map f).length=l.length:=(by simp)
  have e2:a0f l.length 5 (λj=>enC (EL ((List.range l.length).map f) j))=a0f l.length 5 (λj=>enC (f j)):=by
   apply a0k
   intro i hi;simp[EL,List.getD,hi]
  refine⟨rfl,(List.range l.length).map f,e1,?_,hb⟩;show w'.ownsRow base _ 5 _ _ (a0f _ 5 _);rw[e1,e2];exact a1H hg hn hm hs hf
def Mid0 (w1 W:World) (G K B:Nat) (l:Lk) (m:Nat):Prop:=∃L,(∀i,(L i).length<=m)/\MidW w1 W G K B l L
def En0 (w1 W:World) (G K m:Nat):Prop:=Below G w1 W/\∃v L,(∀i,(L i).length<=m)/\EnAt W G K v L
theorem a6R {L:Nat->List En}{m i:Nat}(h:∀j,(L j).length<=m) (e:En) (j:Nat):(L j++if j=i then [e] else []).length<=m+1:=by
 have:=h j;rw[List.length_append];split<;>simp<;>omega
theorem a9q {w1 W:World}{G K B:Nat}{l:Lk}{m:Nat}(h:Mid0 w1 W G K B l m):Below G w1 W:=h.choose_spec.2.1
theorem mid_lk {w1 W:World}{G K B:Nat}{l:Lk}{m:Nat}(h:Mid0 w1 W G K B l m):W.heap[B]?=some (.cells (lkA l) 103):=h.choose_spec.2.2.1
theorem pends0 (K:Nat) (bs:Nat->Br) (B1 B2:Nat) (lao:OA) (L lcap:Nat) (ls:Nat->Lk) (w:World) (hK:K<=12) (hL:L<=40) (hA:AmongAt w K bs B1 B2) (av:LRow w lao L lcap ls) (R:Pl.RightL K L ls) :
  Calls prog 150 #[.slice lao L lcap,.pointer (some ⟨B1,0,none⟩),.pointer (some ⟨B2,0,none⟩)] w λe w'=>∃G,e=.returned (.slice (some ⟨G,0,none⟩) K K)/\Bl w w':=by
 obtain⟨IB,vI,hI,aL,ac⟩:=hA;have aQ:=av.1;have HR:Hid (Pl.RightL K L ls):=R;have aC:∀W:World,(Instr.makeSlice 146 (Iv K) (Iv K)).run prog W=.ok (.slice (some ⟨W.heap.size,0,none⟩) K K) (W.alloc (.cells (rowC K 1 (λ_ _=>sN)) 219)):=λW=>a1E W 146 219 sN 1 24 K underlying146 infoEs om rfl om om _ (λ_ j hj=>by rw[show j=0 by omega];rfl);obtain⟨G,HG⟩:=nm w.heap.size
 have aB:w.heap.size<=G:=(by rw[HG.o];exact b0g _)
 have ae:Hid (∀W,Below G w W->(W.cell? ⟨B1,0,none⟩=some (.slice (some ⟨IB,0,none⟩) K K)/\W.cell? ⟨B2,0,none⟩=some (.func (.func 149) #[] #[.pointer (some ⟨B1,0,none⟩)]))/\LRow W lao L lcap ls/\IdsAt W IB K bs vI K/\Bl w W):=λW hW=>by
  rw[HG.o] at hW;exact⟨⟨a9Y W B1 0 _ _ _ (keep aL hW),a9Y W B2 0 _ _ _ (keep ac hW)⟩,CRow.below av hW,hI.below hW,hW⟩
 obtain⟨⟨m0,_⟩,_⟩:=ae.o w (by rw[HG.o];exact b0h _ _);have H0:Hid (En0 w (w.alloc (.cells (rowC K 1 (λ_ _=>sN)) 219)) G K 0):=by
  rw[HG.o];exact⟨bA1 _ _,λ_=>sN,λ_=>[],λ_=>b0g _,a9Z _ _,λi hi=>a0y _ _ _ _ _,λi j _ _ _ q hq=>by cases hq⟩
 have aD:Hid (G<=w.heap.size):=(by rw[HG.o];exact b0g _)
 have au:Hid (∀(W:World) (q:Nat),q<K->W.cell? ⟨B1,0,none⟩=some (.slice (some ⟨IB,0,none⟩) K K)->Calls prog 149 #[Iv q,.pointer (some ⟨B1,0,none⟩)] W λe w'=>e=.returned (.bool true)/\w'=W):=λW q hq hc=>by
  have:=pisb_any (q:Int) B1 IB K W hK hc;rw[b0k om] at this;exact this
 clear av R hI aL ac;go_enter func150,ntmps150;(go_wp2_with fail);rw[<-HG.o];clear m0;go_loopw [16] (λi wr=>∃k:Nat,k<=L/\i=Iv k/\Hid (En0 w wr G K (2*k))) (λi _=>L-(intOf i).toNat)
 case atStart=>exact⟨0,om,rfl,H0⟩
 case round =>
  obtain⟨k,hk,rfl,hX⟩:=hrel;clear H0;by_cases hlt:k<L
  ·obtain⟨hB,v,M,hM,hE⟩:=hX.o;obtain⟨_,f2,f3,_⟩:=ae.o wr hB;obtain⟨lb,aV,rfl,_⟩:=CRow.some f2 om;obtain⟨c0,c1,c2,c3,c4,c5⟩:=LRow.cells f2 hlt;obtain⟨o1,o2,o3,_⟩:=HR.o.ok k hlt;obtain⟨na,aH⟩:∃na:Nat,(ls k).a=na:=⟨(ls k).a.toNat,om⟩
   obtain⟨nb,aI⟩:∃nb:Nat,(ls k).b=nb:=⟨(ls k).b.toNat,om⟩
   have ha:na<K:=om
   have hb:nb<K:=om
   obtain⟨B,ag⟩:=nm wr.heap.size
   have am:G<wr.heap.size:=(gSm.1 hE.blk).1;have af:Hid (Mid0 w (wr.alloc (.cells (lkA (ls k)) 103)) G K B (ls k) (2*k)):=by
    refine⟨M,hM,hB.trans ((bA1 wr _).mono (Nat.le_of_lt am)),by rw[ag.o];exact a9Z _ _,by rw[ag.o];omega,v,hE.below (bA1 _ _),λi hi p => ?_⟩;have:=(oCb (hE.own i hi) B p).2;rw[ag.o] at this;omega
   obtain⟨lv,aq⟩:=nm ((ls k).up&&decide (a1q 50 (bs na).reg.id=a1q 50 (bs nb).reg.id))
   have ap:Hid (2*k+2<=1000):=by have:k<L:=hlt;exact(by omega:2*k+2<=1000)
   have aW:(0:Int)<=(na:Int):=om
   have aX:(na:Int)<(K:Int):=om
   have aZ:(0:Int)<=(nb:Int):=om
   have aY:(nb:Int)<(K:Int):=om
   clear hX hB hE hM f2 f3 o1 o2 o3 am;generalize ls k=l at *;obtain⟨a,pa,b,pb,c,up⟩:=l;simp only at aH aI c0 c1 c2 c3 c4 c5 aq;subst aH;subst aI;simp only[lkA] at af;obtain⟨⟨ao,aN⟩,_⟩:=ae.o _ (a9q af.o);have az:Hid (Calls prog 149 #[Iv na,.pointer (some ⟨B1,0,none⟩)] (wr.alloc (.cells #[Iv na,Iv pa,Iv nb,Iv pb,Iv c,.bool up] 103)) λe w'=>e=.returned (.bool true)/\w'=(wr.alloc (.cells #[Iv na,Iv pa,Iv nb,Iv pb,Iv c,.bool up] 103))):=au.o _ na ha ao;have aG:Hid (Calls prog 149 #[Iv nb,.pointer (some ⟨B1,0,none⟩)] (wr.alloc (.cells #[Iv na,Iv pa,Iv nb,Iv pb,Iv c,.bool up] 103)) λe w'=>e=.returned (.bool true)/\w'=(wr.alloc (.cells #[Iv na,Iv pa,Iv nb,Iv pb,Iv c,.bool up] 103))):=au.o _ nb hb ao;obtain⟨y0,y1,y2,y3,y4,y5⟩:=a1s (mid_lk af.o);rw[ag.o] at y0 y1 y2 y3 y4 y5;go_wp2_with (go_at_call 149;(first | (with_reducible refine az.o.mono ?_) | (with_reducible refine aG.o.mono ?_));rintro e w3 ⟨rfl,rfl⟩)
   rw[<-ag.o];clear y0 y1 y2 y3 y4 y5 ao aN az aG au;go_cut [7,8] (λs6 s7 wx=>s6=.pointer (some ⟨B,0,none⟩)/\s7=.bool lv/\Hid (Mid0 w wx G K B ⟨na,pa,nb,pb,c,up⟩ (2*k)))
   case first =>
    obtain⟨Z,HZ⟩:=nm (wr.alloc (.cells #[Iv na,Iv pa,Iv nb,Iv pb,Iv c,.bool up] 103))
    rw[<-HZ.o] at af ⊢;have an:=af.o;obtain⟨⟨ao,_⟩,_,g3,_⟩:=ae.o Z (a9q an);obtain⟨q0,q1,q2,q3,q4,q5⟩:=a1s (mid_lk an);have aK:Hid (∀j,Mid0 w (Z.drewN j) G K B ⟨na,pa,nb,pb,c,up⟩ (2*k)):=λj=>by
     obtain⟨M,h1,h2⟩:=an;exact⟨M,h1,h2.below (a0d (b0h _ _) j)⟩
    have eA:(⟨IB,na,none⟩:Addr)=⟨IB,na*1+0,none⟩:=(by simp)
    have eB:(⟨IB,nb,none⟩:Addr)=⟨IB,nb*1+0,none⟩:=(by simp)
    have ca:Z.cell? ⟨IB,na,none⟩=some (vI na):=(by rw[eA];exact a0C g3.1 ha om)
    have cb:Z.cell? ⟨IB,nb,none⟩=some (vI nb):=(by rw[eB];exact a0C g3.1 hb om)
    obtain⟨ab,ar,aM,xa,ra,_⟩:=g3.2 na ha;obtain⟨bb,ay,aU,xb,rb,_⟩:=g3.2 nb hb;rw[xa] at ca;rw[xb] at cb;have aR:Hid (∀m,Calls prog 151 #[.slice (some ⟨ab,ar,none⟩) 50 aM,.slice (some ⟨bb,ay,none⟩) 50 aU] (Z.drewN m) λe w'=>e=.returned (.bool (decide (a1q 50 (bs na).reg.id=a1q 50 (bs nb).reg.id)))/\w'=Z.drewN m):=λm=>a7l _ _ 50 _ 50 _ _ _ (Z.drewN m) (ra.below (a0d (b0h _ _) m)) (λh=>by cases h) (rb.below (a0d (b0h _ _) m)) (λh=>by cases h);clear an g3 ra rb xa xb eA eB af ae;generalize decide (a1q 50 (bs na).reg.id=a1q 50 (bs nb).reg.id)=D at *;cases up with
    | true =>
     have ax:lv=D:=(by rw[aq.o,Bool.true_and])
     go_quiet (first | (go_at_call 151;exact Calls.quiet_of_same (aR.o _)))
     (all_goals go_wp2_with fail);all_goals go_meet
     all_goals (refine⟨rfl,?_,?_⟩;(rw[ax]);exact aK.o _)
    | false =>
     have ax:lv=false:=(by rw[aq.o,Bool.false_and])
     (go_quiet (fail));(go_wp2_with fail);go_meet
     refine⟨rfl,?_,?_⟩
     ·rw[ax]
     ·exact aK.o _
   case rest =>
   obtain⟨rfl,rfl,HM⟩:=hcut;clear af c0 c1 c2 c3 c4 c5 ag aq;have ad:Hid (∀W:World,W.heap[B]?=some (.cells (lkA ⟨na,pa,nb,pb,c,up⟩) 103)->(W.cell? ⟨B,0,none⟩=some (Iv na)/\W.cell? ⟨B,1,none⟩=some (Iv pa)/\W.cell? ⟨B,2,none⟩=some (Iv nb)/\W.cell? ⟨B,3,none⟩=some (Iv pb))/\W.cell? ⟨B,4,none⟩=some (Iv c)):=λW h=>by
    obtain⟨q0,q1,q2,q3,q4,q5⟩:=a1s h;exact⟨⟨q0,q1,q2,q3⟩,q4⟩
   (go_wp2_with fail);go_cut [7,8] (λs6 s7 wx=>s6=.pointer (some ⟨B,0,none⟩)/\s7=.bool lv/\Hid (Mid0 w wx G K B ⟨na,pa,nb,pb,c,up⟩ (2*k+1)))
   case first =>
    obtain⟨M,hM,ak⟩:=HM.o;obtain⟨x,vo,vn,vc,w2,hW,r,s1,s2,ac,al,aw,hN⟩:=a4o ak na ha ⟨pa,c,nb,pb,lv⟩ (by have:=hM na;have:=ap.o;omega);have HN:Hid (Mid0 w (w2.setCell ⟨G,na,none⟩ (.slice vo vn vc)) G K B ⟨na,pa,nb,pb,c,up⟩ (2*k+1)):=⟨_,a6R hM _,hN⟩
    have HW:Hid (∀W,Bl wc W->W.cell? ⟨G,na,none⟩=some x/\((W.cell? ⟨B,0,none⟩=some (Iv na)/\W.cell? ⟨B,1,none⟩=some (Iv pa)/\W.cell? ⟨B,2,none⟩=some (Iv nb)/\W.cell? ⟨B,3,none⟩=some (Iv pb))/\W.cell? ⟨B,4,none⟩=some (Iv c))):=λW h=>⟨(hW W h).1,ad.o W (hW W h).2⟩
    have ai:Hid _:=ad.o w2 ac;have aj:Hid _:=ad.o _ al;have g0:=(hW wc (b0h _ _)).1;have g1:∀o,(wc.alloc o).cell? ⟨G,na,none⟩=some x:=λo=>(hW _ ((b0h _ _).alloc (b0g _) o)).1;simp only at r;have ah:Hid _:=r;clear r hN hW ac al aw hM ak HM ap ae HR ad;clear aC HG aD aB;refine wp_region_held_drew (S:=λW=>(W.cell? ⟨B,0,none⟩=some (Iv na)/\W.cell? ⟨B,1,none⟩=some (Iv pa)/\W.cell? ⟨B,2,none⟩=some (Iv nb)/\W.cell? ⟨B,3,none⟩=some (Iv pb))/\W.cell? ⟨B,4,none⟩=some (Iv c)) kr (HW.o _ (b0i (b0h _ _))).2 (λaa => ?_);refine a0l 0 47 aa ?_;(try simp only[aP])
    refine a0l 1 48 aa ?_;(try simp only[aP])
    refine a0l 2 49 aa ?_;(try simp only[aP])
    refine a0l 3 50 aa ?_;(try simp only[aP])
    refine a0l 4 51 aa ?_;(try simp only[aP])
    refine a0l 5 52 aa ?_;(try simp only[aP])
    refine a0l 6 53 aa ?_;(try simp only[aP])
    refine a0l 8 55 aa ?_;(try simp only[aP])
    refine a0l 9 56 aa ?_;(try simp only[aP])
    refine a0l 10 57 aa ?_;(try simp only[aP])
    refine a0l 11 58 aa ?_;(try simp only[aP])
    refine a0l 12 59 aa ?_;(try simp only[aP])
    refine a0l 13 60 aa ?_;(try simp only[aP])
    refine a0l 14 61 aa ?_;(try simp only[aP])
    refine a0l 15 62 aa ?_;(try simp only[aP])
    refine a0l 16 63 aa ?_;(try simp only[aP])
    refine a0l 17 64 aa ?_;(try simp only[aP])
    refine wpAnyH_ready (rs:=[7,18]) kr (by simp) ?_;refine AllReadyH.cons rfl (λK hK => ?_) (AllReadyH.cons rfl (λK hK => ?_) AllReadyH.nil)
    ·go_simp;refine hK.out _ _ aa (λaa => ?_);clear hK K;(try simp only[aP])
     refine a1N 18 (λK hK=>?_);go_simp;refine hK.out _ _ (HW.o _ ((b0i (b0h _ _)).alloc (b0g _) _)).2 (λaa => ?_);clear hK K;(try simp only[aP])
     refine a1N 19 (λK hK=>?_);refine a0Y (some 66) rfl rfl (.tmp 54) (.tmp 65) 219 rfl _ _ _ rfl rfl ah.o ?_;refine hK.out _ _ ai.o (λaa => ?_);clear hK K;(try simp only[aP])
     refine a0l 20 67 aa ?_;(try simp only[aP])
     refine a1N 21 (λK hK=>?_);go_simp;refine hK.out _ _ aj.o (λaa => ?_);clear hK K;refine wpAnyH_done kr ?_ _;(go_wp2_with fail);go_meet
     exact⟨rfl,rfl,HN⟩
    ·go_simp;refine hK.out _ _ (HW.o _ ((b0i (b0h _ _)).alloc (b0g _) _)).2 (λaa => ?_);clear hK K;(try simp only[aP])
     refine a1N 7 (λK hK=>?_);go_simp;refine hK.out _ _ aa (λaa => ?_);clear hK K;(try simp only[aP])
     refine a1N 19 (λK hK=>?_);refine a0Y (some 66) rfl rfl (.tmp 54) (.tmp 65) 219 rfl _ _ _ rfl rfl ah.o ?_;refine hK.out _ _ ai.o (λaa => ?_);clear hK K;(try simp only[aP])
     refine a0l 20 67 aa ?_;(try simp only[aP])
     refine a1N 21 (λK hK=>?_);go_simp;refine hK.out _ _ aj.o (λaa => ?_);clear hK K;refine wpAnyH_done kr ?_ _;(go_wp2_with fail);go_meet
     exact⟨rfl,rfl,HN⟩
   case rest =>
   obtain⟨rfl,rfl,aJ⟩:=hcut;clear HM;(go_wp2_with fail);obtain⟨M,hM,ak⟩:=aJ.o;obtain⟨x,vo,vn,vc,w2,hW,r,s1,s2,ac,al,aw,hN⟩:=a4o ak nb hb ⟨pb,c,na,pa,lv⟩ (by have:=hM nb;have:=ap.o;omega);have HN:Hid (En0 w (w2.setCell ⟨G,nb,none⟩ (.slice vo vn vc)) G K (2*(k+1))):=by
    obtain⟨h1,_,_,v,h4,_⟩:=hN;exact⟨h1,v,_,a6R hM _,h4⟩
   have HW:Hid (∀W,Bl wc W->W.cell? ⟨G,nb,none⟩=some x/\((W.cell? ⟨B,0,none⟩=some (Iv na)/\W.cell? ⟨B,1,none⟩=some (Iv pa)/\W.cell? ⟨B,2,none⟩=some (Iv nb)/\W.cell? ⟨B,3,none⟩=some (Iv pb))/\W.cell? ⟨B,4,none⟩=some (Iv c))):=λW h=>⟨(hW W h).1,ad.o W (hW W h).2⟩
   have ai:Hid _:=ad.o w2 ac;have aj:Hid _:=ad.o _ al;have g0:=(hW wc (b0h _ _)).1;have g1:∀o,(wc.alloc o).cell? ⟨G,nb,none⟩=some x:=λo=>(hW _ ((b0h _ _).alloc (b0g _) o)).1;simp only at r;have ah:Hid _:=r;clear r hN hW ac al aw hM ak aJ ap ae HR ad;clear aC HG aD aB;refine wp_region_held_drew (S:=λW=>(W.cell? ⟨B,0,none⟩=some (Iv na)/\W.cell? ⟨B,1,none⟩=some (Iv pa)/\W.cell? ⟨B,2,none⟩=some (Iv nb)/\W.cell? ⟨B,3,none⟩=some (Iv pb))/\W.cell? ⟨B,4,none⟩=some (Iv c)) kr (HW.o _ (b0i (b0h _ _))).2 (λaa => ?_);refine a0l 0 68 aa ?_;(try simp only[aP])
   refine a0l 1 69 aa ?_;(try simp only[aP])
   refine a0l 2 70 aa ?_;(try simp only[aP])
   refine a0l 3 71 aa ?_;(try simp only[aP])
   refine a0l 4 72 aa ?_;(try simp only[aP])
   refine a0l 5 73 aa ?_;(try simp only[aP])
   refine a0l 6 74 aa ?_;(try simp only[aP])
   refine a0l 8 76 aa ?_;(try simp only[aP])
   refine a0l 9 77 aa ?_;(try simp only[aP])
   refine a0l 10 78 aa ?_;(try simp only[aP])
   refine a0l 11 79 aa ?_;(try simp only[aP])
   refine a0l 12 80 aa ?_;(try simp only[aP])
   refine a0l 13 81 aa ?_;(try simp only[aP])
   refine a0l 14 82 aa ?_;(try simp only[aP])
   refine a0l 15 83 aa ?_;(try simp only[aP])
   refine a0l 16 84 aa ?_;(try simp only[aP])
   refine a0l 17 85 aa ?_;(try simp only[aP])
   refine wpAnyH_ready (rs:=[7,18]) kr (by simp) ?_;refine AllReadyH.cons rfl (λK hK => ?_) (AllReadyH.cons rfl (λK hK => ?_) AllReadyH.nil)
   ·go_simp;refine hK.out _ _ aa (λaa => ?_);clear hK K;(try simp only[aP])
    refine a1N 18 (λK hK=>?_);go_simp;refine hK.out _ _ (HW.o _ ((b0i (b0h _ _)).alloc (b0g _) _)).2 (λaa => ?_);clear hK K;(try simp only[aP])
    refine a1N 19 (λK hK=>?_);refine a0Y (some 87) rfl rfl (.tmp 75) (.tmp 86) 219 rfl _ _ _ rfl rfl ah.o ?_;refine hK.out _ _ ai.o (λaa => ?_);clear hK K;(try simp only[aP])
    refine a0l 20 88 aa ?_;(try simp only[aP])
    refine a1N 21 (λK hK=>?_);go_simp;refine hK.out _ _ aj.o (λaa => ?_);clear hK K;refine wpAnyH_done kr ?_ _;(go_wp2_with fail);exact⟨⟨k+1,om,gn,HN⟩,io⟩
   ·go_simp;refine hK.out _ _ (HW.o _ ((b0i (b0h _ _)).alloc (b0g _) _)).2 (λaa => ?_);clear hK K;(try simp only[aP])
    refine a1N 7 (λK hK=>?_);go_simp;refine hK.out _ _ aa (λaa => ?_);clear hK K;(try simp only[aP])
    refine a1N 19 (λK hK=>?_);refine a0Y (some 87) rfl rfl (.tmp 75) (.tmp 86) 219 rfl _ _ _ rfl rfl ah.o ?_;refine hK.out _ _ ai.o (λaa => ?_);clear hK K;(try simp only[aP])
    refine a0l 20 88 aa ?_;(try simp only[aP])
    refine a1N 21 (λK hK=>?_);go_simp;refine hK.out _ _ aj.o (λaa => ?_);clear hK K;refine wpAnyH_done kr ?_ _;(go_wp2_with fail);exact⟨⟨k+1,om,gn,HN⟩,io⟩
  ·obtain rfl:k=L:=om
   have HX:Hid (En0 w wr G K 1000):=by
    obtain⟨hB,v,M,hM,hE⟩:=hX.o;exact⟨hB,v,M,λi=>by have:=hM i;omega,hE⟩
   clear hX;(go_wp2_with fail);go_loopw [92] (λi wr=>∃j:Nat,j<=K/\i=Iv j/\Hid (En0 w wr G K 1000)) (λi _=>K-(intOf i).toNat)
   case atStart=>exact⟨0,om,rfl,HX⟩
   case round =>
    obtain⟨j,hj,rfl,hY⟩:=hrel;clear HX;by_cases hlt2:j<K
    ·obtain⟨hB,v,M,hM,hE⟩:=hY.o;have eA:(⟨G,j,none⟩:Addr)=⟨G,j*1+0,none⟩:=(by simp)
     have ca:wr.cell? ⟨G,j,none⟩=some (v j):=(by rw[eA];exact a0C hE.blk hlt2 om)
     have aE:Hid (Calls prog 152 #[v j,.func (.func 153) #[] #[]] wr λe w'=>e=.returned (.tuple #[])/\Hid (En0 w w' G K 1000)):=by
      have aF:G<wr.heap.size:=(gSm.1 hE.blk).1;refine(a9p (G+1) (v j) (M j) wr (hM j) (hE.own j hlt2)).mono ?_;rintro e w' ⟨rfl,l',z1,z2,z3⟩;have aO:(v j).ownBlock≠some G:=λq=>by have:=(oCb (hE.own j hlt2) G q).1;omega
      refine⟨rfl,hB.grown z3 (Nat.le_of_lt aF) (λq hq => ?_),v,λi=>if i=j then l' else M i,λi => ?_,(z3.block G aF (λq=>aO q.symm)).trans hE.blk,λi hi => ?_,hE.apart⟩
      ·have:=(oCb (hE.own j hlt2) q hq).1;omega
      ·show(if i=j then l' else M i).length<=1000;by_cases q:i=j
       ·rw[iP q,z1];exact hM j
       ·rw[iN q];exact hM i
      ·by_cases q:i=j
       ·subst q;simp only[if_true];exact z2
       ·simp only[iN q];exact a2L (hE.own i hi) z3 (λp hp r=>hE.apart i j hi hlt2 q p hp r)
     have i0:(0:Int)<=(j:Int):=om
     have i1:(j:Int)<(K:Int):=om
     clear hY hB hE hM eA HR;(go_wp2_with fail);refine aE.o.mono ?_;rintro e w2 ⟨rfl,HN⟩;clear aE;(go_wp2_with fail);exact⟨⟨j+1,om,gn,HN⟩,io⟩
    ·obtain rfl:j=K:=om
     have aT:Hid (Bl w wr):=(ae.o wr hY.o.1).2.2.2;(go_wp2_with fail);go_ret;exact⟨G,rfl,aT.o⟩
def New0 (w:World) (n:Net) (T:Nat) (e:Ending) (w':World):Prop :=
 ∃S ba bc la lc oa oc f g,e=.returned (.pointer (some (Pv S 0)))/\w.heap.size<=S/\w'.heap[S]?=some (.cells #[.slice ba n.K bc,.slice la n.L lc,.slice oa T oc,f,g] 148)/\Bl w w'
theorem a7W (n:Net) (t:List Tr) (oao:OA) (ocap:Nat) (w:World) (hR:n.Right) (hT:t.length<=4) (ae:∀k,k<t.length->(tat t k).l.length<=100000/\∀i,i<(tat t k).l.length->(mat (tat t k).l i).ports.length<=100000/\(mat (tat t k).l i).roles.length<=100000/\(mat (tat t k).l i).calm.length<=100000) (ar:n.at' w) (au:TrRow w oao ocap t) (ht:Tabs w) (ai:2<=w.heap.size) :
  Calls prog 67 #[n.val,.agg #[.slice oao t.length ocap]] w λe w'=>New0 w n t.length e w':=by
 obtain⟨X,HX⟩:=nm ((w.alloc (.cells #[.slice n.bao n.K n.bcap,.slice n.lao n.L n.lcap] 25)).alloc (.cells #[.slice oao t.length ocap] 34))
 have ab:Bl w X:=(by rw[HX.o];exact bA2 _ _ _)
 have aj:X.heap[w.heap.size]?=some (.cells #[.slice n.bao n.K n.bcap,.slice n.lao n.L n.lcap] 25):=(by rw[HX.o];exact b0d _ _ _)
 have ak:X.heap[w.heap.size+1]?=some (.cells #[.slice oao t.length ocap] 34):=(by rw[HX.o];exact b0c _ _ _)
 obtain⟨c0,c1⟩:=tC2 aj;have c2:=a0x ak;have af:=ar.below ab;have ap:=a7v n.bao n.K n.bcap n.bs X hR.few af.brs af.each hR.fine (ht.below ab ai) (b0p ai ab.size);have ad:Hid (∀V,Bl X V->((V.cell? (Pv w.heap.size 0)=some (.slice n.bao n.K n.bcap)/\V.cell? (Pv w.heap.size 1)=some (.slice n.lao n.L n.lcap))/\V.cell? (Pv (w.heap.size+1) 0)=some (.slice oao t.length ocap))/\n.at' V/\TrRow V oao ocap t):=λV hV=>⟨⟨tC2 (keep aj hV),a0x (keep ak hV)⟩,af.below hV,(au.below ab).below hV⟩
 have aq:Hid (Calls prog 102 #[.slice n.bao n.K n.bcap] X λe w'=>∃B1 B2,e=.returned (.func (.func 150) #[] #[.pointer (some (Pv B1 0)),.pointer (some (Pv B2 0))])/\Hid (AmongAt w' n.K n.bs B1 B2/\Bl X w')):=ap;have HR:Hid n.Right:=hR;have al:Hid (Bl w X):=ab;have am:Hid (t.length<=100000/\∀k,k<t.length->(tat t k).l.length<=100000/\∀i,i<(tat t k).l.length->(mat (tat t k).l i).ports.length<=100000/\(mat (tat t k).l i).roles.length<=100000/\(mat (tat t k).l i).calm.length<=100000):=⟨om,ae⟩
 clear hR hT ae ar au ht ai ab aj ak af ap;unfold Net.val;go_enter func67,ntmps67;(go_wp2_with fail);rw[<-HX.o];refine aq.o.mono ?_;rintro e w1 ⟨B1,B2,rfl,H1⟩;clear aq c0 c1 c2;have ac:Hid (∀V,Bl w1 V->Bl X V):=λV hV=>H1.o.2.trans (hV.mono H1.o.2.size);have aw:Hid (∀V,Bl w1 V->Calls prog 103 #[.agg #[.slice n.bao n.K n.bcap,.slice n.lao n.L n.lcap]] V λe w'=>∃ba bc la lc,e=.returned (.agg #[.slice ba n.K bc,.slice la n.L lc])/\Hid (Bl w1 w')):=λV hV=>by
  refine(tcopnet0 n V HR.o.few HR.o.fewL (λi hi => ?_) (ad.o V (ac.o V hV)).2.1).mono ?_
  ·have hf:=HR.o.fine i hi;exact⟨by have:=hf.few;omega,by have:=vids_few hf.reg.2.2;omega⟩
  rintro e w' ⟨ba,bc,la,lc,rfl,h2⟩;exact⟨ba,bc,la,lc,rfl,hV.trans (h2.mono hV.size)⟩
 have ax:Hid (∀V,Bl w1 V->Calls prog 104 #[.agg #[.slice oao t.length ocap]] V λe w'=>∃oa oc,e=.returned (.agg #[.slice oa t.length oc])/\Hid (Bl w1 w')):=λV hV=>by
  refine(a9o t oao ocap V am.o.1 am.o.2 (ad.o V (ac.o V hV)).2.2).mono ?_;rintro e w' ⟨oa,oc,rfl,h2⟩;exact⟨oa,oc,rfl,hV.trans (h2.mono hV.size)⟩
 have av:Hid (∀V,Bl w1 V->Calls prog 150 #[.slice n.lao n.L n.lcap,.pointer (some (Pv B1 0)),.pointer (some (Pv B2 0))] V λe w'=>∃G,e=.returned (.slice (some (Pv G 0)) n.K n.K)/\Hid (Bl w1 w')):=λV hV=>by
  refine(pends0 n.K n.bs B1 B2 n.lao n.L n.lcap n.ls V HR.o.few HR.o.fewL (H1.o.1.below hV) (ad.o V (ac.o V hV)).2.1.lks HR.o.links).mono ?_;rintro e w' ⟨G,rfl,h3⟩;exact⟨G,rfl,hV.trans (h3.mono hV.size)⟩
 have an:Hid (∀V,Bl w1 V->(V.cell? (Pv w.heap.size 0)=some (.slice n.bao n.K n.bcap)/\V.cell? (Pv w.heap.size 1)=some (.slice n.lao n.L n.lcap))/\V.cell? (Pv (w.heap.size+1) 0)=some (.slice oao t.length ocap)):=λV hV=>(ad.o V (ac.o V hV)).1;have ag:Hid (∀V m,Bl w1 V->Bl w1 (V.drewN m)):=λV m h=>a0d h m;have ah:Hid (∀V,Bl w1 V->Bl w1 V.drew):=λV h=>b0i h;have ao:Hid (Bl w1 w1):=b0h _ _;obtain⟨⟨c0,c1⟩,c2⟩:=an.o w1 (b0h _ _);have aa:Hid (∀(ba:OA) (bc:Nat) (la:OA) (lc:Nat) (oa:OA) (oc:Nat) (f g:Value) (W:World),Bl w1 W->New0 w n t.length (.returned (.pointer (some (Pv W.heap.size 0)))) (W.alloc (.cells #[.slice ba n.K bc,.slice la n.L lc,.slice oa t.length oc,f,g] 148))):=λba bc la lc oa oc f g W hW=>by
  have d:=al.o.trans ((ac.o W hW).mono al.o.size);exact⟨_,ba,bc,la,lc,oa,oc,f,g,rfl,d.size,a9Z _ _,d.trans ((bA1 _ _).mono d.size)⟩
 clear ad HR al am ac H1;(go_wp2_with fail);go_region_with (first | (go_at_call 103;refine(aw.o _ (by first | exact ao.o | exact ah.o _ ao.o | exact ag.o _ _ ao.o)).mono ?_;rintro e w2 ⟨ba,bc,la,lc,rfl,H2⟩;obtain⟨⟨d0,d1⟩,d2⟩:=an.o w2 H2.o) | (go_at_call 104;refine(ax.o _ (by first | exact H2.o | exact ah.o _ H2.o | exact ag.o _ _ H2.o)).mono ?_;rintro e w3 ⟨oa,oc,rfl,H3⟩;obtain⟨⟨f0,f1⟩,f2⟩:=an.o w3 H3.o) | (go_at_call 150;refine(av.o _ (by first | exact H3.o | exact ah.o _ H3.o | exact ag.o _ _ H3.o)).mono ?_;rintro e w4 ⟨G,rfl,H4⟩))
 (all_goals go_wp2_with fail);(all_goals go_ret);all_goals first | exact aa.o _ _ _ _ _ _ _ _ _ H4.o | exact aa.o _ _ _ _ _ _ _ _ _ (ah.o _ H4.o) | exact aa.o _ _ _ _ _ _ _ _ _ (ag.o _ _ H4.o)
