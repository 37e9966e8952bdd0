/- EQ6 -/
import Derived.Test.YtelebnancdjjiaaGreatDoorE23
set_option maxRecDepth 100000
set_option maxHeartbeats 40000000
namespace Go.Proofs.YtelebnancdjjiaaGreatDoor
section
open Go.Proofs.Tryz Go.RowKit
open Pl(En Br Net Pc Lk)
open Vc(V Of)
namespace Es
theorem wmergeG (sp:Array Value) (g n cap a m b:Nat) (u w:World) (hA:Ro sp g n u w) (hn:n<=4398046511104) (h0:a+1<m) (h1:m+1<b) (h2:b<=n)
  (ih:∀(a' m' b':Nat) (W:World),b'-a'<b-a->Ro sp g n u W->a'<m'->m'<b'->b'<=n->Calls prog 208 #[.slice (some (Pv g 0)) n cap,Iv a',Iv m',Iv b',.func (.func 153) #[] #[]] W λx w'=>x=.returned (.tuple #[])/\Ro sp g n u w') :
  Calls prog 208 #[.slice (some (Pv g 0)) n cap,Iv a,Iv m,Iv b,.func (.func 153) #[] #[]] w λx w'=>x=.returned (.tuple #[])/\Ro sp g n u w':=by
 have HA:Hid (Ro sp g n u w):=hA;have ad:Hid (∀(a' m' b':Nat) (W:World),b'-a'<b-a->Ro sp g n u W->a'<m'->m'<b'->b'<=n->Calls prog 208 #[.slice (some (Pv g 0)) n cap,Iv a',Iv m',Iv b',.func (.func 153) #[] #[]] W λx w'=>x=.returned (.tuple #[])/\Ro sp g n u w'):=ih;obtain⟨d1,az⟩:∃d,d=m-a:=⟨_,rfl⟩
 have w1:IntKind.i64.wrap ((m:Int)-(a:Int))=(d1:Int):=(by rw[a0t _ om om];omega)
 have k1:((d1:Int) == 1)=false:=(by simp;omega)
 obtain⟨d2,av⟩:∃d,d=b-m:=⟨_,rfl⟩
 have w2:IntKind.i64.wrap ((b:Int)-(m:Int))=(d2:Int):=(by rw[a0t _ om om];omega)
 have k2:((d2:Int) == 1)=false:=(by simp;omega)
 obtain⟨aa,al⟩:=nn ((a+b)/2)
 have aD:((a:Int)+(b:Int))/2=(aa:Int):=om
 have m1:a+b<=2*aa+1:=om
 have m2:2*aa<=a+b:=om
 obtain⟨N,hN⟩:=nn (aa+m)
 have eN:IntKind.i64.wrap ((aa:Int)+(m:Int))=(N:Int):=(by rw[a0t _ om om];omega)
 obtain⟨p,hp⟩:=nn (N-1)
 have ep:IntKind.i64.wrap ((N:Int)-1)=(p:Int):=(by rw[a0t _ om om];omega)
 have af:Hid (N=aa+m/\p=N-1):=⟨hN,hp⟩
 obtain⟨lo,hi,ac⟩:∃lo hi:Nat,(aa<m/\lo+b=N/\hi=aa)\/(m<=aa/\lo=a/\hi=m):=by
  by_cases q:aa<m
  ·exact⟨N-b,aa,Or.inl ⟨q,om,rfl⟩⟩
  ·exact⟨a,m,Or.inr ⟨om,rfl,rfl⟩⟩
 have ab:Hid ((aa<m/\lo+b=N/\hi=aa)\/(m<=aa/\lo=a/\hi=m)):=ac;have HR:Hid (a<=lo/\lo<=hi/\hi<=m/\hi<=aa/\N<=lo+b/\∀c,lo<=c->c<hi->p-c<b/\c<=p):=by
  rcases ac with⟨q1,q2,q3⟩ | ⟨q1,q2,q3⟩<;>exact⟨om,om,om,om,om,λc c1 c2=>⟨om,om⟩⟩
 have m3:aa<b:=om
 have m4:a<aa:=om
 clear hA ih az av al hN hp ac;go_enter func208,ntmps208;go_upto_if 140 with fail
 go_cut [20,21] (λaB au wx=>aB=Iv lo/\au=Iv hi/\Hid (Ro sp g n u wx))
 case first =>
  as_aux_lemma =>
   rcases ab.o with⟨q1,q2,q3⟩ | ⟨q1,q2,q3⟩
   ·have ae:(aa:Int)<(m:Int):=om
    have ak:=af.o.1;have el:IntKind.i64.wrap ((N:Int)-(b:Int))=(lo:Int):=(by rw[a0t _ om om];omega)
    have HI:Hid (hi=aa):=q3;clear q2 q3 ab HR af ak;(go_wp2_with fail);go_meet
    exact⟨rfl,by rw[HI.o],HA⟩
   ·have ae:¬(aa:Int)<(m:Int):=om
    have aI:decide ((aa:Int)<(m:Int))=false:=b0j ae;have HI:Hid (lo=a/\hi=m):=⟨q2,q3⟩
    clear q2 q3 ab HR af;(go_wp2_with fail);go_meet
    exact⟨by rw[HI.o.1],by rw[HI.o.2],HA⟩
 case rest =>
 obtain⟨rfl,rfl,am⟩:=hcut;clear HA ab;(go_wp2_with fail);go_loopw [20,21] (λx y wr=>∃i j:Nat,lo<=i/\i<=j/\j<=hi/\x=Iv i/\y=Iv j/\Hid (Ro sp g n u wr)) (λx y _=>(intOf y-intOf x).toNat)
 case atStart=>exact⟨lo,hi,om,HR.o.2.1,om,rfl,rfl,am⟩
 case round =>
  obtain⟨i,j,li,aG,uj,rfl,rfl,hX⟩:=hrel;clear am;by_cases hlt:i<j
  ·as_aux_lemma =>
     obtain⟨h,hh⟩:=nn ((i+j)/2)
     have eh:((i:Int)+(j:Int))/2=(h:Int):=om
     have l1:i<=h:=om
     have l2:h<j:=om
     clear hh;have aw:(i:Int)<(j:Int):=om
     obtain⟨r4,r5⟩:=HR.o.2.2.2.2.2 h om om;have aE:p<9223372036854775807:=(by have:=af.o;omega)
     have aF:h<n:=(by have:=HR.o;omega)
     obtain⟨q,hq⟩:=nn (p-h)
     have wq:IntKind.i64.wrap ((p:Int)-(h:Int))=(q:Int):=(by rw[a0t _ om om];omega)
     have iq:(0:Int)<=(q:Int):=om
     have ih:(0:Int)<=(h:Int):=om
     have aH:q<n:=om
     have aJ:(q:Int)<(n:Int):=om
     have nh:(h:Int)<(n:Int):=om
     obtain⟨⟨F,hF⟩,hB⟩:=hX.o;have ah:Hid (∀W,Bl wr W->_):=two_ec hF (show q<n by omega) (show h<n by omega);have ao:Hid (∀W,Bl wr W->Ro sp g n u W):=ro_low hX.o;have ai:Hid (Bl wr wr):=b0h _ _;obtain⟨⟨c0,c1,c2,c3,c4⟩,d0,ay,ax,d3,d4⟩:=ah.o wr ai.o;clear hX hF hB hq r4 r5;generalize F q=x at *;generalize F h=y at *;have aj:Hid (∀W,Bl wr W->_):=wcmp x y wr;obtain⟨CV,aq⟩:∃CV,Ec.cmp x y=CV:=⟨_,rfl⟩
     rw[aq] at aj;clear aq;by_cases hc:CV<0
     case' pos=>have aC:decide (CV<0)=true:=b0k hc
     case' neg=>have aC:decide (CV<0)=false:=b0j hc
     all_goals
      (go_wp2_with fail);go_region_held3 (λW=>(W.cell? (Pv g (q*5))=some (Iv x.port)/\W.cell? (Pv g (q*5+1))=some (Iv x.cost)/\W.cell? (Pv g (q*5+2))=some (Iv x.other)/\W.cell? (Pv g (q*5+3))=some (Iv x.oport)/\W.cell? (Pv g (q*5+4))=some (.bool x.live))/\W.cell? (Pv g (h*5))=some (Iv y.port)/\W.cell? (Pv g (h*5+1))=some (Iv y.cost)/\W.cell? (Pv g (h*5+2))=some (Iv y.other)/\W.cell? (Pv g (h*5+3))=some (Iv y.oport)/\W.cell? (Pv g (h*5+4))=some (.bool y.live))
       (first | (exact ah.o _ (b0i ai.o)) | (exact ah.o _ (Hid.o aS)))
       (first | (go_at_call 153;refine(aj.o _ (b0i ai.o)).mono ?_;rintro e w3 ⟨rfl,ap⟩))
      clear c0 c1 c2 c3 c4 d0 ay ax d3 d4;have an:Hid _:=ao.o w3 ap.o;clear ao ah aj ai ap;go_wp2_with fail
     ·exact⟨⟨h+1,j,om,om,uj,gn,rfl,an⟩,io⟩
     ·exact⟨⟨i,h,li,l1,om,rfl,rfl,an⟩,io⟩
  ·obtain rfl:i=j:=om
   obtain⟨z1,z2,z3,z4,z5,_⟩:=HR.o;obtain⟨ak,ar⟩:=af.o;obtain⟨e,he⟩:=nn (N-i)
   have we:IntKind.i64.wrap ((N:Int)-(i:Int))=(e:Int):=(by rw[a0t _ om om];omega)
   have y1:a<=i:=om
   have y2:i<=m:=om
   have y3:m<=e:=om
   have y4:e<=b:=om
   have y6:i<=aa:=om
   have y7:aa<=e:=om
   clear he ak ar z1 z2 z3 z4 z5 HR af li uj hlt;(go_upto_region 39 with fail);go_cut [185] (λv wx=>v=.bool (decide (i<m/\m<e))/\Hid (Ro sp g n u wx))
   case first =>
    as_aux_lemma =>
     clear ad;by_cases q1:i<m
     ·have ae:(i:Int)<(m:Int):=om
      by_cases q2:m<e
      ·have ag:(m:Int)<(e:Int):=om
       have HD:Hid (decide (i<m/\m<e)=true):=b0k ⟨q1,q2⟩;(go_wp2_with fail);go_meet
       exact⟨by rw[HD.o],hX⟩
      ·have ag:decide ((m:Int)<(e:Int))=false:=b0j om;have HD:Hid (decide (i<m/\m<e)=false):=b0j (λq=>q2 q.2);(go_wp2_with fail);go_meet
       exact⟨by rw[HD.o],hX⟩
     ·have ae:decide ((i:Int)<(m:Int))=false:=b0j om;have HD:Hid (decide (i<m/\m<e)=false):=b0j (λq=>q1 q.1);(go_wp2_with fail);go_meet
      exact⟨by rw[HD.o],hX⟩
   case rest =>
   clear hX;obtain⟨rfl,hX⟩:=hcut;go_upto_if 185 with fail
   go_cut [191] (λ_ wx=>Hid (Ro sp g n u wx))
   case first =>
    as_aux_lemma =>
     clear ad;by_cases q:i<m/\m<e
     ·have dq:decide (i<m/\m<e)=true:=b0k q;rw[dq];(go_wp2_with fail);refine(wrotate sp g n cap i m e _ u _ hX.o hn q.1 q.2 om).mono ?_;rintro x w5 ⟨rfl,k1⟩;have HF:Hid (Ro sp g n u w5):=k1;clear k1;(go_wp2_with fail);go_meet
      exact HF
     ·have dq:decide (i<m/\m<e)=false:=b0j q;rw[dq];(go_wp2_with fail);go_meet
      exact hX
   case rest =>
   clear hX;have hX:Hid (Ro sp g n u wc):=hcut;clear hcut;(go_upto_region 41 with fail);go_cut [199] (λv wx=>v=.bool (decide (a<i/\i<aa))/\Hid (Ro sp g n u wx))
   case first =>
    as_aux_lemma =>
     clear ad;by_cases q1:a<i
     ·have ae:(a:Int)<(i:Int):=om
      by_cases q2:i<aa
      ·have ag:(i:Int)<(aa:Int):=om
       have HD:Hid (decide (a<i/\i<aa)=true):=b0k ⟨q1,q2⟩;(go_wp2_with fail);go_meet
       exact⟨by rw[HD.o],hX⟩
      ·have ag:decide ((i:Int)<(aa:Int))=false:=b0j om;have HD:Hid (decide (a<i/\i<aa)=false):=b0j (λq=>q2 q.2);(go_wp2_with fail);go_meet
       exact⟨by rw[HD.o],hX⟩
     ·have ae:decide ((a:Int)<(i:Int))=false:=b0j om;have HD:Hid (decide (a<i/\i<aa)=false):=b0j (λq=>q1 q.1);(go_wp2_with fail);go_meet
      exact⟨by rw[HD.o],hX⟩
   case rest =>
   clear hX;obtain⟨rfl,hX⟩:=hcut;go_upto_if 199 with fail
   go_cut [205] (λ_ wx=>Hid (Ro sp g n u wx))
   case first =>
    as_aux_lemma =>
     by_cases q:a<i/\i<aa
     ·have dq:decide (a<i/\i<aa)=true:=b0k q;have HC:=ad.o a i aa _ om hX.o q.1 q.2 om;clear ad;rw[dq];(go_wp2_with fail);refine HC.mono ?_;rintro x w5 ⟨rfl,k1⟩;have HF:Hid (Ro sp g n u w5):=k1;clear k1;(go_wp2_with fail);go_meet
      exact HF
     ·have dq:decide (a<i/\i<aa)=false:=b0j q;clear ad;rw[dq];(go_wp2_with fail);go_meet
      exact hX
   case rest =>
   clear hX;have hX:Hid (Ro sp g n u wc):=hcut;clear hcut;(go_upto_region 43 with fail);go_cut [213] (λv wx=>v=.bool (decide (aa<e/\e<b))/\Hid (Ro sp g n u wx))
   case first =>
    as_aux_lemma =>
     clear ad;by_cases q1:aa<e
     ·have ae:(aa:Int)<(e:Int):=om
      by_cases q2:e<b
      ·have ag:(e:Int)<(b:Int):=om
       have HD:Hid (decide (aa<e/\e<b)=true):=b0k ⟨q1,q2⟩;(go_wp2_with fail);go_meet
       exact⟨by rw[HD.o],hX⟩
      ·have ag:decide ((e:Int)<(b:Int))=false:=b0j om;have HD:Hid (decide (aa<e/\e<b)=false):=b0j (λq=>q2 q.2);(go_wp2_with fail);go_meet
       exact⟨by rw[HD.o],hX⟩
     ·have ae:decide ((aa:Int)<(e:Int))=false:=b0j om;have HD:Hid (decide (aa<e/\e<b)=false):=b0j (λq=>q1 q.1);(go_wp2_with fail);go_meet
      exact⟨by rw[HD.o],hX⟩
   case rest =>
   clear hX;obtain⟨rfl,hX⟩:=hcut;by_cases q:aa<e/\e<b
   ·as_aux_lemma =>
     have dq:decide (aa<e/\e<b)=true:=b0k q;have HC:=ad.o aa e b _ om hX.o q.1 q.2 om;clear ad;rw[dq];(go_wp2_with fail);refine HC.mono ?_;rintro x w5 ⟨rfl,k1⟩;have HF:Hid (Ro sp g n u w5):=k1;clear k1;(go_wp2_with fail);exact bodyPost_end (results_none results208 _ _ _) rfl ⟨rfl,HF.o⟩
   ·as_aux_lemma =>
     have dq:decide (aa<e/\e<b)=false:=b0j q;clear ad;rw[dq];(go_wp2_with fail);exact bodyPost_end (results_none results208 _ _ _) rfl ⟨rfl,hX.o⟩
theorem wmerge (sp:Array Value) (g n cap:Nat) (u:World) (hn:n<=4398046511104):∀(d a m b:Nat) (w:World),b-a<=d->Ro sp g n u w->a<m->m<b->b<=n ->
  Calls prog 208 #[.slice (some (Pv g 0)) n cap,Iv a,Iv m,Iv b,.func (.func 153) #[] #[]] w λx w'=>x=.returned (.tuple #[])/\Ro sp g n u w':=by
 intro d;induction d with
 | zero=>intro a m b w hd _ h1 h2;omega
 | succ d ih =>
  intro a m b w hd hA h1 h2 h3;by_cases c1:m=a+1
  ·exact wmergeA sp g n cap a m b u w hA hn c1 h2 h3
  ·by_cases c2:b=m+1
   ·exact wmergeB sp g n cap a m b u w hA hn c2 om h3
   ·exact wmergeG sp g n cap a m b u w hA hn om om h3 (λa' m' b' W q1 q2 q3 q4 q5=>ih a' m' b' W om q2 q3 q4 q5)
end Es
namespace Es
theorem wstable (sp:Array Value) (g n cap:Nat) (u w:World) (hA:Ro sp g n u w) (hn:n<=4398046511104) :
  Calls prog 191 #[.slice (some (Pv g 0)) n cap,Iv n,.func (.func 153) #[] #[]] w λx w'=>x=.returned (.tuple #[])/\Ro sp g n u w':=by
 have HA:Hid (Ro sp g n u w):=hA;have ad:Hid (∀(a b:Nat) (W:World),Ro sp g n u W->a<=n->b<=n->Calls prog 207 #[.slice (some (Pv g 0)) n cap,Iv a,Iv b,.func (.func 153) #[] #[]] W λx w'=>x=.returned (.tuple #[])/\Hid (Ro sp g n u w')):=λa b W hW q1 q2=>winsertion sp g n cap a b u W hW hn q1 q2;have aa:Hid (∀(a m b:Nat) (W:World),Ro sp g n u W->a<m->m<b->b<=n->Calls prog 208 #[.slice (some (Pv g 0)) n cap,Iv a,Iv m,Iv b,.func (.func 153) #[] #[]] W λx w'=>x=.returned (.tuple #[])/\Hid (Ro sp g n u w')):=λa m b W hW q1 q2 q3=>wmerge sp g n cap u hn (b-a) a m b W (b0g _) hW q1 q2 q3;clear hA;go_enter func191,ntmps191;(go_wp2_with fail);go_loopw [7,8] (λva vb wr=>∃A B:Nat,B=A+20/\A<=n/\va=Iv A/\vb=Iv B/\Hid (Ro sp g n u wr)) (λva _ _=>n-(intOf va).toNat)
 case atStart=>exact⟨0,20,rfl,om,rfl,rfl,HA⟩
 case round =>
  obtain⟨A,B,hB,lA,rfl,rfl,hX⟩:=hrel;clear HA;by_cases hlt:B<=n
  ·have HC:=ad.o A B wr hX.o lA hlt;obtain⟨B2,ab⟩:=nn (B+20)
   have wB:IntKind.i64.wrap ((B:Int)+20)=(B2:Int):=(by rw[a0t _ om om];omega)
   have lB:(B:Int)<=(n:Int):=om
   have ac:Hid (B2=B+20/\B=A+20):=⟨ab,hB⟩
   clear hX ad aa ab hB;(go_wp2_with fail);refine HC.mono ?_;rintro x w1 ⟨rfl,HF⟩;clear HC;(go_wp2_with fail);exact⟨⟨B,B2,ac.o.1,hlt,rfl,rfl,HF⟩,by have:=ac.o;simp[intOf];omega⟩
  ·have HC:=ad.o A n wr hX.o lA (b0g _);have lB:¬(B:Int)<=(n:Int):=om
   have ah:decide ((B:Int)<=(n:Int))=false:=b0j lB;clear hX ad hB;(go_wp2_with fail);refine HC.mono ?_;rintro x w1 ⟨rfl,H0⟩;clear HC lB ah hlt;(go_wp2_with fail);go_loopw [6] (λvb wr=>∃bs:Nat,0<bs/\bs<=2*n+20/\vb=Iv bs/\Hid (Ro sp g n u wr)) (λvb _=>n-(intOf vb).toNat)
   case atStart=>exact⟨20,om,om,rfl,H0⟩
   case round =>
    obtain⟨bs,pb,ub,rfl,hX⟩:=hrel;clear H0;by_cases hbn:bs<n
    ·obtain⟨D,hD⟩:=nn (2*bs)
     have eD:IntKind.i64.wrap (2*(bs:Int))=(D:Int):=(by rw[a0t _ om om];omega)
     have aj:IntKind.i64.wrap ((bs:Int)*2)=(D:Int):=(by rw[a0t _ om om];omega)
     have ae:(bs:Int)<(n:Int):=om
     have uD:D<=8796093022208:=om
     have ak:D<=2*n:=om
     have pD:bs<D:=om
     clear hD;(go_wp2_with fail);go_loopw [7,8] (λva vb wi=>∃A B:Nat,B=A+D/\A<=n/\va=Iv A/\vb=Iv B/\Hid (Ro sp g n u wi)) (λva _ _=>n-(intOf va).toNat)
     case atStart=>exact⟨0,D,om,om,rfl,rfl,hX⟩
     case round =>
      obtain⟨A,B,hB,lA,rfl,rfl,hY⟩:=hrel;clear hX;obtain⟨M,hM⟩:=nn (A+bs)
      have wM:IntKind.i64.wrap ((A:Int)+(bs:Int))=(M:Int):=(by rw[a0t _ om om];omega)
      by_cases hlt:B<=n
      ·have HC:=aa.o A M B wr hY.o om om hlt;obtain⟨B2,ab⟩:=nn (B+D)
       have wB:IntKind.i64.wrap ((B:Int)+(D:Int))=(B2:Int):=(by rw[a0t _ om om];omega)
       have lB:(B:Int)<=(n:Int):=om
       have ac:Hid (B2=B+D):=ab;have am:A<B:=om
       clear hY hM aa ab hB;(go_wp2_with fail);refine HC.mono ?_;rintro x w2 ⟨rfl,HF⟩;clear HC;(go_wp2_with fail);exact⟨⟨B,B2,ac.o,hlt,rfl,rfl,HF⟩,io⟩
      ·have lB:decide ((B:Int)<=(n:Int))=false:=b0j om;have al:¬(B:Int)<=(n:Int):=om
       by_cases hmn:M<n
       ·have HC:=aa.o A M n wr hY.o om hmn (b0g _);have af:(M:Int)<(n:Int):=om
        clear hY hM aa hB hlt;(go_wp2_with fail);refine HC.mono ?_;rintro x w2 ⟨rfl,HF⟩;clear HC;(go_wp2_with fail);exact⟨⟨D,om,om,rfl,HF⟩,io⟩
       ·have af:decide ((M:Int)<(n:Int))=false:=b0j om;have ag:¬(M:Int)<(n:Int):=om
        clear hM aa hB hlt;(go_wp2_with fail);exact⟨⟨D,om,om,rfl,hY⟩,io⟩
    ·have ae:decide ((bs:Int)<(n:Int))=false:=b0j om;have ai:¬(bs:Int)<(n:Int):=om
     clear aa;(go_wp2_with fail);exact bodyPost_end (results_none results191 _ _ _) rfl ⟨rfl,hX.o⟩
theorem wsortf (sp:Array Value) (g n cap:Nat) (w:World) (hA:Ro sp g n w w) (hn:n<=4398046511104) :
  Calls prog 152 #[.slice (some (Pv g 0)) n cap,.func (.func 153) #[] #[]] w λx w'=>x=.returned (.tuple #[])/\Ro sp g n w w':=by
 have HC:Hid (Calls prog 191 #[.slice (some (Pv g 0)) n cap,Iv n,.func (.func 153) #[] #[]] w λx w'=>x=.returned (.tuple #[])/\Hid (Ro sp g n w w')):=wstable sp g n cap w w hA hn;clear hA;go_enter func152,ntmps152;(go_wp2_with fail);refine HC.o.mono ?_;rintro x w1 ⟨rfl,HF⟩;(go_wp2_with fail);exact bodyPost_end (results_none results152 _ _ _) rfl ⟨rfl,HF.o⟩
end Es
