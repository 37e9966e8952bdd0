/- PRd2 -/
import Derived.Test.YtelebnancdjjiaaGreatDoorE19
set_option maxRecDepth 100000
set_option maxHeartbeats 40000000
namespace Go.Proofs.YtelebnancdjjiaaGreatDoor
section
open Go.Proofs.Tryz
namespace Pl
open Vc (V Of)
def cand (far:Int) (o:Of):Prop:=0<far/\o.v.cost=far
instance (far:Int) (o:Of):Decidable (cand far o):=by unfold cand;infer_instance
section
variable {ids:Nat->Int}{ls:Nat->Lk}{lv:Nat->Bool}{K L m:Nat}{on:Nat->Nat}
def ptsTo (ls:Nat->Lk) (i:Nat) (p:Int):Nat->List Int
 | 0=>[]
 | k+1=>ptsTo ls i p k++if isEnd (ls k) (i:Int) p=true then [p] else []
def ptsAll (ls:Nat->Lk) (L i:Nat):Nat->List Int
 | 0=>[]
 | p+1=>ptsAll ls L i p++ptsTo ls i ((p:Int)+1) L
theorem ptsTo_one (R:RightL K L ls) (i:Nat) (p:Int):∀k,k<=L->(ptsTo ls i p k=[]/\∀j,j<k->isEnd (ls j) (i:Int) p=false)\/(ptsTo ls i p k=[p]/\∃j,j<k/\isEnd (ls j) (i:Int) p=true)
 | 0,_=>Or.inl ⟨rfl,λj hj=>absurd hj om⟩
 | k+1,hk=>by
  simp only[ptsTo];rcases ptsTo_one R i p k om with⟨h1,h2⟩ | ⟨h1,j,hj,h2⟩
  ·rw[h1];cases c:isEnd (ls k) (i:Int) p with
   | true=>exact Or.inr ⟨rfl,k,om,c⟩
   | false =>
    refine Or.inl ⟨rfl,λj hj => ?_⟩;by_cases e:j=k
    ·rw[e];exact c
    ·exact h2 j om
  ·rw[h1];have c:isEnd (ls k) (i:Int) p=false:=by
    obtain⟨o1,o2⟩:=R.one j k hj om;cases c:isEnd (ls k) (i:Int) p with
    | false=>rfl
    | true =>
     unfold isEnd at c;simp only[Bool.or_eq_true,decide_eq_true_eq] at c;rcases c with⟨c1,c2⟩ | ⟨c1,c2⟩
     ·rw[c1,c2,h2] at o1;cases o1
     ·rw[c1,c2,h2] at o2;cases o2
   rw[c];exact Or.inr ⟨rfl,j,om,h2⟩
theorem ptsAll_rise (R:RightL K L ls) (i:Nat):∀n,(ptsAll ls L i n).Pairwise (· < ·)/\∀x,x∈ptsAll ls L i n↔(1<=x/\x<=(n:Int))/\∃k,k<L/\isEnd (ls k) (i:Int) x=true
 | 0=>⟨List.Pairwise.nil,λx=>⟨λh=>by simp[ptsAll] at h,λh=>absurd h.1 om⟩⟩
 | n+1=>by
  obtain⟨h1,h2⟩:=ptsAll_rise R i n;simp only[ptsAll];rcases ptsTo_one R i ((n:Int)+1) L (b0g _) with⟨q1,q2⟩ | ⟨q1,k,hk,q2⟩
  ·rw[q1,List.append_nil];refine⟨h1,λx => ?_⟩;rw[h2 x];constructor
   ·rintro⟨a,b⟩;exact⟨om,b⟩
   ·rintro⟨a,k,hk,b⟩;by_cases e:x=(n:Int)+1
    ·rw[e,q2 k hk] at b;cases b
    ·exact⟨om,k,hk,b⟩
  ·rw[q1];refine⟨?_,λx => ?_⟩
   ·rw[List.pairwise_append];refine⟨h1,List.pairwise_singleton _ _,λx hx y hy => ?_⟩;have:=((h2 x).1 hx).1;rw[List.mem_singleton] at hy;omega
   ·rw[List.mem_append,h2 x,List.mem_singleton];constructor
    ·rintro(⟨a,b⟩ | rfl)
     ·exact⟨om,b⟩
     ·exact⟨om,k,hk,q2⟩
    ·rintro⟨a,b⟩;by_cases e:x=(n:Int)+1
     ·exact Or.inr e
     ·exact Or.inl ⟨om,b⟩
theorem rise_ext:∀{l l':List Int},l.Pairwise (· < ·)->l'.Pairwise (· < ·)->(∀e,e∈l↔e∈l')->l=l'
 | [],[],_,_,_=>rfl
 | [],a :: _,_,_,h=>by have:=(h a).2 (by simp);simp at this
 | a :: _,[],_,_,h=>by have:=(h a).1 (by simp);simp at this
 | a :: l,b :: l',h1,h2,h=>by
  obtain⟨p1,p2⟩:=List.pairwise_cons.1 h1;obtain⟨q1,q2⟩:=List.pairwise_cons.1 h2;have e:a=b:=by
   rcases List.mem_cons.1 ((h a).1 (by simp)) with e | e
   ·exact e
   ·rcases List.mem_cons.1 ((h b).2 (by simp)) with e' | e'
    ·exact e'.symm
    ·have:=p1 b e';have:=q1 a e;omega
  subst e;congr 1
  refine rise_ext p2 q2 (λe=>⟨λhe => ?_,λhe => ?_⟩)
  ·rcases List.mem_cons.1 ((h e).1 (by simp[he])) with q | q
   ·subst q;have:=p1 e he;omega
   ·exact q
  ·rcases List.mem_cons.1 ((h e).2 (by simp[he])) with q | q
   ·subst q;have:=q1 e he;omega
   ·exact q
theorem ports_same (R:RightL K L ls) (lv:Nat->Bool) (i:Nat):ptsAll ls L i 30=(ends ls lv L i).map (·.port):=by
 obtain⟨h1,h2⟩:=ptsAll_rise R i 30;refine rise_ext h1 ?_ (λx => ?_)
 ·rw[List.pairwise_map];exact ends_sorted R lv i
 ·rw[h2 x,List.mem_map];constructor
  ·rintro⟨_,k,hk,b⟩;unfold isEnd at b;simp only[Bool.or_eq_true,decide_eq_true_eq] at b;rcases b with⟨b1,b2⟩ | ⟨b1,b2⟩
   ·exact⟨_,ends_mem.2 ⟨k,hk,Or.inl ⟨b1,rfl⟩⟩,b2⟩
   ·exact⟨_,ends_mem.2 ⟨k,hk,Or.inr ⟨b1,rfl⟩⟩,b2⟩
  ·rintro⟨e,he,rfl⟩;obtain⟨k,hk,hh⟩:=ends_mem.1 he;obtain⟨_,_,_,o4,o5,_⟩:=R.ok k hk;rcases hh with⟨q,rfl⟩ | ⟨q,rfl⟩
   ·exact⟨⟨by show 1<=(ls k).pa;omega,by show(ls k).pa<=30;omega⟩,k,hk,by unfold isEnd;simp[q]⟩
   ·exact⟨⟨by show 1<=(ls k).pb;omega,by show(ls k).pb<=30;omega⟩,k,hk,by unfold isEnd;simp[q]⟩
end
end Pl
end
section
open Go.Proofs.Tryz
open Go.RowKit
open Vc (V Of)
open Pl (Br Net Pc Lk En)
def curP (ls:Nat->Lk) (L i q k:Nat):List Int:=Pl.ptsAll ls L i q++Pl.ptsTo ls i ((q:Int)+1) k
theorem a5A (ls:Nat->Lk) (L i q:Nat):curP ls L i q 0=Pl.ptsAll ls L i q:=by unfold curP;simp[Pl.ptsTo]
theorem a9m (ls:Nat->Lk) (L i q:Nat):curP ls L i q L=Pl.ptsAll ls L i (q+1):=rfl
theorem a9n (ls:Nat->Lk) (L i q k:Nat):curP ls L i q (k+1)=curP ls L i q k++if Pl.isEnd (ls k) (i:Int) ((q:Int)+1)=true then [(q:Int)+1] else []:=by
 unfold curP;simp only[Pl.ptsTo];rw[List.append_assoc]
theorem a3V (ls:Nat->Lk) (i:Nat) (p:Int):∀k,(Pl.ptsTo ls i p k).length<=k
 | 0=>b0g _
 | k+1=>by
  have:=a3V ls i p k;simp only[Pl.ptsTo,List.length_append];split<;>simp<;>omega
theorem a2P (ls:Nat->Lk) (L i:Nat):∀q,(Pl.ptsAll ls L i q).length<=q*L
 | 0=>by simp[Pl.ptsAll]
 | q+1=>by
  have h1:=a2P ls L i q;have h2:=a3V ls i ((q:Int)+1) L;simp only[Pl.ptsAll,List.length_append];rw[Nat.add_mul];omega
theorem a4y (n:Net) (i:Nat) (w:World) (ap:n.at' w) (hL:n.L<=40) (R:Pl.RightL n.K n.L n.ls) :
  Calls prog 35 #[n.val,Iv i] w λe w'=>∃ao cap,e=.returned (.slice ao (Pl.ptsAll n.ls n.L i 30).length cap)/\IRow w' ao (Pl.ptsAll n.ls n.L i 30).length cap (IL (Pl.ptsAll n.ls n.L i 30))/\a0s ao (Pl.ptsAll n.ls n.L i 30).length cap/\(∀ad,ao=some ad->w.heap.size<=ad.block)/\Bl w w'/\w'.ownsRow w.heap.size 3 1 (.slice ao (Pl.ptsAll n.ls n.L i 30).length cap) (Pl.ptsAll n.ls n.L i 30).length (a0j (Pl.ptsAll n.ls n.L i 30)):=by
 obtain⟨X,HX⟩:=nm (w.alloc (.cells #[.slice n.bao n.K n.bcap,.slice n.lao n.L n.lcap] 25))
 have am:Bl w X:=(by rw[HX.o];exact bA1 _ _)
 have ax:X.heap[w.heap.size]?=some (.cells #[.slice n.bao n.K n.bcap,.slice n.lao n.L n.lcap] 25):=(by rw[HX.o];exact a9Z _ _)
 have HC:Hid (∀W,Bl X W->(W.cell? (Pv w.heap.size 0)=some (.slice n.bao n.K n.bcap)/\W.cell? (Pv w.heap.size 1)=some (.slice n.lao n.L n.lcap))/\LRow W n.lao n.L n.lcap n.ls/\Bl w W):=λW hW=>by
  have h1:Bl w W:=am.trans (hW.mono am.size);exact⟨tC2 (keep ax hW),CRow.below ap.lks h1,h1⟩
 have HR:Hid (Pl.RightL n.K n.L n.ls):=R;have av:=ap.lks.1;have H0:Hid (X.ownsRow X.heap.size 3 1 (.slice none (Pl.ptsAll n.ls n.L i 0).length 0) (Pl.ptsAll n.ls n.L i 0).length (a0j (Pl.ptsAll n.ls n.L i 0))/\Bl X X):=⟨a0y _ _ _ _ _,b0h _ _⟩
 have au:=am.size;clear ap R ax am;simp only[Pl.Net.val];go_enter func35,ntmps35;(go_wp2_with fail);rw[<-HX.o];go_loopw [5,6] (λs5 s6 wr=>∃(q:Nat) (ao:OA) (cap:Nat),(q:Int)<=30/\s6=Iv ((q:Int)+1)/\s5=.slice ao (Pl.ptsAll n.ls n.L i q).length cap/\Hid (wr.ownsRow X.heap.size 3 1 (.slice ao (Pl.ptsAll n.ls n.L i q).length cap) (Pl.ptsAll n.ls n.L i q).length (a0j (Pl.ptsAll n.ls n.L i q))/\Bl X wr)) (λ_ s6 _=>31-(intOf s6).toNat)
 case atStart=>exact⟨0,none,0,om,rfl,rfl,H0⟩
 case round =>
  obtain⟨q,ao,cap,hq,rfl,rfl,hW⟩:=hrel;clear H0;by_cases hlt:(q:Int)<30
  ·obtain⟨⟨m0,m1⟩,_,_⟩:=HC.o wr hW.o.2;have c1:(q:Int)+1<=30:=om
   have H1:Hid (wr.ownsRow X.heap.size 3 1 (.slice ao (curP n.ls n.L i q 0).length cap) (curP n.ls n.L i q 0).length (a0j (curP n.ls n.L i q 0))/\Bl X wr):=(by rw[a5A];exact hW)
   have ay:Hid ((Pl.ptsAll n.ls n.L i q).length=(curP n.ls n.L i q 0).length):=by show _=_;rw[a5A]
   clear hW;(go_wp2_with fail);clear m0 m1;go_loopw [5,16] (λs5 an wr=>∃(k:Nat) (ao:OA) (cap:Nat),k<=n.L/\an=Iv k/\s5=.slice ao (curP n.ls n.L i q k).length cap/\Hid (wr.ownsRow X.heap.size 3 1 (.slice ao (curP n.ls n.L i q k).length cap) (curP n.ls n.L i q k).length (a0j (curP n.ls n.L i q k))/\Bl X wr)) (λ_ an _=>n.L-(intOf an).toNat)
   case atStart=>exact⟨0,ao,cap,om,rfl,by rw[ay.o],H1⟩
   case round =>
    obtain⟨k,ao,cap,hk,rfl,rfl,hY⟩:=hrel;clear H1 ay;by_cases hkL:k<n.L
    ·obtain⟨_,f1,_⟩:=HC.o wr hY.o.2;obtain⟨lb,aC,el,_⟩:=CRow.some f1 om;rw[el] at f1 ⊢;obtain⟨c0,aB,c2,c3,c4,c5⟩:=LRow.cells f1 hkL;obtain⟨_,_,o3,_⟩:=HR.o.ok k hkL;have ac:=a9n n.ls n.L i q k;have aa:Pl.isEnd (n.ls k) (i:Int) ((q:Int)+1)=(decide ((n.ls k).a=(i:Int)/\(n.ls k).pa=(q:Int)+1)||decide ((n.ls k).b=(i:Int)/\(n.ls k).pb=(q:Int)+1)):=rfl;have al:(curP n.ls n.L i q k).length<=100000:=by
      have h1:=a2P n.ls n.L i q;have h2:=a3V n.ls i ((q:Int)+1) k;unfold curP;rw[List.length_append];have h3:q*n.L<=30*40:=Nat.mul_le_mul om hL;omega
     obtain⟨Z,HZ⟩:=nm (wr.alloc (.cells (lkA (n.ls k)) 103))
     have ak:Bl wr Z:=(by rw[HZ.o];exact bA1 _ _)
     have aw:Z.heap.size=wr.heap.size+1:=(by rw[HZ.o];simp)
     have aE:=hY.o.2.size;have ae:Hid (Pl.isEnd (n.ls k) (i:Int) ((q:Int)+1)=false->Z.ownsRow X.heap.size 3 1 (.slice ao (curP n.ls n.L i q (k+1)).length cap) (curP n.ls n.L i q (k+1)).length (a0j (curP n.ls n.L i q (k+1)))/\Bl X Z):=λh=>by
      rw[ac,h,iN dd,List.append_nil];exact⟨a0h hY.o.1 ak,hY.o.2.trans (ak.mono hY.o.2.size)⟩
     have af:Hid (Pl.isEnd (n.ls k) (i:Int) ((q:Int)+1)=false->(curP n.ls n.L i q (k+1)).length=(curP n.ls n.L i q k).length):=λh=>by rw[ac,h,iN dd,List.append_nil]
     have ab:Hid (Pl.isEnd (n.ls k) (i:Int) ((q:Int)+1)=true->∃a1 c1 w2,(Builtin.append_ #[52,52] 52 #[.slice ao (curP n.ls n.L i q k).length cap,.slice (some (Pv (wr.heap.size+1) 0)) 1 1]).run prog (Z.alloc (.cells #[Iv ((q:Int)+1)] 3))=.ok (.slice a1 (curP n.ls n.L i q (k+1)).length c1) w2/\Hid (w2.ownsRow X.heap.size 3 1 (.slice a1 (curP n.ls n.L i q (k+1)).length c1) (curP n.ls n.L i q (k+1)).length (a0j (curP n.ls n.L i q (k+1)))/\Bl X w2)):=λh=>by
      obtain⟨a1,c1,w2,r,ho,hb⟩:=a3A (a0h hY.o.1 ak) om al ((q:Int)+1);rw[ac,h,iP rfl];rw[aw] at r;have az:Bl X Z:=hY.o.2.trans (ak.mono hY.o.2.size);exact⟨a1,c1,w2,r,ho,az.trans hb⟩
     have i0:(0:Int)<=(k:Int):=om
     have i1:(k:Int)<(n.L:Int):=om
     clear hY f1 ac ak aw al HC HR el;generalize Pl.isEnd (n.ls k) (i:Int) ((q:Int)+1)=D at *;generalize n.ls k=l at *;obtain⟨la,pa,aj,pb,co,up⟩:=l;simp only at c0 aB c2 c3 c4 c5 o3 aa;simp only[lkA] at *;by_cases ea:la=(i:Int)
     ·have fb:¬aj=(i:Int):=om
      by_cases ep:pa=(q:Int)+1
      ·have hD:D=true:=(by rw[aa,b0k ⟨ea,ep⟩,Bool.true_or])
       obtain⟨a1,c1,w2,r,HN⟩:=ab.o hD;have ai:Hid _:=r;rw[HZ.o] at ai;clear r ab ae af aa hD;subst ea;subst ep;go_wp2_with (at_builtin;refine a0a rfl (.tmp 42) (.tmp 44) 52 rfl _ _ _ rfl rfl ai.o ?_)
       exact⟨⟨k+1,a1,c1,om,gn,rfl,HN⟩,io⟩
      ·have hD:D=false:=(by rw[aa,b0j (λh=>ep h.2),b0j (λh=>fb h.1)];rfl)
       have HN:Hid _:=ae.o hD;have ag:Hid _:=af.o hD;have g1:(pa == (q:Int)+1)=false:=(by simp[ep])
       have g2:(aj == (i:Int))=false:=(by simp[fb])
       rw[HZ.o] at HN;clear ab ae af aa hD;subst ea;(go_wp2_with fail);exact⟨⟨k+1,ao,cap,om,gn,by rw[ag.o],HN⟩,io⟩
     ·have g0:(la == (i:Int))=false:=(by simp[ea])
      by_cases eb:aj=(i:Int)
      ·by_cases ep:pb=(q:Int)+1
       ·have hD:D=true:=(by rw[aa,b0k (⟨eb,ep⟩:aj=(i:Int)/\pb=(q:Int)+1),Bool.or_true])
        obtain⟨a1,c1,w2,r,HN⟩:=ab.o hD;have ai:Hid _:=r;rw[HZ.o] at ai;clear r ab ae af aa hD;subst eb;subst ep;go_wp2_with (at_builtin;refine a0a rfl (.tmp 42) (.tmp 44) 52 rfl _ _ _ rfl rfl ai.o ?_)
        exact⟨⟨k+1,a1,c1,om,gn,rfl,HN⟩,io⟩
       ·have hD:D=false:=(by rw[aa,b0j (λh=>ea h.1),b0j (λh=>ep h.2)];rfl)
        have HN:Hid _:=ae.o hD;have ag:Hid _:=af.o hD;have g1:(pb == (q:Int)+1)=false:=(by simp[ep])
        rw[HZ.o] at HN;clear ab ae af aa hD;subst eb;(go_wp2_with fail);exact⟨⟨k+1,ao,cap,om,gn,by rw[ag.o],HN⟩,io⟩
      ·have hD:D=false:=(by rw[aa,b0j (λh=>ea h.1),b0j (λh=>eb h.1)];rfl)
       have HN:Hid _:=ae.o hD;have ag:Hid _:=af.o hD;have g1:(aj == (i:Int))=false:=(by simp[eb])
       rw[HZ.o] at HN;clear ab ae af aa hD;(go_wp2_with fail);exact⟨⟨k+1,ao,cap,om,gn,by rw[ag.o],HN⟩,io⟩
    ·have aD:¬(k:Int)<(n.L:Int):=om
     have aq:k=n.L:=om
     rw[aq] at hY;have HN:Hid (wr.ownsRow X.heap.size 3 1 (.slice ao (Pl.ptsAll n.ls n.L i (q+1)).length cap) (Pl.ptsAll n.ls n.L i (q+1)).length (a0j (Pl.ptsAll n.ls n.L i (q+1)))/\Bl X wr):=hY;have ag:Hid ((curP n.ls n.L i q k).length=(Pl.ptsAll n.ls n.L i (q+1)).length):=by show _=_;rw[aq,a9m]
     clear hY aq HC;(go_wp2_with fail);exact⟨⟨q+1,ao,cap,om,gn,by rw[ag.o],HN⟩,io⟩
  ·have ar:q=30:=om
   subst ar;obtain⟨hO,hB⟩:=hW.o;have ah:=(HC.o wr hB).2.2;obtain⟨a1,c1,e1,h1,h2,h3⟩:=a0W om hO;injection e1 with e1 _ e2;subst e1;subst e2;have HE:Hid (IRow wr ao (Pl.ptsAll n.ls n.L i 30).length cap (IL (Pl.ptsAll n.ls n.L i 30))/\a0s ao (Pl.ptsAll n.ls n.L i 30).length cap/\(∀ad,ao=some ad->w.heap.size<=ad.block)/\Bl w wr/\wr.ownsRow w.heap.size 3 1 (.slice ao (Pl.ptsAll n.ls n.L i 30).length cap) (Pl.ptsAll n.ls n.L i 30).length (a0j (Pl.ptsAll n.ls n.L i 30))):=⟨h1,h2,λad e=>b0p au (h3 ad e),ah,a0v hO au⟩
   clear hW hO hB ah h1 h2 h3 HC;(go_wp2_with fail);go_ret;exact⟨ao,cap,rfl,HE.o.1,HE.o.2.1,HE.o.2.2.1,HE.o.2.2.2.1,HE.o.2.2.2.2⟩
theorem a7R (n:Net) (i:Nat) (w:World) (aa:n.at' w) (hL:n.L<=40) (R:Pl.RightL n.K n.L n.ls) :
  Calls prog 35 #[n.val,Iv i] w λe w'=>∃ao cap,e=.returned (.slice ao (Pl.ptsAll n.ls n.L i 30).length cap)/\IRow w' ao (Pl.ptsAll n.ls n.L i 30).length cap (IL (Pl.ptsAll n.ls n.L i 30))/\a0s ao (Pl.ptsAll n.ls n.L i 30).length cap/\(∀ad,ao=some ad->w.heap.size<=ad.block)/\Bl w w':=by
 refine(a4y n i w aa hL R).mono ?_;rintro e w' ⟨ao,cap,h1,h2,h3,h4,h5,_⟩;exact⟨ao,cap,h1,h2,h3,h4,h5⟩
end
section
open Go.Proofs.Tryz
open Go.RowKit
open Vc (V Of)
open Pl (En Lk Br Net)
open Tk (Md)
def a6n (n:Net) (i:Nat) (m:Mi):Prop:=m.ports=n.pts i/\m.roles.length=(n.pts i).length/\m.calm.length=(n.pts i).length
def a4g (n:Net) (l:List Mi):Prop:=l.length=n.K/\∀i,i<n.K->a6n n i (mat l i)
theorem a6Q {n:Net}{t:List Tr}:fitT n t=true↔(1<=t.length/\t.length<=4)/\∀k,k<t.length->a4g n (tat t k).l:=a2z
theorem fit_no {n:Net}{t:List Tr}(h:¬((1<=t.length/\t.length<=4)/\∀k,k<t.length->a4g n (tat t k).l)):fitT n t=false:=by
 cases q:fitT n t with
 | false=>rfl
 | true=>exact absurd (a6Q.1 q) h
theorem a4X (n:Net) (i:Nat) (w:World) (aa:n.at' w) (hL:n.L<=40) (R:Pl.RightL n.K n.L n.ls) :
  Calls prog 35 #[n.val,Iv i] w λe w'=>∃ao cap,e=.returned (.slice ao (n.pts i).length cap)/\ILs w' ao cap (n.pts i)/\a0s ao (n.pts i).length cap/\(∀ad,ao=some ad->w.heap.size<=ad.block)/\Bl w w'/\w'.ownsRow w.heap.size 3 1 (.slice ao (n.pts i).length cap) (n.pts i).length (a0j (n.pts i)):=by
 have e:Pl.ptsAll n.ls n.L i 30=n.pts i:=Pl.ports_same R n.live i;have h:=a4y n i w aa hL R;rw[e] at h;exact h
theorem a5B (n:Net) (oao:OA) (ocap:Nat) (t:List Tr) (w:World) (aD:n.at' w) (hL:n.L<=40) (R:Pl.RightL n.K n.L n.ls) (ak:TrRow w oao ocap t) :
  Calls prog 32 #[n.val,.agg #[.slice oao t.length ocap]] w λe w'=>e=.returned (.bool (fitT n t))/\Bl w w':=by
 obtain⟨Z,HZ⟩:=nm ((w.alloc (.cells #[.slice n.bao n.K n.bcap,.slice n.lao n.L n.lcap] 25)).alloc (.cells #[.slice oao t.length ocap] 34))
 have ac:Bl w Z:=(by rw[HZ.o];exact bA2 _ _ _)
 have y7:Z.heap[w.heap.size]?=some (.cells #[.slice n.bao n.K n.bcap,.slice n.lao n.L n.lcap] 25):=(by rw[HZ.o];exact b0d _ _ _)
 have y8:Z.heap[w.heap.size+1]?=some (.cells #[.slice oao t.length ocap] 34):=(by rw[HZ.o];exact b0c _ _ _)
 obtain⟨BN,aU⟩:=nm w.heap.size
 have HG:Hid (∀V,Bl Z V->((V.cell? (Pv w.heap.size 0)=some (.slice n.bao n.K n.bcap)/\V.cell? (Pv w.heap.size 1)=some (.slice n.lao n.L n.lcap))/\V.cell? (Pv (w.heap.size+1) 0)=some (.slice oao t.length ocap))/\TrRow V oao ocap t/\Bl w V):=λV hV=>by
  have h:=ac.trans (hV.mono ac.size);exact⟨⟨tC2 (keep y7 hV),a0x (keep y8 hV)⟩,ak.below h,h⟩
 have HP:Hid (∀W,Bl Z W->∀i:Nat,Calls prog 35 #[.agg #[.slice n.bao n.K n.bcap,.slice n.lao n.L n.lcap],Iv i] W λe w'=>∃ao cap,e=.returned (.slice ao (n.pts i).length cap)/\Hid (ILs w' ao cap (n.pts i)/\Bl W w')):=λW hW i=>by
  have h:=ac.trans (hW.mono ac.size);refine(a4X n i W (aD.below h) hL R).mono ?_;rintro e w' ⟨ao,cap,e1,h1,_,_,h2,_⟩;exact⟨ao,cap,e1,h1,h2⟩
 have aq:Hid (¬((1<=t.length/\t.length<=4)/\∀k,k<t.length->a4g n (tat t k).l)->fitT n t=false):=fit_no;have aw:Hid (((1<=t.length/\t.length<=4)/\∀k,k<t.length->a4g n (tat t k).l)->fitT n t=true):=a6Q.2;have aN:t.length<=ocap:=ak.row.1;have az:=ak.many;have aJ:Hid (Z.heap.size=w.heap.size+1+1):=by
  have h:Z.heap.size=w.heap.size+1+1:=(by rw[HZ.o];simp)
  exact h
 obtain⟨⟨⟨c0,c1⟩,c2⟩,_⟩:=HG.o Z (b0h _ _);rw[HZ.o] at c0 c1 c2;have aa:Hid (Bl w Z):=ac;clear aD hL R ak ac y7 y8;simp only[Pl.Net.val];by_cases q0:(t.length:Int)<1
 ·have HF:Hid (fitT n t=false):=aq.o (λh=>by have:=h.1.1;omega);go_enter func32,ntmps32;(go_wp2_with fail);go_ret;exact⟨by rw[HF.o];rfl,by rw[<-HZ.o];exact aa.o⟩
 ·by_cases q1:(t.length:Int) > 4
  ·have HF:Hid (fitT n t=false):=aq.o (λh=>by have:=h.1.2;omega);go_enter func32,ntmps32;(go_wp2_with fail);go_ret;exact⟨by rw[HF.o];rfl,by rw[<-HZ.o];exact aa.o⟩
  ·go_enter func32,ntmps32;(go_wp2_with fail);rw[<-HZ.o];clear c0 c1 c2;go_loopw [24] (λi wr=>∃k:Nat,k<=t.length/\i=Iv k/\Hid (∀j,j<k->a4g n (tat t j).l)/\Hid (Bl Z wr)) (λi _=>t.length-(intOf i).toNat)
   case atStart=>exact⟨0,om,rfl,(λj hj=>absurd hj om),b0h _ _⟩
   case round =>
    obtain⟨k,hk,rfl,hS,hB⟩:=hrel;by_cases hlt:k<t.length
    ·obtain⟨⟨⟨c0,c1⟩,c2⟩,r1,_⟩:=HG.o wr hB.o;obtain⟨b1,o1,aG,aL⟩:=r1.place om;subst aG;have x1:=r1.cell hlt;have HM:Hid (∀V,Bl Z V->MiRow V (tat t k).ao (tat t k).cap (tat t k).l):=λV hV=>(HG.o V hV).2.1.each k hlt;have aR:(tat t k).l.length<=(tat t k).cap:=(r1.each k hlt).row.1;have aT:=(r1.each k hlt).many;have ik:(0:Int)<=(k:Int):=om
     have nk:(k:Int)<(t.length:Int):=om
     have aB:Hid (k+1<=t.length):=hlt;have ax:Hid (¬a4g n (tat t k).l->fitT n t=false):=λh=>aq.o (λz=>h (z.2 k hlt));have aK:Hid (a4g n (tat t k).l->∀j,j<k+1->a4g n (tat t j).l):=λh j hj=>by
      by_cases e:j=k
      ·subst e;exact h
      ·exact hS.o j om
     clear r1 hS aL;generalize tat t k=tk at *;obtain⟨ta,tc,tl⟩:=tk;simp only at *;by_cases q2:tl.length=n.K
     ·have e1:((tl.length:Int) != (n.K:Int))=false:=(by simp[q2])
      have au:Hid (tl.length=n.K):=q2;clear q2;(go_wp2_with fail);clear x1 e1 c0 c1 c2;go_loopw [36] (λi wq=>∃j:Nat,j<=tl.length/\i=Iv j/\Hid (∀i,i<j->a6n n i (mat tl i))/\Hid (Bl Z wq)) (λi _=>tl.length-(intOf i).toNat)
      case atStart=>exact⟨0,om,rfl,(λj hj=>absurd hj om),hB⟩
      case round =>
       clear hB;obtain⟨j,hj,rfl,am,hB⟩:=hrel;by_cases hlt2:j<tl.length
       ·have r2:=HM.o wr hB.o;obtain⟨⟨⟨c0,c1⟩,c2⟩,_⟩:=HG.o wr hB.o;obtain⟨d1,p1,rfl,aW⟩:=r2.place om;obtain⟨a0,a1,a2,a3,a4,a5,a6,a7,a8⟩:=r2.cells hlt2;have i1:=r2.each j hlt2;have ij:(0:Int)<=(j:Int):=om
        have nj:(j:Int)<(tl.length:Int):=om
        have ay:Hid (j+1<=tl.length):=hlt2;have ah:Hid (¬a6n n j (mat tl j)->fitT n t=false):=λh=>ax.o (λz=>h (z.2 j (by rw[<-au.o];exact hlt2)));have aH:Hid (a6n n j (mat tl j)->∀i,i<j+1->a6n n i (mat tl i)):=λh i hi=>by
         by_cases e:i=j
         ·subst e;exact h
         ·exact am.o i om
        generalize mat tl j=x at *;obtain⟨Y,HY⟩:=nm (wr.alloc (.cells #[Uv x.md.v.root,Iv x.md.v.cost,Uv x.md.v.bridge,Iv x.md.v.port,Iv x.md.age,Iv x.md.rp,.slice x.po x.ports.length x.pc,.slice x.ro x.roles.length x.rc,.slice x.co x.calm.length x.cc] 117))
        have al:Bl wr Y:=(by rw[HY.o];exact bA1 _ _)
        have ad:Y.heap[wr.heap.size]?=some (.cells #[Uv x.md.v.root,Iv x.md.v.cost,Uv x.md.v.bridge,Iv x.md.v.port,Iv x.md.age,Iv x.md.rp,.slice x.po x.ports.length x.pc,.slice x.ro x.roles.length x.rc,.slice x.co x.calm.length x.cc] 117):=(by rw[HY.o];exact a9Z _ _)
        have ai:Bl Z Y:=hB.o.trans (al.mono hB.o.size);have HC:Hid (Calls prog 35 #[.agg #[.slice n.bao n.K n.bcap,.slice n.lao n.L n.lcap],Iv j] Y λe w'=>∃ao cap,e=.returned (.slice ao (n.pts j).length cap)/\(w'.cell? (Pv wr.heap.size 6)=some (.slice x.po x.ports.length x.pc)/\w'.cell? (Pv wr.heap.size 7)=some (.slice x.ro x.roles.length x.rc)/\w'.cell? (Pv wr.heap.size 8)=some (.slice x.co x.calm.length x.cc))/\Hid (Bl Z w'/\∀V,Bl w' V->ILs V ao cap (n.pts j)/\ILs V x.po x.pc x.ports/\V.cell? (Pv wr.heap.size 6)=some (.slice x.po x.ports.length x.pc)/\Bl Z V)):=by
         refine(HP.o Y ai j).mono ?_;rintro e w' ⟨ao,cap,e1,h⟩;have h2:=h.o.2;have hz:=ai.trans (h2.mono ai.size);refine⟨ao,cap,e1,⟨a9Y w' _ 6 _ _ _ (keep ad h2),a9Y w' _ 7 _ _ _ (keep ad h2),a9Y w' _ 8 _ _ _ (keep ad h2)⟩,hz,λV hV => ?_⟩;have aE:=h2.trans (hV.mono h2.size);exact⟨h.o.1.below hV,i1.ports.below (al.trans (aE.mono al.size)),a9Y V _ 6 _ _ _ (keep ad aE),hz.trans (hV.mono hz.size)⟩
        have lz:w.heap.size<wr.heap.size:=by have h1:=aJ.o;have h2:=hB.o.size;omega
        have aM:Hid (x.ports.length<=9223372036854775807):=i1.pn;clear i1 r2 am HP HG HM hB al ad ai;(go_wp2_with fail);rw[<-HY.o];refine HC.o.mono ?_;rintro e w2 ⟨ao,cap,rfl,⟨f6,f7,f8⟩,H2⟩;clear HC a0 a1 a2 a3 a4 a5 a6 a7 a8 c0 c1 c2;by_cases z1:x.ports.length=(n.pts j).length
        ·have e1:((x.ports.length:Int) != ((n.pts j).length:Int))=false:=(by simp[z1])
         by_cases z2:x.roles.length=(n.pts j).length
         ·have e2:((x.roles.length:Int) != ((n.pts j).length:Int))=false:=(by simp[z2])
          by_cases z3:x.calm.length=(n.pts j).length
          ·have e3:((x.calm.length:Int) != ((n.pts j).length:Int))=false:=(by simp[z3])
           have ab:Hid (x.ports.length=(n.pts j).length/\x.roles.length=(n.pts j).length/\x.calm.length=(n.pts j).length):=⟨z1,z2,z3⟩
           clear z1 z2 z3;(go_wp2_with fail);clear e1 e2 e3 f6 f7 f8;have aj:Hid (Bl Z w2):=H2.o.1;go_loopw [68] (λi wq=>∃m:Nat,m<=(n.pts j).length/\i=Iv m/\Hid (∀i,i<m->x.ports.getD i 0=(n.pts j).getD i 0)/\Hid (Bl w2 wq)) (λi _=>(n.pts j).length-(intOf i).toNat)
           case atStart=>exact⟨0,om,rfl,(λj hj=>absurd hj om),b0h _ _⟩
           case round =>
            obtain⟨m,hm,rfl,af,ag⟩:=hrel;by_cases hlt3:m<(n.pts j).length
            ·obtain⟨s1,s2,f6,_⟩:=H2.o.2 wr ag.o;obtain⟨b3,o3,rfl,_⟩:=s1.place om;obtain⟨b4,o4,aC,_⟩:=s2.place (by have:=ab.o.1;omega);have g1:=s1.cell hlt3;rw[aC] at s2 f6;have g2:=s2.cell (i:=m) (by have:=ab.o.1;omega);have l1:(m:Int)<(x.ports.length:Int):=(by have:=ab.o.1;omega)
             have l2:(m:Int)<((n.pts j).length:Int):=om
             have l3:(0:Int)<=(m:Int):=om
             have aQ:x.ports.length<=x.pc:=s2.1;have aO:(n.pts j).length<=cap:=s1.1;have aV:((n.pts j).length:Int)<=9223372036854775807:=(by have:=aM.o;have:=ab.o.1;omega)
             have ae:Hid (∀r,Bl w2 (wr.drewN r)):=λr=>a0d ag.o r;have an:Hid (∀r,Bl Z (wr.drewN r)):=λr=>aj.o.trans ((ae.o r).mono aj.o.size);have ap:Hid (x.ports.getD m 0=(n.pts j).getD m 0->∀i,i<m+1->x.ports.getD i 0=(n.pts j).getD i 0):=λh i hi=>by
              by_cases e:i=m
              ·subst e;exact h
              ·exact af.o i om
             have ar:Hid (x.ports.getD m 0≠(n.pts j).getD m 0->fitT n t=false):=λh=>ah.o (λz=>h (by rw[z.1]));clear s1 s2 af aC;generalize x.ports.getD m 0=u1 at *;generalize (n.pts j).getD m 0=u2 at *;by_cases q5:u1=u2
             ·have e5:(u1 != u2)=false:=(by simp[q5])
              have av:Hid (∀i,i<m+1->x.ports.getD i 0=(n.pts j).getD i 0):=ap.o q5;clear ap ar q5;(go_wp2_with fail);(go_quiet (fail));(go_wp2_with fail);exact⟨⟨m+1,om,gn,av,ae.o _⟩,io⟩
             ·have e5:(u1 != u2)=true:=(by simp[q5])
              have HF:Hid (fitT n t=false):=ar.o q5;clear ap ar q5;(go_wp2_with fail);(go_quiet (fail));(go_wp2_with fail);go_ret;exact⟨by rw[HF.o];rfl,aa.o.trans ((an.o _).mono aa.o.size)⟩
            ·obtain rfl:m=(n.pts j).length:=om
             have av:Hid (∀i,i<j+1->a6n n i (mat tl i)):=aH.o ⟨(a3P _ _).2 ⟨ab.o.1,λi hi=>af.o i (by rw[<-ab.o.1];exact hi)⟩,ab.o.2⟩;have aF:Hid (Bl Z wr):=aj.o.trans (ag.o.mono aj.o.size);clear af ag;(go_wp2_with fail);exact⟨⟨j+1,ay.o,gn,av,aF⟩,by have:=ay.o;simp[intOf];omega⟩
          ·have e3:((x.calm.length:Int) != ((n.pts j).length:Int))=true:=bne_iff_ne.2 om;have HF:Hid (fitT n t=false):=ah.o (λz=>z3 z.2.2);clear z1 z2 z3;(go_wp2_with fail);go_ret;exact⟨by rw[HF.o];rfl,aa.o.trans (H2.o.1.mono aa.o.size)⟩
         ·have e2:((x.roles.length:Int) != ((n.pts j).length:Int))=true:=bne_iff_ne.2 om;have HF:Hid (fitT n t=false):=ah.o (λz=>z2 z.2.1);clear z1 z2;(go_wp2_with fail);go_ret;exact⟨by rw[HF.o];rfl,aa.o.trans (H2.o.1.mono aa.o.size)⟩
        ·have e1:((x.ports.length:Int) != ((n.pts j).length:Int))=true:=bne_iff_ne.2 om;have HF:Hid (fitT n t=false):=ah.o (λz=>z1 (by rw[z.1]));clear z1;(go_wp2_with fail);go_ret;exact⟨by rw[HF.o];rfl,aa.o.trans (H2.o.1.mono aa.o.size)⟩
       ·obtain rfl:j=tl.length:=om
        have aI:Hid (∀i,i<k+1->a4g n (tat t i).l):=aK.o ⟨au.o,λi hi=>am.o i (by rw[au.o];exact hi)⟩;clear am;(go_wp2_with fail);exact⟨⟨k+1,aB.o,gn,aI,hB⟩,by have:=aB.o;simp[intOf];omega⟩
     ·have e1:((tl.length:Int) != (n.K:Int))=true:=bne_iff_ne.2 om;have HF:Hid (fitT n t=false):=ax.o (λz=>q2 z.1);clear q2;(go_wp2_with fail);go_ret;exact⟨by rw[HF.o];rfl,aa.o.trans (hB.o.mono aa.o.size)⟩
    ·obtain rfl:k=t.length:=om
     have HF:Hid (fitT n t=true):=aw.o ⟨⟨om,om⟩,hS.o⟩;clear hS;(go_wp2_with fail);go_ret;exact⟨by rw[HF.o];rfl,aa.o.trans (hB.o.mono aa.o.size)⟩
