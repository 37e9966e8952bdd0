/- TF5a -/
import Derived.Test.YtelebnancdjjiaaGreatDoorE38
set_option maxRecDepth 100000
set_option maxHeartbeats 40000000
namespace Go.Proofs.YtelebnancdjjiaaGreatDoor
section
open Go.Proofs.Tryz Go.RowKit
open Vc(V Of)
open Pl(En Lk Br Net LN lf)
open Tk(Md Mnd Cn Sc Dn)
theorem OwnM.rk {W:World}{base:Nat}{v:Value}{l:List Mi}(h:OwnM W base v l):RkM W base v l:=⟨h.row,λm hm=>⟨(h.each m hm).roles,(h.each m hm).calm⟩⟩
theorem OwnM.kept {W W':World}{base:Nat}{v:Value}{l:List Mi}(h:OwnM W base v l) (hk:∀q,base<=q->q<W.heap.size->W'.heap[q]?=W.heap[q]?):OwnM W' base v l:=by
 have f:∀{e k n:Nat}{v:Value}{xs:List Value},W.ownsRow base e k v n xs->W'.ownsRow base e k v n xs:=λho=>a0A ho (λq hq=>hk q (oCb ho q hq).1 (oCb ho q hq).2);exact⟨f h.row,λm hm=>⟨f (h.each m hm).ports,f (h.each m hm).roles,f (h.each m hm).calm⟩⟩
structure TkS (w W:World) (n:Net) (BN RT RF OT base k:Nat) (ao:OA) (cap:Nat) (t':List Tr):Prop where
 low:Bl w W
 net:W.heap[BN]?=some (.cells #[.slice n.bao n.K n.bcap,.slice n.lao n.L n.lcap] 25)
 res:W.heap[RT]?=some (.cells #[sN] 34)
 flt:W.heap[RF]?=some (.cells #[Iv 0,Iv 0] 37)
 out:W.heap[OT]?=some (.cells #[.slice ao t'.length cap] 34)
 rk:RkT W base (.slice ao t'.length cap) t'
 own:∀x∈t',OwnM W base (.slice x.ao x.l.length x.cap) x.l
 len:t'.length=k
 first:∀j,j<k->(tat t' j).l.length=n.K/\∀i,i<n.K->a1Y n j i (mat (tat t' j).l i)
 big:base<=W.heap.size
 ord:w.heap.size<=BN/\BN<RT/\RT<RF/\RF<OT/\OT<base
abbrev TkS.o:=@TkS.out
theorem TkS.below {w W W':World}{n:Net}{BN RT RF OT base k:Nat}{ao:OA}{cap:Nat}{t':List Tr}(h:TkS w W n BN RT RF OT base k ao cap t') (hb:Bl W W'):TkS w W' n BN RT RF OT base k ao cap t' :=
 ⟨h.low.trans (hb.mono h.low.size),keep h.net hb,keep h.res hb,keep h.flt hb,keep h.o hb,h.rk.below hb,λx hx=>(h.own x hx).below hb,h.len,h.first,b0p h.big hb.size,h.ord⟩
theorem TkS.next {w W:World}{n:Net}{BN RT RF OT base k b2:Nat}{ao ao2:OA}{cap cap2:Nat}{t':List Tr}{l':List Mi}(h:TkS w W n BN RT RF OT base k ao cap t') (hl:t'.length<=1000) (hm:OwnM W b2 (.slice ao2 l'.length cap2) l') (ab:base<=b2) (ht:l'.length=n.K/\∀i,i<n.K->a1Y n k i (mat l' i)) :
  ∃a c W2,(Builtin.append_ #[32,32] 32 #[.slice ao t'.length cap,.slice (some (Pv W.heap.size 0)) 1 1]).run prog (W.alloc (.cells #[.slice ao2 l'.length cap2] 112))=.ok (.slice a (t'++[Tr.mk ao2 cap2 l']).length c) W2/\(W2.cell? (Pv OT 0)=some (.slice ao t'.length cap)/\W2.frozen? (Pv OT 0)=false) /\
   TkS w (W2.setCell (Pv OT 0) (.slice a (t'++[Tr.mk ao2 cap2 l']).length c)) n BN RT RF OT base (k+1) a c (t'++[Tr.mk ao2 cap2 l']):=by
 obtain⟨a,c,W2,r,hk,hb,hq⟩:=more_r base W (.slice ao t'.length cap) t' ⟨ao2,cap2,l'⟩ h.rk ((hm.rk).mono ab) hl h.big;have ho:=hq _ _ _ h.o dd;have hn:=hq _ _ _ h.net dd;have hr:=hq _ _ _ h.res dd;have hf:=hq _ _ _ h.flt dd;obtain⟨o1,o2,o3,o4,o5⟩:=h.ord;have ad:base<=(W2.setCell (Pv OT 0) (.slice a (t'++[Tr.mk ao2 cap2 l']).length c)).heap.size:=by
  have h1:=hb.size;have h2:(W2.setCell (Pv OT 0) (.slice a (t'++[Tr.mk ao2 cap2 l']).length c)).heap.size=W2.heap.size:=(by simp)
  have h3:=h.big;omega
 have aa:Bl w W2:=h.low.trans (hb.mono (show w.heap.size<=base by omega));have ko:∀{l:List Mi}{v:Value},OwnM W base v l->OwnM (W2.setCell (Pv OT 0) (.slice a (t'++[Tr.mk ao2 cap2 l']).length c)) base v l:=λ{l v} hO=>by
  have h1:OwnM W2 base v l:=hO.keep (λq ac ty hc ht=>(hq q ac ty hc (by rcases ht with e | e<;>rw[e]<;>decide)).trans hc.symm);exact h1.kept (λq hq _=>a0J om)
 refine⟨a,c,W2,r,⟨a0x ho,b0a _ _ _ _ _ ho⟩,aa.setCell (show w.heap.size<=OT by omega) _,a0D hn om,a0D hr om,a0D hf om,?_,hk.keep (λq _ _ hq _ _=>a0J om),λx hx => ?_,by rw[List.length_append,h.len];rfl,λj hj => ?_,ad,h.ord⟩
 ·rw[b0e _ _ _ _ _ _ ho];rfl
 ·rcases List.mem_append.1 hx with hx | hx
  ·exact ko (h.own x hx)
  ·have:x=Tr.mk ao2 cap2 l':=by simpa using hx
   subst this;exact ko (hm.mono ab)
 ·by_cases e:j=k
  ·subst e;rw[a3Y _ _ _ (by rw[h.len];exact b0g _),h.len,Nat.sub_self];exact ht
  ·rw[a5b _ _ _ (by rw[h.len];omega)];exact h.first j om
theorem TkS.done {w W W3:World}{n:Net}{BN RT RF OT base:Nat}{T:Nat}{ao:OA}{cap:Nat}{t':List Tr}(h:TkS w W n BN RT RF OT base T ao cap t') (hT:1<=T/\T<=4) (hK:n.K<=12) (hs:W3.heap.size=W.heap.size) (hk:∀q,base<=q->W3.heap[q]?=W.heap[q]?):Kept W3 w.heap.size (λV=>StT V n T ao cap t'):=λV hV=>by
 have ad:w.heap.size<=base:=(by have:=h.ord;omega)
 have ab:∀q,base<=q->q<W.heap.size->V.heap[q]?=W.heap[q]?:=λq h1 h2=>(hV q om om).trans (hk q h1);have hF:∀j,j<T->∀x,x<n.K->a1Y n j x (mat (tat t' j).l x):=λj hj x hx=>(h.first j hj).2 x hx;have hL:∀j,j<T->(tat t' j).l.length=n.K:=λj hj=>(h.first j hj).1;have tl:=h.len;have aa:TrRow V ao cap t':=by
  have ac:RkT V base (.slice ao t'.length cap) t':=h.rk.keep (λq _ _ hq hc _=>ab q hq (a1a hc));refine ac.row' om (λk hk=>by rw[hL k om];omega) (λk hk i hi => ?_);have ho:=(h.own _ (a9y hk)).kept ab;exact a2Q (ho.each _ (a9r hi)).ports
 refine⟨aa,by rw[tl],?_,λj hj x hx y => ?_,λj hj x hx => ?_⟩
 ·refine a2z.2 ⟨by rw[tl];exact hT,λj hj => ?_⟩;rw[tl] at hj;refine⟨hL j hj,λx hx => ?_⟩;obtain⟨_,e1,e2,e3⟩:=hF j hj x hx;rw[e1,e2,e3,a6q];exact⟨rfl,rfl,rfl⟩
 ·rw[tl] at hj;rw[hL j hj] at hx;obtain⟨_,_,_,e3⟩:=hF j hj x hx;rw[e3,a9t];exact⟨Int.le_refl _,λh=>absurd h (Int.lt_irrefl _)⟩
 ·rw[tl] at hj;obtain⟨e0,_,e2,e3⟩:=hF j hj x hx;unfold msT a4Z;rw[e0,e2,e3]
def RstW (w:World) (n:Net) (trees:Int) (e:Ending) (w':World):Prop :=
 Bl w w'/\(((a2c n trees).1≠0/\e=.returned (.tuple #[.agg #[sN],.agg #[Iv (a2c n trees).1,Iv (a2c n trees).2]])) \/
  ((a2c n trees).1=0/\∃(oao:OA) (ocap:Nat) (t0:List Tr),e=.returned (.tuple #[.agg #[.slice oao t0.length ocap],.agg #[Iv 0,Iv 0]])/\Kept w' w.heap.size (λV=>StT V n trees oao ocap t0)))
theorem a4C {n:Net}{k i:Nat}{l:List Mi}{x:Mi}(hl:l.length=i) (h:∀j,j<i->a1Y n k j (mat l j)) (hx:a1Y n k i x):(l++[x]).length=i+1/\∀j,j<i+1->a1Y n k j (mat (l++[x]) j):=by
 refine⟨by rw[List.length_append,hl];rfl,λj hj => ?_⟩;by_cases e:j=i
 ·subst e;rw[a3f _ _ _ (by rw[hl];exact b0g _),hl,Nat.sub_self];exact hx
 ·rw[a3C _ _ _ (by rw[hl];omega)];exact h j om
theorem rise_few {l:List Int}{m:Nat}(h:l.Pairwise (· < ·)) (hx:∀x,x∈l->1<=x/\x<=(m:Int)):l.length<=m:=by
 induction m generalizing l with
 | zero =>
  cases l with
  | nil=>exact b0g _
  | cons a l=>have:=hx a (by simp);omega
 | succ m ih =>
  have h1:=ih (l:=l.filter (λx=>decide (x<=(m:Int)))) (h.filter _) (λx hm=>by
   obtain⟨a,b⟩:=List.mem_filter.1 hm;have:=hx x a;simp at b;omega)
  have h2:(l.filter (λx=>!decide (x<=(m:Int)))).length<=1:=by
   have hp:=h.filter (λx=>!decide (x<=(m:Int)));have hm:∀x,x∈l.filter (λx=>!decide (x<=(m:Int)))->x=(m:Int)+1:=λx hm=>by
    obtain⟨a,b⟩:=List.mem_filter.1 hm;have:=hx x a;simp at b;omega
   generalize l.filter (λx=>!decide (x<=(m:Int)))=k at *;match k with
   | []=>simp
   | [a]=>simp
   | a :: b :: k =>
    have:=(List.pairwise_cons.1 hp).1 b (by simp);have e1:=hm a (by simp);have e2:=hm b (by simp);omega
  have h3:l.length=(l.filter (λx=>decide (x<=(m:Int)))).length+(l.filter (λx=>!decide (x<=(m:Int)))).length:=by
   clear h hx ih h1 h2;induction l with
   | nil=>rfl
   | cons a l ih =>
    by_cases q:a<=(m:Int)
    ·simp[q,ih];omega
    ·simp[q,ih];omega
  omega
theorem a8n (n:Net) (ab:Int) (w:World) (bf:n.Wf) (aH:n.at' w) :
  Calls prog 23 #[n.val,Iv ab] w λe w'=>RstW w n ab e w':=by
 obtain⟨X,HX⟩:=nm (((w.alloc (.cells #[.slice n.bao n.K n.bcap,.slice n.lao n.L n.lcap] 25)).alloc (.cells #[sN] 34)).alloc (.cells #[Iv 0,Iv 0] 37))
 have am:Bl w X:=(by rw[HX.o];exact(bA2 _ _ _).alloc (by simp;omega) _)
 have s2:X.heap.size=w.heap.size+1+1+1:=(by rw[HX.o];simp)
 have g0:X.heap[w.heap.size]?=some (.cells #[.slice n.bao n.K n.bcap,.slice n.lao n.L n.lcap] 25):=(by rw[HX.o];exact keep (b0d _ _ _) (bA1 _ _))
 have g1:X.heap[w.heap.size+1]?=some (.cells #[sN] 34):=(by rw[HX.o];exact keep (b0c _ _ _) (bA1 _ _))
 have g2:X.heap[w.heap.size+1+1]?=some (.cells #[Iv 0,Iv 0] 37):=by
  have:w.heap.size+1+1=((w.alloc (.cells #[.slice n.bao n.K n.bcap,.slice n.lao n.L n.lcap] 25)).alloc (.cells #[sN] 34)).heap.size:=by simp
  rw[HX.o,this];exact a9Z _ _
 obtain⟨BN,aK⟩:=nm w.heap.size
 obtain⟨RT,al⟩:=nm (w.heap.size+1)
 obtain⟨RF,an⟩:=nm (w.heap.size+1+1)
 rw[<-aK.o] at g0;rw[<-al.o] at g1;rw[<-an.o] at g2;have ai:RT≠RF:=(by have:=al.o;have:=an.o;omega)
 have aJ:w.heap.size<=RT:=(by have:=al.o;omega)
 have aD:w.heap.size<=RF:=(by have:=an.o;omega)
 have bW:RT<X.heap.size:=(by have:=al.o;omega)
 have bZ:RF<X.heap.size:=(by have:=an.o;omega)
 have HC:Hid (∀V,Bl X V->(V.cell? (Pv BN 0)=some (.slice n.bao n.K n.bcap)/\V.cell? (Pv BN 1)=some (.slice n.lao n.L n.lcap))/\V.cell? (Pv RT 0)=some sN/\(V.cell? (Pv RF 0)=some (Iv 0)/\V.cell? (Pv RF 1)=some (Iv 0))/\V.frozen? (Pv RT 0)=false/\V.frozen? (Pv RF 0)=false/\V.frozen? (Pv RF 1)=false):=λV hV =>
  ⟨tC2 (keep g0 hV),a0x (keep g1 hV),tC2 (keep g2 hV),b0a _ _ _ _ _ (keep g1 hV),b0a _ _ _ _ _ (keep g2 hV),b0a _ _ _ _ _ (keep g2 hV)⟩
 have HH:Hid (∀V,Bl X V->V.heap[RT]?=some (.cells #[sN] 34)/\V.heap[RF]?=some (.cells #[Iv 0,Iv 0] 37)/\Bl w V):=λV hV=>⟨keep g1 hV,keep g2 hV,am.trans (hV.mono am.size)⟩
 have ad:Hid (∀V,Bl X V->V.heap[BN]?=some (.cells #[.slice n.bao n.K n.bcap,.slice n.lao n.L n.lcap] 25)):=λV hV=>keep g0 hV;have bc:Hid (Calls prog 31 #[.agg #[.slice n.bao n.K n.bcap,.slice n.lao n.L n.lcap]] X λe w'=>e=.returned (.agg #[Iv n.wrong.1,Iv n.wrong.2])/\Hid (Bl X w')):=(a2V n X (aH.below am)).mono (λe w' h=>⟨h.1,h.2⟩);have ar:∀V,Bl w V->n.at' V:=λV hV=>aH.below hV;have aI:Hid (∀V,Bl X V->n.at' V):=λV hV=>aH.below (am.trans (hV.mono am.size));have au:Hid (n.wrong.1=0->n.Right):=right_of bf;have bJ:=HC.o X (b0h _ _);clear bf aH s2 am g0 g1 g2;simp only[Pl.Net.val];go_enter func23,ntmps23;obtain⟨⟨x0,x1⟩,_⟩:=bJ;rw[HX.o,aK.o] at x0 x1;(go_wp2_with fail);rw[<-HX.o,<-an.o,<-al.o,<-aK.o];refine bc.o.mono ?_;rintro e w1 ⟨rfl,H1⟩;clear x0 x1 bc;obtain⟨V1,ae⟩:=nm (w1.alloc (.cells #[Iv n.wrong.1,Iv n.wrong.2] 37))
 have ac:Bl X V1:=(by rw[ae.o];exact H1.o.alloc H1.o.size _)
 have f0:V1.cell? (Pv w1.heap.size 0)=some (Iv n.wrong.1)/\V1.cell? (Pv w1.heap.size 1)=some (Iv n.wrong.2):=tC2 (by rw[ae.o];exact a9Z _ _);obtain⟨f0,f1⟩:=f0;obtain⟨⟨p0,p1⟩,p2,⟨p3,p4⟩,q2,q3,q4⟩:=HC.o V1 ac;have y0:=f0;rw[ae.o] at y0;by_cases q:n.wrong.1=0
 ·have R:=au.o q;have HR:Hid n.Right:=R;have a4:=ad.o V1 ac;rcases(by omega:ab<1\/(¬ab<1/\ab > 4)\/(¬ab<1/\¬ab > 4)) with ht | ⟨ht,bv⟩ | ⟨ht,bv⟩
  ·have HE:Hid (a2c n ab=(3,0)):=by
    show(if n.wrong.1≠0 then n.wrong else if ¬(1<=ab/\ab<=4) then(3,0) else(0,0))=_;rw[iN (λz=>z q),iP om]
   have ag:Hid (V1.heap[RT]?=some (.cells #[sN] 34)/\V1.heap[RF]?=some (.cells #[Iv 0,Iv 0] 37)/\Bl w V1):=HH.o _ ac;rw[ae.o] at p2 p3 p4 q2 q3 q4;rw[q] at y0 p2 p3 p4 q2 q3 q4 ae ⊢;clear f0 f1 p0 p1 ac au HC HH ad aI HR a4 R q;(go_wp2_with fail);rw[<-ae.o];refine b0b (v:=.tuple #[.agg #[sN],.agg #[Iv 3,Iv 0]]) (a2f results23 _ _ RT RF 34 37 #[sN] #[Iv 3,Iv 0] (0,0) (0,0) _ _ rfl rfl ?h1 ?h2 underlying34 underlying37 rfl rfl ?i1 ?i2) rfl ?post
   case h1=>repeat(first | (with_reducible refine a0w ?_) | (with_reducible exact ag.o.1) | (with_reducible refine a1o (a0:=sN) ?_) | (with_reducible refine a0o ?_ ai))
   case h2=>repeat(first | (with_reducible refine a0w ?_) | (with_reducible exact ag.o.2.1) | (with_reducible refine a0i (a0:=Iv 0) (a1:=Iv 0) ?_) | (with_reducible refine a0o ?_ ai.symm))
   case i1=>rw[a0T];try rfl
   case i2=>rw[a0q];try rfl
   case post =>
    refine⟨?_,Or.inl ⟨by rw[HE.o];exact(by decide:(3:Int)≠0),by rw[HE.o];try rfl⟩⟩;repeat(first | (with_reducible refine b0i ?_) | (with_reducible exact ag.o.2.2) | (with_reducible refine Below.setCell ?_ aJ _) | (with_reducible refine Below.setCell ?_ aD _))
  ·have HE:Hid (a2c n ab=(3,0)):=by
    show(if n.wrong.1≠0 then n.wrong else if ¬(1<=ab/\ab<=4) then(3,0) else(0,0))=_;rw[iN (λz=>z q),iP om]
   have ag:Hid (V1.heap[RT]?=some (.cells #[sN] 34)/\V1.heap[RF]?=some (.cells #[Iv 0,Iv 0] 37)/\Bl w V1):=HH.o _ ac;rw[ae.o] at p2 p3 p4 q2 q3 q4;rw[q] at y0 p2 p3 p4 q2 q3 q4 ae ⊢;clear f0 f1 p0 p1 ac au HC HH ad aI HR a4 R q;(go_wp2_with fail);rw[<-ae.o];refine b0b (v:=.tuple #[.agg #[sN],.agg #[Iv 3,Iv 0]]) (a2f results23 _ _ RT RF 34 37 #[sN] #[Iv 3,Iv 0] (0,0) (0,0) _ _ rfl rfl ?h1 ?h2 underlying34 underlying37 rfl rfl ?i1 ?i2) rfl ?post
   case h1=>repeat(first | (with_reducible refine a0w ?_) | (with_reducible exact ag.o.1) | (with_reducible refine a1o (a0:=sN) ?_) | (with_reducible refine a0o ?_ ai))
   case h2=>repeat(first | (with_reducible refine a0w ?_) | (with_reducible exact ag.o.2.1) | (with_reducible refine a0i (a0:=Iv 0) (a1:=Iv 0) ?_) | (with_reducible refine a0o ?_ ai.symm))
   case i1=>rw[a0T];try rfl
   case i2=>rw[a0q];try rfl
   case post =>
    refine⟨?_,Or.inl ⟨by rw[HE.o];exact(by decide:(3:Int)≠0),by rw[HE.o];try rfl⟩⟩;repeat(first | (with_reducible refine b0i ?_) | (with_reducible exact ag.o.2.2) | (with_reducible refine Below.setCell ?_ aJ _) | (with_reducible refine Below.setCell ?_ aD _))
  ·obtain⟨T,rfl⟩:∃T:Nat,ab=(T:Int):=⟨ab.toNat,om⟩
   have HT:Hid (1<=T/\T<=4):=⟨om,om⟩
   have bP:T<=4:=om
   have aZ:n.K<=12:=R.few;have HE:Hid (a2c n T=(0,0)):=by
    show(if n.wrong.1≠0 then n.wrong else if ¬(1<=(T:Int)/\(T:Int)<=4) then(3,0) else(0,0))=_;rw[iN (λz=>z q),iN (λz=>z ⟨om,om⟩)]
   obtain⟨OT,aF⟩:=nm V1.heap.size
   have aL:Hid (OT=w1.heap.size+1):=by
    have h:OT=w1.heap.size+1:=(by rw[aF.o,ae.o];simp)
    exact h
   obtain⟨Y,HY⟩:=nm (V1.alloc (.cells #[sN] 34))
   have aV:Bl V1 Y:=(by rw[HY.o];exact bA1 _ _)
   have bi:Y.heap[OT]?=some (.cells #[sN] 34):=(by rw[HY.o,aF.o];exact a9Z _ _)
   have bu:Bl X Y:=ac.trans (aV.mono ac.size);have bG:Y.heap.size=OT+1:=(by rw[HY.o,aF.o];simp)
   obtain⟨bg,ba,be⟩:=HH.o Y bu;have ak:w.heap.size<=BN/\BN<RT/\RT<RF/\RF<OT/\OT<Y.heap.size:=by
    have e1:=aK.o;have e2:=al.o;have e3:=an.o;have e4:=aF.o;have e5:=ac.size;omega
   have br:Hid (∃ao cap t',TkS w Y n BN RT RF OT Y.heap.size 0 ao cap t'):=⟨none,0,[],be,keep (ad.o V1 ac) aV,bg,ba,bi,RkT.nil _ _,λx hx=>by simp at hx,rfl,λj hj=>absurd hj om,b0g _,ak⟩
   have ap:Hid (w.heap.size<=BN/\BN<RT/\RT<RF/\RF<OT/\OT<Y.heap.size):=ak;have ax:Hid (∀V,Bl w V->n.at' V):=ar;rw[q] at y0 ae ⊢;clear f0 f1 p0 p1 p2 p3 p4 q2 q3 q4 aV bi bu ac au bg ba be ak bG a4 R aI ad HC;clear q;(go_wp2_with fail);rw[<-ae.o,<-HY.o,<-aL.o];clear y0;go_loopw [8] (λq wr=>∃k:Nat,k<=T/\q=Iv k/\Hid (∃ao cap t',TkS w wr n BN RT RF OT Y.heap.size k ao cap t')) (λq _=>T-(intOf q).toNat)
   case atStart=>exact⟨0,om,rfl,br⟩
   case round =>
    obtain⟨k,hk,rfl,hS⟩:=hrel;clear br;obtain⟨Q,HQ⟩:=nm wr
    rw[<-HQ.o] at hS ⊢;clear HQ;obtain⟨ay,af,t',hA⟩:=hS.o;by_cases hlt:k<T
    ·have nk:(k:Int)<(T:Int):=om
     have bo:Hid (k+1<=T):=hlt;have bz:Hid (0<=(k:Int)/\(k:Int)<=15):=⟨om,om⟩
     obtain⟨p0,p1⟩:=tC2 hA.net;have HQ:Hid (∀V,Bl Q V->n.at' V/\TkS w V n BN RT RF OT Y.heap.size k ay af t'):=λV hV=>by
      have h:=hA.below hV;exact⟨ax.o V h.low,h⟩
     have bp:Hid (OwnM Q Q.heap.size (.slice none ([]:List Mi).length 0) []/\([]:List Mi).length=0/\(∀j,j<0->a1Y n k j (mat [] j))/\Bl Q Q):=⟨OwnM.nil _ _,rfl,λj hj=>absurd hj om,b0h _ _⟩
     clear hS hA ax;(go_wp2_with fail);clear p0 p1;go_loopw [9,38] (λs9 aW wr=>∃(i:Nat) (ao:OA) (cap:Nat) (l:List Mi),i<=n.K/\aW=Iv i/\s9=.slice ao l.length cap/\Hid (OwnM wr Q.heap.size (.slice ao l.length cap) l/\l.length=i/\(∀j,j<i->a1Y n k j (mat l j))/\Bl Q wr)) (λ_ aW _=>n.K-(intOf aW).toNat)
     case atStart=>exact⟨0,none,0,[],om,rfl,rfl,bp⟩
     case round =>
      clear bp;obtain⟨i,aj,aw,l,hi,rfl,rfl,hS⟩:=hrel;obtain⟨U,HU⟩:=nm wr
      rw[<-HU.o] at hS ⊢;clear HU;by_cases hlt2:i<n.K
      ·obtain⟨aU,oU⟩:=HQ.o U hS.o.2.2.2;obtain⟨bb,bO,aR,_⟩:=CRow.some aU.brs om;have a5:=aU.brs;rw[aR] at a5;obtain⟨c0,c1,c2,c3,c4⟩:=BRow.cells a5 hlt2;have i0:(0:Int)<=(i:Int):=om
       have i1:(i:Int)<(n.K:Int):=om
       obtain⟨b,hb⟩:=nn (n.bs i)
       rw[<-hb] at c0 c1 c2 c3 c4;obtain⟨U1,aE⟩:=nm (U.alloc (.cells #[Uv b.addr,.slice b.pao b.pn b.pcap,.string b.reg.s,Iv b.reg.rev,.slice b.reg.ao b.reg.n b.reg.cap] 65))
       have aM:Bl U U1:=(by rw[aE.o];exact bA1 _ _)
       have az:U1.heap[U.heap.size]?=some (.cells #[Uv b.addr,.slice b.pao b.pn b.pcap,.string b.reg.s,Iv b.reg.rev,.slice b.reg.ao b.reg.n b.reg.cap] 65):=(by rw[aE.o];exact a9Z _ _)
       obtain⟨d0,d1,d2,d3,d4⟩:=a1L az;rw[aE.o] at d0 d1 d2 d3 d4;have a9:Bl Q U:=hS.o.2.2.2;have a8:Bl Q U1:=a9.trans (aM.mono a9.size);have bl:Hid (Calls prog 45 #[.agg #[Uv b.addr,.slice b.pao b.pn b.pcap,.string b.reg.s,Iv b.reg.rev,.slice b.reg.ao b.reg.n b.reg.cap],Iv k] U1 λe w'=>e=.returned (Uv (n.ids k i))/\Hid (Bl U1 w')):=by
        have h:=a6U (n.bs i) k U1 ((HQ.o U1 a8).1.each i hlt2) (HR.o.fine i hlt2) bz.o;rw[<-hb] at h;refine h.mono (λe w' h=>⟨h.1.trans ?_,h.2⟩);rw[hb];rfl
       have HS:Hid (OwnM U Q.heap.size (.slice aj l.length aw) l/\l.length=i/\(∀j,j<i->a1Y n k j (mat l j))/\Bl Q U):=hS;have aB:Hid (Bl U U1/\Bl Q U1):=⟨aM,a8⟩
       have aC:Hid (i<n.K):=hlt2;clear aU oU a5 hS hb aM az a9 a8;rw[aR];(go_wp2_with fail);rw[<-aE.o];refine bl.o.mono ?_;rintro e w4 ⟨rfl,H4⟩;clear bl c0 c1 c2 c3 c4 d0 d1 d2 d3 d4;have aT:Bl Q w4:=aB.o.2.trans (H4.o.mono aB.o.2.size);obtain⟨n0,n1⟩:=tC2 (HQ.o w4 aT).2.net;have a7:Hid (Calls prog 35 #[.agg #[.slice n.bao n.K n.bcap,.slice n.lao n.L n.lcap],Iv i] w4 λe w'=>∃ao cap,e=.returned (.slice ao (n.pts i).length cap)/\Hid (Bl w4 w'/\w'.ownsRow w4.heap.size 3 1 (.slice ao (n.pts i).length cap) (n.pts i).length (a0j (n.pts i)))):=by
        refine(a4X n i w4 (HQ.o w4 aT).1 HR.o.fewL HR.o.links).mono ?_;rintro e w' ⟨ao,cap,h1,_,_,_,h5,h6⟩;exact⟨ao,cap,h1,h5,h6⟩
       rw[aR] at n0 a7;have aX:Hid (Bl U w4):=aB.o.1.trans (H4.o.mono aB.o.1.size);clear aT;(go_wp2_with fail);refine a7.o.mono ?_;rintro e w5 ⟨pa,pc,rfl,H5⟩;clear a7 n0 n1;have a3:(n.pts i).length<=1000:=by
        have e:Pl.ptsAll n.ls n.L i 30=n.pts i:=Pl.ports_same HR.o.links n.live i;obtain⟨h1,h2⟩:=Pl.ptsAll_rise HR.o.links i 30;rw[e] at h1 h2;have h3:=rise_few h1 (λx hx=>((h2 x).1 hx).1);omega
       have bY:∀W:World,(Instr.makeSlice 52 (Iv ((n.pts i).length:Int)) (Iv ((n.pts i).length:Int))).run prog W=.ok (.slice (some (Pv W.heap.size 0)) (n.pts i).length (n.pts i).length) (W.alloc (.cells (rowC (n.pts i).length 1 (λ_ _=>Iv 0)) 3)):=λW=>a9C W a3;have aG:Bl U w5:=aX.o.trans (H5.o.1.mono aX.o.size);obtain⟨Z,HZ⟩:=nm ((w5.drew.alloc (.cells (rowC (n.pts i).length 1 (λ_ _=>Iv 0)) 3)).alloc (.cells (rowC (n.pts i).length 1 (λ_ _=>Iv 0)) 3))
       have aO:Bl w5 Z:=(by rw[HZ.o];exact(b0i (b0h _ _)).trans (show Below w5.heap.size w5.drew _ from bA2 w5.drew _ _))
       have bm:Z.heap[w5.heap.size]?=some (.cells (rowC (n.pts i).length 1 (λ_ _=>Iv 0)) 3):=(by rw[HZ.o];exact b0d w5.drew _ _)
       have bd:Z.heap[w5.heap.size+1]?=some (.cells (rowC (n.pts i).length 1 (λ_ _=>Iv 0)) 3):=(by rw[HZ.o];exact b0c w5.drew _ _)
       have aq:Bl U Z:=aG.trans (aO.mono aG.size);have bh:Z.heap.size=w5.heap.size+1+1:=(by rw[HZ.o];simp)
       obtain⟨hM,hl1,hl2,ah⟩:=HS.o;have bC:Q.heap.size<=w5.heap.size:=b0p ah.size aG.size;have a6:Z.ownsRow Q.heap.size 3 1 (.slice pa (n.pts i).length pc) (n.pts i).length (a0j (n.pts i)):=a0v (a0h H5.o.2 aO) (by have:=aX.o.size;have:=ah.size;omega);have w1:=ZeroAt.owns (base:=Q.heap.size) bm a3 om;have w2:=ZeroAt.owns (base:=Q.heap.size) bd a3 om;have bw:=ah.size;have bI:=aq.size;obtain⟨a1,m1,c1,W1,r1,bM,o1,b1,_⟩:=more_m Q.heap.size Z (.slice aj l.length aw) l (Mi.mk ⟨⟨n.ids k i,0,n.ids k i,0⟩,0,-1⟩ pa pc (n.pts i) (some (Pv w5.heap.size 0)) (n.pts i).length (zer (n.pts i).length) (some (Pv (w5.heap.size+1) 0)) (n.pts i).length (zer (n.pts i).length)) (hM.below aq) ⟨a6,w1,w2⟩ om om;obtain⟨a2,m2,c2,W2,r2,bK,o2,b2,_⟩:=more_m Q.heap.size Z (.slice aj l.length aw) l (Mi.mk ⟨⟨n.ids k i,0,n.ids k i,0⟩,0,-1⟩ pa pc (n.pts i) (some (Pv (w5.heap.size+1) 0)) (n.pts i).length (zer (n.pts i).length) (some (Pv w5.heap.size 0)) (n.pts i).length (zer (n.pts i).length)) (hM.below aq) ⟨a6,w2,w1⟩ om om;subst bM bK;obtain⟨e1,f1⟩:=a4C (x:=Mi.mk ⟨⟨n.ids k i,0,n.ids k i,0⟩,0,-1⟩ pa pc (n.pts i) (some (Pv w5.heap.size 0)) (n.pts i).length (zer (n.pts i).length) (some (Pv (w5.heap.size+1) 0)) (n.pts i).length (zer (n.pts i).length)) hl1 hl2 ⟨rfl,rfl,rfl,rfl⟩;obtain⟨e2,f2⟩:=a4C (x:=Mi.mk ⟨⟨n.ids k i,0,n.ids k i,0⟩,0,-1⟩ pa pc (n.pts i) (some (Pv (w5.heap.size+1) 0)) (n.pts i).length (zer (n.pts i).length) (some (Pv w5.heap.size 0)) (n.pts i).length (zer (n.pts i).length)) hl1 hl2 ⟨rfl,rfl,rfl,rfl⟩;have aY:Bl Q Z:=ah.trans (aq.mono ah.size);unfold a4Y miA at r1 r2;simp only[a6q] at r1 r2;obtain⟨l2,bj⟩:∃l2:List Mi,Hid (l2=l++[Mi.mk ⟨⟨n.ids k i,0,n.ids k i,0⟩,0,-1⟩ pa pc (n.pts i) (some (Pv w5.heap.size 0)) (n.pts i).length (zer (n.pts i).length) (some (Pv (w5.heap.size+1) 0)) (n.pts i).length (zer (n.pts i).length)]):=⟨_,rfl⟩
       obtain⟨l3,bt⟩:∃l3:List Mi,Hid (l3=l++[Mi.mk ⟨⟨n.ids k i,0,n.ids k i,0⟩,0,-1⟩ pa pc (n.pts i) (some (Pv (w5.heap.size+1) 0)) (n.pts i).length (zer (n.pts i).length) (some (Pv w5.heap.size 0)) (n.pts i).length (zer (n.pts i).length)]):=⟨_,rfl⟩
       rw[<-bj.o] at r1 o1 e1 f1;rw[<-bt.o] at r2 o2 e2 f2;have bD:Hid (OwnM W1 Q.heap.size (.slice a1 l2.length c1) l2/\l2.length=i+1/\(∀j,j<i+1->a1Y n k j (mat l2 j))/\Bl Q W1):=⟨o1,e1,f1,aY.trans b1⟩
       have bH:Hid (OwnM W2 Q.heap.size (.slice a2 l3.length c2) l3/\l3.length=i+1/\(∀j,j<i+1->a1Y n k j (mat l3 j))/\Bl Q W2):=⟨o2,e2,f2,aY.trans b2⟩
       rw[bh] at r1 r2;have bn:Hid _:=r1;have bq:Hid _:=r2;rw[HZ.o] at bn bq;clear aG aO bm bd aq bh hM hl1 hl2 ah bC a6 w1 w2 bw bI r1 r2 o1 o2 b1 b2 e1 e2 f1 f2 aY bj bt;(go_wp2_with fail);refine a2p (z:=14) (C:=λ_=>True) kr trivial (λaa => ?_);refine zTk 0 49 aa ?_;(try simp only[aP])
       refine zTk 1 50 aa ?_;(try simp only[aP])
       refine zTk 2 51 aa ?_;(try simp only[aP])
       refine zTk 3 52 aa ?_;(try simp only[aP])
       refine zTk 4 53 aa ?_;(try simp only[aP])
       refine zTk 5 54 aa ?_;(try simp only[aP])
       refine zTk 6 55 aa ?_;(try simp only[aP])
       refine zTk 8 57 aa ?_;(try simp only[aP])
       refine zTk 9 58 aa ?_;(try simp only[aP])
       refine z_two (i:=7) (j:=10) kr rfl rfl (λK hK => ?_) (λK hK => ?_)
       ·go_simp;refine hK.out _ _ (Or.inr trivial) (λaa => ?_);clear hK K;(try simp only[aP])
        refine a2b (i:=10) kr rfl (λK hK => ?_);go_simp;refine hK.out _ _ (Or.inr trivial) (λaa => ?_);clear hK K;(try simp only[aP])
        refine zTk 11 60 aa ?_;(try simp only[aP])
        refine a2b (i:=12) kr rfl (λK hK => ?_);go_simp;refine hK.out _ _ (Or.inr trivial) (λaa => ?_);clear hK K;(try simp only[aP])
        refine a2b (i:=13) kr rfl (λK hK => ?_);refine a0Y (some 62) rfl rfl (.tmp 49) (.tmp 61) 112 rfl _ _ _ rfl rfl bn.o ?_;refine hK.out _ _ (Or.inr trivial) (λaa => ?_);clear hK K;(try simp only[aP])
        refine a2b (i:=14) kr rfl (λK hK => ?_);go_simp;refine hK.out _ _ (Or.inl kr) (λaa => ?_);clear hK K;refine a5q kr ?_ _;(go_wp2_with fail);exact⟨⟨i+1,a1,c1,l2,aC.o,gn,rfl,bD⟩,by have:=aC.o;simp[intOf];omega⟩
       ·go_simp;refine hK.out _ _ (Or.inr trivial) (λaa => ?_);clear hK K;(try simp only[aP])
        refine a2b (i:=7) kr rfl (λK hK => ?_);go_simp;refine hK.out _ _ (Or.inr trivial) (λaa => ?_);clear hK K;(try simp only[aP])
        refine zTk 11 60 aa ?_;(try simp only[aP])
        refine a2b (i:=12) kr rfl (λK hK => ?_);go_simp;refine hK.out _ _ (Or.inr trivial) (λaa => ?_);clear hK K;(try simp only[aP])
        refine a2b (i:=13) kr rfl (λK hK => ?_);refine a0Y (some 62) rfl rfl (.tmp 49) (.tmp 61) 112 rfl _ _ _ rfl rfl bq.o ?_;refine hK.out _ _ (Or.inr trivial) (λaa => ?_);clear hK K;(try simp only[aP])
        refine a2b (i:=14) kr rfl (λK hK => ?_);go_simp;refine hK.out _ _ (Or.inl kr) (λaa => ?_);clear hK K;refine a5q kr ?_ _;(go_wp2_with fail);exact⟨⟨i+1,a2,c2,l3,aC.o,gn,rfl,bH⟩,by have:=aC.o;simp[intOf];omega⟩
      ·obtain rfl:i=n.K:=om
       obtain⟨hM,hl1,hl2,ah⟩:=hS.o;have hO:=(HQ.o U ah).2;have hbase:Y.heap.size<=Q.heap.size:=(HQ.o Q (b0h _ _)).2.big;obtain⟨a1,c1,W9,av,⟨o0,o1⟩,hN⟩:=hO.next (by rw[hO.len];omega) hM hbase ⟨hl1,hl2⟩;have ho0:=a0x hO.o;have HN:Hid (∃ao cap t2,TkS w (W9.setCell (Pv OT 0) (.slice a1 (t'++[Tr.mk aj aw l]).length c1)) n BN RT RF OT Y.heap.size (k+1) ao cap t2):=⟨a1,c1,_,hN⟩
       have bx:Hid _:=av;clear av hN hO hS hM hl1 hl2 ah;generalize (t'++[Tr.mk aj aw l]).length=tl2 at *;go_wp2_with (at_builtin;refine a0a rfl (.tmp 65) (.tmp 67) 32 rfl _ _ _ rfl rfl bx.o ?_)
       exact⟨⟨k+1,bo.o,gn,HN⟩,by have:=bo.o;simp[intOf];omega⟩
    ·obtain rfl:k=T:=om
     have nk:¬(k:Int)<(k:Int):=om
     have ho0:=a0x hA.o;have bQ:=a0x hA.res;have b0:=b0a _ _ 0 _ _ hA.res;obtain⟨bX,bV⟩:=tC2 hA.flt;have bU:=b0a _ _ 0 _ _ hA.flt;have bR:=b0a _ _ 1 _ _ hA.flt;have bL:OT≠RT:=(by have:=hA.ord;omega)
     have bF:OT≠RF:=(by have:=hA.ord;omega)
     have bT:=bL.symm;have bS:=bF.symm;have bA:=ai.symm;have HB:Hid (Q.heap[RT]?=some (.cells #[sN] 34)/\Q.heap[RF]?=some (.cells #[Iv 0,Iv 0] 37)/\Bl w Q):=⟨hA.res,hA.flt,hA.low⟩
     have bB:Hid (∀V,(∀q,Y.heap.size<=q->V.heap[q]?=Q.heap[q]?)->V.heap.size=Q.heap.size->Bl w V->RstW w n k (.returned (.tuple #[.agg #[.slice ay t'.length af],.agg #[Iv 0,Iv 0]])) V):=λV h1 h2 h3=>⟨h3,Or.inr ⟨by rw[HE.o],ay,af,t',rfl,hA.done HT.o aZ h2 h1⟩⟩
     have aj:RT<Y.heap.size:=(by have:=ap.o;omega)
     have bE:RF<Y.heap.size:=(by have:=ap.o;omega)
     clear hS hA;(go_wp2_with fail);refine b0b (v:=.tuple #[.agg #[.slice ay t'.length af],.agg #[Iv 0,Iv 0]]) (a2f results23 _ _ RT RF 34 37 #[.slice ay t'.length af] #[Iv 0,Iv 0] (0,0) (0,0) _ _ rfl rfl ?h1 ?h2 underlying34 underlying37 rfl rfl ?i1 ?i2) rfl ?post
     case h1=>repeat(first | (with_reducible exact HB.o.1) | (with_reducible refine a1o (a0:=sN) ?_) | (with_reducible refine a0o ?_ ai))
     case h2=>repeat(first | (with_reducible exact HB.o.2.1) | (with_reducible refine a0i (a0:=Iv 0) (a1:=Iv 0) ?_) | (with_reducible refine a0o ?_ bA))
     case i1=>rw[a0T];try rfl
     case i2=>rw[a0q];try rfl
     case post =>
      refine bB.o _ ?_ ?_ ?_
      ·repeat(first | (with_reducible refine a8Q ?_ aj) | (with_reducible refine a8Q ?_ bE) | (exact(λ_ _=>rfl)))
      ·simp
      ·repeat(first | (with_reducible exact HB.o.2.2) | (with_reducible refine Below.setCell ?_ aJ _) | (with_reducible refine Below.setCell ?_ aD _))
 ·have HE:Hid ((a2c n ab).1=n.wrong.1/\(a2c n ab).2=n.wrong.2):=by
   have:a2c n ab=n.wrong:=iP q;exact⟨by rw[this],by rw[this]⟩
  have q1:(n.wrong.1 != 0)=true:=(by simpa using q)
  have ag:Hid (∀m,(V1.drewN m).heap[RT]?=some (.cells #[sN] 34)/\(V1.drewN m).heap[RF]?=some (.cells #[Iv 0,Iv 0] 37)/\Bl w (V1.drewN m)):=λm=>HH.o _ (a0d ac m);have aN:Hid (V1.drew.heap[RT]?=some (.cells #[sN] 34)/\V1.drew.heap[RF]?=some (.cells #[Iv 0,Iv 0] 37)/\Bl w V1.drew):=HH.o _ (b0i ac);have bN:Hid (n.wrong.1≠0):=q;have aQ:Hid (V1.heap[RT]?=some (.cells #[sN] 34)/\V1.heap[RF]?=some (.cells #[Iv 0,Iv 0] 37)/\Bl w V1):=HH.o _ ac;have d2:RT≠w1.heap.size:=(by have:=H1.o.size;omega)
  have d3:RF≠w1.heap.size:=(by have:=H1.o.size;omega)
  have d5:=d2.symm;have d6:=d3.symm;clear p0 p1 ac au HC HH ad aI;generalize n.wrong.1=E1 at *;generalize n.wrong.2=E2 at *;(go_wp2_with fail);rw[<-ae.o];go_region
  (all_goals go_wp2_with fail);all_goals
   refine b0b (v:=.tuple #[.agg #[sN],.agg #[Iv E1,Iv E2]]) (a2f results23 _ _ RT RF 34 37 #[sN] #[Iv E1,Iv E2] (0,0) (0,0) _ _ rfl rfl ?h1 ?h2 underlying34 underlying37 rfl rfl ?i1 ?i2) rfl ?post
   case h1=>repeat(first | (with_reducible refine a0w ?_) | (with_reducible exact(ag.o _).1) | (with_reducible exact aN.o.1) | (with_reducible exact aQ.o.1) | (with_reducible refine a1o (a0:=sN) ?_) | (with_reducible refine a0o ?_ ai))
   case h2=>repeat(first | (with_reducible refine a0w ?_) | (with_reducible exact(ag.o _).2.1) | (with_reducible exact aN.o.2.1) | (with_reducible exact aQ.o.2.1) | (with_reducible refine a0i (a0:=Iv 0) (a1:=Iv 0) ?_) | (with_reducible refine a0o ?_ ai.symm))
   case i1=>rw[a0T];try rfl
   case i2=>rw[a0q];try rfl
   case post =>
    refine⟨?_,Or.inl ⟨by rw[HE.o.1];exact bN.o,by rw[HE.o.1,HE.o.2]⟩⟩;repeat(first | (with_reducible refine b0i ?_) | (with_reducible exact(ag.o _).2.2) | (with_reducible exact aN.o.2.2) | (with_reducible exact aQ.o.2.2) | (with_reducible refine Below.setCell ?_ aJ _) | (with_reducible refine Below.setCell ?_ aD _))
def a6x (n:Net) (trees:Int) (ds:Nat->Dn) (dn:Nat):Int×Int:=if (a2c n trees).1≠0 then a2c n trees else if 30<dn then(5,0) else Tk.errTo n.cn ds dn
theorem a4D {n:Net}{aa:Int}(h:(a2c n aa).1=0):n.wrong.1=0/\(1<=aa/\aa<=4):=by
 unfold a2c at h;by_cases q:n.wrong.1=0
 ·rw[iN (λz=>z q)] at h;by_cases q2:1<=aa/\aa<=4
  ·exact⟨q,q2⟩
  ·rw[iP q2] at h;cases h
 ·rw[iP q] at h;exact absurd h q
theorem on_start {n:Net}{t0:List Tr}{ds:Nat->Dn}{dn:Nat}(h:n.wrong.1=0) (hf:fitT n t0=true):a0P n t0 ds dn=if 30<dn then(5,0) else Tk.errTo n.cn ds dn:=by
 have e:wrT n t0 dn=if 30<dn then(5,0) else(0,0):=by
  unfold wrT;rw[iN (λz=>z h),iN (by rw[hf];exact Bool.noConfusion)]
 unfold a0P;rw[e];by_cases q:30<dn
 ·rw[iP q,iP q,iP dd]
 ·rw[iN q,iN q,iN (λz=>z rfl)]
def RplW (w:World) (N:Nat->Prop) (n:Net) (trees:Int) (ds:Nat->Dn) (dn:Nat) (e:Ending) (w':World):Prop :=
 Bl w w'/\(((a6x n trees ds dn).1≠0/\e=.returned (.tuple #[.agg #[sN,sN],.agg #[sN],.agg #[Iv (a6x n trees ds dn).1,Iv (a6x n trees ds dn).2]])) \/
  ((a6x n trees ds dn).1=0/\∃(n':Net) (oao:OA) (ocap:Nat) (t':List Tr),e=.returned (.tuple #[n'.val,.agg #[.slice oao t'.length ocap],.agg #[Iv 0,Iv 0]])/\Bz N w' (λV=>SnOut V n trees.toNat ((n.sc (a4Z n)).all n.cn ds dn) n' oao ocap t')))
theorem a9W (n:Net) (aa:Int) (aj:OA) (dn ac:Nat) (ds:Nat->Dn) (N:Nat->Prop) (w:World) (ax:n.Wf) (hN:∀q,N q->q<w.heap.size) (aB:Bz N w (λV=>n.at' V)) (aJ:a0s n.bao n.K n.bcap) (aM:a0s n.lao n.L n.lcap) (aI:∀i,i<n.K->a0s (n.bs i).pao (n.bs i).pn (n.bs i).pcap) (aR:dn<=9223372036854775807) (aH:DRow w aj dn ac ds) :
  Calls prog 9 #[n.val,Iv aa,.slice aj dn ac] w λe w'=>RplW w N n aa ds dn e w':=by
 obtain⟨X2,ah⟩:=nm ((w.alloc (.cells #[.slice n.bao n.K n.bcap,.slice n.lao n.L n.lcap] 25)).alloc (.cells #[sN,sN] 25))
 obtain⟨X,HX⟩:=nm ((X2.alloc (.cells #[sN] 34)).alloc (.cells #[Iv 0,Iv 0] 37))
 have b1:Bl w X2:=(by rw[ah.o];exact bA2 _ _ _)
 have s1:X2.heap.size=w.heap.size+1+1:=(by rw[ah.o];simp)
 have b2:Bl X2 X:=(by rw[HX.o];exact bA2 _ _ _)
 have s2:X.heap.size=X2.heap.size+1+1:=(by rw[HX.o];simp)
 have ad:Bl w X:=b1.trans (b2.mono b1.size);have g0:X.heap[w.heap.size]?=some (.cells #[.slice n.bao n.K n.bcap,.slice n.lao n.L n.lcap] 25):=keep (by rw[ah.o];exact b0d _ _ _) b2;have g2:X.heap[w.heap.size+1]?=some (.cells #[sN,sN] 25):=keep (by rw[ah.o];exact b0c _ _ _) b2;have g3:X.heap[w.heap.size+1+1]?=some (.cells #[sN] 34):=by
  rw[HX.o,<-s1];exact b0d _ _ _
 have g4:X.heap[w.heap.size+1+1+1]?=some (.cells #[Iv 0,Iv 0] 37):=by
  rw[HX.o,<-s1];exact b0c _ _ _
 obtain⟨BN,al⟩:=nm w.heap.size
 obtain⟨RN,aC⟩:=nm (w.heap.size+1)
 obtain⟨RT,ap⟩:=nm (w.heap.size+1+1)
 obtain⟨RF,aD⟩:=nm (w.heap.size+1+1+1)
 rw[<-al.o] at g0;rw[<-aC.o] at g2;rw[<-ap.o] at g3;rw[<-aD.o] at g4;have ai:w.heap.size<=BN/\BN<RN/\RN<RT/\RT<RF/\RF<X.heap.size:=by
  have e1:=al.o;have e2:=aC.o;have e3:=ap.o;have e4:=aD.o;omega
 have av:RN≠RT:=om
 have aE:RN≠RF:=om
 have aq:RT≠RF:=om
 have aY:=av.symm;have aU:=aE.symm;have aV:=aq.symm;have ae:Hid (w.heap.size<=RN/\w.heap.size<=RT/\w.heap.size<=RF):=⟨om,om,om⟩
 have an:Hid (∀V,Bl X V->RB w V RN RT RF):=λV hV=>⟨keep g2 hV,keep g3 hV,keep g4 hV,ad.trans (hV.mono ad.size)⟩
 have aQ:Hid (∀V,Bl X V->V.heap[BN]?=some (.cells #[.slice n.bao n.K n.bcap,.slice n.lao n.L n.lcap] 25)):=λV hV=>keep g0 hV;have aK:Hid (Calls prog 23 #[.agg #[.slice n.bao n.K n.bcap,.slice n.lao n.L n.lcap],Iv aa] X λe w'=>∃oa ol oc f1 f2,e=.returned (.tuple #[.agg #[.slice oa ol oc],.agg #[Iv f1,Iv f2]])/\Hid (Bl X w'/\f1=(a2c n aa).1/\f2=(a2c n aa).2/\(f1=0->∃t0:List Tr,ol=t0.length/\Kept w' X.heap.size (λV=>StT V n aa oa oc t0)))):=by
  refine(a8n n aa X ax (aB.at' ad)).mono ?_;rintro e w' ⟨h1,⟨h2,rfl⟩ | ⟨h2,oao,ocap,t0,rfl,h3⟩⟩
  ·exact⟨none,0,0,_,_,rfl,h1,rfl,rfl,λz=>absurd z h2⟩
  ·have:a2c n aa=(0,0):=by
    obtain⟨z1,z2⟩:=a4D h2;unfold a2c;rw[iN (λz=>z z1),iN (λz=>z z2)]
   exact⟨oao,_,ocap,0,0,rfl,h1,by rw[this],by rw[this],λ_=>⟨t0,rfl,h3⟩⟩
 have au:Hid ((a2c n aa).1=0->∀(w1 V:World) (oa:OA) (oc:Nat) (t0:List Tr),Bl X w1->Bl w1 V->Kept w1 X.heap.size (λV=>StT V n aa oa oc t0)->Calls prog 24 #[.agg #[.slice n.bao n.K n.bcap,.slice n.lao n.L n.lcap],.agg #[.slice oa t0.length oc],.slice aj dn ac] V λe w'=>∃na nk nc la lk lc oa ol oc f1 f2,e=.returned (.tuple #[.agg #[.slice na nk nc,.slice la lk lc],.agg #[.slice oa ol oc],.agg #[Iv f1,Iv f2]])/\Hid (RB w w' RN RT RF/\RplW w N n aa ds dn (.returned (.tuple #[.agg #[.slice na nk nc,.slice la lk lc],.agg #[.slice oa ol oc],.agg #[Iv f1,Iv f2]])) (((((w'.setCell (Pv RN 0) (.slice na nk nc)).setCell (Pv RN 1) (.slice la lk lc)).setCell (Pv RT 0) (.slice oa ol oc)).setCell (Pv RF 0) (Iv f1)).setCell (Pv RF 1) (Iv f2)))):=λh0 w1 V oa oc t0 aN af hT=>by
  have hV:=aN.trans (af.mono aN.size);have aO:=ad.trans (hV.mono ad.size);obtain⟨z1,z2⟩:=a4D h0;have am:=hT.here;have hp:a6x n aa ds dn=a0P n t0 ds dn:=by
   rw[on_start z1 am.fit];exact iN (λz=>z h0)
  have hl:t0.length=aa.toNat:=(by have:=am.len;omega)
  have aW:∀q,(N q\/(q=RN\/q=RT\/q=RF))->q<V.heap.size:=λq hq=>by
   have h1:=hV.size;have h2:=ad.size;rcases hq with z | z | z | z
   ·have:=hN q z;omega
   ·omega
   ·omega
   ·omega
  have ar:Bz (λq=>N q\/(q=RN\/q=RT\/q=RF)) V (λV=>n.at' V):=aB.more aO (λq hq=>by omega);have aF:Bz (λq=>N q\/(q=RN\/q=RT\/q=RF)) V (λV=>TrRow V oa oc t0):=λV3 aX=>(hT V3 (λq h1 h2=>(aX q (b0q h2 af.size) (λz=>by
   have h3:=ad.size;rcases z with z | z | z | z
   ·have:=hN q z;omega
   ·omega
   ·omega
   ·omega)).trans (af.block q h2))).row
  refine(ron_any n oa oc t0 (a4Z n) aj dn ac ds (λq=>N q\/(q=RN\/q=RT\/q=RF)) V ax aW ar aJ aM aI aF aR (CRow.below aH aO) am.calm am.ms).mono ?_;rintro e w' ⟨h1,h⟩;have ay:RB w w' RN RT RF:=(an.o V hV).below h1;have lw:∀v0 v1 v2 v3 v4,Bl w (((((w'.setCell (Pv RN 0) v0).setCell (Pv RN 1) v1).setCell (Pv RT 0) v2).setCell (Pv RF 0) v3).setCell (Pv RF 1) v4):=λv0 v1 v2 v3 v4=>((((ay.low.setCell ae.o.1 v0).setCell ae.o.1 v1).setCell ae.o.2.1 v2).setCell ae.o.2.2 v3).setCell ae.o.2.2 v4;rcases h with⟨h2,rfl⟩ | ⟨h2,n',oao,ocap,t',rfl,h3⟩
  ·exact⟨none,0,0,none,0,0,none,0,0,_,_,rfl,ay,lw _ _ _ _ _,Or.inl ⟨by rw[hp];exact h2,by rw[hp]⟩⟩
  ·refine⟨n'.bao,n'.K,n'.bcap,n'.lao,n'.L,n'.lcap,oao,t'.length,ocap,0,0,rfl,ay,lw _ _ _ _ _,Or.inr ⟨by rw[hp];exact h2,n',oao,ocap,t',rfl,?_⟩⟩;rw[<-hl];have k1:N RN\/(RN=RN\/RN=RT\/RN=RF):=Or.inr (Or.inl rfl);have k2:N RT\/(RT=RN\/RT=RT\/RT=RF):=Or.inr (Or.inr (Or.inl rfl));have k3:N RF\/(RF=RN\/RF=RT\/RF=RF):=Or.inr (Or.inr (Or.inr rfl));exact(((((h3.set (g:=RN) k1).set (g:=RN) k1).set (g:=RT) k2).set (g:=RF) k3).set (g:=RF) k3).of (λq z=>Or.inl z)
 have aL:Hid ((a2c n aa).1≠0->a6x n aa ds dn=a2c n aa):=λh=>iP h;obtain⟨x0,x1⟩:=tC2 g0;clear ax aB aJ aM aI aH b1 b2 s1 s2 ad g0 g2 g3 g4 hN;rw[HX.o,ah.o,al.o] at x0 x1;simp only[Pl.Net.val];go_enter func9,ntmps9;(go_wp2_with fail);rw[<-ah.o,<-HX.o,<-aD.o,<-ap.o,<-aC.o,<-al.o];refine aK.o.mono ?_;rintro e w1 ⟨oa,ol,oc,f1,f2,rfl,H1⟩;clear x0 x1 aK;obtain⟨V1,ag⟩:=nm ((w1.alloc (.cells #[.slice oa ol oc] 34)).alloc (.cells #[Iv f1,Iv f2] 37))
 have ak:Bl w1 V1:=(by rw[ag.o];exact bA2 _ _ _)
 have af:Bl X V1:=H1.o.1.trans (ak.mono H1.o.1.size);have e0:V1.cell? (Pv w1.heap.size 0)=some (.slice oa ol oc):=a0x (by rw[ag.o];exact b0d _ _ _);obtain⟨e1,e2⟩:=tC2 (show V1.heap[w1.heap.size+1]?=some (.cells #[Iv f1,Iv f2] 37) by rw[ag.o];exact b0c _ _ _);obtain⟨p0,p1⟩:=tC2 (aQ.o V1 af);have y1:=e1;rw[ag.o] at y1;by_cases q:f1=0
 ·have h0:(a2c n aa).1=0:=H1.o.2.1.symm.trans q;obtain⟨t0,rfl,hT⟩:=H1.o.2.2.2 q;have aG:Hid (Calls prog 24 #[.agg #[.slice n.bao n.K n.bcap,.slice n.lao n.L n.lcap],.agg #[.slice oa t0.length oc],.slice aj dn ac] V1 λe w'=>∃na nk nc la lk lc oa ol oc f1 f2,e=.returned (.tuple #[.agg #[.slice na nk nc,.slice la lk lc],.agg #[.slice oa ol oc],.agg #[Iv f1,Iv f2]])/\Hid (RB w w' RN RT RF/\RplW w N n aa ds dn (.returned (.tuple #[.agg #[.slice na nk nc,.slice la lk lc],.agg #[.slice oa ol oc],.agg #[Iv f1,Iv f2]])) (((((w'.setCell (Pv RN 0) (.slice na nk nc)).setCell (Pv RN 1) (.slice la lk lc)).setCell (Pv RT 0) (.slice oa ol oc)).setCell (Pv RF 0) (Iv f1)).setCell (Pv RF 1) (Iv f2)))):=au.o h0 w1 V1 oa oc t0 H1.o.1 ak hT;have r0:=p0;have r1:=p1;have r2:=e0;rw[ag.o] at r0 r1 r2;subst q;clear h0 hT p0 p1 au ak af e0 e1 e2 ai;(go_wp2_with fail);rw[<-ag.o];refine aG.o.mono ?_;rintro e w2 ⟨na,nk,nc,la,lk,lc,aw,ao,az,f3,f4,rfl,H2⟩;clear aG r0 r1 r2 y1;obtain⟨⟨p0,p1⟩,p2,⟨p3,p4⟩,⟨q0,q1⟩,q2,q3,q4⟩:=H2.o.1.cells;(go_wp2_with fail);obtain⟨z1,z2,z3⟩:=a6Y (v0:=.slice na nk nc) (v1:=.slice la lk lc) (v2:=.slice aw ao az) (v3:=Iv f3) (v4:=Iv f4) H2.o.1.n H2.o.1.t H2.o.1.f av aE aq;exact b0b (v:=.tuple #[.agg #[.slice na nk nc,.slice la lk lc],.agg #[.slice aw ao az],.agg #[Iv f3,Iv f4]]) (a0m results9 _ _ RN RT RF 25 34 37 #[.slice na nk nc,.slice la lk lc] #[.slice aw ao az] #[Iv f3,Iv f4] (0,0) (0,0) (0,0) _ _ _ rfl rfl rfl z1 z2 z3 underlying25 underlying34 underlying37 rfl rfl rfl (by rw[a1b];rfl) (by rw[a0T];rfl) (by rw[a0q];rfl)) rfl H2.o.2
 ·have hp:=aL.o (λz=>q (H1.o.2.1.trans z));have HE:Hid (a6x n aa ds dn=(f1,f2)):=by
   rw[hp,H1.o.2.1,H1.o.2.2.1];exact rfl
  have aT:Hid (f1≠0):=q;have ab:Hid (RB w V1 RN RT RF):=an.o V1 af;obtain⟨⟨p3,p4⟩,p5,⟨p6,p7⟩,⟨q0,q1⟩,q2,q3,q4⟩:=ab.o.cells;have aZ:(f1 != 0)=true:=(by simpa using q)
  have d1:RN≠w1.heap.size+1:=(by have:=H1.o.1.size;omega)
  have d2:RT≠w1.heap.size+1:=(by have:=H1.o.1.size;omega)
  have d3:RF≠w1.heap.size+1:=(by have:=H1.o.1.size;omega)
  have d4:=d1.symm;have d5:=d2.symm;have d6:=d3.symm;clear hp p0 p1 af ak au aL aQ an ai e0 H1 q;(go_wp2_with fail);rw[<-ag.o];go_region
  (all_goals go_wp2_with fail);all_goals
   refine b0b (v:=.tuple #[.agg #[sN,sN],.agg #[sN],.agg #[Iv f1,Iv f2]]) (a0m results9 _ _ RN RT RF 25 34 37 #[sN,sN] #[sN] #[Iv f1,Iv f2] (0,0) (0,0) (0,0) _ _ _ rfl rfl rfl ?h1 ?h2 ?h3 underlying25 underlying34 underlying37 rfl rfl rfl ?i1 ?i2 ?i3) rfl ?post
   case h1=>repeat(first | (with_reducible refine a0w ?_) | (with_reducible exact ab.o.n) | (with_reducible exact keep ab.o.n (a0d (b0h _ _) _)) | (with_reducible exact keep ab.o.n (b0i (b0h _ _))) | (with_reducible refine a0i (a0:=sN) (a1:=sN) ?_) | (with_reducible refine a0o ?_ av) | (with_reducible refine a0o ?_ aE))
   case h2=>repeat(first | (with_reducible refine a0w ?_) | (with_reducible exact ab.o.t) | (with_reducible exact keep ab.o.t (a0d (b0h _ _) _)) | (with_reducible exact keep ab.o.t (b0i (b0h _ _))) | (with_reducible refine a1o (a0:=sN) ?_) | (with_reducible refine a0o ?_ aY) | (with_reducible refine a0o ?_ aq))
   case h3=>repeat(first | (with_reducible refine a0w ?_) | (with_reducible exact ab.o.f) | (with_reducible exact keep ab.o.f (a0d (b0h _ _) _)) | (with_reducible exact keep ab.o.f (b0i (b0h _ _))) | (with_reducible refine a0i (a0:=Iv 0) (a1:=Iv 0) ?_) | (with_reducible refine a0o ?_ aU) | (with_reducible refine a0o ?_ aV))
   case i1=>rw[a1b];try rfl
   case i2=>rw[a0T];try rfl
   case i3=>rw[a0q];try rfl
   case post =>
    refine⟨?_,Or.inl ⟨by rw[HE.o];exact aT.o,by rw[HE.o]⟩⟩;repeat(first | (with_reducible refine b0i ?_) | (with_reducible exact ab.o.low) | (with_reducible exact a0d ab.o.low _) | (with_reducible refine Below.setCell ?_ ae.o.1 _) | (with_reducible refine Below.setCell ?_ ae.o.2.1 _) | (with_reducible refine Below.setCell ?_ ae.o.2.2 _))
