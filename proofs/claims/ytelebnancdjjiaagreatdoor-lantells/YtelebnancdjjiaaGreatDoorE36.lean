/- ZS -/
import Derived.Test.YtelebnancdjjiaaGreatDoorE35
set_option maxRecDepth 100000
set_option maxHeartbeats 40000000
namespace Go.Proofs.YtelebnancdjjiaaGreatDoor
section
open Go.Proofs.Tryz Go.RowKit
open Pl(Net Lk Br)
open Bk(E at')
open Rl(G gat F R O)
structure RdIs (w':World) (K:Nat) (f:F) (RR:Ln.Cs) (so:OA) (sc:Nat) (ss:List AV) (ko:OA) (kc:Nat) (bo':Nat->OA) (bc':Nat->Nat):Prop where
 map:ss.map AV.p=RR.seen
 row:CRow w' so ss.length sc 9 (λi=>sC f (aat ss i))
 data:∀x∈ss,x.v.da=f.ao/\x.v.dc=f.cap
 books:CRow w' ko K kc 1 (λi _=>.slice (bo' i) (RR.books i).length (bc' i))
 each:∀i,i<K->BEL w' (bo' i) (bc' i) (RR.books i)/\(RR.books i).length<=9223372036854775807
def a2R (w:World) (n:Net) (t:List Tr) (vid:Int) (f:F) (B:Nat) (bks:Nat->List E) (from':Int) (e:Ending) (w':World):Prop :=
 Bl w w'/\(((sErr n t B from' vid f).1≠0/\e=.returned (.tuple #[sN,sN,.bool false,.agg #[Iv (sErr n t B from' vid f).1,Iv (sErr n t B from' vid f).2]])) \/
  ((sErr n t B from' vid f).1=0/\((¬((sent n t vid f bks from'.toNat).err=0/\(sent n t vid f bks from'.toNat).wait=[])/\e=.returned (.tuple #[sN,sN,.bool false,.agg #[Iv (sent n t vid f bks from'.toNat).err,Iv 0]])) \/
   ((sent n t vid f bks from'.toNat).err=0/\(sent n t vid f bks from'.toNat).wait=[]/\∃so sc ss ko kc bo' bc',e=.returned (.tuple #[.slice so (ss:List AV).length sc,.slice ko n.K kc,.bool true,.agg #[Iv 0,Iv 0]])/\RdIs w' n.K f (sent n t vid f bks from'.toNat) so sc ss ko kc bo' bc'))))
theorem sErr_eq (n:Net) (t:List Tr) (B:Nat) (aa vid:Int) (f:F):sErr n t B aa vid f=if n.wrong.1≠0 then n.wrong else if fitT n t=false then(8,0) else(a1I n t.length B aa vid f,0):=by
 by_cases q:n.wrong.1=0
 ·by_cases q2:fitT n t=false
  ·have e0:wrT n t 0=(8,0):=(by unfold wrT;rw[iN (λz=>z q),iP q2])
   have e1:a0P n t dn0 0=(8,0):=(by unfold a0P;rw[e0];rfl)
   unfold sErr;rw[e1,iN (show ¬n.wrong.1≠0 from λz=>z q),iP q2];rfl
  ·have e0:wrT n t 0=(0,0):=(by unfold wrT;rw[iN (λz=>z q),iN q2];rfl)
   have e1:a0P n t dn0 0=(0,0):=(by unfold a0P;rw[e0];rfl)
   unfold sErr;rw[e1,iN (show ¬n.wrong.1≠0 from λz=>z q),iN q2];rfl
 ·have e0:wrT n t 0=n.wrong:=(by unfold wrT;rw[iP q])
  have e1:a0P n t dn0 0=n.wrong:=(by unfold a0P;rw[e0,iP q])
  unfold sErr;rw[e1,iP q,iP q]
def SR (w V:World) (RF:Nat):Prop:=V.heap[RF]?=some (.cells #[Iv 0,Iv 0] 37)/\Bl w V
structure SB (w V:World) (BN BT BF RF:Nat) (n:Net) (oao:OA) (ocap T:Nat) (f:F):Prop where
 n:V.heap[BN]?=some (.cells #[.slice n.bao n.K n.bcap,.slice n.lao n.L n.lcap] 25)
 t:V.heap[BT]?=some (.cells #[.slice oao T ocap] 34)
 f:V.heap[BF]?=some (.cells #[Uv f.dst,Uv f.src,.bool f.tagged,Iv f.prio,.bool f.drop,Iv f.vid,Iv f.type,.slice f.ao f.n f.cap] 31)
 r:SR w V RF
theorem SB.below {w V V':World}{BN BT BF RF:Nat}{n:Net}{oao:OA}{ocap T:Nat}{f:F}(h:SB w V BN BT BF RF n oao ocap T f) (hb:Bl V V'):SB w V' BN BT BF RF n oao ocap T f:=⟨keep h.n hb,keep h.t hb,keep h.f hb,keep h.r.1 hb,a0c h.r.2 hb⟩
theorem a8l (n:Net) (oao:OA) (ocap:Nat) (t:List Tr) (ko:OA) (B an:Nat) (ac:Nat->List E) (bo:Nat->OA) (bc:Nat->Nat) (aa vid:Int) (f:F) (w:World) (c4:n.Wf) (aM:n.at' w) (bf:TrRow w oao ocap t) (hB:B<=9223372036854775807) (hbk:BIn w ko B an ac bo bc) (bz:a0s ko B an) (hd:ByteRow w f.ao f.n f.cap f.bs) (bQ:a0s f.ao f.n f.cap) (bn:0<=f.dst/\f.dst<18446744073709551616) (hs:0<=f.src/\f.src<18446744073709551616) :
  Calls prog 11 #[n.val,.agg #[.slice oao t.length ocap],.slice ko B an,Iv aa,Iv vid,.agg (frA f)] w λe w'=>a2R w n t vid f B ac aa e w':=by
 obtain⟨X0,ci⟩:=nm (((w.alloc (.cells #[.slice n.bao n.K n.bcap,.slice n.lao n.L n.lcap] 25)).alloc (.cells #[.slice oao t.length ocap] 34)).alloc (.cells #[Uv f.dst,Uv f.src,.bool f.tagged,Iv f.prio,.bool f.drop,Iv f.vid,Iv f.type,.slice f.ao f.n f.cap] 31))
 have h3:=a1x w (.cells #[.slice n.bao n.K n.bcap,.slice n.lao n.L n.lcap] 25) (.cells #[.slice oao t.length ocap] 34) (.cells #[Uv f.dst,Uv f.src,.bool f.tagged,Iv f.prio,.bool f.drop,Iv f.vid,Iv f.type,.slice f.ao f.n f.cap] 31);rw[<-ci.o] at h3;obtain⟨g0,g1,g2,b0⟩:=h3;obtain⟨X,HX⟩:=nm (X0.alloc (.cells #[Iv 0,Iv 0] 37))
 have b1:Bl X0 X:=(by rw[HX.o];exact bA1 _ _)
 have s0:X0.heap.size=w.heap.size+1+1+1:=(by rw[ci.o];simp)
 have g3:X.heap[w.heap.size+1+1+1]?=some (.cells #[Iv 0,Iv 0] 37):=(by rw[HX.o,<-s0];exact a9Z _ _)
 have bX:Bl w X:=b0.trans (b1.mono b0.size);obtain⟨BN,cD⟩:=nm w.heap.size
 obtain⟨BT,cV⟩:=nm (w.heap.size+1)
 obtain⟨BF,cY⟩:=nm (w.heap.size+1+1)
 obtain⟨RF,cH⟩:=nm (w.heap.size+1+1+1)
 have ae:Hid (w.heap.size<=RF):=(by rw[cH.o];show w.heap.size<=w.heap.size+1+1+1;omega)
 have bd:SB w X BN BT BF RF n oao ocap t.length f:=by
  refine⟨?_,?_,?_,?_,bX⟩
  ·rw[cD.o];exact keep g0 b1
  ·rw[cV.o];exact keep g1 b1
  ·rw[cY.o];exact keep g2 b1
  ·rw[cH.o];exact g3
 have bi:Hid (∀V,Bl X V->SB w V BN BT BF RF n oao ocap t.length f):=λV hV=>bd.below hV;have bU:Hid (n.at' w/\TrRow w oao ocap t/\BIn w ko B an ac bo bc/\a0s ko B an/\ByteRow w f.ao f.n f.cap f.bs/\a0s f.ao f.n f.cap/\(0<=f.dst/\f.dst<18446744073709551616)/\(0<=f.src/\f.src<18446744073709551616)):=⟨aM,bf,hbk,bz,hd,bQ,bn,hs⟩
 have ad:Hid (∀(V:World) (E A:Int),SR w V RF->Calls prog 30 #[Iv E,Iv A] V λe w'=>e=.returned (.tuple #[sN,sN,.bool false,.agg #[Iv E,Iv A]])/\Hid (SR w w' RF)):=λV E A h=>(a9V E A V).mono (λe w' z=>⟨z.1,keep h.1 z.2,a0c h.2 z.2⟩);have cX:Hid (Calls prog 31 #[.agg #[.slice n.bao n.K n.bcap,.slice n.lao n.L n.lcap]] X λe w'=>e=.returned (.agg #[Iv n.wrong.1,Iv n.wrong.2])/\Hid (Bl X w')):=(a2V n X (aM.below bX)).mono (λe w' h=>⟨h.1,h.2⟩);have cx:Hid (n.Right->∀V,Bl X V->Calls prog 32 #[.agg #[.slice n.bao n.K n.bcap,.slice n.lao n.L n.lcap],.agg #[.slice oao t.length ocap]] V λe w'=>e=.returned (.bool (fitT n t))/\Hid (Bl X w')):=λR V hV =>
  (a5B n oao ocap t V (aM.below (a0c bX hV)) R.fewL R.links (bf.below (a0c bX hV))).mono (λe w' h=>⟨h.1,a0c hV h.2⟩)
 have cv:Hid (∀V,Bl X V->Calls prog 33 #[.agg #[Uv f.dst,Uv f.src,.bool f.tagged,Iv f.prio,.bool f.drop,Iv f.vid,Iv f.type,.slice f.ao f.n f.cap]] V λe w'=>e=.returned (Iv (wrong f.dst f.src f.tagged f.prio f.vid f.type f.n))/\Hid (Bl X w')):=λV hV =>
  (a3U f.dst f.src f.tagged f.prio f.drop f.vid f.type f.ao f.n f.cap V hs.1).mono (λe w' h=>⟨h.1,a0c hV h.2⟩)
 have bb:Hid (n.Right->∀V,Bl X V->∀k,k<n.K->Calls prog 34 #[.agg #[.string (n.bs k).reg.s,Iv (n.bs k).reg.rev,.slice (n.bs k).reg.ao (n.bs k).reg.n (n.bs k).reg.cap],Iv vid] V λe w'=>e=.returned (Iv (Rg.tree (n.bs k).reg.vs (n.bs k).reg.ts vid (n.bs k).reg.n))/\Hid (Bl X w')):=λR V hV k hk =>
  (a3T (n.bs k).reg.s (n.bs k).reg.rev (n.bs k).reg.ao (n.bs k).reg.n (n.bs k).reg.cap (n.bs k).reg.vs (n.bs k).reg.ts vid V (R.fine k hk).reg.2.2 (((aM.below (a0c bX hV)).each k hk).2.1)).mono (λe w' h=>⟨h.1,a0c hV h.2⟩)
 have cP:Hid (n.wrong.1=0->n.Right):=right_of c4;have bY:Hid (sErr n t B aa vid f=if n.wrong.1≠0 then n.wrong else if fitT n t=false then(8,0) else(a1I n t.length B aa vid f,0)):=sErr_eq n t B aa vid f;have am:Hid (∀E A,sErr n t B aa vid f=(E,A)->E≠0->∀W,Bl w W->a2R w n t vid f B ac aa (.returned (.tuple #[sN,sN,.bool false,.agg #[Iv E,Iv A]])) W):=λE A h1 h2 W hW=>⟨hW,Or.inl ⟨by rw[h1];exact h2,by rw[h1]⟩⟩
 obtain⟨x0,x1⟩:=tC2 bd.n;have db:Hid (fitT n t=true->t.length<=4):=λh=>((a6Q.1 h).1).2;have aT:Hid (∀V,Bl X V->(V.cell? (Pv BN 0)=some (.slice n.bao n.K n.bcap)/\V.cell? (Pv BN 1)=some (.slice n.lao n.L n.lcap))/\V.cell? (Pv BT 0)=some (.slice oao t.length ocap)):=λV hV=>⟨tC2 (bd.below hV).n,a0x (bd.below hV).t⟩
 have ax:Hid (∀V,Bl X V->V.cell? (Pv BF 0)=some (Uv f.dst)/\V.cell? (Pv BF 1)=some (Uv f.src)/\V.cell? (Pv BF 2)=some (.bool f.tagged)/\V.cell? (Pv BF 3)=some (Iv f.prio)/\V.cell? (Pv BF 4)=some (.bool f.drop)/\V.cell? (Pv BF 5)=some (Iv f.vid)/\V.cell? (Pv BF 6)=some (Iv f.type)/\V.cell? (Pv BF 7)=some (.slice f.ao f.n f.cap)):=λV hV=>a0U (bd.below hV).f;have bR:B<=an:=hbk.row.1;have az:Hid (Bl w X):=bX;clear c4 aM bf hbk bz hd bQ bn hs b0 b1 s0 g0 g1 g2 g3 bd bX;rw[HX.o,ci.o,cD.o] at x0 x1;simp only[Pl.Net.val];unfold frA;go_enter func11,ntmps11;(go_wp2_with fail);rw[<-ci.o,<-HX.o,<-cH.o,<-cY.o,<-cV.o,<-cD.o];refine cX.o.mono ?_;rintro e w1 ⟨rfl,H1⟩;clear x0 x1 cX;obtain⟨V1,aJ⟩:=nm (w1.alloc (.cells #[Iv n.wrong.1,Iv n.wrong.2] 37))
 have bL:Bl X V1:=(by rw[aJ.o];exact H1.o.alloc H1.o.size _)
 obtain⟨f0,f1⟩:=tC2 (show V1.heap[w1.heap.size]?=some (.cells #[Iv n.wrong.1,Iv n.wrong.2] 37) by rw[aJ.o];exact a9Z _ _);have al:Hid (SR w V1 RF):=(bi.o V1 bL).r;by_cases q:n.wrong.1=0
 ·have R:=cP.o q;have HR:Hid n.Right:=R;have dL:=R.few;have di:Hid (Calls prog 32 #[.agg #[.slice n.bao n.K n.bcap,.slice n.lao n.L n.lcap],.agg #[.slice oao t.length ocap]] V1 λe w'=>e=.returned (.bool (fitT n t))/\Hid (Bl X w')):=cx.o R V1 bL;have cl:Hid (sErr n t B aa vid f=if fitT n t=false then(8,0) else(a1I n t.length B aa vid f,0)):=(by rw[bY.o,iN (λz=>z q)];rfl)
  obtain⟨⟨c0,c1⟩,c2⟩:=aT.o V1 bL;rw[aJ.o] at f0 f1 c0 c1 c2;clear cx R bY cP al;rw[q] at f0 f1 c0 c1 c2 aJ ⊢;clear q;(go_wp2_with fail);rw[<-aJ.o];refine di.o.mono ?_;rintro e w2 ⟨rfl,H2⟩;clear di f0 f1 c0 c1 c2 bL aJ V1 H1;obtain⟨⟨c0,c1⟩,c2⟩:=aT.o w2 H2.o;have al:Hid (SR w w2 RF):=(bi.o w2 H2.o).r;cases hft:fitT n t with
  | false =>
   have HE:Hid (∀W,Bl w W->a2R w n t vid f B ac aa (.returned (.tuple #[sN,sN,.bool false,.agg #[Iv 8,Iv 0]])) W):=am.o 8 0 (by rw[cl.o,iP hft]) dd;clear cl hft am;(go_wp2_with fail);refine(ad.o _ 8 0 al.o).mono ?_;rintro e W1 ⟨rfl,ab⟩;obtain⟨y0,y1⟩:=tC2 ab.o.1;have y2:=lF0 ab.o.1 0;have y3:=lF0 ab.o.1 1;(go_wp2_with fail);exact b0b (v:=.tuple #[sN,sN,.bool false,.agg #[Iv 8,Iv 0]]) (a0n (p:=15) (ty:=37) results11 _ _ RF 37 #[Iv 8,Iv 0] (0,0) _ rfl (a0i ab.o.1) underlying37 rfl (by rw[a0q];rfl)) rfl (HE.o _ ((ab.o.2.setCell ae.o _).setCell ae.o _))
  | true =>
   have dY:Hid (fitT n t=true):=hft;have dE:t.length<=4:=db.o hft;have aw:Hid (sErr n t B aa vid f=(a1I n t.length B aa vid f,0)):=(by rw[cl.o,iN (by rw[hft];exact Bool.noConfusion)];rfl)
   clear cl hft db;by_cases c1':B≠n.K
   ·have HE:Hid (∀W,Bl w W->a2R w n t vid f B ac aa (.returned (.tuple #[sN,sN,.bool false,.agg #[Iv 8,Iv 0]])) W):=am.o 8 0 (by rw[aw.o];unfold a1I;rw[iP c1']) dd;have z1:(B:Int)≠(n.K:Int):=om
    have z2:((B:Int) != (n.K:Int))=true:=(by simp;omega)
    clear aw am c1';(go_wp2_with fail);refine(ad.o _ 8 0 al.o).mono ?_;rintro e W1 ⟨rfl,ab⟩;obtain⟨y0,y1⟩:=tC2 ab.o.1;have y2:=lF0 ab.o.1 0;have y3:=lF0 ab.o.1 1;(go_wp2_with fail);exact b0b (v:=.tuple #[sN,sN,.bool false,.agg #[Iv 8,Iv 0]]) (a0n (p:=15) (ty:=37) results11 _ _ RF 37 #[Iv 8,Iv 0] (0,0) _ rfl (a0i ab.o.1) underlying37 rfl (by rw[a0q];rfl)) rfl (HE.o _ ((ab.o.2.setCell ae.o _).setCell ae.o _))
   ·obtain rfl:B=n.K:=om
    have z2:((n.K:Int) != (n.K:Int))=false:=(by simp)
    by_cases k2:0<=aa/\aa<=(n.K:Int)-1
    ·by_cases k3:1<=vid/\vid<=4094
     ·cases htg:f.tagged with
      | true =>
       have HE:Hid (∀W,Bl w W->a2R w n t vid f n.K ac aa (.returned (.tuple #[sN,sN,.bool false,.agg #[Iv 1,Iv 0]])) W):=am.o 1 0 (by rw[aw.o];unfold a1I;rw[iN c1',iN (λz=>z k2),iN (λz=>z k3),iP htg]) dd;obtain⟨d0,d1,d2,d3,d4,d5,d6,d7⟩:=ax.o w2 H2.o;rw[htg] at d2;obtain⟨c9,dC⟩:=k2;obtain⟨ea,dH⟩:=k3;have i1:¬aa<0:=om
       have i2:¬aa>=(n.K:Int):=om
       have i3:¬vid<1:=om
       have i4:¬vid > 4094:=om
       clear aw am c1' htg;(go_wp2_with fail);refine(ad.o _ 1 0 al.o).mono ?_;rintro e W1 ⟨rfl,ab⟩;obtain⟨y0,y1⟩:=tC2 ab.o.1;have y2:=lF0 ab.o.1 0;have y3:=lF0 ab.o.1 1;(go_wp2_with fail);exact b0b (v:=.tuple #[sN,sN,.bool false,.agg #[Iv 1,Iv 0]]) (a0n (p:=15) (ty:=37) results11 _ _ RF 37 #[Iv 1,Iv 0] (0,0) _ rfl (a0i ab.o.1) underlying37 rfl (by rw[a0q];rfl)) rfl (HE.o _ ((ab.o.2.setCell ae.o _).setCell ae.o _))
      | false =>
       have a5:a1I n t.length n.K aa vid f=if wrong f.dst f.src f.tagged f.prio f.vid f.type f.n≠0 then wrong f.dst f.src f.tagged f.prio f.vid f.type f.n else if a1X n vid t.length=true then 5 else 0:=(by unfold a1I;rw[iN c1',iN (λz=>z k2),iN (λz=>z k3),iN (by rw[htg];exact Bool.noConfusion)])
       have aB:Hid (Calls prog 33 #[.agg #[Uv f.dst,Uv f.src,.bool f.tagged,Iv f.prio,.bool f.drop,Iv f.vid,Iv f.type,.slice f.ao f.n f.cap]] w2 λe w'=>e=.returned (Iv (wrong f.dst f.src f.tagged f.prio f.vid f.type f.n))/\Hid (Bl X w')):=cv.o w2 H2.o;obtain⟨wf,br⟩:∃x,x=wrong f.dst f.src f.tagged f.prio f.vid f.type f.n:=⟨_,rfl⟩
       rw[<-br] at a5 aB;have ay:Hid (sErr n t n.K aa vid f=(if wf≠0 then wf else if a1X n vid t.length=true then 5 else 0,0)):=(by rw[aw.o,a5];rfl)
       obtain⟨d0,d1,d2,d3,d4,d5,d6,d7⟩:=ax.o w2 H2.o;have dl:Hid (f.tagged=false):=htg;have cW:=d2;rw[htg] at cW;obtain⟨i0,dT⟩:∃i0:Nat,aa=(i0:Int):=⟨aa.toNat,om⟩
       subst dT;obtain⟨c9,dC⟩:=k2;obtain⟨ea,dH⟩:=k3;have en:i0<n.K:=om
       have i1:¬(i0:Int)<0:=om
       have i2:¬(i0:Int)>=(n.K:Int):=om
       have i3:¬vid<1:=om
       have i4:¬vid > 4094:=om
       clear aw a5 br c1' cv;rw[htg] at aB d2 ax;(go_wp2_with fail);refine aB.o.mono ?_;rintro e w3 ⟨rfl,H3⟩;clear aB d0 d1 d2 cW d3 d4 d5 d6 d7 c0 c1 c2 al H2;have al:Hid (SR w w3 RF):=(bi.o w3 H3.o).r;obtain⟨⟨c0,c1⟩,c2⟩:=aT.o w3 H3.o;by_cases hw0:wf=0
       ·subst hw0;have b7:Hid (sErr n t n.K (i0:Int) vid f=(if a1X n vid t.length=true then 5 else 0,0)):=(by rw[ay.o,iN (λz=>z rfl)];rfl)
        clear ay;(go_wp2_with fail);go_loopw [119] (λi wr=>∃k:Nat,k<=n.K/\i=Iv k/\Hid (∀j,j<k->a1z (n.bs j) vid t.length=false)/\Hid (Bl X wr)) (λi _=>n.K-(intOf i).toNat)
        case atStart=>exact⟨0,om,rfl,(λj hj=>absurd hj om),H3⟩
        case round =>
         clear c0 c1 c2 al H3 w3;obtain⟨k,hk,rfl,hS,hB⟩:=hrel;by_cases hlt:k<n.K
         ·as_aux_lemma =>
          have hr:=(bU.o.1.below (a0c az.o hB.o)).brs;obtain⟨b,off,eb,_⟩:=CRow.some hr om;rw[eb] at hr ⊢;obtain⟨a0,a1,a2,a3,a4⟩:=BRow.cells hr hlt;have ik:(0:Int)<=(k:Int):=om
          have nk:(k:Int)<(n.K:Int):=om
          obtain⟨Y,HY⟩:=nm (wr.alloc (.cells #[Uv (n.bs k).addr,.slice (n.bs k).pao (n.bs k).pn (n.bs k).pcap,.string (n.bs k).reg.s,Iv (n.bs k).reg.rev,.slice (n.bs k).reg.ao (n.bs k).reg.n (n.bs k).reg.cap] 65))
          have c8:Bl wr Y:=(by rw[HY.o];exact bA1 _ _)
          have de:Y.heap[wr.heap.size]?=some (.cells #[Uv (n.bs k).addr,.slice (n.bs k).pao (n.bs k).pn (n.bs k).pcap,.string (n.bs k).reg.s,Iv (n.bs k).reg.rev,.slice (n.bs k).reg.ao (n.bs k).reg.n (n.bs k).reg.cap] 65):=(by rw[HY.o];exact a9Z _ _)
          have cb:Bl X Y:=a0c hB.o c8;have aO:Hid (∀V,Bl Y V->V.cell? (Pv wr.heap.size 2)=some (.string (n.bs k).reg.s)/\V.cell? (Pv wr.heap.size 3)=some (Iv (n.bs k).reg.rev)/\V.cell? (Pv wr.heap.size 4)=some (.slice (n.bs k).reg.ao (n.bs k).reg.n (n.bs k).reg.cap)/\V.cell? (Pv BT 0)=some (.slice oao t.length ocap)):=λV hV=>by
           have h1:=keep de hV;exact⟨a9Y _ _ 2 _ _ _ h1,a9Y _ _ 3 _ _ _ h1,a9Y _ _ 4 _ _ _ h1,(aT.o V (a0c cb hV)).2⟩
          have dq:Hid (∀V,Bl Y V->Calls prog 34 #[.agg #[.string (n.bs k).reg.s,Iv (n.bs k).reg.rev,.slice (n.bs k).reg.ao (n.bs k).reg.n (n.bs k).reg.cap],Iv vid] V λe w'=>e=.returned (Iv (Rg.tree (n.bs k).reg.vs (n.bs k).reg.ts vid (n.bs k).reg.n))/\Hid (Bl Y w')):=λV hV=>by
           have h:=a3T (n.bs k).reg.s (n.bs k).reg.rev (n.bs k).reg.ao (n.bs k).reg.n (n.bs k).reg.cap (n.bs k).reg.vs (n.bs k).reg.ts vid V (HR.o.fine k hlt).reg.2.2 (((bU.o.1.below (a0c az.o (a0c cb hV))).each k hlt).2.1);exact h.mono (λe w' h=>⟨h.1,a0c hV h.2⟩)
          have ee:Hid (∀d,d=a1z (n.bs k) vid t.length->d=true->sErr n t n.K (i0:Int) vid f=(5,0)):=λd h1 h2=>by
           have h3:a1X n vid t.length=true:=by
            unfold a1X;exact b0k ⟨k,hlt,by rw[<-h1];exact h2⟩
           rw[b7.o,iP h3]
          have dP:Hid (a1z (n.bs k) vid t.length=false->∀j,j<k+1->a1z (n.bs j) vid t.length=false):=λh j hj=>by
           by_cases e:j=k
           ·subst e;exact h
           ·exact hS.o j om
          have bB:Hid (a1z (n.bs k) vid t.length=decide ((t.length:Int)<=Rg.tree (n.bs k).reg.vs (n.bs k).reg.ts vid (n.bs k).reg.n)):=rfl;have c5:Hid (∀V,Bl Y V->Bl X V):=λV hV=>a0c cb hV;clear hr hS hB c8 de cb b7 bb ax;generalize Rg.tree (n.bs k).reg.vs (n.bs k).reg.ts vid (n.bs k).reg.n=tr at *;generalize a1z (n.bs k) vid t.length=sd at *;generalize n.bs k=bk at *;obtain⟨bad,eD,ex,eB,eu,⟨rs,aE,cj,rn,aF,ey,ep⟩⟩:=bk;simp only at *;(go_upto_region 19 with fail);rw[<-HY.o];clear a0 a1 a2 a3 a4;have dO:Hid (Bl Y Y.drew):=b0i (b0h _ _);by_cases htt:(t.length:Int)<=tr
          ·have eh:decide (tr>=(t.length:Int))=true:=b0k htt;go_region_held3 (λW=>W.cell? (Pv wr.heap.size 2)=some (.string rs)/\W.cell? (Pv wr.heap.size 3)=some (Iv aE)/\W.cell? (Pv wr.heap.size 4)=some (.slice cj rn aF)/\W.cell? (Pv BT 0)=some (.slice oao t.length ocap))
            (first | (exact aO.o _ (Hid.o aS)) | (exact aO.o _ (b0i (Hid.o aS))))
            (first | (go_at_call 34;(with_reducible refine(dq.o _ (by first | exact(Hid.o aS) | exact b0i (Hid.o aS))).mono ?_);rintro e w5 ⟨rfl,be⟩) | fail)
           all_goals have al:Hid (SR w w5 RF):=(bi.o w5 (c5.o w5 be.o)).r
           all_goals have HE:Hid (∀W,Bl w W->a2R w n t vid f n.K ac (i0:Int) (.returned (.tuple #[sN,sN,.bool false,.agg #[Iv 5,Iv 0]])) W):=am.o 5 0 (ee.o _ rfl (by rw[bB.o];exact b0k htt)) dd
           (all_goals go_wp2_with fail);all_goals refine(ad.o _ 5 0 al.o).mono ?_
           all_goals rintro e W1 ⟨rfl,ab⟩
           all_goals obtain⟨y0,y1⟩:=tC2 ab.o.1
           all_goals have y2:=lF0 ab.o.1 0
           all_goals have y3:=lF0 ab.o.1 1
           (all_goals go_wp2_with fail);all_goals exact b0b (v:=.tuple #[sN,sN,.bool false,.agg #[Iv 5,Iv 0]]) (a0n (p:=15) (ty:=37) results11 _ _ RF 37 #[Iv 5,Iv 0] (0,0) _ rfl (a0i ab.o.1) underlying37 rfl (by rw[a0q];rfl)) rfl (HE.o _ ((ab.o.2.setCell ae.o _).setCell ae.o _))
          ·have eh:decide (tr>=(t.length:Int))=false:=b0j htt;have dK:Hid (∀j,j<k+1->a1z (n.bs j) vid t.length=false):=dP.o (by rw[bB.o];exact b0j htt);go_region_held3 (λW=>W.cell? (Pv wr.heap.size 2)=some (.string rs)/\W.cell? (Pv wr.heap.size 3)=some (Iv aE)/\W.cell? (Pv wr.heap.size 4)=some (.slice cj rn aF)/\W.cell? (Pv BT 0)=some (.slice oao t.length ocap))
            (first | (exact aO.o _ (Hid.o aS)) | (exact aO.o _ (b0i (Hid.o aS))))
            (first | (go_at_call 34;(with_reducible refine(dq.o _ (by first | exact(Hid.o aS) | exact b0i (Hid.o aS))).mono ?_);rintro e w5 ⟨rfl,be⟩) | fail)
           (all_goals go_wp2_with fail);all_goals exact⟨⟨k+1,om,gn,dK,c5.o _ be.o⟩,io⟩
         ·obtain rfl:k=n.K:=om
          have cz:Hid (sErr n t n.K (i0:Int) vid f=(0,0)):=by
           have h3:a1X n vid t.length≠true:=λh=>by
            unfold a1X at h;obtain⟨j,hj,e⟩:=b0o h;rw[hS.o j hj] at e;cases e
           rw[b7.o,iN h3];rfl
          clear hS b7 bb am;obtain⟨aM,bf,hbk,bz,hd,bQ,bn,hs⟩:=bU.o;have bT:=a0c az.o hB.o;obtain⟨gk,kc,W2,bN,bI,bv⟩:=cp_bk (CRow.below hbk.row bT) bz om (by omega:0<n.K);have dr:Hid ((Builtin.append_ #[27,27] 27 #[.slice (some (Pv wr.heap.size 0)) 0 0,.slice ko n.K an]).run prog (wr.alloc (.cells #[] 67))=.ok (.slice (some (Pv gk 0)) n.K kc) W2):=bN;have cS:=a0c hB.o bv;obtain⟨W3,bZ⟩:=nm (W2.alloc (.cells #[Iv i0,Iv 0,Uv f.dst,Uv f.src,.bool false,Iv f.prio,.bool f.drop,Iv f.vid,Iv f.type,.slice f.ao f.n f.cap] 90))
          have b5:Bl W2 W3:=(by rw[bZ.o];exact bA1 _ _)
          have g3:W3.heap[W2.heap.size]?=some (.cells (aA f ⟨i0,⟨⟨0,f.tagged,f.prio,f.drop,f.vid⟩,f.ao,f.cap⟩⟩) 90):=by
           rw[bZ.o];unfold aA;simp only;rw[dl.o];exact a9Z _ _
          have b6:=bi.o W3 (a0c cS b5);have bq:w.heap.size<=W2.heap.size:=b0p bT.size bv.size;obtain⟨s0,aQ⟩:=nn (⟨[],[(i0,⟨0,f.tagged,f.prio,f.drop,f.vid⟩)],ac,0⟩:Ln.Cs)
          have aD:Hid (∀i,i<n.K->BEL w (bo i) (bc i) (ac i)/\a0s (bo i) (ac i).length (bc i)):=λi hi=>⟨(hbk.each i hi).1,(hbk.each i hi).2.1⟩
          have cN:Hid (∃s ss ws av au,Cq n t vid f s0 s 0 ss ws/\DM w W3 BN BT RF n oao ocap t.length f ac bo bc gk kc s.books av au none 0 ss W2.heap.size 0 1 ws/\0=ss.length/\1=ws.length):=by
           refine⟨s0,[],[⟨i0,⟨⟨0,f.tagged,f.prio,f.drop,f.vid⟩,f.ao,f.cap⟩⟩],bo,bc,⟨rfl,by rw[aQ],by rw[aQ];rfl,by rw[aQ];rfl,by simp,by simp,λx hx => ?_⟩,⟨a0c bT (bv.trans (b5.mono bv.size)),b6.n,b6.t,b6.r.1,a0y _ _ _ _ _,QDt.one g3 bq,λx hx=>by simp at hx,λx hx => ?_,?_,λi hi => ?_⟩,rfl,rfl⟩
           ·rw[aQ] at hx;have e:x=(i0,⟨0,f.tagged,f.prio,f.drop,f.vid⟩):=(by simpa using hx)
            rw[e];exact en
           ·have e:x=⟨i0,⟨⟨0,f.tagged,f.prio,f.drop,f.vid⟩,f.ao,f.cap⟩⟩:=(by simpa using hx)
            rw[e];exact⟨rfl,rfl⟩
           ·rw[aQ];exact a0h (a0v bI bT.size) b5
           ·rw[aQ];refine⟨Or.inl ⟨rfl,rfl,rfl⟩,?_⟩;have h8:=(hbk.each i hi).2.2;show(ac i).length<=_;omega
          obtain⟨RR,aU⟩:=nn (sent n t vid f ac i0)
          have bp:Hid (Ln.carry n t vid f 41 s0=RR):=(by rw[aQ,aU];rfl)
          have eI:((i0:Int)).toNat=i0:=rfl;have bS:Hid (∀W e,Bl w W->¬(RR.err=0/\RR.wait=[])->e=RR.err->a2R w n t vid f n.K ac (i0:Int) (.returned (.tuple #[sN,sN,.bool false,.agg #[Iv e,Iv 0]])) W):=λW e hW h he=>⟨hW,Or.inr ⟨by rw[cz.o],Or.inl ⟨by rw[eI,<-aU];exact h,by rw[eI,<-aU,he]⟩⟩⟩
          have b3:Hid (∀W so sc (ss:List AV) cp b8 av au,Bl w W->RR.err=0->RR.wait=[]->RdIs W n.K f RR so sc ss cp b8 av au->a2R w n t vid f n.K ac (i0:Int) (.returned (.tuple #[.slice so ss.length sc,.slice cp n.K b8,.bool true,.agg #[Iv 0,Iv 0]])) W):=λW so sc ss cp b8 av au hW h1 h2 h3=>⟨hW,Or.inr ⟨by rw[cz.o],Or.inr ⟨by rw[eI,<-aU];exact h1,by rw[eI,<-aU];exact h2,so,sc,ss,cp,b8,av,au,rfl,by rw[eI,<-aU];exact h3⟩⟩⟩
          have bh:Hid (∀W,Bl w W->n.at' W/\TrRow W oao ocap t/\ByteRow W f.ao f.n f.cap f.bs):=λW hW=>⟨aM.below hW,bf.below hW,hd.below hW⟩
          have bF:Hid (a0s f.ao f.n f.cap/\(0<=f.dst/\f.dst<18446744073709551616)/\(0<=f.src/\f.src<18446744073709551616)):=⟨bQ,bn,hs⟩
          obtain⟨d0,d1,d2,d3,d4,d5,d6,d7⟩:=ax.o W2 cS;obtain⟨g0,ct⟩:=nm W2.heap.size
          rw[<-ct.o] at cN;clear aM bf hbk bz hd bQ bn hs bT bN bI bv cS b5 g3 b6 bq aQ aU eI ax aT bi bU az hB bR z2 i1 i2 i3 i4 dl cz;go_wp2_with (at_builtin;refine a0a rfl (.tmp 138) (.tmp 139) 27 rfl _ _ _ rfl rfl dr.o ?_;clear dr)
          rw[<-bZ.o,<-ct.o];clear d0 d1 d2 d3 d4 d5 d6 d7 ct bZ;go_loopw [21,22,23] (λdM ec dQ wx=>∃(c:Nat) (so:OA) (sn sc g off qn cap:Nat),c<=41/\dM=.slice so sn sc/\ec=.slice (some (Pv g off)) qn cap/\dQ=Iv c/\Hid (∃s ss ws av au,Cq n t vid f s0 s c ss ws/\DM w wx BN BT RF n oao ocap t.length f ac bo bc gk kc s.books av au so sc ss g off cap ws/\sn=ss.length/\qn=ws.length)) (λ_ _ i _=>41-(intOf i).toNat)
          case atStart=>exact⟨0,none,0,0,g0,0,1,1,om,rfl,rfl,rfl,cN⟩
          case round =>
           clear cN;obtain⟨c,so,sn,sc,g,off,qn,cap,hc,rfl,rfl,rfl,hX⟩:=hrel;by_cases hq:0<qn
           ·by_cases hc2:c<=40
            ·skip
             obtain⟨s,ss,ws,aq,ap,aj,af,rfl,rfl⟩:=hX.o;obtain⟨x,rest,rfl⟩:∃x rest,ws=x :: rest:=by
              cases ws with
              | nil=>simp at hq
              | cons x rest=>exact⟨x,rest,rfl⟩
             obtain⟨dk,cU⟩:=af.dW x (b0m ..);obtain⟨xi,⟨⟨xp,xt,xr,xd,xv⟩,xa,xc⟩⟩:=x;simp only at dk cU;subst dk cU;have aN:xi<n.K:=aj.range (xi,⟨xp,xt,xr,xd,xv⟩) (by rw[<-aj.wait];exact b0m ..);have d9:=af.q.lt;have eE:rest.length+1<=cap:=af.q.2.1;have dX:=aj.lenW;have ev:=aj.lenS;simp only[List.length_cons] at dX;have q0:wr.cell? (Pv g off)=some (Iv xi):=af.q.cell (i:=0) (by simp) (j:=0) om;have q1:wr.cell? (Pv g (off+1))=some (Iv xp):=af.q.cell (i:=0) (by simp) (j:=1) om;have q2:wr.cell? (Pv g (off+2))=some (Uv f.dst):=af.q.cell (i:=0) (by simp) (j:=2) om;have q3:wr.cell? (Pv g (off+3))=some (Uv f.src):=af.q.cell (i:=0) (by simp) (j:=3) om;have q4:wr.cell? (Pv g (off+4))=some (.bool xt):=af.q.cell (i:=0) (by simp) (j:=4) om;have q5:wr.cell? (Pv g (off+5))=some (Iv xr):=af.q.cell (i:=0) (by simp) (j:=5) om;have q6:wr.cell? (Pv g (off+6))=some (.bool xd):=af.q.cell (i:=0) (by simp) (j:=6) om;have q7:wr.cell? (Pv g (off+7))=some (Iv xv):=af.q.cell (i:=0) (by simp) (j:=7) om;have q8:wr.cell? (Pv g (off+8))=some (Iv f.type):=af.q.cell (i:=0) (by simp) (j:=8) om;have q9:wr.cell? (Pv g (off+9))=some (.slice f.ao f.n f.cap):=af.q.cell (i:=0) (by simp) (j:=9) om;obtain⟨X1,bu⟩:=nm (wr.alloc (.cells #[Iv xi,Iv xp,Uv f.dst,Uv f.src,.bool xt,Iv xr,.bool xd,Iv xv,Iv f.type,.slice f.ao f.n f.cap] 90))
             have dv:Bl wr X1:=(by rw[bu.o];exact bA1 _ _)
             have b9:X1.heap[wr.heap.size]?=some (.cells #[Iv xi,Iv xp,Uv f.dst,Uv f.src,.bool xt,Iv xr,.bool xd,Iv xv,Iv f.type,.slice f.ao f.n f.cap] 90):=(by rw[bu.o];exact a9Z _ _)
             have dZ:X1.heap.size=wr.heap.size+1:=(by rw[bu.o];simp)
             obtain⟨BX,cd⟩:=nm wr.heap.size
             rw[<-cd.o] at b9;obtain⟨ah,cF,cs⟩:∃ah,(cap=1->ah=off)/\(cap≠1->ah=off+10):=⟨if cap=1 then off else off+10,λe=>iP e,λe=>iN e⟩
             have cO:DM w X1 BN BT RF n oao ocap t.length f ac bo bc gk kc s.books aq ap so sc ss g ah (cap-1) rest:=(af.below dv).tail1 cF cs;have cf:Hid (DM w X1 BN BT RF n oao ocap t.length f ac bo bc gk kc s.books aq ap so sc ss g ah (cap-1) rest):=cO;have dc:Hid (g<X1.heap.size/\g≠BX/\BX<X1.heap.size):=⟨om,by rw[cd.o];omega,by rw[cd.o];omega⟩
             have bG:Hid (X1.heap[BX]?=some (.cells #[Iv xi,Iv xp,Uv f.dst,Uv f.src,.bool xt,Iv xr,.bool xd,Iv xv,Iv f.type,.slice f.ao f.n f.cap] 90)):=b9;have cw:Hid (∀V,Bl X1 V->(V.cell? (Pv BN 0)=some (.slice n.bao n.K n.bcap)/\V.cell? (Pv BN 1)=some (.slice n.lao n.L n.lcap))/\V.cell? (Pv BT 0)=some (.slice oao t.length ocap)/\(V.cell? (Pv BX 0)=some (Iv xi)/\V.cell? (Pv BX 1)=some (Iv xp)/\V.cell? (Pv BX 2)=some (Uv f.dst)/\V.cell? (Pv BX 3)=some (Uv f.src)/\V.cell? (Pv BX 4)=some (.bool xt)/\V.cell? (Pv BX 5)=some (Iv xr)/\V.cell? (Pv BX 6)=some (.bool xd)/\V.cell? (Pv BX 7)=some (Iv xv)/\V.cell? (Pv BX 8)=some (Iv f.type)/\V.cell? (Pv BX 9)=some (.slice f.ao f.n f.cap))):=λV hV=>by
              have h1:=cO.below hV;have h2:=keep b9 hV;exact⟨tC2 h1.bxN,a0x h1.bxT,a9Y _ _ 0 _ _ _ h2,a9Y _ _ 1 _ _ _ h2,a9Y _ _ 2 _ _ _ h2,a9Y _ _ 3 _ _ _ h2,a9Y _ _ 4 _ _ _ h2,a9Y _ _ 5 _ _ _ h2,a9Y _ _ 6 _ _ _ h2,a9Y _ _ 7 _ _ _ h2,a9Y _ _ 8 _ _ _ h2,a9Y _ _ 9 _ _ _ h2⟩
             have ce:Hid (Cq n t vid f s0 s c ss (⟨xi,⟨⟨xp,xt,xr,xd,xv⟩,f.ao,f.cap⟩⟩ :: rest)):=aj;obtain⟨res,bC⟩:=nn (Ln.rl n t vid f s.books xi ⟨xp,xt,xr,xd,xv⟩)
             have ai:Hid (res=Ln.rl n t vid f s.books xi ⟨xp,xt,xr,xd,xv⟩):=bC;clear aj af cO dv b9 hX bC dZ d9;simp only[List.length_cons] at *;(go_upto_region 31 with fail);rw[<-bu.o];go_cut [22] (λv wx=>v=.slice (some (Pv g ah)) rest.length (cap-1)/\Hid (wx=X1))
             case first =>
              by_cases hcp:cap=1
              ·have e1:=cF hcp;subst hcp e1;have dV:rest.length=0:=om
               (go_wp2_with fail);go_meet
               exact⟨by rw[dV],rfl⟩
              ·have e1:=cs hcp;subst e1;have ef:1<cap:=om
               (go_wp2_with fail);go_meet
               exact⟨rfl,rfl⟩
             case rest =>
             obtain⟨rfl,dj⟩:=hcut;rw[dj.o];clear dj;clear q0 q1 q2 q3 q4 q5 q6 q7 q8 q9 bu cF cs;rw[<-cd.o];obtain⟨X2,bP⟩:=nm (X1.alloc (.cells #[Iv 0] 3))
             have bA:Bl X1 X2:=(by rw[bP.o];exact bA1 _ _)
             have dz:X2.heap[X1.heap.size]?=some (.cells #[Iv 0] 3):=(by rw[bP.o];exact a9Z _ _)
             obtain⟨P,hP⟩:=nn ((0:Int) :: n.pts xi)
             obtain⟨PL,cM⟩:=nn (1+(n.pts xi).length)
             have a8:Hid (P=(0:Int) :: n.pts xi/\PL=P.length):=⟨hP,by rw[hP,cM];simp;omega⟩
             have aI:PL<=31/\1<=PL:=(by have:=a9P HR.o xi;omega)
             have dB:Hid (Calls prog 35 #[.agg #[.slice n.bao n.K n.bcap,.slice n.lao n.L n.lcap],Iv xi] X2 λe w'=>∃(pa:OA) (pn pc:Nat),e=.returned (.slice pa pn pc)/\Hid (∃a1 c1 w2,(Builtin.append_ #[52,52] 52 #[.slice (some (Pv X1.heap.size 0)) 1 1,.slice pa pn pc]).run prog w'=.ok (.slice a1 PL c1) w2/\ILs w2 a1 c1 P/\Bl X1 w2)):=by
              obtain⟨k1,_,_⟩:=bh.o X2 (a0c cf.o.low bA);refine(a4X n xi X2 k1 HR.o.fewL HR.o.links).mono ?_;rintro e w' ⟨pa,pc,rfl,h1,h2,h3,h4,_⟩;refine⟨pa,_,pc,rfl,?_⟩;have h5:X2.ownsRow X1.heap.size 3 1 (.slice (some (Pv X1.heap.size 0)) 1 1) 1 (a0f 1 1 (λ_ _=>Iv 0)):=a1H (sp:=#[]) (b0g _) (b0g _) (by unfold maxLen;omega) rfl (by exact dz);obtain⟨a1,c1,w2,r,i,b⟩:=a9Q (a0h h5 h4) h1 h2 (by have:=a9P HR.o xi;omega) (by have:=bA.size;have:=h4.size;omega);rw[<-cM] at r;rw[<-hP] at i;exact⟨a1,c1,w2,r,i,(a0c bA h4).trans b⟩
             obtain⟨⟨c0,c1⟩,c2,x0,_⟩:=cw.o X2 bA;rw[bP.o] at c0 c1 c2 x0;clear bA dz hP cM;(go_wp2_with fail);rw[<-bP.o];refine dB.o.mono ?_;rintro e w3 ⟨pa,pn,pc,rfl,H3⟩;clear dB c0 c1 c2 x0;obtain⟨a1,bD,W4,da,ch,dm⟩:=H3.o;have dn:Hid ((Builtin.append_ #[52,52] 52 #[.slice (some (Pv X1.heap.size 0)) 1 1,.slice pa pn pc]).run prog w3=.ok (.slice a1 PL bD) W4):=da;obtain⟨pb,cq,rfl,dG⟩:=ch.place (by have:=a8.o.2;omega);have ds:PL<=bD:=(by have:=ch.1;rw[<-a8.o.2] at this;exact this)
             have c7:Hid (∀V,Bl W4 V->∀k,k<PL->V.cell? (Pv pb (cq+k))=some (Iv (P.getD k 0))):=λV hV k hk=>(ch.below hV).cell (by have:=a8.o.2;omega);have cR:Hid (Bl X1 W4):=dm;clear H3 da ch dm dG;go_wp2_with (at_builtin;refine a0a rfl (.tmp 158) (.tmp 162) 52 rfl _ _ _ rfl rfl dn.o ?_;clear dn)
             clear bP;refine zgates (xi:=xi) (oao:=oao) (ocap:=ocap) (λ_ _ d _ _ h=>by cases d<;>exact h) dE a8.o.2 aI.1 ds (λV hV => ?_) ?_
             ·obtain⟨_,c2,x0,_⟩:=cw.o V (a0c cR.o hV);exact⟨⟨⟨c2,x0⟩,(bh.o V (a0c cf.o.low (a0c cR.o hV))).2.1⟩,λk hk=>c7.o V hV k hk⟩
             intro ga gm gc wq;intros
             rename_i hGL;obtain⟨gl,rfl,cK,df,dD⟩:=hGL;have bx:Hid (Bl X1 wq):=a0c cR.o dD;have ba:=cf.o.below bx.o;have cr:gl.map Ln.face=((0:Int) :: n.pts xi).map (Ln.gf t (xi:Int) vid):=by
              rw[cK,a8.o.2,List.take_length,a8.o.1]
             have bW:gl.length<=31:=by
              have h1:=congrArg List.length cK;have h2:=a8.o.2;simp at h1;omega
             have bO:∀g∈gl,g.ways.length<=1000/\g.opens.length<=1000:=λg hg=>by
              have h1:Ln.face g∈gl.map Ln.face:=List.mem_map_of_mem hg;rw[cr] at h1;obtain⟨q,_,e⟩:=List.mem_map.1 h1;have e1:g.ways=[vid]:=(congrArg (λx=>x.2.2.1) e).symm;have e2:g.opens=(List.range t.length).map (a0Z t (xi:Int) q):=(congrArg (λx=>x.2.2.2) e).symm;rw[e1,e2];simp;omega
             obtain⟨d8,dI,eg,cQ⟩:=df.el om bO;injection eg with eg1 _ eg2;rw[<-eg1,<-eg2] at cQ;obtain⟨k1,k2,k3⟩:=bh.o wq (a0c cf.o.low bx.o);obtain⟨_,e2,_,e4⟩:=k1.each xi aN;obtain⟨du,c3⟩:=ba.bel aD.o aN;have dw:RelIn wq (rgR (n.bs xi)) ga gc gl (aq xi) (ap xi) (s.books xi) (Ln.frO f ⟨xp,xt,xr,xd,xv⟩):=⟨e2,e4,cQ,du,(ba.each xi aN).2,c3,k3,bF.o.1,bF.o.2.1,bF.o.2.2⟩
             have c6:Rl.relay (rgR (n.bs xi)) gl (s.books xi) xp (Ln.frO f ⟨xp,xt,xr,xd,xv⟩)=res:=(by rw[ai.o];exact Ln.rl_face HR.o t vid f s.books xi ⟨xp,xt,xr,xd,xv⟩ cr)
             have bm:Hid (∀W,Bl wq W->Calls prog 37 #[.agg #[.string (n.bs xi).reg.s,Iv (n.bs xi).reg.rev,.slice (n.bs xi).reg.ao (n.bs xi).reg.n (n.bs xi).reg.cap],.slice ga gl.length gc,.slice (aq xi) (s.books xi).length (ap xi),Iv xp,.agg #[Uv f.dst,Uv f.src,.bool xt,Iv xr,.bool xd,Iv xv,Iv f.type,.slice f.ao f.n f.cap]] W λe w'=>∃(oo:OA) (oc:Nat) (bt:OA) (bJ:Nat),e=.returned (.tuple #[.slice oo res.out.length oc,.slice bt res.book.length bJ,Iv res.err])/\Hid (Bl wq w')/\Hid (OwnR w' wq.heap.size (.slice oo res.out.length oc) f res.out/\BkD w' wq.heap.size (aq xi) (ap xi) (s.books xi) bt bJ res.book)):=λW hW=>by
              have h:=a7Q (rgR (n.bs xi)) ga gc gl (aq xi) (ap xi) (s.books xi) xp (Ln.frO f ⟨xp,xt,xr,xd,xv⟩) W (dw.below hW);rw[c6] at h;refine h.mono ?_;rintro e w' ⟨oo,oc,os,b2,c2,rfl,h1,h2,h3,h4⟩;have el:os.length=res.out.length:=(by rw[<-h1.o,List.length_map])
              rw[h1.o,el] at h2;refine⟨oo,oc,b2,c2,by rw[el],a0c hW h1.low,h2.mono hW.size,?_⟩;rcases h4 with z | z
              ·exact Or.inl z
              ·exact Or.inr (z.mono hW.size)
             have cm:=k1.brs;obtain⟨aK,ak,cL,_⟩:=CRow.some cm om;rw[cL] at cm;have co:Hid (DM w wq BN BT RF n oao ocap t.length f ac bo bc gk kc s.books aq ap so sc ss g ah (cap-1) rest):=ba;have aO:Hid (∀W,Bl wq W->W.cell? (Pv BN 0)=some (.slice (some (Pv aK ak)) n.K n.bcap)/\(W.cell? (Pv aK (ak+xi*5+2))=some (.string (n.bs xi).reg.s)/\W.cell? (Pv aK (ak+xi*5+2+1))=some (Iv (n.bs xi).reg.rev)/\W.cell? (Pv aK (ak+xi*5+2+2))=some (.slice (n.bs xi).reg.ao (n.bs xi).reg.n (n.bs xi).reg.cap))/\W.cell? (Pv gk xi)=some (.slice (aq xi) (s.books xi).length (ap xi))/\(W.cell? (Pv BX 0)=some (Iv xi)/\W.cell? (Pv BX 1)=some (Iv xp)/\W.cell? (Pv BX 2)=some (Uv f.dst)/\W.cell? (Pv BX 3)=some (Uv f.src)/\W.cell? (Pv BX 4)=some (.bool xt)/\W.cell? (Pv BX 5)=some (Iv xr)/\W.cell? (Pv BX 6)=some (.bool xd)/\W.cell? (Pv BX 7)=some (Iv xv)/\W.cell? (Pv BX 8)=some (Iv f.type)/\W.cell? (Pv BX 9)=some (.slice f.ao f.n f.cap))):=λW hW=>by
              obtain⟨⟨z1,_⟩,_,z3⟩:=cw.o W (a0c bx.o hW);obtain⟨_,_,a2,a3,a4⟩:=BRow.cells (CRow.below cm hW) aN;obtain⟨ej,dJ,ek,cy,_⟩:=a0W om (ba.below hW).out;injection ek with ek _ _;obtain⟨b',o',e',_,cI⟩:=cy.2 om;rw[<-ek] at e';injection e' with e';injection e' with eb eo;have a6:=cI xi aN 0 om;rw[<-eb,<-eo] at a6;simp only[Nat.zero_add,Nat.mul_one,Nat.add_zero] at a6;exact⟨by rw[<-cL];exact z1,⟨a2,a3,a4⟩,a6,z3⟩
             obtain⟨B5,be⟩:=nm wq.heap.size
             have aZ:Hid (res.book.length<=9223372036854775807):=(by rw[ai.o];exact a5w (ba.each xi aN).2)
             have ed:Hid (BX<wq.heap.size):=b0q dc.o.2.2 bx.o.size;clear cK df dD cr bW bO eg1 eg2 cQ k1 k2 k3 e2 e4 du c3 dw c6 cm c7 ba d8 dI ds aI cL;generalize (n.bs xi).reg.s=rs at *;generalize (n.bs xi).reg.rev=aE at *;generalize (n.bs xi).reg.ao=cj at *;generalize (n.bs xi).reg.n=rn at *;generalize (n.bs xi).reg.cap=aF at *;generalize hbka:aq xi=bka at *;generalize hbkn:(s.books xi).length=bkn at *;generalize hbkc:ap xi=bkc at *;have b4:Hid (aq xi=bka/\ap xi=bkc):=⟨hbka,hbkc⟩
             clear hbka hbkn hbkc;generalize gl.length=gln at *;have dO:Hid (Bl wq wq.drew):=b0i (b0h _ _);have ix:(0:Int)<=(xi:Int):=om
             have nx:(xi:Int)<(n.K:Int):=om
             (go_upto_region 46 with fail);go_region_held3 (λW=>W.cell? (Pv BN 0)=some (.slice (some (Pv aK ak)) n.K n.bcap)/\(W.cell? (Pv aK (ak+xi*5+2))=some (.string rs)/\W.cell? (Pv aK (ak+xi*5+2+1))=some (Iv aE)/\W.cell? (Pv aK (ak+xi*5+2+2))=some (.slice cj rn aF))/\W.cell? (Pv gk xi)=some (.slice bka bkn bkc)/\(W.cell? (Pv BX 0)=some (Iv xi)/\W.cell? (Pv BX 1)=some (Iv xp)/\W.cell? (Pv BX 2)=some (Uv f.dst)/\W.cell? (Pv BX 3)=some (Uv f.src)/\W.cell? (Pv BX 4)=some (.bool xt)/\W.cell? (Pv BX 5)=some (Iv xr)/\W.cell? (Pv BX 6)=some (.bool xd)/\W.cell? (Pv BX 7)=some (Iv xv)/\W.cell? (Pv BX 8)=some (Iv f.type)/\W.cell? (Pv BX 9)=some (.slice f.ao f.n f.cap)))
              (first | (exact aO.o _ (Hid.o aS)) | (exact aO.o _ (b0i (Hid.o aS))))
              (first | (go_at_call 37;(with_reducible refine(bm.o _ (by first | exact(Hid.o aS) | exact b0i (Hid.o aS))).mono ?_);rintro e w5 ⟨oo,oc,bt,bJ,rfl,cc,H5⟩) | fail)
             clear bm aO;have cg:Hid (res.err≠0->RR.err=res.err):=λh=>by
              rw[ai.o] at h ⊢;rw[<-bp.o];exact ce.o.bad hc2 h
             by_cases her:res.err=0
             ·obtain⟨dx,dh⟩:=H5.o;have bg:=cc.o;have aR:=co.o.below bg;obtain⟨nb,cA⟩:∃nb:Nat->List E,nb=λj=>if j=xi then res.book else s.books j:=⟨_,rfl⟩
              obtain⟨aW,bE⟩:∃aW:Nat->OA,aW=λj=>if j=xi then bt else aq j:=⟨_,rfl⟩
              obtain⟨aX,bK⟩:∃aX:Nat->Nat,aX=λj=>if j=xi then bJ else ap j:=⟨_,rfl⟩
              obtain⟨W6,bV⟩:=nm (w5.setCell (Pv gk xi) (.slice bt res.book.length bJ))
              have em:w.heap.size<=wq.heap.size:=co.o.low.size;have cZ:DM w W6 BN BT RF n oao ocap t.length f ac bo bc gk kc nb aW aX so sc ss g ah (cap-1) rest:=by
               rw[bV.o,cA,bE,bK];refine aR.book aN ?_ aZ.o;rw[b4.o.1,b4.o.2];rcases dh with z | z
               ·exact Or.inl z
               ·exact Or.inr (z.mono em)
              obtain⟨ez,aG⟩:=a0z aR.o (q:=gk) rfl;have ag:=keep bG.o (a0c bx.o bg);have dp:BX≠gk:=λe=>by
               rw[e,aG] at ag;injection ag with ag;injection ag with _ ag;exact absurd ag dd
              obtain⟨OL,bl⟩:=nn res.out.length
              have dR:Hid (OL=res.out.length):=bl;have bM:OL<=31:=(by rw[bl,ai.o];exact Ln.out_few)
              have dA:Hid (LM w W6 BN BT RF n oao ocap t.length f ac bo bc gk kc nb aW aX so sc ss B5 (.slice oo OL oc) res.out [(BX,#[Iv xi,Iv xp,Uv f.dst,Uv f.src,.bool xt,Iv xr,.bool xd,Iv xv,Iv f.type,.slice f.ao f.n f.cap],90)] (psOf n (rest.map AV.p) xi res.out 0) g ah rest.length (cap-1)):=by
               refine⟨⟨rest,by unfold psOf;simp[Ln.waitOf],rfl,cZ⟩,λy hy => ?_,?_⟩
               ·obtain rfl:y=(BX,#[Iv xi,Iv xp,Uv f.dst,Uv f.src,.bool xt,Iv xr,.bool xd,Iv xv,Iv f.type,.slice f.ao f.n f.cap],90):=by simpa using hy
                refine⟨?_,λe=>dc.o.2.1 e.symm,(by decide:(90:TypeId)≠54)⟩;rw[bV.o];exact(b0f _ _ _ _ (by exact dp)).trans ag
               ·rw[bV.o,be.o,bl];exact(Ty.but aG (λq hq _=>b0f _ _ _ _ (by exact hq)) _ dd).owns dx
              have aL:Hid (∀(V:World) (ck:OA) (ca g' aC cu aH cB:Nat),(∃bj,cB=bj.length/\Cj n c s.seen xi res.out OL bj/\LM w V BN BT RF n oao ocap t.length f ac bo bc gk kc nb aW aX ck ca bj B5 (.slice oo OL oc) res.out [(BX,#[Iv xi,Iv xp,Uv f.dst,Uv f.src,.bool xt,Iv xr,.bool xd,Iv xv,Iv f.type,.slice f.ao f.n f.cap],90)] (psOf n (rest.map AV.p) xi res.out OL) g' aC cu aH)->∃s' aY a7 av au,Cq n t vid f s0 s' (c+1) aY a7/\DM w V BN BT RF n oao ocap t.length f ac bo bc gk kc s'.books av au ck ca aY g' aC aH a7/\cB=aY.length/\cu=a7.length):=λV ck ca g' aC cu aH cB hv=>by
               obtain⟨bj,e1,hcj,ei⟩:=hv;obtain⟨dy,e2,e3,dF⟩:=ei.ws;rw[bl] at hcj e2;have hER:(Ln.rl n t vid f s.books xi ⟨xp,xt,xr,xd,xv⟩).err=0:=(by rw[<-ai.o];exact her)
               have cT:res.out=(Ln.rl n t vid f s.books xi ⟨xp,xt,xr,xd,xv⟩).out:=(by rw[ai.o])
               rw[cT] at hcj e2;refine⟨_,bj,dy,aW,aX,ce.o.next hc2 HR.o hER hcj e2,?_,e1,e3⟩;have hbk:(Ln.step n t vid f s (xi,⟨xp,xt,xr,xd,xv⟩) (rest.map AV.p)).books=nb:=(by rw[cA,ai.o];rfl)
               show DM w V BN BT RF n oao ocap t.length f ac bo bc gk kc (Ln.step n t vid f s (xi,⟨xp,xt,xr,xd,xv⟩) (rest.map AV.p)).books aW aX ck ca bj g' aC aH dy;rw[hbk];exact dF
              have bH:Hid (Cj n c s.seen xi res.out 0 ss):=⟨by rw[ce.o.seen];simp[Ln.seenOf],om⟩
              have fz:=lF0 aG xi;have dU:∃u,w5.cell? (Pv gk xi)=some u:=by
               obtain⟨ej,dJ,ek,cy,_⟩:=a0W om aR.o;injection ek with ek _ _;obtain⟨b',o',e',_,cI⟩:=cy.2 om;rw[<-ek] at e';injection e' with e';injection e' with eb eo;have a6:=cI xi aN 0 om;rw[<-eb,<-eo] at a6;simp only[Nat.zero_add,Nat.mul_one,Nat.add_zero] at a6;exact⟨_,a6⟩
              obtain⟨et,cC⟩:=dU;have x5:w5.cell? (Pv BX 0)=some (Iv xi):=a9Y _ _ 0 _ _ _ ag;rw[<-bl];clear H5 cc bg dx dh aR cA bE bK cZ aG ag dp bl cg b4 aZ co be bG ed;rw[her];clear her;(go_wp2_with fail);rw[<-bV.o];clear fz cC x5 bV;refine zouts (f:=f) (c:=c) (se:=s.seen) (wa:=rest.map AV.p) HR.o hc2 (by rw[List.length_map];omega) dR.o bM (λV hV=>(bh.o V hV).1.lks) bH.o dA.o ?_;intro cJ cE cG g1 aV q1 a9 wv;intros
              rename_i hJ;have HF:Hid (∃s' aY a7 av au,Cq n t vid f s0 s' (c+1) aY a7/\DM w wv BN BT RF n oao ocap t.length f ac bo bc gk kc s'.books av au cJ cG aY g1 aV a9 a7/\cE=aY.length/\q1=a7.length):=aL.o wv cJ cG g1 aV q1 a9 cE hJ;clear aL hJ dA bH;rw[show Pv BN 0=⟨BN,0,none⟩ from rfl,show Pv BT 0=⟨BT,0,none⟩ from rfl];(go_wp2_with fail);exact⟨⟨c+1,cJ,cE,cG,g1,aV,q1,a9,om,rfl,rfl,gn,HF⟩,io⟩
             ·have bg:=cc.o;have aR:=co.o.below bg;have dN:Hid (SR w w5 RF):=⟨aR.rF,aR.low⟩
              have HE:Hid (∀W,Bl w W->a2R w n t vid f n.K ac (i0:Int) (.returned (.tuple #[sN,sN,.bool false,.agg #[Iv res.err,Iv 0]])) W):=λW hW=>bS.o W res.err hW (λz=>her (by rw[<-cg.o her];exact z.1)) (cg.o her).symm;have z3:(res.err != 0)=true:=(by simp[her])
              clear H5 cc bg aR cg her bS b3 ce ai aZ b4;generalize res.err=er at *;(go_wp2_with fail);refine(ad.o _ er 0 dN.o).mono ?_;rintro e W1 ⟨rfl,ab⟩;obtain⟨y0,y1⟩:=tC2 ab.o.1;have y2:=lF0 ab.o.1 0;have y3:=lF0 ab.o.1 1;(go_wp2_with fail);exact b0b (v:=.tuple #[sN,sN,.bool false,.agg #[Iv er,Iv 0]]) (a0n (p:=15) (ty:=37) results11 _ _ RF 37 #[Iv er,Iv 0] (0,0) _ rfl (a0i ab.o.1) underlying37 rfl (by rw[a0q];rfl)) rfl (HE.o _ ((ab.o.2.setCell ae.o _).setCell ae.o _))
            ·obtain rfl:c=41:=om
             obtain⟨s,ss,ws,aq,ap,aj,af,rfl,rfl⟩:=hX.o;have he:=aj.fin (Or.inl rfl);rw[bp.o] at he;have HE:Hid (∀W,Bl w W->a2R w n t vid f n.K ac (i0:Int) (.returned (.tuple #[sN,sN,.bool false,.agg #[Iv 0,Iv 0]])) W):=λW hW=>bS.o W 0 hW (λz=>by
              rw[he,<-aj.wait] at z;have:=congrArg List.length z.2;simp at this;rw[this] at hq;simp at hq) (by rw[he,aj.err])
             have ar:=af.rF;have bw:Hid (SR w wr RF):=⟨ar,af.low⟩
             obtain⟨y0,y1⟩:=tC2 ar;have y2:=lF0 ar 0;have y3:=lF0 ar 1;generalize ws.length=qn at *;generalize ss.length=sn at *;have ew:(0:Int)<(qn:Int):=om
             clear af aj hX he ar bS b3 bp bh bF aD ad;(go_wp2_with fail);exact b0b (v:=.tuple #[sN,sN,.bool false,.agg #[Iv 0,Iv 0]]) (a0n (p:=15) (ty:=37) results11 _ _ RF 37 #[Iv 0,Iv 0] (0,0) _ rfl (a0i bw.o.1) underlying37 rfl (by rw[a0q];rfl)) rfl (HE.o _ ((bw.o.2.setCell ae.o _).setCell ae.o _))
           ·obtain⟨s,ss,ws,aq,ap,aj,af,rfl,rfl⟩:=hX.o;obtain rfl:ws=[]:=List.length_eq_zero_iff.1 om;have he:=aj.fin (Or.inr rfl);rw[bp.o] at he;have ar:=af.rF;have bw:Hid (SR w wr RF):=⟨ar,af.low⟩
            have HE:Hid (a2R w n t vid f n.K ac (i0:Int) (.returned (.tuple #[.slice so ss.length sc,.slice (some (Pv gk 0)) n.K kc,.bool true,.agg #[Iv 0,Iv 0]])) ((wr.setCell (Pv RF 0) (Iv 0)).setCell (Pv RF 1) (Iv 0))):=by
             have bq:=(bw.o.2.setCell (p:=⟨RF,0,none⟩) ae.o (Iv 0)).setCell (p:=⟨RF,1,none⟩) ae.o (Iv 0);obtain⟨k1,k2,k3⟩:=af.fin aD.o bq (a9S ar);refine b3.o _ so sc ss _ kc aq ap bq (by rw[he,aj.err]) (by rw[he,<-aj.wait];rfl) ⟨?_,k1,af.dS,?_,?_⟩
             ·rw[he,aj.seen]
             ·rw[he];exact k2
             ·rw[he];exact k3
            obtain⟨y0,y1⟩:=tC2 ar;have y2:=lF0 ar 0;have y3:=lF0 ar 1;generalize ss.length=sn at *;simp only[List.length_nil] at *;clear af aj hX he ar bS b3 bp bh bF aD ad;(go_wp2_with fail);exact b0b (v:=.tuple #[.slice so sn sc,.slice (some (Pv gk 0)) n.K kc,.bool true,.agg #[Iv 0,Iv 0]]) (a0n (p:=15) (ty:=37) results11 _ _ RF 37 #[Iv 0,Iv 0] (0,0) _ rfl (a0i bw.o.1) underlying37 rfl (by rw[a0q];rfl)) rfl HE.o
       ·have HE:Hid (∀W,Bl w W->a2R w n t vid f n.K ac (i0:Int) (.returned (.tuple #[sN,sN,.bool false,.agg #[Iv wf,Iv 0]])) W):=am.o wf 0 (by rw[ay.o,iP hw0]) hw0;have z3:(wf != 0)=true:=(by simp[hw0])
        clear ay am aT ax bb;(go_wp2_with fail);refine(ad.o _ wf 0 al.o).mono ?_;rintro e W1 ⟨rfl,ab⟩;obtain⟨y0,y1⟩:=tC2 ab.o.1;have y2:=lF0 ab.o.1 0;have y3:=lF0 ab.o.1 1;(go_wp2_with fail);exact b0b (v:=.tuple #[sN,sN,.bool false,.agg #[Iv wf,Iv 0]]) (a0n (p:=15) (ty:=37) results11 _ _ RF 37 #[Iv wf,Iv 0] (0,0) _ rfl (a0i ab.o.1) underlying37 rfl (by rw[a0q];rfl)) rfl (HE.o _ ((ab.o.2.setCell ae.o _).setCell ae.o _))
     ·have HE:Hid (∀W,Bl w W->a2R w n t vid f n.K ac aa (.returned (.tuple #[sN,sN,.bool false,.agg #[Iv 3,Iv 0]])) W):=am.o 3 0 (by rw[aw.o];unfold a1I;rw[iN c1',iN (λz=>z k2),iP k3]) dd;obtain⟨c9,dC⟩:=k2;have i1:¬aa<0:=om
      have i2:¬aa>=(n.K:Int):=om
      clear aw am c1' ax bb;by_cases i3:vid<1
      ·clear k3;(go_wp2_with fail);refine(ad.o _ 3 0 al.o).mono ?_;rintro e W1 ⟨rfl,ab⟩;obtain⟨y0,y1⟩:=tC2 ab.o.1;have y2:=lF0 ab.o.1 0;have y3:=lF0 ab.o.1 1;(go_wp2_with fail);exact b0b (v:=.tuple #[sN,sN,.bool false,.agg #[Iv 3,Iv 0]]) (a0n (p:=15) (ty:=37) results11 _ _ RF 37 #[Iv 3,Iv 0] (0,0) _ rfl (a0i ab.o.1) underlying37 rfl (by rw[a0q];rfl)) rfl (HE.o _ ((ab.o.2.setCell ae.o _).setCell ae.o _))
      ·have i4:vid > 4094:=om
       clear k3;(go_wp2_with fail);refine(ad.o _ 3 0 al.o).mono ?_;rintro e W1 ⟨rfl,ab⟩;obtain⟨y0,y1⟩:=tC2 ab.o.1;have y2:=lF0 ab.o.1 0;have y3:=lF0 ab.o.1 1;(go_wp2_with fail);exact b0b (v:=.tuple #[sN,sN,.bool false,.agg #[Iv 3,Iv 0]]) (a0n (p:=15) (ty:=37) results11 _ _ RF 37 #[Iv 3,Iv 0] (0,0) _ rfl (a0i ab.o.1) underlying37 rfl (by rw[a0q];rfl)) rfl (HE.o _ ((ab.o.2.setCell ae.o _).setCell ae.o _))
    ·have HE:Hid (∀W,Bl w W->a2R w n t vid f n.K ac aa (.returned (.tuple #[sN,sN,.bool false,.agg #[Iv 6,Iv 0]])) W):=am.o 6 0 (by rw[aw.o];unfold a1I;rw[iN c1',iP k2]) dd;clear aw am c1' ax bb;by_cases i1:aa<0
     ·clear k2;(go_wp2_with fail);refine(ad.o _ 6 0 al.o).mono ?_;rintro e W1 ⟨rfl,ab⟩;obtain⟨y0,y1⟩:=tC2 ab.o.1;have y2:=lF0 ab.o.1 0;have y3:=lF0 ab.o.1 1;(go_wp2_with fail);exact b0b (v:=.tuple #[sN,sN,.bool false,.agg #[Iv 6,Iv 0]]) (a0n (p:=15) (ty:=37) results11 _ _ RF 37 #[Iv 6,Iv 0] (0,0) _ rfl (a0i ab.o.1) underlying37 rfl (by rw[a0q];rfl)) rfl (HE.o _ ((ab.o.2.setCell ae.o _).setCell ae.o _))
     ·have i2:aa>=(n.K:Int):=om
      clear k2;(go_wp2_with fail);refine(ad.o _ 6 0 al.o).mono ?_;rintro e W1 ⟨rfl,ab⟩;obtain⟨y0,y1⟩:=tC2 ab.o.1;have y2:=lF0 ab.o.1 0;have y3:=lF0 ab.o.1 1;(go_wp2_with fail);exact b0b (v:=.tuple #[sN,sN,.bool false,.agg #[Iv 6,Iv 0]]) (a0n (p:=15) (ty:=37) results11 _ _ RF 37 #[Iv 6,Iv 0] (0,0) _ rfl (a0i ab.o.1) underlying37 rfl (by rw[a0q];rfl)) rfl (HE.o _ ((ab.o.2.setCell ae.o _).setCell ae.o _))
 ·have HE:Hid (∀W,Bl w W->a2R w n t vid f B ac aa (.returned (.tuple #[sN,sN,.bool false,.agg #[Iv n.wrong.1,Iv n.wrong.2]])) W):=am.o _ _ (by rw[bY.o,iP q]) q;have z3:(n.wrong.1 != 0)=true:=(by simp[q])
  rw[aJ.o] at f0 f1;clear bY am cP cx cv bb aT ax bL q bU;generalize n.wrong.1=E1 at *;generalize n.wrong.2=E2 at *;(go_wp2_with fail);rw[<-aJ.o];refine(ad.o _ E1 E2 al.o).mono ?_;rintro e W1 ⟨rfl,ab⟩;obtain⟨y0,y1⟩:=tC2 ab.o.1;have y2:=lF0 ab.o.1 0;have y3:=lF0 ab.o.1 1;(go_wp2_with fail);exact b0b (v:=.tuple #[sN,sN,.bool false,.agg #[Iv E1,Iv E2]]) (a0n (p:=15) (ty:=37) results11 _ _ RF 37 #[Iv E1,Iv E2] (0,0) _ rfl (a0i ab.o.1) underlying37 rfl (by rw[a0q];rfl)) rfl (HE.o _ ((ab.o.2.setCell ae.o _).setCell ae.o _))
