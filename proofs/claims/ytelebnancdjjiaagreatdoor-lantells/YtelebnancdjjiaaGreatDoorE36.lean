/- ZS -/
import Derived.Test.YtelebnancdjjiaaGreatDoorE35
set_option maxRecDepth 100000
set_option maxHeartbeats 40000000
namespace Go.Proofs.YtelebnancdjjiaaGreatDoor
section
open Go.Proofs.Tryz Go.RowKit
open Pl(Net Lk Br)
open Bk(E at')
open Rl(G gat F R O)
structure RdIs (w':World) (K:Nat) (f:F) (RR:Ln.Cs) (so:OA) (sc:Nat) (ss:List AV) (ko:OA) (kc:Nat) (bo':Nat->OA) (bc':Nat->Nat):Prop where
 map:ss.map AV.p=RR.seen
 row:CRow w' so ss.length sc 9 (λi=>sC f (aat ss i))
 data:∀x∈ss,x.v.da=f.ao/\x.v.dc=f.cap
 books:CRow w' ko K kc 1 (λi _=>.slice (bo' i) (RR.books i).length (bc' i))
 each:∀i,i<K->BEL w' (bo' i) (bc' i) (RR.books i)/\(RR.books i).length<=9223372036854775807
def a2R (w:World) (n:Net) (t:List Tr) (vid:Int) (f:F) (B:Nat) (bks:Nat->List E) (from':Int) (e:Ending) (w':World):Prop :=
 Bl w w'/\(((sErr n t B from' vid f).1≠0/\e=.returned (.tuple #[sN,sN,.bool false,.agg #[Iv (sErr n t B from' vid f).1,Iv (sErr n t B from' vid f).2]])) \/
  ((sErr n t B from' vid f).1=0/\((¬((sent n t vid f bks from'.toNat).err=0/\(sent n t vid f bks from'.toNat).wait=[])/\e=.returned (.tuple #[sN,sN,.bool false,.agg #[Iv (sent n t vid f bks from'.toNat).err,Iv 0]])) \/
   ((sent n t vid f bks from'.toNat).err=0/\(sent n t vid f bks from'.toNat).wait=[]/\∃so sc ss ko kc bo' bc',e=.returned (.tuple #[.slice so (ss:List AV).length sc,.slice ko n.K kc,.bool true,.agg #[Iv 0,Iv 0]])/\RdIs w' n.K f (sent n t vid f bks from'.toNat) so sc ss ko kc bo' bc'))))
theorem sErr_eq (n:Net) (t:List Tr) (B:Nat) (aa vid:Int) (f:F):sErr n t B aa vid f=if n.wrong.1≠0 then n.wrong else if fitT n t=false then(8,0) else(a1I n t.length B aa vid f,0):=by
 by_cases q:n.wrong.1=0
 ·by_cases q2:fitT n t=false
  ·have e0:wrT n t 0=(8,0):=(by unfold wrT;rw[iN (λz=>z q),iP q2])
   have e1:a0P n t dn0 0=(8,0):=(by unfold a0P;rw[e0];rfl)
   unfold sErr;rw[e1,iN (show ¬n.wrong.1≠0 from λz=>z q),iP q2];rfl
  ·have e0:wrT n t 0=(0,0):=(by unfold wrT;rw[iN (λz=>z q),iN q2];rfl)
   have e1:a0P n t dn0 0=(0,0):=(by unfold a0P;rw[e0];rfl)
   unfold sErr;rw[e1,iN (show ¬n.wrong.1≠0 from λz=>z q),iN q2];rfl
 ·have e0:wrT n t 0=n.wrong:=(by unfold wrT;rw[iP q])
  have e1:a0P n t dn0 0=n.wrong:=(by unfold a0P;rw[e0,iP q])
  unfold sErr;rw[e1,iP q,iP q]
def SR (w V:World) (RF:Nat):Prop:=V.heap[RF]?=some (.cells #[Iv 0,Iv 0] 37)/\Bl w V
structure SB (w V:World) (BN BT BF RF:Nat) (n:Net) (oao:OA) (ocap T:Nat) (f:F):Prop where
 n:V.heap[BN]?=some (.cells #[.slice n.bao n.K n.bcap,.slice n.lao n.L n.lcap] 25)
 t:V.heap[BT]?=some (.cells #[.slice oao T ocap] 34)
 f:V.heap[BF]?=some (.cells #[Uv f.dst,Uv f.src,.bool f.tagged,Iv f.prio,.bool f.drop,Iv f.vid,Iv f.type,.slice f.ao f.n f.cap] 31)
 r:SR w V RF
theorem SB.below {w V V':World}{BN BT BF RF:Nat}{n:Net}{oao:OA}{ocap T:Nat}{f:F}(h:SB w V BN BT BF RF n oao ocap T f) (hb:Bl V V'):SB w V' BN BT BF RF n oao ocap T f:=⟨keep h.n hb,keep h.t hb,keep h.f hb,keep h.r.1 hb,a0c h.r.2 hb⟩
theorem a8l (n:Net) (oao:OA) (ocap:Nat) (t:List Tr) (ko:OA) (B an:Nat) (ac:Nat->List E) (bo:Nat->OA) (bc:Nat->Nat) (aa vid:Int) (f:F) (w:World) (dv:n.Wf) (aL:n.at' w) (bf:TrRow w oao ocap t) (hB:B<=9223372036854775807) (hbk:BIn w ko B an ac bo bc) (bW:a0s ko B an) (hd:ByteRow w f.ao f.n f.cap f.bs) (bt:a0s f.ao f.n f.cap) (bF:0<=f.dst/\f.dst<18446744073709551616) (hs:0<=f.src/\f.src<18446744073709551616) :
  Calls prog 11 #[n.val,.agg #[.slice oao t.length ocap],.slice ko B an,Iv aa,Iv vid,.agg (frA f)] w λe w'=>a2R w n t vid f B ac aa e w':=by
 obtain⟨X0,b9⟩:=nm (((w.alloc (.cells #[.slice n.bao n.K n.bcap,.slice n.lao n.L n.lcap] 25)).alloc (.cells #[.slice oao t.length ocap] 34)).alloc (.cells #[Uv f.dst,Uv f.src,.bool f.tagged,Iv f.prio,.bool f.drop,Iv f.vid,Iv f.type,.slice f.ao f.n f.cap] 31))
 have h3:=a1x w (.cells #[.slice n.bao n.K n.bcap,.slice n.lao n.L n.lcap] 25) (.cells #[.slice oao t.length ocap] 34) (.cells #[Uv f.dst,Uv f.src,.bool f.tagged,Iv f.prio,.bool f.drop,Iv f.vid,Iv f.type,.slice f.ao f.n f.cap] 31);rw[<-b9.o] at h3;obtain⟨g0,g1,g2,b0⟩:=h3;obtain⟨X,HX⟩:=nm (X0.alloc (.cells #[Iv 0,Iv 0] 37))
 have b1:Bl X0 X:=(by rw[HX.o];exact bA1 _ _)
 have s0:X0.heap.size=w.heap.size+1+1+1:=(by rw[b9.o];simp)
 have g3:X.heap[w.heap.size+1+1+1]?=some (.cells #[Iv 0,Iv 0] 37):=(by rw[HX.o,<-s0];exact a9Z _ _)
 have bX:Bl w X:=b0.trans (b1.mono b0.size);obtain⟨BN,cq⟩:=nm w.heap.size
 obtain⟨BT,df⟩:=nm (w.heap.size+1)
 obtain⟨BF,dr⟩:=nm (w.heap.size+1+1)
 obtain⟨RF,cs⟩:=nm (w.heap.size+1+1+1)
 have ae:Hid (w.heap.size<=RF):=(by rw[cs.o];show w.heap.size<=w.heap.size+1+1+1;omega)
 have bb:SB w X BN BT BF RF n oao ocap t.length f:=by
  refine⟨?_,?_,?_,?_,bX⟩
  ·rw[cq.o];exact keep g0 b1
  ·rw[df.o];exact keep g1 b1
  ·rw[dr.o];exact keep g2 b1
  ·rw[cs.o];exact g3
 have bh:Hid (∀V,Bl X V->SB w V BN BT BF RF n oao ocap t.length f):=λV hV=>bb.below hV;have bw:Hid (n.at' w/\TrRow w oao ocap t/\BIn w ko B an ac bo bc/\a0s ko B an/\ByteRow w f.ao f.n f.cap f.bs/\a0s f.ao f.n f.cap/\(0<=f.dst/\f.dst<18446744073709551616)/\(0<=f.src/\f.src<18446744073709551616)):=⟨aL,bf,hbk,bW,hd,bt,bF,hs⟩
 have ad:Hid (∀(V:World) (E A:Int),SR w V RF->Calls prog 30 #[Iv E,Iv A] V λe w'=>e=.returned (.tuple #[sN,sN,.bool false,.agg #[Iv E,Iv A]])/\Hid (SR w w' RF)):=λV E A h=>(a9V E A V).mono (λe w' z=>⟨z.1,keep h.1 z.2,a0c h.2 z.2⟩);have c5:Hid (Calls prog 31 #[.agg #[.slice n.bao n.K n.bcap,.slice n.lao n.L n.lcap]] X λe w'=>e=.returned (.agg #[Iv n.wrong.1,Iv n.wrong.2])/\Hid (Bl X w')):=(a2V n X (aL.below bX)).mono (λe w' h=>⟨h.1,h.2⟩);have cB:Hid (n.Right->∀V,Bl X V->Calls prog 32 #[.agg #[.slice n.bao n.K n.bcap,.slice n.lao n.L n.lcap],.agg #[.slice oao t.length ocap]] V λe w'=>e=.returned (.bool (fitT n t))/\Hid (Bl X w')):=λR V hV =>
  (a5B n oao ocap t V (aL.below (a0c bX hV)) R.fewL R.links (bf.below (a0c bX hV))).mono (λe w' h=>⟨h.1,a0c hV h.2⟩)
 have cT:Hid (∀V,Bl X V->Calls prog 33 #[.agg #[Uv f.dst,Uv f.src,.bool f.tagged,Iv f.prio,.bool f.drop,Iv f.vid,Iv f.type,.slice f.ao f.n f.cap]] V λe w'=>e=.returned (Iv (wrong f.dst f.src f.tagged f.prio f.vid f.type f.n))/\Hid (Bl X w')):=λV hV =>
  (a3U f.dst f.src f.tagged f.prio f.drop f.vid f.type f.ao f.n f.cap V hs.1).mono (λe w' h=>⟨h.1,a0c hV h.2⟩)
 have bi:Hid (n.Right->∀V,Bl X V->∀k,k<n.K->Calls prog 34 #[.agg #[.string (n.bs k).reg.s,Iv (n.bs k).reg.rev,.slice (n.bs k).reg.ao (n.bs k).reg.n (n.bs k).reg.cap],Iv vid] V λe w'=>e=.returned (Iv (Rg.tree (n.bs k).reg.vs (n.bs k).reg.ts vid (n.bs k).reg.n))/\Hid (Bl X w')):=λR V hV k hk =>
  (a3T (n.bs k).reg.s (n.bs k).reg.rev (n.bs k).reg.ao (n.bs k).reg.n (n.bs k).reg.cap (n.bs k).reg.vs (n.bs k).reg.ts vid V (R.fine k hk).reg.2.2 (((aL.below (a0c bX hV)).each k hk).2.1)).mono (λe w' h=>⟨h.1,a0c hV h.2⟩)
 have cI:Hid (n.wrong.1=0->n.Right):=right_of dv;have co:Hid (sErr n t B aa vid f=if n.wrong.1≠0 then n.wrong else if fitT n t=false then(8,0) else(a1I n t.length B aa vid f,0)):=sErr_eq n t B aa vid f;have al:Hid (∀E A,sErr n t B aa vid f=(E,A)->E≠0->∀W,Bl w W->a2R w n t vid f B ac aa (.returned (.tuple #[sN,sN,.bool false,.agg #[Iv E,Iv A]])) W):=λE A h1 h2 W hW=>⟨hW,Or.inl ⟨by rw[h1];exact h2,by rw[h1]⟩⟩
 obtain⟨x0,x1⟩:=tC2 bb.n;have dx:Hid (fitT n t=true->t.length<=4):=λh=>((a6Q.1 h).1).2;have a8:Hid (∀V,Bl X V->(V.cell? (Pv BN 0)=some (.slice n.bao n.K n.bcap)/\V.cell? (Pv BN 1)=some (.slice n.lao n.L n.lcap))/\V.cell? (Pv BT 0)=some (.slice oao t.length ocap)):=λV hV=>⟨tC2 (bb.below hV).n,a0x (bb.below hV).t⟩
 have ax:Hid (∀V,Bl X V->V.cell? (Pv BF 0)=some (Uv f.dst)/\V.cell? (Pv BF 1)=some (Uv f.src)/\V.cell? (Pv BF 2)=some (.bool f.tagged)/\V.cell? (Pv BF 3)=some (Iv f.prio)/\V.cell? (Pv BF 4)=some (.bool f.drop)/\V.cell? (Pv BF 5)=some (Iv f.vid)/\V.cell? (Pv BF 6)=some (Iv f.type)/\V.cell? (Pv BF 7)=some (.slice f.ao f.n f.cap)):=λV hV=>a0U (bb.below hV).f;have bB:B<=an:=hbk.row.1;have aC:Hid (Bl w X):=bX;clear dv aL bf hbk bW hd bt bF hs b0 b1 s0 g0 g1 g2 g3 bb bX;rw[HX.o,b9.o,cq.o] at x0 x1;simp only[Pl.Net.val];unfold frA;go_enter func11,ntmps11;(go_wp2_with fail);rw[<-b9.o,<-HX.o,<-cs.o,<-dr.o,<-df.o,<-cq.o];refine c5.o.mono ?_;rintro e w1 ⟨rfl,H1⟩;clear x0 x1 c5;obtain⟨V1,aK⟩:=nm (w1.alloc (.cells #[Iv n.wrong.1,Iv n.wrong.2] 37))
 have bK:Bl X V1:=(by rw[aK.o];exact H1.o.alloc H1.o.size _)
 obtain⟨f0,f1⟩:=tC2 (show V1.heap[w1.heap.size]?=some (.cells #[Iv n.wrong.1,Iv n.wrong.2] 37) by rw[aK.o];exact a9Z _ _);have am:Hid (SR w V1 RF):=(bh.o V1 bK).r;by_cases q:n.wrong.1=0
 ·have R:=cI.o q;have HR:Hid n.Right:=R;have d9:=R.few;have c6:Hid (Calls prog 32 #[.agg #[.slice n.bao n.K n.bcap,.slice n.lao n.L n.lcap],.agg #[.slice oao t.length ocap]] V1 λe w'=>e=.returned (.bool (fitT n t))/\Hid (Bl X w')):=cB.o R V1 bK;have ck:Hid (sErr n t B aa vid f=if fitT n t=false then(8,0) else(a1I n t.length B aa vid f,0)):=(by rw[co.o,iN (λz=>z q)];rfl)
  obtain⟨⟨c0,c1⟩,c2⟩:=a8.o V1 bK;rw[aK.o] at f0 f1 c0 c1 c2;clear cB R co cI am;rw[q] at f0 f1 c0 c1 c2 aK ⊢;clear q;(go_wp2_with fail);rw[<-aK.o];refine c6.o.mono ?_;rintro e w2 ⟨rfl,H2⟩;clear c6 f0 f1 c0 c1 c2 bK aK V1 H1;obtain⟨⟨c0,c1⟩,c2⟩:=a8.o w2 H2.o;have am:Hid (SR w w2 RF):=(bh.o w2 H2.o).r;cases hft:fitT n t with
  | false =>
   have HE:Hid (∀W,Bl w W->a2R w n t vid f B ac aa (.returned (.tuple #[sN,sN,.bool false,.agg #[Iv 8,Iv 0]])) W):=al.o 8 0 (by rw[ck.o,iP hft]) dd;clear ck hft al;(go_wp2_with fail);refine(ad.o _ 8 0 am.o).mono ?_;rintro e W1 ⟨rfl,ab⟩;obtain⟨y0,y1⟩:=tC2 ab.o.1;have y2:=lF0 ab.o.1 0;have y3:=lF0 ab.o.1 1;(go_wp2_with fail);exact b0b (v:=.tuple #[sN,sN,.bool false,.agg #[Iv 8,Iv 0]]) (a0n (p:=15) (ty:=37) results11 _ _ RF 37 #[Iv 8,Iv 0] (0,0) _ rfl (a0i ab.o.1) underlying37 rfl (by rw[a0q];rfl)) rfl (HE.o _ ((ab.o.2.setCell ae.o _).setCell ae.o _))
  | true =>
   have ed:Hid (fitT n t=true):=hft;have ee:t.length<=4:=dx.o hft;have aw:Hid (sErr n t B aa vid f=(a1I n t.length B aa vid f,0)):=(by rw[ck.o,iN (by rw[hft];exact Bool.noConfusion)];rfl)
   clear ck hft dx;by_cases c1':B≠n.K
   ·have HE:Hid (∀W,Bl w W->a2R w n t vid f B ac aa (.returned (.tuple #[sN,sN,.bool false,.agg #[Iv 8,Iv 0]])) W):=al.o 8 0 (by rw[aw.o];unfold a1I;rw[iP c1']) dd;have z1:(B:Int)≠(n.K:Int):=om
    have z2:((B:Int) != (n.K:Int))=true:=(by simp;omega)
    clear aw al c1';(go_wp2_with fail);refine(ad.o _ 8 0 am.o).mono ?_;rintro e W1 ⟨rfl,ab⟩;obtain⟨y0,y1⟩:=tC2 ab.o.1;have y2:=lF0 ab.o.1 0;have y3:=lF0 ab.o.1 1;(go_wp2_with fail);exact b0b (v:=.tuple #[sN,sN,.bool false,.agg #[Iv 8,Iv 0]]) (a0n (p:=15) (ty:=37) results11 _ _ RF 37 #[Iv 8,Iv 0] (0,0) _ rfl (a0i ab.o.1) underlying37 rfl (by rw[a0q];rfl)) rfl (HE.o _ ((ab.o.2.setCell ae.o _).setCell ae.o _))
   ·obtain rfl:B=n.K:=om
    have z2:((n.K:Int) != (n.K:Int))=false:=(by simp)
    by_cases k2:0<=aa/\aa<=(n.K:Int)-1
    ·by_cases k3:1<=vid/\vid<=4094
     ·cases htg:f.tagged with
      | true =>
       have HE:Hid (∀W,Bl w W->a2R w n t vid f n.K ac aa (.returned (.tuple #[sN,sN,.bool false,.agg #[Iv 1,Iv 0]])) W):=al.o 1 0 (by rw[aw.o];unfold a1I;rw[iN c1',iN (λz=>z k2),iN (λz=>z k3),iP htg]) dd;obtain⟨d0,d1,d2,d3,d4,d5,d6,d7⟩:=ax.o w2 H2.o;rw[htg] at d2;obtain⟨c7,dk⟩:=k2;obtain⟨dZ,ea⟩:=k3;have i1:¬aa<0:=om
       have i2:¬aa>=(n.K:Int):=om
       have i3:¬vid<1:=om
       have i4:¬vid > 4094:=om
       clear aw al c1' htg;(go_wp2_with fail);refine(ad.o _ 1 0 am.o).mono ?_;rintro e W1 ⟨rfl,ab⟩;obtain⟨y0,y1⟩:=tC2 ab.o.1;have y2:=lF0 ab.o.1 0;have y3:=lF0 ab.o.1 1;(go_wp2_with fail);exact b0b (v:=.tuple #[sN,sN,.bool false,.agg #[Iv 1,Iv 0]]) (a0n (p:=15) (ty:=37) results11 _ _ RF 37 #[Iv 1,Iv 0] (0,0) _ rfl (a0i ab.o.1) underlying37 rfl (by rw[a0q];rfl)) rfl (HE.o _ ((ab.o.2.setCell ae.o _).setCell ae.o _))
      | false =>
       have aU:a1I n t.length n.K aa vid f=if wrong f.dst f.src f.tagged f.prio f.vid f.type f.n≠0 then wrong f.dst f.src f.tagged f.prio f.vid f.type f.n else if a1X n vid t.length=true then 5 else 0:=(by unfold a1I;rw[iN c1',iN (λz=>z k2),iN (λz=>z k3),iN (by rw[htg];exact Bool.noConfusion)])
       have aF:Hid (Calls prog 33 #[.agg #[Uv f.dst,Uv f.src,.bool f.tagged,Iv f.prio,.bool f.drop,Iv f.vid,Iv f.type,.slice f.ao f.n f.cap]] w2 λe w'=>e=.returned (Iv (wrong f.dst f.src f.tagged f.prio f.vid f.type f.n))/\Hid (Bl X w')):=cT.o w2 H2.o;obtain⟨wf,bq⟩:∃x,x=wrong f.dst f.src f.tagged f.prio f.vid f.type f.n:=⟨_,rfl⟩
       rw[<-bq] at aU aF;have aB:Hid (sErr n t n.K aa vid f=(if wf≠0 then wf else if a1X n vid t.length=true then 5 else 0,0)):=(by rw[aw.o,aU];rfl)
       obtain⟨d0,d1,d2,d3,d4,d5,d6,d7⟩:=ax.o w2 H2.o;have di:Hid (f.tagged=false):=htg;have c8:=d2;rw[htg] at c8;obtain⟨i0,dK⟩:∃i0:Nat,aa=(i0:Int):=⟨aa.toNat,om⟩
       subst dK;obtain⟨c7,dk⟩:=k2;obtain⟨dZ,ea⟩:=k3;have dV:i0<n.K:=om
       have i1:¬(i0:Int)<0:=om
       have i2:¬(i0:Int)>=(n.K:Int):=om
       have i3:¬vid<1:=om
       have i4:¬vid > 4094:=om
       clear aw aU bq c1' cT;rw[htg] at aF d2 ax;(go_wp2_with fail);refine aF.o.mono ?_;rintro e w3 ⟨rfl,H3⟩;clear aF d0 d1 d2 c8 d3 d4 d5 d6 d7 c0 c1 c2 am H2;have am:Hid (SR w w3 RF):=(bh.o w3 H3.o).r;obtain⟨⟨c0,c1⟩,c2⟩:=a8.o w3 H3.o;by_cases hw0:wf=0
       ·subst hw0;have cd:Hid (sErr n t n.K (i0:Int) vid f=(if a1X n vid t.length=true then 5 else 0,0)):=(by rw[aB.o,iN (λz=>z rfl)];rfl)
        clear aB;(go_wp2_with fail);go_loopw [119] (λi wr=>∃k:Nat,k<=n.K/\i=Iv k/\Hid (∀j,j<k->a1z (n.bs j) vid t.length=false)/\Hid (Bl X wr)) (λi _=>n.K-(intOf i).toNat)
        case atStart=>exact⟨0,om,rfl,(λj hj=>absurd hj om),H3⟩
        case round =>
         clear c0 c1 c2 am H3 w3;obtain⟨k,hk,rfl,hS,hB⟩:=hrel;by_cases hlt:k<n.K
         ·as_aux_lemma =>
          have hr:=(bw.o.1.below (a0c aC.o hB.o)).brs;obtain⟨b,off,eb,_⟩:=CRow.some hr om;rw[eb] at hr ⊢;obtain⟨a0,a1,a2,a3,a4⟩:=BRow.cells hr hlt;have ik:(0:Int)<=(k:Int):=om
          have nk:(k:Int)<(n.K:Int):=om
          obtain⟨Y,HY⟩:=nm (wr.alloc (.cells #[Uv (n.bs k).addr,.slice (n.bs k).pao (n.bs k).pn (n.bs k).pcap,.string (n.bs k).reg.s,Iv (n.bs k).reg.rev,.slice (n.bs k).reg.ao (n.bs k).reg.n (n.bs k).reg.cap] 65))
          have dq:Bl wr Y:=(by rw[HY.o];exact bA1 _ _)
          have cU:Y.heap[wr.heap.size]?=some (.cells #[Uv (n.bs k).addr,.slice (n.bs k).pao (n.bs k).pn (n.bs k).pcap,.string (n.bs k).reg.s,Iv (n.bs k).reg.rev,.slice (n.bs k).reg.ao (n.bs k).reg.n (n.bs k).reg.cap] 65):=(by rw[HY.o];exact a9Z _ _)
          have b8:Bl X Y:=a0c hB.o dq;have aI:Hid (∀V,Bl Y V->V.cell? (Pv wr.heap.size 2)=some (.string (n.bs k).reg.s)/\V.cell? (Pv wr.heap.size 3)=some (Iv (n.bs k).reg.rev)/\V.cell? (Pv wr.heap.size 4)=some (.slice (n.bs k).reg.ao (n.bs k).reg.n (n.bs k).reg.cap)/\V.cell? (Pv BT 0)=some (.slice oao t.length ocap)):=λV hV=>by
           have h1:=keep cU hV;exact⟨a9Y _ _ 2 _ _ _ h1,a9Y _ _ 3 _ _ _ h1,a9Y _ _ 4 _ _ _ h1,(a8.o V (a0c b8 hV)).2⟩
          have dC:Hid (∀V,Bl Y V->Calls prog 34 #[.agg #[.string (n.bs k).reg.s,Iv (n.bs k).reg.rev,.slice (n.bs k).reg.ao (n.bs k).reg.n (n.bs k).reg.cap],Iv vid] V λe w'=>e=.returned (Iv (Rg.tree (n.bs k).reg.vs (n.bs k).reg.ts vid (n.bs k).reg.n))/\Hid (Bl Y w')):=λV hV=>by
           have h:=a3T (n.bs k).reg.s (n.bs k).reg.rev (n.bs k).reg.ao (n.bs k).reg.n (n.bs k).reg.cap (n.bs k).reg.vs (n.bs k).reg.ts vid V (HR.o.fine k hlt).reg.2.2 (((bw.o.1.below (a0c aC.o (a0c b8 hV))).each k hlt).2.1);exact h.mono (λe w' h=>⟨h.1,a0c hV h.2⟩)
          have dP:Hid (∀d,d=a1z (n.bs k) vid t.length->d=true->sErr n t n.K (i0:Int) vid f=(5,0)):=λd h1 h2=>by
           have h3:a1X n vid t.length=true:=by
            unfold a1X;exact b0k ⟨k,hlt,by rw[<-h1];exact h2⟩
           rw[cd.o,iP h3]
          have dX:Hid (a1z (n.bs k) vid t.length=false->∀j,j<k+1->a1z (n.bs j) vid t.length=false):=λh j hj=>by
           by_cases e:j=k
           ·subst e;exact h
           ·exact hS.o j om
          have bA:Hid (a1z (n.bs k) vid t.length=decide ((t.length:Int)<=Rg.tree (n.bs k).reg.vs (n.bs k).reg.ts vid (n.bs k).reg.n)):=rfl;have dw:Hid (∀V,Bl Y V->Bl X V):=λV hV=>a0c b8 hV;clear hr hS hB dq cU b8 cd bi ax;generalize Rg.tree (n.bs k).reg.vs (n.bs k).reg.ts vid (n.bs k).reg.n=tr at *;generalize a1z (n.bs k) vid t.length=sd at *;generalize n.bs k=bk at *;obtain⟨bad,ev,eD,eB,et,⟨rs,ay,cm,rn,aH,ez,ex⟩⟩:=bk;simp only at *;(go_upto_region 19 with fail);rw[<-HY.o];clear a0 a1 a2 a3 a4;have em:Hid (Bl Y Y.drew):=b0i (b0h _ _);by_cases htt:(t.length:Int)<=tr
          ·have dO:decide (tr>=(t.length:Int))=true:=b0k htt;go_region_held3 (λW=>W.cell? (Pv wr.heap.size 2)=some (.string rs)/\W.cell? (Pv wr.heap.size 3)=some (Iv ay)/\W.cell? (Pv wr.heap.size 4)=some (.slice cm rn aH)/\W.cell? (Pv BT 0)=some (.slice oao t.length ocap))
            (first | (exact aI.o _ (Hid.o aS)) | (exact aI.o _ (b0i (Hid.o aS))))
            (first | (go_at_call 34;(with_reducible refine(dC.o _ (by first | exact(Hid.o aS) | exact b0i (Hid.o aS))).mono ?_);rintro e w5 ⟨rfl,bj⟩) | fail)
           all_goals have am:Hid (SR w w5 RF):=(bh.o w5 (dw.o w5 bj.o)).r
           all_goals have HE:Hid (∀W,Bl w W->a2R w n t vid f n.K ac (i0:Int) (.returned (.tuple #[sN,sN,.bool false,.agg #[Iv 5,Iv 0]])) W):=al.o 5 0 (dP.o _ rfl (by rw[bA.o];exact b0k htt)) dd
           (all_goals go_wp2_with fail);all_goals refine(ad.o _ 5 0 am.o).mono ?_
           all_goals rintro e W1 ⟨rfl,ab⟩
           all_goals obtain⟨y0,y1⟩:=tC2 ab.o.1
           all_goals have y2:=lF0 ab.o.1 0
           all_goals have y3:=lF0 ab.o.1 1
           (all_goals go_wp2_with fail);all_goals exact b0b (v:=.tuple #[sN,sN,.bool false,.agg #[Iv 5,Iv 0]]) (a0n (p:=15) (ty:=37) results11 _ _ RF 37 #[Iv 5,Iv 0] (0,0) _ rfl (a0i ab.o.1) underlying37 rfl (by rw[a0q];rfl)) rfl (HE.o _ ((ab.o.2.setCell ae.o _).setCell ae.o _))
          ·have dO:decide (tr>=(t.length:Int))=false:=b0j htt;have dG:Hid (∀j,j<k+1->a1z (n.bs j) vid t.length=false):=dX.o (by rw[bA.o];exact b0j htt);go_region_held3 (λW=>W.cell? (Pv wr.heap.size 2)=some (.string rs)/\W.cell? (Pv wr.heap.size 3)=some (Iv ay)/\W.cell? (Pv wr.heap.size 4)=some (.slice cm rn aH)/\W.cell? (Pv BT 0)=some (.slice oao t.length ocap))
            (first | (exact aI.o _ (Hid.o aS)) | (exact aI.o _ (b0i (Hid.o aS))))
            (first | (go_at_call 34;(with_reducible refine(dC.o _ (by first | exact(Hid.o aS) | exact b0i (Hid.o aS))).mono ?_);rintro e w5 ⟨rfl,bj⟩) | fail)
           (all_goals go_wp2_with fail);all_goals exact⟨⟨k+1,om,gn,dG,dw.o _ bj.o⟩,io⟩
         ·obtain rfl:k=n.K:=om
          have cy:Hid (sErr n t n.K (i0:Int) vid f=(0,0)):=by
           have h3:a1X n vid t.length≠true:=λh=>by
            unfold a1X at h;obtain⟨j,hj,e⟩:=b0o h;rw[hS.o j hj] at e;cases e
           rw[cd.o,iN h3];rfl
          clear hS cd bi al;obtain⟨aL,bf,hbk,bW,hd,bt,bF,hs⟩:=bw.o;have bu:=a0c aC.o hB.o;obtain⟨gk,kc,W2,bn,bI,bv⟩:=cp_bk (CRow.below hbk.row bu) bW om (by omega:0<n.K);have dD:Hid ((Builtin.append_ #[27,27] 27 #[.slice (some (Pv wr.heap.size 0)) 0 0,.slice ko n.K an]).run prog (wr.alloc (.cells #[] 67))=.ok (.slice (some (Pv gk 0)) n.K kc) W2):=bn;have cA:=a0c hB.o bv;obtain⟨W3,cc⟩:=nm (W2.alloc (.cells #[Iv i0,Iv 0,Uv f.dst,Uv f.src,.bool false,Iv f.prio,.bool f.drop,Iv f.vid,Iv f.type,.slice f.ao f.n f.cap] 90))
          have bY:Bl W2 W3:=(by rw[cc.o];exact bA1 _ _)
          have g3:W3.heap[W2.heap.size]?=some (.cells (aA f ⟨i0,⟨⟨0,f.tagged,f.prio,f.drop,f.vid⟩,f.ao,f.cap⟩⟩) 90):=by
           rw[cc.o];unfold aA;simp only;rw[di.o];exact a9Z _ _
          have cj:=bh.o W3 (a0c cA bY);have bO:w.heap.size<=W2.heap.size:=b0p bu.size bv.size;obtain⟨s0,aM⟩:=nn (⟨[],[(i0,⟨0,f.tagged,f.prio,f.drop,f.vid⟩)],ac,0⟩:Ln.Cs)
          have aE:Hid (∀i,i<n.K->BEL w (bo i) (bc i) (ac i)/\a0s (bo i) (ac i).length (bc i)):=λi hi=>⟨(hbk.each i hi).1,(hbk.each i hi).2.1⟩
          have cJ:Hid (∃s ss ws av au,Cq n t vid f s0 s 0 ss ws/\DM w W3 BN BT RF n oao ocap t.length f ac bo bc gk kc s.books av au none 0 ss W2.heap.size 0 1 ws/\0=ss.length/\1=ws.length):=by
           refine⟨s0,[],[⟨i0,⟨⟨0,f.tagged,f.prio,f.drop,f.vid⟩,f.ao,f.cap⟩⟩],bo,bc,⟨rfl,by rw[aM],by rw[aM];rfl,by rw[aM];rfl,by simp,by simp,λx hx => ?_⟩,⟨a0c bu (bv.trans (bY.mono bv.size)),cj.n,cj.t,cj.r.1,a0y _ _ _ _ _,QDt.one g3 bO,λx hx=>by simp at hx,λx hx => ?_,?_,λi hi => ?_⟩,rfl,rfl⟩
           ·rw[aM] at hx;have e:x=(i0,⟨0,f.tagged,f.prio,f.drop,f.vid⟩):=(by simpa using hx)
            rw[e];exact dV
           ·have e:x=⟨i0,⟨⟨0,f.tagged,f.prio,f.drop,f.vid⟩,f.ao,f.cap⟩⟩:=(by simpa using hx)
            rw[e];exact⟨rfl,rfl⟩
           ·rw[aM];exact a0h (a0v bI bu.size) bY
           ·rw[aM];refine⟨Or.inl ⟨rfl,rfl,rfl⟩,?_⟩;have h8:=(hbk.each i hi).2.2;show(ac i).length<=_;omega
          obtain⟨RR,aV⟩:=nn (sent n t vid f ac i0)
          have bC:Hid (Ln.carry n t vid f 41 s0=RR):=(by rw[aM,aV];rfl)
          have eI:((i0:Int)).toNat=i0:=rfl;have bV:Hid (∀W e,Bl w W->¬(RR.err=0/\RR.wait=[])->e=RR.err->a2R w n t vid f n.K ac (i0:Int) (.returned (.tuple #[sN,sN,.bool false,.agg #[Iv e,Iv 0]])) W):=λW e hW h he=>⟨hW,Or.inr ⟨by rw[cy.o],Or.inl ⟨by rw[eI,<-aV];exact h,by rw[eI,<-aV,he]⟩⟩⟩
          have ce:Hid (∀W so sc (ss:List AV) b7 cb av au,Bl w W->RR.err=0->RR.wait=[]->RdIs W n.K f RR so sc ss b7 cb av au->a2R w n t vid f n.K ac (i0:Int) (.returned (.tuple #[.slice so ss.length sc,.slice b7 n.K cb,.bool true,.agg #[Iv 0,Iv 0]])) W):=λW so sc ss b7 cb av au hW h1 h2 h3=>⟨hW,Or.inr ⟨by rw[cy.o],Or.inr ⟨by rw[eI,<-aV];exact h1,by rw[eI,<-aV];exact h2,so,sc,ss,b7,cb,av,au,rfl,by rw[eI,<-aV];exact h3⟩⟩⟩
          have ba:Hid (∀W,Bl w W->n.at' W/\TrRow W oao ocap t/\ByteRow W f.ao f.n f.cap f.bs):=λW hW=>⟨aL.below hW,bf.below hW,hd.below hW⟩
          have bp:Hid (a0s f.ao f.n f.cap/\(0<=f.dst/\f.dst<18446744073709551616)/\(0<=f.src/\f.src<18446744073709551616)):=⟨bt,bF,hs⟩
          obtain⟨d0,d1,d2,d3,d4,d5,d6,d7⟩:=ax.o W2 cA;obtain⟨g0,cu⟩:=nm W2.heap.size
          rw[<-cu.o] at cJ;clear aL bf hbk bW hd bt bF hs bu bn bI bv cA bY g3 cj bO aM aV eI ax a8 bh bw aC hB bB z2 i1 i2 i3 i4 di cy;go_wp2_with (at_builtin;refine a0a rfl (.tmp 138) (.tmp 139) 27 rfl _ _ _ rfl rfl dD.o ?_;clear dD)
          rw[<-cc.o,<-cu.o];clear d0 d1 d2 d3 d4 d5 d6 d7 cu cc;go_loopw [21,22,23] (λdL dI dM wx=>∃(c:Nat) (so:OA) (sn sc g off qn cap:Nat),c<=41/\dL=.slice so sn sc/\dI=.slice (some (Pv g off)) qn cap/\dM=Iv c/\Hid (∃s ss ws av au,Cq n t vid f s0 s c ss ws/\DM w wx BN BT RF n oao ocap t.length f ac bo bc gk kc s.books av au so sc ss g off cap ws/\sn=ss.length/\qn=ws.length)) (λ_ _ i _=>41-(intOf i).toNat)
          case atStart=>exact⟨0,none,0,0,g0,0,1,1,om,rfl,rfl,rfl,cJ⟩
          case round =>
           clear cJ;obtain⟨c,so,sn,sc,g,off,qn,cap,hc,rfl,rfl,rfl,hX⟩:=hrel;by_cases hq:0<qn
           ·by_cases hc2:c<=40
            ·skip
             obtain⟨s,ss,ws,aq,ap,ak,af,rfl,rfl⟩:=hX.o;obtain⟨x,rest,rfl⟩:∃x rest,ws=x :: rest:=by
              cases ws with
              | nil=>simp at hq
              | cons x rest=>exact⟨x,rest,rfl⟩
             obtain⟨dp,db⟩:=af.dW x (b0m ..);obtain⟨xi,⟨⟨xp,xt,xr,xd,xv⟩,xa,xc⟩⟩:=x;simp only at dp db;subst dp db;have aJ:xi<n.K:=ak.range (xi,⟨xp,xt,xr,xd,xv⟩) (by rw[<-ak.wait];exact b0m ..);have d8:=af.q.lt;have eu:rest.length+1<=cap:=af.q.2.1;have dE:=ak.lenW;have ew:=ak.lenS;simp only[List.length_cons] at dE;have q0:wr.cell? (Pv g off)=some (Iv xi):=af.q.cell (i:=0) (by simp) (j:=0) om;have q1:wr.cell? (Pv g (off+1))=some (Iv xp):=af.q.cell (i:=0) (by simp) (j:=1) om;have q2:wr.cell? (Pv g (off+2))=some (Uv f.dst):=af.q.cell (i:=0) (by simp) (j:=2) om;have q3:wr.cell? (Pv g (off+3))=some (Uv f.src):=af.q.cell (i:=0) (by simp) (j:=3) om;have q4:wr.cell? (Pv g (off+4))=some (.bool xt):=af.q.cell (i:=0) (by simp) (j:=4) om;have q5:wr.cell? (Pv g (off+5))=some (Iv xr):=af.q.cell (i:=0) (by simp) (j:=5) om;have q6:wr.cell? (Pv g (off+6))=some (.bool xd):=af.q.cell (i:=0) (by simp) (j:=6) om;have q7:wr.cell? (Pv g (off+7))=some (Iv xv):=af.q.cell (i:=0) (by simp) (j:=7) om;have q8:wr.cell? (Pv g (off+8))=some (Iv f.type):=af.q.cell (i:=0) (by simp) (j:=8) om;have q9:wr.cell? (Pv g (off+9))=some (.slice f.ao f.n f.cap):=af.q.cell (i:=0) (by simp) (j:=9) om;obtain⟨X1,bL⟩:=nm (wr.alloc (.cells #[Iv xi,Iv xp,Uv f.dst,Uv f.src,.bool xt,Iv xr,.bool xd,Iv xv,Iv f.type,.slice f.ao f.n f.cap] 90))
             have du:Bl wr X1:=(by rw[bL.o];exact bA1 _ _)
             have ca:X1.heap[wr.heap.size]?=some (.cells #[Iv xi,Iv xp,Uv f.dst,Uv f.src,.bool xt,Iv xr,.bool xd,Iv xv,Iv f.type,.slice f.ao f.n f.cap] 90):=(by rw[bL.o];exact a9Z _ _)
             have dU:X1.heap.size=wr.heap.size+1:=(by rw[bL.o];simp)
             obtain⟨BX,cl⟩:=nm wr.heap.size
             rw[<-cl.o] at ca;obtain⟨ah,cw,cS⟩:∃ah,(cap=1->ah=off)/\(cap≠1->ah=off+10):=⟨if cap=1 then off else off+10,λe=>iP e,λe=>iN e⟩
             have cr:DM w X1 BN BT RF n oao ocap t.length f ac bo bc gk kc s.books aq ap so sc ss g ah (cap-1) rest:=(af.below du).tail1 cw cS;have b4:Hid (DM w X1 BN BT RF n oao ocap t.length f ac bo bc gk kc s.books aq ap so sc ss g ah (cap-1) rest):=cr;have dc:Hid (g<X1.heap.size/\g≠BX/\BX<X1.heap.size):=⟨om,by rw[cl.o];omega,by rw[cl.o];omega⟩
             have bJ:Hid (X1.heap[BX]?=some (.cells #[Iv xi,Iv xp,Uv f.dst,Uv f.src,.bool xt,Iv xr,.bool xd,Iv xv,Iv f.type,.slice f.ao f.n f.cap] 90)):=ca;have cC:Hid (∀V,Bl X1 V->(V.cell? (Pv BN 0)=some (.slice n.bao n.K n.bcap)/\V.cell? (Pv BN 1)=some (.slice n.lao n.L n.lcap))/\V.cell? (Pv BT 0)=some (.slice oao t.length ocap)/\(V.cell? (Pv BX 0)=some (Iv xi)/\V.cell? (Pv BX 1)=some (Iv xp)/\V.cell? (Pv BX 2)=some (Uv f.dst)/\V.cell? (Pv BX 3)=some (Uv f.src)/\V.cell? (Pv BX 4)=some (.bool xt)/\V.cell? (Pv BX 5)=some (Iv xr)/\V.cell? (Pv BX 6)=some (.bool xd)/\V.cell? (Pv BX 7)=some (Iv xv)/\V.cell? (Pv BX 8)=some (Iv f.type)/\V.cell? (Pv BX 9)=some (.slice f.ao f.n f.cap))):=λV hV=>by
              have h1:=cr.below hV;have h2:=keep ca hV;exact⟨tC2 h1.bxN,a0x h1.bxT,a9Y _ _ 0 _ _ _ h2,a9Y _ _ 1 _ _ _ h2,a9Y _ _ 2 _ _ _ h2,a9Y _ _ 3 _ _ _ h2,a9Y _ _ 4 _ _ _ h2,a9Y _ _ 5 _ _ _ h2,a9Y _ _ 6 _ _ _ h2,a9Y _ _ 7 _ _ _ h2,a9Y _ _ 8 _ _ _ h2,a9Y _ _ 9 _ _ _ h2⟩
             have ci:Hid (Cq n t vid f s0 s c ss (⟨xi,⟨⟨xp,xt,xr,xd,xv⟩,f.ao,f.cap⟩⟩ :: rest)):=ak;obtain⟨res,bD⟩:=nn (Ln.rl n t vid f s.books xi ⟨xp,xt,xr,xd,xv⟩)
             have aj:Hid (res=Ln.rl n t vid f s.books xi ⟨xp,xt,xr,xd,xv⟩):=bD;clear ak af cr du ca hX bD dU d8;simp only[List.length_cons] at *;(go_upto_region 31 with fail);rw[<-bL.o];go_cut [22] (λv wx=>v=.slice (some (Pv g ah)) rest.length (cap-1)/\Hid (wx=X1))
             case first =>
              by_cases hcp:cap=1
              ·have e1:=cw hcp;subst hcp e1;have en:rest.length=0:=om
               (go_wp2_with fail);go_meet
               exact⟨by rw[en],rfl⟩
              ·have e1:=cS hcp;subst e1;have ef:1<cap:=om
               (go_wp2_with fail);go_meet
               exact⟨rfl,rfl⟩
             case rest =>
             obtain⟨rfl,cZ⟩:=hcut;rw[cZ.o];clear cZ;clear q0 q1 q2 q3 q4 q5 q6 q7 q8 q9 bL cw cS;rw[<-cl.o];obtain⟨X2,bM⟩:=nm (X1.alloc (.cells #[Iv 0] 3))
             have bz:Bl X1 X2:=(by rw[bM.o];exact bA1 _ _)
             have cY:X2.heap[X1.heap.size]?=some (.cells #[Iv 0] 3):=(by rw[bM.o];exact a9Z _ _)
             obtain⟨P,hP⟩:=nn ((0:Int) :: n.pts xi)
             obtain⟨PL,cx⟩:=nn (1+(n.pts xi).length)
             have aX:Hid (P=(0:Int) :: n.pts xi/\PL=P.length):=⟨hP,by rw[hP,cx];simp;omega⟩
             have aR:PL<=31/\1<=PL:=(by have:=a9P HR.o xi;omega)
             have c3:Hid (Calls prog 35 #[.agg #[.slice n.bao n.K n.bcap,.slice n.lao n.L n.lcap],Iv xi] X2 λe w'=>∃(pa:OA) (pn pc:Nat),e=.returned (.slice pa pn pc)/\Hid (∃a1 c1 w2,(Builtin.append_ #[52,52] 52 #[.slice (some (Pv X1.heap.size 0)) 1 1,.slice pa pn pc]).run prog w'=.ok (.slice a1 PL c1) w2/\ILs w2 a1 c1 P/\Bl X1 w2)):=by
              obtain⟨k1,_,_⟩:=ba.o X2 (a0c b4.o.low bz);refine(a4X n xi X2 k1 HR.o.fewL HR.o.links).mono ?_;rintro e w' ⟨pa,pc,rfl,h1,h2,h3,h4,_⟩;refine⟨pa,_,pc,rfl,?_⟩;have h5:X2.ownsRow X1.heap.size 3 1 (.slice (some (Pv X1.heap.size 0)) 1 1) 1 (a0f 1 1 (λ_ _=>Iv 0)):=a1H (sp:=#[]) (b0g _) (b0g _) (by unfold maxLen;omega) rfl (by exact cY);obtain⟨a1,c1,w2,r,i,b⟩:=a9Q (a0h h5 h4) h1 h2 (by have:=a9P HR.o xi;omega) (by have:=bz.size;have:=h4.size;omega);rw[<-cx] at r;rw[<-hP] at i;exact⟨a1,c1,w2,r,i,(a0c bz h4).trans b⟩
             obtain⟨⟨c0,c1⟩,c2,x0,_⟩:=cC.o X2 bz;rw[bM.o] at c0 c1 c2 x0;clear bz cY hP cx;(go_wp2_with fail);rw[<-bM.o];refine c3.o.mono ?_;rintro e w3 ⟨pa,pn,pc,rfl,H3⟩;clear c3 c0 c1 c2 x0;obtain⟨a1,bN,W4,cV,b3,dj⟩:=H3.o;have dm:Hid ((Builtin.append_ #[52,52] 52 #[.slice (some (Pv X1.heap.size 0)) 1 1,.slice pa pn pc]).run prog w3=.ok (.slice a1 PL bN) W4):=cV;obtain⟨pb,cQ,rfl,eh⟩:=b3.place (by have:=aX.o.2;omega);have de:PL<=bN:=(by have:=b3.1;rw[<-aX.o.2] at this;exact this)
             have dh:Hid (∀V,Bl W4 V->∀k,k<PL->V.cell? (Pv pb (cQ+k))=some (Iv (P.getD k 0))):=λV hV k hk=>(b3.below hV).cell (by have:=aX.o.2;omega);have cN:Hid (Bl X1 W4):=dj;clear H3 cV b3 dj eh;go_wp2_with (at_builtin;refine a0a rfl (.tmp 158) (.tmp 162) 52 rfl _ _ _ rfl rfl dm.o ?_;clear dm)
             clear bM;refine zgates (xi:=xi) (oao:=oao) (ocap:=ocap) (λ_ _ d _ _ h=>by cases d<;>exact h) ee aX.o.2 aR.1 de (λV hV => ?_) ?_
             ·obtain⟨_,c2,x0,_⟩:=cC.o V (a0c cN.o hV);exact⟨⟨⟨c2,x0⟩,(ba.o V (a0c b4.o.low (a0c cN.o hV))).2.1⟩,λk hk=>dh.o V hV k hk⟩
             intro ga gm gc wq;intros
             rename_i hGL;obtain⟨gl,rfl,cR,c9,da⟩:=hGL;have bU:Hid (Bl X1 wq):=a0c cN.o da;have bl:=b4.o.below bU.o;have cG:gl.map Ln.face=((0:Int) :: n.pts xi).map (Ln.gf t (xi:Int) vid):=by
              rw[cR,aX.o.2,List.take_length,aX.o.1]
             have bE:gl.length<=31:=by
              have h1:=congrArg List.length cR;have h2:=aX.o.2;simp at h1;omega
             have bS:∀g∈gl,g.ways.length<=1000/\g.opens.length<=1000:=λg hg=>by
              have h1:Ln.face g∈gl.map Ln.face:=List.mem_map_of_mem hg;rw[cG] at h1;obtain⟨q,_,e⟩:=List.mem_map.1 h1;have e1:g.ways=[vid]:=(congrArg (λx=>x.2.2.1) e).symm;have e2:g.opens=(List.range t.length).map (a0Z t (xi:Int) q):=(congrArg (λx=>x.2.2.2) e).symm;rw[e1,e2];simp;omega
             obtain⟨dY,dH,eg,cM⟩:=c9.el om bS;injection eg with eg1 _ eg2;rw[<-eg1,<-eg2] at cM;obtain⟨k1,k2,k3⟩:=ba.o wq (a0c b4.o.low bU.o);obtain⟨_,e2,_,e4⟩:=k1.each xi aJ;obtain⟨c4,dl⟩:=bl.bel aE.o aJ;have dz:RelIn wq (rgR (n.bs xi)) ga gc gl (aq xi) (ap xi) (s.books xi) (Ln.frO f ⟨xp,xt,xr,xd,xv⟩):=⟨e2,e4,cM,c4,(bl.each xi aJ).2,dl,k3,bp.o.1,bp.o.2.1,bp.o.2.2⟩
             have cX:Rl.relay (rgR (n.bs xi)) gl (s.books xi) xp (Ln.frO f ⟨xp,xt,xr,xd,xv⟩)=res:=(by rw[aj.o];exact Ln.rl_face HR.o t vid f s.books xi ⟨xp,xt,xr,xd,xv⟩ cG)
             have br:Hid (∀W,Bl wq W->Calls prog 37 #[.agg #[.string (n.bs xi).reg.s,Iv (n.bs xi).reg.rev,.slice (n.bs xi).reg.ao (n.bs xi).reg.n (n.bs xi).reg.cap],.slice ga gl.length gc,.slice (aq xi) (s.books xi).length (ap xi),Iv xp,.agg #[Uv f.dst,Uv f.src,.bool xt,Iv xr,.bool xd,Iv xv,Iv f.type,.slice f.ao f.n f.cap]] W λe w'=>∃(oo:OA) (oc:Nat) (bG:OA) (bT:Nat),e=.returned (.tuple #[.slice oo res.out.length oc,.slice bG res.book.length bT,Iv res.err])/\Hid (Bl wq w')/\Hid (OwnR w' wq.heap.size (.slice oo res.out.length oc) f res.out/\BkD w' wq.heap.size (aq xi) (ap xi) (s.books xi) bG bT res.book)):=λW hW=>by
              have h:=a7Q (rgR (n.bs xi)) ga gc gl (aq xi) (ap xi) (s.books xi) xp (Ln.frO f ⟨xp,xt,xr,xd,xv⟩) W (dz.below hW);rw[cX] at h;refine h.mono ?_;rintro e w' ⟨oo,oc,os,b2,c2,rfl,h1,h2,h3,h4⟩;have el:os.length=res.out.length:=(by rw[<-h1.o,List.length_map])
              rw[h1.o,el] at h2;refine⟨oo,oc,b2,c2,by rw[el],a0c hW h1.low,h2.mono hW.size,?_⟩;rcases h4 with z | z
              ·exact Or.inl z
              ·exact Or.inr (z.mono hW.size)
             have cf:=k1.brs;obtain⟨aO,ai,cz,_⟩:=CRow.some cf om;rw[cz] at cf;have cp:Hid (DM w wq BN BT RF n oao ocap t.length f ac bo bc gk kc s.books aq ap so sc ss g ah (cap-1) rest):=bl;have aI:Hid (∀W,Bl wq W->W.cell? (Pv BN 0)=some (.slice (some (Pv aO ai)) n.K n.bcap)/\(W.cell? (Pv aO (ai+xi*5+2))=some (.string (n.bs xi).reg.s)/\W.cell? (Pv aO (ai+xi*5+2+1))=some (Iv (n.bs xi).reg.rev)/\W.cell? (Pv aO (ai+xi*5+2+2))=some (.slice (n.bs xi).reg.ao (n.bs xi).reg.n (n.bs xi).reg.cap))/\W.cell? (Pv gk xi)=some (.slice (aq xi) (s.books xi).length (ap xi))/\(W.cell? (Pv BX 0)=some (Iv xi)/\W.cell? (Pv BX 1)=some (Iv xp)/\W.cell? (Pv BX 2)=some (Uv f.dst)/\W.cell? (Pv BX 3)=some (Uv f.src)/\W.cell? (Pv BX 4)=some (.bool xt)/\W.cell? (Pv BX 5)=some (Iv xr)/\W.cell? (Pv BX 6)=some (.bool xd)/\W.cell? (Pv BX 7)=some (Iv xv)/\W.cell? (Pv BX 8)=some (Iv f.type)/\W.cell? (Pv BX 9)=some (.slice f.ao f.n f.cap))):=λW hW=>by
              obtain⟨⟨z1,_⟩,_,z3⟩:=cC.o W (a0c bU.o hW);obtain⟨_,_,a2,a3,a4⟩:=BRow.cells (CRow.below cf hW) aJ;obtain⟨dJ,dR,ek,cF,_⟩:=a0W om (bl.below hW).out;injection ek with ek _ _;obtain⟨b',o',e',_,cL⟩:=cF.2 om;rw[<-ek] at e';injection e' with e';injection e' with eb eo;have aY:=cL xi aJ 0 om;rw[<-eb,<-eo] at aY;simp only[Nat.zero_add,Nat.mul_one,Nat.add_zero] at aY;exact⟨by rw[<-cz];exact z1,⟨a2,a3,a4⟩,aY,z3⟩
             obtain⟨B5,bj⟩:=nm wq.heap.size
             have a6:Hid (res.book.length<=9223372036854775807):=(by rw[aj.o];exact a5w (bl.each xi aJ).2)
             have dF:Hid (BX<wq.heap.size):=b0q dc.o.2.2 bU.o.size;clear cR c9 da cG bE bS eg1 eg2 cM k1 k2 k3 e2 e4 c4 dl dz cX cf dh bl dY dH de aR cz;generalize (n.bs xi).reg.s=rs at *;generalize (n.bs xi).reg.rev=ay at *;generalize (n.bs xi).reg.ao=cm at *;generalize (n.bs xi).reg.n=rn at *;generalize (n.bs xi).reg.cap=aH at *;generalize hbka:aq xi=bka at *;generalize hbkn:(s.books xi).length=bkn at *;generalize hbkc:ap xi=bkc at *;have bZ:Hid (aq xi=bka/\ap xi=bkc):=⟨hbka,hbkc⟩
             clear hbka hbkn hbkc;generalize gl.length=gln at *;have em:Hid (Bl wq wq.drew):=b0i (b0h _ _);have ix:(0:Int)<=(xi:Int):=om
             have nx:(xi:Int)<(n.K:Int):=om
             (go_upto_region 46 with fail);go_region_held3 (λW=>W.cell? (Pv BN 0)=some (.slice (some (Pv aO ai)) n.K n.bcap)/\(W.cell? (Pv aO (ai+xi*5+2))=some (.string rs)/\W.cell? (Pv aO (ai+xi*5+2+1))=some (Iv ay)/\W.cell? (Pv aO (ai+xi*5+2+2))=some (.slice cm rn aH))/\W.cell? (Pv gk xi)=some (.slice bka bkn bkc)/\(W.cell? (Pv BX 0)=some (Iv xi)/\W.cell? (Pv BX 1)=some (Iv xp)/\W.cell? (Pv BX 2)=some (Uv f.dst)/\W.cell? (Pv BX 3)=some (Uv f.src)/\W.cell? (Pv BX 4)=some (.bool xt)/\W.cell? (Pv BX 5)=some (Iv xr)/\W.cell? (Pv BX 6)=some (.bool xd)/\W.cell? (Pv BX 7)=some (Iv xv)/\W.cell? (Pv BX 8)=some (Iv f.type)/\W.cell? (Pv BX 9)=some (.slice f.ao f.n f.cap)))
              (first | (exact aI.o _ (Hid.o aS)) | (exact aI.o _ (b0i (Hid.o aS))))
              (first | (go_at_call 37;(with_reducible refine(br.o _ (by first | exact(Hid.o aS) | exact b0i (Hid.o aS))).mono ?_);rintro e w5 ⟨oo,oc,bG,bT,rfl,b5,H5⟩) | fail)
             clear br aI;have b6:Hid (res.err≠0->RR.err=res.err):=λh=>by
              rw[aj.o] at h ⊢;rw[<-bC.o];exact ci.o.bad hc2 h
             by_cases her:res.err=0
             ·obtain⟨dB,ds⟩:=H5.o;have be:=b5.o;have aQ:=cp.o.below be;obtain⟨nb,cD⟩:∃nb:Nat->List E,nb=λj=>if j=xi then res.book else s.books j:=⟨_,rfl⟩
              obtain⟨a9,bP⟩:∃a9:Nat->OA,a9=λj=>if j=xi then bG else aq j:=⟨_,rfl⟩
              obtain⟨a7,bx⟩:∃a7:Nat->Nat,a7=λj=>if j=xi then bT else ap j:=⟨_,rfl⟩
              obtain⟨W6,bQ⟩:=nm (w5.setCell (Pv gk xi) (.slice bG res.book.length bT))
              have dQ:w.heap.size<=wq.heap.size:=cp.o.low.size;have dn:DM w W6 BN BT RF n oao ocap t.length f ac bo bc gk kc nb a9 a7 so sc ss g ah (cap-1) rest:=by
               rw[bQ.o,cD,bP,bx];refine aQ.book aJ ?_ a6.o;rw[bZ.o.1,bZ.o.2];rcases ds with z | z
               ·exact Or.inl z
               ·exact Or.inr (z.mono dQ)
              obtain⟨eE,aD⟩:=a0z aQ.o (q:=gk) rfl;have ag:=keep bJ.o (a0c bU.o be);have dy:BX≠gk:=λe=>by
               rw[e,aD] at ag;injection ag with ag;injection ag with _ ag;exact absurd ag dd
              obtain⟨OL,bd⟩:=nn res.out.length
              have ei:Hid (OL=res.out.length):=bd;have bm:OL<=31:=(by rw[bd,aj.o];exact Ln.out_few)
              have dA:Hid (LM w W6 BN BT RF n oao ocap t.length f ac bo bc gk kc nb a9 a7 so sc ss B5 (.slice oo OL oc) res.out [(BX,#[Iv xi,Iv xp,Uv f.dst,Uv f.src,.bool xt,Iv xr,.bool xd,Iv xv,Iv f.type,.slice f.ao f.n f.cap],90)] (psOf n (rest.map AV.p) xi res.out 0) g ah rest.length (cap-1)):=by
               refine⟨⟨rest,by unfold psOf;simp[Ln.waitOf],rfl,dn⟩,λy hy => ?_,?_⟩
               ·obtain rfl:y=(BX,#[Iv xi,Iv xp,Uv f.dst,Uv f.src,.bool xt,Iv xr,.bool xd,Iv xv,Iv f.type,.slice f.ao f.n f.cap],90):=by simpa using hy
                refine⟨?_,λe=>dc.o.2.1 e.symm,(by decide:(90:TypeId)≠54)⟩;rw[bQ.o];exact(b0f _ _ _ _ (by exact dy)).trans ag
               ·rw[bQ.o,bj.o,bd];exact(Ty.but aD (λq hq _=>b0f _ _ _ _ (by exact hq)) _ dd).owns dB
              have aN:Hid (∀(V:World) (cg:OA) (ch g' aG cO az ct:Nat),(∃bg,ct=bg.length/\Cj n c s.seen xi res.out OL bg/\LM w V BN BT RF n oao ocap t.length f ac bo bc gk kc nb a9 a7 cg ch bg B5 (.slice oo OL oc) res.out [(BX,#[Iv xi,Iv xp,Uv f.dst,Uv f.src,.bool xt,Iv xr,.bool xd,Iv xv,Iv f.type,.slice f.ao f.n f.cap],90)] (psOf n (rest.map AV.p) xi res.out OL) g' aG cO az)->∃s' a5 aT av au,Cq n t vid f s0 s' (c+1) a5 aT/\DM w V BN BT RF n oao ocap t.length f ac bo bc gk kc s'.books av au cg ch a5 g' aG az aT/\ct=a5.length/\cO=aT.length):=λV cg ch g' aG cO az ct hv=>by
               obtain⟨bg,e1,hcj,ej⟩:=hv;obtain⟨cW,e2,e3,dT⟩:=ej.ws;rw[bd] at hcj e2;have hER:(Ln.rl n t vid f s.books xi ⟨xp,xt,xr,xd,xv⟩).err=0:=(by rw[<-aj.o];exact her)
               have cP:res.out=(Ln.rl n t vid f s.books xi ⟨xp,xt,xr,xd,xv⟩).out:=(by rw[aj.o])
               rw[cP] at hcj e2;refine⟨_,bg,cW,a9,a7,ci.o.next hc2 HR.o hER hcj e2,?_,e1,e3⟩;have hbk:(Ln.step n t vid f s (xi,⟨xp,xt,xr,xd,xv⟩) (rest.map AV.p)).books=nb:=(by rw[cD,aj.o];rfl)
               show DM w V BN BT RF n oao ocap t.length f ac bo bc gk kc (Ln.step n t vid f s (xi,⟨xp,xt,xr,xd,xv⟩) (rest.map AV.p)).books a9 a7 cg ch bg g' aG az cW;rw[hbk];exact dT
              have bH:Hid (Cj n c s.seen xi res.out 0 ss):=⟨by rw[ci.o.seen];simp[Ln.seenOf],om⟩
              have fz:=lF0 aD xi;have dN:∃u,w5.cell? (Pv gk xi)=some u:=by
               obtain⟨dJ,dR,ek,cF,_⟩:=a0W om aQ.o;injection ek with ek _ _;obtain⟨b',o',e',_,cL⟩:=cF.2 om;rw[<-ek] at e';injection e' with e';injection e' with eb eo;have aY:=cL xi aJ 0 om;rw[<-eb,<-eo] at aY;simp only[Nat.zero_add,Nat.mul_one,Nat.add_zero] at aY;exact⟨_,aY⟩
              obtain⟨ep,cK⟩:=dN;have x5:w5.cell? (Pv BX 0)=some (Iv xi):=a9Y _ _ 0 _ _ _ ag;rw[<-bd];clear H5 b5 be dB ds aQ cD bP bx dn aD ag dy bd b6 bZ a6 cp bj bJ dF;rw[her];clear her;(go_wp2_with fail);rw[<-bQ.o];clear fz cK x5 bQ;refine zouts (f:=f) (c:=c) (se:=s.seen) (wa:=rest.map AV.p) HR.o hc2 (by rw[List.length_map];omega) ei.o bm (λV hV=>(ba.o V hV).1.lks) bH.o dA.o ?_;intro cv cH cE g1 aZ q1 aW wv;intros
              rename_i hJ;have HF:Hid (∃s' a5 aT av au,Cq n t vid f s0 s' (c+1) a5 aT/\DM w wv BN BT RF n oao ocap t.length f ac bo bc gk kc s'.books av au cv cE a5 g1 aZ aW aT/\cH=a5.length/\q1=aT.length):=aN.o wv cv cE g1 aZ q1 aW cH hJ;clear aN hJ dA bH;(go_wp2_with fail);exact⟨⟨c+1,cv,cH,cE,g1,aZ,q1,aW,om,rfl,rfl,gn,HF⟩,io⟩
             ·have be:=b5.o;have aQ:=cp.o.below be;have ec:Hid (SR w w5 RF):=⟨aQ.rF,aQ.low⟩
              have HE:Hid (∀W,Bl w W->a2R w n t vid f n.K ac (i0:Int) (.returned (.tuple #[sN,sN,.bool false,.agg #[Iv res.err,Iv 0]])) W):=λW hW=>bV.o W res.err hW (λz=>her (by rw[<-b6.o her];exact z.1)) (b6.o her).symm;have z3:(res.err != 0)=true:=(by simp[her])
              clear H5 b5 be aQ b6 her bV ce ci aj a6 bZ;generalize res.err=er at *;(go_wp2_with fail);refine(ad.o _ er 0 ec.o).mono ?_;rintro e W1 ⟨rfl,ab⟩;obtain⟨y0,y1⟩:=tC2 ab.o.1;have y2:=lF0 ab.o.1 0;have y3:=lF0 ab.o.1 1;(go_wp2_with fail);exact b0b (v:=.tuple #[sN,sN,.bool false,.agg #[Iv er,Iv 0]]) (a0n (p:=15) (ty:=37) results11 _ _ RF 37 #[Iv er,Iv 0] (0,0) _ rfl (a0i ab.o.1) underlying37 rfl (by rw[a0q];rfl)) rfl (HE.o _ ((ab.o.2.setCell ae.o _).setCell ae.o _))
            ·obtain rfl:c=41:=om
             obtain⟨s,ss,ws,aq,ap,ak,af,rfl,rfl⟩:=hX.o;have he:=ak.fin (Or.inl rfl);rw[bC.o] at he;have HE:Hid (∀W,Bl w W->a2R w n t vid f n.K ac (i0:Int) (.returned (.tuple #[sN,sN,.bool false,.agg #[Iv 0,Iv 0]])) W):=λW hW=>bV.o W 0 hW (λz=>by
              rw[he,<-ak.wait] at z;have:=congrArg List.length z.2;simp at this;rw[this] at hq;simp at hq) (by rw[he,ak.err])
             have ar:=af.rF;have bR:Hid (SR w wr RF):=⟨ar,af.low⟩
             obtain⟨y0,y1⟩:=tC2 ar;have y2:=lF0 ar 0;have y3:=lF0 ar 1;generalize ws.length=qn at *;generalize ss.length=sn at *;have ey:(0:Int)<(qn:Int):=om
             clear af ak hX he ar bV ce bC ba bp aE ad;(go_wp2_with fail);exact b0b (v:=.tuple #[sN,sN,.bool false,.agg #[Iv 0,Iv 0]]) (a0n (p:=15) (ty:=37) results11 _ _ RF 37 #[Iv 0,Iv 0] (0,0) _ rfl (a0i bR.o.1) underlying37 rfl (by rw[a0q];rfl)) rfl (HE.o _ ((bR.o.2.setCell ae.o _).setCell ae.o _))
           ·obtain⟨s,ss,ws,aq,ap,ak,af,rfl,rfl⟩:=hX.o;obtain rfl:ws=[]:=List.length_eq_zero_iff.1 om;have he:=ak.fin (Or.inr rfl);rw[bC.o] at he;have ar:=af.rF;have bR:Hid (SR w wr RF):=⟨ar,af.low⟩
            have HE:Hid (a2R w n t vid f n.K ac (i0:Int) (.returned (.tuple #[.slice so ss.length sc,.slice (some (Pv gk 0)) n.K kc,.bool true,.agg #[Iv 0,Iv 0]])) ((wr.setCell (Pv RF 0) (Iv 0)).setCell (Pv RF 1) (Iv 0))):=by
             have bO:=(bR.o.2.setCell (p:=⟨RF,0,none⟩) ae.o (Iv 0)).setCell (p:=⟨RF,1,none⟩) ae.o (Iv 0);obtain⟨k1,k2,k3⟩:=af.fin aE.o bO (a9S ar);refine ce.o _ so sc ss _ kc aq ap bO (by rw[he,ak.err]) (by rw[he,<-ak.wait];rfl) ⟨?_,k1,af.dS,?_,?_⟩
             ·rw[he,ak.seen]
             ·rw[he];exact k2
             ·rw[he];exact k3
            obtain⟨y0,y1⟩:=tC2 ar;have y2:=lF0 ar 0;have y3:=lF0 ar 1;generalize ss.length=sn at *;simp only[List.length_nil] at *;clear af ak hX he ar bV ce bC ba bp aE ad;(go_wp2_with fail);exact b0b (v:=.tuple #[.slice so sn sc,.slice (some (Pv gk 0)) n.K kc,.bool true,.agg #[Iv 0,Iv 0]]) (a0n (p:=15) (ty:=37) results11 _ _ RF 37 #[Iv 0,Iv 0] (0,0) _ rfl (a0i bR.o.1) underlying37 rfl (by rw[a0q];rfl)) rfl HE.o
       ·have HE:Hid (∀W,Bl w W->a2R w n t vid f n.K ac (i0:Int) (.returned (.tuple #[sN,sN,.bool false,.agg #[Iv wf,Iv 0]])) W):=al.o wf 0 (by rw[aB.o,iP hw0]) hw0;have z3:(wf != 0)=true:=(by simp[hw0])
        clear aB al a8 ax bi;(go_wp2_with fail);refine(ad.o _ wf 0 am.o).mono ?_;rintro e W1 ⟨rfl,ab⟩;obtain⟨y0,y1⟩:=tC2 ab.o.1;have y2:=lF0 ab.o.1 0;have y3:=lF0 ab.o.1 1;(go_wp2_with fail);exact b0b (v:=.tuple #[sN,sN,.bool false,.agg #[Iv wf,Iv 0]]) (a0n (p:=15) (ty:=37) results11 _ _ RF 37 #[Iv wf,Iv 0] (0,0) _ rfl (a0i ab.o.1) underlying37 rfl (by rw[a0q];rfl)) rfl (HE.o _ ((ab.o.2.setCell ae.o _).setCell ae.o _))
     ·have HE:Hid (∀W,Bl w W->a2R w n t vid f n.K ac aa (.returned (.tuple #[sN,sN,.bool false,.agg #[Iv 3,Iv 0]])) W):=al.o 3 0 (by rw[aw.o];unfold a1I;rw[iN c1',iN (λz=>z k2),iP k3]) dd;obtain⟨c7,dk⟩:=k2;have i1:¬aa<0:=om
      have i2:¬aa>=(n.K:Int):=om
      clear aw al c1' ax bi;by_cases i3:vid<1
      ·clear k3;(go_wp2_with fail);refine(ad.o _ 3 0 am.o).mono ?_;rintro e W1 ⟨rfl,ab⟩;obtain⟨y0,y1⟩:=tC2 ab.o.1;have y2:=lF0 ab.o.1 0;have y3:=lF0 ab.o.1 1;(go_wp2_with fail);exact b0b (v:=.tuple #[sN,sN,.bool false,.agg #[Iv 3,Iv 0]]) (a0n (p:=15) (ty:=37) results11 _ _ RF 37 #[Iv 3,Iv 0] (0,0) _ rfl (a0i ab.o.1) underlying37 rfl (by rw[a0q];rfl)) rfl (HE.o _ ((ab.o.2.setCell ae.o _).setCell ae.o _))
      ·have i4:vid > 4094:=om
       clear k3;(go_wp2_with fail);refine(ad.o _ 3 0 am.o).mono ?_;rintro e W1 ⟨rfl,ab⟩;obtain⟨y0,y1⟩:=tC2 ab.o.1;have y2:=lF0 ab.o.1 0;have y3:=lF0 ab.o.1 1;(go_wp2_with fail);exact b0b (v:=.tuple #[sN,sN,.bool false,.agg #[Iv 3,Iv 0]]) (a0n (p:=15) (ty:=37) results11 _ _ RF 37 #[Iv 3,Iv 0] (0,0) _ rfl (a0i ab.o.1) underlying37 rfl (by rw[a0q];rfl)) rfl (HE.o _ ((ab.o.2.setCell ae.o _).setCell ae.o _))
    ·have HE:Hid (∀W,Bl w W->a2R w n t vid f n.K ac aa (.returned (.tuple #[sN,sN,.bool false,.agg #[Iv 6,Iv 0]])) W):=al.o 6 0 (by rw[aw.o];unfold a1I;rw[iN c1',iP k2]) dd;clear aw al c1' ax bi;by_cases i1:aa<0
     ·clear k2;(go_wp2_with fail);refine(ad.o _ 6 0 am.o).mono ?_;rintro e W1 ⟨rfl,ab⟩;obtain⟨y0,y1⟩:=tC2 ab.o.1;have y2:=lF0 ab.o.1 0;have y3:=lF0 ab.o.1 1;(go_wp2_with fail);exact b0b (v:=.tuple #[sN,sN,.bool false,.agg #[Iv 6,Iv 0]]) (a0n (p:=15) (ty:=37) results11 _ _ RF 37 #[Iv 6,Iv 0] (0,0) _ rfl (a0i ab.o.1) underlying37 rfl (by rw[a0q];rfl)) rfl (HE.o _ ((ab.o.2.setCell ae.o _).setCell ae.o _))
     ·have i2:aa>=(n.K:Int):=om
      clear k2;(go_wp2_with fail);refine(ad.o _ 6 0 am.o).mono ?_;rintro e W1 ⟨rfl,ab⟩;obtain⟨y0,y1⟩:=tC2 ab.o.1;have y2:=lF0 ab.o.1 0;have y3:=lF0 ab.o.1 1;(go_wp2_with fail);exact b0b (v:=.tuple #[sN,sN,.bool false,.agg #[Iv 6,Iv 0]]) (a0n (p:=15) (ty:=37) results11 _ _ RF 37 #[Iv 6,Iv 0] (0,0) _ rfl (a0i ab.o.1) underlying37 rfl (by rw[a0q];rfl)) rfl (HE.o _ ((ab.o.2.setCell ae.o _).setCell ae.o _))
 ·have HE:Hid (∀W,Bl w W->a2R w n t vid f B ac aa (.returned (.tuple #[sN,sN,.bool false,.agg #[Iv n.wrong.1,Iv n.wrong.2]])) W):=al.o _ _ (by rw[co.o,iP q]) q;have z3:(n.wrong.1 != 0)=true:=(by simp[q])
  rw[aK.o] at f0 f1;clear co al cI cB cT bi a8 ax bK q bw;generalize n.wrong.1=E1 at *;generalize n.wrong.2=E2 at *;(go_wp2_with fail);rw[<-aK.o];refine(ad.o _ E1 E2 am.o).mono ?_;rintro e W1 ⟨rfl,ab⟩;obtain⟨y0,y1⟩:=tC2 ab.o.1;have y2:=lF0 ab.o.1 0;have y3:=lF0 ab.o.1 1;(go_wp2_with fail);exact b0b (v:=.tuple #[sN,sN,.bool false,.agg #[Iv E1,Iv E2]]) (a0n (p:=15) (ty:=37) results11 _ _ RF 37 #[Iv E1,Iv E2] (0,0) _ rfl (a0i ab.o.1) underlying37 rfl (by rw[a0q];rfl)) rfl (HE.o _ ((ab.o.2.setCell ae.o _).setCell ae.o _))
