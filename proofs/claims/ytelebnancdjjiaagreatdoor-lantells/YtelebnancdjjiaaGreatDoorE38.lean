/- TF6 -/
import Derived.Test.YtelebnancdjjiaaGreatDoorE32
import Derived.Test.YtelebnancdjjiaaGreatDoorE37
set_option maxRecDepth 100000
set_option maxHeartbeats 40000000
namespace Go.Proofs.YtelebnancdjjiaaGreatDoor
section
open Go.Proofs.Tryz Go.RowKit
open Vc(V Of)
open Pl(En Lk Br Net LN lf)
open Tk(Md Mnd Cn Sc Dn)
theorem ok_tick9 {c:Cn}{s:Sc}{T:Nat}(h:Tk.Ok c s T) {j:Nat}(hj:j<=200):Tk.Ok c (s.ticks c j) T:=by
 have h1:=h.one ⟨1,j,0,0⟩ (by unfold Tk.errOf;rw[iP rfl,iP ⟨by simp,by show(j:Int)<=200;omega⟩]);have e:s.one c ⟨1,j,0,0⟩=s.ticks c j:=(by unfold Tk.Sc.one;rw[iP rfl];rfl)
 rw[e] at h1;exact h1
theorem one_1 {c:Cn}(s:Sc) {d:Dn}(h:d.kind=1):s.one c d=s.ticks c d.n.toNat:=by unfold Tk.Sc.one;rw[iP h]
theorem one_2 {c:Cn}(s:Sc) {d:Dn}(h:d.kind=2):s.one c d=s.setUp d.n.toNat true:=by unfold Tk.Sc.one;rw[iN om,iP h]
theorem one_3 {c:Cn}(s:Sc) {d:Dn}(h:d.kind=3):s.one c d=s.setUp d.n.toNat false:=by unfold Tk.Sc.one;rw[iN om,iN om,iP h]
theorem one_4 {c:Cn}(s:Sc) {d:Dn}(h:d.kind=4):s.one c d=s.setCost d.n.toNat d.value:=by unfold Tk.Sc.one;rw[iN om,iN om,iN om,iP h]
theorem one_5 {c:Cn}(s:Sc) {d:Dn}(h:d.kind=5):s.one c d=s.setPrio d.n.toNat d.tree.toNat d.value:=by unfold Tk.Sc.one;rw[iN om,iN om,iN om,iN om]
theorem lkC_up (s:Sc) (k:Nat) (up:Bool) (j y:Nat) (hy:y<6):lkC ((s.setUp k up).ls j) y=if j=k/\y=5 then .bool up else lkC (s.ls j) y:=by
 unfold Tk.Sc.setUp;by_cases q:j=k
 ·subst q;rcases(by omega:y=0\/y=1\/y=2\/y=3\/y=4\/y=5) with e | e | e | e | e | e<;>subst e<;>simp[lkC]
 ·simp[q]
theorem lkC_cost (s:Sc) (k:Nat) (v:Int) (j y:Nat) (hy:y<6):lkC ((s.setCost k v).ls j) y=if j=k/\y=4 then Iv v else lkC (s.ls j) y:=by
 unfold Tk.Sc.setCost;by_cases q:j=k
 ·subst q;rcases(by omega:y=0\/y=1\/y=2\/y=3\/y=4\/y=5) with e | e | e | e | e | e<;>subst e<;>simp[lkC]
 ·simp[q]
theorem but_drew {W V:World}{a b c:Nat}(h:∀q,q≠a->q≠b->q≠c->V.heap[q]?=W.heap[q]?):∀q,q≠a->q≠b->q≠c->V.drew.heap[q]?=W.heap[q]?:=h
theorem but_set1 {W V:World}{a b c o:Nat}{v:Value}(h:∀q,q≠a->q≠b->q≠c->V.heap[q]?=W.heap[q]?):∀q,q≠a->q≠b->q≠c->(V.setCell (Pv a o) v).heap[q]?=W.heap[q]?:=λq h1 h2 h3=>(a0J h1).trans (h q h1 h2 h3)
theorem but_set2 {W V:World}{a b c o:Nat}{v:Value}(h:∀q,q≠a->q≠b->q≠c->V.heap[q]?=W.heap[q]?):∀q,q≠a->q≠b->q≠c->(V.setCell (Pv b o) v).heap[q]?=W.heap[q]?:=λq h1 h2 h3=>(a0J h2).trans (h q h1 h2 h3)
theorem but_set3 {W V:World}{a b c o:Nat}{v:Value}(h:∀q,q≠a->q≠b->q≠c->V.heap[q]?=W.heap[q]?):∀q,q≠a->q≠b->q≠c->(V.setCell (Pv c o) v).heap[q]?=W.heap[q]?:=λq h1 h2 h3=>(a0J h3).trans (h q h1 h2 h3)
theorem a4b {w:World}{g:Nat}{a0 a1 a2 a3:Value}{ty:TypeId}(h:w.heap[g]?=some (.cells #[a0,a1,a2,a3] ty (0,0))):w.cell? (Pv g 0)=some a0/\w.cell? (Pv g 1)=some a1/\w.cell? (Pv g 2)=some a2/\w.cell? (Pv g 3)=some a3 :=
 ⟨a9Y w g 0 _ _ _ h,a9Y w g 1 _ _ _ h,a9Y w g 2 _ _ _ h,a9Y w g 3 _ _ _ h⟩
theorem ron_any (n:Net) (oao:OA) (ocap:Nat) (t:List Tr) (ms:Nat->Nat->Mnd) (bT:OA) (dn aR:Nat) (ds:Nat->Dn) (N:Nat->Prop) (w:World) (cf:n.Wf) (hN:∀q,N q->q<w.heap.size) (bz:Bz N w (λV=>n.at' V)) (cq:a0s n.bao n.K n.bcap) (ci:a0s n.lao n.L n.lcap) (cm:∀i,i<n.K->a0s (n.bs i).pao (n.bs i).pn (n.bs i).pcap)
  (bU:Bz N w (λV=>TrRow V oao ocap t)) (dH:dn<=9223372036854775807) (bH:DRow w bT dn aR ds) (hc:CalmT t) (hm:∀k,k<t.length->∀i,i<n.K->ms k i=msT t k i) :
  Calls prog 24 #[n.val,.agg #[.slice oao t.length ocap],.slice bT dn aR] w λe w'=>RonW w N n t ms ds dn e w':=by
 obtain⟨X2,aZ⟩:=nm ((w.alloc (.cells #[.slice n.bao n.K n.bcap,.slice n.lao n.L n.lcap] 25)).alloc (.cells #[.slice oao t.length ocap] 34))
 obtain⟨X,HX⟩:=nm (((X2.alloc (.cells #[sN,sN] 25)).alloc (.cells #[sN] 34)).alloc (.cells #[Iv 0,Iv 0] 37))
 have b1:Bl w X2:=(by rw[aZ.o];exact bA2 _ _ _)
 have s1:X2.heap.size=w.heap.size+1+1:=(by rw[aZ.o];simp)
 have b2:Bl X2 X:=(by rw[HX.o];exact((bA2 _ _ _).alloc (by simp;omega) _))
 have s2:X.heap.size=X2.heap.size+1+1+1:=(by rw[HX.o];simp)
 have aK:Bl w X:=b1.trans (b2.mono b1.size);have g0:X.heap[w.heap.size]?=some (.cells #[.slice n.bao n.K n.bcap,.slice n.lao n.L n.lcap] 25):=keep (by rw[aZ.o];exact b0d _ _ _) b2;have g1:X.heap[w.heap.size+1]?=some (.cells #[.slice oao t.length ocap] 34):=keep (by rw[aZ.o];exact b0c _ _ _) b2;have g2:X.heap[w.heap.size+1+1]?=some (.cells #[sN,sN] 25):=by
  rw[HX.o,<-s1];exact keep (b0d _ _ _) (bA1 _ _)
 have g3:X.heap[w.heap.size+1+1+1]?=some (.cells #[sN] 34):=by
  rw[HX.o,<-s1];exact keep (b0c _ _ _) (bA1 _ _)
 have g4:X.heap[w.heap.size+1+1+1+1]?=some (.cells #[Iv 0,Iv 0] 37):=by
  have:w.heap.size+1+1+1+1=((X2.alloc (.cells #[sN,sN] 25)).alloc (.cells #[sN] 34)).heap.size:=by simp[s1]
  rw[HX.o,this];exact a9Z _ _
 obtain⟨BN,bw⟩:=nm w.heap.size
 obtain⟨BT,bI⟩:=nm (w.heap.size+1)
 obtain⟨RN,b4⟩:=nm (w.heap.size+1+1)
 obtain⟨RT,bG⟩:=nm (w.heap.size+1+1+1)
 obtain⟨RF,bV⟩:=nm (w.heap.size+1+1+1+1)
 rw[<-bw.o] at g0;rw[<-bI.o] at g1;rw[<-b4.o] at g2;rw[<-bG.o] at g3;rw[<-bV.o] at g4;have ap:Hid ((w.heap.size<=BN/\BN<BT/\BT<RN/\RN<RT/\RT<RF)/\X.heap.size=RF+1):=by
  have e1:=bw.o;have e2:=bI.o;have e3:=b4.o;have e4:=bG.o;have e5:=bV.o;exact⟨⟨om,om,om,om,om⟩,om⟩
 have ca:RN≠RT:=(by have:=ap.o;omega)
 have b6:RN≠RF:=(by have:=ap.o;omega)
 have bF:RT≠RF:=(by have:=ap.o;omega)
 have aU:Hid (∀V,Bl X V->RB w V RN RT RF):=λV hV=>⟨keep g2 hV,keep g3 hV,keep g4 hV,aK.trans (hV.mono aK.size)⟩
 have aX:Hid (∀V,Bl X V->V.heap[BN]?=some (.cells #[.slice n.bao n.K n.bcap,.slice n.lao n.L n.lcap] 25)/\V.heap[BT]?=some (.cells #[.slice oao t.length ocap] 34)):=λV hV=>⟨keep g0 hV,keep g1 hV⟩
 have af:Hid (∀(V:World) (E A:Int),RB w V RN RT RF->Calls prog 46 #[Iv E,Iv A] V λe w'=>e=.returned (.tuple #[.agg #[sN,sN],.agg #[sN],.agg #[Iv E,Iv A]])/\Hid (RB w w' RN RT RF)):=λV E A h=>(ron1_any E A V).mono (λe w' z=>⟨z.1,h.below z.2⟩);have ae:Hid (∀(W1:World) (E A:Int),RB w W1 RN RT RF->(((((W1.setCell (Pv RN 0) sN).setCell (Pv RN 1) sN).setCell (Pv RT 0) sN).setCell (Pv RF 0) (Iv E)).setCell (Pv RF 1) (Iv A)).heap[RN]?=some (.cells #[sN,sN] 25)/\(((((W1.setCell (Pv RN 0) sN).setCell (Pv RN 1) sN).setCell (Pv RT 0) sN).setCell (Pv RF 0) (Iv E)).setCell (Pv RF 1) (Iv A)).heap[RT]?=some (.cells #[sN] 34)/\(((((W1.setCell (Pv RN 0) sN).setCell (Pv RN 1) sN).setCell (Pv RT 0) sN).setCell (Pv RF 0) (Iv E)).setCell (Pv RF 1) (Iv A)).heap[RF]?=some (.cells #[Iv E,Iv A] 37)/\Bl w (((((W1.setCell (Pv RN 0) sN).setCell (Pv RN 1) sN).setCell (Pv RT 0) sN).setCell (Pv RF 0) (Iv E)).setCell (Pv RF 1) (Iv A))):=λW1 E A h=>by
  obtain⟨z1,z2,z3⟩:=a6Y (v0:=sN) (v1:=sN) (v2:=sN) (v3:=Iv E) (v4:=Iv A) h.n h.t h.f ca b6 bF;have l1:w.heap.size<=RN:=(by have:=ap.o;omega)
  have l2:w.heap.size<=RT:=(by have:=ap.o;omega)
  have l3:w.heap.size<=RF:=(by have:=ap.o;omega)
  exact⟨z1,z2,z3,((((h.low.setCell l1 _).setCell l1 _).setCell l2 _).setCell l3 _).setCell l3 _⟩
 have cd:Hid (Calls prog 31 #[.agg #[.slice n.bao n.K n.bcap,.slice n.lao n.L n.lcap]] X λe w'=>e=.returned (.agg #[Iv n.wrong.1,Iv n.wrong.2])/\Hid (Bl X w')):=(a2V n X (bz.at' aK)).mono (λe w' h=>⟨h.1,h.2⟩);have bR:Hid (n.Right->∀V,Bl X V->Calls prog 32 #[.agg #[.slice n.bao n.K n.bcap,.slice n.lao n.L n.lcap],.agg #[.slice oao t.length ocap]] V λe w'=>e=.returned (.bool (fitT n t))/\Hid (Bl X w')):=λR V hV=>by
  have hw:=aK.trans (hV.mono aK.size);exact(a5B n oao ocap t V (bz.at' hw) R.fewL R.links (bU.at' hw)).mono (λe w' h=>⟨h.1,hV.trans (h.2.mono hV.size)⟩)
 have bB:Hid (∀V,Bl w V->DRow V bT dn aR ds):=λV hV=>CRow.below bH hV;have a9:Hid n.Wf:=cf;have a3:Hid (Bl w X):=aK;have a2:Hid (Bz N w (λV=>n.at' V)/\Bz N w (λV=>TrRow V oao ocap t)):=⟨bz,bU⟩
 have be:Hid (a0s n.bao n.K n.bcap/\a0s n.lao n.L n.lcap/\∀i,i<n.K->a0s (n.bs i).pao (n.bs i).pn (n.bs i).pcap):=⟨cq,ci,cm⟩
 have bl:Hid (CalmT t/\∀k,k<t.length->∀i,i<n.K->ms k i=msT t k i):=⟨hc,hm⟩
 have cs:Hid (∀q,N q->q<w.heap.size):=hN;have cZ:=bH.1;obtain⟨x0,x1⟩:=tC2 g0;clear cf bz bU bH hc hm cq ci cm hN b1 b2 s1 s2 aK g0 g1 g2 g3 g4;rw[HX.o,aZ.o,bw.o] at x0 x1;simp only[Pl.Net.val];go_enter func24,ntmps24;(go_wp2_with fail);rw[<-aZ.o,<-HX.o,<-bV.o,<-bG.o,<-b4.o,<-bI.o,<-bw.o];refine cd.o.mono ?_;rintro e w1 ⟨rfl,H1⟩;clear x0 x1 cd;obtain⟨V1,aV⟩:=nm (w1.alloc (.cells #[Iv n.wrong.1,Iv n.wrong.2] 37))
 have bj:Bl X V1:=(by rw[aV.o];exact H1.o.alloc H1.o.size _)
 obtain⟨f0,f1⟩:=tC2 (show V1.heap[w1.heap.size]?=some (.cells #[Iv n.wrong.1,Iv n.wrong.2] 37) by rw[aV.o];exact a9Z _ _);have bu:=aX.o V1 bj;obtain⟨r0,r1⟩:=tC2 bu.1;have r2:=a0x bu.2;rw[aV.o] at f0 f1 r0 r1 r2;by_cases q:n.wrong.1=0
 ·have R:=right_of a9.o q;have HR:Hid n.Right:=R;have bS:Hid (n.wrong.1=0):=q;have cy:Hid (Calls prog 32 #[.agg #[.slice n.bao n.K n.bcap,.slice n.lao n.L n.lcap],.agg #[.slice oao t.length ocap]] V1 λe w'=>e=.returned (.bool (fitT n t))/\Hid (Bl X w')):=bR.o R V1 bj;have aT:Hid (a0P n t ds dn=if fitT n t=false then(8,0) else if 30<dn then(5,0) else Tk.errTo n.cn ds dn):=by
   have e:wrT n t dn=if fitT n t=false then(8,0) else if 30<dn then(5,0) else(0,0):=by
    unfold wrT;rw[iN (λz=>z q)]
   show(if (wrT n t dn).1≠0 then wrT n t dn else Tk.errTo n.cn ds dn)=_;rw[e];by_cases z1:fitT n t=false
   ·rw[iP z1,iP z1,iP dd]
   ·rw[iN z1,iN z1];by_cases z2:30<dn
    ·rw[iP z2,iP z2,iP dd]
    ·rw[iN z2,iN z2,iN (λz=>z rfl)]
  clear bR bu R bj;rw[q] at f0 f1 r0 r1 r2 aV ⊢;clear q;(go_wp2_with fail);rw[<-aV.o];refine cy.o.mono ?_;rintro e w2 ⟨rfl,H2⟩;clear cy f0 f1 r0 r1 r2;cases hft:fitT n t with
  | false =>
   have HE:Hid (a0P n t ds dn=(8,0)):=(by rw[aT.o,iP hft];rfl)
   have ah:Hid ((8:Int)≠0):=(show(8:Int)≠0 by decide)
   have ak:Hid (RB w w2 RN RT RF):=aU.o w2 H2.o;clear aT hft;(go_wp2_with fail);refine(af.o _ 8 0 ak.o).mono ?_;rintro e W1 ⟨rfl,ab⟩;obtain⟨⟨p0,p1⟩,p2,⟨p3,p4⟩,⟨q0,q1⟩,q2,q3,q4⟩:=ab.o.cells;(go_wp2_with fail);obtain⟨z1,z2,z3,z4⟩:=ae.o W1 8 0 ab.o;exact b0b (v:=.tuple #[.agg #[sN,sN],.agg #[sN],.agg #[Iv 8,Iv 0]]) (a0m results24 _ _ RN RT RF 25 34 37 #[sN,sN] #[sN] #[Iv 8,Iv 0] (0,0) (0,0) (0,0) _ _ _ rfl rfl rfl z1 z2 z3 underlying25 underlying34 underlying37 rfl rfl rfl (by rw[a1b];rfl) (by rw[a0T];rfl) (by rw[a0q];rfl)) rfl ⟨z4,Or.inl ⟨by rw[HE.o];exact ah.o,by rw[HE.o]⟩⟩
  | true =>
   have aM:Hid (fitT n t=true):=hft;by_cases hdl:(dn:Int) > 30
   ·as_aux_lemma =>
     have HE:Hid (a0P n t ds dn=(5,0)):=(by rw[aT.o,iN (by rw[hft];exact Bool.noConfusion),iP om];rfl)
     have ah:Hid ((5:Int)≠0):=(show(5:Int)≠0 by decide)
     have ak:Hid (RB w w2 RN RT RF):=aU.o w2 H2.o;clear aT hft;(go_wp2_with fail);refine(af.o _ 5 0 ak.o).mono ?_;rintro e W1 ⟨rfl,ab⟩;obtain⟨⟨p0,p1⟩,p2,⟨p3,p4⟩,⟨q0,q1⟩,q2,q3,q4⟩:=ab.o.cells;(go_wp2_with fail);obtain⟨z1,z2,z3,z4⟩:=ae.o W1 5 0 ab.o;exact b0b (v:=.tuple #[.agg #[sN,sN],.agg #[sN],.agg #[Iv 5,Iv 0]]) (a0m results24 _ _ RN RT RF 25 34 37 #[sN,sN] #[sN] #[Iv 5,Iv 0] (0,0) (0,0) (0,0) _ _ _ rfl rfl rfl z1 z2 z3 underlying25 underlying34 underlying37 rfl rfl rfl (by rw[a1b];rfl) (by rw[a0T];rfl) (by rw[a0q];rfl)) rfl ⟨z4,Or.inl ⟨by rw[HE.o];exact ah.o,by rw[HE.o]⟩⟩
   ·have bK:Hid (a0P n t ds dn=Tk.errTo n.cn ds dn):=(by rw[aT.o,iN (by rw[hft];exact Bool.noConfusion),iN om];rfl)
    have da:dn<=30:=om
    have hK:=HR.o.few;have hL:=HR.o.fewL;have cE:=a3.o.trans (H2.o.mono a3.o.size);obtain⟨bo,bc,w3,ch,cx,bM⟩:=cp_br (a2.o.1.at' cE).brs be.o.1 om;have aJ:=aX.o w2 H2.o;obtain⟨r0,r1⟩:=tC2 aJ.1;have bA:Bl X w3:=H2.o.trans (bM.mono H2.o.size);have ay:=aX.o w3 bA;obtain⟨r3,r4⟩:=tC2 ay.1;have r5:=b0a w3 BN 0 _ _ ay.1;obtain⟨W3,aF⟩:=nm (w3.setCell (Pv BN 0) (.slice bo n.K bc))
    have aH:W3.heap[BN]?=some (.cells #[.slice bo n.K bc,.slice n.lao n.L n.lcap] 25):=(by rw[aF.o,b0e _ _ _ _ _ _ ay.1];rfl)
    have bq:Bl w W3:=by
     rw[aF.o];exact(a3.o.trans (bA.mono a3.o.size)).setCell (show w.heap.size<=BN by have:=ap.o;omega) _
    obtain⟨lo,lc,w4,b3,cw,aY⟩:=cp_lk (a2.o.1.at' bq).lks be.o.2.1 om;have aE:=keep aH aY;obtain⟨r6,r7⟩:=tC2 aH;obtain⟨r8,r9⟩:=tC2 aE;have cM:=b0a w4 BN 1 _ _ aE;obtain⟨W4,aG⟩:=nm (w4.setCell (Pv BN 1) (.slice lo n.L lc))
    obtain⟨M,HM⟩:∃M:Nat->Prop,Hid (M=λq=>N q\/(q=BN\/q=BT\/q=RN\/q=RT\/q=RF\/(Value.slice bo n.K bc).ownBlock=some q\/(Value.slice lo n.L lc).ownBlock=some q)):=⟨_,rfl⟩
    have ce:Hid ((∀q,N q->M q)/\M RN/\M RT/\M RF):=by
     rw[HM.o];exact⟨λq z=>Or.inl z,Or.inr (Or.inr (Or.inr (Or.inl rfl))),Or.inr (Or.inr (Or.inr (Or.inr (Or.inl rfl)))),Or.inr (Or.inr (Or.inr (Or.inr (Or.inr (Or.inl rfl)))))⟩
    have cr:Hid (∃n' oa oc t',OnS w W4 BN BT RN RT RF n M t.length ((n.sc ms).all n.cn ds 0) n' oa oc t'):=by
     have dj:=H2.o.size;have hX:=ap.o;have dK:w3.heap.size=W3.heap.size:=(by rw[aF.o];simp)
     have dA:=bM.size;have dE:=aY.size;have dJ:W4.heap.size=w4.heap.size:=(by rw[aG.o];simp)
     have bD:Bl w W4:=by
      rw[aG.o];exact(bq.trans (aY.mono bq.size)).setCell (show w.heap.size<=BN by omega) _
     have kp:∀{q:Nat}{x:Obj},q≠BN->X.heap[q]?=some x->W4.heap[q]?=some x:=λ{q x} bh hq=>by
      have h3:=keep hq bA;have h4:W3.heap[q]?=some x:=(by rw[aF.o];exact a0D h3 bh)
      rw[aG.o];exact a0D (keep h4 aY) bh
     have b9:=aU.o X (b0h _ _);have cY:=aX.o X (b0h _ _);have oB:W4.ownsRow (RF+1) 65 5 (.slice bo n.K bc) n.K (a0f n.K 5 (λi=>brC (n.bs i))):=by
      have h1:=a0v cx (show RF+1<=w2.heap.size by omega);have h2:W3.ownsRow (RF+1) 65 5 (.slice bo n.K bc) n.K (a0f n.K 5 (λi=>brC (n.bs i))):=by
       rw[aF.o];exact a0A h1 (λq hq=>a0J (by have:=(oCb h1 q hq).1;omega))
      have h3:=a0h h2 aY;rw[aG.o];exact a0A h3 (λq hq=>a0J (by have:=(oCb h3 q hq).1;omega))
     have oL:W4.ownsRow (RF+1) 103 6 (.slice lo n.L lc) n.L (a0f n.L 6 (λi=>lkC (n.ls i))):=by
      have h1:=a0v cw (show RF+1<=W3.heap.size by omega);rw[aG.o];exact a0A h1 (λq hq=>a0J (by have:=(oCb h1 q hq).1;omega))
     have b7:∀q,(q=BN\/q=BT\/q=RN\/q=RT\/q=RF\/(Value.slice bo n.K bc).ownBlock=some q\/(Value.slice lo n.L lc).ownBlock=some q)->w.heap.size<=q/\q<W4.heap.size:=λq hq=>by
      have h0:RF<W4.heap.size:=om
      rcases hq with e | e | e | e | e | e | e
      ·omega
      ·omega
      ·omega
      ·omega
      ·omega
      ·have:=oCb oB q e;omega
      ·have:=oCb oL q e;omega
     have co:(n.sc ms).all n.cn ds 0=n.sc ms:=rfl;have dF:(⟨bo,n.K,bc,n.bs,lo,n.L,lc,n.ls⟩:Net)=⟨bo,n.K,bc,n.bs,lo,n.L,lc,n.ls⟩:=rfl;rw[co];refine⟨a1V n (n.sc ms) bo bc lo lc (λi=>((n.bs i).pao,(n.bs i).pcap,(n.bs i).reg.ao,(n.bs i).reg.cap)),oao,ocap,t,?_⟩;have ba:∀i,((n.sc ms).pr i).length=(n.bs i).pn/\∀j,j<(n.bs i).pn->IL ((n.sc ms).pr i) j=(n.bs i).pv j:=λi=>⟨a4K _ _,λj hj=>by
      show IL (lsF (n.bs i).pv (n.bs i).pn) j=_;simp[lsF,IL,hj]⟩
     have dh:∀i,i<n.K->brC ((a1V n (n.sc ms) bo bc lo lc (λi=>((n.bs i).pao,(n.bs i).pcap,(n.bs i).reg.ao,(n.bs i).reg.cap))).bs i)=brC (n.bs i):=λi _=>by
      funext y
      unfold a1V brC;simp only[(ba i).1]
     refine⟨bD,?_,kp om cY.2,kp om b9.n,kp om b9.t,kp om b9.f,?_,oL,?_,?_,?_,?_,?_,?_,⟨_,rfl⟩,rfl,hX.1,?_⟩
     ·show W4.heap[BN]?=some (.cells #[.slice bo n.K bc,.slice lo n.L lc] 25);rw[aG.o,b0e _ _ _ _ _ _ aE];rfl
     ·show W4.ownsRow (RF+1) 65 5 (.slice bo n.K bc) n.K _;exact(congrArg (λxs=>W4.ownsRow (RF+1) 65 5 (.slice bo n.K bc) n.K xs) (a0k n.K 5 _ _ dh)).mpr oB
     ·intro q hq;rw[HM.o];exact Or.inr (Or.inr (Or.inr (Or.inr (Or.inr (Or.inr (Or.inl hq))))))
     ·intro q hq;rw[HM.o];exact Or.inr (Or.inr (Or.inr (Or.inr (Or.inr (Or.inr (Or.inr hq))))))
     ·rw[HM.o];exact Or.inr (Or.inr (Or.inl rfl))
     ·intro q hq;rw[HM.o] at hq;rcases hq with z | z
      ·have h1:=cs.o q z;have h2:=bD.size;omega
      ·exact(b7 q z).2
     ·rw[HM.o];refine(a2.o.1.more bD (λq z=>(b7 q z).1)).imp (λV hV i hi => ?_);have hi:i<n.K:=hi;obtain⟨z1,z2,z3,z4⟩:=hV.each i hi;refine⟨⟨?_,z2,?_,z4⟩,?_⟩
      ·show IRow V (n.bs i).pao ((n.sc ms).pr i).length (n.bs i).pcap (IL ((n.sc ms).pr i));rw[(ba i).1];exact CRow.congr z1 (λj hj=>by funext y;rw[(ba i).2 j hj])
      ·show((n.sc ms).pr i).length<=_;rw[(ba i).1];exact z3
      ·show a0s (n.bs i).pao ((n.sc ms).pr i).length (n.bs i).pcap;rw[(ba i).1];exact be.o.2.2 i hi
     ·rw[HM.o];exact a2.o.2.more bD (λq z=>(b7 q z).1)
     ·intro k hk;obtain⟨_,z⟩:=a2z.1 aM.o;exact⟨(z k hk).1,λi hi=>⟨(bl.o.2 k hk i hi).symm,((z k hk).2 i hi).1⟩⟩
    have br:Hid (Tk.Ok n.cn (n.sc ms) t.length/\(1<=t.length/\t.length<=4)):=⟨fit_ok a9.o bS.o aM.o bl.o.1 bl.o.2,(a2z.1 aM.o).1⟩
    have cu:W3.heap.size=w3.heap.size:=(by rw[aF.o];simp)
    rw[cu] at b3;have a8:Hid _:=ch;have aI:Hid _:=b3;rw[aF.o] at aI r6 r7;have dz:BN<w2.heap.size:=a1a aJ.1;have dp:BN<w3.heap.size:=a1a ay.1;clear cu hft aT H2 a2 be bl HM ch b3 cx cw bM aY aJ ay bA aH aE cE bq aX aU a3;go_wp2_with (at_builtin;first | (refine a0a rfl (.tmp 47) (.tmp 49) 22 rfl _ _ _ rfl rfl a8.o ?_) | (refine a0a rfl (.tmp 52) (.tmp 54) 23 rfl _ _ _ rfl rfl aI.o ?_))
    rw[<-aG.o];clear r0 r1 r3 r4 r5 r6 r7 r8 r9 cM;clear a8 aI aF aG;go_loopw [59] (λi wr=>∃k:Nat,k<=dn/\i=Iv k/\Hid (∀j,j<k->Tk.errOf n.cn (ds j)=0)/\Hid (∃n' oa oc t',OnS w wr BN BT RN RT RF n M t.length ((n.sc ms).all n.cn ds k) n' oa oc t')) (λi _=>dn-(intOf i).toNat)
    case atStart=>exact⟨0,om,rfl,(λj hj=>absurd hj om),cr⟩
    case round =>
     clear cr;obtain⟨k,hk,rfl,hZ,hS⟩:=hrel;obtain⟨U,HU⟩:=nm wr
     rw[<-HU.o] at hS ⊢;clear HU;obtain⟨n',oa,oc,t',ar⟩:=hS.o;have ax:=br.o.1.all ds k hZ.o;have bE:=(br.o.1.fine.all ds k hZ.o)
     by_cases bn:k<dn
     ·have aQ:=bB.o U ar.low;obtain⟨db,dc,rfl,_⟩:=CRow.some aQ om;obtain⟨c0,c1,c2,c3⟩:=DRow.cells aQ bn;have ik:(0:Int)<=(k:Int):=om
      have nk:(k:Int)<(dn:Int):=om
      have aB:Hid (k+1<=dn):=bn;obtain⟨s,HS⟩:=nm ((n.sc ms).all n.cn ds k)
      rw[<-HS.o] at ar ax bE;have aa:Hid (Tk.errOf n.cn (ds k)=0->∀W,(∃n' oa oc t',OnS w W BN BT RN RT RF n M t.length (s.one n.cn (ds k)) n' oa oc t')->(∀j,j<k+1->Tk.errOf n.cn (ds j)=0)/\∃n' oa oc t',OnS w W BN BT RN RT RF n M t.length ((n.sc ms).all n.cn ds (k+1)) n' oa oc t'):=λh0 W hW=>by
       refine⟨λj hj => ?_,?_⟩
       ·by_cases e:j=k
        ·subst e;exact h0
        ·exact hZ.o j om
       ·rw[HS.o] at hW;exact hW
      have ag:Hid (∀z:Int,Tk.errOf n.cn (ds k)=z->z≠0->a0P n t ds dn=(z,(k:Int))):=λz hz h0=>by
       rw[bK.o,<-hz];exact Pl.firstTo_here _ k hZ.o (by rw[hz];exact h0) dn bn
      generalize ds k=d at *;obtain⟨Z,HZ⟩:=nm (U.alloc (.cells #[Iv d.kind,Iv d.n,Iv d.tree,Iv d.value] 106))
      have bd:Bl U Z:=(by rw[HZ.o];exact bA1 _ _)
      have bg:Z.heap[U.heap.size]?=some (.cells #[Iv d.kind,Iv d.n,Iv d.tree,Iv d.value] 106):=(by rw[HZ.o];exact a9Z _ _)
      have ak:Hid (RB w Z RN RT RF):=ar.rb.below bd;have au:Hid (Bl U Z/\Z.heap[U.heap.size]?=some (.cells #[Iv d.kind,Iv d.n,Iv d.tree,Iv d.value] 106)):=⟨bd,bg⟩
      have aD:Hid (OnS w U BN BT RN RT RF n M t.length s n' oa oc t'):=ar;have aC:Hid (Tk.Ok n.cn s t.length/\Tk.SameEnds n.cn (n.sc ms) s):=⟨ax,bE.2⟩
      obtain⟨d0,d1,d2,d3⟩:=a4b bg;obtain⟨z1,z2,_⟩:=ar.sizes;have cF:=keep ar.bxN bd;obtain⟨n0,n1⟩:=tC2 cF;have y0:=a0x (keep ar.bxT bd);have b0:Hid (BN<U.heap.size/\BT<U.heap.size):=⟨a1a ar.bxN,a1a ar.bxT⟩
      rw[z1] at n0;rw[z2] at n1;rw[HZ.o] at d0 d1 d2 d3 n0 n1 y0;have ai:Hid (Tk.errOf n.cn d=if d.kind=1 then(if 0<=d.n/\d.n<=200 then 0 else 3) else if d.kind=2\/d.kind=3\/d.kind=4 then(if 0<=d.n/\d.n<=(n.L:Int)-1 then(if d.kind=4/\¬(1<=d.value/\d.value<=200000) then 3 else 0) else 6) else if d.kind=5 then(if 0<=d.n/\d.n<=(n.K:Int)-1 then(if (0<=d.tree/\d.tree<=15)/\Pl.oddP d.value=false then 0 else 3) else 6) else 1):=rfl;clear hS hZ ar ax bE aQ bd bg cF HS bB;obtain⟨dk,ac,am,dv⟩:=d;simp only at c0 c1 c2 c3 d0 d1 d2 d3 ai;rcases(by omega:dk=1\/dk=2\/dk=3\/dk=4\/dk=5\/(dk≠1/\dk≠2/\dk≠3/\dk≠4/\dk≠5)) with k1 | k1 | k1 | k1 | k1 | ⟨k1,k2,k3,k4,k5⟩
      ·subst k1;by_cases q1:ac<0
       ·as_aux_lemma =>
         have HE:Hid (a0P n t ds dn=(3,(k:Int))):=ag.o 3 (by rw[ai.o,iP rfl,iN om]) dd;have ah:Hid ((3:Int)≠0):=(show(3:Int)≠0 by decide)
         clear ai ag aa;(go_wp2_with fail);rw[<-HZ.o];refine(af.o _ 3 (k:Int) ak.o).mono ?_;rintro e W1 ⟨rfl,ab⟩;obtain⟨⟨p0,p1⟩,p2,⟨p3,p4⟩,⟨q0,q1⟩,q2,q3,q4⟩:=ab.o.cells;(go_wp2_with fail);obtain⟨z1,z2,z3,z4⟩:=ae.o W1 3 (k:Int) ab.o;exact b0b (v:=.tuple #[.agg #[sN,sN],.agg #[sN],.agg #[Iv 3,Iv k]]) (a0m results24 _ _ RN RT RF 25 34 37 #[sN,sN] #[sN] #[Iv 3,Iv k] (0,0) (0,0) (0,0) _ _ _ rfl rfl rfl z1 z2 z3 underlying25 underlying34 underlying37 rfl rfl rfl (by rw[a1b];rfl) (by rw[a0T];rfl) (by rw[a0q];rfl)) rfl ⟨z4,Or.inl ⟨by rw[HE.o];exact ah.o,by rw[HE.o]⟩⟩
       ·by_cases q2:ac > 200
        ·as_aux_lemma =>
          have HE:Hid (a0P n t ds dn=(3,(k:Int))):=ag.o 3 (by rw[ai.o,iP rfl,iN om]) dd;have ah:Hid ((3:Int)≠0):=(show(3:Int)≠0 by decide)
          clear ai ag aa;(go_wp2_with fail);rw[<-HZ.o];refine(af.o _ 3 (k:Int) ak.o).mono ?_;rintro e W1 ⟨rfl,ab⟩;obtain⟨⟨p0,p1⟩,p2,⟨p3,p4⟩,⟨q0,q1⟩,q2,q3,q4⟩:=ab.o.cells;(go_wp2_with fail);obtain⟨z1,z2,z3,z4⟩:=ae.o W1 3 (k:Int) ab.o;exact b0b (v:=.tuple #[.agg #[sN,sN],.agg #[sN],.agg #[Iv 3,Iv k]]) (a0m results24 _ _ RN RT RF 25 34 37 #[sN,sN] #[sN] #[Iv 3,Iv k] (0,0) (0,0) (0,0) _ _ _ rfl rfl rfl z1 z2 z3 underlying25 underlying34 underlying37 rfl rfl rfl (by rw[a1b];rfl) (by rw[a0T];rfl) (by rw[a0q];rfl)) rfl ⟨z4,Or.inl ⟨by rw[HE.o];exact ah.o,by rw[HE.o]⟩⟩
        ·obtain⟨m,rfl⟩:∃m:Nat,ac=(m:Int):=⟨ac.toNat,om⟩
         have cI:m<=200:=om
         have bL:=(aD.o.fine a9.o bS.o aC.o.1.fine).2.2;have de:Hid n'.Right:=bL;have cK:Hid (Calls prog 40 #[.agg #[.slice n'.bao n.K n'.bcap,.slice n'.lao n.L n'.lcap]] Z λe w'=>∃lo lc,e=.returned (.slice lo n'.lvs.length lc)/\Hid (LRow w' lo n'.lvs.length lc n'.es/\(∀ad,lo=some ad->Z.heap.size<=ad.block)/\Bl Z w')):=by
          have h:=a9O n' Z (((aD.o.below au.o.1).net hK hL)) bL;simp only[Pl.Net.val] at h;rw[z1,z2] at h;refine h.mono ?_;rintro e w' ⟨lo,lc,h1,h2,_,h4,h5⟩;exact⟨lo,lc,h1,h2,h4,h5⟩
         have aq:Hid (Tk.errOf n.cn ⟨1,(m:Int),am,dv⟩=0):=(by rw[ai.o,iP rfl,iP ⟨om,om⟩];rfl)
         have bt:Hid (n'.K=n.K/\n'.L=n.L):=⟨z1,z2⟩
         clear ai ag ae af bL;(go_wp2_with fail);rw[<-HZ.o];refine cK.o.mono ?_;rintro e Wl ⟨lo,lc,rfl,bi⟩;clear cK c0 c1 c2 c3 d0 d1 d2 d3 n0 n1 y0;have cg:Bl U Wl:=au.o.1.trans (bi.o.2.2.mono au.o.1.size);obtain⟨Wz,cc⟩:=nm Wl
         have H0:Hid (∃oa oc t',OnS w Wl BN BT RN RT RF n M t.length (s.ticks n.cn 0) n' oa oc t'/\(∀q,q<Wz.heap.size->q≠BT->Wl.heap[q]?=Wz.heap[q]?)/\Wz.heap.size<=Wl.heap.size):=⟨oa,oc,t',aD.o.below cg,λ_ _ _=>by rw[cc.o],by rw[cc.o];exact b0g _⟩
         have aN:Hid (∀V,(∀q,q<Wz.heap.size->q≠BT->V.heap[q]?=Wz.heap[q]?)->Wz.heap.size<=V.heap.size->LRow V lo n'.lvs.length lc n'.es/\V.heap[U.heap.size]?=some (.cells #[Iv 1,Iv m,Iv am,Iv dv] 106)):=λV h1 h2=>by
          rw[cc.o] at h1 h2;have hz:=keep au.o.2 bi.o.2.2;have hU:=b0.o;have bZ:=au.o.1.size;refine⟨CRow.other bi.o.1 (λb off eb bn=>h1 b bn (λe => ?_)) h2,(h1 _ (a1a hz) om).trans hz⟩;have:=bi.o.2.1 _ eb;simp only at this;omega
         clear bi cg;(go_wp2_with fail);go_loopw [14] (λi wr=>∃j:Nat,j<=m/\i=Iv j/\Hid (∃oa oc t',OnS w wr BN BT RN RT RF n M t.length (s.ticks n.cn j) n' oa oc t'/\(∀q,q<Wz.heap.size->q≠BT->wr.heap[q]?=Wz.heap[q]?)/\Wz.heap.size<=wr.heap.size)) (λi _=>m-(intOf i).toNat)
         case atStart=>exact⟨0,om,rfl,H0⟩
         case round =>
          clear H0;obtain⟨j,hj,rfl,hJ⟩:=hrel;obtain⟨bx,bv,t2,an,bC,bX⟩:=hJ.o;obtain⟨bN,bP⟩:=aN.o wr bC bX;obtain⟨d0,d1,d2,d3⟩:=a4b bP;by_cases hjm:j<m
          ·have j0:(j:Int)<(m:Int):=om
           have aL:=ok_tick9 aC.o.1 (show j<=200 by omega);obtain⟨bb,a6⟩:=an.fits (ms:=ms) br.o.2 aL br.o.1.fine (λk hk=>aC.o.2 k hk);obtain⟨n0,n1⟩:=tC2 an.bxN;rw[bt.o.1] at n0;rw[bt.o.2] at n1;have y0:=a0x an.bxT;have cA:Hid (Calls prog 47 #[.agg #[.slice n'.bao n.K n'.bcap,.slice n'.lao n.L n'.lcap],.slice lo n'.lvs.length lc,.agg #[.slice bx t2.length bv]] wr λe w'=>∃ao cap a5,e=.returned (.agg #[.slice ao a5 cap])/\(w'.cell? (Pv BT 0)=some (.slice bx t2.length bv)/\w'.frozen? (Pv BT 0)=false)/\Hid (∃oa oc t',OnS w (w'.setCell (Pv BT 0) (.slice ao a5 cap)) BN BT RN RT RF n M t.length (s.ticks n.cn (j+1)) n' oa oc t'/\(∀q,q<Wz.heap.size->q≠BT->(w'.setCell (Pv BT 0) (.slice ao a5 cap)).heap[q]?=Wz.heap[q]?)/\Wz.heap.size<=(w'.setCell (Pv BT 0) (.slice ao a5 cap)).heap.size)):=by
            have h:=a8m n' lo lc bx bv t2 M wr de.o (an.net hK hL) bN an.mS an.talk bb a6;simp only[Pl.Net.val] at h;rw[bt.o.1,bt.o.2] at h;refine h.mono ?_;rintro e w' ⟨ao,cap,t3,rfl,h1,h2,h3,h4⟩;have cB:=keep an.bxT h4;have hn:=an.tick aL h1 h2 h3 h4;rw[Tk.Sc.ticks_add] at hn;have dy:(w'.setCell (Pv BT 0) (.slice ao t3.length cap)).heap.size=w'.heap.size:=(by simp)
            have h5:=h4.size;exact⟨ao,cap,t3.length,rfl,⟨a0x cB,b0a _ _ _ _ _ cB⟩,ao,cap,t3,hn,λq hq bh=>(a0J bh).trans ((h4.block q om).trans (bC q hq bh)),om⟩
           clear hJ an bC bX bN bP aL bb a6 aN d0 d2 d3;(go_wp2_with fail);refine cA.o.mono ?_;rintro e w3 ⟨ao,cap,a5,rfl,⟨y1,y2⟩,H3⟩;clear cA;(go_wp2_with fail);exact⟨⟨j+1,om,gn,H3⟩,io⟩
          ·obtain rfl:j=m:=om
           have HN:Hid ((∀j,j<k+1->Tk.errOf n.cn (ds j)=0)/\∃n' oa oc t',OnS w wr BN BT RN RT RF n M t.length ((n.sc ms).all n.cn ds (k+1)) n' oa oc t'):=aa.o aq.o wr ⟨n',bx,bv,t2,by rw[one_1 s rfl];exact an⟩;clear hJ an bC bX bN bP aN d0 d2 d3;(go_wp2_with fail);exact⟨⟨k+1,aB.o,gn,HN.o.1,HN.o.2⟩,by have:=aB.o;simp[intOf];omega⟩
      ·as_aux_lemma =>
        subst k1;have al:Hid (Tk.errOf n.cn ⟨2,ac,am,dv⟩=if 0<=ac/\ac<=(n.L:Int)-1 then(0) else 6):=by
         rw[ai.o,iN (show ¬(2:Int)=1 by decide),iP (show(2:Int)=2\/(2:Int)=3\/(2:Int)=4 by decide)];rw[iN (show ¬((2:Int)=4/\¬(1<=dv/\dv<=200000)) from λy=>absurd y.1 dd)];exact rfl
        clear ai;rcases(by omega:ac<0\/(¬ac<0/\ac>=(n.L:Int))\/(¬ac<0/\¬ac>=(n.L:Int))) with q1 | ⟨q1,q2⟩ | ⟨q1,q2⟩
        ·have HE:Hid (a0P n t ds dn=(6,(k:Int))):=ag.o 6 (by rw[al.o,iN om]) dd;have ah:Hid ((6:Int)≠0):=(show(6:Int)≠0 by decide)
         clear al ag aa;(go_wp2_with fail);rw[<-HZ.o];refine(af.o _ 6 (k:Int) ak.o).mono ?_;rintro e W1 ⟨rfl,ab⟩;obtain⟨⟨p0,p1⟩,p2,⟨p3,p4⟩,⟨q0,q1⟩,q2,q3,q4⟩:=ab.o.cells;(go_wp2_with fail);obtain⟨z1,z2,z3,z4⟩:=ae.o W1 6 (k:Int) ab.o;exact b0b (v:=.tuple #[.agg #[sN,sN],.agg #[sN],.agg #[Iv 6,Iv k]]) (a0m results24 _ _ RN RT RF 25 34 37 #[sN,sN] #[sN] #[Iv 6,Iv k] (0,0) (0,0) (0,0) _ _ _ rfl rfl rfl z1 z2 z3 underlying25 underlying34 underlying37 rfl rfl rfl (by rw[a1b];rfl) (by rw[a0T];rfl) (by rw[a0q];rfl)) rfl ⟨z4,Or.inl ⟨by rw[HE.o];exact ah.o,by rw[HE.o]⟩⟩
        ·have HE:Hid (a0P n t ds dn=(6,(k:Int))):=ag.o 6 (by rw[al.o,iN om]) dd;have ah:Hid ((6:Int)≠0):=(show(6:Int)≠0 by decide)
         clear al ag aa;(go_wp2_with fail);rw[<-HZ.o];refine(af.o _ 6 (k:Int) ak.o).mono ?_;rintro e W1 ⟨rfl,ab⟩;obtain⟨⟨p0,p1⟩,p2,⟨p3,p4⟩,⟨q0,q1⟩,q2,q3,q4⟩:=ab.o.cells;(go_wp2_with fail);obtain⟨z1,z2,z3,z4⟩:=ae.o W1 6 (k:Int) ab.o;exact b0b (v:=.tuple #[.agg #[sN,sN],.agg #[sN],.agg #[Iv 6,Iv k]]) (a0m results24 _ _ RN RT RF 25 34 37 #[sN,sN] #[sN] #[Iv 6,Iv k] (0,0) (0,0) (0,0) _ _ _ rfl rfl rfl z1 z2 z3 underlying25 underlying34 underlying37 rfl rfl rfl (by rw[a1b];rfl) (by rw[a0T];rfl) (by rw[a0q];rfl)) rfl ⟨z4,Or.inl ⟨by rw[HE.o];exact ah.o,by rw[HE.o]⟩⟩
        ·have aq:Hid (Tk.errOf n.cn ⟨2,ac,am,dv⟩=0):=(by rw[al.o,iP om];rfl)
         obtain⟨kk,rfl⟩:∃kk:Nat,ac=(kk:Int):=⟨ac.toNat,om⟩
         have az:kk<n.L:=om
         have k0:(0:Int)<=(kk:Int):=om
         have k9:(kk:Int)<(n.L:Int):=om
         obtain⟨gl,el,⟨f6,c6,cH⟩,n2,an⟩:=(aD.o.below au.o.1).link (k:=kk) (x:=5) (val:=.bool true) (s':=s.setUp kk true) az om rfl rfl (λj _ y hy=>lkC_up s kk true j y hy);have HN:Hid ((∀j,j<k+1->Tk.errOf n.cn (ds j)=0)/\∃n' oa oc t',OnS w (Z.setCell (Pv gl (kk*6+5)) (.bool true)) BN BT RN RT RF n M t.length ((n.sc ms).all n.cn ds (k+1)) n' oa oc t'):=aa.o aq.o _ ⟨n2,oa,oc,t',by rw[one_2 s rfl];exact an⟩;rw[el] at n1;rw[HZ.o] at f6 c6;clear al ag aa ae af an el;(go_wp2_with fail);rw[<-HZ.o];exact⟨⟨k+1,aB.o,gn,HN.o.1,HN.o.2⟩,by have:=aB.o;simp[intOf];omega⟩
      ·as_aux_lemma =>
        subst k1;have al:Hid (Tk.errOf n.cn ⟨3,ac,am,dv⟩=if 0<=ac/\ac<=(n.L:Int)-1 then(0) else 6):=by
         rw[ai.o,iN (show ¬(3:Int)=1 by decide),iP (show(3:Int)=2\/(3:Int)=3\/(3:Int)=4 by decide)];rw[iN (show ¬((3:Int)=4/\¬(1<=dv/\dv<=200000)) from λy=>absurd y.1 dd)];exact rfl
        clear ai;rcases(by omega:ac<0\/(¬ac<0/\ac>=(n.L:Int))\/(¬ac<0/\¬ac>=(n.L:Int))) with q1 | ⟨q1,q2⟩ | ⟨q1,q2⟩
        ·have HE:Hid (a0P n t ds dn=(6,(k:Int))):=ag.o 6 (by rw[al.o,iN om]) dd;have ah:Hid ((6:Int)≠0):=(show(6:Int)≠0 by decide)
         clear al ag aa;(go_wp2_with fail);rw[<-HZ.o];refine(af.o _ 6 (k:Int) ak.o).mono ?_;rintro e W1 ⟨rfl,ab⟩;obtain⟨⟨p0,p1⟩,p2,⟨p3,p4⟩,⟨q0,q1⟩,q2,q3,q4⟩:=ab.o.cells;(go_wp2_with fail);obtain⟨z1,z2,z3,z4⟩:=ae.o W1 6 (k:Int) ab.o;exact b0b (v:=.tuple #[.agg #[sN,sN],.agg #[sN],.agg #[Iv 6,Iv k]]) (a0m results24 _ _ RN RT RF 25 34 37 #[sN,sN] #[sN] #[Iv 6,Iv k] (0,0) (0,0) (0,0) _ _ _ rfl rfl rfl z1 z2 z3 underlying25 underlying34 underlying37 rfl rfl rfl (by rw[a1b];rfl) (by rw[a0T];rfl) (by rw[a0q];rfl)) rfl ⟨z4,Or.inl ⟨by rw[HE.o];exact ah.o,by rw[HE.o]⟩⟩
        ·have HE:Hid (a0P n t ds dn=(6,(k:Int))):=ag.o 6 (by rw[al.o,iN om]) dd;have ah:Hid ((6:Int)≠0):=(show(6:Int)≠0 by decide)
         clear al ag aa;(go_wp2_with fail);rw[<-HZ.o];refine(af.o _ 6 (k:Int) ak.o).mono ?_;rintro e W1 ⟨rfl,ab⟩;obtain⟨⟨p0,p1⟩,p2,⟨p3,p4⟩,⟨q0,q1⟩,q2,q3,q4⟩:=ab.o.cells;(go_wp2_with fail);obtain⟨z1,z2,z3,z4⟩:=ae.o W1 6 (k:Int) ab.o;exact b0b (v:=.tuple #[.agg #[sN,sN],.agg #[sN],.agg #[Iv 6,Iv k]]) (a0m results24 _ _ RN RT RF 25 34 37 #[sN,sN] #[sN] #[Iv 6,Iv k] (0,0) (0,0) (0,0) _ _ _ rfl rfl rfl z1 z2 z3 underlying25 underlying34 underlying37 rfl rfl rfl (by rw[a1b];rfl) (by rw[a0T];rfl) (by rw[a0q];rfl)) rfl ⟨z4,Or.inl ⟨by rw[HE.o];exact ah.o,by rw[HE.o]⟩⟩
        ·have aq:Hid (Tk.errOf n.cn ⟨3,ac,am,dv⟩=0):=(by rw[al.o,iP om];rfl)
         obtain⟨kk,rfl⟩:∃kk:Nat,ac=(kk:Int):=⟨ac.toNat,om⟩
         have az:kk<n.L:=om
         have k0:(0:Int)<=(kk:Int):=om
         have k9:(kk:Int)<(n.L:Int):=om
         obtain⟨gl,el,⟨f6,c6,cH⟩,n2,an⟩:=(aD.o.below au.o.1).link (k:=kk) (x:=5) (val:=.bool false) (s':=s.setUp kk false) az om rfl rfl (λj _ y hy=>lkC_up s kk false j y hy);have HN:Hid ((∀j,j<k+1->Tk.errOf n.cn (ds j)=0)/\∃n' oa oc t',OnS w (Z.setCell (Pv gl (kk*6+5)) (.bool false)) BN BT RN RT RF n M t.length ((n.sc ms).all n.cn ds (k+1)) n' oa oc t'):=aa.o aq.o _ ⟨n2,oa,oc,t',by rw[one_3 s rfl];exact an⟩;rw[el] at n1;rw[HZ.o] at f6 c6;clear al ag aa ae af an el;(go_wp2_with fail);rw[<-HZ.o];exact⟨⟨k+1,aB.o,gn,HN.o.1,HN.o.2⟩,by have:=aB.o;simp[intOf];omega⟩
      ·as_aux_lemma =>
        subst k1;have al:Hid (Tk.errOf n.cn ⟨4,ac,am,dv⟩=if 0<=ac/\ac<=(n.L:Int)-1 then(if ¬(1<=dv/\dv<=200000) then 3 else 0) else 6):=by
         rw[ai.o,iN (show ¬(4:Int)=1 by decide),iP (show(4:Int)=2\/(4:Int)=3\/(4:Int)=4 by decide)];by_cases z:¬(1<=dv/\dv<=200000)
         ·rw[iP z,iP (show(4:Int)=4/\¬(1<=dv/\dv<=200000) from⟨rfl,z⟩)];exact rfl
         ·rw[iN z,iN (show ¬((4:Int)=4/\¬(1<=dv/\dv<=200000)) from λy=>z y.2)];exact rfl
        clear ai;rcases(by omega:ac<0\/(¬ac<0/\ac>=(n.L:Int))\/(¬ac<0/\¬ac>=(n.L:Int)/\dv<1)\/(¬ac<0/\¬ac>=(n.L:Int)/\¬dv<1/\dv > 200000)\/(¬ac<0/\¬ac>=(n.L:Int)/\¬dv<1/\¬dv > 200000)) with q1 | ⟨q1,q2⟩ | ⟨q1,q2,q3⟩ | ⟨q1,q2,q3,q4⟩ | ⟨q1,q2,q3,q4⟩
        ·have HE:Hid (a0P n t ds dn=(6,(k:Int))):=ag.o 6 (by rw[al.o,iN om]) dd;have ah:Hid ((6:Int)≠0):=(show(6:Int)≠0 by decide)
         clear al ag aa;(go_wp2_with fail);rw[<-HZ.o];refine(af.o _ 6 (k:Int) ak.o).mono ?_;rintro e W1 ⟨rfl,ab⟩;obtain⟨⟨p0,p1⟩,p2,⟨p3,p4⟩,⟨q0,q1⟩,q2,q3,q4⟩:=ab.o.cells;(go_wp2_with fail);obtain⟨z1,z2,z3,z4⟩:=ae.o W1 6 (k:Int) ab.o;exact b0b (v:=.tuple #[.agg #[sN,sN],.agg #[sN],.agg #[Iv 6,Iv k]]) (a0m results24 _ _ RN RT RF 25 34 37 #[sN,sN] #[sN] #[Iv 6,Iv k] (0,0) (0,0) (0,0) _ _ _ rfl rfl rfl z1 z2 z3 underlying25 underlying34 underlying37 rfl rfl rfl (by rw[a1b];rfl) (by rw[a0T];rfl) (by rw[a0q];rfl)) rfl ⟨z4,Or.inl ⟨by rw[HE.o];exact ah.o,by rw[HE.o]⟩⟩
        ·have HE:Hid (a0P n t ds dn=(6,(k:Int))):=ag.o 6 (by rw[al.o,iN om]) dd;have ah:Hid ((6:Int)≠0):=(show(6:Int)≠0 by decide)
         clear al ag aa;(go_wp2_with fail);rw[<-HZ.o];refine(af.o _ 6 (k:Int) ak.o).mono ?_;rintro e W1 ⟨rfl,ab⟩;obtain⟨⟨p0,p1⟩,p2,⟨p3,p4⟩,⟨q0,q1⟩,q2,q3,q4⟩:=ab.o.cells;(go_wp2_with fail);obtain⟨z1,z2,z3,z4⟩:=ae.o W1 6 (k:Int) ab.o;exact b0b (v:=.tuple #[.agg #[sN,sN],.agg #[sN],.agg #[Iv 6,Iv k]]) (a0m results24 _ _ RN RT RF 25 34 37 #[sN,sN] #[sN] #[Iv 6,Iv k] (0,0) (0,0) (0,0) _ _ _ rfl rfl rfl z1 z2 z3 underlying25 underlying34 underlying37 rfl rfl rfl (by rw[a1b];rfl) (by rw[a0T];rfl) (by rw[a0q];rfl)) rfl ⟨z4,Or.inl ⟨by rw[HE.o];exact ah.o,by rw[HE.o]⟩⟩
        ·have HE:Hid (a0P n t ds dn=(3,(k:Int))):=ag.o 3 (by rw[al.o,iP om,iP om]) dd;have ah:Hid ((3:Int)≠0):=(show(3:Int)≠0 by decide)
         clear al ag aa;(go_wp2_with fail);rw[<-HZ.o];refine(af.o _ 3 (k:Int) ak.o).mono ?_;rintro e W1 ⟨rfl,ab⟩;obtain⟨⟨p0,p1⟩,p2,⟨p3,p4⟩,⟨q0,q1⟩,q2,q3,q4⟩:=ab.o.cells;(go_wp2_with fail);obtain⟨z1,z2,z3,z4⟩:=ae.o W1 3 (k:Int) ab.o;exact b0b (v:=.tuple #[.agg #[sN,sN],.agg #[sN],.agg #[Iv 3,Iv k]]) (a0m results24 _ _ RN RT RF 25 34 37 #[sN,sN] #[sN] #[Iv 3,Iv k] (0,0) (0,0) (0,0) _ _ _ rfl rfl rfl z1 z2 z3 underlying25 underlying34 underlying37 rfl rfl rfl (by rw[a1b];rfl) (by rw[a0T];rfl) (by rw[a0q];rfl)) rfl ⟨z4,Or.inl ⟨by rw[HE.o];exact ah.o,by rw[HE.o]⟩⟩
        ·have HE:Hid (a0P n t ds dn=(3,(k:Int))):=ag.o 3 (by rw[al.o,iP om,iP om]) dd;have ah:Hid ((3:Int)≠0):=(show(3:Int)≠0 by decide)
         clear al ag aa;(go_wp2_with fail);rw[<-HZ.o];refine(af.o _ 3 (k:Int) ak.o).mono ?_;rintro e W1 ⟨rfl,ab⟩;obtain⟨⟨p0,p1⟩,p2,⟨p3,p4⟩,⟨q0,q1⟩,q2,q3,q4⟩:=ab.o.cells;(go_wp2_with fail);obtain⟨z1,z2,z3,z4⟩:=ae.o W1 3 (k:Int) ab.o;exact b0b (v:=.tuple #[.agg #[sN,sN],.agg #[sN],.agg #[Iv 3,Iv k]]) (a0m results24 _ _ RN RT RF 25 34 37 #[sN,sN] #[sN] #[Iv 3,Iv k] (0,0) (0,0) (0,0) _ _ _ rfl rfl rfl z1 z2 z3 underlying25 underlying34 underlying37 rfl rfl rfl (by rw[a1b];rfl) (by rw[a0T];rfl) (by rw[a0q];rfl)) rfl ⟨z4,Or.inl ⟨by rw[HE.o];exact ah.o,by rw[HE.o]⟩⟩
        ·have aq:Hid (Tk.errOf n.cn ⟨4,ac,am,dv⟩=0):=(by rw[al.o,iP om,iN om];rfl)
         obtain⟨kk,rfl⟩:∃kk:Nat,ac=(kk:Int):=⟨ac.toNat,om⟩
         have az:kk<n.L:=om
         have k0:(0:Int)<=(kk:Int):=om
         have k9:(kk:Int)<(n.L:Int):=om
         obtain⟨gl,el,⟨f6,c6,cH⟩,n2,an⟩:=(aD.o.below au.o.1).link (k:=kk) (x:=4) (val:=Iv dv) (s':=s.setCost kk dv) az om rfl rfl (λj _ y hy=>lkC_cost s kk dv j y hy);have HN:Hid ((∀j,j<k+1->Tk.errOf n.cn (ds j)=0)/\∃n' oa oc t',OnS w (Z.setCell (Pv gl (kk*6+4)) (Iv dv)) BN BT RN RT RF n M t.length ((n.sc ms).all n.cn ds (k+1)) n' oa oc t'):=aa.o aq.o _ ⟨n2,oa,oc,t',by rw[one_4 s rfl];exact an⟩;rw[el] at n1;rw[HZ.o] at f6 c6;clear al ag aa ae af an el;(go_wp2_with fail);rw[<-HZ.o];exact⟨⟨k+1,aB.o,gn,HN.o.1,HN.o.2⟩,by have:=aB.o;simp[intOf];omega⟩
      ·subst k1;have aj:Hid (Tk.errOf n.cn ⟨5,ac,am,dv⟩=if 0<=ac/\ac<=(n.K:Int)-1 then(if (0<=am/\am<=15)/\Pl.oddP dv=false then 0 else 3) else 6):=by
        rw[ai.o,iN (show ¬(5:Int)=1 by decide),iN (show ¬((5:Int)=2\/(5:Int)=3\/(5:Int)=4) by decide),iP (show(5:Int)=5 from rfl)];exact rfl
       clear ai;rcases(by omega:ac<0\/(¬ac<0/\ac>=(n.K:Int))\/(¬ac<0/\¬ac>=(n.K:Int)/\am<0)\/(¬ac<0/\¬ac>=(n.K:Int)/\¬am<0/\am > 15)\/(¬ac<0/\¬ac>=(n.K:Int)/\¬am<0/\¬am > 15/\dv<0)\/(¬ac<0/\¬ac>=(n.K:Int)/\¬am<0/\¬am > 15/\¬dv<0/\dv > 61440)\/(¬ac<0/\¬ac>=(n.K:Int)/\¬am<0/\¬am > 15/\¬dv<0/\¬dv > 61440)) with q1 | ⟨q1,q2⟩ | ⟨q1,q2,q3⟩ | ⟨q1,q2,q3,q4⟩ | ⟨q1,q2,q3,q4,q5⟩ | ⟨q1,q2,q3,q4,q5,q6⟩ | ⟨q1,q2,q3,q4,q5,q6⟩
       ·as_aux_lemma =>
         have HE:Hid (a0P n t ds dn=(6,(k:Int))):=ag.o 6 (by rw[aj.o,iN om]) dd;have ah:Hid ((6:Int)≠0):=(show(6:Int)≠0 by decide)
         clear aj ag aa;(go_wp2_with fail);rw[<-HZ.o];refine(af.o _ 6 (k:Int) ak.o).mono ?_;rintro e W1 ⟨rfl,ab⟩;obtain⟨⟨p0,p1⟩,p2,⟨p3,p4⟩,⟨q0,q1⟩,q2,q3,q4⟩:=ab.o.cells;(go_wp2_with fail);obtain⟨z1,z2,z3,z4⟩:=ae.o W1 6 (k:Int) ab.o;exact b0b (v:=.tuple #[.agg #[sN,sN],.agg #[sN],.agg #[Iv 6,Iv k]]) (a0m results24 _ _ RN RT RF 25 34 37 #[sN,sN] #[sN] #[Iv 6,Iv k] (0,0) (0,0) (0,0) _ _ _ rfl rfl rfl z1 z2 z3 underlying25 underlying34 underlying37 rfl rfl rfl (by rw[a1b];rfl) (by rw[a0T];rfl) (by rw[a0q];rfl)) rfl ⟨z4,Or.inl ⟨by rw[HE.o];exact ah.o,by rw[HE.o]⟩⟩
       ·as_aux_lemma =>
         have HE:Hid (a0P n t ds dn=(6,(k:Int))):=ag.o 6 (by rw[aj.o,iN om]) dd;have ah:Hid ((6:Int)≠0):=(show(6:Int)≠0 by decide)
         clear aj ag aa;(go_wp2_with fail);rw[<-HZ.o];refine(af.o _ 6 (k:Int) ak.o).mono ?_;rintro e W1 ⟨rfl,ab⟩;obtain⟨⟨p0,p1⟩,p2,⟨p3,p4⟩,⟨q0,q1⟩,q2,q3,q4⟩:=ab.o.cells;(go_wp2_with fail);obtain⟨z1,z2,z3,z4⟩:=ae.o W1 6 (k:Int) ab.o;exact b0b (v:=.tuple #[.agg #[sN,sN],.agg #[sN],.agg #[Iv 6,Iv k]]) (a0m results24 _ _ RN RT RF 25 34 37 #[sN,sN] #[sN] #[Iv 6,Iv k] (0,0) (0,0) (0,0) _ _ _ rfl rfl rfl z1 z2 z3 underlying25 underlying34 underlying37 rfl rfl rfl (by rw[a1b];rfl) (by rw[a0T];rfl) (by rw[a0q];rfl)) rfl ⟨z4,Or.inl ⟨by rw[HE.o];exact ah.o,by rw[HE.o]⟩⟩
       ·as_aux_lemma =>
         have HE:Hid (a0P n t ds dn=(3,(k:Int))):=ag.o 3 (by rw[aj.o,iP om,iN (λz=>by have:=z.1;omega)]) dd;have ah:Hid ((3:Int)≠0):=(show(3:Int)≠0 by decide)
         clear aj ag aa;(go_wp2_with fail);rw[<-HZ.o];refine(af.o _ 3 (k:Int) ak.o).mono ?_;rintro e W1 ⟨rfl,ab⟩;obtain⟨⟨p0,p1⟩,p2,⟨p3,p4⟩,⟨q0,q1⟩,q2,q3,q4⟩:=ab.o.cells;(go_wp2_with fail);obtain⟨z1,z2,z3,z4⟩:=ae.o W1 3 (k:Int) ab.o;exact b0b (v:=.tuple #[.agg #[sN,sN],.agg #[sN],.agg #[Iv 3,Iv k]]) (a0m results24 _ _ RN RT RF 25 34 37 #[sN,sN] #[sN] #[Iv 3,Iv k] (0,0) (0,0) (0,0) _ _ _ rfl rfl rfl z1 z2 z3 underlying25 underlying34 underlying37 rfl rfl rfl (by rw[a1b];rfl) (by rw[a0T];rfl) (by rw[a0q];rfl)) rfl ⟨z4,Or.inl ⟨by rw[HE.o];exact ah.o,by rw[HE.o]⟩⟩
       ·as_aux_lemma =>
         have HE:Hid (a0P n t ds dn=(3,(k:Int))):=ag.o 3 (by rw[aj.o,iP om,iN (λz=>by have:=z.1;omega)]) dd;have ah:Hid ((3:Int)≠0):=(show(3:Int)≠0 by decide)
         clear aj ag aa;(go_wp2_with fail);rw[<-HZ.o];refine(af.o _ 3 (k:Int) ak.o).mono ?_;rintro e W1 ⟨rfl,ab⟩;obtain⟨⟨p0,p1⟩,p2,⟨p3,p4⟩,⟨q0,q1⟩,q2,q3,q4⟩:=ab.o.cells;(go_wp2_with fail);obtain⟨z1,z2,z3,z4⟩:=ae.o W1 3 (k:Int) ab.o;exact b0b (v:=.tuple #[.agg #[sN,sN],.agg #[sN],.agg #[Iv 3,Iv k]]) (a0m results24 _ _ RN RT RF 25 34 37 #[sN,sN] #[sN] #[Iv 3,Iv k] (0,0) (0,0) (0,0) _ _ _ rfl rfl rfl z1 z2 z3 underlying25 underlying34 underlying37 rfl rfl rfl (by rw[a1b];rfl) (by rw[a0T];rfl) (by rw[a0q];rfl)) rfl ⟨z4,Or.inl ⟨by rw[HE.o];exact ah.o,by rw[HE.o]⟩⟩
       ·as_aux_lemma =>
         have HE:Hid (a0P n t ds dn=(3,(k:Int))):=ag.o 3 (by rw[aj.o,iP om,iN (λz=>by have z2:=z.2;unfold Pl.oddP at z2;rw[b0j (show ¬(0<=dv/\dv<=61440) by omega)] at z2;cases z2)]) dd;have ah:Hid ((3:Int)≠0):=(show(3:Int)≠0 by decide)
         clear aj ag aa;(go_wp2_with fail);rw[<-HZ.o];refine(af.o _ 3 (k:Int) ak.o).mono ?_;rintro e W1 ⟨rfl,ab⟩;obtain⟨⟨p0,p1⟩,p2,⟨p3,p4⟩,⟨q0,q1⟩,q2,q3,q4⟩:=ab.o.cells;(go_wp2_with fail);obtain⟨z1,z2,z3,z4⟩:=ae.o W1 3 (k:Int) ab.o;exact b0b (v:=.tuple #[.agg #[sN,sN],.agg #[sN],.agg #[Iv 3,Iv k]]) (a0m results24 _ _ RN RT RF 25 34 37 #[sN,sN] #[sN] #[Iv 3,Iv k] (0,0) (0,0) (0,0) _ _ _ rfl rfl rfl z1 z2 z3 underlying25 underlying34 underlying37 rfl rfl rfl (by rw[a1b];rfl) (by rw[a0T];rfl) (by rw[a0q];rfl)) rfl ⟨z4,Or.inl ⟨by rw[HE.o];exact ah.o,by rw[HE.o]⟩⟩
       ·as_aux_lemma =>
         have HE:Hid (a0P n t ds dn=(3,(k:Int))):=ag.o 3 (by rw[aj.o,iP om,iN (λz=>by have z2:=z.2;unfold Pl.oddP at z2;rw[b0j (show ¬(0<=dv/\dv<=61440) by omega)] at z2;cases z2)]) dd;have ah:Hid ((3:Int)≠0):=(show(3:Int)≠0 by decide)
         clear aj ag aa;(go_wp2_with fail);rw[<-HZ.o];refine(af.o _ 3 (k:Int) ak.o).mono ?_;rintro e W1 ⟨rfl,ab⟩;obtain⟨⟨p0,p1⟩,p2,⟨p3,p4⟩,⟨q0,q1⟩,q2,q3,q4⟩:=ab.o.cells;(go_wp2_with fail);obtain⟨z1,z2,z3,z4⟩:=ae.o W1 3 (k:Int) ab.o;exact b0b (v:=.tuple #[.agg #[sN,sN],.agg #[sN],.agg #[Iv 3,Iv k]]) (a0m results24 _ _ RN RT RF 25 34 37 #[sN,sN] #[sN] #[Iv 3,Iv k] (0,0) (0,0) (0,0) _ _ _ rfl rfl rfl z1 z2 z3 underlying25 underlying34 underlying37 rfl rfl rfl (by rw[a1b];rfl) (by rw[a0T];rfl) (by rw[a0q];rfl)) rfl ⟨z4,Or.inl ⟨by rw[HE.o];exact ah.o,by rw[HE.o]⟩⟩
       ·rw[iP om] at aj;have hr:dv.tmod 4096=dv%4096:=Int.tmod_eq_emod_of_nonneg om;by_cases v3:dv%4096=0
        ·have hd:(dv.tmod 4096 != 0)=false:=(by rw[hr];simp[v3])
         have aq:Hid (Tk.errOf n.cn ⟨5,ac,am,dv⟩=0):=by
          rw[aj.o,iP ⟨⟨om,om⟩,by unfold Pl.oddP;rw[b0k ⟨om,om⟩,b0j (by simp[v3])];rfl⟩];rfl
         obtain⟨kk,rfl⟩:∃kk:Nat,ac=(kk:Int):=⟨ac.toNat,om⟩
         obtain⟨tt,rfl⟩:∃tt:Nat,am=(tt:Int):=⟨am.toNat,om⟩
         have az:kk<n.K:=om
         have dD:tt<=15:=om
         have k0:(0:Int)<=(kk:Int):=om
         have k9:(kk:Int)<(n.K:Int):=om
         obtain⟨gb,eb,ck,_,cb,cL,bf,dr⟩:=(aD.o.below au.o.1).prios az;have co:(s.pr kk).length<=16:=(aC.o.1.fine.prios kk az).1;obtain⟨pa,pc,Wp,rp,op,bp⟩:=cp_int cL bf om;have bg:=keep au.o.2 (bp:Bl Z Wp);have cD:Hid (∀V,Bl Z V->(V.cell? (Pv U.heap.size 1)=some (Iv kk)/\V.cell? (Pv U.heap.size 2)=some (Iv tt)/\V.cell? (Pv U.heap.size 3)=some (Iv dv))/\(V.cell? (Pv BN 0)=some (.slice (some (Pv gb 0)) n.K n'.bcap))/\V.frozen? (Pv gb (kk*5+1))=false/\(V.cell? (Pv gb (kk*5+1))=some (.slice (n'.bs kk).pao (s.pr kk).length (n'.bs kk).pcap))/\Bl U V):=λV hV=>by
          obtain⟨_,x1,x2,x3⟩:=a4b (keep au.o.2 hV);have a7:=au.o.1.trans (hV.mono au.o.1.size);have cG:=aD.o.below a7;obtain⟨cS,aW,_,f2,cQ,_,_,_⟩:=cG.prios az;have c7:cS=gb:=(by rw[eb] at aW;injection aW with aW;injection aW with aW;exact aW.symm)
          subst c7;obtain⟨m0,_⟩:=tC2 cG.bxN;rw[z1,eb] at m0;exact⟨⟨x1,x2,x3⟩,m0,f2,cQ,a7⟩
         have cV:Hid (n'.bao=some (Pv gb 0)):=eb;rw[eb] at n0;have c9:gb<U.heap.size+1:=by
          have h1:Z.heap.size=U.heap.size+1:=(by rw[HZ.o];simp)
          omega
         have dI:BN<U.heap.size+1:=(by have:=b0.o.1;omega)
         have cP:Hid (gb<Z.heap.size):=ck;rw[HZ.o] at cb;have bZ:Z.heap.size=U.heap.size+1:=(by rw[HZ.o];simp)
         rw[bZ] at rp;have bW:Hid _:=rp;rw[HZ.o] at bW;have H0:Hid (Wp.ownsRow Z.heap.size 3 1 (.slice pa (s.pr kk++List.replicate 0 32768).length pc) (s.pr kk++List.replicate 0 32768).length (a0j (s.pr kk++List.replicate 0 32768))/\Bl Z Wp):=by
          rw[List.replicate_zero,List.append_nil];exact⟨op,bp⟩
         have dm:n'.lao=n'.lao:=rfl;clear bZ aj ag ae af cL bf rp op bp bg eb ck;go_wp2_with (at_builtin;refine a0a rfl (.tmp 210) (.tmp 217) 52 rfl _ _ _ rfl rfl bW.o ?_)
         clear bW n0 n1 y0 d0 d1 d2 d3 c0 c1 c2 c3 cb;go_loopw [15] (λb8 wr=>∃(m:Nat) (ao:OA) (cap:Nat),m<=tt+1-(s.pr kk).length/\b8=.slice ao (s.pr kk++List.replicate m 32768).length cap/\Hid (wr.ownsRow Z.heap.size 3 1 (.slice ao (s.pr kk++List.replicate m 32768).length cap) (s.pr kk++List.replicate m 32768).length (a0j (s.pr kk++List.replicate m 32768))/\Bl Z wr)) (λb8 _=>match b8 with | .slice _ l _=>tt+1-l | _=>0)
         case atStart=>exact⟨0,pa,pc,om,by rw[List.replicate_zero,List.append_nil],H0⟩
         case round =>
          clear H0;obtain⟨m,ao,cap,hm,rfl,hW⟩:=hrel;obtain⟨⟨x1,x2,x3⟩,m0,f2,c5,a7⟩:=cD.o wr hW.o.2;have av:(s.pr kk++List.replicate m (32768:Int)).length=(s.pr kk).length+m:=(by simp)
          have wt:IntKind.i64.wrap ((tt:Int)+1)=(tt:Int)+1:=(by rw[IntKind.wrap_i64];omega)
          by_cases hmm:(s.pr kk).length+m<tt+1
          ·have a4:((s.pr kk++List.replicate m (32768:Int)).length:Int)<(tt:Int)+1:=(by rw[av];omega)
           obtain⟨a1,c1,W2,r,bJ,cj⟩:=a3A hW.o.1 hW.o.2.size (by rw[av];omega) 32768;have cl:s.pr kk++List.replicate m (32768:Int)++[32768]=s.pr kk++List.replicate (m+1) 32768:=(by rw[List.replicate_succ',List.append_assoc])
           rw[cl] at r bJ;have HN:Hid (W2.ownsRow Z.heap.size 3 1 (.slice a1 (s.pr kk++List.replicate (m+1) 32768).length c1) (s.pr kk++List.replicate (m+1) 32768).length (a0j (s.pr kk++List.replicate (m+1) 32768))/\Bl Z W2):=⟨bJ,hW.o.2.trans cj⟩
           have aw:Hid _:=r;have cz:Hid ((s.pr kk++List.replicate m (32768:Int)).length=(s.pr kk).length+m/\(s.pr kk++List.replicate (m+1) (32768:Int)).length=(s.pr kk).length+(m+1)):=⟨av,by simp⟩
           clear av r bJ cj cl hW;generalize s.pr kk++List.replicate m (32768:Int)=p0 at *;go_wp2_with (at_builtin;refine a0a rfl (.tmp 225) (.tmp 226) 52 rfl _ _ _ rfl rfl aw.o ?_)
           exact⟨⟨m+1,a1,c1,om,by rw[cz.o.2],HN⟩,by have:=cz.o;simp only;omega⟩
          ·have a4:¬((s.pr kk++List.replicate m (32768:Int)).length:Int)<(tt:Int)+1:=(by rw[av];omega)
           have aO:s.pr kk++List.replicate m (32768:Int)=Tk.padTo (s.pr kk) tt:=(by unfold Tk.padTo;congr 2;omega)
           have hO:=hW.o.1;have cX:=hW.o.2;have cJ:tt<(Tk.padTo (s.pr kk) tt).length:=(by rw[<-aO,av];omega)
           rw[aO] at hO a4 ⊢;obtain⟨gp,cR,dB,ct,f6,c6,bm⟩:=int_put hO cJ dv;subst cR;have cU:=au.o.1.size;have du:U.heap.size<Z.heap.size:=a1a au.o.2;have dG:=b0.o;have df:gb<Z.heap.size:=cP.o;have n5:BN≠gp:=om
           have n6:gp≠BN:=om
           have n7:U.heap.size≠gp:=om
           have n8:gp≠U.heap.size:=om
           have n9:gb≠gp:=om
           have dw:gp≠gb:=om
           have t0:(0:Int)<=(tt:Int):=om
           have t9:(tt:Int)<((Tk.padTo (s.pr kk) tt).length:Int):=om
           have cC:Bl U (wr.setCell (Pv gp tt) (Iv dv)):=a7.setCell (show U.heap.size<=gp by omega) _;obtain⟨cp,e3,_,n2,b5⟩:=aD.o.prio (tr:=tt) (v:=dv) az cC (a0v bm cU);have e4:cp=gb:=(by rw[cV.o] at e3;injection e3 with e3;injection e3 with e3;exact e3.symm)
           subst e4;have cv:(Tk.setPr (s.pr kk) tt dv).length=(Tk.padTo (s.pr kk) tt).length:=(by unfold Tk.setPr;rw[List.length_set])
           rw[cv] at b5;have HN:Hid ((∀j,j<k+1->Tk.errOf n.cn (ds j)=0)/\∃n' oa oc t',OnS w ((wr.setCell (Pv gp tt) (Iv dv)).setCell (Pv cp (kk*5+1)) (.slice (some (Pv gp 0)) (Tk.padTo (s.pr kk) tt).length cap)) BN BT RN RT RF n M t.length ((n.sc ms).all n.cn ds (k+1)) n' oa oc t'):=aa.o aq.o _ ⟨n2,oa,oc,t',by rw[one_5 s rfl];exact b5⟩;clear hW hO cX cJ bm b5 cC a7 aO av cv aa cD;generalize Tk.padTo (s.pr kk) tt=p0 at *;(go_wp2_with fail);exact⟨⟨k+1,aB.o,gn,HN.o.1,HN.o.2⟩,by have:=aB.o;simp[intOf];omega⟩
        ·have hd:(dv.tmod 4096 != 0)=true:=(by rw[hr];simp[v3])
         have HE:Hid (a0P n t ds dn=(3,(k:Int))):=ag.o 3 (by rw[aj.o,iN (λz=>by have z2:=z.2;unfold Pl.oddP at z2;rw[b0k (show dv%4096≠0 from v3),Bool.or_true] at z2;cases z2)]) dd;have ah:Hid ((3:Int)≠0):=(show(3:Int)≠0 by decide)
         clear aj ag aa;(go_wp2_with fail);rw[<-HZ.o];refine(af.o _ 3 (k:Int) ak.o).mono ?_;rintro e W1 ⟨rfl,ab⟩;obtain⟨⟨p0,p1⟩,p2,⟨p3,p4⟩,⟨q0,q1⟩,q2,q3,q4⟩:=ab.o.cells;(go_wp2_with fail);obtain⟨z1,z2,z3,z4⟩:=ae.o W1 3 (k:Int) ab.o;exact b0b (v:=.tuple #[.agg #[sN,sN],.agg #[sN],.agg #[Iv 3,Iv k]]) (a0m results24 _ _ RN RT RF 25 34 37 #[sN,sN] #[sN] #[Iv 3,Iv k] (0,0) (0,0) (0,0) _ _ _ rfl rfl rfl z1 z2 z3 underlying25 underlying34 underlying37 rfl rfl rfl (by rw[a1b];rfl) (by rw[a0T];rfl) (by rw[a0q];rfl)) rfl ⟨z4,Or.inl ⟨by rw[HE.o];exact ah.o,by rw[HE.o]⟩⟩
      ·as_aux_lemma =>
        have e1:(dk == 1)=false:=(by simp[k1])
        have e2:(dk == 2)=false:=(by simp[k2])
        have e3:(dk == 3)=false:=(by simp[k3])
        have e4:(dk == 4)=false:=(by simp[k4])
        have e5:(dk == 5)=false:=(by simp[k5])
        have HE:Hid (a0P n t ds dn=(1,(k:Int))):=ag.o 1 (by rw[ai.o,iN k1,iN om,iN k5]) dd;have ah:Hid ((1:Int)≠0):=(show(1:Int)≠0 by decide)
        clear ai ag aa;(go_wp2_with fail);rw[<-HZ.o];refine(af.o _ 1 (k:Int) ak.o).mono ?_;rintro e W1 ⟨rfl,ab⟩;obtain⟨⟨p0,p1⟩,p2,⟨p3,p4⟩,⟨q0,q1⟩,q2,q3,q4⟩:=ab.o.cells;(go_wp2_with fail);obtain⟨z1,z2,z3,z4⟩:=ae.o W1 1 (k:Int) ab.o;exact b0b (v:=.tuple #[.agg #[sN,sN],.agg #[sN],.agg #[Iv 1,Iv k]]) (a0m results24 _ _ RN RT RF 25 34 37 #[sN,sN] #[sN] #[Iv 1,Iv k] (0,0) (0,0) (0,0) _ _ _ rfl rfl rfl z1 z2 z3 underlying25 underlying34 underlying37 rfl rfl rfl (by rw[a1b];rfl) (by rw[a0T];rfl) (by rw[a0q];rfl)) rfl ⟨z4,Or.inl ⟨by rw[HE.o];exact ah.o,by rw[HE.o]⟩⟩
     ·as_aux_lemma =>
       obtain rfl:k=dn:=om
       obtain⟨z1,z2,_⟩:=ar.sizes;obtain⟨n0,n1⟩:=tC2 ar.bxN;have y0:=a0x ar.bxT;rw[z1] at n0;rw[z2] at n1;obtain⟨⟨p0,p1⟩,p2,⟨p3,p4⟩,⟨q0,q1⟩,q2,q3,q4⟩:=ar.rb.cells;have cN:Hid ((a0P n t ds k).1=0):=by
        rw[bK.o];exact(congrArg Prod.fst (Pl.firstTo_all _ _ hZ.o))
       have bO:Hid (∀V,(∀q,q≠RN->q≠RT->q≠RF->V.heap[q]?=U.heap[q]?)->V.heap.size=U.heap.size->Bl w V->RonW w N n t ms ds k (.returned (.tuple #[.agg #[.slice n'.bao n.K n'.bcap,.slice n'.lao n.L n'.lcap],.agg #[.slice oa t'.length oc],.agg #[Iv 0,Iv 0]])) V):=λV h1 h2 h3=>by
        refine⟨h3,Or.inr ⟨cN.o,n',oa,oc,t',?_,ar.out a9.o bS.o ax ce.o.1 cs.o h2 h1 ce.o.2⟩⟩;unfold Pl.Net.val;rw[z1,z2]
       have aw:Hid (RB w U RN RT RF):=ar.rb;have bQ:=ap.o;have m1:BN≠RN:=om
       have m2:BN≠RT:=om
       have m3:BN≠RF:=om
       have m4:BT≠RN:=om
       have m5:BT≠RT:=om
       have m6:BT≠RF:=om
       have m7:=m1.symm;have m8:=m2.symm;have m9:=m3.symm;have dC:=m4.symm;have dq:=m5.symm;have dx:=m6.symm;have c4:w.heap.size<=RN:=om
       have cT:w.heap.size<=RT:=om
       have cW:w.heap.size<=RF:=om
       have c8:=ca.symm;have di:=b6.symm;have cO:=bF.symm;have bY:Hid (w.heap.size<=RN/\w.heap.size<=RT/\w.heap.size<=RF):=⟨c4,cT,cW⟩
       clear hS hZ ar ax bE bK bB bQ z1 z2;(go_wp2_with fail);go_region
       (all_goals go_wp2_with fail);all_goals
        refine b0b (v:=.tuple #[.agg #[.slice n'.bao n.K n'.bcap,.slice n'.lao n.L n'.lcap],.agg #[.slice oa t'.length oc],.agg #[Iv 0,Iv 0]]) (a0m results24 _ _ RN RT RF 25 34 37 #[.slice n'.bao n.K n'.bcap,.slice n'.lao n.L n'.lcap] #[.slice oa t'.length oc] #[Iv 0,Iv 0] (0,0) (0,0) (0,0) _ _ _ rfl rfl rfl ?h1 ?h2 ?h3 underlying25 underlying34 underlying37 rfl rfl rfl ?i1 ?i2 ?i3) rfl ?post
        case h1=>repeat(first | (with_reducible refine a0w ?_) | (with_reducible exact aw.o.n) | (with_reducible exact keep aw.o.n (a0d (b0h _ _) _)) | (with_reducible exact keep aw.o.n (b0i (b0h _ _))) | (with_reducible refine a0i (a0:=sN) (a1:=sN) ?_) | (with_reducible refine a0o ?_ ca) | (with_reducible refine a0o ?_ b6))
        case h2=>repeat(first | (with_reducible refine a0w ?_) | (with_reducible exact aw.o.t) | (with_reducible exact keep aw.o.t (a0d (b0h _ _) _)) | (with_reducible exact keep aw.o.t (b0i (b0h _ _))) | (with_reducible refine a1o (a0:=sN) ?_) | (with_reducible refine a0o ?_ c8) | (with_reducible refine a0o ?_ bF))
        case h3=>repeat(first | (with_reducible refine a0w ?_) | (with_reducible exact aw.o.f) | (with_reducible exact keep aw.o.f (a0d (b0h _ _) _)) | (with_reducible exact keep aw.o.f (b0i (b0h _ _))) | (with_reducible refine a0i (a0:=Iv 0) (a1:=Iv 0) ?_) | (with_reducible refine a0o ?_ di) | (with_reducible refine a0o ?_ cO))
        case i1=>rw[a1b];try rfl
        case i2=>rw[a0T];try rfl
        case i3=>rw[a0q];try rfl
        case post =>
         refine bO.o _ ?_ ?_ ?_
         ·repeat(first | (with_reducible refine but_drew ?_) | (with_reducible refine but_drewN ?_) | (with_reducible refine but_set1 ?_) | (with_reducible refine but_set2 ?_) | (with_reducible refine but_set3 ?_) | (exact(λ_ _ _ _=>rfl)))
         ·simp
         ·repeat(first | (with_reducible refine b0i ?_) | (with_reducible exact aw.o.low) | (with_reducible exact a0d aw.o.low _) | (with_reducible refine Below.setCell ?_ bY.o.1 _) | (with_reducible refine Below.setCell ?_ bY.o.2.1 _) | (with_reducible refine Below.setCell ?_ bY.o.2.2 _))
 ·as_aux_lemma =>
   have HE:Hid (a0P n t ds dn=(n.wrong.1,n.wrong.2)):=by
    have e:wrT n t dn=n.wrong:=iP q;show(if (wrT n t dn).1≠0 then wrT n t dn else Tk.errTo n.cn ds dn)=_;rw[e,iP q]
   have ah:Hid (n.wrong.1≠0):=q;have ak:Hid (RB w V1 RN RT RF):=aU.o V1 bj;have dl:(n.wrong.1 != 0)=true:=(by simpa using q)
   clear bj bu bR bB a9 a2 be bl a3 aX aU q;generalize n.wrong.1=E1 at *;generalize n.wrong.2=E2 at *;(go_wp2_with fail);rw[<-aV.o];refine(af.o _ E1 E2 ak.o).mono ?_;rintro e W1 ⟨rfl,ab⟩;obtain⟨⟨p0,p1⟩,p2,⟨p3,p4⟩,⟨q0,q1⟩,q2,q3,q4⟩:=ab.o.cells;(go_wp2_with fail);obtain⟨z1,z2,z3,z4⟩:=ae.o W1 E1 E2 ab.o;exact b0b (v:=.tuple #[.agg #[sN,sN],.agg #[sN],.agg #[Iv E1,Iv E2]]) (a0m results24 _ _ RN RT RF 25 34 37 #[sN,sN] #[sN] #[Iv E1,Iv E2] (0,0) (0,0) (0,0) _ _ _ rfl rfl rfl z1 z2 z3 underlying25 underlying34 underlying37 rfl rfl rfl (by rw[a1b];rfl) (by rw[a0T];rfl) (by rw[a0q];rfl)) rfl ⟨z4,Or.inl ⟨by rw[HE.o];exact ah.o,by rw[HE.o]⟩⟩
