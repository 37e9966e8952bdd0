/- TO3e -/
import Derived.Test.YtelebnancdjjiaaGreatDoorE24c
import Derived.Test.YtelebnancdjjiaaGreatDoorE22
import Derived.Test.YtelebnancdjjiaaGreatDoorE20
set_option maxRecDepth 100000
set_option maxHeartbeats 40000000
namespace Go.Proofs.YtelebnancdjjiaaGreatDoor
section
open Go.Proofs.Tryz Go.RowKit
open Vc(V Of)
open Pl(En Lk Br Net Pc)
open Tk(Md Mnd Cn Sc Dn)
open Rl(F O)
open Bk(E at')
def On0W (w:World) (n:Net) (t:List Tr) (e:Ending) (w':World):Prop:=∃na nk nc la lk lc oa ol oc,e=.returned (.tuple #[.agg #[.slice na nk nc,.slice la lk lc],.agg #[.slice oa ol oc],.agg #[Iv (wrT n t 0).1,Iv (wrT n t 0).2]])/\Bl w w'
theorem ton0_any (n:Net) (oao:OA) (ocap:Nat) (t:List Tr) (w:World) (aq:n.Wf) (aw:n.at' w) (ay:TrRow w oao ocap t) (aE:Tabs w) (ar:2<=w.heap.size) :
  Calls prog 42 #[n.val,.agg #[.slice oao t.length ocap],sN] w λe w'=>On0W w n t e w':=by
 obtain⟨X2,ae⟩:=nm ((w.alloc (.cells #[.slice n.bao n.K n.bcap,.slice n.lao n.L n.lcap] 25)).alloc (.cells #[.slice oao t.length ocap] 34))
 obtain⟨X,HX⟩:=nm (((X2.alloc (.cells #[sN,sN] 25)).alloc (.cells #[sN] 34)).alloc (.cells #[Iv 0,Iv 0] 37))
 have b1:Bl w X2:=(by rw[ae.o];exact bA2 _ _ _)
 have s1:X2.heap.size=w.heap.size+1+1:=(by rw[ae.o];simp)
 have b2:Bl X2 X:=(by rw[HX.o];exact((bA2 _ _ _).alloc (by simp;omega) _))
 have s2:X.heap.size=X2.heap.size+1+1+1:=(by rw[HX.o];simp)
 have ac:Bl w X:=b1.trans (b2.mono b1.size);have g0:X.heap[w.heap.size]?=some (.cells #[.slice n.bao n.K n.bcap,.slice n.lao n.L n.lcap] 25):=keep (by rw[ae.o];exact b0d _ _ _) b2;have g1:X.heap[w.heap.size+1]?=some (.cells #[.slice oao t.length ocap] 34):=keep (by rw[ae.o];exact b0c _ _ _) b2;have g2:X.heap[w.heap.size+1+1]?=some (.cells #[sN,sN] 25):=by
  rw[HX.o,<-s1];exact keep (b0d _ _ _) (bA1 _ _)
 have g3:X.heap[w.heap.size+1+1+1]?=some (.cells #[sN] 34):=by
  rw[HX.o,<-s1];exact keep (b0c _ _ _) (bA1 _ _)
 have g4:X.heap[w.heap.size+1+1+1+1]?=some (.cells #[Iv 0,Iv 0] 37):=by
  have:w.heap.size+1+1+1+1=((X2.alloc (.cells #[sN,sN] 25)).alloc (.cells #[sN] 34)).heap.size:=by simp[s1]
  rw[HX.o,this];exact a9Z _ _
 obtain⟨BN,ax⟩:=nm w.heap.size
 obtain⟨BT,ao⟩:=nm (w.heap.size+1)
 obtain⟨RN,ai⟩:=nm (w.heap.size+1+1)
 obtain⟨RT,ah⟩:=nm (w.heap.size+1+1+1)
 obtain⟨RF,aj⟩:=nm (w.heap.size+1+1+1+1)
 rw[<-ax.o] at g0;rw[<-ao.o] at g1;rw[<-ai.o] at g2;rw[<-ah.o] at g3;rw[<-aj.o] at g4;have al:RN≠RT:=(by have:=ai.o;have:=ah.o;omega)
 have an:RN≠RF:=(by have:=ai.o;have:=aj.o;omega)
 have ak:RT≠RF:=(by have:=ah.o;have:=aj.o;omega)
 have aI:w.heap.size<=RN:=(by have:=ai.o;omega)
 have aC:w.heap.size<=RT:=(by have:=ah.o;omega)
 have aB:w.heap.size<=RF:=(by have:=aj.o;omega)
 have aK:RN<X.heap.size:=(by have:=ai.o;omega)
 have aM:RT<X.heap.size:=(by have:=ah.o;omega)
 have aN:RF<X.heap.size:=(by have:=aj.o;omega)
 have HC:Hid (∀V,Bl X V->(V.cell? (Pv BN 0)=some (.slice n.bao n.K n.bcap)/\V.cell? (Pv BN 1)=some (.slice n.lao n.L n.lcap))/\V.cell? (Pv BT 0)=some (.slice oao t.length ocap)/\(V.cell? (Pv RN 0)=some sN/\V.cell? (Pv RN 1)=some sN)/\V.cell? (Pv RT 0)=some sN/\(V.cell? (Pv RF 0)=some (Iv 0)/\V.cell? (Pv RF 1)=some (Iv 0))/\(V.frozen? (Pv RN 0)=false/\V.frozen? (Pv RN 1)=false)/\V.frozen? (Pv RT 0)=false/\V.frozen? (Pv RF 0)=false/\V.frozen? (Pv RF 1)=false):=λV hV =>
  ⟨tC2 (keep g0 hV),a0x (keep g1 hV),tC2 (keep g2 hV),a0x (keep g3 hV),tC2 (keep g4 hV),⟨b0a _ _ _ _ _ (keep g2 hV),b0a _ _ _ _ _ (keep g2 hV)⟩,b0a _ _ _ _ _ (keep g3 hV),b0a _ _ _ _ _ (keep g4 hV),b0a _ _ _ _ _ (keep g4 hV)⟩
 have HH:Hid (∀V,Bl X V->V.heap[RN]?=some (.cells #[sN,sN] 25)/\V.heap[RT]?=some (.cells #[sN] 34)/\V.heap[RF]?=some (.cells #[Iv 0,Iv 0] 37)/\Bl w V):=λV hV=>⟨keep g2 hV,keep g3 hV,keep g4 hV,ac.trans (hV.mono ac.size)⟩
 have aD:Hid (Calls prog 66 #[.agg #[.slice n.bao n.K n.bcap,.slice n.lao n.L n.lcap],.agg #[.slice oao t.length ocap],sN] X λe w'=>e=.returned (.agg #[Iv (wrT n t 0).1,Iv (wrT n t 0).2])/\Hid (Bl X w')):=(a7B n oao ocap t none 0 0 X aq (aw.below ac) (ay.below ac) om).mono (λe w' h=>⟨h.1,h.2⟩);have au:Hid ((wrT n t 0).1=0->∀V,Bl X V->Calls prog 67 #[.agg #[.slice n.bao n.K n.bcap,.slice n.lao n.L n.lcap],.agg #[.slice oao t.length ocap]] V λe w'=>New0 V n t.length e w'):=λh0 V hV=>by
  obtain⟨_,z1,z2,_⟩:=a2O h0;have am:=ac.trans (hV.mono ac.size);obtain⟨f1,f2⟩:=a2z.1 z2;have av:=right_of aq z1;refine a7W n t oao ocap V av f1.2 (λk hk => ?_) (aw.below am) (ay.below am) (aE.below am ar) (b0p ar am.size);obtain⟨g1,g2⟩:=f2 k hk;rw[g1];refine⟨by have:=av.few;omega,λi hi => ?_⟩;obtain⟨e1,e2,e3⟩:=g2 i hi;have e4:=a6G n i av.fewL;have e5:(n.pts i).length=(n.ends i).length:=(by unfold Pl.Net.pts;simp)
  rw[e1];exact⟨om,om,om⟩
 have aR:Hid (w.heap.size<=X.heap.size):=ac.size;clear aq aw ay aE ar b1 b2 s1 s2 ac g0 g1 g2 g3 g4;simp only[Pl.Net.val];go_enter func42,ntmps42;obtain⟨⟨x0,x1⟩,x2,_⟩:=HC.o X (b0h _ _);rw[HX.o,ae.o,ax.o] at x0 x1;rw[HX.o,ae.o,ao.o] at x2;(go_wp2_with fail);rw[<-ae.o,<-HX.o,<-aj.o,<-ah.o,<-ai.o,<-ao.o,<-ax.o];refine aD.o.mono ?_;rintro e w1 ⟨rfl,H1⟩;clear x0 x1 x2 aD;obtain⟨V1,ag⟩:=nm (w1.alloc (.cells #[Iv (wrT n t 0).1,Iv (wrT n t 0).2] 37))
 have ad:Bl X V1:=(by rw[ag.o];exact H1.o.alloc H1.o.size _)
 have f0:V1.cell? (Pv w1.heap.size 0)=some (Iv (wrT n t 0).1)/\V1.cell? (Pv w1.heap.size 1)=some (Iv (wrT n t 0).2):=tC2 (by rw[ag.o];exact a9Z _ _);obtain⟨f0,f1⟩:=f0;obtain⟨⟨p0,p1⟩,p2,⟨p3,p4⟩,p5,⟨p6,p7⟩,⟨q0,q1⟩,q2,q3,q4⟩:=HC.o V1 ad;have y0:=f0;rw[ag.o] at y0;by_cases q:(wrT n t 0).1=0
 ·have aF:(wrT n t 0).2=0:=(by rw[(a2O q).1])
  have az:Hid (∀V ba bk bc la lk lc oa ol oc,Bl w V->On0W w n t (.returned (.tuple #[.agg #[.slice ba bk bc,.slice la lk lc],.agg #[.slice oa ol oc],.agg #[Iv 0,Iv 0]])) V):=λV ba bk bc la lk lc oa ol oc hV=>⟨ba,bk,bc,la,lk,lc,oa,ol,oc,by rw[q,aF],hV⟩
  have aJ:Hid (Calls prog 67 #[.agg #[.slice n.bao n.K n.bcap,.slice n.lao n.L n.lcap],.agg #[.slice oao t.length ocap]] V1 λe w'=>New0 V1 n t.length e w'):=au.o q V1 ad;have r0:=p0;have r1:=p1;have r2:=p2;rw[ag.o] at r0 r1 r2;clear f0 f1 p0 p1 p2 p3 p4 p5 p6 p7 q0 q1 q2 q3 q4 au;generalize (wrT n t 0).1=r5 at *;generalize (wrT n t 0).2=r6 at *;subst q aF;(go_wp2_with fail);rw[<-ag.o];refine aJ.o.mono ?_;rintro e w2 ⟨S,bao,bcap,lao,lcap,oa,oc,fv,gv,rfl,hS,af,aH⟩;have aG:Hid (w2.heap[S]?=some (.cells #[.slice bao n.K bcap,.slice lao n.L lcap,.slice oa t.length oc,fv,gv] 148)/\Bl X w2):=⟨af,ad.trans (aH.mono ad.size)⟩
  have ap:Hid (X.heap.size<=S):=b0p ad.size hS;clear hS af aH ad y0 r0 r1 r2 aJ;(go_wp2_with fail);go_loopw [29] (λi wr=>i=Iv 0/\Hid (wr.heap[S]?=some (.cells #[.slice bao n.K bcap,.slice lao n.L lcap,.slice oa t.length oc,fv,gv] 148)/\Bl X wr)) (λ_ _=>0)
  case atStart=>exact⟨rfl,aG⟩
  case round =>
    obtain⟨rfl,hS⟩:=hrel;have af:=hS.o.1;have s0:wr.cell? (Pv S 0)=some (.slice bao n.K bcap):=a9Y wr S 0 _ _ _ af;have s1:wr.cell? (Pv S 1)=some (.slice lao n.L lcap):=a9Y wr S 1 _ _ _ af;have s2:wr.cell? (Pv S 2)=some (.slice oa t.length oc):=a9Y wr S 2 _ _ _ af;have aQ:RN<S:=b0q aK ap.o;have aU:RT<S:=b0q aM ap.o;have aT:RF<S:=b0q aN ap.o;have ab:Hid (Bl X wr):=hS.o.2;obtain⟨_,_,⟨p3,p4⟩,p5,⟨p6,p7⟩,⟨q0,q1⟩,q2,q3,q4⟩:=HC.o wr ab.o;clear hS af aG HC;(go_wp2_with fail);go_region
    (all_goals go_wp2_with fail);all_goals
     refine b0b (v:=.tuple #[.agg #[.slice bao n.K bcap,.slice lao n.L lcap],.agg #[.slice oa t.length oc],.agg #[Iv 0,Iv 0]]) (a0m results42 _ _ RN RT RF 25 34 37 #[.slice bao n.K bcap,.slice lao n.L lcap] #[.slice oa t.length oc] #[Iv 0,Iv 0] (0,0) (0,0) (0,0) _ _ _ rfl rfl rfl ?h1 ?h2 ?h3 underlying25 underlying34 underlying37 rfl rfl rfl ?i1 ?i2 ?i3) rfl ?post
     case h1=>repeat(first | (with_reducible refine a0w ?_) | (with_reducible exact(HH.o _ ab.o).1) | (with_reducible exact(HH.o _ (a0d ab.o _)).1) | (with_reducible exact(HH.o _ (b0i ab.o)).1) | (with_reducible refine a0i (a0:=sN) (a1:=sN) ?_) | (with_reducible refine a0o ?_ al) | (with_reducible refine a0o ?_ an))
     case h2=>repeat(first | (with_reducible refine a0w ?_) | (with_reducible exact(HH.o _ ab.o).2.1) | (with_reducible exact(HH.o _ (a0d ab.o _)).2.1) | (with_reducible exact(HH.o _ (b0i ab.o)).2.1) | (with_reducible refine a1o (a0:=sN) ?_) | (with_reducible refine a0o ?_ al.symm) | (with_reducible refine a0o ?_ ak))
     case h3=>repeat(first | (with_reducible refine a0w ?_) | (with_reducible exact(HH.o _ ab.o).2.2.1) | (with_reducible exact(HH.o _ (a0d ab.o _)).2.2.1) | (with_reducible exact(HH.o _ (b0i ab.o)).2.2.1) | (with_reducible refine a0i (a0:=Iv 0) (a1:=Iv 0) ?_) | (with_reducible refine a0o ?_ an.symm) | (with_reducible refine a0o ?_ ak.symm))
     case i1=>rw[a1b];try rfl
     case i2=>rw[a0T];try rfl
     case i3=>rw[a0q];try rfl
     case post =>
      refine az.o _ _ _ _ _ _ _ _ _ _ ?_
      ·repeat(first | (with_reducible refine b0i ?_) | (with_reducible exact(HH.o _ ab.o).2.2.2) | (with_reducible exact(HH.o _ (a0d ab.o _)).2.2.2) | (with_reducible exact(HH.o _ (b0i ab.o)).2.2.2) | (with_reducible refine Below.setCell ?_ aI _) | (with_reducible refine Below.setCell ?_ aC _) | (with_reducible refine Below.setCell ?_ aB _))
 ·have aL:Hid (∀V,Bl w V->On0W w n t (.returned (.tuple #[.agg #[sN,sN],.agg #[sN],.agg #[Iv (wrT n t 0).1,Iv (wrT n t 0).2]])) V):=λV hV=>⟨none,0,0,none,0,0,none,0,0,rfl,hV⟩
  have aO:((wrT n t 0).1 != 0)=true:=(by simpa using q)
  have aa:Hid (Bl X V1):=ad;have d1:RN≠w1.heap.size:=(by have:=H1.o.size;omega)
  have d2:RT≠w1.heap.size:=(by have:=H1.o.size;omega)
  have d3:RF≠w1.heap.size:=(by have:=H1.o.size;omega)
  have d4:=d1.symm;have d5:=d2.symm;have d6:=d3.symm;clear p0 p1 p2 ad au HC q;generalize (wrT n t 0).1=E1 at *;generalize (wrT n t 0).2=E2 at *;(go_wp2_with fail);rw[<-ag.o];go_region
  (all_goals go_wp2_with fail);all_goals
   refine b0b (v:=.tuple #[.agg #[sN,sN],.agg #[sN],.agg #[Iv E1,Iv E2]]) (a0m results42 _ _ RN RT RF 25 34 37 #[sN,sN] #[sN] #[Iv E1,Iv E2] (0,0) (0,0) (0,0) _ _ _ rfl rfl rfl ?h1 ?h2 ?h3 underlying25 underlying34 underlying37 rfl rfl rfl ?i1 ?i2 ?i3) rfl ?post
   case h1=>repeat(first | (with_reducible refine a0w ?_) | (with_reducible exact(HH.o _ aa.o).1) | (with_reducible exact(HH.o _ (a0d aa.o _)).1) | (with_reducible exact(HH.o _ (b0i aa.o)).1) | (with_reducible refine a0i (a0:=sN) (a1:=sN) ?_) | (with_reducible refine a0o ?_ al) | (with_reducible refine a0o ?_ an))
   case h2=>repeat(first | (with_reducible refine a0w ?_) | (with_reducible exact(HH.o _ aa.o).2.1) | (with_reducible exact(HH.o _ (a0d aa.o _)).2.1) | (with_reducible exact(HH.o _ (b0i aa.o)).2.1) | (with_reducible refine a1o (a0:=sN) ?_) | (with_reducible refine a0o ?_ al.symm) | (with_reducible refine a0o ?_ ak))
   case h3=>repeat(first | (with_reducible refine a0w ?_) | (with_reducible exact(HH.o _ aa.o).2.2.1) | (with_reducible exact(HH.o _ (a0d aa.o _)).2.2.1) | (with_reducible exact(HH.o _ (b0i aa.o)).2.2.1) | (with_reducible refine a0i (a0:=Iv 0) (a1:=Iv 0) ?_) | (with_reducible refine a0o ?_ an.symm) | (with_reducible refine a0o ?_ ak.symm))
   case i1=>rw[a1b];try rfl
   case i2=>rw[a0T];try rfl
   case i3=>rw[a0q];try rfl
   case post =>
    refine aL.o _ ?_;repeat(first | (with_reducible refine b0i ?_) | (with_reducible exact(HH.o _ aa.o).2.2.2) | (with_reducible exact(HH.o _ (a0d aa.o _)).2.2.2) | (with_reducible exact(HH.o _ (b0i aa.o)).2.2.2) | (with_reducible refine Below.setCell ?_ aI _) | (with_reducible refine Below.setCell ?_ aC _) | (with_reducible refine Below.setCell ?_ aB _))
def dn0:Nat->Dn:=λ_=>⟨0,0,0,0⟩
def sErr (n:Net) (t:List Tr) (B:Nat) (from' vid:Int) (f:F):Int×Int:=if (a0P n t dn0 0).1≠0 then a0P n t dn0 0 else(a1I n t.length B from' vid f,0)
theorem on0 (n:Net) (t:List Tr) (ds:Nat->Dn):a0P n t ds 0=wrT n t 0:=by
 unfold a0P;by_cases q:(wrT n t 0).1=0
 ·rw[iN (λz=>z q),(a2O q).1];rfl
 ·rw[iP q]
theorem a7X (n:Net) (oao:OA) (ocap:Nat) (t:List Tr) (ko:OA) (B ah:Nat) (aa vid:Int) (f:F) (w:World) (ag:n.Wf) (aj:n.at' w) (ak:TrRow w oao ocap t) (an:Tabs w) (ai:2<=w.heap.size) (hB:B<=9223372036854775807) (hs:0<=f.src/\f.src<18446744073709551616) :
  Calls prog 25 #[n.val,.agg #[.slice oao t.length ocap],.slice ko B ah,Iv aa,Iv vid,.agg (frA f)] w λe w'=>e=.returned (.agg #[Iv (sErr n t B aa vid f).1,Iv (sErr n t B aa vid f).2])/\Bl w w':=by
 have ab:w.heap.size<=w.heap.size+1+1+1:=om
 obtain⟨X0,ae⟩:=nm (((w.alloc (.cells #[.slice n.bao n.K n.bcap,.slice n.lao n.L n.lcap] 25)).alloc (.cells #[.slice oao t.length ocap] 34)).alloc (.cells (frA f) 31))
 have h3:=a1x w (.cells #[.slice n.bao n.K n.bcap,.slice n.lao n.L n.lcap] 25) (.cells #[.slice oao t.length ocap] 34) (.cells (frA f) 31);rw[<-ae.o] at h3;obtain⟨g0,g1,g2,b0⟩:=h3;obtain⟨X,HX⟩:=nm (X0.alloc (.cells #[Iv 0,Iv 0] 37))
 have b1:Bl X0 X:=(by rw[HX.o];exact bA1 _ _)
 have s0:X0.heap.size=w.heap.size+1+1+1:=(by rw[ae.o];simp)
 have g3:X.heap[w.heap.size+1+1+1]?=some (.cells #[Iv 0,Iv 0] 37):=(by rw[HX.o,<-s0];exact a9Z _ _)
 have bX:Bl w X:=b0.trans (b1.mono b0.size);have HH:Hid (∀V,Bl X V->(V.heap[w.heap.size]?=some (.cells #[.slice n.bao n.K n.bcap,.slice n.lao n.L n.lcap] 25)/\V.heap[w.heap.size+1]?=some (.cells #[.slice oao t.length ocap] 34)/\V.heap[w.heap.size+1+1]?=some (.cells (frA f) 31)/\V.heap[w.heap.size+1+1+1]?=some (.cells #[Iv 0,Iv 0] 37))/\Bl w V/\w.heap.size+1+1+1<V.heap.size):=λV hV=>by
  have h1:=b1.trans (hV.mono b1.size);have h2:=keep g3 hV;exact⟨⟨keep g0 h1,keep g1 h1,keep g2 h1,h2⟩,bX.trans (hV.mono bX.size),(gSm.1 h2).1⟩
 have al:Hid (Calls prog 42 #[.agg #[.slice n.bao n.K n.bcap,.slice n.lao n.L n.lcap],.agg #[.slice oao t.length ocap],sN] X λe w'=>∃na nk nc la lk lc oa ol oc,e=.returned (.tuple #[.agg #[.slice na nk nc,.slice la lk lc],.agg #[.slice oa ol oc],.agg #[Iv (a0P n t dn0 0).1,Iv (a0P n t dn0 0).2]])/\Hid (Bl X w')):=by
  refine(ton0_any n oao ocap t X ag (aj.below bX) (ak.below bX) (an.below bX ai) (b0p ai bX.size)).mono ?_;rintro e w' ⟨na,nk,nc,la,lk,lc,oa,ol,oc,rfl,h1⟩;exact⟨na,nk,nc,la,lk,lc,oa,ol,oc,by rw[on0],h1⟩
 have af:Hid ((a0P n t dn0 0).1=0->∀V,Bl X V->Calls prog 48 #[.slice n.bao n.K n.bcap,Iv (t.length:Int),Iv B,Iv aa,Iv vid,.agg #[Uv f.dst,Uv f.src,.bool f.tagged,Iv f.prio,.bool f.drop,Iv f.vid,Iv f.type,.slice f.ao f.n f.cap]] V λe w'=>e=.returned (Iv (a1I n t.length B aa vid f))/\Hid (Bl X w')):=λhe V hV=>by
  have hR:=right_of ag (a2O (a3q he).1).2.1;exact(a6p n t.length B aa vid f V (aj.below (HH.o V hV).2.1) hR.fine hR.few hB hs).mono (λe w' h=>⟨h.1,hV.trans (h.2.mono hV.size)⟩)
 have ar:=ak.many;clear ag aj ak an ai g0 g1 g2 g3 b0 b1 bX s0 hs;have ac:Hid (sErr n t B aa vid f=if (a0P n t dn0 0).1≠0 then a0P n t dn0 0 else(a1I n t.length B aa vid f,0)):=rfl;generalize sErr n t B aa vid f=R at *;generalize a1I n t.length B aa vid f=be at *;generalize a0P n t dn0 0=oe at *;obtain⟨e1,e2⟩:=oe;simp only at al af ac;unfold frA at ae HH;unfold frA Pl.Net.val;go_enter func25,ntmps25;(go_wp2_with fail);rw[<-ae.o,<-HX.o];refine al.o.mono ?_;rintro e w1 ⟨na,nk,nc,la,lk,lc,oa,ol,oc,rfl,ap⟩;obtain⟨V,HV⟩:=nm (((w1.alloc (.cells #[.slice na nk nc,.slice la lk lc] 25)).alloc (.cells #[.slice oa ol oc] 34)).alloc (.cells #[Iv e1,Iv e2] 37))
 have h3:=a1x w1 (.cells #[.slice na nk nc,.slice la lk lc] 25) (.cells #[.slice oa ol oc] 34) (.cells #[Iv e1,Iv e2] 37);rw[<-HV.o] at h3;obtain⟨_,_,v2,bV⟩:=h3;have am:Hid (Bl X V):=ap.o.trans (bV.mono ap.o.size);obtain⟨x0,x1⟩:=tC2 v2;obtain⟨⟨j0,j1,j2,j3⟩,j4,j5⟩:=HH.o V am.o;obtain⟨y0,y1⟩:=tC2 j0;have y2:=a9Y _ _ 0 _ _ _ j1;obtain⟨z0,z1,z2,z3,z4,z5,z6,z7⟩:=a0U j2;obtain⟨q0,q1⟩:=tC2 j3;have q2:=lF0 j3 0;have q3:=lF0 j3 1;have HJ:Hid (V.heap[w.heap.size+1+1+1]?=some (.cells #[Iv 0,Iv 0] 37)/\Bl w V):=⟨j3,j4⟩
 clear al j0 j1 j2 j3 j4 bV v2;by_cases he:e1=0
 ·have ad:Hid (∀V,Bl X V->Calls prog 48 #[.slice n.bao n.K n.bcap,Iv (t.length:Int),Iv B,Iv aa,Iv vid,.agg #[Uv f.dst,Uv f.src,.bool f.tagged,Iv f.prio,.bool f.drop,Iv f.vid,Iv f.type,.slice f.ao f.n f.cap]] V λe w'=>e=.returned (Iv be)/\Hid (Bl X w')):=af.o he;have HE:Hid (R=(be,0)):=by
   show R=_;rw[ac.o,iN (λq=>q he)]
  clear af ac;subst he;(go_upto_region 2 with fail);rw[<-HV.o];(go_wp2_with fail);refine(ad.o V am.o).mono ?_;rintro e w2 ⟨rfl,aq⟩;obtain⟨⟨_,_,_,i3⟩,i4,i5⟩:=HH.o w2 aq.o;obtain⟨q0,q1⟩:=tC2 i3;have q2:=lF0 i3 0;have q3:=lF0 i3 1;have HI:Hid (w2.heap[w.heap.size+1+1+1]?=some (.cells #[Iv 0,Iv 0] 37)/\Bl w w2):=⟨i3,i4⟩
  clear i3 i4 ad;(go_wp2_with fail);refine b0b (v:=.agg #[Iv be,Iv 0]) (a0b (p:=12) (ty:=37) results25 _ _ (w.heap.size+1+1+1) 37 #[Iv be,Iv 0] (0,0) _ rfl ?h1 underlying37 rfl (by rw[a0q];rfl)) rfl ⟨by rw[HE.o],?h2⟩
  case h1=>first | (with_reducible exact a0i HI.o.1) | (with_reducible exact a0w (a0i HI.o.1)) | exact a0i (a0w HI.o.1)
  case h2=>first | exact(HI.o.2.setCell ab _).setCell ab _ | exact((HI.o.2.setCell ab _).setCell ab _).drew | exact(HI.o.2.drew.setCell ab _).setCell ab _
 ·have HE:Hid (R=(e1,e2)):=by
   show R=_;rw[ac.o,iP he]
  clear af ac;(go_upto_region 2 with fail);rw[<-HV.o];(go_wp2_with fail);refine b0b (v:=.agg #[Iv e1,Iv e2]) (a0b (p:=12) (ty:=37) results25 _ _ (w.heap.size+1+1+1) 37 #[Iv e1,Iv e2] (0,0) _ rfl ?h1 underlying37 rfl (by rw[a0q];rfl)) rfl ⟨by rw[HE.o],?h2⟩
  case h1=>first | (with_reducible exact a0i HJ.o.1) | (with_reducible exact a0w (a0i HJ.o.1)) | exact a0i (a0w HJ.o.1)
  case h2=>first | exact(HJ.o.2.setCell ab _).setCell ab _ | exact((HJ.o.2.setCell ab _).setCell ab _).drew | exact(HJ.o.2.drew.setCell ab _).setCell ab _
theorem a0n {P:Program}{fn:Func}{p u1 u2 u3:Tmp}{ty:TypeId}(h:fn.results=#[.tmp u1,.tmp u2,.tmp u3,.cell p ty]) (aa:Array Value) (w:World) (g:Nat) (t:TypeId) (cs:Array Value) (fr:Nat×Nat) (d:TypeDesc)
  (hp:aa.getD p undef=.pointer (some (Pv g 0))) (hg:w.heap[g]?=some (.cells cs t fr))
  (hu:P.underlying ty=some d) (hd:(match d with | .struct _ | .array _ _=>true | _=>false)=true) (hi:(P.info? ty).map (·.size)=some cs.size) :
  (results fn aa).run P w=.ok (.tuple #[aa.getD u1 undef,aa.getD u2 undef,aa.getD u3 undef,.agg cs]) w:=by
 have ab:aa[p]?.getD undef=.pointer (some (Pv g 0)):=(by simpa using hp)
 simp[results,h,ab,asAddr,run_loadVar_row w g t ty cs fr d hg hu hd hi]
def sent (n:Net) (t:List Tr) (vid:Int) (f:F) (bks:Nat->List E) (i:Nat):Ln.Cs:=Ln.carry n t vid f 41 ⟨[],[(i,⟨0,f.tagged,f.prio,f.drop,f.vid⟩)],bks,0⟩
structure SdIs (w w':World) (K:Nat) (f:F) (RR:Ln.Cs) (so:OA) (sc:Nat) (ss:List AV) (gk:Nat) (bo':Nat->OA) (bc':Nat->Nat):Prop where
 map:ss.map AV.p=RR.seen
 row:w'.ownsRow w.heap.size 54 9 (.slice so ss.length sc) ss.length (a0f ss.length 9 (λi=>sC f (aat ss i)))
 data:∀x∈ss,Dt w' w.heap.size f x.v
 books:BkO w' w.heap.size gk K RR.books bo' bc'
 own:w.heap.size<=gk
def a7Y (w:World) (n:Net) (t:List Tr) (vid:Int) (f:F) (B:Nat) (bks:Nat->List E) (from':Int) (e:Ending) (w':World):Prop :=
 Bl w w'/\(((sErr n t B from' vid f).1≠0/\e=.returned (.tuple #[sN,sN,.bool false,.agg #[Iv (sErr n t B from' vid f).1,Iv (sErr n t B from' vid f).2]])) \/
  ((sErr n t B from' vid f).1=0/\((¬((sent n t vid f bks from'.toNat).err=0/\(sent n t vid f bks from'.toNat).wait=[])/\e=.returned (.tuple #[sN,sN,.bool false,.agg #[Iv (sent n t vid f bks from'.toNat).err,Iv 0]])) \/
   ((sent n t vid f bks from'.toNat).err=0/\(sent n t vid f bks from'.toNat).wait=[]/\∃so sc ss gk bo' bc',e=.returned (.tuple #[.slice so (ss:List AV).length sc,.slice (some (Pv gk 0)) n.K n.K,.bool true,.agg #[Iv 0,Iv 0]])/\SdIs w w' n.K f (sent n t vid f bks from'.toNat) so sc ss gk bo' bc'))))
theorem a5D {n:Net}{t:List Tr}{B:Nat}{aa vid:Int}{f:F}(h:(sErr n t B aa vid f).1=0):sErr n t B aa vid f=(0,0)/\(a0P n t dn0 0).1=0/\B=n.K/\(0<=aa/\aa<=(n.K:Int)-1)/\(1<=vid/\vid<=4094)/\f.tagged=false/\wrong f.dst f.src f.tagged f.prio f.vid f.type f.n=0/\a1X n vid t.length=false:=by
 unfold sErr at h ⊢;by_cases q:(a0P n t dn0 0).1=0
 ·rw[iN (λz=>z q)] at h ⊢;simp only at h;rw[h];unfold a1I at h;by_cases c1:B≠n.K
  ·rw[iP c1] at h;cases h
  ·rw[iN c1] at h;by_cases c2:0<=aa/\aa<=(n.K:Int)-1
   ·rw[iN (λz=>z c2)] at h;by_cases c3:1<=vid/\vid<=4094
    ·rw[iN (λz=>z c3)] at h;by_cases c4:f.tagged=true
     ·rw[iP c4] at h;cases h
     ·rw[iN c4] at h;by_cases c5:wrong f.dst f.src f.tagged f.prio f.vid f.type f.n=0
      ·rw[iN (λz=>z c5)] at h;by_cases c6:a1X n vid t.length=true
       ·rw[iP c6] at h;cases h
       ·exact⟨rfl,q,om,c2,c3,by simpa using c4,c5,by simpa using c6⟩
      ·rw[iP c5] at h;exact absurd h c5
    ·rw[iP c3] at h;cases h
   ·rw[iP c2] at h;cases h
 ·rw[iP q] at h;exact absurd h q
structure RBx (W:World) (n:Net) (T:Nat) (oao:OA) (ocap:Nat) (vid:Int) (gk TB NB VB KB:Nat):Prop where
 tb:W.heap[TB]?=some (.cells #[.slice oao T ocap] 34)
 nb:W.heap[NB]?=some (.cells #[.slice n.bao n.K n.bcap,.slice n.lao n.L n.lcap] 25)
 vb:W.heap[VB]?=some (.cells #[Iv vid] 3)
 kb:W.heap[KB]?=some (.cells #[.slice (some (Pv gk 0)) n.K n.K] 27)
theorem cyh_of {w W:World}{n:Net}{t:List Tr}{oao:OA}{ocap:Nat}{vid:Int}{TB NB VB KB b0 gk P M nM:Nat}{f:F}(hb:Bl w W) (af:w.heap.size<=gk) (ac:gk<W.heap.size) (ad:b0<=W.heap.size) (hR:n.Right) (hn:n.at' w) (ht:TrRow w oao ocap t) (hf:t.length<=4) (hd:ByteRow w f.ao f.n f.cap f.bs) (aa:a0s f.ao f.n f.cap) (h1:0<=f.dst/\f.dst<18446744073709551616) (h2:0<=f.src/\f.src<18446744073709551616)
  (hx:RBx W n t.length oao ocap vid gk TB NB VB KB) (ab:TB≠gk/\NB≠gk/\VB≠gk/\KB≠gk/\P≠gk/\M≠gk) (hP:W.cell? (Pv P 0)=some (.map (some M))) (hM:CrW W M nM (a0K n.ls n.L)):CyH W n t oao ocap vid TB NB VB KB b0 gk n.K P M nM f:=by
 have low:∀V,W.grownBy V (some gk)->Bl w V:=λV hV=>⟨hV.os.trans hb.os,hV.tape.trans hb.tape,hV.output.trans hb.output,b0p hb.size hV.size,λi hi=>(hV.block i (b0q hi hb.size) (by simp;omega)).trans (hb.block i hi)⟩
 have kp:∀{V:World}{g:Nat}{o:Obj},W.grownBy V (some gk)->g≠gk->W.heap[g]?=some o->V.heap[g]?=some o:=λ{V g o} hV hg h=>(hV.block g (gSm.1 h).1 (by simpa using hg)).trans h;obtain⟨n1,n2,n3,n4,n5,n6⟩:=ab;refine⟨ac,ad,hR,λV ae bo bc hV hk=>⟨kp hV n1 hx.tb,kp hV n2 hx.nb,kp hV n3 hx.vb,kp hV n4 hx.kb,hn.below (low V hV),hR,ht.below (low V hV),hf,hk,b0g _⟩,λV hV=>hd.below (low V hV),aa,h1,h2,λV hV=>⟨?_,hM.same (hV.block M hM.lt (by simpa using n6))⟩⟩;have hl:=b0r hP;have e:V.heap[P]?=W.heap[P]?:=hV.block P hl (by simpa using n5);unfold World.cell? at hP ⊢;simp only at hP ⊢;rw[e];exact hP
abbrev ZeroAt (w:World) (g n:Nat):Prop:=RlAt w g n (λ_=>0)
section
variable {P:Program}{ops:Array Oper}{Q:Exit->Act->World->Prop}{md:Region.Mode}{z:Nat}{C:World->Prop}
theorem z_two {i j:Nat}{o o2:Oper}{ab:Nat}{aa:Array Bool}{a:Act}{w:World}(hr:Region.ready md ops aa=[i,j]) (ho:ops[i]?=some o) (ac:ops[j]?=some o2)
  (h:∀K':Act->World->Prop,Shut (∀a w,((aa.setIfInBounds i true).getD z true=true\/C w)->(((aa.setIfInBounds i true).getD z true=true\/C w)->a1n P md ops Q z C ab (aa.setIfInBounds i true) a w)->K' a w)->if Region.wanted o (yielded ops a.tmps)=true then Oper.wp P o a w K' Q else K' (a.put o.dst undef) w)
  (h2:∀K':Act->World->Prop,Shut (∀a w,((aa.setIfInBounds j true).getD z true=true\/C w)->(((aa.setIfInBounds j true).getD z true=true\/C w)->a1n P md ops Q z C ab (aa.setIfInBounds j true) a w)->K' a w)->if Region.wanted o2 (yielded ops a.tmps)=true then Oper.wp P o2 a w K' Q else K' (a.put o2.dst undef) w) :
  a1n P md ops Q z C (ab+1) aa a w:=by
 refine⟨λh0=>(by rw[hr] at h0;cases h0),λx hx => ?_⟩;rw[hr] at hx;rcases(by simpa using hx:x=i\/x=j) with q | q
 ·subst q;exact wpOp_step ho (λK' hK=>h K' (λa w hS hW=>hK a w ⟨hS,hW hS⟩))
 ·subst q;exact wpOp_step ac (λK' hK=>h2 K' (λa w hS hW=>hK a w ⟨hS,hW hS⟩))
end
def miC (m:Mi):Nat->Value:=mdC m.md (.slice m.po m.ports.length m.pc) (.slice m.ro m.roles.length m.rc) (.slice m.co m.calm.length m.cc)
def miA (m:Mi):Array Value:=#[Uv m.md.v.root,Iv m.md.v.cost,Uv m.md.v.bridge,Iv m.md.v.port,Iv m.md.age,Iv m.md.rp,.slice m.po m.ports.length m.pc,.slice m.ro m.roles.length m.rc,.slice m.co m.calm.length m.cc]
structure OwnI (W:World) (base:Nat) (m:Mi):Prop where
 ports:W.ownsRow base 3 1 (.slice m.po m.ports.length m.pc) m.ports.length (a0j m.ports)
 roles:W.ownsRow base 3 1 (.slice m.ro m.roles.length m.rc) m.roles.length (a0j m.roles)
 calm:W.ownsRow base 3 1 (.slice m.co m.calm.length m.cc) m.calm.length (a0j m.calm)
structure OwnM (W:World) (base:Nat) (v:Value) (l:List Mi):Prop where
 row:W.ownsRow base 117 9 v l.length (a0f l.length 9 (λi=>miC (mat l i)))
 each:∀m∈l,OwnI W base m
theorem OwnI.keep {W W':World}{base:Nat}{m:Mi}(h:OwnI W base m) (hk:∀(q:Nat) (aa:Array Value),W.heap[q]?=some (Obj.cells aa 3)->W'.heap[q]?=W.heap[q]?):OwnI W' base m :=
 ⟨a0A h.ports (λq hq=>by obtain⟨aa,hc⟩:=a0z h.ports hq;exact hk q aa hc),a0A h.roles (λq hq=>by obtain⟨aa,hc⟩:=a0z h.roles hq;exact hk q aa hc),a0A h.calm (λq hq=>by obtain⟨aa,hc⟩:=a0z h.calm hq;exact hk q aa hc)⟩
theorem a1a {W:World}{q:Nat}{o:Obj}(h:W.heap[q]?=some o):q<W.heap.size:=(gSm.1 h).1
theorem OwnI.below {W W':World}{base:Nat}{m:Mi}(h:OwnI W base m) (hb:Bl W W'):OwnI W' base m:=h.keep (λq _ hc=>hb.block q (a1a hc))
theorem OwnI.mono {W:World}{base aa:Nat}{m:Mi}(h:OwnI W base m) (hb:aa<=base):OwnI W aa m:=⟨a0v h.ports hb,a0v h.roles hb,a0v h.calm hb⟩
theorem OwnM.keep {W W':World}{base:Nat}{v:Value}{l:List Mi}(h:OwnM W base v l) (hk:∀(q:Nat) (aa:Array Value) (ty:TypeId),W.heap[q]?=some (Obj.cells aa ty (0,0))->ty=3\/ty=117->W'.heap[q]?=W.heap[q]?):OwnM W' base v l :=
 ⟨a0A h.row (λq hq=>by obtain⟨aa,hc⟩:=a0z h.row hq;exact hk q aa _ hc (Or.inr rfl)),λm hm=>(h.each m hm).keep (λq aa hc=>hk q aa _ hc (Or.inl rfl))⟩
theorem OwnM.below {W W':World}{base:Nat}{v:Value}{l:List Mi}(h:OwnM W base v l) (hb:Bl W W'):OwnM W' base v l:=h.keep (λq _ _ hc _=>hb.block q (a1a hc))
theorem OwnM.mono {W:World}{base aa:Nat}{v:Value}{l:List Mi}(h:OwnM W base v l) (hb:aa<=base):OwnM W aa v l:=⟨a0v h.row hb,λm hm=>(h.each m hm).mono hb⟩
theorem OwnM.nil (W:World) (base:Nat):OwnM W base sN []:=⟨a0y _ _ _ _ _,λm h=>by simp at h⟩
theorem a9r {l:List Mi}{i:Nat}(h:i<l.length):mat l i∈l:=by
 have:mat l i=l[i]:=by simp[mat,h]
 rw[this];exact List.getElem_mem h
theorem a6S {w:World}{g:Nat}{x:Mi}{ty:TypeId}(h:w.heap[g]?=some (.cells (miA x) ty (0,0))):CRow w (some (Pv g 0)) 1 1 9 (λ_=>miC x):=by
 refine⟨b0g _,λ_=>⟨g,0,rfl,(gSm.1 h).1,λi hi j hj => ?_⟩⟩;obtain rfl:i=0:=om
 rcases(by omega:j=0\/j=1\/j=2\/j=3\/j=4\/j=5\/j=6\/j=7\/j=8) with e | e | e | e | e | e | e | e | e<;>subst e
 ·exact a9Y w g 0 _ _ _ h
 ·exact a9Y w g 1 _ _ _ h
 ·exact a9Y w g 2 _ _ _ h
 ·exact a9Y w g 3 _ _ _ h
 ·exact a9Y w g 4 _ _ _ h
 ·exact a9Y w g 5 _ _ _ h
 ·exact a9Y w g 6 _ _ _ h
 ·exact a9Y w g 7 _ _ _ h
 ·exact a9Y w g 8 _ _ _ h
theorem infoMn:(prog.info? 117).map (λi=>(i.zero,i.size,i.bytes))=some (some (.agg #[Uv 0,Iv 0,Uv 0,Iv 0,Iv 0,Iv 0,sN,sN,sN]),9,120):=by kernel_rfl
theorem a9s (m:Mi) (x:Nat):(miC m x).oneCell'=true:=a8J _ rfl rfl rfl x
theorem a3C (l m:List Mi) (i:Nat) (h:i<l.length):mat (l++m) i=mat l i:=by
 simp[mat,h,List.getElem?_append_left]
theorem a3f (l m:List Mi) (i:Nat) (h:l.length<=i):mat (l++m) i=mat m (i-l.length):=by
 simp[mat,h,List.getElem?_append_right]
abbrev a4Y (v x:Value) (w:World) (v':Value) (w':World):Prop:=(Builtin.append_ #[112,112] 112 #[v,x]).run prog w=.ok v' w'
theorem more_m (base:Nat) (W:World) (v:Value) (l:List Mi) (x:Mi) (ho:OwnM W base v l) (hx:OwnI W base x) (hl:l.length<=1000) (ab:base<=W.heap.size) :
  ∃a m c W2,a4Y v (.slice (some (Pv W.heap.size 0)) 1 1) (W.alloc (.cells (miA x) 117)) (.slice a m c) W2/\m=(l++[x]).length/\OwnM W2 base (.slice a m c) (l++[x])/\Below base W W2/\(∀(q:Nat) (aa:Array Value) (ty:TypeId),W.heap[q]?=some (Obj.cells aa ty (0,0))->ty≠117->W2.heap[q]?=some (Obj.cells aa ty (0,0))):=by
 have ac:=bA1 W (.cells (miA x) 117);have ad:=ho.below ac;have ah:=hx.below ac;obtain⟨a1,c1,w',r,o,b,q⟩:=a0E (W.alloc (.cells (miA x) 117)) 112 117 _ 9 120 underlying112 infoMn rfl om base v l.length _ ad.row (some (Pv W.heap.size 0)) 1 1 (λ_=>miC x) (λ_ _=>a9s _ _) (a6S (a9Z W _)) (λh=>by cases h) (by unfold maxLen;omega) om (by have:=ac.size;omega);have e:l.length+1=(l++[x]).length:=(by simp)
 refine⟨a1,_,c1,w',r,e,⟨?_,?_⟩,(ac.mono ab).trans b,λg aa ty hg ag => ?_⟩;rotate_left 2
 ·have ae:=keep hg ac;refine(q g (a1a ae) (λhv => ?_)).trans ae;obtain⟨c2,h2⟩:=a0z ad.row hv.symm;exact ag (a1j ae h2)
 ·rw[e] at o ⊢;rw[a0k _ 9 _ (λi=>miC (mat (l++[x]) i))] at o
  ·exact o
  ·intro i hi;unfold catC;by_cases h:i<l.length
   ·rw[iP h,a3C l _ i h]
   ·have af:i=l.length:=(by simp at hi;omega)
    subst af;rw[iN om,a3f l _ _ (b0g _),Nat.sub_self];rfl
 ·have hk:∀(g:Nat) (aa:Array Value),(W.alloc (.cells (miA x) 117)).heap[g]?=some (Obj.cells aa 3)->w'.heap[g]?=(W.alloc (.cells (miA x) 117)).heap[g]?:=λg aa hg=>by
   refine q g (a1a hg) (λhv => ?_);obtain⟨c2,h2⟩:=a0z ad.row hv.symm;exact absurd (a1j hg h2) dd
  intro y hy;rcases List.mem_append.1 hy with h | h
  ·exact(ad.each y h).keep hk
  ·have:y=x:=by simpa using h
   subst this;exact ah.keep hk
def zer (n:Nat):List Int:=List.replicate n 0
theorem a6q (n:Nat):(zer n).length=n:=by simp[zer]
theorem a9t (n j:Nat):(zer n).getD j 0=0:=by
 simp[zer,List.getElem?_replicate];split<;>rfl
theorem ZeroAt.owns {W:World}{g n base:Nat}(h:ZeroAt W g n) (hn:n<=1000) (hb:base<=g):W.ownsRow base 3 1 (.slice (some (Pv g 0)) (zer n).length n) (zer n).length (a0j (zer n)):=by
 have:=a0v (RlAt.owns h om) hb;unfold a0j;rw[a6q,a0k n 1 _ (λ_ _=>Iv 0)]
 ·exact this
 ·intro i _;funext _
  rw[show IL (zer n) i=0 from a9t n i]
def a4Z (n:Net) (k i:Nat):Mnd:=⟨⟨⟨n.ids k i,0,n.ids k i,0⟩,0,-1⟩,zer (n.pts i).length,zer (n.pts i).length⟩
def a1Y (n:Net) (k i:Nat) (m:Mi):Prop:=m.md=⟨⟨n.ids k i,0,n.ids k i,0⟩,0,-1⟩/\m.ports=n.pts i/\m.roles=zer (n.pts i).length/\m.calm=zer (n.pts i).length
def a2c (n:Net) (trees:Int):Int×Int:=if n.wrong.1≠0 then n.wrong else if ¬(1<=trees/\trees<=4) then(3,0) else(0,0)
structure StT (w:World) (n:Net) (trees:Int) (oao:OA) (ocap:Nat) (t0:List Tr):Prop where
 row:TrRow w oao ocap t0
 len:(t0.length:Int)=trees
 fit:fitT n t0=true
 calm:CalmT t0
 ms:∀k,k<t0.length->∀i,i<n.K->a4Z n k i=msT t0 k i
structure OffW (w W:World) (OB:Nat) (l:List Of) (v:Value):Prop where
 low:Below OB w W
 box:W.heap[OB]?=some (.cells #[v] 151)
 own:W.ownsRow (OB+1) 180 7 v l.length (a5W l)
theorem OffW.below {w W W':World}{OB:Nat}{l:List Of}{v:Value}(h:OffW w W OB l v) (hb:Bl W W'):OffW w W' OB l v :=
 ⟨h.low.trans (hb.mono (Nat.le_of_lt (gSm.1 h.box).1)),keep h.box hb,a0h h.own hb⟩
theorem a2C {w:World}{g:Nat}{a0:Value}{ty:TypeId}(h:w.heap[g]?=some (.cells #[a0] ty (0,0))):w.cell? (Pv g 0)=some a0:=a9Y w g 0 _ _ _ h
theorem a3y {w w':World}{ab:Array Oper}{o:Oper}{a:Act}{K:Act->World->Prop}{Q:Exit->Act->World->Prop}{E:Prop}(d:Option Tmp) (hd:o.dst=d) (aa:o.guard=none) (s x:Operand) (t:TypeId)
  (ho:o.op=.call { callee:=.builtin .append,args:=#[s,x],argTypes:=#[t,t] }) (v vx v':Value) (hs:a.eval s=v) (hx:a.eval x=vx) (hr:(Builtin.append_ #[t,t] o.type #[v,vx]).run prog w=.ok v' w')
  (h:K (a.put d v') w'):if Region.wanted o (yielded ab a.tmps)=true then Oper.wp prog o a w K Q else E:=by
 subst hd;exact a2l aa s x t ho v vx v' hs hx hr h
theorem off_more {w W:World}{OB:Nat}{l:List Of}{v:Value}(h:OffW w W OB l v) (hl:l.length<=1000) (o:Of) :
  ∃a1 c1 w2,(Builtin.append_ #[151,151] 151 #[v,.slice (some (Pv W.heap.size 0)) 1 1]).run prog (W.alloc (.cells (ofA o) 180))=.ok (.slice a1 (l.length+1) c1) w2/\(∀q,q<W.heap.size->v.ownBlock≠some q->w2.heap[q]?=W.heap[q]?)/\Below OB w w2/\w2.cell? (Pv OB 0)=some v/\w2.frozen? (Pv OB 0)=false/\OffW w (w2.setCell (Pv OB 0) (.slice a1 (l.length+1) c1)) OB (l++[o]) (.slice a1 (l.length+1) c1):=by
 have hB:Bl W (W.alloc (.cells (ofA o) 180)):=bA1 _ _;have hN:=h.below hB;have ag:OB<W.heap.size:=(gSm.1 h.box).1;obtain⟨a1,c1,w2,r,ho,hb,hk⟩:=a0E (W.alloc (.cells (ofA o) 180)) 151 180 _ 7 56 underlying151 infoOf rfl om (OB+1) v l.length (λi=>ofC (Pl.lf l i)) hN.own (some (Pv W.heap.size 0)) 1 1 (λ_=>ofC o) (λ_ q=>ofC_one _ q) (a7p (a9Z _ _)) (λh=>by cases h) (by unfold maxLen;omega) om (by simp;omega);rw[lf_snoc] at ho;have hs:(W.alloc (.cells (ofA o) 180)).heap.size=W.heap.size+1:=(by simp)
 have ad:v.ownBlock≠some OB:=λe=>by have:=(oCb hN.own OB e).1;omega
 have aa:w2.heap[OB]?=some (.cells #[v] 151):=(hk OB om (λe=>ad e.symm)).trans hN.box;have ab:Below OB w w2:=hN.low.trans (hb.mono om);have ae:(Value.slice a1 (l.length+1) c1).ownBlock≠some OB:=λe=>by have:=(oCb ho OB e).1;omega
 have af:w2.grownBy (w2.setCell (Pv OB 0) (.slice a1 (l.length+1) c1)) (some OB):=by
  have bz:Below 0 w2 (w2.setCell (Pv OB 0) (.slice a1 (l.length+1) c1)):=(b0h 0 w2).setCell (Nat.zero_le _) _;exact⟨bz.os,bz.tape,bz.output,bz.size,λq hq ac=>b0f _ _ _ _ (by exact λe=>ac (by rw[e]))⟩
 refine⟨a1,c1,w2,r,λq hq ac=>(hk q om (λe=>ac e.symm)).trans (hB.block q hq),ab,a2C aa,lF0 aa _,⟨ab.setCell (b0g _) _,?_,?_⟩⟩
 ·rw[b0e _ _ _ _ _ _ aa];rfl
 ·rw[List.length_append];refine ho.kept af ?_;cases hv:(Value.slice a1 (l.length+1) c1).ownBlock with
  | none=>exact Or.inl rfl
  | some q=>exact Or.inr (λe=>ae (by rw[hv];exact e))
theorem radd_any (w0:World) (SB AB OB sb aq am ab ae ai K o:Nat) (vs:Nat->V) (ac:Nat->Int) (ad af other:Int) (l:List Of) (v:Value) (w:World) (ho:o<K) (hl:l.length<=1000) (hW:OffW w0 w OB l v)
  (hS:w.cell? (Pv SB 0)=some (.slice (some (Pv sb aq)) K am)) (hA:w.cell? (Pv AB 0)=some (.slice (some (Pv ab ae)) K ai))
  (hv:VRow w (some (Pv sb aq)) K am vs) (ha:IRow w (some (Pv ab ae)) K ai ac) (aM:AB<OB/\ab<OB) :
  Calls prog 109 #[Iv ad,Iv af,Iv o,Iv other,.pointer (some (Pv SB 0)),.pointer (some (Pv OB 0)),.pointer (some (Pv AB 0))] w λe w'=>∃v',e=.returned (.tuple #[])/\Hid (OffW w0 w' OB (l++[⟨ad,af,ac o,⟨(vs o).root,(vs o).cost,(vs o).bridge,other⟩⟩]) v'/\∀q,q<w.heap.size->q≠OB->v.ownBlock≠some q->w'.heap[q]?=w.heap[q]?):=by
 obtain⟨p0,p1,p2,p3⟩:=VRow.cells hv ho;have q0:=IRow.cells ha ho;obtain⟨X,HX⟩:=nm (w.alloc (.cells #[Uv (vs o).root,Iv (vs o).cost,Uv (vs o).bridge,Iv other] 115))
 have aj:Bl w X:=(by rw[HX.o];exact bA1 _ _)
 obtain⟨VB,ak⟩:=nm w.heap.size
 have aL:X.heap.size=w.heap.size+1:=(by rw[HX.o];simp)
 have ay:X.heap[VB]?=some (.cells #[Uv (vs o).root,Iv (vs o).cost,Uv (vs o).bridge,Iv other] 115):=(by rw[HX.o,ak.o];exact a9Z _ _)
 have aI:=(hW.below aj).below (b0i (b0h _ _));have aG:OB<w.heap.size:=(gSm.1 hW.box).1;have au:v.ownBlock≠some VB:=λe=>by have:=(oCb hW.own VB e).2;rw[ak.o] at this;omega
 obtain⟨a1,c1,w2,aK,al,ah,ax,aO,hN⟩:=off_more aI hl ⟨ad,af,ac o,⟨(vs o).root,(vs o).cost,(vs o).bridge,other⟩⟩;have ar:∀W,Below OB w W->W.cell? (Pv AB 0)=some (.slice (some (Pv ab ae)) K ai)/\W.cell? (Pv ab (ae+o))=some (Iv (ac o)):=λW h=>⟨(h.cell (by exact aM.1)).trans hA,(h.cell (by exact aM.2)).trans q0⟩
 have az:Below OB w X:=aj.mono (Nat.le_of_lt aG);have ao:∀{W:World},W.heap[VB]?=X.heap[VB]?->W.cell? (Pv VB 0)=some (Uv (vs o).root)/\W.cell? (Pv VB 1)=some (Iv (vs o).cost)/\W.cell? (Pv VB 2)=some (Uv (vs o).bridge)/\W.cell? (Pv VB 3)=some (Iv other):=λ{W} h=>a1p (h.trans ay);have ap:VB<X.heap.size:=(by rw[ak.o,aL];omega)
 have aD:Below OB w X.drew:=az.drew;have aF:Below OB w (X.drew.alloc (.cells (ofA ⟨ad,af,ac o,⟨(vs o).root,(vs o).cost,(vs o).bridge,other⟩⟩) 180)):=aD.alloc (b0p (Nat.le_of_lt aG) aj.size) _;have aB:Below OB w w2:=by
  have e1:∀q,q<OB->w2.heap[q]?=w.heap[q]?:=λq hq=>by
   rw[al q (by have:X.drew.heap.size=X.heap.size:=rfl;have:=aj.size;omega) (λe=>by have:=(oCb hW.own q e).1;omega)];exact az.block q hq
  exact⟨by have:=ah.os;have:=hW.low.os;simp_all,by have:=ah.tape;have:=hW.low.tape;simp_all,by have:=ah.output;have:=hW.low.output;simp_all,by
   have h1:=hN.low.size;have h2:(w2.setCell (Pv OB 0) (.slice a1 (l.length+1) c1)).heap.size=w2.heap.size:=(by simp)
   have h3:=(gSm.1 ((al VB ap au).trans ay)).1;rw[ak.o] at h3;omega,e1⟩
 have aQ:Hid _:=(⟨ar X.drew aD,ao rfl⟩:_/\_)
 have aC:Hid _:=(⟨ar _ aF,ao ((bA1 X.drew (.cells (ofA ⟨ad,af,ac o,⟨(vs o).root,(vs o).cost,(vs o).bridge,other⟩⟩) 180)).block VB ap)⟩:_/\_)
 have aN:Hid _:=(⟨ar w2 aB,ao (al VB ap au)⟩:_/\_)
 have aw:VB≠OB:=(by rw[ak.o];omega)
 have aH:(w2.setCell (Pv OB 0) (.slice a1 (l.length+1) c1)).heap[VB]?=X.heap[VB]?:=(b0f w2 ⟨OB,0,none⟩ VB _ aw).trans (al VB ap au);have aE:Hid _:=(⟨ar (w2.setCell (Pv OB 0) (.slice a1 (l.length+1) c1)) (aB.setCell (b0g _) _),ao aH⟩:_/\_)
 have av:Hid _:=aK;have HN:Hid (OffW w0 (w2.setCell (Pv OB 0) (.slice a1 (l.length+1) c1)) OB (l++[⟨ad,af,ac o,⟨(vs o).root,(vs o).cost,(vs o).bridge,other⟩⟩]) (.slice a1 (l.length+1) c1)):=hN;have g0:X.cell? (Pv OB 0)=some v:=a2C (hW.below aj).box;have g1:∀ob,(X.alloc ob).cell? (Pv OB 0)=some v:=λob=>((bA1 X ob).cell (by show OB<X.heap.size;omega)).trans g0;have i0:(0:Int)<=(o:Int):=om
 have i1:(o:Int)<(K:Int):=om
 simp only[ofA] at av aC;have an:X.drew.heap.size=w.heap.size+1:=aL;rw[an] at av;clear an;have aJ:Hid (∀q,q<w.heap.size->q≠OB->v.ownBlock≠some q->(w2.setCell (Pv OB 0) (.slice a1 (l.length+1) c1)).heap[q]?=w.heap[q]?):=λq hq h1 h2=>by
  refine(b0f _ _ _ _ (by exact h1)).trans ((al q (by have:X.drew.heap.size=X.heap.size:=rfl;have:=aj.size;omega) h2).trans ?_);exact aj.block q hq
 clear aK hN al ah aB aF aD ao ar aI hW hv ha ay aj az q0 ap au aH;generalize (vs o).root=v0 at *;generalize (vs o).cost=v1 at *;generalize (vs o).bridge=v2 at *;generalize ac o=ag at *;go_enter func109,ntmps109;(go_wp2_with fail);rw[<-HX.o,<-ak.o];refine wp_region_held_drew (S:=λW=>(W.cell? (Pv AB 0)=some (.slice (some (Pv ab ae)) K ai)/\W.cell? (Pv ab (ae+o))=some (Iv ag))/\(W.cell? (Pv VB 0)=some (Uv v0)/\W.cell? (Pv VB 1)=some (Iv v1)/\W.cell? (Pv VB 2)=some (Uv v2)/\W.cell? (Pv VB 3)=some (Iv other))) kr aQ.o (λaa => ?_);refine a0l 1 19 aa ?_
 (try simp only[aP])
 refine a0l 2 20 aa ?_
 (try simp only[aP])
 refine a0l 3 21 aa ?_
 (try simp only[aP])
 refine a0l 4 22 aa ?_
 (try simp only[aP])
 refine a0l 5 23 aa ?_
 (try simp only[aP])
 refine a0l 6 24 aa ?_
 (try simp only[aP])
 refine a0l 7 25 aa ?_
 (try simp only[aP])
 refine a0l 8 26 aa ?_
 (try simp only[aP])
 refine wpAnyH_ready (rs:=[0,9]) kr (by simp) ?_;refine AllReadyH.cons rfl (λK hK => ?_) (AllReadyH.cons rfl (λK hK => ?_) AllReadyH.nil)
 ·go_simp;refine hK.out _ _ aa (λaa => ?_);clear hK K;(try simp only[aP])
  refine a1N 9 (λK hK=>?_);go_simp;refine hK.out _ _ aC.o (λaa => ?_);clear hK K;(try simp only[aP])
  refine a1N 10 (λK hK=>?_);refine a3y (some 28) rfl rfl (.tmp 18) (.tmp 27) 151 rfl _ _ _ rfl rfl av.o ?_;refine hK.out _ _ aN.o (λaa => ?_);clear hK K;(try simp only[aP])
  refine a1N 11 (λK hK=>?_);go_simp;refine hK.out _ _ aE.o (λaa => ?_);clear hK K;refine wpAnyH_done kr ?_ _;clear aa;(go_wp2_with fail);go_end0;exact⟨_,rfl,HN.o,aJ.o⟩
 ·go_simp;refine hK.out _ _ aC.o (λaa => ?_);clear hK K;(try simp only[aP])
  refine a1N 0 (λK hK=>?_);go_simp;refine hK.out _ _ aa (λaa => ?_);clear hK K;(try simp only[aP])
  refine a1N 10 (λK hK=>?_);refine a3y (some 28) rfl rfl (.tmp 18) (.tmp 27) 151 rfl _ _ _ rfl rfl av.o ?_;refine hK.out _ _ aN.o (λaa => ?_);clear hK K;(try simp only[aP])
  refine a1N 11 (λK hK=>?_);go_simp;refine hK.out _ _ aE.o (λaa => ?_);clear hK K;refine wpAnyH_done kr ?_ _;clear aa;(go_wp2_with fail);go_end0;exact⟨_,rfl,HN.o,aJ.o⟩
