/- PQW -/
import Derived.Test.YtelebnancdjjiaaGreatDoorE27
set_option maxRecDepth 100000
set_option maxHeartbeats 40000000
namespace Go.Proofs.YtelebnancdjjiaaGreatDoor
section
open Go.Proofs.Tryz Go.RowKit
open Vc(V Of)
open Pl(Br Net Pc Lk En)
theorem a2V (n:Net) (w:World) (aw:n.at' w) :
  Calls prog 31 #[n.val] w λe w'=>e=.returned (.agg (ftA n.wrong))/\Bl w w':=by
 obtain⟨X0,ax⟩:∃X,Hid (X=(w.alloc (.cells #[.slice n.bao n.K n.bcap,.slice n.lao n.L n.lcap] 25)).alloc (.cells #[Iv 0,Iv 0] 37)):=⟨_,rfl⟩
 have ai:Bl w X0:=(by rw[ax.o];exact bA2 _ _ _)
 have a2:X0.heap.size=w.heap.size+1+1:=(by rw[ax.o];simp)
 have bp:X0.heap[w.heap.size]?=some (.cells #[.slice n.bao n.K n.bcap,.slice n.lao n.L n.lcap] 25):=(by rw[ax.o];exact b0d _ _ _)
 have bi:X0.heap[w.heap.size+1]?=some (.cells #[Iv 0,Iv 0] 37):=(by rw[ax.o];exact b0c _ _ _)
 obtain⟨BN,bg⟩:=nm w.heap.size
 obtain⟨G,HG⟩:=nm (w.heap.size+1)
 have HC:Hid (∀W,Bl X0 W->((W.cell? (Pv BN 0)=some (.slice n.bao n.K n.bcap)/\W.cell? (Pv BN 1)=some (.slice n.lao n.L n.lcap))/\n.at' W)/\(Bl w W/\W.heap[G]?=some (.cells #[Iv 0,Iv 0] 37))):=λW hW=>by
  have h1:Bl w W:=ai.trans (hW.mono ai.size);rw[bg.o,HG.o];exact⟨⟨tC2 (keep bp hW),aw.below h1⟩,h1,keep bi hW⟩
 have ab:w.heap.size<=G:=(by rw[HG.o];omega)
 have bG:=aw.brs.1;have bt:=aw.lks.1;have b1:=aw.manyB;have b2:=aw.manyL;obtain⟨⟨⟨n0,n1⟩,_⟩,_⟩:=HC.o X0 (b0h _ _);rw[bg.o,ax.o] at n0 n1;have bL:Hid (X0.heap[G]?=some (.cells #[Iv 0,Iv 0] 37)/\Bl w X0):=(by rw[HG.o];exact⟨bi,ai⟩)
 clear aw bp bi ai a2;simp only[Pl.Net.val];go_enter func31,ntmps31;by_cases m1:12<n.K
 ·have aa:Hid (n.wrong=(5,0)):=by show n.wrong=(5,0);unfold Pl.Net.wrong;rw[iP (Or.inl m1)]
  have mi:(12:Int)<(n.K:Int):=om
  (go_wp2_with fail);exact b0b (v:=.agg #[Iv 5,Iv 0]) (a0b (p:=2) (ty:=37) results31 _ _ (w.heap.size+1) 37 #[Iv 5,Iv 0] (0,0) _ rfl (b0c _ _ _) underlying37 rfl (by rw[a0S];rfl)) rfl ⟨by rw[aa.o];rfl,bA2 _ _ _⟩
 by_cases m2:40<n.L
 ·have aa:Hid (n.wrong=(5,0)):=by show n.wrong=(5,0);unfold Pl.Net.wrong;rw[iP (Or.inr m2)]
  have mi:(40:Int)<(n.L:Int):=om
  have mj:¬(12:Int)<(n.K:Int):=om
  (go_wp2_with fail);exact b0b (v:=.agg #[Iv 5,Iv 0]) (a0b (p:=2) (ty:=37) results31 _ _ (w.heap.size+1) 37 #[Iv 5,Iv 0] (0,0) _ rfl (b0c _ _ _) underlying37 rfl (by rw[a0S];rfl)) rfl ⟨by rw[aa.o];rfl,bA2 _ _ _⟩
 have ba:Hid (¬(12<n.K\/40<n.L)):=by show ¬(12<n.K\/40<n.L);omega
 have mi:¬(12:Int)<(n.K:Int):=om
 have mj:¬(40:Int)<(n.L:Int):=om
 (go_wp2_with fail);rw[<-ax.o];rw[<-HG.o];rw[<-bg.o];clear n0 n1 bL;go_loopw [34] (λi wr=>∃k:Nat,k<=n.K/\i=Iv k/\Hid (∀j,j<k->Pl.bErr n.bs j=0)/\Hid (Bl X0 wr)) (λi _=>n.K-(intOf i).toNat)
 case atStart=>exact⟨0,om,rfl,(λj hj=>absurd hj om),b0h _ _⟩
 case round =>
  obtain⟨k,hk,rfl,hS,hB⟩:=hrel;by_cases hlt:k<n.K
  ·obtain⟨⟨⟨m0,aE⟩,ag⟩,_⟩:=HC.o wr hB.o;obtain⟨b,off,eb,_⟩:=CRow.some ag.brs om;have al:=ag.brs;rw[eb] at al m0 ⊢;have bB:Hid (n.bao=some (Pv b off)):=eb;obtain⟨c0,c1,c2,c3,c4⟩:=BRow.cells al hlt;obtain⟨x,hx⟩:=nn (n.bs k)
   rw[<-hx] at c0 c1 c2 c3 c4;obtain⟨X,HX⟩:=nm ((wr.alloc (.cells #[Iv k] 3)).alloc (.cells #[Uv x.addr,.slice x.pao x.pn x.pcap,.string x.reg.s,Iv x.reg.rev,.slice x.reg.ao x.reg.n x.reg.cap] 65))
   have ai:Bl wr X:=(by rw[HX.o];exact bA2 _ _ _)
   have an:X.heap[wr.heap.size]?=some (.cells #[Iv k] 3):=(by rw[HX.o];exact b0d _ _ _)
   have ay:X.heap[wr.heap.size+1]?=some (.cells #[Uv x.addr,.slice x.pao x.pn x.pcap,.string x.reg.s,Iv x.reg.rev,.slice x.reg.ao x.reg.n x.reg.cap] 65):=(by rw[HX.o];exact b0c _ _ _)
   have az:Hid (Bl X X):=b0h _ _;have am:Bl X0 X:=pup hB.o ai hB.o.size;have aO:Hid (∀W,Bl X W->Bl X0 W):=λW hW=>pup am hW am.size;have ac:Hid (∀(e:Int) (W:World),Bl X W->Calls prog 54 #[Iv e,.pointer (some (Pv wr.heap.size 0))] W λr w'=>r=.returned (.agg #[Iv e,Iv k])/\Hid (Bl w w'/\w'.heap[G]?=some (.cells #[Iv 0,Iv 0] 37))):=λe W hW=>(a9A e wr.heap.size k W (a9Y W _ 0 _ _ _ (keep an hW))).mono (λ_ w' h=>⟨h.1,(HC.o w' (aO.o w' (hW.trans (h.2.mono hW.size)))).2⟩);have aY:Hid (∀W,Bl X W->W.cell? (Pv wr.heap.size 0)=some (Iv k)/\W.cell? (Pv (wr.heap.size+1) 0)=some (Uv x.addr)/\W.cell? (Pv (wr.heap.size+1) 1)=some (.slice x.pao x.pn x.pcap)/\W.cell? (Pv (wr.heap.size+1) 2)=some (.string x.reg.s)/\W.cell? (Pv (wr.heap.size+1) 3)=some (Iv x.reg.rev)/\W.cell? (Pv (wr.heap.size+1) 4)=some (.slice x.reg.ao x.reg.n x.reg.cap)):=λW hW=>⟨a9Y W _ 0 _ _ _ (keep an hW),a1L (keep ay hW)⟩
   have ae:Hid (∀e,e≠0->Pl.bErr n.bs k=e->n.wrong=(e,(k:Int))):=λe he h=>pwrong_b ba.o hlt hS.o he h;have a4:Hid (Pl.bErr n.bs k=0->∀j,j<k+1->Pl.bErr n.bs j=0):=λh=>upto hS.o h;have aR:Hid (∀e,e≠0->Pl.brErr x=e->Pl.bErr n.bs k=e):=λe he h=>by
    unfold Pl.bErr;rw[<-hx,iP (by rw[h];exact he),h]
   have bc:Hid (Pl.brErr x=0->Pl.bErr n.bs k=if Vc.someTo (λj=>decide ((n.bs j).addr=x.addr)) k=true then 7 else 0):=λh=>by
    unfold Pl.bErr;rw[<-hx,iN (λz=>z h)]
   have aV:Hid (∀W,Bl X W->x.at' W):=λW hW=>by rw[hx];exact(HC.o W (aO.o W hW)).1.2.each k hlt
   obtain⟨i0,d0,d1,d2,d3,d4⟩:=aY.o X az.o;have bR:=(aV.o X az.o).2.2.1;have bX:=(aV.o X az.o).1.1;have ik:(0:Int)<=(k:Int):=om
   have nk:(k:Int)<(n.K:Int):=om
   clear hS hB ai an ay ag al hx am;(go_upto_region 7 with fail);rw[<-HX.o];clear c0 c1 c2 c3 c4;by_cases p1:281474976710656<=x.addr
   ·have ad:Pl.brErr x=3:=(by unfold Pl.brErr;rw[iP om])
    have aa:Hid (n.wrong=(3,(k:Int))):=ae.o 3 om (aR.o 3 om ad);(go_wp2_with fail);refine(ac.o 3 X az.o).mono ?_;rintro rr w9 ⟨rfl,HZ⟩;obtain⟨f0,f1,f2,f3⟩:=a0I HZ.o.2;(go_wp2_with fail);exact b0b (v:=.agg #[Iv 3,Iv k]) (a0b (p:=2) (ty:=37) results31 _ _ G 37 #[Iv 3,Iv k] (0,0) _ rfl (a1d HZ.o.2) underlying37 rfl (by rw[a0S];rfl)) rfl ⟨by rw[aa.o];rfl,(HZ.o.1.setCell ab _).setCell ab _⟩
   ·by_cases p2:(16:Int)<x.pn
    ·have ad:Pl.brErr x=5:=(by unfold Pl.brErr;rw[iN om,iP om])
     have aa:Hid (n.wrong=(5,(k:Int))):=ae.o 5 om (aR.o 5 om ad);(go_wp2_with fail);refine(ac.o 5 X az.o).mono ?_;rintro rr w9 ⟨rfl,HZ⟩;obtain⟨f0,f1,f2,f3⟩:=a0I HZ.o.2;(go_wp2_with fail);exact b0b (v:=.agg #[Iv 5,Iv k]) (a0b (p:=2) (ty:=37) results31 _ _ G 37 #[Iv 5,Iv k] (0,0) _ rfl (a1d HZ.o.2) underlying37 rfl (by rw[a0S];rfl)) rfl ⟨by rw[aa.o];rfl,(HZ.o.1.setCell ab _).setCell ab _⟩
    ·have a5:Hid (Pl.brErr x=if Vc.someTo (λi=>Pl.oddP (x.pv i)) x.pn=true then 3 else Rg.wrong x.reg.s x.reg.rev x.reg.vs x.reg.ts x.reg.n):=by
      show Pl.brErr x=_;unfold Pl.brErr;rw[iN om,iN om]
     (go_wp2_with fail);go_loopw [54] (λi ws=>∃j:Nat,j<=x.pn/\i=Iv j/\Hid (Vc.someTo (λi=>Pl.oddP (x.pv i)) j=false)/\Hid (Bl X ws)) (λi _=>x.pn-(intOf i).toNat)
     case atStart=>exact⟨0,om,rfl,rfl,az⟩
     case round =>
      obtain⟨j,hj,rfl,hN,hB⟩:=hrel;rename World=>ws
      by_cases hjl:j<x.pn
      ·have a0:=(aV.o ws hB.o).1;obtain⟨pb,bD,bM,_⟩:=CRow.some a0 om;rw[bM] at a0 ⊢;have e0:=IRow.cells a0 hjl;have ij:(0:Int)<=(j:Int):=om
       have nj:(j:Int)<(x.pn:Int):=om
       have bh:Hid (Pl.oddP (x.pv j)=true->n.wrong=(3,(k:Int))):=λh=>ae.o 3 om (aR.o 3 om (by
        rw[a5.o,iP (Pl.someTo_iff.2 ⟨j,hjl,h⟩)]))
       have au:Hid (Pl.oddP (x.pv j)=false->Vc.someTo (λi=>Pl.oddP (x.pv i)) (j+1)=false):=λh=>by
        show(Vc.someTo (λi=>Pl.oddP (x.pv i)) j||Pl.oddP (x.pv j))=false;rw[hN.o,h];rfl
       have wj:IntKind.i64.wrap ((j:Int)+1)=((j+1:Nat):Int):=(by rw[IntKind.wrap_i64];omega)
       clear hN a0 d0 d1 d2 d3 d4;generalize x.pv j=p at *;by_cases g1:p<0
       ·have aN:Pl.oddP p=true:=(by unfold Pl.oddP;simp;omega)
        have aa:Hid (n.wrong=(3,(k:Int))):=bh.o aN;(go_wp2_with fail);refine(ac.o 3 ws hB.o).mono ?_;rintro rr w9 ⟨rfl,HZ⟩;obtain⟨f0,f1,f2,f3⟩:=a0I HZ.o.2;(go_wp2_with fail);exact b0b (v:=.agg #[Iv 3,Iv k]) (a0b (p:=2) (ty:=37) results31 _ _ G 37 #[Iv 3,Iv k] (0,0) _ rfl (a1d HZ.o.2) underlying37 rfl (by rw[a0S];rfl)) rfl ⟨by rw[aa.o];rfl,(HZ.o.1.setCell ab _).setCell ab _⟩
       ·by_cases g2:61440<p
        ·have aN:Pl.oddP p=true:=(by unfold Pl.oddP;simp;omega)
         have aa:Hid (n.wrong=(3,(k:Int))):=bh.o aN;(go_wp2_with fail);refine(ac.o 3 ws hB.o).mono ?_;rintro rr w9 ⟨rfl,HZ⟩;obtain⟨f0,f1,f2,f3⟩:=a0I HZ.o.2;(go_wp2_with fail);exact b0b (v:=.agg #[Iv 3,Iv k]) (a0b (p:=2) (ty:=37) results31 _ _ G 37 #[Iv 3,Iv k] (0,0) _ rfl (a1d HZ.o.2) underlying37 rfl (by rw[a0S];rfl)) rfl ⟨by rw[aa.o];rfl,(HZ.o.1.setCell ab _).setCell ab _⟩
        ·obtain⟨q,hq⟩:∃q,p.tdiv 4096=q:=⟨_,rfl⟩
         have bY:q=p/4096:=(by rw[<-hq];exact Int.tdiv_eq_ediv_of_nonneg om)
         have u1:IntKind.i64.wrap q=q:=(by rw[IntKind.wrap_i64];omega)
         have u2:IntKind.i64.wrap (q*4096)=q*4096:=(by rw[IntKind.wrap_i64];omega)
         by_cases g3:q*4096=p
         ·have aq:Hid _:=au.o (by unfold Pl.oddP;simp;omega);(go_wp2_with fail);exact⟨⟨j+1,om,gn,aq,hB⟩,io⟩
         ·have aN:Pl.oddP p=true:=(by unfold Pl.oddP;simp;omega)
          have aa:Hid (n.wrong=(3,(k:Int))):=bh.o aN;(go_wp2_with fail);refine(ac.o 3 ws hB.o).mono ?_;rintro rr w9 ⟨rfl,HZ⟩;obtain⟨f0,f1,f2,f3⟩:=a0I HZ.o.2;(go_wp2_with fail);exact b0b (v:=.agg #[Iv 3,Iv k]) (a0b (p:=2) (ty:=37) results31 _ _ G 37 #[Iv 3,Iv k] (0,0) _ rfl (a1d HZ.o.2) underlying37 rfl (by rw[a0S];rfl)) rfl ⟨by rw[aa.o];rfl,(HZ.o.1.setCell ab _).setCell ab _⟩
      ·obtain rfl:j=x.pn:=om
       obtain⟨i1,t0,t1,t2,t3,t4⟩:=aY.o ws hB.o;have bo:Hid (Calls prog 55 #[.agg #[.string x.reg.s,Iv x.reg.rev,.slice x.reg.ao x.reg.n x.reg.cap]] ws λe w'=>e=.returned (Iv (Rg.wrong x.reg.s x.reg.rev x.reg.vs x.reg.ts x.reg.n))/\Hid (Bl X w')):=by
        have h:=(aV.o ws hB.o)
        refine(a4w x.reg.s x.reg.rev x.reg.ao x.reg.n x.reg.cap x.reg.vs x.reg.ts ws h.2.2.2 h.2.1).mono ?_;rintro e w' ⟨rfl,hb⟩;exact⟨rfl,hB.o.trans (hb.mono hB.o.size)⟩
       have aC:Hid (Pl.brErr x=Rg.wrong x.reg.s x.reg.rev x.reg.vs x.reg.ts x.reg.n):=by
        show Pl.brErr x=_;rw[a5.o,iN (by rw[hN.o];decide)]
       clear hN a5 d0 d1 d2 d3 d4 i0;generalize Rg.wrong x.reg.s x.reg.rev x.reg.vs x.reg.ts x.reg.n=re at *;(go_wp2_with fail);refine bo.o.mono ?_;rintro e w5 ⟨rfl,aZ⟩;obtain⟨i5,b0,bV,bU,bW,bT⟩:=aY.o w5 aZ.o;clear bo t0 t1 t2 t3 t4 i1;by_cases g4:re=0
       ·have bm:Hid (Pl.bErr n.bs k=if Vc.someTo (λj=>decide ((n.bs j).addr=x.addr)) k=true then 7 else 0):=bc.o (by rw[aC.o,g4]);obtain⟨⟨⟨q0,q1⟩,_⟩,_⟩:=HC.o w5 (aO.o w5 aZ.o);rw[bB.o] at q0;have ck:k<=n.bcap:=om
        subst g4;(go_wp2_with fail);go_loopw [87] (λi ws=>∃j:Nat,j<=k/\i=Iv j/\Hid (Vc.someTo (λj=>decide ((n.bs j).addr=x.addr)) j=false)/\Hid (Bl X ws)) (λi _=>k-(intOf i).toNat)
        case atStart=>exact⟨0,om,rfl,rfl,aZ⟩
        case round =>
         obtain⟨j,hj,rfl,hN,hB⟩:=hrel;rename World=>wt
         by_cases hjl:j<k
         ·obtain⟨⟨_,ap⟩,_⟩:=HC.o wt (aO.o wt hB.o);have al:=ap.brs;rw[bB.o] at al;obtain⟨c0,c1,c2,c3,c4⟩:=BRow.cells al (show j<n.K by omega);obtain⟨_,v0,_⟩:=aY.o (wt.alloc (.cells #[Uv (n.bs j).addr,.slice (n.bs j).pao (n.bs j).pn (n.bs j).pcap,.string (n.bs j).reg.s,Iv (n.bs j).reg.rev,.slice (n.bs j).reg.ao (n.bs j).reg.n (n.bs j).reg.cap] 65)) (hB.o.trans ((bA1 _ _).mono hB.o.size));have HA:Hid (∀o,Bl X (wt.alloc o)):=λo=>hB.o.trans ((bA1 _ _).mono hB.o.size);have ij:(0:Int)<=(j:Int):=om
          have nj:(j:Int)<(k:Int):=om
          have wj:IntKind.i64.wrap ((j:Int)+1)=((j+1:Nat):Int):=(by rw[IntKind.wrap_i64];omega)
          by_cases g5:(n.bs j).addr=x.addr
          ·have bq:Hid (Vc.someTo (λj=>decide ((n.bs j).addr=x.addr)) k=true):=Pl.someTo_iff.2 ⟨j,hjl,b0k g5⟩;have aa:Hid (n.wrong=(7,(k:Int))):=ae.o 7 om (by rw[bm.o,iP bq.o]);clear hN al ap bq;rw[g5] at c0 v0;(go_wp2_with fail);refine(ac.o 7 _ (HA.o _)).mono ?_;rintro rr w9 ⟨rfl,HZ⟩;obtain⟨f0,f1,f2,f3⟩:=a0I HZ.o.2;(go_wp2_with fail);exact b0b (v:=.agg #[Iv 7,Iv k]) (a0b (p:=2) (ty:=37) results31 _ _ G 37 #[Iv 7,Iv k] (0,0) _ rfl (a1d HZ.o.2) underlying37 rfl (by rw[a0S];rfl)) rfl ⟨by rw[aa.o];rfl,(HZ.o.1.setCell ab _).setCell ab _⟩
          ·have aq:Hid (Vc.someTo (λj=>decide ((n.bs j).addr=x.addr)) (j+1)=false):=by
            show(Vc.someTo (λj=>decide ((n.bs j).addr=x.addr)) j||decide ((n.bs j).addr=x.addr))=false;rw[hN.o,b0j g5];rfl
           clear hN al ap;(go_wp2_with fail);exact⟨⟨j+1,om,gn,aq,HA.o _⟩,io⟩
         ·obtain rfl:j=k:=om
          have bd:Hid _:=a4.o (by rw[bm.o,iN (by rw[hN.o];decide)]);have bP:Hid _:=aO.o wt hB.o;have wk:IntKind.i64.wrap ((j:Int)+1)=((j+1:Nat):Int):=(by rw[IntKind.wrap_i64];omega)
          clear hN;(go_wp2_with fail);exact⟨⟨j+1,om,gn,bd,bP⟩,io⟩
       ·have aa:Hid (n.wrong=(re,(k:Int))):=ae.o re g4 (aR.o re g4 aC.o);(go_wp2_with fail);refine(ac.o re w5 aZ.o).mono ?_;rintro rr w9 ⟨rfl,HZ⟩;obtain⟨f0,f1,f2,f3⟩:=a0I HZ.o.2;(go_wp2_with fail);exact b0b (v:=.agg #[Iv re,Iv k]) (a0b (p:=2) (ty:=37) results31 _ _ G 37 #[Iv re,Iv k] (0,0) _ rfl (a1d HZ.o.2) underlying37 rfl (by rw[a0S];rfl)) rfl ⟨by rw[aa.o];rfl,(HZ.o.1.setCell ab _).setCell ab _⟩
  ·obtain rfl:k=n.K:=om
   have bx:Hid (∀j,j<n.K->Pl.bErr n.bs j=0):=hS;have bc:Hid (Bl X0 wr):=hB;obtain⟨⟨⟨m0,aE⟩,_⟩,_⟩:=HC.o wr hB.o;have b3:¬(n.K:Int)<(n.K:Int):=om
   clear hS hB;(go_wp2_with fail);clear m0 aE;go_loopw [11,103] (λa i ws=>∃(hv:Value) (k:Nat),hv=a/\k<=n.L/\i=Iv k/\Hid (∀j,j<k->Pl.lErr n.K n.ls j=0)/\Hid (Bl X0 ws/\ws.ownsRow X0.heap.size 75 2 hv (2*k) (a0f (2*k) 2 (ptC n.ls)))) (λ_ i _=>n.L-(intOf i).toNat)
   case atStart=>exact⟨_,0,rfl,om,rfl,(λj hj=>absurd hj om),bc.o,a0y _ _ _ _ _⟩
   case round =>
    rename World=>ws
    obtain⟨hv,k,rfl,hk,rfl,hS,hB⟩:=hrel;by_cases hlt:k<n.L
    ·obtain⟨⟨⟨m0,aE⟩,ag⟩,_⟩:=HC.o ws hB.o.1;obtain⟨b,off,eb,_⟩:=CRow.some ag.lks om;have a7:=ag.lks;rw[eb] at a7 aE ⊢;obtain⟨c0,c1,c2,c3,c4,c5⟩:=LRow.cells a7 hlt;obtain⟨x,hx⟩:=nn (n.ls k)
     rw[<-hx] at c0 c1 c2 c3 c4 c5;obtain⟨X,HX⟩:=nm ((ws.alloc (.cells #[Iv k] 3)).alloc (.cells #[Iv x.a,Iv x.pa,Iv x.b,Iv x.pb,Iv x.cost,.bool x.up] 103))
     have ai:Bl ws X:=(by rw[HX.o];exact bA2 _ _ _)
     have an:X.heap[ws.heap.size]?=some (.cells #[Iv k] 3):=(by rw[HX.o];exact b0d _ _ _)
     have ay:X.heap[ws.heap.size+1]?=some (.cells #[Iv x.a,Iv x.pa,Iv x.b,Iv x.pb,Iv x.cost,.bool x.up] 103):=(by rw[HX.o];exact b0c _ _ _)
     have a2:X.heap.size=ws.heap.size+1+1:=(by rw[HX.o];simp)
     have am:Bl X0 X:=pup hB.o.1 ai hB.o.1.size;have ar:Hid (∀(e:Int) (W:World),Bl X0 W->W.heap[ws.heap.size]?=some (.cells #[Iv k] 3)->Calls prog 56 #[Iv e,.pointer (some (Pv ws.heap.size 0))] W λr w'=>r=.returned (.agg #[Iv e,Iv k])/\Hid (Bl w w'/\w'.heap[G]?=some (.cells #[Iv 0,Iv 0] 37))):=λe W hW hi=>(a9B e ws.heap.size k W (a9Y W _ 0 _ _ _ hi)).mono (λ_ w' h=>⟨h.1,(HC.o w' (hW.trans (h.2.mono hW.size))).2⟩);have ac:Hid (∀(e:Int) (W:World),W=X->Calls prog 56 #[Iv e,.pointer (some (Pv ws.heap.size 0))] W λr w'=>r=.returned (.agg #[Iv e,Iv k])/\Hid (Bl w w'/\w'.heap[G]?=some (.cells #[Iv 0,Iv 0] 37))):=λe W hW=>by
      subst hW;exact ar.o e _ am an
     have ae:Hid (∀e,e≠0->Pl.lErr n.K n.ls k=e->n.wrong=(e,(k:Int))):=λe he h=>pwrong_l ba.o bx.o hlt hS.o he h;have a4:Hid (Pl.lErr n.K n.ls k=0->∀j,j<k+1->Pl.lErr n.K n.ls j=0):=λh=>upto hS.o h;have ah:Hid (∀e,e≠0->Pl.lkErr n.K x=e->Pl.lErr n.K n.ls k=e):=λe he h=>by
      unfold Pl.lErr;rw[<-hx,iP (by rw[h];exact he),h]
     have av:Hid (Bl X0 X/\X.ownsRow X0.heap.size 75 2 hv (2*k) (a0f (2*k) 2 (ptC n.ls))/\X.heap[ws.heap.size]?=some (.cells #[Iv k] 3)/\X.heap[ws.heap.size+1]?=some (.cells #[Iv x.a,Iv x.pa,Iv x.b,Iv x.pb,Iv x.cost,.bool x.up] 103)/\(∀q,hv.ownBlock=some q->q<ws.heap.size)):=⟨am,a0h hB.o.2 ai,an,ay,λq hq=>(oCb hB.o.2 q hq).2⟩
     have bl:Hid (a0r n.ls (2*k)=(x.a,x.pa)/\a0r n.ls (2*k+1)=(x.b,x.pb)):=(by rw[hx];exact⟨a1w _ _,a1R _ _⟩)
     have bA:Hid (∀h:Pl.lkErr n.K x=0,Pl.lkErr n.K (n.ls k)=0):=λh=>by rw[<-hx];exact h
     obtain⟨d0,d1,d2,d3,d4,d5⟩:=a1s ay;obtain⟨⟨⟨r0,r1⟩,_⟩,_⟩:=HC.o X am;have ik:(0:Int)<=(k:Int):=om
     have nk:(k:Int)<(n.L:Int):=om
     clear hS hB ai an ay ag a7 hx am m0 aE;rw[HX.o] at r0 r1;(go_upto_region 33 with fail);rw[<-HX.o] at r0 r1 ⊢;clear c0 c1 c2 c3 c4 c5;by_cases p1:x.a<0
     ·have ad:Pl.lkErr n.K x=6:=(by unfold Pl.lkErr;rw[iP om])
      have aa:Hid (n.wrong=(6,(k:Int))):=ae.o 6 om (ah.o 6 om ad);(go_wp2_with fail);refine(ac.o 6 X rfl).mono ?_;rintro rr w9 ⟨rfl,HZ⟩;obtain⟨f0,f1,f2,f3⟩:=a0I HZ.o.2;(go_wp2_with fail);exact b0b (v:=.agg #[Iv 6,Iv k]) (a0b (p:=2) (ty:=37) results31 _ _ G 37 #[Iv 6,Iv k] (0,0) _ rfl (a1d HZ.o.2) underlying37 rfl (by rw[a0S];rfl)) rfl ⟨by rw[aa.o];rfl,(HZ.o.1.setCell ab _).setCell ab _⟩
     ·by_cases p2:(n.K:Int)<=x.a
      ·have ad:Pl.lkErr n.K x=6:=(by unfold Pl.lkErr;rw[iP om])
       have aa:Hid (n.wrong=(6,(k:Int))):=ae.o 6 om (ah.o 6 om ad);(go_wp2_with fail);refine(ac.o 6 X rfl).mono ?_;rintro rr w9 ⟨rfl,HZ⟩;obtain⟨f0,f1,f2,f3⟩:=a0I HZ.o.2;(go_wp2_with fail);exact b0b (v:=.agg #[Iv 6,Iv k]) (a0b (p:=2) (ty:=37) results31 _ _ G 37 #[Iv 6,Iv k] (0,0) _ rfl (a1d HZ.o.2) underlying37 rfl (by rw[a0S];rfl)) rfl ⟨by rw[aa.o];rfl,(HZ.o.1.setCell ab _).setCell ab _⟩
      ·by_cases p3:x.b<0
       ·have ad:Pl.lkErr n.K x=6:=(by unfold Pl.lkErr;rw[iP om])
        have aa:Hid (n.wrong=(6,(k:Int))):=ae.o 6 om (ah.o 6 om ad);(go_wp2_with fail);refine(ac.o 6 X rfl).mono ?_;rintro rr w9 ⟨rfl,HZ⟩;obtain⟨f0,f1,f2,f3⟩:=a0I HZ.o.2;(go_wp2_with fail);exact b0b (v:=.agg #[Iv 6,Iv k]) (a0b (p:=2) (ty:=37) results31 _ _ G 37 #[Iv 6,Iv k] (0,0) _ rfl (a1d HZ.o.2) underlying37 rfl (by rw[a0S];rfl)) rfl ⟨by rw[aa.o];rfl,(HZ.o.1.setCell ab _).setCell ab _⟩
       ·by_cases p4:(n.K:Int)<=x.b
        ·have ad:Pl.lkErr n.K x=6:=(by unfold Pl.lkErr;rw[iP om])
         have aa:Hid (n.wrong=(6,(k:Int))):=ae.o 6 om (ah.o 6 om ad);(go_wp2_with fail);refine(ac.o 6 X rfl).mono ?_;rintro rr w9 ⟨rfl,HZ⟩;obtain⟨f0,f1,f2,f3⟩:=a0I HZ.o.2;(go_wp2_with fail);exact b0b (v:=.agg #[Iv 6,Iv k]) (a0b (p:=2) (ty:=37) results31 _ _ G 37 #[Iv 6,Iv k] (0,0) _ rfl (a1d HZ.o.2) underlying37 rfl (by rw[a0S];rfl)) rfl ⟨by rw[aa.o];rfl,(HZ.o.1.setCell ab _).setCell ab _⟩
        ·by_cases p5:x.a=x.b
         ·have ad:Pl.lkErr n.K x=8:=(by unfold Pl.lkErr;rw[iN om,iP p5])
          have aa:Hid (n.wrong=(8,(k:Int))):=ae.o 8 om (ah.o 8 om ad);(go_wp2_with fail);refine(ac.o 8 X rfl).mono ?_;rintro rr w9 ⟨rfl,HZ⟩;obtain⟨f0,f1,f2,f3⟩:=a0I HZ.o.2;(go_wp2_with fail);exact b0b (v:=.agg #[Iv 8,Iv k]) (a0b (p:=2) (ty:=37) results31 _ _ G 37 #[Iv 8,Iv k] (0,0) _ rfl (a1d HZ.o.2) underlying37 rfl (by rw[a0S];rfl)) rfl ⟨by rw[aa.o];rfl,(HZ.o.1.setCell ab _).setCell ab _⟩
         ·by_cases p6:x.pa<1
          ·have ad:Pl.lkErr n.K x=3:=(by unfold Pl.lkErr;rw[iN om,iN p5,iP om])
           have aa:Hid (n.wrong=(3,(k:Int))):=ae.o 3 om (ah.o 3 om ad);(go_wp2_with fail);refine(ac.o 3 X rfl).mono ?_;rintro rr w9 ⟨rfl,HZ⟩;obtain⟨f0,f1,f2,f3⟩:=a0I HZ.o.2;(go_wp2_with fail);exact b0b (v:=.agg #[Iv 3,Iv k]) (a0b (p:=2) (ty:=37) results31 _ _ G 37 #[Iv 3,Iv k] (0,0) _ rfl (a1d HZ.o.2) underlying37 rfl (by rw[a0S];rfl)) rfl ⟨by rw[aa.o];rfl,(HZ.o.1.setCell ab _).setCell ab _⟩
          ·by_cases p7:30<x.pa
           ·have ad:Pl.lkErr n.K x=3:=(by unfold Pl.lkErr;rw[iN om,iN p5,iP om])
            have aa:Hid (n.wrong=(3,(k:Int))):=ae.o 3 om (ah.o 3 om ad);(go_wp2_with fail);refine(ac.o 3 X rfl).mono ?_;rintro rr w9 ⟨rfl,HZ⟩;obtain⟨f0,f1,f2,f3⟩:=a0I HZ.o.2;(go_wp2_with fail);exact b0b (v:=.agg #[Iv 3,Iv k]) (a0b (p:=2) (ty:=37) results31 _ _ G 37 #[Iv 3,Iv k] (0,0) _ rfl (a1d HZ.o.2) underlying37 rfl (by rw[a0S];rfl)) rfl ⟨by rw[aa.o];rfl,(HZ.o.1.setCell ab _).setCell ab _⟩
           ·by_cases p8:x.pb<1
            ·have ad:Pl.lkErr n.K x=3:=(by unfold Pl.lkErr;rw[iN om,iN p5,iP om])
             have aa:Hid (n.wrong=(3,(k:Int))):=ae.o 3 om (ah.o 3 om ad);(go_wp2_with fail);refine(ac.o 3 X rfl).mono ?_;rintro rr w9 ⟨rfl,HZ⟩;obtain⟨f0,f1,f2,f3⟩:=a0I HZ.o.2;(go_wp2_with fail);exact b0b (v:=.agg #[Iv 3,Iv k]) (a0b (p:=2) (ty:=37) results31 _ _ G 37 #[Iv 3,Iv k] (0,0) _ rfl (a1d HZ.o.2) underlying37 rfl (by rw[a0S];rfl)) rfl ⟨by rw[aa.o];rfl,(HZ.o.1.setCell ab _).setCell ab _⟩
            ·by_cases p9:30<x.pb
             ·have ad:Pl.lkErr n.K x=3:=(by unfold Pl.lkErr;rw[iN om,iN p5,iP om])
              have aa:Hid (n.wrong=(3,(k:Int))):=ae.o 3 om (ah.o 3 om ad);(go_wp2_with fail);refine(ac.o 3 X rfl).mono ?_;rintro rr w9 ⟨rfl,HZ⟩;obtain⟨f0,f1,f2,f3⟩:=a0I HZ.o.2;(go_wp2_with fail);exact b0b (v:=.agg #[Iv 3,Iv k]) (a0b (p:=2) (ty:=37) results31 _ _ G 37 #[Iv 3,Iv k] (0,0) _ rfl (a1d HZ.o.2) underlying37 rfl (by rw[a0S];rfl)) rfl ⟨by rw[aa.o];rfl,(HZ.o.1.setCell ab _).setCell ab _⟩
             ·by_cases p10:x.cost<1
              ·have ad:Pl.lkErr n.K x=3:=(by unfold Pl.lkErr;rw[iN om,iN p5,iP om])
               have aa:Hid (n.wrong=(3,(k:Int))):=ae.o 3 om (ah.o 3 om ad);(go_wp2_with fail);refine(ac.o 3 X rfl).mono ?_;rintro rr w9 ⟨rfl,HZ⟩;obtain⟨f0,f1,f2,f3⟩:=a0I HZ.o.2;(go_wp2_with fail);exact b0b (v:=.agg #[Iv 3,Iv k]) (a0b (p:=2) (ty:=37) results31 _ _ G 37 #[Iv 3,Iv k] (0,0) _ rfl (a1d HZ.o.2) underlying37 rfl (by rw[a0S];rfl)) rfl ⟨by rw[aa.o];rfl,(HZ.o.1.setCell ab _).setCell ab _⟩
              ·by_cases p11:200000<x.cost
               ·have ad:Pl.lkErr n.K x=3:=(by unfold Pl.lkErr;rw[iN om,iN p5,iP om])
                have aa:Hid (n.wrong=(3,(k:Int))):=ae.o 3 om (ah.o 3 om ad);(go_wp2_with fail);refine(ac.o 3 X rfl).mono ?_;rintro rr w9 ⟨rfl,HZ⟩;obtain⟨f0,f1,f2,f3⟩:=a0I HZ.o.2;(go_wp2_with fail);exact b0b (v:=.agg #[Iv 3,Iv k]) (a0b (p:=2) (ty:=37) results31 _ _ G 37 #[Iv 3,Iv k] (0,0) _ rfl (a1d HZ.o.2) underlying37 rfl (by rw[a0S];rfl)) rfl ⟨by rw[aa.o];rfl,(HZ.o.1.setCell ab _).setCell ab _⟩
               ·have aH:Pl.lkErr n.K x=0:=(by unfold Pl.lkErr;rw[iN om,iN p5,iN om])
                have bz:Hid (Pl.lkErr n.K (n.ls k)=0):=bA.o aH;obtain⟨Bi,aX⟩:=nm ws.heap.size
                obtain⟨Ba,bb⟩:=nm X.heap.size
                obtain⟨Y,HY⟩:=nm (X.alloc (.cells #[Iv x.a,Iv x.pa,Iv x.b,Iv x.pb] 75))
                have aW:Bl X Y:=(by rw[HY.o];exact bA1 _ _)
                have aJ:Hid (Ba=Bi+1+1):=by show Ba=Bi+1+1;rw[bb.o,aX.o];exact a2
                have br:Hid (Bl X0 Y/\Y.ownsRow X0.heap.size 75 2 hv (2*k+0) (a0f (2*k+0) 2 (ptC n.ls))/\Y.heap[Bi]?=some (.cells #[Iv k] 3)/\Y.heap[Ba]?=some (.cells #[Iv x.a,Iv x.pa,Iv x.b,Iv x.pb] 75)/\(∀q,hv.ownBlock=some q->q<Bi\/Ba<q)):=by
                 refine⟨pup av.o.1 aW av.o.1.size,a0h av.o.2.1 aW,?_,?_,λq hq=>Or.inl (by rw[aX.o];exact av.o.2.2.2.2 q hq)⟩
                 ·rw[aX.o];exact keep av.o.2.2.1 aW
                 ·rw[bb.o,HY.o];exact a9Z _ _
                have bZ:k<=40:=om
                clear aW av r0 r1 ah bA aH a2;(go_wp2_with fail);rw[<-HY.o];rw[<-bb.o];rw[<-aX.o] at ar ⊢;clear d0 d1 d2 d3 d4 d5;go_loopw [11,183] (λa i wu=>∃(hu:Value) (m:Nat),hu=a/\m<=2/\i=Iv m/\Hid (∀r,r<m->∀q,q<2*k+r->a0r n.ls q≠a0r n.ls (2*k+r))/\Hid (Bl X0 wu/\wu.ownsRow X0.heap.size 75 2 hu (2*k+m) (a0f (2*k+m) 2 (ptC n.ls))/\wu.heap[Bi]?=some (.cells #[Iv k] 3)/\wu.heap[Ba]?=some (.cells #[Iv x.a,Iv x.pa,Iv x.b,Iv x.pb] 75)/\(∀q,hu.ownBlock=some q->q<Bi\/Ba<q))) (λ_ i _=>2-(intOf i).toNat)
                case atStart=>exact⟨_,0,rfl,om,rfl,(λr hr=>absurd hr om),br⟩
                case round =>
                 rename World=>wu
                 obtain⟨hu,m,rfl,hm,rfl,hN,hB⟩:=hrel;clear br;by_cases hm2:m<2
                 ·obtain⟨ey,aT⟩:∃ey:Int×Int,ey=a0r n.ls (2*k+m):=⟨_,rfl⟩
                  have bN:wu.cell? (Pv Ba (m*2))=some (Iv ey.1)/\wu.cell? (Pv Ba (m*2+1))=some (Iv ey.2):=by
                   have h:=hB.o.2.2.2.1;rcases(by omega:m=0\/m=1) with e | e<;>subst e
                   ·rw[aT,show 2*k+0=2*k from rfl,bl.o.1];exact⟨a9Y wu Ba 0 _ _ _ h,a9Y wu Ba 1 _ _ _ h⟩
                   ·rw[aT,bl.o.2];exact⟨a9Y wu Ba 2 _ _ _ h,a9Y wu Ba 3 _ _ _ h⟩
                  obtain⟨e0,e1⟩:=bN;have aQ:Hid (ey=a0r n.ls (2*k+m)):=aT;clear aT;obtain⟨D,HD⟩:=nm (wu.alloc (.cells #[Iv ey.1,Iv ey.2] 75))
                  have a9:Bl wu D:=(by rw[HD.o];exact bA1 _ _)
                  have bw:D.heap[wu.heap.size]?=some (.cells #[Iv ey.1,Iv ey.2] 75):=(by rw[HD.o];exact a9Z _ _)
                  have ak:Hid (∀W,Bl D W->(Bl X0 W/\W.ownsRow X0.heap.size 75 2 hu (2*k+m) (a0f (2*k+m) 2 (ptC n.ls))/\W.heap[Bi]?=some (.cells #[Iv k] 3)/\W.heap[Ba]?=some (.cells #[Iv x.a,Iv x.pa,Iv x.b,Iv x.pb] 75))/\(W.cell? (Pv wu.heap.size 0)=some (Iv ey.1)/\W.cell? (Pv wu.heap.size 1)=some (Iv ey.2))):=λW hW=>by
                   have h:Bl wu W:=a9.trans (hW.mono a9.size);exact⟨⟨pup hB.o.1 h hB.o.1.size,a0h hB.o.2.1 h,keep hB.o.2.2.1 h,keep hB.o.2.2.2.1 h⟩,tC2 (keep bw hW)⟩
                  have a8:Hid (∀q,hu.ownBlock=some q->q<Bi\/Ba<q):=hB.o.2.2.2.2;have bF:Hid (∀r,r<m->∀q,q<2*k+r->a0r n.ls q≠a0r n.ls (2*k+r)):=hN;obtain⟨ha,hc,bH,aj,_⟩:=a0W om hB.o.2.1;subst bH;have bS:=aj.1;have im:(0:Int)<=(m:Int):=om
                  have nm:(m:Int)<2:=om
                  have wm:IntKind.i64.wrap ((m:Int)+1)=((m+1:Nat):Int):=(by rw[IntKind.wrap_i64];omega)
                  clear hB hN a9 bw aj;(go_wp2_with fail);rw[<-HD.o];clear e0 e1;go_loopw [189] (λi wt=>∃q:Nat,q<=2*k+m/\i=Iv q/\Hid (∀r,r<q->a0r n.ls r≠ey)/\Hid (Bl D wt)) (λi _=>2*k+m-(intOf i).toNat)
                  case atStart=>exact⟨0,om,rfl,(λr hr=>absurd hr om),b0h _ _⟩
                  case round =>
                   rename World=>wt
                   obtain⟨q,hq,rfl,hN,hB⟩:=hrel;by_cases hql:q<2*k+m
                   ·obtain⟨⟨aF,aI,aG,aB⟩,y0,y1⟩:=ak.o wt hB.o;obtain⟨a',c',e',aj,_⟩:=a0W om aI;injection e' with e1' _ e3';subst e1' e3';obtain⟨hb,aM,bQ,_,af⟩:=aj.2 om;subst bQ;have z0:wt.cell? (Pv hb (aM+q*2))=some (Iv (a0r n.ls q).1):=af q hql 0 om;have z1:wt.cell? (Pv hb (aM+q*2+1))=some (Iv (a0r n.ls q).2):=af q hql 1 om;have HA:Hid (∀o,Bl D (wt.alloc o)/\(Bl X0 (wt.alloc o)/\(wt.alloc o).heap[Bi]?=some (.cells #[Iv k] 3))):=λo=>by
                     have h:Bl D (wt.alloc o):=hB.o.trans ((bA1 _ _).mono hB.o.size);exact⟨h,(ak.o _ h).1.1,(ak.o _ h).1.2.2.1⟩
                    have bv:∀o,(wt.alloc o).cell? (Pv wu.heap.size 0)=some (Iv ey.1)/\(wt.alloc o).cell? (Pv wu.heap.size 1)=some (Iv ey.2):=λo=>(ak.o _ (HA.o o).1).2;obtain⟨bj,be⟩:=bv (.cells #[Iv (a0r n.ls q).1,Iv (a0r n.ls q).2] 75);have iq:(0:Int)<=(q:Int):=om
                    have nq:(q:Int)<((2*k+m:Nat):Int):=om
                    have wq:IntKind.i64.wrap ((q:Int)+1)=((q+1:Nat):Int):=(by rw[IntKind.wrap_i64];omega)
                    have aU:Hid (a0r n.ls q=ey->n.wrong=(7,(k:Int))):=λh=>ae.o 7 om (had_7 bz.o hm2 hql (h.trans aQ.o));have au:Hid (a0r n.ls q≠ey->∀r,r<q+1->a0r n.ls r≠ey):=λh r hr=>by
                     by_cases e:r=q
                     ·rw[e];exact h
                     ·exact hN.o r om
                    clear aF aI aG aB aj af hN bv;by_cases s1:(a0r n.ls q).1=ey.1
                    ·by_cases s2:(a0r n.ls q).2=ey.2
                     ·have aa:Hid _:=aU.o (Prod.ext s1 s2);clear aU au ak;rw[s1] at z0 bj be;rw[s2] at z1 bj be;(go_wp2_with fail);refine(ar.o 7 _ (HA.o _).2.1 (HA.o _).2.2).mono ?_;rintro rr w9 ⟨rfl,HZ⟩;obtain⟨f0,f1,f2,f3⟩:=a0I HZ.o.2;(go_wp2_with fail);exact b0b (v:=.agg #[Iv 7,Iv k]) (a0b (p:=2) (ty:=37) results31 _ _ G 37 #[Iv 7,Iv k] (0,0) _ rfl (a1d HZ.o.2) underlying37 rfl (by rw[a0S];rfl)) rfl ⟨by rw[aa.o];rfl,(HZ.o.1.setCell ab _).setCell ab _⟩
                     ·have aq:Hid _:=au.o (λe=>s2 (congrArg Prod.snd e));clear aU au ak;rw[s1] at z0 bj be;(go_wp2_with fail);exact⟨⟨q+1,om,gn,aq,(HA.o _).1⟩,io⟩
                    ·have aq:Hid _:=au.o (λe=>s1 (congrArg Prod.fst e));clear aU au ak;(go_wp2_with fail);exact⟨⟨q+1,om,gn,aq,(HA.o _).1⟩,io⟩
                   ·obtain rfl:q=2*k+m:=om
                    obtain⟨⟨aF,aI,aG,aB⟩,y0,y1⟩:=ak.o wt hB.o;have aD:ey.1=(a0r n.ls (2*k+m)).1:=(by rw[aQ.o])
                    have aL:ey.2=(a0r n.ls (2*k+m)).2:=(by rw[aQ.o])
                    obtain⟨a1,c1,w2,a3,ho,bC,a6,bu,bK⟩:=had_more aI aF.size om;rw[<-aD,<-aL] at a3;have aK:Hid ((Builtin.append_ #[129,129] 129 #[.slice ha (2*k+m) hc,.slice (some (Pv wt.heap.size 0)) 1 1]).run prog (wt.alloc (.cells #[Iv ey.1,Iv ey.2] 75))=.ok (.slice a1 (2*k+m+1) c1) w2):=a3;have bI:Bi<wt.heap.size:=a2u aG;have bf:Ba<wt.heap.size:=a2u aB;have bO:Hid (∀r,r<m+1->∀q,q<2*k+r->a0r n.ls q≠a0r n.ls (2*k+r)):=λr hr q' bn=>by
                     by_cases e:r=m
                     ·subst e;rw[<-aQ.o];exact hN.o q' bn
                     ·exact bF.o r om q' bn
                    have bE:Hid (Bl X0 w2/\w2.ownsRow X0.heap.size 75 2 (.slice a1 (2*k+(m+1)) c1) (2*k+(m+1)) (a0f (2*k+(m+1)) 2 (ptC n.ls))/\w2.heap[Bi]?=some (.cells #[Iv k] 3)/\w2.heap[Ba]?=some (.cells #[Iv x.a,Iv x.pa,Iv x.b,Iv x.pb] 75)/\(∀q,(Value.slice a1 (2*k+(m+1)) c1).ownBlock=some q->q<Bi\/Ba<q)):=by
                     refine⟨aF.trans bC,ho,(a6 Bi bI (λe => ?_)).trans aG,(a6 Ba bf (λe => ?_)).trans aB,λq hq => ?_⟩
                     ·have:=a8.o Bi e;have:=aJ.o;omega
                     ·have:=a8.o Ba e;have:=aJ.o;omega
                     ·rcases bu q hq with h | h
                      ·exact a8.o q h
                      ·exact Or.inr om
                    clear hN aF aI aG aB a3 ho bC a6 bu bK ak aD aL;go_wp2_with (at_builtin;refine a0a rfl (.tmp 199) (.tmp 201) 129 rfl _ _ _ rfl rfl aK.o ?_;clear aK)
                    exact⟨⟨_,m+1,rfl,om,gn,bO,bE⟩,io⟩
                 ·obtain rfl:m=2:=om
                  have bd:Hid _:=a4.o (had_0 bz.o (hN.o 0 om) (hN.o 1 om));have bJ:Hid (Bl X0 wu/\wu.ownsRow X0.heap.size 75 2 hu (2*(k+1)) (a0f (2*(k+1)) 2 (ptC n.ls))):=⟨hB.o.1,hB.o.2.1⟩
                  have wk:IntKind.i64.wrap ((k:Int)+1)=((k+1:Nat):Int):=(by rw[IntKind.wrap_i64];omega)
                  have nm:¬(2:Int)<2:=om
                  clear hN hB;(go_wp2_with fail);exact⟨⟨_,k+1,rfl,om,gn,bd,bJ⟩,io⟩
    ·obtain rfl:k=n.L:=om
     have aa:Hid (n.wrong=(0,0)):=pwrong_0 ba.o bx.o hS.o;have HZ:Hid _:=(HC.o ws hB.o.1).2;obtain⟨f0,f1,f2,f3⟩:=a0I HZ.o.2;have nk:¬(n.L:Int)<(n.L:Int):=om
     clear hS hB;(go_wp2_with fail);exact b0b (v:=.agg #[Iv 0,Iv 0]) (a0b (p:=2) (ty:=37) results31 _ _ G 37 #[Iv 0,Iv 0] (0,0) _ rfl (a1d HZ.o.2) underlying37 rfl (by rw[a0S];rfl)) rfl ⟨by rw[aa.o];rfl,(HZ.o.1.setCell ab _).setCell ab _⟩
theorem a8g (s:ByteArray) (ad:Int) (ao:OA) (n cap:Nat) (vs ts:Nat->Int) (w:World) (hR:Rg.Right vs ts n) (hr:WayRow w ao n cap vs ts) :
  Calls prog 69 #[.agg #[.string s,Iv ad,.slice ao n cap]] w λe w'=>∃g,e=.returned (.slice (some (Pv g 0)) 4096 4096)/\w'.heap[g]?=some (.cells (rowF 4096 (λi=>Rg.tree vs ts (i:Int) n)) 5)/\Bl w w':=by
 have hn:=hR.many;have aa:Hid (Rg.Right vs ts n):=hR;have HW:Hid (∀W,Bl w W->WayRow W ao n cap vs ts):=λW hW=>hr.below hW;clear hr hR;have ac:∀W:World,(Instr.makeSlice 29 (Iv 4096) (Iv 4096)).run prog W=.ok (.slice (some (Pv W.heap.size 0)) 4096 4096) (W.alloc (.cells (rowF 4096 (λ_=>0)) 5)):=λW=>a3H W 4096 4096 om om;go_enter func69,ntmps69;(go_wp2_with fail);go_loopw [10] (λi wr=>∃k:Nat,k<=n/\i=Iv k/\Hid (wr.heap[w.heap.size+1]?=some (.cells (rowF 4096 (λi=>Rg.tree vs ts (i:Int) k)) 5))/\Hid (Bl w wr)) (λi _=>n-(intOf i).toNat)
 case atStart=>exact⟨0,om,rfl,b0c w _ _,bA2 _ _ _⟩
 case round =>
  clear ac;obtain⟨k,hk,rfl,hX,hB⟩:=hrel;by_cases hlt:k<n
  ·obtain⟨b,off,rfl,hb,hc⟩:=(HW.o _ hB.o).2 om;have ab:=(HW.o _ hB.o).1;have c0:wr.cell? (Pv b (off+k*2))=some (Iv (vs k)):=(hc k hlt).1;have c1:wr.cell? (Pv b (off+k*2+1))=some (Iv (ts k)):=(hc k hlt).2;have hv:=aa.o.vid k hlt;have ht:=aa.o.tree k hlt;obtain⟨m,hm⟩:=Int.eq_ofNat_of_zero_le (show 0<=vs k by omega);have hz:w.heap.size+1<wr.heap.size:=b0r ((a9Y wr _ 0 _ _ _ hX.o).trans (a0Q _ _ _ om));have c4:wr.cell? (Pv (w.heap.size+1) m)=some (.int .u8 (Rg.tree vs ts (m:Int) k)):=(a9Y _ _ _ _ _ _ hX.o).trans (a0Q _ _ _ om);have f4:wr.frozen? (Pv (w.heap.size+1) m)=false:=b0a _ _ _ _ _ hX.o;have HX:Hid (∀o,((wr.setCell (Pv (w.heap.size+1) m) (.int .u8 (ts k))).alloc o).heap[w.heap.size+1]?=some (.cells (rowF 4096 (λi=>Rg.tree vs ts (i:Int) (k+1))) 5)):=by
    intro o;rw[Below.heap_alloc _ _ _ (by simpa[World.setCell] using hz),b0e _ _ _ _ _ _ hX.o,a2F _ _ _ _ om];congr 2
    apply a1y
    intro i _;simp only[Rg.tree,hm];by_cases e:i=m
    ·rw[iP e,iP om]
    ·rw[iN e,iN om]
   have HB:Hid (∀o,Bl w ((wr.setCell (Pv (w.heap.size+1) m) (.int .u8 (ts k))).alloc o)):=λo=>(hB.o.setCell (Nat.le_succ _) _).alloc (by have:=hB.o.size;simpa[World.setCell] using this) _;have ae:(m:Int)<4096:=om
   have HM:Hid (vs k=(m:Int)):=hm;rw[hm] at c0 hv;clear hm hc HW aa hX hB;generalize ts k=t at *;go_wp2
   exact⟨⟨k+1,om,gn,HX.o _,HB.o _⟩,io⟩
  ·obtain rfl:k=n:=om
   go_wp2
   go_ret;exact⟨_,rfl,hX.o,hB.o⟩
namespace Md
def padM (n:Nat):Nat:=n/64+lastN (n%64)
def pad (n:Nat) (bs:Nat->Int) (i:Nat):Int :=
 if i<n then bs i else if i=n then 128 else if i+8<64*padM n then 0 else(8*(n:Int))/2 ^ (8*(i+8-64*padM n))%256
theorem padM_ge (n:Nat):n+9<=64*padM n/\64*padM n<n+9+64:=by
 unfold padM lastN;split<;>omega
theorem wd_congr (f g:Nat->Int) (i:Nat) (h:∀j,j<64->f j=g j) (hi:i<16):wd f i=wd g i:=by
 unfold wd;rw[h (4*i) om,h (4*i+1) om,h (4*i+2) om,h (4*i+3) om]
theorem runTo_congr (f g:Nat->Int) (h:∀j,j<64->f j=g j) (s:St):∀k,runTo f k s=runTo g k s
 | 0=>rfl
 | k+1=>by
  show stp f k (runTo f k s)=stp g k (runTo g k s);rw[runTo_congr f g h s k];unfold stp;rw[wd_congr f g _ h (ksel_lt k)]
theorem mixS_congr (f g:Nat->Int) (h:∀j,j<64->f j=g j) (s:St):mixS s f=mixS s g:=by
 unfold mixS;rw[runTo_congr f g h s 64]
theorem mixN_congr (f g:Nat->Int) (s:St):∀m,(∀j,j<64*m->f j=g j)->mixN s f m=mixN s g m
 | 0,_=>rfl
 | m+1,h=>by
  show mixS (mixN s f m) _=mixS (mixN s g m) _;rw[mixN_congr f g s m (λj hj=>h j om)];exact mixS_congr _ _ (λj hj=>h (64*m+j) om) _
theorem mixN_add (f:Nat->Int) (s:St) (a:Nat):∀b,mixN s f (a+b)=mixN (mixN s f a) (λi=>f (64*a+i)) b
 | 0=>rfl
 | b+1=>by
  show mixS (mixN s f (a+b)) (λi=>f (64*(a+b)+i))=mixS (mixN (mixN s f a) (λi=>f (64*a+i)) b) (λi=>f (64*a+(64*b+i)));rw[mixN_add f s a b];exact mixS_congr _ _ (λj _=>by rw[show 64*(a+b)+j=64*a+(64*b+j) by omega]) _
theorem last_pad (n:Nat) (bs:Nat->Int) (i:Nat) (h:i<64*lastN (n%64)):pad n bs (64*(n/64)+i)=lastB (n%64) (λi=>bs (64*(n/64)+i)) (((0:Nat):Int)+(n:Int)*1*8) i:=by
 unfold pad lastB lastTo;have e:64*padM n=64*(n/64)+64*lastN (n%64):=(by unfold padM;omega)
 have h9:=(padM_ge n).1;rw[e] at h9 ⊢;by_cases h1:i<n%64
 ·rw[iP om,iP h1]
 ·rw[iN om,iN h1];by_cases h2:i=n%64
  ·rw[iP om,iP h2]
  ·rw[iN om,iN h2];by_cases h3:i+8<64*lastN (n%64)
   ·rw[iP om,iN om]
   ·rw[iN om,iP om];have e2:64*(n/64)+i+8-(64*(n/64)+64*lastN (n%64))=i+8-64*lastN (n%64):=om
    rw[e2];congr 2
    omega
theorem sum_same (n:Nat) (bs:Nat->Int):mixN st0 (pad n bs) (padM n)=fin st0 0 n bs:=by
 unfold padM fin;rw[mixN_add,mixN_congr (pad n bs) bs st0 (n/64) (λj hj=>by unfold pad;rw[iP om])];apply mixN_congr
 intro j hj;have h:=last_pad n bs j hj;simp only[Int.mul_one] at h;rw[h];congr 1
 simp
end Md
