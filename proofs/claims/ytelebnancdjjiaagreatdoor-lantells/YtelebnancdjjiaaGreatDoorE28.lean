/- VR3 -/
import Derived.Test.YtelebnancdjjiaaGreatDoorE27
set_option maxRecDepth 100000
set_option maxHeartbeats 40000000
namespace Go.Proofs.YtelebnancdjjiaaGreatDoor
section
open Go.Proofs.Tryz
open Go.RowKit
open Vc (V Of)
section
variable {P:Program}{ops:Array Oper}{Q:Exit->Act->World->Prop}{md:Region.Mode}{S:World->Prop}
theorem a2g (i s:Nat) {oi:Oper}{ab:Nat}{aa:Array Bool}{a:Act}{w:World}(hS:S w) (h:wpAnyH P md ops Q S ab (aa.setIfInBounds i true) (a.put (some s) undef) w)
  (hi:ops[i]?=some oi:=by rfl) (hd:oi.dst=some s:=by rfl) (hs:Region.noSelect ops=true:=by kernel_rfl) (hf:Region.free md ops aa i=true:=by kernel_rfl) (hr:(Region.ready md ops aa).contains i=true:=by kernel_rfl)
  (hw:Region.wanted oi (yielded ops a.tmps)=false:=by rfl) (hQ:∀c a w,Q (.panic c) (a.put (some s) undef) w->Q (.panic c) a w:=by exact λ_ _ _ h=>h):wpAnyH P md ops Q S (ab+1) aa a w :=
 a1F (some s) hi hd hs hf hr hQ hw hS h
end
theorem ite4_no {α:Type}{a b c d:Prop} [Decidable a] [Decidable b] [Decidable c] [Decidable d] (h:¬(a/\b/\c/\d)) (x y:α):(if a then if b then if c then if d then x else y else y else y else y)=y:=by
 by_cases h1:a
 ·by_cases h2:b
  ·by_cases h3:c
   ·rw[iP h1,iP h2,iP h3,iN (λh4=>h ⟨h1,h2,h3,h4⟩)]
   ·rw[iP h1,iP h2,iN h3]
  ·rw[iP h1,iN h2]
 ·rw[iN h1]
theorem a6V {α:Type}{a b c d:Prop} [Decidable a] [Decidable b] [Decidable c] [Decidable d] (h:a/\b/\c/\d) (x y:α):(if a then if b then if c then if d then x else y else y else y else y)=x:=by
 rw[iP h.1,iP h.2.1,iP h.2.2.1,iP h.2.2.2]
theorem a6s (id:Int) (ao:OA) (n cap:Nat) (os:Nat->Of) (w:World) (hn:n<=9223372036854775807) (hr:ORow w ao n cap os) :
  Calls prog 72 #[Uv id,.slice ao n cap] w λe w'=>e=.returned (.tuple #[.agg (vA (Vc.chV id os n)),Iv (Vc.chA id os n),Iv (Vc.chP id os n)])/\Bl w w':=by
 have HR:Hid (ORow w ao n cap os):=hr;clear hr;go_enter func72,ntmps72;(go_wp2_with fail);go_loopw [7,15] (λa i wr=>∃k:Nat,k<=n/\i=Iv k/\a=Iv (atTo id os k)/\Hid (wr.heap[w.heap.size]?=some (.cells (vA Vc.v0) 115)/\wr.heap[w.heap.size+1]?=some (.cells (vA (a0X id os k)) 115)/\Bl w wr)) (λ_ i _=>n-(intOf i).toNat)
 case atStart=>exact⟨0,om,rfl,rfl,b0d w _ _,b0c w _ _,bA2 _ _ _⟩
 case round =>
  obtain⟨k,hk,rfl,rfl,hX⟩:=hrel;by_cases hlt:k<n
  ·obtain⟨b,off,rfl,hb⟩:=CRow.some HR.o om;have aM:=HR.o.1;have aQ:Hid (∀W,Bl w W->ORow W (some (Pv b off)) n cap os):=λW hW=>CRow.other HR.o (λq _ _ hq=>hW.block q hq) hW.size;obtain⟨c0,c1,c2,c3,c4,c5,c6⟩:=ORow.cells (aQ.o wr hX.o.2.2) hlt;have aY:Hid (∀(v:V) (c:Int) W,Calls prog 110 #[.agg #[Uv v.root,Iv v.cost,Uv v.bridge,Iv v.port],Iv c] W λe w'=>e=.returned (.tuple #[.agg (vA (Vc.overV v c)),.bool (decide (Vc.fitsOver v c))])/\Bl W w'):=λv c W=>a9D v c W;have ak:Hid (¬Vc.may id (os k)->atTo id os (k+1)=atTo id os k/\a0X id os (k+1)=a0X id os k):=λh=>by
    unfold atTo a0X;have e:Vc.chTo id os (k+1)=Vc.chTo id os k:=(by simp only[Vc.chTo];rw[iN h])
    rw[e];exact⟨rfl,rfl⟩
   have af:Hid (Vc.may id (os k)->Vc.chTo id os k=none->atTo id os (k+1)=k/\a0X id os (k+1)=(os k).v):=λh h2=>by
    have e:Vc.chTo id os (k+1)=some k:=(by simp only[Vc.chTo];rw[iP h,h2])
    unfold atTo a0X;rw[e];exact⟨rfl,rfl⟩
   have aj:Hid (∀j,Vc.may id (os k)->Vc.chTo id os k=some j->(Vc.ahead (os k) (os j)->atTo id os (k+1)=k/\a0X id os (k+1)=(os k).v)/\(¬Vc.ahead (os k) (os j)->atTo id os (k+1)=atTo id os k/\a0X id os (k+1)=a0X id os k)):=λj h h2=>by
    constructor
    ·intro ha;have e:Vc.chTo id os (k+1)=some k:=(by simp only[Vc.chTo];rw[iP h,h2];simp only;rw[iP ha])
     unfold atTo a0X;rw[e];exact⟨rfl,rfl⟩
    ·intro ha;have e:Vc.chTo id os (k+1)=some j:=(by simp only[Vc.chTo];rw[iP h,h2];simp only;rw[iN ha])
     unfold atTo a0X;rw[e,h2];exact⟨rfl,rfl⟩
   have an:Hid (wr.heap[w.heap.size]?=some (.cells (vA Vc.v0) 115)/\wr.heap[w.heap.size+1]?=some (.cells (vA (a0X id os k)) 115)/\Bl w wr):=hX;have aX:Hid (w.heap.size+1<wr.heap.size):=(gSm.1 hX.o.2.1).1;have HJ:Hid (∀j,Vc.chTo id os k=some j->j<k):=λj h=>(Vc.chTo_some id os k j h).1;have aT:Hid (∀j,Vc.chTo id os k=some j->a0X id os k=(os j).v/\atTo id os k=(j:Int)):=λj h=>by unfold a0X atTo;rw[h];exact⟨rfl,rfl⟩
   have aO:Hid (Vc.chTo id os k=none->atTo id os k = -1):=λh=>by unfold atTo;rw[h]
   have ae:Hid (Vc.may id (os k)↔Vc.fitsOver (os k).vec (os k).cost/\0<=(os k).port/\(0<=(os k).age/\(os k).age<20)/\(os k).vec.root<id):=Iff.rfl;have HV:Hid ((os k).v=Vc.add (os k).vec (os k).cost):=rfl;clear hX hb HR;have aH:Hid (∀j,Vc.ahead (os k) (os j)↔Vc.lt (os k).v (os j).v\/((os k).v=(os j).v/\(os k).port<(os j).port)):=λj=>Iff.rfl;generalize hok:os k=o at *;obtain⟨op,oc,oa,⟨vr,vc,vb,vp⟩⟩:=o;simp only at c0 c1 c2 c3 c4 c5 c6;have am:Hid (∀W,Calls prog 110 #[.agg #[Uv vr,Iv vc,Uv vb,Iv vp],Iv oc] W λe w'=>e=.returned (.tuple #[.agg (vA (Vc.overV ⟨vr,vc,vb,vp⟩ oc)),.bool (decide (Vc.fitsOver ⟨vr,vc,vb,vp⟩ oc))])/\Hid (Bl W w')):=λW=>aY.o ⟨vr,vc,vb,vp⟩ oc W;clear aY hok;by_cases hf:Vc.fitsOver ⟨vr,vc,vb,vp⟩ oc
   ·have aV:Hid (∀W,Calls prog 110 #[.agg #[Uv vr,Iv vc,Uv vb,Iv vp],Iv oc] W λe w'=>e=.returned (.tuple #[.agg #[Uv vr,Iv (vc+oc),Uv vb,Iv vp],.bool true])/\Hid (Bl W w')):=λW=>by
     have e1:Vc.overV ⟨vr,vc,vb,vp⟩ oc=⟨vr,vc+oc,vb,vp⟩:=iP hf;have:=am.o W;rw[e1,b0k hf] at this;exact this
    have a9:Hid ((⟨op,oc,oa,⟨vr,vc,vb,vp⟩⟩:Of).v=⟨vr,vc+oc,vb,vp⟩):=rfl;clear am;(go_wp2_with fail);refine(aV.o _).mono ?_;rintro e w2 ⟨rfl,ar⟩;obtain⟨X,HX⟩:=nm (w2.alloc (.cells #[Uv vr,Iv (vc+oc),Uv vb,Iv vp] 115))
    have aF:Hid (Bl wr X):=by
     rw[HX.o];have h:=(bA1 wr (.cells #[Iv op,Iv oc,Iv oa,Uv vr,Iv vc,Uv vb,Iv vp] 180)).trans (ar.o.mono (by simp));exact h.alloc h.size _
    have aR:Hid (X.heap[wr.heap.size]?=some (.cells #[Iv op,Iv oc,Iv oa,Uv vr,Iv vc,Uv vb,Iv vp] 180)):=(by rw[HX.o];exact keep (keep (a9Z wr _) ar.o) (bA1 _ _))
    have aL:Hid (X.heap[w2.heap.size]?=some (.cells #[Uv vr,Iv (vc+oc),Uv vb,Iv vp] 115)):=(by rw[HX.o];exact a9Z _ _)
    have aI:Hid (X.heap[w.heap.size]?=some (.cells (vA Vc.v0) 115)):=keep an.o.1 aF.o;have aB:Hid (X.heap[w.heap.size+1]?=some (.cells (vA (a0X id os k)) 115)):=keep an.o.2.1 aF.o;have av:Hid (Bl w X):=an.o.2.2.trans (aF.o.mono an.o.2.2.size);have ad:Hid (a0X id os (k+1)=a0X id os k->(w2.alloc (.cells #[Uv vr,Iv (vc+oc),Uv vb,Iv vp] 115)).heap[w.heap.size]?=some (.cells (vA Vc.v0) 115)/\(w2.alloc (.cells #[Uv vr,Iv (vc+oc),Uv vb,Iv vp] 115)).heap[w.heap.size+1]?=some (.cells (vA (a0X id os (k+1))) 115)/\Bl w (w2.alloc (.cells #[Uv vr,Iv (vc+oc),Uv vb,Iv vp] 115))):=λh=>by rw[<-HX.o,h];exact⟨aI.o,aB.o,av.o⟩
    have a6:Hid (w.heap.size+1≠w2.heap.size/\w.heap.size+1≠wr.heap.size):=by
     have h1:=aX.o;have h2:=ar.o.size;simp at h2;exact⟨om,om⟩
    obtain⟨g0,g1,g2,g3,g4,g5,g6⟩:=a6z aR.o;obtain⟨x0,x1,x2,x3⟩:=a1p aL.o;have G0:Hid (X.cell? (Pv wr.heap.size 0)=some (Iv op)):=g0;rw[HX.o] at g0 g2 x0;clear g1 g3 g4 g5 g6 x1 x2 x3 ar;by_cases q1:op<0
    ·obtain⟨z1,z2⟩:=ak.o (λq=>by have:=(ae.o.1 q).2.1;omega);have au:Hid _:=ad.o z2;rw[<-z1];clear z1 z2 ak;(go_wp2_with fail);exact⟨⟨k+1,om,gn,rfl,au⟩,io⟩
    ·by_cases q2:oa<0
     ·obtain⟨z1,z2⟩:=ak.o (λq=>by have:=(ae.o.1 q).2.2.1.1;omega);have au:Hid _:=ad.o z2;rw[<-z1];clear z1 z2 ak;(go_wp2_with fail);exact⟨⟨k+1,om,gn,rfl,au⟩,io⟩
     ·by_cases q3:20<=oa
      ·obtain⟨z1,z2⟩:=ak.o (λq=>by have:=(ae.o.1 q).2.2.1.2;omega);have au:Hid _:=ad.o z2;rw[<-z1];clear z1 z2 ak;(go_wp2_with fail);exact⟨⟨k+1,om,gn,rfl,au⟩,io⟩
      ·by_cases q4:id<=vr
       ·obtain⟨z1,z2⟩:=ak.o (λq=>by have:=(ae.o.1 q).2.2.2;omega);have au:Hid _:=ad.o z2;rw[<-z1];clear z1 z2 ak;(go_wp2_with fail);exact⟨⟨k+1,om,gn,rfl,au⟩,io⟩
       ·have al:Vc.may id ⟨op,oc,oa,⟨vr,vc,vb,vp⟩⟩:=ae.o.2 ⟨hf,om,⟨om,om⟩,om⟩;clear ak ad;have aN:Hid (∀W,Bl X W->a0X id os (k+1)=⟨vr,vc+oc,vb,vp⟩->((((W.setCell (Pv (w.heap.size+1) 0) (Uv vr)).setCell (Pv (w.heap.size+1) 1) (Iv (vc+oc))).setCell (Pv (w.heap.size+1) 2) (Uv vb)).setCell (Pv (w.heap.size+1) 3) (Iv vp)).heap[w.heap.size]?=some (.cells (vA Vc.v0) 115)/\((((W.setCell (Pv (w.heap.size+1) 0) (Uv vr)).setCell (Pv (w.heap.size+1) 1) (Iv (vc+oc))).setCell (Pv (w.heap.size+1) 2) (Uv vb)).setCell (Pv (w.heap.size+1) 3) (Iv vp)).heap[w.heap.size+1]?=some (.cells (vA (a0X id os (k+1))) 115)/\Bl w ((((W.setCell (Pv (w.heap.size+1) 0) (Uv vr)).setCell (Pv (w.heap.size+1) 1) (Iv (vc+oc))).setCell (Pv (w.heap.size+1) 2) (Uv vb)).setCell (Pv (w.heap.size+1) 3) (Iv vp))):=λW hW h=>by
         rw[h];have hl:=av.o.trans (hW.mono av.o.size);have aE:w.heap.size<=w.heap.size+1:=om
         exact⟨(a7d om).trans (keep aI.o hW),a5M (keep aB.o hW),(((hl.setCell aE _).setCell aE _).setCell aE _).setCell aE _⟩
        have a5:Hid (∀W,Bl X W->a0X id os (k+1)=a0X id os k->W.heap[w.heap.size]?=some (.cells (vA Vc.v0) 115)/\W.heap[w.heap.size+1]?=some (.cells (vA (a0X id os (k+1))) 115)/\Bl w W):=λW hW h=>by rw[h];exact⟨keep aI.o hW,keep aB.o hW,av.o.trans (hW.mono av.o.size)⟩
        have ax:Hid (∀W,Bl X W->(W.cell? (Pv w2.heap.size 0)=some (Uv vr)/\W.cell? (Pv w2.heap.size 1)=some (Iv (vc+oc))/\W.cell? (Pv w2.heap.size 2)=some (Uv vb)/\W.cell? (Pv w2.heap.size 3)=some (Iv vp))):=λW hW=>a1p (keep aL.o hW);have aC:Hid (∀W,Bl X W->(W.cell? (Pv (w.heap.size+1) 0)=some (Uv (a0X id os k).root)/\W.cell? (Pv (w.heap.size+1) 1)=some (Iv (a0X id os k).cost)/\W.cell? (Pv (w.heap.size+1) 2)=some (Uv (a0X id os k).bridge)/\W.cell? (Pv (w.heap.size+1) 3)=some (Iv (a0X id os k).port))/\W.frozen? (Pv (w.heap.size+1) 0)=false/\W.frozen? (Pv (w.heap.size+1) 1)=false/\W.frozen? (Pv (w.heap.size+1) 2)=false/\W.frozen? (Pv (w.heap.size+1) 3)=false):=λW hW=>⟨a1p (keep aB.o hW),a1K (keep aB.o hW)⟩
        have aK:=a6.o.1;have bc:=a6.o.2;have a8:w2.heap.size≠w.heap.size+1:=λe=>aK e.symm;cases hc:Vc.chTo id os k with
        | none =>
         obtain⟨z1,z2⟩:=af.o al hc;rw[a9.o] at z2;have ah:=aO.o hc;rw[ah];clear ah hc al af aj HJ aT aO ae HV aH hf;have HQ:Hid (∀q,Bl X (X.drewN q)):=λq=>a0d (b0h _ _) q;obtain⟨y0,y1,y2,y3⟩:=ax.o X (b0h _ _);obtain⟨⟨b0,b1,b2,b3⟩,f0,f1,f2,f3⟩:=aC.o X (b0h _ _);(go_wp2_with fail);rw[<-HX.o];(go_quiet (fail));(go_wp2_with fail);exact⟨⟨k+1,om,gn,by rw[z1],aN.o _ (HQ.o _) z2⟩,io⟩
        | some j =>
         obtain⟨ay,ah⟩:=aT.o j hc;have a7:=HJ.o j hc;obtain⟨hw,hl⟩:=aj.o j al hc;have ag:Hid (Vc.lt ⟨vr,vc+oc,vb,vp⟩ (a0X id os k)\/((⟨vr,vc+oc,vb,vp⟩:V)=a0X id os k/\op<(os j).port)->atTo id os (k+1)=k/\a0X id os (k+1)=⟨vr,vc+oc,vb,vp⟩):=λh=>by rw[ay] at h;exact hw ((aH.o j).2 h)
         have ab:Hid (¬(Vc.lt ⟨vr,vc+oc,vb,vp⟩ (a0X id os k)\/((⟨vr,vc+oc,vb,vp⟩:V)=a0X id os k/\op<(os j).port))->atTo id os (k+1)=atTo id os k/\a0X id os (k+1)=a0X id os k):=λh=>by rw[ay] at h;exact hl (λq=>h ((aH.o j).1 q))
         have aZ:Hid (∀W,Bl X W->W.cell? (Pv b (off+j*7))=some (Iv (os j).port)):=λW hW=>(ORow.cells (aQ.o W (av.o.trans (hW.mono av.o.size))) (show j<n by omega)).1;have a4:Hid (∀W,Bl X W->W.cell? (Pv wr.heap.size 0)=some (Iv op)):=λW hW=>(a6z (keep aR.o hW)).1;have az:Hid (∀W,Calls prog 111 #[.agg #[Uv vr,Iv (vc+oc),Uv vb,Iv vp],.agg #[Uv (a0X id os k).root,Iv (a0X id os k).cost,Uv (a0X id os k).bridge,Iv (a0X id os k).port]] W λe w'=>e=.returned (.bool (decide (Vc.lt ⟨vr,vc+oc,vb,vp⟩ (a0X id os k))))/\Bl W w'):=λW=>a3X ⟨vr,vc+oc,vb,vp⟩ (a0X id os k) W;rw[ah];rw[ah] at ab;have ij:(0:Int)<=(j:Int):=om
         have jn:(j:Int)<(n:Int):=om
         clear ah ay hw hl hc al af aj HJ aT aO ae HV aH hf aQ an aX;generalize a0X id os k=B at *;have ap:Hid (∀W,Bl X W->(W.cell? (Pv w2.heap.size 0)=some (Uv vr)/\W.cell? (Pv w2.heap.size 1)=some (Iv (vc+oc))/\W.cell? (Pv w2.heap.size 2)=some (Uv vb)/\W.cell? (Pv w2.heap.size 3)=some (Iv vp))/\(W.cell? (Pv (w.heap.size+1) 0)=some (Uv B.root)/\W.cell? (Pv (w.heap.size+1) 1)=some (Iv B.cost)/\W.cell? (Pv (w.heap.size+1) 2)=some (Uv B.bridge)/\W.cell? (Pv (w.heap.size+1) 3)=some (Iv B.port))/\W.cell? (Pv wr.heap.size 0)=some (Iv op)/\W.cell? (Pv b (off+j*7))=some (Iv (os j).port)):=λW hW=>⟨ax.o W hW,(aC.o W hW).1,a4.o W hW,aZ.o W hW⟩
         clear a4 aZ aR aL aI aB aF G0;by_cases p1:Vc.lt ⟨vr,vc+oc,vb,vp⟩ B
         ·obtain⟨z1,z2⟩:=ag.o (Or.inl p1);rw[b0k p1] at az;clear ag ab p1;(go_wp2_with fail);rw[<-HX.o];refine heldR ap (λaa=>?_);refine a0l 0 51 aa ?_;simp only[aP];refine a0l 1 52 aa ?_;simp only[aP];refine a0l 2 53 aa ?_;simp only[aP];refine a0l 3 54 aa ?_;simp only[aP];refine a0l 4 55 aa ?_;simp only[aP];refine a1N 5 (λK hK=>?_);go_simp;refine(az.o _).mono ?_;rintro e wa ⟨rfl,ai⟩;have ac:Hid (Bl X wa):=(b0h _ X).drew.trans ai;clear ai;(go_wp2_with fail);refine hK.out _ _ (ap.o _ ac.o) (λaa => ?_);clear hK K;refine a0l 6 57 aa ?_;simp only[aP];refine a0l 7 58 aa ?_;simp only[aP];refine a2g 8 59 aa ?_;simp only[aP];refine a2g 9 60 aa ?_;simp only[aP];refine a2g 10 61 aa ?_;simp only[aP];refine a2g 11 62 aa ?_;simp only[aP];refine a2g 12 63 aa ?_;simp only[aP];refine a2g 13 64 aa ?_;simp only[aP];refine a2g 14 65 aa ?_;simp only[aP];refine a2g 15 66 aa ?_;simp only[aP];refine a2g 16 67 aa ?_;simp only[aP];refine a2g 17 68 aa ?_;simp only[aP];refine a2g 18 69 aa ?_;simp only[aP];refine a2g 19 70 aa ?_;simp only[aP];refine a2g 20 71 aa ?_;simp only[aP];refine a0l 21 72 aa ?_;simp only[aP];refine wpAnyH_done kr ?_ _;obtain⟨⟨b0,b1,b2,b3⟩,f0,f1,f2,f3⟩:=aC.o wa ac.o;obtain⟨y0,y1,y2,y3⟩:=ax.o wa ac.o;(go_wp2_with fail);exact⟨⟨k+1,om,gn,by rw[z1],aN.o _ ac.o z2⟩,io⟩
         ·rw[b0j p1] at az;by_cases hB:vr=B.root/\vc+oc=B.cost/\vb=B.bridge/\vp=B.port
          ·have p2:(⟨vr,vc+oc,vb,vp⟩:V)=B:=Vc.V.eq hB.1 hB.2.1 hB.2.2.1 hB.2.2.2;have aG:Hid (vr=B.root/\vc+oc=B.cost/\vb=B.bridge/\vp=B.port):=hB;clear hB;by_cases p3:op<(os j).port
           ·obtain⟨z1,z2⟩:=ag.o (Or.inr ⟨p2,p3⟩);clear ag ab p1 p2;(go_wp2_with fail);rw[<-HX.o];refine heldR ap (λaa=>?_);refine a0l 0 51 aa ?_;simp only[aP];refine a0l 1 52 aa ?_;simp only[aP];refine a0l 2 53 aa ?_;simp only[aP];refine a0l 3 54 aa ?_;simp only[aP];refine a0l 4 55 aa ?_;simp only[aP];refine a1N 5 (λK hK=>?_);go_simp;refine(az.o _).mono ?_;rintro e wa ⟨rfl,ai⟩;have ac:Hid (Bl X wa):=(b0h _ X).drew.trans ai;clear ai;(go_wp2_with fail);refine hK.out _ _ (ap.o _ ac.o) (λaa => ?_);clear hK K;refine a0l 6 57 aa ?_;simp only[aP];refine a0l 7 58 aa ?_;simp only[aP];refine a0l 8 59 aa ?_;simp only[aP];refine a0l 9 60 aa ?_;simp only[aP];refine a2X (i:=10) (v := ?_) (some 61) rfl rfl kr kr kr ii (by rfl) ?_ aa ?_;rotate_left 1
            ·(intro wq a3;go_simp;exact a6V aG.o _ _)
            simp only[aP];refine a0l 11 62 aa ?_;simp only[aP];refine a0l 12 63 aa ?_;simp only[aP];refine a0l 13 64 aa ?_;simp only[aP];refine a0l 14 65 aa ?_;simp only[aP];refine a0l 15 66 aa ?_;simp only[aP];refine a0l 16 67 aa ?_;simp only[aP];refine a0l 17 68 aa ?_;simp only[aP];refine a0l 18 69 aa ?_;simp only[aP];refine a0l 19 70 aa ?_;simp only[aP];refine a0l 20 71 aa ?_;simp only[aP];refine a0l 21 72 aa ?_;simp only[aP];refine wpAnyH_done kr ?_ _;obtain⟨⟨b0,b1,b2,b3⟩,f0,f1,f2,f3⟩:=aC.o wa ac.o;obtain⟨y0,y1,y2,y3⟩:=ax.o wa ac.o;(go_wp2_with fail);exact⟨⟨k+1,om,gn,by rw[z1],aN.o _ ac.o z2⟩,io⟩
           ·obtain⟨z1,z2⟩:=ab.o (λq=>q.elim p1 (λr=>p3 r.2));clear ag ab p1 p2;(go_wp2_with fail);rw[<-HX.o];refine heldR ap (λaa=>?_);refine a0l 0 51 aa ?_;simp only[aP];refine a0l 1 52 aa ?_;simp only[aP];refine a0l 2 53 aa ?_;simp only[aP];refine a0l 3 54 aa ?_;simp only[aP];refine a0l 4 55 aa ?_;simp only[aP];refine a1N 5 (λK hK=>?_);go_simp;refine(az.o _).mono ?_;rintro e wa ⟨rfl,ai⟩;have ac:Hid (Bl X wa):=(b0h _ X).drew.trans ai;clear ai;(go_wp2_with fail);refine hK.out _ _ (ap.o _ ac.o) (λaa => ?_);clear hK K;refine a0l 6 57 aa ?_;simp only[aP];refine a0l 7 58 aa ?_;simp only[aP];refine a0l 8 59 aa ?_;simp only[aP];refine a0l 9 60 aa ?_;simp only[aP];refine a2X (i:=10) (v := ?_) (some 61) rfl rfl kr kr kr ii (by rfl) ?_ aa ?_;rotate_left 1
            ·(intro wq a3;go_simp;exact a6V aG.o _ _)
            simp only[aP];refine a0l 11 62 aa ?_;simp only[aP];refine a0l 12 63 aa ?_;simp only[aP];refine a0l 13 64 aa ?_;simp only[aP];refine a0l 14 65 aa ?_;simp only[aP];refine a0l 15 66 aa ?_;simp only[aP];refine a0l 16 67 aa ?_;simp only[aP];refine a0l 17 68 aa ?_;simp only[aP];refine a0l 18 69 aa ?_;simp only[aP];refine a0l 19 70 aa ?_;simp only[aP];refine a0l 20 71 aa ?_;simp only[aP];refine a0l 21 72 aa ?_;simp only[aP];refine wpAnyH_done kr ?_ _;obtain⟨⟨b0,b1,b2,b3⟩,f0,f1,f2,f3⟩:=aC.o wa ac.o;obtain⟨y0,y1,y2,y3⟩:=ax.o wa ac.o;rw[<-z1];(go_wp2_with fail);exact⟨⟨k+1,om,gn,rfl,a5.o _ ac.o z2⟩,io⟩
          ·obtain⟨z1,z2⟩:=ab.o (λq=>q.elim p1 (λr=>hB (Vc.V.eq_iff.1 r.1)));have aG:Hid (¬(vr=B.root/\vc+oc=B.cost/\vb=B.bridge/\vp=B.port)):=hB;clear ag ab p1 hB;(go_wp2_with fail);rw[<-HX.o];refine heldR ap (λaa=>?_);refine a0l 0 51 aa ?_;simp only[aP];refine a0l 1 52 aa ?_;simp only[aP];refine a0l 2 53 aa ?_;simp only[aP];refine a0l 3 54 aa ?_;simp only[aP];refine a0l 4 55 aa ?_;simp only[aP];refine a1N 5 (λK hK=>?_);go_simp;refine(az.o _).mono ?_;rintro e wa ⟨rfl,ai⟩;have ac:Hid (Bl X wa):=(b0h _ X).drew.trans ai;clear ai;(go_wp2_with fail);refine hK.out _ _ (ap.o _ ac.o) (λaa => ?_);clear hK K;refine a0l 6 57 aa ?_;simp only[aP];refine a0l 7 58 aa ?_;simp only[aP];refine a0l 8 59 aa ?_;simp only[aP];refine a0l 9 60 aa ?_;simp only[aP];refine a2X (i:=10) (v := ?_) (some 61) rfl rfl kr kr kr ii (by rfl) ?_ aa ?_;rotate_left 1
           ·(intro wq a3;go_simp;exact ite4_no aG.o _ _)
           simp only[aP];refine a0l 11 62 aa ?_;simp only[aP];refine a2g 12 63 aa ?_;simp only[aP];refine a2g 13 64 aa ?_;simp only[aP];refine a2g 14 65 aa ?_;simp only[aP];refine a2g 15 66 aa ?_;simp only[aP];refine a2g 16 67 aa ?_;simp only[aP];refine a2g 17 68 aa ?_;simp only[aP];refine a2g 18 69 aa ?_;simp only[aP];refine a2g 19 70 aa ?_;simp only[aP];refine a0l 20 71 aa ?_;simp only[aP];refine a0l 21 72 aa ?_;simp only[aP];refine wpAnyH_done kr ?_ _;obtain⟨⟨b0,b1,b2,b3⟩,f0,f1,f2,f3⟩:=aC.o wa ac.o;obtain⟨y0,y1,y2,y3⟩:=ax.o wa ac.o;rw[<-z1];(go_wp2_with fail);exact⟨⟨k+1,om,gn,rfl,a5.o _ ac.o z2⟩,io⟩
   ·have aJ:Hid (∀W,Calls prog 110 #[.agg #[Uv vr,Iv vc,Uv vb,Iv vp],Iv oc] W λe w'=>e=.returned (.tuple #[.agg #[Uv 0,Iv 0,Uv 0,Iv 0],.bool false])/\Hid (Bl W w')):=λW=>by
     have e1:Vc.overV ⟨vr,vc,vb,vp⟩ oc=Vc.v0:=iN hf;have:=am.o W;rw[e1,b0j hf] at this;exact this
    obtain⟨z1,z2⟩:=ak.o (λq=>hf (ae.o.1 q).1);clear am;(go_wp2_with fail);refine(aJ.o _).mono ?_;rintro e w2 ⟨rfl,ar⟩;have aU:Hid (∀o,(w2.alloc o).heap[w.heap.size]?=some (.cells (vA Vc.v0) 115)/\(w2.alloc o).heap[w.heap.size+1]?=some (.cells (vA (a0X id os (k+1))) 115)/\Bl w (w2.alloc o)):=λo=>by
     have h:=(bA1 wr _).trans (ar.o.mono (by simp));have h2:=h.alloc h.size o;rw[z2];exact⟨keep an.o.1 h2,keep an.o.2.1 h2,an.o.2.2.trans (h2.mono an.o.2.2.size)⟩
    rw[<-z1];clear ar z1 z2;(go_wp2_with fail);exact⟨⟨k+1,om,gn,rfl,aU.o _⟩,io⟩
  ·obtain rfl:k=n:=om
   obtain⟨b0,b1,b2,b3⟩:=a1p hX.o.2.1;obtain⟨r0,r1,r2,r3⟩:=a1p hX.o.1;obtain⟨f0,f1,f2,f3⟩:=a1K hX.o.1;have aD:Hid (wr.heap[w.heap.size]?=some (.cells (vA Vc.v0) 115)):=hX.o.1;have a1:Hid (Bl w wr):=hX.o.2.2;cases hc:Vc.chTo id os k with
   | none =>
    have ah:atTo id os k = -1:=(by unfold atTo;rw[hc])
    have aq:Hid ((Ending.returned (.tuple #[.agg (vA (Vc.chV id os k)),Iv (Vc.chA id os k),Iv (Vc.chP id os k)]):Ending)=.returned (.tuple #[.agg #[Uv id,Iv 0,Uv id,Iv 0],Iv 0,Iv (-1)])):=by
     show(Ending.returned _:Ending)=_;unfold Vc.chV Vc.chA Vc.chP;rw[hc];rfl
    rw[ah];have aw:Hid (Bl w ((((wr.setCell (Pv w.heap.size 0) (Uv id)).setCell (Pv w.heap.size 1) (Iv 0)).setCell (Pv w.heap.size 2) (Uv id)).setCell (Pv w.heap.size 3) (Iv 0))):=(((a1.o.setCell (b0g _) _).setCell (b0g _) _).setCell (b0g _) _).setCell (b0g _) _;clear ah hc hX;(go_wp2_with fail);exact b0b (v:=.tuple #[.agg #[Uv id,Iv 0,Uv id,Iv 0],Iv 0,Iv (-1)]) (a2v (p:=4) (u:=5) (x:=6) (ty:=115) results72 _ _ w.heap.size 115 #[Uv id,Iv 0,Uv id,Iv 0] (0,0) _ rfl (a5M aD.o) underlying115 rfl (by rw[a3u];rfl)) rfl ⟨aq.o.symm,aw.o⟩
   | some j =>
    have ah:atTo id os k=(j:Int):=(by unfold atTo;rw[hc])
    have ay:a0X id os k=(os j).v:=(by unfold a0X;rw[hc])
    obtain⟨a7,aW,_⟩:=Vc.chTo_some id os k j hc;obtain⟨b,off,rfl,_⟩:=CRow.some HR.o om;have aM:=HR.o.1;obtain⟨a0,_,a2,_⟩:=ORow.cells (CRow.other HR.o (w':=wr) (λq _ _ hq=>hX.o.2.2.block q hq) hX.o.2.2.size) a7;rw[ay] at b0 b1;have bf:0<=(os j).age:=aW.2.2.1.1;have be:(os j).age<20:=aW.2.2.1.2;have wa:IntKind.i64.wrap ((os j).age+1)=(os j).age+1:=a0t _ om om;have aq:Hid ((Ending.returned (.tuple #[.agg (vA (Vc.chV id os k)),Iv (Vc.chA id os k),Iv (Vc.chP id os k)]):Ending)=.returned (.tuple #[.agg #[Uv (os j).v.root,Iv (os j).v.cost,Uv id,Iv 0],Iv ((os j).age+1),Iv (os j).port])):=by
     show(Ending.returned _:Ending)=_;unfold Vc.chV Vc.chA Vc.chP;rw[hc];rfl
    have ij:(0:Int)<=(j:Int):=om
    have jn:(j:Int)<(k:Int):=om
    have bg:w.heap.size≠w.heap.size+1:=om
    have bd:b≠w.heap.size:=by
     obtain⟨b',bb,e,bh,_⟩:=HR.o.2 om;cases e;omega
    have ba:w.heap.size≠b:=λe=>bd e.symm;rw[ah];clear ah ay hc hX HR aW b2 b3;generalize (os j).v.root=vr at *;generalize (os j).v.cost=vc at *;generalize (os j).age=oa at *;generalize (os j).port=op at *;have aw:Hid (Bl w ((((wr.setCell (Pv w.heap.size 0) (Uv vr)).setCell (Pv w.heap.size 1) (Iv vc)).setCell (Pv w.heap.size 2) (Uv id)).setCell (Pv w.heap.size 3) (Iv 0)).drew):=((((a1.o.setCell (b0g _) _).setCell (b0g _) _).setCell (b0g _) _).setCell (b0g _) _).drew;(go_wp2_with fail);go_region_held3 (λW=>(W.cell? (Pv (w.heap.size+1) 0)=some (Uv vr)/\W.cell? (Pv (w.heap.size+1) 1)=some (Iv vc))/\W.cell? (Pv b (off+j*7))=some (Iv op)/\W.cell? (Pv b (off+j*7+2))=some (Iv oa))
     (go_keep) (fail)
    (all_goals go_wp2_with fail);all_goals exact b0b (v:=.tuple #[.agg #[Uv vr,Iv vc,Uv id,Iv 0],Iv (oa+1),Iv op]) (a2v (p:=4) (u:=5) (x:=6) (ty:=115) results72 _ _ w.heap.size 115 #[Uv vr,Iv vc,Uv id,Iv 0] (0,0) _ rfl (a6y (a5M aD.o)) underlying115 rfl (by rw[a3u];rfl)) rfl ⟨aq.o.symm,aw.o⟩
end
section
open Go.Proofs.Tryz
open Go.RowKit
open Vc (V Of)
open Pl (En Lk Br Net LN lf)
open Tk (Md Mnd)
abbrev Pl.Net.es (n:Net):Nat->Lk:=λj=>n.ls (LN n.lvs j)
theorem lvs_ok {n:Net}(R:n.Right) {k:Nat}(hk:k<n.lvs.length):(0<=(n.es k).a/\(n.es k).a<n.K)/\(0<=(n.es k).b/\(n.es k).b<n.K)/\(n.es k).a≠(n.es k).b:=by
 obtain⟨o1,o2,o3,_⟩:=R.links.ok _ (Pl.Net.lvs_mem hk).1;exact⟨o1,o2,o3⟩
theorem a9E {n:Net}(R:n.Right):n.lvs.length<=400:=by
 have h:=Pl.Net.lvsTo_few n n.L;have h2:=R.fewL;show(n.lvsTo n.L).length<=400;omega
abbrev a3g (n:Net) (xs:Nat->Mnd) (i:Nat):List Of:=a1C n.es i (λj=>(xs j).md) n.lvs.length
theorem a5I {n:Net}(R:n.Right) (xs:Nat->Mnd) (i:Nat):(a3g n xs i).length<=1000:=by
 have h:=a5E n.es i (λj=>(xs j).md) n.lvs.length;have h1:=Pl.Net.lvsTo_few n n.L;have h2:=R.fewL;have h3:n.lvs.length<=n.L:=h1;show(a1C n.es i (λj=>(xs j).md) n.lvs.length).length<=1000;omega
theorem rof_any (n:Net) (lao:OA) (lcap i gv gi:Nat) (xs:Nat->Mnd) (w:World) (R:n.Right) (aa:LRow w lao n.lvs.length lcap n.es) (hv:VaAt w gv n.K (λj=>(xs j).md.v)) (ha:IaAt w gi n.K (λj=>(xs j).md.age)) :
  Calls prog 71 #[.slice lao n.lvs.length lcap,Iv i,.slice (some (Pv gv 0)) n.K n.K,.slice (some (Pv gi 0)) n.K n.K] w λe w'=>∃ao cap,e=.returned (.slice ao (a3g n xs i).length cap)/\ORow w' ao (a3g n xs i).length cap (lf (a3g n xs i))/\Bl w w':=by
 refine(a6r lao n.lvs.length lcap n.es i gv n.K gi n.K n.K (λj=>(xs j).md) w (a9E R) aa hv.row ha.row (a2u ha) (λk hk=>lvs_ok R hk)).mono ?_;rintro e w' ⟨ao,cap,h1,h2,h3,_⟩;exact⟨ao,cap,h1,h2,h3⟩
theorem rch_any (n:Net) (id:Int) (xs:Nat->Mnd) (i:Nat) (ao:OA) (cap:Nat) (w:World) (R:n.Right) (ho:ORow w ao (a3g n xs i).length cap (lf (a3g n xs i))) :
  Calls prog 72 #[Uv id,.slice ao (a3g n xs i).length cap] w λe w'=>e=.returned (.tuple #[.agg #[Uv (a1t n id xs i).v.root,Iv (a1t n id xs i).v.cost,Uv (a1t n id xs i).v.bridge,Iv (a1t n id xs i).v.port],Iv (a1t n id xs i).age,Iv (a1t n id xs i).rp])/\Bl w w' :=
 a6s id ao (a3g n xs i).length cap (lf (a3g n xs i)) w (by have:=a5I R xs i;omega) ho
theorem rrl_any (n:Net) (lao:OA) (lcap i:Nat) (md:Md) (xs:Nat->Mnd) (oao:OA) (ocap:Nat) (w:World) (R:n.Right) (aa:n.at' w) (ab:LRow w lao n.lvs.length lcap n.es) (ho:ORow w oao (a3g n xs i).length ocap (lf (a3g n xs i))) :
  Calls prog 73 #[n.val,.slice lao n.lvs.length lcap,Iv i,.agg #[Uv md.v.root,Iv md.v.cost,Uv md.v.bridge,Iv md.v.port],Iv md.rp,.slice oao (a3g n xs i).length ocap] w λe w'=>∃ao cap,e=.returned (.slice ao (a1g n md xs i).length cap)/\w'.ownsRow w.heap.size 3 1 (.slice ao (a1g n md xs i).length cap) (a1g n md xs i).length (a0j (a1g n md xs i))/\Bl w w':=by
 have e:(a1g n md xs i).length=(Pl.ptsAll n.ls n.L i 30).length:=(by unfold a1g;rw[List.length_map])
 rw[e];refine(a8a n lao n.lvs.length lcap n.es i md.v md.rp (a3g n xs i) oao ocap w aa R.fewL R.links (a9E R) ab (a5I R xs i) ho (λk hk=>(lvs_ok R hk).2.2)).mono ?_;rintro e w' ⟨ao,cap,h1,_,_,h4,h5⟩;exact⟨ao,cap,h1,h5,h4⟩
theorem a3Z {n:Net}(R:n.Right) (md:Md) (xs:Nat->Mnd) (i:Nat):(a1g n md xs i).length=(n.pts i).length/\(a1g n md xs i).length<=1200:=by
 have e:Pl.ptsAll n.ls n.L i 30=n.pts i:=Pl.ports_same R.links n.live i;have e2:(a1g n md xs i).length=(Pl.ptsAll n.ls n.L i 30).length:=(by unfold a1g;rw[List.length_map])
 have h1:=a2P n.ls n.L i 30;have h3:30*n.L<=30*40:=Nat.mul_le_mul (b0g _) R.fewL;exact⟨by rw[e2,e],om⟩
theorem a1T {w:World}{g:Nat}{a0 a1 a2 a3 a4 a5 a6 a7 a8:Value}{ty:TypeId}(h:w.heap[g]?=some (.cells #[a0,a1,a2,a3,a4,a5,a6,a7,a8] ty (0,0))) :
  (w.cell? (Pv g 0)=some a0/\w.cell? (Pv g 1)=some a1/\w.cell? (Pv g 2)=some a2/\w.cell? (Pv g 3)=some a3/\w.cell? (Pv g 4)=some a4/\w.cell? (Pv g 5)=some a5/\w.cell? (Pv g 6)=some a6/\w.cell? (Pv g 7)=some a7/\w.cell? (Pv g 8)=some a8)/\(w.frozen? (Pv g 0)=false/\w.frozen? (Pv g 1)=false/\w.frozen? (Pv g 2)=false/\w.frozen? (Pv g 3)=false/\w.frozen? (Pv g 4)=false/\w.frozen? (Pv g 5)=false/\w.frozen? (Pv g 7)=false/\w.frozen? (Pv g 8)=false) :=
 ⟨⟨a9Y w g 0 _ _ _ h,a9Y w g 1 _ _ _ h,a9Y w g 2 _ _ _ h,a9Y w g 3 _ _ _ h,a9Y w g 4 _ _ _ h,a9Y w g 5 _ _ _ h,a9Y w g 6 _ _ _ h,a9Y w g 7 _ _ _ h,a9Y w g 8 _ _ _ h⟩,
  ⟨b0a _ _ _ _ _ h,b0a _ _ _ _ _ h,b0a _ _ _ _ _ h,b0a _ _ _ _ _ h,b0a _ _ _ _ _ h,b0a _ _ _ _ _ h,b0a _ _ _ _ _ h,b0a _ _ _ _ _ h⟩⟩
theorem mind_six {w:World}{g:Nat}{a0 a1 a2 a3 a4 a5 a6 a7 a8 v0 v1 v2 v3 v4 v5:Value}{ty:TypeId}(h:w.heap[g]?=some (.cells #[a0,a1,a2,a3,a4,a5,a6,a7,a8] ty (0,0))) :
  ((((((w.setCell (Pv g 0) v0).setCell (Pv g 1) v1).setCell (Pv g 2) v2).setCell (Pv g 3) v3).setCell (Pv g 4) v4).setCell (Pv g 5) v5).heap[g]?=some (.cells #[v0,v1,v2,v3,v4,v5,a6,a7,a8] ty (0,0)):=by
 have h0:(w.setCell (Pv g 0) v0).heap[g]?=some (.cells #[v0,a1,a2,a3,a4,a5,a6,a7,a8] ty (0,0)):=(by rw[b0e _ _ _ _ _ _ h];rfl)
 have h1:((w.setCell (Pv g 0) v0).setCell (Pv g 1) v1).heap[g]?=some (.cells #[v0,v1,a2,a3,a4,a5,a6,a7,a8] ty (0,0)):=(by rw[b0e _ _ _ _ _ _ h0];rfl)
 have h2:(((w.setCell (Pv g 0) v0).setCell (Pv g 1) v1).setCell (Pv g 2) v2).heap[g]?=some (.cells #[v0,v1,v2,a3,a4,a5,a6,a7,a8] ty (0,0)):=(by rw[b0e _ _ _ _ _ _ h1];rfl)
 have h3:((((w.setCell (Pv g 0) v0).setCell (Pv g 1) v1).setCell (Pv g 2) v2).setCell (Pv g 3) v3).heap[g]?=some (.cells #[v0,v1,v2,v3,a4,a5,a6,a7,a8] ty (0,0)):=(by rw[b0e _ _ _ _ _ _ h2];rfl)
 have h4:(((((w.setCell (Pv g 0) v0).setCell (Pv g 1) v1).setCell (Pv g 2) v2).setCell (Pv g 3) v3).setCell (Pv g 4) v4).heap[g]?=some (.cells #[v0,v1,v2,v3,v4,a5,a6,a7,a8] ty (0,0)):=(by rw[b0e _ _ _ _ _ _ h3];rfl)
 rw[b0e _ _ _ _ _ _ h4];rfl
theorem a8d {w:World}{g:Nat}{a0 a1 a2 a3 a4 a5 a6 a7 a8 v:Value}{ty:TypeId}(h:w.heap[g]?=some (.cells #[a0,a1,a2,a3,a4,a5,a6,a7,a8] ty (0,0))):(w.setCell (Pv g 7) v).heap[g]?=some (.cells #[a0,a1,a2,a3,a4,a5,a6,v,a8] ty (0,0)):=by rw[b0e _ _ _ _ _ _ h];rfl
theorem a8e {w:World}{g:Nat}{a0 a1 a2 a3 a4 a5 a6 a7 a8 v:Value}{ty:TypeId}(h:w.heap[g]?=some (.cells #[a0,a1,a2,a3,a4,a5,a6,a7,a8] ty (0,0))):(w.setCell (Pv g 8) v).heap[g]?=some (.cells #[a0,a1,a2,a3,a4,a5,a6,a7,v] ty (0,0)):=by rw[b0e _ _ _ _ _ _ h];rfl
theorem a0J {w:World}{g j o:Nat}{v:Value}(aa:g≠j):(w.setCell (Pv j o) v).heap[g]?=w.heap[g]?:=b0f _ _ _ _ aa
structure TkO (w W:World) (n:Net) (BN RT OT:Nat) (t:List Tr) (base k:Nat) (ao:OA) (cap:Nat) (t':List Tr):Prop where
 low:Bl w W
 net:W.heap[BN]?=some (.cells #[.slice n.bao n.K n.bcap,.slice n.lao n.L n.lcap] 25)
 res:W.heap[RT]?=some (.cells #[sN] 34)
 out:W.heap[OT]?=some (.cells #[.slice ao t'.length cap] 34)
 rk:RkT W base (.slice ao t'.length cap) t'
 len:t'.length=k
 each:∀j,j<k->a5H n (n.ids j) (tat t j).l (tat t' j).l
 big:base<=W.heap.size
 ord:w.heap.size<=BN/\BN<RT/\RT<OT/\OT<base
abbrev TkO.o:=@TkO.out
theorem TkO.below {w W W':World}{n:Net}{BN RT OT:Nat}{t:List Tr}{base k:Nat}{ao:OA}{cap:Nat}{t':List Tr}(h:TkO w W n BN RT OT t base k ao cap t') (hb:Bl W W'):TkO w W' n BN RT OT t base k ao cap t' :=
 ⟨h.low.trans (hb.mono h.low.size),keep h.net hb,keep h.res hb,keep h.o hb,h.rk.below hb,h.len,h.each,b0p h.big hb.size,h.ord⟩
theorem TkO.next {w W:World}{n:Net}{BN RT OT:Nat}{t:List Tr}{base k b2:Nat}{ao ao2:OA}{cap cap2:Nat}{t':List Tr}{l':List Mi}(h:TkO w W n BN RT OT t base k ao cap t') (hl:t'.length<=1000) (hm:RkM W b2 (.slice ao2 l'.length cap2) l') (ab:base<=b2) (ht:a5H n (n.ids k) (tat t k).l l') :
  ∃a c W2,(Builtin.append_ #[32,32] 32 #[.slice ao t'.length cap,.slice (some (Pv W.heap.size 0)) 1 1]).run prog (W.alloc (.cells #[.slice ao2 l'.length cap2] 112))=.ok (.slice a (t'++[Tr.mk ao2 cap2 l']).length c) W2/\(W2.cell? (Pv OT 0)=some (.slice ao t'.length cap)/\W2.frozen? (Pv OT 0)=false) /\
   TkO w (W2.setCell (Pv OT 0) (.slice a (t'++[Tr.mk ao2 cap2 l']).length c)) n BN RT OT t base (k+1) a c (t'++[Tr.mk ao2 cap2 l']):=by
 obtain⟨a,c,W2,r,hk,hb,hq⟩:=more_r base W (.slice ao t'.length cap) t' ⟨ao2,cap2,l'⟩ h.rk (hm.mono ab) hl h.big;have ho:=hq _ _ _ h.o dd;have hn:=hq _ _ _ h.net dd;have hr:=hq _ _ _ h.res dd;obtain⟨o1,o2,o3,o4⟩:=h.ord;have n1:BN≠OT:=om
 have n2:RT≠OT:=om
 have ac:base<=(W2.setCell (Pv OT 0) (.slice a (t'++[Tr.mk ao2 cap2 l']).length c)).heap.size:=by
  have h1:=hb.size;have h2:(W2.setCell (Pv OT 0) (.slice a (t'++[Tr.mk ao2 cap2 l']).length c)).heap.size=W2.heap.size:=(by simp)
  have h3:=h.big;omega
 have aa:Bl w W2:=h.low.trans (hb.mono (show w.heap.size<=base by omega));refine⟨a,c,W2,r,⟨a0x ho,b0a _ _ _ _ _ ho⟩,aa.setCell (show w.heap.size<=OT by omega) _,a0D hn n1,a0D hr n2,?_,hk.keep (λq _ _ hq _ _=>a0J om),by rw[List.length_append,h.len];rfl,λj hj => ?_,ac,h.ord⟩
 ·rw[b0e _ _ _ _ _ _ ho];rfl
 ·by_cases e:j=k
  ·subst e;rw[a3Y _ _ _ (by rw[h.len];exact b0g _),h.len,Nat.sub_self];exact ht
  ·rw[a5b _ _ _ (by rw[h.len];omega)];exact h.each j om
theorem a8f {n:Net}{ids:Nat->Int}{l l':List Mi}{i:Nat}{x:Mi}(hl:l'.length=i) (h:∀j,j<i->a5c n ids l j (mat l' j)) (hx:a5c n ids l i x):(l'++[x]).length=i+1/\∀j,j<i+1->a5c n ids l j (mat (l'++[x]) j):=by
 refine⟨by rw[List.length_append,hl];rfl,λj hj => ?_⟩;by_cases e:j=i
 ·subst e;rw[a3f _ _ _ (by rw[hl];exact b0g _),hl,Nat.sub_self];exact hx
 ·rw[a3C _ _ _ (by rw[hl];omega)];exact h j om
structure TkC (W8 W:World) (g:Nat) (md:Md) (ps rs:Value) (cs:List Int) (co:OA) (cc:Nat) (U:World):Prop where
 box:W.heap[g]?=some (.cells #[Uv md.v.root,Iv md.v.cost,Uv md.v.bridge,Iv md.v.port,Iv md.age,Iv md.rp,ps,rs,.slice co cs.length cc] 117)
 own:W.ownsRow W8.heap.size 3 1 (.slice co cs.length cc) cs.length (a0j cs)
 rest:∀q,q<W8.heap.size->q≠g->W.heap[q]?=W8.heap[q]?
 low:Bl U W
 big:W8.heap.size<=W.heap.size
theorem TkC.next {W8 W:World}{g:Nat}{md:Md}{ps rs:Value}{cs:List Int}{co:OA}{cc:Nat}{U:World}(h:TkC W8 W g md ps rs cs co cc U) (hg:U.heap.size<=g) (ac:g<W8.heap.size) (hl:cs.length<=100000) (z:Int) :
  ∃a c W2,(Builtin.append_ #[52,52] 52 #[.slice co cs.length cc,.slice (some (Pv W.heap.size 0)) 1 1]).run prog (W.alloc (.cells #[Iv z] 3))=.ok (.slice a (cs++[z]).length c) W2/\W2.frozen? (Pv g 8)=false/\W2.cell? (Pv g 8)=some (.slice co cs.length cc) /\
   TkC W8 (W2.setCell (Pv g 8) (.slice a (cs++[z]).length c)) g md ps rs (cs++[z]) a c U:=by
 obtain⟨a,c,W2,r,ho,hb⟩:=a3A h.own h.big hl z;have aa:W2.heap[g]?=_:=(hb.block g ac).trans h.box;obtain⟨⟨_,_,_,_,_,_,_,_,c8⟩,_,_,_,_,_,_,_,f8⟩:=a1T aa;have hl:=h.low.size;have ad:=h.big;have ab:W8.heap.size<=(W2.setCell (Pv g 8) (.slice a (cs++[z]).length c)).heap.size:=by
  have h1:=hb.size;have h2:(W2.setCell (Pv g 8) (.slice a (cs++[z]).length c)).heap.size=W2.heap.size:=(by simp)
  omega
 refine⟨a,c,W2,r,f8,c8,a8e aa,a0A ho (λq hq=>b0f _ _ _ _ (by show q≠g;have:=(oCb ho q hq).1;omega)),λq h1 h2 => ?_,(h.low.trans (hb.mono om)).setCell hg _,ab⟩;exact((b0f _ _ _ _ (by show q≠g;exact h2)).trans (hb.block q h1)).trans (h.rest q h1 h2)
theorem TkC.roles {W8 W:World}{g:Nat}{md:Md}{ps rs:Value}{cs:List Int}{co:OA}{cc:Nat}{U:World}(h:TkC W8 W g md ps rs cs co cc U) {base:Nat}{v:Value}{m:Nat}{xs:List Value}{aa:Array Value}(hg:W8.heap[g]?=some (.cells aa 117)) (hr:W8.ownsRow base 3 1 v m xs):W.ownsRow base 3 1 v m xs :=
 a0A hr (λq hq=>h.rest q (oCb hr q hq).2 (λe=>by
  subst e;obtain⟨c2,h2⟩:=a0z hr hq;exact absurd (a1j hg h2) dd))
