/- TF4 -/
import Derived.Test.YtelebnancdjjiaaGreatDoorE28
set_option maxRecDepth 100000
set_option maxHeartbeats 40000000
namespace Go.Proofs.YtelebnancdjjiaaGreatDoor
section
open Go.Proofs.Tryz Go.RowKit
open Vc(V Of)
open Pl(En Lk Br Net LN lf)
open Tk(Md Mnd)
theorem va_drew {W:World}{g K:Nat}{v:Nat->V}(h:VaAt W g K v):VaAt W.drew g K v:=h
theorem ia_drew {W:World}{g K:Nat}{f:Nat->Int}(h:IaAt W g K f):IaAt W.drew g K f:=h
def mnd0 (l:List Mi) (j:Nat):Mnd:=⟨(mat l j).md,(mat l j).roles,(mat l j).calm⟩
theorem a8m (n:Net) (lao:OA) (lcap:Nat) (oao:OA) (ocap:Nat) (t:List Tr) (N:Nat->Prop) (w:World) (R:n.Right) (cf:n.at' w) (cx:LRow w lao n.lvs.length lcap n.es) (hN:∀q,N q->q<w.heap.size) (ht:Bz N w (λV=>TrRow V oao ocap t)) (hf:fitT n t=true) (hc:∀k i j,k<t.length->i<n.K->0<=(mat (tat t k).l i).calm.getD j 0) :
  Calls prog 47 #[n.val,.slice lao n.lvs.length lcap,.agg #[.slice oao t.length ocap]] w λe w'=>∃ao cap t',e=.returned (.agg #[.slice ao t'.length cap])/\(t'.length=t.length/\(∀k,k<t.length->a5H n (n.ids k) (tat t k).l (tat t' k).l)/\Bz N w' (λV=>TrRow V ao cap t')/\Bl w w'):=by
 obtain⟨hT,av⟩:=a6Q.1 hf;have hK:=R.few;obtain⟨X,HX⟩:=nm ((((w.alloc (.cells #[.slice n.bao n.K n.bcap,.slice n.lao n.L n.lcap] 25)).alloc (.cells #[.slice oao t.length ocap] 34)).alloc (.cells #[sN] 34)).alloc (.cells #[sN] 34))
 obtain⟨X2,au⟩:=nm ((w.alloc (.cells #[.slice n.bao n.K n.bcap,.slice n.lao n.L n.lcap] 25)).alloc (.cells #[.slice oao t.length ocap] 34))
 have b1:Bl w X2:=(by rw[au.o];exact bA2 _ _ _)
 have s1:X2.heap.size=w.heap.size+1+1:=(by rw[au.o];simp)
 have b2:Bl X2 X:=(by rw[HX.o,<-au.o];exact bA2 _ _ _)
 have s2:X.heap.size=w.heap.size+4:=(by rw[HX.o];simp)
 have bf:Bl w X:=b1.trans (b2.mono b1.size);have g0:X.heap[w.heap.size]?=some (.cells #[.slice n.bao n.K n.bcap,.slice n.lao n.L n.lcap] 25):=keep (by rw[au.o];exact b0d _ _ _) b2;have g1:X.heap[w.heap.size+1]?=some (.cells #[.slice oao t.length ocap] 34):=keep (by rw[au.o];exact b0c _ _ _) b2;have g2:X.heap[w.heap.size+2]?=some (.cells #[sN] 34):=by
  rw[HX.o,<-au.o,show w.heap.size+2=X2.heap.size by omega];exact b0d _ _ _
 have g3:X.heap[w.heap.size+3]?=some (.cells #[sN] 34):=by
  rw[HX.o,<-au.o,show w.heap.size+3=X2.heap.size+1 by omega];exact b0c _ _ _
 obtain⟨BN,bP⟩:=nm w.heap.size
 obtain⟨BT,bx⟩:=nm (w.heap.size+1)
 obtain⟨RT,ci⟩:=nm (w.heap.size+1+1)
 obtain⟨OT,b0⟩:=nm (w.heap.size+1+1+1)
 have e1:=bP.o;have e2:=bx.o;have e3:=ci.o;have e4:=b0.o;rw[<-e1] at g0;rw[<-e2] at g1;rw[show w.heap.size+2=RT by omega] at g2;rw[show w.heap.size+3=OT by omega] at g3;have aw:Hid (w.heap.size<=BN/\BN<RT/\RT<OT/\OT<X.heap.size):=⟨om,om,om,om⟩
 have ct:Hid (∃ao cap t',TkO w X n BN RT OT t X.heap.size 0 ao cap t'):=⟨none,0,[],bf,g0,g2,g3,RkT.nil _ _,rfl,λj hj=>absurd hj om,b0g _,aw.o⟩
 obtain⟨x2⟩:Nonempty (X.cell? (Pv BT 0)=some (.slice oao t.length ocap)):=⟨a0x g1⟩
 rw[HX.o,bx.o] at x2;have HW:Hid (∀V,Bl w V->n.at' V/\LRow V lao n.lvs.length lcap n.es/\TrRow V oao ocap t):=λV hV=>⟨cf.below hV,CRow.below cx hV,ht.at' hV⟩
 have HR:Hid n.Right:=R;have aK:Hid (∀k,k<t.length->a4g n (tat t k).l):=av;have bU:Hid (∀k i j,k<t.length->i<n.K->0<=(mat (tat t k).l i).calm.getD j 0):=hc;have bl:Hid (∀W ao cap t',TkO w W n BN RT OT t X.heap.size t.length ao cap t'->∀V,(∀q,q≠RT->V.heap[q]?=W.heap[q]?)->V.heap.size=W.heap.size->Bl w V->(t'.length=t.length/\(∀k,k<t.length->a5H n (n.ids k) (tat t k).l (tat t' k).l)/\Bz N V (λV=>TrRow V ao cap t')/\Bl w V)):=λW ao cap t' h V hV hs hb=>by
  refine⟨h.len,h.each,?_,hb⟩;have cN:RkT V w.heap.size (.slice ao t'.length cap) t':=by
   have h1:RkT V X.heap.size (.slice ao t'.length cap) t':=h.rk.keep (λq _ _ hq _ _=>hV q (by have:=aw.o;omega));exact⟨a0v h1.row bf.size,λx hx=>(h1.each x hx).mono bf.size⟩
  exact tick_row (n:=n) hN ht (λk hk=>(av k hk).1) om hK hb cN h.len h.each
 have cX:t.length<=ocap:=ht.here.row.1;have dh:Hid (X.heap.size=w.heap.size+4):=s2;clear cf cx ht hc hf av R b1 b2 s1 s2 bf g0 g1 g2 g3 e1 e2 e3 e4;simp only[Pl.Net.val];go_enter func47,ntmps47;(go_wp2_with fail);rw[<-HX.o,<-b0.o,<-ci.o,<-bx.o,<-bP.o];clear x2;go_loopw [26] (λi wr=>∃k:Nat,k<=t.length/\i=Iv k/\Hid (∃ao cap t',TkO w wr n BN RT OT t X.heap.size k ao cap t')) (λi _=>t.length-(intOf i).toNat)
 case atStart=>exact⟨0,om,rfl,ct⟩
 case round =>
  clear ct;obtain⟨k,hk,rfl,hS⟩:=hrel;obtain⟨Y,HY⟩:=nm wr
  rw[<-HY.o] at hS ⊢;clear HY;obtain⟨ah,ac,t',hO⟩:=hS.o;by_cases hlt:k<t.length
  ·obtain⟨bq,bL,aV⟩:=HW.o Y hO.low;obtain⟨tb,cI,cF,_⟩:=aV.place om;subst cF;have c0:=aV.cell hlt;have bH:=aK.o k hlt;have cC:=aV.each k hlt;have ik:(0:Int)<=(k:Int):=om
   have nk:(k:Int)<(t.length:Int):=om
   have cl:Hid (k+1<=t.length):=hlt;have cO:Hid (0<=(k:Int)/\(k:Int)<=15):=⟨om,om⟩
   have HO:Hid (TkO w Y n BN RT OT t X.heap.size k ah ac t'):=hO;have bv:Hid (∀i j,i<n.K->0<=(mat (tat t k).l i).calm.getD j 0):=λi j hi=>bU.o k i j hlt hi;have am:Hid (∀V,Bl Y V->n.at' V/\LRow V lao n.lvs.length lcap n.es/\MiRow V (tat t k).ao (tat t k).cap (tat t k).l/\TkO w V n BN RT OT t X.heap.size k ah ac t'):=λV hV=>by
    have h:=hO.below hV;obtain⟨z1,z2,z3⟩:=HW.o V h.low;exact⟨z1,z2,z3.each k hlt,h⟩
   obtain⟨tk,cg⟩:=nm (tat t k)
   rw[<-cg.o] at c0 bH bv am;clear hS bq bL aV cC hO aK bU HW;obtain⟨ta,tc,tl⟩:=tk;simp only at c0 bH bv am;obtain⟨hlen,bN⟩:=bH;have ck:Hid (∀i,i<n.K->a6n n i (mat tl i)):=bN;have aN:Hid (tl.length=n.K):=hlen;have cZ:n.K<=tc:=(by have:=(am.o Y (b0h _ _)).2.2.1.row.1;omega)
   rw[hlen] at c0;have cB:=make_va Y (K:=n.K) om;have cJ:=a9C (Y.alloc (.cells (rowC n.K 4 (λ_=>vC Vc.v0)) 115)) (K:=n.K) om;obtain⟨gv,ba⟩:∃g,Hid (g=Y.heap.size):=⟨_,rfl⟩
   obtain⟨V0,bn⟩:∃V,Hid (V=(Y.alloc (.cells (rowC n.K 4 (λ_=>vC Vc.v0)) 115)).alloc (.cells (rowC n.K 1 (λ_ _=>Iv 0)) 3)):=⟨_,rfl⟩
   have H3:Hid (Bl Y V0/\VaAt V0 gv n.K (λi=>if i<0 then(mat tl i).md.v else Vc.v0)/\IaAt V0 (gv+1) n.K (λi=>if i<0 then(mat tl i).md.age else 0)):=by
    rw[bn.o,ba.o];exact⟨bA2 _ _ _,VaAt.congr (v:=λ_=>Vc.v0) (b0d _ _ _) (λi _=>by rw[iN om]),IaAt.congr (f:=λ_=>0) (b0c _ _ _) (λi _=>by rw[iN om])⟩
   have ay:Hid (Y.heap.size<=gv):=(by rw[ba.o];exact b0g _)
   have aL:Hid (Y.heap.size<=gv+1):=Nat.le_succ_of_le ay.o;clear hlen bN;(go_wp2_with fail);rw[<-bn.o,<-ba.o];clear c0 cB cJ bn ba;go_loopw [39] (λi wr=>∃j:Nat,j<=n.K/\i=Iv j/\Hid (Bl Y wr/\VaAt wr gv n.K (λi=>if i<j then(mat tl i).md.v else Vc.v0)/\IaAt wr (gv+1) n.K (λi=>if i<j then(mat tl i).md.age else 0))) (λi _=>n.K-(intOf i).toNat)
   case atStart=>exact⟨0,om,rfl,H3⟩
   case round =>
    clear H3;obtain⟨j,hj,rfl,hB⟩:=hrel;obtain⟨Q,HQ⟩:=nm wr
    rw[<-HQ.o] at hB ⊢;clear HQ;by_cases hlj:j<n.K
    ·have r2:=(am.o Q hB.o.1).2.2.1;obtain⟨d1,p1,rfl,cK⟩:=r2.place (by rw[aN.o];omega);obtain⟨a0,a1,a2,a3,a4,a5,a6,a7,a8⟩:=r2.cells (i:=j) (by rw[aN.o];exact hlj);have ij:(0:Int)<=(j:Int):=om
     have nj:(j:Int)<(n.K:Int):=om
     obtain⟨x,af⟩:=nm (mat tl j)
     rw[<-af.o] at a0 a1 a2 a3 a4 a5 a6 a7 a8;obtain⟨Z,HZ⟩:=nm (Q.alloc (.cells #[Uv x.md.v.root,Iv x.md.v.cost,Uv x.md.v.bridge,Iv x.md.v.port,Iv x.md.age,Iv x.md.rp,.slice x.po x.ports.length x.pc,.slice x.ro x.roles.length x.rc,.slice x.co x.calm.length x.cc] 117))
     have aX:Bl Q Z:=(by rw[HZ.o];exact bA1 _ _)
     have cs:Z.heap[Q.heap.size]?=some (.cells #[Uv x.md.v.root,Iv x.md.v.cost,Uv x.md.v.bridge,Iv x.md.v.port,Iv x.md.age,Iv x.md.rp,.slice x.po x.ports.length x.pc,.slice x.ro x.roles.length x.rc,.slice x.co x.calm.length x.cc] 117):=(by rw[HZ.o];exact a9Z _ _)
     obtain⟨⟨m0,m1,m2,m3,m4,_⟩,_⟩:=a1T cs;have a9:VaAt Z gv n.K (λi=>if i<j then(mat tl i).md.v else Vc.v0):=keep hB.o.2.1 aX;have bg:IaAt Z (gv+1) n.K (λi=>if i<j then(mat tl i).md.age else 0):=keep hB.o.2.2 aX;have b8:Bl Y Z:=hB.o.1.trans (aX.mono hB.o.1.size);obtain⟨_,vf⟩:=a9.cells hlj;have de:=vf (j*4);have c9:=vf (j*4+1);have da:=vf (j*4+2);have cW:=vf (j*4+3);have cV:=(bg.cell hlj).2;obtain⟨⟨e0,e1,e2,e3⟩,_⟩:=a9.cells hlj;have e4:=(bg.cell hlj).1;have df:gv<Q.heap.size:=a2u hB.o.2.1;have c6:gv+1<Q.heap.size:=a2u hB.o.2.2;have n1:gv≠Q.heap.size:=om
     have n2:gv+1≠Q.heap.size:=om
     have n3:Q.heap.size≠gv:=om
     have n4:Q.heap.size≠gv+1:=om
     have n5:gv≠gv+1:=om
     have n6:gv+1≠gv:=om
     have cT:Hid (∀W,VaAt W gv n.K (λi=>if i=j then x.md.v else if i<j then(mat tl i).md.v else Vc.v0)->VaAt W gv n.K (λi=>if i<j+1 then(mat tl i).md.v else Vc.v0)):=λW h=>h.congr (λi hi=>by
      by_cases e:i=j
      ·subst e;rw[iP rfl,iP om,af.o]
      ·rw[iN e];by_cases e2:i<j
       ·rw[iP e2,iP om]
       ·rw[iN e2,iN om])
     have cS:Hid (∀W,IaAt W (gv+1) n.K (λi=>if i=j then x.md.age else if i<j then(mat tl i).md.age else 0)->IaAt W (gv+1) n.K (λi=>if i<j+1 then(mat tl i).md.age else 0)):=λW h=>h.congr (λi hi=>by
      by_cases e:i=j
      ·subst e;rw[iP rfl,iP om,af.o]
      ·rw[iN e];by_cases e2:i<j
       ·rw[iP e2,iP om]
       ·rw[iN e2,iN om])
     have al:Hid (Bl Y (((((Z.setCell (Pv gv (j*4)) (Uv x.md.v.root)).setCell (Pv gv (j*4+1)) (Iv x.md.v.cost)).setCell (Pv gv (j*4+2)) (Uv x.md.v.bridge)).setCell (Pv gv (j*4+3)) (Iv x.md.v.port)).setCell (Pv (gv+1) j) (Iv x.md.age)).drew/\VaAt (((((Z.setCell (Pv gv (j*4)) (Uv x.md.v.root)).setCell (Pv gv (j*4+1)) (Iv x.md.v.cost)).setCell (Pv gv (j*4+2)) (Uv x.md.v.bridge)).setCell (Pv gv (j*4+3)) (Iv x.md.v.port)).setCell (Pv (gv+1) j) (Iv x.md.age)).drew gv n.K (λi=>if i<j+1 then(mat tl i).md.v else Vc.v0)/\IaAt (((((Z.setCell (Pv gv (j*4)) (Uv x.md.v.root)).setCell (Pv gv (j*4+1)) (Iv x.md.v.cost)).setCell (Pv gv (j*4+2)) (Uv x.md.v.bridge)).setCell (Pv gv (j*4+3)) (Iv x.md.v.port)).setCell (Pv (gv+1) j) (Iv x.md.age)).drew (gv+1) n.K (λi=>if i<j+1 then(mat tl i).md.age else 0)):=by
      have h1:=((((b8.setCell (p:=⟨gv,j*4,none⟩) ay.o (Uv x.md.v.root)).setCell (p:=⟨gv,j*4+1,none⟩) ay.o (Iv x.md.v.cost)).setCell (p:=⟨gv,j*4+2,none⟩) ay.o (Uv x.md.v.bridge)).setCell (p:=⟨gv,j*4+3,none⟩) ay.o (Iv x.md.v.port)).setCell (p:=⟨gv+1,j,none⟩) aL.o (Iv x.md.age);exact⟨b0i h1,cT.o _ (va_drew (VaAt.other (VaAt.all a9 hlj x.md.v) n5)),cS.o _ (ia_drew (IaAt.set ((((bg.other n6).other n6).other n6).other n6) hlj x.md.age))⟩
     have HJ:Hid (j<n.K):=hlj;clear r2 hB aX cs vf a9 bg b8 af am cK;(go_wp2_with fail);rw[<-HZ.o];go_region
     (all_goals go_wp2_with fail);all_goals exact⟨⟨j+1,om,gn,al⟩,io⟩
    ·obtain rfl:j=n.K:=om
     have bY:VaAt Q gv n.K (λi=>(mnd0 tl i).md.v):=hB.o.2.1.congr (λi hi=>by rw[iP hi];rfl);have b9:IaAt Q (gv+1) n.K (λi=>(mnd0 tl i).md.age):=hB.o.2.2.congr (λi hi=>by rw[iP hi];rfl);have cA:=(am.o Q hB.o.1).2.2.2;obtain⟨n0,n1⟩:=tC2 cA.net;have HQ:Hid (∀V,Bl Q V->(VaAt V gv n.K (λi=>(mnd0 tl i).md.v)/\IaAt V (gv+1) n.K (λi=>(mnd0 tl i).md.age))/\n.at' V/\LRow V lao n.lvs.length lcap n.es/\MiRow V ta tc tl/\TkO w V n BN RT OT t X.heap.size k ah ac t'):=λV hV=>by
      obtain⟨z1,z2,z3,z4⟩:=am.o V (hB.o.1.trans (hV.mono hB.o.1.size));exact⟨⟨keep bY hV,keep b9 hV⟩,z1,z2,z3,z4⟩
     have bZ:Hid (RkM Q Q.heap.size (.slice none ([]:List Mi).length 0) []/\([]:List Mi).length=0/\(∀j,j<0->a5c n (n.ids k) tl j (mat [] j))/\Bl Q Q):=⟨RkM.nil _ _,rfl,λj hj=>absurd hj om,b0h _ _⟩
     clear hB bY b9 cA am ay aL;(go_wp2_with fail);clear n0 n1;go_loopw [14,58] (λcH bu wr=>∃(i:Nat) (ao:OA) (cap:Nat) (l':List Mi),i<=n.K/\bu=Iv i/\cH=.slice ao l'.length cap/\Hid (RkM wr Q.heap.size (.slice ao l'.length cap) l'/\l'.length=i/\(∀j,j<i->a5c n (n.ids k) tl j (mat l' j))/\Bl Q wr)) (λ_ bu _=>n.K-(intOf bu).toNat)
     case atStart=>exact⟨0,none,0,[],om,rfl,rfl,bZ⟩
     case round =>
      clear bZ;obtain⟨i,aY,aW,l',hi,rfl,rfl,hS⟩:=hrel;obtain⟨U,HU⟩:=nm wr
      rw[<-HU.o] at hS ⊢;clear HU;by_cases hlt2:i<n.K
      ·obtain⟨⟨vU,aU⟩,br,cG,bX,oU⟩:=HQ.o U hS.o.2.2.2;obtain⟨bb,bF,aF,_⟩:=CRow.some br.brs om;have bC:=br.brs;rw[aF] at bC;obtain⟨c0,c1,c2,c3,c4⟩:=BRow.cells bC hlt2;obtain⟨mb,aI,cD,_⟩:=bX.place (by rw[aN.o];omega);subst cD;have HA:Hid (∀V,Bl Q V->V.cell? (Pv mb (aI+i*9+6))=some (.slice (mat tl i).po (mat tl i).ports.length (mat tl i).pc)/\V.cell? (Pv mb (aI+i*9+8))=some (.slice (mat tl i).co (mat tl i).calm.length (mat tl i).cc)/\MiIn V (mat tl i)):=λV hV=>by
        have h:=(HQ.o V hV).2.2.2.1;obtain⟨_,_,_,_,_,_,a6,_,a8⟩:=h.cells (i:=i) (by rw[aN.o];exact hlt2);exact⟨a6,a8,h.each i (by rw[aN.o];exact hlt2)⟩
       have i0:(0:Int)<=(i:Int):=om
       have i1:(i:Int)<(n.K:Int):=om
       obtain⟨b,hb⟩:=nn (n.bs i)
       rw[<-hb] at c0 c1 c2 c3 c4;obtain⟨U1,bw⟩:=nm (U.alloc (.cells #[Uv b.addr,.slice b.pao b.pn b.pcap,.string b.reg.s,Iv b.reg.rev,.slice b.reg.ao b.reg.n b.reg.cap] 65))
       have bK:Bl U U1:=(by rw[bw.o];exact bA1 _ _)
       have aD:U1.heap[U.heap.size]?=some (.cells #[Uv b.addr,.slice b.pao b.pn b.pcap,.string b.reg.s,Iv b.reg.rev,.slice b.reg.ao b.reg.n b.reg.cap] 65):=(by rw[bw.o];exact a9Z _ _)
       have bm:Bl Q U:=hS.o.2.2.2;have bM:Bl Q U1:=bm.trans (bK.mono bm.size);obtain⟨os,bj⟩:=nm (a3g n (mnd0 tl) i)
       have cy:Hid (Calls prog 71 #[.slice lao n.lvs.length lcap,Iv i,.slice (some (Pv gv 0)) n.K n.K,.slice (some (Pv (gv+1) 0)) n.K n.K] U1 λe w'=>∃ao cap,e=.returned (.slice ao os.length cap)/\Hid (ORow w' ao os.length cap (lf os)/\Bl U1 w')):=by
        obtain⟨⟨z1,z2⟩,_,z4,_⟩:=HQ.o U1 bM;rw[bj.o];exact(rof_any n lao lcap i gv (gv+1) (mnd0 tl) U1 HR.o z4 z1 z2).mono (λe w' h=>h)
       have HS:Hid (RkM U Q.heap.size (.slice aY l'.length aW) l'/\l'.length=i/\(∀j,j<i->a5c n (n.ids k) tl j (mat l' j))/\Bl Q U):=hS;have az:Hid (Bl U U1/\U1.heap[U.heap.size]?=some (.cells #[Uv b.addr,.slice b.pao b.pn b.pcap,.string b.reg.s,Iv b.reg.rev,.slice b.reg.ao b.reg.n b.reg.cap] 65)/\Bl Q U1):=⟨bK,aD,bM⟩
       have HB:Hid (b=n.bs i):=hb;clear vU aU br cG bX oU bC hS hb bK aD bm bM;rw[aF];(go_wp2_with fail);rw[<-bw.o];refine cy.o.mono ?_;rintro e w2 ⟨aC,aB,rfl,H2⟩;clear cy c0 c1 c2 c3 c4;obtain⟨x,af⟩:=nm (mat tl i)
       have ak:=H2.o.2;have aE:Bl Q w2:=az.o.2.2.trans (ak.mono az.o.2.2.size);have a6:=(HA.o w2 aE).1;rw[<-af.o] at a6;obtain⟨g,HG⟩:=nm w2.heap.size
       obtain⟨U3,ax⟩:=nm (w2.alloc (.cells #[Uv 0,Iv 0,Uv 0,Iv 0,Iv 0,Iv 0,.slice x.po x.ports.length x.pc,sN,sN] 117))
       have bd:Bl w2 U3:=(by rw[ax.o];exact bA1 _ _)
       have aH:U3.heap[g]?=some (.cells #[Uv 0,Iv 0,Uv 0,Iv 0,Iv 0,Iv 0,.slice x.po x.ports.length x.pc,sN,sN] 117):=(by rw[ax.o,HG.o];exact a9Z _ _)
       have aG:=keep (keep az.o.2.1 ak) bd;obtain⟨d0,d1,d2,d3,d4⟩:=a1L aG;rw[ax.o] at d0 d1 d2 d3 d4;have bW:Bl Q U3:=aE.trans (bd.mono aE.size);have b7:Hid (Calls prog 45 #[.agg #[Uv b.addr,.slice b.pao b.pn b.pcap,.string b.reg.s,Iv b.reg.rev,.slice b.reg.ao b.reg.n b.reg.cap],Iv k] U3 λe w'=>e=.returned (Uv (n.ids k i))/\Hid (Bl U3 w')):=by
        have h:=a6U (n.bs i) k U3 ((HQ.o U3 bW).2.1.each i hlt2) (HR.o.fine i hlt2) cO.o;rw[<-HB.o] at h;refine h.mono (λe w' h=>⟨h.1.trans ?_,h.2⟩);rw[HB.o];rfl
       have b6:Hid (i<n.K):=hlt2;have ax:Hid (U3=w2.alloc (.cells #[Uv 0,Iv 0,Uv 0,Iv 0,Iv 0,Iv 0,.slice x.po x.ports.length x.pc,sN,sN] 117)):=ax;have ai:Hid (Bl w2 U3/\U3.heap[g]?=some (.cells #[Uv 0,Iv 0,Uv 0,Iv 0,Iv 0,Iv 0,.slice x.po x.ports.length x.pc,sN,sN] 117)/\Bl Q w2/\U.heap.size<=g):=⟨bd,aH,aE,by have h1:=az.o.1.size;have h2:=ak.size;rw[HG.o];omega⟩
       clear ak aE bd aH aG bW;(go_wp2_with fail);rw[<-ax.o,<-HG.o];refine b7.o.mono ?_;rintro e w4 ⟨rfl,H4⟩;clear b7 d0 d1 d2 d3 d4 a6;obtain⟨md,cm⟩:=nm (a1t n (n.ids k i) (mnd0 tl) i)
       have bG:Bl w2 w4:=ai.o.1.trans (H4.o.mono ai.o.1.size);have ce:Hid (Calls prog 72 #[Uv (n.ids k i),.slice aC os.length aB] w4 λe w'=>e=.returned (.tuple #[.agg #[Uv md.v.root,Iv md.v.cost,Uv md.v.bridge,Iv md.v.port],Iv md.age,Iv md.rp])/\Hid (Bl w4 w')):=by
        have ho:ORow w4 aC os.length aB (lf os):=CRow.below H2.o.1 bG;rw[bj.o] at ho ⊢;rw[cm.o];exact(rch_any n (n.ids k i) (mnd0 tl) i aC aB w4 HR.o ho).mono (λe w' h=>⟨h.1,h.2⟩)
       have bI:Hid (Bl w2 w4/\w4.heap[g]?=some (.cells #[Uv 0,Iv 0,Uv 0,Iv 0,Iv 0,Iv 0,.slice x.po x.ports.length x.pc,sN,sN] 117)):=⟨bG,keep ai.o.2.1 H4.o⟩
       clear bG;(go_wp2_with fail);refine ce.o.mono ?_;rintro e w5 ⟨rfl,H5⟩;clear ce;have bt:=keep bI.o.2 H5.o;obtain⟨⟨m0,m1,m2,m3,m4,m5,m6,m7,m8⟩,f0,f1,f2,f3,f4,f5,f7,f8⟩:=a1T bt;have bp:Bl w2 w5:=bI.o.1.trans (H5.o.mono bI.o.1.size);have bT:Bl Q w5:=ai.o.2.2.1.trans (bp.mono ai.o.2.2.1.size);obtain⟨n0,n1⟩:=tC2 (HQ.o w5 bT).2.2.2.2.net;have cd:BN≠g:=by
        have h1:=aw.o;have h2:=(HQ.o Q (b0h _ _)).2.2.2.2.big;have h3:=ai.o.2.2.1.size;have h4:=HG.o;omega
       have cL:g≠BN:=cd.symm;obtain⟨W6,bJ⟩:=nm ((((((w5.setCell (Pv g 0) (Uv md.v.root)).setCell (Pv g 1) (Iv md.v.cost)).setCell (Pv g 2) (Uv md.v.bridge)).setCell (Pv g 3) (Iv md.v.port)).setCell (Pv g 4) (Iv md.age)).setCell (Pv g 5) (Iv md.rp))
       have b5:W6.heap[g]?=some (.cells #[Uv md.v.root,Iv md.v.cost,Uv md.v.bridge,Iv md.v.port,Iv md.age,Iv md.rp,.slice x.po x.ports.length x.pc,sN,sN] 117):=(by rw[bJ.o];exact mind_six bt)
       have ar:w2.heap.size<=g:=(by rw[HG.o];exact b0g _)
       have bc:Bl w2 W6:=(by rw[bJ.o];exact(((((bp.setCell ar _).setCell ar _).setCell ar _).setCell ar _).setCell ar _).setCell ar _)
       have cp:Bl Q W6:=ai.o.2.2.1.trans (bc.mono ai.o.2.2.1.size);obtain⟨rs,aZ⟩:=nm (a1g n md (mnd0 tl) i)
       have bi:Hid (Calls prog 73 #[.agg #[.slice n.bao n.K n.bcap,.slice n.lao n.L n.lcap],.slice lao n.lvs.length lcap,Iv i,.agg #[Uv md.v.root,Iv md.v.cost,Uv md.v.bridge,Iv md.v.port],Iv md.rp,.slice aC os.length aB] W6 λe w'=>∃ao cap,e=.returned (.slice ao rs.length cap)/\Hid (w'.ownsRow W6.heap.size 3 1 (.slice ao rs.length cap) rs.length (a0j rs)/\Bl W6 w')):=by
        obtain⟨_,z3,z4,_⟩:=HQ.o W6 cp;have ho:ORow W6 aC os.length aB (lf os):=CRow.below H2.o.1 bc;rw[bj.o] at ho ⊢;rw[aZ.o];exact(rrl_any n lao lcap i md (mnd0 tl) aC aB W6 HR.o z3 z4 ho).mono (λe w' h=>h)
       have aM:Hid (Bl w2 W6/\W6.heap[g]?=some (.cells #[Uv md.v.root,Iv md.v.cost,Uv md.v.bridge,Iv md.v.port,Iv md.age,Iv md.rp,.slice x.po x.ports.length x.pc,sN,sN] 117)):=⟨bc,b5⟩
       have cR:Hid (n.bao=some (Pv bb bF)):=aF;rw[aF] at n0 bi;clear bt b5 bp bc bT cp ar m8 f8 aF;(go_wp2_with fail);rw[<-bJ.o];refine bi.o.mono ?_;rintro e w7 ⟨ad,aa,rfl,H7⟩;clear bi m0 m1 m2 m3 m4 m5 m6 m7 f0 f1 f2 f3 f4 f5 f7 n0 n1 cd cL;have bo:=keep aM.o.2 H7.o.2;obtain⟨⟨m0,m1,m2,m3,m4,m5,m6,m7,m8⟩,_,_,_,_,_,_,f7,_⟩:=a1T bo;obtain⟨W8,aT⟩:=nm (w7.setCell (Pv g 7) (.slice ad rs.length aa))
       have aR:W8.heap[g]?=some (.cells #[Uv md.v.root,Iv md.v.cost,Uv md.v.bridge,Iv md.v.port,Iv md.age,Iv md.rp,.slice x.po x.ports.length x.pc,.slice ad rs.length aa,sN] 117):=(by rw[aT.o];exact a8d bo)
       have bD:g<W6.heap.size:=a1a aM.o.2;have bE:W8.ownsRow W6.heap.size 3 1 (.slice ad rs.length aa) rs.length (a0j rs):=by
        rw[aT.o];exact a0A H7.o.1 (λq hq=>a0J (by have:=(oCb H7.o.1 q hq).1;omega))
       have cw:Bl w2 w7:=aM.o.1.trans (H7.o.2.mono aM.o.1.size);have be:Bl U w2:=az.o.1.trans (H2.o.2.mono az.o.1.size);have b3:Bl U W8:=by
        rw[aT.o];exact(be.trans (cw.mono be.size)).setCell ai.o.2.2.2 _
       have aQ:g<W8.heap.size:=a1a aR;have b4:Hid (TkC W8 W8 g md (.slice x.po x.ports.length x.pc) (.slice ad rs.length aa) (a1Z rs x.calm 0) none 0 U):=⟨aR,a0y _ _ _ _ _,λ_ _ _=>rfl,b3,b0g _⟩
       have HW:Hid (g<W8.heap.size/\U.heap.size<=g/\W8.heap[g]?=some (.cells #[Uv md.v.root,Iv md.v.cost,Uv md.v.bridge,Iv md.v.port,Iv md.age,Iv md.rp,.slice x.po x.ports.length x.pc,.slice ad rs.length aa,sN] 117)/\W8.ownsRow W6.heap.size 3 1 (.slice ad rs.length aa) rs.length (a0j rs)/\U.heap.size<=W6.heap.size):=⟨aQ,ai.o.2.2.2,aR,bE,b0p be.size aM.o.1.size⟩
       have cU:rs.length<=1200:=(by rw[aZ.o];exact(a3Z HR.o md (mnd0 tl) i).2)
       have aq:Hid (x.calm.length=rs.length):=by
        have h1:=(ck.o i hlt2).2.2;have h2:=(a3Z HR.o md (mnd0 tl) i).1;rw[<-aZ.o] at h2;rw[af.o];exact h1.trans h2.symm
       have c7:rs.length<=aa:=by
        obtain⟨cY,cE,e',h1,_⟩:=a0W om bE;injection e' with _ _ e2;have:=h1.1;omega
       clear bo aR bE cw be b3 bD aQ;(go_wp2_with fail);rw[<-aT.o];clear m0 m1 m2 m3 m4 m5 m6 m7 m8 f7;go_loopw [99] (λs wr=>∃(j:Nat) (co:OA) (cc:Nat),j<=rs.length/\s=Iv j/\Hid (TkC W8 wr g md (.slice x.po x.ports.length x.pc) (.slice ad rs.length aa) (a1Z rs x.calm j) co cc U)) (λs _=>rs.length-(intOf s).toNat)
       case atStart=>exact⟨0,none,0,om,rfl,b4⟩
       case round =>
        clear b4;obtain⟨j,co,cc,hj,rfl,hC⟩:=hrel;by_cases hlt3:j<rs.length
        ·have cz:Bl Q wr:=HS.o.2.2.2.trans (hC.o.low.mono HS.o.2.2.2.size);obtain⟨_,a8,bh⟩:=HA.o wr cz;rw[<-af.o] at a8 bh;have ap:=(a2Q (hC.o.roles HW.o.2.2.1 HW.o.2.2.2.1)).1;obtain⟨rb,bB,bA,_⟩:=ap.place om;subst bA;have cr:=ap.cell hlt3;obtain⟨cb,cM,ch,_⟩:=bh.calm.place (by rw[aq.o];omega);have aj:=bh.calm;rw[ch] at aj a8;have cv:=aj.cell (i:=j) (by rw[aq.o];exact hlt3);have c5:=aj.1;have j0:(0:Int)<=(j:Int):=om
         have j1:(j:Int)<(rs.length:Int):=om
         have j2:(j:Int)<(x.calm.length:Int):=(by rw[aq.o];exact j1)
         obtain⟨⟨_,_,_,_,_,_,_,_,m8⟩,_⟩:=a1T hC.o.box;have db:0<=x.calm.getD j 0:=(by rw[af.o];exact bv.o i j hlt2)
         have al:Hid (∀z,z=Tk.calmOf (rs.getD j 0) (x.calm.getD j 0)->∃a c W2,(Builtin.append_ #[52,52] 52 #[.slice co (a1Z rs x.calm j).length cc,.slice (some (Pv wr.heap.size 0)) 1 1]).run prog (wr.alloc (.cells #[Iv z] 3))=.ok (.slice a (j+1) c) W2/\W2.frozen? (Pv g 8)=false/\W2.cell? (Pv g 8)=some (.slice co (a1Z rs x.calm j).length cc)/\Hid (TkC W8 (W2.setCell (Pv g 8) (.slice a (j+1) c)) g md (.slice x.po x.ports.length x.pc) (.slice (some (Pv rb bB)) rs.length aa) (a1Z rs x.calm (j+1)) a c U)):=λz hz=>by
          have hlen:(a1Z rs x.calm j).length<=100000:=(by rw[a1A];omega)
          obtain⟨a,c,W2,r,f8,c8,h⟩:=hC.o.next HW.o.2.1 HW.o.1 hlen z;have e:a1Z rs x.calm j++[z]=a1Z rs x.calm (j+1):=(by rw[hz];rfl)
          have e2:=a1A rs x.calm (j+1);rw[e,e2] at r h;exact⟨a,c,W2,r,f8,c8,h⟩
         have ag:Hid (j+1<=rs.length):=hlt3;clear hC bh ap aj ch cz;generalize rs.getD j 0=r at *;generalize x.calm.getD j 0=c at *;by_cases r1:r=1\/r=2
         ·by_cases r2:c > 49
          ·obtain⟨a1,c1,W2,ab,f8,c8,HN⟩:=al.o 50 (by unfold Tk.calmOf;rw[iP r1,iN om];rfl);have ae:Hid _:=ab;clear ab al;rcases r1 with q | q
           ·subst q;go_wp2_with (at_builtin;refine a0a rfl (.tmp 123) (.tmp 125) 52 rfl _ _ _ rfl rfl ae.o ?_)
            exact⟨⟨j+1,a1,c1,ag.o,gn,HN⟩,by have:=ag.o;simp[intOf];omega⟩
           ·subst q;go_wp2_with (at_builtin;refine a0a rfl (.tmp 123) (.tmp 125) 52 rfl _ _ _ rfl rfl ae.o ?_)
            exact⟨⟨j+1,a1,c1,ag.o,gn,HN⟩,by have:=ag.o;simp[intOf];omega⟩
          ·obtain⟨a1,c1,W2,ab,f8,c8,HN⟩:=al.o (c+1) (by unfold Tk.calmOf;rw[iP r1];by_cases q:c<49;rw[iP q];rw[iN q];omega);have wc:IntKind.i64.wrap (c+1)=c+1:=(by rw[IntKind.wrap_i64];omega)
           have ae:Hid _:=ab;clear ab al;rcases r1 with q | q
           ·subst q;go_wp2_with (at_builtin;refine a0a rfl (.tmp 123) (.tmp 125) 52 rfl _ _ _ rfl rfl ae.o ?_)
            exact⟨⟨j+1,a1,c1,ag.o,gn,HN⟩,by have:=ag.o;simp[intOf];omega⟩
           ·subst q;go_wp2_with (at_builtin;refine a0a rfl (.tmp 123) (.tmp 125) 52 rfl _ _ _ rfl rfl ae.o ?_)
            exact⟨⟨j+1,a1,c1,ag.o,gn,HN⟩,by have:=ag.o;simp[intOf];omega⟩
         ·obtain⟨a1,c1,W2,ab,f8,c8,HN⟩:=al.o 0 (by unfold Tk.calmOf;rw[iN r1]);have ae:Hid _:=ab;have q1:(r == 1)=false:=(by simp;omega)
          have q2:(r == 2)=false:=(by simp;omega)
          clear ab al;go_wp2_with (at_builtin;refine a0a rfl (.tmp 123) (.tmp 125) 52 rfl _ _ _ rfl rfl ae.o ?_)
          exact⟨⟨j+1,a1,c1,ag.o,gn,HN⟩,by have:=ag.o;simp[intOf];omega⟩
        ·obtain rfl:j=rs.length:=om
         obtain⟨⟨m0,m1,m2,m3,m4,m5,m6,m7,m8⟩,_⟩:=a1T hC.o.box;obtain⟨hM,aJ,aO,an⟩:=HS.o;have bO:=hC.o.roles HW.o.2.2.1 HW.o.2.2.2.1;have bR:Q.heap.size<=W6.heap.size:=by have h1:=an.size;have h2:=HW.o.2.2.2.2;omega
         have bQ:Q.heap.size<=W8.heap.size:=by have h1:=an.size;have h2:=HW.o.1;have h3:=HW.o.2.1;omega
         obtain⟨a1,c1,W9,ab,cj,bS⟩:=more_k Q.heap.size wr (.slice aY l'.length aW) l' (Mi.mk md x.po x.pc x.ports ad aa rs co cc (a1Z rs x.calm rs.length)) (hM.below hC.o.low) ⟨a0v bO bR,a0v hC.o.own bQ⟩ om (by have h1:=hC.o.big;omega);have hx:a5c n (n.ids k) tl i (Mi.mk md x.po x.pc x.ports ad aa rs co cc (a1Z rs x.calm rs.length)):=by
          refine⟨by rw[af.o];exact⟨rfl,rfl,rfl⟩,?_⟩;have h:=a8c HR.o.links (n.ids k) (mnd0 tl) i (by
           have h1:=(ck.o i hlt2).2.2;have h2:(n.pts i).length=(n.ends i).length:=(by unfold Pl.Net.pts;simp)
           exact h1.trans h2)
          rw[<-cm.o,<-aZ.o] at h;have h3:(mnd0 tl i).calm=x.calm:=(by rw[af.o];rfl)
          rw[h3] at h;exact h
         have ca:Bl Q W9:=(an.trans (hC.o.low.mono an.size)).trans bS;obtain⟨cu,cq⟩:=a8f aJ aO hx;have HN:Hid (RkM W9 Q.heap.size (.slice a1 (l'++[(Mi.mk md x.po x.pc x.ports ad aa rs co cc (a1Z rs x.calm rs.length))]).length c1) (l'++[(Mi.mk md x.po x.pc x.ports ad aa rs co cc (a1Z rs x.calm rs.length))])/\(l'++[(Mi.mk md x.po x.pc x.ports ad aa rs co cc (a1Z rs x.calm rs.length))]).length=i+1/\(∀j,j<i+1->a5c n (n.ids k) tl j (mat (l'++[(Mi.mk md x.po x.pc x.ports ad aa rs co cc (a1Z rs x.calm rs.length))]) j))/\Bl Q W9):=⟨cj,cu,cq,ca⟩
         unfold a4Y miA at ab;have ae:Hid _:=ab;obtain⟨l2,bV⟩:∃l2:List Mi,Hid (l2=l'++[(Mi.mk md x.po x.pc x.ports ad aa rs co cc (a1Z rs x.calm rs.length))]):=⟨_,rfl⟩
         rw[<-bV.o] at HN ae;clear ab cj bS hx ca cu cq hM aJ aO an bO bR bQ hC bV;go_wp2_with (at_builtin;refine a0a rfl (.tmp 129) (.tmp 131) 112 rfl _ _ _ rfl rfl ae.o ?_)
         exact⟨⟨i+1,a1,c1,l2,b6.o,gn,rfl,HN⟩,by have:=b6.o;simp[intOf];omega⟩
      ·obtain rfl:i=n.K:=om
       obtain⟨hM,aJ,aO,an⟩:=hS.o;have hO:=(HQ.o U an).2.2.2.2;have hbase:X.heap.size<=Q.heap.size:=(HQ.o Q (b0h _ _)).2.2.2.2.big;have htl:a5H n (n.ids k) (tat t k).l l':=by
        have h:=cg.o;rw[<-h];exact⟨aJ,aO⟩
       obtain⟨a1,c1,W9,ab,⟨o0,o1⟩,hN⟩:=hO.next (by rw[hO.len];omega) hM hbase htl;have ho0:=a0x hO.o;have HN:Hid (∃ao cap t2,TkO w (W9.setCell (Pv OT 0) (.slice a1 (t'++[Tr.mk aY aW l']).length c1)) n BN RT OT t X.heap.size (k+1) ao cap t2):=⟨a1,c1,_,hN⟩
       have ae:Hid _:=ab;clear ab hN hO hS htl hM aJ aO an;generalize (t'++[Tr.mk aY aW l']).length=tl2 at *;go_wp2_with (at_builtin;refine a0a rfl (.tmp 135) (.tmp 137) 32 rfl _ _ _ rfl rfl ae.o ?_)
       exact⟨⟨k+1,cl.o,gn,HN⟩,by have:=cl.o;simp[intOf];omega⟩
  ·obtain rfl:k=t.length:=om
   have ho0:=a0x hO.o;have dj:=a0x hO.res;have dc:=b0a _ _ 0 _ _ hO.res;have cP:OT≠RT:=(by have:=hO.ord;omega)
   have di:RT≠OT:=cP.symm;have bz:Hid (Y.heap[RT]?=some (.cells #[sN] 34)):=hO.res;have cQ:Hid (t'.length=t.length/\(∀k,k<t.length->a5H n (n.ids k) (tat t k).l (tat t' k).l)/\Bz N (Y.setCell (Pv RT 0) (.slice ah t'.length ac)) (λV=>TrRow V ah ac t')/\Bl w (Y.setCell (Pv RT 0) (.slice ah t'.length ac))):=bl.o Y ah ac t' hO _ (λq hq=>a0J hq) (by simp) (hO.low.setCell (show w.heap.size<=RT by have:=hO.ord;omega) _);clear hS hO;(go_wp2_with fail);exact b0b (v:=.agg #[.slice ah t'.length ac]) (a0b (p:=6) (ty:=34) results47 _ _ RT 34 #[.slice ah t'.length ac] (0,0) _ rfl (a1o bz.o) underlying34 rfl (by rw[a0T];rfl)) rfl ⟨ah,ac,t',rfl,cQ.o⟩
