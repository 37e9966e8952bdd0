/- TF4 -/
import Derived.Test.YtelebnancdjjiaaGreatDoorE28
set_option maxRecDepth 100000
set_option maxHeartbeats 40000000
namespace Go.Proofs.YtelebnancdjjiaaGreatDoor
section
open Go.Proofs.Tryz Go.RowKit
open Vc(V Of)
open Pl(En Lk Br Net LN lf)
open Tk(Md Mnd)
theorem va_drew {W:World}{g K:Nat}{v:Nat->V}(h:VaAt W g K v):VaAt W.drew g K v:=h
theorem ia_drew {W:World}{g K:Nat}{f:Nat->Int}(h:IaAt W g K f):IaAt W.drew g K f:=h
def mnd0 (l:List Mi) (j:Nat):Mnd:=⟨(mat l j).md,(mat l j).roles,(mat l j).calm⟩
theorem a8m (n:Net) (lao:OA) (lcap:Nat) (oao:OA) (ocap:Nat) (t:List Tr) (N:Nat->Prop) (w:World) (R:n.Right) (cg:n.at' w) (bU:LRow w lao n.lvs.length lcap n.es) (hN:∀q,N q->q<w.heap.size) (ht:Bz N w (λV=>TrRow V oao ocap t)) (hf:fitT n t=true) (hc:∀k i j,k<t.length->i<n.K->0<=(mat (tat t k).l i).calm.getD j 0) :
  Calls prog 47 #[n.val,.slice lao n.lvs.length lcap,.agg #[.slice oao t.length ocap]] w λe w'=>∃ao cap t',e=.returned (.agg #[.slice ao t'.length cap])/\(t'.length=t.length/\(∀k,k<t.length->a5H n (n.ids k) (tat t k).l (tat t' k).l)/\Bz N w' (λV=>TrRow V ao cap t')/\Bl w w'):=by
 obtain⟨hT,au⟩:=a6Q.1 hf;have hK:=R.few;obtain⟨X,HX⟩:=nm ((((w.alloc (.cells #[.slice n.bao n.K n.bcap,.slice n.lao n.L n.lcap] 25)).alloc (.cells #[.slice oao t.length ocap] 34)).alloc (.cells #[sN] 34)).alloc (.cells #[sN] 34))
 obtain⟨X2,av⟩:=nm ((w.alloc (.cells #[.slice n.bao n.K n.bcap,.slice n.lao n.L n.lcap] 25)).alloc (.cells #[.slice oao t.length ocap] 34))
 have b1:Bl w X2:=(by rw[av.o];exact bA2 _ _ _)
 have s1:X2.heap.size=w.heap.size+1+1:=(by rw[av.o];simp)
 have b2:Bl X2 X:=(by rw[HX.o,<-av.o];exact bA2 _ _ _)
 have s2:X.heap.size=w.heap.size+4:=(by rw[HX.o];simp)
 have aX:Bl w X:=b1.trans (b2.mono b1.size);have g0:X.heap[w.heap.size]?=some (.cells #[.slice n.bao n.K n.bcap,.slice n.lao n.L n.lcap] 25):=keep (by rw[av.o];exact b0d _ _ _) b2;have g1:X.heap[w.heap.size+1]?=some (.cells #[.slice oao t.length ocap] 34):=keep (by rw[av.o];exact b0c _ _ _) b2;have g2:X.heap[w.heap.size+2]?=some (.cells #[sN] 34):=by
  rw[HX.o,<-av.o,show w.heap.size+2=X2.heap.size by omega];exact b0d _ _ _
 have g3:X.heap[w.heap.size+3]?=some (.cells #[sN] 34):=by
  rw[HX.o,<-av.o,show w.heap.size+3=X2.heap.size+1 by omega];exact b0c _ _ _
 obtain⟨BN,b5⟩:=nm w.heap.size
 obtain⟨BT,bi⟩:=nm (w.heap.size+1)
 obtain⟨RT,bO⟩:=nm (w.heap.size+1+1)
 obtain⟨OT,cd⟩:=nm (w.heap.size+1+1+1)
 have e1:=b5.o;have e2:=bi.o;have e3:=bO.o;have e4:=cd.o;rw[<-e1] at g0;rw[<-e2] at g1;rw[show w.heap.size+2=RT by omega] at g2;rw[show w.heap.size+3=OT by omega] at g3;have ap:Hid (w.heap.size<=BN/\BN<RT/\RT<OT/\OT<X.heap.size):=⟨om,om,om,om⟩
 have bW:Hid (∃ao cap t',TkO w X n BN RT OT t X.heap.size 0 ao cap t'):=⟨none,0,[],aX,g0,g2,g3,RkT.nil _ _,rfl,λj hj=>absurd hj om,b0g _,ap.o⟩
 obtain⟨x2⟩:Nonempty (X.cell? (Pv BT 0)=some (.slice oao t.length ocap)):=⟨a0x g1⟩
 rw[HX.o,bi.o] at x2;have HW:Hid (∀V,Bl w V->n.at' V/\LRow V lao n.lvs.length lcap n.es/\TrRow V oao ocap t):=λV hV=>⟨cg.below hV,CRow.below bU hV,ht.at' hV⟩
 have HR:Hid n.Right:=R;have aL:Hid (∀k,k<t.length->a4g n (tat t k).l):=au;have ca:Hid (∀k i j,k<t.length->i<n.K->0<=(mat (tat t k).l i).calm.getD j 0):=hc;have bo:Hid (∀W ao cap t',TkO w W n BN RT OT t X.heap.size t.length ao cap t'->∀V,(∀q,q≠RT->V.heap[q]?=W.heap[q]?)->V.heap.size=W.heap.size->Bl w V->(t'.length=t.length/\(∀k,k<t.length->a5H n (n.ids k) (tat t k).l (tat t' k).l)/\Bz N V (λV=>TrRow V ao cap t')/\Bl w V)):=λW ao cap t' h V hV hs hb=>by
  refine⟨h.len,h.each,?_,hb⟩;have cG:RkT V w.heap.size (.slice ao t'.length cap) t':=by
   have h1:RkT V X.heap.size (.slice ao t'.length cap) t':=h.rk.keep (λq _ _ hq _ _=>hV q (by have:=ap.o;omega));exact⟨a0v h1.row aX.size,λx hx=>(h1.each x hx).mono aX.size⟩
  exact tick_row (n:=n) hN ht (λk hk=>(au k hk).1) om hK hb cG h.len h.each
 have da:t.length<=ocap:=ht.here.row.1;have c7:Hid (X.heap.size=w.heap.size+4):=s2;clear cg bU ht hc hf au R b1 b2 s1 s2 aX g0 g1 g2 g3 e1 e2 e3 e4;simp only[Pl.Net.val];go_enter func47,ntmps47;(go_wp2_with fail);rw[<-HX.o,<-cd.o,<-bO.o,<-bi.o,<-b5.o];clear x2;go_loopw [26] (λi wr=>∃k:Nat,k<=t.length/\i=Iv k/\Hid (∃ao cap t',TkO w wr n BN RT OT t X.heap.size k ao cap t')) (λi _=>t.length-(intOf i).toNat)
 case atStart=>exact⟨0,om,rfl,bW⟩
 case round =>
  clear bW;obtain⟨k,hk,rfl,hS⟩:=hrel;obtain⟨Y,HY⟩:=nm wr
  rw[<-HY.o] at hS ⊢;clear HY;obtain⟨ai,ac,t',hO⟩:=hS.o;by_cases hlt:k<t.length
  ·obtain⟨bF,bI,bg⟩:=HW.o Y hO.low;obtain⟨tb,cL,cM,_⟩:=bg.place om;subst cM;have c0:=bg.cell hlt;have bt:=aL.o k hlt;have cD:=bg.each k hlt;have ik:(0:Int)<=(k:Int):=om
   have nk:(k:Int)<(t.length:Int):=om
   have bS:Hid (k+1<=t.length):=hlt;have cH:Hid (0<=(k:Int)/\(k:Int)<=15):=⟨om,om⟩
   have HO:Hid (TkO w Y n BN RT OT t X.heap.size k ai ac t'):=hO;have bE:Hid (∀i j,i<n.K->0<=(mat (tat t k).l i).calm.getD j 0):=λi j hi=>ca.o k i j hlt hi;have al:Hid (∀V,Bl Y V->n.at' V/\LRow V lao n.lvs.length lcap n.es/\MiRow V (tat t k).ao (tat t k).cap (tat t k).l/\TkO w V n BN RT OT t X.heap.size k ai ac t'):=λV hV=>by
    have h:=hO.below hV;obtain⟨z1,z2,z3⟩:=HW.o V h.low;exact⟨z1,z2,z3.each k hlt,h⟩
   obtain⟨tk,cu⟩:=nm (tat t k)
   rw[<-cu.o] at c0 bt bE al;clear hS bF bI bg cD hO aL ca HW;obtain⟨ta,tc,tl⟩:=tk;simp only at c0 bt bE al;obtain⟨hlen,b6⟩:=bt;have cz:Hid (∀i,i<n.K->a6n n i (mat tl i)):=b6;have aH:Hid (tl.length=n.K):=hlen;have df:n.K<=tc:=(by have:=(al.o Y (b0h _ _)).2.2.1.row.1;omega)
   rw[hlen] at c0;have cE:=make_va Y (K:=n.K) om;have cF:=a9C (Y.alloc (.cells (rowC n.K 4 (λ_=>vC Vc.v0)) 115)) (K:=n.K) om;obtain⟨gv,a9⟩:∃g,Hid (g=Y.heap.size):=⟨_,rfl⟩
   obtain⟨V0,bp⟩:∃V,Hid (V=(Y.alloc (.cells (rowC n.K 4 (λ_=>vC Vc.v0)) 115)).alloc (.cells (rowC n.K 1 (λ_ _=>Iv 0)) 3)):=⟨_,rfl⟩
   have H3:Hid (Bl Y V0/\VaAt V0 gv n.K (λi=>if i<0 then(mat tl i).md.v else Vc.v0)/\IaAt V0 (gv+1) n.K (λi=>if i<0 then(mat tl i).md.age else 0)):=by
    rw[bp.o,a9.o];exact⟨bA2 _ _ _,VaAt.congr (v:=λ_=>Vc.v0) (b0d _ _ _) (λi _=>by rw[iN om]),IaAt.congr (f:=λ_=>0) (b0c _ _ _) (λi _=>by rw[iN om])⟩
   have aC:Hid (Y.heap.size<=gv):=(by rw[a9.o];exact b0g _)
   have aF:Hid (Y.heap.size<=gv+1):=Nat.le_succ_of_le aC.o;clear hlen b6;(go_wp2_with fail);rw[<-bp.o,<-a9.o];clear c0 cE cF bp a9;go_loopw [39] (λi wr=>∃j:Nat,j<=n.K/\i=Iv j/\Hid (Bl Y wr/\VaAt wr gv n.K (λi=>if i<j then(mat tl i).md.v else Vc.v0)/\IaAt wr (gv+1) n.K (λi=>if i<j then(mat tl i).md.age else 0))) (λi _=>n.K-(intOf i).toNat)
   case atStart=>exact⟨0,om,rfl,H3⟩
   case round =>
    clear H3;obtain⟨j,hj,rfl,hB⟩:=hrel;obtain⟨Q,HQ⟩:=nm wr
    rw[<-HQ.o] at hB ⊢;clear HQ;by_cases hlj:j<n.K
    ·have r2:=(al.o Q hB.o.1).2.2.1;obtain⟨d1,p1,rfl,cN⟩:=r2.place (by rw[aH.o];omega);obtain⟨a0,a1,a2,a3,a4,a5,a6,a7,a8⟩:=r2.cells (i:=j) (by rw[aH.o];exact hlj);have ij:(0:Int)<=(j:Int):=om
     have nj:(j:Int)<(n.K:Int):=om
     obtain⟨x,af⟩:=nm (mat tl j)
     rw[<-af.o] at a0 a1 a2 a3 a4 a5 a6 a7 a8;obtain⟨Z,HZ⟩:=nm (Q.alloc (.cells #[Uv x.md.v.root,Iv x.md.v.cost,Uv x.md.v.bridge,Iv x.md.v.port,Iv x.md.age,Iv x.md.rp,.slice x.po x.ports.length x.pc,.slice x.ro x.roles.length x.rc,.slice x.co x.calm.length x.cc] 117))
     have ba:Bl Q Z:=(by rw[HZ.o];exact bA1 _ _)
     have cj:Z.heap[Q.heap.size]?=some (.cells #[Uv x.md.v.root,Iv x.md.v.cost,Uv x.md.v.bridge,Iv x.md.v.port,Iv x.md.age,Iv x.md.rp,.slice x.po x.ports.length x.pc,.slice x.ro x.roles.length x.rc,.slice x.co x.calm.length x.cc] 117):=(by rw[HZ.o];exact a9Z _ _)
     obtain⟨⟨m0,m1,m2,m3,m4,_⟩,_⟩:=a1T cj;have aZ:VaAt Z gv n.K (λi=>if i<j then(mat tl i).md.v else Vc.v0):=keep hB.o.2.1 ba;have aR:IaAt Z (gv+1) n.K (λi=>if i<j then(mat tl i).md.age else 0):=keep hB.o.2.2 ba;have cs:Bl Y Z:=hB.o.1.trans (ba.mono hB.o.1.size);obtain⟨_,vf⟩:=aZ.cells hlj;have dh:=vf (j*4);have cX:=vf (j*4+1);have db:=vf (j*4+2);have cU:=vf (j*4+3);have de:=(aR.cell hlj).2;obtain⟨⟨e0,e1,e2,e3⟩,_⟩:=aZ.cells hlj;have e4:=(aR.cell hlj).1;have c5:gv<Q.heap.size:=a2u hB.o.2.1;have di:gv+1<Q.heap.size:=a2u hB.o.2.2;have n1:gv≠Q.heap.size:=om
     have n2:gv+1≠Q.heap.size:=om
     have n3:Q.heap.size≠gv:=om
     have n4:Q.heap.size≠gv+1:=om
     have n5:gv≠gv+1:=om
     have n6:gv+1≠gv:=om
     have cT:Hid (∀W,VaAt W gv n.K (λi=>if i=j then x.md.v else if i<j then(mat tl i).md.v else Vc.v0)->VaAt W gv n.K (λi=>if i<j+1 then(mat tl i).md.v else Vc.v0)):=λW h=>h.congr (λi hi=>by
      by_cases e:i=j
      ·subst e;rw[iP rfl,iP om,af.o]
      ·rw[iN e];by_cases e2:i<j
       ·rw[iP e2,iP om]
       ·rw[iN e2,iN om])
     have cR:Hid (∀W,IaAt W (gv+1) n.K (λi=>if i=j then x.md.age else if i<j then(mat tl i).md.age else 0)->IaAt W (gv+1) n.K (λi=>if i<j+1 then(mat tl i).md.age else 0)):=λW h=>h.congr (λi hi=>by
      by_cases e:i=j
      ·subst e;rw[iP rfl,iP om,af.o]
      ·rw[iN e];by_cases e2:i<j
       ·rw[iP e2,iP om]
       ·rw[iN e2,iN om])
     have am:Hid (Bl Y (((((Z.setCell (Pv gv (j*4)) (Uv x.md.v.root)).setCell (Pv gv (j*4+1)) (Iv x.md.v.cost)).setCell (Pv gv (j*4+2)) (Uv x.md.v.bridge)).setCell (Pv gv (j*4+3)) (Iv x.md.v.port)).setCell (Pv (gv+1) j) (Iv x.md.age)).drew/\VaAt (((((Z.setCell (Pv gv (j*4)) (Uv x.md.v.root)).setCell (Pv gv (j*4+1)) (Iv x.md.v.cost)).setCell (Pv gv (j*4+2)) (Uv x.md.v.bridge)).setCell (Pv gv (j*4+3)) (Iv x.md.v.port)).setCell (Pv (gv+1) j) (Iv x.md.age)).drew gv n.K (λi=>if i<j+1 then(mat tl i).md.v else Vc.v0)/\IaAt (((((Z.setCell (Pv gv (j*4)) (Uv x.md.v.root)).setCell (Pv gv (j*4+1)) (Iv x.md.v.cost)).setCell (Pv gv (j*4+2)) (Uv x.md.v.bridge)).setCell (Pv gv (j*4+3)) (Iv x.md.v.port)).setCell (Pv (gv+1) j) (Iv x.md.age)).drew (gv+1) n.K (λi=>if i<j+1 then(mat tl i).md.age else 0)):=by
      have h1:=((((cs.setCell (p:=⟨gv,j*4,none⟩) aC.o (Uv x.md.v.root)).setCell (p:=⟨gv,j*4+1,none⟩) aC.o (Iv x.md.v.cost)).setCell (p:=⟨gv,j*4+2,none⟩) aC.o (Uv x.md.v.bridge)).setCell (p:=⟨gv,j*4+3,none⟩) aC.o (Iv x.md.v.port)).setCell (p:=⟨gv+1,j,none⟩) aF.o (Iv x.md.age);exact⟨b0i h1,cT.o _ (va_drew (VaAt.other (VaAt.all aZ hlj x.md.v) n5)),cR.o _ (ia_drew (IaAt.set ((((aR.other n6).other n6).other n6).other n6) hlj x.md.age))⟩
     have HJ:Hid (j<n.K):=hlj;clear r2 hB ba cj vf aZ aR cs af al cN;(go_wp2_with fail);rw[<-HZ.o];go_region
     (all_goals go_wp2_with fail);all_goals exact⟨⟨j+1,om,gn,am⟩,io⟩
    ·obtain rfl:j=n.K:=om
     have ci:VaAt Q gv n.K (λi=>(mnd0 tl i).md.v):=hB.o.2.1.congr (λi hi=>by rw[iP hi];rfl);have ck:IaAt Q (gv+1) n.K (λi=>(mnd0 tl i).md.age):=hB.o.2.2.congr (λi hi=>by rw[iP hi];rfl);have b8:=(al.o Q hB.o.1).2.2.2;obtain⟨n0,n1⟩:=tC2 b8.net;have HQ:Hid (∀V,Bl Q V->(VaAt V gv n.K (λi=>(mnd0 tl i).md.v)/\IaAt V (gv+1) n.K (λi=>(mnd0 tl i).md.age))/\n.at' V/\LRow V lao n.lvs.length lcap n.es/\MiRow V ta tc tl/\TkO w V n BN RT OT t X.heap.size k ai ac t'):=λV hV=>by
      obtain⟨z1,z2,z3,z4⟩:=al.o V (hB.o.1.trans (hV.mono hB.o.1.size));exact⟨⟨keep ci hV,keep ck hV⟩,z1,z2,z3,z4⟩
     have bT:Hid (RkM Q Q.heap.size (.slice none ([]:List Mi).length 0) []/\([]:List Mi).length=0/\(∀j,j<0->a5c n (n.ids k) tl j (mat [] j))/\Bl Q Q):=⟨RkM.nil _ _,rfl,λj hj=>absurd hj om,b0h _ _⟩
     clear hB ci ck b8 al aC aF;(go_wp2_with fail);clear n0 n1;go_loopw [14,58] (λcK bJ wr=>∃(i:Nat) (ao:OA) (cap:Nat) (l':List Mi),i<=n.K/\bJ=Iv i/\cK=.slice ao l'.length cap/\Hid (RkM wr Q.heap.size (.slice ao l'.length cap) l'/\l'.length=i/\(∀j,j<i->a5c n (n.ids k) tl j (mat l' j))/\Bl Q wr)) (λ_ bJ _=>n.K-(intOf bJ).toNat)
     case atStart=>exact⟨0,none,0,[],om,rfl,rfl,bT⟩
     case round =>
      clear bT;obtain⟨i,be,aW,l',hi,rfl,rfl,hS⟩:=hrel;obtain⟨U,HU⟩:=nm wr
      rw[<-HU.o] at hS ⊢;clear HU;by_cases hlt2:i<n.K
      ·obtain⟨⟨vU,aU⟩,bn,cB,bP,oU⟩:=HQ.o U hS.o.2.2.2;obtain⟨bb,bA,aN,_⟩:=CRow.some bn.brs om;have bL:=bn.brs;rw[aN] at bL;obtain⟨c0,c1,c2,c3,c4⟩:=BRow.cells bL hlt2;obtain⟨mb,aG,cJ,_⟩:=bP.place (by rw[aH.o];omega);subst cJ;have HA:Hid (∀V,Bl Q V->V.cell? (Pv mb (aG+i*9+6))=some (.slice (mat tl i).po (mat tl i).ports.length (mat tl i).pc)/\V.cell? (Pv mb (aG+i*9+8))=some (.slice (mat tl i).co (mat tl i).calm.length (mat tl i).cc)/\MiIn V (mat tl i)):=λV hV=>by
        have h:=(HQ.o V hV).2.2.2.1;obtain⟨_,_,_,_,_,_,a6,_,a8⟩:=h.cells (i:=i) (by rw[aH.o];exact hlt2);exact⟨a6,a8,h.each i (by rw[aH.o];exact hlt2)⟩
       have i0:(0:Int)<=(i:Int):=om
       have i1:(i:Int)<(n.K:Int):=om
       obtain⟨b,hb⟩:=nn (n.bs i)
       rw[<-hb] at c0 c1 c2 c3 c4;obtain⟨U1,bj⟩:=nm (U.alloc (.cells #[Uv b.addr,.slice b.pao b.pn b.pcap,.string b.reg.s,Iv b.reg.rev,.slice b.reg.ao b.reg.n b.reg.cap] 65))
       have bl:Bl U U1:=(by rw[bj.o];exact bA1 _ _)
       have aJ:U1.heap[U.heap.size]?=some (.cells #[Uv b.addr,.slice b.pao b.pn b.pcap,.string b.reg.s,Iv b.reg.rev,.slice b.reg.ao b.reg.n b.reg.cap] 65):=(by rw[bj.o];exact a9Z _ _)
       have bB:Bl Q U:=hS.o.2.2.2;have bz:Bl Q U1:=bB.trans (bl.mono bB.size);obtain⟨os,bu⟩:=nm (a3g n (mnd0 tl) i)
       have bR:Hid (Calls prog 71 #[.slice lao n.lvs.length lcap,Iv i,.slice (some (Pv gv 0)) n.K n.K,.slice (some (Pv (gv+1) 0)) n.K n.K] U1 λe w'=>∃ao cap,e=.returned (.slice ao os.length cap)/\Hid (ORow w' ao os.length cap (lf os)/\Bl U1 w')):=by
        obtain⟨⟨z1,z2⟩,_,z4,_⟩:=HQ.o U1 bz;rw[bu.o];exact(rof_any n lao lcap i gv (gv+1) (mnd0 tl) U1 HR.o z4 z1 z2).mono (λe w' h=>h)
       have HS:Hid (RkM U Q.heap.size (.slice be l'.length aW) l'/\l'.length=i/\(∀j,j<i->a5c n (n.ids k) tl j (mat l' j))/\Bl Q U):=hS;have ax:Hid (Bl U U1/\U1.heap[U.heap.size]?=some (.cells #[Uv b.addr,.slice b.pao b.pn b.pcap,.string b.reg.s,Iv b.reg.rev,.slice b.reg.ao b.reg.n b.reg.cap] 65)/\Bl Q U1):=⟨bl,aJ,bz⟩
       have HB:Hid (b=n.bs i):=hb;clear vU aU bn cB bP oU bL hS hb bl aJ bB bz;rw[aN];(go_wp2_with fail);rw[<-bj.o];refine bR.o.mono ?_;rintro e w2 ⟨aB,ay,rfl,H2⟩;clear bR c0 c1 c2 c3 c4;obtain⟨x,af⟩:=nm (mat tl i)
       have ak:=H2.o.2;have aD:Bl Q w2:=ax.o.2.2.trans (ak.mono ax.o.2.2.size);have a6:=(HA.o w2 aD).1;rw[<-af.o] at a6;obtain⟨g,HG⟩:=nm w2.heap.size
       obtain⟨U3,az⟩:=nm (w2.alloc (.cells #[Uv 0,Iv 0,Uv 0,Iv 0,Iv 0,Iv 0,.slice x.po x.ports.length x.pc,sN,sN] 117))
       have aT:Bl w2 U3:=(by rw[az.o];exact bA1 _ _)
       have aM:U3.heap[g]?=some (.cells #[Uv 0,Iv 0,Uv 0,Iv 0,Iv 0,Iv 0,.slice x.po x.ports.length x.pc,sN,sN] 117):=(by rw[az.o,HG.o];exact a9Z _ _)
       have aE:=keep (keep ax.o.2.1 ak) aT;obtain⟨d0,d1,d2,d3,d4⟩:=a1L aE;rw[az.o] at d0 d1 d2 d3 d4;have cx:Bl Q U3:=aD.trans (aT.mono aD.size);have bV:Hid (Calls prog 45 #[.agg #[Uv b.addr,.slice b.pao b.pn b.pcap,.string b.reg.s,Iv b.reg.rev,.slice b.reg.ao b.reg.n b.reg.cap],Iv k] U3 λe w'=>e=.returned (Uv (n.ids k i))/\Hid (Bl U3 w')):=by
        have h:=a6U (n.bs i) k U3 ((HQ.o U3 cx).2.1.each i hlt2) (HR.o.fine i hlt2) cH.o;rw[<-HB.o] at h;refine h.mono (λe w' h=>⟨h.1.trans ?_,h.2⟩);rw[HB.o];rfl
       have b7:Hid (i<n.K):=hlt2;have az:Hid (U3=w2.alloc (.cells #[Uv 0,Iv 0,Uv 0,Iv 0,Iv 0,Iv 0,.slice x.po x.ports.length x.pc,sN,sN] 117)):=az;have ag:Hid (Bl w2 U3/\U3.heap[g]?=some (.cells #[Uv 0,Iv 0,Uv 0,Iv 0,Iv 0,Iv 0,.slice x.po x.ports.length x.pc,sN,sN] 117)/\Bl Q w2/\U.heap.size<=g):=⟨aT,aM,aD,by have h1:=ax.o.1.size;have h2:=ak.size;rw[HG.o];omega⟩
       clear ak aD aT aM aE cx;(go_wp2_with fail);rw[<-az.o,<-HG.o];refine bV.o.mono ?_;rintro e w4 ⟨rfl,H4⟩;clear bV d0 d1 d2 d3 d4 a6;obtain⟨md,ce⟩:=nm (a1t n (n.ids k i) (mnd0 tl) i)
       have bK:Bl w2 w4:=ag.o.1.trans (H4.o.mono ag.o.1.size);have b3:Hid (Calls prog 72 #[Uv (n.ids k i),.slice aB os.length ay] w4 λe w'=>e=.returned (.tuple #[.agg #[Uv md.v.root,Iv md.v.cost,Uv md.v.bridge,Iv md.v.port],Iv md.age,Iv md.rp])/\Hid (Bl w4 w')):=by
        have ho:ORow w4 aB os.length ay (lf os):=CRow.below H2.o.1 bK;rw[bu.o] at ho ⊢;rw[ce.o];exact(rch_any n (n.ids k i) (mnd0 tl) i aB ay w4 HR.o ho).mono (λe w' h=>⟨h.1,h.2⟩)
       have bH:Hid (Bl w2 w4/\w4.heap[g]?=some (.cells #[Uv 0,Iv 0,Uv 0,Iv 0,Iv 0,Iv 0,.slice x.po x.ports.length x.pc,sN,sN] 117)):=⟨bK,keep ag.o.2.1 H4.o⟩
       clear bK;(go_wp2_with fail);refine b3.o.mono ?_;rintro e w5 ⟨rfl,H5⟩;clear b3;have br:=keep bH.o.2 H5.o;obtain⟨⟨m0,m1,m2,m3,m4,m5,m6,m7,m8⟩,f0,f1,f2,f3,f4,f5,f7,f8⟩:=a1T br;have bv:Bl w2 w5:=bH.o.1.trans (H5.o.mono bH.o.1.size);have cy:Bl Q w5:=ag.o.2.2.1.trans (bv.mono ag.o.2.2.1.size);obtain⟨n0,n1⟩:=tC2 (HQ.o w5 cy).2.2.2.2.net;have ch:BN≠g:=by
        have h1:=ap.o;have h2:=(HQ.o Q (b0h _ _)).2.2.2.2.big;have h3:=ag.o.2.2.1.size;have h4:=HG.o;omega
       have cC:g≠BN:=ch.symm;obtain⟨W6,bM⟩:=nm ((((((w5.setCell (Pv g 0) (Uv md.v.root)).setCell (Pv g 1) (Iv md.v.cost)).setCell (Pv g 2) (Uv md.v.bridge)).setCell (Pv g 3) (Iv md.v.port)).setCell (Pv g 4) (Iv md.age)).setCell (Pv g 5) (Iv md.rp))
       have cw:W6.heap[g]?=some (.cells #[Uv md.v.root,Iv md.v.cost,Uv md.v.bridge,Iv md.v.port,Iv md.age,Iv md.rp,.slice x.po x.ports.length x.pc,sN,sN] 117):=(by rw[bM.o];exact mind_six br)
       have ar:w2.heap.size<=g:=(by rw[HG.o];exact b0g _)
       have bc:Bl w2 W6:=(by rw[bM.o];exact(((((bv.setCell ar _).setCell ar _).setCell ar _).setCell ar _).setCell ar _).setCell ar _)
       have bN:Bl Q W6:=ag.o.2.2.1.trans (bc.mono ag.o.2.2.1.size);obtain⟨rs,bd⟩:=nm (a1g n md (mnd0 tl) i)
       have bx:Hid (Calls prog 73 #[.agg #[.slice n.bao n.K n.bcap,.slice n.lao n.L n.lcap],.slice lao n.lvs.length lcap,Iv i,.agg #[Uv md.v.root,Iv md.v.cost,Uv md.v.bridge,Iv md.v.port],Iv md.rp,.slice aB os.length ay] W6 λe w'=>∃ao cap,e=.returned (.slice ao rs.length cap)/\Hid (w'.ownsRow W6.heap.size 3 1 (.slice ao rs.length cap) rs.length (a0j rs)/\Bl W6 w')):=by
        obtain⟨_,z3,z4,_⟩:=HQ.o W6 bN;have ho:ORow W6 aB os.length ay (lf os):=CRow.below H2.o.1 bc;rw[bu.o] at ho ⊢;rw[bd.o];exact(rrl_any n lao lcap i md (mnd0 tl) aB ay W6 HR.o z3 z4 ho).mono (λe w' h=>h)
       have aK:Hid (Bl w2 W6/\W6.heap[g]?=some (.cells #[Uv md.v.root,Iv md.v.cost,Uv md.v.bridge,Iv md.v.port,Iv md.age,Iv md.rp,.slice x.po x.ports.length x.pc,sN,sN] 117)):=⟨bc,cw⟩
       have cS:Hid (n.bao=some (Pv bb bA)):=aN;rw[aN] at n0 bx;clear br cw bv bc cy bN ar m8 f8 aN;(go_wp2_with fail);rw[<-bM.o];refine bx.o.mono ?_;rintro e w7 ⟨ad,aa,rfl,H7⟩;clear bx m0 m1 m2 m3 m4 m5 m6 m7 f0 f1 f2 f3 f4 f5 f7 n0 n1 ch cC;have bC:=keep aK.o.2 H7.o.2;obtain⟨⟨m0,m1,m2,m3,m4,m5,m6,m7,m8⟩,_,_,_,_,_,_,f7,_⟩:=a1T bC;obtain⟨W8,aV⟩:=nm (w7.setCell (Pv g 7) (.slice ad rs.length aa))
       have bh:W8.heap[g]?=some (.cells #[Uv md.v.root,Iv md.v.cost,Uv md.v.bridge,Iv md.v.port,Iv md.age,Iv md.rp,.slice x.po x.ports.length x.pc,.slice ad rs.length aa,sN] 117):=(by rw[aV.o];exact a8d bC)
       have bm:g<W6.heap.size:=a1a aK.o.2;have bw:W8.ownsRow W6.heap.size 3 1 (.slice ad rs.length aa) rs.length (a0j rs):=by
        rw[aV.o];exact a0A H7.o.1 (λq hq=>a0J (by have:=(oCb H7.o.1 q hq).1;omega))
       have ct:Bl w2 w7:=aK.o.1.trans (H7.o.2.mono aK.o.1.size);have aY:Bl U w2:=ax.o.1.trans (H2.o.2.mono ax.o.1.size);have cf:Bl U W8:=by
        rw[aV.o];exact(aY.trans (ct.mono aY.size)).setCell ag.o.2.2.2 _
       have aI:g<W8.heap.size:=a1a bh;have bX:Hid (TkC W8 W8 g md (.slice x.po x.ports.length x.pc) (.slice ad rs.length aa) (a1Z rs x.calm 0) none 0 U):=⟨bh,a0y _ _ _ _ _,λ_ _ _=>rfl,cf,b0g _⟩
       have HW:Hid (g<W8.heap.size/\U.heap.size<=g/\W8.heap[g]?=some (.cells #[Uv md.v.root,Iv md.v.cost,Uv md.v.bridge,Iv md.v.port,Iv md.age,Iv md.rp,.slice x.po x.ports.length x.pc,.slice ad rs.length aa,sN] 117)/\W8.ownsRow W6.heap.size 3 1 (.slice ad rs.length aa) rs.length (a0j rs)/\U.heap.size<=W6.heap.size):=⟨aI,ag.o.2.2.2,bh,bw,b0p aY.size aK.o.1.size⟩
       have cW:rs.length<=1200:=(by rw[bd.o];exact(a3Z HR.o md (mnd0 tl) i).2)
       have aq:Hid (x.calm.length=rs.length):=by
        have h1:=(cz.o i hlt2).2.2;have h2:=(a3Z HR.o md (mnd0 tl) i).1;rw[<-bd.o] at h2;rw[af.o];exact h1.trans h2.symm
       have cZ:rs.length<=aa:=by
        obtain⟨c6,cP,e',h1,_⟩:=a0W om bw;injection e' with _ _ e2;have:=h1.1;omega
       clear bC bh bw ct aY cf bm aI;(go_wp2_with fail);rw[<-aV.o];clear m0 m1 m2 m3 m4 m5 m6 m7 m8 f7;go_loopw [99] (λs wr=>∃(j:Nat) (co:OA) (cc:Nat),j<=rs.length/\s=Iv j/\Hid (TkC W8 wr g md (.slice x.po x.ports.length x.pc) (.slice ad rs.length aa) (a1Z rs x.calm j) co cc U)) (λs _=>rs.length-(intOf s).toNat)
       case atStart=>exact⟨0,none,0,om,rfl,bX⟩
       case round =>
        clear bX;obtain⟨j,co,cc,hj,rfl,hC⟩:=hrel;by_cases hlt3:j<rs.length
        ·have bY:Bl Q wr:=HS.o.2.2.2.trans (hC.o.low.mono HS.o.2.2.2.size);obtain⟨_,a8,bf⟩:=HA.o wr bY;rw[<-af.o] at a8 bf;have aw:=(a2Q (hC.o.roles HW.o.2.2.1 HW.o.2.2.2.1)).1;obtain⟨rb,bG,bq,_⟩:=aw.place om;subst bq;have cr:=aw.cell hlt3;obtain⟨cb,cO,b4,_⟩:=bf.calm.place (by rw[aq.o];omega);have aj:=bf.calm;rw[b4] at aj a8;have cv:=aj.cell (i:=j) (by rw[aq.o];exact hlt3);have cY:=aj.1;have j0:(0:Int)<=(j:Int):=om
         have j1:(j:Int)<(rs.length:Int):=om
         have j2:(j:Int)<(x.calm.length:Int):=(by rw[aq.o];exact j1)
         obtain⟨⟨_,_,_,_,_,_,_,_,m8⟩,_⟩:=a1T hC.o.box;have cV:0<=x.calm.getD j 0:=(by rw[af.o];exact bE.o i j hlt2)
         have am:Hid (∀z,z=Tk.calmOf (rs.getD j 0) (x.calm.getD j 0)->∃a c W2,(Builtin.append_ #[52,52] 52 #[.slice co (a1Z rs x.calm j).length cc,.slice (some (Pv wr.heap.size 0)) 1 1]).run prog (wr.alloc (.cells #[Iv z] 3))=.ok (.slice a (j+1) c) W2/\W2.frozen? (Pv g 8)=false/\W2.cell? (Pv g 8)=some (.slice co (a1Z rs x.calm j).length cc)/\Hid (TkC W8 (W2.setCell (Pv g 8) (.slice a (j+1) c)) g md (.slice x.po x.ports.length x.pc) (.slice (some (Pv rb bG)) rs.length aa) (a1Z rs x.calm (j+1)) a c U)):=λz hz=>by
          have hlen:(a1Z rs x.calm j).length<=100000:=(by rw[a1A];omega)
          obtain⟨a,c,W2,r,f8,c8,h⟩:=hC.o.next HW.o.2.1 HW.o.1 hlen z;have e:a1Z rs x.calm j++[z]=a1Z rs x.calm (j+1):=(by rw[hz];rfl)
          have e2:=a1A rs x.calm (j+1);rw[e,e2] at r h;exact⟨a,c,W2,r,f8,c8,h⟩
         have ah:Hid (j+1<=rs.length):=hlt3;clear hC bf aw aj b4 bY;generalize rs.getD j 0=r at *;generalize x.calm.getD j 0=c at *;by_cases r1:r=1\/r=2
         ·by_cases r2:c > 49
          ·obtain⟨a1,c1,W2,ab,f8,c8,HN⟩:=am.o 50 (by unfold Tk.calmOf;rw[iP r1,iN om];rfl);have ae:Hid _:=ab;clear ab am;rcases r1 with q | q
           ·subst q;go_wp2_with (at_builtin;refine a0a rfl (.tmp 123) (.tmp 125) 52 rfl _ _ _ rfl rfl ae.o ?_)
            exact⟨⟨j+1,a1,c1,ah.o,gn,HN⟩,by have:=ah.o;simp[intOf];omega⟩
           ·subst q;go_wp2_with (at_builtin;refine a0a rfl (.tmp 123) (.tmp 125) 52 rfl _ _ _ rfl rfl ae.o ?_)
            exact⟨⟨j+1,a1,c1,ah.o,gn,HN⟩,by have:=ah.o;simp[intOf];omega⟩
          ·obtain⟨a1,c1,W2,ab,f8,c8,HN⟩:=am.o (c+1) (by unfold Tk.calmOf;rw[iP r1];by_cases q:c<49;rw[iP q];rw[iN q];omega);have wc:IntKind.i64.wrap (c+1)=c+1:=(by rw[IntKind.wrap_i64];omega)
           have ae:Hid _:=ab;clear ab am;rcases r1 with q | q
           ·subst q;go_wp2_with (at_builtin;refine a0a rfl (.tmp 123) (.tmp 125) 52 rfl _ _ _ rfl rfl ae.o ?_)
            exact⟨⟨j+1,a1,c1,ah.o,gn,HN⟩,by have:=ah.o;simp[intOf];omega⟩
           ·subst q;go_wp2_with (at_builtin;refine a0a rfl (.tmp 123) (.tmp 125) 52 rfl _ _ _ rfl rfl ae.o ?_)
            exact⟨⟨j+1,a1,c1,ah.o,gn,HN⟩,by have:=ah.o;simp[intOf];omega⟩
         ·obtain⟨a1,c1,W2,ab,f8,c8,HN⟩:=am.o 0 (by unfold Tk.calmOf;rw[iN r1]);have ae:Hid _:=ab;have q1:(r == 1)=false:=(by simp;omega)
          have q2:(r == 2)=false:=(by simp;omega)
          clear ab am;go_wp2_with (at_builtin;refine a0a rfl (.tmp 123) (.tmp 125) 52 rfl _ _ _ rfl rfl ae.o ?_)
          exact⟨⟨j+1,a1,c1,ah.o,gn,HN⟩,by have:=ah.o;simp[intOf];omega⟩
        ·obtain rfl:j=rs.length:=om
         obtain⟨⟨m0,m1,m2,m3,m4,m5,m6,m7,m8⟩,_⟩:=a1T hC.o.box;obtain⟨hM,aQ,aO,an⟩:=HS.o;have b0:=hC.o.roles HW.o.2.2.1 HW.o.2.2.2.1;have bQ:Q.heap.size<=W6.heap.size:=by have h1:=an.size;have h2:=HW.o.2.2.2.2;omega
         have cm:Q.heap.size<=W8.heap.size:=by have h1:=an.size;have h2:=HW.o.1;have h3:=HW.o.2.1;omega
         obtain⟨a1,c1,W9,ab,cA,cq⟩:=more_k Q.heap.size wr (.slice be l'.length aW) l' (Mi.mk md x.po x.pc x.ports ad aa rs co cc (a1Z rs x.calm rs.length)) (hM.below hC.o.low) ⟨a0v b0 bQ,a0v hC.o.own cm⟩ om (by have h1:=hC.o.big;omega);have hx:a5c n (n.ids k) tl i (Mi.mk md x.po x.pc x.ports ad aa rs co cc (a1Z rs x.calm rs.length)):=by
          refine⟨by rw[af.o];exact⟨rfl,rfl,rfl⟩,?_⟩;have h:=a8c HR.o.links (n.ids k) (mnd0 tl) i (by
           have h1:=(cz.o i hlt2).2.2;have h2:(n.pts i).length=(n.ends i).length:=(by unfold Pl.Net.pts;simp)
           exact h1.trans h2)
          rw[<-ce.o,<-bd.o] at h;have h3:(mnd0 tl i).calm=x.calm:=(by rw[af.o];rfl)
          rw[h3] at h;exact h
         have cp:Bl Q W9:=(an.trans (hC.o.low.mono an.size)).trans cq;obtain⟨bZ,b9⟩:=a8f aQ aO hx;have HN:Hid (RkM W9 Q.heap.size (.slice a1 (l'++[(Mi.mk md x.po x.pc x.ports ad aa rs co cc (a1Z rs x.calm rs.length))]).length c1) (l'++[(Mi.mk md x.po x.pc x.ports ad aa rs co cc (a1Z rs x.calm rs.length))])/\(l'++[(Mi.mk md x.po x.pc x.ports ad aa rs co cc (a1Z rs x.calm rs.length))]).length=i+1/\(∀j,j<i+1->a5c n (n.ids k) tl j (mat (l'++[(Mi.mk md x.po x.pc x.ports ad aa rs co cc (a1Z rs x.calm rs.length))]) j))/\Bl Q W9):=⟨cA,bZ,b9,cp⟩
         unfold a4Y miA at ab;have ae:Hid _:=ab;obtain⟨l2,cl⟩:∃l2:List Mi,Hid (l2=l'++[(Mi.mk md x.po x.pc x.ports ad aa rs co cc (a1Z rs x.calm rs.length))]):=⟨_,rfl⟩
         rw[<-cl.o] at HN ae;clear ab cA cq hx cp bZ b9 hM aQ aO an b0 bQ cm hC cl;go_wp2_with (at_builtin;refine a0a rfl (.tmp 129) (.tmp 131) 112 rfl _ _ _ rfl rfl ae.o ?_)
         exact⟨⟨i+1,a1,c1,l2,b7.o,gn,rfl,HN⟩,by have:=b7.o;simp[intOf];omega⟩
      ·obtain rfl:i=n.K:=om
       obtain⟨hM,aQ,aO,an⟩:=hS.o;have hO:=(HQ.o U an).2.2.2.2;have hbase:X.heap.size<=Q.heap.size:=(HQ.o Q (b0h _ _)).2.2.2.2.big;have htl:a5H n (n.ids k) (tat t k).l l':=by
        have h:=cu.o;rw[<-h];exact⟨aQ,aO⟩
       obtain⟨a1,c1,W9,ab,⟨o0,o1⟩,hN⟩:=hO.next (by rw[hO.len];omega) hM hbase htl;have ho0:=a0x hO.o;have HN:Hid (∃ao cap t2,TkO w (W9.setCell (Pv OT 0) (.slice a1 (t'++[Tr.mk be aW l']).length c1)) n BN RT OT t X.heap.size (k+1) ao cap t2):=⟨a1,c1,_,hN⟩
       have ae:Hid _:=ab;clear ab hN hO hS htl hM aQ aO an;generalize (t'++[Tr.mk be aW l']).length=tl2 at *;go_wp2_with (at_builtin;refine a0a rfl (.tmp 135) (.tmp 137) 32 rfl _ _ _ rfl rfl ae.o ?_)
       exact⟨⟨k+1,bS.o,gn,HN⟩,by have:=bS.o;simp[intOf];omega⟩
  ·obtain rfl:k=t.length:=om
   have ho0:=a0x hO.o;have c9:=a0x hO.res;have dj:=b0a _ _ 0 _ _ hO.res;have cQ:OT≠RT:=(by have:=hO.ord;omega)
   have dc:RT≠OT:=cQ.symm;have bD:Hid (Y.heap[RT]?=some (.cells #[sN] 34)):=hO.res;have cI:Hid (t'.length=t.length/\(∀k,k<t.length->a5H n (n.ids k) (tat t k).l (tat t' k).l)/\Bz N (Y.setCell (Pv RT 0) (.slice ai t'.length ac)) (λV=>TrRow V ai ac t')/\Bl w (Y.setCell (Pv RT 0) (.slice ai t'.length ac))):=bo.o Y ai ac t' hO _ (λq hq=>a0J hq) (by simp) (hO.low.setCell (show w.heap.size<=RT by have:=hO.ord;omega) _);clear hS hO;(go_wp2_with fail);exact b0b (v:=.agg #[.slice ai t'.length ac]) (a0b (p:=6) (ty:=34) results47 _ _ RT 34 #[.slice ai t'.length ac] (0,0) _ rfl (a1o bD.o) underlying34 rfl (by rw[a0T];rfl)) rfl ⟨ai,ac,t',rfl,cI.o⟩
