/- BW2 -/
import Derived.Test.YtelebnancdjjiaaGreatDoorE11
set_option maxRecDepth 100000
set_option maxHeartbeats 40000000
namespace Go.Proofs.YtelebnancdjjiaaGreatDoor
section
open Go.Proofs.Tryz
open Go.RowKit
open Bk (E at')
theorem a8W (a b:E):decide (Bk.cmp a b>=0)=decide (¬Bk.lt a b):=by
 have:=Bk.cmp_lt (a:=a) (b:=b);by_cases h:Bk.lt a b
 ·rw[b0j (show ¬(Bk.cmp a b>=0) by have:=this.2 h;omega),b0j (by simp[h])]
 ·rw[b0k (show Bk.cmp a b>=0 by
   rcases Int.lt_or_le (Bk.cmp a b) 0 with q | q
   ·exact absurd (this.1 q) h
   ·exact q),b0k h]
theorem cmp_eql (a b:E):(Bk.cmp a b == 0)=decide (Bk.key a b):=by
 have:=Bk.cmp_zero (a:=a) (b:=b);by_cases h:Bk.key a b
 ·rw[b0k h];simp[this.2 h]
 ·rw[b0j h];simp;exact λq=>h (this.1 q)
theorem a8X (Bq Bs:Nat) (ao:OA) (cap:Nat) (l:List E) (s:E) (i:Nat) (w:World) (hr:BEL w ao cap l) (hi:i<l.length) (hn:l.length<=9223372036854775807) (h1:w.cell? (Pv Bq 0)=some (.slice ao l.length cap)) (hs:w.heap[Bs]?=some (.cells #[Iv s.vid,Uv s.addr,Iv s.port,Iv s.age] 110)) :
  Calls prog 181 #[Iv i,.pointer (some (Pv Bq 0)),.pointer (some (Pv Bs 0))] w λe w'=>e=.returned (.bool (decide (¬Bk.lt (at' l i) s)))/\Bl w w':=by
 rw[<-a8W];obtain⟨b,off,rfl,hb⟩:=hr.place om;have ab:=hr.1;have ae:=b0r h1;have ah:Hid (∀W,Bl w W->BEL W (some (Pv b off)) cap l):=λW hW=>BEL.below hr hW;have aa:Hid (Bl w w):=b0h _ _;have af:Hid (∀W,Bl w W->W.cell? (Pv Bq 0)=some (.slice (some (Pv b off)) l.length cap)):=λW hW=>(hW.cell (by exact ae)).trans h1;have ac:Hid (∀W,Bl w W->W.cell? (Pv b (off+i*4))=some (Iv (at' l i).vid)/\W.cell? (Pv b (off+i*4+1))=some (Uv (at' l i).addr)/\W.cell? (Pv b (off+i*4+2))=some (Iv (at' l i).port)/\W.cell? (Pv b (off+i*4+3))=some (Iv (at' l i).age)):=λW hW=>BEL.cells (ah.o W hW) hi;have ad:Hid (∀W,Bl w W->W.cell? (Pv Bs 0)=some (Iv s.vid)/\W.cell? (Pv Bs 1)=some (Uv s.addr)/\W.cell? (Pv Bs 2)=some (Iv s.port)/\W.cell? (Pv Bs 3)=some (Iv s.age)):=λW hW=>a0F (keep hs hW);have ai:Hid (∀W,Bl w W->Calls prog 128 #[.agg #[Iv (at' l i).vid,Uv (at' l i).addr,Iv (at' l i).port,Iv (at' l i).age],.agg #[Iv s.vid,Uv s.addr,Iv s.port,Iv s.age]] W λe w'=>e=.returned (Iv (Bk.cmp (at' l i) s))/\Hid (Bl w w')):=λW hW=>(a3r (at' l i) s W).mono (λe w' h=>⟨h.1,hW.trans (h.2.mono hW.size)⟩);obtain⟨s0,s1,s2,s3⟩:=ad.o w aa.o;obtain⟨t0,t1,t2,t3⟩:=ac.o w aa.o;have ag:l.length<=cap:=ab;clear hr hs ae;generalize hN:l.length=N at *;clear hN;generalize at' l i=x at *;clear ab ah;go_enter func181,ntmps181;(go_wp2_with fail);go_region_held3 (λW=>W.cell? (Pv Bq 0)=some (.slice (some (Pv b off)) N cap)/\(W.cell? (Pv Bs 0)=some (Iv s.vid)/\W.cell? (Pv Bs 1)=some (Uv s.addr)/\W.cell? (Pv Bs 2)=some (Iv s.port)/\W.cell? (Pv Bs 3)=some (Iv s.age))/\W.cell? (Pv b (off+i*4))=some (Iv x.vid)/\W.cell? (Pv b (off+i*4+1))=some (Uv x.addr)/\W.cell? (Pv b (off+i*4+2))=some (Iv x.port)/\W.cell? (Pv b (off+i*4+3))=some (Iv x.age))
  (first | (exact⟨af.o _ (b0i aa.o),ad.o _ (b0i aa.o),ac.o _ (b0i aa.o)⟩) | (exact⟨af.o _ (Hid.o aS),ad.o _ (Hid.o aS),ac.o _ (Hid.o aS)⟩))
  (first | (go_at_call 128;refine(ai.o _ (b0i aa.o)).mono ?_;rintro e w3 ⟨rfl,aj⟩))
 (go_wp2_with fail);go_ret;exact⟨rfl,aj.o⟩
theorem a6c (Bq Bs:Nat) (ao:OA) (cap:Nat) (l:List E) (s:E) (w:World) (ab:Bk.Book l) (hr:BEL w ao cap l) (h1:w.cell? (Pv Bq 0)=some (.slice ao l.length cap)) (hs:w.heap[Bs]?=some (.cells #[Iv s.vid,Uv s.addr,Iv s.port,Iv s.age] 110)) :
  Calls prog 116 #[Iv l.length,.func (.func 181) #[] #[.pointer (some (Pv Bq 0)),.pointer (some (Pv Bs 0))]] w λe w'=>∃k:Nat,e=.returned (Iv k)/\k<=l.length/\((∀i,i<k->Bk.lt (at' l i) s)/\(∀i,k<=i->i<l.length->¬Bk.lt (at' l i) s))/\Bl w w':=by
 have ad:=b0r h1;have hn:=ab.many;have HC:Hid (∀W:World,Bl w W->∀i:Nat,i<l.length->Calls prog 181 #[Iv i,.pointer (some (Pv Bq 0)),.pointer (some (Pv Bs 0))] W λe w'=>e=.returned (.bool (decide (¬Bk.lt (at' l i) s)))/\Bl W w') :=
  λW hW i hi=>a8X Bq Bs ao cap l s i W (BEL.below hr hW) hi om ((hW.cell (by exact ad)).trans h1) (keep hs hW)
 have HM:Hid (∀i j,i<j->j<l.length->Bk.lt (at' l i) (at' l j)):=λi j h h'=>ab.less h h';clear hr ab h1 hs ad;generalize l.length=n at *;go_enter func116,ntmps116;(go_wp2_with fail);go_loopw [5,6] (λx y wr=>∃lo hi:Nat,lo<=hi/\hi<=n/\x=Iv lo/\y=Iv hi/\Hid ((∀i,i<lo->Bk.lt (at' l i) s)/\(∀i,hi<=i->i<n->¬Bk.lt (at' l i) s))/\Hid (Bl w wr)) (λx y _=>(intOf y-intOf x).toNat)
 case atStart=>exact⟨0,n,om,om,rfl,rfl,⟨λi hi=>by omega,λi h1 h2=>by omega⟩,b0h _ _⟩
 case round =>
  obtain⟨lo,hi,h1,h2,rfl,rfl,hX,hB⟩:=hrel;by_cases hlt:lo<hi
  ·have hc:=HC.o _ hB.o ((lo+hi)/2) om;rw[show(((lo+hi)/2:Nat):Int)=((lo:Int)+(hi:Int))/2 by omega] at hc;by_cases hp:¬Bk.lt (at' l ((lo+hi)/2)) s
   ·have d1:decide (¬Bk.lt (at' l ((lo+hi)/2)) s)=true:=b0k hp;rw[d1] at hc;have HX:Hid ((∀i,i<lo->Bk.lt (at' l i) s)/\(∀i,(lo+hi)/2<=i->i<n->¬Bk.lt (at' l i) s)):=by
     refine⟨hX.o.1,λi h3 h4 => ?_⟩;by_cases e:i=(lo+hi)/2
     ·subst e;exact hp
     ·have:=HM.o ((lo+hi)/2) i om h4;exact λq=>hp (Bk.lt_trans this q)
    clear hX hp d1 HC HM;go_wp2_with (go_at_call 181;refine hc.mono ?_;rintro e w2 ⟨rfl,aa⟩)
    exact⟨⟨lo,(lo+hi)/2,om,om,rfl,by rw[show(((lo+hi)/2:Nat):Int)=((lo:Int)+(hi:Int))/2 by omega],HX,hB.o.trans (aa.mono hB.o.size)⟩,io⟩
   ·have d1:decide (¬Bk.lt (at' l ((lo+hi)/2)) s)=false:=b0j hp;rw[d1] at hc;have HX:Hid ((∀i,i<(lo+hi)/2+1->Bk.lt (at' l i) s)/\(∀i,hi<=i->i<n->¬Bk.lt (at' l i) s)):=by
     have ac:Bk.lt (at' l ((lo+hi)/2)) s:=Decidable.not_not.1 hp;refine⟨λi h3 => ?_,hX.o.2⟩;by_cases e:i=(lo+hi)/2
     ·subst e;exact ac
     ·have:=HM.o i ((lo+hi)/2) om om;exact Bk.lt_trans this ac
    clear hX hp d1 HC HM;go_wp2_with (go_at_call 181;refine hc.mono ?_;rintro e w2 ⟨rfl,aa⟩)
    exact⟨⟨(lo+hi)/2+1,hi,om,om,by rw[show(((lo+hi)/2+1:Nat):Int)=((lo:Int)+(hi:Int))/2+1 by omega],rfl,HX,hB.o.trans (aa.mono hB.o.size)⟩,io⟩
  ·obtain rfl:lo=hi:=om
   go_wp2
   go_ret;exact⟨lo,rfl,h2,hX.o,hB.o⟩
abbrev a0L (vid addr:Int):E:=⟨vid,addr,0,0⟩
theorem a5s (ao:OA) (cap:Nat) (l:List E) (vid aa:Int) (w:World) (ai:Bk.Book l) (hr:BEL w ao cap l) :
  Calls prog 131 #[.slice ao l.length cap,Iv vid,Uv aa] w λe w'=>∃k:Nat,e=.returned (.tuple #[Iv k,.bool (decide (Bk.Known l (a0L vid aa)))])/\Bk.Spot l (a0L vid aa) k/\Bl w w':=by
 have hn:=ai.many;have an:l.length<=cap:=hr.1;have ad:Hid (Bk.Book l):=ai;have ah:Hid (∀W,Bl w W->BEL W ao cap l):=λW hW=>BEL.below hr hW;have HS:Hid (∀W,W=(w.alloc (.cells #[.slice ao l.length cap] 67)).alloc (.cells #[Iv vid,Uv aa,Iv 0,Iv 0] 110)->Calls prog 116 #[Iv l.length,.func (.func 181) #[] #[.pointer (some (Pv w.heap.size 0)),.pointer (some (Pv (w.heap.size+1) 0))]] W λe w'=>∃k:Nat,e=.returned (Iv k)/\k<=l.length/\Hid ((∀i,i<k->Bk.lt (at' l i) (a0L vid aa))/\(∀i,k<=i->i<l.length->¬Bk.lt (at' l i) (a0L vid aa)))/\w'.heap[w.heap.size]?=some (.cells #[.slice ao l.length cap] 67)/\w'.heap[w.heap.size+1]?=some (.cells #[Iv vid,Uv aa,Iv 0,Iv 0] 110)/\Hid (Bl w w')):=by
  intro W hW;have hb:Bl w W:=(by rw[hW];exact bA2 _ _ _)
  have h0:W.heap[w.heap.size]?=some (.cells #[.slice ao l.length cap] 67):=(by rw[hW];exact b0d w _ _)
  have h1:W.heap[w.heap.size+1]?=some (.cells #[Iv vid,Uv aa,Iv 0,Iv 0] 110):=(by rw[hW];exact b0c w _ _)
  refine(a6c _ _ ao cap l (a0L vid aa) W ad.o (ah.o W hb) (a9Y W _ 0 _ _ _ h0) h1).mono ?_;rintro e w' ⟨k,rfl,hk,hx,ag⟩;exact⟨k,rfl,hk,hx,keep h0 ag,keep h1 ag,hb.trans (ag.mono hb.size)⟩
 clear hr ai;go_enter func131,ntmps131;go_wp2_with (go_at_call 116;refine(HS.o _ rfl).mono ?_;rintro e w1 ⟨k,rfl,hk,HX,q1,q2,af⟩)
 have ae:Hid (Bk.Spot l (a0L vid aa) k):=⟨hk,HX.o⟩
 have ab:Hid (Bl w1 w1):=b0h _ _;have ac:Hid (∀W,Bl w1 W->Bl w W):=λW hW=>af.o.trans (hW.mono af.o.size);have aj:Hid (∀W,Bl w1 W->W.cell? (Pv w.heap.size 0)=some (.slice ao l.length cap)):=λW hW=>a9Y W _ 0 _ _ _ (keep q1 hW);have am:Hid (∀W,Bl w1 W->W.cell? (Pv (w.heap.size+1) 0)=some (Iv vid)/\W.cell? (Pv (w.heap.size+1) 1)=some (Uv aa)/\W.cell? (Pv (w.heap.size+1) 2)=some (Iv 0)/\W.cell? (Pv (w.heap.size+1) 3)=some (Iv 0)):=λW hW=>a0F (keep q2 hW);have l0:=aj.o w1 ab.o;obtain⟨s0,s1,s2,s3⟩:=am.o w1 ab.o;clear HS HX q1 q2;by_cases hlt:k<l.length
 ·obtain⟨b,off,rfl,hb⟩:=(ah.o w1 af.o).place om;have ak:Hid (∀W,Bl w1 W->W.cell? (Pv b (off+k*4))=some (Iv (at' l k).vid)/\W.cell? (Pv b (off+k*4+1))=some (Uv (at' l k).addr)/\W.cell? (Pv b (off+k*4+2))=some (Iv (at' l k).port)/\W.cell? (Pv b (off+k*4+3))=some (Iv (at' l k).age)):=λW hW=>BEL.cells (ah.o W (ac.o W hW)) hlt;have ar:Hid (∀W,Bl w1 W->Calls prog 128 #[.agg #[Iv (at' l k).vid,Uv (at' l k).addr,Iv (at' l k).port,Iv (at' l k).age],.agg #[Iv vid,Uv aa,Iv 0,Iv 0]] W λe w'=>e=.returned (Iv (Bk.cmp (at' l k) (a0L vid aa)))/\Hid (Bl w1 w')):=λW hW=>(a3r (at' l k) (a0L vid aa) W).mono (λe w' h=>⟨h.1,hW.trans (h.2.mono hW.size)⟩);have al:Hid ((Bk.cmp (at' l k) (a0L vid aa) == 0)=decide (Bk.Known l (a0L vid aa))):=by
   have h:=ae.o.known ad.o;show(Bk.cmp (at' l k) (a0L vid aa) == 0)=decide (Bk.Known l (a0L vid aa));rw[cmp_eql];exact decide_eq_decide.2 ⟨λq=>h.2 ⟨hlt,q⟩,λq=>(h.1 q).2⟩
  obtain⟨t0,t1,t2,t3⟩:=ak.o w1 ab.o;clear ad;generalize Bk.cmp (at' l k) (a0L vid aa)=cm at *;generalize at' l k=x at *;have ap:(k:Int)<(l.length:Int):=om
  go_region_held3 (λW=>W.cell? (Pv w.heap.size 0)=some (.slice (some (Pv b off)) l.length cap)/\(W.cell? (Pv (w.heap.size+1) 0)=some (Iv vid)/\W.cell? (Pv (w.heap.size+1) 1)=some (Uv aa)/\W.cell? (Pv (w.heap.size+1) 2)=some (Iv 0)/\W.cell? (Pv (w.heap.size+1) 3)=some (Iv 0))/\W.cell? (Pv b (off+k*4))=some (Iv x.vid)/\W.cell? (Pv b (off+k*4+1))=some (Uv x.addr)/\W.cell? (Pv b (off+k*4+2))=some (Iv x.port)/\W.cell? (Pv b (off+k*4+3))=some (Iv x.age))
   (first | (exact⟨aj.o _ (b0i ab.o),am.o _ (b0i ab.o),ak.o _ (b0i ab.o)⟩) | (exact⟨aj.o _ (Hid.o aS),am.o _ (Hid.o aS),ak.o _ (Hid.o aS)⟩))
   (first | (go_at_call 128;refine(ar.o _ (b0i ab.o)).mono ?_;rintro e w3 ⟨rfl,aq⟩))
  (go_wp2_with fail);go_ret2;exact⟨k,by rw[<-al.o];rfl,ae.o,ac.o _ aq.o⟩
 ·have al:Hid (decide (Bk.Known l (a0L vid aa))=false):=by
   have h:=ae.o.known ad.o;exact b0j (λq=>hlt (h.1 q).1)
  have ap:¬((k:Int)<(l.length:Int)):=om
  (go_quiet (fail));(go_wp2_with fail);go_ret2;exact⟨k,by rw[al.o];rfl,ae.o,ac.o _ (a0d ab.o _)⟩
theorem a0O:(prog.info? 37).map (·.size)=some 2:=by kernel_rfl
theorem a0R {w:World}{g:Nat}{a0 a1 v0 v1:Value}{ty:TypeId}(h:w.heap[g]?=some (.cells #[a0,a1] ty (0,0))):((w.setCell (Pv g 0) v0).setCell (Pv g 1) v1).heap[g]?=some (.cells #[v0,v1] ty (0,0)):=by
 have h0:(w.setCell (Pv g 0) v0).heap[g]?=some (.cells #[v0,a1] ty (0,0)):=(by rw[b0e _ _ _ _ _ _ h];rfl)
 rw[b0e _ _ _ _ _ _ h0];rfl
theorem a0M {w:World}{g:Nat}{a0 a1:Value}{ty:TypeId}(h:w.heap[g]?=some (.cells #[a0,a1] ty (0,0))):w.cell? (Pv g 0)=some a0/\w.cell? (Pv g 1)=some a1/\w.frozen? (Pv g 0)=false/\w.frozen? (Pv g 1)=false :=
 ⟨a9Y w g 0 _ _ _ h,a9Y w g 1 _ _ _ h,b0a _ _ _ _ _ h,b0a _ _ _ _ _ h⟩
abbrev faV (p:Int×Int):Value:=.agg #[Iv p.1,Iv p.2]
theorem a7E (ao:OA) (cap:Nat) (l:List E) (w:World) (hn:l.length<=9223372036854775807) (hr:BEL w ao cap l) :
  Calls prog 84 #[.slice ao l.length cap] w λe w'=>e=.returned (faV (Bk.wrong (at' l) l.length))/\Bl w w':=by
 have ab:Hid (∀W,Bl w W->BEL W ao cap l):=λW hW=>BEL.below hr hW;have aB:l.length<=cap:=hr.1;clear hr;obtain⟨G,HG⟩:=nm w.heap.size
 have HI:Hid (∀W,W=w.alloc (.cells #[Iv 0,Iv 0] 37)->Bl w W/\W.heap[G]?=some (.cells #[Iv 0,Iv 0] 37)):=by
  intro W hW;rw[hW,HG.o];exact⟨bA1 _ _,a9Z _ _⟩
 have af:w.heap.size<=G:=(by rw[HG.o];exact b0g _)
 have HZ:Hid (30<l.length->Bk.wrong (at' l) l.length=(5,0)):=λh=>iP h;have HN:Hid (¬30<l.length->Bk.wrong (at' l) l.length=Bk.firstTo (Bk.errAt (at' l)) l.length):=λh=>iN h;obtain⟨N,hN⟩:=nn l.length
 by_cases h30:30<l.length
 ·have aC:Hid _:=HZ.o h30;have aq:(30:Int)<(l.length:Int):=om
  clear HI HZ HN;go_enter func84,ntmps84;(go_wp2_with fail);exact b0b (v:=.agg #[Iv 5,Iv 0]) (a0b (p:=2) (ty:=37) results84 _ _ w.heap.size 37 #[Iv 5,Iv 0] (0,0) _ rfl (a9Z _ _) underlying37 rfl (by rw[a0O];rfl)) rfl ⟨by rw[aC.o],bA1 _ _⟩
 ·have ak:Hid _:=HN.o h30;have aq:¬(30:Int)<(l.length:Int):=om
  clear HZ HN;go_enter func84,ntmps84;(go_wp2_with fail);rw[<-HG.o];go_loopw [11] (λi wr=>∃k:Nat,k<=l.length/\i=Iv k/\Hid (∀j,j<k->Bk.errAt (at' l) j=0)/\Hid (Bl w wr/\wr.heap[G]?=some (.cells #[Iv 0,Iv 0] 37))) (λi _=>l.length-(intOf i).toNat)
  case atStart=>exact⟨0,om,rfl,(λj hj=>absurd hj om),HI.o _ rfl⟩
  case round =>
   obtain⟨k,hk,rfl,hS,hX⟩:=hrel;clear HI;by_cases hlt:k<l.length
   ·obtain⟨b,off,rfl,_⟩:=(ab.o wr hX.o.1).place om;obtain⟨c0,c1,c2,c3⟩:=(ab.o wr hX.o.1).cells hlt;obtain⟨X,HX⟩:=nm (wr.alloc (.cells #[Iv (at' l k).vid,Uv (at' l k).addr,Iv (at' l k).port,Iv (at' l k).age] 110))
    have ap:Hid (Bl wr X):=(by rw[HX.o];exact bA1 _ _)
    have an:Hid (X.heap[wr.heap.size]?=some (.cells #[Iv (at' l k).vid,Uv (at' l k).addr,Iv (at' l k).port,Iv (at' l k).age] 110)):=(by rw[HX.o];exact a9Z _ _)
    have ad:Hid (Calls prog 127 #[.agg #[Iv (at' l k).vid,Uv (at' l k).addr,Iv (at' l k).port,Iv (at' l k).age]] X λe w'=>e=.returned (.bool (decide (Bk.rng (at' l k))))/\Hid (Bl w w'/\w'.heap[G]?=some (.cells #[Iv 0,Iv 0] 37)/\w'.heap[wr.heap.size]?=some (.cells #[Iv (at' l k).vid,Uv (at' l k).addr,Iv (at' l k).port,Iv (at' l k).age] 110))):=by
     refine(a6N (at' l k) X).mono ?_;rintro e w' ⟨rfl,hb⟩;have y1:Bl w X:=hX.o.1.trans (ap.o.mono hX.o.1.size);exact⟨rfl,y1.trans (hb.mono y1.size),keep (keep hX.o.2 ap.o) hb,keep an.o hb⟩
    have ah:Hid (∀e,e≠0->Bk.errAt (at' l) k=e->Bk.firstTo (Bk.errAt (at' l)) l.length=(e,(k:Int))):=λe he h=>by
     subst h;exact Bk.firstTo_stay _ k (by rw[Bk.firstTo_none _ _ hS.o]) he _ hlt
    have ae:Hid (Bk.errAt (at' l) k=0->∀j,j<k+1->Bk.errAt (at' l) j=0):=λh j hj=>by
     by_cases e:j=k
     ·subst e;exact h
     ·exact hS.o j om
    obtain⟨d0,d1,d2,d3⟩:=a0F an.o;clear hX hS an ap;by_cases hg:Bk.rng (at' l k)
    ·have ag:decide (Bk.rng (at' l k))=true:=b0k hg;rw[ag] at ad;by_cases hk0:k=0
     ·have aD:decide (0<k)=false:=b0j om;have av:Hid _:=ae.o (Bk.errAt_zero.2 ⟨hg,λh=>absurd h om⟩);clear ae ah ab ak hg ag hk0;generalize at' l k=x at *;(go_wp2_with fail);rw[<-HX.o];refine ad.o.mono ?_;rintro e w1 ⟨rfl,hY⟩;clear d0 d1 d2 d3 c0 c1 c2 c3;(go_wp2_with fail);(go_quiet (fail));(go_wp2_with fail);exact⟨⟨k+1,om,gn,av,⟨a0d hY.o.1 _,hY.o.2.1⟩⟩,io⟩
     ·obtain⟨p,hp⟩:=nn (k-1)
      have wp:IntKind.i64.wrap ((k:Int)-1)=(p:Int):=(by rw[a0t _ om om];omega)
      have k0:decide (0<k)=true:=b0k om;have ip:(0:Int)<=(p:Int):=om
      have np:(p:Int)<(l.length:Int):=om
      have az:p<l.length:=om
      have aw:Hid (¬Bk.lt (at' l p) (at' l k)->Bk.errAt (at' l) k=2):=λh=>by
       show(if ¬Bk.rng (at' l k) then(3:Int) else if 0<k/\¬Bk.lt (at' l (k-1)) (at' l k) then 2 else 0)=2;rw[iN (by simp[hg]),iP ⟨om,by rw[<-hp];exact h⟩]
      have au:Hid (Bk.lt (at' l p) (at' l k)->Bk.errAt (at' l) k=0):=λh=>Bk.errAt_zero.2 ⟨hg,λ_=>by rw[<-hp];exact h⟩;have ay:Hid (∀W,Bl w W->W.cell? (Pv b (off+p*4))=some (Iv (at' l p).vid)/\W.cell? (Pv b (off+p*4+1))=some (Uv (at' l p).addr)/\W.cell? (Pv b (off+p*4+2))=some (Iv (at' l p).port)/\W.cell? (Pv b (off+p*4+3))=some (Iv (at' l p).age)):=λW hW=>(ab.o W hW).cells az;have am:Hid (∀W W1,Bl W1 W->Calls prog 128 #[.agg #[Iv (at' l p).vid,Uv (at' l p).addr,Iv (at' l p).port,Iv (at' l p).age],.agg #[Iv (at' l k).vid,Uv (at' l k).addr,Iv (at' l k).port,Iv (at' l k).age]] W λe w'=>e=.returned (Iv (Bk.cmp (at' l p) (at' l k)))/\Hid (Bl W1 w')):=λW W1 hW=>(a3r (at' l p) (at' l k) W).mono (λe w' h=>⟨h.1,hW.trans (h.2.mono hW.size)⟩);have ax:=a8W (at' l p) (at' l k);have HQ:Hid (decide (Bk.cmp (at' l p) (at' l k)>=0)=decide (¬Bk.lt (at' l p) (at' l k))):=ax;clear ax hp;(go_wp2_with fail);rw[<-HX.o];refine ad.o.mono ?_;rintro e w1 ⟨rfl,hY⟩;clear d0 d1 d2 d3 c0 c1 c2 c3 ab hg ag;have al:Hid (Bl w1 w1):=b0h _ _;have aa:Hid (∀W,Bl w1 W->Bl w W/\W.heap[G]?=some (.cells #[Iv 0,Iv 0] 37)):=λW hW=>⟨hY.o.1.trans (hW.mono hY.o.1.size),keep hY.o.2.1 hW⟩
      have ac:Hid (∀W,Bl w1 W->(W.cell? (Pv b (off+p*4))=some (Iv (at' l p).vid)/\W.cell? (Pv b (off+p*4+1))=some (Uv (at' l p).addr)/\W.cell? (Pv b (off+p*4+2))=some (Iv (at' l p).port)/\W.cell? (Pv b (off+p*4+3))=some (Iv (at' l p).age))/\W.cell? (Pv wr.heap.size 0)=some (Iv (at' l k).vid)/\W.cell? (Pv wr.heap.size 1)=some (Uv (at' l k).addr)/\W.cell? (Pv wr.heap.size 2)=some (Iv (at' l k).port)/\W.cell? (Pv wr.heap.size 3)=some (Iv (at' l k).age)):=λW hW=>⟨ay.o W (aa.o W hW).1,a0F (keep hY.o.2.2 hW)⟩
      obtain⟨⟨t0,t1,t2,t3⟩,u0,u1,u2,u3⟩:=ac.o w1 al.o;clear ad hY ay;by_cases hl:Bk.lt (at' l p) (at' l k)
      ·have av:Hid _:=ae.o (au.o hl);have hq:=HQ.o;rw[b0j (show ¬¬Bk.lt (at' l p) (at' l k) by simp[hl])] at hq;clear ae ah au aw HQ hl ak;generalize Bk.cmp (at' l p) (at' l k)=cm at *;generalize at' l p=y at *;generalize at' l k=x at *;(go_wp2_with fail);go_region_held3 (λW=>(W.cell? (Pv b (off+p*4))=some (Iv y.vid)/\W.cell? (Pv b (off+p*4+1))=some (Uv y.addr)/\W.cell? (Pv b (off+p*4+2))=some (Iv y.port)/\W.cell? (Pv b (off+p*4+3))=some (Iv y.age))/\W.cell? (Pv wr.heap.size 0)=some (Iv x.vid)/\W.cell? (Pv wr.heap.size 1)=some (Uv x.addr)/\W.cell? (Pv wr.heap.size 2)=some (Iv x.port)/\W.cell? (Pv wr.heap.size 3)=some (Iv x.age))
        (first | (exact ac.o _ (b0i al.o)) | (exact ac.o _ (Hid.o aS)))
        (first | (go_at_call 128;refine(am.o _ _ (b0i al.o)).mono ?_;rintro e w3 ⟨rfl,ar⟩))
       clear t0 t1 t2 t3 u0 u1 u2 u3;have aj:Hid _:=aa.o w3 ar.o;clear aa ac am;(go_wp2_with fail);exact⟨⟨k+1,om,gn,av,aj.o⟩,io⟩
      ·have ai:Hid _:=ah.o 2 om (aw.o hl);have hq:=HQ.o;rw[b0k hl] at hq;clear ae ah au aw HQ hl;generalize Bk.cmp (at' l p) (at' l k)=cm at *;generalize at' l p=y at *;generalize at' l k=x at *;(go_wp2_with fail);go_region_held3 (λW=>(W.cell? (Pv b (off+p*4))=some (Iv y.vid)/\W.cell? (Pv b (off+p*4+1))=some (Uv y.addr)/\W.cell? (Pv b (off+p*4+2))=some (Iv y.port)/\W.cell? (Pv b (off+p*4+3))=some (Iv y.age))/\W.cell? (Pv wr.heap.size 0)=some (Iv x.vid)/\W.cell? (Pv wr.heap.size 1)=some (Uv x.addr)/\W.cell? (Pv wr.heap.size 2)=some (Iv x.port)/\W.cell? (Pv wr.heap.size 3)=some (Iv x.age))
        (first | (exact ac.o _ (b0i al.o)) | (exact ac.o _ (Hid.o aS)))
        (first | (go_at_call 128;refine(am.o _ _ (b0i al.o)).mono ?_;rintro e w3 ⟨rfl,ar⟩))
       clear t0 t1 t2 t3 u0 u1 u2 u3;have aj:Hid _:=aa.o w3 ar.o;obtain⟨f0,f1,f2,f3⟩:=a0M aj.o.2;clear aa ac am;(go_wp2_with fail);exact b0b (v:=.agg #[Iv 2,Iv k]) (a0b (p:=2) (ty:=37) results84 _ _ G 37 #[Iv 2,Iv k] (0,0) _ rfl (a0R aj.o.2) underlying37 rfl (by rw[a0O];rfl)) rfl ⟨by rw[ak.o,ai.o],(aj.o.1.setCell af _).setCell af _⟩
    ·have ag:decide (Bk.rng (at' l k))=false:=b0j hg;rw[ag] at ad;have ai:Hid _:=ah.o 3 om (iP hg);clear ae ah ab hg ag;generalize at' l k=x at *;(go_wp2_with fail);rw[<-HX.o];refine ad.o.mono ?_;rintro e w1 ⟨rfl,hY⟩;obtain⟨f0,f1,f2,f3⟩:=a0M hY.o.2.1;clear d0 d1 d2 d3 c0 c1 c2 c3;(go_wp2_with fail);exact b0b (v:=.agg #[Iv 3,Iv k]) (a0b (p:=2) (ty:=37) results84 _ _ G 37 #[Iv 3,Iv k] (0,0) _ rfl (a0R hY.o.2.1) underlying37 rfl (by rw[a0O];rfl)) rfl ⟨by rw[ak.o,ai.o],(hY.o.1.setCell af _).setCell af _⟩
   ·obtain rfl:k=l.length:=om
    have ai:Hid (Bk.firstTo (Bk.errAt (at' l)) l.length=(0,0)):=Bk.firstTo_none _ _ hS.o;obtain⟨f0,f1,f2,f3⟩:=a0M hX.o.2;clear ab;(go_wp2_with fail);exact b0b (v:=.agg #[Iv 0,Iv 0]) (a0b (p:=2) (ty:=37) results84 _ _ G 37 #[Iv 0,Iv 0] (0,0) _ rfl (a0R hX.o.2) underlying37 rfl (by rw[a0O];rfl)) rfl ⟨by rw[ak.o,ai.o],(hX.o.1.setCell af _).setCell af _⟩
def Bk.lookP (l:List E) (s:E):Int:=match Bk.look l s with | some e=>e.port | none=>0
theorem Bk.lookP_some {l:List E}{s:E}(hb:Bk.Book l) {e:E}(he:e∈l) (hk:Bk.key e s):Bk.lookP l s=e.port:=by
 unfold Bk.lookP;rw[Bk.look_some hb he hk]
theorem Bk.lookP_none {l:List E}{s:E}(h:¬Bk.Known l s):Bk.lookP l s=0:=by
 unfold Bk.lookP;rw[Bk.look_none h]
theorem a8Y (ao:OA) (cap:Nat) (l:List E) (vid aa:Int) (w:World) (ab:Bk.Book l) (hr:BEL w ao cap l) :
  Calls prog 91 #[.slice ao l.length cap,Iv vid,Uv aa] w λe w'=>e=.returned (.tuple #[Iv (Bk.lookP l (a0L vid aa)),.bool (decide (Bk.Known l (a0L vid aa)))])/\Bl w w':=by
 have hn:=ab.many;have ae:l.length<=cap:=hr.1;have ac:Hid (∀W,Bl w W->BEL W ao cap l):=λW hW=>BEL.below hr hW;have HF:Hid (Calls prog 131 #[.slice ao l.length cap,Iv vid,Uv aa] w λe w'=>∃(k:Nat) (kn:Bool),e=.returned (.tuple #[Iv k,.bool kn])/\Hid (decide (Bk.Known l (a0L vid aa))=kn)/\(kn=true->k<l.length/\Bk.lookP l (a0L vid aa)=(at' l k).port)/\Hid (Bl w w')):=by
  refine(a5s ao cap l vid aa w ab hr).mono ?_;rintro e w' ⟨k,rfl,hs,hb⟩;refine⟨k,_,rfl,rfl,λh => ?_,hb⟩;have h2:=(hs.known ab).1 (b0o h);exact⟨h2.1,Bk.lookP_some ab (Bk.at_mem l k h2.1) h2.2⟩
 have ad:Hid (¬Bk.Known l (a0L vid aa)->Bk.lookP l (a0L vid aa)=0):=λh=>Bk.lookP_none h;clear ab hr;go_enter func91,ntmps91;(go_wp2_with fail);refine HF.o.mono ?_;rintro e w1 ⟨k,kn,rfl,HD,hK,HB⟩;clear HF;cases kn with
 | false =>
  have HP:Hid _:=ad.o (of_decide_eq_false HD.o);clear hK ad ac;(go_wp2_with fail);go_ret2;exact⟨by rw[HD.o,HP.o];rfl,HB.o⟩
 | true =>
  obtain⟨af,hp⟩:=hK rfl;have HP:Hid _:=hp;obtain⟨b,off,rfl,hb⟩:=(ac.o w1 HB.o).place om;obtain⟨c0,c1,c2,c3⟩:=(ac.o w1 HB.o).cells af;have ik:(0:Int)<=(k:Int):=om
  have nk:(k:Int)<(l.length:Int):=om
  clear hK ad ac hp;generalize at' l k=x at *;(go_wp2_with fail);go_ret2;exact⟨by rw[HD.o,HP.o];rfl,HB.o⟩
end
section
open Go.Proofs.Tryz
namespace Rl
open Bk (E at')
structure G where
 port:Int
 plain:Int
 ways:List Int
 opens:List Bool
 wo:OA
 wcap:Nat
 oo:OA
 ocap:Nat
def g0:G:=⟨0,0,[],[],none,0,none,0⟩
instance:Inhabited G:=⟨g0⟩
def gat (l:List G) (i:Nat):G:=l.getD i g0
theorem gat_get (l:List G) (i:Nat) (h:i<l.length):gat l i=l[i]:=by simp[gat,h]
theorem gat_mem (l:List G) (i:Nat) (h:i<l.length):gat l i∈l:=by rw[gat_get l i h];exact List.getElem_mem h
theorem mem_gat {l:List G}{g:G}(h:g∈l):∃i,i<l.length/\gat l i=g:=by
 obtain⟨i,hi,rfl⟩:=List.getElem_of_mem h;exact⟨i,hi,gat_get l i hi⟩
theorem take_succ (l:List G) (k:Nat) (h:k<l.length):l.take (k+1)=l.take k++[gat l k]:=by
 rw[gat_get l k h,List.take_succ_eq_append_getElem h]
def gateErr (g:G):Int:=if (0<=g.port/\g.port<=30)/\0<=g.plain/\g.plain<=4094 then(if (16:Int)<g.opens.length then 5 else 0) else 3
def wv (l:List Int) (i:Nat):Int:=l.getD i 0
def waysErr (l:List Int):Int:=Rg.wrongTo (wv l) (λ_=>1) l.length
def rise (a n:Int):Int:=if n<=a then 2 else 0
def aheadP (l:List G) (i:Nat):Int:=if i=0 then -1 else(gat l (i-1)).port
def or3 (a b c:Int):Int:=if a=0 then(if b=0 then c else b) else a
def gErr (l:List G) (i:Nat):Int:=or3 (gateErr (gat l i)) (waysErr (gat l i).ways) (rise (aheadP l i) (gat l i).port)
def wrong (l:List G):Int×Int:=Bk.firstTo (gErr l) l.length
theorem or3_zero {a b c:Int}(h:or3 a b c=0):a=0/\b=0/\c=0:=by
 unfold or3 at h;by_cases h1:a=0
 ·rw[iP h1] at h;by_cases h2:b=0
  ·rw[iP h2] at h;exact⟨h1,h2,h⟩
  ·rw[iN h2] at h;exact absurd h h2
 ·rw[iN h1] at h;exact absurd h h1
structure Right (l:List G):Prop where
 port:∀i,i<l.length->0<=(gat l i).port/\(gat l i).port<=30
 plain:∀i,i<l.length->0<=(gat l i).plain/\(gat l i).plain<=4094
 opens:∀i,i<l.length->(gat l i).opens.length<=16
 ways:∀i,i<l.length->Rg.Right (wv (gat l i).ways) (λ_=>1) (gat l i).ways.length
 less:∀i j,i<j->j<l.length->(gat l i).port<(gat l j).port
theorem right_of {l:List G}(h:(wrong l).1=0):Right l:=by
 have hz:=(Bk.firstTo_zero _ _ h).2;have h1:∀i,i<l.length->gateErr (gat l i)=0/\waysErr (gat l i).ways=0/\rise (aheadP l i) (gat l i).port=0:=λi hi=>or3_zero (hz i hi);have hg:∀i,i<l.length->((0<=(gat l i).port/\(gat l i).port<=30)/\0<=(gat l i).plain/\(gat l i).plain<=4094)/\(gat l i).opens.length<=16:=λi hi=>by
  have:=(h1 i hi).1;unfold gateErr at this;by_cases c:(0<=(gat l i).port/\(gat l i).port<=30)/\0<=(gat l i).plain/\(gat l i).plain<=4094
  ·rw[iP c] at this;by_cases d:(16:Int)<(gat l i).opens.length
   ·rw[iP d] at this;cases this
   ·exact⟨c,om⟩
  ·rw[iN c] at this;cases this
 refine⟨λi hi=>(hg i hi).1.1,λi hi=>(hg i hi).1.2,λi hi=>(hg i hi).2,λi hi=>Rg.right_of (h1 i hi).2.1,?_⟩;have hs:∀i,i+1<l.length->(gat l i).port<(gat l (i+1)).port:=λi hi=>by
  have:=(h1 (i+1) hi).2.2;have ea:aheadP l (i+1)=(gat l i).port:=(by unfold aheadP;rw[iN om];rfl)
  rw[ea] at this;unfold rise at this;by_cases c:(gat l (i+1)).port<=(gat l i).port
  ·rw[iP c] at this;cases this
  ·omega
 intro i j aa;induction j with
 | zero=>omega
 | succ j ih =>
  intro hj;by_cases e:i=j
  ·subst e;exact hs i hj
  ·have:=ih om om;have:=hs j hj;omega
theorem Right.low {l:List G}(h:Right l):∀i,i<l.length->(i:Int)<=(gat l i).port
 | 0,hi=>(h.port 0 hi).1
 | i+1,hi=>by have:=Right.low h i om;have:=h.less i (i+1) om hi;omega
theorem Right.many {l:List G}(h:Right l):l.length<=31:=by
 rcases Nat.eq_zero_or_pos l.length with e | e
 ·omega
 ·have h1:=h.low (l.length-1) om;have h2:=(h.port (l.length-1) om).2;omega
theorem Right.one {l:List G}(h:Right l) {i j:Nat}(hi:i<l.length) (hj:j<l.length) (e:(gat l i).port=(gat l j).port):i=j:=by
 rcases Nat.lt_trichotomy i j with c | c | c
 ·have:=h.less i j c hj;omega
 ·exact c
 ·have:=h.less j i c hi;omega
def passes (g:G) (tree way:Int):Bool:=g.ways.contains way&&(decide (0<=tree/\tree<=(g.opens.length:Int)-1)&&g.opens.getD tree.toNat false)
structure F where
 dst:Int
 src:Int
 tagged:Bool
 prio:Int
 drop:Bool
 vid:Int
 type:Int
 ao:OA
 n:Nat
 cap:Nat
 bs:Nat->Int
def wayOf (f:F) (g:G):Int:=if f.tagged=true/\f.vid≠0 then f.vid else g.plain
def res (d:Int):Bool:=decide (1652522221568<=d/\d<=1652522221583)
def idx (l:List G) (p:Int):Nat->Int
 | 0 => -1
 | k+1=>if 0<=idx l p k then idx l p k else if (gat l k).port=p then(k:Int) else -1
theorem idx_stay (l:List G) (p:Int) (k:Nat) (h:0<=idx l p k):∀m,k<=m->idx l p m=idx l p k:=by
 intro m hm;induction m with
 | zero =>
  obtain rfl:k=0:=om
  rfl
 | succ m ih =>
  by_cases e:k=m+1
  ·subst e;rfl
  ·have:=ih om;show(if 0<=idx l p m then idx l p m else _)=_;rw[iP om,this]
theorem idx_cases (l:List G) (p:Int):∀k,(idx l p k = -1/\∀i,i<k->(gat l i).port≠p)\/∃i,i<k/\idx l p k=(i:Int)/\(gat l i).port=p/\∀j,j<i->(gat l j).port≠p
 | 0=>Or.inl ⟨rfl,λi hi=>by omega⟩
 | k+1=>by
  show((if 0<=idx l p k then idx l p k else if (gat l k).port=p then(k:Int) else -1) = -1/\_)\/∃i,i<k+1/\(if 0<=idx l p k then idx l p k else if (gat l k).port=p then(k:Int) else -1)=(i:Int)/\_;rcases idx_cases l p k with⟨h1,h2⟩ | ⟨i,hi,h1,h2,h3⟩
  ·rw[h1,iN om];by_cases e:(gat l k).port=p
   ·rw[iP e];exact Or.inr ⟨k,om,rfl,e,h2⟩
   ·rw[iN e];refine Or.inl ⟨rfl,λi hi => ?_⟩;by_cases q:i=k
    ·subst q;exact e
    ·exact h2 i om
  ·rw[h1,iP om];exact Or.inr ⟨i,om,rfl,h2,h3⟩
structure O where
 port:Int
 tagged:Bool
 prio:Int
 drop:Bool
 vid:Int
def leave (f:F) (way:Int) (g:G):O :=
 if g.plain=way then⟨g.port,false,0,false,0⟩ else⟨g.port,true,if f.tagged=true then f.prio else 0,f.tagged&&f.drop,way⟩
theorem leave_port (f:F) (aa:Int) (g:G):(leave f aa g).port=g.port:=by unfold leave;split<;>rfl
structure R where
 name:ByteArray
 rev:Int
 ao:OA
 n:Nat
 cap:Nat
 vs:Nat->Int
 ts:Nat->Int
def R.wrong (r:R):Int:=Rg.wrong r.name r.rev r.vs r.ts r.n
def R.tree (r:R) (v:Int):Int:=Rg.tree r.vs r.ts v r.n
def F.wrong (f:F):Int:=Go.Proofs.YtelebnancdjjiaaGreatDoor.wrong f.dst f.src f.tagged f.prio f.vid f.type f.n
def or4 (a b c d:Int):Int:=if a=0 then or3 b c d else a
def errR (r:R) (l:List G) (b:List E) (f:F):Int:=or4 r.wrong (wrong l).1 (Bk.wrong (at' b) b.length).1 f.wrong
def leads (r:R) (m:List E) (way:Int) (f:F) (p:Int) (g:G):Bool :=
 decide (g.port≠p)&&(passes g (r.tree way) way&&(!decide (Bk.Known m ⟨way,f.dst,0,0⟩)||decide (g.port=Bk.lookP m ⟨way,f.dst,0,0⟩)))
structure Res where
 out:List O
 book:List E
 err:Int
def inG (l:List G) (p:Int):G:=gat l (idx l p l.length).toNat
def stays (r:R) (l:List G) (p:Int) (f:F):Bool:=!passes (inG l p) (r.tree (wayOf f (inG l p))) (wayOf f (inG l p))||res f.dst
def learnt (b:List E) (l:List G) (p:Int) (f:F):List E:=Bk.learn b ⟨wayOf f (inG l p),f.src,p,0⟩
def outs (r:R) (l:List G) (b:List E) (p:Int) (f:F):List O :=
 (l.filter (leads r (learnt b l p f) (wayOf f (inG l p)) f p)).map (leave f (wayOf f (inG l p)))
def relay (r:R) (l:List G) (b:List E) (p:Int) (f:F):Res :=
 if errR r l b f=0 then
  (if idx l p l.length<0 then⟨[],[],6⟩
   else if stays r l p f=true then⟨[],b,0⟩
   else⟨outs r l b p f,learnt b l p f,0⟩)
 else⟨[],[],errR r l b f⟩
end Rl
end
section
open Go.Proofs.Tryz
open Go.RowKit
open Bk (E at')
theorem a4P (ao:OA) (cap:Nat) (l:List Int) (n:Int) (w:World) (hn:l.length<=9223372036854775807) (hr:ILs w ao cap l) :
  Calls prog 130 #[.slice ao l.length cap,Iv n] w λe w'=>e=.returned (.bool (l.contains n))/\w'=w:=by
 have HI:Hid (Calls prog 119 #[.slice ao l.length cap,Iv n] w λe w'=>e=.returned (Iv (Bk.idx l n l.length))/\w'=w):=a4r ao cap l n w hn hr;have HC:Hid (decide (Bk.idx l n l.length>=0)=l.contains n):=Bk.idx_contains l n;clear hr;generalize Bk.idx l n l.length=q at *;go_enter func130,ntmps130;go_wp2_with (go_at_call 119;refine HI.o.mono ?_;rintro e w1 ⟨rfl,rfl⟩)
 go_ret;exact⟨by rw[<-HC.o];rfl,rfl⟩
end
section
open Go.Proofs.Tryz
open Go.RowKit
open Bk (E at')
open Rl (G gat)
def BLs (w:World) (ao:OA) (cap:Nat) (l:List Bool):Prop:=CRow w ao l.length cap 1 (λi _=>.bool (l.getD i false))
theorem BLs.below {w w':World}{ao:OA}{cap:Nat}{l:List Bool}(h:BLs w ao cap l) (hb:Bl w w'):BLs w' ao cap l:=CRow.below h hb
theorem BLs.cell {w:World}{b off cap:Nat}{l:List Bool}(h:BLs w (some (Pv b off)) cap l) {i:Nat}(hi:i<l.length):w.cell? (Pv b (off+i))=some (.bool (l.getD i false)):=by
 obtain⟨b',aa,e,_,hc⟩:=h.2 om;cases e
 have:=hc i hi 0 om;rw[Nat.mul_one,Nat.add_zero] at this;exact this
theorem BLs.place {w:World}{ao:OA}{cap:Nat}{l:List Bool}(h:BLs w ao cap l) (hn:0<l.length):∃b off,ao=.some ⟨b,off,.none⟩/\b<w.heap.size:=by
 obtain⟨b,off,e,hb,_⟩:=h.2 hn;exact⟨b,off,e,hb⟩
theorem BLs.of {w:World}{ao:OA}{n cap:Nat}{f:Nat->Bool}(h:CRow w ao n cap 1 (λi _=>.bool (f i))):BLs w ao cap ((List.range n).map f):=by
 unfold BLs;rw[show((List.range n).map f).length=n by simp];exact h.congr (λi hi=>by simp[hi])
def gA (g:G):Array Value:=#[Iv g.port,.slice g.wo g.ways.length g.wcap,Iv g.plain,.slice g.oo g.opens.length g.ocap]
def gC (g:G) (j:Nat):Value:=if j=0 then Iv g.port else if j=1 then .slice g.wo g.ways.length g.wcap else if j=2 then Iv g.plain else .slice g.oo g.opens.length g.ocap
theorem gC_one (g:G) (j:Nat):(gC g j).oneCell'=true:=by
 unfold gC;repeat' split
 all_goals rfl
theorem a1O {w:World}{g:Nat}{a0 a1 a2 a3:Value}{ty:TypeId}(h:w.heap[g]?=some (.cells #[a0,a1,a2,a3] ty (0,0))) :
  w.cell? (Pv g 0)=some a0/\w.cell? (Pv g 1)=some a1/\w.cell? (Pv g 2)=some a2/\w.cell? (Pv g 3)=some a3 :=
 ⟨a9Y w g 0 _ _ _ h,a9Y w g 1 _ _ _ h,a9Y w g 2 _ _ _ h,a9Y w g 3 _ _ _ h⟩
structure GIn (w:World) (g:G):Prop where
 ways:ILs w g.wo g.wcap g.ways
 opens:BLs w g.oo g.ocap g.opens
 wn:g.ways.length<=9223372036854775807
 on:g.opens.length<=9223372036854775807
theorem GIn.below {w w':World}{g:G}(h:GIn w g) (hb:Bl w w'):GIn w' g:=⟨h.ways.below hb,h.opens.below hb,h.wn,h.on⟩
structure GRow (w:World) (ao:OA) (cap:Nat) (l:List G):Prop where
 row:CRow w ao l.length cap 4 (λi=>gC (gat l i))
 each:∀g∈l,GIn w g
 many:l.length<=9223372036854775807
theorem GRow.below {w w':World}{ao:OA}{cap:Nat}{l:List G}(h:GRow w ao cap l) (hb:Bl w w'):GRow w' ao cap l:=⟨h.row.below hb,λg hg=>(h.each g hg).below hb,h.many⟩
theorem GRow.cells {w:World}{b off cap:Nat}{l:List G}(h:GRow w (some (Pv b off)) cap l) {i:Nat}(hi:i<l.length) :
  w.cell? (Pv b (off+i*4))=some (Iv (gat l i).port)/\w.cell? (Pv b (off+i*4+1))=some (.slice (gat l i).wo (gat l i).ways.length (gat l i).wcap)/\w.cell? (Pv b (off+i*4+2))=some (Iv (gat l i).plain)/\w.cell? (Pv b (off+i*4+3))=some (.slice (gat l i).oo (gat l i).opens.length (gat l i).ocap):=by
 obtain⟨b',aa,e,_,hc⟩:=h.row.2 om;cases e
 exact⟨hc i hi 0 om,hc i hi 1 om,hc i hi 2 om,hc i hi 3 om⟩
theorem GRow.place {w:World}{ao:OA}{cap:Nat}{l:List G}(h:GRow w ao cap l) (hn:0<l.length):∃b off,ao=.some ⟨b,off,.none⟩/\b<w.heap.size:=by
 obtain⟨b,off,e,hb,_⟩:=h.row.2 hn;exact⟨b,off,e,hb⟩
theorem GRow.at {w:World}{ao:OA}{cap:Nat}{l:List G}(h:GRow w ao cap l) {i:Nat}(hi:i<l.length):GIn w (gat l i):=h.each _ (Rl.gat_mem l i hi)
