/- J7 -/
import Derived.Test.YtelebnancdjjiaaGreatDoorE16
set_option maxRecDepth 100000
set_option maxHeartbeats 40000000
namespace Go.Proofs.YtelebnancdjjiaaGreatDoor
section
open Go.Proofs.Tryz Go.RowKit Go.ChangeShapes Go.WideShapes Go.ChangeAt
open Pl(Net)
open Bk(E at')
open Rl(G gat F R O)
def Ty (W W':World) (e:TypeId):Prop:=∀(q:Nat) (cur:Array Value),W.heap[q]?=some (Obj.cells cur e (0,0))->W'.heap[q]?=some (Obj.cells cur e (0,0))
theorem Ty.owns {W W':World}{base e k n:Nat}{v:Value}{xs:List Value}(t:Ty W W' e) (h:W.ownsRow base e k v n xs):W'.ownsRow base e k v n xs:=by
 obtain⟨h1,h2⟩:=h;refine⟨h1,?_⟩;rcases h2 with h2 | ⟨g,cap,aa,hv,hg,hh,r⟩
 ·exact Or.inl h2
 ·exact Or.inr ⟨g,cap,aa,hv,hg,t g aa hh,r⟩
theorem Ty.below {W W':World}(e:TypeId) (h:Bl W W'):Ty W W' e:=λ_ _ hq=>keep hq h
theorem Ty.but {W W':World}{g:Nat}{cs:Array Value}{ty:TypeId}{fr:Nat×Nat}(hg:W.heap[g]?=some (.cells cs ty fr)) (h:∀q,q≠g->q<W.heap.size->W'.heap[q]?=W.heap[q]?) (e:TypeId) (aa:e≠ty):Ty W W' e:=λq ab hq=>by
 refine(h q (λc => ?_) (gSm.1 hq).1).trans hq;subst c;rw[hg] at hq;injection hq with hq;injection hq with _ hq;exact aa hq.symm
theorem Ty.dt {W W':World}{base:Nat}{f:F}{x:OV}(t:Ty W W' 5) (h:Dt W base f x):Dt W' base f x:=by
 rcases h with h | h
 ·exact Or.inl h
 ·exact Or.inr (t.owns h)
structure BkO (W:World) (b0 g K:Nat) (bks:Nat->List E) (bo:Nat->OA) (bc:Nat->Nat):Prop where
 row:W.heap[g]?=some (.cells (rowC K 1 (λi _=>.slice (bo i) (bks i).length (bc i))) 67)
 each:∀i,i<K->OwnE W b0 (.slice (bo i) (bks i).length (bc i)) (bks i)/\(bks i).length<=9223372036854775807
theorem BkO.bk {W:World}{b0 g K:Nat}{bks:Nat->List E}{bo:Nat->OA}{bc:Nat->Nat}(h:BkO W b0 g K bks bo bc):BkW W g K bks bo bc :=
 ⟨h.row,λi hi=>by
  obtain⟨h1,h2⟩:=h.each i hi;obtain⟨a,c,e,h3,h4,_⟩:=h1.el;injection e with e1 _ e2;subst e1 e2;exact⟨h3,h4,h2⟩⟩
theorem BkO.ty {W W':World}{b0 g K:Nat}{bks:Nat->List E}{bo:Nat->OA}{bc:Nat->Nat}(h:BkO W b0 g K bks bo bc) (t1:Ty W W' 67) (t2:Ty W W' 110):BkO W' b0 g K bks bo bc :=
 ⟨t1 _ _ h.row,λi hi=>⟨t2.owns (h.each i hi).1,(h.each i hi).2⟩⟩
theorem BkO.put {W W':World}{b0 g K:Nat}{bks:Nat->List E}{bo:Nat->OA}{bc:Nat->Nat}(h:BkO W b0 g K bks bo bc) {i:Nat}{a:OA}{c:Nat}{l:List E}(hb:OwnE W' b0 (.slice a l.length c) l) (hg:W.grownBy W' (some g))
  (hk:BkW W' g K (λj=>if j=i then l else bks j) (λj=>if j=i then a else bo j) (λj=>if j=i then c else bc j)):BkO W' b0 g K (λj=>if j=i then l else bks j) (λj=>if j=i then a else bo j) (λj=>if j=i then c else bc j):=by
 refine⟨hk.row,λj hj=>⟨?_,(hk.each j hj).2.2⟩⟩;by_cases e:j=i
 ·simp only[iP e];exact hb
 ·simp only[iN e];exact(Ty.but h.row (λq aa hq=>hg.block q hq (λc=>aa (by simpa using c))) _ dd).owns (h.each j hj).1
structure CM (w W:World) (b0 K gk:Nat) (f:F) (bks:Nat->List E) (bo:Nat->OA) (bc:Nat->Nat) (so:OA) (sc:Nat) (ss:List AV) (g off cap:Nat) (ws:List AV):Prop where
 row:W.ownsRow w.heap.size 54 9 (.slice so ss.length sc) ss.length (a0f ss.length 9 (λi=>sC f (aat ss i)))
 q:QAt W w.heap.size g off cap f ws
 dS:∀x∈ss,Dt W w.heap.size f x.v
 dW:∀x∈ws,Dt W w.heap.size f x.v
 bk:BkO W b0 gk K bks bo bc
 grow:w.grownBy W (some gk)
section
variable {w W W':World}{b0 K gk:Nat}{f:F}{bks:Nat->List E}{bo:Nat->OA}{bc:Nat->Nat}{so:OA}{sc:Nat}{ss:List AV}{g off cap:Nat}{ws:List AV}
theorem a2B (h:w.grownBy W (some gk)) (hb:Bl W W'):w.grownBy W' (some gk):=⟨hb.os.trans h.os,hb.tape.trans h.tape,hb.output.trans h.output,b0p h.size hb.size,λi hi aa=>(hb.block i (b0q hi h.size)).trans (h.block i hi aa)⟩
theorem a4u (h:w.grownBy W (some gk)) (hb:Below w.heap.size W W'):w.grownBy W' (some gk):=⟨hb.os.trans h.os,hb.tape.trans h.tape,hb.output.trans h.output,b0p h.size hb.size,λi hi aa=>(hb.block i hi).trans (h.block i hi aa)⟩
theorem CM.below (h:CM w W b0 K gk f bks bo bc so sc ss g off cap ws) (hb:Bl W W'):CM w W' b0 K gk f bks bo bc so sc ss g off cap ws :=
 ⟨a0h h.row hb,h.q.below hb,λx hx=>(Ty.below _ hb).dt (h.dS x hx),λx hx=>(Ty.below _ hb).dt (h.dW x hx),h.bk.ty (Ty.below _ hb) (Ty.below _ hb),a2B h.grow hb⟩
theorem CM.tail {x:AV}(h:CM w W b0 K gk f bks bo bc so sc ss g off cap (x :: ws)):CM w W b0 K gk f bks bo bc so sc ss g (off+10) (cap-1) ws :=
 ⟨h.row,h.q.tail,h.dS,λy hy=>h.dW y (b0n _ hy),h.bk,h.grow⟩
theorem CM.tail1 {x:AV}{aa:Nat}(h:CM w W b0 K gk f bks bo bc so sc ss g off cap (x :: ws)) (h1:cap=1->aa=off) (h2:cap≠1->aa=off+10):CM w W b0 K gk f bks bo bc so sc ss g aa (cap-1) ws:=by
 by_cases e:cap=1
 ·rw[h1 e];have ht:=h.tail;refine⟨ht.row,?_,ht.dS,ht.dW,ht.bk,ht.grow⟩;obtain⟨q1,q2,N,c,q3,q4,q5⟩:=h.q;simp only[List.length_cons] at q2;exact⟨q1,om,N,c,q3,om,λi hi=>by omega⟩
 ·rw[h2 e];exact h.tail
theorem CM.book (h:CM w W b0 K gk f bks bo bc so sc ss g off cap ws) (ab:gk<w.heap.size) {i:Nat}{a:OA}{c:Nat}{l:List E}(hb:OwnE W' b0 (.slice a l.length c) l) (hg:W.grownBy W' (some gk))
  (hk:BkW W' gk K (λj=>if j=i then l else bks j) (λj=>if j=i then a else bo j) (λj=>if j=i then c else bc j)):CM w W' b0 K gk f (λj=>if j=i then l else bks j) (λj=>if j=i then a else bo j) (λj=>if j=i then c else bc j) so sc ss g off cap ws:=by
 have t:∀e,e≠67->Ty W W' e:=λe he=>Ty.but h.bk.row (λq aa hq=>hg.block q hq (λc=>aa (by simpa using c))) e he;have hq:=h.q.lt;have hl:=h.q.1;exact⟨(t _ dd).owns h.row,h.q.other (hg.block g hq (λc=>by injection c with c;omega)),λx hx=>(t _ dd).dt (h.dS x hx),λx hx=>(t _ dd).dt (h.dW x hx),h.bk.put hb hg hk,h.grow.trans hg⟩
theorem CM.seen {W2:World}{ab:OA}{ac:Nat}{x:AV}(h:CM w W b0 K gk f bks bo bc so sc ss g off cap ws) (hx:Dt W w.heap.size f x.v) (ho:W2.ownsRow w.heap.size 54 9 (.slice ab (ss.length+1) ac) (ss++[x]).length (a0f (ss++[x]).length 9 (λi=>sC f (aat (ss++[x]) i)))) (hb:Below w.heap.size W W2) (ht:∀(q:Nat) (aa:Array Value) (ty:TypeId),W.heap[q]?=some (Obj.cells aa ty (0,0))->ty≠54->W2.heap[q]?=some (Obj.cells aa ty (0,0))) :
  CM w W2 b0 K gk f bks bo bc ab ac (ss++[x]) g off cap ws:=by
 have t:∀e,e≠54->Ty W W2 e:=λe he q aa hq=>ht q aa e hq he;obtain⟨cs,hq⟩:=h.q.type;have e:(ss++[x]).length=ss.length+1:=(by simp)
 refine⟨by rw[<-e] at ho;exact ho,h.q.other ((ht g cs _ hq dd).trans hq.symm),λy hy => ?_,λy hy=>(t _ dd).dt (h.dW y hy),h.bk.ty (t _ dd) (t _ dd),a4u h.grow hb⟩;rcases List.mem_append.1 hy with hy | hy
 ·exact(t _ dd).dt (h.dS y hy)
 ·obtain rfl:y=x:=by simpa using hy
  exact(t _ dd).dt hx
theorem CM.more {W2:World}{g' ab aa:Nat}{x:AV}(h:CM w W b0 K gk f bks bo bc so sc ss g off cap ws) (hx:Dt W w.heap.size f x.v) (hq:QAt W2 w.heap.size g' ab aa f (ws++[x])) (hb:Below w.heap.size W W2) (ht:∀q,q≠g->q<W.heap.size->W2.heap[q]?=W.heap[q]?) :
  CM w W2 b0 K gk f bks bo bc so sc ss g' ab aa (ws++[x]):=by
 obtain⟨cs,hg⟩:=h.q.type;have t:∀e,e≠77->Ty W W2 e:=λe he=>Ty.but hg ht e he;refine⟨(t _ dd).owns h.row,hq,λy hy=>(t _ dd).dt (h.dS y hy),λy hy => ?_,h.bk.ty (t _ dd) (t _ dd),a4u h.grow hb⟩;rcases List.mem_append.1 hy with hy | hy
 ·exact(t _ dd).dt (h.dW y hy)
 ·obtain rfl:y=x:=by simpa using hy
  exact(t _ dd).dt hx
theorem Dt.row {x:OV}{base:Nat}(h:Dt W base f x) (hf:ByteRow W f.ao f.n f.cap f.bs) (hn:a0s f.ao f.n f.cap):ByteRow W x.da f.n x.dc f.bs/\a0s x.da f.n x.dc:=by
 rcases h with⟨e1,e2⟩ | h
 ·rw[e1,e2];exact⟨hf,hn⟩
 ·obtain⟨a,c,e,h1,_,h2,_⟩:=a2n h;injection e with e1 _ e2;subst e1 e2;exact⟨h1,h2⟩
end
structure BIn (w:World) (ko:OA) (K kcap:Nat) (bks:Nat->List E) (bo:Nat->OA) (bc:Nat->Nat):Prop where
 row:CRow w ko K kcap 1 (λi _=>.slice (bo i) (bks i).length (bc i))
 each:∀i,i<K->BEL w (bo i) (bc i) (bks i)/\a0s (bo i) (bks i).length (bc i)/\(bks i).length*32<=140737488355328
theorem BIn.below {w W:World}{ko:OA}{K aa:Nat}{ab:Nat->List E}{bo:Nat->OA}{bc:Nat->Nat}(h:BIn w ko K aa ab bo bc) (hb:Bl w W):BIn W ko K aa ab bo bc:=⟨CRow.below h.row hb,λi hi=>⟨(h.each i hi).1.below hb,(h.each i hi).2⟩⟩
theorem a9h (w:World) (base:Nat) (ao:OA) (cp:Nat) (m:List E) (hr:BEL w ao cp m) (ab:a0s ao m.length cp) (hb:m.length*32<=140737488355328) (aa:base<=w.heap.size) :
  ∃a1 c1 w',(Builtin.append_ #[67,67] 67 #[sN,.slice ao m.length cp]).run prog w=.ok (.slice a1 m.length c1) w'/\OwnE w' base (.slice a1 m.length c1) m/\Below base w w'/\(∀q,q<w.heap.size->w'.heap[q]?=w.heap[q]?):=by
 obtain⟨a1,c1,w',r,o,b,q⟩:=a0E w 67 110 _ 4 32 underlying67 a6M rfl om base sN 0 (λi=>eC (at' m i)) (a0y w base _ _ _) ao m.length cp (λi=>eC (at' m i)) (λ_ _=>eC_one _ _) hr ab (by unfold maxLen;omega) om aa;rw[Nat.zero_add] at r o;refine⟨a1,c1,w',r,?_,b,λx hx=>q x hx (by simp[Value.ownBlock])⟩;unfold OwnE;rw[a0k _ 4 _ (λi=>eC (at' m i))] at o
 ·exact o
 ·intro i hi;unfold catC;rw[iN om,Nat.sub_zero]
structure CpA (w W:World) (K:Nat) (bks:Nat->List E) (k:Nat) (bo:Nat->OA) (bc:Nat->Nat):Prop where
 row:W.heap[w.heap.size]?=some (.cells (rowC K 1 (λi _=>if i<k then .slice (bo i) (bks i).length (bc i) else sN)) 67)
 each:∀i,i<k->OwnE W w.heap.size (.slice (bo i) (bks i).length (bc i)) (bks i)
 low:Bl w W
theorem CpA.step {w W W':World}{K:Nat}{aa:Nat->List E}{k:Nat}{bo:Nat->OA}{bc:Nat->Nat}(h:CpA w W K aa k bo bc) (hk:k<K) {a:OA}{c:Nat}(ho:OwnE W' w.heap.size (.slice a (aa k).length c) (aa k)) (hb:Below w.heap.size W W') (hq:∀q,q<W.heap.size->W'.heap[q]?=W.heap[q]?) :
  CpA w (W'.setCell (Pv w.heap.size k) (.slice a (aa k).length c)) K aa (k+1) (λi=>if i=k then a else bo i) (λi=>if i=k then c else bc i):=by
 have hl:w.heap.size<W.heap.size:=(gSm.1 h.row).1;have hr:W'.heap[w.heap.size]?=_:=(hq _ hl).trans h.row;have ab:=a1r hr hk (show 0<1 by omega) (.slice a (aa k).length c);rw[show k*1+0=k by omega] at ab;have ty:Ty W' (W'.setCell (Pv w.heap.size k) (.slice a (aa k).length c)) 110:=Ty.but hr (λq ac _=>b0f _ _ _ _ (λe=>ac e)) _ dd;refine⟨?_,λi hi => ?_,?_⟩
 ·rw[ab];congr 2
  apply rC2
  intro i hi j hj;unfold updC;obtain rfl:j=0:=om
  by_cases e:i=k
  ·subst e;rw[iP ⟨rfl,rfl⟩,iP om,iP rfl,iP rfl]
  ·rw[iN (λq=>e q.1)];show(if i<k then _ else _)=_;by_cases e2:i<k
   ·rw[iP e2,iP om,iN e,iN e]
   ·rw[iN e2,iN om]
 ·by_cases e:i=k
  ·subst e;simp only[if_true];exact ty.owns ho
  ·simp only[iN e];refine ty.owns ?_;have h1:=h.each i om;exact(show Ty W W' 110 from λq ad hc=>(hq q (gSm.1 hc).1).trans hc).owns h1
 ·exact(h.low.trans hb).setCell (b0g _) _
theorem a6h (ko:OA) (K ad:Nat) (aa:Nat->List E) (bo:Nat->OA) (bc:Nat->Nat) (w:World) (h:BIn w ko K ad aa bo bc) (hK:K<=12) :
  Calls prog 26 #[.slice ko K ad] w λe w'=>e=.returned (.slice (some (Pv w.heap.size 0)) K K)/\Hid (∃ac ab,BkO w' w.heap.size w.heap.size K aa ac ab/\Bl w w'):=by
 have aq:∀W:World,(Instr.makeSlice 27 (Iv K) (Iv K)).run prog W=.ok (.slice (some (Pv W.heap.size 0)) K K) (W.alloc (.cells (rowC K 1 (λ_ _=>sN)) 67)):=λW=>a1E W 27 67 sN 1 24 K underlying27 kr om rfl om om _ (λ_ j hj=>by rw[show j=0 by omega];rfl);obtain⟨X,HX⟩:=nm (w.alloc (.cells (rowC K 1 (λ_ _=>sN)) 67))
 have H0:Hid (∃ac ab,CpA w X K aa 0 ac ab):=⟨bo,bc,by
  refine⟨?_,λi hi=>absurd hi om,?_⟩
  ·rw[HX.o,a9Z];congr 2
  ·rw[HX.o];exact bA1 _ _⟩
 have hc:K<=ad:=h.row.1;have HI:Hid (∀W,Bl w W->BIn W ko K ad aa bo bc):=λW hW=>h.below hW;have an:Hid (∀i,i<K->(aa i).length<=9223372036854775807):=λi hi=>by
  have:=(h.each i hi).2.2;omega
 clear h;go_enter func26,ntmps26;(go_wp2_with fail);rw[<-HX.o];go_loopw [11] (λi wr=>∃k:Nat,k<=K/\i=Iv k/\Hid (∃ac ab,CpA w wr K aa k ac ab)) (λi _=>K-(intOf i).toNat)
 case atStart=>exact⟨0,om,rfl,H0⟩
 case round =>
  obtain⟨k,hk,rfl,hX⟩:=hrel;clear H0;obtain⟨ac,ab,hI⟩:=hX.o;by_cases hlt:k<K
  ·have af:=HI.o wr hI.low;obtain⟨b,off,eb,_⟩:=CRow.some af.row om;have ae:=af.row;rw[eb] at ae ⊢;obtain⟨b',ap,e',_,ak⟩:=ae.2 om;cases e'
   have c0:=ak k hlt 0 om;rw[show off+k*1+0=off+k by omega] at c0;have ao:=hI.low.size;obtain⟨a1,c1,W1,ag,ho,am,ai⟩:=a9h wr w.heap.size (bo k) (bc k) (aa k) (af.each k hlt).1 (af.each k hlt).2.1 (af.each k hlt).2.2 ao;have hl:w.heap.size<wr.heap.size:=(gSm.1 hI.row).1;have aj:W1.heap[w.heap.size]?=_:=(ai _ hl).trans hI.row;have s0:=a0C aj hlt (show 0<1 by omega);rw[show k*1+0=k by omega,iN om] at s0;have s1:W1.frozen? (Pv w.heap.size k)=false:=b0a _ _ _ _ _ aj;have ah:Hid (∃ac ab,CpA w (W1.setCell (Pv w.heap.size k) (.slice a1 (aa k).length c1)) K aa (k+1) ac ab):=⟨_,_,hI.step hlt ho am ai⟩
   have al:Hid ((Builtin.append_ #[67,67] 67 #[sN,.slice (bo k) (aa k).length (bc k)]).run prog wr=.ok (.slice a1 (aa k).length c1) W1):=ag;have ik:(0:Int)<=(k:Int):=om
   have nk:(k:Int)<(K:Int):=om
   clear ag ho am ai aj ak ae af hI hX eb;go_wp2_with (at_builtin;refine a0a rfl (.const sN) (.tmp 18) 67 rfl _ _ _ rfl rfl al.o ?_;clear al)
   exact⟨⟨k+1,om,gn,ah⟩,io⟩
  ·obtain rfl:k=K:=om
   have HF:Hid (∃ac ab,BkO wr w.heap.size w.heap.size k aa ac ab/\Bl w wr):=⟨ac,ab,⟨by
    rw[hI.row];congr 2
    apply rC2
    intro i hi j hj;rw[iP hi],λi hi=>⟨hI.each i hi,an.o i hi⟩⟩,hI.low⟩
   clear hI hX;(go_wp2_with fail);go_ret;exact⟨rfl,HF⟩
set_option maxRecDepth 100000
open Bk (E)
theorem cellsE4:prog.cellsOf 110=4:=by kernel_rfl
theorem elist4 {α:Type}{l:List α}(h:l.length=4):∃c0 c1 c2 c3,l=[c0,c1,c2,c3]:=by
 match l,h with
 | [c0,c1,c2,c3],_=>exact⟨c0,c1,c2,c3,rfl⟩
theorem a6i {H:Type}{enc:TypeId×Value->H}{W:World}{c0 c1 c2 c3:Value}{ab:Nat}{x:DataW H×List MemPlace}
  (hf:DataW.trod enc prog W 0 (λ_=>true) true ab 110 [c0,c1,c2,c3]=some x) :
  ∃v:E,c0=.int .i64 v.vid/\c1=.int .u64 v.addr/\c2=.int .i64 v.port/\c3=.int .i64 v.age:=by
 obtain⟨xs,m,_,_,_,ac,aa⟩:=DataW.trod_struct underlying110 hf;obtain⟨y0,y1,y2,y3,rfl⟩:=elist4 (by simpa using ac);obtain⟨ro,e0,_,_⟩:=DataW.trod_int underlying3 (aa 0 _ rfl);obtain⟨co,e1,_,_⟩:=DataW.trod_int underlying28 (aa 1 _ rfl);obtain⟨br,e2,_,_⟩:=DataW.trod_int underlying3 (aa 2 _ rfl);obtain⟨po,e3,_,_⟩:=DataW.trod_int underlying3 (aa 3 _ rfl);exact⟨⟨ro,co,br,po⟩,a1f e0,a1f e1,a1f e2,a1f e3⟩
theorem a5y {H:Type}{enc:TypeId×Value->H}{W:World}{v:Value}{ag:Nat}{x:DataW H×List MemPlace}
  (hf:DataW.trod enc prog W 0 (λ_=>true) true ag 67 [v]=some x) :
  ∃ao cap l,v=.slice ao l.length cap/\BEL W ao cap l/\a0s ao l.length cap/\l.length<=9223372036854775807:=by
 rcases Deep.open_slice underlying67 hf with⟨aa,_⟩ | ⟨a,len,cap,m,k,D,Pl,aa,_,hl,hm,ai,_,hx⟩
 ·simp at aa;subst aa;exact⟨none,0,[],rfl,CRow.none _ _ _ _ _,λ_=>⟨rfl,rfl⟩,by simp⟩
 ·simp at aa;subst aa;rw[iP rfl] at ai;have ae:∀i,i<len->∃t:E,∀j,j<4->W.cell? (a.add (i*4+j))=some (eC t j):=by
   intro i hi;obtain⟨aj,h1,h2⟩:=hx i om;rw[cellsE4] at h1;obtain⟨_,af,ab⟩:=World.cells?_some h1;obtain⟨c0,c1,c2,c3,rfl⟩:=elist4 af;obtain⟨t,rfl,rfl,rfl,rfl⟩:=a6i h2;refine⟨t,λj hj => ?_⟩;have kj:=ab j om;rw[Deep.add_add] at kj;rw[kj];rcases(show j=0\/j=1\/j=2\/j=3 by omega) with rfl | rfl | rfl | rfl
   ·rfl
   ·rfl
   ·rfl
   ·rfl
  haveI:Inhabited E:=⟨⟨0,0,0,0⟩⟩
  obtain⟨q,hq⟩:=Deep.choose_lt ae;have ad:CRow W (some a) len cap 4 (λi=>eC (q i)):=by
   refine⟨hl,λhp => ?_⟩;obtain⟨b,off,ah⟩:=a;have ac:ah=none:=by
    have h0:=hq 0 om 0 om;simpa[Addr.add] using World.cell?_spot h0
   subst ac;have hc:∀i,i<len->∀j,j<4->_:=λi hi j hj=>hq i hi j hj;simp only[a1J] at hc;exact⟨b,off,rfl,b0r (hc 0 hp 0 om),λi hi j hj=>by have:=hc i hi j hj;rw[<-Nat.add_assoc] at this;exact this⟩
  refine⟨some a,cap,Bk.listOf len q,by rw[Bk.listOf_length],BEL.of ad,(λe=>by cases e),by rw[Bk.listOf_length];unfold maxLen at hm;omega⟩
set_option maxRecDepth 100000
theorem cellsFr:prog.cellsOf 31=8:=by kernel_rfl
theorem list8 {α:Type}{l:List α}(h:l.length=8):∃c0 c1 c2 c3 c4 c5 c6 c7,l=[c0,c1,c2,c3,c4,c5,c6,c7]:=by
 match l,h with
 | [c0,c1,c2,c3,c4,c5,c6,c7],_=>exact⟨c0,c1,c2,c3,c4,c5,c6,c7,rfl⟩
theorem frame_in {H:Type}{enc:TypeId×Value->H}{W:World}{base:Nat}{v:Value}{D:DataW H}{ps:List MemPlace}
  (hv:Value.okWide prog W .any base 31 v) (h:DataW.Trod enc prog W 0 (λ_=>true) true 31 v D ps) :
  ∃d s t p dr vid y ao n c bs,v=.agg #[.int .u64 d,.int .u64 s,.bool t,.int .i64 p,.bool dr,.int .i64 vid,.int .i64 y,.slice ao n c]/\(Lit.int .u64 d).wf=true/\(Lit.int .u64 s).wf=true/\(Lit.int .i64 p).wf=true/\(Lit.int .i64 vid).wf=true/\(Lit.int .i64 y).wf=true /\
   ByteRow W ao n c bs/\(∀i,i<n->0<=bs i/\bs i<=255)/\(ao=none->n=0/\c=0):=by
 obtain⟨cs,rfl,ac⟩:=okWide_struct underlying31 hv;rw[cellsFr] at ac;obtain⟨l⟩:=cs;obtain⟨c0,c1,c2,c3,c4,c5,c6,c7,rfl⟩:=list8 (by simpa using ac);obtain⟨ad,hf⟩:=h;obtain⟨xs,m,_,_,_,ab,aa⟩:=DataW.trod_struct underlying31 hf;obtain⟨y0,y1,y2,y3,y4,y5,y6,y7,rfl⟩:=list8 (by simpa using ab);have g0:=aa 0 _ rfl;have g1:=aa 1 _ rfl;have g2:=aa 2 _ rfl;have g3:=aa 3 _ rfl;have g4:=aa 4 _ rfl;have g5:=aa 5 _ rfl;have g6:=aa 6 _ rfl;have g7:=aa 7 _ rfl;simp only[Value.cells] at g0 g1 g2 g3 g4 g5 g6 g7;obtain⟨d,e0,_,w0⟩:=DataW.trod_int underlying28 g0;obtain⟨s,e1,_,w1⟩:=DataW.trod_int underlying28 g1;obtain⟨t,e2,_⟩:=DataW.trod_bool underlying4 g2;obtain⟨p,e3,_,w3⟩:=DataW.trod_int underlying3 g3;obtain⟨dr,e4,_⟩:=DataW.trod_bool underlying4 g4;obtain⟨vid,e5,_,w5⟩:=DataW.trod_int underlying3 g5;obtain⟨y,e6,_,w6⟩:=DataW.trod_int underlying3 g6;obtain⟨ao,n,c,bs,e7,hr,hb,hn⟩:=a7r g7;obtain rfl:=a1f e0;obtain rfl:=a1f e1;obtain rfl:=a1f e2;obtain rfl:=a1f e3;obtain rfl:=a1f e4;obtain rfl:=a1f e5;obtain rfl:=a1f e6;subst e7;exact⟨d,s,t,p,dr,vid,y,ao,n,c,bs,rfl,w0,w1,w3,w5,w6,hr,hb,hn⟩
set_option maxRecDepth 100000
open Bk (E)
theorem bytesEn:prog.bytesOf 110=32:=by kernel_rfl
theorem cellsEs:prog.cellsOf 67=1:=by kernel_rfl
theorem a4v {H:Type}{P:Program}{e:TypeId}{D:Nat->DataW H}{p:Nat->Bool}:∀{l:List Nat},(DataW.weightsAll P e (l.map D)).all p=true->∀i∈l,((D i).weights P e).all p=true
 | [],_,i,hi=>by simp at hi
 | a :: l,h,i,hi=>by
  rw[List.map_cons] at h;unfold DataW.weightsAll at h;rw[List.all_append,Bool.and_eq_true] at h;rcases List.mem_cons.1 hi with rfl | hi
  ·exact h.1
  ·exact a4v h.2 i hi
theorem a5z {H:Type}{enc:TypeId×Value->H}{W:World}{ao:OA}{n cap:Nat}{ab:Nat}{x:DataW H×List MemPlace}
  (hf:DataW.trod enc prog W 0 (λ_=>true) true ab 67 [.slice ao n cap]=some x) (hz:(x.1.weights prog 67).all (·<=reachBytes)=true):n*32<=reachBytes:=by
 rcases Deep.open_slice underlying67 hf with⟨aa,_⟩ | ⟨a,len,ac,m,k,D,Pl,aa,_,hl,hm,ad,hx,_⟩
 ·simp at aa;omega
 ·simp at aa;obtain⟨_,rfl,rfl⟩:=aa;rw[iP rfl] at ad;rw[hx] at hz;unfold DataW.weights at hz;rw[underlying67] at hz;simp only[List.all_cons,Bool.and_eq_true,decide_eq_true_eq,List.length_map,List.length_range,bytesEn] at hz;have:=hz.1;omega
theorem books_in {H:Type}{enc:TypeId×Value->H}{W:World}{base:Nat}{v:Value}{D:DataW H}{ps:List MemPlace}
  (hv:Value.okWide prog W .any base 27 v) (h:DataW.Trod enc prog W 0 (λ_=>true) true 27 v D ps) :
  ∃(ko:OA) (K cap:Nat) (aj:Nat->List E) (bo:Nat->OA) (bc:Nat->Nat),v=.slice ko K cap/\K<=9223372036854775807/\((D.weights prog 27).all (·<=reachBytes)=true->BIn W ko K cap aj bo bc):=by
 obtain⟨a0,aa,ag,rfl⟩:=okWide_slice underlying27 hv;obtain⟨al,hf⟩:=h;rcases Deep.open_slice underlying27 hf with⟨ad,_⟩ | ⟨a,len,cap,m,k,DD,Pl,ad,_,hl,hm,ak,ai,hx⟩
 ·simp[Value.cells] at ad;obtain⟨rfl,rfl,rfl⟩:=ad;exact⟨none,0,0,λ_=>[],λ_=>none,λ_=>0,rfl,om,λ_=>⟨CRow.none _ _ _ _ _,λi hi=>absurd hi om⟩⟩
 ·simp[Value.cells] at ad;obtain⟨rfl,rfl,rfl⟩:=ad;rw[iP rfl] at ak;have ae:∀i,i<aa->∃t:OA×Nat×List E,W.cell? (a.add i)=some (.slice t.1 t.2.2.length t.2.1)/\BEL W t.1 t.2.1 t.2.2/\a0s t.1 t.2.2.length t.2.1/\(((DD i).weights prog 67).all (·<=reachBytes)=true->t.2.2.length*32<=reachBytes):=by
   intro i hi;obtain⟨am,h1,h2⟩:=hx i om;rw[cellsEs] at h1;obtain⟨_,af,ab⟩:=World.cells?_some h1;obtain⟨c0,rfl⟩:=List.length_eq_one_iff.1 af;obtain⟨ao,cp,l,rfl,z1,z2,_⟩:=a5y h2;refine⟨(ao,cp,l),?_,z1,z2,λhz=>a5z h2 hz⟩;have kj:=ab 0 om;rw[Deep.add_add] at kj;rw[show i*1+0=i by omega] at kj;rw[kj];rfl
  haveI:Inhabited (OA×Nat×List E):=⟨(none,0,[])⟩
  obtain⟨q,hq⟩:=Deep.choose_lt ae;refine⟨some a,aa,ag,λi=>(q i).2.2,λi=>(q i).1,λi=>(q i).2.1,rfl,by unfold maxLen at hm;omega,λhz=>⟨⟨hl,λhp => ?_⟩,λi hi=>⟨(hq i hi).2.1,(hq i hi).2.2.1,?_⟩⟩⟩
  ·obtain⟨b,off,ah⟩:=a;have ac:ah=none:=by
    have h0:=(hq 0 om).1;simpa[Addr.add] using World.cell?_spot h0
   subst ac;have hc:∀i,i<aa->_:=λi hi=>(hq i hi).1;simp only[a1J] at hc;refine⟨b,off,rfl,b0r (hc 0 hp),λi hi j hj => ?_⟩;obtain rfl:j=0:=om
   have:=hc i hi;rw[Nat.mul_one,Nat.add_zero];exact this
  ·have hD:D=_:=congrArg Prod.fst ai;rw[hD] at hz;unfold DataW.weights at hz;rw[underlying27] at hz;simp only[List.all_cons,List.all_append,Bool.and_eq_true] at hz;have:=(hq i hi).2.2.2 (a4v hz.2.1 i (List.mem_range.2 hi));unfold reachBytes at this;omega
theorem a9i {H:Type}{enc:TypeId×Value->H}{W:World}{base:Nat}{v:Value}{D:DataW H}{ps:List MemPlace}
  (hv:Value.okWide prog W .any base 31 v) (h:DataW.Trod enc prog W 0 (λ_=>true) true 31 v D ps) :
  ∃f:Rl.F,v=.agg #[.int .u64 f.dst,.int .u64 f.src,.bool f.tagged,.int .i64 f.prio,.bool f.drop,.int .i64 f.vid,.int .i64 f.type,.slice f.ao f.n f.cap]/\ByteRow W f.ao f.n f.cap f.bs/\a0s f.ao f.n f.cap/\(0<=f.dst/\f.dst<18446744073709551616)/\(0<=f.src/\f.src<18446744073709551616):=by
 obtain⟨d,s,t,p,dr,vid,y,ao,n,c,bs,rfl,w0,w1,_,_,_,hr,_,hn⟩:=frame_in hv h;exact⟨⟨d,s,t,p,dr,vid,y,ao,n,c,bs⟩,rfl,hr,hn,a8F w0,a8F w1⟩
theorem a9j {H:Type}{enc:TypeId×Value->H}{W:World}{ko:OA}{K cap:Nat}{D:DataW H}{ps:List MemPlace}(h:DataW.Trod enc prog W 0 (λ_=>true) true 27 (.slice ko K cap) D ps):a0s ko K cap:=by
 obtain⟨ab,hf⟩:=h;rcases Deep.open_slice underlying27 hf with⟨aa,_⟩ | ⟨a,len,ac,m,k,DD,Pl,aa,_⟩
 ·simp[Value.cells] at aa;obtain⟨rfl,rfl,rfl⟩:=aa;exact λ_=>⟨rfl,rfl⟩
 ·simp[Value.cells] at aa;obtain⟨rfl,rfl,rfl⟩:=aa;exact λh=>by cases h
theorem rbad_any (e:Int) (Bi:Nat) (k:Int) (w:World) (hi:w.cell? (Pv Bi 0)=some (Iv k)) :
  Calls prog 95 #[Iv e,.pointer (some (Pv Bi 0))] w λr w'=>r=.returned (.agg #[Iv e,Iv k])/\Bl w w':=by
 have l1:Bi<w.heap.size:=b0r hi;go_enter func95,ntmps95;(go_wp2_with fail);exact b0b (v:=.agg #[Iv e,Iv k]) (a0b (p:=3) (ty:=37) results95 _ _ w.heap.size 37 #[Iv e,Iv k] (0,0) _ rfl (a9Z _ _) underlying37 rfl (by rw[a0O];rfl)) rfl ⟨rfl,bA1 _ _⟩
theorem a6j (ao:OA) (cap:Nat) (l:List G) (w:World) (hr:GRow w ao cap l) :
  Calls prog 57 #[.slice ao l.length cap] w λe w'=>e=.returned (faV (Rl.wrong l))/\Bl w w':=by
 have hn:=hr.many;have al:Hid (∀W,Bl w W->GRow W ao cap l):=λW hW=>hr.below hW;have aL:l.length<=cap:=hr.row.1;clear hr;obtain⟨G,HG⟩:=nm w.heap.size
 have HI:Hid (∀W,W=w.alloc (.cells #[Iv 0,Iv 0] 37)->Bl w W/\W.heap[G]?=some (.cells #[Iv 0,Iv 0] 37)):=by
  intro W hW;rw[hW,HG.o];exact⟨bA1 _ _,a9Z _ _⟩
 have ab:w.heap.size<=G:=(by rw[HG.o];exact b0g _)
 have ae:Hid (Rl.wrong l=Bk.firstTo (Rl.gErr l) l.length):=rfl;go_enter func57,ntmps57;(go_wp2_with fail);rw[<-HG.o];go_loopw [11] (λi wr=>∃k:Nat,k<=l.length/\i=Iv k/\Hid (∀j,j<k->Rl.gErr l j=0)/\Hid (Bl w wr/\wr.heap[G]?=some (.cells #[Iv 0,Iv 0] 37))) (λi _=>l.length-(intOf i).toNat)
 case atStart=>exact⟨0,om,rfl,(λj hj=>absurd hj om),HI.o _ rfl⟩
 case round =>
  obtain⟨k,hk,rfl,hS,hX⟩:=hrel;clear HI;by_cases hlt:k<l.length
  ·obtain⟨b,off,rfl,_⟩:=(al.o wr hX.o.1).place om;obtain⟨c0,c1,c2,c3⟩:=(al.o wr hX.o.1).cells hlt;have aH:=(al.o wr hX.o.1).at hlt;obtain⟨X,HX⟩:=nm ((wr.alloc (.cells #[Iv k] 3)).alloc (.cells #[Iv (gat l k).port,.slice (gat l k).wo (gat l k).ways.length (gat l k).wcap,Iv (gat l k).plain,.slice (gat l k).oo (gat l k).opens.length (gat l k).ocap] 95))
   have ap:Bl wr X:=(by rw[HX.o];exact bA2 _ _ _)
   have aB:X.heap[wr.heap.size]?=some (.cells #[Iv k] 3):=(by rw[HX.o];exact b0d _ _ _)
   have aI:X.heap[wr.heap.size+1]?=some (.cells #[Iv (gat l k).port,.slice (gat l k).wo (gat l k).ways.length (gat l k).wcap,Iv (gat l k).plain,.slice (gat l k).oo (gat l k).opens.length (gat l k).ocap] 95):=(by rw[HX.o];exact b0c _ _ _)
   have ag:Hid (Bl X X):=b0h _ _;have av:Bl w X:=a0c hX.o.1 ap;have ah:Hid (∀W,Bl X W->Bl w W/\W.heap[G]?=some (.cells #[Iv 0,Iv 0] 37)):=λW hW=>⟨a0c av hW,keep (keep hX.o.2 ap) hW⟩
   have aa:Hid (∀(e:Int) (W:World),Bl X W->Calls prog 95 #[Iv e,.pointer (some (Pv wr.heap.size 0))] W λr w'=>r=.returned (.agg #[Iv e,Iv k])/\Hid (Bl w w'/\w'.heap[G]?=some (.cells #[Iv 0,Iv 0] 37))):=λe W hW=>(rbad_any e wr.heap.size k W (a9Y W _ 0 _ _ _ (keep aB hW))).mono (λ_ w' h=>⟨h.1,ah.o w' (a0c hW h.2)⟩);have aF:Hid (∀W,Bl X W->W.cell? (Pv wr.heap.size 0)=some (Iv k)/\W.cell? (Pv (wr.heap.size+1) 0)=some (Iv (gat l k).port)/\W.cell? (Pv (wr.heap.size+1) 1)=some (.slice (gat l k).wo (gat l k).ways.length (gat l k).wcap)/\W.cell? (Pv (wr.heap.size+1) 2)=some (Iv (gat l k).plain)/\W.cell? (Pv (wr.heap.size+1) 3)=some (.slice (gat l k).oo (gat l k).opens.length (gat l k).ocap)):=λW hW=>⟨a9Y W _ 0 _ _ _ (keep aB hW),a1O (keep aI hW)⟩
   have af:Hid (∀e,e≠0->Rl.gErr l k=e->Bk.firstTo (Rl.gErr l) l.length=(e,(k:Int))):=λe he h=>by
    subst h;exact Bk.firstTo_stay _ k (by rw[Bk.firstTo_none _ _ hS.o]) he _ hlt
   have am:Hid (Rl.gErr l k=0->∀j,j<k+1->Rl.gErr l j=0):=λh j hj=>by
    by_cases e:j=k
    ·subst e;exact h
    ·exact hS.o j om
   have aC:Hid (0<k->∀W,Bl X W->W.cell? (Pv b (off+(k-1)*4))=some (Iv (gat l (k-1)).port)):=λh0 W hW=>((al.o W (a0c av hW)).cells (show k-1<l.length by omega)).1;have aj:Hid (∀W,Bl X W->GIn W (gat l k)):=λW hW=>(aH.below ap).below hW;have ai:Hid (Rl.gErr l k=Rl.or3 (Rl.gateErr (gat l k)) (Rl.waysErr (gat l k).ways) (Rl.rise (Rl.aheadP l k) (gat l k).port)):=rfl;have az:Hid (0<k->Rl.aheadP l k=(gat l (k-1)).port):=λh0=>iN om;have ax:Hid (k=0->Rl.aheadP l k = -1):=λh0=>iP h0;obtain⟨i0,d0,d1,d2,d3⟩:=aF.o X ag.o;clear hX hS ap aB aI aH al av;generalize hx:gat l k=x at *;clear hx;(go_upto_region 4 with fail);rw[<-HX.o];clear c0 c1 c2 c3;by_cases p1:x.port<0
   ·have ad:Rl.gateErr x=3:=(by unfold Rl.gateErr;rw[iN om])
    have ac:Hid _:=af.o 3 om (by rw[ai.o,ad];rfl);(go_wp2_with fail);refine(aa.o 3 X ag.o).mono ?_;rintro rr w9 ⟨rfl,HZ⟩;obtain⟨f0,f1,f2,f3⟩:=a0M HZ.o.2;(go_wp2_with fail);exact b0b (v:=.agg #[Iv 3,Iv k]) (a0b (p:=2) (ty:=37) results57 _ _ G 37 #[Iv 3,Iv k] (0,0) _ rfl (a0R HZ.o.2) underlying37 rfl (by rw[a0O];rfl)) rfl ⟨by rw[ae.o,ac.o],(HZ.o.1.setCell ab _).setCell ab _⟩
   ·by_cases p2:30<x.port
    ·have ad:Rl.gateErr x=3:=(by unfold Rl.gateErr;rw[iN om])
     have ac:Hid _:=af.o 3 om (by rw[ai.o,ad];rfl);(go_wp2_with fail);refine(aa.o 3 X ag.o).mono ?_;rintro rr w9 ⟨rfl,HZ⟩;obtain⟨f0,f1,f2,f3⟩:=a0M HZ.o.2;(go_wp2_with fail);exact b0b (v:=.agg #[Iv 3,Iv k]) (a0b (p:=2) (ty:=37) results57 _ _ G 37 #[Iv 3,Iv k] (0,0) _ rfl (a0R HZ.o.2) underlying37 rfl (by rw[a0O];rfl)) rfl ⟨by rw[ae.o,ac.o],(HZ.o.1.setCell ab _).setCell ab _⟩
    ·by_cases p3:x.plain<0
     ·have ad:Rl.gateErr x=3:=(by unfold Rl.gateErr;rw[iN om])
      have ac:Hid _:=af.o 3 om (by rw[ai.o,ad];rfl);(go_wp2_with fail);refine(aa.o 3 X ag.o).mono ?_;rintro rr w9 ⟨rfl,HZ⟩;obtain⟨f0,f1,f2,f3⟩:=a0M HZ.o.2;(go_wp2_with fail);exact b0b (v:=.agg #[Iv 3,Iv k]) (a0b (p:=2) (ty:=37) results57 _ _ G 37 #[Iv 3,Iv k] (0,0) _ rfl (a0R HZ.o.2) underlying37 rfl (by rw[a0O];rfl)) rfl ⟨by rw[ae.o,ac.o],(HZ.o.1.setCell ab _).setCell ab _⟩
     ·by_cases p4:4094<x.plain
      ·have ad:Rl.gateErr x=3:=(by unfold Rl.gateErr;rw[iN om])
       have ac:Hid _:=af.o 3 om (by rw[ai.o,ad];rfl);(go_wp2_with fail);refine(aa.o 3 X ag.o).mono ?_;rintro rr w9 ⟨rfl,HZ⟩;obtain⟨f0,f1,f2,f3⟩:=a0M HZ.o.2;(go_wp2_with fail);exact b0b (v:=.agg #[Iv 3,Iv k]) (a0b (p:=2) (ty:=37) results57 _ _ G 37 #[Iv 3,Iv k] (0,0) _ rfl (a0R HZ.o.2) underlying37 rfl (by rw[a0O];rfl)) rfl ⟨by rw[ae.o,ac.o],(HZ.o.1.setCell ab _).setCell ab _⟩
      ·by_cases p5:(16:Int)<x.opens.length
       ·have ad:Rl.gateErr x=5:=(by unfold Rl.gateErr;rw[iP om,iP p5])
        have ac:Hid _:=af.o 5 om (by rw[ai.o,ad];rfl);(go_wp2_with fail);refine(aa.o 5 X ag.o).mono ?_;rintro rr w9 ⟨rfl,HZ⟩;obtain⟨f0,f1,f2,f3⟩:=a0M HZ.o.2;(go_wp2_with fail);exact b0b (v:=.agg #[Iv 5,Iv k]) (a0b (p:=2) (ty:=37) results57 _ _ G 37 #[Iv 5,Iv k] (0,0) _ rfl (a0R HZ.o.2) underlying37 rfl (by rw[a0O];rfl)) rfl ⟨by rw[ae.o,ac.o],(HZ.o.1.setCell ab _).setCell ab _⟩
       ·have ad:Rl.gateErr x=0:=(by unfold Rl.gateErr;rw[iP om,iN p5])
        have aD:Hid (Rl.gErr l k=(if Rl.waysErr x.ways=0 then Rl.rise (Rl.aheadP l k) x.port else Rl.waysErr x.ways)):=by
         rw[ai.o,ad];rfl
        have aO:=(aj.o X ag.o).wn;have aR:x.ways.length<=x.wcap:=(aj.o X ag.o).ways.1;have aQ:0<=x.port:=om
        clear ad ai;(go_wp2_with fail);go_loopw [6,46] (λa i ws=>∃j:Nat,j<=x.ways.length/\i=Iv j/\a=Iv (Rg.last (Rl.wv x.ways) j)/\Hid (Rg.wrongTo (Rl.wv x.ways) (λ_=>1) j=0)/\Hid (Bl X ws)) (λ_ i _=>x.ways.length-(intOf i).toNat)
        case atStart=>exact⟨0,om,rfl,rfl,rfl,ag⟩
        case round =>
         obtain⟨j,hj,rfl,rfl,an,hB⟩:=hrel;rename World=>ws
         by_cases hjl:j<x.ways.length
         ·obtain⟨b',aw,aE,_⟩:=(aj.o ws hB.o).ways.place om;have c0:ws.cell? (Pv b' (aw+j))=some (Iv (Rl.wv x.ways j)):=ILs.cell (cap:=x.wcap) (by rw[<-aE];exact(aj.o ws hB.o).ways) hjl;have aJ:Hid (Rg.wayErr (Rg.last (Rl.wv x.ways) j) (Rl.wv x.ways j) 1≠0->Rl.waysErr x.ways=Rg.wayErr (Rg.last (Rl.wv x.ways) j) (Rl.wv x.ways j) 1):=λh=>Rg.wrongTo_here (Rl.wv x.ways) (λ_=>1) j x.ways.length hjl an.o h;have aK:Hid (Rg.wayErr (Rg.last (Rl.wv x.ways) j) (Rl.wv x.ways j) 1=0->Rg.wrongTo (Rl.wv x.ways) (λ_=>1) (j+1)=0):=λh=>Rg.wrongTo_succ (Rl.wv x.ways) (λ_=>1) j an.o h;have HL:Hid (Rg.last (Rl.wv x.ways) (j+1)=Rl.wv x.ways j):=by show Rg.last (Rl.wv x.ways) (j+1)=Rl.wv x.ways j;unfold Rg.last;rw[iN om];rfl
          have ak:Hid (∀e,e≠0->Rg.wayErr (Rg.last (Rl.wv x.ways) j) (Rl.wv x.ways j) 1=e->Bk.firstTo (Rl.gErr l) l.length=(e,(k:Int))):=λe he h=>af.o e he (by
           have h2:=aJ.o (by rw[h];exact he);rw[aD.o,h2,h,iN he])
          clear an aJ;rw[aE];generalize Rg.last (Rl.wv x.ways) j=la at *;generalize Rl.wv x.ways j=v at *;by_cases g1:v<1
          ·have ac:Hid _:=ak.o 3 om (by unfold Rg.wayErr;rw[iN om]);(go_wp2_with fail);refine(aa.o 3 ws hB.o).mono ?_;rintro rr w9 ⟨rfl,HZ⟩;obtain⟨f0,f1,f2,f3⟩:=a0M HZ.o.2;(go_wp2_with fail);exact b0b (v:=.agg #[Iv 3,Iv k]) (a0b (p:=2) (ty:=37) results57 _ _ G 37 #[Iv 3,Iv k] (0,0) _ rfl (a0R HZ.o.2) underlying37 rfl (by rw[a0O];rfl)) rfl ⟨by rw[ae.o,ac.o],(HZ.o.1.setCell ab _).setCell ab _⟩
          ·by_cases g2:4094<v
           ·have ac:Hid _:=ak.o 3 om (by unfold Rg.wayErr;rw[iN om]);(go_wp2_with fail);refine(aa.o 3 ws hB.o).mono ?_;rintro rr w9 ⟨rfl,HZ⟩;obtain⟨f0,f1,f2,f3⟩:=a0M HZ.o.2;(go_wp2_with fail);exact b0b (v:=.agg #[Iv 3,Iv k]) (a0b (p:=2) (ty:=37) results57 _ _ G 37 #[Iv 3,Iv k] (0,0) _ rfl (a0R HZ.o.2) underlying37 rfl (by rw[a0O];rfl)) rfl ⟨by rw[ae.o,ac.o],(HZ.o.1.setCell ab _).setCell ab _⟩
           ·by_cases g3:v<=la
            ·have ac:Hid _:=ak.o 2 om (by unfold Rg.wayErr;rw[iP om,iP g3]);(go_wp2_with fail);refine(aa.o 2 ws hB.o).mono ?_;rintro rr w9 ⟨rfl,HZ⟩;obtain⟨f0,f1,f2,f3⟩:=a0M HZ.o.2;(go_wp2_with fail);exact b0b (v:=.agg #[Iv 2,Iv k]) (a0b (p:=2) (ty:=37) results57 _ _ G 37 #[Iv 2,Iv k] (0,0) _ rfl (a0R HZ.o.2) underlying37 rfl (by rw[a0O];rfl)) rfl ⟨by rw[ae.o,ac.o],(HZ.o.1.setCell ab _).setCell ab _⟩
            ·have HW:Hid (Rg.wayErr la v 1=0):=by show Rg.wayErr la v 1=0;unfold Rg.wayErr;rw[iP om,iN g3]
             (go_wp2_with fail);exact⟨⟨j+1,om,gn,by rw[HL.o],aK.o HW.o,hB⟩,io⟩
         ·obtain rfl:j=x.ways.length:=om
          have ar:Hid (Rl.gErr l k=Rl.rise (Rl.aheadP l k) x.port):=by
           rw[aD.o,iP (show Rl.waysErr x.ways=0 from an.o)];rfl
          obtain⟨i1,u0,u1,u2,u3⟩:=aF.o ws hB.o;clear an aD i0 d0 d1 d2 d3;by_cases hk0:k=0
          ·have aN:decide (0<k)=false:=b0j om;have ay:Hid _:=am.o (by rw[ar.o,ax.o hk0];unfold Rl.rise;rw[iN om]);have aq:Hid _:=ah.o ws hB.o;clear am af aC az ax hk0 aa aj ar;(go_wp2_with fail);(go_quiet (fail));(go_wp2_with fail);exact⟨⟨k+1,om,gn,ay,⟨a0d aq.o.1 _,aq.o.2⟩⟩,io⟩
          ·have aN:decide (0<k)=true:=b0k om;obtain⟨q,hq⟩:=nn (k-1)
           have wq:IntKind.i64.wrap ((k:Int)-1)=(q:Int):=by
            simp[IntKind.wrap,IntKind.bits,IntKind.signed];omega
           have iq:(0:Int)<=(q:Int):=om
           have nq:(q:Int)<(l.length:Int):=om
           have v0:=aC.o om ws hB.o;have au:Hid (Rl.gErr l k=Rl.rise (gat l q).port x.port):=(by rw[ar.o,az.o om,hq];rfl)
           rw[<-hq] at v0;clear hq aC az ax ar;generalize (gat l q).port=pq at *;have aq:Hid (∀n,Bl w (ws.drewN n)/\Bl X (ws.drewN n)):=λn=>⟨a0d (ah.o ws hB.o).1 n,a0d hB.o n⟩
           have aG:Hid _:=ah.o ws hB.o;by_cases ad:x.port<=pq
           ·have aM:decide (x.port<=pq)=true:=b0k ad;have ac:Hid _:=af.o 2 om (by rw[au.o];unfold Rl.rise;rw[iP ad]);clear am af aj au;(go_wp2_with fail);(go_quiet (fail));(go_wp2_with fail);refine(aa.o 2 _ (by first | exact(aq.o _).2 | exact b0i hB.o)).mono ?_;rintro rr w9 ⟨rfl,HZ⟩;obtain⟨f0,f1,f2,f3⟩:=a0M HZ.o.2;(go_wp2_with fail);exact b0b (v:=.agg #[Iv 2,Iv k]) (a0b (p:=2) (ty:=37) results57 _ _ G 37 #[Iv 2,Iv k] (0,0) _ rfl (a0R HZ.o.2) underlying37 rfl (by rw[a0O];rfl)) rfl ⟨by rw[ae.o,ac.o],(HZ.o.1.setCell ab _).setCell ab _⟩
           ·have aM:decide (x.port<=pq)=false:=b0j ad;have ay:Hid _:=am.o (by rw[au.o];unfold Rl.rise;rw[iN ad]);clear am af aj au aa;(go_wp2_with fail);(go_quiet (fail));(go_wp2_with fail);exact⟨⟨k+1,om,gn,ay,⟨a0d aG.o.1 _,aG.o.2⟩⟩,io⟩
  ·obtain rfl:k=l.length:=om
   have ac:Hid (Bk.firstTo (Rl.gErr l) l.length=(0,0)):=Bk.firstTo_none _ _ hS.o;obtain⟨f0,f1,f2,f3⟩:=a0M hX.o.2;clear al;(go_wp2_with fail);exact b0b (v:=.agg #[Iv 0,Iv 0]) (a0b (p:=2) (ty:=37) results57 _ _ G 37 #[Iv 0,Iv 0] (0,0) _ rfl (a0R hX.o.2) underlying37 rfl (by rw[a0O];rfl)) rfl ⟨by rw[ae.o,ac.o],(hX.o.1.setCell ab _).setCell ab _⟩
theorem a9k {s:ByteArray}(h:s.size=0):s=⟨#[]⟩:=by
 obtain⟨d⟩:=s;have:d.size=0:=h;rw[Array.eq_empty_of_size_eq_zero this]
theorem a4w (s:ByteArray) (aa:Int) (ao:OA) (n cap:Nat) (vs ts:Nat->Int) (w:World) (hn:n<=9223372036854775807) (hr:WayRow w ao n cap vs ts) :
  Calls prog 55 #[.agg #[.string s,Iv aa,.slice ao n cap]] w λe w'=>e=.returned (Iv (Rg.wrong s aa vs ts n))/\Bl w w':=by
 have HR:Hid (WayRow w ao n cap vs ts):=hr;clear hr;by_cases h0:s.size=0
 ·have e1:Rg.wrong s aa vs ts n=7:=by
   unfold Rg.wrong Rg.isName;simp[h0]
  have hs:=a9k h0;subst hs;rw[e1];go_enter func55,ntmps55;go_wp2
  go_ret;exact⟨rfl,bA1 _ _⟩
 ·have am:¬s.toList=[]:=by
   intro h;rw[ByteArray.toList_eq] at h;exact h0 (by show s.data.size=0;rw[<-Array.length_toList,h];rfl)
  have ax:(s.toList == [])=false:=(by simpa using am)
  have aw:decide (s.toList=[])=false:=b0j am;by_cases h1:(32:Int)<s.size
  ·have e1:Rg.wrong s aa vs ts n=7:=by
    have:¬s.size<=32:=om
    unfold Rg.wrong Rg.isName;simp[this]
   rw[e1];go_enter func55,ntmps55;go_wp2
   go_ret;exact⟨rfl,bA1 _ _⟩
  ·have ak:s.size<=32:=om
   have ap:Hid (Rg.isName s=!Rg.anyOdd (Rg.nb s) s.size):=by
    show _=_;unfold Rg.isName;rw[b0k (show 1<=s.size by omega),b0k ak];rfl
   obtain⟨aj,aC,w1,ac,ag,ai,az,_,_,_⟩:=a3l (w.alloc (.cells #[.string s,Iv aa,.slice ao n cap] 63)) s;have au:(w.alloc (.cells #[.string s,Iv aa,.slice ao n cap] 63)).heap.size=w.heap.size+1:=(by simp)
   unfold Bl at ai;rw[au] at ac ag ai az;have al:Hid (ByteRow w1 (some (Pv (w.heap.size+1) 0)) s.size aj (Rg.nb s)):=ag;have ar:=ag.1;have HW:Hid (∀W,Below (w.heap.size+1) w1 W->W.cell? (Pv w.heap.size 1)=some (Iv aa)/\W.cell? (Pv w.heap.size 2)=some (.slice ao n cap)/\WayRow W ao n cap vs ts/\Bl w W):=by
    intro W hW;have an:=ai.trans hW;have h:=a2d ((an.block w.heap.size om).trans (a9Z w (.cells #[.string s,Iv aa,.slice ao n cap] 63)));have hl:Bl w W:=(bA1 w _).trans (an.mono om);exact⟨h.2.1,h.2.2,HR.o.below hl,hl⟩
   clear ag ai au HR;go_enter func55,ntmps55;(go_wp2_with fail);go_loopw [21] (λi wr=>∃k:Nat,k<=s.size/\i=Iv k/\Hid (Rg.anyOdd (Rg.nb s) k=false)/\wr=w1) (λi _=>s.size-(intOf i).toNat)
   case atStart=>exact⟨0,om,rfl,rfl,rfl⟩
   case round =>
    obtain⟨k,hk,rfl,hX,rfl⟩:=hrel;by_cases hlt:k<s.size
    ·obtain⟨b,off,e0,_,hc⟩:=al.o.2 om;cases e0
     have c4:wr.cell? (Pv (w.heap.size+1) k)=some (.int .u8 (Rg.nb s k)):=(by have:=hc k hlt;rw[Nat.zero_add] at this;exact this)
     have aq:Hid (Rg.odd (Rg.nb s k)=true->Rg.wrong s aa vs ts n=7):=by
      intro h;unfold Rg.wrong;rw[ap.o,Rg.anyOdd_here (Rg.nb s) k s.size hlt h];rfl
     have aB:Hid (Rg.odd (Rg.nb s k)=false->Rg.anyOdd (Rg.nb s) (k+1)=false):=λh=>Rg.anyOdd_next (Rg.nb s) k hX.o h;have HL:Hid (Bl w wr):=(HW.o _ (b0h _ _)).2.2.2;clear hc al hX ac HW;generalize Rg.nb s k=c at *;by_cases q1:c<32
     ·have ho:Hid (Rg.odd c=true):=by show _=_;unfold Rg.odd;simp[q1]
      go_wp2
      go_ret;exact⟨by rw[aq.o ho.o];rfl,HL.o⟩
     ·by_cases q2:126<c
      ·have ho:Hid (Rg.odd c=true):=by show _=_;unfold Rg.odd;simp[q2]
       go_wp2
       go_ret;exact⟨by rw[aq.o ho.o];rfl,HL.o⟩
      ·have ho:Hid (Rg.odd c=false):=by show _=_;unfold Rg.odd;simp[q1,q2]
       go_wp2
       exact⟨⟨k+1,om,gn,aB.o ho.o,trivial⟩,io⟩
    ·obtain rfl:k=s.size:=om
     have HN:Hid (Rg.isName s=true):=(by rw[ap.o,hX.o];rfl)
     clear hX ac al;by_cases q1:0<=aa/\aa<=65535
     ·have HE:Hid (Rg.wrong s aa vs ts n=Rg.wrongTo vs ts n):=by show _=_;unfold Rg.wrong;rw[iP HN.o,iP q1]
      obtain⟨q2,q3⟩:=q1;obtain⟨d1,d2,_,_⟩:=HW.o _ (b0h _ _);rename World=>w2
      (go_wp2_with fail);go_loopw [5,43] (λa i wr=>∃k:Nat,k<=n/\i=Iv k/\a=Iv (Rg.last vs k)/\Hid (Rg.wrongTo vs ts k=0)/\Hid (Below (w.heap.size+1) w2 wr)) (λ_ i _=>n-(intOf i).toNat)
      case atStart=>exact⟨0,om,rfl,rfl,rfl,b0h _ _⟩
      case round =>
       obtain⟨k,hk,rfl,rfl,hX,hB⟩:=hrel;by_cases hlt:k<n
       ·obtain⟨_,_,ad,ab⟩:=HW.o _ hB.o;obtain⟨b,off,rfl,hb,hc⟩:=ad.2 om;have av:=ad.1;have c0:wr.cell? (Pv b (off+k*2))=some (Iv (vs k)):=(hc k hlt).1;have c1:wr.cell? (Pv b (off+k*2+1))=some (Iv (ts k)):=(hc k hlt).2;have ae:Hid (Rg.wayErr (Rg.last vs k) (vs k) (ts k)≠0->Rg.wrong s aa vs ts n=Rg.wayErr (Rg.last vs k) (vs k) (ts k)):=λh=>HE.o.trans (Rg.wrongTo_here vs ts k n hlt hX.o h);have HZ:Hid (Rg.wayErr (Rg.last vs k) (vs k) (ts k)=0->Rg.wrongTo vs ts (k+1)=0):=λh=>Rg.wrongTo_succ vs ts k hX.o h;have HL:Hid (Rg.last vs (k+1)=vs k):=by show Rg.last vs (k+1)=vs k;unfold Rg.last;rw[iN om];rfl
        have af:Hid (∀o,Bl w (wr.alloc o)):=λo=>ab.alloc ab.size _;have ay:Hid (∀o,Below (w.heap.size+1) w2 (wr.alloc o)):=λo=>hB.o.alloc (by have:=hB.o.size;omega) _;clear hc ad ab hX hB HE HW;generalize Rg.last vs k=l at *;generalize vs k=v at *;generalize ts k=t at *;by_cases g1:v<1
        ·have HW:Hid (Rg.wayErr l v t=3):=by show Rg.wayErr l v t=3;unfold Rg.wayErr;rw[iN om]
         go_wp2
         go_ret;exact⟨by rw[ae.o (by rw[HW.o];decide),HW.o];rfl,af.o _⟩
        ·by_cases g2:4094<v
         ·have HW:Hid (Rg.wayErr l v t=3):=by show Rg.wayErr l v t=3;unfold Rg.wayErr;rw[iN om]
          go_wp2
          go_ret;exact⟨by rw[ae.o (by rw[HW.o];decide),HW.o];rfl,af.o _⟩
         ·by_cases g3:t<1
          ·have HW:Hid (Rg.wayErr l v t=3):=by show Rg.wayErr l v t=3;unfold Rg.wayErr;rw[iN om]
           go_wp2
           go_ret;exact⟨by rw[ae.o (by rw[HW.o];decide),HW.o];rfl,af.o _⟩
          ·by_cases g4:15<t
           ·have HW:Hid (Rg.wayErr l v t=3):=by show Rg.wayErr l v t=3;unfold Rg.wayErr;rw[iN om]
            go_wp2
            go_ret;exact⟨by rw[ae.o (by rw[HW.o];decide),HW.o];rfl,af.o _⟩
           ·by_cases g5:v<=l
            ·have HW:Hid (Rg.wayErr l v t=2):=by show Rg.wayErr l v t=2;unfold Rg.wayErr;rw[iP om,iP g5]
             go_wp2
             go_ret;exact⟨by rw[ae.o (by rw[HW.o];decide),HW.o];rfl,af.o _⟩
            ·have HW:Hid (Rg.wayErr l v t=0):=by show Rg.wayErr l v t=0;unfold Rg.wayErr;rw[iP om,iN g5]
             go_wp2
             exact⟨⟨k+1,om,gn,by rw[HL.o],HZ.o HW.o,ay.o _⟩,io⟩
       ·obtain rfl:k=n:=om
        have ah:Hid (Bl w wr):=(HW.o _ hB.o).2.2.2;go_wp2
        go_ret;exact⟨by rw[HE.o,hX.o];rfl,ah.o⟩
     ·have HE:Hid (Rg.wrong s aa vs ts n=3):=by show _=_;unfold Rg.wrong;rw[iP HN.o,iN q1]
      obtain⟨d1,d2,_,ab⟩:=HW.o _ (b0h _ _);have ah:Hid (Bl w wr):=ab;clear ab HW;by_cases q2:aa<0
      ·clear q1;go_wp2
       go_ret;exact⟨by rw[HE.o];rfl,ah.o⟩
      ·have q3:65535<aa:=om
       clear q1;go_wp2
       go_ret;exact⟨by rw[HE.o];rfl,ah.o⟩
