/- TF3 -/
import Derived.Test.YtelebnancdjjiaaGreatDoorE26
set_option maxRecDepth 100000
set_option maxHeartbeats 40000000
namespace Go.Proofs.YtelebnancdjjiaaGreatDoor
section
open Go.Proofs.Tryz Go.RowKit
open Vc(V Of)
open Pl(En Lk Br Net Pc)
open Tk(Md Mnd)
def Bz (N:Nat->Prop) (w:World) (P:World->Prop):Prop:=∀V,(∀q,q<w.heap.size->¬N q->V.heap[q]?=w.heap[q]?)->P V
theorem Bz.here {N:Nat->Prop}{w:World}{P:World->Prop}(h:Bz N w P):P w:=h w (λ_ _ _=>rfl)
theorem Bz.below {N:Nat->Prop}{w w':World}{P:World->Prop}(h:Bz N w P) (hb:Bl w w'):Bz N w' P:=λV hV=>h V (λq h1 h2=>(hV q (b0q h1 hb.size) h2).trans (hb.block q h1))
theorem Bz.at' {N:Nat->Prop}{w w':World}{P:World->Prop}(h:Bz N w P) (hb:Bl w w'):P w':=(h.below hb).here
theorem Bz.imp {N:Nat->Prop}{w:World}{P Q:World->Prop}(h:Bz N w P) (hi:∀V,P V->Q V):Bz N w Q:=λV hV=>hi V (h V hV)
theorem Bz.of {N M:Nat->Prop}{w:World}{P:World->Prop}(h:Bz N w P) (hi:∀q,M q->N q):Bz M w P:=λV hV=>h V (λq h1 h2=>hV q h1 (λz=>h2 (hi q z)))
theorem Bz.set {N:Nat->Prop}{w:World}{P:World->Prop}(h:Bz N w P) {g o:Nat}{v:Value}(hg:N g):Bz N (w.setCell (Pv g o) v) P:=λV hV=>h V (λq h1 h2=>(hV q (by simpa using h1) h2).trans (b0f _ _ _ _ (by show q≠g;intro e;rw[e] at h2;exact h2 hg)))
theorem Bz.more {N M:Nat->Prop}{w w':World}{P:World->Prop}(h:Bz N w P) (hb:Bl w w') (hM:∀q,M q->w.heap.size<=q):Bz (λq=>N q\/M q) w' P:=λV hV=>h V (λq h1 h2=>(hV q (b0q h1 hb.size) (λz=>by rcases z with z | z;exact h2 z;have:=hM q z;omega)).trans (hb.block q h1))
structure RkI (W:World) (base:Nat) (m:Mi):Prop where
 roles:W.ownsRow base 3 1 (.slice m.ro m.roles.length m.rc) m.roles.length (a0j m.roles)
 calm:W.ownsRow base 3 1 (.slice m.co m.calm.length m.cc) m.calm.length (a0j m.calm)
structure RkM (W:World) (base:Nat) (v:Value) (l:List Mi):Prop where
 row:W.ownsRow base 117 9 v l.length (a0f l.length 9 (λi=>miC (mat l i)))
 each:∀m∈l,RkI W base m
structure RkT (W:World) (base:Nat) (v:Value) (t:List Tr):Prop where
 row:W.ownsRow base 112 1 v t.length (a0f t.length 1 (λk _=>.slice (tat t k).ao (tat t k).l.length (tat t k).cap))
 each:∀x∈t,RkM W base (.slice x.ao x.l.length x.cap) x.l
theorem RkI.keep {W W':World}{base:Nat}{m:Mi}(h:RkI W base m) (hk:∀(q:Nat) (aa:Array Value),base<=q->W.heap[q]?=some (Obj.cells aa 3)->W'.heap[q]?=W.heap[q]?):RkI W' base m :=
 ⟨a0A h.roles (λq hq=>by obtain⟨aa,hc⟩:=a0z h.roles hq;exact hk q aa (oCb h.roles q hq).1 hc),a0A h.calm (λq hq=>by obtain⟨aa,hc⟩:=a0z h.calm hq;exact hk q aa (oCb h.calm q hq).1 hc)⟩
theorem RkM.keep {W W':World}{base:Nat}{v:Value}{l:List Mi}(h:RkM W base v l) (hk:∀(q:Nat) (aa:Array Value) (ty:TypeId),base<=q->W.heap[q]?=some (Obj.cells aa ty (0,0))->ty=3\/ty=117->W'.heap[q]?=W.heap[q]?):RkM W' base v l :=
 ⟨a0A h.row (λq hq=>by obtain⟨aa,hc⟩:=a0z h.row hq;exact hk q aa _ (oCb h.row q hq).1 hc (Or.inr rfl)),λm hm=>(h.each m hm).keep (λq aa hb hc=>hk q aa _ hb hc (Or.inl rfl))⟩
theorem RkT.keep {W W':World}{base:Nat}{v:Value}{t:List Tr}(h:RkT W base v t) (hk:∀(q:Nat) (aa:Array Value) (ty:TypeId),base<=q->W.heap[q]?=some (Obj.cells aa ty (0,0))->ty=3\/ty=117\/ty=112->W'.heap[q]?=W.heap[q]?):RkT W' base v t :=
 ⟨a0A h.row (λq hq=>by obtain⟨aa,hc⟩:=a0z h.row hq;exact hk q aa _ (oCb h.row q hq).1 hc (Or.inr (Or.inr rfl))),λx hx=>(h.each x hx).keep (λq aa ty hb hc ht=>hk q aa ty hb hc (by rcases ht with e | e;exact Or.inl e;exact Or.inr (Or.inl e)))⟩
theorem RkI.below {W W':World}{base:Nat}{m:Mi}(h:RkI W base m) (hb:Bl W W'):RkI W' base m:=h.keep (λq _ _ hc=>hb.block q (a1a hc))
theorem RkM.below {W W':World}{base:Nat}{v:Value}{l:List Mi}(h:RkM W base v l) (hb:Bl W W'):RkM W' base v l:=h.keep (λq _ _ _ hc _=>hb.block q (a1a hc))
theorem RkT.below {W W':World}{base:Nat}{v:Value}{t:List Tr}(h:RkT W base v t) (hb:Bl W W'):RkT W' base v t:=h.keep (λq _ _ _ hc _=>hb.block q (a1a hc))
theorem RkI.mono {W:World}{base aa:Nat}{m:Mi}(h:RkI W base m) (hb:aa<=base):RkI W aa m:=⟨a0v h.roles hb,a0v h.calm hb⟩
theorem RkM.mono {W:World}{base aa:Nat}{v:Value}{l:List Mi}(h:RkM W base v l) (hb:aa<=base):RkM W aa v l:=⟨a0v h.row hb,λm hm=>(h.each m hm).mono hb⟩
theorem RkM.nil (W:World) (base:Nat):RkM W base sN []:=⟨a0y _ _ _ _ _,λm h=>by simp at h⟩
theorem RkT.nil (W:World) (base:Nat):RkT W base sN []:=⟨a0y _ _ _ _ _,λm h=>by simp at h⟩
theorem more_k (base:Nat) (W:World) (v:Value) (l:List Mi) (x:Mi) (ho:RkM W base v l) (hx:RkI W base x) (hl:l.length<=1000) (aa:base<=W.heap.size) :
  ∃a c W2,a4Y v (.slice (some (Pv W.heap.size 0)) 1 1) (W.alloc (.cells (miA x) 117)) (.slice a (l++[x]).length c) W2/\RkM W2 base (.slice a (l++[x]).length c) (l++[x])/\Below base W W2:=by
 have ab:=bA1 W (.cells (miA x) 117);have ac:=ho.below ab;have af:=hx.below ab;obtain⟨a1,c1,w',r,o,b,q⟩:=a0E (W.alloc (.cells (miA x) 117)) 112 117 _ 9 120 underlying112 infoMn rfl om base v l.length _ ac.row (some (Pv W.heap.size 0)) 1 1 (λ_=>miC x) (λ_ _=>a9s _ _) (a6S (a9Z W _)) (λh=>by cases h) (by unfold maxLen;omega) om (by have:=ab.size;omega);have e:l.length+1=(l++[x]).length:=(by simp)
 rw[e] at r o;refine⟨a1,c1,w',r,⟨?_,?_⟩,(ab.mono aa).trans b⟩
 ·rw[a0k _ 9 _ (λi=>miC (mat (l++[x]) i))] at o
  ·exact o
  ·intro i hi;unfold catC;by_cases h:i<l.length
   ·rw[iP h,a3C l _ i h]
   ·have ae:i=l.length:=(by simp at hi;omega)
    subst ae;rw[iN om,a3f l _ _ (b0g _),Nat.sub_self];rfl
 ·have hk:∀(g:Nat) (ad:Array Value),base<=g->(W.alloc (.cells (miA x) 117)).heap[g]?=some (Obj.cells ad 3)->w'.heap[g]?=(W.alloc (.cells (miA x) 117)).heap[g]?:=λg ad _ hg=>by
   refine q g (a1a hg) (λhv => ?_);obtain⟨c2,h2⟩:=a0z ac.row hv.symm;exact absurd (a1j hg h2) dd
  intro y hy;rcases List.mem_append.1 hy with h | h
  ·exact(ac.each y h).keep hk
  ·have:y=x:=by simpa using h
   subst this;exact af.keep hk
theorem infoMt:(prog.info? 112).map (λi=>(i.zero,i.size,i.bytes))=some (some sN,1,24):=by kernel_rfl
theorem a5b (l m:List Tr) (i:Nat) (h:i<l.length):tat (l++m) i=tat l i:=by
 simp[tat,h,List.getElem?_append_left]
theorem a3Y (l m:List Tr) (i:Nat) (h:l.length<=i):tat (l++m) i=tat m (i-l.length):=by
 simp[tat,h,List.getElem?_append_right]
theorem a9x {w:World}{g:Nat}{x:Value}{ty:TypeId}(h:w.heap[g]?=some (.cells #[x] ty (0,0))):CRow w (some (Pv g 0)) 1 1 1 (λ_ _=>x):=by
 refine⟨b0g _,λ_=>⟨g,0,rfl,(gSm.1 h).1,λi hi j hj => ?_⟩⟩;obtain rfl:i=0:=om
 obtain rfl:j=0:=om
 exact a9Y w g 0 _ _ _ h
theorem more_r (base:Nat) (W:World) (v:Value) (t:List Tr) (x:Tr) (ho:RkT W base v t) (hx:RkM W base (.slice x.ao x.l.length x.cap) x.l) (hl:t.length<=1000) (ac:base<=W.heap.size) :
  ∃a c W2,(Builtin.append_ #[32,32] 32 #[v,.slice (some (Pv W.heap.size 0)) 1 1]).run prog (W.alloc (.cells #[.slice x.ao x.l.length x.cap] 112))=.ok (.slice a (t++[x]).length c) W2/\RkT W2 base (.slice a (t++[x]).length c) (t++[x])/\Below base W W2/\(∀(q:Nat) (aa:Array Value) (ty:TypeId),W.heap[q]?=some (Obj.cells aa ty (0,0))->ty≠112->W2.heap[q]?=some (Obj.cells aa ty (0,0))):=by
 have ab:=bA1 W (.cells #[.slice x.ao x.l.length x.cap] 112);have ae:=ho.below ab;have ah:=hx.below ab;obtain⟨a1,c1,w',r,o,b,q⟩:=a0E (W.alloc (.cells #[.slice x.ao x.l.length x.cap] 112)) 32 112 _ 1 24 underlying32 infoMt rfl om base v t.length _ ae.row (some (Pv W.heap.size 0)) 1 1 (λ_ _=>.slice x.ao x.l.length x.cap) (λ_ _=>rfl) (a9x (a9Z W _)) (λh=>by cases h) (by unfold maxLen;omega) om (by have:=ab.size;omega);have e:t.length+1=(t++[x]).length:=(by simp)
 rw[e] at r o;have hk:∀(g:Nat) (aa:Array Value) (ty:TypeId),(W.alloc (.cells #[.slice x.ao x.l.length x.cap] 112)).heap[g]?=some (Obj.cells aa ty (0,0))->ty≠112->w'.heap[g]?=(W.alloc (.cells #[.slice x.ao x.l.length x.cap] 112)).heap[g]?:=λg aa ty hg ad=>by
  refine q g (a1a hg) (λhv => ?_);obtain⟨c2,h2⟩:=a0z ae.row hv.symm;exact ad (a1j hg h2)
 refine⟨a1,c1,w',r,⟨?_,?_⟩,(ab.mono ac).trans b,λg aa ty hg ad=>(hk g aa ty (keep hg ab) ad).trans (keep hg ab)⟩
 ·rw[a0k _ 1 _ (λk _=>.slice (tat (t++[x]) k).ao (tat (t++[x]) k).l.length (tat (t++[x]) k).cap)] at o
  ·exact o
  ·intro i hi;unfold catC;by_cases h:i<t.length
   ·rw[iP h,a5b t _ i h]
   ·have ag:i=t.length:=(by simp at hi;omega)
    subst ag;rw[iN om,a3Y t _ _ (b0g _),Nat.sub_self];rfl
 ·intro y hy;have af:∀(g:Nat) (aa:Array Value) (ty:TypeId),base<=g->(W.alloc (.cells #[.slice x.ao x.l.length x.cap] 112)).heap[g]?=some (Obj.cells aa ty (0,0))->ty=3\/ty=117->w'.heap[g]?=(W.alloc (.cells #[.slice x.ao x.l.length x.cap] 112)).heap[g]?:=λg aa ty _ hg ht=>hk g aa ty hg (by rcases ht with e | e<;>rw[e]<;>decide);rcases List.mem_append.1 hy with h | h
  ·exact(ae.each y h).keep af
  ·have:y=x:=by simpa using h
   subst this;exact ah.keep af
theorem a9y {l:List Tr}{i:Nat}(h:i<l.length):tat l i∈l:=by
 have:tat l i=l[i]:=by simp[tat,h]
 rw[this];exact List.getElem_mem h
theorem a2Q {W:World}{base:Nat}{a:OA}{c:Nat}{x:List Int}(h:W.ownsRow base 3 1 (.slice a x.length c) x.length (a0j x)):ILs W a c x/\x.length<=9223372036854775807:=by
 obtain⟨ab,aa,e',h1,_,_⟩:=a0W om h;injection e' with e1 _ e2;subst e1 e2;exact⟨h1,a6L h⟩
theorem RkT.row' {W:World}{base:Nat}{ao:OA}{cap:Nat}{t:List Tr}(h:RkT W base (.slice ao t.length cap) t) (hl:t.length<=1000) (hm:∀k,k<t.length->(tat t k).l.length<=1000) (hp:∀k,k<t.length->∀i,i<(tat t k).l.length->ILs W (mat (tat t k).l i).po (mat (tat t k).l i).pc (mat (tat t k).l i).ports/\(mat (tat t k).l i).ports.length<=9223372036854775807):TrRow W ao cap t:=by
 refine⟨(a2A om h.row).2,λk hk => ?_,om⟩;have hx:=h.each _ (a9y hk);refine⟨(a2A om hx.row).2,λi hi => ?_,by have:=hm k hk;omega⟩;have aa:=hx.each _ (a9r hi);exact⟨(hp k hk i hi).1,(a2Q aa.roles).1,(a2Q aa.calm).1,(hp k hk i hi).2,(a2Q aa.roles).2,(a2Q aa.calm).2⟩
structure a5c (n:Net) (ids:Nat->Int) (l:List Mi) (i:Nat) (m:Mi):Prop where
 po:m.po=(mat l i).po/\m.pc=(mat l i).pc/\m.ports=(mat l i).ports
 mnd:(⟨m.md,m.roles,m.calm⟩:Mnd)=Tk.tickF ids n.ends (λj=>⟨(mat l j).md,(mat l j).roles,(mat l j).calm⟩) i
def a5H (n:Net) (ids:Nat->Int) (l l':List Mi):Prop:=l'.length=n.K/\∀i,i<n.K->a5c n ids l i (mat l' i)
theorem tick_row {N:Nat->Prop}{w W:World}{n:Net}{t t':List Tr}{oao ao:OA}{ocap cap:Nat}(hN:∀q,N q->q<w.heap.size) (ht:Bz N w (λV=>TrRow V oao ocap t)) (hf:∀k,k<t.length->(tat t k).l.length=n.K) (h4:t.length<=4) (hK:n.K<=12) (hb:Bl w W)
  (h:RkT W w.heap.size (.slice ao t'.length cap) t') (hl:t'.length=t.length) (he:∀k,k<t.length->a5H n (n.ids k) (tat t k).l (tat t' k).l):Bz N W (λV=>TrRow V ao cap t'):=λV hV=>by
 have ho:TrRow V oao ocap t:=ht V (λq h1 h2=>(hV q (b0q h1 hb.size) h2).trans (hb.block q h1));have hk:RkT V w.heap.size (.slice ao t'.length cap) t':=h.keep (λq _ _ hq hc _=>hV q (a1a hc) (λz=>by have:=hN q z;omega));refine hk.row' om (λk hk=>by rw[(he k om).1];omega) (λk hk i hi => ?_);obtain⟨e1,e2⟩:=he k om;have aa:i<n.K:=(by rw[<-e1];exact hi)
 obtain⟨p1,p2,p3⟩:=(e2 i aa).po;have hm:=(ho.each k om).each i (by rw[hf k om];exact aa);rw[p1,p2,p3];exact⟨hm.ports,hm.pn⟩
theorem a9z (w:World) (t e:TypeId) (z:Value) (k bytes:Nat) (ht:prog.underlying t=some (.slice e)) (ab:(prog.info? e).map (λi=>(i.zero,i.size,i.bytes))=some (some z,k,bytes)) (ag:z.cells.size=k) (hk:0<k)
  (base:Nat) (v:Value) (n:Nat) (c:Nat->Nat->Value) (ac:w.ownsRow base e k v n (a0f n k c)) (ad:Addr) (m cp:Nat) (d:Nat->Nat->Value) (hd:∀i j,(d i j).oneCell'=true) (hr:CRow w (some ad) m cp k d) (ai:n+m<=maxLen) (hb:(n+m)*bytes<=140737488355328) (aa:base<=w.heap.size) :
  ∃a1 c1 w',(Builtin.append_ #[t,t] t #[v,.slice (some ad) m cp]).run prog w=.ok (.slice a1 (n+m) c1) w'/\w'.ownsRow base e k (.slice a1 (n+m) c1) (n+m) (a0f (n+m) k (catC n c d))/\w.grownBy w' v.ownBlock/\Below base w w'/\((Value.slice a1 (n+m) c1).ownBlock=v.ownBlock\/(Value.slice a1 (n+m) c1).ownBlock=some w.heap.size):=by
 obtain⟨i0,hi,aj,ah,af⟩:=info_parts ab;obtain⟨v',w',ae,h1,h2,_,h3⟩:=run_append_own_at (P:=prog) w base t t e i0 z k bytes ht hi aj ah af ag hk v n _ ac ad m cp (a0f m k d) (a0p _ _ _) (a5d hk hr rfl) (a4h _ _ _ hd) ai hb aa;rw[a2E n m k hk] at h1;obtain⟨a1,c1,rfl,_⟩:=a0W hk h1;exact⟨a1,c1,w',ae,h1,h2,(b0h _ _).grown h2 aa (λq hq=>(oCb ac q hq).1),h3⟩
theorem a0S:(prog.info? 37).map (·.size)=some 2:=by kernel_rfl
theorem a1d {w:World}{g:Nat}{a0 a1 v0 v1:Value}{ty:TypeId}(h:w.heap[g]?=some (.cells #[a0,a1] ty (0,0))):((w.setCell (Pv g 0) v0).setCell (Pv g 1) v1).heap[g]?=some (.cells #[v0,v1] ty (0,0)):=by
 have h0:(w.setCell (Pv g 0) v0).heap[g]?=some (.cells #[v0,a1] ty (0,0)):=(by rw[b0e _ _ _ _ _ _ h];rfl)
 rw[b0e _ _ _ _ _ _ h0];rfl
theorem a0I {w:World}{g:Nat}{a0 a1:Value}{ty:TypeId}(h:w.heap[g]?=some (.cells #[a0,a1] ty (0,0))):w.cell? (Pv g 0)=some a0/\w.cell? (Pv g 1)=some a1/\w.frozen? (Pv g 0)=false/\w.frozen? (Pv g 1)=false :=
 ⟨a9Y w g 0 _ _ _ h,a9Y w g 1 _ _ _ h,b0a _ _ _ _ _ h,b0a _ _ _ _ _ h⟩
theorem a2u {W:World}{q:Nat}{o:Obj}(h:W.heap[q]?=some o):q<W.heap.size:=(gSm.1 h).1
theorem a0D {w:World}{g j o:Nat}{v:Value}{x:Obj}(h:w.heap[g]?=some x) (aa:g≠j):(w.setCell (Pv j o) v).heap[g]?=some x :=
 (b0f _ _ _ _ (by exact aa)).trans h
theorem pup {w W W':World}{b:Nat}(h:Below b w W) (k:Bl W W') (hb:b<=W.heap.size):Below b w W':=h.trans (k.mono hb)
theorem pwrong_b {n:Net}(hf:¬(12<n.K\/40<n.L)) {k:Nat}{e:Int}(hk:k<n.K) (h0:∀j,j<k->Pl.bErr n.bs j=0) (he:e≠0) (h:Pl.bErr n.bs k=e):n.wrong=(e,(k:Int)):=by
 have h1:=Pl.firstTo_here (Pl.bErr n.bs) k h0 (by rw[h];exact he) n.K hk;rw[h] at h1;unfold Pl.Net.wrong;rw[iN hf,h1,iP he]
theorem pwrong_l {n:Net}(hf:¬(12<n.K\/40<n.L)) (hb:∀j,j<n.K->Pl.bErr n.bs j=0) {k:Nat}{e:Int}(hk:k<n.L) (h0:∀j,j<k->Pl.lErr n.K n.ls j=0) (he:e≠0) (h:Pl.lErr n.K n.ls k=e):n.wrong=(e,(k:Int)):=by
 have h1:=Pl.firstTo_here (Pl.lErr n.K n.ls) k h0 (by rw[h];exact he) n.L hk;rw[h] at h1;unfold Pl.Net.wrong;rw[iN hf,Pl.firstTo_all _ _ hb,iN (λz=>z rfl),h1]
theorem pwrong_0 {n:Net}(hf:¬(12<n.K\/40<n.L)) (hb:∀j,j<n.K->Pl.bErr n.bs j=0) (hl:∀j,j<n.L->Pl.lErr n.K n.ls j=0):n.wrong=(0,0):=by
 unfold Pl.Net.wrong;rw[iN hf,Pl.firstTo_all _ _ hb,iN (λz=>z rfl),Pl.firstTo_all _ _ hl]
theorem upto {f:Nat->Int}{k:Nat}(h:∀j,j<k->f j=0) (hk:f k=0):∀j,j<k+1->f j=0:=λj hj=>by
 by_cases e:j=k
 ·subst e;exact hk
 ·exact h j om
theorem had_7 {K:Nat}{ls:Nat->Lk}{k m q:Nat}(hk:Pl.lkErr K (ls k)=0) (hm:m<2) (hq:q<2*k+m) (he:a0r ls q=a0r ls (2*k+m)):Pl.lErr K ls k=7:=by
 have ab:(ls k).a≠(ls k).b:=by
  intro e;unfold Pl.lkErr at hk;rw[iP e] at hk;split at hk
  ·cases hk
  ·cases hk
 have aa:q<2*k:=by
  rcases(by omega:q<2*k\/q=2*k/\m=1) with h | ⟨rfl,rfl⟩
  ·exact h
  ·rw[a1w,a1R] at he;injection he with h1 _;exact absurd h1 ab
 unfold Pl.lErr;rw[iN (λz=>z hk),iP];rw[Pl.someTo_iff];rcases(by omega:m=0\/m=1) with rfl | rfl
 ·rw[Nat.add_zero,a1w] at he;obtain⟨i,hi,h⟩:=(a2j ls _ _ k).1 (Pl.someTo_iff.2 ⟨q,aa,b0k he⟩);exact⟨i,hi,by simp[h]⟩
 ·rw[a1R] at he;obtain⟨i,hi,h⟩:=(a2j ls _ _ k).1 (Pl.someTo_iff.2 ⟨q,aa,b0k he⟩);exact⟨i,hi,by simp[h]⟩
theorem had_0 {K:Nat}{ls:Nat->Lk}{k:Nat}(hk:Pl.lkErr K (ls k)=0) (h0:∀q,q<2*k->a0r ls q≠a0r ls (2*k)) (h1:∀q,q<2*k+1->a0r ls q≠a0r ls (2*k+1)):Pl.lErr K ls k=0:=by
 unfold Pl.lErr;rw[iN (λz=>z hk),iN];rw[Pl.someTo_iff];rintro⟨i,hi,h⟩;rw[Bool.or_eq_true] at h;rw[a1w] at h0;rw[a1R] at h1;rcases h with h | h
 ·obtain⟨q,hq,h⟩:=Pl.someTo_iff.1 ((a2j ls _ _ k).2 ⟨i,hi,h⟩);exact h0 q hq (b0o h)
 ·obtain⟨q,hq,h⟩:=Pl.someTo_iff.1 ((a2j ls _ _ k).2 ⟨i,hi,h⟩);exact h1 q om (b0o h)
def ptC (ls:Nat->Lk) (q j:Nat):Value:=if j=0 then Iv (a0r ls q).1 else Iv (a0r ls q).2
theorem ptC_one (ls:Nat->Lk) (q j:Nat):(ptC ls q j).oneCell'=true:=by unfold ptC;split<;>rfl
theorem infoPt:(prog.info? 75).map (λi=>(i.zero,i.size,i.bytes))=some (some (.agg #[Iv 0,Iv 0]),2,16):=by kernel_rfl
theorem one_pt {w:World}{g:Nat}{ls:Nat->Lk}{q:Nat}{ty:TypeId}(h:w.heap[g]?=some (.cells #[Iv (a0r ls q).1,Iv (a0r ls q).2] ty (0,0))):CRow w (some (Pv g 0)) 1 1 2 (λ_=>ptC ls q):=by
 refine⟨b0g _,λ_=>⟨g,0,rfl,(gSm.1 h).1,λi hi j hj => ?_⟩⟩;obtain rfl:i=0:=om
 rcases(by omega:j=0\/j=1) with e | e<;>subst e<;>exact a9Y w g _ _ _ _ h
theorem had_more {W:World}{base:Nat}{ls:Nat->Lk}{q:Nat}{v:Value}(h:W.ownsRow base 75 2 v q (a0f q 2 (ptC ls))) (hb:base<=W.heap.size) (hq:q<=1000) :
  ∃a1 c1 w2,(Builtin.append_ #[129,129] 129 #[v,.slice (some (Pv W.heap.size 0)) 1 1]).run prog (W.alloc (.cells #[Iv (a0r ls q).1,Iv (a0r ls q).2] 75))=.ok (.slice a1 (q+1) c1) w2/\w2.ownsRow base 75 2 (.slice a1 (q+1) c1) (q+1) (a0f (q+1) 2 (ptC ls))/\Below base W w2/\(∀b,b<W.heap.size->v.ownBlock≠some b->w2.heap[b]?=W.heap[b]?)/\(∀b,(Value.slice a1 (q+1) c1).ownBlock=some b->v.ownBlock=some b\/W.heap.size<=b)/\W.heap.size<=w2.heap.size:=by
 obtain⟨C,hC⟩:=nn (W.alloc (.cells #[Iv (a0r ls q).1,Iv (a0r ls q).2] 75))
 have ab:Bl W C:=(by rw[hC];exact bA1 _ _)
 have af:C.heap.size=W.heap.size+1:=(by rw[hC];simp)
 have ae:C.heap[W.heap.size]?=some (.cells #[Iv (a0r ls q).1,Iv (a0r ls q).2] 75):=(by rw[hC];exact a9Z _ _)
 obtain⟨a1,c1,w2,r,ho,hg,ac,hw⟩:=a9z C 129 75 _ 2 16 underlying129 infoPt rfl om base v q (ptC ls) (a0h h ab) ⟨W.heap.size,0,none⟩ 1 1 (λ_=>ptC ls q) (λ_ j=>ptC_one _ _ j) (one_pt ae) (by unfold maxLen;omega) om om;rw[a0k (q+1) 2 _ (ptC ls) (λi hi=>by
  unfold catC;by_cases c:i<q
  ·rw[iP c]
  ·rw[iN c,show i=q by omega])] at ho
 refine⟨a1,c1,w2,by rw[<-hC];exact r,ho,ab.mono hb |>.trans ac,λb aa ad=>(hg.block b om (λe=>ad e.symm)).trans (ab.block b aa),λb aa => ?_,by have:=ac.size;omega⟩;rcases hw with hw | hw
 ·rw[hw] at aa;exact Or.inl aa
 ·rw[hw] at aa;injection aa with aa;exact Or.inr om
theorem a9A (e:Int) (Bi:Nat) (k:Int) (w:World) (hi:w.cell? (Pv Bi 0)=some (Iv k)) :
  Calls prog 54 #[Iv e,.pointer (some (Pv Bi 0))] w λr w'=>r=.returned (.agg #[Iv e,Iv k])/\Bl w w':=by
 have l1:Bi<w.heap.size:=b0r hi;go_enter func54,ntmps54;(go_wp2_with fail);exact b0b (v:=.agg #[Iv e,Iv k]) (a0b (p:=3) (ty:=37) results54 _ _ w.heap.size 37 #[Iv e,Iv k] (0,0) _ rfl (a9Z _ _) underlying37 rfl (by rw[a0S];rfl)) rfl ⟨rfl,bA1 _ _⟩
theorem a9B (e:Int) (Bi:Nat) (k:Int) (w:World) (hi:w.cell? (Pv Bi 0)=some (Iv k)) :
  Calls prog 56 #[Iv e,.pointer (some (Pv Bi 0))] w λr w'=>r=.returned (.agg #[Iv e,Iv k])/\Bl w w':=by
 have l1:Bi<w.heap.size:=b0r hi;go_enter func56,ntmps56;(go_wp2_with fail);exact b0b (v:=.agg #[Iv e,Iv k]) (a0b (p:=3) (ty:=37) results56 _ _ w.heap.size 37 #[Iv e,Iv k] (0,0) _ rfl (a9Z _ _) underlying37 rfl (by rw[a0S];rfl)) rfl ⟨rfl,bA1 _ _⟩
def IaAt (W:World) (g K:Nat) (f:Nat->Int):Prop:=W.heap[g]?=some (.cells (rowC K 1 (λi _=>Iv (f i))) 3)
def VaAt (W:World) (g K:Nat) (v:Nat->V):Prop:=W.heap[g]?=some (.cells (rowC K 4 (λi=>vC (v i))) 115)
section
variable {W:World}{g K:Nat}{f:Nat->Int}{v:Nat->V}
theorem IaAt.cell (h:IaAt W g K f) {i:Nat}(hi:i<K):W.cell? (Pv g i)=some (Iv (f i))/\W.frozen? (Pv g i)=false:=by
 have h1:=a0C h hi (show 0<1 by omega);rw[show i*1+0=i by omega] at h1;exact⟨h1,b0a _ _ _ _ _ h⟩
theorem IaAt.set (h:IaAt W g K f) {i:Nat}(hi:i<K) (z:Int):IaAt (W.setCell (Pv g i) (Iv z)) g K (λj=>if j=i then z else f j):=by
 have h0:=a1r h hi (show 0<1 by omega) (Iv z);rw[show i*1+0=i by omega] at h0;unfold IaAt;rw[h0,rC2 (d:=λj _=>Iv (if j=i then z else f j)) (λj _ m hm => ?_)];unfold updC;obtain rfl:m=0:=om
 by_cases e:j=i
 ·rw[iP ⟨e,rfl⟩,iP e]
 ·rw[iN (λq=>e q.1),iN e]
theorem IaAt.congr {h:Nat->Int}(hr:IaAt W g K f) (e:∀i,i<K->f i=h i):IaAt W g K h:=by
 unfold IaAt at hr ⊢;rw[hr,rC2 (λi hi j _=>by rw[e i hi])]
theorem IaAt.row (h:IaAt W g K f):IRow W (some (Pv g 0)) K K f :=
 ⟨b0g _,λ_=>⟨g,0,rfl,a2u h,λi hi j hj=>by rw[Nat.zero_add];exact a0C h hi hj⟩⟩
theorem VaAt.cells (h:VaAt W g K v) {i:Nat}(hi:i<K):(W.cell? (Pv g (i*4))=some (Uv (v i).root)/\W.cell? (Pv g (i*4+1))=some (Iv (v i).cost)/\W.cell? (Pv g (i*4+2))=some (Uv (v i).bridge)/\W.cell? (Pv g (i*4+3))=some (Iv (v i).port))/\∀j,W.frozen? (Pv g j)=false :=
 ⟨⟨a0C h hi (show 0<4 by omega),a0C h hi (show 1<4 by omega),a0C h hi (show 2<4 by omega),a0C h hi (show 3<4 by omega)⟩,λ_=>b0a _ _ _ _ _ h⟩
theorem VaAt.congr {u:Nat->V}(hr:VaAt W g K v) (e:∀i,i<K->v i=u i):VaAt W g K u:=by
 unfold VaAt at hr ⊢;rw[hr,rC2 (λi hi j _=>by rw[e i hi])]
theorem VaAt.root (h:VaAt W g K v) {i:Nat}(hi:i<K) (z:Int):VaAt (W.setCell (Pv g (i*4)) (Uv z)) g K (λj=>if j=i then⟨z,(v j).cost,(v j).bridge,(v j).port⟩ else v j):=by
 have h0:=a1r h hi (show 0<4 by omega) (Uv z);rw[show i*4+0=i*4 by omega] at h0;unfold VaAt;rw[h0,rC2 (d:=λj=>vC (if j=i then⟨z,(v j).cost,(v j).bridge,(v j).port⟩ else v j)) (λj _ m hm => ?_)];unfold updC;by_cases e:j=i
 ·subst e;rw[iP rfl];rcases(by omega:m=0\/m=1\/m=2\/m=3) with q | q | q | q<;>subst q
  ·rw[iP ⟨rfl,rfl⟩];rfl
  ·rw[iN (λz=>by omega)];rfl
  ·rw[iN (λz=>by omega)];rfl
  ·rw[iN (λz=>by omega)];rfl
 ·rw[iN (λq=>e q.1),iN e]
theorem VaAt.all (h:VaAt W g K v) {i:Nat}(hi:i<K) (u:V):VaAt ((((W.setCell (Pv g (i*4)) (Uv u.root)).setCell (Pv g (i*4+1)) (Iv u.cost)).setCell (Pv g (i*4+2)) (Uv u.bridge)).setCell (Pv g (i*4+3)) (Iv u.port)) g K (λj=>if j=i then u else v j):=by
 have h0:=a1r h hi (show 0<4 by omega) (Uv u.root);rw[show i*4+0=i*4 by omega] at h0;have h1:=a1r h0 hi (show 1<4 by omega) (Iv u.cost);have h2:=a1r h1 hi (show 2<4 by omega) (Uv u.bridge);have h3:=a1r h2 hi (show 3<4 by omega) (Iv u.port);unfold VaAt;rw[h3,rC2 (d:=λj=>vC (if j=i then u else v j)) (λj _ m hm => ?_)];unfold updC;by_cases e:j=i
 ·subst e;rw[iP rfl];rcases(by omega:m=0\/m=1\/m=2\/m=3) with q | q | q | q<;>subst q<;>simp[vC]
 ·simp only[e,false_and,if_false]
theorem VaAt.row (h:VaAt W g K v):VRow W (some (Pv g 0)) K K v :=
 ⟨b0g _,λ_=>⟨g,0,rfl,a2u h,λi hi j hj=>by rw[Nat.zero_add];exact a0C h hi hj⟩⟩
theorem VaAt.other {q o:Nat}{x:Value}(h:VaAt W g K v) (aa:g≠q):VaAt (W.setCell (Pv q o) x) g K v:=a0D h aa
theorem IaAt.other {q o:Nat}{x:Value}(h:IaAt W g K f) (aa:g≠q):IaAt (W.setCell (Pv q o) x) g K f:=a0D h aa
end
theorem infoInt1:(prog.info? 3).map (λi=>(i.zero,i.size,i.bytes))=some (some (Iv 0),1,8):=by kernel_rfl
theorem infoVc4:(prog.info? 115).map (λi=>(i.zero,i.size,i.bytes))=some (some (.agg #[Uv 0,Iv 0,Uv 0,Iv 0]),4,32):=by kernel_rfl
theorem a9C (W:World) {K:Nat}(hK:K<=1000):(Instr.makeSlice 52 (Iv K) (Iv K)).run prog W=.ok (.slice (some (Pv W.heap.size 0)) K K) (W.alloc (.cells (rowC K 1 (λ_ _=>Iv 0)) 3)):=a1E W 52 3 (Iv 0) 1 8 K underlying52 infoInt1 om rfl om om _ (λ_ j hj=>by rw[show j=0 by omega];rfl)
theorem make_va (W:World) {K:Nat}(hK:K<=1000):(Instr.makeSlice 150 (Iv K) (Iv K)).run prog W=.ok (.slice (some (Pv W.heap.size 0)) K K) (W.alloc (.cells (rowC K 4 (λ_=>vC Vc.v0)) 115)):=a1E W 150 115 _ 4 32 K underlying150 infoVc4 om rfl om om _ (λ_ j hj=>by
 rcases(by omega:j=0\/j=1\/j=2\/j=3) with e | e | e | e<;>subst e<;>rfl)
theorem a6U (b:Br) (tree:Int) (w:World) (hb:b.at' w) (hf:b.Fine) (ht:0<=tree/\tree<=15) :
  Calls prog 45 #[.agg (brA b),Iv tree] w λe w'=>e=.returned (Uv (b.id tree))/\Bl w w':=by
 obtain⟨X,HX⟩:=nm (w.alloc (.cells (brA b) 65))
 have ac:Bl w X:=(by rw[HX.o];exact bA1 _ _)
 have hp:=CRow.below hb.1 ac;have ab:=hf.prio;have ai:=hf.few;have ag:=hf.addr;clear hb hf ac;unfold Pl.Br.id Pl.Br.prio;obtain⟨aa,aj,pn,ah,pv,⟨s,ak,ao,n,cap,vs,ts⟩⟩:=b;simp only[brA] at *;by_cases h:tree<=(pn:Int)-1
 ·rw[iP ⟨ht.1,h⟩];obtain⟨k,hk⟩:∃k:Nat,tree=k:=⟨tree.toNat,om⟩
  subst hk;have ad:k<pn:=om
  obtain⟨pb,af,rfl,_⟩:=CRow.some hp om;have c0:=IRow.cells hp ad;have ae:=hp.1;have hv:=ab k ad;rw[Int.toNat_natCast];generalize pv k=p at *;have i0:(0:Int)<=(k:Int):=om
  have i1:(k:Int)<(pn:Int):=om
  have u0:IntKind.u64.wrap p=p:=a2w _ om om;have u1:IntKind.u64.wrap (p*281474976710656)=p*281474976710656:=a2w _ om om;have u2:IntKind.u64.wrap (p*281474976710656+aa)=p*281474976710656+aa:=a2w _ om om;rw[HX.o] at c0;clear hp ab;go_enter func45,ntmps45;(go_wp2_with fail);go_ret;exact⟨rfl,bA1 _ _⟩
 ·rw[iN (λq=>h q.2)];have i1:¬tree<(pn:Int):=om
  have u2:IntKind.u64.wrap (32768*281474976710656+aa)=32768*281474976710656+aa:=a2w _ om om;clear hp ab;go_enter func45,ntmps45;(go_wp2_with fail);go_ret;exact⟨rfl,bA1 _ _⟩
theorem a9D (v:V) (c:Int) (w:World) :
  Calls prog 110 #[.agg #[Uv v.root,Iv v.cost,Uv v.bridge,Iv v.port],Iv c] w λe w'=>e=.returned (.tuple #[.agg (vA (Vc.overV v c)),.bool (decide (Vc.fitsOver v c))])/\Bl w w':=by
 unfold Vc.overV;obtain⟨vr,vc,vb,vp⟩:=v;by_cases h:Vc.fitsOver ⟨vr,vc,vb,vp⟩ c
 ·rw[iP h,b0k h];obtain⟨⟨a1,a2⟩,⟨b1,b2⟩,b3⟩:=h;simp only at a1 a2 b1 b2 b3 ⊢;go_enter func110,ntmps110;(go_wp2_with fail);exact b0b (v:=.tuple #[.agg (vA (Vc.add ⟨vr,vc,vb,vp⟩ c)),.bool true]) (rRt (p:=4) (u:=5) (ty:=115) results110 _ _ (w.heap.size+1) 115 (vA (Vc.add ⟨vr,vc,vb,vp⟩ c)) (0,0) _ rfl (b0c w _ _) underlying115 rfl (by rw[a3u];rfl)) rfl ⟨rfl,bA2 _ _ _⟩
 ·rw[iN h,b0j h];have H:Hid (¬((0<=vc/\vc<=1000000000)/\(0<=c/\c<=1000000000)/\vc+c<=1000000000)):=h;clear h;simp only;by_cases q1:vc<0
  ·clear H;go_enter func110,ntmps110;(go_wp2_with fail);exact b0b (v:=.tuple #[.agg (vA Vc.v0),.bool false]) (rRt (p:=4) (u:=5) (ty:=115) results110 _ _ (w.heap.size+1) 115 (vA Vc.v0) (0,0) _ rfl (b0c w _ _) underlying115 rfl (by rw[a3u];rfl)) rfl ⟨rfl,bA2 _ _ _⟩
  ·by_cases q2:1000000000<vc
   ·clear H;go_enter func110,ntmps110;(go_wp2_with fail);exact b0b (v:=.tuple #[.agg (vA Vc.v0),.bool false]) (rRt (p:=4) (u:=5) (ty:=115) results110 _ _ (w.heap.size+1) 115 (vA Vc.v0) (0,0) _ rfl (b0c w _ _) underlying115 rfl (by rw[a3u];rfl)) rfl ⟨rfl,bA2 _ _ _⟩
   ·by_cases q3:c<0
    ·clear H;go_enter func110,ntmps110;(go_wp2_with fail);exact b0b (v:=.tuple #[.agg (vA Vc.v0),.bool false]) (rRt (p:=4) (u:=5) (ty:=115) results110 _ _ (w.heap.size+1) 115 (vA Vc.v0) (0,0) _ rfl (b0c w _ _) underlying115 rfl (by rw[a3u];rfl)) rfl ⟨rfl,bA2 _ _ _⟩
    ·by_cases q4:1000000000<c
     ·clear H;go_enter func110,ntmps110;(go_wp2_with fail);exact b0b (v:=.tuple #[.agg (vA Vc.v0),.bool false]) (rRt (p:=4) (u:=5) (ty:=115) results110 _ _ (w.heap.size+1) 115 (vA Vc.v0) (0,0) _ rfl (b0c w _ _) underlying115 rfl (by rw[a3u];rfl)) rfl ⟨rfl,bA2 _ _ _⟩
     ·have q5:1000000000<vc+c:=(by have:=H.o;omega)
      have q6:vc<=1000000000:=om
      have q7:c<=1000000000:=om
      clear H;go_enter func110,ntmps110;(go_wp2_with fail);exact b0b (v:=.tuple #[.agg (vA Vc.v0),.bool false]) (rRt (p:=4) (u:=5) (ty:=115) results110 _ _ (w.heap.size+1) 115 (vA Vc.v0) (0,0) _ rfl (b0c w _ _) underlying115 rfl (by rw[a3u];rfl)) rfl ⟨rfl,bA2 _ _ _⟩
