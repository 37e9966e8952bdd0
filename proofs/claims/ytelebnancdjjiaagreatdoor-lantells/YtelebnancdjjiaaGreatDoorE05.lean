/- ERw -/
import Derived.Test.YtelebnancdjjiaaGreatDoorE04
import Derived.Maps.AppendAt
import Derived.Shelf.Sort.Plain
import Derived.Shelf.Slices.In.SortNone
import Derived.Sort.OwnSortedInts
set_option maxRecDepth 100000
set_option maxHeartbeats 40000000
namespace Go.Proofs.YtelebnancdjjiaaGreatDoor
section
open Go.Proofs.Tryz
open Go.RowKit
open Pl (En)
namespace Ec
def cmp (a b:En):Int:=sg a.port b.port
end Ec
namespace Es
theorem ecmp_any (x y:En) (W:World):Calls prog 153 #[.agg #[Iv x.port,Iv x.cost,Iv x.other,Iv x.oport,.bool x.live],.agg #[Iv y.port,Iv y.cost,Iv y.other,Iv y.oport,.bool y.live]] W λe w'=>e=.returned (Iv (Ec.cmp x y))/\Bl W w':=by
 have aa:=λW'=>a5j x.port y.port W';unfold Ec.cmp;generalize sg x.port y.port=r at aa ⊢;go_enter func153,ntmps153;go_wp2_with (go_at_call 154;refine(aa _).mono ?_;rintro e w' ⟨rfl,rfl⟩)
 go_ret;exact⟨rfl,bA2 _ _ _⟩
def rowE (sp:Array Value) (n:Nat) (f:Nat->En):Array Value:=rowC n 5 (λi=>enC (f i))++sp
theorem rowE_get (sp:Array Value) (n:Nat) (f:Nat->En) (k j:Nat) (hk:k<n) (hj:j<5):(rowE sp n f)[k*5+j]?=some (enC (f k) j):=by
 have h:=a1Q hk hj;unfold rowE;rw[Array.getElem?_append_left (by rw[a1l];exact h)];exact a2K _ hk hj
theorem rowE_put1 (sp:Array Value) (n:Nat) (c:Nat->Nat->Value) (k j:Nat) (v:Value) (hk:k<n) (hj:j<5):(rowC n 5 c++sp).setIfInBounds (k*5+j) v=rowC n 5 (updC c k j v)++sp:=by
 have h:=a1Q hk hj;rw[<-a4H c hk hj];apply Array.ext_getElem?
 intro x;have s1:=a1l n 5 c;rw[Array.getElem?_setIfInBounds];by_cases hx:x<n*5
 ·rw[Array.getElem?_append_left (by rw[s1];exact hx),Array.getElem?_append_left (by rw[Array.size_setIfInBounds,s1];exact hx),Array.getElem?_setIfInBounds];by_cases q:k*5+j=x
  ·rw[iP q,iP q,iP (by rw[Array.size_append,s1];omega),iP (by rw[s1];omega)]
  ·rw[iN q,iN q]
 ·rw[iN om,Array.getElem?_append_right (by rw[s1];omega),Array.getElem?_append_right (by rw[Array.size_setIfInBounds,s1];omega),Array.size_setIfInBounds]
theorem rowE_congr (sp:Array Value) (n:Nat) (f g:Nat->En) (h:∀i,i<n->f i=g i):rowE sp n f=rowE sp n g:=by
 unfold rowE;rw[a7o (d:=λi=>enC (g i)) (λi hi=>by rw[h i hi])]
section
variable {sp:Array Value}{w:World}{g n:Nat}{f:Nat->En}{ty:TypeId}
theorem rowE_cells (h:w.heap[g]?=some (.cells (rowE sp n f) ty (0,0))) {k:Nat}(hk:k<n) :
  w.cell? (Pv g (k*5))=some (Iv (f k).port)/\w.cell? (Pv g (k*5+1))=some (Iv (f k).cost)/\w.cell? (Pv g (k*5+2))=some (Iv (f k).other)/\w.cell? (Pv g (k*5+3))=some (Iv (f k).oport)/\w.cell? (Pv g (k*5+4))=some (.bool (f k).live):=by
 have H:∀j,j<5->w.cell? (Pv g (k*5+j))=some (enC (f k) j):=λj hj=>(a9Y w g _ _ _ _ h).trans (rowE_get sp n f k j hk hj);exact⟨H 0 om,H 1 om,H 2 om,H 3 om,H 4 om⟩
theorem rowE_free (h:w.heap[g]?=some (.cells (rowE sp n f) ty (0,0))) (k:Nat) :
  w.frozen? (Pv g (k*5))=false/\w.frozen? (Pv g (k*5+1))=false/\w.frozen? (Pv g (k*5+2))=false/\w.frozen? (Pv g (k*5+3))=false/\w.frozen? (Pv g (k*5+4))=false :=
 ⟨b0a _ _ _ _ _ h,b0a _ _ _ _ _ h,b0a _ _ _ _ _ h,b0a _ _ _ _ _ h,b0a _ _ _ _ _ h⟩
theorem rowE_set (h:w.heap[g]?=some (.cells (rowE sp n f) ty (0,0))) {k:Nat}(hk:k<n) (v:En) :
  (((((w.setCell (Pv g (k*5)) (Iv v.port)).setCell (Pv g (k*5+1)) (Iv v.cost)).setCell (Pv g (k*5+2)) (Iv v.other)).setCell (Pv g (k*5+3)) (Iv v.oport)).setCell (Pv g (k*5+4)) (.bool v.live)).heap[g]?=some (.cells (rowE sp n (λi=>if i=k then v else f i)) ty (0,0)):=by
 rw[b0e _ _ _ _ _ _ (b0e _ _ _ _ _ _ (b0e _ _ _ _ _ _ (b0e _ _ _ _ _ _ (b0e _ _ _ _ _ _ h))))];have e0:=rowE_put1 sp n (λi=>enC (f i)) k 0 (Iv v.port) hk om;rw[Nat.add_zero] at e0;unfold rowE;rw[e0,rowE_put1 sp n _ k 1 _ hk om,rowE_put1 sp n _ k 2 _ hk om,rowE_put1 sp n _ k 3 _ hk om,rowE_put1 sp n _ k 4 _ hk om];rw[rC2 (d:=λi=>enC (if i=k then v else f i)) (λi _ m hm => ?_)];unfold updC;by_cases q:i=k
 ·subst q;rcases(by omega:m=0\/m=1\/m=2\/m=3\/m=4) with e | e | e | e | e<;>subst e<;>simp[enC]
 ·simp[q]
theorem rowE_swap (h:w.heap[g]?=some (.cells (rowE sp n f) ty (0,0))) {i j:Nat}(hi:i<n) (hj:j<n) (aa:i≠j) :
  ((((((((((w.setCell (Pv g (i*5)) (Iv (f j).port)).setCell (Pv g (i*5+1)) (Iv (f j).cost)).setCell (Pv g (i*5+2)) (Iv (f j).other)).setCell (Pv g (i*5+3)) (Iv (f j).oport)).setCell (Pv g (i*5+4)) (.bool (f j).live)).setCell (Pv g (j*5)) (Iv (f i).port)).setCell (Pv g (j*5+1)) (Iv (f i).cost)).setCell (Pv g (j*5+2)) (Iv (f i).other)).setCell (Pv g (j*5+3)) (Iv (f i).oport)).setCell (Pv g (j*5+4)) (.bool (f i).live)).heap[g]?=some (.cells (rowE sp n (Ec.swp f i j)) ty (0,0)):=by
 rw[rowE_set (rowE_set h hi (f j)) hj (f i)];congr 2
 apply rowE_congr
 intro x _;unfold Ec.swp;by_cases e:x=j
 ·rw[iP e];by_cases e2:x=i
  ·omega
  ·rw[iN e2,iP e]
 ·rw[iN e,iN e]
def But (g:Nat) (u w:World):Prop:=u.grownBy w (some g)
theorem But.refl (g:Nat) (w:World):But g w w:=⟨rfl,rfl,rfl,b0g _,λ_ _ _=>rfl⟩
theorem But.trans {g:Nat}{a b c:World}(h:But g a b) (k:But g b c):But g a c :=
 ⟨k.os.trans h.os,k.tape.trans h.tape,k.output.trans h.output,b0p h.size k.size,λq hq aa=>(k.block q (b0q hq h.size) aa).trans (h.block q hq aa)⟩
theorem But.low {g:Nat}{a b c:World}(h:But g a b) (k:Bl b c):But g a c :=
 h.trans ⟨k.os,k.tape,k.output,k.size,λq hq _=>k.block q hq⟩
theorem But.drew {g:Nat}{a b:World}(h:But g a b):But g a b.drew:=h.low (b0i (b0h _ _))
theorem But.setCell {g:Nat}{a b:World}(h:But g a b) (o:Nat) (v:Value):But g a (b.setCell (Pv g o) v) :=
 h.trans ⟨by first | rfl | simp,by first | rfl | simp,by first | rfl | simp,by first | exact b0g _ | simp,λq _ aa=>b0f _ _ _ _ (by intro e;exact aa (by rw[e]))⟩
theorem but_set5 {u w:World}(h:But g u w) {o1 o2 o3 o4 o5:Nat}{v1 v2 v3 v4 v5:Value} :
  But g u (((((w.setCell (Pv g o1) v1).setCell (Pv g o2) v2).setCell (Pv g o3) v3).setCell (Pv g o4) v4).setCell (Pv g o5) v5) :=
 ((((h.setCell _ _).setCell _ _).setCell _ _).setCell _ _).setCell _ _
end
end Es
namespace Es
end Es
namespace Es
end Es
namespace Es
end Es
namespace Es
end Es
namespace Es
end Es
namespace Es
end Es
end
section
open Go.Proofs.Tryz
namespace Ec
open Pl (En)
end Ec
end
section
open Go.Proofs.Tryz
open Go.RowKit
open Pl (En)
namespace Es
end Es
end
section
open Go.Proofs.Tryz
open Go.RowKit
open Pl (Br Net Pc Lk En)
instance:Inhabited En:=⟨⟨0,0,0,0,false⟩⟩
def encE (e:En):List Value:=[Iv e.port,Iv e.cost,Iv e.other,Iv e.oport,.bool e.live]
abbrev EL (l:List En) (j:Nat):En:=l.getD j default
namespace Es
theorem eins_none (fv:Value) (w:World):Calls prog 207 #[sN,Iv 0,Iv 0,fv] w λe w'=>e=.returned (.tuple #[])/\w'=w:=by
 go_enter func207,ntmps207;go_wp2
 refine wp_loop_rounds 1 ?_;rw[rounds_succ];go_wp2
 go_end0
 exact⟨rfl,rfl⟩
theorem estable_none (fv:Value) (w:World):Calls prog 191 #[sN,Iv 0,fv] w λe w'=>e=.returned (.tuple #[])/\w'=w:=by
 have hi:=λW=>eins_none fv W;go_enter func191,ntmps191;go_wp2
 refine wp_loop_rounds 1 ?_;rw[rounds_succ];go_wp2_with (go_at_call 207;refine(hi _).mono ?_;rintro e w' ⟨rfl,rfl⟩)
 refine wp_loop_rounds 1 ?_;rw[rounds_succ];go_wp2
 go_end0
 exact⟨rfl,rfl⟩
theorem esort_none (fv:Value) (w:World):Calls prog 152 #[sN,fv] w λe w'=>e=.returned (.tuple #[])/\w'=w:=by
 have hp:=λW=>estable_none fv W;go_enter func152,ntmps152;go_wp2_with (go_at_call 191;refine(hp _).mono ?_;rintro e w' ⟨rfl,rfl⟩)
 go_end0
 exact⟨rfl,rfl⟩
end Es
end
section
open Go.Proofs.Tryz
namespace Pl
open Vc (V Of)
structure RightL (K L:Nat) (ls:Nat->Lk):Prop where
 ok:∀k,k<L->(0<=(ls k).a/\(ls k).a<K)/\(0<=(ls k).b/\(ls k).b<K)/\(ls k).a≠(ls k).b/\(1<=(ls k).pa/\(ls k).pa<=30)/\(1<=(ls k).pb/\(ls k).pb<=30)/\(1<=(ls k).cost/\(ls k).cost<=200000)
 one:∀j k,j<k->k<L->isEnd (ls j) (ls k).a (ls k).pa=false/\isEnd (ls j) (ls k).b (ls k).pb=false
theorem someTo_false {p:Nat->Bool}:∀{n:Nat},Vc.someTo p n=false->∀i,i<n->p i=false
 | 0,_,i,hi=>by omega
 | n+1,h,i,hi=>by
  simp only[Vc.someTo,Bool.or_eq_false_iff] at h;by_cases e:i=n
  ·subst e;exact h.2
  ·exact someTo_false h.1 i om
theorem lkErr_ok {K:Nat}{l:Lk}(h:lkErr K l=0):(0<=l.a/\l.a<K)/\(0<=l.b/\l.b<K)/\l.a≠l.b/\(1<=l.pa/\l.pa<=30)/\(1<=l.pb/\l.pb<=30)/\(1<=l.cost/\l.cost<=200000):=by
 unfold lkErr at h;split at h
 ·omega
 ·split at h
  ·omega
  ·split at h
   ·omega
   ·omega
theorem lErr_ok {K:Nat}{ls:Nat->Lk}{i:Nat}(h:lErr K ls i=0):lkErr K (ls i)=0/\∀j,j<i->isEnd (ls j) (ls i).a (ls i).pa=false/\isEnd (ls j) (ls i).b (ls i).pb=false:=by
 unfold lErr at h;split at h
 ·omega
 ·rename_i h1;split at h
  ·omega
  ·rename_i h2;refine⟨om,λj hj => ?_⟩;have:=someTo_false (by simpa using h2) j hj;simpa using this
theorem rightL {K L:Nat}{ls:Nat->Lk}(h:∀i,i<L->lErr K ls i=0):RightL K L ls :=
 ⟨λk hk=>lkErr_ok (lErr_ok (h k hk)).1,λj k hj hk=>(lErr_ok (h k hk)).2 j hj⟩
theorem endsAt_mem {l:Lk}{lv:Bool}{i:Nat}{e:En}:e∈endsAt l lv i↔(l.a=(i:Int)/\e=⟨l.pa,l.cost,l.b,l.pb,lv⟩)\/(l.b=(i:Int)/\e=⟨l.pb,l.cost,l.a,l.pa,lv⟩):=by
 unfold endsAt;by_cases h1:l.a=(i:Int)<;>by_cases h2:l.b=(i:Int)<;>simp[h1,h2]
theorem endsTo_mem {ls:Nat->Lk}{lv:Nat->Bool}{i:Nat}{e:En}:∀{L:Nat},e∈endsTo ls lv i L↔∃k,k<L/\e∈endsAt (ls k) (lv k) i
 | 0=>⟨λh=>by simp[endsTo] at h,fun⟨k,hk,_⟩=>by omega⟩
 | L+1=>by
  simp only[endsTo,List.mem_append];rw[endsTo_mem (L:=L)];constructor
  ·rintro(⟨k,hk,h⟩ | h)
   ·exact⟨k,om,h⟩
   ·exact⟨L,om,h⟩
  ·rintro⟨k,hk,h⟩;by_cases e:k=L
   ·subst e;exact Or.inr h
   ·exact Or.inl ⟨k,om,h⟩
theorem ends_perm (ls:Nat->Lk) (lv:Nat->Bool) (L i:Nat):(ends ls lv L i).Perm (endsTo ls lv i L):=List.mergeSort_perm _ _
theorem ends_mem {ls:Nat->Lk}{lv:Nat->Bool}{L i:Nat}{e:En}:e∈ends ls lv L i↔∃k,k<L/\(((ls k).a=(i:Int)/\e=⟨(ls k).pa,(ls k).cost,(ls k).b,(ls k).pb,lv k⟩)\/((ls k).b=(i:Int)/\e=⟨(ls k).pb,(ls k).cost,(ls k).a,(ls k).pa,lv k⟩)):=by
 rw[(ends_perm ls lv L i).mem_iff,endsTo_mem];constructor
 ·rintro⟨k,hk,h⟩;exact⟨k,hk,endsAt_mem.1 h⟩
 ·rintro⟨k,hk,h⟩;exact⟨k,hk,endsAt_mem.2 h⟩
theorem endsTo_ports {K L:Nat}{ls:Nat->Lk}(R:RightL K L ls) (lv:Nat->Bool) (i:Nat):∀n,n<=L->(endsTo ls lv i n).Pairwise (λx y=>x.port≠y.port)
 | 0,_=>List.Pairwise.nil
 | n+1,hn=>by
  simp only[endsTo];rw[List.pairwise_append];refine⟨endsTo_ports R lv i n om,?_,?_⟩
  ·have:=(R.ok n om).2.2.1;unfold endsAt;by_cases h1:(ls n).a=(i:Int)<;>by_cases h2:(ls n).b=(i:Int)<;>simp[h1,h2]
   omega
  ·intro x hx y hy;obtain⟨k,hk,hx⟩:=endsTo_mem.1 hx;obtain⟨o1,o2⟩:=R.one k n om om;unfold isEnd at o1 o2;simp only[Bool.or_eq_false_iff,decide_eq_false_iff_not] at o1 o2;rcases endsAt_mem.1 hx with⟨a1,rfl⟩ | ⟨a1,rfl⟩<;>rcases endsAt_mem.1 hy with⟨b1,rfl⟩ | ⟨b1,rfl⟩<;>simp only<;>intro e
   ·exact o1.1 ⟨om,e⟩
   ·exact o2.1 ⟨om,e⟩
   ·exact o1.2 ⟨om,e⟩
   ·exact o2.2 ⟨om,e⟩
theorem ends_sorted {K L:Nat}{ls:Nat->Lk}(R:RightL K L ls) (lv:Nat->Bool) (i:Nat):(ends ls lv L i).Pairwise (λx y=>x.port<y.port):=by
 have h1:(ends ls lv L i).Pairwise (λx y=>leP x y=true):=List.pairwise_mergeSort (λa b c h1 h2=>by simp[leP] at *;omega) (λa b=>by simp[leP];omega) _;have h2:(ends ls lv L i).Pairwise (λx y=>x.port≠y.port):=((ends_perm ls lv L i).pairwise_iff (λ{a b}(h:a.port≠b.port)=>h.symm)).2 (endsTo_ports R lv i L (b0g _));have:=h1.and h2;exact this.imp (λ{a b} ⟨q1,q2⟩=>by simp[leP] at q1;omega)
theorem good {K L:Nat}{ls:Nat->Lk}(R:RightL K L ls) (hK:K<=12) (ids:Nat->Int) (lv:Nat->Bool):Good ids (λi=>ends ls lv L i) K:=by
 refine⟨hK,λi hi e he _ => ?_⟩;obtain⟨k,hk,h⟩:=ends_mem.1 he;obtain⟨o1,o2,o3,o4,o5,o6⟩:=R.ok k hk;rcases h with⟨_,rfl⟩ | ⟨_,rfl⟩<;>simp only<;>omega
theorem ends_one {K L:Nat}{ls:Nat->Lk}(R:RightL K L ls) (lv:Nat->Bool) {i:Nat}{x y:En}(hx:x∈ends ls lv L i) (hy:y∈ends ls lv L i) (h:x.port=y.port):x=y:=by
 have S:=ends_sorted R lv i;obtain⟨a,ha,ea⟩:=List.getElem_of_mem hx;obtain⟨b,hb,eb⟩:=List.getElem_of_mem hy;have key:=List.pairwise_iff_getElem.1 S;by_cases e:a=b
 ·subst e;rw[<-ea,<-eb]
 ·rcases Nat.lt_or_ge a b with q | q
  ·have:=key a b ha hb q;rw[ea,eb] at this;omega
  ·have:=key b a hb ha om;rw[ea,eb] at this;omega
end Pl
end
section
open Go.Proofs.Tryz
open Go.RowKit
open Pl (Br Net Pc Lk En)
theorem infoE:(prog.info? 221).map (λi=>(i.zero,i.size,i.bytes))=some (some (.agg #[Iv 0,Iv 0,Iv 0,Iv 0,.bool false]),5,40):=by kernel_rfl
theorem infoEs:(prog.info? 219).map (λi=>(i.zero,i.size,i.bytes))=some (some sN,1,24):=by kernel_rfl
abbrev a3J (l:List En):List Value:=a0f l.length 5 (λj=>enC (EL l j))
theorem a5V (l:List En) (e:En):a3J l++encE e=a3J (l++[e]):=by
 have h1:encE e=a0f 1 5 (λ_=>enC e):=by
  simp[encE,a0f,enC,List.range_succ]
 unfold a3J;rw[h1,a2E _ _ _ om,List.length_append];apply a0k
 intro i hi;simp only[catC];by_cases q:i<l.length
 ·rw[iP q];simp[EL,List.getD,List.getElem?_append_left q]
 ·rw[iN q];obtain rfl:i=l.length:=om
  simp[EL,List.getD]
structure EnAt (w:World) (G K:Nat) (v:Nat->Value) (L:Nat->List En):Prop where
 blk:w.heap[G]?=some (.cells (rowC K 1 (λi _=>v i)) 219)
 own:∀i,i<K->w.ownsRow (G+1) 221 5 (v i) (L i).length (a3J (L i))
 apart:∀i j,i<K->j<K->i≠j->∀q,(v i).ownBlock=some q->(v j).ownBlock≠some q
theorem EnAt.below {w w':World}{G K:Nat}{v:Nat->Value}{L:Nat->List En}(h:EnAt w G K v L) (hb:Bl w w'):EnAt w' G K v L :=
 ⟨keep h.blk hb,λi hi=>a0h (h.own i hi) hb,h.apart⟩
theorem a2L {w w':World}{base n:Nat}{v:Value}{xs:List Value}{r:Option Nat}(h:w.ownsRow base 221 5 v n xs) (hg:w.grownBy w' r) (aa:∀q,v.ownBlock=some q->r≠some q):w'.ownsRow base 221 5 v n xs:=by
 refine h.kept hg ?_;cases hv:v.ownBlock with
 | none=>exact Or.inl rfl
 | some q=>exact Or.inr (λe=>aa q hv e.symm)
theorem a8D {Z:World}{G K:Nat}{v:Nat->Value}{L:Nat->List En}(hE:EnAt Z G K v L) (i:Nat) (hi:i<K) (e:En) (aq:(L i).length<=1000) :
  ∃v' w2,(Builtin.append_ #[219,219] 219 #[v i,.slice (some ⟨Z.heap.size,0,none⟩) 1 1]).run prog (Z.drew.alloc (.cells #[Iv e.port,Iv e.cost,Iv e.other,Iv e.oport,.bool e.live] 221))=.ok v' w2 /\
   w2.cell? ⟨G,i,none⟩=some (v i)/\w2.frozen? ⟨G,i,none⟩=false/\EnAt (w2.setCell ⟨G,i,none⟩ v') G K (λj=>if j=i then v' else v j) (λj=>if j=i then L i++[e] else L j) /\
   Below G Z (w2.setCell ⟨G,i,none⟩ v')/\(v'.ownBlock=(v i).ownBlock\/v'.ownBlock=some (Z.heap.size+1))/\(∀q,q<Z.heap.size->(v i).ownBlock≠some q->w2.heap[q]?=Z.heap[q]?)/\Z.heap.size<=w2.heap.size:=by
 obtain⟨i0,av,au,ar,an⟩:=info_parts infoE;have ao:G<Z.heap.size:=(gSm.1 hE.blk).1;obtain⟨C,hC⟩:=nn (Z.drew.alloc (.cells #[Iv e.port,Iv e.cost,Iv e.other,Iv e.oport,.bool e.live] 221))
 have ag:Bl Z C:=(by rw[hC];exact(b0i (b0h _ _)).alloc (b0g _) _)
 have ap:C.heap.size=Z.heap.size+1:=(by rw[hC];simp)
 have ai:C.heap[Z.heap.size]?=some (.cells #[Iv e.port,Iv e.cost,Iv e.other,Iv e.oport,.bool e.live] 221):=(by rw[hC];exact a9Z Z.drew _)
 have ab:=hE.below ag;have ah:∀j u,(encE e)[j]?=some u->C.cell? ((⟨Z.heap.size,0,none⟩:Addr).add j)=some u:=by
  intro j u hj;have hl:j<5:=by
   have:=(List.getElem?_eq_some_iff.1 hj).1;simpa[encE] using this
  rw[a1J,Nat.zero_add];rcases(by omega:j=0\/j=1\/j=2\/j=3\/j=4) with q | q | q | q | q<;>subst q<;>(have:=a9Y C Z.heap.size 0 _ _ _ ai;simp[encE] at hj;subst hj;exact a9Y C Z.heap.size _ _ _ _ ai)
 obtain⟨v',w2,af,h1,h2,_,h3⟩:=run_append_own_at (P:=prog) C (G+1) 219 219 221 i0 _ 5 40 underlying219 av au ar an rfl om (v i) (L i).length (a3J (L i)) (ab.own i hi) ⟨Z.heap.size,0,none⟩ 1 1 (encE e) rfl ah (λu hu=>by simp[encE] at hu;rcases hu with rfl | rfl | rfl | rfl | rfl<;>rfl) (by unfold maxLen;omega) om om;rw[a5V] at h1;have al:(v i).ownBlock≠some G:=λq=>by have:=(oCb (ab.own i hi) G q).1;omega
 have aa:w2.heap[G]?=some (.cells (rowC K 1 (λi _=>v i)) 219):=(h2.block G om (λq=>al q.symm)).trans ab.blk;have ac:∀q,q<C.heap.size->(v i).ownBlock≠some q->w2.heap[q]?=C.heap[q]?:=λq hq ad=>h2.block q hq (λp=>ad p.symm);have ae:v'.ownBlock≠some G:=λq=>by rcases h3 with h3 | h3<;>rw[h3] at q;exact al q;injection q with q;omega
 have eC:(⟨G,i,none⟩:Addr)=⟨G,i*1+0,none⟩:=(by simp)
 have am:∀q,q≠G->(w2.setCell ⟨G,i,none⟩ v').heap[q]?=w2.heap[q]?:=λq hq=>b0f _ _ _ _ (by exact hq);have aj:w2.grownBy (w2.setCell ⟨G,i,none⟩ v') (some G):=⟨by first | rfl | simp,by first | rfl | simp,by first | rfl | simp,by first | exact b0g _ | simp,λq _ ad=>am q (λp=>ad (by rw[p]))⟩
 refine⟨v',w2,by rw[<-hC];exact af,?_,b0a _ _ _ _ _ aa,⟨?_,λj hj => ?_,λj k hj hk ak q hq => ?_⟩,?_,?_,λq hq ad => ?_,?_⟩
 ·rw[eC];exact a0C aa hi om
 ·rw[eC,a1r aa hi om,rC2 (d:=λj _=>if j=i then v' else v j) (λj _ m hm=>by
   unfold updC;by_cases q:j=i
   ·rw[iP ⟨q,om⟩,iP q]
   ·rw[iN (λp=>q p.1),iN q])]
 ·by_cases q:j=i
  ·subst q;simp only[if_true];rw[List.length_append];exact a2L h1 aj (λq hq p=>ae (by rw[hq];exact p.symm))
  ·simp only[iN q];refine a2L (a2L (ab.own j hj) h2 (λp hp r=>hE.apart j i hj hi q p hp r)) aj (λp hp r => ?_);have:=(oCb (ab.own j hj) p hp).1;injection r with r;omega
 ·by_cases c1:j=i<;>by_cases c2:k=i
  ·exact absurd (c1.trans c2.symm) ak
  ·simp only[iP c1] at hq;simp only[iN c2];intro r;rcases h3 with h3 | h3
   ·exact hE.apart i k hi hk (λp=>c2 p.symm) q (by rw[<-h3];exact hq) r
   ·have:=(oCb (hE.own k hk) q r).2;rw[h3] at hq;injection hq with hq;omega
  ·simp only[iN c1] at hq;simp only[iP c2];intro r;rcases h3 with h3 | h3
   ·exact hE.apart j i hj hi c1 q hq (by rw[<-h3];exact r)
   ·have:=(oCb (hE.own j hj) q hq).2;rw[h3] at r;injection r with r;omega
  ·simp only[iN c1] at hq;simp only[iN c2];exact hE.apart j k hj hk ak q hq
 ·have b1:Below G Z C:=ag.mono (Nat.le_of_lt ao);have b2:Below G C w2:=(b0h _ _).grown h2 om (λq hq=>by have:=(oCb (ab.own i hi) q hq).1;omega);exact(b1.trans b2).setCell (b0g _) _
 ·rcases h3 with h3 | h3
  ·exact Or.inl h3
  ·exact Or.inr (by rw[h3,ap])
 ·rw[ac q om ad];exact ag.block q hq
 ·have:=h2.size;omega
end
section
open Go.Proofs.Tryz
namespace Pl
open Vc (V Of)
section
variable {ids:Nat->Int}{E:Nat->List En}{K:Nat}
theorem someTo_iff {p:Nat->Bool}:∀{n:Nat},Vc.someTo p n=true↔∃i,i<n/\p i=true
 | 0=>⟨λh=>by simp[Vc.someTo] at h,fun⟨i,hi,_⟩=>by omega⟩
 | n+1=>by
  simp only[Vc.someTo,Bool.or_eq_true];rw[someTo_iff (n:=n)];constructor
  ·rintro(⟨i,hi,h⟩ | h)
   ·exact⟨i,om,h⟩
   ·exact⟨n,om,h⟩
  ·rintro⟨i,hi,h⟩;by_cases e:i=n
   ·subst e;exact Or.inr h
   ·exact Or.inl ⟨i,om,h⟩
end
section
variable {K L:Nat}{ls:Nat->Lk}
end
end Pl
namespace Tk
open Vc (V Of)
open Pl (Lk En lf lf_mem lf_of_mem toNat_lt)
structure Md where
 v:V
 age:Int
 rp:Int
def heardOf (x:Nat->Md) (e:En):Of:=⟨e.port,e.cost,(x e.other.toNat).age,⟨(x e.other.toNat).v.root,(x e.other.toNat).v.cost,(x e.other.toNat).v.bridge,e.oport⟩⟩
def heard (E:List En) (x:Nat->Md):List Of:=(E.filter (·.live)).map (heardOf x)
def chM (id:Int) (l:List Of):Md:=⟨Vc.chV id (lf l) l.length,Vc.chA id (lf l) l.length,Vc.chP id (lf l) l.length⟩
theorem heard_mem {l:List En}{x:Nat->Md}{o:Of}(h:o∈heard l x):∃e,e∈l/\e.live=true/\o=heardOf x e:=by
 unfold heard at h;obtain⟨e,he,rfl⟩:=List.mem_map.1 h;obtain⟨h1,h2⟩:=List.mem_filter.1 he;exact⟨e,h1,h2,rfl⟩
theorem mem_heard {l:List En}{x:Nat->Md}{e:En}(h:e∈l) (hl:e.live=true):heardOf x e∈heard l x :=
 List.mem_map.2 ⟨e,List.mem_filter.2 ⟨h,hl⟩,rfl⟩
theorem chM_real (id:Int) (l:List Of):(chM id l=⟨⟨id,0,id,0⟩,0,-1⟩/\∀o∈l,¬Vc.may id o)\/∃o∈l,Vc.may id o/\chM id l=⟨⟨o.vec.root,o.vec.cost+o.cost,id,0⟩,o.age+1,o.port⟩/\∀q∈l,Vc.may id q->¬Vc.ahead q o:=by
 cases h:Vc.chTo id (lf l) l.length with
 | none =>
  refine Or.inl ⟨?_,λo ho hm => ?_⟩
  ·unfold chM Vc.chV Vc.chA Vc.chP;rw[h]
  ·obtain⟨j,hj,e⟩:=lf_of_mem ho;exact Vc.chTo_none id (lf l) l.length h j hj (by rw[e];exact hm)
 | some i =>
  obtain⟨h1,h2,h3⟩:=Vc.chTo_some id (lf l) l.length i h;refine Or.inr ⟨lf l i,lf_mem h1,h2,?_,λq hq hm => ?_⟩
  ·unfold chM Vc.chV Vc.chA Vc.chP;rw[h];rfl
  ·obtain⟨j,hj,e⟩:=lf_of_mem hq;rw[<-e];exact h3 j hj (by rw[e];exact hm)
section
variable {ids:Nat->Int}{E:Nat->List En}{K:Nat}
end
def roleM (m:Md) (l:List Of) (e:En):Int:=if e.live=true then Vc.role m.v m.rp e.port (lf l) l.length else 0
section
variable {ids:Nat->Int}{E:Nat->List En}{K:Nat}
end
end Tk
end
section
open Go.Proofs.Tryz
open Go.RowKit
theorem a0Y {w w':World}{ab:Array Oper}{o:Oper}{a:Act}{K:Act->World->Prop}{Q:Exit->Act->World->Prop}{E:Prop}(d:Option Tmp) (hd:o.dst=d) (aa:o.guard=none) (s x:Operand) (t:TypeId)
  (ho:o.op=.call { callee:=.builtin .append,args:=#[s,x],argTypes:=#[t,t] }) (v vx v':Value) (hs:a.eval s=v) (hx:a.eval x=vx) (hr:(Builtin.append_ #[t,t] o.type #[v,vx]).run prog w=.ok v' w')
  (h:K (a.put d v') w'):if Region.wanted o (yielded ab a.tmps)=true then Oper.wp prog o a w K Q else E:=by
 subst hd;exact a2l aa s x t ho v vx v' hs hx hr h
end
section
open Go.Proofs.Tryz
open Go.RowKit
open Vc (V Of)
open Pl (Br Net Pc Lk En)
theorem infoOf:(prog.info? 180).map (λi=>(i.zero,i.size,i.bytes))=some (some (.agg #[Iv 0,Iv 0,Iv 0,Uv 0,Iv 0,Uv 0,Iv 0]),7,56):=by kernel_rfl
def ofA (o:Of):Array Value:=#[Iv o.port,Iv o.cost,Iv o.age,Uv o.vec.root,Iv o.vec.cost,Uv o.vec.bridge,Iv o.vec.port]
theorem a7p {w:World}{g:Nat}{o:Of}{ty:TypeId}(h:w.heap[g]?=some (.cells (ofA o) ty (0,0))):ORow w (some (Pv g 0)) 1 1 (λ_=>o):=by
 refine⟨b0g _,λ_=>⟨g,0,rfl,(gSm.1 h).1,λi hi j hj => ?_⟩⟩;obtain rfl:i=0:=om
 rcases(show j=0\/j=1\/j=2\/j=3\/j=4\/j=5\/j=6 by omega) with rfl | rfl | rfl | rfl | rfl | rfl | rfl
 ·exact a9Y w g 0 _ _ _ h
 ·exact a9Y w g 1 _ _ _ h
 ·exact a9Y w g 2 _ _ _ h
 ·exact a9Y w g 3 _ _ _ h
 ·exact a9Y w g 4 _ _ _ h
 ·exact a9Y w g 5 _ _ _ h
 ·exact a9Y w g 6 _ _ _ h
abbrev a5W (l:List Of):List Value:=a0f l.length 7 (λj=>ofC (Pl.lf l j))
theorem lf_snoc (l:List Of) (o:Of):a0f (l.length+1) 7 (catC l.length (λj=>ofC (Pl.lf l j)) (λ_=>ofC o))=a5W (l++[o]):=by
 unfold a5W;rw[List.length_append];apply a0k
 intro i hi;simp only[catC];by_cases q:i<l.length
 ·rw[iP q];simp[Pl.lf,List.getD,List.getElem?_append_left q]
 ·rw[iN q];obtain rfl:i=l.length:=om
  simp[Pl.lf,List.getD]
end
section
open Go.Proofs.Tryz
open Go.RowKit
open Vc (V Of)
end
section
open Go.Proofs.Tryz
open Go.RowKit
open Vc (V Of)
open Pl (Br Net Pc Lk En)
theorem infoI:(prog.info? 3).map (λi=>(i.zero,i.size,i.bytes))=some (some (Iv 0),1,8):=by kernel_rfl
end
end Go.Proofs.YtelebnancdjjiaaGreatDoor
namespace Go.Proofs
open Go.Shelf
def Tryz.sortI_ren:Go.Shelf.Ren:=⟨fun | 125=>121 | 128=>175 | 129=>176 | 189=>80 | 215=>192 | 216=>172 | 257=>120 | 294=>166 | 295=>167 | 296=>168 | 297=>169 | 298=>170 | 299=>171 | 300=>173 | 301=>174 | 328=>196 | 329=>197 | 330=>198 | 331=>199 | 332=>200 | 343=>211 | n=>n,fun | 0=>0 | 3=>3 | 4=>4 | 5=>5 | 9=>9 | 28=>52 | 46=>49 | 51=>236 | 53=>28 | 131=>135 | 182=>241 | 183=>242 | 218=>266 | 222=>270 | 228=>280 | 229=>281 | n=>n,fun | n=>n⟩
theorem Tryz.sortI:Go.Proofs.Lays.n189 prog Tryz.sortI_ren:={
 mixed:=by kernel_rfl
 f125:=func121.trans (congrArg some (by kernel_rfl))
 f128:=func175.trans (congrArg some (by kernel_rfl))
 f129:=func176.trans (congrArg some (by kernel_rfl))
 f189:=func80.trans (congrArg some (by kernel_rfl))
 f215:=func192.trans (congrArg some (by kernel_rfl))
 f216:=func172.trans (congrArg some (by kernel_rfl))
 f257:=func120.trans (congrArg some (by kernel_rfl))
 f294:=func166.trans (congrArg some (by kernel_rfl))
 f295:=func167.trans (congrArg some (by kernel_rfl))
 f296:=func168.trans (congrArg some (by kernel_rfl))
 f297:=func169.trans (congrArg some (by kernel_rfl))
 f298:=func170.trans (congrArg some (by kernel_rfl))
 f299:=func171.trans (congrArg some (by kernel_rfl))
 f300:=func173.trans (congrArg some (by kernel_rfl))
 f301:=func174.trans (congrArg some (by kernel_rfl))
 f328:=func196.trans (congrArg some (by kernel_rfl))
 f329:=func197.trans (congrArg some (by kernel_rfl))
 f330:=func198.trans (congrArg some (by kernel_rfl))
 f331:=func199.trans (congrArg some (by kernel_rfl))
 f332:=func200.trans (congrArg some (by kernel_rfl))
 f343:=func211.trans (congrArg some (by kernel_rfl))
 t0:=underlying0
 a0:=Tryz.isAgg0
 z0:=Tryz.sizeOf0
 v0:=Tryz.zeroValue0
 t3:=underlying3
 a3:=Tryz.isAgg3
 z3:=Tryz.sizeOf3
 v3:=Tryz.zeroValue3
 t4:=underlying4
 a4:=Tryz.isAgg4
 z4:=Tryz.sizeOf4
 v4:=Tryz.zeroValue4
 t5:=underlying5
 a5:=Tryz.isAgg5
 z5:=Tryz.sizeOf5
 v5:=Tryz.zeroValue5
 t9:=underlying9
 a9:=Tryz.isAgg9
 z9:=Tryz.sizeOf9
 v9:=Tryz.zeroValue9
 t28:=underlying52
 a28:=Tryz.isAgg52
 z28:=Tryz.sizeOf52
 v28:=Tryz.zeroValue52
 t46:=underlying49
 a46:=Tryz.isAgg49
 z46:=Tryz.sizeOf49
 v46:=Tryz.zeroValue49
 t51:=underlying236
 a51:=Tryz.isAgg236
 z51:=Tryz.sizeOf236
 v51:=Tryz.zeroValue236
 t53:=underlying28
 a53:=Tryz.isAgg28
 z53:=Tryz.sizeOf28
 v53:=Tryz.zeroValue28
 t131:=underlying135
 a131:=Tryz.isAgg135
 z131:=Tryz.sizeOf135
 v131:=Tryz.zeroValue135
 t182:=underlying241
 a182:=Tryz.isAgg241
 z182:=Tryz.sizeOf241
 v182:=Tryz.zeroValue241
 t183:=underlying242
 a183:=Tryz.isAgg242
 z183:=Tryz.sizeOf242
 v183:=Tryz.zeroValue242
 t218:=underlying266
 a218:=Tryz.isAgg266
 z218:=Tryz.sizeOf266
 v218:=Tryz.zeroValue266
 t222:=underlying270
 a222:=Tryz.isAgg270
 z222:=Tryz.sizeOf270
 v222:=Tryz.zeroValue270
 t228:=underlying280
 a228:=Tryz.isAgg280
 z228:=Tryz.sizeOf280
 v228:=Tryz.zeroValue280
 t229:=underlying281
 a229:=Tryz.isAgg281
 z229:=Tryz.sizeOf281
 v229:=Tryz.zeroValue281 }
end Go.Proofs
namespace Go.Proofs.YtelebnancdjjiaaGreatDoor
section
open Go.Proofs.Tryz
open Go.RowKit
open Vc (V Of)
open Pl (Br Net Pc Lk En)
abbrev IL (l:List Int) (j:Nat):Int:=l.getD j 0
abbrev a0j (l:List Int):List Value:=a0f l.length 1 (λj _=>Iv (IL l j))
theorem a6F (l:List Int) (z:Int):a0f (l.length+1) 1 (catC l.length (λj _=>Iv (IL l j)) (λ_ _=>Iv z))=a0j (l++[z]):=by
 unfold a0j;rw[List.length_append];apply a0k
 intro i hi;simp only[catC];by_cases q:i<l.length
 ·rw[iP q];simp[IL,List.getD,List.getElem?_append_left q]
 ·rw[iN q];obtain rfl:i=l.length:=om
  simp[IL,List.getD]
theorem a5X {w:World}{g:Nat}{z:Int}{ty:TypeId}(h:w.heap[g]?=some (.cells #[Iv z] ty (0,0))):IRow w (some (Pv g 0)) 1 1 (λ_=>z):=by
 refine⟨b0g _,λ_=>⟨g,0,rfl,(gSm.1 h).1,λi hi j hj => ?_⟩⟩;obtain rfl:i=0:=om
 obtain rfl:j=0:=om
 exact a9Y w g 0 _ _ _ h
theorem a3A {W:World}{base:Nat}{ao:OA}{cap:Nat}{l:List Int}(h:W.ownsRow base 3 1 (.slice ao l.length cap) l.length (a0j l)) (hb:base<=W.heap.size) (hl:l.length<=100000) (z:Int) :
  ∃a1 c1 w2,(Builtin.append_ #[52,52] 52 #[.slice ao l.length cap,.slice (some (Pv W.heap.size 0)) 1 1]).run prog (W.alloc (.cells #[Iv z] 3))=.ok (.slice a1 (l++[z]).length c1) w2/\w2.ownsRow base 3 1 (.slice a1 (l++[z]).length c1) (l++[z]).length (a0j (l++[z]))/\Below base W w2:=by
 have hB:Bl W (W.alloc (.cells #[Iv z] 3)):=bA1 _ _;obtain⟨a1,c1,w2,r,ho,aa,_⟩:=a0E (W.alloc (.cells #[Iv z] 3)) 52 3 _ 1 8 underlying52 infoI rfl om base (.slice ao l.length cap) l.length (λj _=>Iv (IL l j)) (a0h h hB) (some (Pv W.heap.size 0)) 1 1 (λ_ _=>Iv z) (λ_ _=>rfl) (a5X (a9Z _ _)) (λh=>by cases h) (by unfold maxLen;omega) om (by simp;omega);rw[a6F] at ho;have e:(l++[z]).length=l.length+1:=(by simp)
 rw[<-e] at r ho;exact⟨a1,c1,w2,r,ho,(hB.mono hb).trans aa⟩
theorem a5k {Z Zd:World}{base:Nat}{v:Value}{l:List Int}(ho:Z.ownsRow base 3 1 v l.length (a0j l)) (aa:base<=Z.heap.size) (hl:l.length<=100000) (z:Int) (hZ:Bl Z Zd) (hs:Zd.heap.size=Z.heap.size) :
  ∃vo vc w2,(Builtin.append_ #[52,52] 52 #[v,.slice (some (Pv Z.heap.size 0)) 1 1]).run prog (Zd.alloc (.cells #[Iv z] 3))=.ok (.slice vo (l++[z]).length vc) w2/\w2.ownsRow base 3 1 (.slice vo (l++[z]).length vc) (l++[z]).length (a0j (l++[z])) /\
   (∀q,q<Z.heap.size->v.ownBlock≠some q->w2.heap[q]?=Z.heap[q]?)/\((Value.slice vo (l++[z]).length vc).ownBlock=v.ownBlock\/(Value.slice vo (l++[z]).length vc).ownBlock=some (Z.heap.size+1))/\Below base Z w2/\Z.heap.size<=w2.heap.size:=by
 obtain⟨i0,aj,ai,ah,ae⟩:=info_parts infoI;obtain⟨C,hC⟩:=nn (Zd.alloc (.cells #[Iv z] 3))
 have ac:Bl Z C:=(by rw[hC];exact hZ.alloc om _)
 have ag:C.heap.size=Z.heap.size+1:=(by rw[hC];simp[hs])
 have af:C.heap[Z.heap.size]?=some (.cells #[Iv z] 3):=(by rw[hC,<-hs];exact a9Z Zd _)
 have hO:=a0h ho ac;obtain⟨v',w2,ab,h1,h2,_,h3⟩:=run_append_own_at (P:=prog) C base 52 52 3 i0 _ 1 8 underlying52 aj ai ah ae rfl om v l.length (a0j l) hO ⟨Z.heap.size,0,none⟩ 1 1 [Iv z] rfl (λj u hj=>by
  have hl:j=0:=by
   have:=(List.getElem?_eq_some_iff.1 hj).1;simpa using this
  subst hl;rw[a1J,Nat.zero_add];simp at hj;subst hj;exact a9Y C Z.heap.size 0 _ _ _ af) (λu hu=>by simp at hu;subst hu;rfl) (by unfold maxLen;omega) om om
 have e1:a0j l++[Iv z]=a0j (l++[z]):=by
  have:([Iv z]:List Value)=a0f 1 1 (λ_ _=>Iv z):=by simp[a0f]
  rw[this,a2E _ _ _ om,a6F]
 have e2:(l++[z]).length=l.length+1:=(by simp)
 rw[e1,<-e2] at h1;obtain⟨ao,cap,rfl,_⟩:=a0W om h1;refine⟨ao,cap,w2,by rw[<-hC];exact ab,h1,λq hq ad=>(h2.block q om (λp=>ad p.symm)).trans (ac.block q hq),?_,?_,by have:=h2.size;omega⟩
 ·rcases h3 with h3 | h3
  ·exact Or.inl h3
  ·exact Or.inr (by rw[h3,ag])
 ·exact(ac.mono aa).trans ((b0h _ _).grown h2 om (λq hq=>(oCb hO q hq).1))
theorem a3x (l:List Int):a0j l=l.map (Value.int .i64):=by
 apply List.ext_getElem
 ·simp[a0j,a0f]
 ·intro i h1 h2;have hi:i<l.length:=(by simpa using h2)
  simp[a0j,a0f,IL,List.getD,List.getElem?_eq_getElem hi]
theorem IL_row {w:World}{base:Nat}{v:Value}{l:List Int}(h:w.ownsRow base 3 1 v l.length (a0j l)):∃ao cap,v=.slice ao l.length cap/\IRow w ao l.length cap (IL l)/\∀ad,ao=some ad->base<=ad.block:=by
 obtain⟨ao,cap,e,h1,_,h3⟩:=a0W om h;exact⟨ao,cap,e,h1,h3⟩
theorem a8E (base:Nat) (v:Value) (l:List Int) (w:World) (hl:l.length<=100000) (ho:w.ownsRow base 3 1 v l.length (a0j l)) :
  Calls prog 80 #[v] w λe w'=>e=.returned (.tuple #[])/\w'.ownsRow base 3 1 v (l.mergeSort λx y=>decide (x<=y)).length (a0j (l.mergeSort λx y=>decide (x<=y)))/\w.grownBy w' v.ownBlock:=by
 obtain⟨_,h2⟩:=ho;rcases h2 with⟨rfl,h0⟩ | ⟨g,cap,ab,rfl,hg,hh,hn,hm,hs,hx⟩
 ·have e0:l=[]:=List.eq_nil_of_length_eq_zero h0;subst e0;refine(Any.slices_Sort_int_none Tryz.sortI none 0 w).mono ?_;rintro e w' ⟨rfl,rfl⟩;refine⟨rfl,?_,⟨rfl,rfl,rfl,b0g _,λ_ _ _=>rfl⟩⟩;have:([]:List Int).mergeSort (λx y=>decide (x<=y))=[]:=by simp
  rw[this];exact⟨by simp[a0j,a0f],Or.inl ⟨rfl,rfl⟩⟩
 ·have hH:Go.Sort.Holds (Value.int .i64) w g 0 l.toArray:=holds_of_blockI hh (by rw[<-a3x,<-hx,Nat.mul_one]);have hc:=Any.slices_Sort_int Tryz.sortI g 0 cap l w hH (gSm.1 hh).1 om;change Calls prog 80 _ _ _ at hc
  refine hc.mono ?_;rintro e w' ⟨rfl,n,os,rfl⟩;have aa:(l.mergeSort λx y=>decide (x<=y)).length=l.length:=List.length_mergeSort _;refine⟨rfl,?_,grownBy_sortedI _⟩;rw[a3x,aa];exact ownsRow_sortedI aa hg hh hn hm hs
end
section
open Go.Proofs.Tryz
open Go.RowKit
open Vc (V Of)
end
section
open Go.Proofs.Tryz
open Go.RowKit
open Vc (V Of)
open Pl (Br Net Pc Lk En)
def RlAt (W:World) (g n:Nat) (f:Nat->Int):Prop:=W.heap[g]?=some (.cells (rowC n 1 (λj _=>Iv (f j))) 3)
end
section
open Go.Proofs.Tryz
namespace Tk
open Vc (V Of)
open Pl (Lk En)
def calmOf (r c:Int):Int:=if r=1\/r=2 then(if c<49 then c else 49)+1 else 0
theorem calmOf_pos {r c:Int}(h:0<calmOf r c):r=1\/r=2:=by
 unfold calmOf at h;by_cases q:r=1\/r=2
 ·exact q
 ·rw[iN q] at h;omega
structure Mnd where
 md:Md
 roles:List Int
 calm:List Int
def tickF (ids:Nat->Int) (E:Nat->List En) (x:Nat->Mnd) (i:Nat):Mnd :=
 ⟨chM (ids i) (heard (E i) (λj=>(x j).md)),(E i).map (roleM (chM (ids i) (heard (E i) (λj=>(x j).md))) (heard (E i) (λj=>(x j).md))),
  List.zipWith calmOf ((E i).map (roleM (chM (ids i) (heard (E i) (λj=>(x j).md))) (heard (E i) (λj=>(x j).md)))) (x i).calm⟩
def ticksF (ids:Nat->Int) (E:Nat->List En) (x:Nat->Mnd):Nat->(Nat->Mnd)
 | 0=>x
 | t+1=>tickF ids E (ticksF ids E x t)
section
variable {ids:Nat->Int}{E:Nat->List En}{K:Nat}
theorem ticksF_add (x:Nat->Mnd) (a:Nat):∀b,ticksF ids E (ticksF ids E x a) b=ticksF ids E x (a+b)
 | 0=>rfl
 | b+1=>by
  show tickF ids E (ticksF ids E (ticksF ids E x a) b)=tickF ids E (ticksF ids E x (a+b));rw[ticksF_add x a b]
def Fit (E:Nat->List En) (K:Nat) (x:Nat->Mnd):Prop:=∀i,i<K->(x i).roles.length=(E i).length/\(x i).calm.length=(E i).length
def Calm (x:Nat->Mnd) (K:Nat):Prop:=∀i,i<K->∀j,0<=(x i).calm.getD j 0/\(0<(x i).calm.getD j 0->(x i).roles.getD j 0=1\/(x i).roles.getD j 0=2)
theorem getD_zip (rs cs:List Int) (h:rs.length=cs.length) (j:Nat) (hj:j<rs.length):(List.zipWith calmOf rs cs).getD j 0=calmOf (rs.getD j 0) (cs.getD j 0):=by
 rw[List.getD_eq_getElem?_getD,List.getD_eq_getElem?_getD,List.getD_eq_getElem?_getD,List.getElem?_zipWith,List.getElem?_eq_getElem hj,List.getElem?_eq_getElem om];rfl
theorem getD_out (l:List Int) (j:Nat) (hj:l.length<=j):l.getD j 0=0:=by
 rw[List.getD_eq_getElem?_getD,List.getElem?_eq_none hj];rfl
theorem tickF_fit {x:Nat->Mnd}(h:Fit E K x):Fit E K (tickF ids E x):=λi hi=>by
 have:=h i hi;simp only[tickF,List.length_map,List.length_zipWith];exact⟨trivial,om⟩
theorem ticksF_fit {x:Nat->Mnd}(h:Fit E K x):∀t,Fit E K (ticksF ids E x t)
 | 0=>h
 | t+1=>tickF_fit (ticksF_fit h t)
theorem tickF_calm {x:Nat->Mnd}(h:Fit E K x) {i:Nat}(hi:i<K) {j:Nat}(hj:j<(E i).length):(tickF ids E x i).calm.getD j 0=calmOf ((tickF ids E x i).roles.getD j 0) ((x i).calm.getD j 0):=by
 simp only[tickF];exact getD_zip _ _ (by rw[List.length_map];exact(h i hi).2.symm) j (by rw[List.length_map];exact hj)
theorem calmOf_nonneg {r c:Int}(h:0<=c):0<=calmOf r c:=by
 unfold calmOf;split
 ·split<;>omega
 ·omega
theorem tickF_Calm {x:Nat->Mnd}(h:Fit E K x) (hc:Calm x K):Calm (tickF ids E x) K:=λi hi j=>by
 by_cases hj:j<(E i).length
 ·rw[tickF_calm h hi hj];exact⟨calmOf_nonneg (hc i hi j).1,λq=>calmOf_pos q⟩
 ·rw[getD_out _ j (by rw[(tickF_fit (ids:=ids) h i hi).2];omega)];exact⟨Int.le_refl _,λq=>by omega⟩
theorem ticksF_Calm {x:Nat->Mnd}(h:Fit E K x) (hc:Calm x K):∀t,Calm (ticksF ids E x t) K
 | 0=>hc
 | t+1=>tickF_Calm (ticksF_fit h t) (ticksF_Calm h hc t)
end
end Tk
