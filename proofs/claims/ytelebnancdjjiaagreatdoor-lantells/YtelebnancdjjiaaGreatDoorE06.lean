/- TK3 -/
import Derived.Test.YtelebnancdjjiaaGreatDoorE05
import Derived.ProofKit
import Derived.OpenShut
import Derived.ChangeOld
import Derived.ChangeSlices
import Derived.Maps.OwnOps
import Derived.Maps.Range
import Derived.Maps.RangeWalk
import Derived.Maps.Views
import Derived.WideKeyEntry
import Derived.DeepKeys4
import Derived.MapViews
set_option maxRecDepth 100000
set_option maxHeartbeats 40000000
namespace Go.Proofs.YtelebnancdjjiaaGreatDoor
section
open Go.Proofs.Tryz
namespace Tk
open Vc (V Of)
open Pl (Lk En RightL ends endsTo endsAt)
structure Dn where
 kind:Int
 n:Int
 tree:Int
 value:Int
structure Cn where
 K:Nat
 L:Nat
 addr:Nat->Int
 sm:Nat->Nat->Bool
structure Sc where
 pr:Nat->List Int
 ls:Nat->Lk
 ms:Nat->Nat->Mnd
def prioOf (p:List Int) (tree:Int):Int:=if 0<=tree/\tree<=(p.length:Int)-1 then p.getD tree.toNat 0 else 32768
def Sc.ids (s:Sc) (c:Cn) (tree:Int) (i:Nat):Int:=prioOf (s.pr i) tree*281474976710656+c.addr i
def Sc.lv (s:Sc) (c:Cn) (k:Nat):Bool:=(s.ls k).up&&c.sm (s.ls k).a.toNat (s.ls k).b.toNat
def Sc.E (s:Sc) (c:Cn) (i:Nat):List En:=ends s.ls (s.lv c) c.L i
def Sc.ticks (s:Sc) (c:Cn) (t:Nat):Sc:=⟨s.pr,s.ls,λk=>ticksF (s.ids c k) (s.E c) (s.ms k) t⟩
theorem Sc.ticks_add (s:Sc) (c:Cn) (a b:Nat):(s.ticks c a).ticks c b=s.ticks c (a+b):=by
 unfold Sc.ticks;congr 1
 funext k
 exact ticksF_add (s.ms k) a b
def padTo (p:List Int) (t:Nat):List Int:=p++List.replicate (t+1-p.length) 32768
def setPr (p:List Int) (t:Nat) (v:Int):List Int:=(padTo p t).set t v
def Sc.setUp (s:Sc) (k:Nat) (up:Bool):Sc:=⟨s.pr,λj=>if j=k then⟨(s.ls k).a,(s.ls k).pa,(s.ls k).b,(s.ls k).pb,(s.ls k).cost,up⟩ else s.ls j,s.ms⟩
def Sc.setCost (s:Sc) (k:Nat) (v:Int):Sc:=⟨s.pr,λj=>if j=k then⟨(s.ls k).a,(s.ls k).pa,(s.ls k).b,(s.ls k).pb,v,(s.ls k).up⟩ else s.ls j,s.ms⟩
def Sc.setPrio (s:Sc) (i t:Nat) (v:Int):Sc:=⟨λj=>if j=i then setPr (s.pr i) t v else s.pr j,s.ls,s.ms⟩
def errOf (c:Cn) (d:Dn):Int :=
 if d.kind=1 then(if 0<=d.n/\d.n<=200 then 0 else 3)
 else if d.kind=2\/d.kind=3\/d.kind=4 then(if 0<=d.n/\d.n<=(c.L:Int)-1 then(if d.kind=4/\¬(1<=d.value/\d.value<=200000) then 3 else 0) else 6)
 else if d.kind=5 then(if 0<=d.n/\d.n<=(c.K:Int)-1 then(if (0<=d.tree/\d.tree<=15)/\Pl.oddP d.value=false then 0 else 3) else 6)
 else 1
def Sc.one (s:Sc) (c:Cn) (d:Dn):Sc :=
 if d.kind=1 then s.ticks c d.n.toNat
 else if d.kind=2 then s.setUp d.n.toNat true
 else if d.kind=3 then s.setUp d.n.toNat false
 else if d.kind=4 then s.setCost d.n.toNat d.value
 else s.setPrio d.n.toNat d.tree.toNat d.value
def Sc.all (s:Sc) (c:Cn) (l:Nat->Dn):Nat->Sc
 | 0=>s
 | k+1=>(s.all c l k).one c (l k)
def errTo (c:Cn) (l:Nat->Dn):Nat->Int×Int:=Pl.firstTo (λk=>errOf c (l k))
def SameEnds (c:Cn) (s t:Sc):Prop:=∀k,k<c.L->(t.ls k).a=(s.ls k).a/\(t.ls k).b=(s.ls k).b/\(t.ls k).pa=(s.ls k).pa/\(t.ls k).pb=(s.ls k).pb
structure Fine (c:Cn) (s:Sc):Prop where
 few:c.K<=12
 fewL:c.L<=40
 links:RightL c.K c.L s.ls
 addr:∀i,i<c.K->0<=c.addr i/\c.addr i<=281474976710655
 apart:∀i j,i<c.K->j<c.K->c.addr i=c.addr j->i=j
 prios:∀i,i<c.K->(s.pr i).length<=16/\∀p∈s.pr i,0<=p/\p<=61440/\p%4096=0
theorem rightL_of {K L:Nat}{ls aa:Nat->Lk}(R:RightL K L ls) (h:∀k,k<L->(aa k).a=(ls k).a/\(aa k).b=(ls k).b/\(aa k).pa=(ls k).pa/\(aa k).pb=(ls k).pb) (hc:∀k,k<L->1<=(aa k).cost/\(aa k).cost<=200000):RightL K L aa:=by
 refine⟨λk hk => ?_,λj k hj hk => ?_⟩
 ·obtain⟨a1,a2,a3,a4⟩:=h k hk;obtain⟨o1,o2,o3,o4,o5,_⟩:=R.ok k hk;rw[a1,a2,a3,a4];exact⟨o1,o2,o3,o4,o5,hc k hk⟩
 ·obtain⟨a1,a2,a3,a4⟩:=h k hk;obtain⟨b1,b2,b3,b4⟩:=h j om;have:=R.one j k hj hk;unfold Pl.isEnd at this ⊢;rw[a1,a2,a3,a4,b1,b2,b3,b4];exact this
theorem Fine.one {c:Cn}{s:Sc}(h:Fine c s) (d:Dn) (hd:errOf c d=0):Fine c (s.one c d)/\SameEnds c s (s.one c d):=by
 unfold errOf at hd;unfold Sc.one;by_cases k1:d.kind=1
 ·rw[iP k1];exact⟨⟨h.few,h.fewL,h.links,h.addr,h.apart,h.prios⟩,λk hk=>⟨rfl,rfl,rfl,rfl⟩⟩
 ·rw[iN k1] at hd ⊢;have aa:∀(k:Nat) (up:Bool),Fine c (s.setUp k up)/\SameEnds c s (s.setUp k up):=λk up=>by
   have hs:SameEnds c s (s.setUp k up):=λj hj=>by
    unfold Sc.setUp;by_cases e:j=k
    ·simp only[iP e];rw[e];exact⟨rfl,rfl,rfl,rfl⟩
    ·simp only[iN e];exact⟨trivial,trivial,trivial,trivial⟩
   refine⟨⟨h.few,h.fewL,rightL_of h.links hs (λj hj => ?_),h.addr,h.apart,h.prios⟩,hs⟩;unfold Sc.setUp;by_cases e:j=k
   ·subst e;simp only[if_true];exact(h.links.ok j hj).2.2.2.2.2
   ·simp only[iN e];exact(h.links.ok j hj).2.2.2.2.2
  by_cases k2:d.kind=2
  ·rw[iP k2];exact aa _ _
  ·rw[iN k2];by_cases k3:d.kind=3
   ·rw[iP k3];exact aa _ _
   ·rw[iN k3];by_cases k4:d.kind=4
    ·rw[iP (Or.inr (Or.inr k4))] at hd;rw[iP k4];have hv:1<=d.value/\d.value<=200000:=by
      by_cases q:1<=d.value/\d.value<=200000
      ·exact q
      ·exfalso
       by_cases q2:0<=d.n/\d.n<=(c.L:Int)-1
       ·rw[iP q2,iP ⟨k4,q⟩] at hd;omega
       ·rw[iN q2] at hd;omega
     have hs:SameEnds c s (s.setCost d.n.toNat d.value):=λj hj=>by
      unfold Sc.setCost;by_cases e:j=d.n.toNat
      ·simp only[iP e];rw[e];exact⟨rfl,rfl,rfl,rfl⟩
      ·simp only[iN e];exact⟨trivial,trivial,trivial,trivial⟩
     refine⟨⟨h.few,h.fewL,rightL_of h.links hs (λj hj => ?_),h.addr,h.apart,h.prios⟩,hs⟩;unfold Sc.setCost;by_cases e:j=d.n.toNat
     ·simp only[iP e];exact hv
     ·simp only[iN e];exact(h.links.ok j hj).2.2.2.2.2
    ·rw[iN om] at hd;rw[iN k4];have k5:d.kind=5:=by
      by_cases q:d.kind=5
      ·exact q
      ·rw[iN q] at hd;omega
     rw[iP k5] at hd;have hn:0<=d.n/\d.n<=(c.K:Int)-1:=by
      by_cases q:0<=d.n/\d.n<=(c.K:Int)-1
      ·exact q
      ·rw[iN q] at hd;omega
     rw[iP hn] at hd;have hv:(0<=d.tree/\d.tree<=15)/\Pl.oddP d.value=false:=by
      by_cases q:(0<=d.tree/\d.tree<=15)/\Pl.oddP d.value=false
      ·exact q
      ·rw[iN q] at hd;omega
     have hp:0<=d.value/\d.value<=61440/\d.value%4096=0:=by
      have:=hv.2;unfold Pl.oddP at this;simp at this;omega
     refine⟨⟨h.few,h.fewL,h.links,h.addr,h.apart,λi hi => ?_⟩,λk hk=>⟨rfl,rfl,rfl,rfl⟩⟩;unfold Sc.setPrio;by_cases e:i=d.n.toNat
     ·simp only[iP e];rw[<-e];obtain⟨p1,p2⟩:=h.prios i hi;unfold setPr padTo;refine⟨by simp;omega,λp ab => ?_⟩;rcases List.mem_or_eq_of_mem_set ab with q | q
      ·rcases List.mem_append.1 q with q | q
       ·exact p2 p q
       ·rw[List.mem_replicate] at q;rw[q.2];decide
      ·rw[q];exact hp
     ·simp only[iN e];exact h.prios i hi
theorem Fine.all {c:Cn}{s:Sc}(h:Fine c s) (l:Nat->Dn):∀n,(∀k,k<n->errOf c (l k)=0)->Fine c (s.all c l n)/\SameEnds c s (s.all c l n)
 | 0,_=>⟨h,λ_ _=>⟨rfl,rfl,rfl,rfl⟩⟩
 | n+1,hl=>by
  obtain⟨h1,h2⟩:=Fine.all h l n (λk hk=>hl k om);obtain⟨h3,h4⟩:=h1.one (l n) (hl n om);refine⟨h3,λk hk => ?_⟩;obtain⟨a1,a2,a3,a4⟩:=h2 k hk;obtain⟨b1,b2,b3,b4⟩:=h4 k hk;exact⟨b1.trans a1,b2.trans a2,b3.trans a3,b4.trans a4⟩
theorem endsTo_ports_eq {ls aa:Nat->Lk}(lv ab:Nat->Bool) (i:Nat):∀L,(∀k,k<L->(aa k).a=(ls k).a/\(aa k).b=(ls k).b/\(aa k).pa=(ls k).pa/\(aa k).pb=(ls k).pb)->(endsTo aa ab i L).map (·.port)=(endsTo ls lv i L).map (·.port)
 | 0,_=>rfl
 | L+1,h=>by
  simp only[endsTo,List.map_append];rw[endsTo_ports_eq lv ab i L (λk hk=>h k om)];obtain⟨a1,a2,a3,a4⟩:=h L om;congr 1
  unfold endsAt;rw[a1,a2,a3,a4];split<;>split<;>rfl
theorem ports_eq {K L:Nat}{ls aa:Nat->Lk}(R:RightL K L ls) (R':RightL K L aa) (h:∀k,k<L->(aa k).a=(ls k).a/\(aa k).b=(ls k).b/\(aa k).pa=(ls k).pa/\(aa k).pb=(ls k).pb) (lv ab:Nat->Bool) (i:Nat):(ends aa ab L i).map (·.port)=(ends ls lv L i).map (·.port):=by
 have p1:=(Pl.ends_perm aa ab L i).map (λe:En=>e.port);have p2:=(Pl.ends_perm ls lv L i).map (λe:En=>e.port);rw[endsTo_ports_eq lv ab i L h] at p1;refine(p1.trans p2.symm).eq_of_pairwise (le:=λa b:Int=>a<b) (λa b _ _ h1 h2=>by omega) ?_ ?_
 ·exact List.pairwise_map.2 (Pl.ends_sorted R' ab i)
 ·exact List.pairwise_map.2 (Pl.ends_sorted R lv i)
theorem SameEnds.len {c:Cn}{s t:Sc}(h:SameEnds c s t) (hs:Fine c s) (ht:Fine c t) (i:Nat):(t.E c i).map (·.port)=(s.E c i).map (·.port)/\(t.E c i).length=(s.E c i).length:=by
 have:=ports_eq hs.links ht.links h (s.lv c) (t.lv c) i;refine⟨this,?_⟩;have e:=congrArg List.length this;simpa[Sc.E] using e
structure Ok (c:Cn) (s:Sc) (T:Nat):Prop where
 fine:Fine c s
 fit:∀k,k<T->Fit (s.E c) c.K (s.ms k)
 calm:∀k,k<T->Calm (s.ms k) c.K
theorem Ok.one {c:Cn}{s:Sc}{T:Nat}(h:Ok c s T) (d:Dn) (hd:errOf c d=0):Ok c (s.one c d) T:=by
 obtain⟨h1,h2⟩:=h.fine.one d hd;have aa:=λi=>(h2.len h.fine h1 i).2;by_cases k1:d.kind=1
 ·have e:s.one c d=s.ticks c d.n.toNat:=(by unfold Sc.one;rw[iP k1])
  rw[e] at h1 aa ⊢;exact⟨h1,λk hk=>ticksF_fit (h.fit k hk) _,λk hk=>ticksF_Calm (h.fit k hk) (h.calm k hk) _⟩
 ·have e:(s.one c d).ms=s.ms:=by
   unfold Sc.one;rw[iN k1];split
   ·rfl
   ·split
    ·rfl
    ·split<;>rfl
  refine⟨h1,λk hk i hi => ?_,λk hk => ?_⟩
  ·rw[e,aa i];exact h.fit k hk i hi
  ·rw[e];exact h.calm k hk
theorem Ok.all {c:Cn}{s:Sc}{T:Nat}(h:Ok c s T) (l:Nat->Dn):∀n,(∀k,k<n->errOf c (l k)=0)->Ok c (s.all c l n) T
 | 0,_=>h
 | n+1,hl=>(Ok.all h l n (λk hk=>hl k om)).one (l n) (hl n om)
end Tk
end
section
open Go.Proofs.Tryz
open Go.RowKit
def rowS (sp:Array Value) (n k:Nat) (c:Nat->Nat->Value):Array Value:=rowC n k c++sp
theorem rowS_get (sp:Array Value) {n k i j:Nat}(c:Nat->Nat->Value) (hi:i<n) (hj:j<k):(rowS sp n k c)[i*k+j]?=some (c i j):=by
 have h:=a1Q hi hj;unfold rowS;rw[Array.getElem?_append_left (by rw[a1l];exact h)];exact a2K c hi hj
theorem rowS_put (sp:Array Value) {n k i j:Nat}(c:Nat->Nat->Value) (hi:i<n) (hj:j<k) (v:Value):(rowS sp n k c).setIfInBounds (i*k+j) v=rowS sp n k (updC c i j v):=by
 have h:=a1Q hi hj;unfold rowS;rw[<-a4H c hi hj];apply Array.ext_getElem?
 intro x;have s1:=a1l n k c;rw[Array.getElem?_setIfInBounds];by_cases hx:x<n*k
 ·rw[Array.getElem?_append_left (by rw[s1];exact hx),Array.getElem?_append_left (by rw[Array.size_setIfInBounds,s1];exact hx),Array.getElem?_setIfInBounds];by_cases q:i*k+j=x
  ·rw[iP q,iP q,iP (by rw[Array.size_append,s1];omega),iP (by rw[s1];omega)]
  ·rw[iN q,iN q]
 ·rw[iN om,Array.getElem?_append_right (by rw[s1];omega),Array.getElem?_append_right (by rw[Array.size_setIfInBounds,s1];omega),Array.size_setIfInBounds]
theorem a2o (sp:Array Value) {n k:Nat}{c d:Nat->Nat->Value}(h:∀i,i<n->∀j,j<k->c i j=d i j):rowS sp n k c=rowS sp n k d:=by
 unfold rowS;rw[rC2 h]
section
variable {sp:Array Value}{w:World}{g n k:Nat}{c:Nat->Nat->Value}{ty:TypeId}
theorem a1m (h:w.heap[g]?=some (.cells (rowS sp n k c) ty (0,0))) {i j:Nat}(hi:i<n) (hj:j<k):w.cell? (Pv g (i*k+j))=some (c i j) :=
 (a9Y w g _ _ _ _ h).trans (rowS_get sp c hi hj)
theorem a1D (h:w.heap[g]?=some (.cells (rowS sp n k c) ty (0,0))) {i j:Nat}(hi:i<n) (hj:j<k) (v:Value):(w.setCell (Pv g (i*k+j)) v).heap[g]?=some (.cells (rowS sp n k (updC c i j v)) ty (0,0)):=by
 rw[b0e _ _ _ _ _ _ h,rowS_put sp c hi hj]
end
theorem a1G {w:World}{base e k n:Nat}{v:Value}{c:Nat->Nat->Value}(h:w.ownsRow base e k v n (a0f n k c)) :
  (v=sN/\n=0)\/∃g cap sp,v=.slice (some (Pv g 0)) n cap/\base<=g/\n<=cap/\cap<=maxLen/\sp.size+n*k=cap*k/\w.heap[g]?=some (.cells (rowS sp n k c) e (0,0)):=by
 obtain⟨_,h2⟩:=h;rcases h2 with h2 | ⟨g,cap,aa,rfl,hg,hh,hn,hm,hs,hx⟩
 ·exact Or.inl h2
 ·refine Or.inr ⟨g,cap,(aa.toList.drop (n*k)).toArray,rfl,hg,hn,hm,?_,?_⟩
  ·have h1:=congrArg List.length hx;rw[a0p,List.length_take,Array.length_toList] at h1;rw[List.size_toArray,List.length_drop,Array.length_toList];omega
  ·rw[hh];congr 2
   apply Array.ext'
   unfold rowS rowC;rw[Array.toList_append];simp only;rw[<-hx,List.take_append_drop]
theorem a1H {w:World}{base e k n g cap:Nat}{sp:Array Value}{c:Nat->Nat->Value}(hg:base<=g) (hn:n<=cap) (hm:cap<=maxLen) (hs:sp.size+n*k=cap*k) (hh:w.heap[g]?=some (.cells (rowS sp n k c) e (0,0))):w.ownsRow base e k (.slice (some (Pv g 0)) n cap) n (a0f n k c):=by
 refine⟨a0p _ _ _,Or.inr ⟨g,cap,_,rfl,hg,hh,hn,hm,?_,?_⟩⟩
 ·unfold rowS;rw[Array.size_append,a1l];omega
 ·unfold rowS rowC;rw[Array.toList_append];simp only;have:=a0p n k c;rw[List.take_append_of_le_length om,List.take_of_length_le om]
theorem a0A {w w':World}{base e k n:Nat}{v:Value}{xs:List Value}(h:w.ownsRow base e k v n xs) (hk:∀q,v.ownBlock=some q->w'.heap[q]?=w.heap[q]?):w'.ownsRow base e k v n xs:=by
 obtain⟨h1,h2⟩:=h;refine⟨h1,?_⟩;rcases h2 with h2 | ⟨g,cap,aa,hv,hg,hh,r⟩
 ·exact Or.inl h2
 ·refine Or.inr ⟨g,cap,aa,hv,hg,?_,r⟩;rw[hk g (by rw[hv];simp[Value.ownBlock])];exact hh
theorem a0v {w:World}{base aa e k n:Nat}{v:Value}{xs:List Value}(h:w.ownsRow base e k v n xs) (hb:aa<=base):w.ownsRow aa e k v n xs:=by
 obtain⟨h1,h2⟩:=h;refine⟨h1,?_⟩;rcases h2 with h2 | ⟨g,cap,ab,hv,hg,r⟩
 ·exact Or.inl h2
 ·exact Or.inr ⟨g,cap,ab,hv,b0p hb hg,r⟩
theorem a0z {w:World}{base e k n:Nat}{v:Value}{xs:List Value}(h:w.ownsRow base e k v n xs) {q:Nat}(hq:v.ownBlock=some q):∃aa,w.heap[q]?=some (.cells aa e (0,0)):=by
 obtain⟨_,h2⟩:=h;rcases h2 with⟨rfl,_⟩ | ⟨g,cap,aa,rfl,hg,hh,r⟩
 ·simp[Value.ownBlock] at hq
 ·simp[Value.ownBlock] at hq;subst hq;exact⟨aa,hh⟩
theorem a7q {w:World}{base aa e e' k k' n n':Nat}{v v':Value}{xs ac:List Value}(h:w.ownsRow base e k v n xs) (h':w.ownsRow aa e' k' v' n' ac) (he:e≠e') {q:Nat}(hq:v.ownBlock=some q):v'.ownBlock≠some q:=λab=>by
 obtain⟨c1,h1⟩:=a0z h hq;obtain⟨c2,h2⟩:=a0z h' ab;rw[h1] at h2;injection h2 with h2;injection h2 with _ h3;exact he h3
section
variable {W W':World}{base e kk T:Nat}{v:Nat->Value}{n:Nat->Nat}{c:Nat->Nat->Nat->Value}
end
end
section
open Go.Proofs.Tryz
open Go.RowKit
open Vc (V Of)
open Tk (Cn Sc Mnd Md)
namespace Tk
section
variable {K T:Nat}(hK:K<=12) (pts:Nat->List Int) (s:Sc)
include hK
end
end Tk
def mdC (m:Md) (p r c:Value) (x:Nat):Value:=if x<4 then vC m.v x else if x=4 then Iv m.age else if x=5 then Iv m.rp else if x=6 then p else if x=7 then r else c
end
section
open Go.Proofs.Tryz
open Go.RowKit
open Vc (V Of)
open Pl (En)
open Tk (Md Mnd)
end
section
open Go.Proofs.Tryz
open Go.ChangeShapes Go.WideShapes Go.ChangeAt Go.RowKit
theorem own:ownKnob prog.godebug=none:=by kernel_rfl
theorem a2y:laidOutB prog=true:=by kernel_rfl
theorem a1f {a b:Value}(h:[a]=[b]):a=b:=by simpa using h
theorem a8F {n:Int}(h:(Lit.int .u64 n).wf=true):0<=n/\n<18446744073709551616:=by
 simp only[Lit.wf,Bool.and_eq_true,decide_eq_true_eq] at h;have h1:IntKind.u64.min=0:=dd
 have h2:IntKind.u64.max=18446744073709551615:=dd
 rw[h1,h2] at h;omega
theorem cells5:prog.cellsOf 5=1:=by kernel_rfl
theorem a7r {H:Type}{enc:TypeId×Value->H}{W:World}{v:Value}{ac:Nat}{x:DataW H×List MemPlace}
  (hf:DataW.trod enc prog W 0 (λ_=>true) true ac 29 [v]=some x) :
  ∃ao n cap bs,v=.slice ao n cap/\ByteRow W ao n cap bs/\(∀i,i<n->0<=bs i/\bs i<=255)/\(ao=none->n=0/\cap=0):=by
 rcases open_ints underlying29 underlying5 cells5 hf with⟨aa,_⟩ | ⟨x,l,c,zs,aa,_,hl,hm,hz,_,ab,ad⟩
 ·simp at aa;subst aa;exact⟨none,0,0,λ_=>0,rfl,⟨b0g _,λh=>absurd h om⟩,λi hi=>absurd hi om,λ_=>⟨rfl,rfl⟩⟩
 ·simp at aa;subst aa;rw[iP rfl] at hz;refine⟨some x,l,c,λi=>zs.getD i 0,rfl,⟨hl,λhp => ?_⟩,λi _ => ?_,λh=>by cases h⟩
  ·obtain⟨b,off,rfl,hc⟩:=ints_at ab om;exact⟨b,off,rfl,b0r (hc 0 om),λi hi=>hc i om⟩
  ·have:=range_u8 ad i;simpa[List.getD] using this
end
section
open Go.Proofs.Tryz
open Go.RowKit Go.Maps Go.WideElems Go.ChangeShapes Go.WideShapes Go.MapKept Go.ChangeMaps
def cntI {α:Type} [DecidableEq α] (f:Nat->α) (a:α):Nat->Int
 | 0=>0
 | k+1=>cntI f a k+if f k=a then 1 else 0
theorem a2M {α:Type} [DecidableEq α] (f:Nat->α) (a:α):∀k:Nat,0<=cntI f a k/\cntI f a k<=k
 | 0=>⟨Int.le_refl _,Int.le_refl _⟩
 | k+1=>by
  have:=a2M f a k;simp only[cntI];split<;>omega
theorem a3B {α:Type} [DecidableEq α] (f:Nat->α) (a:α):∀k:Nat,0<cntI f a k↔Vc.someTo (λj=>decide (f j=a)) k=true
 | 0=>⟨λh=>by simp[cntI] at h,λh=>by simp[Vc.someTo] at h⟩
 | k+1=>by
  have h1:=a2M f a k;have h2:=a3B f a k;have h3:cntI f a (k+1)=cntI f a k+if f k=a then 1 else 0:=rfl
  have h4:Vc.someTo (λj=>decide (f j=a)) (k+1)=(Vc.someTo (λj=>decide (f j=a)) k||decide (f k=a)):=rfl;rw[h3,h4];by_cases e:f k=a
  ·rw[iP e,b0k e,Bool.or_true];exact⟨λ_=>rfl,λ_=>by omega⟩
  ·rw[iN e,b0j e,Bool.or_false,Int.add_zero];exact h2
theorem a0V {w w':World}{b P:Nat}{v:Value}(h:w.cell? (Pv P 0)=some v) (hg:w.grownBy w' (some b)) (aa:P≠b):w'.cell? (Pv P 0)=some v :=
 (World.cell?_of_block (w:=w) (hg.block P (b0r h) (λe=>aa (by simpa using e)))).trans h
theorem a5l (w:World):(zeroValue 3).run prog w=.ok (.int .i64 0) w:=by kernel_rfl
theorem mwf {n:Int}(h0:0<=n) (h1:n<=100000):(Lit.int .i64 n).wf=true:=WalkArith.wf_i64 om
theorem a3n {a b:Int}(h:(DataW.lit (.int .i64 a):DataW Unit)=.lit (.int .i64 b)):a=b:=by
 injection h with h;injection h
/- addresses -/
theorem ukeyed:Keyed prog 28:=int_keyed underlying28
def UCnt (w:World) (b:Nat) (f:Nat->Int) (m:Nat):Prop:=∃D:DataW Unit,w.ownsMap prog 28 (plainElem prog 3) b m D/\IsMap D/\∀a,(Lit.int .u64 a).wf=true->D.atKey (.int .u64 a) (.lit (.int .i64 0))=.lit (.int .i64 (cntI f a m))
theorem UCnt.same {w w':World}{b m:Nat}{f:Nat->Int}(h:UCnt w b f m) (e:w'.heap[b]?=w.heap[b]?):UCnt w' b f m:=by
 obtain⟨D,⟨es,aa,hb,r⟩,h2⟩:=h;exact⟨D,⟨es,aa,e.trans hb,r⟩,h2⟩
theorem UCnt.lt {w:World}{b m:Nat}{f:Nat->Int}(h:UCnt w b f m):b<w.heap.size:=by
 obtain⟨D,h1,_⟩:=h;exact h1.lt
theorem a8G (P b m:Nat) (f:Nat->Int) (a:Int) (w:World) (hP:w.cell? (Pv P 0)=some (.map (some b))) (af:P≠b) (h:UCnt w b f m) (hm:m<=1000) (hf:f m=a) (ac:(Lit.int .u64 a).wf=true) :
  Calls prog 182 #[.int .u64 a,.pointer (some (Pv P 0))] w λe w'=>e=.returned (.int .i64 (if 0<cntI f a m then 7 else 0))/\UCnt w' b f (m+1)/\w.grownBy w' (some b):=by
 obtain⟨D,ho,hD,ae⟩:=h;have hr:=a2M f a m;have ht:=underlying254;have he:=underlying3;have aa:=keyOf_int_mk (k:=28) underlying28 ac;obtain⟨c,e1,e2,_⟩:=ho.lookup_int ukeyed ht he (a5l w) aa;rw[ae a ac] at e2;have e2:=a3n e2;subst e2;obtain⟨w1,e3,ad,hg⟩:=ho.update ukeyed ht (by unfold maxLen;omega) aa (plainElem_int he (mwf (n:=cntI f a m+1) om om));have ab:∀x,(Lit.int .u64 x).wf=true->(D.put (.int .u64 a) (.lit (.int .i64 (cntI f a m+1)))).atKey (.int .u64 x) (.lit (.int .i64 0))=.lit (.int .i64 (cntI f x (m+1))):=by
  intro x hx;simp only[cntI];by_cases e:a=x
  ·subst e;rw[atKey_put_same hD (ukeyed.key aa),iP hf]
  ·rw[atKey_put_other (λq=>e (by injection q with _ q;exact q.symm)),ae x hx,iN (by rw[hf];exact e),Int.add_zero]
 obtain⟨c',e4,e5,_⟩:=ad.lookup_int ukeyed ht he (a5l w1) aa;rw[ab a ac] at e5;have e5:=a3n e5;simp only[cntI,iP hf] at e5;subst e5;have ag:w1.cell? (Pv P 0)=some (.map (some b)):=a0V hP hg af;have HF:Hid (UCnt w1 b f (m+1)/\w.grownBy w1 (some b)):=⟨⟨_,ad,hD.put _ _,ab⟩,hg⟩
 clear ab ad ae ho hD hg hf;generalize cntI f a m=t at *;have wt:IntKind.i64.wrap (t+1)=t+1:=a0t _ om om;by_cases h0:0<t
 ·rw[iP h0];have g1:(1:Int)<t+1:=om
  go_enter func182,ntmps182;(go_wp2_with fail);go_ret;exact⟨rfl,HF.o⟩
 ·rw[iN h0];have g1:¬(1:Int)<t+1:=om
  go_enter func182,ntmps182;(go_wp2_with fail);go_ret;exact⟨rfl,HF.o⟩
theorem a7s (f:Nat->Int) (w:World) :
  Calls prog 135 #[] w λe w'=>e=.returned (.func (.func 182) #[] #[.pointer (some (Pv (w.heap.size+1) 0))])/\w'.cell? (Pv (w.heap.size+1) 0)=some (.map (some w.heap.size))/\UCnt w' w.heap.size f 0/\Bl w w':=by
 have aa:=@run_makeMap prog;go_enter func135,ntmps135;(go_wp2_with fail);go_ret;exact⟨rfl,a9Y _ _ 0 _ _ _ (b0c w (.map #[] 0) (.cells #[.map (some w.heap.size)] 254)),⟨.map [],(World.ownsMap_made w _ _ _).alloc _,isMap_empty,λ_ _=>rfl⟩,bA2 _ _ _⟩
/- ports -/
theorem prowT:(75:TypeId)<prog.types.size:=b0o kr
theorem pwide:(match prog.underlying 75 with | some (.array _ _) | some (.struct _)=>true | _=>false)=true:=by rw[underlying75]
theorem pklaw:WideMaps.KeyLaw prog 75:=deep_law_laid a2y (m:=3) om prowT kr pwide
theorem pkeyed:Keyed prog 75:=Keyed.of_law pklaw
def pkl (x:Int×Int):Lit:=.string (keyBytes [.int .i64 x.1,.int .i64 x.2])
def pV (x:Int×Int):Value:=.agg #[.int .i64 x.1,.int .i64 x.2]
theorem ptypes:∃m,prog.types.size=m+1:=⟨prog.types.size-1,by kernel_rfl⟩
theorem pkeyType:prog.keyType 75=true:=by kernel_rfl
theorem a8H:prog.cellsOf 75=2:=by kernel_rfl
theorem pcells1:prog.cellsOf 3=1:=by kernel_rfl
theorem a3K (x:Int×Int) (h1:(Lit.int .i64 x.1).wf=true) (h2:(Lit.int .i64 x.2).wf=true):keyOf prog 75 (pV x)=some (pkl x):=by
 obtain⟨m,hm⟩:=ptypes;unfold keyOf pV;simp only[underlying75];rw[iP (by simp[pkeyType,Value.formed,underlying75,a8H]),hm];unfold Program.keyLits;simp only[underlying75,Value.cells];rw[iP (by rw[a8H];exact⟨rfl,by simp⟩)];simp[pcells1,Program.keyLits,underlying3,h1,h2,pkl]
abbrev OwnP (w:World) (b n:Nat) (D:DataW Unit):Prop:=w.ownsMap prog 75 (plainElem prog 3) b n D
theorem a3L {w w':World}{b n:Nat}{D:DataW Unit}(h:OwnP w b n D) (e:w'.heap[b]?=w.heap[b]?):OwnP w' b n D:=by
 obtain⟨es,aa,hb,r⟩:=h;exact⟨es,aa,e.trans hb,r⟩
theorem wfP0:(Lit.int .i64 0).wf=true:=by decide
theorem a7t {w:World}{b n:Nat}{D:DataW Unit}{key:Value}{kl:Lit}(h:OwnP w b n D) (ad:keyOf prog 75 key=some kl) (hn:n<maxLen) (hD:IsMap D) :
  ∃(c:Int) (v0:Value) (st:Nat) (w1:World),(Instr.lookup 256 (.map (some b)) key false).run prog w=.ok (.int .i64 c) w/\D.atKey kl (.lit (.int .i64 0))=.lit (.int .i64 c) /\
   (Instr.mapEntry 256 (.map (some b)) key).run prog w=.ok (.tuple #[v0,goInt st]) w1/\(Instr.lookup 256 (.map (some b)) key false).run prog w1=.ok (.int .i64 c) w1 /\
   ∀x,(Lit.int .i64 x).wf=true->∃w2,(Instr.entryStore 256 (.map (some b)) (goInt st) (.int .i64 x)).run prog w1=.ok () w2/\OwnP w2 b (n+1) (D.put kl (.lit (.int .i64 x)))/\w.grownBy w2 (some b):=by
 have ht:=underlying256;have he:=underlying3;obtain⟨c,hl,ag,_⟩:=h.lookup_int pkeyed ht he (a5l w) ad;have h':=h;obtain⟨es,aa,hb,F,hs,eD⟩:=h';obtain⟨v0,st,ai,ac,af,_,ap⟩:=entry_then_store pklaw ht a5l hb F ad;refine⟨c,v0,st,_,hl,ag,af,?_,λx hx => ?_⟩
 ·have al:(setBlock w b (.map ai ac)).heap[b]?=some (.map ai ac):=heap_setBlock_same hb _;rcases pklaw.find w ad es.toList F.keys with⟨q1,q2⟩ | ⟨j,e0,q1,q2,q3⟩
  ·have an:(Instr.mapEntry 256 (.map (some b)) key).run prog w=.ok (.tuple #[.int .i64 0,goInt aa]) (setBlock w b (.map (es.push ⟨key,.int .i64 0,aa⟩) (aa+1))):=by
    simp[Instr.mapEntry,run_underlying ht,MapKept.run_getObj_map hb,pklaw.check w false ad,q1,MapKept.run_setObj_map _ hb,Result.andThen,setBlock]
   have hu:(Instr.mapUpdate 256 (.map (some b)) key (.int .i64 0)).run prog w=.ok () (setBlock w b (.map (es.push ⟨key,.int .i64 0,aa⟩) (aa+1))):=by
    simp[Instr.mapUpdate,run_underlying ht,MapKept.run_getObj_map hb,pklaw.check w false ad,q1,MapKept.run_setObj_map _ hb,Result.andThen,setBlock]
   obtain⟨w',aj,ae,_⟩:=h.update pkeyed ht hn ad (plainElem_int he wfP0);rw[hu] at aj;have ew:setBlock w b (.map (es.push ⟨key,.int .i64 0,aa⟩) (aa+1))=w':=by injection aj
   rw[an] at af;have e1:setBlock w b (.map (es.push ⟨key,.int .i64 0,aa⟩) (aa+1))=setBlock w b (.map ai ac):=by injection af
   rw[<-e1,ew];obtain⟨c',am,ab,_⟩:=ae.lookup_int pkeyed ht he (a5l w') ad;rw[am];rw[atKey_put_same hD (pkeyed.key ad)] at ab;have h0:D.atKey kl (.lit (.int .i64 0))=.lit (.int .i64 0):=by
    rcases fit_look false pkeyed ht (a5l w) hb F ad with⟨_,_,k3⟩ | ⟨e0,y,k1,k2,_⟩
    ·rw[eD];exact k3 _
    ·exact absurd k2 (q2 e0 k1)
   rw[h0] at ag;injection ag with ag;injection ag with _ ag;injection ab with ab;injection ab with _ ab;rw[<-ag,<-ab]
  ·have hj:es[j]?=some e0:=(by simpa using q2)
   have ak:es.modify j (λe=>{ e with key:=key })=es:=by
    apply Array.ext'
    rw[Array.toList_modify,modify_eq_set _ _ _ _ q2];have:({ e0 with key:=key }:MapEntry)=e0:=by rw[<-q3]
    rw[this];exact set_self _ _ _ q2
   have an:(Instr.mapEntry 256 (.map (some b)) key).run prog w=.ok (.tuple #[e0.val,goInt e0.born]) (setBlock w b (.map es aa)):=by
    simp[Instr.mapEntry,run_underlying ht,MapKept.run_getObj_map hb,pklaw.check w false ad,q1,hj,q3,pklaw.stays w ad,ak,MapKept.run_setObj_map _ hb,Result.andThen,setBlock]
   rw[an] at af;have e1:setBlock w b (.map es aa)=setBlock w b (.map ai ac):=by injection af
   rw[<-e1];have ae:=a3L (w':=setBlock w b (.map es aa)) h ((heap_setBlock_same hb _).trans hb.symm);obtain⟨c',am,ab,_⟩:=ae.lookup_int pkeyed ht he (a5l _) ad;rw[am];rw[ag] at ab;injection ab with ab;injection ab with _ ab;rw[ab]
 ·have al:(setBlock w b (.map ai ac)).heap[b]?=some (.map ai ac):=heap_setBlock_same hb _;obtain⟨aq,ah,k1,k2⟩:=ap _ (.int .i64 x) al;obtain⟨w',aj,ae,hg⟩:=h.update pkeyed ht hn ad (plainElem_int he hx);rw[k2] at aj;have ew:setBlock w b (.map aq ah)=w':=by injection aj
  refine⟨_,k1,?_,?_⟩
  ·refine a3L ae ?_;rw[<-ew,heap_setBlock_same al,heap_setBlock_same hb]
  ·exact⟨rfl,rfl,rfl,by simp[setBlock],λi hi ao=>by
    rw[heap_setBlock_other al _ (λe=>ao (by rw[e])),heap_setBlock_other hb _ (λe=>ao (by rw[e]))]⟩
def PCnt (w:World) (b:Nat) (f:Nat->Int×Int) (m:Nat):Prop:=∃D:DataW Unit,OwnP w b m D/\IsMap D/\∀a:Int×Int,(Lit.int .i64 a.1).wf=true->(Lit.int .i64 a.2).wf=true->D.atKey (pkl a) (.lit (.int .i64 0))=.lit (.int .i64 (cntI f a m))
theorem PCnt.same {w w':World}{b m:Nat}{f:Nat->Int×Int}(h:PCnt w b f m) (e:w'.heap[b]?=w.heap[b]?):PCnt w' b f m:=by
 obtain⟨D,h1,h2⟩:=h;exact⟨D,a3L h1 e,h2⟩
theorem PCnt.lt {w:World}{b m:Nat}{f:Nat->Int×Int}(h:PCnt w b f m):b<w.heap.size:=by
 obtain⟨D,h1,_⟩:=h;exact h1.lt
theorem a8I {x y:Int×Int}(x1:(Lit.int .i64 x.1).wf=true) (x2:(Lit.int .i64 x.2).wf=true) (y1:(Lit.int .i64 y.1).wf=true) (y2:(Lit.int .i64 y.2).wf=true) (e:pkl x=pkl y):x=y:=by
 have h1:=a3K x x1 x2;rw[e] at h1;have:=pkeyed.inj h1 (a3K y y1 y2);obtain⟨a,b⟩:=x;obtain⟨a',b'⟩:=y;simp only[pV,Value.agg.injEq,Array.mk.injEq,List.cons.injEq,Value.int.injEq,true_and,and_true] at this;obtain⟨e1,e2⟩:=this;subst e1;subst e2;rfl
theorem tC2 {w:World}{g:Nat}{a0 a1:Value}{ty:TypeId}(h:w.heap[g]?=some (.cells #[a0,a1] ty (0,0))):w.cell? (Pv g 0)=some a0/\w.cell? (Pv g 1)=some a1 :=
 ⟨a9Y w g 0 _ _ _ h,a9Y w g 1 _ _ _ h⟩
theorem a1v {w w':World}{b g:Nat}{o:Obj}(h:w.heap[g]?=some o) (hg:w.grownBy w' (some b)) (aa:g≠b):w'.heap[g]?=some o :=
 (hg.block g (gSm.1 h).1 (λe=>aa (by simpa using e))).trans h
theorem a5m (P b m:Nat) (f:Nat->Int×Int) (a:Int×Int) (w:World) (hP:w.cell? (Pv P 0)=some (.map (some b))) (ad:P≠b) (h:PCnt w b f m) (hm:m<=1000) (hf:f m=a) (h1:(Lit.int .i64 a.1).wf=true) (h2:(Lit.int .i64 a.2).wf=true) :
  Calls prog 185 #[.agg #[.int .i64 a.1,.int .i64 a.2],.pointer (some (Pv P 0))] w λe w'=>e=.returned (.int .i64 (if 0<cntI f a m then 7 else 0))/\PCnt w' b f (m+1)/\w.grownBy w' (some b):=by
 have ai:=h.lt;have ah:=b0r hP;simp only at ah;obtain⟨X,HX⟩:=nm (w.alloc (.cells #[.int .i64 a.1,.int .i64 a.2] 75))
 have af:X.heap[w.heap.size]?=some (.cells #[.int .i64 a.1,.int .i64 a.2] 75):=(by rw[HX.o];exact a9Z _ _)
 have ac:w.grownBy X.drew (some b):=by
  rw[HX.o];exact⟨rfl,rfl,rfl,by simp[World.drew],λi hi _=>(bA1 w _).block i hi⟩
 have hX:PCnt X.drew b f m:=h.same (by rw[HX.o];exact(bA1 w _).block b ai);obtain⟨D,ho,hD,ae⟩:=hX;have hr:=a2M f a m;have aa:=a3K a h1 h2;obtain⟨c,v0,st,w1,e1,e2,e3,e4,e5⟩:=a7t ho aa (by unfold maxLen;omega) hD;rw[ae a h1 h2] at e2;have e2:=a3n e2;subst e2;obtain⟨w2,e6,ag,hg⟩:=e5 (cntI f a m+1) (mwf om om);have ab:∀x:Int×Int,(Lit.int .i64 x.1).wf=true->(Lit.int .i64 x.2).wf=true->(D.put (pkl a) (.lit (.int .i64 (cntI f a m+1)))).atKey (pkl x) (.lit (.int .i64 0))=.lit (.int .i64 (cntI f x (m+1))):=by
  intro x x1 x2;simp only[cntI];by_cases e:a=x
  ·subst e;rw[atKey_put_same hD (pkeyed.key aa),iP hf]
  ·rw[atKey_put_other (λq=>e (a8I h1 h2 x1 x2 q.symm)),ae x x1 x2,iN (by rw[hf];exact e),Int.add_zero]
 obtain⟨c',e7,e8,_⟩:=ag.lookup_int pkeyed underlying256 underlying3 (a5l w2) aa;rw[ab a h1 h2] at e8;have e8:=a3n e8;simp only[cntI,iP hf] at e8;subst e8;have q0:w2.cell? (Pv P 0)=some (.map (some b)):=a0V (a0V hP ac ad) hg ad;have r0:X.cell? (Pv P 0)=some (.map (some b)):=(show X.drew.cell? (Pv P 0)=_ from a0V hP ac ad)
 obtain⟨q1,q2⟩:=tC2 (a1v (w:=X.drew) af hg om);obtain⟨r1,r2⟩:=tC2 af;have HF:Hid (PCnt w2 b f (m+1)/\w.grownBy w2 (some b)):=⟨⟨_,ag,hD.put _ _,ab⟩,ac.trans hg⟩
 unfold pV goInt at *;clear ab ag ae ho hD hg hf ac af e5 aa h hP;generalize cntI f a m=t at *;obtain⟨x,y⟩:=a;simp only at *;have wt:IntKind.i64.wrap (t+1)=t+1:=a0t _ om om;by_cases h0:0<t
 ·rw[iP h0];have g1:(1:Int)<t+1:=om
  go_enter func185,ntmps185;(go_wp2_with fail);rw[<-HX.o];go_region
  (all_goals go_wp2_with fail);(all_goals go_ret);all_goals exact⟨rfl,HF.o⟩
 ·rw[iN h0];have g1:¬(1:Int)<t+1:=om
  go_enter func185,ntmps185;(go_wp2_with fail);rw[<-HX.o];go_region
  (all_goals go_wp2_with fail);(all_goals go_ret);all_goals exact⟨rfl,HF.o⟩
theorem a7u (f:Nat->Int×Int) (w:World) :
  Calls prog 139 #[] w λe w'=>e=.returned (.func (.func 185) #[] #[.pointer (some (Pv (w.heap.size+1) 0))])/\w'.cell? (Pv (w.heap.size+1) 0)=some (.map (some w.heap.size))/\PCnt w' w.heap.size f 0/\Bl w w':=by
 have aa:=@run_makeMap prog;go_enter func139,ntmps139;(go_wp2_with fail);go_ret;exact⟨rfl,a9Y _ _ 0 _ _ _ (b0c w (.map #[] 0) (.cells #[.map (some w.heap.size)] 256)),⟨.map [],(World.ownsMap_made w _ _ _).alloc _,isMap_empty,λ_ _ _=>rfl⟩,bA2 _ _ _⟩
end
section
open Go.Proofs.Tryz
open Go.RowKit Go.Maps
open Pl (Br Net Pc Lk En)
theorem a1i {w w':World}{b:Nat}(h:Bl w w'):w.grownBy w' (some b):=⟨h.os,h.tape,h.output,h.size,λi hi _=>h.block i hi⟩
theorem a2S {w w':World}{b n:Nat}(h:w.grownBy w' (some b)) (hn:n<=w.heap.size) (hb:n<=b):Below n w w':=(b0h n w).grown h hn (λj hj=>by cases hj;exact hb)
def bSay (b:Br) (c:Int):Int:=if Pl.brErr b≠0 then Pl.brErr b else if 0<c then 7 else 0
theorem a4I (b:Br) (Q P B m:Nat) (f:Nat->Int) (w:World) (hb:b.at' w) (hQ:w.cell? (Pv Q 0)=some (.func (.func 182) #[] #[.pointer (some (Pv P 0))])) (hP:w.cell? (Pv P 0)=some (.map (some B))) (ag:P≠B) (hc:UCnt w B f m) (hm:m<=1000) (hf:f m=b.addr) (ad:(Lit.int .u64 b.addr).wf=true) :
  Calls prog 137 #[.agg (brA b),.pointer (some (Pv Q 0))] w λe w'=>e=.returned (.int .i64 (bSay b (cntI f b.addr m)))/\(Pl.brErr b=0->UCnt w' B f (m+1))/\w.grownBy w' (some B):=by
 obtain⟨X,HX⟩:=nm (w.alloc (.cells (brA b) 65))
 have aa:Bl w X:=(by rw[HX.o];exact bA1 _ _)
 have ac:X.heap[w.heap.size]?=some (.cells (brA b) 65):=(by rw[HX.o];exact a9Z _ _)
 have ak:=hc.lt;have af:=b0r hQ;have ae:=b0r hP;simp only at af ae;have HC:Hid (Calls prog 138 #[.agg (brA b)] X λe w'=>e=.returned (.int .i64 (Pl.brErr b))/\Bl X w'):=a3z b X (hb.below aa);have HT:Hid (∀W,Bl X W->Calls prog 182 #[.int .u64 b.addr,.pointer (some (Pv P 0))] W λe w'=>e=.returned (.int .i64 (if 0<cntI f b.addr m then 7 else 0))/\UCnt w' B f (m+1)/\w.grownBy w' (some B)):=by
  intro W hW;have h1:Bl w W:=aa.trans (hW.mono aa.size);refine(a8G P B m f b.addr W ((h1.cell (by exact ae)).trans hP) ag (hc.same (h1.block B ak)) hm hf ad).mono ?_;rintro e w' ⟨rfl,k1,k2⟩;exact⟨rfl,k1,(a1i h1).trans k2⟩
 have HL:Hid (∀W,Bl X W->W.cell? (Pv Q 0)=some (.func (.func 182) #[] #[.pointer (some (Pv P 0))])/\W.cell? (Pv w.heap.size 0)=some (.int .u64 b.addr)/\w.grownBy W (some B)):=by
  intro W hW;have h1:Bl w W:=aa.trans (hW.mono aa.size);exact⟨(h1.cell (by exact af)).trans hQ,(a1L (keep ac hW)).1,a1i h1⟩
 obtain⟨q0,q1,q2,q3,q4⟩:=a1L ac;unfold bSay;generalize Pl.brErr b=E at *;generalize cntI f b.addr m=t at *;generalize (if 0<t then(7:Int) else 0)=R at *;clear hQ hP hc hf ad ac aa hb;obtain⟨ah,al,pn,ai,pv,⟨s,am,ao,n,cap,vs,ts⟩⟩:=b;simp only[brA] at *;by_cases e0:E=0
 ·subst e0;rw[iN om];go_enter func137,ntmps137;(go_wp2_with fail);rw[<-HX.o];refine HC.o.mono ?_;rintro e w1 ⟨rfl,ab⟩;obtain⟨k0,k1,k2⟩:=HL.o w1 ab;have aj:=HT.o w1 ab;clear ab k2 HL HT HC;(go_wp2_with fail);refine aj.mono ?_;rintro e w2 ⟨rfl,k3,k4⟩;(go_wp2_with fail);go_ret;first | exact⟨rfl,λ_=>k3,k4⟩ | exact⟨rfl,k3,k4⟩
 ·rw[iP e0];have e1:(E == 0)=false:=(by simp[e0])
  go_enter func137,ntmps137;(go_wp2_with fail);rw[<-HX.o];refine HC.o.mono ?_;rintro e w1 ⟨rfl,ab⟩;obtain⟨k0,k1,k2⟩:=HL.o w1 ab;(go_wp2_with fail);go_ret;exact⟨rfl,λh=>absurd h e0,k2⟩
def ftA (x:Int×Int):Array Value:=#[.int .i64 x.1,.int .i64 x.2]
theorem a0q:(prog.info? 37).map (·.size)=some 2:=by kernel_rfl
theorem a0i {w:World}{g:Nat}{a0 a1 v0 v1:Value}{ty:TypeId}(h:w.heap[g]?=some (.cells #[a0,a1] ty (0,0))) :
  ((w.setCell (Pv g 0) v0).setCell (Pv g 1) v1).heap[g]?=some (.cells #[v0,v1] ty (0,0)):=by
 have h0:(w.setCell (Pv g 0) v0).heap[g]?=some (.cells #[v0,a1] ty (0,0)):=(by rw[b0e _ _ _ _ _ _ h];rfl)
 rw[b0e _ _ _ _ _ _ h0];rfl
theorem bSay_err (bs:Nat->Br) (k:Nat):bSay (bs k) (cntI (λj=>(bs j).addr) (bs k).addr k)=Pl.bErr bs k:=by
 unfold bSay Pl.bErr;have:=a3B (λj=>(bs j).addr) (bs k).addr k;by_cases h:Pl.brErr (bs k)=0
 ·have hn:¬Pl.brErr (bs k)≠0:=λq=>q h;rw[iN hn,iN hn];by_cases c:0<cntI (λj=>(bs j).addr) (bs k).addr k
  ·rw[iP c,iP (this.1 c)]
  ·rw[iN c,iN (λq=>c (this.2 q))]
 ·rw[iP h,iP h]
theorem a2i {bs:Nat->Br}{k:Nat}(h:Pl.bErr bs k=0):Pl.brErr (bs k)=0:=by
 unfold Pl.bErr at h;by_cases q:Pl.brErr (bs k)=0
 ·exact q
 ·rw[iP q] at h;exact absurd h q
theorem a5Y (ao:OA) (n cap:Nat) (bs:Nat->Br) (Q P B:Nat) (W0 w:World) (hn:n<=12) (hr:BRow W0 ao n cap bs) (hb:∀i,i<n->(bs i).at' W0) (ai:∀i,i<n->(Lit.int .u64 (bs i).addr).wf=true)
  (hQ:w.cell? (Pv Q 0)=some (.func (.func 182) #[] #[.pointer (some (Pv P 0))])) (hP:w.cell? (Pv P 0)=some (.map (some B))) (al:P≠B) (ap:Q≠B) (hc:UCnt w B (λj=>(bs j).addr) 0)
  (hM:W0.heap.size<=B) (ac:Bl W0 w) :
  Calls prog 136 #[.slice ao n cap,.func (.func 137) #[] #[.pointer (some (Pv Q 0))]] w λe w'=>e=.returned (.agg (ftA (Pl.firstTo (Pl.bErr bs) n)))/\Bl W0 w':=by
 have ad:Hid (∀W,Bl W0 W->BRow W ao n cap bs/\∀i,i<n->(bs i).at' W):=λW hW=>⟨CRow.other hr (λq _ _ hq=>hW.block q hq) hW.size,λi hi=>(hb i hi).below hW⟩
 have am:Hid (∀i,i<n->(Lit.int .u64 (bs i).addr).wf=true):=ai;have an:=hr.1;have ak:=hc.lt;obtain⟨G,HG⟩:=nm w.heap.size
 have aq:G≠B:=(by rw[HG.o];omega)
 have ab:W0.heap.size<=G:=(by rw[HG.o];exact ac.size)
 have HI:Hid (∀W,W=w.alloc (.cells #[.int .i64 0,.int .i64 0] 37)->Bl W0 W/\UCnt W B (λj=>(bs j).addr) 0/\W.heap[G]?=some (.cells #[.int .i64 0,.int .i64 0] 37)/\W.cell? (Pv Q 0)=some (.func (.func 182) #[] #[.pointer (some (Pv P 0))])/\W.cell? (Pv P 0)=some (.map (some B))):=by
  intro W hW;have h1:Bl w W:=(by rw[hW];exact bA1 _ _)
  have au:=b0r hQ;have ar:=b0r hP;exact⟨ac.trans (h1.mono ac.size),hc.same (h1.block B ak),by rw[hW,HG.o];exact a9Z _ _,(h1.cell (by exact au)).trans hQ,(h1.cell (by exact ar)).trans hP⟩
 clear hr hb ai hQ hP hc ac ak;go_enter func136,ntmps136;(go_wp2_with fail);rw[<-HG.o];go_loopw [10] (λi wr=>∃k:Nat,k<=n/\i=.int .i64 k/\Hid (∀j,j<k->Pl.bErr bs j=0)/\Hid (Bl W0 wr/\UCnt wr B (λj=>(bs j).addr) k/\wr.heap[G]?=some (.cells #[.int .i64 0,.int .i64 0] 37)/\wr.cell? (Pv Q 0)=some (.func (.func 182) #[] #[.pointer (some (Pv P 0))])/\wr.cell? (Pv P 0)=some (.map (some B)))) (λi _=>n-(intOf i).toNat)
 case atStart=>exact⟨0,om,rfl,(λj hj=>absurd hj om),HI.o _ rfl⟩
 case round =>
  obtain⟨k,hk,rfl,hS,hX⟩:=hrel;clear HI;by_cases hlt:k<n
  ·obtain⟨b,off,rfl,_⟩:=CRow.some (ad.o wr hX.o.1).1 om;obtain⟨c0,c1,c2,c3,c4⟩:=BRow.cells (ad.o wr hX.o.1).1 hlt;obtain⟨X,HX⟩:=nm (wr.alloc (.cells (brA (bs k)) 65))
   have aa:Hid (Bl wr X):=(by rw[HX.o];exact bA1 _ _)
   have aj:Hid (X.heap[wr.heap.size]?=some (.cells (brA (bs k)) 65)):=(by rw[HX.o];exact a9Z _ _)
   have ah:Hid (Calls prog 137 #[.agg (brA (bs k)),.pointer (some (Pv Q 0))] X λe w'=>e=.returned (.int .i64 (Pl.bErr bs k))/\Hid (Bl W0 w'/\(Pl.bErr bs k=0->UCnt w' B (λj=>(bs j).addr) (k+1))/\w'.heap[G]?=some (.cells #[.int .i64 0,.int .i64 0] 37)/\w'.cell? (Pv Q 0)=some (.func (.func 182) #[] #[.pointer (some (Pv P 0))])/\w'.cell? (Pv P 0)=some (.map (some B)))):=by
    obtain⟨x1,x2,x3,x4,x5⟩:=hX.o;have l1:=b0r x4;have l2:=b0r x5;have y1:Bl W0 X:=x1.trans (aa.o.mono x1.size);have y4:=(aa.o.cell (by exact l1)).trans x4;have y5:=(aa.o.cell (by exact l2)).trans x5;have y3:=keep x3 aa.o;refine(a4I (bs k) Q P B k (λj=>(bs j).addr) X ((ad.o X y1).2 k hlt) y4 y5 al (x2.same (aa.o.block B x2.lt)) om rfl (am.o k hlt)).mono ?_;rintro e w' ⟨rfl,z1,z2⟩;rw[bSay_err];exact⟨rfl,y1.trans (a2S z2 y1.size hM),λh=>z1 (a2i h),a1v y3 z2 aq,a0V y4 z2 ap,a0V y5 z2 al⟩
   have ag:Hid (Pl.bErr bs k≠0->ftA (Pl.firstTo (Pl.bErr bs) n)=#[.int .i64 (Pl.bErr bs k),.int .i64 (k:Int)]):=λh=>by rw[Pl.firstTo_here (Pl.bErr bs) k hS.o h n hlt];rfl
   have af:Hid (Pl.bErr bs k=0->∀j,j<k+1->Pl.bErr bs j=0):=λh j hj=>by
    by_cases e:j=k
    ·subst e;exact h
    ·exact hS.o j om
   obtain⟨d0,d1,d2,d3,d4⟩:=a1L aj.o;clear hX hS aj aa am ad;generalize Pl.bErr bs k=E at *;by_cases e0:E=0
   ·subst e0;have av:Hid (∀j,j<k+1->Pl.bErr bs j=0):=af.o rfl;clear af ag;simp only[brA] at *;(go_wp2_with fail);rw[<-HX.o];refine ah.o.mono ?_;rintro e w1 ⟨rfl,hY⟩;clear d0 d1 d2 d3 d4 c0 c1 c2 c3 c4;(go_wp2_with fail);exact⟨⟨k+1,om,gn,av,⟨hY.o.1,hY.o.2.1 (by first | exact rfl | trivial),hY.o.2.2⟩⟩,io⟩
   ·have e1:(E == 0)=false:=(by simp[e0])
    have ae:Hid _:=ag.o e0;clear af ag;simp only[brA] at *;(go_wp2_with fail);rw[<-HX.o];refine ah.o.mono ?_;rintro e w1 ⟨rfl,hY⟩;clear d0 d1 d2 d3 d4 c0 c1 c2 c3 c4;obtain⟨f0,f1⟩:=tC2 hY.o.2.2.1;obtain⟨g0,g1,_,_⟩:=a1K hY.o.2.2.1;(go_wp2_with fail);exact b0b (v:=.agg #[.int .i64 E,.int .i64 (k:Int)]) (a0b (p:=4) (ty:=37) results136 _ _ G 37 #[.int .i64 E,.int .i64 (k:Int)] (0,0) _ rfl (a0i hY.o.2.2.1) underlying37 rfl (by rw[a0q];rfl)) rfl ⟨by rw[ae.o],(hY.o.1.setCell ab _).setCell ab _⟩
  ·obtain rfl:k=n:=om
   have ae:Hid (ftA (Pl.firstTo (Pl.bErr bs) k)=#[.int .i64 0,.int .i64 0]):=(by rw[Pl.firstTo_all _ _ hS.o];rfl)
   obtain⟨f0,f1⟩:=tC2 hX.o.2.2.1;obtain⟨g0,g1,_,_⟩:=a1K hX.o.2.2.1;(go_wp2_with fail);exact b0b (v:=.agg #[.int .i64 0,.int .i64 0]) (a0b (p:=4) (ty:=37) results136 _ _ G 37 #[.int .i64 0,.int .i64 0] (0,0) _ rfl (a0i hX.o.2.2.1) underlying37 rfl (by rw[a0q];rfl)) rfl ⟨by rw[ae.o],(hX.o.1.setCell ab _).setCell ab _⟩
