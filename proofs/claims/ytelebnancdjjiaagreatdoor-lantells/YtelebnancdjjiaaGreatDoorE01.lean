/- GG -/
import Derived.Test.YtelebnancdjjiaaGreatDoorRows
import Derived.WalkSpells
import Derived.WalkLawsBesides
import Derived.BigRegion
import Derived.BigQuiet
import Derived.RegionTactic
import Derived.Deep.WholeRow
import Derived.Deep.RegionWith
import Derived.Deep.DeepCutAuto
import Derived.Laws.CopyOwn
import Derived.Laws.BitsLemmas
import Derived.Laws.Bits64b
import Derived.Laws.ResultCell
import Derived.Laws.AppendOwnNone
import Derived.OwnWalk
import Derived.Below
import Derived.Laws.OwnMore
set_option maxRecDepth 100000
set_option maxHeartbeats 40000000
namespace Go.Proofs.YtelebnancdjjiaaGreatDoor
section
open Go.Proofs.Tryz
open Go.RowKit
theorem aP:(∀(a:Act) (d:Tmp) (v:Value),a.put (some d) v={a with tmps:=a.tmps.setIfInBounds d v})/\(∀(l:List Value) (i:Nat) (a:Value),l.toArray.setIfInBounds i a=(l.set i a).toArray)/\(∀(a b:Value) (l:List Value),(a::l).set 0 b=b::l)/\(∀(a b:Value) (l:List Value) (n:Nat),(a::l).set (n+1) b=a::l.set n b):=⟨λ_ _ _=>rfl,by simp,λ_ _ _=>rfl,λ_ _ _ _=>rfl⟩
abbrev sN:Value:=.slice none 0 0
abbrev a9Y:=@cell_of_row
abbrev a9Z:=@heap_alloc_last
abbrev b0a:=@frozen_of_row
abbrev b0b:=@bodyPost_ret
abbrev b0c:=@heap_alloc2_new
abbrev b0d:=@heap_alloc2_old
abbrev b0e:=@heap_setCell_same
abbrev b0f:=@heap_setCell_other
abbrev b0g:=@Nat.le_refl
abbrev b0h:=@Below.refl
abbrev b0i:=@Below.drew
abbrev b0j:=@decide_eq_false
abbrev b0k:=@decide_eq_true
abbrev b0m:=@List.mem_cons_self
abbrev b0n:=@List.mem_cons_of_mem
abbrev b0o:=@of_decide_eq_true
abbrev b0p:=@Nat.le_trans
abbrev b0q:=@Nat.lt_of_lt_of_le
abbrev b0r:=@block_lt_of_cell
theorem om {p:Prop} (h:p:=by omega):p:=h
theorem kr {p:Prop} (h:p:=by kernel_rfl):p:=h
theorem dd {p:Prop} (h:p:=by decide):p:=h
theorem gn {p:Prop} (h:p:=by go_num):p:=h
theorem aS {p:Prop} (h:p:=by assumption):p:=h
theorem io {p:Prop} (h:p:=by simp[intOf];omega):p:=h
theorem ii {p:Prop} (h:p:=by exact λ_ _ _ h=>h):p:=h
abbrev Iv (x:Int):Value:=.int .i64 x
abbrev Uv (x:Int):Value:=.int .u64 x
abbrev Tv (x:Int):Value:=.int .u32 x
abbrev Pv (b o:Nat):Addr:=⟨b,o,none⟩
abbrev OA:=Option Addr
abbrev iN:=@if_neg
abbrev iP:=@if_pos
theorem nm {α:Type} (a:α):∃x,Hid (x=a):=⟨a,rfl⟩
theorem nn {α:Type} (a:α):∃x,x=a:=⟨a,rfl⟩
abbrev _root_.Go.RowKit.Hid.o {p:Prop} (h:Hid p):p:=h.out
theorem lsA {α:Type} (l:List α) (i:Nat) (a:α):l.toArray.setIfInBounds i a=(l.set i a).toArray:=by simp
theorem lsZ {α:Type} {a b:α} {l:List α}:(a::l).set 0 b=b::l:=rfl
theorem lsS {α:Type} {a b:α} {l:List α} {n:Nat}:(a::l).set (n+1) b=a::l.set n b:=rfl
theorem gSm {α:Type} {x:Array α} {i:Nat} {a:α}:x[i]?=some a↔∃h:i<x.size,x[i]=a:=Array.getElem?_eq_some_iff
abbrev Bl (a b:World):Prop:=Below a.heap.size a b
theorem a1J (b off j:Nat):(⟨b,off,none⟩:Addr).add j=⟨b,off+j,none⟩:=by unfold Addr.add;split<;>simp_all
theorem bA1 (w:World) (o:Obj):Bl w (w.alloc o):=(b0h _ _).alloc (b0g _) _
theorem bA2 (w:World) (o1 o2:Obj):Bl w ((w.alloc o1).alloc o2):=((b0h _ w).alloc (b0g _) _).alloc (by simp) _
theorem a1x (w:World) (A B C:Obj):(((w.alloc A).alloc B).alloc C).heap[w.heap.size]?=some A/\(((w.alloc A).alloc B).alloc C).heap[w.heap.size+1]?=some B/\(((w.alloc A).alloc B).alloc C).heap[w.heap.size+1+1]?=some C/\Bl w (((w.alloc A).alloc B).alloc C):=by
 refine⟨?_,?_,?_,(((b0h _ _).alloc (b0g _) _).alloc (by simp) _).alloc (by simp;omega) _⟩
 ·rw[Below.heap_alloc _ _ _ (by simp;omega)];exact b0d w A B
 ·rw[Below.heap_alloc _ _ _ (by simp)];exact b0c w A B
 ·have:=a9Z ((w.alloc A).alloc B) C;simpa using this
theorem rRt {P:Program}{fn:Func}{p u:Tmp}{ty:TypeId}(h:fn.results=#[.cell p ty,.tmp u]) (aa:Array Value) (w:World) (g:Nat) (t:TypeId) (cs:Array Value) (fr:Nat×Nat) (d:TypeDesc)
  (hp:aa.getD p undef=.pointer (some (Pv g 0))) (hg:w.heap[g]?=some (.cells cs t fr))
  (hu:P.underlying ty=some d) (hd:(match d with | .struct _ | .array _ _=>true | _=>false)=true) (hi:(P.info? ty).map (·.size)=some cs.size) :
  (results fn aa).run P w=.ok (.tuple #[.agg cs,aa.getD u undef]) w:=by
 rw[results_cell_tmp h aa P w,hp];simp[asAddr,run_loadVar_row w g t ty cs fr d hg hu hd hi]
theorem a0t (n:Int) (h0:0<=n) (h1:n<2 ^ 62):IntKind.i64.wrap n=n:=by
 simp[IntKind.wrap,IntKind.bits,IntKind.signed];omega
theorem a2w (n:Int) (h0:0<=n) (h1:n<2 ^ 64):IntKind.u64.wrap n=n:=by
 simp[IntKind.wrap,IntKind.bits,IntKind.signed];omega
def a0s (ao:OA) (n c:Nat):Prop:=ao=none->n=0/\c=0
theorem keep {w1 w2:World}{g:Nat}{o:Obj}(h:w1.heap[g]?=some o) (hb:Bl w1 w2):w2.heap[g]?=some o:=by
 refine(hb.block g ?_).trans h;rcases Nat.lt_or_ge g w1.heap.size with e | e
 ·exact e
 ·rw[Array.getElem?_eq_none e] at h;cases h
theorem a6y {w:World}{g:Nat}{o:Option Obj}(h:w.heap[g]?=o):w.drew.heap[g]?=o:=h
end
section
open Go.Proofs.Tryz
namespace Vc
structure V where
 root:Int
 cost:Int
 bridge:Int
 port:Int
theorem V.eq {a b:V}(h0:a.root=b.root) (h1:a.cost=b.cost) (h2:a.bridge=b.bridge) (h3:a.port=b.port):a=b:=by
 cases a;cases b;simp_all
theorem V.eq_iff {a b:V}:a=b↔a.root=b.root/\a.cost=b.cost/\a.bridge=b.bridge/\a.port=b.port :=
 ⟨λh=>by subst h;exact⟨rfl,rfl,rfl,rfl⟩,fun⟨h0,h1,h2,h3⟩=>V.eq h0 h1 h2 h3⟩
instance (a b:V):Decidable (a=b):=decidable_of_iff _ V.eq_iff.symm
def lt (a b:V):Prop:=a.root<b.root\/(a.root=b.root/\(a.cost<b.cost\/(a.cost=b.cost/\(a.bridge<b.bridge\/(a.bridge=b.bridge/\a.port<b.port)))))
instance (a b:V):Decidable (lt a b):=by unfold lt;infer_instance
theorem lt_irrefl (a:V):¬lt a a:=by unfold lt;omega
theorem lt_trans {a b c:V}(h:lt a b) (k:lt b c):lt a c:=by unfold lt at *;omega
theorem lt_total (a b:V):lt a b\/a=b\/lt b a:=by
 rw[V.eq_iff];unfold lt;omega
theorem eq_of {a b:V}(h:¬lt a b) (k:¬lt b a):a=b:=by
 rcases lt_total a b with e | e | e
 ·exact absurd e h
 ·exact e
 ·exact absurd e k
def fitsOver (v:V) (c:Int):Prop:=(0<=v.cost/\v.cost<=1000000000)/\(0<=c/\c<=1000000000)/\v.cost+c<=1000000000
instance (v:V) (c:Int):Decidable (fitsOver v c):=by unfold fitsOver;infer_instance
def add (v:V) (c:Int):V:=⟨v.root,v.cost+c,v.bridge,v.port⟩
def v0:V:=⟨0,0,0,0⟩
def overV (v:V) (c:Int):V:=if fitsOver v c then add v c else v0
structure Of where
 port:Int
 cost:Int
 age:Int
 vec:V
def may (id:Int) (o:Of):Prop:=fitsOver o.vec o.cost/\0<=o.port/\(0<=o.age/\o.age<20)/\o.vec.root<id
instance (id:Int) (o:Of):Decidable (may id o):=by unfold may;infer_instance
def Of.v (o:Of):V:=add o.vec o.cost
def ahead (o p:Of):Prop:=lt o.v p.v\/(o.v=p.v/\o.port<p.port)
instance (o p:Of):Decidable (ahead o p):=by unfold ahead;infer_instance
def chTo (id:Int) (os:Nat->Of):Nat->Option Nat
 | 0=>none
 | k+1=>if may id (os k) then(match chTo id os k with | none=>some k | some i=>if ahead (os k) (os i) then some k else some i) else chTo id os k
theorem chTo_none (id:Int) (os:Nat->Of):∀n,chTo id os n=none->∀j,j<n->¬may id (os j)
 | 0,_,j,hj=>by omega
 | k+1,h,j,hj=>by
  simp only[chTo] at h;by_cases hm:may id (os k)
  ·rw[iP hm] at h;cases hc:chTo id os k with
   | none=>rw[hc] at h;cases h
   | some i =>
    rw[hc] at h;simp only at h;by_cases ha:ahead (os k) (os i)
    ·rw[iP ha] at h;cases h
    ·rw[iN ha] at h;cases h
  ·rw[iN hm] at h;by_cases e:j=k
   ·subst e;exact hm
   ·exact chTo_none id os k h j om
theorem ahead_irrefl (a:Of):¬ahead a a:=by
 rintro(h | ⟨_,h⟩)
 ·exact lt_irrefl _ h
 ·omega
theorem ahead_trans {a b c:Of}(h:ahead a b) (k:ahead b c):ahead a c:=by
 rcases h with h | ⟨h,h2⟩<;>rcases k with k | ⟨k,k2⟩
 ·exact Or.inl (lt_trans h k)
 ·exact Or.inl (by rw[<-k];exact h)
 ·exact Or.inl (by rw[h];exact k)
 ·exact Or.inr ⟨h.trans k,om⟩
theorem chTo_some (id:Int) (os:Nat->Of):∀n i,chTo id os n=some i->i<n/\may id (os i)/\∀j,j<n->may id (os j)->¬ahead (os j) (os i)
 | 0,i,h=>by cases h
 | k+1,i,h=>by
  simp only[chTo] at h;by_cases hm:may id (os k)
  ·rw[iP hm] at h;cases hc:chTo id os k with
   | none =>
    rw[hc] at h;simp only[Option.some.injEq] at h;subst h;refine⟨om,hm,λj hj aa => ?_⟩;by_cases e:j=k
    ·subst e;exact ahead_irrefl _
    ·exact absurd aa (chTo_none id os k hc j om)
   | some i' =>
    rw[hc] at h;simp only at h;obtain⟨h1,h2,h3⟩:=chTo_some id os k i' hc;by_cases ha:ahead (os k) (os i')
    ·rw[iP ha] at h;simp only[Option.some.injEq] at h;subst h;refine⟨om,hm,λj hj aa => ?_⟩;by_cases e:j=k
     ·subst e;exact ahead_irrefl _
     ·exact λq=>h3 j om aa (ahead_trans q ha)
    ·rw[iN ha] at h;simp only[Option.some.injEq] at h;subst h;refine⟨om,h2,λj hj aa => ?_⟩;by_cases e:j=k
     ·subst e;exact ha
     ·exact h3 j om aa
  ·rw[iN hm] at h;obtain⟨h1,h2,h3⟩:=chTo_some id os k i h;refine⟨om,h2,λj hj aa => ?_⟩;by_cases e:j=k
   ·subst e;exact absurd aa hm
   ·exact h3 j om aa
theorem not_ahead {a b:Of}(h:¬ahead a b) (k:¬ahead b a):a.v=b.v/\a.port=b.port:=by
 have e:a.v=b.v:=eq_of (λq=>h (Or.inl q)) (λq=>k (Or.inl q));have h1:¬a.port<b.port:=λq=>h (Or.inr ⟨e,q⟩);have h2:¬b.port<a.port:=λq=>k (Or.inr ⟨e.symm,q⟩);exact⟨e,om⟩
def chV (id:Int) (os:Nat->Of) (n:Nat):V:=match chTo id os n with | none=>⟨id,0,id,0⟩ | some i=>⟨(os i).v.root,(os i).v.cost,id,0⟩
def chA (id:Int) (os:Nat->Of) (n:Nat):Int:=match chTo id os n with | none=>0 | some i=>(os i).age+1
def chP (id:Int) (os:Nat->Of) (n:Nat):Int:=match chTo id os n with | none => -1 | some i=>(os i).port
def hears (says:V) (port:Int) (o:Of):Prop:=o.port=port/\(0<=o.age/\o.age<=20)/\lt o.vec ⟨says.root,says.cost,says.bridge,port⟩
instance (says:V) (port:Int) (o:Of):Decidable (hears says port o):=by unfold hears;infer_instance
def someTo (p:Nat->Bool):Nat->Bool
 | 0=>false
 | k+1=>someTo p k||p k
def role (says:V) (root port:Int) (os:Nat->Of) (n:Nat):Int:=if port=root then 1 else if someTo (λi=>decide (hears says port (os i))) n=true then 3 else 2
end Vc
namespace Pl
open Vc (V Of)
structure Lk where
 a:Int
 pa:Int
 b:Int
 pb:Int
 cost:Int
 up:Bool
structure En where
 port:Int
 cost:Int
 other:Int
 oport:Int
 live:Bool
def firstTo (f:Nat->Int):Nat->Int×Int
 | 0=>(0,0)
 | k+1=>if (firstTo f k).1≠0 then firstTo f k else if f k≠0 then(f k,(k:Int)) else(0,0)
theorem firstTo_zero (f:Nat->Int):∀n,(firstTo f n).1=0->firstTo f n=(0,0)/\∀i,i<n->f i=0
 | 0,_=>⟨rfl,λi hi=>absurd hi om⟩
 | k+1,h=>by
  simp only[firstTo] at h ⊢;by_cases h1:(firstTo f k).1=0
  ·obtain⟨e1,e2⟩:=firstTo_zero f k h1;by_cases h2:f k=0
   ·refine⟨by simp[h1,h2],λi hi => ?_⟩;by_cases e:i=k
    ·subst e;exact h2
    ·exact e2 i om
   ·simp[h1,h2] at h
  ·simp[h1] at h
theorem firstTo_here (f:Nat->Int) (k:Nat) (h:∀i,i<k->f i=0) (hk:f k≠0):∀n,k<n->firstTo f n=(f k,(k:Int)):=by
 have h0:∀m,m<=k->firstTo f m=(0,0):=by
  intro m;induction m with
  | zero=>intro _;rfl
  | succ m ih =>
   intro hm;simp[firstTo,ih om,h m om]
 intro n hn;induction n with
 | zero=>omega
 | succ n ih =>
  by_cases e:k=n
  ·subst e;simp[firstTo,h0 k (b0g _),hk]
  ·have:=ih om;simp[firstTo,this,hk]
theorem firstTo_all (f:Nat->Int) (n:Nat) (h:∀i,i<n->f i=0):firstTo f n=(0,0):=by
 induction n with
 | zero=>rfl
 | succ n ih=>simp[firstTo,ih (λi hi=>h i om),h n om]
def oddP (p:Int):Bool:=!decide (0<=p/\p<=61440)||decide (p%4096≠0)
def lkErr (K:Nat) (l:Lk):Int :=
 if ¬(0<=l.a/\l.a<=(K:Int)-1)\/¬(0<=l.b/\l.b<=(K:Int)-1) then 6 else if l.a=l.b then 8
 else if ¬(1<=l.pa/\l.pa<=30)\/¬(1<=l.pb/\l.pb<=30)\/¬(1<=l.cost/\l.cost<=200000) then 3 else 0
def isEnd (l:Lk) (x p:Int):Bool:=decide (l.a=x/\l.pa=p)||decide (l.b=x/\l.pb=p)
def lErr (K:Nat) (ls:Nat->Lk) (i:Nat):Int :=
 if lkErr K (ls i)≠0 then lkErr K (ls i) else if Vc.someTo (λj=>isEnd (ls j) (ls i).a (ls i).pa||isEnd (ls j) (ls i).b (ls i).pb) i=true then 7 else 0
def endsAt (l:Lk) (lv:Bool) (i:Nat):List En:=(if l.a=(i:Int) then [⟨l.pa,l.cost,l.b,l.pb,lv⟩] else [])++(if l.b=(i:Int) then [⟨l.pb,l.cost,l.a,l.pa,lv⟩] else [])
def endsTo (ls:Nat->Lk) (lv:Nat->Bool) (i:Nat):Nat->List En
 | 0=>[]
 | k+1=>endsTo ls lv i k++endsAt (ls k) (lv k) i
def leP (x y:En):Bool:=decide (x.port<=y.port)
def ends (ls:Nat->Lk) (lv:Nat->Bool) (L i:Nat):List En:=(endsTo ls lv i L).mergeSort leP
def o0:Of:=⟨0,0,0,Vc.v0⟩
def lf (l:List Of) (j:Nat):Of:=l.getD j o0
end Pl
namespace Pl
open Vc (V Of)
theorem lf_mem {l:List Of}{j:Nat}(h:j<l.length):lf l j∈l:=by
 unfold lf;rw[List.getD_eq_getElem?_getD,List.getElem?_eq_getElem h];exact List.getElem_mem h
theorem lf_of_mem {l:List Of}{o:Of}(h:o∈l):∃j,j<l.length/\lf l j=o:=by
 obtain⟨j,hj,e⟩:=List.getElem_of_mem h;refine⟨j,hj,?_⟩;unfold lf;rw[List.getD_eq_getElem?_getD,List.getElem?_eq_getElem hj];exact e
structure Good (ids:Nat->Int) (E:Nat->List En) (K:Nat):Prop where
 few:K<=12
 lt:∀i,i<K->∀e,e∈E i->e.live=true->(0<=e.other/\e.other<K)/\(1<=e.cost/\e.cost<=200000)/\0<=e.port
section
variable {ids:Nat->Int}{E:Nat->List En}{K:Nat}
theorem toNat_lt {a:Int}{K:Nat}(h:0<=a/\a<K):a.toNat<K:=om
end
end Pl
end
section
open Go.Proofs.Tryz
open Go.RowKit
def CRow (w:World) (ao:OA) (n cap k:Nat) (c:Nat->Nat->Value):Prop :=
 n<=cap/\(0<n->∃b off,ao=some (Pv b off)/\b<w.heap.size/\∀i,i<n->∀j,j<k->w.cell? (Pv b (off+i*k+j))=some (c i j))
theorem CRow.other {w w':World}{ao:OA}{n cap k:Nat}{c:Nat->Nat->Value}(h:CRow w ao n cap k c) (e:∀b off,ao=some (Pv b off)->b<w.heap.size->w'.heap[b]?=w.heap[b]?) (hs:w.heap.size<=w'.heap.size):CRow w' ao n cap k c:=by
 refine⟨h.1,λhp => ?_⟩;obtain⟨b,off,e1,aa,hc⟩:=h.2 hp;exact⟨b,off,e1,b0q aa hs,λi hi j hj=>(World.cell?_of_block (w:=w) (e b off e1 aa)).trans (hc i hi j hj)⟩
theorem CRow.below {w w':World}{ao:OA}{n cap k:Nat}{c:Nat->Nat->Value}(h:CRow w ao n cap k c) (hb:Bl w w'):CRow w' ao n cap k c :=
 h.other (λb _ _ aa=>hb.block b aa) hb.size
theorem CRow.congr {w:World}{ao:OA}{n cap k:Nat}{c d:Nat->Nat->Value}(h:CRow w ao n cap k c) (e:∀i,i<n->c i=d i):CRow w ao n cap k d:=by
 refine⟨h.1,λhp => ?_⟩;obtain⟨b,off,e1,aa,hc⟩:=h.2 hp;exact⟨b,off,e1,aa,λi hi j hj=>by rw[<-e i hi];exact hc i hi j hj⟩
theorem CRow.prefix {w:World}{ao:OA}{n m cap k:Nat}{c:Nat->Nat->Value}(h:CRow w ao n cap k c) (hm:m<=n):CRow w ao m cap k c:=by
 refine⟨b0p hm h.1,λhp => ?_⟩;obtain⟨b,off,e1,aa,hc⟩:=h.2 om;exact⟨b,off,e1,aa,λi hi j hj=>hc i om j hj⟩
theorem CRow.behind {w:World}{b off n cap k:Nat}{c:Nat->Nat->Value}(h:CRow w (some (Pv b off)) n cap k c) (s:Nat) (hs:s<=n):CRow w (some (Pv b (off+s*k))) (n-s) (cap-s) k (λi=>c (s+i)):=by
 refine⟨by have:=h.1;omega,λhp => ?_⟩;obtain⟨b1,aa,e,ab,hc⟩:=h.2 om;cases e
 refine⟨b,off+s*k,rfl,ab,λi hi j hj => ?_⟩;have:=hc (s+i) om j hj;rw[Nat.add_mul] at this;rw[show off+s*k+i*k+j=off+(s*k+i*k)+j by omega];exact this
theorem CRow.none (w:World) (cap k:Nat) (c:Nat->Nat->Value) (ao:OA):CRow w ao 0 cap k c:=⟨Nat.zero_le _,λh=>absurd h om⟩
def a0f (n k:Nat) (c:Nat->Nat->Value):List Value:=(List.range (n*k)).map (λx=>c (x/k) (x%k))
theorem a0p (n k:Nat) (c:Nat->Nat->Value):(a0f n k c).length=n*k:=by simp[a0f]
theorem a7c (n k:Nat) (c:Nat->Nat->Value) (j:Nat) (v:Value) (h:(a0f n k c)[j]?=some v):j<n*k/\v=c (j/k) (j%k):=by
 have hj:j<n*k:=by
  have:=(List.getElem?_eq_some_iff.1 h).1;simpa[a0f] using this
 refine⟨hj,?_⟩;simp[a0f,hj] at h;exact h.symm
theorem a4h (n k:Nat) (c:Nat->Nat->Value) (h:∀i j,(c i j).oneCell'=true):∀v∈a0f n k c,v.oneCell'=true:=by
 intro v hv;simp[a0f] at hv;obtain⟨i,_,rfl⟩:=hv;exact h _ _
def catC (n:Nat) (c d:Nat->Nat->Value) (i:Nat):Nat->Value:=if i<n then c i else d (i-n)
theorem a2h {x n k:Nat}(hk:0<k) (h:x<n*k):x/k<n:=(Nat.div_lt_iff_lt_mul hk).2 h
theorem a2E (n m k:Nat) (hk:0<k) (c d:Nat->Nat->Value):a0f n k c++a0f m k d=a0f (n+m) k (catC n c d):=by
 apply List.ext_getElem?
 intro i;by_cases h:i<n*k
 ·rw[List.getElem?_append_left (by rw[a0p];exact h)];have h2:i<(n+m)*k:=(by rw[Nat.add_mul];omega)
  simp[a0f,h,h2];unfold catC;rw[iP (a2h hk h)]
 ·rw[List.getElem?_append_right (by rw[a0p];omega),a0p];by_cases h2:i<(n+m)*k
  ·have h3:i-n*k<m*k:=(by rw[Nat.add_mul] at h2;omega)
   simp[a0f,h2,h3];unfold catC;have e1:i/k=n+(i-n*k)/k:=by
    have:=Nat.add_mul_div_right (i-n*k) n hk;rw[show i-n*k+n*k=i by omega,Nat.add_comm] at this;exact this
   have e2:i%k=(i-n*k)%k:=by
    have:=Nat.add_mul_mod_self_right (i-n*k) n k;rw[show i-n*k+n*k=i by omega] at this;exact this
   rw[e1,e2,iN (Nat.not_lt.2 (Nat.le_add_right _ _)),Nat.add_sub_cancel_left]
  ·have h4:=Nat.add_mul n m k;rw[List.getElem?_eq_none (by rw[a0p];omega),List.getElem?_eq_none (by rw[a0p];omega)]
theorem a0k (n k:Nat) (c d:Nat->Nat->Value) (h:∀i,i<n->c i=d i):a0f n k c=a0f n k d:=by
 unfold a0f;apply List.map_congr_left
 intro x hx;have hx:x<n*k:=(by simpa using hx)
 have hk:0<k:=by
  rcases Nat.eq_zero_or_pos k with e | e
  ·subst e;omega
  ·exact e
 rw[h _ (a2h hk hx)]
theorem a5d {W:World}{ao:OA}{n cap k:Nat}{c:Nat->Nat->Value}(hk:0<k) (h:CRow W ao n cap k c) {ad:Addr}(e:ao=some ad):∀j v,(a0f n k c)[j]?=some v->W.cell? (ad.add j)=some v:=by
 intro j v hj;obtain⟨aa,rfl⟩:=a7c _ _ _ _ _ hj;have hp:0<n:=by
  rcases Nat.eq_zero_or_pos n with e | e
  ·subst e;omega
  ·exact e
 obtain⟨b,off,e2,_,hc⟩:=h.2 hp;rw[e] at e2;cases e2
 rw[a1J];have:=hc (j/k) (a2h hk aa) (j%k) (Nat.mod_lt _ hk);rw[Nat.add_assoc,Nat.mul_comm,Nat.div_add_mod] at this;exact this
theorem a0W {w:World}{base n e k:Nat}{v:Value}{c:Nat->Nat->Value}(hk:0<k) (h:w.ownsRow base e k v n (a0f n k c)):∃ao cap,v=.slice ao n cap/\CRow w ao n cap k c/\a0s ao n cap/\(∀ad,ao=some ad->base<=ad.block):=by
 have h':=h;obtain⟨_,h2⟩:=h;rcases h2 with⟨rfl,rfl⟩ | ⟨g,cap,ab,rfl,hg,hh,hn,hm,_,_⟩
 ·exact⟨none,0,rfl,CRow.none _ _ _ _ _,λ_=>⟨rfl,rfl⟩,λad e=>by cases e⟩
 ·refine⟨_,cap,rfl,⟨hn,λhp=>⟨g,0,rfl,(gSm.1 hh).1,λi hi j hj => ?_⟩⟩,(λe=>by cases e),(λad e=>by cases e;exact hg)⟩;have aa:i*k+j<n*k:=by
   have:(i+1)*k<=n*k:=Nat.mul_le_mul_right k om;rw[Nat.add_mul] at this;omega
  rw[Nat.zero_add,h'.cellAt (i*k+j) aa];simp[a0f,aa];have e1:(i*k+j)/k=i:=(by rw[Nat.add_comm,Nat.add_mul_div_right _ _ hk,Nat.div_eq_of_lt hj,Nat.zero_add])
  have e2:(i*k+j)%k=j:=(by rw[Nat.add_comm,Nat.add_mul_mod_self_right,Nat.mod_eq_of_lt hj])
  first | rw[e1,e2] | rw[e1,Nat.mod_eq_of_lt hj]
theorem a0h {w w':World}{base e k n:Nat}{v:Value}{xs:List Value}(h:w.ownsRow base e k v n xs) (hb:Bl w w'):w'.ownsRow base e k v n xs:=by
 obtain⟨h1,h2⟩:=h;refine⟨h1,?_⟩;rcases h2 with h2 | ⟨g,cap,aa,hv,hg,hh,r⟩
 ·exact Or.inl h2
 ·exact Or.inr ⟨g,cap,aa,hv,hg,keep hh hb,r⟩
theorem oCb {w:World}{base e k n:Nat}{v:Value}{xs:List Value}(h:w.ownsRow base e k v n xs):∀q,v.ownBlock=some q->base<=q/\q<w.heap.size:=by
 intro q hq;obtain⟨_,h2⟩:=h;rcases h2 with⟨rfl,_⟩ | ⟨g,cap,aa,rfl,hg,hh,_⟩
 ·simp[Value.ownBlock] at hq
 ·simp[Value.ownBlock] at hq;subst hq;exact⟨hg,(gSm.1 hh).1⟩
theorem a0E (w:World) (t e:TypeId) (z:Value) (k bytes:Nat) (ht:prog.underlying t=some (.slice e)) (ae:(prog.info? e).map (λi=>(i.zero,i.size,i.bytes))=some (some z,k,bytes)) (ah:z.cells.size=k) (hk:0<k)
  (base:Nat) (v:Value) (n:Nat) (c:Nat->Nat->Value) (aa:w.ownsRow base e k v n (a0f n k c)) (ao:OA) (m cp:Nat) (d:Nat->Nat->Value) (hd:∀i j,(d i j).oneCell'=true) (hr:CRow w ao m cp k d) (af:a0s ao m cp) (aj:n+m<=maxLen) (hb:(n+m)*bytes<=140737488355328) (ab:base<=w.heap.size) :
  ∃a1 c1 w',(Builtin.append_ #[t,t] t #[v,.slice ao m cp]).run prog w=.ok (.slice a1 (n+m) c1) w'/\w'.ownsRow base e k (.slice a1 (n+m) c1) (n+m) (a0f (n+m) k (catC n c d))/\Below base w w'/\(∀q,q<w.heap.size->some q≠v.ownBlock->w'.heap[q]?=w.heap[q]?):=by
 obtain⟨i0,hi,ak,ai,ag⟩:=info_parts ae;cases ao with
 | none =>
  obtain⟨rfl,rfl⟩:=af rfl;have ac:=run_append_owned_none (P:=prog) (w:=w) base t t e i0 k ht hi v n _ aa;obtain⟨a1,c1,rfl,_⟩:=a0W hk aa;refine⟨a1,c1,w,ac,?_,b0h _ _,λ_ _ _=>rfl⟩;rw[Nat.add_zero,a0k n k (catC n c d) c (λi hi=>iP hi)];exact aa
 | some ad =>
  obtain⟨v',w',ac,h1,h2,_⟩:=run_append_own (P:=prog) w base t t e i0 z k bytes ht hi ak ai ag ah hk v n _ aa ad m cp (a0f m k d) (a0p _ _ _) (a5d hk hr rfl) (a4h _ _ _ hd) aj hb ab;rw[a2E n m k hk] at h1;obtain⟨a1,c1,rfl,_⟩:=a0W hk h1;exact⟨a1,c1,w',ac,h1,(b0h _ _).grown h2 ab (λq hq=>(oCb aa q hq).1),h2.block⟩
theorem a0y (w:World) (base e k:Nat) (c:Nat->Nat->Value):w.ownsRow base e k sN 0 (a0f 0 k c) :=
 ⟨by rw[a0p],Or.inl ⟨rfl,rfl⟩⟩
theorem a2l {w w':World}{aa:Array Oper}{o:Oper}{a:Act}{K:Act->World->Prop}{Q:Exit->Act->World->Prop}{E:Prop}(ab:o.guard=none) (s x:Operand) (t:TypeId)
  (ho:o.op=.call { callee:=.builtin .append,args:=#[s,x],argTypes:=#[t,t] }) (v vx v':Value) (hs:a.eval s=v) (hx:a.eval x=vx) (hr:(Builtin.append_ #[t,t] o.type #[v,vx]).run prog w=.ok v' w')
  (h:K (a.put o.dst v') w'):if Region.wanted o (yielded aa a.tmps)=true then Oper.wp prog o a w K Q else E:=by
 have hw:Region.wanted o (yielded aa a.tmps)=true:=(by simp[Region.wanted,ab])
 rw[iP hw];unfold Oper.wp execOp;simp only[ho,resolve,invoke,builtin,Sem.run_bind,Sem.run_pure,Result.andThen_ok,List.map_toArray,List.map_cons,List.map_nil,hs,hx,hr];exact h
theorem a0a {w w':World}{aa:Array Oper}{rest:List Oper}{o:Oper}{a:Act}{Q:Exit->Act->World->Prop}(ab:o.guard=none) (s x:Operand) (t:TypeId)
  (ho:o.op=.call { callee:=.builtin .append,args:=#[s,x],argTypes:=#[t,t] }) (v vx v':Value) (hs:a.eval s=v) (hx:a.eval x=vx) (hr:(Builtin.append_ #[t,t] o.type #[v,vx]).run prog w=.ok v' w')
  (h:wpList prog aa Q rest (a.put o.dst v') w'):wpList prog aa Q (o :: rest) a w:=by
 refine wpList_plain ab λK hK => ?_;unfold Oper.wp execOp;simp only[ho,resolve,invoke,builtin,Sem.run_bind,Sem.run_pure,Result.andThen_ok,List.map_toArray,List.map_cons,List.map_nil,hs,hx,hr];exact hK _ _ h
end
section
open Go.Proofs.Tryz
open Go.RowKit
open Vc (V Of)
def vA (v:V):Array Value:=#[Uv v.root,Iv v.cost,Uv v.bridge,Iv v.port]
theorem a3u:(prog.info? 115).map (·.size)=some 4:=by kernel_rfl
theorem a1p {w:World}{g:Nat}{a0 a1 a2 a3:Value}{ty:TypeId}(h:w.heap[g]?=some (.cells #[a0,a1,a2,a3] ty (0,0))) :
  w.cell? (Pv g 0)=some a0/\w.cell? (Pv g 1)=some a1/\w.cell? (Pv g 2)=some a2/\w.cell? (Pv g 3)=some a3 :=
 ⟨a9Y w g 0 _ _ _ h,a9Y w g 1 _ _ _ h,a9Y w g 2 _ _ _ h,a9Y w g 3 _ _ _ h⟩
theorem a1K {w:World}{g:Nat}{A:Array Value}{ty:TypeId}(h:w.heap[g]?=some (.cells A ty (0,0))) :
  w.frozen? (Pv g 0)=false/\w.frozen? (Pv g 1)=false/\w.frozen? (Pv g 2)=false/\w.frozen? (Pv g 3)=false :=
 ⟨b0a _ _ _ _ _ h,b0a _ _ _ _ _ h,b0a _ _ _ _ _ h,b0a _ _ _ _ _ h⟩
def vC (v:V) (j:Nat):Value:=if j=0 then Uv v.root else if j=1 then Iv v.cost else if j=2 then Uv v.bridge else Iv v.port
def ofC (o:Of) (j:Nat):Value:=if j=0 then Iv o.port else if j=1 then Iv o.cost else if j=2 then Iv o.age else vC o.vec (j-3)
theorem vC_one (v:V) (j:Nat):(vC v j).oneCell'=true:=by
 unfold vC;repeat' split
 all_goals rfl
theorem ofC_one (o:Of) (j:Nat):(ofC o j).oneCell'=true:=by
 unfold ofC;repeat' split
 all_goals first | rfl | exact vC_one _ _
abbrev VRow (w:World) (ao:OA) (n cap:Nat) (vs:Nat->V):Prop:=CRow w ao n cap 4 (λi=>vC (vs i))
abbrev ORow (w:World) (ao:OA) (n cap:Nat) (os:Nat->Of):Prop:=CRow w ao n cap 7 (λi=>ofC (os i))
theorem VRow.cells {w:World}{b off n cap:Nat}{vs:Nat->V}(h:VRow w (some (Pv b off)) n cap vs) {i:Nat}(hi:i<n) :
  w.cell? (Pv b (off+i*4))=some (Uv (vs i).root)/\w.cell? (Pv b (off+i*4+1))=some (Iv (vs i).cost)/\w.cell? (Pv b (off+i*4+2))=some (Uv (vs i).bridge)/\w.cell? (Pv b (off+i*4+3))=some (Iv (vs i).port):=by
 obtain⟨b',aa,e,_,hc⟩:=h.2 om;cases e
 exact⟨hc i hi 0 om,hc i hi 1 om,hc i hi 2 om,hc i hi 3 om⟩
theorem ORow.cells {w:World}{b off n cap:Nat}{os:Nat->Of}(h:ORow w (some (Pv b off)) n cap os) {i:Nat}(hi:i<n) :
  w.cell? (Pv b (off+i*7))=some (Iv (os i).port)/\w.cell? (Pv b (off+i*7+1))=some (Iv (os i).cost)/\w.cell? (Pv b (off+i*7+2))=some (Iv (os i).age)/\w.cell? (Pv b (off+i*7+3))=some (Uv (os i).vec.root)/\w.cell? (Pv b (off+i*7+4))=some (Iv (os i).vec.cost)/\w.cell? (Pv b (off+i*7+5))=some (Uv (os i).vec.bridge)/\w.cell? (Pv b (off+i*7+6))=some (Iv (os i).vec.port):=by
 obtain⟨b',aa,e,_,hc⟩:=h.2 om;cases e
 exact⟨hc i hi 0 om,hc i hi 1 om,hc i hi 2 om,hc i hi 3 om,hc i hi 4 om,hc i hi 5 om,hc i hi 6 om⟩
theorem CRow.some {w:World}{ao:OA}{n cap k:Nat}{c:Nat->Nat->Value}(h:CRow w ao n cap k c) (hn:0<n):∃b off,ao=.some ⟨b,off,.none⟩/\b<w.heap.size:=by
 obtain⟨b,off,e,hb,_⟩:=h.2 hn;exact⟨b,off,e,hb⟩
theorem a6z {w:World}{g:Nat}{a0 a1 a2 a3 a4 a5 a6:Value}{ty:TypeId}(h:w.heap[g]?=some (.cells #[a0,a1,a2,a3,a4,a5,a6] ty (0,0))) :
  w.cell? (Pv g 0)=some a0/\w.cell? (Pv g 1)=some a1/\w.cell? (Pv g 2)=some a2/\w.cell? (Pv g 3)=some a3/\w.cell? (Pv g 4)=some a4/\w.cell? (Pv g 5)=some a5/\w.cell? (Pv g 6)=some a6 :=
 ⟨a9Y w g 0 _ _ _ h,a9Y w g 1 _ _ _ h,a9Y w g 2 _ _ _ h,a9Y w g 3 _ _ _ h,a9Y w g 4 _ _ _ h,a9Y w g 5 _ _ _ h,a9Y w g 6 _ _ _ h⟩
theorem a3E (p:Nat->Bool) (k:Nat) (h:p k=true):∀n,k<n->Vc.someTo p n=true:=by
 intro n hn;induction n with
 | zero=>omega
 | succ n ih =>
  simp only[Vc.someTo];by_cases e:k=n
  ·subst e;rw[h,Bool.or_true]
  ·rw[ih om,Bool.true_or]
end
section
open Go.Proofs.Tryz
open Go.RowKit
theorem a0d {n:Nat}{w w':World}(h:Below n w w') (m:Nat):Below n w (w'.drewN m):=⟨h.os,h.tape,h.output,h.size,h.block⟩
theorem a0b {P:Program}{fn:Func}{p:Tmp}{ty:TypeId}(h:fn.results=#[.cell p ty]) (aa:Array Value) (w:World) (g:Nat) (t:TypeId) (cs:Array Value) (fr:Nat×Nat) (d:TypeDesc)
  (hp:aa.getD p undef=.pointer (some (Pv g 0))) (hg:w.heap[g]?=some (.cells cs t fr))
  (hu:P.underlying ty=some d) (hd:(match d with | .struct _ | .array _ _=>true | _=>false)=true) (hi:(P.info? ty).map (·.size)=some cs.size) :
  (results fn aa).run P w=.ok (.agg cs) w:=by
 have ab:aa[p]?.getD undef=.pointer (some (Pv g 0)):=(by simpa using hp)
 simp[results,h,ab,asAddr,run_loadVar_row w g t ty cs fr d hg hu hd hi]
end
section
open Go.Proofs.Tryz
open Go.RowKit
open Vc (V Of)
def atTo (id:Int) (os:Nat->Of) (k:Nat):Int:=match Vc.chTo id os k with | none => -1 | some i=>(i:Int)
def a0X (id:Int) (os:Nat->Of) (k:Nat):V:=match Vc.chTo id os k with | none=>Vc.v0 | some i=>(os i).v
theorem a2v {P:Program}{fn:Func}{p u x:Tmp}{ty:TypeId}(h:fn.results=#[.cell p ty,.tmp u,.tmp x]) (aa:Array Value) (w:World) (g:Nat) (t:TypeId) (cs:Array Value) (fr:Nat×Nat) (d:TypeDesc)
  (hp:aa.getD p undef=.pointer (some (Pv g 0))) (hg:w.heap[g]?=some (.cells cs t fr))
  (hu:P.underlying ty=some d) (hd:(match d with | .struct _ | .array _ _=>true | _=>false)=true) (hi:(P.info? ty).map (·.size)=some cs.size) :
  (results fn aa).run P w=.ok (.tuple #[.agg cs,aa.getD u undef,aa.getD x undef]) w:=by
 have ab:aa[p]?.getD undef=.pointer (some (Pv g 0)):=(by simpa using hp)
 simp[results,h,ab,asAddr,run_loadVar_row w g t ty cs fr d hg hu hd hi]
theorem a7d {w:World}{g j:Nat}{v0 v1 v2 v3:Value}(h:j≠g):((((w.setCell (Pv g 0) v0).setCell (Pv g 1) v1).setCell (Pv g 2) v2).setCell (Pv g 3) v3).heap[j]?=w.heap[j]? :=
 (b0f _ _ _ _ (by exact h)).trans ((b0f _ _ _ _ (by exact h)).trans ((b0f _ _ _ _ (by exact h)).trans (b0f _ _ _ _ (by exact h))))
theorem a5M {w:World}{g:Nat}{a0 a1 a2 a3 v0 v1 v2 v3:Value}{ty:TypeId}(h:w.heap[g]?=some (.cells #[a0,a1,a2,a3] ty (0,0))) :
  ((((w.setCell (Pv g 0) v0).setCell (Pv g 1) v1).setCell (Pv g 2) v2).setCell (Pv g 3) v3).heap[g]?=some (.cells #[v0,v1,v2,v3] ty (0,0)):=by
 have h0:(w.setCell (Pv g 0) v0).heap[g]?=some (.cells #[v0,a1,a2,a3] ty (0,0)):=(by rw[b0e _ _ _ _ _ _ h];rfl)
 have h1:((w.setCell (Pv g 0) v0).setCell (Pv g 1) v1).heap[g]?=some (.cells #[v0,v1,a2,a3] ty (0,0)):=(by rw[b0e _ _ _ _ _ _ h0];rfl)
 have h2:(((w.setCell (Pv g 0) v0).setCell (Pv g 1) v1).setCell (Pv g 2) v2).heap[g]?=some (.cells #[v0,v1,v2,a3] ty (0,0)):=(by rw[b0e _ _ _ _ _ _ h1];rfl)
 rw[b0e _ _ _ _ _ _ h2];rfl
end
section
open Go.Proofs.Tryz
open Go.RowKit
def rowF (n:Nat) (f:Nat->Int):Array Value:=((List.range n).map λi=>Value.int .u8 (f i)).toArray
theorem a0H (n:Nat) (f:Nat->Int):(rowF n f).size=n:=by simp[rowF]
theorem a0Q (n:Nat) (f:Nat->Int) (j:Nat) (h:j<n):(rowF n f)[j]?=some (.int .u8 (f j)):=by simp[rowF,h]
theorem a2F (n:Nat) (f:Nat->Int) (k:Nat) (v:Int) (h:k<n):(rowF n f).setIfInBounds k (.int .u8 v)=rowF n (λi=>if i=k then v else f i):=by
 apply Array.ext_getElem?
 intro i;by_cases hi:i<n
 ·rw[a0Q n _ i hi,Array.getElem?_setIfInBounds];by_cases e:k=i
  ·subst e;simp[a0H,h]
  ·rw[iN e,a0Q n f i hi,iN (λh=>e h.symm)]
 ·rw[Array.getElem?_eq_none (by simp[a0H];omega),Array.getElem?_eq_none (by simp[a0H];omega)]
theorem a1y (n:Nat) (f g:Nat->Int) (h:∀i,i<n->f i=g i):rowF n f=rowF n g:=by
 unfold rowF;congr 1
 apply List.map_congr_left
 intro i hi;rw[h i (by simpa using hi)]
theorem a4E (n:Nat) (f:Nat->Int):(rowF n f).all (·.oneCell')=true:=by
 rw[Array.all_eq_true_iff_forall_mem];intro v hv;simp[rowF] at hv;obtain⟨i,_,rfl⟩:=hv;rfl
def a0e (n:Nat) (f:Nat->Int):List Value:=(List.range n).map λi=>Value.int .u8 (f i)
theorem a0g (n:Nat) (f:Nat->Int):(a0e n f).length=n:=by simp[a0e]
theorem a2G (n:Nat) (f:Nat->Int) (j:Nat) (v:Value) (h:(a0e n f)[j]?=some v):j<n/\v=.int .u8 (f j):=by
 have hj:j<n:=by
  have:=(List.getElem?_eq_some_iff.1 h).1;simpa[a0e] using this
 refine⟨hj,?_⟩;simp[a0e,hj] at h;exact h.symm
theorem a1P (n:Nat) (f:Nat->Int):∀v∈a0e n f,v.oneCell'=true:=by
 intro v hv;simp[a0e] at hv;obtain⟨i,_,rfl⟩:=hv;rfl
theorem a2x (n:Nat) (f g:Nat->Int) (h:∀i,i<n->f i=g i):a0e n f=a0e n g:=by
 unfold a0e;apply List.map_congr_left
 intro i hi;rw[h i (by simpa using hi)]
theorem a2m (n m:Nat) (f g:Nat->Int):a0e n f++a0e m g=a0e (n+m) (λi=>if i<n then f i else g (i-n)):=by
 apply List.ext_getElem?
 intro i;by_cases h:i<n
 ·rw[List.getElem?_append_left (by rw[a0g];exact h)];simp[a0e,h,show i<n+m by omega]
 ·rw[List.getElem?_append_right (by rw[a0g];omega),a0g];by_cases h2:i<n+m
  ·simp[a0e,h,h2,show i-n<m by omega]
  ·rw[List.getElem?_eq_none (by rw[a0g];omega),List.getElem?_eq_none (by rw[a0g];omega)]
theorem a4i (m n:Nat) (f:Nat->Int) (h:n<=m):(splice (a0e m (λ_=>0)) 0 (a0e n f)).toArray=rowF m (λi=>if i<n then f i else 0):=by
 unfold splice rowF;congr 1
 apply List.ext_getElem?
 intro i;simp only[List.take_zero,List.nil_append,Nat.zero_add,a0g];by_cases hi:i<n
 ·rw[List.getElem?_append_left (by simpa[a0g] using hi)];simp[a0e,hi,show i<m by omega]
 ·rw[List.getElem?_append_right (by simp[a0g];omega)];by_cases hm:i<m
  ·simp[a0e,List.getElem?_drop,hi,show n+(i-n)=i by omega,hm]
  ·simp[a0e,List.getElem?_drop,show n+(i-n)=i by omega,hm]
def ByteRow (w:World) (ao:OA) (n cap:Nat) (bs:Nat->Int):Prop :=
 n<=cap/\(0<n->∃b off,ao=some (Pv b off)/\b<w.heap.size/\∀i,i<n->w.cell? (Pv b (off+i))=some (.int .u8 (bs i)))
theorem ByteRow.below {w w':World}{ao:OA}{n cap:Nat}{bs:Nat->Int}(h:ByteRow w ao n cap bs) (hb:Bl w w'):ByteRow w' ao n cap bs:=by
 refine⟨h.1,λhp => ?_⟩;obtain⟨b,off,e,aa,hc⟩:=h.2 hp;exact⟨b,off,e,b0q aa hb.size,λi hi=>(hb.cell (by exact aa)).trans (hc i hi)⟩
theorem ByteRow.congr {w:World}{ao:OA}{n cap:Nat}{bs cs:Nat->Int}(h:ByteRow w ao n cap bs) (e:∀i,i<n->bs i=cs i):ByteRow w ao n cap cs:=by
 refine⟨h.1,λhp => ?_⟩;obtain⟨b,off,e1,aa,hc⟩:=h.2 hp;exact⟨b,off,e1,aa,λi hi=>by rw[<-e i hi];exact hc i hi⟩
theorem a8o {W:World}{ao:OA}{n cap:Nat}{bs:Nat->Int}(h:ByteRow W ao n cap bs) {ad:Addr}(e:ao=some ad):∀j v,(a0e n bs)[j]?=some v->W.cell? (ad.add j)=some v:=by
 intro j v hj;obtain⟨aa,rfl⟩:=a2G _ _ _ _ hj;obtain⟨b,off,e2,_,hc⟩:=h.2 om;rw[e] at e2;cases e2
 rw[a1J];exact hc j aa
theorem ByteRow.of_row {w:World}{g N off n cap:Nat}{f:Nat->Int}{ty:TypeId}(h:w.heap[g]?=some (.cells (rowF N f) ty (0,0))) (hn:off+n<=N) (hc:n<=cap):ByteRow w (some (Pv g off)) n cap (λi=>f (off+i)):=by
 refine⟨hc,λhp=>⟨g,off,rfl,b0r ((a9Y w g off _ _ _ h).trans (a0Q _ _ _ om)),λi hi=>(a9Y w g (off+i) _ _ _ h).trans (a0Q _ _ _ om)⟩⟩
theorem a8p:(prog.info? 5).map (·.size)=some 1:=by kernel_rfl
theorem a6A {W:World}{ao:OA}{n m cap:Nat}{bs:Nat->Int}(h:ByteRow W ao n cap bs) (hm:m<=n) (hp:0<(a0e m bs).length):∃ad,ao=some ad/\∀j v,(a0e m bs)[j]?=some v->W.cell? (ad.add j)=some v:=by
 rw[a0g] at hp;obtain⟨b,off,rfl,hb,hc⟩:=h.2 om;refine⟨_,rfl,λj v hj => ?_⟩;obtain⟨aa,rfl⟩:=a2G _ _ _ _ hj;rw[a1J];exact hc j om
theorem a8q:(prog.info? 5).map (λi=>(i.zero,i.size,i.bytes))=some (some (.int .u8 0),1,1):=by kernel_rfl
theorem a3j {w w':World}{base e aa n:Nat}{v:Value}{xs:List Value}(h:w.ownsRow base e aa v n xs) (hb:Bl w w'):w'.ownsRow base e aa v n xs:=by
 obtain⟨h1,h2⟩:=h;refine⟨h1,?_⟩;rcases h2 with h2 | ⟨g,cap,ab,hv,hg,hh,r⟩
 ·exact Or.inl h2
 ·exact Or.inr ⟨g,cap,ab,hv,hg,by rw[hb.block g (by
   rcases Nat.lt_or_ge g w.heap.size with h | h
   ·exact h
   ·rw[Array.getElem?_eq_none h] at hh;cases hh)];exact hh,r⟩
theorem a4j {w:World}{base e aa n:Nat}{v:Value}{xs:List Value}(h:w.ownsRow base e aa v n xs):∀k,v.ownBlock=some k->base<=k:=by
 intro k hk;obtain⟨_,h2⟩:=h;rcases h2 with⟨rfl,_⟩ | ⟨g,cap,ab,rfl,hg,_⟩
 ·simp[Value.ownBlock] at hk
 ·simp[Value.ownBlock] at hk;omega
theorem a2n {w:World}{base n:Nat}{v:Value}{f:Nat->Int}(h:w.ownsRow base 5 1 v n (a0e n f)):∃ao cap,v=.slice ao n cap/\ByteRow w ao n cap f/\cap<=maxLen/\(ao=none->n=0/\cap=0)/\(∀ad,ao=some ad->base<=ad.block):=by
 have h':=h;obtain⟨_,h2⟩:=h;rcases h2 with⟨rfl,rfl⟩ | ⟨g,cap,aa,rfl,hg,hh,hn,hm,_,_⟩
 ·exact⟨none,0,rfl,⟨b0g _,λh=>absurd h om⟩,by unfold maxLen;omega,λ_=>⟨rfl,rfl⟩,λad e=>by cases e⟩
 ·refine⟨_,cap,rfl,⟨hn,λhp=>⟨g,0,rfl,?_,λi hi => ?_⟩⟩,hm,(λe=>by cases e),(λad e=>by cases e;exact hg)⟩
  ·rcases Nat.lt_or_ge g w.heap.size with h | h
   ·exact h
   ·rw[Array.getElem?_eq_none h] at hh;cases hh
  ·rw[Nat.zero_add,h'.cellAt i om];simp[a0e,hi]
theorem a4k (w:World):(w.alloc (.cells #[] 5)).ownsRow w.heap.size 5 1 (.slice (some (Pv w.heap.size 0)) 0 0) 0 [] :=
 ⟨rfl,Or.inr ⟨w.heap.size,0,#[],rfl,b0g _,a9Z w _,b0g _,by unfold maxLen;omega,rfl,rfl⟩⟩
theorem a0N {w:World}{af:Array Oper}{rest:List Oper}{o:Oper}{a:Act}{Q:Exit->Act->World->Prop}(ae:o.guard=none) (s x:Operand)
  (ho:o.op=.call { callee:=.builtin .append,args:=#[s,x],argTypes:=#[29,29] }) (base:Nat)
  (v:Value) (n:Nat) (xs:List Value) (hs:a.eval s=v) (aa:w.ownsRow base 5 1 v n xs)
  (ao:OA) (m c:Nat) (bs:Nat->Int) (hx:a.eval x=.slice ao m c) (hr:ByteRow w ao m c bs) (ac:ao=none->m=0/\c=0) (hb:n+m<=140737488355328) (ab:base<=w.heap.size)
  (h:∀v' w',w'.ownsRow base 5 1 v' (n+m) (xs++a0e m bs)->w.grownBy w' v.ownBlock->wpList prog af Q rest (a.put o.dst v') w'):wpList prog af Q (o :: rest) a w:=by
 obtain⟨i0,hi,ai,ah,ag⟩:=info_parts a8q;cases ao with
 | none =>
  obtain⟨rfl,rfl⟩:=ac rfl;refine wpList_append_own_none ae s x 29 ho base 5 i0 1 underlying29 hi v n xs hs aa hx ?_;exact h v w (by simpa[a0e] using aa) ⟨rfl,rfl,rfl,b0g _,λ_ _ _=>rfl⟩
 | some ad =>
  refine wpList_append_own _ ae s x 29 ho base 5 i0 (.int .u8 0) 1 1 underlying29 hi ai ah ag rfl dd v n xs hs aa ad m c (a0e m bs) hx (by rw[a0g];omega) (a8o hr rfl) (a1P _ _) (by unfold maxLen;omega) om ab ?_;intro v' w' h1 h2 _;exact h v' w' h1 h2
theorem a3F {w w0 w':World}{v:Value}{base:Nat}{n:Nat}{xs:List Value}(hb:Below base w0 w) (ab:w.ownsRow base 5 1 v n xs) (aa:base<=w.heap.size) (hg:w.grownBy w' v.ownBlock):Below base w0 w' :=
 hb.grown hg aa (a4j ab)
def a1q (n:Nat) (bs:Nat->Int):ByteArray:=((List.range n).map bs).foldl (λr n=>r.push (UInt8.ofNat n.toNat)) ByteArray.empty
theorem a5N (n:Nat) (f g:Nat->Int) (h:∀i,i<n->f i=g i):a1q n f=a1q n g:=by
 unfold a1q;rw[List.map_congr_left (λi hi=>h i (by simpa using hi))]
theorem a3k (w:World) (ao:OA) (n cap:Nat) (bs:Nat->Int) (hr:ByteRow w ao n cap bs) (hn:a0s ao n cap) :
  (convert 29 9 (.slice ao n cap)).run prog w=.ok (.string (a1q n bs)) w:=by
 rw[run_convert_bytes_string w 29 9 5 _ _ _ underlying29 underlying5 underlying9];cases ao with
 | none =>
  obtain⟨rfl,rfl⟩:=hn rfl;rfl
 | some ad =>
  unfold a1q;apply run_bytesToString
  have:=run_loadCells_list (P:=prog) w ad (((List.range n).map bs).map (Value.int .u8)) (λj v hj=>by
   have aa:j<n:=by
    have:=(List.getElem?_eq_some_iff.1 hj).1;simpa using this
   obtain⟨b,off,e,_,hc⟩:=hr.2 om;cases e
   rw[a1J,hc j aa];simp[aa] at hj;rw[<-hj])
  simpa using this
theorem a7e (m:Nat):madeCells (Value.int .u8 0).cells m=rowF m (λ_=>0):=by
 apply Array.ext_getElem?
 intro i;by_cases h:i<m
 ·rw[a0Q _ _ _ h];simp[madeCells,Value.cells,h,Nat.mod_one]
 ·rw[Array.getElem?_eq_none (by simp[madeCells];omega),Array.getElem?_eq_none (by rw[a0H];omega)]
def cat (L:Nat) (f g:Nat->Int) (i:Nat):Int:=if i<L then f i else g (i-L)
theorem a7f (n m:Nat) (f g:Nat->Int):a0e n f++a0e m g=a0e (n+m) (cat n f g):=a2m n m f g
