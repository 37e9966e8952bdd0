/- The best of offers, by places; results in a cell; four stores -/
import Derived.Test.YtflghpnpjmodaaaGreatDoorRows
import Derived.WalkSpells
import Derived.WalkLawsBesides
import Derived.BigRegion
import Derived.BigQuiet
import Derived.RegionTactic
import Derived.Deep.WholeRow
import Derived.Deep.RegionWith
import Derived.Deep.DeepCutAuto
import Derived.Laws.CopyOwn
import Derived.Laws.BitsLemmas
import Derived.Laws.Bits64b
import Derived.Laws.ResultCell
import Derived.Laws.AppendOwnNone
import Derived.OwnWalk
import Derived.Laws.OwnMore
set_option maxRecDepth 100000
set_option maxHeartbeats 40000000
namespace Go.Proofs.YtflghpnpjmodaaaGreatDoor
section
open Go.RowKit
theorem lsA {α:Type} (l:List α) (i:Nat) (a:α):l.toArray.setIfInBounds i a=(l.set i a).toArray:=by simp
theorem lsZ {α:Type} {a b:α} {l:List α}:(a::l).set 0 b=b::l:=rfl
theorem lsS {α:Type} {a b:α} {l:List α} {n:Nat}:(a::l).set (n+1) b=a::l.set n b:=rfl
theorem gSm {α:Type} {x:Array α} {i:Nat} {a:α}:x[i]?=some a↔∃h:i<x.size,x[i]=a:=Array.getElem?_eq_some_iff
abbrev Bl (a b:World):Prop:=Below a.heap.size a b
theorem add_row (b off j:Nat):(⟨b,off,none⟩:Addr).add j=⟨b,off+j,none⟩:=by unfold Addr.add;split<;>simp_all
theorem bA1 (w:World) (o:Obj):Bl w (w.alloc o):=(Below.refl _ _).alloc (Nat.le_refl _) _
theorem bA2 (w:World) (o1 o2:Obj):Bl w ((w.alloc o1).alloc o2):=((Below.refl _ w).alloc (Nat.le_refl _) _).alloc (by simp) _
theorem alloc3 (w:World) (A B C:Obj):(((w.alloc A).alloc B).alloc C).heap[w.heap.size]?=some A∧(((w.alloc A).alloc B).alloc C).heap[w.heap.size+1]?=some B∧(((w.alloc A).alloc B).alloc C).heap[w.heap.size+1+1]?=some C∧Bl w (((w.alloc A).alloc B).alloc C):=by
 refine⟨?_,?_,?_,(((Below.refl _ _).alloc (Nat.le_refl _) _).alloc (by simp) _).alloc (by simp;omega) _⟩
 ·rw[Below.heap_alloc _ _ _ (by simp;omega)];exact heap_alloc2_old w A B
 ·rw[Below.heap_alloc _ _ _ (by simp)];exact heap_alloc2_new w A B
 ·have:=heap_alloc_last ((w.alloc A).alloc B) C;simpa using this
theorem rRt {P:Program}{fn:Func}{p u:Tmp}{ty:TypeId}(h:fn.results=#[.cell p ty,.tmp u]) (tmps:Array Value) (w:World) (g:Nat) (t:TypeId) (cs:Array Value) (fr:Nat×Nat) (d:TypeDesc)
  (hp:tmps.getD p undef=.pointer (some ⟨g,0,none⟩)) (hg:w.heap[g]?=some (.cells cs t fr))
  (hu:P.underlying ty=some d) (hd:(match d with | .struct _ | .array _ _=>true | _=>false)=true) (hi:(P.info? ty).map (·.size)=some cs.size) :
  (results fn tmps).run P w=.ok (.tuple #[.agg cs,tmps.getD u undef]) w:=by
 rw[results_cell_tmp h tmps P w,hp];simp[asAddr,run_loadVar_row w g t ty cs fr d hg hu hd hi]
theorem wraps_i64 (n:Int) (h0:0≤n) (h1:n<2 ^ 62):IntKind.i64.wrap n=n:=by
 simp[IntKind.wrap,IntKind.bits,IntKind.signed];omega
theorem wraps_u64 (n:Int) (h0:0≤n) (h1:n<2 ^ 64):IntKind.u64.wrap n=n:=by
 simp[IntKind.wrap,IntKind.bits,IntKind.signed];omega
def NilOk (ao:Option Addr) (n c:Nat):Prop:=ao=none→n=0∧c=0
theorem keep {w1 w2:World}{g:Nat}{o:Obj}(h:w1.heap[g]?=some o) (hb:Bl w1 w2):w2.heap[g]?=some o:=by
 refine(hb.block g ?_).trans h;rcases Nat.lt_or_ge g w1.heap.size with e | e
 ·exact e
 ·rw[Array.getElem?_eq_none e] at h;cases h
theorem drew_row {w:World}{g:Nat}{o:Option Obj}(h:w.heap[g]?=o):w.drew.heap[g]?=o:=h
end
section
namespace Vc
structure V where
 root:Int
 cost:Int
 bridge:Int
 port:Int
theorem V.eq {a b:V}(h0:a.root=b.root) (h1:a.cost=b.cost) (h2:a.bridge=b.bridge) (h3:a.port=b.port):a=b:=by
 cases a;cases b;simp_all
theorem V.eq_iff {a b:V}:a=b↔a.root=b.root∧a.cost=b.cost∧a.bridge=b.bridge∧a.port=b.port :=
 ⟨fun h=>by subst h;exact⟨rfl,rfl,rfl,rfl⟩,fun⟨h0,h1,h2,h3⟩=>V.eq h0 h1 h2 h3⟩
instance (a b:V):Decidable (a=b):=decidable_of_iff _ V.eq_iff.symm
def lt (a b:V):Prop:=a.root<b.root∨(a.root=b.root∧(a.cost<b.cost∨(a.cost=b.cost∧(a.bridge<b.bridge∨(a.bridge=b.bridge∧a.port<b.port)))))
instance (a b:V):Decidable (lt a b):=by unfold lt;infer_instance
theorem lt_irrefl (a:V):¬lt a a:=by unfold lt;omega
theorem lt_trans {a b c:V}(h:lt a b) (k:lt b c):lt a c:=by unfold lt at *;omega
theorem lt_asymm {a b:V}(h:lt a b):¬lt b a:=fun k=>lt_irrefl a (lt_trans h k)
theorem lt_total (a b:V):lt a b∨a=b∨lt b a:=by
 rw[V.eq_iff];unfold lt;omega
theorem eq_of {a b:V}(h:¬lt a b) (k:¬lt b a):a=b:=by
 rcases lt_total a b with e | e | e
 ·exact absurd e h
 ·exact e
 ·exact absurd e k
def cmp (a b:V):Int:=if lt a b then -1 else if lt b a then 1 else 0
theorem cmp_lt {a b:V}:cmp a b<0↔lt a b:=by
 unfold cmp;by_cases h:lt a b
 ·simp[h]
 ·by_cases k:lt b a
  ·simp[h,k]
  ·simp[h,k]
theorem cmp_zero {a b:V}:cmp a b=0↔a=b:=by
 unfold cmp;by_cases h:lt a b
 ·simp only[h,if_true];constructor
  ·intro e;omega
  ·intro e;subst e;exact absurd h (lt_irrefl _)
 ·by_cases k:lt b a
  ·simp only[h,k,if_true,if_false];constructor
   ·intro e;omega
   ·intro e;subst e;exact absurd k (lt_irrefl _)
  ·simp only[h,k,if_false,true_iff];exact eq_of h k
def fitsOver (v:V) (c:Int):Prop:=(0≤v.cost∧v.cost≤1000000000)∧(0≤c∧c≤1000000000)∧v.cost+c≤1000000000
instance (v:V) (c:Int):Decidable (fitsOver v c):=by unfold fitsOver;infer_instance
def add (v:V) (c:Int):V:=⟨v.root,v.cost+c,v.bridge,v.port⟩
def v0:V:=⟨0,0,0,0⟩
def overV (v:V) (c:Int):V:=if fitsOver v c then add v c else v0
structure Of where
 port:Int
 cost:Int
 age:Int
 vec:V
def may (id:Int) (o:Of):Prop:=fitsOver o.vec o.cost∧0≤o.port∧(0≤o.age∧o.age<20)∧o.vec.root<id
instance (id:Int) (o:Of):Decidable (may id o):=by unfold may;infer_instance
def Of.v (o:Of):V:=add o.vec o.cost
def ahead (o p:Of):Prop:=lt o.v p.v∨(o.v=p.v∧o.port<p.port)
instance (o p:Of):Decidable (ahead o p):=by unfold ahead;infer_instance
def chTo (id:Int) (os:Nat→Of):Nat→Option Nat
 | 0=>none
 | k+1=>if may id (os k) then(match chTo id os k with | none=>some k | some i=>if ahead (os k) (os i) then some k else some i) else chTo id os k
theorem chTo_none (id:Int) (os:Nat→Of):∀n,chTo id os n=none→∀j,j<n→¬may id (os j)
 | 0,_,j,hj=>by omega
 | k+1,h,j,hj=>by
  simp only[chTo] at h;by_cases hm:may id (os k)
  ·rw[if_pos hm] at h;cases hc:chTo id os k with
   | none=>rw[hc] at h;cases h
   | some i =>
    rw[hc] at h;simp only at h;by_cases ha:ahead (os k) (os i)
    ·rw[if_pos ha] at h;cases h
    ·rw[if_neg ha] at h;cases h
  ·rw[if_neg hm] at h;by_cases e:j=k
   ·subst e;exact hm
   ·exact chTo_none id os k h j (by omega)
theorem ahead_irrefl (a:Of):¬ahead a a:=by
 rintro(h | ⟨_,h⟩)
 ·exact lt_irrefl _ h
 ·omega
theorem ahead_trans {a b c:Of}(h:ahead a b) (k:ahead b c):ahead a c:=by
 rcases h with h | ⟨h,h2⟩<;>rcases k with k | ⟨k,k2⟩
 ·exact Or.inl (lt_trans h k)
 ·exact Or.inl (by rw[←k];exact h)
 ·exact Or.inl (by rw[h];exact k)
 ·exact Or.inr ⟨h.trans k,by omega⟩
theorem chTo_some (id:Int) (os:Nat→Of):∀n i,chTo id os n=some i→i<n∧may id (os i)∧∀j,j<n→may id (os j)→¬ahead (os j) (os i)
 | 0,i,h=>by cases h
 | k+1,i,h=>by
  simp only[chTo] at h;by_cases hm:may id (os k)
  ·rw[if_pos hm] at h;cases hc:chTo id os k with
   | none =>
    rw[hc] at h;simp only[Option.some.injEq] at h;subst h;refine⟨by omega,hm,fun j hj hmj => ?_⟩;by_cases e:j=k
    ·subst e;exact ahead_irrefl _
    ·exact absurd hmj (chTo_none id os k hc j (by omega))
   | some i' =>
    rw[hc] at h;simp only at h;obtain⟨h1,h2,h3⟩:=chTo_some id os k i' hc;by_cases ha:ahead (os k) (os i')
    ·rw[if_pos ha] at h;simp only[Option.some.injEq] at h;subst h;refine⟨by omega,hm,fun j hj hmj => ?_⟩;by_cases e:j=k
     ·subst e;exact ahead_irrefl _
     ·exact fun q=>h3 j (by omega) hmj (ahead_trans q ha)
    ·rw[if_neg ha] at h;simp only[Option.some.injEq] at h;subst h;refine⟨by omega,h2,fun j hj hmj => ?_⟩;by_cases e:j=k
     ·subst e;exact ha
     ·exact h3 j (by omega) hmj
  ·rw[if_neg hm] at h;obtain⟨h1,h2,h3⟩:=chTo_some id os k i h;refine⟨by omega,h2,fun j hj hmj => ?_⟩;by_cases e:j=k
   ·subst e;exact absurd hmj hm
   ·exact h3 j (by omega) hmj
theorem not_ahead {a b:Of}(h:¬ahead a b) (k:¬ahead b a):a.v=b.v∧a.port=b.port:=by
 have e:a.v=b.v:=eq_of (fun q=>h (Or.inl q)) (fun q=>k (Or.inl q));have h1:¬a.port<b.port:=fun q=>h (Or.inr ⟨e,q⟩);have h2:¬b.port<a.port:=fun q=>k (Or.inr ⟨e.symm,q⟩);exact⟨e,by omega⟩
def chV (id:Int) (os:Nat→Of) (n:Nat):V:=match chTo id os n with | none=>⟨id,0,id,0⟩ | some i=>⟨(os i).v.root,(os i).v.cost,id,0⟩
def chA (id:Int) (os:Nat→Of) (n:Nat):Int:=match chTo id os n with | none=>0 | some i=>(os i).age+1
def chP (id:Int) (os:Nat→Of) (n:Nat):Int:=match chTo id os n with | none => -1 | some i=>(os i).port
def hears (says:V) (port:Int) (o:Of):Prop:=o.port=port∧(0≤o.age∧o.age≤20)∧lt o.vec ⟨says.root,says.cost,says.bridge,port⟩
instance (says:V) (port:Int) (o:Of):Decidable (hears says port o):=by unfold hears;infer_instance
def someTo (p:Nat→Bool):Nat→Bool
 | 0=>false
 | k+1=>someTo p k||p k
def role (says:V) (root port:Int) (os:Nat→Of) (n:Nat):Int:=if port=root then 1 else if someTo (fun i=>decide (hears says port (os i))) n=true then 3 else 2
end Vc
namespace Pl
open Vc (V Of)
structure Lk where
 a:Int
 pa:Int
 b:Int
 pb:Int
 cost:Int
 up:Bool
structure En where
 port:Int
 cost:Int
 other:Int
 oport:Int
 live:Bool
def firstTo (f:Nat→Int):Nat→Int×Int
 | 0=>(0,0)
 | k+1=>if (firstTo f k).1≠0 then firstTo f k else if f k≠0 then(f k,(k:Int)) else(0,0)
theorem firstTo_zero (f:Nat→Int):∀n,(firstTo f n).1=0→firstTo f n=(0,0)∧∀i,i<n→f i=0
 | 0,_=>⟨rfl,fun i hi=>absurd hi (by omega)⟩
 | k+1,h=>by
  simp only[firstTo] at h ⊢;by_cases h1:(firstTo f k).1=0
  ·obtain⟨e1,e2⟩:=firstTo_zero f k h1;by_cases h2:f k=0
   ·refine⟨by simp[h1,h2],fun i hi => ?_⟩;by_cases e:i=k
    ·subst e;exact h2
    ·exact e2 i (by omega)
   ·simp[h1,h2] at h
  ·simp[h1] at h
theorem firstTo_here (f:Nat→Int) (k:Nat) (h:∀i,i<k→f i=0) (hk:f k≠0):∀n,k<n→firstTo f n=(f k,(k:Int)):=by
 have h0:∀m,m≤k→firstTo f m=(0,0):=by
  intro m;induction m with
  | zero=>intro _;rfl
  | succ m ih =>
   intro hm;simp[firstTo,ih (by omega),h m (by omega)]
 intro n hn;induction n with
 | zero=>omega
 | succ n ih =>
  by_cases e:k=n
  ·subst e;simp[firstTo,h0 k (Nat.le_refl _),hk]
  ·have:=ih (by omega);simp[firstTo,this,hk]
theorem firstTo_all (f:Nat→Int) (n:Nat) (h:∀i,i<n→f i=0):firstTo f n=(0,0):=by
 induction n with
 | zero=>rfl
 | succ n ih=>simp[firstTo,ih (fun i hi=>h i (by omega)),h n (by omega)]
def oddP (p:Int):Bool:=!decide (0≤p∧p≤61440)||decide (p%4096≠0)
def lkErr (K:Nat) (l:Lk):Int :=
 if ¬(0≤l.a∧l.a≤(K:Int)-1)∨¬(0≤l.b∧l.b≤(K:Int)-1) then 6 else if l.a=l.b then 8
 else if ¬(1≤l.pa∧l.pa≤30)∨¬(1≤l.pb∧l.pb≤30)∨¬(1≤l.cost∧l.cost≤200000) then 3 else 0
def isEnd (l:Lk) (x p:Int):Bool:=decide (l.a=x∧l.pa=p)||decide (l.b=x∧l.pb=p)
def lErr (K:Nat) (ls:Nat→Lk) (i:Nat):Int :=
 if lkErr K (ls i)≠0 then lkErr K (ls i) else if Vc.someTo (fun j=>isEnd (ls j) (ls i).a (ls i).pa||isEnd (ls j) (ls i).b (ls i).pb) i=true then 7 else 0
def endsAt (l:Lk) (lv:Bool) (i:Nat):List En:=(if l.a=(i:Int) then [⟨l.pa,l.cost,l.b,l.pb,lv⟩] else [])++(if l.b=(i:Int) then [⟨l.pb,l.cost,l.a,l.pa,lv⟩] else [])
def endsTo (ls:Nat→Lk) (lv:Nat→Bool) (i:Nat):Nat→List En
 | 0=>[]
 | k+1=>endsTo ls lv i k++endsAt (ls k) (lv k) i
def leP (x y:En):Bool:=decide (x.port≤y.port)
def ends (ls:Nat→Lk) (lv:Nat→Bool) (L i:Nat):List En:=(endsTo ls lv i L).mergeSort leP
structure St where
 v:V
 rp:Int
def offerOf (x:Nat→St) (e:En):Of:=⟨e.port,e.cost,0,⟨(x e.other.toNat).v.root,(x e.other.toNat).v.cost,(x e.other.toNat).v.bridge,e.oport⟩⟩
def o0:Of:=⟨0,0,0,Vc.v0⟩
def offs (E:List En) (x:Nat→St):List Of:=(E.filter (·.live)).map (offerOf x)
def lf (l:List Of) (j:Nat):Of:=l.getD j o0
def chS (id:Int) (l:List Of):St:=⟨Vc.chV id (lf l) l.length,Vc.chP id (lf l) l.length⟩
def step (ids:Nat→Int) (E:Nat→List En) (x:Nat→St) (i:Nat):Nat→St:=fun j=>if j=i then chS (ids i) (offs (E i) x) else x j
def roundTo (ids:Nat→Int) (E:Nat→List En) (x:Nat→St):Nat→(Nat→St)
 | 0=>x
 | k+1=>step ids E (roundTo ids E x k) k
def rounds (ids:Nat→Int) (E:Nat→List En) (K:Nat):Nat→(Nat→St)
 | 0=>fun i=>⟨⟨ids i,0,ids i,0⟩,0⟩
 | r+1=>roundTo ids E (rounds ids E K r) K
theorem chS_bridge (id:Int) (l:List Of):(chS id l).v.bridge=id∧(chS id l).v.port=0:=by
 unfold chS Vc.chV;cases Vc.chTo id (lf l) l.length<;>exact⟨rfl,rfl⟩
theorem roundTo_bridge (ids:Nat→Int) (E:Nat→List En) (x:Nat→St) (h:∀i,(x i).v.bridge=ids i∧(x i).v.port=0):∀k i,(roundTo ids E x k i).v.bridge=ids i∧(roundTo ids E x k i).v.port=0
 | 0,i=>h i
 | k+1,i=>by
  simp only[roundTo,step];by_cases e:i=k
  ·rw[if_pos e,e];exact chS_bridge _ _
  ·rw[if_neg e];exact roundTo_bridge ids E x h k i
theorem rounds_bridge (ids:Nat→Int) (E:Nat→List En) (K:Nat):∀r i,(rounds ids E K r i).v.bridge=ids i∧(rounds ids E K r i).v.port=0
 | 0,_=>⟨rfl,rfl⟩
 | r+1,i=>roundTo_bridge ids E _ (rounds_bridge ids E K r) K i
def roleAt (s:St) (l:List Of) (e:En):Int:=if e.live=true then Vc.role s.v s.rp e.port (lf l) l.length else 0
theorem sorted_unique {l l':List En}(hp:l.Perm l') (h:l.Pairwise (fun x y=>x.port<y.port)) (h':l'.Pairwise (fun x y=>x.port<y.port)):l=l' :=
 hp.eq_of_pairwise (fun a b _ _ h1 h2=>by omega) h h'
end Pl
namespace Pl
open Vc (V Of)
theorem lf_mem {l:List Of}{j:Nat}(h:j<l.length):lf l j∈l:=by
 unfold lf;rw[List.getD_eq_getElem?_getD,List.getElem?_eq_getElem h];exact List.getElem_mem h
theorem lf_of_mem {l:List Of}{o:Of}(h:o∈l):∃j,j<l.length∧lf l j=o:=by
 obtain⟨j,hj,e⟩:=List.getElem_of_mem h;refine⟨j,hj,?_⟩;unfold lf;rw[List.getD_eq_getElem?_getD,List.getElem?_eq_getElem hj];exact e
def le2 (v:V) (ρ c:Int):Prop:=v.root<ρ∨(v.root=ρ∧v.cost≤c)
theorem chS_real (id:Int) (l:List Of):(chS id l=⟨⟨id,0,id,0⟩,-1⟩∧∀o∈l,¬Vc.may id o)∨∃o∈l,Vc.may id o∧chS id l=⟨⟨o.vec.root,o.vec.cost+o.cost,id,0⟩,o.port⟩∧∀q∈l,Vc.may id q→¬Vc.ahead q o:=by
 cases h:Vc.chTo id (lf l) l.length with
 | none =>
  refine Or.inl ⟨?_,fun o ho hm => ?_⟩
  ·unfold chS Vc.chV Vc.chP;rw[h]
  ·obtain⟨j,hj,e⟩:=lf_of_mem ho;exact Vc.chTo_none id (lf l) l.length h j hj (by rw[e];exact hm)
 | some i =>
  obtain⟨h1,h2,h3⟩:=Vc.chTo_some id (lf l) l.length i h;refine Or.inr ⟨lf l i,lf_mem h1,h2,?_,fun q hq hm => ?_⟩
  ·unfold chS Vc.chV Vc.chP;rw[h];rfl
  ·obtain⟨j,hj,e⟩:=lf_of_mem hq;rw[←e];exact h3 j hj (by rw[e];exact hm)
theorem chS_self (id:Int) (l:List Of):le2 (chS id l).v id 0:=by
 rcases chS_real id l with⟨h,_⟩ | ⟨o,_,hm,h,_⟩
 ·rw[h];exact Or.inr ⟨rfl,Int.le_refl _⟩
 ·rw[h];exact Or.inl hm.2.2.2
theorem chS_le (id:Int) (l:List Of) {o:Of}(ho:o∈l) (hf:Vc.fitsOver o.vec o.cost) (hp:0≤o.port) (ha:0≤o.age∧o.age<20):le2 (chS id l).v o.vec.root (o.vec.cost+o.cost):=by
 have hf':=hf;obtain⟨⟨q1,_⟩,⟨q2,_⟩,_⟩:=hf';by_cases hr:o.vec.root<id
 ·have hm:Vc.may id o:=⟨hf,hp,ha,hr⟩
  rcases chS_real id l with⟨_,h⟩ | ⟨p,_,_,h,hn⟩
  ·exact absurd hm (h o ho)
  ·rw[h];have:=hn o ho hm;have k:¬Vc.lt (Vc.Of.v o) (Vc.Of.v p):=fun q=>this (Or.inl q);unfold Vc.lt Vc.Of.v Vc.add at k;unfold le2;simp only at k ⊢;omega
 ·have:=chS_self id l;unfold le2 at this ⊢;omega
structure Good (ids:Nat→Int) (E:Nat→List En) (K:Nat):Prop where
 few:K≤12
 lt:∀i,i<K→∀e,e∈E i→e.live=true→(0≤e.other∧e.other<K)∧(1≤e.cost∧e.cost≤200000)∧0≤e.port
inductive Walk (ids:Nat→Int) (E:Nat→List En) (K:Nat):Nat→List Nat→Int→Int→Prop
 | here (i:Nat):i<K→Walk ids E K i [i] (ids i) 0
 | over (i:Nat) (e:En) (vs:List Nat) (ρ c:Int):i<K→e∈E i→e.live=true→Walk ids E K e.other.toNat vs ρ c→Walk ids E K i (i :: vs) ρ (c+e.cost)
section
variable {ids:Nat→Int}{E:Nat→List En}{K:Nat}
theorem Walk.all {i:Nat}{vs:List Nat}{ρ c:Int}(h:Walk ids E K i vs ρ c):∀v∈vs,v<K:=by
 induction h with
 | here i hi=>intro v hv;rw[List.mem_singleton] at hv;rw[hv];exact hi
 | over i e vs ρ c hi _ _ _ ih =>
  intro v hv;rcases List.mem_cons.1 hv with e | e
  ·rw[e];exact hi
  ·exact ih v e
theorem Walk.from (G:Good ids E K) {i:Nat}{vs:List Nat}{ρ c:Int}(h:Walk ids E K i vs ρ c):∀v∈vs,∃us d,Walk ids E K v us ρ d∧d≤c∧us.Sublist vs:=by
 induction h with
 | here i hi =>
  intro v hv;rw[List.mem_singleton] at hv;subst hv;exact⟨_,_,Walk.here v hi,Int.le_refl _,List.Sublist.refl _⟩
 | over i e vs ρ c hi he hl hw ih =>
  intro v hv;rcases List.mem_cons.1 hv with q | q
  ·subst q;exact⟨_,_,Walk.over v e vs ρ c hi he hl hw,Int.le_refl _,List.Sublist.refl _⟩
  ·obtain⟨us,d,h1,h2,h3⟩:=ih v q;have:=(G.lt i hi e he hl).2.1;exact⟨us,d,h1,by omega,h3.cons _⟩
theorem Walk.simple (G:Good ids E K) {i:Nat}{vs:List Nat}{ρ c:Int}(h:Walk ids E K i vs ρ c):∃us d,Walk ids E K i us ρ d∧d≤c∧us.Nodup:=by
 induction h with
 | here i hi=>exact⟨_,_,Walk.here i hi,Int.le_refl _,by simp⟩
 | over i e vs ρ c hi he hl hw ih =>
  obtain⟨us,d,h1,h2,h3⟩:=ih;have hc:=(G.lt i hi e he hl).2.1;by_cases hm:i∈us
  ·obtain⟨us',d',k1,k2,k3⟩:=h1.from G i hm;exact⟨us',d',k1,by omega,k3.nodup h3⟩
  ·exact⟨_,_,Walk.over i e us ρ d hi he hl h1,by omega,List.nodup_cons.2 ⟨hm,h3⟩⟩
theorem nodup_few:∀(K:Nat) (l:List Nat),l.Nodup→(∀v∈l,v<K)→l.length≤K
 | 0,l,_,h=>by
  cases l with
  | nil=>exact Nat.le_refl _
  | cons a _=>exact absurd (h a (by simp)) (by omega)
 | K+1,l,hn,h=>by
  have h1:=nodup_few K (l.erase K) (hn.erase K) (fun v hv=>by
   have:=(List.Nodup.mem_erase_iff hn).1 hv;have:=h v this.2;omega)
  have:=List.length_erase (a:=K) (l:=l);split at this<;>omega
def Up (ids:Nat→Int) (E:Nat→List En) (K:Nat) (n:Nat) (x:Nat→St) (i:Nat):Prop:=∀vs ρ c,Walk ids E K i vs ρ c→vs.length≤n→le2 (x i).v ρ c
def Real (ids:Nat→Int) (E:Nat→List En) (K:Nat) (x:Nat→St):Prop:=∀i,i<K→∃vs,Walk ids E K i vs (x i).v.root (x i).v.cost
def Bd (K:Nat) (B:Int) (x:Nat→St):Prop:=∀i,i<K→0≤(x i).v.cost∧(x i).v.cost≤B
theorem offs_mem {l:List En}{x:Nat→St}{o:Of}(h:o∈offs l x):∃e,e∈l∧e.live=true∧o=offerOf x e:=by
 unfold offs at h;obtain⟨e,he,rfl⟩:=List.mem_map.1 h;obtain⟨h1,h2⟩:=List.mem_filter.1 he;exact⟨e,h1,h2,rfl⟩
theorem mem_offs {l:List En}{x:Nat→St}{e:En}(h:e∈l) (hl:e.live=true):offerOf x e∈offs l x :=
 List.mem_map.2 ⟨e,List.mem_filter.2 ⟨h,hl⟩,rfl⟩
theorem toNat_lt {a:Int}{K:Nat}(h:0≤a∧a<K):a.toNat<K:=by omega
theorem fits (G:Good ids E K) {B:Int}{x:Nat→St}(hB:Bd K B x) (hb:B≤999000000) {i:Nat}(hi:i<K) {e:En}(he:e∈E i) (hl:e.live=true):Vc.fitsOver (offerOf x e).vec (offerOf x e).cost:=by
 obtain⟨h1,h2,_⟩:=G.lt i hi e he hl;have:=hB e.other.toNat (toNat_lt h1);unfold Vc.fitsOver offerOf;simp only;omega
theorem step_bd (G:Good ids E K) {B:Int}{x:Nat→St}(hB:Bd K B x) (i:Nat) (hi:i<K) (hb:0≤B):Bd K (B+200000) (step ids E x i):=by
 intro j hj;unfold step;by_cases e:j=i
 ·rw[if_pos e];rcases chS_real (ids i) (offs (E i) x) with⟨h,_⟩ | ⟨o,ho,_,h,_⟩
  ·rw[h];simp only;omega
  ·rw[h];obtain⟨q,h1,h2,rfl⟩:=offs_mem ho;obtain⟨k1,k2,_⟩:=G.lt i hi q h1 h2;have:=hB q.other.toNat (toNat_lt k1);simp only[offerOf];omega
 ·rw[if_neg e];have:=hB j hj;omega
theorem step_real (G:Good ids E K) {x:Nat→St}(h:Real ids E K x) (i:Nat) (hi:i<K):Real ids E K (step ids E x i):=by
 intro j hj;unfold step;by_cases e:j=i
 ·rw[if_pos e];subst e;rcases chS_real (ids j) (offs (E j) x) with⟨h',_⟩ | ⟨o,ho,_,h',_⟩
  ·rw[h'];exact⟨_,Walk.here j hj⟩
  ·rw[h'];obtain⟨q,h1,h2,rfl⟩:=offs_mem ho;obtain⟨k1,k2,_⟩:=G.lt j hi q h1 h2;obtain⟨vs,hw⟩:=h q.other.toNat (toNat_lt k1);exact⟨_,Walk.over j q vs _ _ hi h1 h2 hw⟩
 ·rw[if_neg e];exact h j hj
theorem step_up (G:Good ids E K) {n:Nat}{B:Int}{x:Nat→St}(hB:Bd K B x) (hb:B≤999000000) (h:∀j,j<K→Up ids E K n x j) (i:Nat) (hi:i<K):Up ids E K (n+1) (step ids E x i) i:=by
 intro vs ρ c hw hn;unfold step;rw[if_pos rfl];cases hw with
 | here _=>exact chS_self _ _
 | over _ e vs _ c _ he hl hw =>
  obtain⟨k1,k2,k3⟩:=G.lt i hi e he hl;have h1:=h e.other.toNat (toNat_lt k1) vs ρ c hw (by simp at hn;omega);have h2:=chS_le (ids i) (offs (E i) x) (mem_offs he hl) (fits G hB hb hi he hl) k3 ⟨Int.le_refl _,show(0:Int)<20 by decide⟩;unfold le2 at h1 h2 ⊢;simp only[offerOf] at h2;omega
theorem Up.mono {n m:Nat}{x:Nat→St}{i:Nat}(h:Up ids E K m x i) (hn:n≤m):Up ids E K n x i:=fun vs ρ c hw hl=>h vs ρ c hw (by omega)
theorem roundTo_inv (G:Good ids E K) {n:Nat}{B:Int}{x:Nat→St}(hB:Bd K B x) (hb:0≤B) (hr:Real ids E K x) (h:∀j,j<K→Up ids E K n x j):∀k,k≤K→B+200000*k≤999000000→Bd K (B+200000*k) (roundTo ids E x k)∧Real ids E K (roundTo ids E x k)∧(∀j,j<K→Up ids E K n (roundTo ids E x k) j)∧∀j,j<k→Up ids E K (n+1) (roundTo ids E x k) j
 | 0,_,_=>⟨by simpa[roundTo] using hB,hr,h,fun j hj=>absurd hj (by omega)⟩
 | k+1,hk,hbk=>by
  obtain⟨h1,h2,h3,h4⟩:=roundTo_inv G hB hb hr h k (by omega) (by omega);have q1:=step_bd G h1 k (by omega) (by omega);have q2:=step_real G h2 k (by omega);have q3:=step_up G h1 (by omega) h3 k (by omega);have other:∀j,j≠k→roundTo ids E x (k+1) j=roundTo ids E x k j:=fun j hj=>by simp only[roundTo,step];rw[if_neg hj]
  refine⟨?_,q2,fun j hj => ?_,fun j hj => ?_⟩
  ·have:B+200000*((k+1:Nat):Int)=B+200000*(k:Int)+200000:=by omega
   rw[this];exact q1
  ·by_cases e:j=k
   ·subst e;exact q3.mono (by omega)
   ·intro vs ρ c;rw[other j e];exact h3 j hj vs ρ c
  ·by_cases e:j=k
   ·subst e;exact q3
   ·intro vs ρ c;rw[other j e];exact h4 j (by omega) vs ρ c
theorem rounds_inv (G:Good ids E K):∀r:Nat,r≤12→Bd K (200000*(12*r)) (rounds ids E K r)∧Real ids E K (rounds ids E K r)∧∀j,j<K→Up ids E K (r+1) (rounds ids E K r) j
 | 0,_=>by
  refine⟨fun i hi=>⟨Int.le_refl _,by simp[rounds]⟩,fun i hi=>⟨_,Walk.here i hi⟩,fun j hj vs ρ c hw hl => ?_⟩;cases hw with
  | here _=>exact Or.inr ⟨rfl,Int.le_refl _⟩
  | over _ e vs _ c _ _ _ hw =>
   cases hw with
   | here=>simp at hl
   | over=>simp at hl
 | r+1,hr=>by
  obtain⟨h1,h2,h3⟩:=rounds_inv G r (by omega);have hK:=G.few;obtain⟨q1,q2,_,q4⟩:=roundTo_inv G h1 (by omega) h2 h3 K (Nat.le_refl _) (by omega);refine⟨fun i hi => ?_,q2,fun j hj=>q4 j hj⟩;have:=q1 i hi;simp only[rounds];omega
theorem Up.whole (G:Good ids E K) {n:Nat}{x:Nat→St}{i:Nat}(h:Up ids E K n x i) (hn:K≤n) {vs:List Nat}{ρ c:Int}(hw:Walk ids E K i vs ρ c):le2 (x i).v ρ c:=by
 obtain⟨us,d,h1,h2,h3⟩:=hw.simple G;have:=h us ρ d h1 (Nat.le_trans (nodup_few K us h3 h1.all) hn);unfold le2 at this ⊢;omega
theorem same_of (G:Good ids E K) {n m:Nat}{x y:Nat→St}(hx:Real ids E K x) (hy:Real ids E K y) (ux:∀j,j<K→Up ids E K n x j) (uy:∀j,j<K→Up ids E K m y j) (hn:K≤n) (hm:K≤m):∀i,i<K→(x i).v.root=(y i).v.root∧(x i).v.cost=(y i).v.cost:=by
 intro i hi;obtain⟨vs,h1⟩:=hx i hi;obtain⟨us,h2⟩:=hy i hi;have a:=(ux i hi).whole G hn h2;have b:=(uy i hi).whole G hm h1;unfold le2 at a b;omega
def fin (ids:Nat→Int) (E:Nat→List En) (K:Nat):Nat→St:=rounds ids E K K
theorem offs_congr {l:List En}{x y:Nat→St}(h:∀e,e∈l→e.live=true→(x e.other.toNat).v=(y e.other.toNat).v):offs l x=offs l y:=by
 unfold offs;apply List.map_congr_left
 intro e he;obtain⟨h1,h2⟩:=List.mem_filter.1 he;unfold offerOf;rw[h e h1 h2]
theorem fin_real (G:Good ids E K):Real ids E K (fin ids E K):=(rounds_inv G K G.few).2.1
theorem fin_up (G:Good ids E K) {i:Nat}(hi:i<K) {vs:List Nat}{ρ c:Int}(hw:Walk ids E K i vs ρ c):le2 (fin ids E K i).v ρ c:=((rounds_inv G K G.few).2.2 i hi).whole G (by omega) hw
theorem fin_fix (G:Good ids E K):∀i,i<K→fin ids E K i=chS (ids i) (offs (E i) (fin ids E K)):=by
 intro i hi;obtain⟨r,rfl⟩:∃r,K=r+1:=⟨K-1,by omega⟩
 have hK:=G.few;obtain⟨h1,h2,h3⟩:=rounds_inv G r (by omega);have F:=rounds_inv G (r+1) (by omega);have key:∀k,k≤r+1→∀j,j<r+1→(roundTo ids E (rounds ids E (r+1) r) k j).v=(fin ids E (r+1) j).v:=by
  intro k hk j hj;obtain⟨_,q2,q3,_⟩:=roundTo_inv G h1 (by omega) h2 h3 k hk (by omega);obtain⟨e1,e2⟩:=same_of G q2 F.2.1 q3 F.2.2 (by omega) (by omega) j hj;have b1:=roundTo_bridge ids E _ (rounds_bridge ids E (r+1) r) k j;have b2:=rounds_bridge ids E (r+1) (r+1) j;exact Vc.V.eq e1 e2 (by rw[b1.1];exact b2.1.symm) (by rw[b1.2];exact b2.2.symm)
 have last:∀k,i<k→k≤r+1→roundTo ids E (rounds ids E (r+1) r) k i=chS (ids i) (offs (E i) (roundTo ids E (rounds ids E (r+1) r) i)):=by
  intro k;induction k with
  | zero=>intro h;omega
  | succ k ih =>
   intro h1 h2;by_cases e:i=k
   ·subst e;simp[roundTo,step]
   ·simp only[roundTo,step];rw[if_neg e];exact ih (by omega) (by omega)
 have:fin ids E (r+1) i=chS (ids i) (offs (E i) (roundTo ids E (rounds ids E (r+1) r) i)):=last (r+1) hi (Nat.le_refl _);rw[this];congr 1
 apply offs_congr
 intro e he hl;exact key i (by omega) _ (toNat_lt (G.lt i hi e he hl).1)
end
end Pl
end
section
open Go.RowKit
def CRow (w:World) (ao:Option Addr) (n cap k:Nat) (c:Nat→Nat→Value):Prop :=
 n≤cap∧(0<n→∃b off,ao=some ⟨b,off,none⟩∧b<w.heap.size∧∀i,i<n→∀j,j<k→w.cell? ⟨b,off+i*k+j,none⟩=some (c i j))
theorem CRow.other {w w':World}{ao:Option Addr}{n cap k:Nat}{c:Nat→Nat→Value}(h:CRow w ao n cap k c) (e:∀b off,ao=some ⟨b,off,none⟩→b<w.heap.size→w'.heap[b]?=w.heap[b]?) (hs:w.heap.size≤w'.heap.size):CRow w' ao n cap k c:=by
 refine⟨h.1,fun hp => ?_⟩;obtain⟨b,off,e1,hlt,hc⟩:=h.2 hp;exact⟨b,off,e1,Nat.lt_of_lt_of_le hlt hs,fun i hi j hj=>(World.cell?_of_block (w:=w) (e b off e1 hlt)).trans (hc i hi j hj)⟩
theorem CRow.below {w w':World}{ao:Option Addr}{n cap k:Nat}{c:Nat→Nat→Value}(h:CRow w ao n cap k c) (hb:Bl w w'):CRow w' ao n cap k c :=
 h.other (fun b _ _ hlt=>hb.block b hlt) hb.size
theorem CRow.congr {w:World}{ao:Option Addr}{n cap k:Nat}{c d:Nat→Nat→Value}(h:CRow w ao n cap k c) (e:∀i,i<n→c i=d i):CRow w ao n cap k d:=by
 refine⟨h.1,fun hp => ?_⟩;obtain⟨b,off,e1,hlt,hc⟩:=h.2 hp;exact⟨b,off,e1,hlt,fun i hi j hj=>by rw[←e i hi];exact hc i hi j hj⟩
theorem CRow.none (w:World) (cap k:Nat) (c:Nat→Nat→Value) (ao:Option Addr):CRow w ao 0 cap k c:=⟨Nat.zero_le _,fun h=>absurd h (by omega)⟩
def cellsL (n k:Nat) (c:Nat→Nat→Value):List Value:=(List.range (n*k)).map (fun x=>c (x/k) (x%k))
theorem cellsL_length (n k:Nat) (c:Nat→Nat→Value):(cellsL n k c).length=n*k:=by simp[cellsL]
theorem cellsL_get (n k:Nat) (c:Nat→Nat→Value) (j:Nat) (v:Value) (h:(cellsL n k c)[j]?=some v):j<n*k∧v=c (j/k) (j%k):=by
 have hj:j<n*k:=by
  have:=(List.getElem?_eq_some_iff.1 h).1;simpa[cellsL] using this
 refine⟨hj,?_⟩;simp[cellsL,hj] at h;exact h.symm
theorem cellsL_one (n k:Nat) (c:Nat→Nat→Value) (h:∀i j,(c i j).oneCell'=true):∀v∈cellsL n k c,v.oneCell'=true:=by
 intro v hv;simp[cellsL] at hv;obtain⟨i,_,rfl⟩:=hv;exact h _ _
def catC (n:Nat) (c d:Nat→Nat→Value) (i:Nat):Nat→Value:=if i<n then c i else d (i-n)
theorem div_lt_of {x n k:Nat}(hk:0<k) (h:x<n*k):x/k<n:=(Nat.div_lt_iff_lt_mul hk).2 h
theorem cellsL_cat (n m k:Nat) (hk:0<k) (c d:Nat→Nat→Value):cellsL n k c++cellsL m k d=cellsL (n+m) k (catC n c d):=by
 apply List.ext_getElem?
 intro i;by_cases h:i<n*k
 ·rw[List.getElem?_append_left (by rw[cellsL_length];exact h)];have h2:i<(n+m)*k:=(by rw[Nat.add_mul];omega)
  simp[cellsL,h,h2];unfold catC;rw[if_pos (div_lt_of hk h)]
 ·rw[List.getElem?_append_right (by rw[cellsL_length];omega),cellsL_length];by_cases h2:i<(n+m)*k
  ·have h3:i-n*k<m*k:=(by rw[Nat.add_mul] at h2;omega)
   simp[cellsL,h2,h3];unfold catC;have e1:i/k=n+(i-n*k)/k:=by
    have:=Nat.add_mul_div_right (i-n*k) n hk;rw[show i-n*k+n*k=i by omega,Nat.add_comm] at this;exact this
   have e2:i%k=(i-n*k)%k:=by
    have:=Nat.add_mul_mod_self_right (i-n*k) n k;rw[show i-n*k+n*k=i by omega] at this;exact this
   rw[e1,e2,if_neg (Nat.not_lt.2 (Nat.le_add_right _ _)),Nat.add_sub_cancel_left]
  ·have h4:=Nat.add_mul n m k;rw[List.getElem?_eq_none (by rw[cellsL_length];omega),List.getElem?_eq_none (by rw[cellsL_length];omega)]
theorem cellsL_congr (n k:Nat) (c d:Nat→Nat→Value) (h:∀i,i<n→c i=d i):cellsL n k c=cellsL n k d:=by
 unfold cellsL;apply List.map_congr_left
 intro x hx;have hx:x<n*k:=(by simpa using hx)
 have hk:0<k:=by
  rcases Nat.eq_zero_or_pos k with e | e
  ·subst e;omega
  ·exact e
 rw[h _ (div_lt_of hk hx)]
theorem src_cells {W:World}{ao:Option Addr}{n cap k:Nat}{c:Nat→Nat→Value}(hk:0<k) (h:CRow W ao n cap k c) {ad:Addr}(e:ao=some ad):∀j v,(cellsL n k c)[j]?=some v→W.cell? (ad.add j)=some v:=by
 intro j v hj;obtain⟨hj1,rfl⟩:=cellsL_get _ _ _ _ _ hj;have hp:0<n:=by
  rcases Nat.eq_zero_or_pos n with e | e
  ·subst e;omega
  ·exact e
 obtain⟨b,off,e2,_,hc⟩:=h.2 hp;rw[e] at e2;cases e2
 rw[add_row];have:=hc (j/k) (div_lt_of hk hj1) (j%k) (Nat.mod_lt _ hk);rw[Nat.add_assoc,Nat.mul_comm,Nat.div_add_mod] at this;exact this
theorem owns_c {w:World}{base n e k:Nat}{v:Value}{c:Nat→Nat→Value}(hk:0<k) (h:w.ownsRow base e k v n (cellsL n k c)):∃ao cap,v=.slice ao n cap∧CRow w ao n cap k c∧NilOk ao n cap∧(∀ad,ao=some ad→base≤ad.block):=by
 have h':=h;obtain⟨_,h2⟩:=h;rcases h2 with⟨rfl,rfl⟩ | ⟨g,cap,cur,rfl,hg,hh,hn,hm,_,_⟩
 ·exact⟨none,0,rfl,CRow.none _ _ _ _ _,fun _=>⟨rfl,rfl⟩,fun ad e=>by cases e⟩
 ·refine⟨_,cap,rfl,⟨hn,fun hp=>⟨g,0,rfl,(gSm.1 hh).1,fun i hi j hj => ?_⟩⟩,(fun e=>by cases e),(fun ad e=>by cases e;exact hg)⟩;have hlt:i*k+j<n*k:=by
   have:(i+1)*k≤n*k:=Nat.mul_le_mul_right k (by omega);rw[Nat.add_mul] at this;omega
  rw[Nat.zero_add,h'.cellAt (i*k+j) hlt];simp[cellsL,hlt];have e1:(i*k+j)/k=i:=(by rw[Nat.add_comm,Nat.add_mul_div_right _ _ hk,Nat.div_eq_of_lt hj,Nat.zero_add])
  have e2:(i*k+j)%k=j:=(by rw[Nat.add_comm,Nat.add_mul_mod_self_right,Nat.mod_eq_of_lt hj])
  first | rw[e1,e2] | rw[e1,Nat.mod_eq_of_lt hj]
theorem ownsC_below {w w':World}{base e k n:Nat}{v:Value}{xs:List Value}(h:w.ownsRow base e k v n xs) (hb:Bl w w'):w'.ownsRow base e k v n xs:=by
 obtain⟨h1,h2⟩:=h;refine⟨h1,?_⟩;rcases h2 with h2 | ⟨g,cap,cur,hv,hg,hh,r⟩
 ·exact Or.inl h2
 ·exact Or.inr ⟨g,cap,cur,hv,hg,keep hh hb,r⟩
theorem oCb {w:World}{base e k n:Nat}{v:Value}{xs:List Value}(h:w.ownsRow base e k v n xs):∀q,v.ownBlock=some q→base≤q∧q<w.heap.size:=by
 intro q hq;obtain⟨_,h2⟩:=h;rcases h2 with⟨rfl,_⟩ | ⟨g,cap,cur,rfl,hg,hh,_⟩
 ·simp[Value.ownBlock] at hq
 ·simp[Value.ownBlock] at hq;subst hq;exact⟨hg,(gSm.1 hh).1⟩
theorem append_c (w:World) (t e:TypeId) (z:Value) (k bytes:Nat) (ht:Tryz.prog.underlying t=some (.slice e)) (hinfo:(Tryz.prog.info? e).map (fun i=>(i.zero,i.size,i.bytes))=some (some z,k,bytes)) (hzk:z.cells.size=k) (hk:0<k)
  (base:Nat) (v:Value) (n:Nat) (c:Nat→Nat→Value) (hown:w.ownsRow base e k v n (cellsL n k c)) (ao:Option Addr) (m cp:Nat) (d:Nat→Nat→Value) (hd:∀i j,(d i j).oneCell'=true) (hr:CRow w ao m cp k d) (hnil:NilOk ao m cp) (h63:n+m≤maxLen) (hb:(n+m)*bytes≤140737488355328) (hbase:base≤w.heap.size) :
  ∃a1 c1 w',(Builtin.append_ #[t,t] t #[v,.slice ao m cp]).run Tryz.prog w=.ok (.slice a1 (n+m) c1) w'∧w'.ownsRow base e k (.slice a1 (n+m) c1) (n+m) (cellsL (n+m) k (catC n c d))∧Below base w w'∧(∀q,q<w.heap.size→some q≠v.ownBlock→w'.heap[q]?=w.heap[q]?):=by
 obtain⟨i0,hi,hz0,hz1,hz2⟩:=info_parts hinfo;cases ao with
 | none =>
  obtain⟨rfl,rfl⟩:=hnil rfl;have hrun:=run_append_owned_none (P:=Tryz.prog) (w:=w) base t t e i0 k ht hi v n _ hown;obtain⟨a1,c1,rfl,_⟩:=owns_c hk hown;refine⟨a1,c1,w,hrun,?_,Below.refl _ _,fun _ _ _=>rfl⟩;rw[Nat.add_zero,cellsL_congr n k (catC n c d) c (fun i hi=>if_pos hi)];exact hown
 | some ad =>
  obtain⟨v',w',hrun,h1,h2,_⟩:=run_append_own (P:=Tryz.prog) w base t t e i0 z k bytes ht hi hz0 hz1 hz2 hzk hk v n _ hown ad m cp (cellsL m k d) (cellsL_length _ _ _) (src_cells hk hr rfl) (cellsL_one _ _ _ hd) h63 hb hbase;rw[cellsL_cat n m k hk] at h1;obtain⟨a1,c1,rfl,_⟩:=owns_c hk h1;exact⟨a1,c1,w',hrun,h1,(Below.refl _ _).grown h2 hbase (fun q hq=>(oCb hown q hq).1),h2.block⟩
theorem ownsC_nil (w:World) (base e k:Nat) (c:Nat→Nat→Value):w.ownsRow base e k (.slice none 0 0) 0 (cellsL 0 k c) :=
 ⟨by rw[cellsL_length],Or.inl ⟨rfl,rfl⟩⟩
theorem step_append_c {w w':World}{ops:Array Oper}{o:Oper}{a:Act}{K:Act→World→Prop}{Q:Exit→Act→World→Prop}{E:Prop}(hgd:o.guard=none) (s x:Operand) (t:TypeId)
  (ho:o.op=.call { callee:=.builtin .append,args:=#[s,x],argTypes:=#[t,t] }) (v vx v':Value) (hs:a.eval s=v) (hx:a.eval x=vx) (hr:(Builtin.append_ #[t,t] o.type #[v,vx]).run Tryz.prog w=.ok v' w')
  (h:K (a.put o.dst v') w'):if Region.wanted o (yielded ops a.tmps)=true then Oper.wp Tryz.prog o a w K Q else E:=by
 have hw:Region.wanted o (yielded ops a.tmps)=true:=(by simp[Region.wanted,hgd])
 rw[if_pos hw];unfold Oper.wp execOp;simp only[ho,resolve,invoke,builtin,Sem.run_bind,Sem.run_pure,Result.andThen_ok,List.map_toArray,List.map_cons,List.map_nil,hs,hx,hr];exact h
theorem wpList_append_run {w w':World}{ops:Array Oper}{rest:List Oper}{o:Oper}{a:Act}{Q:Exit→Act→World→Prop}(hgd:o.guard=none) (s x:Operand) (t:TypeId)
  (ho:o.op=.call { callee:=.builtin .append,args:=#[s,x],argTypes:=#[t,t] }) (v vx v':Value) (hs:a.eval s=v) (hx:a.eval x=vx) (hr:(Builtin.append_ #[t,t] o.type #[v,vx]).run Tryz.prog w=.ok v' w')
  (h:wpList Tryz.prog ops Q rest (a.put o.dst v') w'):wpList Tryz.prog ops Q (o :: rest) a w:=by
 refine wpList_plain hgd fun K hK => ?_;unfold Oper.wp execOp;simp only[ho,resolve,invoke,builtin,Sem.run_bind,Sem.run_pure,Result.andThen_ok,List.map_toArray,List.map_cons,List.map_nil,hs,hx,hr];exact hK _ _ h
end
section
open Go.RowKit
open Vc (V Of)
def vA (v:V):Array Value:=#[.int .u64 v.root,.int .i64 v.cost,.int .u64 v.bridge,.int .i64 v.port]
theorem sizeVc:(Tryz.prog.info? 36).map (·.size)=some 4:=by kernel_rfl
theorem vc_cells {w:World}{g:Nat}{a0 a1 a2 a3:Value}{ty:TypeId}(h:w.heap[g]?=some (.cells #[a0,a1,a2,a3] ty (0,0))) :
  w.cell? ⟨g,0,none⟩=some a0∧w.cell? ⟨g,1,none⟩=some a1∧w.cell? ⟨g,2,none⟩=some a2∧w.cell? ⟨g,3,none⟩=some a3 :=
 ⟨cell_of_row w g 0 _ _ _ h,cell_of_row w g 1 _ _ _ h,cell_of_row w g 2 _ _ _ h,cell_of_row w g 3 _ _ _ h⟩
theorem vc_free {w:World}{g:Nat}{A:Array Value}{ty:TypeId}(h:w.heap[g]?=some (.cells A ty (0,0))) :
  w.frozen? ⟨g,0,none⟩=false∧w.frozen? ⟨g,1,none⟩=false∧w.frozen? ⟨g,2,none⟩=false∧w.frozen? ⟨g,3,none⟩=false :=
 ⟨frozen_of_row _ _ _ _ _ h,frozen_of_row _ _ _ _ _ h,frozen_of_row _ _ _ _ _ h,frozen_of_row _ _ _ _ _ h⟩
def vC (v:V) (j:Nat):Value:=if j=0 then .int .u64 v.root else if j=1 then .int .i64 v.cost else if j=2 then .int .u64 v.bridge else .int .i64 v.port
def ofC (o:Of) (j:Nat):Value:=if j=0 then .int .i64 o.port else if j=1 then .int .i64 o.cost else if j=2 then .int .i64 o.age else vC o.vec (j-3)
theorem vC_one (v:V) (j:Nat):(vC v j).oneCell'=true:=by
 unfold vC;repeat' split
 all_goals rfl
abbrev VRow (w:World) (ao:Option Addr) (n cap:Nat) (vs:Nat→V):Prop:=CRow w ao n cap 4 (fun i=>vC (vs i))
abbrev ORow (w:World) (ao:Option Addr) (n cap:Nat) (os:Nat→Of):Prop:=CRow w ao n cap 7 (fun i=>ofC (os i))
theorem VRow.cells {w:World}{b off n cap:Nat}{vs:Nat→V}(h:VRow w (some ⟨b,off,none⟩) n cap vs) {i:Nat}(hi:i<n) :
  w.cell? ⟨b,off+i*4,none⟩=some (.int .u64 (vs i).root)∧w.cell? ⟨b,off+i*4+1,none⟩=some (.int .i64 (vs i).cost)∧w.cell? ⟨b,off+i*4+2,none⟩=some (.int .u64 (vs i).bridge)∧w.cell? ⟨b,off+i*4+3,none⟩=some (.int .i64 (vs i).port):=by
 obtain⟨b',off',e,_,hc⟩:=h.2 (by omega);cases e
 exact⟨hc i hi 0 (by omega),hc i hi 1 (by omega),hc i hi 2 (by omega),hc i hi 3 (by omega)⟩
theorem ORow.cells {w:World}{b off n cap:Nat}{os:Nat→Of}(h:ORow w (some ⟨b,off,none⟩) n cap os) {i:Nat}(hi:i<n) :
  w.cell? ⟨b,off+i*7,none⟩=some (.int .i64 (os i).port)∧w.cell? ⟨b,off+i*7+1,none⟩=some (.int .i64 (os i).cost)∧w.cell? ⟨b,off+i*7+2,none⟩=some (.int .i64 (os i).age)∧w.cell? ⟨b,off+i*7+3,none⟩=some (.int .u64 (os i).vec.root)∧w.cell? ⟨b,off+i*7+4,none⟩=some (.int .i64 (os i).vec.cost)∧w.cell? ⟨b,off+i*7+5,none⟩=some (.int .u64 (os i).vec.bridge)∧w.cell? ⟨b,off+i*7+6,none⟩=some (.int .i64 (os i).vec.port):=by
 obtain⟨b',off',e,_,hc⟩:=h.2 (by omega);cases e
 exact⟨hc i hi 0 (by omega),hc i hi 1 (by omega),hc i hi 2 (by omega),hc i hi 3 (by omega),hc i hi 4 (by omega),hc i hi 5 (by omega),hc i hi 6 (by omega)⟩
theorem CRow.some {w:World}{ao:Option Addr}{n cap k:Nat}{c:Nat→Nat→Value}(h:CRow w ao n cap k c) (hn:0<n):∃b off,ao=.some ⟨b,off,.none⟩∧b<w.heap.size:=by
 obtain⟨b,off,e,hb,_⟩:=h.2 hn;exact⟨b,off,e,hb⟩
theorem of_cells {w:World}{g:Nat}{a0 a1 a2 a3 a4 a5 a6:Value}{ty:TypeId}(h:w.heap[g]?=some (.cells #[a0,a1,a2,a3,a4,a5,a6] ty (0,0))) :
  w.cell? ⟨g,0,none⟩=some a0∧w.cell? ⟨g,1,none⟩=some a1∧w.cell? ⟨g,2,none⟩=some a2∧w.cell? ⟨g,3,none⟩=some a3∧w.cell? ⟨g,4,none⟩=some a4∧w.cell? ⟨g,5,none⟩=some a5∧w.cell? ⟨g,6,none⟩=some a6 :=
 ⟨cell_of_row w g 0 _ _ _ h,cell_of_row w g 1 _ _ _ h,cell_of_row w g 2 _ _ _ h,cell_of_row w g 3 _ _ _ h,cell_of_row w g 4 _ _ _ h,cell_of_row w g 5 _ _ _ h,cell_of_row w g 6 _ _ _ h⟩
theorem someTo_stay (p:Nat→Bool) (k:Nat) (h:p k=true):∀n,k<n→Vc.someTo p n=true:=by
 intro n hn;induction n with
 | zero=>omega
 | succ n ih =>
  simp only[Vc.someTo];by_cases e:k=n
  ·subst e;rw[h,Bool.or_true]
  ·rw[ih (by omega),Bool.true_or]
end
section
open Go.RowKit
theorem below_drewN {n:Nat}{w w':World}(h:Below n w w') (m:Nat):Below n w (w'.drewN m):=⟨h.os,h.tape,h.output,h.size,h.block⟩
theorem results_row {P:Program}{fn:Func}{p:Tmp}{ty:TypeId}(h:fn.results=#[.cell p ty]) (tmps:Array Value) (w:World) (g:Nat) (t:TypeId) (cs:Array Value) (fr:Nat×Nat) (d:TypeDesc)
  (hp:tmps.getD p undef=.pointer (some ⟨g,0,none⟩)) (hg:w.heap[g]?=some (.cells cs t fr))
  (hu:P.underlying ty=some d) (hd:(match d with | .struct _ | .array _ _=>true | _=>false)=true) (hi:(P.info? ty).map (·.size)=some cs.size) :
  (results fn tmps).run P w=.ok (.agg cs) w:=by
 have hp':tmps[p]?.getD undef=.pointer (some ⟨g,0,none⟩):=(by simpa using hp)
 simp[results,h,hp',asAddr,run_loadVar_row w g t ty cs fr d hg hu hd hi]
end
section
open Go.RowKit
open Vc (V Of)
def atTo (id:Int) (os:Nat→Of) (k:Nat):Int:=match Vc.chTo id os k with | none => -1 | some i=>(i:Int)
def bestV (id:Int) (os:Nat→Of) (k:Nat):V:=match Vc.chTo id os k with | none=>Vc.v0 | some i=>(os i).v
theorem results_row_tmp2 {P:Program}{fn:Func}{p u x:Tmp}{ty:TypeId}(h:fn.results=#[.cell p ty,.tmp u,.tmp x]) (tmps:Array Value) (w:World) (g:Nat) (t:TypeId) (cs:Array Value) (fr:Nat×Nat) (d:TypeDesc)
  (hp:tmps.getD p undef=.pointer (some ⟨g,0,none⟩)) (hg:w.heap[g]?=some (.cells cs t fr))
  (hu:P.underlying ty=some d) (hd:(match d with | .struct _ | .array _ _=>true | _=>false)=true) (hi:(P.info? ty).map (·.size)=some cs.size) :
  (results fn tmps).run P w=.ok (.tuple #[.agg cs,tmps.getD u undef,tmps.getD x undef]) w:=by
 have hp':tmps[p]?.getD undef=.pointer (some ⟨g,0,none⟩):=(by simpa using hp)
 simp[results,h,hp',asAddr,run_loadVar_row w g t ty cs fr d hg hu hd hi]
theorem set4_other {w:World}{g j:Nat}{v0 v1 v2 v3:Value}(h:j≠g):((((w.setCell ⟨g,0,none⟩ v0).setCell ⟨g,1,none⟩ v1).setCell ⟨g,2,none⟩ v2).setCell ⟨g,3,none⟩ v3).heap[j]?=w.heap[j]? :=
 (heap_setCell_other _ _ _ _ (by exact h)).trans ((heap_setCell_other _ _ _ _ (by exact h)).trans ((heap_setCell_other _ _ _ _ (by exact h)).trans (heap_setCell_other _ _ _ _ (by exact h))))
theorem vc_set4 {w:World}{g:Nat}{a0 a1 a2 a3 v0 v1 v2 v3:Value}{ty:TypeId}(h:w.heap[g]?=some (.cells #[a0,a1,a2,a3] ty (0,0))) :
  ((((w.setCell ⟨g,0,none⟩ v0).setCell ⟨g,1,none⟩ v1).setCell ⟨g,2,none⟩ v2).setCell ⟨g,3,none⟩ v3).heap[g]?=some (.cells #[v0,v1,v2,v3] ty (0,0)):=by
 have h0:(w.setCell ⟨g,0,none⟩ v0).heap[g]?=some (.cells #[v0,a1,a2,a3] ty (0,0)):=(by rw[heap_setCell_same _ _ _ _ _ _ h];rfl)
 have h1:((w.setCell ⟨g,0,none⟩ v0).setCell ⟨g,1,none⟩ v1).heap[g]?=some (.cells #[v0,v1,a2,a3] ty (0,0)):=(by rw[heap_setCell_same _ _ _ _ _ _ h0];rfl)
 have h2:(((w.setCell ⟨g,0,none⟩ v0).setCell ⟨g,1,none⟩ v1).setCell ⟨g,2,none⟩ v2).heap[g]?=some (.cells #[v0,v1,v2,a3] ty (0,0)):=(by rw[heap_setCell_same _ _ _ _ _ _ h1];rfl)
 rw[heap_setCell_same _ _ _ _ _ _ h2];rfl
theorem results_tmp_row {P:Program}{fn:Func}{p u:Tmp}{ty:TypeId}(h:fn.results=#[.tmp u,.cell p ty]) (tmps:Array Value) (w:World) (g:Nat) (t:TypeId) (cs:Array Value) (fr:Nat×Nat) (d:TypeDesc)
  (hp:tmps.getD p undef=.pointer (some ⟨g,0,none⟩)) (hg:w.heap[g]?=some (.cells cs t fr))
  (hu:P.underlying ty=some d) (hd:(match d with | .struct _ | .array _ _=>true | _=>false)=true) (hi:(P.info? ty).map (·.size)=some cs.size) :
  (results fn tmps).run P w=.ok (.tuple #[tmps.getD u undef,.agg cs]) w:=by
 have hp':tmps[p]?.getD undef=.pointer (some ⟨g,0,none⟩):=(by simpa using hp)
 simp[results,h,hp',asAddr,run_loadVar_row w g t ty cs fr d hg hu hd hi]
end
end Go.Proofs.YtflghpnpjmodaaaGreatDoor
