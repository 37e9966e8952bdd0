/- Rows of bytes, slices of bytes, what is appended to them: for whatever program. -/
import Derived.Test.YtaneiffnhphkhaaGreatDoorRows
import Derived.WalkSpells
import Derived.WalkLawsBesides
import Derived.BigRegion
import Derived.BigQuiet
import Derived.RegionTactic
import Derived.Deep.WholeRow
import Derived.Deep.RegionWith
import Derived.Deep.DeepCutAuto
import Derived.Laws.CopyOwn
import Derived.Laws.BitsLemmas
import Derived.Laws.Bits64b
import Derived.Laws.ResultCell
import Derived.Laws.AppendOwnNone
import Derived.OwnWalk
import Derived.Laws.OwnMore
set_option maxRecDepth 100000
set_option maxHeartbeats 40000000
namespace Go.Proofs.YtaneiffnhphkhaaGreatDoor
section
open Go.RowKit
theorem lsA {α:Type} (l:List α) (i:Nat) (a:α):l.toArray.setIfInBounds i a=(l.set i a).toArray:=by simp
theorem lsZ {α:Type} {a b:α} {l:List α}:(a::l).set 0 b=b::l:=rfl
theorem lsS {α:Type} {a b:α} {l:List α} {n:Nat}:(a::l).set (n+1) b=a::l.set n b:=rfl
theorem gSm {α:Type} {x:Array α} {i:Nat} {a:α}:x[i]?=some a↔∃h:i<x.size,x[i]=a:=Array.getElem?_eq_some_iff
abbrev Bl (a b:World):Prop:=Below a.heap.size a b
theorem add_row (b off j:Nat):(⟨b,off,none⟩:Addr).add j=⟨b,off+j,none⟩:=by unfold Addr.add;split<;>simp_all
theorem bA1 (w:World) (o:Obj):Bl w (w.alloc o):=(Below.refl _ _).alloc (Nat.le_refl _) _
theorem bA2 (w:World) (o1 o2:Obj):Bl w ((w.alloc o1).alloc o2):=((Below.refl _ w).alloc (Nat.le_refl _) _).alloc (by simp) _
theorem alloc3 (w:World) (A B C:Obj):(((w.alloc A).alloc B).alloc C).heap[w.heap.size]?=some A∧(((w.alloc A).alloc B).alloc C).heap[w.heap.size+1]?=some B∧(((w.alloc A).alloc B).alloc C).heap[w.heap.size+1+1]?=some C∧Bl w (((w.alloc A).alloc B).alloc C):=by
 refine⟨?_,?_,?_,(((Below.refl _ _).alloc (Nat.le_refl _) _).alloc (by simp) _).alloc (by simp;omega) _⟩
 ·rw[Below.heap_alloc _ _ _ (by simp;omega)];exact heap_alloc2_old w A B
 ·rw[Below.heap_alloc _ _ _ (by simp)];exact heap_alloc2_new w A B
 ·have:=heap_alloc_last ((w.alloc A).alloc B) C;simpa using this
theorem rRt {P:Program}{fn:Func}{p u:Tmp}{ty:TypeId}(h:fn.results=#[.cell p ty,.tmp u]) (tmps:Array Value) (w:World) (g:Nat) (t:TypeId) (cs:Array Value) (fr:Nat×Nat) (d:TypeDesc)
  (hp:tmps.getD p undef=.pointer (some ⟨g,0,none⟩)) (hg:w.heap[g]?=some (.cells cs t fr))
  (hu:P.underlying ty=some d) (hd:(match d with | .struct _ | .array _ _=>true | _=>false)=true) (hi:(P.info? ty).map (·.size)=some cs.size) :
  (results fn tmps).run P w=.ok (.tuple #[.agg cs,tmps.getD u undef]) w:=by
 rw[results_cell_tmp h tmps P w,hp];simp[asAddr,run_loadVar_row w g t ty cs fr d hg hu hd hi]
theorem wraps_i64 (n:Int) (h0:0≤n) (h1:n<2 ^ 62):IntKind.i64.wrap n=n:=by
 simp[IntKind.wrap,IntKind.bits,IntKind.signed];omega
theorem wraps_u64 (n:Int) (h0:0≤n) (h1:n<2 ^ 64):IntKind.u64.wrap n=n:=by
 simp[IntKind.wrap,IntKind.bits,IntKind.signed];omega
def NilOk (ao:Option Addr) (n c:Nat):Prop:=ao=none→n=0∧c=0
theorem keep {w1 w2:World}{g:Nat}{o:Obj}(h:w1.heap[g]?=some o) (hb:Bl w1 w2):w2.heap[g]?=some o:=by
 refine(hb.block g ?_).trans h;rcases Nat.lt_or_ge g w1.heap.size with e | e
 ·exact e
 ·rw[Array.getElem?_eq_none e] at h;cases h
theorem drew_row {w:World}{g:Nat}{o:Option Obj}(h:w.heap[g]?=o):w.drew.heap[g]?=o:=h
end
section
namespace Vc
structure V where
 root:Int
 cost:Int
 bridge:Int
 port:Int
theorem V.eq {a b:V}(h0:a.root=b.root) (h1:a.cost=b.cost) (h2:a.bridge=b.bridge) (h3:a.port=b.port):a=b:=by
 cases a;cases b;simp_all
theorem V.eq_iff {a b:V}:a=b↔a.root=b.root∧a.cost=b.cost∧a.bridge=b.bridge∧a.port=b.port :=
 ⟨fun h=>by subst h;exact⟨rfl,rfl,rfl,rfl⟩,fun⟨h0,h1,h2,h3⟩=>V.eq h0 h1 h2 h3⟩
instance (a b:V):Decidable (a=b):=decidable_of_iff _ V.eq_iff.symm
def lt (a b:V):Prop:=a.root<b.root∨(a.root=b.root∧(a.cost<b.cost∨(a.cost=b.cost∧(a.bridge<b.bridge∨(a.bridge=b.bridge∧a.port<b.port)))))
instance (a b:V):Decidable (lt a b):=by unfold lt;infer_instance
theorem lt_irrefl (a:V):¬lt a a:=by unfold lt;omega
theorem lt_trans {a b c:V}(h:lt a b) (k:lt b c):lt a c:=by unfold lt at *;omega
theorem lt_asymm {a b:V}(h:lt a b):¬lt b a:=fun k=>lt_irrefl a (lt_trans h k)
theorem lt_total (a b:V):lt a b∨a=b∨lt b a:=by
 rw[V.eq_iff];unfold lt;omega
theorem eq_of {a b:V}(h:¬lt a b) (k:¬lt b a):a=b:=by
 rcases lt_total a b with e | e | e
 ·exact absurd e h
 ·exact e
 ·exact absurd e k
def cmp (a b:V):Int:=if lt a b then -1 else if lt b a then 1 else 0
theorem cmp_lt {a b:V}:cmp a b<0↔lt a b:=by
 unfold cmp;by_cases h:lt a b
 ·simp[h]
 ·by_cases k:lt b a
  ·simp[h,k]
  ·simp[h,k]
theorem cmp_zero {a b:V}:cmp a b=0↔a=b:=by
 unfold cmp;by_cases h:lt a b
 ·simp only[h,if_true];constructor
  ·intro e;omega
  ·intro e;subst e;exact absurd h (lt_irrefl _)
 ·by_cases k:lt b a
  ·simp only[h,k,if_true,if_false];constructor
   ·intro e;omega
   ·intro e;subst e;exact absurd k (lt_irrefl _)
  ·simp only[h,k,if_false,true_iff];exact eq_of h k
def fitsOver (v:V) (c:Int):Prop:=(0≤v.cost∧v.cost≤1000000000)∧(0≤c∧c≤1000000000)∧v.cost+c≤1000000000
instance (v:V) (c:Int):Decidable (fitsOver v c):=by unfold fitsOver;infer_instance
def add (v:V) (c:Int):V:=⟨v.root,v.cost+c,v.bridge,v.port⟩
def v0:V:=⟨0,0,0,0⟩
def overV (v:V) (c:Int):V:=if fitsOver v c then add v c else v0
structure Of where
 port:Int
 cost:Int
 age:Int
 vec:V
def may (id:Int) (o:Of):Prop:=fitsOver o.vec o.cost∧0≤o.port∧(0≤o.age∧o.age<20)∧o.vec.root<id
instance (id:Int) (o:Of):Decidable (may id o):=by unfold may;infer_instance
def Of.v (o:Of):V:=add o.vec o.cost
def ahead (o p:Of):Prop:=lt o.v p.v∨(o.v=p.v∧o.port<p.port)
instance (o p:Of):Decidable (ahead o p):=by unfold ahead;infer_instance
def chTo (id:Int) (os:Nat→Of):Nat→Option Nat
 | 0=>none
 | k+1=>if may id (os k) then(match chTo id os k with | none=>some k | some i=>if ahead (os k) (os i) then some k else some i) else chTo id os k
theorem chTo_none (id:Int) (os:Nat→Of):∀n,chTo id os n=none→∀j,j<n→¬may id (os j)
 | 0,_,j,hj=>by omega
 | k+1,h,j,hj=>by
  simp only[chTo] at h;by_cases hm:may id (os k)
  ·rw[if_pos hm] at h;cases hc:chTo id os k with
   | none=>rw[hc] at h;cases h
   | some i =>
    rw[hc] at h;simp only at h;by_cases ha:ahead (os k) (os i)
    ·rw[if_pos ha] at h;cases h
    ·rw[if_neg ha] at h;cases h
  ·rw[if_neg hm] at h;by_cases e:j=k
   ·subst e;exact hm
   ·exact chTo_none id os k h j (by omega)
theorem ahead_irrefl (a:Of):¬ahead a a:=by
 rintro(h | ⟨_,h⟩)
 ·exact lt_irrefl _ h
 ·omega
theorem ahead_trans {a b c:Of}(h:ahead a b) (k:ahead b c):ahead a c:=by
 rcases h with h | ⟨h,h2⟩<;>rcases k with k | ⟨k,k2⟩
 ·exact Or.inl (lt_trans h k)
 ·exact Or.inl (by rw[←k];exact h)
 ·exact Or.inl (by rw[h];exact k)
 ·exact Or.inr ⟨h.trans k,by omega⟩
theorem chTo_some (id:Int) (os:Nat→Of):∀n i,chTo id os n=some i→i<n∧may id (os i)∧∀j,j<n→may id (os j)→¬ahead (os j) (os i)
 | 0,i,h=>by cases h
 | k+1,i,h=>by
  simp only[chTo] at h;by_cases hm:may id (os k)
  ·rw[if_pos hm] at h;cases hc:chTo id os k with
   | none =>
    rw[hc] at h;simp only[Option.some.injEq] at h;subst h;refine⟨by omega,hm,fun j hj hmj => ?_⟩;by_cases e:j=k
    ·subst e;exact ahead_irrefl _
    ·exact absurd hmj (chTo_none id os k hc j (by omega))
   | some i' =>
    rw[hc] at h;simp only at h;obtain⟨h1,h2,h3⟩:=chTo_some id os k i' hc;by_cases ha:ahead (os k) (os i')
    ·rw[if_pos ha] at h;simp only[Option.some.injEq] at h;subst h;refine⟨by omega,hm,fun j hj hmj => ?_⟩;by_cases e:j=k
     ·subst e;exact ahead_irrefl _
     ·exact fun q=>h3 j (by omega) hmj (ahead_trans q ha)
    ·rw[if_neg ha] at h;simp only[Option.some.injEq] at h;subst h;refine⟨by omega,h2,fun j hj hmj => ?_⟩;by_cases e:j=k
     ·subst e;exact ha
     ·exact h3 j (by omega) hmj
  ·rw[if_neg hm] at h;obtain⟨h1,h2,h3⟩:=chTo_some id os k i h;refine⟨by omega,h2,fun j hj hmj => ?_⟩;by_cases e:j=k
   ·subst e;exact absurd hmj hm
   ·exact h3 j (by omega) hmj
theorem not_ahead {a b:Of}(h:¬ahead a b) (k:¬ahead b a):a.v=b.v∧a.port=b.port:=by
 have e:a.v=b.v:=eq_of (fun q=>h (Or.inl q)) (fun q=>k (Or.inl q));have h1:¬a.port<b.port:=fun q=>h (Or.inr ⟨e,q⟩);have h2:¬b.port<a.port:=fun q=>k (Or.inr ⟨e.symm,q⟩);exact⟨e,by omega⟩
def chV (id:Int) (os:Nat→Of) (n:Nat):V:=match chTo id os n with | none=>⟨id,0,id,0⟩ | some i=>⟨(os i).v.root,(os i).v.cost,id,0⟩
def chA (id:Int) (os:Nat→Of) (n:Nat):Int:=match chTo id os n with | none=>0 | some i=>(os i).age+1
def chP (id:Int) (os:Nat→Of) (n:Nat):Int:=match chTo id os n with | none => -1 | some i=>(os i).port
def hears (says:V) (port:Int) (o:Of):Prop:=o.port=port∧(0≤o.age∧o.age≤20)∧lt o.vec ⟨says.root,says.cost,says.bridge,port⟩
instance (says:V) (port:Int) (o:Of):Decidable (hears says port o):=by unfold hears;infer_instance
def someTo (p:Nat→Bool):Nat→Bool
 | 0=>false
 | k+1=>someTo p k||p k
def role (says:V) (root port:Int) (os:Nat→Of) (n:Nat):Int:=if port=root then 1 else if someTo (fun i=>decide (hears says port (os i))) n=true then 3 else 2
end Vc
namespace Pl
open Vc (V Of)
structure Lk where
 a:Int
 pa:Int
 b:Int
 pb:Int
 cost:Int
 up:Bool
structure En where
 port:Int
 cost:Int
 other:Int
 oport:Int
 live:Bool
def firstTo (f:Nat→Int):Nat→Int×Int
 | 0=>(0,0)
 | k+1=>if (firstTo f k).1≠0 then firstTo f k else if f k≠0 then(f k,(k:Int)) else(0,0)
theorem firstTo_zero (f:Nat→Int):∀n,(firstTo f n).1=0→firstTo f n=(0,0)∧∀i,i<n→f i=0
 | 0,_=>⟨rfl,fun i hi=>absurd hi (by omega)⟩
 | k+1,h=>by
  simp only[firstTo] at h ⊢;by_cases h1:(firstTo f k).1=0
  ·obtain⟨e1,e2⟩:=firstTo_zero f k h1;by_cases h2:f k=0
   ·refine⟨by simp[h1,h2],fun i hi => ?_⟩;by_cases e:i=k
    ·subst e;exact h2
    ·exact e2 i (by omega)
   ·simp[h1,h2] at h
  ·simp[h1] at h
theorem firstTo_here (f:Nat→Int) (k:Nat) (h:∀i,i<k→f i=0) (hk:f k≠0):∀n,k<n→firstTo f n=(f k,(k:Int)):=by
 have h0:∀m,m≤k→firstTo f m=(0,0):=by
  intro m;induction m with
  | zero=>intro _;rfl
  | succ m ih =>
   intro hm;simp[firstTo,ih (by omega),h m (by omega)]
 intro n hn;induction n with
 | zero=>omega
 | succ n ih =>
  by_cases e:k=n
  ·subst e;simp[firstTo,h0 k (Nat.le_refl _),hk]
  ·have:=ih (by omega);simp[firstTo,this,hk]
theorem firstTo_all (f:Nat→Int) (n:Nat) (h:∀i,i<n→f i=0):firstTo f n=(0,0):=by
 induction n with
 | zero=>rfl
 | succ n ih=>simp[firstTo,ih (fun i hi=>h i (by omega)),h n (by omega)]
def oddP (p:Int):Bool:=!decide (0≤p∧p≤61440)||decide (p%4096≠0)
def lkErr (K:Nat) (l:Lk):Int :=
 if ¬(0≤l.a∧l.a≤(K:Int)-1)∨¬(0≤l.b∧l.b≤(K:Int)-1) then 6 else if l.a=l.b then 8
 else if ¬(1≤l.pa∧l.pa≤30)∨¬(1≤l.pb∧l.pb≤30)∨¬(1≤l.cost∧l.cost≤200000) then 3 else 0
def isEnd (l:Lk) (x p:Int):Bool:=decide (l.a=x∧l.pa=p)||decide (l.b=x∧l.pb=p)
def lErr (K:Nat) (ls:Nat→Lk) (i:Nat):Int :=
 if lkErr K (ls i)≠0 then lkErr K (ls i) else if Vc.someTo (fun j=>isEnd (ls j) (ls i).a (ls i).pa||isEnd (ls j) (ls i).b (ls i).pb) i=true then 7 else 0
def endsAt (l:Lk) (lv:Bool) (i:Nat):List En:=(if l.a=(i:Int) then [⟨l.pa,l.cost,l.b,l.pb,lv⟩] else [])++(if l.b=(i:Int) then [⟨l.pb,l.cost,l.a,l.pa,lv⟩] else [])
def endsTo (ls:Nat→Lk) (lv:Nat→Bool) (i:Nat):Nat→List En
 | 0=>[]
 | k+1=>endsTo ls lv i k++endsAt (ls k) (lv k) i
def leP (x y:En):Bool:=decide (x.port≤y.port)
def ends (ls:Nat→Lk) (lv:Nat→Bool) (L i:Nat):List En:=(endsTo ls lv i L).mergeSort leP
def o0:Of:=⟨0,0,0,Vc.v0⟩
def lf (l:List Of) (j:Nat):Of:=l.getD j o0
theorem sorted_unique {l l':List En}(hp:l.Perm l') (h:l.Pairwise (fun x y=>x.port<y.port)) (h':l'.Pairwise (fun x y=>x.port<y.port)):l=l' :=
 hp.eq_of_pairwise (fun a b _ _ h1 h2=>by omega) h h'
end Pl
namespace Pl
open Vc (V Of)
theorem lf_mem {l:List Of}{j:Nat}(h:j<l.length):lf l j∈l:=by
 unfold lf;rw[List.getD_eq_getElem?_getD,List.getElem?_eq_getElem h];exact List.getElem_mem h
theorem lf_of_mem {l:List Of}{o:Of}(h:o∈l):∃j,j<l.length∧lf l j=o:=by
 obtain⟨j,hj,e⟩:=List.getElem_of_mem h;refine⟨j,hj,?_⟩;unfold lf;rw[List.getD_eq_getElem?_getD,List.getElem?_eq_getElem hj];exact e
structure Good (ids:Nat→Int) (E:Nat→List En) (K:Nat):Prop where
 few:K≤12
 lt:∀i,i<K→∀e,e∈E i→e.live=true→(0≤e.other∧e.other<K)∧(1≤e.cost∧e.cost≤200000)∧0≤e.port
section
variable {ids:Nat→Int}{E:Nat→List En}{K:Nat}
theorem toNat_lt {a:Int}{K:Nat}(h:0≤a∧a<K):a.toNat<K:=by omega
end
end Pl
end
section
open Go.RowKit
def CRow (w:World) (ao:Option Addr) (n cap k:Nat) (c:Nat→Nat→Value):Prop :=
 n≤cap∧(0<n→∃b off,ao=some ⟨b,off,none⟩∧b<w.heap.size∧∀i,i<n→∀j,j<k→w.cell? ⟨b,off+i*k+j,none⟩=some (c i j))
theorem CRow.other {w w':World}{ao:Option Addr}{n cap k:Nat}{c:Nat→Nat→Value}(h:CRow w ao n cap k c) (e:∀b off,ao=some ⟨b,off,none⟩→b<w.heap.size→w'.heap[b]?=w.heap[b]?) (hs:w.heap.size≤w'.heap.size):CRow w' ao n cap k c:=by
 refine⟨h.1,fun hp => ?_⟩;obtain⟨b,off,e1,hlt,hc⟩:=h.2 hp;exact⟨b,off,e1,Nat.lt_of_lt_of_le hlt hs,fun i hi j hj=>(World.cell?_of_block (w:=w) (e b off e1 hlt)).trans (hc i hi j hj)⟩
theorem CRow.below {w w':World}{ao:Option Addr}{n cap k:Nat}{c:Nat→Nat→Value}(h:CRow w ao n cap k c) (hb:Bl w w'):CRow w' ao n cap k c :=
 h.other (fun b _ _ hlt=>hb.block b hlt) hb.size
theorem CRow.congr {w:World}{ao:Option Addr}{n cap k:Nat}{c d:Nat→Nat→Value}(h:CRow w ao n cap k c) (e:∀i,i<n→c i=d i):CRow w ao n cap k d:=by
 refine⟨h.1,fun hp => ?_⟩;obtain⟨b,off,e1,hlt,hc⟩:=h.2 hp;exact⟨b,off,e1,hlt,fun i hi j hj=>by rw[←e i hi];exact hc i hi j hj⟩
theorem CRow.none (w:World) (cap k:Nat) (c:Nat→Nat→Value) (ao:Option Addr):CRow w ao 0 cap k c:=⟨Nat.zero_le _,fun h=>absurd h (by omega)⟩
def cellsL (n k:Nat) (c:Nat→Nat→Value):List Value:=(List.range (n*k)).map (fun x=>c (x/k) (x%k))
theorem cellsL_length (n k:Nat) (c:Nat→Nat→Value):(cellsL n k c).length=n*k:=by simp[cellsL]
theorem cellsL_get (n k:Nat) (c:Nat→Nat→Value) (j:Nat) (v:Value) (h:(cellsL n k c)[j]?=some v):j<n*k∧v=c (j/k) (j%k):=by
 have hj:j<n*k:=by
  have:=(List.getElem?_eq_some_iff.1 h).1;simpa[cellsL] using this
 refine⟨hj,?_⟩;simp[cellsL,hj] at h;exact h.symm
theorem cellsL_one (n k:Nat) (c:Nat→Nat→Value) (h:∀i j,(c i j).oneCell'=true):∀v∈cellsL n k c,v.oneCell'=true:=by
 intro v hv;simp[cellsL] at hv;obtain⟨i,_,rfl⟩:=hv;exact h _ _
def catC (n:Nat) (c d:Nat→Nat→Value) (i:Nat):Nat→Value:=if i<n then c i else d (i-n)
theorem div_lt_of {x n k:Nat}(hk:0<k) (h:x<n*k):x/k<n:=(Nat.div_lt_iff_lt_mul hk).2 h
theorem cellsL_cat (n m k:Nat) (hk:0<k) (c d:Nat→Nat→Value):cellsL n k c++cellsL m k d=cellsL (n+m) k (catC n c d):=by
 apply List.ext_getElem?
 intro i;by_cases h:i<n*k
 ·rw[List.getElem?_append_left (by rw[cellsL_length];exact h)];have h2:i<(n+m)*k:=(by rw[Nat.add_mul];omega)
  simp[cellsL,h,h2];unfold catC;rw[if_pos (div_lt_of hk h)]
 ·rw[List.getElem?_append_right (by rw[cellsL_length];omega),cellsL_length];by_cases h2:i<(n+m)*k
  ·have h3:i-n*k<m*k:=(by rw[Nat.add_mul] at h2;omega)
   simp[cellsL,h2,h3];unfold catC;have e1:i/k=n+(i-n*k)/k:=by
    have:=Nat.add_mul_div_right (i-n*k) n hk;rw[show i-n*k+n*k=i by omega,Nat.add_comm] at this;exact this
   have e2:i%k=(i-n*k)%k:=by
    have:=Nat.add_mul_mod_self_right (i-n*k) n k;rw[show i-n*k+n*k=i by omega] at this;exact this
   rw[e1,e2,if_neg (Nat.not_lt.2 (Nat.le_add_right _ _)),Nat.add_sub_cancel_left]
  ·have h4:=Nat.add_mul n m k;rw[List.getElem?_eq_none (by rw[cellsL_length];omega),List.getElem?_eq_none (by rw[cellsL_length];omega)]
theorem cellsL_congr (n k:Nat) (c d:Nat→Nat→Value) (h:∀i,i<n→c i=d i):cellsL n k c=cellsL n k d:=by
 unfold cellsL;apply List.map_congr_left
 intro x hx;have hx:x<n*k:=(by simpa using hx)
 have hk:0<k:=by
  rcases Nat.eq_zero_or_pos k with e | e
  ·subst e;omega
  ·exact e
 rw[h _ (div_lt_of hk hx)]
theorem src_cells {W:World}{ao:Option Addr}{n cap k:Nat}{c:Nat→Nat→Value}(hk:0<k) (h:CRow W ao n cap k c) {ad:Addr}(e:ao=some ad):∀j v,(cellsL n k c)[j]?=some v→W.cell? (ad.add j)=some v:=by
 intro j v hj;obtain⟨hj1,rfl⟩:=cellsL_get _ _ _ _ _ hj;have hp:0<n:=by
  rcases Nat.eq_zero_or_pos n with e | e
  ·subst e;omega
  ·exact e
 obtain⟨b,off,e2,_,hc⟩:=h.2 hp;rw[e] at e2;cases e2
 rw[add_row];have:=hc (j/k) (div_lt_of hk hj1) (j%k) (Nat.mod_lt _ hk);rw[Nat.add_assoc,Nat.mul_comm,Nat.div_add_mod] at this;exact this
theorem owns_c {w:World}{base n e k:Nat}{v:Value}{c:Nat→Nat→Value}(hk:0<k) (h:w.ownsRow base e k v n (cellsL n k c)):∃ao cap,v=.slice ao n cap∧CRow w ao n cap k c∧NilOk ao n cap∧(∀ad,ao=some ad→base≤ad.block):=by
 have h':=h;obtain⟨_,h2⟩:=h;rcases h2 with⟨rfl,rfl⟩ | ⟨g,cap,cur,rfl,hg,hh,hn,hm,_,_⟩
 ·exact⟨none,0,rfl,CRow.none _ _ _ _ _,fun _=>⟨rfl,rfl⟩,fun ad e=>by cases e⟩
 ·refine⟨_,cap,rfl,⟨hn,fun hp=>⟨g,0,rfl,(gSm.1 hh).1,fun i hi j hj => ?_⟩⟩,(fun e=>by cases e),(fun ad e=>by cases e;exact hg)⟩;have hlt:i*k+j<n*k:=by
   have:(i+1)*k≤n*k:=Nat.mul_le_mul_right k (by omega);rw[Nat.add_mul] at this;omega
  rw[Nat.zero_add,h'.cellAt (i*k+j) hlt];simp[cellsL,hlt];have e1:(i*k+j)/k=i:=(by rw[Nat.add_comm,Nat.add_mul_div_right _ _ hk,Nat.div_eq_of_lt hj,Nat.zero_add])
  have e2:(i*k+j)%k=j:=(by rw[Nat.add_comm,Nat.add_mul_mod_self_right,Nat.mod_eq_of_lt hj])
  first | rw[e1,e2] | rw[e1,Nat.mod_eq_of_lt hj]
theorem ownsC_below {w w':World}{base e k n:Nat}{v:Value}{xs:List Value}(h:w.ownsRow base e k v n xs) (hb:Bl w w'):w'.ownsRow base e k v n xs:=by
 obtain⟨h1,h2⟩:=h;refine⟨h1,?_⟩;rcases h2 with h2 | ⟨g,cap,cur,hv,hg,hh,r⟩
 ·exact Or.inl h2
 ·exact Or.inr ⟨g,cap,cur,hv,hg,keep hh hb,r⟩
theorem oCb {w:World}{base e k n:Nat}{v:Value}{xs:List Value}(h:w.ownsRow base e k v n xs):∀q,v.ownBlock=some q→base≤q∧q<w.heap.size:=by
 intro q hq;obtain⟨_,h2⟩:=h;rcases h2 with⟨rfl,_⟩ | ⟨g,cap,cur,rfl,hg,hh,_⟩
 ·simp[Value.ownBlock] at hq
 ·simp[Value.ownBlock] at hq;subst hq;exact⟨hg,(gSm.1 hh).1⟩
theorem append_c (w:World) (t e:TypeId) (z:Value) (k bytes:Nat) (ht:Tryz.prog.underlying t=some (.slice e)) (hinfo:(Tryz.prog.info? e).map (fun i=>(i.zero,i.size,i.bytes))=some (some z,k,bytes)) (hzk:z.cells.size=k) (hk:0<k)
  (base:Nat) (v:Value) (n:Nat) (c:Nat→Nat→Value) (hown:w.ownsRow base e k v n (cellsL n k c)) (ao:Option Addr) (m cp:Nat) (d:Nat→Nat→Value) (hd:∀i j,(d i j).oneCell'=true) (hr:CRow w ao m cp k d) (hnil:NilOk ao m cp) (h63:n+m≤maxLen) (hb:(n+m)*bytes≤140737488355328) (hbase:base≤w.heap.size) :
  ∃a1 c1 w',(Builtin.append_ #[t,t] t #[v,.slice ao m cp]).run Tryz.prog w=.ok (.slice a1 (n+m) c1) w'∧w'.ownsRow base e k (.slice a1 (n+m) c1) (n+m) (cellsL (n+m) k (catC n c d))∧Below base w w'∧(∀q,q<w.heap.size→some q≠v.ownBlock→w'.heap[q]?=w.heap[q]?):=by
 obtain⟨i0,hi,hz0,hz1,hz2⟩:=info_parts hinfo;cases ao with
 | none =>
  obtain⟨rfl,rfl⟩:=hnil rfl;have hrun:=run_append_owned_none (P:=Tryz.prog) (w:=w) base t t e i0 k ht hi v n _ hown;obtain⟨a1,c1,rfl,_⟩:=owns_c hk hown;refine⟨a1,c1,w,hrun,?_,Below.refl _ _,fun _ _ _=>rfl⟩;rw[Nat.add_zero,cellsL_congr n k (catC n c d) c (fun i hi=>if_pos hi)];exact hown
 | some ad =>
  obtain⟨v',w',hrun,h1,h2,_⟩:=run_append_own (P:=Tryz.prog) w base t t e i0 z k bytes ht hi hz0 hz1 hz2 hzk hk v n _ hown ad m cp (cellsL m k d) (cellsL_length _ _ _) (src_cells hk hr rfl) (cellsL_one _ _ _ hd) h63 hb hbase;rw[cellsL_cat n m k hk] at h1;obtain⟨a1,c1,rfl,_⟩:=owns_c hk h1;exact⟨a1,c1,w',hrun,h1,(Below.refl _ _).grown h2 hbase (fun q hq=>(oCb hown q hq).1),h2.block⟩
theorem ownsC_nil (w:World) (base e k:Nat) (c:Nat→Nat→Value):w.ownsRow base e k (.slice none 0 0) 0 (cellsL 0 k c) :=
 ⟨by rw[cellsL_length],Or.inl ⟨rfl,rfl⟩⟩
theorem step_append_c {w w':World}{ops:Array Oper}{o:Oper}{a:Act}{K:Act→World→Prop}{Q:Exit→Act→World→Prop}{E:Prop}(hgd:o.guard=none) (s x:Operand) (t:TypeId)
  (ho:o.op=.call { callee:=.builtin .append,args:=#[s,x],argTypes:=#[t,t] }) (v vx v':Value) (hs:a.eval s=v) (hx:a.eval x=vx) (hr:(Builtin.append_ #[t,t] o.type #[v,vx]).run Tryz.prog w=.ok v' w')
  (h:K (a.put o.dst v') w'):if Region.wanted o (yielded ops a.tmps)=true then Oper.wp Tryz.prog o a w K Q else E:=by
 have hw:Region.wanted o (yielded ops a.tmps)=true:=(by simp[Region.wanted,hgd])
 rw[if_pos hw];unfold Oper.wp execOp;simp only[ho,resolve,invoke,builtin,Sem.run_bind,Sem.run_pure,Result.andThen_ok,List.map_toArray,List.map_cons,List.map_nil,hs,hx,hr];exact h
theorem wpList_append_run {w w':World}{ops:Array Oper}{rest:List Oper}{o:Oper}{a:Act}{Q:Exit→Act→World→Prop}(hgd:o.guard=none) (s x:Operand) (t:TypeId)
  (ho:o.op=.call { callee:=.builtin .append,args:=#[s,x],argTypes:=#[t,t] }) (v vx v':Value) (hs:a.eval s=v) (hx:a.eval x=vx) (hr:(Builtin.append_ #[t,t] o.type #[v,vx]).run Tryz.prog w=.ok v' w')
  (h:wpList Tryz.prog ops Q rest (a.put o.dst v') w'):wpList Tryz.prog ops Q (o :: rest) a w:=by
 refine wpList_plain hgd fun K hK => ?_;unfold Oper.wp execOp;simp only[ho,resolve,invoke,builtin,Sem.run_bind,Sem.run_pure,Result.andThen_ok,List.map_toArray,List.map_cons,List.map_nil,hs,hx,hr];exact hK _ _ h
end
section
open Go.RowKit
open Vc (V Of)
def vA (v:V):Array Value:=#[.int .u64 v.root,.int .i64 v.cost,.int .u64 v.bridge,.int .i64 v.port]
theorem sizeVc:(Tryz.prog.info? 58).map (·.size)=some 4:=by kernel_rfl
theorem vc_cells {w:World}{g:Nat}{a0 a1 a2 a3:Value}{ty:TypeId}(h:w.heap[g]?=some (.cells #[a0,a1,a2,a3] ty (0,0))) :
  w.cell? ⟨g,0,none⟩=some a0∧w.cell? ⟨g,1,none⟩=some a1∧w.cell? ⟨g,2,none⟩=some a2∧w.cell? ⟨g,3,none⟩=some a3 :=
 ⟨cell_of_row w g 0 _ _ _ h,cell_of_row w g 1 _ _ _ h,cell_of_row w g 2 _ _ _ h,cell_of_row w g 3 _ _ _ h⟩
theorem vc_free {w:World}{g:Nat}{A:Array Value}{ty:TypeId}(h:w.heap[g]?=some (.cells A ty (0,0))) :
  w.frozen? ⟨g,0,none⟩=false∧w.frozen? ⟨g,1,none⟩=false∧w.frozen? ⟨g,2,none⟩=false∧w.frozen? ⟨g,3,none⟩=false :=
 ⟨frozen_of_row _ _ _ _ _ h,frozen_of_row _ _ _ _ _ h,frozen_of_row _ _ _ _ _ h,frozen_of_row _ _ _ _ _ h⟩
def vC (v:V) (j:Nat):Value:=if j=0 then .int .u64 v.root else if j=1 then .int .i64 v.cost else if j=2 then .int .u64 v.bridge else .int .i64 v.port
def ofC (o:Of) (j:Nat):Value:=if j=0 then .int .i64 o.port else if j=1 then .int .i64 o.cost else if j=2 then .int .i64 o.age else vC o.vec (j-3)
theorem vC_one (v:V) (j:Nat):(vC v j).oneCell'=true:=by
 unfold vC;repeat' split
 all_goals rfl
theorem ofC_one (o:Of) (j:Nat):(ofC o j).oneCell'=true:=by
 unfold ofC;repeat' split
 all_goals first | rfl | exact vC_one _ _
abbrev VRow (w:World) (ao:Option Addr) (n cap:Nat) (vs:Nat→V):Prop:=CRow w ao n cap 4 (fun i=>vC (vs i))
abbrev ORow (w:World) (ao:Option Addr) (n cap:Nat) (os:Nat→Of):Prop:=CRow w ao n cap 7 (fun i=>ofC (os i))
theorem VRow.cells {w:World}{b off n cap:Nat}{vs:Nat→V}(h:VRow w (some ⟨b,off,none⟩) n cap vs) {i:Nat}(hi:i<n) :
  w.cell? ⟨b,off+i*4,none⟩=some (.int .u64 (vs i).root)∧w.cell? ⟨b,off+i*4+1,none⟩=some (.int .i64 (vs i).cost)∧w.cell? ⟨b,off+i*4+2,none⟩=some (.int .u64 (vs i).bridge)∧w.cell? ⟨b,off+i*4+3,none⟩=some (.int .i64 (vs i).port):=by
 obtain⟨b',off',e,_,hc⟩:=h.2 (by omega);cases e
 exact⟨hc i hi 0 (by omega),hc i hi 1 (by omega),hc i hi 2 (by omega),hc i hi 3 (by omega)⟩
theorem ORow.cells {w:World}{b off n cap:Nat}{os:Nat→Of}(h:ORow w (some ⟨b,off,none⟩) n cap os) {i:Nat}(hi:i<n) :
  w.cell? ⟨b,off+i*7,none⟩=some (.int .i64 (os i).port)∧w.cell? ⟨b,off+i*7+1,none⟩=some (.int .i64 (os i).cost)∧w.cell? ⟨b,off+i*7+2,none⟩=some (.int .i64 (os i).age)∧w.cell? ⟨b,off+i*7+3,none⟩=some (.int .u64 (os i).vec.root)∧w.cell? ⟨b,off+i*7+4,none⟩=some (.int .i64 (os i).vec.cost)∧w.cell? ⟨b,off+i*7+5,none⟩=some (.int .u64 (os i).vec.bridge)∧w.cell? ⟨b,off+i*7+6,none⟩=some (.int .i64 (os i).vec.port):=by
 obtain⟨b',off',e,_,hc⟩:=h.2 (by omega);cases e
 exact⟨hc i hi 0 (by omega),hc i hi 1 (by omega),hc i hi 2 (by omega),hc i hi 3 (by omega),hc i hi 4 (by omega),hc i hi 5 (by omega),hc i hi 6 (by omega)⟩
theorem CRow.some {w:World}{ao:Option Addr}{n cap k:Nat}{c:Nat→Nat→Value}(h:CRow w ao n cap k c) (hn:0<n):∃b off,ao=.some ⟨b,off,.none⟩∧b<w.heap.size:=by
 obtain⟨b,off,e,hb,_⟩:=h.2 hn;exact⟨b,off,e,hb⟩
theorem of_cells {w:World}{g:Nat}{a0 a1 a2 a3 a4 a5 a6:Value}{ty:TypeId}(h:w.heap[g]?=some (.cells #[a0,a1,a2,a3,a4,a5,a6] ty (0,0))) :
  w.cell? ⟨g,0,none⟩=some a0∧w.cell? ⟨g,1,none⟩=some a1∧w.cell? ⟨g,2,none⟩=some a2∧w.cell? ⟨g,3,none⟩=some a3∧w.cell? ⟨g,4,none⟩=some a4∧w.cell? ⟨g,5,none⟩=some a5∧w.cell? ⟨g,6,none⟩=some a6 :=
 ⟨cell_of_row w g 0 _ _ _ h,cell_of_row w g 1 _ _ _ h,cell_of_row w g 2 _ _ _ h,cell_of_row w g 3 _ _ _ h,cell_of_row w g 4 _ _ _ h,cell_of_row w g 5 _ _ _ h,cell_of_row w g 6 _ _ _ h⟩
theorem someTo_stay (p:Nat→Bool) (k:Nat) (h:p k=true):∀n,k<n→Vc.someTo p n=true:=by
 intro n hn;induction n with
 | zero=>omega
 | succ n ih =>
  simp only[Vc.someTo];by_cases e:k=n
  ·subst e;rw[h,Bool.or_true]
  ·rw[ih (by omega),Bool.true_or]
end
section
open Go.RowKit
theorem below_drewN {n:Nat}{w w':World}(h:Below n w w') (m:Nat):Below n w (w'.drewN m):=⟨h.os,h.tape,h.output,h.size,h.block⟩
theorem results_row {P:Program}{fn:Func}{p:Tmp}{ty:TypeId}(h:fn.results=#[.cell p ty]) (tmps:Array Value) (w:World) (g:Nat) (t:TypeId) (cs:Array Value) (fr:Nat×Nat) (d:TypeDesc)
  (hp:tmps.getD p undef=.pointer (some ⟨g,0,none⟩)) (hg:w.heap[g]?=some (.cells cs t fr))
  (hu:P.underlying ty=some d) (hd:(match d with | .struct _ | .array _ _=>true | _=>false)=true) (hi:(P.info? ty).map (·.size)=some cs.size) :
  (results fn tmps).run P w=.ok (.agg cs) w:=by
 have hp':tmps[p]?.getD undef=.pointer (some ⟨g,0,none⟩):=(by simpa using hp)
 simp[results,h,hp',asAddr,run_loadVar_row w g t ty cs fr d hg hu hd hi]
end
section
open Go.RowKit
open Vc (V Of)
def atTo (id:Int) (os:Nat→Of) (k:Nat):Int:=match Vc.chTo id os k with | none => -1 | some i=>(i:Int)
def bestV (id:Int) (os:Nat→Of) (k:Nat):V:=match Vc.chTo id os k with | none=>Vc.v0 | some i=>(os i).v
theorem results_row_tmp2 {P:Program}{fn:Func}{p u x:Tmp}{ty:TypeId}(h:fn.results=#[.cell p ty,.tmp u,.tmp x]) (tmps:Array Value) (w:World) (g:Nat) (t:TypeId) (cs:Array Value) (fr:Nat×Nat) (d:TypeDesc)
  (hp:tmps.getD p undef=.pointer (some ⟨g,0,none⟩)) (hg:w.heap[g]?=some (.cells cs t fr))
  (hu:P.underlying ty=some d) (hd:(match d with | .struct _ | .array _ _=>true | _=>false)=true) (hi:(P.info? ty).map (·.size)=some cs.size) :
  (results fn tmps).run P w=.ok (.tuple #[.agg cs,tmps.getD u undef,tmps.getD x undef]) w:=by
 have hp':tmps[p]?.getD undef=.pointer (some ⟨g,0,none⟩):=(by simpa using hp)
 simp[results,h,hp',asAddr,run_loadVar_row w g t ty cs fr d hg hu hd hi]
theorem set4_other {w:World}{g j:Nat}{v0 v1 v2 v3:Value}(h:j≠g):((((w.setCell ⟨g,0,none⟩ v0).setCell ⟨g,1,none⟩ v1).setCell ⟨g,2,none⟩ v2).setCell ⟨g,3,none⟩ v3).heap[j]?=w.heap[j]? :=
 (heap_setCell_other _ _ _ _ (by exact h)).trans ((heap_setCell_other _ _ _ _ (by exact h)).trans ((heap_setCell_other _ _ _ _ (by exact h)).trans (heap_setCell_other _ _ _ _ (by exact h))))
theorem vc_set4 {w:World}{g:Nat}{a0 a1 a2 a3 v0 v1 v2 v3:Value}{ty:TypeId}(h:w.heap[g]?=some (.cells #[a0,a1,a2,a3] ty (0,0))) :
  ((((w.setCell ⟨g,0,none⟩ v0).setCell ⟨g,1,none⟩ v1).setCell ⟨g,2,none⟩ v2).setCell ⟨g,3,none⟩ v3).heap[g]?=some (.cells #[v0,v1,v2,v3] ty (0,0)):=by
 have h0:(w.setCell ⟨g,0,none⟩ v0).heap[g]?=some (.cells #[v0,a1,a2,a3] ty (0,0)):=(by rw[heap_setCell_same _ _ _ _ _ _ h];rfl)
 have h1:((w.setCell ⟨g,0,none⟩ v0).setCell ⟨g,1,none⟩ v1).heap[g]?=some (.cells #[v0,v1,a2,a3] ty (0,0)):=(by rw[heap_setCell_same _ _ _ _ _ _ h0];rfl)
 have h2:(((w.setCell ⟨g,0,none⟩ v0).setCell ⟨g,1,none⟩ v1).setCell ⟨g,2,none⟩ v2).heap[g]?=some (.cells #[v0,v1,v2,a3] ty (0,0)):=(by rw[heap_setCell_same _ _ _ _ _ _ h1];rfl)
 rw[heap_setCell_same _ _ _ _ _ _ h2];rfl
theorem results_tmp_row {P:Program}{fn:Func}{p u:Tmp}{ty:TypeId}(h:fn.results=#[.tmp u,.cell p ty]) (tmps:Array Value) (w:World) (g:Nat) (t:TypeId) (cs:Array Value) (fr:Nat×Nat) (d:TypeDesc)
  (hp:tmps.getD p undef=.pointer (some ⟨g,0,none⟩)) (hg:w.heap[g]?=some (.cells cs t fr))
  (hu:P.underlying ty=some d) (hd:(match d with | .struct _ | .array _ _=>true | _=>false)=true) (hi:(P.info? ty).map (·.size)=some cs.size) :
  (results fn tmps).run P w=.ok (.tuple #[tmps.getD u undef,.agg cs]) w:=by
 have hp':tmps[p]?.getD undef=.pointer (some ⟨g,0,none⟩):=(by simpa using hp)
 simp[results,h,hp',asAddr,run_loadVar_row w g t ty cs fr d hg hu hd hi]
end
section
open Go.RowKit
def rowF (n:Nat) (f:Nat→Int):Array Value:=((List.range n).map fun i=>Value.int .u8 (f i)).toArray
theorem rowF_size (n:Nat) (f:Nat→Int):(rowF n f).size=n:=by simp[rowF]
theorem rowF_get (n:Nat) (f:Nat→Int) (j:Nat) (h:j<n):(rowF n f)[j]?=some (.int .u8 (f j)):=by simp[rowF,h]
theorem rowF_set (n:Nat) (f:Nat→Int) (k:Nat) (v:Int) (h:k<n):(rowF n f).setIfInBounds k (.int .u8 v)=rowF n (fun i=>if i=k then v else f i):=by
 apply Array.ext_getElem?
 intro i;by_cases hi:i<n
 ·rw[rowF_get n _ i hi,Array.getElem?_setIfInBounds];by_cases e:k=i
  ·subst e;simp[rowF_size,h]
  ·rw[if_neg e,rowF_get n f i hi,if_neg (fun h=>e h.symm)]
 ·rw[Array.getElem?_eq_none (by simp[rowF_size];omega),Array.getElem?_eq_none (by simp[rowF_size];omega)]
theorem rowF_congr (n:Nat) (f g:Nat→Int) (h:∀i,i<n→f i=g i):rowF n f=rowF n g:=by
 unfold rowF;congr 1
 apply List.map_congr_left
 intro i hi;rw[h i (by simpa using hi)]
theorem rowF_all (n:Nat) (f:Nat→Int):(rowF n f).all (·.oneCell')=true:=by
 rw[Array.all_eq_true_iff_forall_mem];intro v hv;simp[rowF] at hv;obtain⟨i,_,rfl⟩:=hv;rfl
def bytesL (n:Nat) (f:Nat→Int):List Value:=(List.range n).map fun i=>Value.int .u8 (f i)
theorem bytesL_length (n:Nat) (f:Nat→Int):(bytesL n f).length=n:=by simp[bytesL]
theorem bytesL_get (n:Nat) (f:Nat→Int) (j:Nat) (v:Value) (h:(bytesL n f)[j]?=some v):j<n∧v=.int .u8 (f j):=by
 have hj:j<n:=by
  have:=(List.getElem?_eq_some_iff.1 h).1;simpa[bytesL] using this
 refine⟨hj,?_⟩;simp[bytesL,hj] at h;exact h.symm
theorem bytesL_one (n:Nat) (f:Nat→Int):∀v∈bytesL n f,v.oneCell'=true:=by
 intro v hv;simp[bytesL] at hv;obtain⟨i,_,rfl⟩:=hv;rfl
theorem bytesL_congr (n:Nat) (f g:Nat→Int) (h:∀i,i<n→f i=g i):bytesL n f=bytesL n g:=by
 unfold bytesL;apply List.map_congr_left
 intro i hi;rw[h i (by simpa using hi)]
theorem bytesL_append (n m:Nat) (f g:Nat→Int):bytesL n f++bytesL m g=bytesL (n+m) (fun i=>if i<n then f i else g (i-n)):=by
 apply List.ext_getElem?
 intro i;by_cases h:i<n
 ·rw[List.getElem?_append_left (by rw[bytesL_length];exact h)];simp[bytesL,h,show i<n+m by omega]
 ·rw[List.getElem?_append_right (by rw[bytesL_length];omega),bytesL_length];by_cases h2:i<n+m
  ·simp[bytesL,h,h2,show i-n<m by omega]
  ·rw[List.getElem?_eq_none (by rw[bytesL_length];omega),List.getElem?_eq_none (by rw[bytesL_length];omega)]
theorem splice_row (m n:Nat) (f:Nat→Int) (h:n≤m):(splice (bytesL m (fun _=>0)) 0 (bytesL n f)).toArray=rowF m (fun i=>if i<n then f i else 0):=by
 unfold splice rowF;congr 1
 apply List.ext_getElem?
 intro i;simp only[List.take_zero,List.nil_append,Nat.zero_add,bytesL_length];by_cases hi:i<n
 ·rw[List.getElem?_append_left (by simpa[bytesL_length] using hi)];simp[bytesL,hi,show i<m by omega]
 ·rw[List.getElem?_append_right (by simp[bytesL_length];omega)];by_cases hm:i<m
  ·simp[bytesL,List.getElem?_drop,hi,show n+(i-n)=i by omega,hm]
  ·simp[bytesL,List.getElem?_drop,show n+(i-n)=i by omega,hm]
def ByteRow (w:World) (ao:Option Addr) (n cap:Nat) (bs:Nat→Int):Prop :=
 n≤cap∧(0<n→∃b off,ao=some ⟨b,off,none⟩∧b<w.heap.size∧∀i,i<n→w.cell? ⟨b,off+i,none⟩=some (.int .u8 (bs i)))
theorem ByteRow.below {w w':World}{ao:Option Addr}{n cap:Nat}{bs:Nat→Int}(h:ByteRow w ao n cap bs) (hb:Bl w w'):ByteRow w' ao n cap bs:=by
 refine⟨h.1,fun hp => ?_⟩;obtain⟨b,off,e,hlt,hc⟩:=h.2 hp;exact⟨b,off,e,Nat.lt_of_lt_of_le hlt hb.size,fun i hi=>(hb.cell (by exact hlt)).trans (hc i hi)⟩
theorem ByteRow.congr {w:World}{ao:Option Addr}{n cap:Nat}{bs cs:Nat→Int}(h:ByteRow w ao n cap bs) (e:∀i,i<n→bs i=cs i):ByteRow w ao n cap cs:=by
 refine⟨h.1,fun hp => ?_⟩;obtain⟨b,off,e1,hlt,hc⟩:=h.2 hp;exact⟨b,off,e1,hlt,fun i hi=>by rw[←e i hi];exact hc i hi⟩
theorem src_row {W:World}{ao:Option Addr}{n cap:Nat}{bs:Nat→Int}(h:ByteRow W ao n cap bs) {ad:Addr}(e:ao=some ad):∀j v,(bytesL n bs)[j]?=some v→W.cell? (ad.add j)=some v:=by
 intro j v hj;obtain⟨hj1,rfl⟩:=bytesL_get _ _ _ _ hj;obtain⟨b,off,e2,_,hc⟩:=h.2 (by omega);rw[e] at e2;cases e2
 rw[add_row];exact hc j hj1
theorem ByteRow.of_row {w:World}{g N off n cap:Nat}{f:Nat→Int}{ty:TypeId}(h:w.heap[g]?=some (.cells (rowF N f) ty (0,0))) (hn:off+n≤N) (hc:n≤cap):ByteRow w (some ⟨g,off,none⟩) n cap (fun i=>f (off+i)):=by
 refine⟨hc,fun hp=>⟨g,off,rfl,block_lt_of_cell ((cell_of_row w g off _ _ _ h).trans (rowF_get _ _ _ (by omega))),fun i hi=>(cell_of_row w g (off+i) _ _ _ h).trans (rowF_get _ _ _ (by omega))⟩⟩
theorem size5:(Tryz.prog.info? 5).map (·.size)=some 1:=by kernel_rfl
theorem copy_src {W:World}{ao:Option Addr}{n m cap:Nat}{bs:Nat→Int}(h:ByteRow W ao n cap bs) (hm:m≤n) (hp:0<(bytesL m bs).length):∃ad,ao=some ad∧∀j v,(bytesL m bs)[j]?=some v→W.cell? (ad.add j)=some v:=by
 rw[bytesL_length] at hp;obtain⟨b,off,rfl,hb,hc⟩:=h.2 (by omega);refine⟨_,rfl,fun j v hj => ?_⟩;obtain⟨hj1,rfl⟩:=bytesL_get _ _ _ _ hj;rw[add_row];exact hc j (by omega)
theorem info5:(Tryz.prog.info? 5).map (fun i=>(i.zero,i.size,i.bytes))=some (some (.int .u8 0),1,1):=by kernel_rfl
theorem owns_below {w w':World}{base e size n:Nat}{v:Value}{xs:List Value}(h:w.ownsRow base e size v n xs) (hb:Bl w w'):w'.ownsRow base e size v n xs:=by
 obtain⟨h1,h2⟩:=h;refine⟨h1,?_⟩;rcases h2 with h2 | ⟨g,cap,cur,hv,hg,hh,r⟩
 ·exact Or.inl h2
 ·exact Or.inr ⟨g,cap,cur,hv,hg,by rw[hb.block g (by
   rcases Nat.lt_or_ge g w.heap.size with h | h
   ·exact h
   ·rw[Array.getElem?_eq_none h] at hh;cases hh)];exact hh,r⟩
theorem owns_block {w:World}{base e size n:Nat}{v:Value}{xs:List Value}(h:w.ownsRow base e size v n xs):∀k,v.ownBlock=some k→base≤k:=by
 intro k hk;obtain⟨_,h2⟩:=h;rcases h2 with⟨rfl,_⟩ | ⟨g,cap,cur,rfl,hg,_⟩
 ·simp[Value.ownBlock] at hk
 ·simp[Value.ownBlock] at hk;omega
theorem owns_row {w:World}{base n:Nat}{v:Value}{f:Nat→Int}(h:w.ownsRow base 5 1 v n (bytesL n f)):∃ao cap,v=.slice ao n cap∧ByteRow w ao n cap f∧cap≤maxLen∧(ao=none→n=0∧cap=0)∧(∀ad,ao=some ad→base≤ad.block):=by
 have h':=h;obtain⟨_,h2⟩:=h;rcases h2 with⟨rfl,rfl⟩ | ⟨g,cap,cur,rfl,hg,hh,hn,hm,_,_⟩
 ·exact⟨none,0,rfl,⟨Nat.le_refl _,fun h=>absurd h (by omega)⟩,by unfold maxLen;omega,fun _=>⟨rfl,rfl⟩,fun ad e=>by cases e⟩
 ·refine⟨_,cap,rfl,⟨hn,fun hp=>⟨g,0,rfl,?_,fun i hi => ?_⟩⟩,hm,(fun e=>by cases e),(fun ad e=>by cases e;exact hg)⟩
  ·rcases Nat.lt_or_ge g w.heap.size with h | h
   ·exact h
   ·rw[Array.getElem?_eq_none h] at hh;cases hh
  ·rw[Nat.zero_add,h'.cellAt i (by omega)];simp[bytesL,hi]
theorem owns_empty (w:World):(w.alloc (.cells #[] 5)).ownsRow w.heap.size 5 1 (.slice (some ⟨w.heap.size,0,none⟩) 0 0) 0 [] :=
 ⟨rfl,Or.inr ⟨w.heap.size,0,#[],rfl,Nat.le_refl _,heap_alloc_last w _,Nat.le_refl _,by unfold maxLen;omega,rfl,rfl⟩⟩
theorem wpList_append_bytes {w:World}{ops:Array Oper}{rest:List Oper}{o:Oper}{a:Act}{Q:Exit→Act→World→Prop}(hgd:o.guard=none) (s x:Operand)
  (ho:o.op=.call { callee:=.builtin .append,args:=#[s,x],argTypes:=#[126,126] }) (base:Nat)
  (v:Value) (n:Nat) (xs:List Value) (hs:a.eval s=v) (hown:w.ownsRow base 5 1 v n xs)
  (ao:Option Addr) (m c:Nat) (bs:Nat→Int) (hx:a.eval x=.slice ao m c) (hr:ByteRow w ao m c bs) (hnil:ao=none→m=0∧c=0) (hb:n+m≤140737488355328) (hbase:base≤w.heap.size)
  (h:∀v' w',w'.ownsRow base 5 1 v' (n+m) (xs++bytesL m bs)→w.grownBy w' v.ownBlock→wpList Tryz.prog ops Q rest (a.put o.dst v') w'):wpList Tryz.prog ops Q (o :: rest) a w:=by
 obtain⟨i0,hi,hz0,hz1,hz2⟩:=info_parts info5;cases ao with
 | none =>
  obtain⟨rfl,rfl⟩:=hnil rfl;refine wpList_append_own_none hgd s x 126 ho base 5 i0 1 Tryz.underlying126 hi v n xs hs hown hx ?_;exact h v w (by simpa[bytesL] using hown) ⟨rfl,rfl,rfl,Nat.le_refl _,fun _ _ _=>rfl⟩
 | some ad =>
  refine wpList_append_own _ hgd s x 126 ho base 5 i0 (.int .u8 0) 1 1 Tryz.underlying126 hi hz0 hz1 hz2 rfl (by decide) v n xs hs hown ad m c (bytesL m bs) hx (by rw[bytesL_length];omega) (src_row hr rfl) (bytesL_one _ _) (by unfold maxLen;omega) (by omega) hbase ?_;intro v' w' h1 h2 _;exact h v' w' h1 h2
theorem grown_own {w w0 w':World}{v:Value}{base:Nat}{n:Nat}{xs:List Value}(hb:Below base w0 w) (hown:w.ownsRow base 5 1 v n xs) (hbase:base≤w.heap.size) (hg:w.grownBy w' v.ownBlock):Below base w0 w' :=
 hb.grown hg hbase (owns_block hown)
def strOf (n:Nat) (bs:Nat→Int):ByteArray:=((List.range n).map bs).foldl (fun r n=>r.push (UInt8.ofNat n.toNat)) ByteArray.empty
theorem run_str (w:World) (ao:Option Addr) (n cap:Nat) (bs:Nat→Int) (hr:ByteRow w ao n cap bs) (hn:NilOk ao n cap) :
  (convert 126 9 (.slice ao n cap)).run Tryz.prog w=.ok (.string (strOf n bs)) w:=by
 rw[run_convert_bytes_string w 126 9 5 _ _ _ Tryz.underlying126 Tryz.underlying5 Tryz.underlying9];cases ao with
 | none =>
  obtain⟨rfl,rfl⟩:=hn rfl;rfl
 | some ad =>
  unfold strOf;apply run_bytesToString
  have:=run_loadCells_list (P:=Tryz.prog) w ad (((List.range n).map bs).map (Value.int .u8)) (fun j v hj=>by
   have hjn:j<n:=by
    have:=(List.getElem?_eq_some_iff.1 hj).1;simpa using this
   obtain⟨b,off,e,_,hc⟩:=hr.2 (by omega);cases e
   rw[add_row,hc j hjn];simp[hjn] at hj;rw[←hj])
  simpa using this
theorem made_zeros (m:Nat):madeCells (Value.int .u8 0).cells m=rowF m (fun _=>0):=by
 apply Array.ext_getElem?
 intro i;by_cases h:i<m
 ·rw[rowF_get _ _ _ h];simp[madeCells,Value.cells,h,Nat.mod_one]
 ·rw[Array.getElem?_eq_none (by simp[madeCells];omega),Array.getElem?_eq_none (by rw[rowF_size];omega)]
def cat (L:Nat) (f g:Nat→Int) (i:Nat):Int:=if i<L then f i else g (i-L)
theorem bytesL_cat (n m:Nat) (f g:Nat→Int):bytesL n f++bytesL m g=bytesL (n+m) (cat n f g):=bytesL_append n m f g
end
end Go.Proofs.YtaneiffnhphkhaaGreatDoor
