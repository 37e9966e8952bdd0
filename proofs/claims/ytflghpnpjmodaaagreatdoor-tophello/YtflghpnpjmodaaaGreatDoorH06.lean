/- walks: Go's stable sort: symMerge, where the left part is one -/
import Derived.Test.YtflghpnpjmodaaaGreatDoorH01
import Derived.Test.YtflghpnpjmodaaaGreatDoorH05
set_option maxRecDepth 100000
set_option maxHeartbeats 40000000
namespace Go.Proofs.YtflghpnpjmodaaaGreatDoor
section
namespace Ec
open Pl (En)
def lt (a b:En):Prop:=a.port<b.port
instance (a b:En):Decidable (lt a b):=by unfold lt;infer_instance
theorem lt_irrefl (a:En):¬lt a a:=by unfold lt;omega
theorem lt_asymm {a b:En}(h:lt a b):¬lt b a:=by unfold lt at *;omega
theorem not_lt_trans {a b c:En}(h:¬lt b a) (k:¬lt c b):¬lt c a:=by unfold lt at *;omega
def listOf (n:Nat) (f:Nat→En):List En:=(List.range n).map f
def swp (f:Nat→En) (i j:Nat) (x:Nat):En:=if x=i then f j else if x=j then f i else f x
theorem swp_perm (f:Nat→En) (i j n:Nat) (hi:i<n) (hj:j<n):(listOf n (swp f i j)).Perm (listOf n f):=by
 have hs:(listOf n f).toArray.size=n:=(by simp[listOf])
 have h:=Array.swap_perm (xs:=(listOf n f).toArray) (i:=i) (j:=j) (by rw[hs];exact hi) (by rw[hs];exact hj);have h2:=Array.perm_iff_toList_perm.1 h;refine List.Perm.trans (List.Perm.of_eq ?_) h2;apply List.ext_getElem
 ·simp[listOf]
 ·intro x h3 h4;conv=>rhs;rw[Array.getElem_toList,Array.getElem_swap]
  simp only[listOf,List.getElem_toArray,List.getElem_map,List.getElem_range,swp]
inductive Pm (a b:Nat) (f:Nat→En):(Nat→En)→Prop
 | refl:Pm a b f f
 | swap {g:Nat→En}(i j:Nat) (hi:a≤i∧i<b) (hj:a≤j∧j<b) (h:Pm a b f g):Pm a b f (swp g i j)
theorem Pm.trans {a b:Nat}{f g h:Nat→En}(p:Pm a b f g) (q:Pm a b g h):Pm a b f h:=by
 induction q with
 | refl=>exact p
 | swap i j hi hj _ ih=>exact Pm.swap i j hi hj ih
theorem Pm.mono {a b c d:Nat}{f g:Nat→En}(p:Pm a b f g) (h1:c≤a) (h2:b≤d):Pm c d f g:=by
 induction p with
 | refl=>exact Pm.refl
 | swap i j hi hj _ ih=>exact Pm.swap i j ⟨by omega,by omega⟩ ⟨by omega,by omega⟩ ih
theorem Pm.out {a b:Nat}{f g:Nat→En}(p:Pm a b f g):∀x,x<a∨b≤x→g x=f x:=by
 induction p with
 | refl=>intro x _;rfl
 | swap i j hi hj _ ih =>
  intro x hx;unfold swp;rw[if_neg (by omega),if_neg (by omega)];exact ih x hx
theorem Pm.comes {a b:Nat}{f g:Nat→En}(p:Pm a b f g):∀x,a≤x→x<b→∃y,a≤y∧y<b∧g x=f y:=by
 induction p with
 | refl=>intro x h1 h2;exact⟨x,h1,h2,rfl⟩
 | swap i j hi hj _ ih =>
  intro x h1 h2;unfold swp;by_cases e:x=i
  ·rw[if_pos e];exact ih j hj.1 hj.2
  ·rw[if_neg e];by_cases e2:x=j
   ·rw[if_pos e2];exact ih i hi.1 hi.2
   ·rw[if_neg e2];exact ih x h1 h2
theorem Pm.perm {a b:Nat}{f g:Nat→En}(p:Pm a b f g) (n:Nat) (h:b≤n):(listOf n g).Perm (listOf n f):=by
 induction p with
 | refl=>exact List.Perm.refl _
 | swap i j hi hj _ ih=>exact(swp_perm _ i j n (by omega) (by omega)).trans ih
def SIn (a b:Nat) (f:Nat→En):Prop:=∀i j,a≤i→i<j→j<b→¬lt (f j) (f i)
theorem SIn.sub {a b c d:Nat}{f:Nat→En}(h:SIn a b f) (h1:a≤c) (h2:d≤b):SIn c d f:=fun i j hi hij hj=>h i j (by omega) hij (by omega)
theorem SIn.congr {a b:Nat}{f g:Nat→En}(h:SIn a b f) (e:∀x,a≤x→x<b→g x=f x):SIn a b g:=fun i j hi hij hj=>by
 rw[e i (by omega) (by omega),e j (by omega) (by omega)];exact h i j hi hij hj
theorem SIn.short {a b:Nat}(f:Nat→En) (h:b≤a+1):SIn a b f:=fun i j hi hij hj=>by omega
def Ins (a i j:Nat) (g:Nat→En):Prop:=(∀p q,a≤p→p<q→q≤i→p≠j→q≠j→¬lt (g q) (g p))∧∀q,j<q→q≤i→¬lt (g q) (g j)
theorem Ins.start {a i:Nat}{g:Nat→En}(h:SIn a i g):Ins a i i g:=⟨fun p q hp hpq hq _ hqi=>h p q hp hpq (by omega),fun q h1 h2=>by omega⟩
theorem Ins.step {a i j:Nat}{g:Nat→En}(h:Ins a i j g) (hj:a<j) (hi:j≤i) (hl:lt (g j) (g (j-1))):Ins a i (j-1) (swp g j (j-1)):=by
 obtain⟨h1,h2⟩:=h;have e1:swp g j (j-1) j=g (j-1):=if_pos rfl;have e2:swp g j (j-1) (j-1)=g j:=(by unfold swp;rw[if_neg (by omega),if_pos rfl])
 have e3:∀x,x≠j→x≠j-1→swp g j (j-1) x=g x:=fun x q1 q2=>by unfold swp;rw[if_neg q1,if_neg q2]
 refine⟨fun p q hp hpq hq np nq => ?_,fun q q1 q2 => ?_⟩
 ·by_cases c:q=j
  ·subst c;rw[e1,e3 p (by omega) np];exact h1 p (q-1) hp (by omega) (by omega) (by omega) (by omega)
  ·rw[e3 q c nq];by_cases c2:p=j
   ·subst c2;rw[e1];exact h1 (p-1) q (by omega) (by omega) hq (by omega) c
   ·rw[e3 p c2 np];exact h1 p q hp hpq hq c2 c
 ·rw[e2];by_cases c:q=j
  ·subst c;rw[e1];exact lt_asymm hl
  ·rw[e3 q c (by omega)];exact h2 q (by omega) q2
theorem Ins.done {a i j:Nat}{g:Nat→En}(h:Ins a i j g) (hj:a≤j) (hi:j≤i) (hl:a<j→¬lt (g j) (g (j-1))):SIn a (i+1) g:=by
 obtain⟨h1,h2⟩:=h;intro p q hp hpq hq;by_cases c:q=j
 ·subst c;have hq1:=hl (by omega);by_cases c2:p=q-1
  ·subst c2;exact hq1
  ·exact not_lt_trans (h1 p (q-1) hp (by omega) (by omega) (by omega) (by omega)) hq1
 ·by_cases c2:p=j
  ·subst c2;exact h2 q hpq (by omega)
  ·exact h1 p q hp hpq (by omega) c2 c
def shL (a k:Nat) (f:Nat→En) (x:Nat):En:=if a≤x∧x<k then f (x+1) else if x=k then f a else f x
theorem shL_start (a:Nat) (f:Nat→En):shL a a f=f:=by
 funext x
 unfold shL;rw[if_neg (by omega)];by_cases e:x=a
 ·rw[if_pos e,e]
 ·rw[if_neg e]
theorem shL_step (a k:Nat) (f:Nat→En) (h:a≤k):swp (shL a k f) k (k+1)=shL a (k+1) f:=by
 funext x
 unfold swp shL;by_cases e:x=k
 ·subst e;rw[if_pos rfl,if_neg (by omega),if_neg (by omega),if_pos (by omega)]
 ·rw[if_neg e];by_cases e2:x=k+1
  ·rw[if_pos e2,if_neg (by omega),if_pos rfl,if_neg (by omega),if_pos e2]
  ·rw[if_neg e2];by_cases e3:a≤x∧x<k
   ·rw[if_pos e3,if_pos (by omega)]
   ·rw[if_neg e3,if_neg e,if_neg (by omega),if_neg e2]
theorem shL_sorted (a i b:Nat) (f:Nat→En) (h:SIn (a+1) b f) (hi:a+1≤i) (hib:i≤b) (h1:∀x,a+1≤x→x<i→lt (f x) (f a)) (h2:∀x,i≤x→x<b→¬lt (f x) (f a)):SIn a b (shL a (i-1) f):=by
 intro p q hp hpq hq;unfold shL;by_cases c1:q<i-1
 ·rw[if_pos (by omega),if_pos (by omega)];exact h _ _ (by omega) (by omega) (by omega)
 ·rw[if_neg (by omega)];by_cases c2:q=i-1
  ·rw[if_pos c2,if_pos (by omega)];exact lt_asymm (h1 _ (by omega) (by omega))
  ·rw[if_neg c2];by_cases c3:p<i-1
   ·rw[if_pos (by omega)];exact h _ _ (by omega) (by omega) (by omega)
   ·rw[if_neg (by omega)];by_cases c4:p=i-1
    ·rw[if_pos c4];exact h2 q (by omega) hq
    ·rw[if_neg c4];exact h _ _ (by omega) (by omega) (by omega)
def shR (m k:Nat) (f:Nat→En) (x:Nat):En:=if k<x∧x≤m then f (x-1) else if x=k then f m else f x
theorem shR_start (m:Nat) (f:Nat→En):shR m m f=f:=by
 funext x
 unfold shR;rw[if_neg (by omega)];by_cases e:x=m
 ·rw[if_pos e,e]
 ·rw[if_neg e]
theorem shR_step (m k:Nat) (f:Nat→En) (h:k≤m) (h0:0<k):swp (shR m k f) k (k-1)=shR m (k-1) f:=by
 funext x
 unfold swp shR;by_cases e:x=k
 ·subst e;rw[if_pos rfl,if_neg (by omega),if_neg (by omega),if_pos (by omega)]
 ·rw[if_neg e];by_cases e2:x=k-1
  ·rw[if_pos e2,if_neg (by omega),if_pos rfl,if_neg (by omega),if_pos e2]
  ·rw[if_neg e2];by_cases e3:k<x∧x≤m
   ·rw[if_pos e3,if_pos (by omega)]
   ·rw[if_neg e3,if_neg e,if_neg (by omega),if_neg e2]
theorem shR_sorted (a i m:Nat) (f:Nat→En) (h:SIn a m f) (hi:a≤i) (him:i≤m) (h1:∀x,a≤x→x<i→¬lt (f m) (f x)) (h2:∀x,i≤x→x<m→lt (f m) (f x)):SIn a (m+1) (shR m i f):=by
 intro p q hp hpq hq;unfold shR;by_cases c1:p<i
 ·rw[if_neg (c:=i<p∧p≤m) (by omega),if_neg (c:=p=i) (by omega)];by_cases c2:q<i
  ·rw[if_neg (by omega),if_neg (by omega)];exact h _ _ hp hpq (by omega)
  ·by_cases c3:q=i
   ·rw[if_neg (by omega),if_pos c3];exact h1 p hp c1
   ·rw[if_pos (by omega)];exact h _ _ hp (by omega) (by omega)
 ·rw[if_pos (c:=i<q∧q≤m) (by omega)];by_cases c2:p=i
  ·rw[if_neg (by omega),if_pos c2];exact lt_asymm (h2 _ (by omega) (by omega))
  ·rw[if_pos (by omega)];exact h _ _ (by omega) (by omega) (by omega)
def swr (a b c:Nat) (f:Nat→En) (x:Nat):En:=if a≤x∧x<a+c then f (x-a+b) else if b≤x∧x<b+c then f (x-b+a) else f x
theorem swr_zero (a b:Nat) (f:Nat→En):swr a b 0 f=f:=by
 funext x;unfold swr;rw[if_neg (by omega),if_neg (by omega)]
theorem swr_step (a b c:Nat) (f:Nat→En) (h:a+(c+1)≤b):swp (swr a b c f) (a+c) (b+c)=swr a b (c+1) f:=by
 funext x
 unfold swp swr;by_cases e:x=a+c
 ·rw[if_pos e,if_neg (by omega),if_neg (by omega),if_pos (by omega)];congr 1;omega
 ·rw[if_neg e];by_cases e2:x=b+c
  ·rw[if_pos e2,if_neg (by omega),if_neg (by omega),if_neg (by omega),if_pos (by omega)];congr 1;omega
  ·rw[if_neg e2];by_cases e3:a≤x∧x<a+c
   ·rw[if_pos e3,if_pos (by omega)]
   ·rw[if_neg e3];by_cases e4:b≤x∧x<b+c
    ·rw[if_pos e4,if_neg (by omega),if_pos (by omega)]
    ·rw[if_neg e4,if_neg (by omega),if_neg (by omega)]
theorem swr_pm (a b:Nat) (f:Nat→En):∀c,a+c≤b→Pm a (b+c) f (swr a b c f)
 | 0,_=>by rw[swr_zero];exact Pm.refl
 | c+1,h=>by
  rw[←swr_step a b c f h];exact Pm.swap _ _ ⟨by omega,by omega⟩ ⟨by omega,by omega⟩ ((swr_pm a b f c (by omega)).mono (Nat.le_refl _) (by omega))
def rot (s m e:Nat) (f:Nat→En) (x:Nat):En:=if s≤x∧x<s+(e-m) then f (x-s+m) else if s+(e-m)≤x∧x<e then f (x-(e-m)) else f x
theorem rot_more (m i j:Nat) (g:Nat→En) (hi:i≤m) (hj:0<j) (h:j<i):rot (m-(i-j)) m (m+j) (swr (m-i) m j g)=rot (m-i) m (m+j) g:=by
 funext x
 unfold rot swr;repeat' split
 all_goals first | rfl | omega | (congr 1;omega)
theorem rot_less (m i j:Nat) (g:Nat→En) (hi:i≤m) (h0:0<i) (h:i<j):rot (m-i) m (m+(j-i)) (swr (m-i) (m+j-i) i g)=rot (m-i) m (m+j) g:=by
 funext x
 unfold rot swr;repeat' split
 all_goals first | rfl | omega | (congr 1;omega)
theorem rot_same (m i:Nat) (g:Nat→En) (hi:i≤m):swr (m-i) m i g=rot (m-i) m (m+i) g:=by
 funext x
 unfold rot swr;repeat' split
 all_goals first | rfl | omega | (congr 1;omega)
theorem rot_none1 (m e:Nat) (f:Nat→En) (h:m≤e):rot m m e f=f:=by
 funext x
 unfold rot;repeat' split
 all_goals first | rfl | omega | (congr 1;omega)
theorem rot_none2 (s m:Nat) (f:Nat→En):rot s m m f=f:=by
 funext x
 unfold rot;repeat' split
 all_goals first | rfl | omega | (congr 1;omega)
theorem rot_parts (a s m e b:Nat) (f:Nat→En) (h0:a≤s) (h1:s≤m) (h2:m≤e) (h3:e≤b) (ha:SIn a m f) (hb:SIn m b f) (hx:a<s→e<b→¬lt (f e) (f (s-1))) (hy:s<m→m<e→lt (f (e-1)) (f s)) :
  SIn a s (rot s m e f)∧SIn s (s+(e-m)) (rot s m e f)∧SIn (s+(e-m)) e (rot s m e f)∧SIn e b (rot s m e f)∧∀x y,a≤x→x<s+(e-m)→s+(e-m)≤y→y<b→¬lt (rot s m e f y) (rot s m e f x):=by
 have e1:∀x,x<s→rot s m e f x=f x:=fun x h=>by unfold rot;rw[if_neg (by omega),if_neg (by omega)]
 have e2:∀x,s≤x→x<s+(e-m)→rot s m e f x=f (x-s+m):=fun x h k=>by unfold rot;rw[if_pos ⟨h,k⟩]
 have e3:∀x,s+(e-m)≤x→x<e→rot s m e f x=f (x-(e-m)):=fun x h k=>by unfold rot;rw[if_neg (by omega),if_pos ⟨h,k⟩]
 have e4:∀x,e≤x→rot s m e f x=f x:=fun x h=>by unfold rot;rw[if_neg (by omega),if_neg (by omega)]
 refine⟨fun i j hi hij hj => ?_,fun i j hi hij hj => ?_,fun i j hi hij hj => ?_,fun i j hi hij hj => ?_,fun x y q1 q2 q3 q4 => ?_⟩
 ·rw[e1 i (by omega),e1 j hj];exact ha i j hi hij (by omega)
 ·rw[e2 i hi (by omega),e2 j (by omega) hj];exact hb _ _ (by omega) (by omega) (by omega)
 ·rw[e3 i hi (by omega),e3 j (by omega) hj];exact ha _ _ (by omega) (by omega) (by omega)
 ·rw[e4 i hi,e4 j (by omega)];exact hb i j (by omega) hij hj
 ·by_cases c1:x<s
  ·rw[e1 x c1];by_cases c2:y<e
   ·rw[e3 y q3 c2];exact ha _ _ q1 (by omega) (by omega)
   ·rw[e4 y (by omega)];have hz:=hx (by omega) (by omega);have u1:¬lt (f (s-1)) (f x):=by
     by_cases c:x=s-1
     ·subst c;exact lt_irrefl _
     ·exact ha _ _ q1 (by omega) (by omega)
    have u2:¬lt (f y) (f e):=by
     by_cases c:y=e
     ·subst c;exact lt_irrefl _
     ·exact hb _ _ (by omega) (by omega) q4
    exact not_lt_trans u1 (not_lt_trans hz u2)
  ·rw[e2 x (by omega) q2];by_cases c2:y<e
   ·rw[e3 y q3 c2];have hz:=hy (by omega) (by omega);have u1:¬lt (f (e-1)) (f (x-s+m)):=by
     by_cases c:x-s+m=e-1
     ·rw[c];exact lt_irrefl _
     ·exact hb _ _ (by omega) (by omega) (by omega)
    have u2:¬lt (f (y-(e-m))) (f s):=by
     by_cases c:y-(e-m)=s
     ·rw[c];exact lt_irrefl _
     ·exact ha _ _ (by omega) (by omega) (by omega)
    exact not_lt_trans u1 (not_lt_trans (lt_asymm hz) u2)
   ·rw[e4 y (by omega)];exact hb _ _ (by omega) (by omega) q4
theorem halves (a d b:Nat) (f g h:Nat→En) (p1:Pm a d f g) (p2:Pm d b g h) (s1:SIn a d g) (s2:SIn d b h) (hc:∀x y,a≤x→x<d→d≤y→y<b→¬lt (f y) (f x)):SIn a b h:=by
 intro i j hi hij hj;by_cases c1:j<d
 ·rw[p2.out i (by omega),p2.out j (by omega)];exact s1 i j hi hij c1
 ·by_cases c2:d≤i
  ·exact s2 i j c2 hij hj
  ·obtain⟨y,y1,y2,ey⟩:=p2.comes j (by omega) hj;obtain⟨x,x1,x2,ex⟩:=p1.comes i hi (by omega);rw[ey,p1.out y (by omega),p2.out i (by omega),ex];exact hc x y x1 x2 y1 y2
end Ec
end
section
open Go.RowKit
open Pl (En)
namespace Ec
def cmp (a b:En):Int:=sg a.port b.port
theorem cmp_lt {a b:En}:cmp a b<0↔lt a b:=by
 unfold cmp sg lt;by_cases h1:a.port<b.port
 ·simp[h1]
 ·by_cases h2:b.port<a.port<;>simp[h1,h2]
end Ec
namespace Es
theorem ecmp_any (x y:En) (W:World):Calls Tryz.prog 72 #[.agg #[.int .i64 x.port,.int .i64 x.cost,.int .i64 x.other,.int .i64 x.oport,.bool x.live],.agg #[.int .i64 y.port,.int .i64 y.cost,.int .i64 y.other,.int .i64 y.oport,.bool y.live]] W fun e w'=>e=.returned (.int .i64 (Ec.cmp x y))∧Bl W w':=by
 have hcon:=fun W'=>ccmpi_any x.port y.port W';unfold Ec.cmp;generalize sg x.port y.port=r at hcon ⊢;go_enter Tryz.func72,Tryz.ntmps72;go_wp2_with (go_at_call 73;refine(hcon _).mono ?_;rintro e w' ⟨rfl,rfl⟩)
 go_ret;exact⟨rfl,bA2 _ _ _⟩
def rowE (sp:Array Value) (n:Nat) (f:Nat→En):Array Value:=rowC n 5 (fun i=>enC (f i))++sp
theorem rowE_get (sp:Array Value) (n:Nat) (f:Nat→En) (k j:Nat) (hk:k<n) (hj:j<5):(rowE sp n f)[k*5+j]?=some (enC (f k) j):=by
 have h:=mul_add_lt hk hj;unfold rowE;rw[Array.getElem?_append_left (by rw[rowC_size];exact h)];exact rowC_get _ hk hj
theorem rowE_put1 (sp:Array Value) (n:Nat) (c:Nat→Nat→Value) (k j:Nat) (v:Value) (hk:k<n) (hj:j<5):(rowC n 5 c++sp).setIfInBounds (k*5+j) v=rowC n 5 (updC c k j v)++sp:=by
 have h:=mul_add_lt hk hj;rw[←rowC_put c hk hj];apply Array.ext_getElem?
 intro x;have s1:=rowC_size n 5 c;rw[Array.getElem?_setIfInBounds];by_cases hx:x<n*5
 ·rw[Array.getElem?_append_left (by rw[s1];exact hx),Array.getElem?_append_left (by rw[Array.size_setIfInBounds,s1];exact hx),Array.getElem?_setIfInBounds];by_cases q:k*5+j=x
  ·rw[if_pos q,if_pos q,if_pos (by rw[Array.size_append,s1];omega),if_pos (by rw[s1];omega)]
  ·rw[if_neg q,if_neg q]
 ·rw[if_neg (by omega),Array.getElem?_append_right (by rw[s1];omega),Array.getElem?_append_right (by rw[Array.size_setIfInBounds,s1];omega),Array.size_setIfInBounds]
theorem rowE_congr (sp:Array Value) (n:Nat) (f g:Nat→En) (h:∀i,i<n→f i=g i):rowE sp n f=rowE sp n g:=by
 unfold rowE;rw[rowC_congr (d:=fun i=>enC (g i)) (fun i hi=>by rw[h i hi])]
section
variable {sp:Array Value}{w:World}{g n:Nat}{f:Nat→En}{ty:TypeId}
theorem rowE_cells (h:w.heap[g]?=some (.cells (rowE sp n f) ty (0,0))) {k:Nat}(hk:k<n) :
  w.cell? ⟨g,k*5,none⟩=some (.int .i64 (f k).port)∧w.cell? ⟨g,k*5+1,none⟩=some (.int .i64 (f k).cost)∧w.cell? ⟨g,k*5+2,none⟩=some (.int .i64 (f k).other)∧w.cell? ⟨g,k*5+3,none⟩=some (.int .i64 (f k).oport)∧w.cell? ⟨g,k*5+4,none⟩=some (.bool (f k).live):=by
 have H:∀j,j<5→w.cell? ⟨g,k*5+j,none⟩=some (enC (f k) j):=fun j hj=>(cell_of_row w g _ _ _ _ h).trans (rowE_get sp n f k j hk hj);exact⟨H 0 (by omega),H 1 (by omega),H 2 (by omega),H 3 (by omega),H 4 (by omega)⟩
theorem rowE_free (h:w.heap[g]?=some (.cells (rowE sp n f) ty (0,0))) (k:Nat) :
  w.frozen? ⟨g,k*5,none⟩=false∧w.frozen? ⟨g,k*5+1,none⟩=false∧w.frozen? ⟨g,k*5+2,none⟩=false∧w.frozen? ⟨g,k*5+3,none⟩=false∧w.frozen? ⟨g,k*5+4,none⟩=false :=
 ⟨frozen_of_row _ _ _ _ _ h,frozen_of_row _ _ _ _ _ h,frozen_of_row _ _ _ _ _ h,frozen_of_row _ _ _ _ _ h,frozen_of_row _ _ _ _ _ h⟩
theorem rowE_set (h:w.heap[g]?=some (.cells (rowE sp n f) ty (0,0))) {k:Nat}(hk:k<n) (v:En) :
  (((((w.setCell ⟨g,k*5,none⟩ (.int .i64 v.port)).setCell ⟨g,k*5+1,none⟩ (.int .i64 v.cost)).setCell ⟨g,k*5+2,none⟩ (.int .i64 v.other)).setCell ⟨g,k*5+3,none⟩ (.int .i64 v.oport)).setCell ⟨g,k*5+4,none⟩ (.bool v.live)).heap[g]?=some (.cells (rowE sp n (fun i=>if i=k then v else f i)) ty (0,0)):=by
 rw[heap_setCell_same _ _ _ _ _ _ (heap_setCell_same _ _ _ _ _ _ (heap_setCell_same _ _ _ _ _ _ (heap_setCell_same _ _ _ _ _ _ (heap_setCell_same _ _ _ _ _ _ h))))];have e0:=rowE_put1 sp n (fun i=>enC (f i)) k 0 (.int .i64 v.port) hk (by omega);rw[Nat.add_zero] at e0;unfold rowE;rw[e0,rowE_put1 sp n _ k 1 _ hk (by omega),rowE_put1 sp n _ k 2 _ hk (by omega),rowE_put1 sp n _ k 3 _ hk (by omega),rowE_put1 sp n _ k 4 _ hk (by omega)];rw[rC2 (d:=fun i=>enC (if i=k then v else f i)) (fun i _ m hm => ?_)];unfold updC;by_cases q:i=k
 ·subst q;rcases(by omega:m=0∨m=1∨m=2∨m=3∨m=4) with e | e | e | e | e<;>subst e<;>simp[enC]
 ·simp[q]
theorem rowE_swap (h:w.heap[g]?=some (.cells (rowE sp n f) ty (0,0))) {i j:Nat}(hi:i<n) (hj:j<n) (hne:i≠j) :
  ((((((((((w.setCell ⟨g,i*5,none⟩ (.int .i64 (f j).port)).setCell ⟨g,i*5+1,none⟩ (.int .i64 (f j).cost)).setCell ⟨g,i*5+2,none⟩ (.int .i64 (f j).other)).setCell ⟨g,i*5+3,none⟩ (.int .i64 (f j).oport)).setCell ⟨g,i*5+4,none⟩ (.bool (f j).live)).setCell ⟨g,j*5,none⟩ (.int .i64 (f i).port)).setCell ⟨g,j*5+1,none⟩ (.int .i64 (f i).cost)).setCell ⟨g,j*5+2,none⟩ (.int .i64 (f i).other)).setCell ⟨g,j*5+3,none⟩ (.int .i64 (f i).oport)).setCell ⟨g,j*5+4,none⟩ (.bool (f i).live)).heap[g]?=some (.cells (rowE sp n (Ec.swp f i j)) ty (0,0)):=by
 rw[rowE_set (rowE_set h hi (f j)) hj (f i)];congr 2
 apply rowE_congr
 intro x _;unfold Ec.swp;by_cases e:x=j
 ·rw[if_pos e];by_cases e2:x=i
  ·omega
  ·rw[if_neg e2,if_pos e]
 ·rw[if_neg e,if_neg e]
def But (g:Nat) (u w:World):Prop:=u.grownBy w (some g)
theorem But.refl (g:Nat) (w:World):But g w w:=⟨rfl,rfl,rfl,Nat.le_refl _,fun _ _ _=>rfl⟩
theorem But.trans {g:Nat}{a b c:World}(h:But g a b) (k:But g b c):But g a c :=
 ⟨k.os.trans h.os,k.tape.trans h.tape,k.output.trans h.output,Nat.le_trans h.size k.size,fun q hq hne=>(k.block q (Nat.lt_of_lt_of_le hq h.size) hne).trans (h.block q hq hne)⟩
theorem But.low {g:Nat}{a b c:World}(h:But g a b) (k:Bl b c):But g a c :=
 h.trans ⟨k.os,k.tape,k.output,k.size,fun q hq _=>k.block q hq⟩
theorem But.drewN {g:Nat}{a b:World}(h:But g a b) (m:Nat):But g a (b.drewN m):=h.low (below_drewN (Below.refl _ _) m)
theorem But.drew {g:Nat}{a b:World}(h:But g a b):But g a b.drew:=h.low (Below.drew (Below.refl _ _))
theorem But.setCell {g:Nat}{a b:World}(h:But g a b) (o:Nat) (v:Value):But g a (b.setCell ⟨g,o,none⟩ v) :=
 h.trans ⟨by first | rfl | simp,by first | rfl | simp,by first | rfl | simp,by first | exact Nat.le_refl _ | simp,fun q _ hne=>heap_setCell_other _ _ _ _ (by intro e;exact hne (by rw[e]))⟩
theorem but_set5 {u w:World}(h:But g u w) {o1 o2 o3 o4 o5:Nat}{v1 v2 v3 v4 v5:Value} :
  But g u (((((w.setCell ⟨g,o1,none⟩ v1).setCell ⟨g,o2,none⟩ v2).setCell ⟨g,o3,none⟩ v3).setCell ⟨g,o4,none⟩ v4).setCell ⟨g,o5,none⟩ v5) :=
 ((((h.setCell _ _).setCell _ _).setCell _ _).setCell _ _).setCell _ _
theorem swap_fin {u:World}(h:w.heap[g]?=some (.cells (rowE sp n f) ty (0,0))) (hb:But g u w) (_:g≤g) {i j:Nat}(hi:i<n) (hj:j<n) (hne:i≠j) {F:Nat→En}(e:Ec.swp f i j=F) :
  ((((((((((w.setCell ⟨g,i*5,none⟩ (.int .i64 (f j).port)).setCell ⟨g,i*5+1,none⟩ (.int .i64 (f j).cost)).setCell ⟨g,i*5+2,none⟩ (.int .i64 (f j).other)).setCell ⟨g,i*5+3,none⟩ (.int .i64 (f j).oport)).setCell ⟨g,i*5+4,none⟩ (.bool (f j).live)).setCell ⟨g,j*5,none⟩ (.int .i64 (f i).port)).setCell ⟨g,j*5+1,none⟩ (.int .i64 (f i).cost)).setCell ⟨g,j*5+2,none⟩ (.int .i64 (f i).other)).setCell ⟨g,j*5+3,none⟩ (.int .i64 (f i).oport)).setCell ⟨g,j*5+4,none⟩ (.bool (f i).live)).drew.heap[g]?=some (.cells (rowE sp n F) ty (0,0)) ∧
   But g u ((((((((((w.setCell ⟨g,i*5,none⟩ (.int .i64 (f j).port)).setCell ⟨g,i*5+1,none⟩ (.int .i64 (f j).cost)).setCell ⟨g,i*5+2,none⟩ (.int .i64 (f j).other)).setCell ⟨g,i*5+3,none⟩ (.int .i64 (f j).oport)).setCell ⟨g,i*5+4,none⟩ (.bool (f j).live)).setCell ⟨g,j*5,none⟩ (.int .i64 (f i).port)).setCell ⟨g,j*5+1,none⟩ (.int .i64 (f i).cost)).setCell ⟨g,j*5+2,none⟩ (.int .i64 (f i).other)).setCell ⟨g,j*5+3,none⟩ (.int .i64 (f i).oport)).setCell ⟨g,j*5+4,none⟩ (.bool (f i).live)).drew:=by
 subst e;exact⟨drew_row (rowE_swap h hi hj hne),(but_set5 (but_set5 hb)).drew⟩
end
end Es
namespace Es
theorem cmp_say (x y:En) (X W:World) (hW:Bl X W) :
  Calls Tryz.prog 72 #[.agg #[.int .i64 x.port,.int .i64 x.cost,.int .i64 x.other,.int .i64 x.oport,.bool x.live],.agg #[.int .i64 y.port,.int .i64 y.cost,.int .i64 y.other,.int .i64 y.oport,.bool y.live]] W fun e w'=>e=.returned (.int .i64 (Ec.cmp x y))∧Hid (Bl X w') :=
 (ecmp_any x y W).mono (fun _ _ h=>⟨h.1,hW.trans (h.2.mono hW.size)⟩)
theorem sinsertion_any (sp:Array Value) (g n cap a b:Nat) (f:Nat→En) (w:World) (hA:w.heap[g]?=some (.cells (rowE sp n f) 153)) (hn:n≤4398046511104) (ha:a≤n) (hb:b≤n) :
  Calls Tryz.prog 161 #[.slice (some ⟨g,0,none⟩) n cap,.int .i64 a,.int .i64 b,.func (.func 72) #[] #[]] w fun x w'=>x=.returned (.tuple #[])∧∃G,w'.heap[g]?=some (.cells (rowE sp n G) 153)∧Ec.Pm a b f G∧Ec.SIn a b G∧But g w w':=by
 have HA:Hid (w.heap[g]?=some (.cells (rowE sp n f) 153)):=hA;clear hA;go_enter Tryz.func161,Tryz.ntmps161;(go_wp2_with fail);go_loopw [8] (fun vi wr=>∃i:Nat,a+1≤i∧(i≤b∨i=a+1)∧vi=.int .i64 i∧Hid (∃G,wr.heap[g]?=some (.cells (rowE sp n G) 153)∧Ec.Pm a b f G∧Ec.SIn a i G∧But g w wr)) (fun i _=>b-(intOf i).toNat)
 case atStart=>exact⟨a+1,by omega,Or.inr rfl,by go_num,f,HA.out,Ec.Pm.refl,Ec.SIn.short f (by omega),But.refl _ _⟩
 case round =>
  obtain⟨i,li,ui,rfl,hX⟩:=hrel;have HX:Hid (∃G,wr.heap[g]?=some (.cells (rowE sp n G) 153)∧Ec.Pm a b f G∧Ec.SIn a i G∧But g w wr):=hX;clear hX HA;by_cases hlt:i<b
  ·have hlt2:(i:Int)<(b:Int):=(by omega)
   (go_wp2_with fail);go_loopw [9] (fun vj wi=>∃j:Nat,a≤j∧j≤i∧vj=.int .i64 j∧Hid (∃G,wi.heap[g]?=some (.cells (rowE sp n G) 153)∧Ec.Pm a b f G∧Ec.Ins a i j G∧But g w wi)) (fun j _=>(intOf j).toNat)
   case atStart =>
    obtain⟨G,h1,h2,h3,h4⟩:=HX.out;exact⟨i,by omega,by omega,rfl,G,h1,h2,Ec.Ins.start h3,h4⟩
   case round =>
    obtain⟨j,lj,uj,rfl,hY⟩:=hrel;obtain⟨G,hG,hP,hI,hB⟩:=hY.out;have HG:Hid (wr.heap[g]?=some (.cells (rowE sp n G) 153)):=hG;have HP:Hid (Ec.Pm a b f G):=hP;have HI:Hid (Ec.Ins a i j G):=hI;have HB:Hid (But g w wr):=hB;clear hY hG hP hI hB HX;by_cases hj:a<j
    ·obtain⟨p,hp⟩:∃p,p=j-1:=⟨_,rfl⟩
     have wp:IntKind.i64.wrap ((j:Int)-1)=(p:Int):=(by rw[wraps_i64 _ (by omega) (by omega)];omega)
     have hj2:(a:Int)<(j:Int):=(by omega)
     have ip:(0:Int)≤(p:Int):=(by omega)
     have ij:(0:Int)≤(j:Int):=(by omega)
     have np:(p:Int)<(n:Int):=(by omega)
     have nj:(j:Int)<(n:Int):=(by omega)
     have HCC:Hid (∀W,Bl wr W→(W.cell? ⟨g,j*5,none⟩=some (.int .i64 (G j).port)∧W.cell? ⟨g,j*5+1,none⟩=some (.int .i64 (G j).cost)∧W.cell? ⟨g,j*5+2,none⟩=some (.int .i64 (G j).other)∧W.cell? ⟨g,j*5+3,none⟩=some (.int .i64 (G j).oport)∧W.cell? ⟨g,j*5+4,none⟩=some (.bool (G j).live))∧W.cell? ⟨g,p*5,none⟩=some (.int .i64 (G p).port)∧W.cell? ⟨g,p*5+1,none⟩=some (.int .i64 (G p).cost)∧W.cell? ⟨g,p*5+2,none⟩=some (.int .i64 (G p).other)∧W.cell? ⟨g,p*5+3,none⟩=some (.int .i64 (G p).oport)∧W.cell? ⟨g,p*5+4,none⟩=some (.bool (G p).live)):=fun W hW=>⟨rowE_cells (keep HG.out hW) (show j<n by omega),rowE_cells (keep HG.out hW) (show p<n by omega)⟩
     have HFR:Hid (∀W,Bl wr W→(W.frozen? ⟨g,j*5,none⟩=false∧W.frozen? ⟨g,j*5+1,none⟩=false∧W.frozen? ⟨g,j*5+2,none⟩=false∧W.frozen? ⟨g,j*5+3,none⟩=false∧W.frozen? ⟨g,j*5+4,none⟩=false)∧W.frozen? ⟨g,p*5,none⟩=false∧W.frozen? ⟨g,p*5+1,none⟩=false∧W.frozen? ⟨g,p*5+2,none⟩=false∧W.frozen? ⟨g,p*5+3,none⟩=false∧W.frozen? ⟨g,p*5+4,none⟩=false):=fun W hW=>⟨rowE_free (keep HG.out hW) j,rowE_free (keep HG.out hW) p⟩
     have HW0:Hid (Bl wr wr):=Below.refl _ _;have HCM:Hid (∀W,Bl wr W→Calls Tryz.prog 72 #[.agg #[.int .i64 (G j).port,.int .i64 (G j).cost,.int .i64 (G j).other,.int .i64 (G j).oport,.bool (G j).live],.agg #[.int .i64 (G p).port,.int .i64 (G p).cost,.int .i64 (G p).other,.int .i64 (G p).oport,.bool (G p).live]] W fun e w'=>e=.returned (.int .i64 (Ec.cmp (G j) (G p)))∧Hid (Bl wr w')):=fun W hW=>cmp_say (G j) (G p) wr W hW;have HSW:Hid (∀W,Bl wr W→_):=fun W hW=>swap_fin (F:=Ec.swp G j p) (keep HG.out hW) (HB.out.low hW) (Nat.le_refl _) (show j<n by omega) (show p<n by omega) (show j≠p by omega) rfl;have HLO:Hid (∀W,Bl wr W→W.heap[g]?=some (.cells (rowE sp n G) 153)∧But g w W):=fun W hW=>⟨keep HG.out hW,HB.out.low hW⟩
     have HYES:Hid (Ec.cmp (G j) (G p)<0→Ec.Pm a b f (Ec.swp G j p)∧Ec.Ins a i p (Ec.swp G j p)):=fun h=>⟨Ec.Pm.swap j p ⟨by omega,by omega⟩ ⟨by omega,by omega⟩ HP.out,by
      subst hp;exact HI.out.step hj uj (Ec.cmp_lt.1 h)⟩
     have HNO:Hid (¬Ec.cmp (G j) (G p)<0→Ec.SIn a (i+1) G):=fun h=>HI.out.done lj uj (fun _ q=>h (Ec.cmp_lt.2 (by subst hp;exact q)));obtain⟨⟨c0,c1,c2,c3,c4⟩,d0,d1,d2,d3,d4⟩:=HCC.out wr HW0.out;have hpj:p<j:=(by omega)
     have hap:a≤p:=(by omega)
     clear hp HI HG HB;obtain⟨CV,hCV⟩:∃CV,Ec.cmp (G j) (G p)=CV:=⟨_,rfl⟩
     rw[hCV] at HCM HYES HNO;clear hCV;obtain⟨x,hx⟩:∃x,G j=x:=⟨_,rfl⟩
     obtain⟨y,hy⟩:∃y,G p=y:=⟨_,rfl⟩
     rw[hx,hy] at HCC HCM HSW;rw[hx] at c0 c1 c2 c3 c4;rw[hy] at d0 d1 d2 d3 d4;clear hx hy;(go_wp2_with fail);go_region_held3 (fun W=>(W.cell? ⟨g,j*5,none⟩=some (.int .i64 x.port)∧W.cell? ⟨g,j*5+1,none⟩=some (.int .i64 x.cost)∧W.cell? ⟨g,j*5+2,none⟩=some (.int .i64 x.other)∧W.cell? ⟨g,j*5+3,none⟩=some (.int .i64 x.oport)∧W.cell? ⟨g,j*5+4,none⟩=some (.bool x.live))∧W.cell? ⟨g,p*5,none⟩=some (.int .i64 y.port)∧W.cell? ⟨g,p*5+1,none⟩=some (.int .i64 y.cost)∧W.cell? ⟨g,p*5+2,none⟩=some (.int .i64 y.other)∧W.cell? ⟨g,p*5+3,none⟩=some (.int .i64 y.oport)∧W.cell? ⟨g,p*5+4,none⟩=some (.bool y.live))
      (first | (exact HCC.out _ (Below.drew HW0.out)) | (exact HCC.out _ (Hid.out (by assumption))))
      (first | (go_at_call 72;refine(HCM.out _ (Below.drew HW0.out)).mono ?_;rintro e w3 ⟨rfl,HB3⟩))
     clear c0 c1 c2 c3 c4 d0 d1 d2 d3 d4;by_cases hc:CV<0
     ·obtain⟨k1,k2⟩:=HYES.out hc;have HFN:Hid (_∧_):=HSW.out w3 HB3.out;have HPI:Hid (Ec.Pm a b f (Ec.swp G j p)∧Ec.Ins a i p (Ec.swp G j p)):=⟨k1,k2⟩
      obtain⟨⟨c0,c1,c2,c3,c4⟩,d0,d1,d2,d3,d4⟩:=HCC.out w3 HB3.out;obtain⟨⟨e0,e1,e2,e3,e4⟩,f0,f1,f2,f3,f4⟩:=HFR.out w3 HB3.out;have hne:j*5≠p*5:=(by omega)
      clear HSW HCC HCM HFR HYES HNO HLO k1 k2 HW0 HB3;(go_wp2_with fail);go_region
      (all_goals go_wp2_with fail);all_goals exact⟨⟨p,hap,by omega,rfl,Ec.swp G j p,HFN.out.1,HPI.out.1,HPI.out.2,HFN.out.2⟩,by simp[intOf];omega⟩
     ·have HOUT:Hid (∃G,w3.heap[g]?=some (.cells (rowE sp n G) 153)∧Ec.Pm a b f G∧Ec.SIn a (i+1) G∧But g w w3):=⟨G,(HLO.out w3 HB3.out).1,HP.out,HNO.out (by omega),(HLO.out w3 HB3.out).2⟩
      have hc2:decide (CV<0)=false:=decide_eq_false hc;clear HSW HCC HCM HFR HYES HNO HLO HW0 HB3;(go_wp2_with fail);exact⟨⟨i+1,by omega,by omega,by go_num,HOUT⟩,by simp[intOf];omega⟩
    ·have hja:j=a:=(by omega)
     have HOUT:Hid (∀m,∃G,(wr.drewN m).heap[g]?=some (.cells (rowE sp n G) 153)∧Ec.Pm a b f G∧Ec.SIn a (i+1) G∧But g w (wr.drewN m)):=fun m=>⟨G,HG.out,HP.out,HI.out.done lj uj (fun q=>by omega),HB.out.drewN m⟩
     have hd:decide ((a:Int)<(j:Int))=false:=decide_eq_false (by omega);clear HG HP HI HB hja;(go_wp2_with fail);(go_quiet (fail));(go_wp2_with fail);exact⟨⟨i+1,by omega,by omega,by go_num,HOUT.out _⟩,by simp[intOf];omega⟩
  ·have HF:Hid (∃G,wr.heap[g]?=some (.cells (rowE sp n G) 153)∧Ec.Pm a b f G∧Ec.SIn a b G∧But g w wr):=by
    obtain⟨G,h1,h2,h3,h4⟩:=HX.out;exact⟨G,h1,h2,h3.sub (Nat.le_refl _) (by omega),h4⟩
   clear HX;(go_wp2_with fail);exact bodyPost_end (results_none Tryz.results161 _ _ _) rfl ⟨rfl,HF.out⟩
end Es
namespace Es
theorem lt_of_le_lt {x y z:En}(h:¬Ec.lt y x) (k:Ec.lt y z):Ec.lt x z:=by unfold Ec.lt at *;omega
theorem lt_of_lt_le {x y z:En}(h:Ec.lt x y) (k:¬Ec.lt z y):Ec.lt x z:=by unfold Ec.lt at *;omega
theorem two_cells {sp:Array Value}{X:World}{g n:Nat}{G:Nat→En}{ty:TypeId}(hG:X.heap[g]?=some (.cells (rowE sp n G) ty (0,0))) {i j:Nat}(hi:i<n) (hj:j<n) (W:World) (hW:Bl X W) :
  (W.cell? ⟨g,i*5,none⟩=some (.int .i64 (G i).port)∧W.cell? ⟨g,i*5+1,none⟩=some (.int .i64 (G i).cost)∧W.cell? ⟨g,i*5+2,none⟩=some (.int .i64 (G i).other)∧W.cell? ⟨g,i*5+3,none⟩=some (.int .i64 (G i).oport)∧W.cell? ⟨g,i*5+4,none⟩=some (.bool (G i).live))∧W.cell? ⟨g,j*5,none⟩=some (.int .i64 (G j).port)∧W.cell? ⟨g,j*5+1,none⟩=some (.int .i64 (G j).cost)∧W.cell? ⟨g,j*5+2,none⟩=some (.int .i64 (G j).other)∧W.cell? ⟨g,j*5+3,none⟩=some (.int .i64 (G j).oport)∧W.cell? ⟨g,j*5+4,none⟩=some (.bool (G j).live) :=
 ⟨rowE_cells (keep hG hW) hi,rowE_cells (keep hG hW) hj⟩
theorem row_stay {sp:Array Value}{X w:World}{g n:Nat}{G:Nat→En}{ty:TypeId}(hG:X.heap[g]?=some (.cells (rowE sp n G) ty (0,0))) (hB:But g w X) (W:World) (hW:Bl X W):W.heap[g]?=some (.cells (rowE sp n G) ty (0,0))∧But g w W :=
 ⟨keep hG hW,hB.low hW⟩
theorem smergeA (sp:Array Value) (g n cap a m b:Nat) (f:Nat→En) (w:World) (hA:w.heap[g]?=some (.cells (rowE sp n f) 153)) (hn:n≤4398046511104) (hm:m=a+1) (h1:m<b) (h2:b≤n) (hs:Ec.SIn m b f) :
  Calls Tryz.prog 162 #[.slice (some ⟨g,0,none⟩) n cap,.int .i64 a,.int .i64 m,.int .i64 b,.func (.func 72) #[] #[]] w fun x w'=>x=.returned (.tuple #[])∧∃G,w'.heap[g]?=some (.cells (rowE sp n G) 153)∧Ec.Pm a b f G∧Ec.SIn a b G∧But g w w':=by
 have HA:Hid (w.heap[g]?=some (.cells (rowE sp n f) 153)):=hA;have HS:Hid (Ec.SIn m b f):=hs;have HM:Hid (m=a+1):=hm;have wm:IntKind.i64.wrap ((m:Int)-(a:Int))=1:=(by rw[wraps_i64 _ (by omega) (by omega)];omega)
 have am:a<m:=(by omega)
 clear hA hs hm;go_enter Tryz.func162,Tryz.ntmps162;(go_wp2_with fail);go_loopw [10,11] (fun x y wr=>∃i j:Nat,m≤i∧i≤j∧j≤b∧x=.int .i64 i∧y=.int .i64 j∧Hid ((∀q,m≤q→q<i→Ec.lt (f q) (f a))∧∀q,j≤q→q<b→¬Ec.lt (f q) (f a))∧Hid (wr.heap[g]?=some (.cells (rowE sp n f) 153)∧But g w wr)) (fun x y _=>(intOf y-intOf x).toNat)
 case atStart=>exact⟨m,b,by omega,by omega,by omega,rfl,rfl,⟨fun q q1 q2=>by omega,fun q q1 q2=>by omega⟩,HA.out,But.refl _ _⟩
 case round =>
  obtain⟨i,j,li,lij,uj,rfl,rfl,hQ,hX⟩:=hrel;clear HA;by_cases hlt:i<j
  ·obtain⟨h,hh⟩:∃h,h=(i+j)/2:=⟨_,rfl⟩
   have eh:((i:Int)+(j:Int))/2=(h:Int):=(by omega)
   have l1:i≤h:=(by omega)
   have l2:h<j:=(by omega)
   clear hh;have hlt2:(i:Int)<(j:Int):=(by omega)
   have ia:(0:Int)≤(a:Int):=(by omega)
   have ih:(0:Int)≤(h:Int):=(by omega)
   have na:(a:Int)<(n:Int):=(by omega)
   have nh:(h:Int)<(n:Int):=(by omega)
   have HCC:Hid (∀W,Bl wr W→_):=two_cells hX.out.1 (show h<n by omega) (show a<n by omega);have HLO:Hid (∀W,Bl wr W→W.heap[g]?=some (.cells (rowE sp n f) 153)∧But g w W):=row_stay hX.out.1 hX.out.2;have HW0:Hid (Bl wr wr):=Below.refl _ _;have HCM:Hid (∀W,Bl wr W→Calls Tryz.prog 72 #[.agg #[.int .i64 (f h).port,.int .i64 (f h).cost,.int .i64 (f h).other,.int .i64 (f h).oport,.bool (f h).live],.agg #[.int .i64 (f a).port,.int .i64 (f a).cost,.int .i64 (f a).other,.int .i64 (f a).oport,.bool (f a).live]] W fun e w'=>e=.returned (.int .i64 (Ec.cmp (f h) (f a)))∧Hid (Bl wr w')):=fun W hW=>cmp_say (f h) (f a) wr W hW;have HYES:Hid (Ec.cmp (f h) (f a)<0→(∀q,m≤q→q<h+1→Ec.lt (f q) (f a))∧∀q,j≤q→q<b→¬Ec.lt (f q) (f a)):=fun c=>by
    have c':=Ec.cmp_lt.1 c;refine⟨fun q q1 q2 => ?_,hQ.out.2⟩;by_cases e:q=h
    ·subst e;exact c'
    ·exact lt_of_le_lt (HS.out q h q1 (by omega) (by omega)) c'
   have HNO:Hid (¬Ec.cmp (f h) (f a)<0→(∀q,m≤q→q<i→Ec.lt (f q) (f a))∧∀q,h≤q→q<b→¬Ec.lt (f q) (f a)):=fun c=>by
    have c':¬Ec.lt (f h) (f a):=fun q=>c (Ec.cmp_lt.2 q);refine⟨hQ.out.1,fun q q1 q2 => ?_⟩;by_cases e:q=h
    ·subst e;exact c'
    ·exact Ec.not_lt_trans c' (HS.out h q (by omega) (by omega) q2)
   obtain⟨⟨c0,c1,c2,c3,c4⟩,d0,d1,d2,d3,d4⟩:=HCC.out wr HW0.out;obtain⟨CV,hCV⟩:∃CV,Ec.cmp (f h) (f a)=CV:=⟨_,rfl⟩
   rw[hCV] at HCM HYES HNO;clear hCV hQ hX HS;obtain⟨x,hx⟩:∃x,f h=x:=⟨_,rfl⟩
   obtain⟨y,hy⟩:∃y,f a=y:=⟨_,rfl⟩
   rw[hx,hy] at HCC HCM;rw[hx] at c0 c1 c2 c3 c4;rw[hy] at d0 d1 d2 d3 d4;clear hx hy;(go_wp2_with fail);go_region_held3 (fun W=>(W.cell? ⟨g,h*5,none⟩=some (.int .i64 x.port)∧W.cell? ⟨g,h*5+1,none⟩=some (.int .i64 x.cost)∧W.cell? ⟨g,h*5+2,none⟩=some (.int .i64 x.other)∧W.cell? ⟨g,h*5+3,none⟩=some (.int .i64 x.oport)∧W.cell? ⟨g,h*5+4,none⟩=some (.bool x.live))∧W.cell? ⟨g,a*5,none⟩=some (.int .i64 y.port)∧W.cell? ⟨g,a*5+1,none⟩=some (.int .i64 y.cost)∧W.cell? ⟨g,a*5+2,none⟩=some (.int .i64 y.other)∧W.cell? ⟨g,a*5+3,none⟩=some (.int .i64 y.oport)∧W.cell? ⟨g,a*5+4,none⟩=some (.bool y.live))
    (first | (exact HCC.out _ (Below.drew HW0.out)) | (exact HCC.out _ (Hid.out (by assumption))))
    (first | (go_at_call 72;refine(HCM.out _ (Below.drew HW0.out)).mono ?_;rintro e w3 ⟨rfl,HB3⟩))
   clear c0 c1 c2 c3 c4 d0 d1 d2 d3 d4;by_cases hc:CV<0
   ·have HQ2:=HYES.out (by omega);have HX2:Hid _:=HLO.out w3 HB3.out;clear HYES HNO HLO HCC HCM HW0 HB3;(go_wp2_with fail);exact⟨⟨h+1,j,by omega,by omega,uj,by go_num,rfl,HQ2,HX2⟩,by simp[intOf];omega⟩
   ·have HQ2:=HNO.out (by omega);have HX2:Hid _:=HLO.out w3 HB3.out;have hc2:decide (CV<0)=false:=decide_eq_false hc;clear HYES HNO HLO HCC HCM HW0 HB3;(go_wp2_with fail);exact⟨⟨i,h,li,l1,by omega,rfl,rfl,HQ2,HX2⟩,by simp[intOf];omega⟩
  ·obtain rfl:i=j:=by omega
   obtain⟨p,hp⟩:∃p,p=i-1:=⟨_,rfl⟩
   have wp:IntKind.i64.wrap ((i:Int)-1)=(p:Int):=(by rw[wraps_i64 _ (by omega) (by omega)];omega)
   have HSO:Hid (Ec.SIn a b (Ec.shL a p f)):=by
    have hm:=HM.out;subst hm;subst hp;exact Ec.shL_sorted a i b f HS.out li uj hQ.out.1 hQ.out.2
   have pb:p<b:=(by omega)
   have ap:a≤p:=(by omega)
   have HX:Hid (wr.heap[g]?=some (.cells (rowE sp n f) 153)∧But g w wr):=hX;clear hp hQ HS hX;(go_wp2_with fail);go_loopw [13] (fun vk wi=>∃k:Nat,a≤k∧k≤p∧vk=.int .i64 k∧Hid (wi.heap[g]?=some (.cells (rowE sp n (Ec.shL a k f)) 153)∧Ec.Pm a b f (Ec.shL a k f)∧But g w wi)) (fun k _=>p-(intOf k).toNat)
   case atStart=>exact⟨a,by omega,ap,rfl,by rw[Ec.shL_start];exact⟨HX.out.1,Ec.Pm.refl,HX.out.2⟩⟩
   case round =>
    obtain⟨k,lk,uk,rfl,hY⟩:=hrel;clear HX;by_cases hk:k<p
    ·obtain⟨q,hq⟩:∃q,q=k+1:=⟨_,rfl⟩
     have wq:IntKind.i64.wrap ((k:Int)+1)=(q:Int):=(by rw[wraps_i64 _ (by omega) (by omega)];omega)
     have ik:(0:Int)≤(k:Int):=(by omega)
     have iq:(0:Int)≤(q:Int):=(by omega)
     have nk:(k:Int)<(n:Int):=(by omega)
     have nq':(q:Int)<(n:Int):=(by omega)
     have hk2:(k:Int)<(p:Int):=(by omega)
     obtain⟨c0,c1,c2,c3,c4⟩:=rowE_cells hY.out.1 (show k<n by omega);obtain⟨d0,d1,d2,d3,d4⟩:=rowE_cells hY.out.1 (show q<n by omega);obtain⟨f0,f1,f2,f3,f4⟩:=rowE_free hY.out.1 k;obtain⟨e0,e1,e2,e3,e4⟩:=rowE_free hY.out.1 q;have HFN:Hid _:=swap_fin (F:=Ec.shL a q f) hY.out.1 hY.out.2.2 (Nat.le_refl _) (show k<n by omega) (show q<n by omega) (show k≠q by omega) (by rw[hq];exact Ec.shL_step a k f lk);have HPM:Hid (Ec.Pm a b f (Ec.shL a q f)):=(by rw[hq,←Ec.shL_step a k f lk];exact Ec.Pm.swap _ _ ⟨by omega,by omega⟩ ⟨by omega,by omega⟩ hY.out.2.1)
     have hne:k*5≠q*5:=(by omega)
     have qp:q≤p:=(by omega)
     have kq:k<q:=(by omega)
     generalize Ec.shL a k f=F at *;generalize F k=x at *;generalize F q=y at *;clear hY hq;(go_wp2_with fail);go_region
     (all_goals go_wp2_with fail);all_goals exact⟨⟨q,by omega,qp,rfl,HFN.out.1,HPM.out,HFN.out.2⟩,by simp[intOf];omega⟩
    ·obtain rfl:k=p:=by omega
     have HF:Hid _:=hY.out;clear hY;(go_wp2_with fail);exact bodyPost_ret (results_none Tryz.results162 _ _ _) rfl ⟨rfl,_,HF.out.1,HF.out.2.1,HSO.out,HF.out.2.2⟩
end Es
end
end Go.Proofs.YtflghpnpjmodaaaGreatDoor
