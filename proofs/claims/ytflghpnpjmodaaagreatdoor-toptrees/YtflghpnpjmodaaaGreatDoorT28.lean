/- walks: package book's find, its closure, sort.Search at it -/
import Derived.Test.YtflghpnpjmodaaaGreatDoorRows
import Derived.Test.YtflghpnpjmodaaaGreatDoorT01
import Derived.Test.YtflghpnpjmodaaaGreatDoorT02
import Derived.Test.YtflghpnpjmodaaaGreatDoorT06
set_option maxRecDepth 100000
set_option maxHeartbeats 6000000
namespace Go.Proofs.YtflghpnpjmodaaaGreatDoor
section
namespace Bk
structure E where
 vid:Int
 addr:Int
 port:Int
 age:Int
theorem E.eq {a b:E}(h0:a.vid=b.vid) (h1:a.addr=b.addr) (h2:a.port=b.port) (h3:a.age=b.age):a=b:=by
 cases a;cases b;simp_all
theorem E.eq_iff {a b:E}:a=b↔a.vid=b.vid∧a.addr=b.addr∧a.port=b.port∧a.age=b.age :=
 ⟨fun h=>by subst h;exact⟨rfl,rfl,rfl,rfl⟩,fun⟨h0,h1,h2,h3⟩=>E.eq h0 h1 h2 h3⟩
instance (a b:E):Decidable (a=b):=decidable_of_iff _ E.eq_iff.symm
def e0:E:=⟨0,0,0,0⟩
def at' (l:List E) (i:Nat):E:=l.getD i e0
theorem at_get (l:List E) (i:Nat) (h:i<l.length):at' l i=l[i]:=by simp[at',h]
theorem at_mem (l:List E) (i:Nat) (h:i<l.length):at' l i∈l:=by rw[at_get l i h];exact List.getElem_mem h
theorem mem_at {l:List E}{e:E}(h:e∈l):∃i,i<l.length∧at' l i=e:=by
 obtain⟨i,hi,rfl⟩:=List.getElem_of_mem h;exact⟨i,hi,at_get l i hi⟩
theorem at_append_left (l m:List E) (i:Nat) (h:i<l.length):at' (l++m) i=at' l i:=by
 simp[at',h,List.getElem?_append_left]
theorem at_append_right (l m:List E) (i:Nat) (h:l.length≤i):at' (l++m) i=at' m (i-l.length):=by
 simp[at',h,List.getElem?_append_right]
theorem at_take (l:List E) (k i:Nat) (h:i<k):at' (l.take k) i=at' l i:=by
 simp[at',h]
theorem at_drop (l:List E) (k i:Nat):at' (l.drop k) i=at' l (k+i):=by
 simp[at',List.getElem?_drop]
def lt (a b:E):Prop:=a.vid<b.vid∨(a.vid=b.vid∧a.addr<b.addr)
instance (a b:E):Decidable (lt a b):=by unfold lt;infer_instance
def ltb (a b:E):Bool:=decide (lt a b)
theorem ltb_iff {a b:E}:ltb a b=true↔lt a b:=decide_eq_true_iff
theorem lt_irrefl (a:E):¬lt a a:=by unfold lt;omega
theorem lt_trans {a b c:E}(h:lt a b) (k:lt b c):lt a c:=by unfold lt at *;omega
theorem lt_asymm {a b:E}(h:lt a b):¬lt b a:=fun k=>lt_irrefl a (lt_trans h k)
def key (a b:E):Prop:=a.vid=b.vid∧a.addr=b.addr
instance (a b:E):Decidable (key a b):=by unfold key;infer_instance
theorem key_iff {a b:E}:key a b↔¬lt a b∧¬lt b a:=by unfold key lt;omega
theorem key.lt_left {a b c:E}(h:key a b):lt a c↔lt b c:=by unfold key at h;unfold lt;omega
theorem key.lt_right {a b c:E}(h:key a b):lt c a↔lt c b:=by unfold key at h;unfold lt;omega
def cmp (a b:E):Int:=if lt a b then -1 else if lt b a then 1 else 0
theorem cmp_lt {a b:E}:cmp a b<0↔lt a b:=by
 unfold cmp;by_cases h:lt a b
 ·simp[h]
 ·by_cases k:lt b a<;>simp[h,k]
theorem cmp_zero {a b:E}:cmp a b=0↔key a b:=by
 unfold cmp;rw[key_iff];by_cases h:lt a b
 ·simp[h]
 ·by_cases k:lt b a<;>simp[h,k]
def rng (e:E):Prop:=(1≤e.vid∧e.vid≤4094)∧e.addr≤281474976710655∧(0≤e.port∧e.port≤30)∧(0≤e.age∧e.age≤300)
instance (e:E):Decidable (rng e):=by unfold rng;infer_instance
def errAt (f:Nat→E) (i:Nat):Int:=if ¬rng (f i) then 3 else if 0<i∧¬lt (f (i-1)) (f i) then 2 else 0
def firstTo (g:Nat→Int):Nat→Int×Int
 | 0=>(0,0)
 | k+1=>if (firstTo g k).1≠0 then firstTo g k else if g k≠0 then(g k,k) else(0,0)
theorem firstTo_stay (g:Nat→Int) (k:Nat) (h0:(firstTo g k).1=0) (h:g k≠0):∀n,k<n→firstTo g n=(g k,(k:Int))
 | 0,hn=>by omega
 | n+1,hn=>by
  simp only[firstTo];by_cases e:k=n
  ·subst e;rw[if_neg (by simp[h0]),if_pos h]
  ·rw[firstTo_stay g k h0 h n (by omega),if_pos h]
theorem firstTo_zero (g:Nat→Int):∀n,(firstTo g n).1=0→firstTo g n=(0,0)∧∀i,i<n→g i=0
 | 0,_=>⟨rfl,fun i hi=>by omega⟩
 | n+1,h=>by
  simp only[firstTo] at h ⊢;by_cases h1:(firstTo g n).1=0
  ·rw[if_neg (by simp[h1])] at h ⊢;by_cases h2:g n=0
   ·rw[if_neg (by simp[h2])];refine⟨rfl,fun i hi => ?_⟩;by_cases e:i=n
    ·subst e;exact h2
    ·exact(firstTo_zero g n h1).2 i (by omega)
   ·rw[if_pos h2] at h;exact absurd h h2
  ·rw[if_pos h1] at h;exact absurd h h1
theorem firstTo_none (g:Nat→Int) (n:Nat) (h:∀i,i<n→g i=0):firstTo g n=(0,0):=by
 induction n with
 | zero=>rfl
 | succ n ih =>
  simp only[firstTo];rw[ih (fun i hi=>h i (by omega)),if_neg (by simp),if_neg (by simp[h n (by omega)])]
def wrong (f:Nat→E) (n:Nat):Int×Int:=if 30<n then(5,0) else firstTo (errAt f) n
structure Book (l:List E):Prop where
 many:l.length≤30
 rng:∀e∈l,rng e
 asc:l.Pairwise lt
theorem errAt_zero {f:Nat→E}{i:Nat}:errAt f i=0↔rng (f i)∧(0<i→lt (f (i-1)) (f i)):=by
 unfold errAt;by_cases h:rng (f i)
 ·simp only[h,not_true_eq_false,if_false,true_and];by_cases k:0<i∧¬lt (f (i-1)) (f i)
  ·rw[if_pos k];constructor
   ·intro e;omega
   ·intro e;exact absurd (e k.1) k.2
  ·rw[if_neg k];refine⟨fun _ hi => ?_,fun _=>rfl⟩;by_cases q:lt (f (i-1)) (f i)
   ·exact q
   ·exact absurd ⟨hi,q⟩ k
 ·simp[h]
theorem asc_of {l:List E}(h:∀i,0<i→i<l.length→lt (at' l (i-1)) (at' l i)):l.Pairwise lt:=by
 have H:∀d i,i+(d+1)<l.length→lt (at' l i) (at' l (i+(d+1))):=by
  intro d;induction d with
  | zero=>intro i hi;have:=h (i+1) (by omega) hi;simpa using this
  | succ d ih =>
   intro i hi;have h1:=ih i (by omega);have h2:=h (i+(d+1+1)) (by omega) hi;rw[show i+(d+1+1)-1=i+(d+1) by omega] at h2;exact lt_trans h1 h2
 rw[List.pairwise_iff_getElem];intro i j hi hj hij;have:=H (j-i-1) i (by omega);rw[show i+(j-i-1+1)=j by omega,at_get l i hi,at_get l j hj] at this;exact this
theorem Book.less {l:List E}(h:Book l) {i j:Nat}(hij:i<j) (hj:j<l.length):lt (at' l i) (at' l j):=by
 have:=List.pairwise_iff_getElem.1 h.asc i j (by omega) hj hij;rwa [at_get l i (by omega),at_get l j hj]
theorem wrong_book {l:List E}:(wrong (at' l) l.length).1=0↔Book l:=by
 unfold wrong;constructor
 ·intro h;by_cases k:30<l.length
  ·rw[if_pos k] at h;simp at h
  ·rw[if_neg k] at h;have:=(firstTo_zero _ _ h).2;refine⟨by omega,fun e he => ?_,asc_of (fun i h0 hi=>(errAt_zero.1 (this i hi)).2 h0)⟩;obtain⟨i,hi,rfl⟩:=mem_at he;exact(errAt_zero.1 (this i hi)).1
 ·intro h;rw[if_neg (by have:=h.many;omega),firstTo_none];intro i hi;exact errAt_zero.2 ⟨h.rng _ (at_mem l i hi),fun h0=>h.less (by omega) hi⟩
theorem wrong_zero {l:List E}(h:Book l):wrong (at' l) l.length=(0,0):=by
 unfold wrong;rw[if_neg (by have:=h.many;omega),firstTo_none];intro i hi;exact errAt_zero.2 ⟨h.rng _ (at_mem l i hi),fun h0=>h.less (by omega) hi⟩
def Spot (l:List E) (s:E) (k:Nat):Prop:=k≤l.length∧(∀i,i<k→lt (at' l i) s)∧(∀i,k≤i→i<l.length→¬lt (at' l i) s)
def lo (l:List E) (s:E):List E:=l.filter (fun e=>ltb e s)
def hi (l:List E) (s:E):List E:=l.filter (fun e=>ltb s e)
theorem filter_all {p:E→Bool}{l:List E}(h:∀e∈l,p e=true):l.filter p=l:=List.filter_eq_self.2 h
theorem filter_no {p:E→Bool}{l:List E}(h:∀e∈l,p e=false):l.filter p=[]:=List.filter_eq_nil_iff.2 (fun e he=>by simp[h e he])
theorem mem_take {l:List E}{k:Nat}{e:E}(h:e∈l.take k):∃i,i<k∧i<l.length∧at' l i=e:=by
 obtain⟨i,hi,rfl⟩:=mem_at h;rw[List.length_take] at hi;exact⟨i,by omega,by omega,(at_take l k i (by omega)).symm⟩
theorem mem_drop {l:List E}{k:Nat}{e:E}(h:e∈l.drop k):∃i,k≤i∧i<l.length∧at' l i=e:=by
 obtain⟨i,hi,rfl⟩:=mem_at h;rw[List.length_drop] at hi;exact⟨k+i,by omega,by omega,(at_drop l k i).symm⟩
theorem Spot.lo {l:List E}{s:E}{k:Nat}(h:Spot l s k):Bk.lo l s=l.take k:=by
 unfold Bk.lo;conv=>lhs;rw[←List.take_append_drop k l]
 rw[List.filter_append,filter_all,filter_no,List.append_nil]
 ·intro e he;obtain⟨i,h1,h2,rfl⟩:=mem_drop he;exact decide_eq_false (h.2.2 i h1 h2)
 ·intro e he;obtain⟨i,h1,h2,rfl⟩:=mem_take he;exact decide_eq_true (h.2.1 i h1)
def Known (l:List E) (s:E):Prop:=∃e∈l,key e s
theorem Spot.known {l:List E}{s:E}{k:Nat}(hb:Book l) (h:Spot l s k):Known l s↔k<l.length∧key (at' l k) s:=by
 constructor
 ·rintro⟨e,he,hk⟩;obtain⟨i,hi,rfl⟩:=mem_at he;have h1:k≤i:=by
   rcases Nat.lt_or_ge i k with q | q
   ·exact absurd (h.2.1 i q) (key_iff.1 hk).1
   ·exact q
  rcases Nat.eq_or_lt_of_le h1 with q | q
  ·subst q;exact⟨hi,hk⟩
  ·have:=hb.less q hi;exact absurd ((hk.lt_right).1 this) (h.2.2 k (Nat.le_refl _) (by omega))
 ·rintro⟨h1,h2⟩;exact⟨_,at_mem l k h1,h2⟩
theorem Spot.hi_new {l:List E}{s:E}{k:Nat}(h:Spot l s k) (hn:¬Known l s):Bk.hi l s=l.drop k:=by
 unfold Bk.hi;conv=>lhs;rw[←List.take_append_drop k l]
 rw[List.filter_append,filter_no,filter_all,List.nil_append]
 ·intro e he;obtain⟨i,h1,h2,rfl⟩:=mem_drop he;apply decide_eq_true
  have q1:=h.2.2 i h1 h2;by_cases q:lt s (at' l i)
  ·exact q
  ·exact absurd ⟨_,at_mem l i h2,key_iff.2 ⟨q1,q⟩⟩ hn
 ·intro e he;obtain⟨i,h1,h2,rfl⟩:=mem_take he;exact decide_eq_false (lt_asymm (h.2.1 i h1))
theorem Spot.hi_old {l:List E}{s:E}{k:Nat}(hb:Book l) (h:Spot l s k) (hn:Known l s):Bk.hi l s=l.drop (k+1):=by
 obtain⟨h1,h2⟩:=(h.known hb).1 hn;unfold Bk.hi;conv=>lhs;rw[←List.take_append_drop (k+1) l]
 rw[List.filter_append,filter_no,filter_all,List.nil_append]
 ·intro e he;obtain⟨i,q1,q2,rfl⟩:=mem_drop he;apply decide_eq_true
  exact(h2.lt_left).1 (hb.less (show k<i by omega) q2)
 ·intro e he;obtain⟨i,q1,q2,rfl⟩:=mem_take he;apply decide_eq_false
  by_cases q:i=k
  ·subst q;exact(key_iff.1 h2).2
  ·exact lt_asymm (h.2.1 i (by omega))
def may (s:E):Prop:=rng s∧s.addr/1099511627776%2=0
instance (e:E):Decidable (may e):=by unfold may;infer_instance
instance (l:List E) (s:E):Decidable (Known l s):=by unfold Known;infer_instance
def learn (l:List E) (s:E):List E:=if ¬may s∨(¬Known l s∧30≤l.length) then l else lo l s++s :: hi l s
def look (l:List E) (s:E):Option E:=l.find? (fun e=>decide (key e s))
theorem look_some {l:List E}{s:E}(hb:Book l) {e:E}(he:e∈l) (hk:key e s):look l s=some e:=by
 unfold look;cases q:l.find? (fun e=>decide (key e s)) with
 | none=>exact absurd hk (by simpa using List.find?_eq_none.1 q e he)
 | some e' =>
  have h1:=List.find?_some q;have h2:=List.mem_of_find?_eq_some q;simp at h1;obtain⟨i,hi,rfl⟩:=mem_at he;obtain⟨j,hj,rfl⟩:=mem_at h2;have hk2:key (at' l i) (at' l j):=⟨hk.1.trans h1.1.symm,hk.2.trans h1.2.symm⟩
  rcases Nat.lt_trichotomy i j with r | r | r
  ·exact absurd (hb.less r hj) (key_iff.1 hk2).1
  ·subst r;rfl
  ·exact absurd (hb.less r hi) (key_iff.1 hk2).2
theorem look_none {l:List E}{s:E}(h:¬Known l s):look l s=none:=by
 unfold look;rw[List.find?_eq_none];intro e he;simp;exact fun k=>h ⟨e,he,k⟩
end Bk
namespace Bk
theorem lens (l:List E) (s:E):(lo l s).length+(hi l s).length+(l.filter (fun e=>decide (key e s))).length=l.length:=by
 induction l with
 | nil=>rfl
 | cons x l ih =>
  unfold lo hi at *;rw[List.filter_cons,List.filter_cons,List.filter_cons,List.length_cons];by_cases h1:lt x s
  ·have h2:¬lt s x:=lt_asymm h1;have h3:¬key x s:=fun k=>(key_iff.1 k).1 h1;rw[if_pos (ltb_iff.2 h1),if_neg (fun q=>h2 (ltb_iff.1 q)),if_neg (by simpa using h3),List.length_cons];omega
  ·by_cases h2:lt s x
   ·have h3:¬key x s:=fun k=>(key_iff.1 k).2 h2;rw[if_neg (fun q=>h1 (ltb_iff.1 q)),if_pos (ltb_iff.2 h2),if_neg (by simpa using h3),List.length_cons];omega
   ·have h3:key x s:=key_iff.2 ⟨h1,h2⟩;rw[if_neg (fun q=>h1 (ltb_iff.1 q)),if_neg (fun q=>h2 (ltb_iff.1 q)),if_pos (by simpa using h3),List.length_cons];omega
theorem Known.pos {l:List E}{s:E}(h:Known l s):1≤(l.filter (fun e=>decide (key e s))).length:=by
 obtain⟨e,he,hk⟩:=h;exact List.length_pos_of_mem (List.mem_filter.2 ⟨he,by simpa using hk⟩)
theorem learn_book {l:List E}(hb:Book l) (s:E):Book (learn l s):=by
 by_cases c:¬may s∨(¬Known l s∧30≤l.length)
 ·have:learn l s=l:=if_pos c;rw[this];exact hb
 ·have e1:learn l s=lo l s++s :: hi l s:=if_neg c;have hl:=lens l s;rw[e1];refine⟨?_,?_,?_⟩
  ·rw[List.length_append,List.length_cons];have:=hb.many;by_cases kn:Known l s
   ·have:=kn.pos;omega
   ·have:¬30≤l.length:=fun q=>c (Or.inr ⟨kn,q⟩);omega
  ·intro e he;rw[List.mem_append,List.mem_cons] at he;rcases he with he | rfl | he
   ·exact hb.rng e (List.mem_filter.1 he).1
   ·exact(Decidable.not_not.1 (fun q=>c (Or.inl q))).1
   ·exact hb.rng e (List.mem_filter.1 he).1
  ·rw[List.pairwise_append,List.pairwise_cons];refine⟨hb.asc.filter _,⟨fun e he=>ltb_iff.1 (List.mem_filter.1 he).2,hb.asc.filter _⟩,fun a ha b hb' => ?_⟩;have h1:=ltb_iff.1 (List.mem_filter.1 ha).2;rcases List.mem_cons.1 hb' with rfl | h
   ·exact h1
   ·exact lt_trans h1 (ltb_iff.1 (List.mem_filter.1 h).2)
end Bk
namespace Bk
section
variable {l:List E}(hb:Book l) (s:E) {k:Nat}(hk:k<l.length)
include hk
include hb
end
end Bk
end
section
open Go.RowKit
theorem and40 (s:Int) (h0:0≤s) (h1:s<18446744073709551616):bits BinOp.and IntKind.u64 s 1099511627776=s/1099511627776%2*1099511627776:=by
 obtain⟨a,rfl⟩:=Int.eq_ofNat_of_zero_le h0;have h:=bits_and_u64_nat a 1099511627776 (by omega) (by omega);rw[show((1099511627776:Nat):Int)=1099511627776 from rfl] at h;rw[h];have h2:a &&& 2 ^ 40=a/2 ^ 40%2 ^ 1*2 ^ 40:=by
  apply Nat.eq_of_testBit_eq
  intro i;rw[Nat.testBit_and,Nat.testBit_two_pow,Nat.testBit_mul_two_pow,Nat.testBit_mod_two_pow,Nat.testBit_div_two_pow];by_cases e:40=i
  ·subst e;simp
  ·by_cases e2:40≤i
   ·simp[e,show ¬(i-40<1) by omega]
   ·simp[e,e2]
 rw[show(2:Nat) ^ 40=1099511627776 from rfl] at h2;rw[h2];omega
def wrong (d s:Int) (t:Bool) (p v y:Int) (n:Nat):Int :=
 if 281474976710655<d∨281474976710655<s then 3
 else if s/1099511627776%2=1 then 8
 else if t=true∧¬((0≤v∧v≤4094)∧0≤p∧p≤7) then 3
 else if ¬((1536≤y∧y≤65535)∧y≠33024) then 1
 else if 1500<n then 4 else 0
end
section
open Go.RowKit
open Bk (E at')
def eA (e:E):Array Value:=#[.int .i64 e.vid,.int .u64 e.addr,.int .i64 e.port,.int .i64 e.age]
def eC (e:E) (j:Nat):Value:=if j=0 then .int .i64 e.vid else if j=1 then .int .u64 e.addr else if j=2 then .int .i64 e.port else .int .i64 e.age
theorem eC_one (e:E) (j:Nat):(eC e j).oneCell'=true:=by
 unfold eC;repeat' split
 all_goals rfl
theorem infoEy:(Tryz.prog.info? 291).map (fun i=>(i.zero,i.size,i.bytes))=some (some (.agg (eA Bk.e0)),4,32):=by kernel_rfl
theorem en_cells {w:World}{g:Nat}{a0 a1 a2 a3:Value}{ty:TypeId}(h:w.heap[g]?=some (.cells #[a0,a1,a2,a3] ty (0,0))) :
  w.cell? ⟨g,0,none⟩=some a0∧w.cell? ⟨g,1,none⟩=some a1∧w.cell? ⟨g,2,none⟩=some a2∧w.cell? ⟨g,3,none⟩=some a3 :=
 ⟨cell_of_row w g 0 _ _ _ h,cell_of_row w g 1 _ _ _ h,cell_of_row w g 2 _ _ _ h,cell_of_row w g 3 _ _ _ h⟩
def BEL (w:World) (ao:Option Addr) (cap:Nat) (l:List E):Prop:=CRow w ao l.length cap 4 (fun i=>eC (at' l i))
theorem BEL.below {w w':World}{ao:Option Addr}{cap:Nat}{l:List E}(h:BEL w ao cap l) (hb:Bl w w'):BEL w' ao cap l:=CRow.below h hb
theorem BEL.cells {w:World}{b off cap:Nat}{l:List E}(h:BEL w (some ⟨b,off,none⟩) cap l) {i:Nat}(hi:i<l.length) :
  w.cell? ⟨b,off+i*4,none⟩=some (.int .i64 (at' l i).vid)∧w.cell? ⟨b,off+i*4+1,none⟩=some (.int .u64 (at' l i).addr)∧w.cell? ⟨b,off+i*4+2,none⟩=some (.int .i64 (at' l i).port)∧w.cell? ⟨b,off+i*4+3,none⟩=some (.int .i64 (at' l i).age):=by
 obtain⟨b',off',e,_,hc⟩:=h.2 (by omega);cases e
 exact⟨hc i hi 0 (by omega),hc i hi 1 (by omega),hc i hi 2 (by omega),hc i hi 3 (by omega)⟩
theorem BEL.place {w:World}{ao:Option Addr}{cap:Nat}{l:List E}(h:BEL w ao cap l) (hn:0<l.length):∃b off,ao=.some ⟨b,off,.none⟩∧b<w.heap.size:=by
 obtain⟨b,off,e,hb,_⟩:=h.2 hn;exact⟨b,off,e,hb⟩
def OwnE (w:World) (base:Nat) (v:Value) (l:List E):Prop:=w.ownsRow base 291 4 v l.length (cellsL l.length 4 (fun i=>eC (at' l i)))
theorem OwnE.el {w:World}{base:Nat}{v:Value}{l:List E}(h:OwnE w base v l):∃ao cap,v=.slice ao l.length cap∧BEL w ao cap l∧NilOk ao l.length cap∧(∀ad,ao=some ad→base≤ad.block):=owns_c (by omega) h
theorem OwnE.below {w w':World}{base:Nat}{v:Value}{l:List E}(h:OwnE w base v l) (hb:Bl w w'):OwnE w' base v l:=ownsC_below h hb
theorem OwnE.mono {w:World}{base base':Nat}{v:Value}{l:List E}(h:OwnE w base v l) (hb:base'≤base):OwnE w base' v l:=by
 obtain⟨h1,h2⟩:=h;refine⟨h1,?_⟩;rcases h2 with h2 | ⟨g,cap,cur,hv,hg,r⟩
 ·exact Or.inl h2
 ·exact Or.inr ⟨g,cap,cur,hv,Nat.le_trans hb hg,r⟩
theorem OwnE.nil (w:World) (base:Nat):OwnE w base (.slice none 0 0) []:=ownsC_nil w base _ _ _
theorem append_e (w:World) (base:Nat) (v:Value) (l:List E) (hown:OwnE w base v l) (ao:Option Addr) (cp:Nat) (m:List E) (n:Nat) (hn:n=m.length) (hr:BEL w ao cp m) (hnil:NilOk ao n cp) (hb:l.length+n≤1000000) (hbase:base≤w.heap.size) :
  ∃a1 c1 w',(Builtin.append_ #[186,186] 186 #[v,.slice ao n cp]).run Tryz.prog w=.ok (.slice a1 (l++m).length c1) w'∧OwnE w' base (.slice a1 (l++m).length c1) (l++m)∧Below base w w'∧(∀q,q<w.heap.size→some q≠v.ownBlock→w'.heap[q]?=w.heap[q]?):=by
 subst hn;obtain⟨a1,c1,w',r,o,b,q⟩:=append_c w 186 291 _ 4 32 Tryz.underlying186 infoEy rfl (by omega) base v l.length _ hown ao m.length cp (fun i=>eC (at' m i)) (fun _ _=>eC_one _ _) hr hnil (by unfold maxLen;omega) (by omega) hbase;have e:l.length+m.length=(l++m).length:=(by simp)
 rw[e] at r o;refine⟨a1,c1,w',r,?_,b,q⟩;unfold OwnE;rw[cellsL_congr _ 4 _ (fun i=>eC (at' (l++m) i))] at o
 ·exact o
 ·intro i hi;unfold catC;by_cases h:i<l.length
  ·rw[if_pos h,Bk.at_append_left l m i h]
  ·rw[if_neg h,Bk.at_append_right l m i (by omega)]
theorem one_entry {w:World}{g:Nat}{e:E}{ty:TypeId}(h:w.heap[g]?=some (.cells (eA e) ty (0,0))):BEL w (some ⟨g,0,none⟩) 1 [e]:=by
 refine⟨Nat.le_refl _,fun _=>⟨g,0,rfl,(gSm.1 h).1,fun i hi j hj => ?_⟩⟩;obtain rfl:i=0:=by simp at hi;exact hi
 rcases(show j=0∨j=1∨j=2∨j=3 by omega) with rfl | rfl | rfl | rfl
 ·exact cell_of_row w g 0 _ _ _ h
 ·exact cell_of_row w g 1 _ _ _ h
 ·exact cell_of_row w g 2 _ _ _ h
 ·exact cell_of_row w g 3 _ _ _ h
theorem BEL.take {w:World}{ao:Option Addr}{cap:Nat}{l:List E}(h:BEL w ao cap l) (k:Nat) (hk:k≤l.length):BEL w ao cap (l.take k):=by
 unfold BEL;rw[show(l.take k).length=k by simp;omega];exact(h.prefix hk).congr (fun i hi=>by rw[Bk.at_take l k i hi])
theorem BEL.drop {w:World}{b off cap:Nat}{l:List E}(h:BEL w (some ⟨b,off,none⟩) cap l) (k:Nat) (hk:k≤l.length):BEL w (some ⟨b,off+k*4,none⟩) (cap-k) (l.drop k):=by
 unfold BEL;rw[List.length_drop];exact(h.behind k hk).congr (fun i hi=>by rw[Bk.at_drop l k i])
end
section
open Go.RowKit
theorem ofMany_any (s:Int) (w:World) (h0:0≤s) (h1:s<18446744073709551616) :
  Calls Tryz.prog 86 #[.int .u64 s] w fun e w'=>e=.returned (.bool (decide (s/1099511627776%2=1)))∧w'=w:=by
 have h:=and40 s h0 h1;go_enter Tryz.func86,Tryz.ntmps86;go_wp2
 go_ret;refine⟨?_,rfl⟩;by_cases e:s/1099511627776%2=1
 ·simp[e]
 ·have:s/1099511627776%2=0:=by omega
  simp[this]
end
section
open Go.RowKit
open Bk (E at')
theorem binr_raw (vi ad po ag:Int) (w:World) :
  Calls Tryz.prog 191 #[.agg #[.int .i64 vi,.int .u64 ad,.int .i64 po,.int .i64 ag]] w fun e w'=>e=.returned (.bool (decide ((1≤vi∧vi≤4094)∧ad≤281474976710655∧(0≤po∧po≤30)∧(0≤ag∧ag≤300))))∧Bl w w':=by
 by_cases h1:1≤vi∧vi≤4094
 ·have d1:decide (1≤vi∧vi≤4094)=true:=decide_eq_true h1;by_cases h2:ad≤281474976710655
  ·by_cases h3:0≤po∧po≤30
   ·have d3:decide (0≤po∧po≤30)=true:=decide_eq_true h3;go_enter Tryz.func191,Tryz.ntmps191;go_wp2_with (go_at_call 32;refine(vwithin_any _ _ _ _).mono ?_;rintro e w1 ⟨rfl,rfl⟩;first | rw[d1] | rw[d3] | skip)
    go_ret;exact⟨by simp[h1,h2,h3],(Below.refl _ _).alloc (Nat.le_refl _) _⟩
   ·have d3:decide (0≤po∧po≤30)=false:=decide_eq_false h3;go_enter Tryz.func191,Tryz.ntmps191;go_wp2_with (go_at_call 32;refine(vwithin_any _ _ _ _).mono ?_;rintro e w1 ⟨rfl,rfl⟩;first | rw[d1] | rw[d3] | skip)
    go_ret;exact⟨by simp[h3],(Below.refl _ _).alloc (Nat.le_refl _) _⟩
  ·have d2:decide (ad≤281474976710655)=false:=decide_eq_false h2;go_enter Tryz.func191,Tryz.ntmps191;go_wp2_with (go_at_call 32;refine(vwithin_any _ _ _ _).mono ?_;rintro e w1 ⟨rfl,rfl⟩;first | rw[d1] | skip)
   go_ret;exact⟨by simp;intros;omega,(Below.refl _ _).alloc (Nat.le_refl _) _⟩
 ·have d1:decide (1≤vi∧vi≤4094)=false:=decide_eq_false h1;go_enter Tryz.func191,Tryz.ntmps191;go_wp2_with (go_at_call 32;refine(vwithin_any _ _ _ _).mono ?_;rintro e w1 ⟨rfl,rfl⟩;first | rw[d1] | skip)
  go_ret;exact⟨by simp[h1],(Below.refl _ _).alloc (Nat.le_refl _) _⟩
theorem binr_any (x:E) (w:World) :
  Calls Tryz.prog 191 #[.agg #[.int .i64 x.vid,.int .u64 x.addr,.int .i64 x.port,.int .i64 x.age]] w fun e w'=>e=.returned (.bool (decide (Bk.rng x)))∧Bl w w':=binr_raw _ _ _ _ w
theorem bmay_any (x:E) (w:World) (h0:0≤x.addr) (h1:x.addr<18446744073709551616) :
  Calls Tryz.prog 196 #[.agg #[.int .i64 x.vid,.int .u64 x.addr,.int .i64 x.port,.int .i64 x.age]] w fun e w'=>e=.returned (.bool (decide (Bk.may x)))∧Bl w w':=by
 have HM:Hid (∀w,Calls Tryz.prog 86 #[.int .u64 x.addr] w fun e w'=>e=.returned (.bool (decide (x.addr/1099511627776%2=1)))∧w'=w):=fun w=>ofMany_any x.addr w h0 h1;have HX:Hid (∀W W',Bl w W→Bl W W'→Bl w W'):=fun W W' h h'=>h.trans (h'.mono h.size);have HE:Hid (decide (Bk.may x)=(decide (Bk.rng x) && !decide (x.addr/1099511627776%2=1))):=by
  show decide (Bk.rng x∧x.addr/1099511627776%2=0)=(decide (Bk.rng x) && !decide (x.addr/1099511627776%2=1))
  by_cases q:x.addr/1099511627776%2=1
  ·simp[q]
  ·simp[show x.addr/1099511627776%2=0 by omega]
 have HR:Hid (∀W,Calls Tryz.prog 191 #[.agg #[.int .i64 x.vid,.int .u64 x.addr,.int .i64 x.port,.int .i64 x.age]] W fun e w'=>e=.returned (.bool (decide (Bk.rng x)))∧Bl W w'):=fun W=>binr_any x W;obtain⟨W0,HW0⟩:∃W0,Hid (W0=w.alloc (.cells #[.int .i64 x.vid,.int .u64 x.addr,.int .i64 x.port,.int .i64 x.age] 291)):=⟨_,rfl⟩
 have HB0:Hid (Bl w W0):=(by rw[HW0.out];exact bA1 _ _)
 have HC:Hid (∀W,Bl W0 W→W.cell? ⟨w.heap.size,1,none⟩=some (.int .u64 x.addr)):=fun W hW=>by
  rw[HW0.out] at hW;exact(en_cells (keep (heap_alloc_last w _) hW)).2.1
 clear h0 h1;rw[HE.out];by_cases h:Bk.rng x
 ·rw[decide_eq_true h] at HR;rw[decide_eq_true h];go_enter Tryz.func196,Tryz.ntmps196;(go_wp2_with fail);rw[←HW0.out];refine(HR.out _).mono ?_;rintro e w1 ⟨rfl,hb1⟩;have c1:=HC.out w1 hb1;have HB1:Hid (Bl w w1):=HX.out _ _ HB0.out hb1;clear hb1;go_wp2_with (go_at_call 86;refine(HM.out _).mono ?_;rintro e w2 ⟨rfl,rfl⟩)
  go_ret;exact⟨by simp,HB1.out⟩
 ·rw[decide_eq_false h] at HR;rw[decide_eq_false h];go_enter Tryz.func196,Tryz.ntmps196;(go_wp2_with fail);rw[←HW0.out];refine(HR.out _).mono ?_;rintro e w1 ⟨rfl,hb1⟩;have HB1:Hid (Bl w w1):=HX.out _ _ HB0.out hb1;clear hb1;(go_wp2_with fail);go_ret;exact⟨by simp,HB1.out⟩
def sg2 (a b:E) (i:Nat):Int:=if i=0 then sg a.vid b.vid else sg a.addr b.addr
theorem orTo_sg2 (a b:E):orTo (sg2 a b) 2=Bk.cmp a b:=by
 have e1:orTo (sg2 a b) 1=sg a.vid b.vid:=(by simp[orTo,sg2])
 show(if orTo (sg2 a b) 1=0 then sg2 a b 1 else orTo (sg2 a b) 1)=_;rw[e1];show(if sg a.vid b.vid=0 then sg a.addr b.addr else sg a.vid b.vid)=_;simp only[sg_zero];have L:Bk.lt a b→Bk.cmp a b = -1:=fun h=>if_pos h;have G:Bk.lt b a→Bk.cmp a b=1:=fun h=>by unfold Bk.cmp;rw[if_neg (Bk.lt_asymm h),if_pos h]
 have Z:Bk.key a b→Bk.cmp a b=0:=fun h=>Bk.cmp_zero.2 h;unfold sg;by_cases h0:a.vid=b.vid
 ·rw[if_pos h0];by_cases h1:a.addr<b.addr
  ·rw[if_pos h1,L (by unfold Bk.lt;omega)]
  ·rw[if_neg h1];by_cases h2:b.addr<a.addr
   ·rw[if_pos h2,G (by unfold Bk.lt;omega)]
   ·rw[if_neg h2,Z (by unfold Bk.key;omega)]
 ·rw[if_neg h0];by_cases h1:a.vid<b.vid
  ·rw[if_pos h1,L (by unfold Bk.lt;omega)]
  ·rw[if_neg h1,if_pos (by omega),G (by unfold Bk.lt;omega)]
theorem cor2y (a b:E) (g:Nat) (ty:TypeId) (w:World) (h:w.heap[g]?=some (.cells #[.int .i64 (sg a.vid b.vid),.int .i64 (sg a.addr b.addr)] ty (0,0))) :
  Calls Tryz.prog 164 #[.slice (some ⟨g,0,none⟩) 2 2] w fun e w'=>e=.returned (.int .i64 (Bk.cmp a b))∧w'=w:=by
 rw[←orTo_sg2];refine cor_any g 0 2 2 (sg2 a b) w (by omega) (by omega) (fun i hi => ?_);rcases(by omega:i=0∨i=1) with e | e<;>subst e
 ·exact cell_of_row w g 0 _ _ _ h
 ·exact cell_of_row w g 1 _ _ _ h
theorem below_drew_alloc' {n:Nat}{w w':World}(h:Below n w w') (hn:n≤w'.heap.size) (o:Obj):Below n w (w'.drew.alloc o):=(Below.drew h).alloc hn o
theorem border_any (a b:E) (w:World) :
  Calls Tryz.prog 192 #[.agg #[.int .i64 a.vid,.int .u64 a.addr,.int .i64 a.port,.int .i64 a.age],.agg #[.int .i64 b.vid,.int .u64 b.addr,.int .i64 b.port,.int .i64 b.age]] w fun e w'=>e=.returned (.int .i64 (Bk.cmp a b))∧Bl w w':=by
 obtain⟨W0,HW0⟩:∃W0,Hid (W0=(w.alloc (.cells #[.int .i64 a.vid,.int .u64 a.addr,.int .i64 a.port,.int .i64 a.age] 291)).alloc (.cells #[.int .i64 b.vid,.int .u64 b.addr,.int .i64 b.port,.int .i64 b.age] 291)):=⟨_,rfl⟩
 have HB0:Hid (Bl w W0):=(by rw[HW0.out];exact bA2 _ _ _)
 have HBB:Hid (Bl W0 W0):=Below.refl _ _;have HC:Hid (∀W,Bl W0 W→W.cell? ⟨w.heap.size,0,none⟩=some (.int .i64 a.vid)∧W.cell? ⟨w.heap.size,1,none⟩=some (.int .u64 a.addr)∧W.cell? ⟨w.heap.size+1,0,none⟩=some (.int .i64 b.vid)∧W.cell? ⟨w.heap.size+1,1,none⟩=some (.int .u64 b.addr)):=fun W hW=>by
  rw[HW0.out] at hW;have h1:=en_cells (keep (heap_alloc2_old w _ _) hW);have h2:=en_cells (keep (heap_alloc2_new w _ _) hW);exact⟨h1.1,h1.2.1,h2.1,h2.2.1⟩
 have HOR:Hid (∀(g:Nat) (ty:TypeId) (W:World),W.heap[g]?=some (.cells #[.int .i64 (sg a.vid b.vid),.int .i64 (sg a.addr b.addr)] ty (0,0))→Calls Tryz.prog 164 #[.slice (some ⟨g,0,none⟩) 2 2] W fun e w'=>e=.returned (.int .i64 (Bk.cmp a b))∧w'=W):=fun g ty W h=>cor2y a b g ty W h;have HL:Hid (∀W,Bl W0 W→Bl w W):=fun W hW=>HB0.out.trans (hW.mono HB0.out.size);obtain⟨c0,c1,d0,d1⟩:=HC.out W0 HBB.out;go_enter Tryz.func192,Tryz.ntmps192;(go_wp2_with fail);rw[←HW0.out];go_region_held3 (fun W=>W.cell? ⟨w.heap.size,0,none⟩=some (.int .i64 a.vid)∧W.cell? ⟨w.heap.size,1,none⟩=some (.int .u64 a.addr)∧W.cell? ⟨w.heap.size+1,0,none⟩=some (.int .i64 b.vid)∧W.cell? ⟨w.heap.size+1,1,none⟩=some (.int .u64 b.addr))
  (first | (exact HC.out _ (Below.drew HBB.out)) | (exact HC.out _ (below_drew_alloc' HBB.out (Nat.le_refl _) _)))
  (first | (go_at_call 201;refine(ccmpu_any _ _ _).mono ?_;rintro e w1 ⟨rfl,rfl⟩) | (go_at_call 73;refine(ccmpi_any _ _ _).mono ?_;rintro e w1 ⟨rfl,rfl⟩) | (go_at_call 164;refine(HOR.out _ _ _ (heap_alloc_last W0.drew _)).mono ?_;rintro e w1 ⟨rfl,rfl⟩))
 (go_wp2_with fail);go_ret;exact⟨rfl,HL.out _ (below_drew_alloc' HBB.out (Nat.le_refl _) _)⟩
theorem cmp_geq (a b:E):decide (Bk.cmp a b≥0)=decide (¬Bk.lt a b):=by
 have:=Bk.cmp_lt (a:=a) (b:=b);by_cases h:Bk.lt a b
 ·rw[decide_eq_false (show ¬(Bk.cmp a b≥0) by have:=this.2 h;omega),decide_eq_false (by simp[h])]
 ·rw[decide_eq_true (show Bk.cmp a b≥0 by
   rcases Int.lt_or_le (Bk.cmp a b) 0 with q | q
   ·exact absurd (this.1 q) h
   ·exact q),decide_eq_true h]
theorem cmp_eql (a b:E):(Bk.cmp a b == 0)=decide (Bk.key a b):=by
 have:=Bk.cmp_zero (a:=a) (b:=b);by_cases h:Bk.key a b
 ·rw[decide_eq_true h];simp[this.2 h]
 ·rw[decide_eq_false h];simp;exact fun q=>h (this.1 q)
theorem bless_any (Bq Bs:Nat) (ao:Option Addr) (cap:Nat) (l:List E) (s:E) (i:Nat) (w:World) (hr:BEL w ao cap l) (hi:i<l.length) (hn:l.length≤9223372036854775807) (h1:w.cell? ⟨Bq,0,none⟩=some (.slice ao l.length cap)) (hs:w.heap[Bs]?=some (.cells #[.int .i64 s.vid,.int .u64 s.addr,.int .i64 s.port,.int .i64 s.age] 291)) :
  Calls Tryz.prog 213 #[.int .i64 i,.pointer (some ⟨Bq,0,none⟩),.pointer (some ⟨Bs,0,none⟩)] w fun e w'=>e=.returned (.bool (decide (¬Bk.lt (at' l i) s)))∧Bl w w':=by
 rw[←cmp_geq];obtain⟨b,off,rfl,hb⟩:=hr.place (by omega);have hcap:=hr.1;have hbl:=block_lt_of_cell h1;have HRW:Hid (∀W,Bl w W→BEL W (some ⟨b,off,none⟩) cap l):=fun W hW=>BEL.below hr hW;have HXX:Hid (Bl w w):=Below.refl _ _;have HLC:Hid (∀W,Bl w W→W.cell? ⟨Bq,0,none⟩=some (.slice (some ⟨b,off,none⟩) l.length cap)):=fun W hW=>(hW.cell (by exact hbl)).trans h1;have HJC:Hid (∀W,Bl w W→W.cell? ⟨b,off+i*4,none⟩=some (.int .i64 (at' l i).vid)∧W.cell? ⟨b,off+i*4+1,none⟩=some (.int .u64 (at' l i).addr)∧W.cell? ⟨b,off+i*4+2,none⟩=some (.int .i64 (at' l i).port)∧W.cell? ⟨b,off+i*4+3,none⟩=some (.int .i64 (at' l i).age)):=fun W hW=>BEL.cells (HRW.out W hW) hi;have HSC:Hid (∀W,Bl w W→W.cell? ⟨Bs,0,none⟩=some (.int .i64 s.vid)∧W.cell? ⟨Bs,1,none⟩=some (.int .u64 s.addr)∧W.cell? ⟨Bs,2,none⟩=some (.int .i64 s.port)∧W.cell? ⟨Bs,3,none⟩=some (.int .i64 s.age)):=fun W hW=>en_cells (keep hs hW);have HBE:Hid (∀W,Bl w W→Calls Tryz.prog 192 #[.agg #[.int .i64 (at' l i).vid,.int .u64 (at' l i).addr,.int .i64 (at' l i).port,.int .i64 (at' l i).age],.agg #[.int .i64 s.vid,.int .u64 s.addr,.int .i64 s.port,.int .i64 s.age]] W fun e w'=>e=.returned (.int .i64 (Bk.cmp (at' l i) s))∧Hid (Bl w w')):=fun W hW=>(border_any (at' l i) s W).mono (fun e w' h=>⟨h.1,hW.trans (h.2.mono hW.size)⟩);obtain⟨s0,s1,s2,s3⟩:=HSC.out w HXX.out;obtain⟨t0,t1,t2,t3⟩:=HJC.out w HXX.out;have hcap2:l.length≤cap:=hcap;clear hr hs hbl;generalize hN:l.length=N at *;clear hN;generalize at' l i=x at *;clear hcap HRW;go_enter Tryz.func213,Tryz.ntmps213;(go_wp2_with fail);go_region_held3 (fun W=>W.cell? ⟨Bq,0,none⟩=some (.slice (some ⟨b,off,none⟩) N cap)∧(W.cell? ⟨Bs,0,none⟩=some (.int .i64 s.vid)∧W.cell? ⟨Bs,1,none⟩=some (.int .u64 s.addr)∧W.cell? ⟨Bs,2,none⟩=some (.int .i64 s.port)∧W.cell? ⟨Bs,3,none⟩=some (.int .i64 s.age))∧W.cell? ⟨b,off+i*4,none⟩=some (.int .i64 x.vid)∧W.cell? ⟨b,off+i*4+1,none⟩=some (.int .u64 x.addr)∧W.cell? ⟨b,off+i*4+2,none⟩=some (.int .i64 x.port)∧W.cell? ⟨b,off+i*4+3,none⟩=some (.int .i64 x.age))
  (first | (exact⟨HLC.out _ (Below.drew HXX.out),HSC.out _ (Below.drew HXX.out),HJC.out _ (Below.drew HXX.out)⟩) | (exact⟨HLC.out _ (Hid.out (by assumption)),HSC.out _ (Hid.out (by assumption)),HJC.out _ (Hid.out (by assumption))⟩))
  (first | (go_at_call 192;refine(HBE.out _ (Below.drew HXX.out)).mono ?_;rintro e w3 ⟨rfl,HB3⟩))
 (go_wp2_with fail);go_ret;exact⟨rfl,HB3.out⟩
theorem bsearch_any (Bq Bs:Nat) (ao:Option Addr) (cap:Nat) (l:List E) (s:E) (w:World) (hbk:Bk.Book l) (hr:BEL w ao cap l) (h1:w.cell? ⟨Bq,0,none⟩=some (.slice ao l.length cap)) (hs:w.heap[Bs]?=some (.cells #[.int .i64 s.vid,.int .u64 s.addr,.int .i64 s.port,.int .i64 s.age] 291)) :
  Calls Tryz.prog 78 #[.int .i64 l.length,.func (.func 213) #[] #[.pointer (some ⟨Bq,0,none⟩),.pointer (some ⟨Bs,0,none⟩)]] w fun e w'=>∃k:Nat,e=.returned (.int .i64 k)∧k≤l.length∧((∀i,i<k→Bk.lt (at' l i) s)∧(∀i,k≤i→i<l.length→¬Bk.lt (at' l i) s))∧Bl w w':=by
 have hbl:=block_lt_of_cell h1;have hn:=hbk.many;have HC:Hid (∀W:World,Bl w W→∀i:Nat,i<l.length→Calls Tryz.prog 213 #[.int .i64 i,.pointer (some ⟨Bq,0,none⟩),.pointer (some ⟨Bs,0,none⟩)] W fun e w'=>e=.returned (.bool (decide (¬Bk.lt (at' l i) s)))∧Bl W w') :=
  fun W hW i hi=>bless_any Bq Bs ao cap l s i W (BEL.below hr hW) hi (by omega) ((hW.cell (by exact hbl)).trans h1) (keep hs hW)
 have HM:Hid (∀i j,i<j→j<l.length→Bk.lt (at' l i) (at' l j)):=fun i j h h'=>hbk.less h h';clear hr hbk h1 hs hbl;generalize l.length=n at *;go_enter Tryz.func78,Tryz.ntmps78;(go_wp2_with fail);go_loopw [5,6] (fun x y wr=>∃lo hi:Nat,lo≤hi∧hi≤n∧x=.int .i64 lo∧y=.int .i64 hi∧Hid ((∀i,i<lo→Bk.lt (at' l i) s)∧(∀i,hi≤i→i<n→¬Bk.lt (at' l i) s))∧Hid (Bl w wr)) (fun x y _=>(intOf y-intOf x).toNat)
 case atStart=>exact⟨0,n,by omega,by omega,rfl,rfl,⟨fun i hi=>by omega,fun i h1 h2=>by omega⟩,Below.refl _ _⟩
 case round =>
  obtain⟨lo,hi,h1,h2,rfl,rfl,hX,hB⟩:=hrel;by_cases hlt:lo<hi
  ·have hc:=HC.out _ hB.out ((lo+hi)/2) (by omega);rw[show(((lo+hi)/2:Nat):Int)=((lo:Int)+(hi:Int))/2 by omega] at hc;by_cases hp:¬Bk.lt (at' l ((lo+hi)/2)) s
   ·have d1:decide (¬Bk.lt (at' l ((lo+hi)/2)) s)=true:=decide_eq_true hp;rw[d1] at hc;have HX:Hid ((∀i,i<lo→Bk.lt (at' l i) s)∧(∀i,(lo+hi)/2≤i→i<n→¬Bk.lt (at' l i) s)):=by
     refine⟨hX.out.1,fun i h3 h4 => ?_⟩;by_cases e:i=(lo+hi)/2
     ·subst e;exact hp
     ·have:=HM.out ((lo+hi)/2) i (by omega) h4;exact fun q=>hp (Bk.lt_trans this q)
    clear hX hp d1 HC HM;go_wp2_with (go_at_call 213;refine hc.mono ?_;rintro e w2 ⟨rfl,hb2⟩)
    exact⟨⟨lo,(lo+hi)/2,by omega,by omega,rfl,by rw[show(((lo+hi)/2:Nat):Int)=((lo:Int)+(hi:Int))/2 by omega],HX,hB.out.trans (hb2.mono hB.out.size)⟩,by simp[intOf];omega⟩
   ·have d1:decide (¬Bk.lt (at' l ((lo+hi)/2)) s)=false:=decide_eq_false hp;rw[d1] at hc;have HX:Hid ((∀i,i<(lo+hi)/2+1→Bk.lt (at' l i) s)∧(∀i,hi≤i→i<n→¬Bk.lt (at' l i) s)):=by
     have hp2:Bk.lt (at' l ((lo+hi)/2)) s:=Decidable.not_not.1 hp;refine⟨fun i h3 => ?_,hX.out.2⟩;by_cases e:i=(lo+hi)/2
     ·subst e;exact hp2
     ·have:=HM.out i ((lo+hi)/2) (by omega) (by omega);exact Bk.lt_trans this hp2
    clear hX hp d1 HC HM;go_wp2_with (go_at_call 213;refine hc.mono ?_;rintro e w2 ⟨rfl,hb2⟩)
    exact⟨⟨(lo+hi)/2+1,hi,by omega,by omega,by rw[show(((lo+hi)/2+1:Nat):Int)=((lo:Int)+(hi:Int))/2+1 by omega],rfl,HX,hB.out.trans (hb2.mono hB.out.size)⟩,by simp[intOf];omega⟩
  ·obtain rfl:lo=hi:=by omega
   go_wp2
   go_ret;exact⟨lo,rfl,h2,hX.out,hB.out⟩
abbrev sought (vid addr:Int):E:=⟨vid,addr,0,0⟩
theorem bfind_any (ao:Option Addr) (cap:Nat) (l:List E) (vid addr:Int) (w:World) (hbk:Bk.Book l) (hr:BEL w ao cap l) :
  Calls Tryz.prog 195 #[.slice ao l.length cap,.int .i64 vid,.int .u64 addr] w fun e w'=>∃k:Nat,e=.returned (.tuple #[.int .i64 k,.bool (decide (Bk.Known l (sought vid addr)))])∧Bk.Spot l (sought vid addr) k∧Bl w w':=by
 have hn:=hbk.many;have hcap:l.length≤cap:=hr.1;have HBK:Hid (Bk.Book l):=hbk;have HRW:Hid (∀W,Bl w W→BEL W ao cap l):=fun W hW=>BEL.below hr hW;have HS:Hid (∀W,W=(w.alloc (.cells #[.slice ao l.length cap] 186)).alloc (.cells #[.int .i64 vid,.int .u64 addr,.int .i64 0,.int .i64 0] 291)→Calls Tryz.prog 78 #[.int .i64 l.length,.func (.func 213) #[] #[.pointer (some ⟨w.heap.size,0,none⟩),.pointer (some ⟨w.heap.size+1,0,none⟩)]] W fun e w'=>∃k:Nat,e=.returned (.int .i64 k)∧k≤l.length∧Hid ((∀i,i<k→Bk.lt (at' l i) (sought vid addr))∧(∀i,k≤i→i<l.length→¬Bk.lt (at' l i) (sought vid addr)))∧w'.heap[w.heap.size]?=some (.cells #[.slice ao l.length cap] 186)∧w'.heap[w.heap.size+1]?=some (.cells #[.int .i64 vid,.int .u64 addr,.int .i64 0,.int .i64 0] 291)∧Hid (Bl w w')):=by
  intro W hW;have hb:Bl w W:=(by rw[hW];exact bA2 _ _ _)
  have h0:W.heap[w.heap.size]?=some (.cells #[.slice ao l.length cap] 186):=(by rw[hW];exact heap_alloc2_old w _ _)
  have h1:W.heap[w.heap.size+1]?=some (.cells #[.int .i64 vid,.int .u64 addr,.int .i64 0,.int .i64 0] 291):=(by rw[hW];exact heap_alloc2_new w _ _)
  refine(bsearch_any _ _ ao cap l (sought vid addr) W HBK.out (HRW.out W hb) (cell_of_row W _ 0 _ _ _ h0) h1).mono ?_;rintro e w' ⟨k,rfl,hk,hx,hb'⟩;exact⟨k,rfl,hk,hx,keep h0 hb',keep h1 hb',hb.trans (hb'.mono hb.size)⟩
 clear hr hbk;go_enter Tryz.func195,Tryz.ntmps195;go_wp2_with (go_at_call 78;refine(HS.out _ rfl).mono ?_;rintro e w1 ⟨k,rfl,hk,HX,q1,q2,HBB⟩)
 have HSP:Hid (Bk.Spot l (sought vid addr) k):=⟨hk,HX.out⟩
 have HXX:Hid (Bl w1 w1):=Below.refl _ _;have HFIN:Hid (∀W,Bl w1 W→Bl w W):=fun W hW=>HBB.out.trans (hW.mono HBB.out.size);have HLC:Hid (∀W,Bl w1 W→W.cell? ⟨w.heap.size,0,none⟩=some (.slice ao l.length cap)):=fun W hW=>cell_of_row W _ 0 _ _ _ (keep q1 hW);have HSC:Hid (∀W,Bl w1 W→W.cell? ⟨w.heap.size+1,0,none⟩=some (.int .i64 vid)∧W.cell? ⟨w.heap.size+1,1,none⟩=some (.int .u64 addr)∧W.cell? ⟨w.heap.size+1,2,none⟩=some (.int .i64 0)∧W.cell? ⟨w.heap.size+1,3,none⟩=some (.int .i64 0)):=fun W hW=>en_cells (keep q2 hW);have l0:=HLC.out w1 HXX.out;obtain⟨s0,s1,s2,s3⟩:=HSC.out w1 HXX.out;clear HS HX q1 q2;by_cases hlt:k<l.length
 ·obtain⟨b,off,rfl,hb⟩:=(HRW.out w1 HBB.out).place (by omega);have HJC:Hid (∀W,Bl w1 W→W.cell? ⟨b,off+k*4,none⟩=some (.int .i64 (at' l k).vid)∧W.cell? ⟨b,off+k*4+1,none⟩=some (.int .u64 (at' l k).addr)∧W.cell? ⟨b,off+k*4+2,none⟩=some (.int .i64 (at' l k).port)∧W.cell? ⟨b,off+k*4+3,none⟩=some (.int .i64 (at' l k).age)):=fun W hW=>BEL.cells (HRW.out W (HFIN.out W hW)) hlt;have HBE:Hid (∀W,Bl w1 W→Calls Tryz.prog 192 #[.agg #[.int .i64 (at' l k).vid,.int .u64 (at' l k).addr,.int .i64 (at' l k).port,.int .i64 (at' l k).age],.agg #[.int .i64 vid,.int .u64 addr,.int .i64 0,.int .i64 0]] W fun e w'=>e=.returned (.int .i64 (Bk.cmp (at' l k) (sought vid addr)))∧Hid (Bl w1 w')):=fun W hW=>(border_any (at' l k) (sought vid addr) W).mono (fun e w' h=>⟨h.1,hW.trans (h.2.mono hW.size)⟩);have HKN:Hid ((Bk.cmp (at' l k) (sought vid addr) == 0)=decide (Bk.Known l (sought vid addr))):=by
   have h:=HSP.out.known HBK.out;show(Bk.cmp (at' l k) (sought vid addr) == 0)=decide (Bk.Known l (sought vid addr));rw[cmp_eql];exact decide_eq_decide.2 ⟨fun q=>h.2 ⟨hlt,q⟩,fun q=>(h.1 q).2⟩
  obtain⟨t0,t1,t2,t3⟩:=HJC.out w1 HXX.out;clear HBK;generalize Bk.cmp (at' l k) (sought vid addr)=cm at *;generalize at' l k=x at *;have hkz:(k:Int)<(l.length:Int):=(by omega)
  go_region_held3 (fun W=>W.cell? ⟨w.heap.size,0,none⟩=some (.slice (some ⟨b,off,none⟩) l.length cap)∧(W.cell? ⟨w.heap.size+1,0,none⟩=some (.int .i64 vid)∧W.cell? ⟨w.heap.size+1,1,none⟩=some (.int .u64 addr)∧W.cell? ⟨w.heap.size+1,2,none⟩=some (.int .i64 0)∧W.cell? ⟨w.heap.size+1,3,none⟩=some (.int .i64 0))∧W.cell? ⟨b,off+k*4,none⟩=some (.int .i64 x.vid)∧W.cell? ⟨b,off+k*4+1,none⟩=some (.int .u64 x.addr)∧W.cell? ⟨b,off+k*4+2,none⟩=some (.int .i64 x.port)∧W.cell? ⟨b,off+k*4+3,none⟩=some (.int .i64 x.age))
   (first | (exact⟨HLC.out _ (Below.drew HXX.out),HSC.out _ (Below.drew HXX.out),HJC.out _ (Below.drew HXX.out)⟩) | (exact⟨HLC.out _ (Hid.out (by assumption)),HSC.out _ (Hid.out (by assumption)),HJC.out _ (Hid.out (by assumption))⟩))
   (first | (go_at_call 192;refine(HBE.out _ (Below.drew HXX.out)).mono ?_;rintro e w3 ⟨rfl,HB3⟩))
  (go_wp2_with fail);go_ret2;exact⟨k,by rw[←HKN.out];rfl,HSP.out,HFIN.out _ HB3.out⟩
 ·have HKN:Hid (decide (Bk.Known l (sought vid addr))=false):=by
   have h:=HSP.out.known HBK.out;exact decide_eq_false (fun q=>hlt (h.1 q).1)
  have hkz:¬((k:Int)<(l.length:Int)):=(by omega)
  (go_quiet (fail));(go_wp2_with fail);go_ret2;exact⟨k,by rw[HKN.out];rfl,HSP.out,HFIN.out _ (below_drewN HXX.out _)⟩
end
end Go.Proofs.YtflghpnpjmodaaaGreatDoor
