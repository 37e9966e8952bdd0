/- GMd -/
import Derived.Test.YtelebnancdjjiaaGreatDoorE01
import Derived.Laws.IdiomStrings
import GoSem.Claim
import Derived.Deep.QuietTactic
set_option maxRecDepth 100000
set_option maxHeartbeats 40000000
namespace Go.Proofs.YtelebnancdjjiaaGreatDoor
section
open Go.Proofs.Tryz Go.RowKit
namespace Rg
def wayErr (last v t:Int):Int:=if (1<=v/\v<=4094)/\1<=t/\t<=15 then(if v<=last then 2 else 0) else 3
def last (vs:Nat->Int) (k:Nat):Int:=if k=0 then 0 else vs (k-1)
def wrongTo (vs ts:Nat->Int):Nat->Int
 | 0=>0
 | k+1=>if wrongTo vs ts k=0 then wayErr (last vs k) (vs k) (ts k) else wrongTo vs ts k
theorem wrongTo_stay (vs ts:Nat->Int) (k:Nat) (h:wrongTo vs ts k≠0):∀n,k<=n->wrongTo vs ts n=wrongTo vs ts k:=by
 intro n hn;induction n with
 | zero =>
  obtain rfl:k=0:=om
  rfl
 | succ n ih =>
  by_cases e:k=n+1
  ·subst e;rfl
  ·have h1:=ih om;simp only[wrongTo];rw[iN (by rw[h1];exact h),h1]
theorem wrongTo_here (vs ts:Nat->Int) (k n:Nat) (hk:k<n) (h0:wrongTo vs ts k=0) (h:wayErr (last vs k) (vs k) (ts k)≠0):wrongTo vs ts n=wayErr (last vs k) (vs k) (ts k):=by
 have h1:wrongTo vs ts (k+1)=wayErr (last vs k) (vs k) (ts k):=(by simp only[wrongTo];rw[iP h0])
 rw[wrongTo_stay vs ts (k+1) (by rw[h1];exact h) n om,h1]
theorem wrongTo_succ (vs ts:Nat->Int) (k:Nat) (h0:wrongTo vs ts k=0) (h:wayErr (last vs k) (vs k) (ts k)=0):wrongTo vs ts (k+1)=0:=by
 simp only[wrongTo];rw[iP h0];exact h
theorem wayErr_zero {l v t:Int}(h:wayErr l v t=0):(1<=v/\v<=4094)/\(1<=t/\t<=15)/\l<v:=by
 unfold wayErr at h;by_cases c:(1<=v/\v<=4094)/\1<=t/\t<=15
 ·rw[iP c] at h;by_cases d:v<=l
  ·rw[iP d] at h;cases h
  ·exact⟨c.1,c.2,om⟩
 ·rw[iN c] at h;cases h
structure Right (vs ts:Nat->Int) (n:Nat):Prop where
 vid:∀i,i<n->1<=vs i/\vs i<=4094
 tree:∀i,i<n->1<=ts i/\ts i<=15
 less:∀i j,i<j->j<n->vs i<vs j
theorem right_of {vs ts:Nat->Int}:∀{n:Nat},wrongTo vs ts n=0->Right vs ts n
 | 0,_=>⟨λi h=>by omega,λi h=>by omega,λi j _ h=>by omega⟩
 | n+1,h=>by
  have h0:wrongTo vs ts n=0:=by
   by_cases c:wrongTo vs ts n=0
   ·exact c
   ·simp only[wrongTo] at h;rw[iN c] at h;exact h
  have hw:wayErr (last vs n) (vs n) (ts n)=0:=(by simp only[wrongTo] at h;rw[iP h0] at h;exact h)
  obtain⟨r1,r2,r3⟩:=right_of h0;obtain⟨q1,q2,q3⟩:=wayErr_zero hw;refine⟨λi hi => ?_,λi hi => ?_,λi j aa hj => ?_⟩
  ·by_cases e:i=n
   ·subst e;exact q1
   ·exact r1 i om
  ·by_cases e:i=n
   ·subst e;exact q2
   ·exact r2 i om
  ·by_cases e:j=n
   ·subst e;unfold last at q3;rw[iN om] at q3;by_cases e2:i=j-1
    ·subst e2;exact q3
    ·have:=r3 i (j-1) om om;omega
   ·exact r3 i j aa om
theorem Right.low {vs ts:Nat->Int}{n:Nat}(h:Right vs ts n):∀i,i<n->(i:Int)+1<=vs i
 | 0,hi=>by have:=(h.vid 0 hi).1;omega
 | i+1,hi=>by have:=Right.low h i om;have:=h.less i (i+1) om hi;omega
theorem Right.many {vs ts:Nat->Int}{n:Nat}(h:Right vs ts n):n<=4094:=by
 rcases Nat.eq_zero_or_pos n with e | e
 ·omega
 ·have h1:=h.low (n-1) om;have h2:=(h.vid (n-1) om).2;omega
def tree (vs ts:Nat->Int) (v:Int):Nat->Int
 | 0=>0
 | k+1=>if vs k=v then ts k else tree vs ts v k
theorem tree_none (vs ts:Nat->Int) (v:Int):∀n,(∀i,i<n->vs i≠v)->tree vs ts v n=0
 | 0,_=>rfl
 | n+1,h=>by
  simp only[tree];rw[iN (h n om)];exact tree_none vs ts v n (λi hi=>h i om)
theorem tree_at {vs ts:Nat->Int}{n:Nat}(h:Right vs ts n) (i:Nat) (hi:i<n):∀m,i<m->m<=n->tree vs ts (vs i) m=ts i
 | 0,hm,_=>by omega
 | m+1,hm,hn=>by
  simp only[tree];by_cases e:i=m
  ·subst e;rw[iP rfl]
  ·have:=h.less i m om om;rw[iN om];exact tree_at h i hi m om om
theorem tree_range {vs ts:Nat->Int}{n:Nat}(h:Right vs ts n) (v:Int):∀m,m<=n->0<=tree vs ts v m/\tree vs ts v m<=15
 | 0,_=>by simp[tree]
 | m+1,hm=>by
  simp only[tree];by_cases e:vs m=v
  ·rw[iP e];have:=h.tree m om;omega
  ·rw[iN e];exact tree_range h v m om
def pairs (vs ts:Nat->Int) (n i:Nat):Int:=if i%2=0 then 0 else tree vs ts ((i/2:Nat):Int) n
theorem pairs_range {vs ts:Nat->Int}{n:Nat}(h:Right vs ts n) (i:Nat):0<=pairs vs ts n i/\pairs vs ts n i<=255:=by
 unfold pairs;by_cases e:i%2=0
 ·rw[iP e];omega
 ·rw[iN e];have:=tree_range h ((i/2:Nat):Int) n (b0g _);omega
theorem pairs_even (vs ts:Nat->Int) (n k:Nat):pairs vs ts n (2*k)=0:=by unfold pairs;rw[iP om]
theorem pairs_odd (vs ts:Nat->Int) (n k:Nat):pairs vs ts n (2*k+1)=tree vs ts (k:Int) n:=by
 unfold pairs;rw[iN om,show(2*k+1)/2=k by omega]
def nb (s:ByteArray) (i:Nat):Int:=((s.data.toList.getD i 0).toNat:Int)
def odd (c:Int):Bool:=decide (c<32)||decide (126<c)
def anyOdd (f:Nat->Int):Nat->Bool
 | 0=>false
 | k+1=>anyOdd f k||odd (f k)
theorem anyOdd_iff (f:Nat->Int):∀n,anyOdd f n=true↔∃i,i<n/\odd (f i)=true
 | 0=>by simp[anyOdd]
 | n+1=>by
  simp only[anyOdd,Bool.or_eq_true];rw[anyOdd_iff f n];constructor
  ·rintro(⟨i,hi,h⟩ | h)
   ·exact⟨i,om,h⟩
   ·exact⟨n,om,h⟩
  ·rintro⟨i,hi,h⟩;by_cases e:i=n
   ·subst e;exact Or.inr h
   ·exact Or.inl ⟨i,om,h⟩
theorem anyOdd_here (f:Nat->Int) (k n:Nat) (hk:k<n) (h:odd (f k)=true):anyOdd f n=true:=(anyOdd_iff f n).2 ⟨k,hk,h⟩
theorem anyOdd_next (f:Nat->Int) (k:Nat) (h0:anyOdd f k=false) (h:odd (f k)=false):anyOdd f (k+1)=false:=by simp[anyOdd,h0,h]
def isName (s:ByteArray):Bool:=decide (1<=s.size)&&decide (s.size<=32) && !anyOdd (nb s) s.size
theorem isName_parts {s:ByteArray}(h:isName s=true):1<=s.size/\s.size<=32/\∀i,i<s.size->32<=nb s i/\nb s i<=126:=by
 unfold isName at h;simp only[Bool.and_eq_true,decide_eq_true_eq,Bool.not_eq_true'] at h;refine⟨h.1.1,h.1.2,λi hi => ?_⟩;have h2:¬odd (nb s i)=true:=λc=>by
  have:=(anyOdd_iff (nb s) s.size).2 ⟨i,hi,c⟩;rw[h.2] at this;cases this
 unfold odd at h2;simp only[Bool.or_eq_true,decide_eq_true_eq] at h2;omega
def wrong (s:ByteArray) (rev:Int) (vs ts:Nat->Int) (n:Nat):Int :=
 if isName s=true then(if 0<=rev/\rev<=65535 then wrongTo vs ts n else 3) else 7
theorem wrong_zero {s:ByteArray}{aa:Int}{vs ts:Nat->Int}{n:Nat}(h:wrong s aa vs ts n=0):isName s=true/\(0<=aa/\aa<=65535)/\Right vs ts n:=by
 unfold wrong at h;by_cases c:isName s=true
 ·rw[iP c] at h;by_cases d:0<=aa/\aa<=65535
  ·rw[iP d] at h;exact⟨c,d,right_of h⟩
  ·rw[iN d] at h;cases h
 ·rw[iN c] at h;cases h
def ident (s:ByteArray) (rev:Int) (d:Nat->Int) (i:Nat):Int :=
 if i<32 then(if i<s.size then nb s i else 0) else if i=32 then rev/256 else if i=33 then rev%256 else d (i-34)
end Rg
theorem a0G (n l m:Int) (w:World) :
  Calls prog 63 #[Iv n,Iv l,Iv m] w λe w'=>e=.returned (.bool (decide (l<=n/\n<=m)))/\w'=w:=by
 by_cases h1:l<=n<;>by_cases h2:n<=m
 all_goals
  go_enter func63,ntmps63;go_wp2
  go_ret;exact⟨by simp[h1,h2],rfl⟩
theorem a6B (c:Int) (w:World) :
  Calls prog 177 #[.int .u8 c] w λe w'=>e=.returned (.bool (Rg.odd c))/\w'=w:=by
 unfold Rg.odd;by_cases h1:c<32<;>by_cases h2:126<c
 all_goals
  go_enter func177,ntmps177;go_wp2
  go_ret;exact⟨by simp[h1,h2],rfl⟩
theorem a7g (ao:OA) (n cap:Nat) (bs:Nat->Int) (w:World) (hn:n<=32) (hr:ByteRow w ao n cap bs) :
  Calls prog 201 #[.slice ao n cap,.func (.func 177) #[] #[]] w λe w'=>∃r:Int,e=.returned (Iv r)/\decide (0<=r)=Rg.anyOdd bs n/\w'=w:=by
 have HR:Hid (ByteRow w ao n cap bs):=hr;clear hr;go_enter func201,ntmps201;(go_wp2_with fail);go_loopw [8] (λi wr=>∃k:Nat,k<=n/\i=Iv k/\Hid (Rg.anyOdd bs k=false)/\wr=w) (λi _=>n-(intOf i).toNat)
 case atStart=>exact⟨0,om,rfl,rfl,rfl⟩
 case round =>
  obtain⟨k,hk,rfl,hX,rfl⟩:=hrel;by_cases hlt:k<n
  ·obtain⟨b,off,rfl,hb,hc⟩:=HR.o.2 om;have aa:=HR.o.1;have c4:wr.cell? (Pv b (off+k))=some (.int .u8 (bs k)):=hc k hlt;have ac:Hid (Rg.odd (bs k)=true->Rg.anyOdd bs n=true):=λh=>Rg.anyOdd_here bs k n hlt h;have ab:Hid (Rg.odd (bs k)=false->Rg.anyOdd bs (k+1)=false):=λh=>Rg.anyOdd_next bs k hX.o h;clear hc HR hX;generalize bs k=c at *;cases ho:Rg.odd c with
   | true =>
    have HO:Hid (Rg.odd c=true):=ho;clear ho;go_wp2_with (go_at_call 177;refine(a6B _ _).mono ?_;rintro e w1 ⟨rfl,rfl⟩;rw[HO.o])
    go_ret;exact⟨_,rfl,by rw[ac.o HO.o];simp,rfl⟩
   | false =>
    have HO:Hid (Rg.odd c=false):=ho;clear ho;go_wp2_with (go_at_call 177;refine(a6B _ _).mono ?_;rintro e w1 ⟨rfl,rfl⟩;rw[HO.o])
    exact⟨⟨k+1,om,gn,ab.o HO.o,trivial⟩,io⟩
  ·obtain rfl:k=n:=om
   go_wp2
   go_ret;exact⟨_,rfl,by rw[hX.o];decide,rfl⟩
theorem a4F (ao:OA) (n cap:Nat) (bs:Nat->Int) (w:World) (hn:n<=32) (hr:ByteRow w ao n cap bs) :
  Calls prog 178 #[.slice ao n cap,.func (.func 177) #[] #[]] w λe w'=>e=.returned (.bool (Rg.anyOdd bs n))/\w'=w:=by
 have HR:Hid (ByteRow w ao n cap bs):=hr;clear hr;go_enter func178,ntmps178;go_wp2_with (go_at_call 201;refine(a7g _ _ _ bs _ hn HR.o).mono ?_;rintro e w1 ⟨r,rfl,hq,rfl⟩;have HQ:Hid (decide (0<=r)=Rg.anyOdd bs n):=hq;clear hq)
 go_ret;exact⟨by rw[HQ.o];rfl,rfl⟩
theorem a3l (w:World) (s:ByteArray):∃cap ab w1,(convert 9 29 (.string s)).run prog w=.ok (.slice (some (Pv w.heap.size 0)) s.size cap) w1/\ByteRow w1 (some (Pv w.heap.size 0)) s.size cap (Rg.nb s)/\Bl w w1/\w1.heap.size=w.heap.size+1 /\
  w1.heap[w.heap.size]?=some (.cells ab 5 (ab.size,ab.size+1))/\ab.size=cap/\s.size<=cap:=by
 have aa:=run_bytes_of_string (P:=prog) w 9 29 5 s underlying9 underlying29 underlying5;generalize hcap:grownCap w s.size 0 5=cap at aa;have ad:s.size<=cap:=(by rw[<-hcap];exact grownCap_ge w s.size 0 5)
 have ae:(bytesRow s cap).size=cap:=by
  have h1:s.data.size=s.size:=rfl;simp only[bytesRow,Array.size_append,Array.size_map,Array.size_replicate];omega
 refine⟨cap,bytesRow s cap,_,aa,⟨ad,λ_=>⟨w.heap.size,0,rfl,by simp,λi hi => ?_⟩⟩,(b0h _ _).drew.alloc (by simp) _,by simp,?_,ae,ad⟩
 ·have hh:(w.drew.alloc (.cells (bytesRow s cap) 5 ((bytesRow s cap).size,(bytesRow s cap).size+1))).heap[w.heap.size]?=some (.cells (bytesRow s cap) 5 ((bytesRow s cap).size,(bytesRow s cap).size+1)):=a9Z w.drew _;refine(a9Y _ _ _ _ _ _ hh).trans ?_;unfold bytesRow Rg.nb;have ac:i<s.data.size:=hi;rw[Nat.zero_add,Array.getElem?_append_left (by simpa using ac)];simp[List.getD,Array.getElem?_eq_getElem ac]
 ·exact a9Z w.drew _
theorem a2U (s:ByteArray) (w:World) :
  Calls prog 122 #[.string s] w λe w'=>e=.returned (.bool (Rg.isName s))/\Bl w w':=by
 by_cases c:1<=s.size/\s.size<=32
 ·have c1:decide ((1:Int)<=(s.size:Int)/\(s.size:Int)<=32)=true:=b0k om;have e1:Rg.isName s=!Rg.anyOdd (Rg.nb s) s.size:=(by unfold Rg.isName;simp[c.1,c.2])
  rw[e1];obtain⟨cap,ab,w1,aa,hr,hb,_,_,_,_⟩:=a3l w s;have HR:Hid (ByteRow w1 (some (Pv w.heap.size 0)) s.size cap (Rg.nb s)):=hr;have HB:Hid (Bl w w1):=hb;have hs:=c.2;clear hr hb e1 c;go_enter func122,ntmps122;go_wp2_with (first | (go_at_call 63;refine(a0G _ _ _ _).mono ?_;rintro e w2 ⟨rfl,rfl⟩;rw[c1]) | (go_at_call 178;refine(a4F _ _ _ _ _ hs HR.o).mono ?_;rintro e w2 ⟨rfl,rfl⟩))
  go_ret;exact⟨rfl,HB.o⟩
 ·have c1:decide ((1:Int)<=(s.size:Int)/\(s.size:Int)<=32)=false:=b0j om;have e1:Rg.isName s=false:=by
   unfold Rg.isName;by_cases c2:1<=s.size
   ·have c3:¬s.size<=32:=λh=>c ⟨c2,h⟩;simp[c3]
   ·simp[c2]
  rw[e1];clear e1 c;go_enter func122,ntmps122;go_wp2_with (go_at_call 63;refine(a0G _ _ _ _).mono ?_;rintro e w2 ⟨rfl,rfl⟩;rw[c1])
  go_ret;exact⟨rfl,b0h _ _⟩
def WayRow (w:World) (ao:OA) (n cap:Nat) (vs ts:Nat->Int):Prop :=
 n<=cap/\(0<n->∃b off,ao=some (Pv b off)/\b<w.heap.size/\∀i,i<n->w.cell? (Pv b (off+i*2))=some (Iv (vs i))/\w.cell? (Pv b (off+i*2+1))=some (Iv (ts i)))
theorem WayRow.below {w w':World}{ao:OA}{n cap:Nat}{vs ts:Nat->Int}(h:WayRow w ao n cap vs ts) (hb:Bl w w'):WayRow w' ao n cap vs ts:=by
 refine⟨h.1,λhp => ?_⟩;obtain⟨b,off,e,aa,hc⟩:=h.2 hp;exact⟨b,off,e,b0q aa hb.size,λi hi=>⟨(hb.cell (by exact aa)).trans (hc i hi).1,(hb.cell (by exact aa)).trans (hc i hi).2⟩⟩
theorem a8r (ao:OA) (n cap:Nat) (vs ts:Nat->Int) (w:World) (hn:n<=9223372036854775807) (hr:WayRow w ao n cap vs ts) :
  Calls prog 123 #[.slice ao n cap] w λe w'=>e=.returned (Iv (Rg.wrongTo vs ts n))/\Bl w w':=by
 have HR:Hid (WayRow w ao n cap vs ts):=hr;clear hr;go_enter func123,ntmps123;(go_wp2_with fail);go_loopw [3,8] (λa i wr=>∃k:Nat,k<=n/\i=Iv k/\a=Iv (Rg.last vs k)/\Hid (Rg.wrongTo vs ts k=0)/\Hid (Bl w wr)) (λ_ i _=>n-(intOf i).toNat)
 case atStart=>exact⟨0,om,rfl,rfl,rfl,b0h _ _⟩
 case round =>
  obtain⟨k,hk,rfl,rfl,hX,hB⟩:=hrel;by_cases hlt:k<n
  ·obtain⟨b,off,rfl,hb,hc⟩:=HR.o.2 om;have ab:=HR.o.1;have ac:b<wr.heap.size:=b0q hb hB.o.size;have c0:wr.cell? (Pv b (off+k*2))=some (Iv (vs k)):=(hB.o.cell (by exact hb)).trans (hc k hlt).1;have c1:wr.cell? (Pv b (off+k*2+1))=some (Iv (ts k)):=(hB.o.cell (by exact hb)).trans (hc k hlt).2;have HE:Hid (Rg.wayErr (Rg.last vs k) (vs k) (ts k)≠0->Rg.wrongTo vs ts n=Rg.wayErr (Rg.last vs k) (vs k) (ts k)):=λh=>Rg.wrongTo_here vs ts k n hlt hX.o h;have HZ:Hid (Rg.wayErr (Rg.last vs k) (vs k) (ts k)=0->Rg.wrongTo vs ts (k+1)=0):=λh=>Rg.wrongTo_succ vs ts k hX.o h;have HL:Hid (Rg.last vs (k+1)=vs k):=by show Rg.last vs (k+1)=vs k;unfold Rg.last;rw[iN om];rfl
   have aa:Hid (∀o,Bl w (wr.alloc o)):=λo=>hB.o.alloc hB.o.size _;clear hc HR hX hB;generalize Rg.last vs k=l at *;generalize vs k=v at *;generalize ts k=t at *;by_cases h1:1<=v/\v<=4094
   ·have d1:decide (1<=v/\v<=4094)=true:=b0k h1;by_cases h2:1<=t/\t<=15
    ·have d2:decide (1<=t/\t<=15)=true:=b0k h2;by_cases h3:v<=l
     ·have HW:Hid (Rg.wayErr l v t=2):=by show Rg.wayErr l v t=2;unfold Rg.wayErr;rw[iP ⟨h1,h2⟩,iP h3]
      clear h1 h2;go_wp2_with (go_at_call 63;refine(a0G _ _ _ _).mono ?_;rintro e w2 ⟨rfl,rfl⟩;first | rw[d1] | rw[d2])
      go_ret;exact⟨by rw[HE.o (by rw[HW.o];decide),HW.o];rfl,aa.o _⟩
     ·have HW:Hid (Rg.wayErr l v t=0):=by show Rg.wayErr l v t=0;unfold Rg.wayErr;rw[iP ⟨h1,h2⟩,iN h3]
      clear h1 h2;go_wp2_with (go_at_call 63;refine(a0G _ _ _ _).mono ?_;rintro e w2 ⟨rfl,rfl⟩;first | rw[d1] | rw[d2])
      exact⟨⟨k+1,om,gn,by rw[HL.o],HZ.o HW.o,aa.o _⟩,io⟩
    ·have d2:decide (1<=t/\t<=15)=false:=b0j h2;have HW:Hid (Rg.wayErr l v t=3):=by show Rg.wayErr l v t=3;unfold Rg.wayErr;rw[iN (λh=>h2 h.2)]
     clear h1 h2;go_wp2_with (go_at_call 63;refine(a0G _ _ _ _).mono ?_;rintro e w2 ⟨rfl,rfl⟩;first | rw[d1] | rw[d2])
     go_ret;exact⟨by rw[HE.o (by rw[HW.o];decide),HW.o];rfl,aa.o _⟩
   ·have d1:decide (1<=v/\v<=4094)=false:=b0j h1;have HW:Hid (Rg.wayErr l v t=3):=by show Rg.wayErr l v t=3;unfold Rg.wayErr;rw[iN (λh=>h1 h.1)]
    clear h1;go_wp2_with (go_at_call 63;refine(a0G _ _ _ _).mono ?_;rintro e w2 ⟨rfl,rfl⟩;rw[d1])
    go_ret;exact⟨by rw[HE.o (by rw[HW.o];decide),HW.o];rfl,aa.o _⟩
  ·obtain rfl:k=n:=om
   go_wp2
   go_ret;exact⟨by rw[hX.o];rfl,hB.o⟩
theorem a2d {w:World}{g:Nat}{a0 a1 a2:Value}{ty:TypeId}(h:w.heap[g]?=some (.cells #[a0,a1,a2] ty (0,0))) :
  w.cell? (Pv g 0)=some a0/\w.cell? (Pv g 1)=some a1/\w.cell? (Pv g 2)=some a2 :=
 ⟨a9Y w g 0 _ _ _ h,a9Y w g 1 _ _ _ h,a9Y w g 2 _ _ _ h⟩
theorem a4l (s:ByteArray) (aa:Int) (ao:OA) (n cap:Nat) (vs ts:Nat->Int) (w:World) (hn:n<=9223372036854775807) (hr:WayRow w ao n cap vs ts) :
  Calls prog 82 #[.agg #[.string s,Iv aa,.slice ao n cap]] w λe w'=>e=.returned (Iv (Rg.wrong s aa vs ts n))/\Bl w w':=by
 have HR:Hid (WayRow w ao n cap vs ts):=hr;clear hr;have HB:Hid (∀w1:World,Below (w.alloc (.cells #[.string s,Iv aa,.slice ao n cap] 63)).heap.size (w.alloc (.cells #[.string s,Iv aa,.slice ao n cap] 63)) w1->w1.cell? (Pv w.heap.size 1)=some (Iv aa)/\w1.cell? (Pv w.heap.size 2)=some (.slice ao n cap)/\Hid (Bl w w1)):=by
  intro w1 hb;have h:=a2d ((hb.block _ (by simp)).trans (a9Z w (.cells #[.string s,Iv aa,.slice ao n cap] 63)));exact⟨h.2.1,h.2.2,(bA1 w _).trans (hb.mono (by simp))⟩
 unfold Rg.wrong;cases hnm:Rg.isName s with
 | false =>
  have HN:Hid (Rg.isName s=false):=hnm;clear hnm;rw[iN dd];go_enter func82,ntmps82;go_wp2_with (go_at_call 122;refine(a2U _ _).mono ?_;rintro e w1 ⟨rfl,hb⟩;rw[HN.o];obtain⟨q1,q2,ab⟩:=HB.o _ hb;clear hb)
  go_ret;exact⟨rfl,ab.o⟩
 | true =>
  have HN:Hid (Rg.isName s=true):=hnm;clear hnm;rw[iP rfl];by_cases h1:0<=aa/\aa<=65535
  ·rw[iP h1];have d1:decide (0<=aa/\aa<=65535)=true:=b0k h1;clear h1;go_enter func82,ntmps82;go_wp2_with (first | (go_at_call 122;refine(a2U _ _).mono ?_;rintro e w1 ⟨rfl,hb⟩;rw[HN.o];obtain⟨q1,q2,ab⟩:=HB.o _ hb;clear hb) | (go_at_call 63;refine(a0G _ _ _ _).mono ?_;rintro e w2 ⟨rfl,rfl⟩;rw[d1]) | (go_at_call 123;refine(a8r _ _ _ _ _ _ hn (HR.o.below ab.o)).mono ?_;rintro e w3 ⟨rfl,ac⟩))
   go_ret;exact⟨rfl,ab.o.trans (ac.mono ab.o.size)⟩
  ·rw[iN h1];have d1:decide (0<=aa/\aa<=65535)=false:=b0j h1;clear h1;go_enter func82,ntmps82;go_wp2_with (first | (go_at_call 122;refine(a2U _ _).mono ?_;rintro e w1 ⟨rfl,hb⟩;rw[HN.o];obtain⟨q1,q2,ab⟩:=HB.o _ hb;clear hb) | (go_at_call 63;refine(a0G _ _ _ _).mono ?_;rintro e w2 ⟨rfl,rfl⟩;rw[d1]))
   go_ret;exact⟨rfl,ab.o⟩
theorem a8s (Br Bv:Nat) (ao:OA) (n cap:Nat) (vs ts:Nat->Int) (vid:Int) (i:Nat) (w:World) (hr:WayRow w ao n cap vs ts) (hi:i<n) (hn:n<=4094) (h2:w.cell? (Pv Br 2)=some (.slice ao n cap)) (hv:w.cell? (Pv Bv 0)=some (Iv vid)) :
  Calls prog 117 #[Iv i,.pointer (some (Pv Br 0)),.pointer (some (Pv Bv 0))] w λe w'=>e=.returned (.bool (decide (vid<=vs i)))/\Bl w w':=by
 obtain⟨b,off,rfl,hb,hc⟩:=hr.2 om;have aa:=hr.1;have c0:w.cell? (Pv b (off+i*2))=some (Iv (vs i)):=(hc i hi).1;clear hr hc;generalize vs i=v at *;go_enter func117,ntmps117;go_wp2
 go_region
 all_goals go_wp2
 (all_goals go_ret);all_goals exact⟨rfl,a0d (b0h _ _) _⟩
theorem a5O (Br Bv:Nat) (ao:OA) (n cap:Nat) (vs ts:Nat->Int) (vid:Int) (w:World) (hr:WayRow w ao n cap vs ts) (hn:n<=4094) (hm:∀i j,i<j->j<n->vs i<vs j) (ab:Br<w.heap.size) (ac:Bv<w.heap.size) (h2:w.cell? (Pv Br 2)=some (.slice ao n cap)) (hv:w.cell? (Pv Bv 0)=some (Iv vid)) :
  Calls prog 116 #[Iv n,.func (.func 117) #[] #[.pointer (some (Pv Br 0)),.pointer (some (Pv Bv 0))]] w λe w'=>∃k:Nat,e=.returned (Iv k)/\k<=n/\((∀i,i<k->vs i<vid)/\(∀i,k<=i->i<n->vid<=vs i))/\Bl w w':=by
 have HC:Hid (∀W:World,Bl w W->∀i:Nat,i<n->Calls prog 117 #[Iv i,.pointer (some (Pv Br 0)),.pointer (some (Pv Bv 0))] W λe w'=>e=.returned (.bool (decide (vid<=vs i)))/\Bl W w') :=
  λW hW i hi=>a8s Br Bv ao n cap vs ts vid i W (hr.below hW) hi hn ((hW.cell (by exact ab)).trans h2) ((hW.cell (by exact ac)).trans hv)
 have HM:Hid (∀i j,i<j->j<n->vs i<vs j):=hm;clear hr hm h2 hv ab ac;go_enter func116,ntmps116;(go_wp2_with fail);go_loopw [5,6] (λx y wr=>∃lo hi:Nat,lo<=hi/\hi<=n/\x=Iv lo/\y=Iv hi/\Hid ((∀i,i<lo->vs i<vid)/\(∀i,hi<=i->i<n->vid<=vs i))/\Hid (Bl w wr)) (λx y _=>(intOf y-intOf x).toNat)
 case atStart=>exact⟨0,n,om,om,rfl,rfl,⟨λi hi=>by omega,λi h1 h2=>by omega⟩,b0h _ _⟩
 case round =>
  obtain⟨lo,hi,h1,h2,rfl,rfl,hX,hB⟩:=hrel;by_cases hlt:lo<hi
  ·have hc:=HC.o _ hB.o ((lo+hi)/2) om;rw[show(((lo+hi)/2:Nat):Int)=((lo:Int)+(hi:Int))/2 by omega] at hc;by_cases hp:vid<=vs ((lo+hi)/2)
   ·have d1:decide (vid<=vs ((lo+hi)/2))=true:=b0k hp;rw[d1] at hc;have HX:Hid ((∀i,i<lo->vs i<vid)/\(∀i,(lo+hi)/2<=i->i<n->vid<=vs i)):=by
     refine⟨hX.o.1,λi h3 h4 => ?_⟩;by_cases e:i=(lo+hi)/2
     ·subst e;exact hp
     ·have:=HM.o ((lo+hi)/2) i om h4;omega
    clear hX hp d1 HC HM;go_wp2_with (go_at_call 117;refine hc.mono ?_;rintro e w2 ⟨rfl,aa⟩)
    exact⟨⟨lo,(lo+hi)/2,om,om,rfl,by rw[show(((lo+hi)/2:Nat):Int)=((lo:Int)+(hi:Int))/2 by omega],HX,hB.o.trans (aa.mono hB.o.size)⟩,io⟩
   ·have d1:decide (vid<=vs ((lo+hi)/2))=false:=b0j hp;rw[d1] at hc;have HX:Hid ((∀i,i<(lo+hi)/2+1->vs i<vid)/\(∀i,hi<=i->i<n->vid<=vs i)):=by
     refine⟨λi h3 => ?_,hX.o.2⟩;by_cases e:i=(lo+hi)/2
     ·subst e;omega
     ·have:=HM.o i ((lo+hi)/2) om om;omega
    clear hX hp d1 HC HM;go_wp2_with (go_at_call 117;refine hc.mono ?_;rintro e w2 ⟨rfl,aa⟩)
    exact⟨⟨(lo+hi)/2+1,hi,om,om,by rw[show(((lo+hi)/2+1:Nat):Int)=((lo:Int)+(hi:Int))/2+1 by omega],rfl,HX,hB.o.trans (aa.mono hB.o.size)⟩,io⟩
  ·obtain rfl:lo=hi:=om
   go_wp2
   go_ret;exact⟨lo,rfl,h2,hX.o,hB.o⟩
theorem a3G (s:ByteArray) (ad:Int) (ao:OA) (n cap:Nat) (vs ts:Nat->Int) (vid:Int) (w:World) (hR:Rg.Right vs ts n) (hr:WayRow w ao n cap vs ts) :
  Calls prog 76 #[.agg #[.string s,Iv ad,.slice ao n cap],Iv vid] w λe w'=>e=.returned (Iv (Rg.tree vs ts vid n))/\Bl w w':=by
 have hn:=hR.many;have aa:Hid (Rg.Right vs ts n):=hR;have HR:Hid (WayRow w ao n cap vs ts):=hr;clear hr hR;have HS:Hid (∀W,W=(w.alloc (.cells #[.string s,Iv ad,.slice ao n cap] 63)).alloc (.cells #[Iv vid] 3)->Calls prog 116 #[Iv n,.func (.func 117) #[] #[.pointer (some (Pv w.heap.size 0)),.pointer (some (Pv (w.heap.size+1) 0))]] W λe w'=>∃k:Nat,e=.returned (Iv k)/\k<=n/\Hid ((∀i,i<k->vs i<vid)/\(∀i,k<=i->i<n->vid<=vs i))/\w'.cell? (Pv w.heap.size 2)=some (.slice ao n cap)/\w'.cell? (Pv (w.heap.size+1) 0)=some (Iv vid)/\Hid (Bl w w')):=by
  intro W hW;have hb:Bl w W:=(by rw[hW];exact bA2 _ _ _)
  have hh:W.heap[w.heap.size]?=some (.cells #[.string s,Iv ad,.slice ao n cap] 63):=(by rw[hW];exact b0d w _ _)
  have h0:=(a2d hh).2.2;have h1:W.cell? (Pv (w.heap.size+1) 0)=some (Iv vid):=a9Y W _ 0 _ _ _ (by rw[hW];exact b0c w _ (.cells #[Iv vid] 3));have z0:=b0r h0;have z1:=b0r h1;refine(a5O _ _ ao n cap vs ts vid W (HR.o.below hb) hn aa.o.less z0 z1 h0 h1).mono ?_;rintro e w' ⟨k,rfl,hk,hx,ac⟩;exact⟨k,rfl,hk,hx,(ac.cell (by exact z0)).trans h0,(ac.cell (by exact z1)).trans h1,hb.trans (ac.mono hb.size)⟩
 go_enter func76,ntmps76;go_wp2_with (go_at_call 116;refine(HS.o _ rfl).mono ?_;rintro e w1 ⟨k,rfl,hk,HX,q1,q2,ab⟩)
 by_cases hlt:k<n
 ·obtain⟨b,off,rfl,hb,hc⟩:=(HR.o.below ab.o).2 om;have ae:=HR.o.1;have c0:w1.cell? (Pv b (off+k*2))=some (Iv (vs k)):=(hc k hlt).1;have c1:w1.cell? (Pv b (off+k*2+1))=some (Iv (ts k)):=(hc k hlt).2;have af:(k:Int)<(n:Int):=om
  by_cases he:vs k=vid
  ·have HT:Hid (Rg.tree vs ts vid n=ts k):=(by rw[<-he];exact Rg.tree_at aa.o k hlt n hlt (b0g _))
   rw[he] at c0;clear hc HR aa HS HX he;generalize ts k=t at *;go_region
   all_goals go_wp2
   (all_goals go_ret);all_goals exact⟨by rw[HT.o];rfl,a0d ab.o _⟩
  ·have HT:Hid (Rg.tree vs ts vid n=0):=Rg.tree_none vs ts vid n (λi hi=>by
    have h3:=HX.o.1 i;have h4:=HX.o.2 k (b0g _) hlt;by_cases e1:i<k
    ·have:=h3 e1;omega
    ·by_cases e2:i=k
     ·subst e2;exact he
     ·have:=aa.o.less k i om hi;omega)
   have hd:decide (vs k=vid)=false:=b0j he;clear hc HR aa HS HX;generalize vs k=v at *;generalize ts k=t at *;go_region
   all_goals go_wp2
   (all_goals go_ret);all_goals exact⟨by rw[HT.o];rfl,a0d ab.o _⟩
 ·obtain rfl:k=n:=om
  have HT:Hid (Rg.tree vs ts vid k=0):=Rg.tree_none vs ts vid k (λi hi=>by have:=HX.o.1 i hi;omega);clear HR aa HS HX;go_region
  all_goals go_wp2
  (all_goals go_ret);all_goals exact⟨by rw[HT.o];rfl,a0d ab.o _⟩
namespace Md
def rowU (n:Nat) (f:Nat->Int) (k:Nat):Array Value:=((List.range n).map λi=>Tv (if i<k then f i else 0)).toArray
theorem rowU_size (n:Nat) (f:Nat->Int) (k:Nat):(rowU n f k).size=n:=by simp[rowU]
theorem rowU_get (n:Nat) (f:Nat->Int) (k j:Nat) (h:j<n):(rowU n f k)[j]?=some (Tv (if j<k then f j else 0)):=by
 simp[rowU,h]
theorem rowU_set (n:Nat) (f:Nat->Int) (k:Nat) (h:k<n):(rowU n f k).setIfInBounds k (Tv (f k))=rowU n f (k+1):=by
 apply Array.ext_getElem?
 intro i;by_cases hi:i<n
 ·rw[rowU_get n f (k+1) i hi,Array.getElem?_setIfInBounds];by_cases e:k=i
  ·subst e;simp[rowU_size,h]
  ·rw[iN e,rowU_get n f k i hi];have:(i<k)↔(i<k+1):=om
   simp[this]
 ·have h1:n<=i:=om
  rw[Array.getElem?_eq_none (by simp[rowU_size];omega),Array.getElem?_eq_none (by simp[rowU_size];omega)]
theorem rowU_all (n:Nat) (f:Nat->Int) (k:Nat):(rowU n f k).all (·.oneCell')=true:=by
 rw[Array.all_eq_true_iff_forall_mem];intro v hv;simp[rowU] at hv;obtain⟨i,_,rfl⟩:=hv;rfl
def rowB (n:Nat) (f:Nat->Int) (k:Nat):Array Value:=((List.range n).map λi=>Value.int .u8 (if i<k then f i else 0)).toArray
theorem rowB_size (n:Nat) (f:Nat->Int) (k:Nat):(rowB n f k).size=n:=by simp[rowB]
theorem rowB_get (n:Nat) (f:Nat->Int) (k j:Nat) (h:j<n):(rowB n f k)[j]?=some (.int .u8 (if j<k then f j else 0)):=by
 simp[rowB,h]
theorem rowB_set (n:Nat) (f:Nat->Int) (k:Nat) (h:k<n):(rowB n f k).setIfInBounds k (.int .u8 (f k))=rowB n f (k+1):=by
 apply Array.ext_getElem?
 intro i;by_cases hi:i<n
 ·rw[rowB_get n f (k+1) i hi,Array.getElem?_setIfInBounds];by_cases e:k=i
  ·subst e;simp[rowB_size,h]
  ·rw[iN e,rowB_get n f k i hi];have:(i<k)↔(i<k+1):=om
   simp[this]
 ·have h1:n<=i:=om
  rw[Array.getElem?_eq_none (by simp[rowB_size];omega),Array.getElem?_eq_none (by simp[rowB_size];omega)]
def wd (bs:Nat->Int) (i:Nat):Int :=
 bits BinOp.or IntKind.u32 (bits BinOp.or IntKind.u32 (bits BinOp.or IntKind.u32 (bs (4*i)%4294967296) (bs (4*i+1)%4294967296*256%4294967296)) (bs (4*i+2)%4294967296*65536%4294967296)) (bs (4*i+3)%4294967296*16777216%4294967296)
def tab:List Int:=[0xD76AA478,0xE8C7B756,0x242070DB,0xC1BDCEEE,0xF57C0FAF,0x4787C62A,0xA8304613,0xFD469501,
 0x698098D8,0x8B44F7AF,0xFFFF5BB1,0x895CD7BE,0x6B901122,0xFD987193,0xA679438E,0x49B40821,
 0xF61E2562,0xC040B340,0x265E5A51,0xE9B6C7AA,0xD62F105D,0x02441453,0xD8A1E681,0xE7D3FBC8,
 0x21E1CDE6,0xC33707D6,0xF4D50D87,0x455A14ED,0xA9E3E905,0xFCEFA3F8,0x676F02D9,0x8D2A4C8A,
 0xFFFA3942,0x8771F681,0x6D9D6122,0xFDE5380C,0xA4BEEA44,0x4BDECFA9,0xF6BB4B60,0xBEBFBC70,
 0x289B7EC6,0xEAA127FA,0xD4EF3085,0x04881D05,0xD9D4D039,0xE6DB99E5,0x1FA27CF8,0xC4AC5665,
 0xF4292244,0x432AFF97,0xAB9423A7,0xFC93A039,0x655B59C3,0x8F0CCC92,0xFFEFF47D,0x85845DD1,
 0x6FA87E4F,0xFE2CE6E0,0xA3014314,0x4E0811A1,0xF7537E82,0xBD3AF235,0x2AD7D2BB,0xEB86D391]
def trn:List Int:=[7,12,17,22,5,9,14,20,4,11,16,23,6,10,15,21]
def tabAt (i:Nat):Int:=tab.getD i 0
def trnAt (i:Nat):Int:=trn.getD i 0
theorem trnAt_range:∀i,i<16->0<=trnAt i/\trnAt i<32:=by decide
def rotl (x k:Int):Int:=bits BinOp.or IntKind.u32 (x*2 ^ k.toNat%4294967296) (x/2 ^ (32-k).toNat)
def fsel (i:Nat) (b c d:Int):Int :=
 if i<16 then bits BinOp.or IntKind.u32 (bits BinOp.and IntKind.u32 b c) (bits BinOp.and IntKind.u32 (bits BinOp.xor IntKind.u32 IntKind.u32.max b) d)
 else if i<32 then bits BinOp.or IntKind.u32 (bits BinOp.and IntKind.u32 b d) (bits BinOp.andNot IntKind.u32 c d)
 else if i<48 then bits BinOp.xor IntKind.u32 (bits BinOp.xor IntKind.u32 b c) d
 else bits BinOp.xor IntKind.u32 c (bits BinOp.or IntKind.u32 b (bits BinOp.xor IntKind.u32 IntKind.u32.max d))
def ksel (i:Nat):Nat :=
 if i<16 then i else if i<32 then(5*i+1)%16 else if i<48 then(3*i+5)%16 else 7*i%16
theorem ksel_lt (i:Nat):ksel i<16:=by
 unfold ksel;split
 ·assumption
 ·split
  ·omega
  ·split<;>omega
structure St where
 a:Int
 b:Int
 c:Int
 d:Int
def stV (s:St):Value:=.agg #[Tv s.a,Tv s.b,Tv s.c,Tv s.d]
theorem all4 (a b c d:Int):(#[Tv a,Tv b,Tv c,Tv d]:Array Value).all (·.oneCell')=true:=by
 rw[Array.all_eq_true_iff_forall_mem];intro v hv;simp at hv;rcases hv with rfl | rfl | rfl | rfl<;>rfl
def stp (bs:Nat->Int) (i:Nat) (s:St):St :=
 ⟨s.d,(s.b+rotl ((s.a+fsel i s.b s.c s.d+tabAt i+wd bs (ksel i))%4294967296) (trnAt (i/16*4+i%4)))%4294967296,s.b,s.c⟩
def runTo (bs:Nat->Int):Nat->St->St
 | 0,s=>s
 | k+1,s=>stp bs k (runTo bs k s)
def mixS (s:St) (bs:Nat->Int):St :=
 ⟨(s.a+(runTo bs 64 s).a)%4294967296,(s.b+(runTo bs 64 s).b)%4294967296,(s.c+(runTo bs 64 s).c)%4294967296,(s.d+(runTo bs 64 s).d)%4294967296⟩
def st0:St:=⟨1732584193,4023233417,2562383102,271733878⟩
def mixN (s:St) (bs:Nat->Int):Nat->St
 | 0=>s
 | k+1=>mixS (mixN s bs k) (λi=>bs (64*k+i))
def stA (s:St):Array Value:=#[Tv s.a,Tv s.b,Tv s.c,Tv s.d]
theorem stA_all (s:St):(stA s).all (·.oneCell')=true:=all4 _ _ _ _
theorem stA_size (s:St):(stA s).size=4:=rfl
def wordOf (s:St):Nat->Int
 | 0=>s.a
 | 1=>s.b
 | 2=>s.c
 | _=>s.d
def dg (s:St) (i:Nat):Int:=wordOf s (i/4)/2 ^ (8*(i%4))%256
end Md
theorem a6C:(prog.info? 295).map (·.size)=some 16:=by kernel_rfl
theorem a8t (b off cap:Nat) (bs:Nat->Int) (w:World) (hb:b<w.heap.size) (ab:64<=cap) (hc:∀i,i<64->w.cell? (Pv b (off+i))=some (.int .u8 (bs i))) :
  Calls prog 227 #[.slice (some (Pv b off)) 64 cap] w λe w'=>e=.returned (.agg (Md.rowU 16 (Md.wd bs) 16))/\Bl w w':=by
 go_enter func227,ntmps227;go_wp2
 go_loopw [6] (λi wr=>∃k:Nat,k<=16/\i=Iv k/\wr.heap[w.heap.size]?=some (.cells (Md.rowU 16 (Md.wd bs) 0) 295)/\wr.heap[w.heap.size+1]?=some (.cells (Md.rowU 16 (Md.wd bs) k) 295)/\Bl w wr) (λi _=>16-(intOf i).toNat)
 case atStart=>exact⟨0,om,rfl,b0d w _ _,b0c w _ _,((b0h _ _).alloc (b0g _) _).alloc (by simp) _⟩
 case round =>
  obtain⟨k,hk,rfl,hA,hB,aa⟩:=hrel;by_cases hlt:k<16
  ·have c0:wr.cell? (Pv b (off+4*k))=some (.int .u8 (bs (4*k))):=(aa.cell (by exact hb)).trans (hc (4*k) om);have c1:wr.cell? (Pv b (off+4*k+1))=some (.int .u8 (bs (4*k+1))):=(aa.cell (by exact hb)).trans (hc (4*k+1) om);have c2:wr.cell? (Pv b (off+4*k+2))=some (.int .u8 (bs (4*k+2))):=(aa.cell (by exact hb)).trans (hc (4*k+2) om);have c3:wr.cell? (Pv b (off+4*k+3))=some (.int .u8 (bs (4*k+3))):=(aa.cell (by exact hb)).trans (hc (4*k+3) om);have c4:wr.cell? (Pv (w.heap.size+1) k)=some (Tv 0):=(a9Y wr _ k _ _ _ hB).trans (by rw[Md.rowU_get _ _ _ _ hlt];simp);have f4:wr.frozen? (Pv (w.heap.size+1) k)=false:=b0a _ _ _ _ _ hB;have R1:Hid ((wr.setCell (Pv (w.heap.size+1) k) (Tv (Md.wd bs k))).heap[w.heap.size]?=some (.cells (Md.rowU 16 (Md.wd bs) 0) 295)/\(wr.setCell (Pv (w.heap.size+1) k) (Tv (Md.wd bs k))).heap[w.heap.size+1]?=some (.cells (Md.rowU 16 (Md.wd bs) (k+1)) 295)/\Bl w (wr.setCell (Pv (w.heap.size+1) k) (Tv (Md.wd bs k))).drew):=by
    refine⟨by rw[b0f _ _ _ _ (by simp)];exact hA,?_,(aa.setCell (by simp) _).drew⟩;rw[b0e _ _ _ _ _ _ hB,Md.rowU_set _ _ _ hlt]
   clear hc hA hB aa;go_wp2
   go_region
   go_wp2
   exact⟨⟨k+1,om,gn,R1.out.1,R1.out.2.1,R1.out.2.2⟩,io⟩
  ·obtain rfl:k=16:=om
   go_wp2_with (first | refine wpList_load_row rfl 295 _ rfl (w.heap.size+1) rfl 295 _ (0,0) _ hB underlying295 rfl (by rw[a6C,Md.rowU_size]) ?_ | refine wpList_store_row rfl 295 _ _ rfl (w.heap.size) _ rfl rfl 295 _ hA (by rw[a6C,Md.rowU_size]) (by simp[Md.rowU_size]) (Md.rowU_all _ _ _) ?_)
   exact b0b (v:=.agg (Md.rowU 16 (Md.wd bs) 16)) (results_cell_row (p:=2) (ty:=295) rfl _ _ w.heap.size 295 _ (0,0) _ rfl (setRow_heap _ _ _ _ _ _ hA) underlying295 rfl (by rw[a6C,Md.rowU_size])) rfl ⟨rfl,below_setRow aa (b0g _) _⟩
theorem a5e (w:World) :
  Calls prog 226 #[] w λe w'=>e=.returned (Md.stV Md.st0)/\Bl w w':=by
 go_enter func226,ntmps226;go_wp2
 exact b0b (v:=Md.stV Md.st0) (by simp[results,results226,go_sem,Md.stV,Md.st0]) rfl ⟨rfl,(b0h _ _).alloc (b0g _) _⟩
theorem and31 (k:Int) (h0:0<=k) (h1:k<32):bits BinOp.and IntKind.u64 k 31=k:=by
 go_bits2
theorem rot_any (x k:Int) (w:World) (h0:0<=k) (h1:k<32) :
  Calls prog 229 #[Tv x,Iv k] w λe w'=>e=.returned (Tv (Md.rotl x k))/\w'=w:=by
 have hk:=and31 k h0 h1;go_enter func229,ntmps229;go_wp2
 go_ret;exact⟨rfl,rfl⟩
theorem a7h (i:Nat) (b c d:Int) (w:World) (h1:i<64) :
  Calls prog 228 #[Iv i,Tv b,Tv c,Tv d] w λe w'=>e=.returned (.tuple #[Tv (Md.fsel i b c d),Iv (Md.ksel i)])/\w'=w:=by
 rcases(show i<16\/(16<=i/\i<32)\/(32<=i/\i<48)\/(48<=i/\i<64) by omega) with h | h | h | h
 ·have e1:Md.fsel i b c d=bits BinOp.or IntKind.u32 (bits BinOp.and IntKind.u32 b c) (bits BinOp.and IntKind.u32 (bits BinOp.xor IntKind.u32 IntKind.u32.max b) d):=(by simp[Md.fsel,h])
  have e2:Md.ksel i=i:=(by simp[Md.ksel,h])
  rw[e1,e2];clear e1 e2;go_enter func228,ntmps228;go_wp2
  go_ret2;exact⟨rfl,rfl⟩
 ·obtain⟨h2,h3⟩:=h;have e1:Md.fsel i b c d=bits BinOp.or IntKind.u32 (bits BinOp.and IntKind.u32 b d) (bits BinOp.andNot IntKind.u32 c d):=(by simp[Md.fsel,h3,show ¬i<16 by omega])
  have e2:((Md.ksel i:Nat):Int)=(5*(i:Int)+1)%16:=(by simp[Md.ksel,h3,show ¬i<16 by omega])
  rw[e1,e2];clear e1 e2;go_enter func228,ntmps228;go_wp2
  go_ret2;exact⟨rfl,rfl⟩
 ·obtain⟨h2,h3⟩:=h;have e1:Md.fsel i b c d=bits BinOp.xor IntKind.u32 (bits BinOp.xor IntKind.u32 b c) d:=(by simp[Md.fsel,h3,show ¬i<16 by omega,show ¬i<32 by omega])
  have e2:((Md.ksel i:Nat):Int)=(3*(i:Int)+5)%16:=(by simp[Md.ksel,h3,show ¬i<16 by omega,show ¬i<32 by omega])
  rw[e1,e2];clear e1 e2;go_enter func228,ntmps228;go_wp2
  go_ret2;exact⟨rfl,rfl⟩
 ·obtain⟨h2,h3⟩:=h;have e1:Md.fsel i b c d=bits BinOp.xor IntKind.u32 c (bits BinOp.or IntKind.u32 b (bits BinOp.xor IntKind.u32 IntKind.u32.max d)):=(by simp[Md.fsel,show ¬i<48 by omega,show ¬i<16 by omega,show ¬i<32 by omega])
  have e2:((Md.ksel i:Nat):Int)=7*(i:Int)%16:=(by simp[Md.ksel,show ¬i<48 by omega,show ¬i<16 by omega,show ¬i<32 by omega])
  rw[e1,e2];clear e1 e2;go_enter func228,ntmps228;go_wp2
  go_ret2;exact⟨rfl,rfl⟩
structure Tabs (w:World):Prop where
 adds:∀i,i<64->w.cell? (Pv 0 i)=some (Tv (Md.tabAt i))
 turn:∀i,i<16->w.cell? (Pv 1 i)=some (Iv (Md.trnAt i))
theorem Tabs.lt {w:World}(h:Tabs w):1<w.heap.size:=b0r (h.turn 0 dd)
theorem Tabs.below {w w':World}{B:Nat}(h:Tabs w) (hb:Below B w w') (hB:2<=B):Tabs w' :=
 ⟨λi hi=>(hb.cell (by show 0<B;omega)).trans (h.adds i hi),λi hi=>(hb.cell (by show 1<B;omega)).trans (h.turn i hi)⟩
theorem w64id (n:Int) (h0:0<=n) (h1:n<100):IntKind.i64.wrap n=n:=by
 simp[IntKind.wrap,IntKind.bits,IntKind.signed];omega
theorem a3v:(prog.info? 288).map (·.size)=some 4:=by kernel_rfl
theorem mix_any (s:Md.St) (b off cap:Nat) (bs:Nat->Int) (w:World) (ht:Tabs w) (hb:b<w.heap.size) (ad:64<=cap) (hc:∀i,i<64->w.cell? (Pv b (off+i))=some (.int .u8 (bs i))) :
  Calls prog 225 #[Md.stV s,.slice (some (Pv b off)) 64 cap] w λe w'=>e=.returned (Md.stV (Md.mixS s bs))/\Bl w w':=by
 have HT:Hid (Tabs w):=ht;have ap:=ht.lt;clear ht;unfold Md.stV;go_enter func225,ntmps225;(go_wp2_with fail);refine(a8t b off cap bs _ (by simp;omega) ad (λi hi => ?_)).mono ?_
 ·rw[World.cell?_alloc_past _ _ _ (by simp;omega),World.cell?_alloc_past _ _ _ hb];exact hc i hi
 rintro e w1 ⟨rfl,ac⟩;have hA:w1.heap[w.heap.size]?=some (.cells #[Tv s.a,Tv s.b,Tv s.c,Tv s.d] 288):=(ac.block w.heap.size (by simp;omega)).trans (b0d w _ _);have hB:w1.heap[w.heap.size+1]?=some (.cells #[Tv 0,Tv 0,Tv 0,Tv 0] 288):=(ac.block _ (by simp)).trans (b0c w _ _);have hz:w.heap.size+2<=w1.heap.size:=(by have:=ac.size;simpa using this)
 have aa:Bl w w1:=(((b0h _ w).alloc (b0g _) _).alloc (by simp) _).trans (ac.mono (by simp;omega));clear ac;have cA:=λj=>a9Y w1 _ j _ _ _ hA;have aj:w1.cell? (Pv w.heap.size 0)=some (Tv s.a):=cA 0;have ak:w1.cell? (Pv w.heap.size 1)=some (Tv s.b):=cA 1;have ag:w1.cell? (Pv w.heap.size 2)=some (Tv s.c):=cA 2;have ai:w1.cell? (Pv w.heap.size 3)=some (Tv s.d):=cA 3;have HA:=Hid.o (p:=Hid _) (show Hid (Hid _) from hA);have HB:Hid _:=hB;clear cA hA hB hc;go_wp2_with (refine wpList_store_row rfl 295 _ _ rfl (w1.heap.size) _ rfl rfl 295 _ (a9Z _ _) (by rw[a6C,Md.rowU_size]) (by simp[Md.rowU_size]) (Md.rowU_all _ _ _) ?_;rw[World.setRow_alloc_new])
 have i0:w.heap.size<w1.heap.size:=om
 (go_quiet (fail));go_wp2
 go_loopw [6,7,8,9,24] (λra rb rc rd i wr=>∃k:Nat,k<=64/\i=Iv k/\ra=Tv (Md.runTo bs k s).a/\rb=Tv (Md.runTo bs k s).b/\rc=Tv (Md.runTo bs k s).c/\rd=Tv (Md.runTo bs k s).d/\wr.heap[w1.heap.size]?=some (.cells (Md.rowU 16 (Md.wd bs) 16) 295)/\Bl w1 wr) (λ_ _ _ _ i _=>64-(intOf i).toNat)
 case atStart=>exact⟨0,om,rfl,rfl,rfl,rfl,rfl,a9Z _ _,a0d ((b0h _ w1).alloc (b0g _) _) _⟩
 case round =>
  obtain⟨k,hk,rfl,rfl,rfl,rfl,rfl,hW,ab⟩:=hrel;by_cases hlt:k<64
  ·have hT:Tabs wr:=HT.o.below (B:=w.heap.size) (aa.trans (ab.mono om)) om;have t0:wr.cell? (Pv 0 k)=some (Tv (Md.tabAt k)):=hT.adds k hlt;have t1:wr.cell? (Pv 1 (k/16*4+k%4))=some (Iv (Md.trnAt (k/16*4+k%4))):=hT.turn _ om;have t2:wr.cell? (Pv w1.heap.size (Md.ksel k))=some (Tv (Md.wd bs (Md.ksel k))):=(a9Y wr _ _ _ _ _ hW).trans (by rw[Md.rowU_get _ _ _ _ (Md.ksel_lt k)];simp[Md.ksel_lt k]);have hr:=Md.trnAt_range (k/16*4+k%4) om;have am:=hr.1;have an:=hr.2;have av:((Md.ksel k:Nat):Int)<16:=(by have:=Md.ksel_lt k;omega)
   have HX:Hid (Md.runTo bs (k+1) s=⟨(Md.runTo bs k s).d,((Md.runTo bs k s).b+Md.rotl (((Md.runTo bs k s).a+Md.fsel k (Md.runTo bs k s).b (Md.runTo bs k s).c (Md.runTo bs k s).d+Md.tabAt k+Md.wd bs (Md.ksel k))%4294967296) (Md.trnAt (k/16*4+k%4)))%4294967296,(Md.runTo bs k s).b,(Md.runTo bs k s).c⟩):=rfl;have HW:Hid _:=hW;have ae:Hid _:=ab;have ah:Hid _:=aa;clear hr hT hW ab aa aj ak ag ai;generalize Md.runTo bs k s=q at *;(go_wp2_with fail);refine(a7h k _ _ _ _ hlt).mono ?_;rintro e w2 ⟨rfl,rfl⟩;obtain⟨r,hr⟩:=nn (k/16)
   obtain⟨j,hj⟩:=nn (k%4)
   have k1:IntKind.i64.wrap ((k:Int)/16)=(r:Int):=(by rw[w64id _ om om];omega)
   have k2:Int.tmod (k:Int) 4=(j:Int):=(by rw[Int.tmod_eq_emod_of_nonneg om];omega)
   have k3:r<4:=om
   have k4:j<4:=om
   have k5:(r:Int)<4:=om
   have k6:(j:Int)<4:=om
   rw[<-hr,<-hj] at t1 am an HX;have HR:Hid (r=k/16):=hr;have HJ:Hid (j=k%4):=hj;clear hr hj;(go_wp2_with fail);go_quiet ((go_at_call 229;refine Calls.quiet_of_same (rot_any _ _ _ aS aS)))
   go_wp2
   refine⟨⟨k+1,om,gn,?_⟩,io⟩;rw[HX.o];exact⟨rfl,rfl,rfl,rfl,HW.o,a0d ae.o _⟩
  ·obtain rfl:k=64:=om
   have al:w.heap.size<w1.heap.size:=om
   have gA:wr.heap[w.heap.size]?=_:=(ab.block _ al).trans HA.o;have gB:wr.heap[w.heap.size+1]?=_:=(ab.block _ om).trans HB.o;have cA:=λj=>a9Y wr _ j _ _ _ gA;have au:wr.cell? (Pv w.heap.size 0)=some (Tv s.a):=cA 0;have ao:wr.cell? (Pv w.heap.size 1)=some (Tv s.b):=cA 1;have aq:wr.cell? (Pv w.heap.size 2)=some (Tv s.c):=cA 2;have ar:wr.cell? (Pv w.heap.size 3)=some (Tv s.d):=cA 3;have HX:Hid (Md.mixS s bs=⟨(s.a+(Md.runTo bs 64 s).a)%4294967296,(s.b+(Md.runTo bs 64 s).b)%4294967296,(s.c+(Md.runTo bs 64 s).c)%4294967296,(s.d+(Md.runTo bs 64 s).d)%4294967296⟩):=rfl;have ae:Hid _:=ab;have ah:Hid _:=aa;have af:Hid _:=gB;clear cA gA hW ab aa aj ak ag ai gB;generalize Md.runTo bs 64 s=q at *;go_wp2_with (refine wpList_store_row rfl 288 _ _ rfl (w.heap.size+1) #[Tv ((s.a+q.a)%4294967296),Tv ((s.b+q.b)%4294967296),Tv ((s.c+q.c)%4294967296),Tv ((s.d+q.d)%4294967296)] rfl rfl 288 _ af.o (by rw[a3v];rfl) (by rfl) (Md.all4 _ _ _ _) ?_)
   rw[HX.o];exact b0b (v:=.agg #[Tv ((s.a+q.a)%4294967296),Tv ((s.b+q.b)%4294967296),Tv ((s.c+q.c)%4294967296),Tv ((s.d+q.d)%4294967296)]) (results_cell_row (p:=4) (ty:=288) rfl _ _ (w.heap.size+1) 288 _ (0,0) _ rfl (setRow_heap _ _ _ _ _ _ af.o) underlying288 rfl (by rw[a3v];rfl)) rfl ⟨rfl,below_setRow (ah.o.trans (ae.o.mono om)) om _⟩
