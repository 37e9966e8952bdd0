/- walks: wordsOf, start -/
import Derived.Test.YtaneiffnhphkhaaGreatDoorD01
import Derived.Laws.IdiomStrings
import GoSem.Claim
import Derived.WalkSpells
import Derived.WalkLawsBesides
import Derived.BigRegion
import Derived.RegionTactic
import Derived.Deep.WholeRow
import Derived.Laws.CopyOwn
set_option maxRecDepth 100000
set_option maxHeartbeats 40000000
namespace Go.Proofs.YtaneiffnhphkhaaGreatDoor
section
namespace Rg
def wayErr (last v t:Int):Int:=if (1≤v∧v≤4094)∧1≤t∧t≤15 then(if v≤last then 2 else 0) else 3
def last (vs:Nat→Int) (k:Nat):Int:=if k=0 then 0 else vs (k-1)
def wrongTo (vs ts:Nat→Int):Nat→Int
 | 0=>0
 | k+1=>if wrongTo vs ts k=0 then wayErr (last vs k) (vs k) (ts k) else wrongTo vs ts k
theorem wrongTo_stay (vs ts:Nat→Int) (k:Nat) (h:wrongTo vs ts k≠0):∀n,k≤n→wrongTo vs ts n=wrongTo vs ts k:=by
 intro n hn;induction n with
 | zero =>
  obtain rfl:k=0:=by omega
  rfl
 | succ n ih =>
  by_cases e:k=n+1
  ·subst e;rfl
  ·have h1:=ih (by omega);simp only[wrongTo];rw[if_neg (by rw[h1];exact h),h1]
theorem wrongTo_here (vs ts:Nat→Int) (k n:Nat) (hk:k<n) (h0:wrongTo vs ts k=0) (h:wayErr (last vs k) (vs k) (ts k)≠0):wrongTo vs ts n=wayErr (last vs k) (vs k) (ts k):=by
 have h1:wrongTo vs ts (k+1)=wayErr (last vs k) (vs k) (ts k):=(by simp only[wrongTo];rw[if_pos h0])
 rw[wrongTo_stay vs ts (k+1) (by rw[h1];exact h) n (by omega),h1]
theorem wrongTo_succ (vs ts:Nat→Int) (k:Nat) (h0:wrongTo vs ts k=0) (h:wayErr (last vs k) (vs k) (ts k)=0):wrongTo vs ts (k+1)=0:=by
 simp only[wrongTo];rw[if_pos h0];exact h
theorem wayErr_zero {l v t:Int}(h:wayErr l v t=0):(1≤v∧v≤4094)∧(1≤t∧t≤15)∧l<v:=by
 unfold wayErr at h;by_cases c:(1≤v∧v≤4094)∧1≤t∧t≤15
 ·rw[if_pos c] at h;by_cases d:v≤l
  ·rw[if_pos d] at h;cases h
  ·exact⟨c.1,c.2,by omega⟩
 ·rw[if_neg c] at h;cases h
structure Right (vs ts:Nat→Int) (n:Nat):Prop where
 vid:∀i,i<n→1≤vs i∧vs i≤4094
 tree:∀i,i<n→1≤ts i∧ts i≤15
 less:∀i j,i<j→j<n→vs i<vs j
theorem right_of {vs ts:Nat→Int}:∀{n:Nat},wrongTo vs ts n=0→Right vs ts n
 | 0,_=>⟨fun i h=>by omega,fun i h=>by omega,fun i j _ h=>by omega⟩
 | n+1,h=>by
  have h0:wrongTo vs ts n=0:=by
   by_cases c:wrongTo vs ts n=0
   ·exact c
   ·simp only[wrongTo] at h;rw[if_neg c] at h;exact h
  have hw:wayErr (last vs n) (vs n) (ts n)=0:=(by simp only[wrongTo] at h;rw[if_pos h0] at h;exact h)
  obtain⟨r1,r2,r3⟩:=right_of h0;obtain⟨q1,q2,q3⟩:=wayErr_zero hw;refine⟨fun i hi => ?_,fun i hi => ?_,fun i j hij hj => ?_⟩
  ·by_cases e:i=n
   ·subst e;exact q1
   ·exact r1 i (by omega)
  ·by_cases e:i=n
   ·subst e;exact q2
   ·exact r2 i (by omega)
  ·by_cases e:j=n
   ·subst e;unfold last at q3;rw[if_neg (by omega)] at q3;by_cases e2:i=j-1
    ·subst e2;exact q3
    ·have:=r3 i (j-1) (by omega) (by omega);omega
   ·exact r3 i j hij (by omega)
theorem Right.low {vs ts:Nat→Int}{n:Nat}(h:Right vs ts n):∀i,i<n→(i:Int)+1≤vs i
 | 0,hi=>by have:=(h.vid 0 hi).1;omega
 | i+1,hi=>by have:=Right.low h i (by omega);have:=h.less i (i+1) (by omega) hi;omega
theorem Right.many {vs ts:Nat→Int}{n:Nat}(h:Right vs ts n):n≤4094:=by
 rcases Nat.eq_zero_or_pos n with e | e
 ·omega
 ·have h1:=h.low (n-1) (by omega);have h2:=(h.vid (n-1) (by omega)).2;omega
def tree (vs ts:Nat→Int) (v:Int):Nat→Int
 | 0=>0
 | k+1=>if vs k=v then ts k else tree vs ts v k
theorem tree_none (vs ts:Nat→Int) (v:Int):∀n,(∀i,i<n→vs i≠v)→tree vs ts v n=0
 | 0,_=>rfl
 | n+1,h=>by
  simp only[tree];rw[if_neg (h n (by omega))];exact tree_none vs ts v n (fun i hi=>h i (by omega))
theorem tree_at {vs ts:Nat→Int}{n:Nat}(h:Right vs ts n) (i:Nat) (hi:i<n):∀m,i<m→m≤n→tree vs ts (vs i) m=ts i
 | 0,hm,_=>by omega
 | m+1,hm,hn=>by
  simp only[tree];by_cases e:i=m
  ·subst e;rw[if_pos rfl]
  ·have:=h.less i m (by omega) (by omega);rw[if_neg (by omega)];exact tree_at h i hi m (by omega) (by omega)
theorem tree_range {vs ts:Nat→Int}{n:Nat}(h:Right vs ts n) (v:Int):∀m,m≤n→0≤tree vs ts v m∧tree vs ts v m≤15
 | 0,_=>by simp[tree]
 | m+1,hm=>by
  simp only[tree];by_cases e:vs m=v
  ·rw[if_pos e];have:=h.tree m (by omega);omega
  ·rw[if_neg e];exact tree_range h v m (by omega)
def pairs (vs ts:Nat→Int) (n i:Nat):Int:=if i%2=0 then 0 else tree vs ts ((i/2:Nat):Int) n
theorem pairs_range {vs ts:Nat→Int}{n:Nat}(h:Right vs ts n) (i:Nat):0≤pairs vs ts n i∧pairs vs ts n i≤255:=by
 unfold pairs;by_cases e:i%2=0
 ·rw[if_pos e];omega
 ·rw[if_neg e];have:=tree_range h ((i/2:Nat):Int) n (Nat.le_refl _);omega
theorem pairs_even (vs ts:Nat→Int) (n k:Nat):pairs vs ts n (2*k)=0:=by unfold pairs;rw[if_pos (by omega)]
theorem pairs_odd (vs ts:Nat→Int) (n k:Nat):pairs vs ts n (2*k+1)=tree vs ts (k:Int) n:=by
 unfold pairs;rw[if_neg (by omega),show(2*k+1)/2=k by omega]
def nb (s:ByteArray) (i:Nat):Int:=((s.data.toList.getD i 0).toNat:Int)
def odd (c:Int):Bool:=decide (c<32)||decide (126<c)
def anyOdd (f:Nat→Int):Nat→Bool
 | 0=>false
 | k+1=>anyOdd f k||odd (f k)
theorem anyOdd_iff (f:Nat→Int):∀n,anyOdd f n=true↔∃i,i<n∧odd (f i)=true
 | 0=>by simp[anyOdd]
 | n+1=>by
  simp only[anyOdd,Bool.or_eq_true];rw[anyOdd_iff f n];constructor
  ·rintro(⟨i,hi,h⟩ | h)
   ·exact⟨i,by omega,h⟩
   ·exact⟨n,by omega,h⟩
  ·rintro⟨i,hi,h⟩;by_cases e:i=n
   ·subst e;exact Or.inr h
   ·exact Or.inl ⟨i,by omega,h⟩
theorem anyOdd_here (f:Nat→Int) (k n:Nat) (hk:k<n) (h:odd (f k)=true):anyOdd f n=true:=(anyOdd_iff f n).2 ⟨k,hk,h⟩
theorem anyOdd_next (f:Nat→Int) (k:Nat) (h0:anyOdd f k=false) (h:odd (f k)=false):anyOdd f (k+1)=false:=by simp[anyOdd,h0,h]
def isName (s:ByteArray):Bool:=decide (1≤s.size)&&decide (s.size≤32) && !anyOdd (nb s) s.size
theorem isName_parts {s:ByteArray}(h:isName s=true):1≤s.size∧s.size≤32∧∀i,i<s.size→32≤nb s i∧nb s i≤126:=by
 unfold isName at h;simp only[Bool.and_eq_true,decide_eq_true_eq,Bool.not_eq_true'] at h;refine⟨h.1.1,h.1.2,fun i hi => ?_⟩;have h2:¬odd (nb s i)=true:=fun c=>by
  have:=(anyOdd_iff (nb s) s.size).2 ⟨i,hi,c⟩;rw[h.2] at this;cases this
 unfold odd at h2;simp only[Bool.or_eq_true,decide_eq_true_eq] at h2;omega
def wrong (s:ByteArray) (rev:Int) (vs ts:Nat→Int) (n:Nat):Int :=
 if isName s=true then(if 0≤rev∧rev≤65535 then wrongTo vs ts n else 3) else 7
theorem wrong_zero {s:ByteArray}{rev:Int}{vs ts:Nat→Int}{n:Nat}(h:wrong s rev vs ts n=0):isName s=true∧(0≤rev∧rev≤65535)∧Right vs ts n:=by
 unfold wrong at h;by_cases c:isName s=true
 ·rw[if_pos c] at h;by_cases d:0≤rev∧rev≤65535
  ·rw[if_pos d] at h;exact⟨c,d,right_of h⟩
  ·rw[if_neg d] at h;cases h
 ·rw[if_neg c] at h;cases h
def ident (s:ByteArray) (rev:Int) (d:Nat→Int) (i:Nat):Int :=
 if i<32 then(if i<s.size then nb s i else 0) else if i=32 then rev/256 else if i=33 then rev%256 else d (i-34)
end Rg
end
section
open Go.RowKit
theorem gwithin_any (n l m:Int) (w:World) :
  Calls Tryz.prog 30 #[.int .i64 n,.int .i64 l,.int .i64 m] w fun e w'=>e=.returned (.bool (decide (l≤n∧n≤m)))∧w'=w:=by
 by_cases h1:l≤n<;>by_cases h2:n≤m
 all_goals
  go_enter Tryz.func30,Tryz.ntmps30;go_wp2
  go_ret;exact⟨by simp[h1,h2],rfl⟩
theorem godd_any (c:Int) (w:World) :
  Calls Tryz.prog 158 #[.int .u8 c] w fun e w'=>e=.returned (.bool (Rg.odd c))∧w'=w:=by
 unfold Rg.odd;by_cases h1:c<32<;>by_cases h2:126<c
 all_goals
  go_enter Tryz.func158,Tryz.ntmps158;go_wp2
  go_ret;exact⟨by simp[h1,h2],rfl⟩
theorem gindex_any (ao:Option Addr) (n cap:Nat) (bs:Nat→Int) (w:World) (hn:n≤32) (hr:ByteRow w ao n cap bs) :
  Calls Tryz.prog 171 #[.slice ao n cap,.func (.func 158) #[] #[]] w fun e w'=>∃r:Int,e=.returned (.int .i64 r)∧decide (0≤r)=Rg.anyOdd bs n∧w'=w:=by
 have HR:Hid (ByteRow w ao n cap bs):=hr;clear hr;go_enter Tryz.func171,Tryz.ntmps171;(go_wp2_with fail);go_loopw [8] (fun i wr=>∃k:Nat,k≤n∧i=.int .i64 k∧Hid (Rg.anyOdd bs k=false)∧wr=w) (fun i _=>n-(intOf i).toNat)
 case atStart=>exact⟨0,by omega,rfl,rfl,rfl⟩
 case round =>
  obtain⟨k,hk,rfl,hX,rfl⟩:=hrel;by_cases hlt:k<n
  ·obtain⟨b,off,rfl,hb,hc⟩:=HR.out.2 (by omega);have hcap:=HR.out.1;have c4:wr.cell? ⟨b,off+k,none⟩=some (.int .u8 (bs k)):=hc k hlt;have HS1:Hid (Rg.odd (bs k)=true→Rg.anyOdd bs n=true):=fun h=>Rg.anyOdd_here bs k n hlt h;have HS2:Hid (Rg.odd (bs k)=false→Rg.anyOdd bs (k+1)=false):=fun h=>Rg.anyOdd_next bs k hX.out h;clear hc HR hX;generalize bs k=c at *;cases ho:Rg.odd c with
   | true =>
    have HO:Hid (Rg.odd c=true):=ho;clear ho;go_wp2_with (go_at_call 158;refine(godd_any _ _).mono ?_;rintro e w1 ⟨rfl,rfl⟩;rw[HO.out])
    go_ret;exact⟨_,rfl,by rw[HS1.out HO.out];simp,rfl⟩
   | false =>
    have HO:Hid (Rg.odd c=false):=ho;clear ho;go_wp2_with (go_at_call 158;refine(godd_any _ _).mono ?_;rintro e w1 ⟨rfl,rfl⟩;rw[HO.out])
    exact⟨⟨k+1,by omega,by go_num,HS2.out HO.out,trivial⟩,by simp[intOf];omega⟩
  ·obtain rfl:k=n:=by omega
   go_wp2
   go_ret;exact⟨_,rfl,by rw[hX.out];decide,rfl⟩
theorem gcontains_any (ao:Option Addr) (n cap:Nat) (bs:Nat→Int) (w:World) (hn:n≤32) (hr:ByteRow w ao n cap bs) :
  Calls Tryz.prog 159 #[.slice ao n cap,.func (.func 158) #[] #[]] w fun e w'=>e=.returned (.bool (Rg.anyOdd bs n))∧w'=w:=by
 have HR:Hid (ByteRow w ao n cap bs):=hr;clear hr;go_enter Tryz.func159,Tryz.ntmps159;go_wp2_with (go_at_call 171;refine(gindex_any _ _ _ bs _ hn HR.out).mono ?_;rintro e w1 ⟨r,rfl,hq,rfl⟩;have HQ:Hid (decide (0≤r)=Rg.anyOdd bs n):=hq;clear hq)
 go_ret;exact⟨by rw[HQ.out];rfl,rfl⟩
theorem conv_bytes (w:World) (s:ByteArray):∃cap cur w1,(convert 9 126 (.string s)).run Tryz.prog w=.ok (.slice (some ⟨w.heap.size,0,none⟩) s.size cap) w1∧ByteRow w1 (some ⟨w.heap.size,0,none⟩) s.size cap (Rg.nb s)∧Bl w w1∧w1.heap.size=w.heap.size+1 ∧
  w1.heap[w.heap.size]?=some (.cells cur 5 (cur.size,cur.size+1))∧cur.size=cap∧s.size≤cap:=by
 have hrun:=run_bytes_of_string (P:=Tryz.prog) w 9 126 5 s Tryz.underlying9 Tryz.underlying126 Tryz.underlying5;generalize hcap:grownCap w s.size 0 5=cap at hrun;have hle:s.size≤cap:=(by rw[←hcap];exact grownCap_ge w s.size 0 5)
 have hsz:(bytesRow s cap).size=cap:=by
  have h1:s.data.size=s.size:=rfl;simp only[bytesRow,Array.size_append,Array.size_map,Array.size_replicate];omega
 refine⟨cap,bytesRow s cap,_,hrun,⟨hle,fun _=>⟨w.heap.size,0,rfl,by simp,fun i hi => ?_⟩⟩,(Below.refl _ _).drew.alloc (by simp) _,by simp,?_,hsz,hle⟩
 ·have hh:(w.drew.alloc (.cells (bytesRow s cap) 5 ((bytesRow s cap).size,(bytesRow s cap).size+1))).heap[w.heap.size]?=some (.cells (bytesRow s cap) 5 ((bytesRow s cap).size,(bytesRow s cap).size+1)):=heap_alloc_last w.drew _;refine(cell_of_row _ _ _ _ _ _ hh).trans ?_;unfold bytesRow Rg.nb;have hi':i<s.data.size:=hi;rw[Nat.zero_add,Array.getElem?_append_left (by simpa using hi')];simp[List.getD,Array.getElem?_eq_getElem hi']
 ·exact heap_alloc_last w.drew _
theorem gisName_any (s:ByteArray) (w:World) :
  Calls Tryz.prog 143 #[.string s] w fun e w'=>e=.returned (.bool (Rg.isName s))∧Bl w w':=by
 by_cases c:1≤s.size∧s.size≤32
 ·have c1:decide ((1:Int)≤(s.size:Int)∧(s.size:Int)≤32)=true:=decide_eq_true (by omega);have e1:Rg.isName s=!Rg.anyOdd (Rg.nb s) s.size:=(by unfold Rg.isName;simp[c.1,c.2])
  rw[e1];obtain⟨cap,cur,w1,hrun,hr,hb,_,_,_,_⟩:=conv_bytes w s;have HR:Hid (ByteRow w1 (some ⟨w.heap.size,0,none⟩) s.size cap (Rg.nb s)):=hr;have HB:Hid (Bl w w1):=hb;have hs:=c.2;clear hr hb e1 c;go_enter Tryz.func143,Tryz.ntmps143;go_wp2_with (first | (go_at_call 30;refine(gwithin_any _ _ _ _).mono ?_;rintro e w2 ⟨rfl,rfl⟩;rw[c1]) | (go_at_call 159;refine(gcontains_any _ _ _ _ _ hs HR.out).mono ?_;rintro e w2 ⟨rfl,rfl⟩))
  go_ret;exact⟨rfl,HB.out⟩
 ·have c1:decide ((1:Int)≤(s.size:Int)∧(s.size:Int)≤32)=false:=decide_eq_false (by omega);have e1:Rg.isName s=false:=by
   unfold Rg.isName;by_cases c2:1≤s.size
   ·have c3:¬s.size≤32:=fun h=>c ⟨c2,h⟩;simp[c3]
   ·simp[c2]
  rw[e1];clear e1 c;go_enter Tryz.func143,Tryz.ntmps143;go_wp2_with (go_at_call 30;refine(gwithin_any _ _ _ _).mono ?_;rintro e w2 ⟨rfl,rfl⟩;rw[c1])
  go_ret;exact⟨rfl,Below.refl _ _⟩
def WayRow (w:World) (ao:Option Addr) (n cap:Nat) (vs ts:Nat→Int):Prop :=
 n≤cap∧(0<n→∃b off,ao=some ⟨b,off,none⟩∧b<w.heap.size∧∀i,i<n→w.cell? ⟨b,off+i*2,none⟩=some (.int .i64 (vs i))∧w.cell? ⟨b,off+i*2+1,none⟩=some (.int .i64 (ts i)))
theorem WayRow.below {w w':World}{ao:Option Addr}{n cap:Nat}{vs ts:Nat→Int}(h:WayRow w ao n cap vs ts) (hb:Bl w w'):WayRow w' ao n cap vs ts:=by
 refine⟨h.1,fun hp => ?_⟩;obtain⟨b,off,e,hlt,hc⟩:=h.2 hp;exact⟨b,off,e,Nat.lt_of_lt_of_le hlt hb.size,fun i hi=>⟨(hb.cell (by exact hlt)).trans (hc i hi).1,(hb.cell (by exact hlt)).trans (hc i hi).2⟩⟩
theorem gways_any (ao:Option Addr) (n cap:Nat) (vs ts:Nat→Int) (w:World) (hn:n≤9223372036854775807) (hr:WayRow w ao n cap vs ts) :
  Calls Tryz.prog 144 #[.slice ao n cap] w fun e w'=>e=.returned (.int .i64 (Rg.wrongTo vs ts n))∧Bl w w':=by
 have HR:Hid (WayRow w ao n cap vs ts):=hr;clear hr;go_enter Tryz.func144,Tryz.ntmps144;(go_wp2_with fail);go_loopw [3,8] (fun a i wr=>∃k:Nat,k≤n∧i=.int .i64 k∧a=.int .i64 (Rg.last vs k)∧Hid (Rg.wrongTo vs ts k=0)∧Hid (Bl w wr)) (fun _ i _=>n-(intOf i).toNat)
 case atStart=>exact⟨0,by omega,rfl,rfl,rfl,Below.refl _ _⟩
 case round =>
  obtain⟨k,hk,rfl,rfl,hX,hB⟩:=hrel;by_cases hlt:k<n
  ·obtain⟨b,off,rfl,hb,hc⟩:=HR.out.2 (by omega);have hcap:=HR.out.1;have hbw:b<wr.heap.size:=Nat.lt_of_lt_of_le hb hB.out.size;have c0:wr.cell? ⟨b,off+k*2,none⟩=some (.int .i64 (vs k)):=(hB.out.cell (by exact hb)).trans (hc k hlt).1;have c1:wr.cell? ⟨b,off+k*2+1,none⟩=some (.int .i64 (ts k)):=(hB.out.cell (by exact hb)).trans (hc k hlt).2;have HE:Hid (Rg.wayErr (Rg.last vs k) (vs k) (ts k)≠0→Rg.wrongTo vs ts n=Rg.wayErr (Rg.last vs k) (vs k) (ts k)):=fun h=>Rg.wrongTo_here vs ts k n hlt hX.out h;have HZ:Hid (Rg.wayErr (Rg.last vs k) (vs k) (ts k)=0→Rg.wrongTo vs ts (k+1)=0):=fun h=>Rg.wrongTo_succ vs ts k hX.out h;have HL:Hid (Rg.last vs (k+1)=vs k):=by show Rg.last vs (k+1)=vs k;unfold Rg.last;rw[if_neg (by omega)];rfl
   have HBL:Hid (∀o,Bl w (wr.alloc o)):=fun o=>hB.out.alloc hB.out.size _;clear hc HR hX hB;generalize Rg.last vs k=l at *;generalize vs k=v at *;generalize ts k=t at *;by_cases h1:1≤v∧v≤4094
   ·have d1:decide (1≤v∧v≤4094)=true:=decide_eq_true h1;by_cases h2:1≤t∧t≤15
    ·have d2:decide (1≤t∧t≤15)=true:=decide_eq_true h2;by_cases h3:v≤l
     ·have HW:Hid (Rg.wayErr l v t=2):=by show Rg.wayErr l v t=2;unfold Rg.wayErr;rw[if_pos ⟨h1,h2⟩,if_pos h3]
      clear h1 h2;go_wp2_with (go_at_call 30;refine(gwithin_any _ _ _ _).mono ?_;rintro e w2 ⟨rfl,rfl⟩;first | rw[d1] | rw[d2])
      go_ret;exact⟨by rw[HE.out (by rw[HW.out];decide),HW.out];rfl,HBL.out _⟩
     ·have HW:Hid (Rg.wayErr l v t=0):=by show Rg.wayErr l v t=0;unfold Rg.wayErr;rw[if_pos ⟨h1,h2⟩,if_neg h3]
      clear h1 h2;go_wp2_with (go_at_call 30;refine(gwithin_any _ _ _ _).mono ?_;rintro e w2 ⟨rfl,rfl⟩;first | rw[d1] | rw[d2])
      exact⟨⟨k+1,by omega,by go_num,by rw[HL.out],HZ.out HW.out,HBL.out _⟩,by simp[intOf];omega⟩
    ·have d2:decide (1≤t∧t≤15)=false:=decide_eq_false h2;have HW:Hid (Rg.wayErr l v t=3):=by show Rg.wayErr l v t=3;unfold Rg.wayErr;rw[if_neg (fun h=>h2 h.2)]
     clear h1 h2;go_wp2_with (go_at_call 30;refine(gwithin_any _ _ _ _).mono ?_;rintro e w2 ⟨rfl,rfl⟩;first | rw[d1] | rw[d2])
     go_ret;exact⟨by rw[HE.out (by rw[HW.out];decide),HW.out];rfl,HBL.out _⟩
   ·have d1:decide (1≤v∧v≤4094)=false:=decide_eq_false h1;have HW:Hid (Rg.wayErr l v t=3):=by show Rg.wayErr l v t=3;unfold Rg.wayErr;rw[if_neg (fun h=>h1 h.1)]
    clear h1;go_wp2_with (go_at_call 30;refine(gwithin_any _ _ _ _).mono ?_;rintro e w2 ⟨rfl,rfl⟩;rw[d1])
    go_ret;exact⟨by rw[HE.out (by rw[HW.out];decide),HW.out];rfl,HBL.out _⟩
  ·obtain rfl:k=n:=by omega
   go_wp2
   go_ret;exact⟨by rw[hX.out];rfl,hB.out⟩
theorem rg_cells {w:World}{g:Nat}{a0 a1 a2:Value}{ty:TypeId}(h:w.heap[g]?=some (.cells #[a0,a1,a2] ty (0,0))) :
  w.cell? ⟨g,0,none⟩=some a0∧w.cell? ⟨g,1,none⟩=some a1∧w.cell? ⟨g,2,none⟩=some a2 :=
 ⟨cell_of_row w g 0 _ _ _ h,cell_of_row w g 1 _ _ _ h,cell_of_row w g 2 _ _ _ h⟩
theorem gwrong_any (s:ByteArray) (rev:Int) (ao:Option Addr) (n cap:Nat) (vs ts:Nat→Int) (w:World) (hn:n≤9223372036854775807) (hr:WayRow w ao n cap vs ts) :
  Calls Tryz.prog 116 #[.agg #[.string s,.int .i64 rev,.slice ao n cap]] w fun e w'=>e=.returned (.int .i64 (Rg.wrong s rev vs ts n))∧Bl w w':=by
 have HR:Hid (WayRow w ao n cap vs ts):=hr;clear hr;have HB:Hid (∀w1:World,Below (w.alloc (.cells #[.string s,.int .i64 rev,.slice ao n cap] 72)).heap.size (w.alloc (.cells #[.string s,.int .i64 rev,.slice ao n cap] 72)) w1→w1.cell? ⟨w.heap.size,1,none⟩=some (.int .i64 rev)∧w1.cell? ⟨w.heap.size,2,none⟩=some (.slice ao n cap)∧Hid (Bl w w1)):=by
  intro w1 hb;have h:=rg_cells ((hb.block _ (by simp)).trans (heap_alloc_last w (.cells #[.string s,.int .i64 rev,.slice ao n cap] 72)));exact⟨h.2.1,h.2.2,(bA1 w _).trans (hb.mono (by simp))⟩
 unfold Rg.wrong;cases hnm:Rg.isName s with
 | false =>
  have HN:Hid (Rg.isName s=false):=hnm;clear hnm;rw[if_neg (by decide)];go_enter Tryz.func116,Tryz.ntmps116;go_wp2_with (go_at_call 143;refine(gisName_any _ _).mono ?_;rintro e w1 ⟨rfl,hb⟩;rw[HN.out];obtain⟨q1,q2,HBB⟩:=HB.out _ hb;clear hb)
  go_ret;exact⟨rfl,HBB.out⟩
 | true =>
  have HN:Hid (Rg.isName s=true):=hnm;clear hnm;rw[if_pos rfl];by_cases h1:0≤rev∧rev≤65535
  ·rw[if_pos h1];have d1:decide (0≤rev∧rev≤65535)=true:=decide_eq_true h1;clear h1;go_enter Tryz.func116,Tryz.ntmps116;go_wp2_with (first | (go_at_call 143;refine(gisName_any _ _).mono ?_;rintro e w1 ⟨rfl,hb⟩;rw[HN.out];obtain⟨q1,q2,HBB⟩:=HB.out _ hb;clear hb) | (go_at_call 30;refine(gwithin_any _ _ _ _).mono ?_;rintro e w2 ⟨rfl,rfl⟩;rw[d1]) | (go_at_call 144;refine(gways_any _ _ _ _ _ _ hn (HR.out.below HBB.out)).mono ?_;rintro e w3 ⟨rfl,hb3⟩))
   go_ret;exact⟨rfl,HBB.out.trans (hb3.mono HBB.out.size)⟩
  ·rw[if_neg h1];have d1:decide (0≤rev∧rev≤65535)=false:=decide_eq_false h1;clear h1;go_enter Tryz.func116,Tryz.ntmps116;go_wp2_with (first | (go_at_call 143;refine(gisName_any _ _).mono ?_;rintro e w1 ⟨rfl,hb⟩;rw[HN.out];obtain⟨q1,q2,HBB⟩:=HB.out _ hb;clear hb) | (go_at_call 30;refine(gwithin_any _ _ _ _).mono ?_;rintro e w2 ⟨rfl,rfl⟩;rw[d1]))
   go_ret;exact⟨rfl,HBB.out⟩
theorem gless_any (Br Bv:Nat) (ao:Option Addr) (n cap:Nat) (vs ts:Nat→Int) (vid:Int) (i:Nat) (w:World) (hr:WayRow w ao n cap vs ts) (hi:i<n) (hn:n≤4094) (h2:w.cell? ⟨Br,2,none⟩=some (.slice ao n cap)) (hv:w.cell? ⟨Bv,0,none⟩=some (.int .i64 vid)) :
  Calls Tryz.prog 166 #[.int .i64 i,.pointer (some ⟨Br,0,none⟩),.pointer (some ⟨Bv,0,none⟩)] w fun e w'=>e=.returned (.bool (decide (vid≤vs i)))∧Bl w w':=by
 obtain⟨b,off,rfl,hb,hc⟩:=hr.2 (by omega);have hcap:=hr.1;have c0:w.cell? ⟨b,off+i*2,none⟩=some (.int .i64 (vs i)):=(hc i hi).1;clear hr hc;generalize vs i=v at *;go_enter Tryz.func166,Tryz.ntmps166;go_wp2
 go_region
 all_goals go_wp2
 (all_goals go_ret);all_goals exact⟨rfl,below_drewN (Below.refl _ _) _⟩
theorem gsearch_any (Br Bv:Nat) (ao:Option Addr) (n cap:Nat) (vs ts:Nat→Int) (vid:Int) (w:World) (hr:WayRow w ao n cap vs ts) (hn:n≤4094) (hm:∀i j,i<j→j<n→vs i<vs j) (hbr:Br<w.heap.size) (hbv:Bv<w.heap.size) (h2:w.cell? ⟨Br,2,none⟩=some (.slice ao n cap)) (hv:w.cell? ⟨Bv,0,none⟩=some (.int .i64 vid)) :
  Calls Tryz.prog 165 #[.int .i64 n,.func (.func 166) #[] #[.pointer (some ⟨Br,0,none⟩),.pointer (some ⟨Bv,0,none⟩)]] w fun e w'=>∃k:Nat,e=.returned (.int .i64 k)∧k≤n∧((∀i,i<k→vs i<vid)∧(∀i,k≤i→i<n→vid≤vs i))∧Bl w w':=by
 have HC:Hid (∀W:World,Bl w W→∀i:Nat,i<n→Calls Tryz.prog 166 #[.int .i64 i,.pointer (some ⟨Br,0,none⟩),.pointer (some ⟨Bv,0,none⟩)] W fun e w'=>e=.returned (.bool (decide (vid≤vs i)))∧Bl W w') :=
  fun W hW i hi=>gless_any Br Bv ao n cap vs ts vid i W (hr.below hW) hi hn ((hW.cell (by exact hbr)).trans h2) ((hW.cell (by exact hbv)).trans hv)
 have HM:Hid (∀i j,i<j→j<n→vs i<vs j):=hm;clear hr hm h2 hv hbr hbv;go_enter Tryz.func165,Tryz.ntmps165;(go_wp2_with fail);go_loopw [5,6] (fun x y wr=>∃lo hi:Nat,lo≤hi∧hi≤n∧x=.int .i64 lo∧y=.int .i64 hi∧Hid ((∀i,i<lo→vs i<vid)∧(∀i,hi≤i→i<n→vid≤vs i))∧Hid (Bl w wr)) (fun x y _=>(intOf y-intOf x).toNat)
 case atStart=>exact⟨0,n,by omega,by omega,rfl,rfl,⟨fun i hi=>by omega,fun i h1 h2=>by omega⟩,Below.refl _ _⟩
 case round =>
  obtain⟨lo,hi,h1,h2,rfl,rfl,hX,hB⟩:=hrel;by_cases hlt:lo<hi
  ·have hc:=HC.out _ hB.out ((lo+hi)/2) (by omega);rw[show(((lo+hi)/2:Nat):Int)=((lo:Int)+(hi:Int))/2 by omega] at hc;by_cases hp:vid≤vs ((lo+hi)/2)
   ·have d1:decide (vid≤vs ((lo+hi)/2))=true:=decide_eq_true hp;rw[d1] at hc;have HX:Hid ((∀i,i<lo→vs i<vid)∧(∀i,(lo+hi)/2≤i→i<n→vid≤vs i)):=by
     refine⟨hX.out.1,fun i h3 h4 => ?_⟩;by_cases e:i=(lo+hi)/2
     ·subst e;exact hp
     ·have:=HM.out ((lo+hi)/2) i (by omega) h4;omega
    clear hX hp d1 HC HM;go_wp2_with (go_at_call 166;refine hc.mono ?_;rintro e w2 ⟨rfl,hb2⟩)
    exact⟨⟨lo,(lo+hi)/2,by omega,by omega,rfl,by rw[show(((lo+hi)/2:Nat):Int)=((lo:Int)+(hi:Int))/2 by omega],HX,hB.out.trans (hb2.mono hB.out.size)⟩,by simp[intOf];omega⟩
   ·have d1:decide (vid≤vs ((lo+hi)/2))=false:=decide_eq_false hp;rw[d1] at hc;have HX:Hid ((∀i,i<(lo+hi)/2+1→vs i<vid)∧(∀i,hi≤i→i<n→vid≤vs i)):=by
     refine⟨fun i h3 => ?_,hX.out.2⟩;by_cases e:i=(lo+hi)/2
     ·subst e;omega
     ·have:=HM.out i ((lo+hi)/2) (by omega) (by omega);omega
    clear hX hp d1 HC HM;go_wp2_with (go_at_call 166;refine hc.mono ?_;rintro e w2 ⟨rfl,hb2⟩)
    exact⟨⟨(lo+hi)/2+1,hi,by omega,by omega,by rw[show(((lo+hi)/2+1:Nat):Int)=((lo:Int)+(hi:Int))/2+1 by omega],rfl,HX,hB.out.trans (hb2.mono hB.out.size)⟩,by simp[intOf];omega⟩
  ·obtain rfl:lo=hi:=by omega
   go_wp2
   go_ret;exact⟨lo,rfl,h2,hX.out,hB.out⟩
theorem gtree_any (s:ByteArray) (rev:Int) (ao:Option Addr) (n cap:Nat) (vs ts:Nat→Int) (vid:Int) (w:World) (hR:Rg.Right vs ts n) (hr:WayRow w ao n cap vs ts) :
  Calls Tryz.prog 154 #[.agg #[.string s,.int .i64 rev,.slice ao n cap],.int .i64 vid] w fun e w'=>e=.returned (.int .i64 (Rg.tree vs ts vid n))∧Bl w w':=by
 have hn:=hR.many;have HRt:Hid (Rg.Right vs ts n):=hR;have HR:Hid (WayRow w ao n cap vs ts):=hr;clear hr hR;have HS:Hid (∀W,W=(w.alloc (.cells #[.string s,.int .i64 rev,.slice ao n cap] 72)).alloc (.cells #[.int .i64 vid] 3)→Calls Tryz.prog 165 #[.int .i64 n,.func (.func 166) #[] #[.pointer (some ⟨w.heap.size,0,none⟩),.pointer (some ⟨w.heap.size+1,0,none⟩)]] W fun e w'=>∃k:Nat,e=.returned (.int .i64 k)∧k≤n∧Hid ((∀i,i<k→vs i<vid)∧(∀i,k≤i→i<n→vid≤vs i))∧w'.cell? ⟨w.heap.size,2,none⟩=some (.slice ao n cap)∧w'.cell? ⟨w.heap.size+1,0,none⟩=some (.int .i64 vid)∧Hid (Bl w w')):=by
  intro W hW;have hb:Bl w W:=(by rw[hW];exact bA2 _ _ _)
  have hh:W.heap[w.heap.size]?=some (.cells #[.string s,.int .i64 rev,.slice ao n cap] 72):=(by rw[hW];exact heap_alloc2_old w _ _)
  have h0:=(rg_cells hh).2.2;have h1:W.cell? ⟨w.heap.size+1,0,none⟩=some (.int .i64 vid):=cell_of_row W _ 0 _ _ _ (by rw[hW];exact heap_alloc2_new w _ (.cells #[.int .i64 vid] 3));have z0:=block_lt_of_cell h0;have z1:=block_lt_of_cell h1;refine(gsearch_any _ _ ao n cap vs ts vid W (HR.out.below hb) hn HRt.out.less z0 z1 h0 h1).mono ?_;rintro e w' ⟨k,rfl,hk,hx,hb'⟩;exact⟨k,rfl,hk,hx,(hb'.cell (by exact z0)).trans h0,(hb'.cell (by exact z1)).trans h1,hb.trans (hb'.mono hb.size)⟩
 go_enter Tryz.func154,Tryz.ntmps154;go_wp2_with (go_at_call 165;refine(HS.out _ rfl).mono ?_;rintro e w1 ⟨k,rfl,hk,HX,q1,q2,HBB⟩)
 by_cases hlt:k<n
 ·obtain⟨b,off,rfl,hb,hc⟩:=(HR.out.below HBB.out).2 (by omega);have hcap:=HR.out.1;have c0:w1.cell? ⟨b,off+k*2,none⟩=some (.int .i64 (vs k)):=(hc k hlt).1;have c1:w1.cell? ⟨b,off+k*2+1,none⟩=some (.int .i64 (ts k)):=(hc k hlt).2;have hltz:(k:Int)<(n:Int):=(by omega)
  by_cases he:vs k=vid
  ·have HT:Hid (Rg.tree vs ts vid n=ts k):=(by rw[←he];exact Rg.tree_at HRt.out k hlt n hlt (Nat.le_refl _))
   rw[he] at c0;clear hc HR HRt HS HX he;generalize ts k=t at *;go_region
   all_goals go_wp2
   (all_goals go_ret);all_goals exact⟨by rw[HT.out];rfl,below_drewN HBB.out _⟩
  ·have HT:Hid (Rg.tree vs ts vid n=0):=Rg.tree_none vs ts vid n (fun i hi=>by
    have h3:=HX.out.1 i;have h4:=HX.out.2 k (Nat.le_refl _) hlt;by_cases e1:i<k
    ·have:=h3 e1;omega
    ·by_cases e2:i=k
     ·subst e2;exact he
     ·have:=HRt.out.less k i (by omega) hi;omega)
   have hd:decide (vs k=vid)=false:=decide_eq_false he;clear hc HR HRt HS HX;generalize vs k=v at *;generalize ts k=t at *;go_region
   all_goals go_wp2
   (all_goals go_ret);all_goals exact⟨by rw[HT.out];rfl,below_drewN HBB.out _⟩
 ·obtain rfl:k=n:=by omega
  have HT:Hid (Rg.tree vs ts vid k=0):=Rg.tree_none vs ts vid k (fun i hi=>by have:=HX.out.1 i hi;omega);clear HR HRt HS HX;go_region
  all_goals go_wp2
  (all_goals go_ret);all_goals exact⟨by rw[HT.out];rfl,below_drewN HBB.out _⟩
end
section
namespace Md
def rowU (n:Nat) (f:Nat→Int) (k:Nat):Array Value:=((List.range n).map fun i=>Value.int .u32 (if i<k then f i else 0)).toArray
theorem rowU_size (n:Nat) (f:Nat→Int) (k:Nat):(rowU n f k).size=n:=by simp[rowU]
theorem rowU_get (n:Nat) (f:Nat→Int) (k j:Nat) (h:j<n):(rowU n f k)[j]?=some (.int .u32 (if j<k then f j else 0)):=by
 simp[rowU,h]
theorem rowU_set (n:Nat) (f:Nat→Int) (k:Nat) (h:k<n):(rowU n f k).setIfInBounds k (.int .u32 (f k))=rowU n f (k+1):=by
 apply Array.ext_getElem?
 intro i;by_cases hi:i<n
 ·rw[rowU_get n f (k+1) i hi,Array.getElem?_setIfInBounds];by_cases e:k=i
  ·subst e;simp[rowU_size,h]
  ·rw[if_neg e,rowU_get n f k i hi];have:(i<k)↔(i<k+1):=by omega
   simp[this]
 ·have h1:n≤i:=(by omega)
  rw[Array.getElem?_eq_none (by simp[rowU_size];omega),Array.getElem?_eq_none (by simp[rowU_size];omega)]
theorem rowU_all (n:Nat) (f:Nat→Int) (k:Nat):(rowU n f k).all (·.oneCell')=true:=by
 rw[Array.all_eq_true_iff_forall_mem];intro v hv;simp[rowU] at hv;obtain⟨i,_,rfl⟩:=hv;rfl
def rowB (n:Nat) (f:Nat→Int) (k:Nat):Array Value:=((List.range n).map fun i=>Value.int .u8 (if i<k then f i else 0)).toArray
theorem rowB_size (n:Nat) (f:Nat→Int) (k:Nat):(rowB n f k).size=n:=by simp[rowB]
theorem rowB_get (n:Nat) (f:Nat→Int) (k j:Nat) (h:j<n):(rowB n f k)[j]?=some (.int .u8 (if j<k then f j else 0)):=by
 simp[rowB,h]
theorem rowB_set (n:Nat) (f:Nat→Int) (k:Nat) (h:k<n):(rowB n f k).setIfInBounds k (.int .u8 (f k))=rowB n f (k+1):=by
 apply Array.ext_getElem?
 intro i;by_cases hi:i<n
 ·rw[rowB_get n f (k+1) i hi,Array.getElem?_setIfInBounds];by_cases e:k=i
  ·subst e;simp[rowB_size,h]
  ·rw[if_neg e,rowB_get n f k i hi];have:(i<k)↔(i<k+1):=by omega
   simp[this]
 ·have h1:n≤i:=(by omega)
  rw[Array.getElem?_eq_none (by simp[rowB_size];omega),Array.getElem?_eq_none (by simp[rowB_size];omega)]
def wd (bs:Nat→Int) (i:Nat):Int :=
 bits BinOp.or IntKind.u32 (bits BinOp.or IntKind.u32 (bits BinOp.or IntKind.u32 (bs (4*i)%4294967296) (bs (4*i+1)%4294967296*256%4294967296)) (bs (4*i+2)%4294967296*65536%4294967296)) (bs (4*i+3)%4294967296*16777216%4294967296)
def tab:List Int:=[0xD76AA478,0xE8C7B756,0x242070DB,0xC1BDCEEE,0xF57C0FAF,0x4787C62A,0xA8304613,0xFD469501,
 0x698098D8,0x8B44F7AF,0xFFFF5BB1,0x895CD7BE,0x6B901122,0xFD987193,0xA679438E,0x49B40821,
 0xF61E2562,0xC040B340,0x265E5A51,0xE9B6C7AA,0xD62F105D,0x02441453,0xD8A1E681,0xE7D3FBC8,
 0x21E1CDE6,0xC33707D6,0xF4D50D87,0x455A14ED,0xA9E3E905,0xFCEFA3F8,0x676F02D9,0x8D2A4C8A,
 0xFFFA3942,0x8771F681,0x6D9D6122,0xFDE5380C,0xA4BEEA44,0x4BDECFA9,0xF6BB4B60,0xBEBFBC70,
 0x289B7EC6,0xEAA127FA,0xD4EF3085,0x04881D05,0xD9D4D039,0xE6DB99E5,0x1FA27CF8,0xC4AC5665,
 0xF4292244,0x432AFF97,0xAB9423A7,0xFC93A039,0x655B59C3,0x8F0CCC92,0xFFEFF47D,0x85845DD1,
 0x6FA87E4F,0xFE2CE6E0,0xA3014314,0x4E0811A1,0xF7537E82,0xBD3AF235,0x2AD7D2BB,0xEB86D391]
def trn:List Int:=[7,12,17,22,5,9,14,20,4,11,16,23,6,10,15,21]
def tabAt (i:Nat):Int:=tab.getD i 0
def trnAt (i:Nat):Int:=trn.getD i 0
theorem trnAt_range:∀i,i<16→0≤trnAt i∧trnAt i<32:=by decide
def rotl (x k:Int):Int:=bits BinOp.or IntKind.u32 (x*2 ^ k.toNat%4294967296) (x/2 ^ (32-k).toNat)
def fsel (i:Nat) (b c d:Int):Int :=
 if i<16 then bits BinOp.or IntKind.u32 (bits BinOp.and IntKind.u32 b c) (bits BinOp.and IntKind.u32 (bits BinOp.xor IntKind.u32 IntKind.u32.max b) d)
 else if i<32 then bits BinOp.or IntKind.u32 (bits BinOp.and IntKind.u32 b d) (bits BinOp.andNot IntKind.u32 c d)
 else if i<48 then bits BinOp.xor IntKind.u32 (bits BinOp.xor IntKind.u32 b c) d
 else bits BinOp.xor IntKind.u32 c (bits BinOp.or IntKind.u32 b (bits BinOp.xor IntKind.u32 IntKind.u32.max d))
def ksel (i:Nat):Nat :=
 if i<16 then i else if i<32 then(5*i+1)%16 else if i<48 then(3*i+5)%16 else 7*i%16
theorem ksel_lt (i:Nat):ksel i<16:=by
 unfold ksel;split
 ·assumption
 ·split
  ·omega
  ·split<;>omega
structure St where
 a:Int
 b:Int
 c:Int
 d:Int
def stV (s:St):Value:=.agg #[.int .u32 s.a,.int .u32 s.b,.int .u32 s.c,.int .u32 s.d]
theorem all4 (a b c d:Int):(#[Value.int .u32 a,.int .u32 b,.int .u32 c,.int .u32 d]:Array Value).all (·.oneCell')=true:=by
 rw[Array.all_eq_true_iff_forall_mem];intro v hv;simp at hv;rcases hv with rfl | rfl | rfl | rfl<;>rfl
def stp (bs:Nat→Int) (i:Nat) (s:St):St :=
 ⟨s.d,(s.b+rotl ((s.a+fsel i s.b s.c s.d+tabAt i+wd bs (ksel i))%4294967296) (trnAt (i/16*4+i%4)))%4294967296,s.b,s.c⟩
def runTo (bs:Nat→Int):Nat→St→St
 | 0,s=>s
 | k+1,s=>stp bs k (runTo bs k s)
def mixS (s:St) (bs:Nat→Int):St :=
 ⟨(s.a+(runTo bs 64 s).a)%4294967296,(s.b+(runTo bs 64 s).b)%4294967296,(s.c+(runTo bs 64 s).c)%4294967296,(s.d+(runTo bs 64 s).d)%4294967296⟩
def st0:St:=⟨1732584193,4023233417,2562383102,271733878⟩
def mixN (s:St) (bs:Nat→Int):Nat→St
 | 0=>s
 | k+1=>mixS (mixN s bs k) (fun i=>bs (64*k+i))
def stA (s:St):Array Value:=#[.int .u32 s.a,.int .u32 s.b,.int .u32 s.c,.int .u32 s.d]
theorem stA_all (s:St):(stA s).all (·.oneCell')=true:=all4 _ _ _ _
theorem stA_size (s:St):(stA s).size=4:=rfl
def wordOf (s:St):Nat→Int
 | 0=>s.a
 | 1=>s.b
 | 2=>s.c
 | _=>s.d
def dg (s:St) (i:Nat):Int:=wordOf s (i/4)/2 ^ (8*(i%4))%256
end Md
end
section
open Go.RowKit
theorem size50:(Tryz.prog.info? 239).map (·.size)=some 16:=by kernel_rfl
theorem words_any (b off cap:Nat) (bs:Nat→Int) (w:World) (hb:b<w.heap.size) (hcap:64≤cap) (hc:∀i,i<64→w.cell? ⟨b,off+i,none⟩=some (.int .u8 (bs i))) :
  Calls Tryz.prog 178 #[.slice (some ⟨b,off,none⟩) 64 cap] w fun e w'=>e=.returned (.agg (Md.rowU 16 (Md.wd bs) 16))∧Bl w w':=by
 go_enter Tryz.func178,Tryz.ntmps178;go_wp2
 go_loopw [6] (fun i wr=>∃k:Nat,k≤16∧i=.int .i64 k∧wr.heap[w.heap.size]?=some (.cells (Md.rowU 16 (Md.wd bs) 0) 239)∧wr.heap[w.heap.size+1]?=some (.cells (Md.rowU 16 (Md.wd bs) k) 239)∧Bl w wr) (fun i _=>16-(intOf i).toNat)
 case atStart=>exact⟨0,by omega,rfl,heap_alloc2_old w _ _,heap_alloc2_new w _ _,((Below.refl _ _).alloc (Nat.le_refl _) _).alloc (by simp) _⟩
 case round =>
  obtain⟨k,hk,rfl,hA,hB,hbel⟩:=hrel;by_cases hlt:k<16
  ·have c0:wr.cell? ⟨b,off+4*k,none⟩=some (.int .u8 (bs (4*k))):=(hbel.cell (by exact hb)).trans (hc (4*k) (by omega));have c1:wr.cell? ⟨b,off+4*k+1,none⟩=some (.int .u8 (bs (4*k+1))):=(hbel.cell (by exact hb)).trans (hc (4*k+1) (by omega));have c2:wr.cell? ⟨b,off+4*k+2,none⟩=some (.int .u8 (bs (4*k+2))):=(hbel.cell (by exact hb)).trans (hc (4*k+2) (by omega));have c3:wr.cell? ⟨b,off+4*k+3,none⟩=some (.int .u8 (bs (4*k+3))):=(hbel.cell (by exact hb)).trans (hc (4*k+3) (by omega));have c4:wr.cell? ⟨w.heap.size+1,k,none⟩=some (.int .u32 0):=(cell_of_row wr _ k _ _ _ hB).trans (by rw[Md.rowU_get _ _ _ _ hlt];simp);have f4:wr.frozen? ⟨w.heap.size+1,k,none⟩=false:=frozen_of_row _ _ _ _ _ hB;have R1:Hid ((wr.setCell ⟨w.heap.size+1,k,none⟩ (.int .u32 (Md.wd bs k))).heap[w.heap.size]?=some (.cells (Md.rowU 16 (Md.wd bs) 0) 239)∧(wr.setCell ⟨w.heap.size+1,k,none⟩ (.int .u32 (Md.wd bs k))).heap[w.heap.size+1]?=some (.cells (Md.rowU 16 (Md.wd bs) (k+1)) 239)∧Bl w (wr.setCell ⟨w.heap.size+1,k,none⟩ (.int .u32 (Md.wd bs k))).drew):=by
    refine⟨by rw[heap_setCell_other _ _ _ _ (by simp)];exact hA,?_,(hbel.setCell (by simp) _).drew⟩;rw[heap_setCell_same _ _ _ _ _ _ hB,Md.rowU_set _ _ _ hlt]
   clear hc hA hB hbel;go_wp2
   go_region
   go_wp2
   exact⟨⟨k+1,by omega,by go_num,R1.out.1,R1.out.2.1,R1.out.2.2⟩,by simp[intOf];omega⟩
  ·obtain rfl:k=16:=by omega
   go_wp2_with (first | refine wpList_load_row rfl 239 _ rfl (w.heap.size+1) rfl 239 _ (0,0) _ hB Tryz.underlying239 rfl (by rw[size50,Md.rowU_size]) ?_ | refine wpList_store_row rfl 239 _ _ rfl (w.heap.size) _ rfl rfl 239 _ hA (by rw[size50,Md.rowU_size]) (by simp[Md.rowU_size]) (Md.rowU_all _ _ _) ?_)
   exact bodyPost_ret (v:=.agg (Md.rowU 16 (Md.wd bs) 16)) (results_cell_row (p:=2) (ty:=239) rfl _ _ w.heap.size 239 _ (0,0) _ rfl (setRow_heap _ _ _ _ _ _ hA) Tryz.underlying239 rfl (by rw[size50,Md.rowU_size])) rfl ⟨rfl,below_setRow hbel (Nat.le_refl _) _⟩
theorem start_any (w:World) :
  Calls Tryz.prog 177 #[] w fun e w'=>e=.returned (Md.stV Md.st0)∧Bl w w':=by
 go_enter Tryz.func177,Tryz.ntmps177;go_wp2
 exact bodyPost_ret (v:=Md.stV Md.st0) (by simp[results,Tryz.results177,go_sem,Md.stV,Md.st0]) rfl ⟨rfl,(Below.refl _ _).alloc (Nat.le_refl _) _⟩
theorem and31 (k:Int) (h0:0≤k) (h1:k<32):bits BinOp.and IntKind.u64 k 31=k:=by
 go_bits2
theorem rot_any (x k:Int) (w:World) (h0:0≤k) (h1:k<32) :
  Calls Tryz.prog 180 #[.int .u32 x,.int .i64 k] w fun e w'=>e=.returned (.int .u32 (Md.rotl x k))∧w'=w:=by
 have hk:=and31 k h0 h1;go_enter Tryz.func180,Tryz.ntmps180;go_wp2
 go_ret;exact⟨rfl,rfl⟩
theorem choose_any (i:Nat) (b c d:Int) (w:World) (h1:i<64) :
  Calls Tryz.prog 179 #[.int .i64 i,.int .u32 b,.int .u32 c,.int .u32 d] w fun e w'=>e=.returned (.tuple #[.int .u32 (Md.fsel i b c d),.int .i64 (Md.ksel i)])∧w'=w:=by
 rcases(show i<16∨(16≤i∧i<32)∨(32≤i∧i<48)∨(48≤i∧i<64) by omega) with h | h | h | h
 ·have e1:Md.fsel i b c d=bits BinOp.or IntKind.u32 (bits BinOp.and IntKind.u32 b c) (bits BinOp.and IntKind.u32 (bits BinOp.xor IntKind.u32 IntKind.u32.max b) d):=(by simp[Md.fsel,h])
  have e2:Md.ksel i=i:=(by simp[Md.ksel,h])
  rw[e1,e2];clear e1 e2;go_enter Tryz.func179,Tryz.ntmps179;go_wp2
  go_ret2;exact⟨rfl,rfl⟩
 ·obtain⟨h2,h3⟩:=h;have e1:Md.fsel i b c d=bits BinOp.or IntKind.u32 (bits BinOp.and IntKind.u32 b d) (bits BinOp.andNot IntKind.u32 c d):=(by simp[Md.fsel,h3,show ¬i<16 by omega])
  have e2:((Md.ksel i:Nat):Int)=(5*(i:Int)+1)%16:=(by simp[Md.ksel,h3,show ¬i<16 by omega])
  rw[e1,e2];clear e1 e2;go_enter Tryz.func179,Tryz.ntmps179;go_wp2
  go_ret2;exact⟨rfl,rfl⟩
 ·obtain⟨h2,h3⟩:=h;have e1:Md.fsel i b c d=bits BinOp.xor IntKind.u32 (bits BinOp.xor IntKind.u32 b c) d:=(by simp[Md.fsel,h3,show ¬i<16 by omega,show ¬i<32 by omega])
  have e2:((Md.ksel i:Nat):Int)=(3*(i:Int)+5)%16:=(by simp[Md.ksel,h3,show ¬i<16 by omega,show ¬i<32 by omega])
  rw[e1,e2];clear e1 e2;go_enter Tryz.func179,Tryz.ntmps179;go_wp2
  go_ret2;exact⟨rfl,rfl⟩
 ·obtain⟨h2,h3⟩:=h;have e1:Md.fsel i b c d=bits BinOp.xor IntKind.u32 c (bits BinOp.or IntKind.u32 b (bits BinOp.xor IntKind.u32 IntKind.u32.max d)):=(by simp[Md.fsel,show ¬i<48 by omega,show ¬i<16 by omega,show ¬i<32 by omega])
  have e2:((Md.ksel i:Nat):Int)=7*(i:Int)%16:=(by simp[Md.ksel,show ¬i<48 by omega,show ¬i<16 by omega,show ¬i<32 by omega])
  rw[e1,e2];clear e1 e2;go_enter Tryz.func179,Tryz.ntmps179;go_wp2
  go_ret2;exact⟨rfl,rfl⟩
end
end Go.Proofs.YtaneiffnhphkhaaGreatDoor
