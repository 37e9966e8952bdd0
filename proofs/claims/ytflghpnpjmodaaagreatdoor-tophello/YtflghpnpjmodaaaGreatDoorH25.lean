/- walks: hello.Bytes -/
import Derived.Test.YtflghpnpjmodaaaGreatDoorH24
import Derived.Deep.DeepCutAuto
set_option maxRecDepth 100000
set_option maxHeartbeats 40000000
namespace Go.Proofs.YtflghpnpjmodaaaGreatDoor
section
namespace Hl
structure Tl where
 tree:Int
 root:Int
 cost:Int
 bridge:Int
 port:Int
 age:Int
theorem Tl.eq {t u:Tl}(h0:t.tree=u.tree) (h1:t.root=u.root) (h2:t.cost=u.cost) (h3:t.bridge=u.bridge) (h4:t.port=u.port) (h5:t.age=u.age):t=u:=by
 cases t;cases u;simp_all
def Tl.fits (t:Tl):Prop:=(0≤t.tree∧t.tree≤15)∧(0≤t.age∧t.age≤255)∧(0≤t.cost∧t.cost≤1000000000)∧0≤t.port∧t.port≤30
instance (t:Tl):Decidable t.fits:=by unfold Tl.fits;infer_instance
def Tl.wide (t:Tl):Prop:=(0≤t.root∧t.root<18446744073709551616)∧0≤t.bridge∧t.bridge<18446744073709551616
def taleErr (l:Int) (t:Tl):Int:=if t.fits then(if t.tree≤l then 2 else 0) else 3
def last (ts:Nat→Tl) (k:Nat):Int:=if k=0 then -1 else(ts (k-1)).tree
def wrongTo (ts:Nat→Tl):Nat→Int
 | 0=>0
 | k+1=>if wrongTo ts k=0 then taleErr (last ts k) (ts k) else wrongTo ts k
def wrong (nd:Nat) (ts:Nat→Tl) (n:Nat):Int:=if nd=16 then wrongTo ts n else 2
theorem wrongTo_stay (ts:Nat→Tl) (k:Nat) (h:wrongTo ts k≠0):∀n,k≤n→wrongTo ts n=wrongTo ts k:=by
 intro n hn;induction n with
 | zero =>
  obtain rfl:k=0:=by omega
  rfl
 | succ n ih =>
  by_cases e:k=n+1
  ·subst e;rfl
  ·have h1:=ih (by omega);simp only[wrongTo];rw[if_neg (by rw[h1];exact h),h1]
theorem wrongTo_here (ts:Nat→Tl) (k n:Nat) (hk:k<n) (h0:wrongTo ts k=0) (h:taleErr (last ts k) (ts k)≠0):wrongTo ts n=taleErr (last ts k) (ts k):=by
 have h1:wrongTo ts (k+1)=taleErr (last ts k) (ts k):=(by simp only[wrongTo];rw[if_pos h0])
 rw[wrongTo_stay ts (k+1) (by rw[h1];exact h) n (by omega),h1]
theorem wrongTo_succ (ts:Nat→Tl) (k:Nat) (h0:wrongTo ts k=0) (h:taleErr (last ts k) (ts k)=0):wrongTo ts (k+1)=0:=by
 simp only[wrongTo];rw[if_pos h0];exact h
theorem last_succ (ts:Nat→Tl) (k:Nat):last ts (k+1)=(ts k).tree:=by
 unfold last;rw[if_neg (by omega)];rfl
theorem wrongTo_congr {ts us:Nat→Tl}:∀{n:Nat},(∀i,i<n→ts i=us i)→wrongTo ts n=wrongTo us n
 | 0,_=>rfl
 | n+1,h=>by
  have h1:=wrongTo_congr (n:=n) (fun i hi=>h i (by omega));have h2:last ts n=last us n:=by
   unfold last;by_cases e:n=0
   ·rw[if_pos e,if_pos e]
   ·rw[if_neg e,if_neg e,h (n-1) (by omega)]
  simp only[wrongTo];rw[h1,h2,h n (by omega)]
theorem taleErr_zero {l:Int}{t:Tl}(h:taleErr l t=0):t.fits∧l<t.tree:=by
 unfold taleErr at h;by_cases c:t.fits
 ·rw[if_pos c] at h;by_cases d:t.tree≤l
  ·rw[if_pos d] at h;cases h
  ·exact⟨c,by omega⟩
 ·rw[if_neg c] at h;cases h
structure Right (ts:Nat→Tl) (n:Nat):Prop where
 fits:∀i,i<n→(ts i).fits
 less:∀i j,i<j→j<n→(ts i).tree<(ts j).tree
theorem right_of {ts:Nat→Tl}:∀{n:Nat},wrongTo ts n=0→Right ts n
 | 0,_=>⟨fun i h=>by omega,fun i j _ h=>by omega⟩
 | n+1,h=>by
  have h0:wrongTo ts n=0:=by
   by_cases c:wrongTo ts n=0
   ·exact c
   ·simp only[wrongTo] at h;rw[if_neg c] at h;exact h
  have hw:taleErr (last ts n) (ts n)=0:=(by simp only[wrongTo] at h;rw[if_pos h0] at h;exact h)
  obtain⟨r1,r2⟩:=right_of h0;obtain⟨q1,q2⟩:=taleErr_zero hw;refine⟨fun i hi => ?_,fun i j hij hj => ?_⟩
  ·by_cases e:i=n
   ·subst e;exact q1
   ·exact r1 i (by omega)
  ·by_cases e:j=n
   ·subst e;unfold last at q2;rw[if_neg (by omega)] at q2;by_cases e2:i=j-1
    ·subst e2;exact q2
    ·have:=r2 i (j-1) (by omega) (by omega);omega
   ·exact r2 i j hij (by omega)
theorem Right.low {ts:Nat→Tl}{n:Nat}(h:Right ts n):∀i,i<n→(i:Int)≤(ts i).tree
 | 0,hi=>by have:=(h.fits 0 hi).1.1;omega
 | i+1,hi=>by have:=Right.low h i (by omega);have:=h.less i (i+1) (by omega) hi;omega
theorem Right.many {ts:Nat→Tl}{n:Nat}(h:Right ts n):n≤16:=by
 rcases Nat.eq_zero_or_pos n with e | e
 ·omega
 ·have h1:=h.low (n-1) (by omega);have h2:=(h.fits (n-1) (by omega)).1.2;omega
theorem wrong_zero {nd:Nat}{ts:Nat→Tl}{n:Nat}(h:wrong nd ts n=0):nd=16∧wrongTo ts n=0∧Right ts n:=by
 unfold wrong at h;by_cases c:nd=16
 ·rw[if_pos c] at h;exact⟨c,h,right_of h⟩
 ·rw[if_neg c] at h;cases h
def taleB (t:Tl) (j:Nat):Int :=
 if j=0 then t.tree else if j=1 then t.age else if j<10 then be 8 t.root (j-2) else if j<14 then be 4 t.cost (j-10) else if j<22 then be 8 t.bridge (j-14) else t.port
def byt (dg:Nat→Int) (n:Nat) (ts:Nat→Tl) (i:Nat):Int :=
 if i<16 then dg i else if i=16 then(n:Int) else taleB (ts ((i-17)/23)) ((i-17)%23)
def taleF (f:Nat→Int):Tl:=⟨f 0,num (fun i=>f (2+i)) 8,num (fun i=>f (10+i)) 4,num (fun i=>f (14+i)) 8,f 22,f 1⟩
def talesF (f:Nat→Int) (i:Nat):Tl:=taleF (fun j=>f (17+i*23+j))
theorem num_range' (f:Nat→Int):∀k,(∀i,i<k→0≤f i∧f i≤255)→0≤num f k∧num f k<2 ^ (8*k)
 | 0,_=>by simp[num]
 | k+1,hf=>by
  have h:=num_range' f k (fun i hi=>hf i (by omega));have:=hf k (by omega);have h2:(2:Int) ^ (8*(k+1))=2 ^ (8*k)*256:=(by rw[Nat.mul_add,Int.pow_add];rfl)
  rw[h2];simp only[num];generalize (2:Int) ^ (8*k)=P at *;omega
theorem num_be (N:Int) (f:Nat→Int) (k:Nat) (h0:0≤N) (h1:N<2 ^ (8*k)) (hf:∀i,i<k→f i=be k N i):num f k=N:=by
 have H:∀j,j≤k→num f j=N/2 ^ (8*(k-j)):=by
  intro j;induction j with
  | zero=>intro _;simp only[num,Nat.sub_zero];exact(Int.ediv_eq_zero_of_lt h0 h1).symm
  | succ j ih =>
   intro hj;simp only[num];rw[ih (by omega),hf j (by omega)];unfold be;rw[show 8*(k-j)=8*(k-1-j)+8 by omega,Int.pow_add,←Int.ediv_ediv_of_nonneg (Int.le_of_lt (Int.pow_pos (by decide))),show k-(j+1)=k-1-j by omega,show(2:Int) ^ 8=256 from rfl];omega
 have:=H k (Nat.le_refl _);rw[Nat.sub_self,Nat.mul_zero,Int.pow_zero,Int.ediv_one] at this;exact this
theorem tale_back (t:Tl) (f:Nat→Int) (h1:t.fits) (h2:t.wide) (hf:∀j,j<23→f j=taleB t j):taleF f=t:=by
 obtain⟨a,b,c,d⟩:=h1;refine Tl.eq ?_ ?_ ?_ ?_ ?_ ?_
 ·exact hf 0 (by omega)
 ·refine num_be _ _ 8 h2.1.1 h2.1.2 (fun i hi => ?_);rw[hf _ (by omega)];unfold taleB;rw[if_neg (by omega),if_neg (by omega),if_pos (by omega),show 2+i-2=i by omega]
 ·refine num_be _ _ 4 c.1 (by have:=c.2;simp only[Nat.reduceMul];omega) (fun i hi => ?_);rw[hf _ (by omega)];unfold taleB;rw[if_neg (by omega),if_neg (by omega),if_neg (by omega),if_pos (by omega),show 10+i-10=i by omega]
 ·refine num_be _ _ 8 h2.2.1 h2.2.2 (fun i hi => ?_);rw[hf _ (by omega)];unfold taleB;rw[if_neg (by omega),if_neg (by omega),if_neg (by omega),if_neg (by omega),if_pos (by omega),show 14+i-14=i by omega]
 ·exact hf 22 (by omega)
 ·exact hf 1 (by omega)
theorem taleB_range (t:Tl) (h:t.fits) (j:Nat):0≤taleB t j∧taleB t j≤255:=by
 obtain⟨a,b,c,d⟩:=h;unfold taleB;by_cases e0:j=0
 ·rw[if_pos e0];omega
 ·rw[if_neg e0];by_cases e1:j=1
  ·rw[if_pos e1];omega
  ·rw[if_neg e1];by_cases e2:j<10
   ·rw[if_pos e2];exact be_range _ _ _
   ·rw[if_neg e2];by_cases e3:j<14
    ·rw[if_pos e3];exact be_range _ _ _
    ·rw[if_neg e3];by_cases e4:j<22
     ·rw[if_pos e4];exact be_range _ _ _
     ·rw[if_neg e4];omega
theorem byt_tale (dg:Nat→Int) (n:Nat) (ts:Nat→Tl) (i j:Nat) (hj:j<23):byt dg n ts (17+i*23+j)=taleB (ts i) j:=by
 unfold byt;rw[if_neg (by omega),if_neg (by omega),show(17+i*23+j-17)/23=i by omega,show(17+i*23+j-17)%23=j by omega]
theorem turn_there (dg:Nat→Int) (n:Nat) (ts:Nat→Tl) (hr:Right ts n) (hw:∀i,i<n→(ts i).wide) (i:Nat) (hi:i<n):talesF (byt dg n ts) i=ts i :=
 tale_back (ts i) _ (hr.fits i hi) (hw i hi) (fun j hj=>byt_tale dg n ts i j hj)
theorem byt_range (dg:Nat→Int) (n:Nat) (ts:Nat→Tl) (hd:∀i,i<16→0≤dg i∧dg i≤255) (hr:Right ts n) (i:Nat) (hi:i<17+n*23):0≤byt dg n ts i∧byt dg n ts i≤255:=by
 unfold byt;by_cases e0:i<16
 ·rw[if_pos e0];exact hd i e0
 ·rw[if_neg e0];by_cases e1:i=16
  ·rw[if_pos e1];have:=hr.many;omega
  ·rw[if_neg e1];exact taleB_range _ (hr.fits _ (by omega)) _
end Hl
end
section
open Go.RowKit
theorem nwithin_any (n l m:Int) (w:World) :
  Calls Tryz.prog 32 #[.int .i64 n,.int .i64 l,.int .i64 m] w fun e w'=>e=.returned (.bool (decide (l≤n∧n≤m)))∧w'=w:=by
 by_cases h1:l≤n<;>by_cases h2:n≤m
 all_goals
  go_enter Tryz.func32,Tryz.ntmps32;go_wp2
  go_ret;exact⟨by simp[h1,h2],rfl⟩
theorem nor8 (n x:Int) (hn:0≤n∧n<72057594037927936) (hx:0≤x∧x≤255):bits BinOp.or IntKind.u64 (n*256) x=n*256+x :=
 bits_join .u64 64 (by decide) wraps_u64 8 (n*256) x (by omega) (by omega) (by omega) (by omega) (by omega) (by omega)
theorem nput_any (g off n cap N18:Nat) (ty:TypeId) (f:Nat→Int) (N:Int) (w:World) (hA:w.heap[g]?=some (.cells (rowF N18 f) ty (0,0))) (hn:off+n≤N18) (hn8:n≤8) (hcap:n≤cap) :
  Calls Tryz.prog 84 #[.slice (some ⟨g,off,none⟩) n cap,.int .u64 N] w fun e w'=>e=.returned (.tuple #[])∧w'.heap[g]?=some (.cells (rowF N18 (fun i=>if off≤i∧i<off+n then be n N (i-off) else f i)) ty (0,0))∧w'.heap.size=w.heap.size∧Below g w w'∧(∀b,b≠g→w'.heap[b]?=w.heap[b]?):=by
 have HA:Hid (w.heap[g]?=some (.cells (rowF N18 f) ty (0,0))):=hA;clear hA;go_enter Tryz.func84,Tryz.ntmps84;(go_wp2_with fail);go_loopw [7] (fun i wr=>∃k:Nat,k≤n∧i=.int .i64 k∧Hid (wr.heap[g]?=some (.cells (rowF N18 (fun i=>if off≤i∧i<off+k then be n N (i-off) else f i)) ty (0,0))∧wr.heap.size=w.heap.size∧Below g w wr∧(∀b,b≠g→wr.heap[b]?=w.heap[b]?))) (fun i _=>n-(intOf i).toNat)
 case atStart=>exact⟨0,by omega,rfl,by rw[HA.out,rowF_congr];intro i _;rw[if_neg (by omega)],rfl,Below.refl _ _,fun _ _=>rfl⟩
 case round =>
  obtain⟨k,hk,rfl,hX⟩:=hrel;by_cases hlt:k<n
  ·have c4:wr.cell? ⟨g,off+k,none⟩=some (.int .u8 (f (off+k))):=(cell_of_row wr _ _ _ _ _ hX.out.1).trans ((rowF_get _ _ _ (by omega)).trans (by rw[if_neg (by omega)]));have f4:wr.frozen? ⟨g,off+k,none⟩=false:=frozen_of_row _ _ _ _ _ hX.out.1;have HX:Hid ((wr.setCell ⟨g,off+k,none⟩ (.int .u8 (be n N k))).heap[g]?=some (.cells (rowF N18 (fun i=>if off≤i∧i<off+(k+1) then be n N (i-off) else f i)) ty (0,0))∧(wr.setCell ⟨g,off+k,none⟩ (.int .u8 (be n N k))).heap.size=w.heap.size∧Below g w (wr.setCell ⟨g,off+k,none⟩ (.int .u8 (be n N k)))∧(∀b,b≠g→(wr.setCell ⟨g,off+k,none⟩ (.int .u8 (be n N k))).heap[b]?=w.heap[b]?)):=by
    refine⟨?_,by simp[World.setCell,hX.out.2.1],hX.out.2.2.1.setCell (Nat.le_refl _) _,fun b hb=>(heap_setCell_other _ _ _ _ hb).trans (hX.out.2.2.2 b hb)⟩;rw[heap_setCell_same _ _ _ _ _ _ hX.out.1,rowF_set _ _ _ _ (by omega)];congr 2
    apply rowF_congr
    intro i _;by_cases e:i=off+k
    ·subst e;rw[if_pos rfl,if_pos (by omega)];congr 1;omega
    ·rw[if_neg e];have:(off≤i∧i<off+k)↔(off≤i∧i<off+(k+1)):=by omega
     simp only[this]
   clear hX HA;go_wp2
   exact⟨⟨k+1,by omega,by go_num,HX⟩,by simp[intOf];omega⟩
  ·obtain rfl:k=n:=by omega
   go_wp2
   exact bodyPost_end (results_none Tryz.results84 _ _ _) rfl ⟨rfl,hX.out⟩
theorem nof_any (ao:Option Addr) (n cap:Nat) (f:Nat→Int) (w:World) (hr:ByteRow w ao n cap f) (hf:∀i,i<n→0≤f i∧f i≤255) (hn8:n≤8) :
  Calls Tryz.prog 85 #[.slice ao n cap] w fun e w'=>e=.returned (.int .u64 (num f n))∧w'=w:=by
 have HN:Hid (∀k,k≤n→0≤num f k∧num f k<2 ^ (8*k)):=by
  intro k hk;have:=num_range (fun i=>if i<n then f i else 0) (fun i=>by by_cases h:i<n;simp[h];exact hf i h;simp[h]) k;have e:∀j,j≤n→num (fun i=>if i<n then f i else 0) j=num f j:=by
   intro j;induction j with
   | zero=>intro _;rfl
   | succ j ih=>intro hj;simp only[num];rw[ih (by omega),if_pos (by omega)]
  rw[e k hk] at this;exact this
 have HR:Hid (ByteRow w ao n cap f):=hr;have HF:Hid (∀i,i<n→0≤f i∧f i≤255):=hf;clear hr hf;go_enter Tryz.func85,Tryz.ntmps85;(go_wp2_with fail);go_loopw [8,3] (fun i m wr=>∃k:Nat,k≤n∧i=.int .i64 k∧m=.int .u64 (num f k)∧wr=w) (fun i _ _=>n-(intOf i).toNat)
 case atStart=>exact⟨0,by omega,rfl,rfl,rfl⟩
 case round =>
  obtain⟨k,hk,rfl,rfl,rfl⟩:=hrel;by_cases hlt:k<n
  ·obtain⟨b,off,rfl,hb,hc⟩:=HR.out.2 (by omega);have hcap:=HR.out.1;have c4:wr.cell? ⟨b,off+k,none⟩=some (.int .u8 (f k)):=hc k hlt;have h256:0≤num f k∧num f k<72057594037927936:=by
    have h1:=HN.out k (by omega);have h2:(2:Int) ^ (8*k)≤2 ^ (8*7):=by exact_mod_cast Nat.pow_le_pow_right (n:=2) (by omega) (show 8*k≤8*7 by omega)
    have h3:(2:Int) ^ (8*7)=72057594037927936:=(by decide)
    omega
   have hfk:=HF.out k hlt;have q:=nor8 (num f k) (f k) h256 hfk;have HQ:Hid (num f (k+1)=num f k*256+f k):=rfl;clear hc HR HF HN;generalize num f k=M at *;go_wp2
   exact⟨⟨k+1,by omega,by go_num,by rw[HQ.out],trivial⟩,by simp[intOf];omega⟩
  ·obtain rfl:k=n:=by omega
   go_wp2
   go_ret;exact⟨rfl,rfl⟩
end
section
open Go.RowKit
open Hl (Tl)
def tlA (t:Tl):Array Value:=#[.int .i64 t.tree,.int .u64 t.root,.int .i64 t.cost,.int .u64 t.bridge,.int .i64 t.port,.int .i64 t.age]
theorem linRange_raw (tr ro co br po ag:Int) (w:World) :
  Calls Tryz.prog 126 #[.agg #[.int .i64 tr,.int .u64 ro,.int .i64 co,.int .u64 br,.int .i64 po,.int .i64 ag]] w fun e w'=>e=.returned (.bool (decide ((0≤tr∧tr≤15)∧(0≤ag∧ag≤255)∧(0≤co∧co≤1000000000)∧0≤po∧po≤30)))∧Bl w w':=by
 by_cases h1:0≤tr∧tr≤15
 ·have d1:decide (0≤tr∧tr≤15)=true:=decide_eq_true h1;by_cases h2:0≤ag∧ag≤255
  ·have d2:decide (0≤ag∧ag≤255)=true:=decide_eq_true h2;by_cases h3:0≤co∧co≤1000000000
   ·have d3:decide (0≤co∧co≤1000000000)=true:=decide_eq_true h3;go_enter Tryz.func126,Tryz.ntmps126;go_wp2_with (go_at_call 32;refine(nwithin_any _ _ _ _).mono ?_;rintro e w1 ⟨rfl,rfl⟩;first | rw[d1] | rw[d2] | rw[d3] | skip)
    go_ret;exact⟨by simp[h1,h2,h3],(Below.refl _ _).alloc (Nat.le_refl _) _⟩
   ·have d3:decide (0≤co∧co≤1000000000)=false:=decide_eq_false h3;go_enter Tryz.func126,Tryz.ntmps126;go_wp2_with (go_at_call 32;refine(nwithin_any _ _ _ _).mono ?_;rintro e w1 ⟨rfl,rfl⟩;first | rw[d1] | rw[d2] | rw[d3] | skip)
    go_ret;exact⟨by simp[h3],(Below.refl _ _).alloc (Nat.le_refl _) _⟩
  ·have d2:decide (0≤ag∧ag≤255)=false:=decide_eq_false h2;go_enter Tryz.func126,Tryz.ntmps126;go_wp2_with (go_at_call 32;refine(nwithin_any _ _ _ _).mono ?_;rintro e w1 ⟨rfl,rfl⟩;first | rw[d1] | rw[d2] | skip)
   go_ret;exact⟨by simp[h2],(Below.refl _ _).alloc (Nat.le_refl _) _⟩
 ·have d1:decide (0≤tr∧tr≤15)=false:=decide_eq_false h1;go_enter Tryz.func126,Tryz.ntmps126;go_wp2_with (go_at_call 32;refine(nwithin_any _ _ _ _).mono ?_;rintro e w1 ⟨rfl,rfl⟩;first | rw[d1] | skip)
  go_ret;exact⟨by simp[h1],(Below.refl _ _).alloc (Nat.le_refl _) _⟩
def TaleRow (w:World) (ao:Option Addr) (n cap:Nat) (ts:Nat→Tl):Prop :=
 n≤cap∧(0<n→∃b off,ao=some ⟨b,off,none⟩∧b<w.heap.size∧∀i,i<n→w.cell? ⟨b,off+i*6,none⟩=some (.int .i64 (ts i).tree)∧w.cell? ⟨b,off+i*6+1,none⟩=some (.int .u64 (ts i).root)∧w.cell? ⟨b,off+i*6+2,none⟩=some (.int .i64 (ts i).cost)∧w.cell? ⟨b,off+i*6+3,none⟩=some (.int .u64 (ts i).bridge)∧w.cell? ⟨b,off+i*6+4,none⟩=some (.int .i64 (ts i).port)∧w.cell? ⟨b,off+i*6+5,none⟩=some (.int .i64 (ts i).age))
theorem TaleRow.other {w w':World}{ao:Option Addr}{n cap:Nat}{ts:Nat→Tl}(h:TaleRow w ao n cap ts) (e:∀b off,ao=some ⟨b,off,none⟩→b<w.heap.size→w'.heap[b]?=w.heap[b]?) (hs:w.heap.size≤w'.heap.size):TaleRow w' ao n cap ts:=by
 refine⟨h.1,fun hp => ?_⟩;obtain⟨b,off,e1,hlt,hc⟩:=h.2 hp;have he:=e b off e1 hlt;refine⟨b,off,e1,Nat.lt_of_lt_of_le hlt hs,fun i hi => ?_⟩;obtain⟨k0,k1,k2,k3,k4,k5⟩:=hc i hi;exact⟨(World.cell?_of_block (w:=w) he).trans k0,(World.cell?_of_block (w:=w) he).trans k1,(World.cell?_of_block (w:=w) he).trans k2,(World.cell?_of_block (w:=w) he).trans k3,(World.cell?_of_block (w:=w) he).trans k4,(World.cell?_of_block (w:=w) he).trans k5⟩
theorem TaleRow.below {w w':World}{ao:Option Addr}{n cap:Nat}{ts:Nat→Tl}(h:TaleRow w ao n cap ts) (hb:Bl w w'):TaleRow w' ao n cap ts :=
 h.other (fun b _ _ hlt=>hb.block b hlt) hb.size
theorem TaleRow.congr {w:World}{ao:Option Addr}{n cap:Nat}{ts us:Nat→Tl}(h:TaleRow w ao n cap ts) (e:∀i,i<n→ts i=us i):TaleRow w ao n cap us:=by
 refine⟨h.1,fun hp => ?_⟩;obtain⟨b,off,e1,hlt,hc⟩:=h.2 hp;exact⟨b,off,e1,hlt,fun i hi=>by rw[←e i hi];exact hc i hi⟩
theorem lwrongTales_any (ao:Option Addr) (n cap:Nat) (ts:Nat→Tl) (w:World) (hn:n≤9223372036854775807) (hr:TaleRow w ao n cap ts) :
  Calls Tryz.prog 83 #[.slice ao n cap] w fun e w'=>e=.returned (.int .i64 (Hl.wrongTo ts n))∧Bl w w':=by
 have HR:Hid (TaleRow w ao n cap ts):=hr;clear hr;go_enter Tryz.func83,Tryz.ntmps83;(go_wp2_with fail);go_loopw [3,8] (fun a i wr=>∃k:Nat,k≤n∧i=.int .i64 k∧a=.int .i64 (Hl.last ts k)∧Hid (Hl.wrongTo ts k=0)∧Hid (Bl w wr)) (fun _ i _=>n-(intOf i).toNat)
 case atStart=>exact⟨0,by omega,rfl,rfl,rfl,Below.refl _ _⟩
 case round =>
  obtain⟨k,hk,rfl,rfl,hX,hB⟩:=hrel;by_cases hlt:k<n
  ·obtain⟨b,off,rfl,hb,hc⟩:=HR.out.2 (by omega);have hcap:=HR.out.1;have hbw:b<wr.heap.size:=Nat.lt_of_lt_of_le hb hB.out.size;have c0:wr.cell? ⟨b,off+k*6,none⟩=some (.int .i64 (ts k).tree):=(hB.out.cell (by exact hb)).trans (hc k hlt).1;have c1:wr.cell? ⟨b,off+k*6+1,none⟩=some (.int .u64 (ts k).root):=(hB.out.cell (by exact hb)).trans (hc k hlt).2.1;have c2:wr.cell? ⟨b,off+k*6+2,none⟩=some (.int .i64 (ts k).cost):=(hB.out.cell (by exact hb)).trans (hc k hlt).2.2.1;have c3:wr.cell? ⟨b,off+k*6+3,none⟩=some (.int .u64 (ts k).bridge):=(hB.out.cell (by exact hb)).trans (hc k hlt).2.2.2.1;have c4:wr.cell? ⟨b,off+k*6+4,none⟩=some (.int .i64 (ts k).port):=(hB.out.cell (by exact hb)).trans (hc k hlt).2.2.2.2.1;have c5:wr.cell? ⟨b,off+k*6+5,none⟩=some (.int .i64 (ts k).age):=(hB.out.cell (by exact hb)).trans (hc k hlt).2.2.2.2.2;have HE:Hid (Hl.taleErr (Hl.last ts k) (ts k)≠0→Hl.wrongTo ts n=Hl.taleErr (Hl.last ts k) (ts k)):=fun h=>Hl.wrongTo_here ts k n hlt hX.out h;have HZ:Hid (Hl.taleErr (Hl.last ts k) (ts k)=0→Hl.wrongTo ts (k+1)=0):=fun h=>Hl.wrongTo_succ ts k hX.out h;have HL:Hid (Hl.last ts (k+1)=(ts k).tree):=Hl.last_succ ts k;have HBL:Hid (∀o W,Below (wr.alloc o).heap.size (wr.alloc o) W→Bl w W):=fun o W h=>(hB.out.alloc hB.out.size _).trans (h.mono (by have:=hB.out.size;simp;omega));have HT:Hid (∀o W,Below (wr.alloc o).heap.size (wr.alloc o) W→W.heap[wr.heap.size]?=(wr.alloc o).heap[wr.heap.size]?):=fun o W h=>h.block _ (by simp);clear hc HR hX hB;generalize Hl.last ts k=l at *;generalize ts k=t at *;obtain⟨tr,ro,co,br,po,ag⟩:=t;simp only at *;by_cases h1:(0≤tr∧tr≤15)∧(0≤ag∧ag≤255)∧(0≤co∧co≤1000000000)∧0≤po∧po≤30
   ·have d1:decide ((0≤tr∧tr≤15)∧(0≤ag∧ag≤255)∧(0≤co∧co≤1000000000)∧0≤po∧po≤30)=true:=decide_eq_true h1;by_cases h3:tr≤l
    ·have HW:Hid (Hl.taleErr l ⟨tr,ro,co,br,po,ag⟩=2):=(if_pos (c:=Tl.fits ⟨tr,ro,co,br,po,ag⟩) h1).trans (if_pos h3);clear h1;go_wp2_with (go_at_call 126;refine(linRange_raw _ _ _ _ _ _ _).mono ?_;rintro e w2 ⟨rfl,hb2⟩;rw[d1];have HB2:Hid (Bl w w2):=HBL.out _ _ hb2;have k0:=cell_of_row _ _ 0 _ _ _ ((HT.out _ _ hb2).trans (heap_alloc_last wr _));clear hb2)
     go_ret;exact⟨by rw[HE.out (by rw[HW.out];decide),HW.out];rfl,HB2.out⟩
    ·have HW:Hid (Hl.taleErr l ⟨tr,ro,co,br,po,ag⟩=0):=(if_pos (c:=Tl.fits ⟨tr,ro,co,br,po,ag⟩) h1).trans (if_neg h3);clear h1;go_wp2_with (go_at_call 126;refine(linRange_raw _ _ _ _ _ _ _).mono ?_;rintro e w2 ⟨rfl,hb2⟩;rw[d1];have HB2:Hid (Bl w w2):=HBL.out _ _ hb2;have k0:=cell_of_row _ _ 0 _ _ _ ((HT.out _ _ hb2).trans (heap_alloc_last wr _));clear hb2)
     exact⟨⟨k+1,by omega,by go_num,by rw[HL.out],HZ.out HW.out,HB2⟩,by simp[intOf];omega⟩
   ·have d1:decide ((0≤tr∧tr≤15)∧(0≤ag∧ag≤255)∧(0≤co∧co≤1000000000)∧0≤po∧po≤30)=false:=decide_eq_false h1;have HW:Hid (Hl.taleErr l ⟨tr,ro,co,br,po,ag⟩=3):=if_neg (c:=Tl.fits ⟨tr,ro,co,br,po,ag⟩) h1;clear h1;go_wp2_with (go_at_call 126;refine(linRange_raw _ _ _ _ _ _ _).mono ?_;rintro e w2 ⟨rfl,hb2⟩;rw[d1];have HB2:Hid (Bl w w2):=HBL.out _ _ hb2;clear hb2)
    go_ret;exact⟨by rw[HE.out (by rw[HW.out];decide),HW.out];rfl,HB2.out⟩
  ·obtain rfl:k=n:=by omega
   go_wp2
   go_ret;exact⟨by rw[hX.out];rfl,hB.out⟩
theorem hl_cells {w:World}{g:Nat}{a0 a1:Value}{ty:TypeId}(h:w.heap[g]?=some (.cells #[a0,a1] ty (0,0))) :
  w.cell? ⟨g,0,none⟩=some a0∧w.cell? ⟨g,1,none⟩=some a1 :=
 ⟨cell_of_row w g 0 _ _ _ h,cell_of_row w g 1 _ _ _ h⟩
theorem lwrong_any (da:Option Addr) (dn dc:Nat) (ao:Option Addr) (n cap:Nat) (ts:Nat→Tl) (w:World) (hn:n≤9223372036854775807) (hr:TaleRow w ao n cap ts) :
  Calls Tryz.prog 43 #[.agg #[.slice da dn dc,.slice ao n cap]] w fun e w'=>e=.returned (.int .i64 (Hl.wrong dn ts n))∧Bl w w':=by
 have HR:Hid (∀o,TaleRow (w.alloc o) ao n cap ts):=fun o=>hr.below (bA1 w o);have HB:Hid (∀o W,Below (w.alloc o).heap.size (w.alloc o) W→Bl w W):=fun o W h=>(bA1 w o).trans (h.mono (by simp));clear hr;unfold Hl.wrong;by_cases hd:dn=16
 ·rw[if_pos hd];subst hd;go_enter Tryz.func43,Tryz.ntmps43;go_wp2_with (go_at_call 83;refine(lwrongTales_any _ _ _ ts _ hn (HR.out _)).mono ?_;rintro e w2 ⟨rfl,hb2⟩;have HB2:Hid (Bl w w2):=HB.out _ _ hb2;clear hb2)
  go_ret;exact⟨rfl,HB2.out⟩
 ·rw[if_neg hd];have hd2:((dn:Int) != 16)=true:=(by simp;omega)
  go_enter Tryz.func43,Tryz.ntmps43;(go_wp2_with fail);go_ret;exact⟨rfl,bA1 _ _⟩
theorem lsizeOf_any (k:Nat) (w:World) (hk:k≤300) :
  Calls Tryz.prog 44 #[.int .i64 (k:Int)] w fun e w'=>e=.returned (.int .i64 (17+(k:Int)*23))∧w'=w:=by
 go_enter Tryz.func44,Tryz.ntmps44;go_wp2
 go_ret;exact⟨rfl,rfl⟩
theorem lsizeOf_at (k:Nat) (K:Int) (w:World) (hk:k≤300) (e:K=(k:Int)) :
  Calls Tryz.prog 44 #[.int .i64 K] w fun e w'=>e=.returned (.int .i64 (17+(k:Int)*23))∧w'=w:=by
 rw[e];exact lsizeOf_any k w hk
theorem ltaleAt_any (g off n cap i:Nat) (w:World) (hi:17+(i+1)*23≤n) (hn:n≤cap) (hk:i≤255) :
  Calls Tryz.prog 46 #[.slice (some ⟨g,off,none⟩) n cap,.int .i64 (i:Int)] w fun e w'=>e=.returned (.slice (some ⟨g,off+(17+i*23),none⟩) 23 (cap-(17+i*23)))∧w'=w:=by
 have h1:((17:Int)+(i:Int)*23).toNat=17+i*23:=(by omega)
 have h2:((17:Int)+((i+1:Nat):Int)*23).toNat-(17+i*23)=23:=(by omega)
 go_enter Tryz.func46,Tryz.ntmps46;go_wp2_with (first | (go_at_call 44;with_reducible refine(lsizeOf_any i _ (by omega)).mono ?_;rintro e w1 ⟨rfl,rfl⟩) | (go_at_call 44;refine(lsizeOf_at (i+1) _ _ (by omega) (by go_num)).mono ?_;rintro e w1 ⟨rfl,rfl⟩))
 go_ret;refine⟨?_,rfl⟩;have h3:17+(i+1)*23-(17+i*23)=23:=(by omega)
 show Ending.returned (Value.slice (some ⟨g,off+(17+i*23),none⟩) (17+(i+1)*23-(17+i*23)) (cap-(17+i*23)))=_;rw[h3]
def putF (t:Tl) (off k:Nat) (f:Nat→Int) (i:Nat):Int:=if off≤i∧i<off+k then Hl.taleB t (i-off) else f i
def PutW (g N:Nat) (ty:TypeId) (w wx:World) (t:Tl) (f:Nat→Int):Prop :=
 wx.heap[w.heap.size]?=some (.cells (tlA t) 66)∧wx.heap[g]?=some (.cells (rowF N f) ty (0,0))∧Below g w wx
theorem PutW.congr {g N:Nat}{ty:TypeId}{w wx:World}{t:Tl}{f f':Nat→Int}(h:PutW g N ty w wx t f) (e:∀i,i<N→f i=f' i):PutW g N ty w wx t f' :=
 ⟨h.1,by rw[←rowF_congr _ _ _ e];exact h.2.1,h.2.2⟩
theorem PutW.set {g N:Nat}{ty:TypeId}{w wx:World}{t:Tl}{f:Nat→Int}(h:PutW g N ty w wx t f) (hg:g<w.heap.size) (k:Nat) (v:Int) (hk:k<N):PutW g N ty w (wx.setCell ⟨g,k,none⟩ (.int .u8 v)) t (fun i=>if i=k then v else f i):=by
 refine⟨(heap_setCell_other _ _ _ _ (by show w.heap.size≠g;omega)).trans h.1,?_,h.2.2.setCell (Nat.le_refl _) _⟩;rw[heap_setCell_same _ _ _ _ _ _ h.2.1,rowF_set _ _ _ _ hk]
theorem tl_cells {w:World}{g:Nat}{t:Tl}{ty:TypeId}(h:w.heap[g]?=some (.cells (tlA t) ty (0,0))) :
  w.cell? ⟨g,0,none⟩=some (.int .i64 t.tree)∧w.cell? ⟨g,1,none⟩=some (.int .u64 t.root)∧w.cell? ⟨g,2,none⟩=some (.int .i64 t.cost)∧w.cell? ⟨g,3,none⟩=some (.int .u64 t.bridge)∧w.cell? ⟨g,4,none⟩=some (.int .i64 t.port)∧w.cell? ⟨g,5,none⟩=some (.int .i64 t.age) :=
 ⟨cell_of_row w g 0 _ _ _ h,cell_of_row w g 1 _ _ _ h,cell_of_row w g 2 _ _ _ h,cell_of_row w g 3 _ _ _ h,cell_of_row w g 4 _ _ _ h,cell_of_row w g 5 _ _ _ h⟩
theorem put_step (t:Tl) (off o n:Nat) (f:Nat→Int) (i:Nat) {N:Int}(h:∀j,j<n→Hl.taleB t (o+j)=be n N (o+j-o)) :
  (if off+o≤i∧i<off+o+n then be n N (i-(off+o)) else putF t off o f i)=putF t off (o+n) f i:=by
 unfold putF;by_cases e:off+o≤i∧i<off+o+n
 ·have:=h (i-off-o) (by omega);rw[if_pos e,if_pos (by omega),show i-off=o+(i-off-o) by omega,this];congr 1
  omega
 ·rw[if_neg e];by_cases e2:off≤i∧i<off+o
  ·rw[if_pos e2,if_pos (by omega)]
  ·rw[if_neg e2,if_neg (by omega)]
theorem PutW.step {g N:Nat}{ty:TypeId}{w wx w1:World}{t:Tl}{off o n:Nat}{f:Nat→Int}{M:Int}(h:PutW g N ty w wx t (putF t off o f)) (hne:w.heap.size≠g) (hh:∀j,j<n→Hl.taleB t (o+j)=be n M (o+j-o))
  (h1:w1.heap[g]?=some (.cells (rowF N (fun i=>if off+o≤i∧i<off+o+n then be n M (i-(off+o)) else putF t off o f i)) ty (0,0))) (h3:Below g wx.drew w1) (h4:∀b,b≠g→w1.heap[b]?=wx.drew.heap[b]?):PutW g N ty w w1 t (putF t off (o+n) f):=by
 refine PutW.congr (f:=fun i=>if off+o≤i∧i<off+o+n then be n M (i-(off+o)) else putF t off o f i) ?_ (fun i _=>put_step t off o n f i hh);exact⟨(h4 _ hne).trans h.1,h1,h.2.2.trans ((Below.refl _ _).drew.trans h3)⟩
theorem PutW.row {g N:Nat}{ty:TypeId}{w wx:World}{t:Tl}{f:Nat→Int}(h:PutW g N ty w wx t f):wx.drew.heap[g]?=some (.cells (rowF N f) ty (0,0)):=h.2.1
theorem taleB_root (t:Tl):∀j,j<8→Hl.taleB t (2+j)=be 8 t.root (2+j-2):=fun j hj=>by
 unfold Hl.taleB;rw[if_neg (by omega),if_neg (by omega),if_pos (by omega)]
theorem taleB_cost (t:Tl):∀j,j<4→Hl.taleB t (10+j)=be 4 t.cost (10+j-10):=fun j hj=>by
 unfold Hl.taleB;rw[if_neg (by omega),if_neg (by omega),if_neg (by omega),if_pos (by omega)]
theorem taleB_bridge (t:Tl):∀j,j<8→Hl.taleB t (14+j)=be 8 t.bridge (14+j-14):=fun j hj=>by
 unfold Hl.taleB;rw[if_neg (by omega),if_neg (by omega),if_neg (by omega),if_neg (by omega),if_pos (by omega)]
theorem lputTale_any (g off cap N:Nat) (ty:TypeId) (f:Nat→Int) (t:Tl) (w:World) (hA:w.heap[g]?=some (.cells (rowF N f) ty (0,0))) (hn:off+23≤N) (hc:23≤cap) (ht:t.fits) :
  Calls Tryz.prog 45 #[.slice (some ⟨g,off,none⟩) 23 cap,.agg #[.int .i64 t.tree,.int .u64 t.root,.int .i64 t.cost,.int .u64 t.bridge,.int .i64 t.port,.int .i64 t.age]] w fun e w'=>e=.returned (.tuple #[])∧w'.heap[g]?=some (.cells (rowF N (putF t off 23 f)) ty (0,0))∧Below g w w':=by
 have hg:g<w.heap.size:=block_lt_of_cell ((cell_of_row w _ off _ _ _ hA).trans (rowF_get _ _ _ (by omega)));obtain⟨W0,HW⟩:∃W0,Hid (W0=w.alloc (.cells #[.int .i64 t.tree,.int .u64 t.root,.int .i64 t.cost,.int .u64 t.bridge,.int .i64 t.port,.int .i64 t.age] 66)):=⟨_,rfl⟩
 have H0:Hid (PutW g N ty w W0 t f):=by
  rw[HW.out];exact⟨heap_alloc_last w _,(Below.heap_alloc w _ _ hg).trans hA,(Below.refl _ _).alloc (by omega) _⟩
 clear hA;have HG:Hid (g<w.heap.size):=hg;obtain⟨c0,c1,c2,c3,c4,c5⟩:=tl_cells H0.out.1;rw[HW.out] at c0 c5;have k0:(w.alloc (.cells #[.int .i64 t.tree,.int .u64 t.root,.int .i64 t.cost,.int .u64 t.bridge,.int .i64 t.port,.int .i64 t.age] 66)).cell? ⟨g,off,none⟩=some (.int .u8 (f off)):=by
  rw[←HW.out];exact(cell_of_row W0 _ off _ _ _ H0.out.2.1).trans (rowF_get _ _ _ (by omega))
 have k1:(w.alloc (.cells #[.int .i64 t.tree,.int .u64 t.root,.int .i64 t.cost,.int .u64 t.bridge,.int .i64 t.port,.int .i64 t.age] 66)).cell? ⟨g,off+1,none⟩=some (.int .u8 (f (off+1))):=by
  rw[←HW.out];exact(cell_of_row W0 _ (off+1) _ _ _ H0.out.2.1).trans (rowF_get _ _ _ (by omega))
 have z0:(w.alloc (.cells #[.int .i64 t.tree,.int .u64 t.root,.int .i64 t.cost,.int .u64 t.bridge,.int .i64 t.port,.int .i64 t.age] 66)).frozen? ⟨g,off,none⟩=false:=by
  rw[←HW.out];exact frozen_of_row _ _ _ _ _ H0.out.2.1
 have z1:(w.alloc (.cells #[.int .i64 t.tree,.int .u64 t.root,.int .i64 t.cost,.int .u64 t.bridge,.int .i64 t.port,.int .i64 t.age] 66)).frozen? ⟨g,off+1,none⟩=false:=by
  rw[←HW.out];exact frozen_of_row _ _ _ _ _ H0.out.2.1
 have hne:g≠w.heap.size:=(by omega)
 have hne2:w.heap.size≠g:=(by omega)
 obtain⟨⟨t1,t2⟩,⟨a1,a2⟩,⟨o1,o2⟩,p1,p2⟩:=ht;clear hg;go_enter Tryz.func45,Tryz.ntmps45;(go_wp2_with fail);rw[←HW.out];have H2:Hid (PutW g N ty w ((W0.setCell ⟨g,off,none⟩ (.int .u8 t.tree)).setCell ⟨g,off+1,none⟩ (.int .u8 t.age)) t (putF t off 2 f)) :=
  ((H0.out.set HG.out off t.tree (by omega)).set HG.out (off+1) t.age (by omega)).congr (fun i _=>by
   unfold putF;by_cases e1:i=off+1
   ·subst e1;rw[if_pos rfl,if_pos (by omega),show off+1-off=1 by omega];rfl
   ·rw[if_neg e1];by_cases e0:i=off
    ·subst e0;rw[if_pos rfl,if_pos (by omega),Nat.sub_self];rfl
    ·rw[if_neg e0,if_neg (by omega)])
 generalize (W0.setCell ⟨g,off,none⟩ (.int .u8 t.tree)).setCell ⟨g,off+1,none⟩ (.int .u8 t.age)=W2 at H2 ⊢;clear H0 HW c0 c1 c2 c3 c4 c5 k0 k1 z0 z1 W0;have HNE:Hid (w.heap.size≠g):=hne2;have HWC:Hid (IntKind.u64.wrap t.cost=t.cost):=wraps_u64 t.cost o1 (by omega);obtain⟨c0,c1,c2,c3,c4,c5⟩:=tl_cells H2.out.1;go_cut [19] (fun _ wx=>Hid (PutW g N ty w wx t (putF t off 10 f)))
 case first =>
  go_region_with (go_at_call 84;refine(nput_any g (off+2) 8 (cap-2) N ty (putF t off 2 f) t.root _ H2.out.row (by omega) (by omega) (by omega)).mono ?_;rintro e w1 ⟨rfl,h1,h2,h3,h4⟩;have HW1:Hid (PutW g N ty w w1 t (putF t off 10 f)):=(H2.out.step HNE.out (taleB_root t) h1 h3 h4);clear h1 h2 h3 h4)
  all_goals (go_wp2_with fail;go_meet;exact HW1)
 case rest =>
 have H3:=hcut;clear hcut H2 c0 c1 c2 c3 c4 c5;(go_wp2_with fail);obtain⟨c0,c1,c2,c3,c4,c5⟩:=tl_cells H3.out.1;go_cut [26] (fun _ wx=>Hid (PutW g N ty w wx t (putF t off 14 f)))
 case first =>
  go_region_with (go_at_call 84;(try rw[HWC.out]);refine(nput_any g (off+10) 4 (cap-10) N ty (putF t off 10 f) t.cost _ H3.out.row (by omega) (by omega) (by omega)).mono ?_;rintro e w1 ⟨rfl,h1,h2,h3,h4⟩;have HW1:Hid (PutW g N ty w w1 t (putF t off 14 f)):=(H3.out.step HNE.out (taleB_cost t) h1 h3 h4);clear h1 h2 h3 h4)
  all_goals (go_wp2_with fail;go_meet;exact HW1)
 case rest =>
 have H4:=hcut;clear hcut H3 c0 c1 c2 c3 c4 c5;(go_wp2_with fail);obtain⟨c0,c1,c2,c3,c4,c5⟩:=tl_cells H4.out.1;go_cut [32] (fun _ wx=>Hid (PutW g N ty w wx t (putF t off 22 f)))
 case first =>
  go_region_with (go_at_call 84;refine(nput_any g (off+14) 8 (cap-14) N ty (putF t off 14 f) t.bridge _ H4.out.row (by omega) (by omega) (by omega)).mono ?_;rintro e w1 ⟨rfl,h1,h2,h3,h4⟩;have HW1:Hid (PutW g N ty w w1 t (putF t off 22 f)):=(H4.out.step HNE.out (taleB_bridge t) h1 h3 h4);clear h1 h2 h3 h4)
  all_goals (go_wp2_with fail;go_meet;exact HW1)
 case rest =>
 have H5:=hcut;clear hcut H4 c0 c1 c2 c3 c4 c5;obtain⟨c0,c1,c2,c3,c4,c5⟩:=tl_cells H5.out.1;have k0:wc.cell? ⟨g,off+22,none⟩=some (.int .u8 (putF t off 22 f (off+22))):=(cell_of_row wc _ (off+22) _ _ _ H5.out.2.1).trans (rowF_get _ _ _ (by omega));have z0:wc.frozen? ⟨g,off+22,none⟩=false:=frozen_of_row _ _ _ _ _ H5.out.2.1;have H6:Hid (PutW g N ty w (wc.setCell ⟨g,off+22,none⟩ (.int .u8 t.port)) t (putF t off 23 f)):=(H5.out.set HG.out (off+22) t.port (by omega)).congr (fun i _=>by
   unfold putF;by_cases e1:i=off+22
   ·subst e1;rw[if_pos rfl,if_pos (by omega),show off+22-off=22 by omega];rfl
   ·rw[if_neg e1];by_cases e0:off≤i∧i<off+22
    ·rw[if_pos e0,if_pos (by omega)]
    ·rw[if_neg e0,if_neg (by omega)])
 clear H5;go_wp2
 exact bodyPost_end (results_none Tryz.results45 _ _ _) rfl ⟨rfl,H6.out.2⟩
def bytR (dg:Nat→Int) (n:Nat) (ts:Nat→Tl) (k i:Nat):Int:=if i<17+k*23 then Hl.byt dg n ts i else 0
theorem bytR_zero (dg:Nat→Int) (n:Nat) (ts:Nat→Tl) (i:Nat):(if i=16 then(n:Int) else if i<16 then dg i else 0)=bytR dg n ts 0 i:=by
 unfold bytR Hl.byt;by_cases e:i=16
 ·rw[if_pos e,if_pos (by omega),if_neg (by omega),if_pos e]
 ·rw[if_neg e];by_cases e2:i<16
  ·rw[if_pos e2,if_pos (by omega),if_pos e2]
  ·rw[if_neg e2,if_neg (by omega)]
theorem bytR_step (dg:Nat→Int) (n:Nat) (ts:Nat→Tl) (k i:Nat):putF (ts k) (17+k*23) 23 (bytR dg n ts k) i=bytR dg n ts (k+1) i:=by
 unfold putF bytR;by_cases e:17+k*23≤i∧i<17+k*23+23
 ·rw[if_pos e,if_pos (by omega)];have:=Hl.byt_tale dg n ts k (i-(17+k*23)) (by omega);rw[show 17+k*23+(i-(17+k*23))=i by omega] at this;exact this.symm
 ·rw[if_neg e];by_cases e2:i<17+k*23
  ·rw[if_pos e2,if_pos (by omega)]
  ·rw[if_neg e2,if_neg (by omega)]
theorem splice_dig {w:World}{g M:Nat}{dg:Nat→Int}{ty:TypeId}(h:w.heap[g]?=some (.cells (splice (bytesL M (fun _=>0)) 0 (bytesL 16 dg)).toArray ty (0,0))) (hM:16≤M) :
  w.heap[g]?=some (.cells (rowF M (fun i=>if i<16 then dg i else 0)) ty (0,0)):=by
 rw[splice_row M 16 dg hM] at h;exact h
theorem row_set {w:World}{g M k:Nat}{f:Nat→Int}{v:Int}{ty:TypeId}(h:w.heap[g]?=some (.cells (rowF M f) ty (0,0))) (hk:k<M) :
  (w.setCell ⟨g,k,none⟩ (.int .u8 v)).heap[g]?=some (.cells (rowF M (fun i=>if i=k then v else f i)) ty (0,0)):=by
 rw[heap_setCell_same _ _ _ _ _ _ h,rowF_set _ _ _ _ hk]
theorem row_congr {w:World}{g M:Nat}{f f':Nat→Int}{ty:TypeId}(h:w.heap[g]?=some (.cells (rowF M f) ty (0,0))) (e:∀i,i<M→f i=f' i):w.heap[g]?=some (.cells (rowF M f') ty (0,0)):=by
 rw[←rowF_congr _ _ _ e];exact h
theorem lbytes_right (da:Option Addr) (dn dc:Nat) (dg:Nat→Int) (ao:Option Addr) (n cap:Nat) (ts:Nat→Tl) (w:World) (hd:ByteRow w da dn dc dg) (hr:TaleRow w ao n cap ts) (hw:Hl.wrong dn ts n=0) :
  Calls Tryz.prog 19 #[.agg #[.slice da dn dc,.slice ao n cap]] w fun e w'=>∃g,e=.returned (.tuple #[.slice (some ⟨g,0,none⟩) (17+n*23) (17+n*23),.int .i64 0])∧w'.heap[g]?=some (.cells (rowF (17+n*23) (Hl.byt dg n ts)) 5)∧w.heap.size≤g∧Bl w w':=by
 obtain⟨rfl,_,hR⟩:=Hl.wrong_zero hw;have hn:n≤16:=hR.many;have HF:Hid (∀i,i<n→(ts i).fits):=hR.fits;have HC:Hid (∀o,Calls Tryz.prog 43 #[.agg #[.slice da 16 dc,.slice ao n cap]] (w.alloc o) fun e w'=>e=.returned (.int .i64 0)∧Below (w.alloc o).heap.size (w.alloc o) w'):=fun o=>by
  have:=lwrong_any da 16 dc ao n cap ts (w.alloc o) (by omega) (hr.below (bA1 w o));rw[hw] at this;exact this
 have HR:Hid (TaleRow w ao n cap ts):=hr;have HD:Hid (ByteRow w da 16 dc dg):=hd;have hcap:n≤cap:=hr.1;have hmk:∀W:World,(Instr.makeSlice 60 (.int .i64 (17+(n:Int)*23)) (.int .i64 (17+(n:Int)*23))).run Tryz.prog W=.ok (.slice (some ⟨W.heap.size,0,none⟩) (17+n*23) (17+n*23)) (W.alloc (.cells (rowF (17+n*23) (fun _=>0)) 5)):=fun W=>by
  have:=make_zeros W (17+n*23) (by omega);rw[show(((17+n*23:Nat)):Int)=17+(n:Int)*23 by omega] at this;exact this
 clear hr hd hw hR;go_enter Tryz.func19,Tryz.ntmps19;(go_wp2_with fail);refine(HC.out _).mono ?_;rintro e w1 ⟨rfl,hb⟩;have HB1:Hid (Bl w w1):=(bA1 w _).trans (hb.mono (by simp));have HA1:Hid (w1.heap[w.heap.size]?=some (.cells #[.slice da 16 dc,.slice ao n cap] 64)):=(hb.block _ (by simp)).trans (heap_alloc_last w _);have hlt:w.heap.size<w1.heap.size:=(by have:=hb.size;simp at this;exact this)
 have HL:Hid (w.heap.size<w1.heap.size):=hlt;clear hb HC hlt;obtain⟨c0,c1⟩:=hl_cells HA1.out;(go_wp2_with fail);refine(lsizeOf_any n _ (by omega)).mono ?_;rintro e w1 ⟨rfl,rfl⟩;have HAA:Hid ((w1.alloc (.cells (rowF (17+n*23) (fun _=>0)) 5)).heap[w.heap.size]?=some (.cells #[.slice da 16 dc,.slice ao n cap] 64)):=(Below.heap_alloc _ _ _ HL.out).trans HA1.out;obtain⟨d0,d1⟩:=hl_cells HAA.out;have HM:Hid ((w1.alloc (.cells (rowF (17+n*23) (fun _=>0)) 5)).heap[w1.heap.size]?=some (.cells (bytesL (17+n*23) (fun _=>0)).toArray 5)):=heap_alloc_last _ _;have HDD:Hid (ByteRow (w1.alloc (.cells (rowF (17+n*23) (fun _=>0)) 5)) da 16 dc dg):=(HD.out.below HB1.out).below (bA1 _ _);go_wp2_with (refine wpList_copy_splice rfl (.tmp 18) (.tmp 20) 60 60 rfl 5 Tryz.underlying60 size5 _ _ _ _ _ _ rfl rfl w1.heap.size 0 (bytesL (17+n*23) (fun _=>0)) 5 HM.out (bytesL 16 dg) (by rw[bytesL_length];exact(Nat.min_eq_left (by omega)).symm) (fun hp=>⟨rfl,copy_src HDD.out (Nat.le_refl _) hp⟩) (by simp only[bytesL_length];omega) (bytesL_one _ _) w1.heap.size _ (Below.refl _ _) (Nat.le_refl _) ?_;intro w2 hw2 hb2;rw[bytesL_length];have HW2:Hid _:=splice_dig hw2.out (show 16≤17+n*23 by omega);have HA2:Hid _:=(hb2.block w.heap.size HL.out).trans HAA.out;have HB2:Hid (Bl w w2):=(HB1.out.alloc HB1.out.size _).trans (hb2.mono (Nat.le_of_lt HL.out));clear hw2 hb2;obtain⟨e0,e1⟩:=hl_cells HA2.out;have k0:w2.cell? ⟨w1.heap.size,16,none⟩=some (.int .u8 0):=(cell_of_row w2 _ 16 _ _ _ HW2.out).trans (rowF_get _ _ _ (by omega));have z0:w2.frozen? ⟨w1.heap.size,16,none⟩=false:=frozen_of_row _ _ _ _ _ HW2.out;have hne1:w.heap.size≠w1.heap.size:=Nat.ne_of_lt HL.out;have hne2:w1.heap.size≠w.heap.size:=Nat.ne_of_gt HL.out)
 obtain⟨W3,HW3⟩:∃W3,Hid (W3=w2.setCell ⟨w1.heap.size,16,none⟩ (.int .u8 (n:Int))):=⟨_,rfl⟩
 have H3:Hid (W3.heap[w1.heap.size]?=some (.cells (rowF (17+n*23) (bytR dg n ts 0)) 5)∧Bl w W3):=by
  rw[HW3.out];exact⟨row_congr (row_set HW2.out (by omega)) (fun i _=>bytR_zero dg n ts i),HB2.out.setCell (by exact Nat.le_of_lt HL.out) _⟩
 rw[←HW3.out];clear HW3 HW2 HA2 HB2 e0 e1 k0 z0 hne1 hne2 d0 d1 HAA HM HDD c0 c1 hmk HD;generalize w1.heap.size=G at *;go_loopw [31] (fun i wr=>∃k:Nat,k≤n∧i=.int .i64 k∧Hid (wr.heap[G]?=some (.cells (rowF (17+n*23) (bytR dg n ts k)) 5)∧Bl w wr)) (fun i _=>n-(intOf i).toNat)
 case atStart=>exact⟨0,by omega,rfl,H3⟩
 case round =>
  obtain⟨k,hk,rfl,hX⟩:=hrel;by_cases hlt:k<n
  ·obtain⟨b,off,rfl,hb,hc⟩:=HR.out.2 (by omega);have hbw:b<wr.heap.size:=Nat.lt_of_lt_of_le hb hX.out.2.size;have hGw:G<wr.heap.size:=block_lt_of_cell ((cell_of_row wr _ 0 _ _ _ hX.out.1).trans (rowF_get _ _ _ (by omega)));have c0:wr.cell? ⟨b,off+k*6,none⟩=some (.int .i64 (ts k).tree):=(hX.out.2.cell (by exact hb)).trans (hc k hlt).1;have c1:wr.cell? ⟨b,off+k*6+1,none⟩=some (.int .u64 (ts k).root):=(hX.out.2.cell (by exact hb)).trans (hc k hlt).2.1;have c2:wr.cell? ⟨b,off+k*6+2,none⟩=some (.int .i64 (ts k).cost):=(hX.out.2.cell (by exact hb)).trans (hc k hlt).2.2.1;have c3:wr.cell? ⟨b,off+k*6+3,none⟩=some (.int .u64 (ts k).bridge):=(hX.out.2.cell (by exact hb)).trans (hc k hlt).2.2.2.1;have c4:wr.cell? ⟨b,off+k*6+4,none⟩=some (.int .i64 (ts k).port):=(hX.out.2.cell (by exact hb)).trans (hc k hlt).2.2.2.2.1;have c5:wr.cell? ⟨b,off+k*6+5,none⟩=some (.int .i64 (ts k).age):=(hX.out.2.cell (by exact hb)).trans (hc k hlt).2.2.2.2.2;have HTA:Hid (∀W:World,Calls Tryz.prog 46 #[.slice (some ⟨G,0,none⟩) (17+n*23) (17+n*23),.int .i64 (k:Int)] W fun e w'=>e=.returned (.slice (some ⟨G,17+k*23,none⟩) 23 (17+n*23-(17+k*23)))∧w'=W):=fun W=>by
    have:=ltaleAt_any G 0 (17+n*23) (17+n*23) k W (by omega) (Nat.le_refl _) (by omega);rw[Nat.zero_add] at this;exact this
   have HPT:Hid (∀W:World,W.heap[G]?=some (.cells (rowF (17+n*23) (bytR dg n ts k)) 5)→Calls Tryz.prog 45 #[.slice (some ⟨G,17+k*23,none⟩) 23 (17+n*23-(17+k*23)),.agg #[.int .i64 (ts k).tree,.int .u64 (ts k).root,.int .i64 (ts k).cost,.int .u64 (ts k).bridge,.int .i64 (ts k).port,.int .i64 (ts k).age]] W fun e w'=>e=.returned (.tuple #[])∧Hid (w'.heap[G]?=some (.cells (rowF (17+n*23) (bytR dg n ts (k+1))) 5))∧Below G W w'):=fun W h=>by
    refine(lputTale_any G (17+k*23) (17+n*23-(17+k*23)) (17+n*23) 5 (bytR dg n ts k) (ts k) W h (by omega) (by omega) (HF.out k hlt)).mono ?_;rintro e w' ⟨h1,h2,h3⟩;exact⟨h1,row_congr h2 (fun i _=>bytR_step dg n ts k i),h3⟩
   have HO:Hid (∀o,(wr.alloc o).drew.heap[G]?=some (.cells (rowF (17+n*23) (bytR dg n ts k)) 5)):=fun o=>(Below.heap_alloc wr o _ hGw).trans hX.out.1;have HBL:Hid (∀o W,Below G (wr.alloc o).drew W→Bl w W):=fun o W h=>((hX.out.2.alloc hX.out.2.size _).drew).trans (h.mono (Nat.le_of_lt HL.out));clear hc HR hX hb HF HA1 HB1 H3 W3;generalize (ts k).tree=tr at *;generalize (ts k).root=ro at *;generalize (ts k).cost=co at *;generalize (ts k).bridge=br at *;generalize (ts k).port=po at *;generalize (ts k).age=ag at *;(go_wp2_with fail);go_region_with (first | (go_at_call 46;refine(HTA.out _).mono ?_;rintro e w4 ⟨rfl,rfl⟩) | (go_at_call 45;refine(HPT.out _ (by with_reducible exact HO.out _)).mono ?_;rintro e w5 ⟨rfl,H5,hb5⟩;have HB5:Hid (Bl w w5):=HBL.out _ _ hb5;clear hb5))
   (all_goals go_wp2_with fail);all_goals exact⟨⟨k+1,by omega,by go_num,⟨H5.out,HB5.out⟩⟩,by simp[intOf];omega⟩
  ·obtain rfl:k=n:=by omega
   have HFIN:Hid (wr.heap[G]?=some (.cells (rowF (17+k*23) (Hl.byt dg k ts)) 5)):=row_congr hX.out.1 (fun i hi=>by unfold bytR;rw[if_pos hi]);go_wp2
   exact bodyPost_ret (results_tmp2 Tryz.results19 _ _ _) rfl ⟨G,rfl,HFIN.out,Nat.le_of_lt HL.out,hX.out.2⟩
end
end Go.Proofs.YtflghpnpjmodaaaGreatDoor
