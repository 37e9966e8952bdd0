/- walks: frameOf -/
import Derived.Test.YtflghpnpjmodaaaGreatDoorH27
import Derived.Deep.DeepCutAuto
import Derived.Laws.ResultCell
set_option maxRecDepth 100000
set_option maxHeartbeats 40000000
namespace Go.Proofs.YtflghpnpjmodaaaGreatDoor
section
open Go.RowKit
theorem or13 (p v:Int) (hp:0≤p∧p≤7) (hv:0≤v∧v≤4094):bits BinOp.or IntKind.i64 (p*8192) v=p*8192+v :=
 bits_join .i64 62 (by decide) wraps_i64 13 (p*8192) v (by omega) (by omega) (by omega) (by omega) (by omega) (by omega)
theorem or_bit (a v:Nat) (hv:v<4096):(a*8192+v) ||| 4096=a*8192+v+4096:=by
 have h1:a*8192+v=2 ^ 12*(2*a) ||| v:=by rw[←Nat.two_pow_add_eq_or_of_lt (by omega)];omega
 have h2:2 ^ 12*(2*a) ||| 2 ^ 12=2 ^ 12*(2*a+1):=by
  rw[Nat.mul_comm (2 ^ 12) (2*a),Nat.mul_comm (2 ^ 12) (2*a+1)];apply Nat.eq_of_testBit_eq
  intro i;rw[Nat.testBit_or,Nat.testBit_mul_two_pow,Nat.testBit_mul_two_pow,Nat.testBit_two_pow];by_cases e:12≤i
  ·by_cases e2:12=i
   ·subst e2;simp
   ·obtain⟨j,rfl⟩:∃j,i=12+(j+1):=⟨i-13,by omega⟩
    simp[Nat.testBit_succ,show(2*a+1)/2=a by omega]
  ·simp[e,show ¬12=i by omega]
 have h3:2 ^ 12*(2*a+1) ||| v=a*8192+v+4096:=by rw[←Nat.two_pow_add_eq_or_of_lt (by omega)];omega
 have h4:(a*8192+v) ||| 2 ^ 12=2 ^ 12*(2*a+1) ||| v:=by rw[h1,Nat.or_assoc,Nat.or_comm v,←Nat.or_assoc,h2]
 exact h4.trans h3
theorem or12 (p v:Int) (hp:0≤p∧p≤7) (hv:0≤v∧v≤4094):bits BinOp.or IntKind.i64 (p*8192+v) 4096=p*8192+v+4096:=by
 obtain⟨a,rfl⟩:=Int.eq_ofNat_of_zero_le hp.1;obtain⟨b,rfl⟩:=Int.eq_ofNat_of_zero_le hv.1;have h:=(bits_nat .i64 62 (by decide) wraps_i64 (a*8192+b) 4096 (by omega) (by omega)).2;rw[or_bit a b (by omega)] at h;rw[show(((a*8192+b:Nat)):Int)=(a:Int)*8192+b by omega,show(((a*8192+b+4096:Nat)):Int)=(a:Int)*8192+b+4096 by omega] at h;exact h
theorem or8 (n x:Int) (hn:0≤n∧n<72057594037927936) (hx:0≤x∧x≤255):bits BinOp.or IntKind.u64 (n*256) x=n*256+x :=
 bits_join .u64 64 (by decide) wraps_u64 8 (n*256) x (by omega) (by omega) (by omega) (by omega) (by omega) (by omega)
theorem tagOf_any (d s:Int) (t:Bool) (p:Int) (dr:Bool) (v y:Int) (ao:Option Addr) (n c:Nat) (w:World) (hp:0≤p∧p≤7) (hv:0≤v∧v≤4094) :
  Calls Tryz.prog 90 #[.agg #[.int .u64 d,.int .u64 s,.bool t,.int .i64 p,.bool dr,.int .i64 v,.int .i64 y,.slice ao n c]] w fun e w'=>e=.returned (.int .i64 (tag p dr v))∧Bl w w':=by
 have q1:=or13 p v hp hv;have q2:=or12 p v hp hv;cases dr
 all_goals
  go_enter Tryz.func90,Tryz.ntmps90;go_wp2
  go_ret;refine⟨?_,bA1 _ _⟩;simp[tag]
theorem putNumber_any (g off n cap N18:Nat) (ty:TypeId) (f:Nat→Int) (N:Int) (w:World) (hA:w.heap[g]?=some (.cells (rowF N18 f) ty (0,0))) (hn:off+n≤N18) (hn8:n≤8) (hcap:n≤cap) :
  Calls Tryz.prog 84 #[.slice (some ⟨g,off,none⟩) n cap,.int .u64 N] w fun e w'=>e=.returned (.tuple #[])∧w'.heap[g]?=some (.cells (rowF N18 (fun i=>if off≤i∧i<off+n then be n N (i-off) else f i)) ty (0,0))∧w'.heap.size=w.heap.size∧Below g w w':=by
 have HA:Hid (w.heap[g]?=some (.cells (rowF N18 f) ty (0,0))):=hA;clear hA;go_enter Tryz.func84,Tryz.ntmps84;(go_wp2_with fail);go_loopw [7] (fun i wr=>∃k:Nat,k≤n∧i=.int .i64 k∧Hid (wr.heap[g]?=some (.cells (rowF N18 (fun i=>if off≤i∧i<off+k then be n N (i-off) else f i)) ty (0,0))∧wr.heap.size=w.heap.size∧Below g w wr)) (fun i _=>n-(intOf i).toNat)
 case atStart=>exact⟨0,by omega,rfl,by rw[HA.out,rowF_congr];intro i _;rw[if_neg (by omega)],rfl,Below.refl _ _⟩
 case round =>
  obtain⟨k,hk,rfl,hX⟩:=hrel;by_cases hlt:k<n
  ·have c4:wr.cell? ⟨g,off+k,none⟩=some (.int .u8 (f (off+k))):=(cell_of_row wr _ _ _ _ _ hX.out.1).trans ((rowF_get _ _ _ (by omega)).trans (by rw[if_neg (by omega)]));have f4:wr.frozen? ⟨g,off+k,none⟩=false:=frozen_of_row _ _ _ _ _ hX.out.1;have HX:Hid ((wr.setCell ⟨g,off+k,none⟩ (.int .u8 (be n N k))).heap[g]?=some (.cells (rowF N18 (fun i=>if off≤i∧i<off+(k+1) then be n N (i-off) else f i)) ty (0,0))∧(wr.setCell ⟨g,off+k,none⟩ (.int .u8 (be n N k))).heap.size=w.heap.size∧Below g w (wr.setCell ⟨g,off+k,none⟩ (.int .u8 (be n N k)))):=by
    refine⟨?_,by simp[World.setCell,hX.out.2.1],hX.out.2.2.setCell (Nat.le_refl _) _⟩;rw[heap_setCell_same _ _ _ _ _ _ hX.out.1,rowF_set _ _ _ _ (by omega)];congr 2
    apply rowF_congr
    intro i _;by_cases e:i=off+k
    ·subst e;rw[if_pos rfl,if_pos (by omega)];congr 1;omega
    ·rw[if_neg e];have:(off≤i∧i<off+k)↔(off≤i∧i<off+(k+1)):=by omega
     simp only[this]
   clear hX HA;go_wp2
   exact⟨⟨k+1,by omega,by go_num,HX⟩,by simp[intOf];omega⟩
  ·obtain rfl:k=n:=by omega
   go_wp2
   exact bodyPost_end (results_none Tryz.results84 _ _ _) rfl ⟨rfl,hX.out⟩
theorem number_any (ao:Option Addr) (n cap:Nat) (f:Nat→Int) (w:World) (hr:ByteRow w ao n cap f) (hf:∀i,i<n→0≤f i∧f i≤255) (hn8:n≤8) :
  Calls Tryz.prog 85 #[.slice ao n cap] w fun e w'=>e=.returned (.int .u64 (num f n))∧w'=w:=by
 have HN:Hid (∀k,k≤n→0≤num f k∧num f k<2 ^ (8*k)):=by
  intro k hk;have:=num_range (fun i=>if i<n then f i else 0) (fun i=>by by_cases h:i<n;simp[h];exact hf i h;simp[h]) k;have e:∀j,j≤n→num (fun i=>if i<n then f i else 0) j=num f j:=by
   intro j;induction j with
   | zero=>intro _;rfl
   | succ j ih=>intro hj;simp only[num];rw[ih (by omega),if_pos (by omega)]
  rw[e k hk] at this;exact this
 have HR:Hid (ByteRow w ao n cap f):=hr;have HF:Hid (∀i,i<n→0≤f i∧f i≤255):=hf;clear hr hf;go_enter Tryz.func85,Tryz.ntmps85;(go_wp2_with fail);go_loopw [8,3] (fun i m wr=>∃k:Nat,k≤n∧i=.int .i64 k∧m=.int .u64 (num f k)∧wr=w) (fun i _ _=>n-(intOf i).toNat)
 case atStart=>exact⟨0,by omega,rfl,rfl,rfl⟩
 case round =>
  obtain⟨k,hk,rfl,rfl,rfl⟩:=hrel;by_cases hlt:k<n
  ·obtain⟨b,off,rfl,hb,hc⟩:=HR.out.2 (by omega);have hcap:=HR.out.1;have c4:wr.cell? ⟨b,off+k,none⟩=some (.int .u8 (f k)):=hc k hlt;have h256:0≤num f k∧num f k<72057594037927936:=by
    have h1:=HN.out k (by omega);have h2:(2:Int) ^ (8*k)≤2 ^ (8*7):=by exact_mod_cast Nat.pow_le_pow_right (n:=2) (by omega) (show 8*k≤8*7 by omega)
    have h3:(2:Int) ^ (8*7)=72057594037927936:=(by decide)
    omega
   have hfk:=HF.out k hlt;have q:=or8 (num f k) (f k) h256 hfk;have HQ:Hid (num f (k+1)=num f k*256+f k):=rfl;clear hc HR HF HN;generalize num f k=M at *;go_wp2
   exact⟨⟨k+1,by omega,by go_num,by rw[HQ.out],trivial⟩,by simp[intOf];omega⟩
  ·obtain rfl:k=n:=by omega
   go_wp2
   go_ret;exact⟨rfl,rfl⟩
theorem putPair_any (g at':Nat) (a:Int) (ty:TypeId) (f:Nat→Int) (N:Int) (w:World) (h0:0≤N) (h1:N<9223372036854775808) (hA:w.heap[g]?=some (.cells (rowF 18 f) ty (0,0))) (ha:a=(at':Int)) (hn:at'=12∨at'=14∨at'=16) :
  Calls Tryz.prog 89 #[.pointer (some ⟨g,0,none⟩),.int .i64 a,.int .i64 N] w fun e w'=>e=.returned (.tuple #[])∧w'.heap[g]?=some (.cells (rowF 18 (fun i=>if at'≤i∧i<at'+2 then be 2 N (i-at') else f i)) ty (0,0))∧w'.heap.size=w.heap.size∧Below g w w':=by
 have HA:Hid (w.heap[g]?=some (.cells (rowF 18 f) ty (0,0))):=hA;clear hA;rcases hn with rfl | rfl | rfl
 ·obtain rfl:a=12:=ha;go_enter Tryz.func89,Tryz.ntmps89;go_wp2_with (go_at_call 84;refine(putNumber_any g 12 2 6 18 ty f N _ HA.out (by omega) (by omega) (by omega)).mono ?_;rintro e w1 ⟨rfl,h⟩)
  exact bodyPost_end (results_none Tryz.results89 _ _ _) rfl ⟨rfl,h⟩
 ·obtain rfl:a=14:=ha;go_enter Tryz.func89,Tryz.ntmps89;go_wp2_with (go_at_call 84;refine(putNumber_any g 14 2 4 18 ty f N _ HA.out (by omega) (by omega) (by omega)).mono ?_;rintro e w1 ⟨rfl,h⟩)
  exact bodyPost_end (results_none Tryz.results89 _ _ _) rfl ⟨rfl,h⟩
 ·obtain rfl:a=16:=ha;go_enter Tryz.func89,Tryz.ntmps89;go_wp2_with (go_at_call 84;refine(putNumber_any g 16 2 2 18 ty f N _ HA.out (by omega) (by omega) (by omega)).mono ?_;rintro e w1 ⟨rfl,h⟩)
  exact bodyPost_end (results_none Tryz.results89 _ _ _) rfl ⟨rfl,h⟩
theorem pairAt_any (at':Nat) (a:Int) (f:Nat→Int) (w:World) (hf:∀i,i<18→0≤f i∧f i≤255) (ha:a=(at':Int)) (hn:at'=12∨at'=14∨at'=16) :
  Calls Tryz.prog 91 #[.agg (rowF 18 f),.int .i64 a] w fun e w'=>e=.returned (.int .i64 (f at'*256+f (at'+1)))∧Bl w w':=by
 have HF:Hid (∀i,i<18→0≤f i∧f i≤255):=hf;clear hf;rcases hn with rfl | rfl | rfl
 ·obtain rfl:a=12:=ha;have r0:0≤f 12∧f 12≤255:=HF.out _ (by omega);have r1:0≤f 13∧f 13≤255:=HF.out _ (by omega);go_enter Tryz.func91,Tryz.ntmps91;go_wp2_with (go_at_call 85;refine(number_any _ 2 6 (fun i=>f (12+i)) _ (ByteRow.of_row (heap_alloc_last w _) (by omega) (by omega)) (fun i hi=>HF.out _ (by omega)) (by omega)).mono ?_;rintro e w1 ⟨rfl,rfl⟩;simp only[num,Int.zero_mul,Int.zero_add,Nat.add_zero])
  go_ret;exact⟨rfl,bA1 _ _⟩
 ·obtain rfl:a=14:=ha;have r0:0≤f 14∧f 14≤255:=HF.out _ (by omega);have r1:0≤f 15∧f 15≤255:=HF.out _ (by omega);go_enter Tryz.func91,Tryz.ntmps91;go_wp2_with (go_at_call 85;refine(number_any _ 2 4 (fun i=>f (14+i)) _ (ByteRow.of_row (heap_alloc_last w _) (by omega) (by omega)) (fun i hi=>HF.out _ (by omega)) (by omega)).mono ?_;rintro e w1 ⟨rfl,rfl⟩;simp only[num,Int.zero_mul,Int.zero_add,Nat.add_zero])
  go_ret;exact⟨rfl,bA1 _ _⟩
 ·obtain rfl:a=16:=ha;have r0:0≤f 16∧f 16≤255:=HF.out _ (by omega);have r1:0≤f 17∧f 17≤255:=HF.out _ (by omega);go_enter Tryz.func91,Tryz.ntmps91;go_wp2_with (go_at_call 85;refine(number_any _ 2 2 (fun i=>f (16+i)) _ (ByteRow.of_row (heap_alloc_last w _) (by omega) (by omega)) (fun i hi=>HF.out _ (by omega)) (by omega)).mono ?_;rintro e w1 ⟨rfl,rfl⟩;simp only[num,Int.zero_mul,Int.zero_add,Nat.add_zero])
  go_ret;exact⟨rfl,bA1 _ _⟩
theorem sizeH:(Tryz.prog.info? 122).map (·.size)=some 18:=by kernel_rfl
theorem sizeFr:(Tryz.prog.info? 74).map (·.size)=some 8:=by kernel_rfl
def sizeF (f:Nat→Int):Nat:=if f 12*256+f 13=33024 then 18 else 14
theorem sizeOf_any (f:Nat→Int) (w:World) (hf:∀i,i<18→0≤f i∧f i≤255) :
  Calls Tryz.prog 51 #[.agg (rowF 18 f)] w fun e w'=>e=.returned (.int .i64 (sizeF f))∧Bl w w':=by
 have HF:Hid (∀i,i<18→0≤f i∧f i≤255):=hf;clear hf;unfold sizeF;by_cases c1:f 12*256+f 13=33024
 all_goals
  go_enter Tryz.func51,Tryz.ntmps51;go_wp2_with (first | refine wpList_load_row rfl 122 _ rfl w.heap.size rfl 122 _ (0,0) _ (heap_alloc_last w _) Tryz.underlying122 rfl (by rw[sizeH,rowF_size]) ?_ | (go_at_call 91;refine(pairAt_any 12 12 f _ HF.out rfl (by omega)).mono ?_;rintro e w1 ⟨rfl,hb⟩;simp only[Nat.reduceAdd]))
  go_ret;exact⟨by simp,(bA1 _ _).trans (hb.mono (by simp))⟩
def HeadW (w wx:World) (fr:Array Value) (f:Nat→Int):Prop :=
 wx.heap[w.heap.size]?=some (.cells fr 74)∧wx.heap[w.heap.size+1]?=some (.cells (rowF 18 (fun _=>0)) 122)∧wx.heap[w.heap.size+1+1]?=some (.cells (rowF 18 f) 122)∧Bl w wx
theorem HeadW.step {w wx w1:World}{fr:Array Value}{f f':Nat→Int}(h:HeadW w wx fr f) (h1:w1.heap[w.heap.size+1+1]?=some (.cells (rowF 18 f') 122)) (h3:Below (w.heap.size+1+1) wx w1):HeadW w w1 fr f' :=
 ⟨(h3.block _ (by omega)).trans h.1,(h3.block _ (by omega)).trans h.2.1,h1,h.2.2.2.trans (h3.mono (by omega))⟩
theorem HeadW.lt {w wx:World}{fr:Array Value}{f:Nat→Int}(h:HeadW w wx fr f):w.heap.size+2<wx.heap.size :=
 block_lt_of_cell ((cell_of_row wx _ 0 _ _ _ h.2.2.1).trans (rowF_get _ _ _ (by omega)))
theorem HeadW.grow {w wx w1:World}{fr:Array Value}{f:Nat→Int}(h:HeadW w wx fr f) (h3:Bl wx w1):HeadW w w1 fr f:=by
 have:=h.lt;exact⟨(h3.block _ (by omega)).trans h.1,(h3.block _ (by omega)).trans h.2.1,(h3.block _ (by omega)).trans h.2.2.1,h.2.2.2.trans (h3.mono (by omega))⟩
theorem HeadW.congr {w wx:World}{fr:Array Value}{f f':Nat→Int}(h:HeadW w wx fr f) (e:∀i,i<18→f i=f' i):HeadW w wx fr f' :=
 ⟨h.1,h.2.1,by rw[←rowF_congr _ _ _ e];exact h.2.2.1,h.2.2.2⟩
theorem HeadW.drew {w wx:World}{fr:Array Value}{f:Nat→Int}(h:HeadW w wx fr f):HeadW w wx.drew fr f :=
 ⟨h.1,h.2.1,h.2.2.1,h.2.2.2.drew⟩
def head2 (d s:Int) (i:Nat):Int:=if i<6 then be 6 d i else if i<12 then be 6 s (i-6) else 0
def head3 (d s:Int) (i:Nat):Int:=if 12≤i∧i<12+2 then be 2 33024 (i-12) else head2 d s i
def head4 (d s T:Int) (i:Nat):Int:=if 14≤i∧i<14+2 then be 2 T (i-14) else head3 d s i
theorem headF_plain (d s:Int) (p:Int) (dr:Bool) (v y:Int) (i:Nat):(if 12≤i∧i<12+2 then be 2 y (i-12) else head2 d s i)=headF d s false p dr v y i:=by
 unfold headF head2;by_cases e1:i<6
 ·rw[if_neg (by omega),if_pos e1,if_pos e1]
 ·by_cases e2:i<12
  ·rw[if_neg (by omega),if_neg e1,if_pos e2,if_neg e1,if_pos e2]
  ·by_cases e3:i<14
   ·rw[if_pos (by omega),if_neg e1,if_neg e2,if_neg (by simp),if_pos e3]
   ·rw[if_neg (by omega),if_neg e1,if_neg e2,if_neg e1,if_neg e2,if_neg (by simp),if_neg e3]
theorem headF_tagged (d s:Int) (p:Int) (dr:Bool) (v y:Int) (i:Nat) (hi:i<18) :
  (if 16≤i∧i<16+2 then be 2 y (i-16) else head4 d s (tag p dr v) i)=headF d s true p dr v y i:=by
 unfold headF head4 head3 head2;by_cases e1:i<6
 ·rw[if_neg (by omega),if_neg (by omega),if_neg (by omega),if_pos e1,if_pos e1]
 ·by_cases e2:i<12
  ·rw[if_neg (by omega),if_neg (by omega),if_neg (by omega),if_neg e1,if_pos e2,if_neg e1,if_pos e2]
  ·by_cases e3:i<14
   ·rw[if_neg (by omega),if_neg (by omega),if_pos (by omega),if_neg e1,if_neg e2,if_pos rfl,if_pos e3]
   ·by_cases e4:i<16
    ·rw[if_neg (by omega),if_pos (by omega),if_neg e1,if_neg e2,if_pos rfl,if_neg e3,if_pos e4]
    ·rw[if_pos (by omega),if_neg e1,if_neg e2,if_pos rfl,if_neg e3,if_neg e4]
theorem zeros18:(#[.int .u8 0,.int .u8 0,.int .u8 0,.int .u8 0,.int .u8 0,.int .u8 0,.int .u8 0,.int .u8 0,.int .u8 0,.int .u8 0,.int .u8 0,.int .u8 0,.int .u8 0,.int .u8 0,.int .u8 0,.int .u8 0,.int .u8 0,.int .u8 0]:Array Value)=rowF 18 (fun _=>0):=rfl
def frA (d s:Int) (t:Bool) (p:Int) (dr:Bool) (v y:Int) (ao:Option Addr) (n c:Nat):Array Value:=#[.int .u64 d,.int .u64 s,.bool t,.int .i64 p,.bool dr,.int .i64 v,.int .i64 y,.slice ao n c]
theorem headOf_any (d s:Int) (t:Bool) (p:Int) (dr:Bool) (v y:Int) (ao:Option Addr) (n c:Nat) (w:World) (hp:t=true→0≤p∧p≤7) (hv:t=true→0≤v∧v≤4094) (hy:0≤y∧y≤65535) :
  Calls Tryz.prog 50 #[.agg #[.int .u64 d,.int .u64 s,.bool t,.int .i64 p,.bool dr,.int .i64 v,.int .i64 y,.slice ao n c]] w fun e w'=>e=.returned (.tuple #[.agg (rowF 18 (headF d s t p dr v y)),.int .i64 (headN t)])∧Bl w w':=by
 obtain⟨W0,HW0⟩:∃W0,Hid (W0=((w.alloc (.cells #[.int .u64 d,.int .u64 s,.bool t,.int .i64 p,.bool dr,.int .i64 v,.int .i64 y,.slice ao n c] 74)).alloc (.cells (rowF 18 (fun _=>0)) 122)).alloc (.cells (rowF 18 (fun _=>0)) 122)):=⟨_,rfl⟩
 have H0:Hid (HeadW w W0 (frA d s t p dr v y ao n c) (fun _=>0)):=by
  rw[HW0.out];have h:=alloc3 w (.cells #[.int .u64 d,.int .u64 s,.bool t,.int .i64 p,.bool dr,.int .i64 v,.int .i64 y,.slice ao n c] 74) (.cells (rowF 18 (fun _=>0)) 122) (.cells (rowF 18 (fun _=>0)) 122);exact⟨h.1,h.2.1,h.2.2.1,h.2.2.2⟩
 have HW:Hid _:=HW0.out;rw[←zeros18] at HW;clear HW0;have HP:Hid (t=true→0≤p∧p≤7):=hp;have HV:Hid (t=true→0≤v∧v≤4094):=hv;clear hp hv;go_enter Tryz.func50,Tryz.ntmps50;(go_wp2_with fail);rw[←HW.out];clear HW;obtain⟨c0,c1,c2,c3,c4,c5,c6,c7⟩:=fr_cells H0.out.1;go_cut [8] (fun _ wx=>Hid (HeadW w wx (frA d s t p dr v y ao n c) (fun i=>if i<6 then be 6 d i else 0)))
 case first =>
  go_region_with (go_at_call 84;refine(putNumber_any (w.heap.size+1+1) 0 6 18 18 122 (fun _=>0) d _ H0.out.drew.2.2.1 (by omega) (by omega) (by omega)).mono ?_;rintro e w1 ⟨rfl,h1,h2,h3⟩;have HW1:Hid (HeadW w w1 (frA d s t p dr v y ao n c) (fun i=>if i<6 then be 6 d i else 0)):=((H0.out.drew.step h1 h3).congr (fun i _=>by simp));clear h1 h2 h3)
  all_goals (go_wp2_with fail;go_meet;exact HW1)
 case rest =>
 have H1:=hcut;clear hcut H0 c0 c1 c2 c3 c4 c5 c6 c7;obtain⟨c0,c1,c2,c3,c4,c5,c6,c7⟩:=fr_cells H1.out.1;(go_wp2_with fail);go_cut [12] (fun _ wx=>Hid (HeadW w wx (frA d s t p dr v y ao n c) (head2 d s)))
 case first =>
  go_region_with (go_at_call 84;refine(putNumber_any (w.heap.size+1+1) 6 6 12 18 122 _ s _ H1.out.drew.2.2.1 (by omega) (by omega) (by omega)).mono ?_;rintro e w1 ⟨rfl,h1,h2,h3⟩;have HW1:Hid (HeadW w w1 (frA d s t p dr v y ao n c) (head2 d s)):=((H1.out.drew.step h1 h3).congr (fun i _=>by unfold head2;by_cases e:i<6;rw[if_neg (by omega),if_pos e];simp[e];by_cases e2:i<12;rw[if_pos (by omega),if_neg e,if_pos e2];simp[e,e2]));clear h1 h2 h3)
  all_goals (go_wp2_with fail;go_meet;exact HW1)
 case rest =>
 have H2:=hcut;clear hcut H1 c0 c1 c2 c3 c4 c5 c6 c7;obtain⟨c0,c1,c2,c3,c4,c5,c6,c7⟩:=fr_cells H2.out.1;have hy1:y<9223372036854775808:=(by omega)
 cases t with
 | false =>
  go_wp2_with (first | (go_at_call 89;refine(putPair_any (w.heap.size+1+1) 12 12 122 (head2 d s) y _ hy.1 hy1 H2.out.2.2.1 rfl (by omega)).mono ?_;rintro e w1 ⟨rfl,h1,h2,h3⟩;have HW1:Hid (HeadW w w1 (frA d s false p dr v y ao n c) (headF d s false p dr v y)):=((H2.out.step h1 h3).congr (fun i _=>headF_plain d s p dr v y i));clear h1 h2 h3) | refine wpList_load_row rfl 122 _ rfl (w.heap.size+1+1) rfl 122 (rowF 18 (headF d s false p dr v y)) (0,0) _ HW1.out.2.2.1 Tryz.underlying122 rfl (by rw[sizeH,rowF_size]) ?_ | refine wpList_store_row rfl 122 _ _ rfl (w.heap.size+1) (rowF 18 (headF d s false p dr v y)) rfl rfl 122 (rowF 18 (fun _=>0)) HW1.out.2.1 (by rw[sizeH,rowF_size]) (by rw[rowF_size,rowF_size]) (rowF_all _ _) ?_)
  exact bodyPost_ret (v:=.tuple #[.agg (rowF 18 (headF d s false p dr v y)),.int .i64 14]) (rRt (p:=2) (u:=3) (ty:=122) Tryz.results50 _ _ (w.heap.size+1) 122 (rowF 18 (headF d s false p dr v y)) (0,0) _ rfl (setRow_heap _ _ _ _ _ _ HW1.out.2.1) Tryz.underlying122 rfl (by rw[sizeH,rowF_size])) rfl ⟨rfl,below_setRow HW1.out.2.2.2 (by omega) _⟩
 | true =>
  have HT:Hid (0≤tag p dr v∧tag p dr v<9223372036854775808):=by
   have h1:=HP.out rfl;have h2:=HV.out rfl;unfold tag;exact⟨by split<;>omega,by split<;>omega⟩
  have HP2:Hid (0≤p∧p≤7):=HP.out rfl;have HV2:Hid (0≤v∧v≤4094):=HV.out rfl;clear HP HV;go_wp2_with (go_at_call 89;refine(putPair_any (w.heap.size+1+1) 12 12 122 (head2 d s) 33024 _ (by omega) (by omega) H2.out.2.2.1 rfl (by omega)).mono ?_;rintro e w1 ⟨rfl,h1,h2,h3⟩;have H3:Hid (HeadW w w1 (frA d s true p dr v y ao n c) (head3 d s)):=(H2.out.step h1 h3);obtain⟨d0,d1,d2,d3,d4,d5,d6,d7⟩:=fr_cells H3.out.1;clear h1 h2 h3 H2 c0 c1 c2 c3 c4 c5 c6 c7)
  refine(tagOf_any d s true p dr v y ao n c _ HP2.out HV2.out).mono ?_;rintro e w2 ⟨rfl,h3⟩;have H4:Hid (HeadW w w2 (frA d s true p dr v y ao n c) (head3 d s)):=(H3.out.grow h3)
  clear h3 H3 d0 d1 d2 d3 d4 d5 d6 d7;(go_wp2_with fail);refine(putPair_any (w.heap.size+1+1) 14 14 122 (head3 d s) (tag p dr v) _ HT.out.1 HT.out.2 H4.out.2.2.1 rfl (by omega)).mono ?_;rintro e w3 ⟨rfl,h1,h2,h3⟩;have H5:Hid (HeadW w w3 (frA d s true p dr v y ao n c) (head4 d s (tag p dr v))):=(H4.out.step h1 h3)
  obtain⟨e0,e1,e2,e3,e4,e5,e6,e7⟩:=fr_cells H5.out.1;clear h1 h2 h3 H4;(go_wp2_with fail);refine(putPair_any (w.heap.size+1+1) 16 16 122 (head4 d s (tag p dr v)) y _ hy.1 hy1 H5.out.2.2.1 rfl (by omega)).mono ?_;rintro e w4 ⟨rfl,h1,h2,h3⟩;have HW1:Hid (HeadW w w4 (frA d s true p dr v y ao n c) (headF d s true p dr v y)):=((H5.out.step h1 h3).congr (fun i hi=>headF_tagged d s p dr v y i hi))
  clear h1 h2 h3 H5 e0 e1 e2 e3 e4 e5 e6 e7;go_wp2_with (first | refine wpList_load_row rfl 122 _ rfl (w.heap.size+1+1) rfl 122 (rowF 18 (headF d s true p dr v y)) (0,0) _ HW1.out.2.2.1 Tryz.underlying122 rfl (by rw[sizeH,rowF_size]) ?_ | refine wpList_store_row rfl 122 _ _ rfl (w.heap.size+1) (rowF 18 (headF d s true p dr v y)) rfl rfl 122 (rowF 18 (fun _=>0)) HW1.out.2.1 (by rw[sizeH,rowF_size]) (by rw[rowF_size,rowF_size]) (rowF_all _ _) ?_)
  exact bodyPost_ret (v:=.tuple #[.agg (rowF 18 (headF d s true p dr v y)),.int .i64 18]) (rRt (p:=2) (u:=3) (ty:=122) Tryz.results50 _ _ (w.heap.size+1) 122 (rowF 18 (headF d s true p dr v y)) (0,0) _ rfl (setRow_heap _ _ _ _ _ _ HW1.out.2.1) Tryz.underlying122 rfl (by rw[sizeH,rowF_size])) rfl ⟨rfl,below_setRow HW1.out.2.2.2 (by omega) _⟩
theorem and12 (T:Int) (h0:0≤T) (h1:T≤65535):bits BinOp.and IntKind.i64 T 4096=T/4096%2*4096:=by
 obtain⟨a,rfl⟩:=Int.eq_ofNat_of_zero_le h0;have h:=(bits_nat .i64 62 (by decide) wraps_i64 a 4096 (by omega) (by omega)).1;rw[show((4096:Nat):Int)=4096 from rfl] at h;rw[h];have h2:a &&& 2 ^ 12=a/2 ^ 12%2 ^ 1*2 ^ 12:=by
  apply Nat.eq_of_testBit_eq
  intro i;rw[Nat.testBit_and,Nat.testBit_two_pow,Nat.testBit_mul_two_pow,Nat.testBit_mod_two_pow,Nat.testBit_div_two_pow];by_cases e:12=i
  ·subst e;simp
  ·by_cases e2:12≤i
   ·simp[e,show ¬(i-12<1) by omega]
   ·simp[e,e2]
 rw[show(2:Nat) ^ 12=4096 from rfl] at h2;rw[h2];omega
theorem and4095 (T:Int) (h0:0≤T) (h1:T≤65535):bits BinOp.and IntKind.i64 T 4095=T%4096 :=
 bits_mask .i64 62 (by decide) wraps_i64 12 (by decide) T h0 (by omega)
def pT (f:Nat→Int) (i:Nat):Int:=f i*256+f (i+1)
def isTag (f:Nat→Int):Bool:=decide (pT f 12=33024)
def rD (f:Nat→Int):Int:=num f 6
def rS (f:Nat→Int):Int:=num (fun i=>f (6+i)) 6
def rP (f:Nat→Int):Int:=if isTag f=true then pT f 14/8192 else 0
def rX (f:Nat→Int):Bool:=if isTag f=true then decide (pT f 14/4096%2=1) else false
def rV (f:Nat→Int):Int:=if isTag f=true then pT f 14%4096 else 0
def rY (f:Nat→Int):Int:=if isTag f=true then pT f 16 else pT f 12
theorem frA_all (d s:Int) (t:Bool) (p:Int) (dr:Bool) (v y:Int) (ao:Option Addr) (n c:Nat):(frA d s t p dr v y ao n c).all (·.oneCell')=true:=by
 rw[Array.all_eq_true_iff_forall_mem];intro v hv;simp[frA] at hv;rcases hv with rfl | rfl | rfl | rfl | rfl | rfl | rfl | rfl<;>rfl
def FrW (w wx:World) (f:Nat→Int) (fr:Array Value):Prop :=
 wx.heap[w.heap.size]?=some (.cells (rowF 18 f) 122)∧wx.heap[w.heap.size+1]?=some (.cells (frA 0 0 false 0 false 0 0 none 0 0) 74)∧wx.heap[w.heap.size+1+1]?=some (.cells fr 74)∧Bl w wx
theorem FrW.lt {w wx:World}{f:Nat→Int}{fr:Array Value}(h:FrW w wx f fr):w.heap.size+2<wx.heap.size:=by
 rcases Nat.lt_or_ge (w.heap.size+2) wx.heap.size with e | e
 ·exact e
 ·have:=h.2.2.1;rw[Array.getElem?_eq_none e] at this;cases this
theorem FrW.grow {w wx w1:World}{f:Nat→Int}{fr:Array Value}(h:FrW w wx f fr) (h3:Bl wx w1):FrW w w1 f fr:=by
 have:=h.lt;exact⟨(h3.block _ (by omega)).trans h.1,(h3.block _ (by omega)).trans h.2.1,(h3.block _ (by omega)).trans h.2.2.1,h.2.2.2.trans (h3.mono (by omega))⟩
theorem FrW.set {w wx:World}{f:Nat→Int}{fr:Array Value}(h:FrW w wx f fr) (k:Nat) (v:Value):FrW w (wx.setCell ⟨w.heap.size+1+1,k,none⟩ v) f (fr.setIfInBounds k v):=by
 refine⟨?_,?_,?_,h.2.2.2.setCell (by show _≤w.heap.size+1+1;omega) _⟩
 ·rw[heap_setCell_other _ _ _ _ (by show _≠w.heap.size+1+1;omega)];exact h.1
 ·rw[heap_setCell_other _ _ _ _ (by show _≠w.heap.size+1+1;omega)];exact h.2.1
 ·rw[heap_setCell_same _ _ _ _ _ _ h.2.2.1]
theorem frameOf_any (f:Nat→Int) (w:World) (hf:∀i,i<18→0≤f i∧f i≤255) :
  Calls Tryz.prog 52 #[.agg (rowF 18 f)] w fun e w'=>e=.returned (.agg #[.int .u64 (rD f),.int .u64 (rS f),.bool (isTag f),.int .i64 (rP f),.bool (rX f),.int .i64 (rV f),.int .i64 (rY f),.slice none 0 0])∧Bl w w':=by
 have HF:Hid (∀i,i<18→0≤f i∧f i≤255):=hf;clear hf;obtain⟨W0,HW⟩:∃W0,Hid (W0=(w.alloc (.cells (rowF 18 f) 122)).alloc (.cells #[.int .u64 0,.int .u64 0,.bool false,.int .i64 0,.bool false,.int .i64 0,.int .i64 0,.slice none 0 0] 74)):=⟨_,rfl⟩
 have HA:Hid (W0.heap[w.heap.size]?=some (.cells (rowF 18 f) 122)):=(by rw[HW.out];exact heap_alloc2_old _ _ _)
 have HB:Hid (W0.heap[w.heap.size+1]?=some (.cells (frA 0 0 false 0 false 0 0 none 0 0) 74)):=(by rw[HW.out];exact heap_alloc2_new _ _ _)
 have hsz:W0.heap.size=w.heap.size+1+1:=(by rw[HW.out];simp)
 have HBL:Hid (Bl w W0):=(by rw[HW.out];exact((Below.refl _ w).alloc (Nat.le_refl _) _).alloc (by simp) _)
 have HN1:Hid (∀W:World,W.heap[w.heap.size]?=some (.cells (rowF 18 f) 122)→Calls Tryz.prog 85 #[.slice (some ⟨w.heap.size,0,none⟩) 6 18] W fun e w'=>e=.returned (.int .u64 (rD f))∧w'=W):=fun W h =>
  number_any _ 6 18 f W ((ByteRow.of_row (off:=0) (n:=6) h (by omega) (by omega)).congr (fun i _=>by rw[Nat.zero_add])) (fun i hi=>HF.out _ (by omega)) (by omega)
 have HN2:Hid (∀W:World,W.heap[w.heap.size]?=some (.cells (rowF 18 f) 122)→Calls Tryz.prog 85 #[.slice (some ⟨w.heap.size,6,none⟩) 6 12] W fun e w'=>e=.returned (.int .u64 (rS f))∧w'=W):=fun W h =>
  number_any _ 6 12 (fun i=>f (6+i)) W (ByteRow.of_row h (by omega) (by omega)) (fun i hi=>HF.out _ (by omega)) (by omega)
 have HO:Hid (∀o,(W0.alloc o).drew.heap[w.heap.size]?=some (.cells (rowF 18 f) 122)):=fun o=>(Below.heap_alloc W0 o _ (show w.heap.size<W0.heap.size by omega)).trans HA.out;have HA2:Hid (W0.drew.heap[w.heap.size]?=some (.cells (rowF 18 f) 122)):=HA.out;have HFIN:Hid (FrW w (W0.alloc (.cells #[.int .u64 (rD f),.int .u64 (rS f),.bool false,.int .i64 0,.bool false,.int .i64 0,.int .i64 0,.slice none 0 0] 74)).drew f (frA (rD f) (rS f) false 0 false 0 0 none 0 0)):=by
  refine⟨HO.out _,(Below.heap_alloc W0 _ _ (show w.heap.size+1<W0.heap.size by omega)).trans HB.out,?_,(HBL.out.alloc (by omega) _).drew⟩;have:=heap_alloc_last W0 (.cells #[.int .u64 (rD f),.int .u64 (rS f),.bool false,.int .i64 0,.bool false,.int .i64 0,.int .i64 0,.slice none 0 0] 74);rw[hsz] at this;exact this
 go_enter Tryz.func52,Tryz.ntmps52;(go_wp2_with fail);rw[←HW.out];clear HW;go_cut [3] (fun s3 wx=>s3=.pointer (some ⟨w.heap.size+1+1,0,none⟩)∧Hid (FrW w wx f (frA (rD f) (rS f) false 0 false 0 0 none 0 0)))
 case first =>
  go_region_with (first | (go_at_call 85;with_reducible refine(HN1.out _ (by first | with_reducible exact HA2.out | with_reducible exact HO.out _)).mono ?_;rintro e w1 ⟨rfl,rfl⟩) | (go_at_call 85;with_reducible refine(HN2.out _ (by first | with_reducible exact HA2.out | with_reducible exact HO.out _)).mono ?_;rintro e w1 ⟨rfl,rfl⟩))
  (all_goals go_wp2_with fail);all_goals go_meet
  all_goals exact⟨rfl,HFIN.out⟩
 case rest =>
 obtain⟨rfl,H1⟩:=hcut;clear HFIN HN1 HN2 HO HA2 HA HB HBL hsz;have r12:0≤pT f 12∧pT f 12≤65535:=(by have:=HF.out 12 (by omega);have:=HF.out 13 (by omega);unfold pT;simp only[Nat.reduceAdd];omega)
 have r14:0≤pT f 14∧pT f 14≤65535:=(by have:=HF.out 14 (by omega);have:=HF.out 15 (by omega);unfold pT;simp only[Nat.reduceAdd];omega)
 have r16:0≤pT f 16∧pT f 16≤65535:=(by have:=HF.out 16 (by omega);have:=HF.out 17 (by omega);unfold pT;simp only[Nat.reduceAdd];omega)
 have HP:Hid (∀(k:Nat) (a:Int) (W:World),a=(k:Int)→k=12∨k=14∨k=16→Calls Tryz.prog 91 #[.agg (rowF 18 f),.int .i64 a] W fun e w'=>e=.returned (.int .i64 (pT f k))∧Bl W w'):=fun k a W ha hk=>pairAt_any k a f W HF.out ha hk;by_cases ht:isTag f=true
 ·have HS:Hid (∀W:World,Calls Tryz.prog 51 #[.agg (rowF 18 f)] W fun e w'=>e=.returned (.int .i64 18)∧Bl W w'):=by
   have h:sizeF f=18:=(by have:=of_decide_eq_true ht;unfold sizeF;unfold pT at this;rw[if_pos this])
   intro W;have:=sizeOf_any f W HF.out;rw[h] at this;exact this
  have q1:=and12 (pT f 14) r14.1 r14.2;have q2:=and4095 (pT f 14) r14.1 r14.2;have HE:Hid (#[Value.int .u64 (rD f),.int .u64 (rS f),.bool (isTag f),.int .i64 (rP f),.bool (rX f),.int .i64 (rV f),.int .i64 (rY f),.slice none 0 0]=frA (rD f) (rS f) true (pT f 14/8192) (pT f 14/4096%2*4096 != 0) (pT f 14%4096) (pT f 16) none 0 0):=by
   have e1:rP f=pT f 14/8192:=if_pos ht;have e2:rX f=decide (pT f 14/4096%2=1):=if_pos ht;have e3:rV f=pT f 14%4096:=if_pos ht;have e4:rY f=pT f 16:=if_pos ht;have e6:(pT f 14/4096%2*4096 != 0)=decide (pT f 14/4096%2=1):=by
    by_cases c:pT f 14/4096%2=1
    ·simp[c]
    ·have:pT f 14/4096%2=0:=by omega
     simp[this]
   rw[e1,e2,e3,e4,ht,e6];rfl
  clear ht;go_wp2_with (first | (refine wpList_load_row rfl 122 _ rfl w.heap.size rfl 122 (rowF 18 f) (0,0) _ ?_ Tryz.underlying122 rfl (by rw[sizeH,rowF_size]) ?_;exact H1.out.1) | (go_at_call 51;refine(HS.out _).mono ?_;rintro e w1 ⟨rfl,hb⟩;have H2:Hid (FrW w w1 f (frA (rD f) (rS f) false 0 false 0 0 none 0 0)):=H1.out.grow hb;clear hb H1) | (refine wpList_load_row rfl 122 _ rfl w.heap.size rfl 122 (rowF 18 f) (0,0) _ ?_ Tryz.underlying122 rfl (by rw[sizeH,rowF_size]) ?_;exact H2.out.1))
  refine(HP.out 14 14 _ rfl (by omega)).mono ?_;rintro e w2 ⟨rfl,hb⟩;have H3:Hid (FrW w w2 f (frA (rD f) (rS f) false 0 false 0 0 none 0 0)):=H2.out.grow hb;clear hb H2;obtain⟨c0,c1,c2,c3,c4,c5,c6,c7⟩:=fr_cells H3.out.2.2.1;obtain⟨g0,g1,g2,g3,g4,g5,g6,g7⟩:=fr_free H3.out.2.2.1;have H4:Hid (FrW w ((((w2.setCell ⟨w.heap.size+1+1,2,none⟩ (.bool true)).setCell ⟨w.heap.size+1+1,3,none⟩ (.int .i64 (pT f 14/8192))).setCell ⟨w.heap.size+1+1,4,none⟩ (.bool (pT f 14/4096%2*4096 != 0))).setCell ⟨w.heap.size+1+1,5,none⟩ (.int .i64 (pT f 14%4096))) f (frA (rD f) (rS f) true (pT f 14/8192) (pT f 14/4096%2*4096 != 0) (pT f 14%4096) 0 none 0 0)):=(((H3.out.set 2 _).set 3 _).set 4 _).set 5 _;go_wp2_with ((refine wpList_load_row rfl 122 _ rfl w.heap.size rfl 122 (rowF 18 f) (0,0) _ ?_ Tryz.underlying122 rfl (by rw[sizeH,rowF_size]) ?_;exact H4.out.1))
  refine(HP.out 16 16 _ rfl (by omega)).mono ?_;rintro e w3 ⟨rfl,hb⟩;have H5:Hid (FrW w w3 f (frA (rD f) (rS f) true (pT f 14/8192) (pT f 14/4096%2*4096 != 0) (pT f 14%4096) 0 none 0 0)):=H4.out.grow hb;clear hb H4 H3 c0 c1 c2 c3 c4 c5 c6 c7 g0 g1 g2 g3 g4 g5 g6 g7;obtain⟨c0,c1,c2,c3,c4,c5,c6,c7⟩:=fr_cells H5.out.2.2.1;obtain⟨g0,g1,g2,g3,g4,g5,g6,g7⟩:=fr_free H5.out.2.2.1;have H6:Hid (FrW w (w3.setCell ⟨w.heap.size+1+1,6,none⟩ (.int .i64 (pT f 16))) f (frA (rD f) (rS f) true (pT f 14/8192) (pT f 14/4096%2*4096 != 0) (pT f 14%4096) (pT f 16) none 0 0)):=H5.out.set 6 _;go_wp2_with (first | (refine wpList_load_row rfl 74 _ rfl (w.heap.size+1+1) rfl 74 (frA (rD f) (rS f) true (pT f 14/8192) (pT f 14/4096%2*4096 != 0) (pT f 14%4096) (pT f 16) none 0 0) (0,0) _ ?_ Tryz.underlying74 rfl (by rw[sizeFr];rfl) ?_;exact H6.out.2.2.1) | (refine wpList_store_row rfl 74 _ _ rfl (w.heap.size+1) (frA (rD f) (rS f) true (pT f 14/8192) (pT f 14/4096%2*4096 != 0) (pT f 14%4096) (pT f 16) none 0 0) rfl rfl 74 (frA 0 0 false 0 false 0 0 none 0 0) ?_ (by rw[sizeFr];rfl) rfl (frA_all _ _ _ _ _ _ _ _ _ _) ?_;exact H6.out.2.1))
  exact bodyPost_ret (v:=.agg (frA (rD f) (rS f) true (pT f 14/8192) (pT f 14/4096%2*4096 != 0) (pT f 14%4096) (pT f 16) none 0 0)) (results_cell_row (p:=2) (ty:=74) rfl _ _ (w.heap.size+1) 74 _ (0,0) _ rfl (setRow_heap _ _ _ _ _ _ H6.out.2.1) Tryz.underlying74 rfl (by rw[sizeFr];rfl)) rfl ⟨by rw[HE.out],below_setRow H6.out.2.2.2 (by omega) _⟩
 ·have hn:isTag f=false:=by cases h:isTag f;rfl;exact absurd h ht
  have HS:Hid (∀W:World,Calls Tryz.prog 51 #[.agg (rowF 18 f)] W fun e w'=>e=.returned (.int .i64 14)∧Bl W w'):=by
   have h:sizeF f=14:=(by have:=of_decide_eq_false hn;unfold sizeF;unfold pT at this;rw[if_neg this])
   intro W;have:=sizeOf_any f W HF.out;rw[h] at this;exact this
  have HE:Hid (#[Value.int .u64 (rD f),.int .u64 (rS f),.bool (isTag f),.int .i64 (rP f),.bool (rX f),.int .i64 (rV f),.int .i64 (rY f),.slice none 0 0]=frA (rD f) (rS f) false 0 false 0 (pT f 12) none 0 0):=by
   have e1:rP f=0:=if_neg ht;have e2:rX f=false:=if_neg ht;have e3:rV f=0:=if_neg ht;have e4:rY f=pT f 12:=if_neg ht;rw[e1,e2,e3,e4,hn];rfl
  clear ht hn;go_wp2_with (first | (refine wpList_load_row rfl 122 _ rfl w.heap.size rfl 122 (rowF 18 f) (0,0) _ ?_ Tryz.underlying122 rfl (by rw[sizeH,rowF_size]) ?_;exact H1.out.1) | (go_at_call 51;refine(HS.out _).mono ?_;rintro e w1 ⟨rfl,hb⟩;have H2:Hid (FrW w w1 f (frA (rD f) (rS f) false 0 false 0 0 none 0 0)):=H1.out.grow hb;clear hb H1) | (refine wpList_load_row rfl 122 _ rfl w.heap.size rfl 122 (rowF 18 f) (0,0) _ ?_ Tryz.underlying122 rfl (by rw[sizeH,rowF_size]) ?_;exact H2.out.1))
  refine(HP.out 12 12 _ rfl (by omega)).mono ?_;rintro e w2 ⟨rfl,hb⟩;have H5:Hid (FrW w w2 f (frA (rD f) (rS f) false 0 false 0 0 none 0 0)):=H2.out.grow hb;clear hb H2;obtain⟨c0,c1,c2,c3,c4,c5,c6,c7⟩:=fr_cells H5.out.2.2.1;obtain⟨g0,g1,g2,g3,g4,g5,g6,g7⟩:=fr_free H5.out.2.2.1;have H6:Hid (FrW w (w2.setCell ⟨w.heap.size+1+1,6,none⟩ (.int .i64 (pT f 12))) f (frA (rD f) (rS f) false 0 false 0 (pT f 12) none 0 0)):=H5.out.set 6 _;go_wp2_with (first | (refine wpList_load_row rfl 74 _ rfl (w.heap.size+1+1) rfl 74 (frA (rD f) (rS f) false 0 false 0 (pT f 12) none 0 0) (0,0) _ ?_ Tryz.underlying74 rfl (by rw[sizeFr];rfl) ?_;exact H6.out.2.2.1) | (refine wpList_store_row rfl 74 _ _ rfl (w.heap.size+1) (frA (rD f) (rS f) false 0 false 0 (pT f 12) none 0 0) rfl rfl 74 (frA 0 0 false 0 false 0 0 none 0 0) ?_ (by rw[sizeFr];rfl) rfl (frA_all _ _ _ _ _ _ _ _ _ _) ?_;exact H6.out.2.1))
  exact bodyPost_ret (v:=.agg (frA (rD f) (rS f) false 0 false 0 (pT f 12) none 0 0)) (results_cell_row (p:=2) (ty:=74) rfl _ _ (w.heap.size+1) 74 _ (0,0) _ rfl (setRow_heap _ _ _ _ _ _ H6.out.2.1) Tryz.underlying74 rfl (by rw[sizeFr];rfl)) rfl ⟨by rw[HE.out],below_setRow H6.out.2.2.2 (by omega) _⟩
end
end Go.Proofs.YtflghpnpjmodaaaGreatDoor
