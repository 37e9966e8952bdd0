/- What Go's stable sort does: plain functions, at ends. -/
import Derived.Test.YtaneiffnhphkhaaGreatDoorD04
import Derived.Test.YtaneiffnhphkhaaGreatDoorD02
import Derived.Test.YtaneiffnhphkhaaGreatDoorD01
import Derived.Deep.RegionHeld3
set_option maxRecDepth 100000
set_option maxHeartbeats 40000000
namespace Go.Proofs.YtaneiffnhphkhaaGreatDoor
section
open Go.RowKit
open Pl (Br Net Pc Lk En)
theorem pisprio_any (p:Int) (w:World) :
  Calls Tryz.prog 103 #[.int .i64 p] w fun e w'=>e=.returned (.bool (!Pl.oddP p))∧w'=w:=by
 have HW:Hid (∀W,Calls Tryz.prog 30 #[.int .i64 p,.int .i64 0,.int .i64 61440] W fun e w'=>e=.returned (.bool (decide (0≤p∧p≤61440)))∧w'=W):=fun W=>gwithin_any p 0 61440 W;unfold Pl.oddP;by_cases h1:0≤p∧p≤61440
 ·rw[decide_eq_true h1] at HW ⊢;have hr:p.tmod 4096=p%4096:=Int.tmod_eq_emod_of_nonneg h1.1;have hw:IntKind.i64.wrap (p%4096)=p%4096:=wraps_i64 _ (by omega) (by omega);by_cases h2:p%4096=0
  ·have hd:(p.tmod 4096 == 0)=true:=(by rw[hr];simp[h2])
   go_enter Tryz.func103,Tryz.ntmps103;go_wp2_with (go_at_call 30;refine(HW.out _).mono ?_;rintro e w1 ⟨rfl,rfl⟩)
   go_ret;exact⟨by simp[h2],rfl⟩
  ·have hd:(p.tmod 4096 == 0)=false:=(by rw[hr];simp[h2])
   go_enter Tryz.func103,Tryz.ntmps103;go_wp2_with (go_at_call 30;refine(HW.out _).mono ?_;rintro e w1 ⟨rfl,rfl⟩)
   go_ret;exact⟨by simp[h2],rfl⟩
 ·rw[decide_eq_false h1] at HW ⊢;go_enter Tryz.func103,Tryz.ntmps103;go_wp2_with (go_at_call 30;refine(HW.out _).mono ?_;rintro e w1 ⟨rfl,rfl⟩)
  go_ret;exact⟨rfl,rfl⟩
theorem podd_any (p:Int) (w:World) :
  Calls Tryz.prog 114 #[.int .i64 p] w fun e w'=>e=.returned (.bool (Pl.oddP p))∧w'=w:=by
 have HW:Hid (∀W,Calls Tryz.prog 103 #[.int .i64 p] W fun e w'=>e=.returned (.bool (!Pl.oddP p))∧w'=W):=fun W=>pisprio_any p W;generalize Pl.oddP p=b at *;go_enter Tryz.func114,Tryz.ntmps114;go_wp2_with (go_at_call 103;refine(HW.out _).mono ?_;rintro e w1 ⟨rfl,rfl⟩)
 go_ret;exact⟨by simp,rfl⟩
theorem pindex_any (ao:Option Addr) (n cap:Nat) (f:Nat→Int) (w:World) (hn:n≤16) (hr:IRow w ao n cap f) :
  Calls Tryz.prog 142 #[.slice ao n cap,.func (.func 114) #[] #[]] w fun e w'=>∃r:Int,e=.returned (.int .i64 r)∧decide (0≤r)=Vc.someTo (fun i=>Pl.oddP (f i)) n∧w'=w:=by
 have HR:Hid (IRow w ao n cap f):=hr;clear hr;go_enter Tryz.func142,Tryz.ntmps142;(go_wp2_with fail);go_loopw [8] (fun i wr=>∃k:Nat,k≤n∧i=.int .i64 k∧Hid (Vc.someTo (fun i=>Pl.oddP (f i)) k=false)∧wr=w) (fun i _=>n-(intOf i).toNat)
 case atStart=>exact⟨0,by omega,rfl,rfl,rfl⟩
 case round =>
  obtain⟨k,hk,rfl,hX,rfl⟩:=hrel;by_cases hlt:k<n
  ·obtain⟨b,off,rfl,hb⟩:=CRow.some HR.out (by omega);have hcap:=HR.out.1;have c4:wr.cell? ⟨b,off+k,none⟩=some (.int .i64 (f k)):=IRow.cells HR.out hlt;have HS1:Hid (Pl.oddP (f k)=true→Vc.someTo (fun i=>Pl.oddP (f i)) n=true):=fun h=>someTo_stay _ k h n hlt;have HS2:Hid (Pl.oddP (f k)=false→Vc.someTo (fun i=>Pl.oddP (f i)) (k+1)=false):=fun h=>by
    show(Vc.someTo _ k||Pl.oddP (f k))=false;rw[h,hX.out];rfl
   clear HR hX;generalize f k=c at *;cases ho:Pl.oddP c with
   | true =>
    have HO:Hid (Pl.oddP c=true):=ho;clear ho;go_wp2_with (go_at_call 114;refine(podd_any _ _).mono ?_;rintro e w1 ⟨rfl,rfl⟩;rw[HO.out])
    go_ret;exact⟨_,rfl,by rw[HS1.out HO.out];simp,rfl⟩
   | false =>
    have HO:Hid (Pl.oddP c=false):=ho;clear ho;go_wp2_with (go_at_call 114;refine(podd_any _ _).mono ?_;rintro e w1 ⟨rfl,rfl⟩;rw[HO.out])
    exact⟨⟨k+1,by omega,by go_num,HS2.out HO.out,trivial⟩,by simp[intOf];omega⟩
  ·obtain rfl:k=n:=by omega
   go_wp2
   go_ret;exact⟨_,rfl,by rw[hX.out];decide,rfl⟩
theorem pcontains_any (ao:Option Addr) (n cap:Nat) (f:Nat→Int) (w:World) (hn:n≤16) (hr:IRow w ao n cap f) :
  Calls Tryz.prog 115 #[.slice ao n cap,.func (.func 114) #[] #[]] w fun e w'=>e=.returned (.bool (Vc.someTo (fun i=>Pl.oddP (f i)) n))∧w'=w:=by
 have HR:Hid (IRow w ao n cap f):=hr;clear hr;go_enter Tryz.func115,Tryz.ntmps115;go_wp2_with (go_at_call 142;refine(pindex_any _ _ _ f _ hn HR.out).mono ?_;rintro e w1 ⟨r,rfl,hq,rfl⟩;have HQ:Hid (decide (0≤r)=Vc.someTo (fun i=>Pl.oddP (f i)) n):=hq;clear hq)
 go_ret;exact⟨by rw[HQ.out];rfl,rfl⟩
theorem br_cells {w:World}{g:Nat}{a0 a1 a2 a3 a4:Value}{ty:TypeId}(h:w.heap[g]?=some (.cells #[a0,a1,a2,a3,a4] ty (0,0))) :
  w.cell? ⟨g,0,none⟩=some a0∧w.cell? ⟨g,1,none⟩=some a1∧w.cell? ⟨g,2,none⟩=some a2∧w.cell? ⟨g,3,none⟩=some a3∧w.cell? ⟨g,4,none⟩=some a4 :=
 ⟨cell_of_row w g 0 _ _ _ h,cell_of_row w g 1 _ _ _ h,cell_of_row w g 2 _ _ _ h,cell_of_row w g 3 _ _ _ h,cell_of_row w g 4 _ _ _ h⟩
def brA (b:Br):Array Value:=#[.int .u64 b.addr,.slice b.pao b.pn b.pcap,.string b.reg.s,.int .i64 b.reg.rev,.slice b.reg.ao b.reg.n b.reg.cap]
theorem pwrongBridge_any (b:Br) (w:World) (hb:b.at' w) :
  Calls Tryz.prog 83 #[.agg (brA b)] w fun e w'=>e=.returned (.int .i64 (Pl.brErr b))∧Bl w w':=by
 obtain⟨hp,hreg,hn1,hn2⟩:=hb;have HX:Hid (∀W,W=w.alloc (.cells (brA b) 74)→b.pn≤16→Calls Tryz.prog 115 #[.slice b.pao b.pn b.pcap,.func (.func 114) #[] #[]] W fun e w'=>e=.returned (.bool (Vc.someTo (fun i=>Pl.oddP (b.pv i)) b.pn))∧w'=W):=fun W hW h=>pcontains_any _ _ _ _ W h (hp.below (by rw[hW];exact bA1 _ _));have HG:Hid (∀W,W=w.alloc (.cells (brA b) 74)→Calls Tryz.prog 116 #[.agg #[.string b.reg.s,.int .i64 b.reg.rev,.slice b.reg.ao b.reg.n b.reg.cap]] W fun e w'=>e=.returned (.int .i64 (Rg.wrong b.reg.s b.reg.rev b.reg.vs b.reg.ts b.reg.n))∧Bl w w'):=fun W hW=>by
  have hbl:Bl w W:=(by rw[hW];exact bA1 _ _)
  refine(gwrong_any b.reg.s b.reg.rev b.reg.ao b.reg.n b.reg.cap b.reg.vs b.reg.ts W hn2 (hreg.below hbl)).mono ?_;rintro e w' ⟨rfl,h2⟩;exact⟨rfl,hbl.trans (h2.mono hbl.size)⟩
 have HA:Hid ((w.alloc (.cells (brA b) 74)).heap[w.heap.size]?=some (.cells (brA b) 74)):=heap_alloc_last _ _;obtain⟨R,HR⟩:∃R,Hid (R=Rg.wrong b.reg.s b.reg.rev b.reg.vs b.reg.ts b.reg.n):=⟨_,rfl⟩
 obtain⟨S,HS⟩:∃S,Hid (S=Vc.someTo (fun i=>Pl.oddP (b.pv i)) b.pn):=⟨_,rfl⟩
 have HE:Hid (Pl.brErr b=if 281474976710655<b.addr then 3 else if 16<b.pn then 5 else if S=true then 3 else R):=(by rw[HR.out,HS.out];rfl)
 rw[←HR.out] at HG;rw[←HS.out] at HX;clear HR HS hp hreg hn2;obtain⟨addr,pao,pn,pcap,pv,⟨s,rev,ao,n,cap,vs,ts⟩⟩:=b;simp only[brA] at *;rw[HE.out];obtain⟨q0,q1,q2,q3,q4⟩:=br_cells HA.out;clear HA HE;by_cases h1:281474976710655<addr
 ·rw[if_pos h1];go_enter Tryz.func83,Tryz.ntmps83;(go_wp2_with fail);go_ret;exact⟨rfl,bA1 _ _⟩
 ·rw[if_neg h1];by_cases h2:16<pn
  ·rw[if_pos h2];go_enter Tryz.func83,Tryz.ntmps83;(go_wp2_with fail);go_ret;exact⟨rfl,bA1 _ _⟩
  ·rw[if_neg h2];cases S with
   | true =>
    rw[if_pos rfl];go_enter Tryz.func83,Tryz.ntmps83;go_wp2_with (go_at_call 115;refine(HX.out _ rfl (by omega)).mono ?_;rintro e w1 ⟨rfl,rfl⟩)
    go_ret;exact⟨rfl,bA1 _ _⟩
   | false =>
    rw[if_neg (by decide)];go_enter Tryz.func83,Tryz.ntmps83;go_wp2_with (first | (go_at_call 115;refine(HX.out _ rfl (by omega)).mono ?_;rintro e w1 ⟨rfl,rfl⟩) | (go_at_call 116;refine(HG.out _ rfl).mono ?_;rintro e w1 ⟨rfl,hb1⟩))
    go_ret;exact⟨rfl,hb1⟩
end
section
open Go.RowKit
def rowC (n k:Nat) (c:Nat→Nat→Value):Array Value:=(cellsL n k c).toArray
theorem rowC_size (n k:Nat) (c:Nat→Nat→Value):(rowC n k c).size=n*k:=by simp[rowC,cellsL]
theorem mul_add_lt {n k i j:Nat}(hi:i<n) (hj:j<k):i*k+j<n*k:=by
 have:(i+1)*k≤n*k:=Nat.mul_le_mul_right k (by omega);rw[Nat.add_mul] at this;omega
theorem div_of {k i j:Nat}(hj:j<k):(i*k+j)/k=i∧(i*k+j)%k=j:=by
 have hk:0<k:=(by omega)
 refine⟨?_,?_⟩
 ·rw[Nat.add_comm,Nat.add_mul_div_right _ _ hk,Nat.div_eq_of_lt hj,Nat.zero_add]
 ·rw[Nat.add_comm,Nat.add_mul_mod_self_right,Nat.mod_eq_of_lt hj]
theorem rowC_get {n k i j:Nat}(c:Nat→Nat→Value) (hi:i<n) (hj:j<k):(rowC n k c)[i*k+j]?=some (c i j):=by
 have h:=mul_add_lt hi hj;simp[rowC,cellsL,h];obtain⟨e1,e2⟩:=div_of (i:=i) hj;first | rw[e1,e2] | rw[e1,Nat.mod_eq_of_lt hj]
def updC (c:Nat→Nat→Value) (i j:Nat) (v:Value):Nat→Nat→Value:=fun i' j'=>if i'=i∧j'=j then v else c i' j'
theorem rowC_put {n k i j:Nat}(c:Nat→Nat→Value) (hi:i<n) (hj:j<k) (v:Value):(rowC n k c).setIfInBounds (i*k+j) v=rowC n k (updC c i j v):=by
 have hk:0<k:=(by omega)
 apply Array.ext_getElem?
 intro x;rw[Array.getElem?_setIfInBounds];by_cases hx:x<n*k
 ·have ex:x=(x/k)*k+x%k:=(by rw[Nat.mul_comm];exact(Nat.div_add_mod x k).symm)
  have h4:x%k<k:=Nat.mod_lt _ hk;have hq:x/k<n:=div_lt_of hk hx;have e1:=rowC_get (updC c i j v) hq h4;have e2:=rowC_get c hq h4;rw[←ex] at e1 e2;rw[e1,e2];by_cases q:i*k+j=x
  ·obtain⟨d1,d2⟩:=div_of (i:=i) hj;rw[if_pos q,if_pos (by rw[rowC_size];omega)];unfold updC;rw[if_pos ⟨by rw[←q];exact d1,by rw[←q];exact d2⟩]
  ·rw[if_neg q];unfold updC;rw[if_neg (fun p=>q (by rw[←p.1,←p.2];exact ex.symm))]
 ·have hs:=rowC_size n k c;have hs2:=rowC_size n k (updC c i j v);have hl:=mul_add_lt hi hj;rw[if_neg (by omega),Array.getElem?_eq_none (by omega),Array.getElem?_eq_none (by omega)]
theorem rowC_congr {n k:Nat}{c d:Nat→Nat→Value}(h:∀i,i<n→c i=d i):rowC n k c=rowC n k d:=by
 unfold rowC;rw[cellsL_congr n k c d h]
theorem rC2 {n k:Nat}{c d:Nat→Nat→Value}(h:∀i,i<n→∀j,j<k→c i j=d i j):rowC n k c=rowC n k d:=by
 unfold rowC cellsL;congr 1
 apply List.map_congr_left
 intro x hx;have hx:x<n*k:=(by simpa using hx)
 have hk:0<k:=by
  rcases Nat.eq_zero_or_pos k with e | e
  ·subst e;omega
  ·exact e
 exact h _ (div_lt_of hk hx) _ (Nat.mod_lt _ hk)
section
variable {w:World}{g n k:Nat}{c:Nat→Nat→Value}{ty:TypeId}
theorem rowC_cell (h:w.heap[g]?=some (.cells (rowC n k c) ty (0,0))) {i j:Nat}(hi:i<n) (hj:j<k):w.cell? ⟨g,i*k+j,none⟩=some (c i j):=by
 have:=rowC_get c hi hj;simp only[World.cell?,h];simpa using this
theorem rowC_crow (h:w.heap[g]?=some (.cells (rowC n k c) ty (0,0))):CRow w (some ⟨g,0,none⟩) n n k c :=
 ⟨Nat.le_refl _,fun _=>⟨g,0,rfl,(gSm.1 h).1,fun i hi j hj=>by rw[Nat.zero_add];exact rowC_cell h hi hj⟩⟩
theorem rowC_set (h:w.heap[g]?=some (.cells (rowC n k c) ty (0,0))) {i j:Nat}(hi:i<n) (hj:j<k) (v:Value):(w.setCell ⟨g,i*k+j,none⟩ v).heap[g]?=some (.cells (rowC n k (updC c i j v)) ty (0,0)):=by
 rw[heap_setCell_same _ _ _ _ _ _ h,rowC_put c hi hj]
end
theorem made_rowC (z:Array Value) (k n:Nat) (hk:0<k) (hz:z.size=k):madeCells z (n*k)=rowC n k (fun _ j=>z.getD j undef):=by
 apply Array.ext_getElem?
 intro i;by_cases h:i<n*k
 ·have ei:i=(i/k)*k+i%k:=(by rw[Nat.mul_comm];exact(Nat.div_add_mod i k).symm)
  have h4:i%k<k:=Nat.mod_lt _ hk;have e:=rowC_get (fun _ j=>z.getD j undef) (div_lt_of hk h) h4;rw[←ei] at e;rw[e];have hlt:i%k<z.size:=(by omega)
  simp[madeCells,h,hz];rw[getElem!_pos z (i%k) hlt];simp[hlt]
 ·rw[Array.getElem?_eq_none (by simp[madeCells];omega),Array.getElem?_eq_none (by rw[rowC_size];omega)]
theorem make_rowC (w:World) (t e:TypeId) (z:Value) (k bytes n:Nat) (ht:Tryz.prog.underlying t=some (.slice e)) (hinfo:(Tryz.prog.info? e).map (fun i=>(i.zero,i.size,i.bytes))=some (some z,k,bytes)) (hk:0<k) (hz:z.cells.size=k) (hn:n≤1000) (hb:bytes≤1000) :
  (Instr.makeSlice t (.int .i64 (n:Int)) (.int .i64 (n:Int))).run Tryz.prog w=.ok (.slice (some ⟨w.heap.size,0,none⟩) n n) (w.alloc (.cells (rowC n k (fun _ j=>z.cells.getD j undef)) e)):=by
 obtain⟨i0,hi,hz0,hz1,hz2⟩:=info_parts hinfo;have hm:(bytes:Int)*(n:Int)≤281474976710656:=by
  have h1:bytes*n≤1000*1000:=Nat.mul_le_mul hb hn;have h2:((bytes*n:Nat):Int)≤1000000:=(by omega)
  rw[Int.natCast_mul] at h2;omega
 have h:=run_make (P:=Tryz.prog) w t e i0 z ht hi hz0 .i64 .i64 (n:Int) (n:Int) (by omega) (Int.le_refl _) (by rw[hz2];exact hm) (by omega);rw[hz1,Int.toNat_natCast,made_rowC _ k n hk hz] at h;exact h
theorem make_rowD (w:World) (t e:TypeId) (z:Value) (k bytes n:Nat) (ht:Tryz.prog.underlying t=some (.slice e)) (hinfo:(Tryz.prog.info? e).map (fun i=>(i.zero,i.size,i.bytes))=some (some z,k,bytes)) (hk:0<k) (hz:z.cells.size=k) (hn:n≤1000) (hb:bytes≤1000) (d:Nat→Nat→Value) (hd:∀i j,j<k→z.cells.getD j undef=d i j) :
  (Instr.makeSlice t (.int .i64 (n:Int)) (.int .i64 (n:Int))).run Tryz.prog w=.ok (.slice (some ⟨w.heap.size,0,none⟩) n n) (w.alloc (.cells (rowC n k d) e)):=by
 have:=make_rowC w t e z k bytes n ht hinfo hk hz hn hb;rw[rC2 (d:=d) (fun i _ j hj=>hd i j hj)] at this;exact this
end
section
open Go.RowKit
open Pl (Br Net Pc Lk En)
theorem lF0 {w:World}{g:Nat}{A:Array Value}{ty:TypeId}(h:w.heap[g]?=some (.cells A ty (0,0))) (j:Nat):w.frozen? ⟨g,j,none⟩=false:=frozen_of_row _ _ _ _ _ h
structure Pl.Br.Fine (b:Br):Prop where
 addr:0≤b.addr∧b.addr≤281474976710655
 few:b.pn≤16
 prio:∀i,i<b.pn→0≤b.pv i∧b.pv i≤61440
 reg:b.reg.ok
theorem pident_any (b:Br) (tree:Int) (w:World) (hb:b.at' w) (hf:b.Fine) :
  Calls Tryz.prog 32 #[.agg (brA b),.int .i64 tree] w fun e w'=>e=.returned (.int .u64 (b.id tree))∧Bl w w':=by
 obtain⟨hp,_,_,_⟩:=hb;obtain⟨ha,hfew,hpr,_⟩:=hf;have HW:Hid (∀W,Calls Tryz.prog 30 #[.int .i64 tree,.int .i64 0,.int .i64 ((b.pn:Int)-1)] W fun e w'=>e=.returned (.bool (decide (0≤tree∧tree≤(b.pn:Int)-1)))∧w'=W):=fun W=>gwithin_any _ _ _ W;have wk:IntKind.i64.wrap ((b.pn:Int)-1)=(b.pn:Int)-1:=(by rw[IntKind.wrap_i64];omega)
 have hX:=heap_alloc_last w (.cells (brA b) 74);have hpx:IRow (w.alloc (.cells (brA b) 74)) b.pao b.pn b.pcap b.pv:=CRow.below hp (bA1 _ _);unfold Pl.Br.id Pl.Br.prio;obtain⟨addr,pao,pn,pcap,pv,⟨s,rev,ao,n,cap,vs,ts⟩⟩:=b;simp only[brA] at *;obtain⟨q0,q1,q2,q3,q4⟩:=br_cells hX;have shl:∀p:Int,0≤p→p≤61440→IntKind.u64.wrap (p*281474976710656+addr)=p*281474976710656+addr:=fun p h1 h2=>wraps_u64 _ (by omega) (by omega);by_cases h:0≤tree∧tree≤(pn:Int)-1
 ·rw[if_pos h];rw[decide_eq_true h] at HW;obtain⟨t,rfl⟩:∃t:Nat,tree=t:=⟨tree.toNat,by omega⟩
  have ht:t<pn:=(by omega)
  rw[Int.toNat_natCast];obtain⟨pb,poff,rfl,_⟩:=CRow.some hpx (by omega);have hcap:=hpx.1;have c0:=IRow.cells hpx ht;obtain⟨p0,p1⟩:=hpr t ht;have HS:=shl (pv t) p0 p1;have w1:IntKind.u64.wrap (pv t)=pv t:=wraps_u64 _ (by omega) (by omega);have w2:IntKind.u64.wrap (pv t*281474976710656)=pv t*281474976710656:=wraps_u64 _ (by omega) (by omega);have i0:(0:Int)≤(t:Int):=(by omega)
  have i1:(t:Int)<(pn:Int):=(by omega)
  generalize pv t=p at *;clear hpx hp hpr shl hX;go_enter Tryz.func32,Tryz.ntmps32;go_wp2_with (go_at_call 30;refine(HW.out _).mono ?_;rintro e w1 ⟨rfl,rfl⟩)
  go_ret;exact⟨rfl,bA1 _ _⟩
 ·rw[if_neg h];rw[decide_eq_false h] at HW;have HS:=shl 32768 (by omega) (by omega);clear hpx hp hpr shl hX;go_enter Tryz.func32,Tryz.ntmps32;go_wp2_with (go_at_call 30;refine(HW.out _).mono ?_;rintro e w1 ⟨rfl,rfl⟩)
  go_ret;exact⟨rfl,bA1 _ _⟩
theorem infoBytes:(Tryz.prog.info? 126).map (fun i=>(i.zero,i.size,i.bytes))=some (some (.slice none 0 0),1,24):=by kernel_rfl
def IdsAt (w:World) (g K:Nat) (bs:Nat→Br) (v:Nat→Value) (k:Nat):Prop :=
 w.heap[g]?=some (.cells (rowC K 1 (fun i _=>v i)) 126)∧∀i,i<k→∃b off rc,v i=.slice (some ⟨b,off,none⟩) 50 rc∧ByteRow w (some ⟨b,off,none⟩) 50 rc (bs i).reg.id∧b≠g
theorem IdsAt.below {w w':World}{g K:Nat}{bs:Nat→Br}{v:Nat→Value}{k:Nat}(h:IdsAt w g K bs v k) (hb:Bl w w'):IdsAt w' g K bs v k :=
 ⟨keep h.1 hb,fun i hi=>by
  obtain⟨b,off,rc,e,h1,h2⟩:=h.2 i hi;exact⟨b,off,rc,e,h1.below hb,h2⟩⟩
theorem byteRow_other {w w':World}{ao:Option Addr}{n cap:Nat}{f:Nat→Int}(h:ByteRow w ao n cap f) (e:∀b off,ao=some ⟨b,off,none⟩→b<w.heap.size→w'.heap[b]?=w.heap[b]?) (hs:w.heap.size≤w'.heap.size):ByteRow w' ao n cap f:=by
 refine⟨h.1,fun hp => ?_⟩;obtain⟨b,off,e1,hlt,hc⟩:=h.2 hp;exact⟨b,off,e1,Nat.lt_of_lt_of_le hlt hs,fun i hi=>(World.cell?_of_block (w:=w) (e b off e1 hlt)).trans (hc i hi)⟩
theorem pidents_any (ao:Option Addr) (K cap:Nat) (bs:Nat→Br) (w:World) (hK:K≤12) (hr:BRow w ao K cap bs) (hb:∀i,i<K→(bs i).at' w) (hf:∀i,i<K→(bs i).Fine) (ht:Tabs w) (hbt:2≤w.heap.size) :
  Calls Tryz.prog 72 #[.slice ao K cap] w fun e w'=>∃v,e=.returned (.slice (some ⟨w.heap.size,0,none⟩) K K)∧IdsAt w' w.heap.size K bs v K∧Bl w w':=by
 have HRW:Hid (∀W,Bl w W→BRow W ao K cap bs∧(∀i,i<K→(bs i).at' W)∧Tabs W):=fun W hW=>⟨CRow.below hr hW,fun i hi=>(hb i hi).below hW,ht.below hW hbt⟩
 have HFI:Hid (∀i,i<K→(bs i).Fine):=hf;have hcap:=hr.1;have hmk:∀W:World,(Instr.makeSlice 125 (.int .i64 (K:Int)) (.int .i64 (K:Int))).run Tryz.prog W=.ok (.slice (some ⟨W.heap.size,0,none⟩) K K) (W.alloc (.cells (rowC K 1 (fun _ _=>.slice none 0 0)) 126)):=fun W=>make_rowD W 125 126 (.slice none 0 0) 1 24 K Tryz.underlying125 infoBytes (by omega) rfl (by omega) (by omega) _ (fun _ j hj=>by rw[show j=0 by omega];rfl);clear hr hb hf ht;obtain⟨G,HG⟩:∃G,Hid (G=w.heap.size):=⟨_,rfl⟩
 have H0:Hid (∃v,IdsAt (w.alloc (.cells (rowC K 1 (fun _ _=>.slice none 0 0)) 126)) G K bs v 0∧Bl w (w.alloc (.cells (rowC K 1 (fun _ _=>.slice none 0 0)) 126))):=⟨fun _=>.slice none 0 0,⟨by rw[HG.out];exact heap_alloc_last _ _,fun i hi=>absurd hi (by omega)⟩,bA1 _ _⟩
 rw[←HG.out];go_enter Tryz.func72,Tryz.ntmps72;(go_wp2_with fail);rw[←HG.out];go_loopw [11] (fun i wr=>∃k:Nat,k≤K∧i=.int .i64 k∧Hid (∃v,IdsAt wr G K bs v k∧Bl w wr)) (fun i _=>K-(intOf i).toNat)
 case atStart=>exact⟨0,by omega,rfl,H0⟩
 case round =>
  obtain⟨k,hk,rfl,hX⟩:=hrel;clear H0;obtain⟨v,hI,hB⟩:=hX.out;by_cases hlt:k<K
  ·obtain⟨b,off,rfl,_⟩:=CRow.some (HRW.out wr hB).1 (by omega);obtain⟨c0,c1,c2,c3,c4⟩:=BRow.cells (HRW.out wr hB).1 hlt;obtain⟨X,HX⟩:∃X,Hid (X=wr.alloc (.cells (brA (bs k)) 74)):=⟨_,rfl⟩
   have hXB:Bl wr X:=(by rw[HX.out];exact bA1 _ _)
   have hX5:X.heap[wr.heap.size]?=some (.cells (brA (bs k)) 74):=(by rw[HX.out];exact heap_alloc_last _ _)
   have hIX:=hI.below hXB;have hBX:Bl w X:=hB.trans (hXB.mono hB.size);obtain⟨d0,d1,d2,d3,d4⟩:=br_cells hX5;have HCL:Hid (Calls Tryz.prog 109 #[.agg #[.string (bs k).reg.s,.int .i64 (bs k).reg.rev,.slice (bs k).reg.ao (bs k).reg.n (bs k).reg.cap]] X fun e w'=>∃ro rc,e=.returned (.slice ro 50 rc)∧w'.cell? ⟨G,k,none⟩=some (v k)∧w'.frozen? ⟨G,k,none⟩=false∧Hid (∃v,IdsAt (w'.setCell ⟨G,k,none⟩ (.slice ro 50 rc)) G K bs v (k+1)∧Bl w (w'.setCell ⟨G,k,none⟩ (.slice ro 50 rc)))):=by
    obtain⟨_,x2,x3⟩:=HRW.out X hBX;refine(gident_reg_new (bs k).reg X (HFI.out k hlt).reg (x2 k hlt).2.1 x3).mono ?_;rintro e w' ⟨ro,rc,rfl,y1,y2,y3⟩;have z1:=hIX.below y2;have hBw:Bl w w':=hBX.trans (y2.mono hBX.size);have e1:(⟨G,k,none⟩:Addr)=⟨G,k*1+0,none⟩:=(by simp)
    have hGlt:G<X.heap.size:=(by have:=(gSm.1 hIX.1).1;exact this)
    obtain⟨rb,roff,er,hrb,_⟩:=y1.2 (by omega);subst er;have hne:rb≠G:=(by have:=y3 _ rfl;simp only at this;omega)
    refine⟨_,rc,rfl,?_,?_,fun i=>if i=k then .slice (some ⟨rb,roff,none⟩) 50 rc else v i,⟨?_,fun i hi => ?_⟩,hBw.setCell (by rw[HG.out];exact Nat.le_refl _) _⟩
    ·rw[e1];exact rowC_cell z1.1 hlt (by omega)
    ·exact lF0 z1.1 _
    ·rw[e1,rowC_set z1.1 hlt (by omega),rC2 (d:=fun i _=>if i=k then .slice (some ⟨rb,roff,none⟩) 50 rc else v i) (fun i _ j hj=>by
      unfold updC;by_cases q:i=k
      ·rw[if_pos ⟨q,by omega⟩,if_pos q]
      ·rw[if_neg (fun p=>q p.1),if_neg q])]
    ·have oth:∀b,b≠G→(w'.setCell ⟨G,k,none⟩ (.slice (some ⟨rb,roff,none⟩) 50 rc)).heap[b]?=w'.heap[b]?:=fun b hb=>heap_setCell_other _ _ _ _ (by exact hb);by_cases q:i=k
     ·subst q;exact⟨rb,roff,rc,if_pos rfl,byteRow_other y1 (fun b off e _=>by cases e;exact oth _ hne) (by simp),hne⟩
     ·obtain⟨b1,off1,rc1,q1,q2,q3⟩:=z1.2 i (by omega);exact⟨b1,off1,rc1,by simp only;rw[if_neg q];exact q1,byteRow_other q2 (fun b off e _=>by cases e;exact oth _ q3) (by simp),q3⟩
   clear hX hI hB hIX hBX hXB hX5 HRW HFI;simp only[brA] at *;generalize (bs k).reg.s=s at *;have i0:(0:Int)≤(k:Int):=(by omega)
   have i1:(k:Int)<(K:Int):=(by omega)
   (go_wp2_with fail);rw[←HX.out];refine HCL.out.mono ?_;rintro e w1 ⟨ro,rc,rfl,k1,k2,HN⟩;clear HCL;(go_wp2_with fail);exact⟨⟨k+1,by omega,by go_num,HN⟩,by simp[intOf];omega⟩
  ·obtain rfl:k=K:=by omega
   (go_wp2_with fail);go_ret;exact⟨v,rfl,hI,hB⟩
end
section
open Go.RowKit
section
variable {P:Program}{ops:Array Oper}{Q:Exit→Act→World→Prop}{md:Region.Mode}{S:World→Prop}
theorem held_take {i:Nat}{oi:Oper}{v:Value}(d:Option Tmp) {fuel:Nat}{listed:Array Bool}{a:Act}{w:World}(hi:ops[i]?=some oi) (hd:oi.dst=d)
  (hs:Region.noSelect ops=true) (hf:Region.free md ops listed i=true) (hr:(Region.ready md ops listed).contains i=true)
  (hQ:∀c a w,Q (.panic c) (a.put d v) w→Q (.panic c) a w) (hw:Region.wanted oi (yielded ops a.tmps)=true) (hy:∀w,S w→(execOp a.eval oi).run P w=.ok (.value v) w) (hS:S w)
  (h:wpAnyH P md ops Q S fuel (listed.setIfInBounds i true) (a.put d v) w):wpAnyH P md ops Q S (fuel+1) listed a w:=by
 subst hd;exact wpAnyH_take hi hs hf hr hQ (Or.inl ⟨hw,hy⟩) hS h
theorem held_skip {i:Nat}{oi:Oper}(d:Option Tmp) {fuel:Nat}{listed:Array Bool}{a:Act}{w:World}(hi:ops[i]?=some oi) (hd:oi.dst=d)
  (hs:Region.noSelect ops=true) (hf:Region.free md ops listed i=true) (hr:(Region.ready md ops listed).contains i=true)
  (hQ:∀c a w,Q (.panic c) (a.put d undef) w→Q (.panic c) a w) (hw:Region.wanted oi (yielded ops a.tmps)=false) (hS:S w)
  (h:wpAnyH P md ops Q S fuel (listed.setIfInBounds i true) (a.put d undef) w):wpAnyH P md ops Q S (fuel+1) listed a w:=by
 subst hd;exact wpAnyH_take hi hs hf hr hQ (Or.inr ⟨hw,rfl⟩) hS h
end
def sg (a b:Int):Int:=if a<b then -1 else if b<a then 1 else 0
theorem ccmpu_any (a b:Int) (w:World):Calls Tryz.prog 146 #[.int .u64 a,.int .u64 b] w fun e w'=>e=.returned (.int .i64 (sg a b))∧w'=w:=by
 unfold sg;by_cases h1:a<b
 ·rw[if_pos h1];go_enter Tryz.func146,Tryz.ntmps146;go_wp2
  go_ret;exact⟨rfl,rfl⟩
 ·rw[if_neg h1];by_cases h2:b<a
  ·rw[if_pos h2];go_enter Tryz.func146,Tryz.ntmps146;go_wp2
   go_ret;exact⟨rfl,rfl⟩
  ·rw[if_neg h2];go_enter Tryz.func146,Tryz.ntmps146;go_wp2
   go_ret;exact⟨rfl,rfl⟩
theorem ccmpi_any (a b:Int) (w:World):Calls Tryz.prog 78 #[.int .i64 a,.int .i64 b] w fun e w'=>e=.returned (.int .i64 (sg a b))∧w'=w:=by
 unfold sg;by_cases h1:a<b
 ·rw[if_pos h1];go_enter Tryz.func78,Tryz.ntmps78;go_wp2
  go_ret;exact⟨rfl,rfl⟩
 ·rw[if_neg h1];by_cases h2:b<a
  ·rw[if_pos h2];go_enter Tryz.func78,Tryz.ntmps78;go_wp2
   go_ret;exact⟨rfl,rfl⟩
  ·rw[if_neg h2];go_enter Tryz.func78,Tryz.ntmps78;go_wp2
   go_ret;exact⟨rfl,rfl⟩
theorem vwithin_any (n l m:Int) (w:World) :
  Calls Tryz.prog 30 #[.int .i64 n,.int .i64 l,.int .i64 m] w fun e w'=>e=.returned (.bool (decide (l≤n∧n≤m)))∧w'=w:=by
 by_cases h1:l≤n<;>by_cases h2:n≤m
 all_goals
  go_enter Tryz.func30,Tryz.ntmps30;go_wp2
  go_ret;exact⟨by simp[h1,h2],rfl⟩
def orTo (f:Nat→Int):Nat→Int
 | 0=>0
 | k+1=>if orTo f k=0 then f k else orTo f k
theorem orTo_stay (f:Nat→Int) (k:Nat) (h0:orTo f k=0) (h:f k≠0):∀n,k<n→orTo f n=f k
 | 0,hn=>by omega
 | n+1,hn=>by
  simp only[orTo];by_cases e:k=n
  ·subst e;rw[if_pos h0]
  ·rw[orTo_stay f k h0 h n (by omega),if_neg h]
theorem cor_any (b off n cap:Nat) (f:Nat→Int) (w:World) (hn:n≤9223372036854775807) (hcap:n≤cap) (hf:∀i,i<n→w.cell? ⟨b,off+i,none⟩=some (.int .i64 (f i))) :
  Calls Tryz.prog 119 #[.slice (some ⟨b,off,none⟩) n cap] w fun e w'=>e=.returned (.int .i64 (orTo f n))∧w'=w:=by
 have HF:Hid (∀i,i<n→w.cell? ⟨b,off+i,none⟩=some (.int .i64 (f i))):=hf;clear hf;go_enter Tryz.func119,Tryz.ntmps119;(go_wp2_with fail);go_loopw [8] (fun i wr=>∃k:Nat,k≤n∧i=.int .i64 k∧Hid (orTo f k=0)∧wr=w) (fun i _=>n-(intOf i).toNat)
 case atStart=>exact⟨0,by omega,rfl,rfl,rfl⟩
 case round =>
  obtain⟨k,hk,rfl,hS,rfl⟩:=hrel;by_cases hlt:k<n
  ·have c0:=HF.out k hlt;by_cases h0:f k=0
   ·have d0:(f k != 0)=false:=(by simp[h0])
    have HS2:Hid (orTo f (k+1)=0):=by show(if orTo f k=0 then f k else orTo f k)=0;rw[if_pos hS.out,h0]
    clear HF hS;(go_wp2_with fail);exact⟨⟨k+1,by omega,by go_num,HS2,trivial⟩,by simp[intOf];omega⟩
   ·have d0:(f k != 0)=true:=(by simp[h0])
    have HS2:Hid (orTo f n=f k):=orTo_stay f k hS.out h0 n hlt;clear HF hS h0;(go_wp2_with fail);go_ret;exact⟨by rw[HS2.out];rfl,rfl⟩
  ·obtain rfl:k=n:=by omega
   clear HF;(go_wp2_with fail);go_ret;exact⟨by rw[hS.out];rfl,rfl⟩
theorem sg_zero {a b:Int}:sg a b=0↔a=b:=by
 unfold sg;by_cases h:a<b
 ·rw[if_pos h];omega
 ·rw[if_neg h];by_cases k:b<a
  ·rw[if_pos k];omega
  ·rw[if_neg k];omega
end
section
open Go.RowKit
open Vc (V Of)
def sg4 (a b:V) (i:Nat):Int:=if i=0 then sg a.root b.root else if i=1 then sg a.cost b.cost else if i=2 then sg a.bridge b.bridge else sg a.port b.port
theorem orTo_sg4 (a b:V):orTo (sg4 a b) 4=Vc.cmp a b:=by
 have e:orTo (sg4 a b) 4=if sg a.root b.root=0 then(if sg a.cost b.cost=0 then(if sg a.bridge b.bridge=0 then sg a.port b.port else sg a.bridge b.bridge) else sg a.cost b.cost) else sg a.root b.root:=by
  have e1:orTo (sg4 a b) 1=sg a.root b.root:=(by simp[orTo,sg4])
  have e2:orTo (sg4 a b) 2=if sg a.root b.root=0 then sg a.cost b.cost else sg a.root b.root:=by
   show(if orTo (sg4 a b) 1=0 then sg4 a b 1 else orTo (sg4 a b) 1)=_;rw[e1];rfl
  have e3:orTo (sg4 a b) 3=if sg a.root b.root=0 then(if sg a.cost b.cost=0 then sg a.bridge b.bridge else sg a.cost b.cost) else sg a.root b.root:=by
   show(if orTo (sg4 a b) 2=0 then sg4 a b 2 else orTo (sg4 a b) 2)=_;rw[e2];by_cases h:sg a.root b.root=0
   ·rw[if_pos h,if_pos h];rfl
   ·rw[if_neg h,if_neg h,if_neg h]
  show(if orTo (sg4 a b) 3=0 then sg4 a b 3 else orTo (sg4 a b) 3)=_;rw[e3];by_cases h:sg a.root b.root=0
  ·rw[if_pos h,if_pos h];by_cases h2:sg a.cost b.cost=0
   ·rw[if_pos h2,if_pos h2];rfl
   ·rw[if_neg h2,if_neg h2,if_neg h2]
  ·rw[if_neg h,if_neg h,if_neg h]
 rw[e];simp only[sg_zero];have L:Vc.lt a b→Vc.cmp a b = -1:=fun h=>if_pos h;have G:Vc.lt b a→Vc.cmp a b=1:=fun h=>by unfold Vc.cmp;rw[if_neg (Vc.lt_asymm h),if_pos h]
 have Z:a=b→Vc.cmp a b=0:=fun h=>Vc.cmp_zero.2 h;unfold sg;by_cases h0:a.root=b.root
 ·rw[if_pos h0];by_cases h1:a.cost=b.cost
  ·rw[if_pos h1];by_cases h2:a.bridge=b.bridge
   ·rw[if_pos h2];by_cases h3:a.port<b.port
    ·rw[if_pos h3,L (by unfold Vc.lt;omega)]
    ·rw[if_neg h3];by_cases h4:b.port<a.port
     ·rw[if_pos h4,G (by unfold Vc.lt;omega)]
     ·rw[if_neg h4,Z (Vc.V.eq h0 h1 h2 (by omega))]
   ·rw[if_neg h2];by_cases h3:a.bridge<b.bridge
    ·rw[if_pos h3,L (by unfold Vc.lt;omega)]
    ·rw[if_neg h3,if_pos (by omega),G (by unfold Vc.lt;omega)]
  ·rw[if_neg h1];by_cases h3:a.cost<b.cost
   ·rw[if_pos h3,L (by unfold Vc.lt;omega)]
   ·rw[if_neg h3,if_pos (by omega),G (by unfold Vc.lt;omega)]
 ·rw[if_neg h0];by_cases h3:a.root<b.root
  ·rw[if_pos h3,L (by unfold Vc.lt;omega)]
  ·rw[if_neg h3,if_pos (by omega),G (by unfold Vc.lt;omega)]
end
section
namespace Ec
open Pl (En)
def lt (a b:En):Prop:=a.port<b.port
instance (a b:En):Decidable (lt a b):=by unfold lt;infer_instance
theorem lt_irrefl (a:En):¬lt a a:=by unfold lt;omega
theorem lt_asymm {a b:En}(h:lt a b):¬lt b a:=by unfold lt at *;omega
theorem not_lt_trans {a b c:En}(h:¬lt b a) (k:¬lt c b):¬lt c a:=by unfold lt at *;omega
def listOf (n:Nat) (f:Nat→En):List En:=(List.range n).map f
def swp (f:Nat→En) (i j:Nat) (x:Nat):En:=if x=i then f j else if x=j then f i else f x
theorem swp_perm (f:Nat→En) (i j n:Nat) (hi:i<n) (hj:j<n):(listOf n (swp f i j)).Perm (listOf n f):=by
 have hs:(listOf n f).toArray.size=n:=(by simp[listOf])
 have h:=Array.swap_perm (xs:=(listOf n f).toArray) (i:=i) (j:=j) (by rw[hs];exact hi) (by rw[hs];exact hj);have h2:=Array.perm_iff_toList_perm.1 h;refine List.Perm.trans (List.Perm.of_eq ?_) h2;apply List.ext_getElem
 ·simp[listOf]
 ·intro x h3 h4;conv=>rhs;rw[Array.getElem_toList,Array.getElem_swap]
  simp only[listOf,List.getElem_toArray,List.getElem_map,List.getElem_range,swp]
inductive Pm (a b:Nat) (f:Nat→En):(Nat→En)→Prop
 | refl:Pm a b f f
 | swap {g:Nat→En}(i j:Nat) (hi:a≤i∧i<b) (hj:a≤j∧j<b) (h:Pm a b f g):Pm a b f (swp g i j)
theorem Pm.trans {a b:Nat}{f g h:Nat→En}(p:Pm a b f g) (q:Pm a b g h):Pm a b f h:=by
 induction q with
 | refl=>exact p
 | swap i j hi hj _ ih=>exact Pm.swap i j hi hj ih
theorem Pm.mono {a b c d:Nat}{f g:Nat→En}(p:Pm a b f g) (h1:c≤a) (h2:b≤d):Pm c d f g:=by
 induction p with
 | refl=>exact Pm.refl
 | swap i j hi hj _ ih=>exact Pm.swap i j ⟨by omega,by omega⟩ ⟨by omega,by omega⟩ ih
theorem Pm.out {a b:Nat}{f g:Nat→En}(p:Pm a b f g):∀x,x<a∨b≤x→g x=f x:=by
 induction p with
 | refl=>intro x _;rfl
 | swap i j hi hj _ ih =>
  intro x hx;unfold swp;rw[if_neg (by omega),if_neg (by omega)];exact ih x hx
theorem Pm.comes {a b:Nat}{f g:Nat→En}(p:Pm a b f g):∀x,a≤x→x<b→∃y,a≤y∧y<b∧g x=f y:=by
 induction p with
 | refl=>intro x h1 h2;exact⟨x,h1,h2,rfl⟩
 | swap i j hi hj _ ih =>
  intro x h1 h2;unfold swp;by_cases e:x=i
  ·rw[if_pos e];exact ih j hj.1 hj.2
  ·rw[if_neg e];by_cases e2:x=j
   ·rw[if_pos e2];exact ih i hi.1 hi.2
   ·rw[if_neg e2];exact ih x h1 h2
theorem Pm.perm {a b:Nat}{f g:Nat→En}(p:Pm a b f g) (n:Nat) (h:b≤n):(listOf n g).Perm (listOf n f):=by
 induction p with
 | refl=>exact List.Perm.refl _
 | swap i j hi hj _ ih=>exact(swp_perm _ i j n (by omega) (by omega)).trans ih
def SIn (a b:Nat) (f:Nat→En):Prop:=∀i j,a≤i→i<j→j<b→¬lt (f j) (f i)
theorem SIn.sub {a b c d:Nat}{f:Nat→En}(h:SIn a b f) (h1:a≤c) (h2:d≤b):SIn c d f:=fun i j hi hij hj=>h i j (by omega) hij (by omega)
theorem SIn.congr {a b:Nat}{f g:Nat→En}(h:SIn a b f) (e:∀x,a≤x→x<b→g x=f x):SIn a b g:=fun i j hi hij hj=>by
 rw[e i (by omega) (by omega),e j (by omega) (by omega)];exact h i j hi hij hj
theorem SIn.short {a b:Nat}(f:Nat→En) (h:b≤a+1):SIn a b f:=fun i j hi hij hj=>by omega
def Ins (a i j:Nat) (g:Nat→En):Prop:=(∀p q,a≤p→p<q→q≤i→p≠j→q≠j→¬lt (g q) (g p))∧∀q,j<q→q≤i→¬lt (g q) (g j)
theorem Ins.start {a i:Nat}{g:Nat→En}(h:SIn a i g):Ins a i i g:=⟨fun p q hp hpq hq _ hqi=>h p q hp hpq (by omega),fun q h1 h2=>by omega⟩
theorem Ins.step {a i j:Nat}{g:Nat→En}(h:Ins a i j g) (hj:a<j) (hi:j≤i) (hl:lt (g j) (g (j-1))):Ins a i (j-1) (swp g j (j-1)):=by
 obtain⟨h1,h2⟩:=h;have e1:swp g j (j-1) j=g (j-1):=if_pos rfl;have e2:swp g j (j-1) (j-1)=g j:=(by unfold swp;rw[if_neg (by omega),if_pos rfl])
 have e3:∀x,x≠j→x≠j-1→swp g j (j-1) x=g x:=fun x q1 q2=>by unfold swp;rw[if_neg q1,if_neg q2]
 refine⟨fun p q hp hpq hq np nq => ?_,fun q q1 q2 => ?_⟩
 ·by_cases c:q=j
  ·subst c;rw[e1,e3 p (by omega) np];exact h1 p (q-1) hp (by omega) (by omega) (by omega) (by omega)
  ·rw[e3 q c nq];by_cases c2:p=j
   ·subst c2;rw[e1];exact h1 (p-1) q (by omega) (by omega) hq (by omega) c
   ·rw[e3 p c2 np];exact h1 p q hp hpq hq c2 c
 ·rw[e2];by_cases c:q=j
  ·subst c;rw[e1];exact lt_asymm hl
  ·rw[e3 q c (by omega)];exact h2 q (by omega) q2
theorem Ins.done {a i j:Nat}{g:Nat→En}(h:Ins a i j g) (hj:a≤j) (hi:j≤i) (hl:a<j→¬lt (g j) (g (j-1))):SIn a (i+1) g:=by
 obtain⟨h1,h2⟩:=h;intro p q hp hpq hq;by_cases c:q=j
 ·subst c;have hq1:=hl (by omega);by_cases c2:p=q-1
  ·subst c2;exact hq1
  ·exact not_lt_trans (h1 p (q-1) hp (by omega) (by omega) (by omega) (by omega)) hq1
 ·by_cases c2:p=j
  ·subst c2;exact h2 q hpq (by omega)
  ·exact h1 p q hp hpq (by omega) c2 c
def shL (a k:Nat) (f:Nat→En) (x:Nat):En:=if a≤x∧x<k then f (x+1) else if x=k then f a else f x
theorem shL_start (a:Nat) (f:Nat→En):shL a a f=f:=by
 funext x
 unfold shL;rw[if_neg (by omega)];by_cases e:x=a
 ·rw[if_pos e,e]
 ·rw[if_neg e]
theorem shL_step (a k:Nat) (f:Nat→En) (h:a≤k):swp (shL a k f) k (k+1)=shL a (k+1) f:=by
 funext x
 unfold swp shL;by_cases e:x=k
 ·subst e;rw[if_pos rfl,if_neg (by omega),if_neg (by omega),if_pos (by omega)]
 ·rw[if_neg e];by_cases e2:x=k+1
  ·rw[if_pos e2,if_neg (by omega),if_pos rfl,if_neg (by omega),if_pos e2]
  ·rw[if_neg e2];by_cases e3:a≤x∧x<k
   ·rw[if_pos e3,if_pos (by omega)]
   ·rw[if_neg e3,if_neg e,if_neg (by omega),if_neg e2]
theorem shL_sorted (a i b:Nat) (f:Nat→En) (h:SIn (a+1) b f) (hi:a+1≤i) (hib:i≤b) (h1:∀x,a+1≤x→x<i→lt (f x) (f a)) (h2:∀x,i≤x→x<b→¬lt (f x) (f a)):SIn a b (shL a (i-1) f):=by
 intro p q hp hpq hq;unfold shL;by_cases c1:q<i-1
 ·rw[if_pos (by omega),if_pos (by omega)];exact h _ _ (by omega) (by omega) (by omega)
 ·rw[if_neg (by omega)];by_cases c2:q=i-1
  ·rw[if_pos c2,if_pos (by omega)];exact lt_asymm (h1 _ (by omega) (by omega))
  ·rw[if_neg c2];by_cases c3:p<i-1
   ·rw[if_pos (by omega)];exact h _ _ (by omega) (by omega) (by omega)
   ·rw[if_neg (by omega)];by_cases c4:p=i-1
    ·rw[if_pos c4];exact h2 q (by omega) hq
    ·rw[if_neg c4];exact h _ _ (by omega) (by omega) (by omega)
def shR (m k:Nat) (f:Nat→En) (x:Nat):En:=if k<x∧x≤m then f (x-1) else if x=k then f m else f x
theorem shR_start (m:Nat) (f:Nat→En):shR m m f=f:=by
 funext x
 unfold shR;rw[if_neg (by omega)];by_cases e:x=m
 ·rw[if_pos e,e]
 ·rw[if_neg e]
theorem shR_step (m k:Nat) (f:Nat→En) (h:k≤m) (h0:0<k):swp (shR m k f) k (k-1)=shR m (k-1) f:=by
 funext x
 unfold swp shR;by_cases e:x=k
 ·subst e;rw[if_pos rfl,if_neg (by omega),if_neg (by omega),if_pos (by omega)]
 ·rw[if_neg e];by_cases e2:x=k-1
  ·rw[if_pos e2,if_neg (by omega),if_pos rfl,if_neg (by omega),if_pos e2]
  ·rw[if_neg e2];by_cases e3:k<x∧x≤m
   ·rw[if_pos e3,if_pos (by omega)]
   ·rw[if_neg e3,if_neg e,if_neg (by omega),if_neg e2]
theorem shR_sorted (a i m:Nat) (f:Nat→En) (h:SIn a m f) (hi:a≤i) (him:i≤m) (h1:∀x,a≤x→x<i→¬lt (f m) (f x)) (h2:∀x,i≤x→x<m→lt (f m) (f x)):SIn a (m+1) (shR m i f):=by
 intro p q hp hpq hq;unfold shR;by_cases c1:p<i
 ·rw[if_neg (c:=i<p∧p≤m) (by omega),if_neg (c:=p=i) (by omega)];by_cases c2:q<i
  ·rw[if_neg (by omega),if_neg (by omega)];exact h _ _ hp hpq (by omega)
  ·by_cases c3:q=i
   ·rw[if_neg (by omega),if_pos c3];exact h1 p hp c1
   ·rw[if_pos (by omega)];exact h _ _ hp (by omega) (by omega)
 ·rw[if_pos (c:=i<q∧q≤m) (by omega)];by_cases c2:p=i
  ·rw[if_neg (by omega),if_pos c2];exact lt_asymm (h2 _ (by omega) (by omega))
  ·rw[if_pos (by omega)];exact h _ _ (by omega) (by omega) (by omega)
def swr (a b c:Nat) (f:Nat→En) (x:Nat):En:=if a≤x∧x<a+c then f (x-a+b) else if b≤x∧x<b+c then f (x-b+a) else f x
theorem swr_zero (a b:Nat) (f:Nat→En):swr a b 0 f=f:=by
 funext x;unfold swr;rw[if_neg (by omega),if_neg (by omega)]
theorem swr_step (a b c:Nat) (f:Nat→En) (h:a+(c+1)≤b):swp (swr a b c f) (a+c) (b+c)=swr a b (c+1) f:=by
 funext x
 unfold swp swr;by_cases e:x=a+c
 ·rw[if_pos e,if_neg (by omega),if_neg (by omega),if_pos (by omega)];congr 1;omega
 ·rw[if_neg e];by_cases e2:x=b+c
  ·rw[if_pos e2,if_neg (by omega),if_neg (by omega),if_neg (by omega),if_pos (by omega)];congr 1;omega
  ·rw[if_neg e2];by_cases e3:a≤x∧x<a+c
   ·rw[if_pos e3,if_pos (by omega)]
   ·rw[if_neg e3];by_cases e4:b≤x∧x<b+c
    ·rw[if_pos e4,if_neg (by omega),if_pos (by omega)]
    ·rw[if_neg e4,if_neg (by omega),if_neg (by omega)]
theorem swr_pm (a b:Nat) (f:Nat→En):∀c,a+c≤b→Pm a (b+c) f (swr a b c f)
 | 0,_=>by rw[swr_zero];exact Pm.refl
 | c+1,h=>by
  rw[←swr_step a b c f h];exact Pm.swap _ _ ⟨by omega,by omega⟩ ⟨by omega,by omega⟩ ((swr_pm a b f c (by omega)).mono (Nat.le_refl _) (by omega))
def rot (s m e:Nat) (f:Nat→En) (x:Nat):En:=if s≤x∧x<s+(e-m) then f (x-s+m) else if s+(e-m)≤x∧x<e then f (x-(e-m)) else f x
theorem rot_more (m i j:Nat) (g:Nat→En) (hi:i≤m) (hj:0<j) (h:j<i):rot (m-(i-j)) m (m+j) (swr (m-i) m j g)=rot (m-i) m (m+j) g:=by
 funext x
 unfold rot swr;repeat' split
 all_goals first | rfl | omega | (congr 1;omega)
theorem rot_less (m i j:Nat) (g:Nat→En) (hi:i≤m) (h0:0<i) (h:i<j):rot (m-i) m (m+(j-i)) (swr (m-i) (m+j-i) i g)=rot (m-i) m (m+j) g:=by
 funext x
 unfold rot swr;repeat' split
 all_goals first | rfl | omega | (congr 1;omega)
theorem rot_same (m i:Nat) (g:Nat→En) (hi:i≤m):swr (m-i) m i g=rot (m-i) m (m+i) g:=by
 funext x
 unfold rot swr;repeat' split
 all_goals first | rfl | omega | (congr 1;omega)
theorem rot_none1 (m e:Nat) (f:Nat→En) (h:m≤e):rot m m e f=f:=by
 funext x
 unfold rot;repeat' split
 all_goals first | rfl | omega | (congr 1;omega)
theorem rot_none2 (s m:Nat) (f:Nat→En):rot s m m f=f:=by
 funext x
 unfold rot;repeat' split
 all_goals first | rfl | omega | (congr 1;omega)
theorem rot_parts (a s m e b:Nat) (f:Nat→En) (h0:a≤s) (h1:s≤m) (h2:m≤e) (h3:e≤b) (ha:SIn a m f) (hb:SIn m b f) (hx:a<s→e<b→¬lt (f e) (f (s-1))) (hy:s<m→m<e→lt (f (e-1)) (f s)) :
  SIn a s (rot s m e f)∧SIn s (s+(e-m)) (rot s m e f)∧SIn (s+(e-m)) e (rot s m e f)∧SIn e b (rot s m e f)∧∀x y,a≤x→x<s+(e-m)→s+(e-m)≤y→y<b→¬lt (rot s m e f y) (rot s m e f x):=by
 have e1:∀x,x<s→rot s m e f x=f x:=fun x h=>by unfold rot;rw[if_neg (by omega),if_neg (by omega)]
 have e2:∀x,s≤x→x<s+(e-m)→rot s m e f x=f (x-s+m):=fun x h k=>by unfold rot;rw[if_pos ⟨h,k⟩]
 have e3:∀x,s+(e-m)≤x→x<e→rot s m e f x=f (x-(e-m)):=fun x h k=>by unfold rot;rw[if_neg (by omega),if_pos ⟨h,k⟩]
 have e4:∀x,e≤x→rot s m e f x=f x:=fun x h=>by unfold rot;rw[if_neg (by omega),if_neg (by omega)]
 refine⟨fun i j hi hij hj => ?_,fun i j hi hij hj => ?_,fun i j hi hij hj => ?_,fun i j hi hij hj => ?_,fun x y q1 q2 q3 q4 => ?_⟩
 ·rw[e1 i (by omega),e1 j hj];exact ha i j hi hij (by omega)
 ·rw[e2 i hi (by omega),e2 j (by omega) hj];exact hb _ _ (by omega) (by omega) (by omega)
 ·rw[e3 i hi (by omega),e3 j (by omega) hj];exact ha _ _ (by omega) (by omega) (by omega)
 ·rw[e4 i hi,e4 j (by omega)];exact hb i j (by omega) hij hj
 ·by_cases c1:x<s
  ·rw[e1 x c1];by_cases c2:y<e
   ·rw[e3 y q3 c2];exact ha _ _ q1 (by omega) (by omega)
   ·rw[e4 y (by omega)];have hz:=hx (by omega) (by omega);have u1:¬lt (f (s-1)) (f x):=by
     by_cases c:x=s-1
     ·subst c;exact lt_irrefl _
     ·exact ha _ _ q1 (by omega) (by omega)
    have u2:¬lt (f y) (f e):=by
     by_cases c:y=e
     ·subst c;exact lt_irrefl _
     ·exact hb _ _ (by omega) (by omega) q4
    exact not_lt_trans u1 (not_lt_trans hz u2)
  ·rw[e2 x (by omega) q2];by_cases c2:y<e
   ·rw[e3 y q3 c2];have hz:=hy (by omega) (by omega);have u1:¬lt (f (e-1)) (f (x-s+m)):=by
     by_cases c:x-s+m=e-1
     ·rw[c];exact lt_irrefl _
     ·exact hb _ _ (by omega) (by omega) (by omega)
    have u2:¬lt (f (y-(e-m))) (f s):=by
     by_cases c:y-(e-m)=s
     ·rw[c];exact lt_irrefl _
     ·exact ha _ _ (by omega) (by omega) (by omega)
    exact not_lt_trans u1 (not_lt_trans (lt_asymm hz) u2)
   ·rw[e4 y (by omega)];exact hb _ _ (by omega) (by omega) q4
theorem halves (a d b:Nat) (f g h:Nat→En) (p1:Pm a d f g) (p2:Pm d b g h) (s1:SIn a d g) (s2:SIn d b h) (hc:∀x y,a≤x→x<d→d≤y→y<b→¬lt (f y) (f x)):SIn a b h:=by
 intro i j hi hij hj;by_cases c1:j<d
 ·rw[p2.out i (by omega),p2.out j (by omega)];exact s1 i j hi hij c1
 ·by_cases c2:d≤i
  ·exact s2 i j c2 hij hj
  ·obtain⟨y,y1,y2,ey⟩:=p2.comes j (by omega) hj;obtain⟨x,x1,x2,ex⟩:=p1.comes i hi (by omega);rw[ey,p1.out y (by omega),p2.out i (by omega),ex];exact hc x y x1 x2 y1 y2
end Ec
end
end Go.Proofs.YtaneiffnhphkhaaGreatDoor
