/- walks: cmp.Compare, cmp.Or, number.Within, package vec's Compare and better -/
import Derived.Test.YtflghpnpjmodaaaGreatDoorH01
import Derived.Test.YtflghpnpjmodaaaGreatDoorH04
import Derived.Test.YtflghpnpjmodaaaGreatDoorH02
import Derived.Deep.RegionHeld3
set_option maxRecDepth 100000
set_option maxHeartbeats 40000000
namespace Go.Proofs.YtflghpnpjmodaaaGreatDoor
section
open Go.RowKit
open Vc (V Of)
open Pl (Lk En St)
abbrev IRow (w:World) (ao:Option Addr) (n cap:Nat) (f:Nat→Int):Prop:=CRow w ao n cap 1 (fun i _=>.int .i64 (f i))
theorem IRow.cells {w:World}{b off n cap:Nat}{f:Nat→Int}(h:IRow w (some ⟨b,off,none⟩) n cap f) {i:Nat}(hi:i<n):w.cell? ⟨b,off+i,none⟩=some (.int .i64 (f i)):=by
 obtain⟨b',off',e,_,hc⟩:=h.2 (by omega);cases e
 have:=hc i hi 0 (by omega);rw[Nat.mul_one,Nat.add_zero] at this;exact this
namespace Pl
structure Br where
 addr:Int
 pao:Option Addr
 pn:Nat
 pcap:Nat
 pv:Nat→Int
 reg:Rg.Reg
structure Net where
 bao:Option Addr
 K:Nat
 bcap:Nat
 bs:Nat→Br
 lao:Option Addr
 L:Nat
 lcap:Nat
 ls:Nat→Lk
structure Pc where
 v:V
 rp:Int
 pao:Option Addr
 pn:Nat
 pcap:Nat
 ports:Nat→Int
 rao:Option Addr
 rn:Nat
 rcap:Nat
 roles:Nat→Int
end Pl
open Pl (Br Net Pc)
def brC (b:Br) (j:Nat):Value:=if j=0 then .int .u64 b.addr else if j=1 then .slice b.pao b.pn b.pcap else if j=2 then .string b.reg.s else if j=3 then .int .i64 b.reg.rev else .slice b.reg.ao b.reg.n b.reg.cap
def lkC (l:Lk) (j:Nat):Value:=if j=0 then .int .i64 l.a else if j=1 then .int .i64 l.pa else if j=2 then .int .i64 l.b else if j=3 then .int .i64 l.pb else if j=4 then .int .i64 l.cost else .bool l.up
def enC (e:En) (j:Nat):Value:=if j=0 then .int .i64 e.port else if j=1 then .int .i64 e.cost else if j=2 then .int .i64 e.other else if j=3 then .int .i64 e.oport else .bool e.live
theorem brC_one (b:Br) (j:Nat):(brC b j).oneCell'=true:=by
 unfold brC;repeat' split
 all_goals rfl
theorem lkC_one (l:Lk) (j:Nat):(lkC l j).oneCell'=true:=by
 unfold lkC;repeat' split
 all_goals rfl
abbrev BRow (w:World) (ao:Option Addr) (n cap:Nat) (bs:Nat→Br):Prop:=CRow w ao n cap 5 (fun i=>brC (bs i))
abbrev LRow (w:World) (ao:Option Addr) (n cap:Nat) (ls:Nat→Lk):Prop:=CRow w ao n cap 6 (fun i=>lkC (ls i))
abbrev ERow (w:World) (ao:Option Addr) (n cap:Nat) (es:Nat→En):Prop:=CRow w ao n cap 5 (fun i=>enC (es i))
theorem BRow.cells {w:World}{b off n cap:Nat}{bs:Nat→Br}(h:BRow w (some ⟨b,off,none⟩) n cap bs) {i:Nat}(hi:i<n) :
  w.cell? ⟨b,off+i*5,none⟩=some (.int .u64 (bs i).addr)∧w.cell? ⟨b,off+i*5+1,none⟩=some (.slice (bs i).pao (bs i).pn (bs i).pcap)∧w.cell? ⟨b,off+i*5+2,none⟩=some (.string (bs i).reg.s)∧w.cell? ⟨b,off+i*5+3,none⟩=some (.int .i64 (bs i).reg.rev)∧w.cell? ⟨b,off+i*5+4,none⟩=some (.slice (bs i).reg.ao (bs i).reg.n (bs i).reg.cap):=by
 obtain⟨b',off',e,_,hc⟩:=h.2 (by omega);cases e
 exact⟨hc i hi 0 (by omega),hc i hi 1 (by omega),hc i hi 2 (by omega),hc i hi 3 (by omega),hc i hi 4 (by omega)⟩
theorem LRow.cells {w:World}{b off n cap:Nat}{ls:Nat→Lk}(h:LRow w (some ⟨b,off,none⟩) n cap ls) {i:Nat}(hi:i<n) :
  w.cell? ⟨b,off+i*6,none⟩=some (.int .i64 (ls i).a)∧w.cell? ⟨b,off+i*6+1,none⟩=some (.int .i64 (ls i).pa)∧w.cell? ⟨b,off+i*6+2,none⟩=some (.int .i64 (ls i).b)∧w.cell? ⟨b,off+i*6+3,none⟩=some (.int .i64 (ls i).pb)∧w.cell? ⟨b,off+i*6+4,none⟩=some (.int .i64 (ls i).cost)∧w.cell? ⟨b,off+i*6+5,none⟩=some (.bool (ls i).up):=by
 obtain⟨b',off',e,_,hc⟩:=h.2 (by omega);cases e
 exact⟨hc i hi 0 (by omega),hc i hi 1 (by omega),hc i hi 2 (by omega),hc i hi 3 (by omega),hc i hi 4 (by omega),hc i hi 5 (by omega)⟩
theorem ERow.cells {w:World}{b off n cap:Nat}{es:Nat→En}(h:ERow w (some ⟨b,off,none⟩) n cap es) {i:Nat}(hi:i<n) :
  w.cell? ⟨b,off+i*5,none⟩=some (.int .i64 (es i).port)∧w.cell? ⟨b,off+i*5+1,none⟩=some (.int .i64 (es i).cost)∧w.cell? ⟨b,off+i*5+2,none⟩=some (.int .i64 (es i).other)∧w.cell? ⟨b,off+i*5+3,none⟩=some (.int .i64 (es i).oport)∧w.cell? ⟨b,off+i*5+4,none⟩=some (.bool (es i).live):=by
 obtain⟨b',off',e,_,hc⟩:=h.2 (by omega);cases e
 exact⟨hc i hi 0 (by omega),hc i hi 1 (by omega),hc i hi 2 (by omega),hc i hi 3 (by omega),hc i hi 4 (by omega)⟩
namespace Pl
def Br.at' (b:Br) (w:World):Prop:=IRow w b.pao b.pn b.pcap b.pv∧b.reg.at' w∧b.pn≤9223372036854775807∧b.reg.n≤9223372036854775807
theorem Br.at'.below {b:Br}{w w':World}(h:b.at' w) (hb:Bl w w'):b.at' w':=⟨CRow.below h.1 hb,h.2.1.below hb,h.2.2⟩
structure Net.at' (n:Net) (w:World):Prop where
 brs:BRow w n.bao n.K n.bcap n.bs
 each:∀i,i<n.K→(n.bs i).at' w
 lks:LRow w n.lao n.L n.lcap n.ls
 manyB:n.K≤9223372036854775807
 manyL:n.L≤9223372036854775807
theorem Net.at'.below {n:Net}{w w':World}(h:n.at' w) (hb:Bl w w'):n.at' w':=⟨CRow.below h.brs hb,fun i hi=>(h.each i hi).below hb,CRow.below h.lks hb,h.manyB,h.manyL⟩
def Net.val (n:Net):Value:=.agg #[.slice n.bao n.K n.bcap,.slice n.lao n.L n.lcap]
def brErr (b:Br):Int:=if 281474976710655<b.addr then 3 else if 16<b.pn then 5 else if Vc.someTo (fun i=>oddP (b.pv i)) b.pn=true then 3 else Rg.wrong b.reg.s b.reg.rev b.reg.vs b.reg.ts b.reg.n
def bErr (bs:Nat→Br) (i:Nat):Int:=if brErr (bs i)≠0 then brErr (bs i) else if Vc.someTo (fun j=>decide ((bs j).addr=(bs i).addr)) i=true then 7 else 0
def Net.wrong (n:Net):Int×Int:=if 12<n.K∨40<n.L then(5,0) else if (firstTo (bErr n.bs) n.K).1≠0 then firstTo (bErr n.bs) n.K else firstTo (lErr n.K n.ls) n.L
def Br.prio (b:Br) (tree:Int):Int:=if 0≤tree∧tree≤(b.pn:Int)-1 then b.pv tree.toNat else 32768
def Br.id (b:Br) (tree:Int):Int:=b.prio tree*281474976710656+b.addr
def Net.live (n:Net) (k:Nat):Bool:=(n.ls k).up&&decide (strOf 50 (n.bs (n.ls k).a.toNat).reg.id=strOf 50 (n.bs (n.ls k).b.toNat).reg.id)
def Net.ids (n:Net) (tree:Int) (i:Nat):Int:=(n.bs i).id tree
def Net.ends (n:Net) (i:Nat):List En:=Pl.ends n.ls n.live n.L i
end Pl
end
section
open Go.RowKit
open Pl (Br Net Pc Lk En St)
theorem pisprio_any (p:Int) (w:World) :
  Calls Tryz.prog 140 #[.int .i64 p] w fun e w'=>e=.returned (.bool (!Pl.oddP p))∧w'=w:=by
 have HW:Hid (∀W,Calls Tryz.prog 32 #[.int .i64 p,.int .i64 0,.int .i64 61440] W fun e w'=>e=.returned (.bool (decide (0≤p∧p≤61440)))∧w'=W):=fun W=>gwithin_any p 0 61440 W;unfold Pl.oddP;by_cases h1:0≤p∧p≤61440
 ·rw[decide_eq_true h1] at HW ⊢;have hr:p.tmod 4096=p%4096:=Int.tmod_eq_emod_of_nonneg h1.1;have hw:IntKind.i64.wrap (p%4096)=p%4096:=wraps_i64 _ (by omega) (by omega);by_cases h2:p%4096=0
  ·have hd:(p.tmod 4096 == 0)=true:=(by rw[hr];simp[h2])
   go_enter Tryz.func140,Tryz.ntmps140;go_wp2_with (go_at_call 32;refine(HW.out _).mono ?_;rintro e w1 ⟨rfl,rfl⟩)
   go_ret;exact⟨by simp[h2],rfl⟩
  ·have hd:(p.tmod 4096 == 0)=false:=(by rw[hr];simp[h2])
   go_enter Tryz.func140,Tryz.ntmps140;go_wp2_with (go_at_call 32;refine(HW.out _).mono ?_;rintro e w1 ⟨rfl,rfl⟩)
   go_ret;exact⟨by simp[h2],rfl⟩
 ·rw[decide_eq_false h1] at HW ⊢;go_enter Tryz.func140,Tryz.ntmps140;go_wp2_with (go_at_call 32;refine(HW.out _).mono ?_;rintro e w1 ⟨rfl,rfl⟩)
  go_ret;exact⟨rfl,rfl⟩
theorem podd_any (p:Int) (w:World) :
  Calls Tryz.prog 158 #[.int .i64 p] w fun e w'=>e=.returned (.bool (Pl.oddP p))∧w'=w:=by
 have HW:Hid (∀W,Calls Tryz.prog 140 #[.int .i64 p] W fun e w'=>e=.returned (.bool (!Pl.oddP p))∧w'=W):=fun W=>pisprio_any p W;generalize Pl.oddP p=b at *;go_enter Tryz.func158,Tryz.ntmps158;go_wp2_with (go_at_call 140;refine(HW.out _).mono ?_;rintro e w1 ⟨rfl,rfl⟩)
 go_ret;exact⟨by simp,rfl⟩
theorem pindex_any (ao:Option Addr) (n cap:Nat) (f:Nat→Int) (w:World) (hn:n≤16) (hr:IRow w ao n cap f) :
  Calls Tryz.prog 198 #[.slice ao n cap,.func (.func 158) #[] #[]] w fun e w'=>∃r:Int,e=.returned (.int .i64 r)∧decide (0≤r)=Vc.someTo (fun i=>Pl.oddP (f i)) n∧w'=w:=by
 have HR:Hid (IRow w ao n cap f):=hr;clear hr;go_enter Tryz.func198,Tryz.ntmps198;(go_wp2_with fail);go_loopw [8] (fun i wr=>∃k:Nat,k≤n∧i=.int .i64 k∧Hid (Vc.someTo (fun i=>Pl.oddP (f i)) k=false)∧wr=w) (fun i _=>n-(intOf i).toNat)
 case atStart=>exact⟨0,by omega,rfl,rfl,rfl⟩
 case round =>
  obtain⟨k,hk,rfl,hX,rfl⟩:=hrel;by_cases hlt:k<n
  ·obtain⟨b,off,rfl,hb⟩:=CRow.some HR.out (by omega);have hcap:=HR.out.1;have c4:wr.cell? ⟨b,off+k,none⟩=some (.int .i64 (f k)):=IRow.cells HR.out hlt;have HS1:Hid (Pl.oddP (f k)=true→Vc.someTo (fun i=>Pl.oddP (f i)) n=true):=fun h=>someTo_stay _ k h n hlt;have HS2:Hid (Pl.oddP (f k)=false→Vc.someTo (fun i=>Pl.oddP (f i)) (k+1)=false):=fun h=>by
    show(Vc.someTo _ k||Pl.oddP (f k))=false;rw[h,hX.out];rfl
   clear HR hX;generalize f k=c at *;cases ho:Pl.oddP c with
   | true =>
    have HO:Hid (Pl.oddP c=true):=ho;clear ho;go_wp2_with (go_at_call 158;refine(podd_any _ _).mono ?_;rintro e w1 ⟨rfl,rfl⟩;rw[HO.out])
    go_ret;exact⟨_,rfl,by rw[HS1.out HO.out];simp,rfl⟩
   | false =>
    have HO:Hid (Pl.oddP c=false):=ho;clear ho;go_wp2_with (go_at_call 158;refine(podd_any _ _).mono ?_;rintro e w1 ⟨rfl,rfl⟩;rw[HO.out])
    exact⟨⟨k+1,by omega,by go_num,HS2.out HO.out,trivial⟩,by simp[intOf];omega⟩
  ·obtain rfl:k=n:=by omega
   go_wp2
   go_ret;exact⟨_,rfl,by rw[hX.out];decide,rfl⟩
theorem pcontains_any (ao:Option Addr) (n cap:Nat) (f:Nat→Int) (w:World) (hn:n≤16) (hr:IRow w ao n cap f) :
  Calls Tryz.prog 159 #[.slice ao n cap,.func (.func 158) #[] #[]] w fun e w'=>e=.returned (.bool (Vc.someTo (fun i=>Pl.oddP (f i)) n))∧w'=w:=by
 have HR:Hid (IRow w ao n cap f):=hr;clear hr;go_enter Tryz.func159,Tryz.ntmps159;go_wp2_with (go_at_call 198;refine(pindex_any _ _ _ f _ hn HR.out).mono ?_;rintro e w1 ⟨r,rfl,hq,rfl⟩;have HQ:Hid (decide (0≤r)=Vc.someTo (fun i=>Pl.oddP (f i)) n):=hq;clear hq)
 go_ret;exact⟨by rw[HQ.out];rfl,rfl⟩
theorem br_cells {w:World}{g:Nat}{a0 a1 a2 a3 a4:Value}{ty:TypeId}(h:w.heap[g]?=some (.cells #[a0,a1,a2,a3,a4] ty (0,0))) :
  w.cell? ⟨g,0,none⟩=some a0∧w.cell? ⟨g,1,none⟩=some a1∧w.cell? ⟨g,2,none⟩=some a2∧w.cell? ⟨g,3,none⟩=some a3∧w.cell? ⟨g,4,none⟩=some a4 :=
 ⟨cell_of_row w g 0 _ _ _ h,cell_of_row w g 1 _ _ _ h,cell_of_row w g 2 _ _ _ h,cell_of_row w g 3 _ _ _ h,cell_of_row w g 4 _ _ _ h⟩
def brA (b:Br):Array Value:=#[.int .u64 b.addr,.slice b.pao b.pn b.pcap,.string b.reg.s,.int .i64 b.reg.rev,.slice b.reg.ao b.reg.n b.reg.cap]
theorem pwrongBridge_any (b:Br) (w:World) (hb:b.at' w) :
  Calls Tryz.prog 107 #[.agg (brA b)] w fun e w'=>e=.returned (.int .i64 (Pl.brErr b))∧Bl w w':=by
 obtain⟨hp,hreg,hn1,hn2⟩:=hb;have HX:Hid (∀W,W=w.alloc (.cells (brA b) 58)→b.pn≤16→Calls Tryz.prog 159 #[.slice b.pao b.pn b.pcap,.func (.func 158) #[] #[]] W fun e w'=>e=.returned (.bool (Vc.someTo (fun i=>Pl.oddP (b.pv i)) b.pn))∧w'=W):=fun W hW h=>pcontains_any _ _ _ _ W h (hp.below (by rw[hW];exact bA1 _ _));have HG:Hid (∀W,W=w.alloc (.cells (brA b) 58)→Calls Tryz.prog 144 #[.agg #[.string b.reg.s,.int .i64 b.reg.rev,.slice b.reg.ao b.reg.n b.reg.cap]] W fun e w'=>e=.returned (.int .i64 (Rg.wrong b.reg.s b.reg.rev b.reg.vs b.reg.ts b.reg.n))∧Bl w w'):=fun W hW=>by
  have hbl:Bl w W:=(by rw[hW];exact bA1 _ _)
  refine(gwrong_any b.reg.s b.reg.rev b.reg.ao b.reg.n b.reg.cap b.reg.vs b.reg.ts W hn2 (hreg.below hbl)).mono ?_;rintro e w' ⟨rfl,h2⟩;exact⟨rfl,hbl.trans (h2.mono hbl.size)⟩
 have HA:Hid ((w.alloc (.cells (brA b) 58)).heap[w.heap.size]?=some (.cells (brA b) 58)):=heap_alloc_last _ _;obtain⟨R,HR⟩:∃R,Hid (R=Rg.wrong b.reg.s b.reg.rev b.reg.vs b.reg.ts b.reg.n):=⟨_,rfl⟩
 obtain⟨S,HS⟩:∃S,Hid (S=Vc.someTo (fun i=>Pl.oddP (b.pv i)) b.pn):=⟨_,rfl⟩
 have HE:Hid (Pl.brErr b=if 281474976710655<b.addr then 3 else if 16<b.pn then 5 else if S=true then 3 else R):=(by rw[HR.out,HS.out];rfl)
 rw[←HR.out] at HG;rw[←HS.out] at HX;clear HR HS hp hreg hn2;obtain⟨addr,pao,pn,pcap,pv,⟨s,rev,ao,n,cap,vs,ts⟩⟩:=b;simp only[brA] at *;rw[HE.out];obtain⟨q0,q1,q2,q3,q4⟩:=br_cells HA.out;clear HA HE;by_cases h1:281474976710655<addr
 ·rw[if_pos h1];go_enter Tryz.func107,Tryz.ntmps107;(go_wp2_with fail);go_ret;exact⟨rfl,bA1 _ _⟩
 ·rw[if_neg h1];by_cases h2:16<pn
  ·rw[if_pos h2];go_enter Tryz.func107,Tryz.ntmps107;(go_wp2_with fail);go_ret;exact⟨rfl,bA1 _ _⟩
  ·rw[if_neg h2];cases S with
   | true =>
    rw[if_pos rfl];go_enter Tryz.func107,Tryz.ntmps107;go_wp2_with (go_at_call 159;refine(HX.out _ rfl (by omega)).mono ?_;rintro e w1 ⟨rfl,rfl⟩)
    go_ret;exact⟨rfl,bA1 _ _⟩
   | false =>
    rw[if_neg (by decide)];go_enter Tryz.func107,Tryz.ntmps107;go_wp2_with (first | (go_at_call 159;refine(HX.out _ rfl (by omega)).mono ?_;rintro e w1 ⟨rfl,rfl⟩) | (go_at_call 144;refine(HG.out _ rfl).mono ?_;rintro e w1 ⟨rfl,hb1⟩))
    go_ret;exact⟨rfl,hb1⟩
end
section
open Go.RowKit
def rowC (n k:Nat) (c:Nat→Nat→Value):Array Value:=(cellsL n k c).toArray
theorem rowC_size (n k:Nat) (c:Nat→Nat→Value):(rowC n k c).size=n*k:=by simp[rowC,cellsL]
theorem mul_add_lt {n k i j:Nat}(hi:i<n) (hj:j<k):i*k+j<n*k:=by
 have:(i+1)*k≤n*k:=Nat.mul_le_mul_right k (by omega);rw[Nat.add_mul] at this;omega
theorem div_of {k i j:Nat}(hj:j<k):(i*k+j)/k=i∧(i*k+j)%k=j:=by
 have hk:0<k:=(by omega)
 refine⟨?_,?_⟩
 ·rw[Nat.add_comm,Nat.add_mul_div_right _ _ hk,Nat.div_eq_of_lt hj,Nat.zero_add]
 ·rw[Nat.add_comm,Nat.add_mul_mod_self_right,Nat.mod_eq_of_lt hj]
theorem rowC_get {n k i j:Nat}(c:Nat→Nat→Value) (hi:i<n) (hj:j<k):(rowC n k c)[i*k+j]?=some (c i j):=by
 have h:=mul_add_lt hi hj;simp[rowC,cellsL,h];obtain⟨e1,e2⟩:=div_of (i:=i) hj;first | rw[e1,e2] | rw[e1,Nat.mod_eq_of_lt hj]
def updC (c:Nat→Nat→Value) (i j:Nat) (v:Value):Nat→Nat→Value:=fun i' j'=>if i'=i∧j'=j then v else c i' j'
theorem rowC_put {n k i j:Nat}(c:Nat→Nat→Value) (hi:i<n) (hj:j<k) (v:Value):(rowC n k c).setIfInBounds (i*k+j) v=rowC n k (updC c i j v):=by
 have hk:0<k:=(by omega)
 apply Array.ext_getElem?
 intro x;rw[Array.getElem?_setIfInBounds];by_cases hx:x<n*k
 ·have ex:x=(x/k)*k+x%k:=(by rw[Nat.mul_comm];exact(Nat.div_add_mod x k).symm)
  have h4:x%k<k:=Nat.mod_lt _ hk;have hq:x/k<n:=div_lt_of hk hx;have e1:=rowC_get (updC c i j v) hq h4;have e2:=rowC_get c hq h4;rw[←ex] at e1 e2;rw[e1,e2];by_cases q:i*k+j=x
  ·obtain⟨d1,d2⟩:=div_of (i:=i) hj;rw[if_pos q,if_pos (by rw[rowC_size];omega)];unfold updC;rw[if_pos ⟨by rw[←q];exact d1,by rw[←q];exact d2⟩]
  ·rw[if_neg q];unfold updC;rw[if_neg (fun p=>q (by rw[←p.1,←p.2];exact ex.symm))]
 ·have hs:=rowC_size n k c;have hs2:=rowC_size n k (updC c i j v);have hl:=mul_add_lt hi hj;rw[if_neg (by omega),Array.getElem?_eq_none (by omega),Array.getElem?_eq_none (by omega)]
theorem rowC_congr {n k:Nat}{c d:Nat→Nat→Value}(h:∀i,i<n→c i=d i):rowC n k c=rowC n k d:=by
 unfold rowC;rw[cellsL_congr n k c d h]
theorem rC2 {n k:Nat}{c d:Nat→Nat→Value}(h:∀i,i<n→∀j,j<k→c i j=d i j):rowC n k c=rowC n k d:=by
 unfold rowC cellsL;congr 1
 apply List.map_congr_left
 intro x hx;have hx:x<n*k:=(by simpa using hx)
 have hk:0<k:=by
  rcases Nat.eq_zero_or_pos k with e | e
  ·subst e;omega
  ·exact e
 exact h _ (div_lt_of hk hx) _ (Nat.mod_lt _ hk)
section
variable {w:World}{g n k:Nat}{c:Nat→Nat→Value}{ty:TypeId}
theorem rowC_cell (h:w.heap[g]?=some (.cells (rowC n k c) ty (0,0))) {i j:Nat}(hi:i<n) (hj:j<k):w.cell? ⟨g,i*k+j,none⟩=some (c i j):=by
 have:=rowC_get c hi hj;simp only[World.cell?,h];simpa using this
theorem rowC_crow (h:w.heap[g]?=some (.cells (rowC n k c) ty (0,0))):CRow w (some ⟨g,0,none⟩) n n k c :=
 ⟨Nat.le_refl _,fun _=>⟨g,0,rfl,(gSm.1 h).1,fun i hi j hj=>by rw[Nat.zero_add];exact rowC_cell h hi hj⟩⟩
theorem rowC_set (h:w.heap[g]?=some (.cells (rowC n k c) ty (0,0))) {i j:Nat}(hi:i<n) (hj:j<k) (v:Value):(w.setCell ⟨g,i*k+j,none⟩ v).heap[g]?=some (.cells (rowC n k (updC c i j v)) ty (0,0)):=by
 rw[heap_setCell_same _ _ _ _ _ _ h,rowC_put c hi hj]
end
theorem made_rowC (z:Array Value) (k n:Nat) (hk:0<k) (hz:z.size=k):madeCells z (n*k)=rowC n k (fun _ j=>z.getD j undef):=by
 apply Array.ext_getElem?
 intro i;by_cases h:i<n*k
 ·have ei:i=(i/k)*k+i%k:=(by rw[Nat.mul_comm];exact(Nat.div_add_mod i k).symm)
  have h4:i%k<k:=Nat.mod_lt _ hk;have e:=rowC_get (fun _ j=>z.getD j undef) (div_lt_of hk h) h4;rw[←ei] at e;rw[e];have hlt:i%k<z.size:=(by omega)
  simp[madeCells,h,hz];rw[getElem!_pos z (i%k) hlt];simp[hlt]
 ·rw[Array.getElem?_eq_none (by simp[madeCells];omega),Array.getElem?_eq_none (by rw[rowC_size];omega)]
theorem make_rowC (w:World) (t e:TypeId) (z:Value) (k bytes n:Nat) (ht:Tryz.prog.underlying t=some (.slice e)) (hinfo:(Tryz.prog.info? e).map (fun i=>(i.zero,i.size,i.bytes))=some (some z,k,bytes)) (hk:0<k) (hz:z.cells.size=k) (hn:n≤1000) (hb:bytes≤1000) :
  (Instr.makeSlice t (.int .i64 (n:Int)) (.int .i64 (n:Int))).run Tryz.prog w=.ok (.slice (some ⟨w.heap.size,0,none⟩) n n) (w.alloc (.cells (rowC n k (fun _ j=>z.cells.getD j undef)) e)):=by
 obtain⟨i0,hi,hz0,hz1,hz2⟩:=info_parts hinfo;have hm:(bytes:Int)*(n:Int)≤281474976710656:=by
  have h1:bytes*n≤1000*1000:=Nat.mul_le_mul hb hn;have h2:((bytes*n:Nat):Int)≤1000000:=(by omega)
  rw[Int.natCast_mul] at h2;omega
 have h:=run_make (P:=Tryz.prog) w t e i0 z ht hi hz0 .i64 .i64 (n:Int) (n:Int) (by omega) (Int.le_refl _) (by rw[hz2];exact hm) (by omega);rw[hz1,Int.toNat_natCast,made_rowC _ k n hk hz] at h;exact h
theorem make_rowD (w:World) (t e:TypeId) (z:Value) (k bytes n:Nat) (ht:Tryz.prog.underlying t=some (.slice e)) (hinfo:(Tryz.prog.info? e).map (fun i=>(i.zero,i.size,i.bytes))=some (some z,k,bytes)) (hk:0<k) (hz:z.cells.size=k) (hn:n≤1000) (hb:bytes≤1000) (d:Nat→Nat→Value) (hd:∀i j,j<k→z.cells.getD j undef=d i j) :
  (Instr.makeSlice t (.int .i64 (n:Int)) (.int .i64 (n:Int))).run Tryz.prog w=.ok (.slice (some ⟨w.heap.size,0,none⟩) n n) (w.alloc (.cells (rowC n k d) e)):=by
 have:=make_rowC w t e z k bytes n ht hinfo hk hz hn hb;rw[rC2 (d:=d) (fun i _ j hj=>hd i j hj)] at this;exact this
end
section
open Go.RowKit
open Pl (Br Net Pc Lk En St)
theorem lF0 {w:World}{g:Nat}{A:Array Value}{ty:TypeId}(h:w.heap[g]?=some (.cells A ty (0,0))) (j:Nat):w.frozen? ⟨g,j,none⟩=false:=frozen_of_row _ _ _ _ _ h
structure Pl.Br.Fine (b:Br):Prop where
 addr:0≤b.addr∧b.addr≤281474976710655
 few:b.pn≤16
 prio:∀i,i<b.pn→0≤b.pv i∧b.pv i≤61440
 reg:b.reg.ok
theorem pident_any (b:Br) (tree:Int) (w:World) (hb:b.at' w) (hf:b.Fine) :
  Calls Tryz.prog 17 #[.agg (brA b),.int .i64 tree] w fun e w'=>e=.returned (.int .u64 (b.id tree))∧Bl w w':=by
 obtain⟨hp,_,_,_⟩:=hb;obtain⟨ha,hfew,hpr,_⟩:=hf;have HW:Hid (∀W,Calls Tryz.prog 32 #[.int .i64 tree,.int .i64 0,.int .i64 ((b.pn:Int)-1)] W fun e w'=>e=.returned (.bool (decide (0≤tree∧tree≤(b.pn:Int)-1)))∧w'=W):=fun W=>gwithin_any _ _ _ W;have wk:IntKind.i64.wrap ((b.pn:Int)-1)=(b.pn:Int)-1:=(by rw[IntKind.wrap_i64];omega)
 have hX:=heap_alloc_last w (.cells (brA b) 58);have hpx:IRow (w.alloc (.cells (brA b) 58)) b.pao b.pn b.pcap b.pv:=CRow.below hp (bA1 _ _);unfold Pl.Br.id Pl.Br.prio;obtain⟨addr,pao,pn,pcap,pv,⟨s,rev,ao,n,cap,vs,ts⟩⟩:=b;simp only[brA] at *;obtain⟨q0,q1,q2,q3,q4⟩:=br_cells hX;have shl:∀p:Int,0≤p→p≤61440→IntKind.u64.wrap (p*281474976710656+addr)=p*281474976710656+addr:=fun p h1 h2=>wraps_u64 _ (by omega) (by omega);by_cases h:0≤tree∧tree≤(pn:Int)-1
 ·rw[if_pos h];rw[decide_eq_true h] at HW;obtain⟨t,rfl⟩:∃t:Nat,tree=t:=⟨tree.toNat,by omega⟩
  have ht:t<pn:=(by omega)
  rw[Int.toNat_natCast];obtain⟨pb,poff,rfl,_⟩:=CRow.some hpx (by omega);have hcap:=hpx.1;have c0:=IRow.cells hpx ht;obtain⟨p0,p1⟩:=hpr t ht;have HS:=shl (pv t) p0 p1;have w1:IntKind.u64.wrap (pv t)=pv t:=wraps_u64 _ (by omega) (by omega);have w2:IntKind.u64.wrap (pv t*281474976710656)=pv t*281474976710656:=wraps_u64 _ (by omega) (by omega);have i0:(0:Int)≤(t:Int):=(by omega)
  have i1:(t:Int)<(pn:Int):=(by omega)
  generalize pv t=p at *;clear hpx hp hpr shl hX;go_enter Tryz.func17,Tryz.ntmps17;go_wp2_with (go_at_call 32;refine(HW.out _).mono ?_;rintro e w1 ⟨rfl,rfl⟩)
  go_ret;exact⟨rfl,bA1 _ _⟩
 ·rw[if_neg h];rw[decide_eq_false h] at HW;have HS:=shl 32768 (by omega) (by omega);clear hpx hp hpr shl hX;go_enter Tryz.func17,Tryz.ntmps17;go_wp2_with (go_at_call 32;refine(HW.out _).mono ?_;rintro e w1 ⟨rfl,rfl⟩)
  go_ret;exact⟨rfl,bA1 _ _⟩
theorem infoBytes:(Tryz.prog.info? 60).map (fun i=>(i.zero,i.size,i.bytes))=some (some (.slice none 0 0),1,24):=by kernel_rfl
def IdsAt (w:World) (g K:Nat) (bs:Nat→Br) (v:Nat→Value) (k:Nat):Prop :=
 w.heap[g]?=some (.cells (rowC K 1 (fun i _=>v i)) 60)∧∀i,i<k→∃b off rc,v i=.slice (some ⟨b,off,none⟩) 50 rc∧ByteRow w (some ⟨b,off,none⟩) 50 rc (bs i).reg.id∧b≠g
theorem IdsAt.below {w w':World}{g K:Nat}{bs:Nat→Br}{v:Nat→Value}{k:Nat}(h:IdsAt w g K bs v k) (hb:Bl w w'):IdsAt w' g K bs v k :=
 ⟨keep h.1 hb,fun i hi=>by
  obtain⟨b,off,rc,e,h1,h2⟩:=h.2 i hi;exact⟨b,off,rc,e,h1.below hb,h2⟩⟩
theorem byteRow_other {w w':World}{ao:Option Addr}{n cap:Nat}{f:Nat→Int}(h:ByteRow w ao n cap f) (e:∀b off,ao=some ⟨b,off,none⟩→b<w.heap.size→w'.heap[b]?=w.heap[b]?) (hs:w.heap.size≤w'.heap.size):ByteRow w' ao n cap f:=by
 refine⟨h.1,fun hp => ?_⟩;obtain⟨b,off,e1,hlt,hc⟩:=h.2 hp;exact⟨b,off,e1,Nat.lt_of_lt_of_le hlt hs,fun i hi=>(World.cell?_of_block (w:=w) (e b off e1 hlt)).trans (hc i hi)⟩
theorem pidents_any (ao:Option Addr) (K cap:Nat) (bs:Nat→Br) (w:World) (hK:K≤12) (hr:BRow w ao K cap bs) (hb:∀i,i<K→(bs i).at' w) (hf:∀i,i<K→(bs i).Fine) (ht:Tabs w) (hbt:2≤w.heap.size) :
  Calls Tryz.prog 67 #[.slice ao K cap] w fun e w'=>∃v,e=.returned (.slice (some ⟨w.heap.size,0,none⟩) K K)∧IdsAt w' w.heap.size K bs v K∧Bl w w':=by
 have HRW:Hid (∀W,Bl w W→BRow W ao K cap bs∧(∀i,i<K→(bs i).at' W)∧Tabs W):=fun W hW=>⟨CRow.below hr hW,fun i hi=>(hb i hi).below hW,ht.below hW hbt⟩
 have HFI:Hid (∀i,i<K→(bs i).Fine):=hf;have hcap:=hr.1;have hmk:∀W:World,(Instr.makeSlice 127 (.int .i64 (K:Int)) (.int .i64 (K:Int))).run Tryz.prog W=.ok (.slice (some ⟨W.heap.size,0,none⟩) K K) (W.alloc (.cells (rowC K 1 (fun _ _=>.slice none 0 0)) 60)):=fun W=>make_rowD W 127 60 (.slice none 0 0) 1 24 K Tryz.underlying127 infoBytes (by omega) rfl (by omega) (by omega) _ (fun _ j hj=>by rw[show j=0 by omega];rfl);clear hr hb hf ht;obtain⟨G,HG⟩:∃G,Hid (G=w.heap.size):=⟨_,rfl⟩
 have H0:Hid (∃v,IdsAt (w.alloc (.cells (rowC K 1 (fun _ _=>.slice none 0 0)) 60)) G K bs v 0∧Bl w (w.alloc (.cells (rowC K 1 (fun _ _=>.slice none 0 0)) 60))):=⟨fun _=>.slice none 0 0,⟨by rw[HG.out];exact heap_alloc_last _ _,fun i hi=>absurd hi (by omega)⟩,bA1 _ _⟩
 rw[←HG.out];go_enter Tryz.func67,Tryz.ntmps67;(go_wp2_with fail);rw[←HG.out];go_loopw [11] (fun i wr=>∃k:Nat,k≤K∧i=.int .i64 k∧Hid (∃v,IdsAt wr G K bs v k∧Bl w wr)) (fun i _=>K-(intOf i).toNat)
 case atStart=>exact⟨0,by omega,rfl,H0⟩
 case round =>
  obtain⟨k,hk,rfl,hX⟩:=hrel;clear H0;obtain⟨v,hI,hB⟩:=hX.out;by_cases hlt:k<K
  ·obtain⟨b,off,rfl,_⟩:=CRow.some (HRW.out wr hB).1 (by omega);obtain⟨c0,c1,c2,c3,c4⟩:=BRow.cells (HRW.out wr hB).1 hlt;obtain⟨X,HX⟩:∃X,Hid (X=wr.alloc (.cells (brA (bs k)) 58)):=⟨_,rfl⟩
   have hXB:Bl wr X:=(by rw[HX.out];exact bA1 _ _)
   have hX5:X.heap[wr.heap.size]?=some (.cells (brA (bs k)) 58):=(by rw[HX.out];exact heap_alloc_last _ _)
   have hIX:=hI.below hXB;have hBX:Bl w X:=hB.trans (hXB.mono hB.size);obtain⟨d0,d1,d2,d3,d4⟩:=br_cells hX5;have HCL:Hid (Calls Tryz.prog 113 #[.agg #[.string (bs k).reg.s,.int .i64 (bs k).reg.rev,.slice (bs k).reg.ao (bs k).reg.n (bs k).reg.cap]] X fun e w'=>∃ro rc,e=.returned (.slice ro 50 rc)∧w'.cell? ⟨G,k,none⟩=some (v k)∧w'.frozen? ⟨G,k,none⟩=false∧Hid (∃v,IdsAt (w'.setCell ⟨G,k,none⟩ (.slice ro 50 rc)) G K bs v (k+1)∧Bl w (w'.setCell ⟨G,k,none⟩ (.slice ro 50 rc)))):=by
    obtain⟨_,x2,x3⟩:=HRW.out X hBX;refine(gident_reg_new (bs k).reg X (HFI.out k hlt).reg (x2 k hlt).2.1 x3).mono ?_;rintro e w' ⟨ro,rc,rfl,y1,y2,y3⟩;have z1:=hIX.below y2;have hBw:Bl w w':=hBX.trans (y2.mono hBX.size);have e1:(⟨G,k,none⟩:Addr)=⟨G,k*1+0,none⟩:=(by simp)
    have hGlt:G<X.heap.size:=(by have:=(gSm.1 hIX.1).1;exact this)
    obtain⟨rb,roff,er,hrb,_⟩:=y1.2 (by omega);subst er;have hne:rb≠G:=(by have:=y3 _ rfl;simp only at this;omega)
    refine⟨_,rc,rfl,?_,?_,fun i=>if i=k then .slice (some ⟨rb,roff,none⟩) 50 rc else v i,⟨?_,fun i hi => ?_⟩,hBw.setCell (by rw[HG.out];exact Nat.le_refl _) _⟩
    ·rw[e1];exact rowC_cell z1.1 hlt (by omega)
    ·exact lF0 z1.1 _
    ·rw[e1,rowC_set z1.1 hlt (by omega),rC2 (d:=fun i _=>if i=k then .slice (some ⟨rb,roff,none⟩) 50 rc else v i) (fun i _ j hj=>by
      unfold updC;by_cases q:i=k
      ·rw[if_pos ⟨q,by omega⟩,if_pos q]
      ·rw[if_neg (fun p=>q p.1),if_neg q])]
    ·have oth:∀b,b≠G→(w'.setCell ⟨G,k,none⟩ (.slice (some ⟨rb,roff,none⟩) 50 rc)).heap[b]?=w'.heap[b]?:=fun b hb=>heap_setCell_other _ _ _ _ (by exact hb);by_cases q:i=k
     ·subst q;exact⟨rb,roff,rc,if_pos rfl,byteRow_other y1 (fun b off e _=>by cases e;exact oth _ hne) (by simp),hne⟩
     ·obtain⟨b1,off1,rc1,q1,q2,q3⟩:=z1.2 i (by omega);exact⟨b1,off1,rc1,by simp only;rw[if_neg q];exact q1,byteRow_other q2 (fun b off e _=>by cases e;exact oth _ q3) (by simp),q3⟩
   clear hX hI hB hIX hBX hXB hX5 HRW HFI;simp only[brA] at *;generalize (bs k).reg.s=s at *;have i0:(0:Int)≤(k:Int):=(by omega)
   have i1:(k:Int)<(K:Int):=(by omega)
   (go_wp2_with fail);rw[←HX.out];refine HCL.out.mono ?_;rintro e w1 ⟨ro,rc,rfl,k1,k2,HN⟩;clear HCL;(go_wp2_with fail);exact⟨⟨k+1,by omega,by go_num,HN⟩,by simp[intOf];omega⟩
  ·obtain rfl:k=K:=by omega
   (go_wp2_with fail);go_ret;exact⟨v,rfl,hI,hB⟩
end
section
open Go.RowKit
section
variable {P:Program}{ops:Array Oper}{Q:Exit→Act→World→Prop}{md:Region.Mode}{S:World→Prop}
end
def sg (a b:Int):Int:=if a<b then -1 else if b<a then 1 else 0
theorem ccmpu_any (a b:Int) (w:World):Calls Tryz.prog 201 #[.int .u64 a,.int .u64 b] w fun e w'=>e=.returned (.int .i64 (sg a b))∧w'=w:=by
 unfold sg;by_cases h1:a<b
 ·rw[if_pos h1];go_enter Tryz.func201,Tryz.ntmps201;go_wp2
  go_ret;exact⟨rfl,rfl⟩
 ·rw[if_neg h1];by_cases h2:b<a
  ·rw[if_pos h2];go_enter Tryz.func201,Tryz.ntmps201;go_wp2
   go_ret;exact⟨rfl,rfl⟩
  ·rw[if_neg h2];go_enter Tryz.func201,Tryz.ntmps201;go_wp2
   go_ret;exact⟨rfl,rfl⟩
theorem ccmpi_any (a b:Int) (w:World):Calls Tryz.prog 73 #[.int .i64 a,.int .i64 b] w fun e w'=>e=.returned (.int .i64 (sg a b))∧w'=w:=by
 unfold sg;by_cases h1:a<b
 ·rw[if_pos h1];go_enter Tryz.func73,Tryz.ntmps73;go_wp2
  go_ret;exact⟨rfl,rfl⟩
 ·rw[if_neg h1];by_cases h2:b<a
  ·rw[if_pos h2];go_enter Tryz.func73,Tryz.ntmps73;go_wp2
   go_ret;exact⟨rfl,rfl⟩
  ·rw[if_neg h2];go_enter Tryz.func73,Tryz.ntmps73;go_wp2
   go_ret;exact⟨rfl,rfl⟩
theorem vwithin_any (n l m:Int) (w:World) :
  Calls Tryz.prog 32 #[.int .i64 n,.int .i64 l,.int .i64 m] w fun e w'=>e=.returned (.bool (decide (l≤n∧n≤m)))∧w'=w:=by
 by_cases h1:l≤n<;>by_cases h2:n≤m
 all_goals
  go_enter Tryz.func32,Tryz.ntmps32;go_wp2
  go_ret;exact⟨by simp[h1,h2],rfl⟩
def orTo (f:Nat→Int):Nat→Int
 | 0=>0
 | k+1=>if orTo f k=0 then f k else orTo f k
theorem orTo_stay (f:Nat→Int) (k:Nat) (h0:orTo f k=0) (h:f k≠0):∀n,k<n→orTo f n=f k
 | 0,hn=>by omega
 | n+1,hn=>by
  simp only[orTo];by_cases e:k=n
  ·subst e;rw[if_pos h0]
  ·rw[orTo_stay f k h0 h n (by omega),if_neg h]
theorem cor_any (b off n cap:Nat) (f:Nat→Int) (w:World) (hn:n≤9223372036854775807) (hcap:n≤cap) (hf:∀i,i<n→w.cell? ⟨b,off+i,none⟩=some (.int .i64 (f i))) :
  Calls Tryz.prog 164 #[.slice (some ⟨b,off,none⟩) n cap] w fun e w'=>e=.returned (.int .i64 (orTo f n))∧w'=w:=by
 have HF:Hid (∀i,i<n→w.cell? ⟨b,off+i,none⟩=some (.int .i64 (f i))):=hf;clear hf;go_enter Tryz.func164,Tryz.ntmps164;(go_wp2_with fail);go_loopw [8] (fun i wr=>∃k:Nat,k≤n∧i=.int .i64 k∧Hid (orTo f k=0)∧wr=w) (fun i _=>n-(intOf i).toNat)
 case atStart=>exact⟨0,by omega,rfl,rfl,rfl⟩
 case round =>
  obtain⟨k,hk,rfl,hS,rfl⟩:=hrel;by_cases hlt:k<n
  ·have c0:=HF.out k hlt;by_cases h0:f k=0
   ·have d0:(f k != 0)=false:=(by simp[h0])
    have HS2:Hid (orTo f (k+1)=0):=by show(if orTo f k=0 then f k else orTo f k)=0;rw[if_pos hS.out,h0]
    clear HF hS;(go_wp2_with fail);exact⟨⟨k+1,by omega,by go_num,HS2,trivial⟩,by simp[intOf];omega⟩
   ·have d0:(f k != 0)=true:=(by simp[h0])
    have HS2:Hid (orTo f n=f k):=orTo_stay f k hS.out h0 n hlt;clear HF hS h0;(go_wp2_with fail);go_ret;exact⟨by rw[HS2.out];rfl,rfl⟩
  ·obtain rfl:k=n:=by omega
   clear HF;(go_wp2_with fail);go_ret;exact⟨by rw[hS.out];rfl,rfl⟩
theorem sg_zero {a b:Int}:sg a b=0↔a=b:=by
 unfold sg;by_cases h:a<b
 ·rw[if_pos h];omega
 ·rw[if_neg h];by_cases k:b<a
  ·rw[if_pos k];omega
  ·rw[if_neg k];omega
end
section
open Go.RowKit
open Vc (V Of)
def sg4 (a b:V) (i:Nat):Int:=if i=0 then sg a.root b.root else if i=1 then sg a.cost b.cost else if i=2 then sg a.bridge b.bridge else sg a.port b.port
theorem orTo_sg4 (a b:V):orTo (sg4 a b) 4=Vc.cmp a b:=by
 have e:orTo (sg4 a b) 4=if sg a.root b.root=0 then(if sg a.cost b.cost=0 then(if sg a.bridge b.bridge=0 then sg a.port b.port else sg a.bridge b.bridge) else sg a.cost b.cost) else sg a.root b.root:=by
  have e1:orTo (sg4 a b) 1=sg a.root b.root:=(by simp[orTo,sg4])
  have e2:orTo (sg4 a b) 2=if sg a.root b.root=0 then sg a.cost b.cost else sg a.root b.root:=by
   show(if orTo (sg4 a b) 1=0 then sg4 a b 1 else orTo (sg4 a b) 1)=_;rw[e1];rfl
  have e3:orTo (sg4 a b) 3=if sg a.root b.root=0 then(if sg a.cost b.cost=0 then sg a.bridge b.bridge else sg a.cost b.cost) else sg a.root b.root:=by
   show(if orTo (sg4 a b) 2=0 then sg4 a b 2 else orTo (sg4 a b) 2)=_;rw[e2];by_cases h:sg a.root b.root=0
   ·rw[if_pos h,if_pos h];rfl
   ·rw[if_neg h,if_neg h,if_neg h]
  show(if orTo (sg4 a b) 3=0 then sg4 a b 3 else orTo (sg4 a b) 3)=_;rw[e3];by_cases h:sg a.root b.root=0
  ·rw[if_pos h,if_pos h];by_cases h2:sg a.cost b.cost=0
   ·rw[if_pos h2,if_pos h2];rfl
   ·rw[if_neg h2,if_neg h2,if_neg h2]
  ·rw[if_neg h,if_neg h,if_neg h]
 rw[e];simp only[sg_zero];have L:Vc.lt a b→Vc.cmp a b = -1:=fun h=>if_pos h;have G:Vc.lt b a→Vc.cmp a b=1:=fun h=>by unfold Vc.cmp;rw[if_neg (Vc.lt_asymm h),if_pos h]
 have Z:a=b→Vc.cmp a b=0:=fun h=>Vc.cmp_zero.2 h;unfold sg;by_cases h0:a.root=b.root
 ·rw[if_pos h0];by_cases h1:a.cost=b.cost
  ·rw[if_pos h1];by_cases h2:a.bridge=b.bridge
   ·rw[if_pos h2];by_cases h3:a.port<b.port
    ·rw[if_pos h3,L (by unfold Vc.lt;omega)]
    ·rw[if_neg h3];by_cases h4:b.port<a.port
     ·rw[if_pos h4,G (by unfold Vc.lt;omega)]
     ·rw[if_neg h4,Z (Vc.V.eq h0 h1 h2 (by omega))]
   ·rw[if_neg h2];by_cases h3:a.bridge<b.bridge
    ·rw[if_pos h3,L (by unfold Vc.lt;omega)]
    ·rw[if_neg h3,if_pos (by omega),G (by unfold Vc.lt;omega)]
  ·rw[if_neg h1];by_cases h3:a.cost<b.cost
   ·rw[if_pos h3,L (by unfold Vc.lt;omega)]
   ·rw[if_neg h3,if_pos (by omega),G (by unfold Vc.lt;omega)]
 ·rw[if_neg h0];by_cases h3:a.root<b.root
  ·rw[if_pos h3,L (by unfold Vc.lt;omega)]
  ·rw[if_neg h3,if_pos (by omega),G (by unfold Vc.lt;omega)]
end
end Go.Proofs.YtflghpnpjmodaaaGreatDoor
