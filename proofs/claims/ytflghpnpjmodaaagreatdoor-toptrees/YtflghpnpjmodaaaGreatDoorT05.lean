/- 'taken[k]++' on a map whose keys are ports: what each of its operations does; the taker of ports -/
import Derived.Test.YtflghpnpjmodaaaGreatDoorT04
import Derived.Test.YtflghpnpjmodaaaGreatDoorT02
import Derived.Test.YtflghpnpjmodaaaGreatDoorT03
import Derived.Test.YtflghpnpjmodaaaGreatDoorT01
import Derived.Lib.BufferWrite
import Derived.Maps.OwnOps
import Derived.Maps.Range
import Derived.Maps.RangeWalk
import Derived.Maps.Views
import Derived.WideKeyEntry
import Derived.DeepKeys4
import Derived.MapViews
set_option maxRecDepth 100000
set_option maxHeartbeats 6000000
namespace Go.Proofs.YtflghpnpjmodaaaGreatDoor
section
open Go.RowKit
theorem splice_name (N:Nat) (f:Nat→Int) (s:ByteArray) (h:s.size≤N):((rowF N f).toList.take 0++Lib.byteCells s.data.toList++(rowF N f).toList.drop (0+s.size)).toArray=rowF N (fun i=>if i<s.size then Rg.nb s i else f i):=by
 apply Array.ext_getElem?
 intro i;have hl:(Lib.byteCells s.data.toList).length=s.size:=(by simp[Lib.byteCells])
 rw[List.getElem?_toArray,List.take_zero,List.nil_append,Nat.zero_add];by_cases hi:i<s.size
 ·have hi':i<s.data.size:=hi;rw[List.getElem?_append_left (by rw[hl];exact hi),rowF_get _ _ _ (by omega),if_pos hi];simp[Lib.byteCells,Rg.nb,List.getD,Array.getElem?_eq_getElem hi']
 ·rw[List.getElem?_append_right (by rw[hl];omega),hl,List.getElem?_drop,show s.size+(i-s.size)=i by omega,Array.getElem?_toList];by_cases hN:i<N
  ·rw[rowF_get _ _ _ hN,rowF_get _ _ _ hN,if_neg hi]
  ·rw[Array.getElem?_eq_none (by rw[rowF_size];omega),Array.getElem?_eq_none (by rw[rowF_size];omega)]
theorem wpList_copy_str {w:World}{ops:Array Oper}{rest:List Oper}{o:Oper}{a:Act}{Q:Exit→Act→World→Prop}(hgd:o.guard=none) (d x:Operand)
  (ho:o.op=.call { callee:=.builtin .copy,args:=#[d,x],argTypes:=#[60,9] }) (g N dLen dCap:Nat) (f:Nat→Int) (s:ByteArray)
  (hd:a.eval d=.slice (some ⟨g,0,none⟩) dLen dCap) (hx:a.eval x=.string s) (hle:s.size≤dLen) (hN:s.size≤N) (hrow:w.heap[g]?=some (.cells (rowF N f) 5))
  (h:∀w',w'.heap[g]?=some (.cells (rowF N (fun i=>if i<s.size then Rg.nb s i else f i)) 5)→w'.heap.size=w.heap.size→Below g w w'→wpList Tryz.prog ops Q rest (a.put o.dst (goInt s.size)) w'):wpList Tryz.prog ops Q (o :: rest) a w:=by
 refine wpList_plain hgd fun K hK => ?_;have hrun:=Lib.run_copy_row_string (P:=Tryz.prog) w 60 9 o.type 5 g 0 dLen dCap s _ _ Tryz.underlying60 size5 hrow hle (by rw[rowF_size];omega);rw[splice_name N f s hN] at hrun;unfold Oper.wp;simp[execOp,ho,resolve,invoke,builtin,hd,hx,hrun,Result.andThen];exact hK _ _ (h _ (setRow_heap w g _ _ _ _ hrow) (by simp) (below_setRow (Below.refl _ _) (Nat.le_refl _) _))
theorem gequal_any (a1 a2:Option Addr) (n1 c1 n2 c2:Nat) (b1 b2:Nat→Int) (w:World) (h1:ByteRow w a1 n1 c1 b1) (k1:NilOk a1 n1 c1) (h2:ByteRow w a2 n2 c2 b2) (k2:NilOk a2 n2 c2) :
  Calls Tryz.prog 70 #[.slice a1 n1 c1,.slice a2 n2 c2] w fun e w'=>e=.returned (.bool (decide (strOf n1 b1=strOf n2 b2)))∧w'=w:=by
 have q1:=run_str w a1 n1 c1 b1 h1 k1;have q2:=run_str w a2 n2 c2 b2 h2 k2;clear h1 k1 h2 k2;generalize strOf n1 b1=S at *;generalize strOf n2 b2=T at *;go_enter Tryz.func70,Tryz.ntmps70;go_wp2
 go_ret;refine⟨?_,rfl⟩;by_cases e:S=T
 ·subst e;simp
 ·have hne:¬S.toList=T.toList:=fun h=>e (ByteArray.ext (Array.toList_inj.mp (by rw[←ByteArray.toList_eq,←ByteArray.toList_eq];exact h)));simp[e,hne]
theorem gident_new (s:ByteArray) (rev:Int) (ao:Option Addr) (n cap:Nat) (vs ts:Nat→Int) (w:World) (hs:s.size≤32) (hv:0≤rev∧rev≤65535) (hR:Rg.Right vs ts n) (hr:WayRow w ao n cap vs ts) (ht:Tabs w) :
  Calls Tryz.prog 113 #[.agg #[.string s,.int .i64 rev,.slice ao n cap]] w fun e w'=>∃ro rc,e=.returned (.slice ro 50 rc)∧ByteRow w' ro 50 rc (Rg.ident s rev (Md.dg (Rg.dig vs ts n)))∧Bl w w'∧∀ad,ro=some ad→w.heap.size<ad.block:=by
 have HT:Hid (Tabs w):=ht;have hbt:=ht.lt;have HRt:Hid (Rg.Right vs ts n):=hR;have HR:Hid (WayRow w ao n cap vs ts):=hr;clear ht hr hR;obtain⟨P,HP⟩:∃P,Hid (P=Rg.ident s rev (Md.dg (Rg.dig vs ts n))):=⟨_,rfl⟩
 have HY:Hid (rev/256=P 32):=(by rw[HP.out];show _=_;simp[Rg.ident])
 have HZ:Hid (rev%256=P (32+1)):=(by rw[HP.out];show _=_;simp[Rg.ident])
 have HH:Hid (∀i,i<32→(if i<s.size then Rg.nb s i else 0)=P i):=by
  intro i hi;rw[HP.out];unfold Rg.ident;rw[if_pos hi]
 have HD:Hid (bytesL 34 P++bytesL 16 (Md.dg (Rg.dig vs ts n))=bytesL (34+16) P):=by
  show _=_;rw[bytesL_append];apply bytesL_congr
  intro i hi;by_cases e:i<34
  ·rw[if_pos e]
  ·rw[if_neg e,HP.out];unfold Rg.ident;rw[if_neg (by omega),if_neg (by omega),if_neg (by omega)]
 have hmk:∀W:World,(Instr.makeSlice 60 (.int .i64 32) (.int .i64 50)).run Tryz.prog W=.ok (.slice (some ⟨W.heap.size,0,none⟩) 32 50) (W.alloc (.cells (rowF 50 (fun _=>0)) 5)):=fun W=>make_room W 32 50 (by omega) (by omega);have HW:Hid (∀w2:World,Below (w.heap.size+1) ((w.alloc (.cells #[.string s,.int .i64 rev,.slice ao n cap] 56)).alloc (.cells (rowF 50 (fun _=>0)) 5)) w2→w2.cell? ⟨w.heap.size,0,none⟩=some (.string s)∧w2.cell? ⟨w.heap.size,1,none⟩=some (.int .i64 rev)∧w2.cell? ⟨w.heap.size,2,none⟩=some (.slice ao n cap)∧Hid (Bl w w2)∧w.heap.size+1<w2.heap.size):=by
  intro w2 hb;have h:=rg_cells ((hb.block w.heap.size (by omega)).trans (heap_alloc2_old w (.cells #[.string s,.int .i64 rev,.slice ao n cap] 56) _));have h2:=hb.size;simp at h2;exact⟨h.1,h.2.1,h.2.2,(bA2 w _ _).trans (hb.mono (by omega)),by omega⟩
 have HO:Hid (∀w2:World,w2.heap[w.heap.size+1]?=some (.cells (rowF 50 (fun i=>if i<s.size then Rg.nb s i else 0)) 5)→w2.ownsRow (w.heap.size+1) 5 1 (.slice (some ⟨w.heap.size+1,0,none⟩) 32 50) 32 (bytesL 32 P)):=by
  intro w2 h;have:=owns_room (base:=w.heap.size+1) (n:=32) h (Nat.le_refl _) (by omega) (by omega);rw[bytesL_congr 32 _ P HH.out] at this;exact this
 go_enter Tryz.func113,Tryz.ntmps113;go_wp2_with (refine wpList_copy_str rfl (.tmp 5) (.tmp 7) rfl (w.heap.size+1) 50 32 50 (fun _=>0) s rfl rfl hs (by omega) (heap_alloc2_new w _ _) ?_;intro w2 hrow2 _ hb2;obtain⟨q0,q1,q2,HB2,z2⟩:=HW.out w2 hb2;have HO2:Hid _:=HO.out w2 hrow2;have HX2:Hid _:=hb2;clear hrow2 hb2)
 refine(gpair_any (w.heap.size+1) 32 _ P rev w2 HO2.out (by omega) hv HY.out HZ.out (by omega)).mono ?_;rintro e w3 ⟨v3,rfl,ho3,hb3⟩;obtain⟨r0,r1,r2,HB3,z3⟩:=HW.out w3 (HX2.out.trans hb3);have HO3:Hid (w3.ownsRow (w.heap.size+1) 5 1 v3 34 (bytesL 34 P)):=ho3;clear ho3 hb3 q0 q1 q2 HO2 HX2 HB2 z2 HW HO HY HZ HH;(go_wp2_with fail);refine(gdigest_any s rev ao n cap vs ts _ HRt.out (HR.out.below HB3.out) (HT.out.below HB3.out (by omega))).mono ?_;rintro e w4 ⟨g4,rfl,hg4,hrow4,hb4⟩;have HO4:Hid (w4.ownsRow (w.heap.size+1) 5 1 v3 34 (bytesL 34 P)):=owns_below HO3.out hb4;have HR4:Hid (ByteRow w4 (some ⟨g4,0,none⟩) 16 16 (Md.dg (Rg.dig vs ts n))):=sumRow hrow4;have HB4:Hid (Bl w w4):=HB3.out.trans (hb4.mono HB3.out.size);have z4:w.heap.size+1≤w4.heap.size:=(by have:=hb4.size;omega)
 clear hg4 hrow4 hb4;have HA:Hid (∀v5 w5,w5.ownsRow (w.heap.size+1) 5 1 v5 (34+16) (bytesL 34 P++bytesL 16 (Md.dg (Rg.dig vs ts n)))→w4.grownBy w5 v3.ownBlock→∃ro rc,v5=.slice ro 50 rc∧Hid (ByteRow w5 ro 50 rc P)∧Hid (Bl w w5)∧Hid (∀ad,ro=some ad→w.heap.size<ad.block)):=by
  intro v5 w5 ho5 hg5;rw[HD.out] at ho5;have hb5:Bl w w5:=HB4.out.trans ((grown_own (Below.refl _ _) HO4.out z4 hg5).mono (by omega));obtain⟨ro,rc,rfl,hr5,_,_,hq5⟩:=owns_row ho5;exact⟨ro,rc,rfl,hr5,hb5,fun ad e=>by have:=hq5 ad e;omega⟩
 go_wp2_with (at_builtin;refine wpList_append_bytes rfl (.tmp 13) (.tmp 15) rfl (w.heap.size+1) _ 34 _ rfl HO4.out _ 16 16 _ rfl HR4.out (fun h=>by cases h) (by omega) z4 ?_;intro v5 w5 ho5 hg5;obtain⟨ro,rc,rfl,HR5,HB5,HQ5⟩:=HA.out v5 w5 ho5 hg5;clear ho5 hg5)
 go_ret;exact⟨ro,rc,rfl,by rw[←HP.out];exact HR5.out,HB5.out,HQ5.out⟩
namespace Rg
structure Reg where
 s:ByteArray
 rev:Int
 ao:Option Addr
 n:Nat
 cap:Nat
 vs:Nat→Int
 ts:Nat→Int
def Reg.id (r:Reg):Nat→Int:=ident r.s r.rev (Md.dg (dig r.vs r.ts r.n))
def Reg.ok (r:Reg):Prop:=isName r.s=true∧(0≤r.rev∧r.rev≤65535)∧Right r.vs r.ts r.n
def Reg.at' (r:Reg) (w:World):Prop:=WayRow w r.ao r.n r.cap r.vs r.ts
theorem Reg.at'.below {r:Reg}{w w':World}(h:r.at' w) (hb:Bl w w'):r.at' w':=WayRow.below h hb
end Rg
theorem gident_reg_new (r:Rg.Reg) (w:World) (hk:r.ok) (ha:r.at' w) (ht:Tabs w) :
  Calls Tryz.prog 113 #[.agg #[.string r.s,.int .i64 r.rev,.slice r.ao r.n r.cap]] w fun e w'=>∃ro rc,e=.returned (.slice ro 50 rc)∧ByteRow w' ro 50 rc r.id∧Bl w w'∧∀ad,ro=some ad→w.heap.size<ad.block :=
 gident_new r.s r.rev r.ao r.n r.cap r.vs r.ts w (Rg.isName_parts hk.1).2.1 hk.2.1 hk.2.2 ha ht
end
section
open Go.RowKit
open Vc (V Of)
open Pl (Lk En St)
abbrev IRow (w:World) (ao:Option Addr) (n cap:Nat) (f:Nat→Int):Prop:=CRow w ao n cap 1 (fun i _=>.int .i64 (f i))
theorem IRow.cells {w:World}{b off n cap:Nat}{f:Nat→Int}(h:IRow w (some ⟨b,off,none⟩) n cap f) {i:Nat}(hi:i<n):w.cell? ⟨b,off+i,none⟩=some (.int .i64 (f i)):=by
 obtain⟨b',off',e,_,hc⟩:=h.2 (by omega);cases e
 have:=hc i hi 0 (by omega);rw[Nat.mul_one,Nat.add_zero] at this;exact this
namespace Pl
structure Br where
 addr:Int
 pao:Option Addr
 pn:Nat
 pcap:Nat
 pv:Nat→Int
 reg:Rg.Reg
structure Net where
 bao:Option Addr
 K:Nat
 bcap:Nat
 bs:Nat→Br
 lao:Option Addr
 L:Nat
 lcap:Nat
 ls:Nat→Lk
structure Pc where
 v:V
 rp:Int
 pao:Option Addr
 pn:Nat
 pcap:Nat
 ports:Nat→Int
 rao:Option Addr
 rn:Nat
 rcap:Nat
 roles:Nat→Int
end Pl
open Pl (Br Net Pc)
def brC (b:Br) (j:Nat):Value:=if j=0 then .int .u64 b.addr else if j=1 then .slice b.pao b.pn b.pcap else if j=2 then .string b.reg.s else if j=3 then .int .i64 b.reg.rev else .slice b.reg.ao b.reg.n b.reg.cap
def lkC (l:Lk) (j:Nat):Value:=if j=0 then .int .i64 l.a else if j=1 then .int .i64 l.pa else if j=2 then .int .i64 l.b else if j=3 then .int .i64 l.pb else if j=4 then .int .i64 l.cost else .bool l.up
def enC (e:En) (j:Nat):Value:=if j=0 then .int .i64 e.port else if j=1 then .int .i64 e.cost else if j=2 then .int .i64 e.other else if j=3 then .int .i64 e.oport else .bool e.live
theorem brC_one (b:Br) (j:Nat):(brC b j).oneCell'=true:=by
 unfold brC;repeat' split
 all_goals rfl
theorem lkC_one (l:Lk) (j:Nat):(lkC l j).oneCell'=true:=by
 unfold lkC;repeat' split
 all_goals rfl
abbrev BRow (w:World) (ao:Option Addr) (n cap:Nat) (bs:Nat→Br):Prop:=CRow w ao n cap 5 (fun i=>brC (bs i))
abbrev LRow (w:World) (ao:Option Addr) (n cap:Nat) (ls:Nat→Lk):Prop:=CRow w ao n cap 6 (fun i=>lkC (ls i))
abbrev ERow (w:World) (ao:Option Addr) (n cap:Nat) (es:Nat→En):Prop:=CRow w ao n cap 5 (fun i=>enC (es i))
theorem BRow.cells {w:World}{b off n cap:Nat}{bs:Nat→Br}(h:BRow w (some ⟨b,off,none⟩) n cap bs) {i:Nat}(hi:i<n) :
  w.cell? ⟨b,off+i*5,none⟩=some (.int .u64 (bs i).addr)∧w.cell? ⟨b,off+i*5+1,none⟩=some (.slice (bs i).pao (bs i).pn (bs i).pcap)∧w.cell? ⟨b,off+i*5+2,none⟩=some (.string (bs i).reg.s)∧w.cell? ⟨b,off+i*5+3,none⟩=some (.int .i64 (bs i).reg.rev)∧w.cell? ⟨b,off+i*5+4,none⟩=some (.slice (bs i).reg.ao (bs i).reg.n (bs i).reg.cap):=by
 obtain⟨b',off',e,_,hc⟩:=h.2 (by omega);cases e
 exact⟨hc i hi 0 (by omega),hc i hi 1 (by omega),hc i hi 2 (by omega),hc i hi 3 (by omega),hc i hi 4 (by omega)⟩
theorem LRow.cells {w:World}{b off n cap:Nat}{ls:Nat→Lk}(h:LRow w (some ⟨b,off,none⟩) n cap ls) {i:Nat}(hi:i<n) :
  w.cell? ⟨b,off+i*6,none⟩=some (.int .i64 (ls i).a)∧w.cell? ⟨b,off+i*6+1,none⟩=some (.int .i64 (ls i).pa)∧w.cell? ⟨b,off+i*6+2,none⟩=some (.int .i64 (ls i).b)∧w.cell? ⟨b,off+i*6+3,none⟩=some (.int .i64 (ls i).pb)∧w.cell? ⟨b,off+i*6+4,none⟩=some (.int .i64 (ls i).cost)∧w.cell? ⟨b,off+i*6+5,none⟩=some (.bool (ls i).up):=by
 obtain⟨b',off',e,_,hc⟩:=h.2 (by omega);cases e
 exact⟨hc i hi 0 (by omega),hc i hi 1 (by omega),hc i hi 2 (by omega),hc i hi 3 (by omega),hc i hi 4 (by omega),hc i hi 5 (by omega)⟩
theorem ERow.cells {w:World}{b off n cap:Nat}{es:Nat→En}(h:ERow w (some ⟨b,off,none⟩) n cap es) {i:Nat}(hi:i<n) :
  w.cell? ⟨b,off+i*5,none⟩=some (.int .i64 (es i).port)∧w.cell? ⟨b,off+i*5+1,none⟩=some (.int .i64 (es i).cost)∧w.cell? ⟨b,off+i*5+2,none⟩=some (.int .i64 (es i).other)∧w.cell? ⟨b,off+i*5+3,none⟩=some (.int .i64 (es i).oport)∧w.cell? ⟨b,off+i*5+4,none⟩=some (.bool (es i).live):=by
 obtain⟨b',off',e,_,hc⟩:=h.2 (by omega);cases e
 exact⟨hc i hi 0 (by omega),hc i hi 1 (by omega),hc i hi 2 (by omega),hc i hi 3 (by omega),hc i hi 4 (by omega)⟩
namespace Pl
def Br.at' (b:Br) (w:World):Prop:=IRow w b.pao b.pn b.pcap b.pv∧b.reg.at' w∧b.pn≤9223372036854775807∧b.reg.n≤9223372036854775807
theorem Br.at'.below {b:Br}{w w':World}(h:b.at' w) (hb:Bl w w'):b.at' w':=⟨CRow.below h.1 hb,h.2.1.below hb,h.2.2⟩
structure Net.at' (n:Net) (w:World):Prop where
 brs:BRow w n.bao n.K n.bcap n.bs
 each:∀i,i<n.K→(n.bs i).at' w
 lks:LRow w n.lao n.L n.lcap n.ls
 manyB:n.K≤9223372036854775807
 manyL:n.L≤9223372036854775807
theorem Net.at'.below {n:Net}{w w':World}(h:n.at' w) (hb:Bl w w'):n.at' w':=⟨CRow.below h.brs hb,fun i hi=>(h.each i hi).below hb,CRow.below h.lks hb,h.manyB,h.manyL⟩
def Net.val (n:Net):Value:=.agg #[.slice n.bao n.K n.bcap,.slice n.lao n.L n.lcap]
def brErr (b:Br):Int:=if 281474976710655<b.addr then 3 else if 16<b.pn then 5 else if Vc.someTo (fun i=>oddP (b.pv i)) b.pn=true then 3 else Rg.wrong b.reg.s b.reg.rev b.reg.vs b.reg.ts b.reg.n
def bErr (bs:Nat→Br) (i:Nat):Int:=if brErr (bs i)≠0 then brErr (bs i) else if Vc.someTo (fun j=>decide ((bs j).addr=(bs i).addr)) i=true then 7 else 0
def Net.wrong (n:Net):Int×Int:=if 12<n.K∨40<n.L then(5,0) else if (firstTo (bErr n.bs) n.K).1≠0 then firstTo (bErr n.bs) n.K else firstTo (lErr n.K n.ls) n.L
def Br.prio (b:Br) (tree:Int):Int:=if 0≤tree∧tree≤(b.pn:Int)-1 then b.pv tree.toNat else 32768
def Br.id (b:Br) (tree:Int):Int:=b.prio tree*281474976710656+b.addr
def Net.live (n:Net) (k:Nat):Bool:=(n.ls k).up&&decide (strOf 50 (n.bs (n.ls k).a.toNat).reg.id=strOf 50 (n.bs (n.ls k).b.toNat).reg.id)
def Net.ids (n:Net) (tree:Int) (i:Nat):Int:=(n.bs i).id tree
def Net.ends (n:Net) (i:Nat):List En:=Pl.ends n.ls n.live n.L i
end Pl
end
section
open Go.RowKit
open Pl (Br Net Pc Lk En St)
theorem pisprio_any (p:Int) (w:World) :
  Calls Tryz.prog 140 #[.int .i64 p] w fun e w'=>e=.returned (.bool (!Pl.oddP p))∧w'=w:=by
 have HW:Hid (∀W,Calls Tryz.prog 32 #[.int .i64 p,.int .i64 0,.int .i64 61440] W fun e w'=>e=.returned (.bool (decide (0≤p∧p≤61440)))∧w'=W):=fun W=>gwithin_any p 0 61440 W;unfold Pl.oddP;by_cases h1:0≤p∧p≤61440
 ·rw[decide_eq_true h1] at HW ⊢;have hr:p.tmod 4096=p%4096:=Int.tmod_eq_emod_of_nonneg h1.1;have hw:IntKind.i64.wrap (p%4096)=p%4096:=wraps_i64 _ (by omega) (by omega);by_cases h2:p%4096=0
  ·have hd:(p.tmod 4096 == 0)=true:=(by rw[hr];simp[h2])
   go_enter Tryz.func140,Tryz.ntmps140;go_wp2_with (go_at_call 32;refine(HW.out _).mono ?_;rintro e w1 ⟨rfl,rfl⟩)
   go_ret;exact⟨by simp[h2],rfl⟩
  ·have hd:(p.tmod 4096 == 0)=false:=(by rw[hr];simp[h2])
   go_enter Tryz.func140,Tryz.ntmps140;go_wp2_with (go_at_call 32;refine(HW.out _).mono ?_;rintro e w1 ⟨rfl,rfl⟩)
   go_ret;exact⟨by simp[h2],rfl⟩
 ·rw[decide_eq_false h1] at HW ⊢;go_enter Tryz.func140,Tryz.ntmps140;go_wp2_with (go_at_call 32;refine(HW.out _).mono ?_;rintro e w1 ⟨rfl,rfl⟩)
  go_ret;exact⟨rfl,rfl⟩
theorem podd_any (p:Int) (w:World) :
  Calls Tryz.prog 158 #[.int .i64 p] w fun e w'=>e=.returned (.bool (Pl.oddP p))∧w'=w:=by
 have HW:Hid (∀W,Calls Tryz.prog 140 #[.int .i64 p] W fun e w'=>e=.returned (.bool (!Pl.oddP p))∧w'=W):=fun W=>pisprio_any p W;generalize Pl.oddP p=b at *;go_enter Tryz.func158,Tryz.ntmps158;go_wp2_with (go_at_call 140;refine(HW.out _).mono ?_;rintro e w1 ⟨rfl,rfl⟩)
 go_ret;exact⟨by simp,rfl⟩
theorem pindex_any (ao:Option Addr) (n cap:Nat) (f:Nat→Int) (w:World) (hn:n≤16) (hr:IRow w ao n cap f) :
  Calls Tryz.prog 198 #[.slice ao n cap,.func (.func 158) #[] #[]] w fun e w'=>∃r:Int,e=.returned (.int .i64 r)∧decide (0≤r)=Vc.someTo (fun i=>Pl.oddP (f i)) n∧w'=w:=by
 have HR:Hid (IRow w ao n cap f):=hr;clear hr;go_enter Tryz.func198,Tryz.ntmps198;(go_wp2_with fail);go_loopw [8] (fun i wr=>∃k:Nat,k≤n∧i=.int .i64 k∧Hid (Vc.someTo (fun i=>Pl.oddP (f i)) k=false)∧wr=w) (fun i _=>n-(intOf i).toNat)
 case atStart=>exact⟨0,by omega,rfl,rfl,rfl⟩
 case round =>
  obtain⟨k,hk,rfl,hX,rfl⟩:=hrel;by_cases hlt:k<n
  ·obtain⟨b,off,rfl,hb⟩:=CRow.some HR.out (by omega);have hcap:=HR.out.1;have c4:wr.cell? ⟨b,off+k,none⟩=some (.int .i64 (f k)):=IRow.cells HR.out hlt;have HS1:Hid (Pl.oddP (f k)=true→Vc.someTo (fun i=>Pl.oddP (f i)) n=true):=fun h=>someTo_stay _ k h n hlt;have HS2:Hid (Pl.oddP (f k)=false→Vc.someTo (fun i=>Pl.oddP (f i)) (k+1)=false):=fun h=>by
    show(Vc.someTo _ k||Pl.oddP (f k))=false;rw[h,hX.out];rfl
   clear HR hX;generalize f k=c at *;cases ho:Pl.oddP c with
   | true =>
    have HO:Hid (Pl.oddP c=true):=ho;clear ho;go_wp2_with (go_at_call 158;refine(podd_any _ _).mono ?_;rintro e w1 ⟨rfl,rfl⟩;rw[HO.out])
    go_ret;exact⟨_,rfl,by rw[HS1.out HO.out];simp,rfl⟩
   | false =>
    have HO:Hid (Pl.oddP c=false):=ho;clear ho;go_wp2_with (go_at_call 158;refine(podd_any _ _).mono ?_;rintro e w1 ⟨rfl,rfl⟩;rw[HO.out])
    exact⟨⟨k+1,by omega,by go_num,HS2.out HO.out,trivial⟩,by simp[intOf];omega⟩
  ·obtain rfl:k=n:=by omega
   go_wp2
   go_ret;exact⟨_,rfl,by rw[hX.out];decide,rfl⟩
theorem pcontains_any (ao:Option Addr) (n cap:Nat) (f:Nat→Int) (w:World) (hn:n≤16) (hr:IRow w ao n cap f) :
  Calls Tryz.prog 159 #[.slice ao n cap,.func (.func 158) #[] #[]] w fun e w'=>e=.returned (.bool (Vc.someTo (fun i=>Pl.oddP (f i)) n))∧w'=w:=by
 have HR:Hid (IRow w ao n cap f):=hr;clear hr;go_enter Tryz.func159,Tryz.ntmps159;go_wp2_with (go_at_call 198;refine(pindex_any _ _ _ f _ hn HR.out).mono ?_;rintro e w1 ⟨r,rfl,hq,rfl⟩;have HQ:Hid (decide (0≤r)=Vc.someTo (fun i=>Pl.oddP (f i)) n):=hq;clear hq)
 go_ret;exact⟨by rw[HQ.out];rfl,rfl⟩
theorem br_cells {w:World}{g:Nat}{a0 a1 a2 a3 a4:Value}{ty:TypeId}(h:w.heap[g]?=some (.cells #[a0,a1,a2,a3,a4] ty (0,0))) :
  w.cell? ⟨g,0,none⟩=some a0∧w.cell? ⟨g,1,none⟩=some a1∧w.cell? ⟨g,2,none⟩=some a2∧w.cell? ⟨g,3,none⟩=some a3∧w.cell? ⟨g,4,none⟩=some a4 :=
 ⟨cell_of_row w g 0 _ _ _ h,cell_of_row w g 1 _ _ _ h,cell_of_row w g 2 _ _ _ h,cell_of_row w g 3 _ _ _ h,cell_of_row w g 4 _ _ _ h⟩
def brA (b:Br):Array Value:=#[.int .u64 b.addr,.slice b.pao b.pn b.pcap,.string b.reg.s,.int .i64 b.reg.rev,.slice b.reg.ao b.reg.n b.reg.cap]
theorem pwrongBridge_any (b:Br) (w:World) (hb:b.at' w) :
  Calls Tryz.prog 107 #[.agg (brA b)] w fun e w'=>e=.returned (.int .i64 (Pl.brErr b))∧Bl w w':=by
 obtain⟨hp,hreg,hn1,hn2⟩:=hb;have HX:Hid (∀W,W=w.alloc (.cells (brA b) 58)→b.pn≤16→Calls Tryz.prog 159 #[.slice b.pao b.pn b.pcap,.func (.func 158) #[] #[]] W fun e w'=>e=.returned (.bool (Vc.someTo (fun i=>Pl.oddP (b.pv i)) b.pn))∧w'=W):=fun W hW h=>pcontains_any _ _ _ _ W h (hp.below (by rw[hW];exact bA1 _ _));have HG:Hid (∀W,W=w.alloc (.cells (brA b) 58)→Calls Tryz.prog 144 #[.agg #[.string b.reg.s,.int .i64 b.reg.rev,.slice b.reg.ao b.reg.n b.reg.cap]] W fun e w'=>e=.returned (.int .i64 (Rg.wrong b.reg.s b.reg.rev b.reg.vs b.reg.ts b.reg.n))∧Bl w w'):=fun W hW=>by
  have hbl:Bl w W:=(by rw[hW];exact bA1 _ _)
  refine(gwrong_any b.reg.s b.reg.rev b.reg.ao b.reg.n b.reg.cap b.reg.vs b.reg.ts W hn2 (hreg.below hbl)).mono ?_;rintro e w' ⟨rfl,h2⟩;exact⟨rfl,hbl.trans (h2.mono hbl.size)⟩
 have HA:Hid ((w.alloc (.cells (brA b) 58)).heap[w.heap.size]?=some (.cells (brA b) 58)):=heap_alloc_last _ _;obtain⟨R,HR⟩:∃R,Hid (R=Rg.wrong b.reg.s b.reg.rev b.reg.vs b.reg.ts b.reg.n):=⟨_,rfl⟩
 obtain⟨S,HS⟩:∃S,Hid (S=Vc.someTo (fun i=>Pl.oddP (b.pv i)) b.pn):=⟨_,rfl⟩
 have HE:Hid (Pl.brErr b=if 281474976710655<b.addr then 3 else if 16<b.pn then 5 else if S=true then 3 else R):=(by rw[HR.out,HS.out];rfl)
 rw[←HR.out] at HG;rw[←HS.out] at HX;clear HR HS hp hreg hn2;obtain⟨addr,pao,pn,pcap,pv,⟨s,rev,ao,n,cap,vs,ts⟩⟩:=b;simp only[brA] at *;rw[HE.out];obtain⟨q0,q1,q2,q3,q4⟩:=br_cells HA.out;clear HA HE;by_cases h1:281474976710655<addr
 ·rw[if_pos h1];go_enter Tryz.func107,Tryz.ntmps107;(go_wp2_with fail);go_ret;exact⟨rfl,bA1 _ _⟩
 ·rw[if_neg h1];by_cases h2:16<pn
  ·rw[if_pos h2];go_enter Tryz.func107,Tryz.ntmps107;(go_wp2_with fail);go_ret;exact⟨rfl,bA1 _ _⟩
  ·rw[if_neg h2];cases S with
   | true =>
    rw[if_pos rfl];go_enter Tryz.func107,Tryz.ntmps107;go_wp2_with (go_at_call 159;refine(HX.out _ rfl (by omega)).mono ?_;rintro e w1 ⟨rfl,rfl⟩)
    go_ret;exact⟨rfl,bA1 _ _⟩
   | false =>
    rw[if_neg (by decide)];go_enter Tryz.func107,Tryz.ntmps107;go_wp2_with (first | (go_at_call 159;refine(HX.out _ rfl (by omega)).mono ?_;rintro e w1 ⟨rfl,rfl⟩) | (go_at_call 144;refine(HG.out _ rfl).mono ?_;rintro e w1 ⟨rfl,hb1⟩))
    go_ret;exact⟨rfl,hb1⟩
end
section
open Go.RowKit Go.Maps Go.WideElems Go.ChangeShapes Go.WideShapes Go.MapKept Go.ChangeMaps
def cntI {α:Type} [DecidableEq α] (f:Nat→α) (a:α):Nat→Int
 | 0=>0
 | k+1=>cntI f a k+if f k=a then 1 else 0
theorem cntI_range {α:Type} [DecidableEq α] (f:Nat→α) (a:α):∀k:Nat,0≤cntI f a k∧cntI f a k≤k
 | 0=>⟨Int.le_refl _,Int.le_refl _⟩
 | k+1=>by
  have:=cntI_range f a k;simp only[cntI];split<;>omega
theorem cntI_pos {α:Type} [DecidableEq α] (f:Nat→α) (a:α):∀k:Nat,0<cntI f a k↔Vc.someTo (fun j=>decide (f j=a)) k=true
 | 0=>⟨fun h=>by simp[cntI] at h,fun h=>by simp[Vc.someTo] at h⟩
 | k+1=>by
  have h1:=cntI_range f a k;have h2:=cntI_pos f a k;have h3:cntI f a (k+1)=cntI f a k+if f k=a then 1 else 0:=rfl
  have h4:Vc.someTo (fun j=>decide (f j=a)) (k+1)=(Vc.someTo (fun j=>decide (f j=a)) k||decide (f k=a)):=rfl;rw[h3,h4];by_cases e:f k=a
  ·rw[if_pos e,decide_eq_true e,Bool.or_true];exact⟨fun _=>rfl,fun _=>by omega⟩
  ·rw[if_neg e,decide_eq_false e,Bool.or_false,Int.add_zero];exact h2
theorem grown_cell {w w':World}{b P:Nat}{v:Value}(h:w.cell? ⟨P,0,none⟩=some v) (hg:w.grownBy w' (some b)) (hne:P≠b):w'.cell? ⟨P,0,none⟩=some v :=
 (World.cell?_of_block (w:=w) (hg.block P (block_lt_of_cell h) (fun e=>hne (by simpa using e)))).trans h
theorem mzero (w:World):(zeroValue 3).run Tryz.prog w=.ok (.int .i64 0) w:=by kernel_rfl
theorem mwf {n:Int}(h0:0≤n) (h1:n≤100000):(Lit.int .i64 n).wf=true:=WalkArith.wf_i64 (by omega)
theorem lit_inj {a b:Int}(h:(DataW.lit (.int .i64 a):DataW Unit)=.lit (.int .i64 b)):a=b:=by
 injection h with h;injection h
/- addresses -/
theorem ukeyed:Keyed Tryz.prog 34:=int_keyed Tryz.underlying34
def UCnt (w:World) (b:Nat) (f:Nat→Int) (m:Nat):Prop:=∃D:DataW Unit,w.ownsMap Tryz.prog 34 (plainElem Tryz.prog 3) b m D∧IsMap D∧∀a,(Lit.int .u64 a).wf=true→D.atKey (.int .u64 a) (.lit (.int .i64 0))=.lit (.int .i64 (cntI f a m))
theorem UCnt.same {w w':World}{b m:Nat}{f:Nat→Int}(h:UCnt w b f m) (e:w'.heap[b]?=w.heap[b]?):UCnt w' b f m:=by
 obtain⟨D,⟨es,clock,hb,r⟩,h2⟩:=h;exact⟨D,⟨es,clock,e.trans hb,r⟩,h2⟩
theorem UCnt.lt {w:World}{b m:Nat}{f:Nat→Int}(h:UCnt w b f m):b<w.heap.size:=by
 obtain⟨D,h1,_⟩:=h;exact h1.lt
theorem utake_any (P b m:Nat) (f:Nat→Int) (a:Int) (w:World) (hP:w.cell? ⟨P,0,none⟩=some (.map (some b))) (hne:P≠b) (h:UCnt w b f m) (hm:m≤1000) (hf:f m=a) (hwf:(Lit.int .u64 a).wf=true) :
  Calls Tryz.prog 157 #[.int .u64 a,.pointer (some ⟨P,0,none⟩)] w fun e w'=>e=.returned (.int .i64 (if 0<cntI f a m then 7 else 0))∧UCnt w' b f (m+1)∧w.grownBy w' (some b):=by
 obtain⟨D,ho,hD,hat⟩:=h;have hr:=cntI_range f a m;have ht:=Tryz.underlying252;have he:=Tryz.underlying3;have hkey:=keyOf_int_mk (k:=34) Tryz.underlying34 hwf;obtain⟨c,e1,e2,_⟩:=ho.lookup_int ukeyed ht he (mzero w) hkey;rw[hat a hwf] at e2;have e2:=lit_inj e2;subst e2;obtain⟨w1,e3,ho1,hg⟩:=ho.update ukeyed ht (by unfold maxLen;omega) hkey (plainElem_int he (mwf (n:=cntI f a m+1) (by omega) (by omega)));have hat1:∀x,(Lit.int .u64 x).wf=true→(D.put (.int .u64 a) (.lit (.int .i64 (cntI f a m+1)))).atKey (.int .u64 x) (.lit (.int .i64 0))=.lit (.int .i64 (cntI f x (m+1))):=by
  intro x hx;simp only[cntI];by_cases e:a=x
  ·subst e;rw[atKey_put_same hD (ukeyed.key hkey),if_pos hf]
  ·rw[atKey_put_other (fun q=>e (by injection q with _ q;exact q.symm)),hat x hx,if_neg (by rw[hf];exact e),Int.add_zero]
 obtain⟨c',e4,e5,_⟩:=ho1.lookup_int ukeyed ht he (mzero w1) hkey;rw[hat1 a hwf] at e5;have e5:=lit_inj e5;simp only[cntI,if_pos hf] at e5;subst e5;have hP1:w1.cell? ⟨P,0,none⟩=some (.map (some b)):=grown_cell hP hg hne;have HF:Hid (UCnt w1 b f (m+1)∧w.grownBy w1 (some b)):=⟨⟨_,ho1,hD.put _ _,hat1⟩,hg⟩
 clear hat1 ho1 hat ho hD hg hf;generalize cntI f a m=t at *;have wt:IntKind.i64.wrap (t+1)=t+1:=wraps_i64 _ (by omega) (by omega);by_cases h0:0<t
 ·rw[if_pos h0];have g1:(1:Int)<t+1:=(by omega)
  go_enter Tryz.func157,Tryz.ntmps157;(go_wp2_with fail);go_ret;exact⟨rfl,HF.out⟩
 ·rw[if_neg h0];have g1:¬(1:Int)<t+1:=(by omega)
  go_enter Tryz.func157,Tryz.ntmps157;(go_wp2_with fail);go_ret;exact⟨rfl,HF.out⟩
theorem utaker_any (f:Nat→Int) (w:World) :
  Calls Tryz.prog 104 #[] w fun e w'=>e=.returned (.func (.func 157) #[] #[.pointer (some ⟨w.heap.size+1,0,none⟩)])∧w'.cell? ⟨w.heap.size+1,0,none⟩=some (.map (some w.heap.size))∧UCnt w' w.heap.size f 0∧Bl w w':=by
 have hmm:=@run_makeMap Tryz.prog;go_enter Tryz.func104,Tryz.ntmps104;(go_wp2_with fail);go_ret;exact⟨rfl,cell_of_row _ _ 0 _ _ _ (heap_alloc2_new w (.map #[] 0) (.cells #[.map (some w.heap.size)] 252)),⟨.map [],(World.ownsMap_made w _ _ _).alloc _,isMap_empty,fun _ _=>rfl⟩,bA2 _ _ _⟩
/- ports -/
theorem prowT:(139:TypeId)<Tryz.prog.types.size:=of_decide_eq_true (by kernel_rfl)
theorem pwide:(match Tryz.prog.underlying 139 with | some (.array _ _) | some (.struct _)=>true | _=>false)=true:=by rw[Tryz.underlying139]
theorem pklaw:WideMaps.KeyLaw Tryz.prog 139:=deep_law_laid laidOut (m:=3) (by omega) prowT (by kernel_rfl) pwide
theorem pkeyed:Keyed Tryz.prog 139:=Keyed.of_law pklaw
def pkl (x:Int×Int):Lit:=.string (keyBytes [.int .i64 x.1,.int .i64 x.2])
def pV (x:Int×Int):Value:=.agg #[.int .i64 x.1,.int .i64 x.2]
theorem ptypes:∃m,Tryz.prog.types.size=m+1:=⟨Tryz.prog.types.size-1,by kernel_rfl⟩
theorem pkeyType:Tryz.prog.keyType 139=true:=by kernel_rfl
theorem pcells2:Tryz.prog.cellsOf 139=2:=by kernel_rfl
theorem pcells1:Tryz.prog.cellsOf 3=1:=by kernel_rfl
theorem pkey_of (x:Int×Int) (h1:(Lit.int .i64 x.1).wf=true) (h2:(Lit.int .i64 x.2).wf=true):keyOf Tryz.prog 139 (pV x)=some (pkl x):=by
 obtain⟨m,hm⟩:=ptypes;unfold keyOf pV;simp only[Tryz.underlying139];rw[if_pos (by simp[pkeyType,Value.formed,Tryz.underlying139,pcells2]),hm];unfold Program.keyLits;simp only[Tryz.underlying139,Value.cells];rw[if_pos (by rw[pcells2];exact⟨rfl,by simp⟩)];simp[pcells1,Program.keyLits,Tryz.underlying3,h1,h2,pkl]
abbrev OwnP (w:World) (b n:Nat) (D:DataW Unit):Prop:=w.ownsMap Tryz.prog 139 (plainElem Tryz.prog 3) b n D
theorem ownP_same {w w':World}{b n:Nat}{D:DataW Unit}(h:OwnP w b n D) (e:w'.heap[b]?=w.heap[b]?):OwnP w' b n D:=by
 obtain⟨es,clock,hb,r⟩:=h;exact⟨es,clock,e.trans hb,r⟩
theorem wfP0:(Lit.int .i64 0).wf=true:=by decide
theorem entryP_own {w:World}{b n:Nat}{D:DataW Unit}{key:Value}{kl:Lit}(h:OwnP w b n D) (hkey:keyOf Tryz.prog 139 key=some kl) (hn:n<maxLen) (hD:IsMap D) :
  ∃(c:Int) (v0:Value) (st:Nat) (w1:World),(Instr.lookup 254 (.map (some b)) key false).run Tryz.prog w=.ok (.int .i64 c) w∧D.atKey kl (.lit (.int .i64 0))=.lit (.int .i64 c) ∧
   (Instr.mapEntry 254 (.map (some b)) key).run Tryz.prog w=.ok (.tuple #[v0,goInt st]) w1∧(Instr.lookup 254 (.map (some b)) key false).run Tryz.prog w1=.ok (.int .i64 c) w1 ∧
   ∀x,(Lit.int .i64 x).wf=true→∃w2,(Instr.entryStore 254 (.map (some b)) (goInt st) (.int .i64 x)).run Tryz.prog w1=.ok () w2∧OwnP w2 b (n+1) (D.put kl (.lit (.int .i64 x)))∧w.grownBy w2 (some b):=by
 have ht:=Tryz.underlying254;have he:=Tryz.underlying3;obtain⟨c,hl,hat,_⟩:=h.lookup_int pkeyed ht he (mzero w) hkey;have h':=h;obtain⟨es,clock,hb,F,hs,eD⟩:=h';obtain⟨v0,st,es1,clock1,hrun,_,hst⟩:=entry_then_store pklaw ht mzero hb F hkey;refine⟨c,v0,st,_,hl,hat,hrun,?_,fun x hx => ?_⟩
 ·have hb1:(setBlock w b (.map es1 clock1)).heap[b]?=some (.map es1 clock1):=heap_setBlock_same hb _;rcases pklaw.find w hkey es.toList F.keys with⟨q1,q2⟩ | ⟨j,e0,q1,q2,q3⟩
  ·have hr2:(Instr.mapEntry 254 (.map (some b)) key).run Tryz.prog w=.ok (.tuple #[.int .i64 0,goInt clock]) (setBlock w b (.map (es.push ⟨key,.int .i64 0,clock⟩) (clock+1))):=by
    simp[Instr.mapEntry,run_underlying ht,MapKept.run_getObj_map hb,pklaw.check w false hkey,q1,MapKept.run_setObj_map _ hb,Result.andThen,setBlock]
   have hu:(Instr.mapUpdate 254 (.map (some b)) key (.int .i64 0)).run Tryz.prog w=.ok () (setBlock w b (.map (es.push ⟨key,.int .i64 0,clock⟩) (clock+1))):=by
    simp[Instr.mapUpdate,run_underlying ht,MapKept.run_getObj_map hb,pklaw.check w false hkey,q1,MapKept.run_setObj_map _ hb,Result.andThen,setBlock]
   obtain⟨w',hu',hown,_⟩:=h.update pkeyed ht hn hkey (plainElem_int he wfP0);rw[hu] at hu';have ew:setBlock w b (.map (es.push ⟨key,.int .i64 0,clock⟩) (clock+1))=w':=by injection hu'
   rw[hr2] at hrun;have e1:setBlock w b (.map (es.push ⟨key,.int .i64 0,clock⟩) (clock+1))=setBlock w b (.map es1 clock1):=by injection hrun
   rw[←e1,ew];obtain⟨c',hl',hat',_⟩:=hown.lookup_int pkeyed ht he (mzero w') hkey;rw[hl'];rw[atKey_put_same hD (pkeyed.key hkey)] at hat';have h0:D.atKey kl (.lit (.int .i64 0))=.lit (.int .i64 0):=by
    rcases fit_look false pkeyed ht (mzero w) hb F hkey with⟨_,_,k3⟩ | ⟨e0,y,k1,k2,_⟩
    ·rw[eD];exact k3 _
    ·exact absurd k2 (q2 e0 k1)
   rw[h0] at hat;injection hat with hat;injection hat with _ hat;injection hat' with hat';injection hat' with _ hat';rw[←hat,←hat']
  ·have hj:es[j]?=some e0:=(by simpa using q2)
   have hsame:es.modify j (fun e=>{ e with key:=key })=es:=by
    apply Array.ext'
    rw[Array.toList_modify,modify_eq_set _ _ _ _ q2];have:({ e0 with key:=key }:MapEntry)=e0:=by rw[←q3]
    rw[this];exact set_self _ _ _ q2
   have hr2:(Instr.mapEntry 254 (.map (some b)) key).run Tryz.prog w=.ok (.tuple #[e0.val,goInt e0.born]) (setBlock w b (.map es clock)):=by
    simp[Instr.mapEntry,run_underlying ht,MapKept.run_getObj_map hb,pklaw.check w false hkey,q1,hj,q3,pklaw.stays w hkey,hsame,MapKept.run_setObj_map _ hb,Result.andThen,setBlock]
   rw[hr2] at hrun;have e1:setBlock w b (.map es clock)=setBlock w b (.map es1 clock1):=by injection hrun
   rw[←e1];have hown:=ownP_same (w':=setBlock w b (.map es clock)) h ((heap_setBlock_same hb _).trans hb.symm);obtain⟨c',hl',hat',_⟩:=hown.lookup_int pkeyed ht he (mzero _) hkey;rw[hl'];rw[hat] at hat';injection hat' with hat';injection hat' with _ hat';rw[hat']
 ·have hb1:(setBlock w b (.map es1 clock1)).heap[b]?=some (.map es1 clock1):=heap_setBlock_same hb _;obtain⟨es',clock',k1,k2⟩:=hst _ (.int .i64 x) hb1;obtain⟨w',hu',hown,hg⟩:=h.update pkeyed ht hn hkey (plainElem_int he hx);rw[k2] at hu';have ew:setBlock w b (.map es' clock')=w':=by injection hu'
  refine⟨_,k1,?_,?_⟩
  ·refine ownP_same hown ?_;rw[←ew,heap_setBlock_same hb1,heap_setBlock_same hb]
  ·exact⟨rfl,rfl,rfl,by simp[setBlock],fun i hi hne=>by
    rw[heap_setBlock_other hb1 _ (fun e=>hne (by rw[e])),heap_setBlock_other hb _ (fun e=>hne (by rw[e]))]⟩
def PCnt (w:World) (b:Nat) (f:Nat→Int×Int) (m:Nat):Prop:=∃D:DataW Unit,OwnP w b m D∧IsMap D∧∀a:Int×Int,(Lit.int .i64 a.1).wf=true→(Lit.int .i64 a.2).wf=true→D.atKey (pkl a) (.lit (.int .i64 0))=.lit (.int .i64 (cntI f a m))
theorem PCnt.same {w w':World}{b m:Nat}{f:Nat→Int×Int}(h:PCnt w b f m) (e:w'.heap[b]?=w.heap[b]?):PCnt w' b f m:=by
 obtain⟨D,h1,h2⟩:=h;exact⟨D,ownP_same h1 e,h2⟩
theorem PCnt.lt {w:World}{b m:Nat}{f:Nat→Int×Int}(h:PCnt w b f m):b<w.heap.size:=by
 obtain⟨D,h1,_⟩:=h;exact h1.lt
theorem pkl_inj {x y:Int×Int}(x1:(Lit.int .i64 x.1).wf=true) (x2:(Lit.int .i64 x.2).wf=true) (y1:(Lit.int .i64 y.1).wf=true) (y2:(Lit.int .i64 y.2).wf=true) (e:pkl x=pkl y):x=y:=by
 have h1:=pkey_of x x1 x2;rw[e] at h1;have:=pkeyed.inj h1 (pkey_of y y1 y2);obtain⟨a,b⟩:=x;obtain⟨a',b'⟩:=y;simp only[pV,Value.agg.injEq,Array.mk.injEq,List.cons.injEq,Value.int.injEq,true_and,and_true] at this;obtain⟨e1,e2⟩:=this;subst e1;subst e2;rfl
theorem tC2 {w:World}{g:Nat}{a0 a1:Value}{ty:TypeId}(h:w.heap[g]?=some (.cells #[a0,a1] ty (0,0))):w.cell? ⟨g,0,none⟩=some a0∧w.cell? ⟨g,1,none⟩=some a1 :=
 ⟨cell_of_row w g 0 _ _ _ h,cell_of_row w g 1 _ _ _ h⟩
theorem grown_block {w w':World}{b g:Nat}{o:Obj}(h:w.heap[g]?=some o) (hg:w.grownBy w' (some b)) (hne:g≠b):w'.heap[g]?=some o :=
 (hg.block g (gSm.1 h).1 (fun e=>hne (by simpa using e))).trans h
theorem ptake_any (P b m:Nat) (f:Nat→Int×Int) (a:Int×Int) (w:World) (hP:w.cell? ⟨P,0,none⟩=some (.map (some b))) (hne:P≠b) (h:PCnt w b f m) (hm:m≤1000) (hf:f m=a) (h1:(Lit.int .i64 a.1).wf=true) (h2:(Lit.int .i64 a.2).wf=true) :
  Calls Tryz.prog 160 #[.agg #[.int .i64 a.1,.int .i64 a.2],.pointer (some ⟨P,0,none⟩)] w fun e w'=>e=.returned (.int .i64 (if 0<cntI f a m then 7 else 0))∧PCnt w' b f (m+1)∧w.grownBy w' (some b):=by
 have hlt:=h.lt;have hPlt:=block_lt_of_cell hP;simp only at hPlt;obtain⟨X,HX⟩:∃X,Hid (X=w.alloc (.cells #[.int .i64 a.1,.int .i64 a.2] 139)):=⟨_,rfl⟩
 have hXb:X.heap[w.heap.size]?=some (.cells #[.int .i64 a.1,.int .i64 a.2] 139):=(by rw[HX.out];exact heap_alloc_last _ _)
 have hXg:w.grownBy X.drew (some b):=by
  rw[HX.out];exact⟨rfl,rfl,rfl,by simp[World.drew],fun i hi _=>(bA1 w _).block i hi⟩
 have hX:PCnt X.drew b f m:=h.same (by rw[HX.out];exact(bA1 w _).block b hlt);obtain⟨D,ho,hD,hat⟩:=hX;have hr:=cntI_range f a m;have hkey:=pkey_of a h1 h2;obtain⟨c,v0,st,w1,e1,e2,e3,e4,e5⟩:=entryP_own ho hkey (by unfold maxLen;omega) hD;rw[hat a h1 h2] at e2;have e2:=lit_inj e2;subst e2;obtain⟨w2,e6,ho2,hg⟩:=e5 (cntI f a m+1) (mwf (by omega) (by omega));have hat1:∀x:Int×Int,(Lit.int .i64 x.1).wf=true→(Lit.int .i64 x.2).wf=true→(D.put (pkl a) (.lit (.int .i64 (cntI f a m+1)))).atKey (pkl x) (.lit (.int .i64 0))=.lit (.int .i64 (cntI f x (m+1))):=by
  intro x x1 x2;simp only[cntI];by_cases e:a=x
  ·subst e;rw[atKey_put_same hD (pkeyed.key hkey),if_pos hf]
  ·rw[atKey_put_other (fun q=>e (pkl_inj h1 h2 x1 x2 q.symm)),hat x x1 x2,if_neg (by rw[hf];exact e),Int.add_zero]
 obtain⟨c',e7,e8,_⟩:=ho2.lookup_int pkeyed Tryz.underlying254 Tryz.underlying3 (mzero w2) hkey;rw[hat1 a h1 h2] at e8;have e8:=lit_inj e8;simp only[cntI,if_pos hf] at e8;subst e8;have q0:w2.cell? ⟨P,0,none⟩=some (.map (some b)):=grown_cell (grown_cell hP hXg hne) hg hne;have r0:X.cell? ⟨P,0,none⟩=some (.map (some b)):=(show X.drew.cell? ⟨P,0,none⟩=_ from grown_cell hP hXg hne)
 obtain⟨q1,q2⟩:=tC2 (grown_block (w:=X.drew) hXb hg (by omega));obtain⟨r1,r2⟩:=tC2 hXb;have HF:Hid (PCnt w2 b f (m+1)∧w.grownBy w2 (some b)):=⟨⟨_,ho2,hD.put _ _,hat1⟩,hXg.trans hg⟩
 unfold pV goInt at *;clear hat1 ho2 hat ho hD hg hf hXg hXb e5 hkey h hP;generalize cntI f a m=t at *;obtain⟨x,y⟩:=a;simp only at *;have wt:IntKind.i64.wrap (t+1)=t+1:=wraps_i64 _ (by omega) (by omega);by_cases h0:0<t
 ·rw[if_pos h0];have g1:(1:Int)<t+1:=(by omega)
  go_enter Tryz.func160,Tryz.ntmps160;(go_wp2_with fail);rw[←HX.out];go_region
  (all_goals go_wp2_with fail);(all_goals go_ret);all_goals exact⟨rfl,HF.out⟩
 ·rw[if_neg h0];have g1:¬(1:Int)<t+1:=(by omega)
  go_enter Tryz.func160,Tryz.ntmps160;(go_wp2_with fail);rw[←HX.out];go_region
  (all_goals go_wp2_with fail);(all_goals go_ret);all_goals exact⟨rfl,HF.out⟩
theorem ptaker_any (f:Nat→Int×Int) (w:World) :
  Calls Tryz.prog 108 #[] w fun e w'=>e=.returned (.func (.func 160) #[] #[.pointer (some ⟨w.heap.size+1,0,none⟩)])∧w'.cell? ⟨w.heap.size+1,0,none⟩=some (.map (some w.heap.size))∧PCnt w' w.heap.size f 0∧Bl w w':=by
 have hmm:=@run_makeMap Tryz.prog;go_enter Tryz.func108,Tryz.ntmps108;(go_wp2_with fail);go_ret;exact⟨rfl,cell_of_row _ _ 0 _ _ _ (heap_alloc2_new w (.map #[] 0) (.cells #[.map (some w.heap.size)] 254)),⟨.map [],(World.ownsMap_made w _ _ _).alloc _,isMap_empty,fun _ _ _=>rfl⟩,bA2 _ _ _⟩
end
end Go.Proofs.YtflghpnpjmodaaaGreatDoor
