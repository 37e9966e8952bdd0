/- LanApart: the region with two Idents -/
import Derived.Test.YtelebnancdjjiaaGreatDoorL38
import Derived.Test.YtelebnancdjjiaaGreatDoorL39
import Derived.ArgAppend
import Derived.Lib.LazyBuf
set_option maxRecDepth 100000
set_option maxHeartbeats 6000000
namespace Go.Proofs.YtelebnancdjjiaaGreatDoor
section
open Go.RowKit
def OwnC (w:World) (base:Nat) (v:Value) (n:Nat) (f:Nat→Int):Prop :=
 ∃g cap,v=.slice (some ⟨g,0,none⟩) n cap∧base≤g∧g<w.heap.size∧n≤cap∧(∀i,i<n→w.cell? ⟨g,i,none⟩=some (.int .u8 (f i)))∧(∀i,i<cap→(w.cell? ⟨g,i,none⟩).isSome=true)∧(∀i,i<cap→w.frozen? ⟨g,i,none⟩=false)
theorem OwnC.below {w w':World}{base n:Nat}{v:Value}{f:Nat→Int}(h:OwnC w base v n f) (hb:Bl w w'):OwnC w' base v n f:=by
 obtain⟨g,cap,e,h1,h2,h3,h4,h5,h6⟩:=h;exact⟨g,cap,e,h1,Nat.lt_of_lt_of_le h2 hb.size,h3,fun i hi=>(hb.cell (by exact h2)).trans (h4 i hi),fun i hi=>by rw[hb.cell (by exact h2)];exact h5 i hi,fun i hi=>by rw[hb.frozen (by exact h2)];exact h6 i hi⟩
theorem OwnC.congr {w:World}{base n:Nat}{v:Value}{f g:Nat→Int}(h:OwnC w base v n f) (e:∀i,i<n→f i=g i):OwnC w base v n g:=by
 obtain⟨g,cap,e1,h1,h2,h3,h4,h5⟩:=h;exact⟨g,cap,e1,h1,h2,h3,fun i hi=>by rw[←e i hi];exact h4 i hi,h5⟩
theorem OwnC.bytes {w:World}{base n:Nat}{v:Value}{f:Nat→Int}(h:OwnC w base v n f):∃g cap,v=.slice (some ⟨g,0,none⟩) n cap∧ByteRow w (some ⟨g,0,none⟩) n cap f:=by
 obtain⟨g,cap,e1,h1,h2,h3,h4,h5⟩:=h;exact⟨g,cap,e1,h3,fun _=>⟨g,0,rfl,h2,fun i hi=>by rw[Nat.zero_add];exact h4 i hi⟩⟩
theorem ownC_of_row {w:World}{g cap n base:Nat}{cur:Array Value}{f:Nat→Int}{fr:Nat×Nat}(h:w.heap[g]?=some (.cells cur 5 fr)) (hfr:fr=(0,0)∨cur.size≤fr.1) (hsz:cur.size=cap) (hn:n≤cap) (hb:base≤g) (hc:∀i,i<n→cur[i]?=some (.int .u8 (f i))) :
  OwnC w base (.slice (some ⟨g,0,none⟩) n cap) n f:=by
 have hcell:∀i,w.cell? ⟨g,i,none⟩=cur[i]?:=fun i=>cell_of_row w g i _ _ _ h;refine⟨g,cap,rfl,hb,(gSm.1 h).1,hn,fun i hi=>(hcell i).trans (hc i hi),fun i hi => ?_,fun i hi => ?_⟩
 ·rw[hcell i,Array.getElem?_eq_getElem (by omega)];rfl
 ·rcases hfr with rfl | hfr
  ·exact frozen_of_row _ _ _ _ _ h
  ·unfold World.frozen?;rw[h];simp;omega
theorem ownC_of_owns {w:World}{base n:Nat}{v:Value}{f:Nat→Int}(h:w.ownsRow base 5 1 v n (bytesL n f)) (hn:0<n):OwnC w base v n f:=by
 obtain⟨_,h2⟩:=h;rcases h2 with⟨rfl,rfl⟩ | ⟨g,cap,cur,rfl,hg,hh,hnc,hm,hs,ht⟩
 ·omega
 ·refine ownC_of_row hh (Or.inl rfl) (by omega) hnc hg (fun i hi => ?_);have h3:(cur.toList.take (n*1))[i]?=(bytesL n f)[i]?:=(by rw[ht])
  rw[Nat.mul_one,List.getElem?_take_of_lt hi,Array.getElem?_toList] at h3;rw[h3];simp[bytesL,hi]
theorem wpList_append_c {w:World}{ops:Array Oper}{rest:List Oper}{o:Oper}{a:Act}{Q:Exit→Act→World→Prop}(hgd:o.guard=none) (s x:Operand)
  (ho:o.op=.call { callee:=.builtin .append,args:=#[s,x],argTypes:=#[29,29] }) (base:Nat)
  (v:Value) (n:Nat) (f:Nat→Int) (hs:a.eval s=v) (hown:OwnC w base v n f)
  (xg xo m c:Nat) (bs:Nat→Int) (hx:a.eval x=.slice (some ⟨xg,xo,none⟩) m c) (hr:ByteRow w (some ⟨xg,xo,none⟩) m c bs) (hm:0<m) (hb:n+m≤1000000) (hbase:base≤w.heap.size)
  (h:∀v' w',OwnC w' base v' (n+m) (cat n f bs)→Below base w w'→wpList Tryz.prog ops Q rest (a.put o.dst v') w'):wpList Tryz.prog ops Q (o :: rest) a w:=by
 obtain⟨i0,hi,hz0,hz1,hz2⟩:=info_parts info5;obtain⟨g,cap,rfl,h1,h2,h3,h4,h5,h6⟩:=hown;have hlen:∀(k:Nat) (q:Nat→Int),(bytesL k q).length=k*1:=fun k q=>by rw[bytesL_length,Nat.mul_one]
 refine wpList_append_arg w hgd s x 29 ho 5 i0 (.int .u8 0) 1 1 Tryz.underlying29 hi hz0 hz1 hz2 rfl (by decide) g 0 n cap (bytesL n f) hs (hlen n f) (fun j u hj => ?_) ⟨xg,xo,none⟩ m c (bytesL m bs) hx (hlen m bs) (src_row hr rfl) (bytesL_one _ _) (fun hroom j hj => ?_) (by unfold maxLen;omega) (by omega) (fun hroom => ?_) (fun _ v' w' hown' hg' => ?_)
 ·obtain⟨hj1,rfl⟩:=bytesL_get _ _ _ _ hj;rw[Nat.zero_add];exact h4 j hj1
 ·rw[bytesL_length] at hj;rw[Nat.zero_add,Nat.mul_one];exact⟨h5 _ (by omega),h6 _ (by omega)⟩
 ·have hin:=World.cell?_setCells_in g (bytesL m bs) (0+n*1) w (fun j hj=>by rw[bytesL_length] at hj;rw[Nat.zero_add,Nat.mul_one];exact h5 _ (by omega));have hout:=World.cell?_setCells_out g (bytesL m bs) (0+n*1) w;have hcell:∀i,i<n+m→(w.setCells g (0+n*1) (bytesL m bs)).cell? ⟨g,i,none⟩=some (.int .u8 (cat n f bs i)):=by
   intro i hi;unfold cat;by_cases e:i<n
   ·rw[if_pos e,hout ⟨g,i,none⟩ (fun _ _=>Or.inl (by show i<0+n*1;omega))];exact h4 i e
   ·rw[if_neg e];have h7:=hin (i-n) (by rw[bytesL_length];omega);rw[show 0+n*1+(i-n)=i by omega] at h7;rw[h7];simp[bytesL]
  refine h _ _ ⟨g,cap,rfl,h1,?_,hroom,hcell,fun i hi => ?_,fun i hi => ?_⟩ (below_setCells h1 _ _ _ (Below.refl _ _))
  ·exact block_lt_of_cell (hcell 0 (by omega))
  ·by_cases e:i<n+m
   ·rw[hcell i e];rfl
   ·rw[hout ⟨g,i,none⟩ (fun _ _=>Or.inr (by rw[bytesL_length];show 0+n*1+m≤i;omega))];exact h5 i hi
  ·rw[World.frozen?_setCells];exact h6 i hi
 ·rw[bytesL_cat] at hown';have h7:=ownC_of_owns hown' (by omega);obtain⟨g',cap',e1,q1,q2⟩:=h7;exact h v' w' ⟨g',cap',e1,by omega,q2⟩ ((Below.refl _ _).grown hg' hbase (fun k hk=>by cases hk))
theorem rdigest_any (s:ByteArray) (rev:Int) (ao:Option Addr) (n cap:Nat) (vs ts:Nat→Int) (w:World) (hR:Rg.Right vs ts n) (hr:WayRow w ao n cap vs ts) :
  Calls Tryz.prog 43 #[.agg #[.string s,.int .i64 rev,.slice ao n cap]] w fun e w'=>∃ro rc,e=.returned (.slice ro 16 rc)∧ByteRow w' ro 16 rc (Md.dg (Rg.dig vs ts n))∧Bl w w':=by
 have HRt:Hid (Rg.Right vs ts n):=hR;have HR:Hid (WayRow w ao n cap vs ts):=hr;clear hr hR;go_enter Tryz.func43,Tryz.ntmps43;(go_wp2_with fail);refine(rtable_any s rev ao n cap vs ts _ HRt.out (HR.out.below (bA1 _ _))).mono ?_;rintro e w1 ⟨g,rfl,hrow,hb1⟩;have HG:Hid (w1.heap[g]?=some (.cells (rowF 4096 (fun i=>Rg.tree vs ts (i:Int) n)) 5)):=hrow;have HB1:Hid (Bl w w1):=(bA1 w _).trans (hb1.mono (by simp));have hgl:g<w1.heap.size:=(gSm.1 hrow).1;clear hrow hb1 HR;(go_wp2_with fail);go_loopw [3,9] (fun v i wr=>∃k:Nat,(k:Int)≤4096∧i=.int .i64 k∧Hid (wr.ownsRow w1.heap.size 5 1 v (2*k) (bytesL (2*k) (Rg.pairs vs ts n)))∧Hid (Bl w1 wr)) (fun _ i _=>4096-(intOf i).toNat)
 case atStart=>exact⟨0,by omega,rfl,World.ownsRow_nil _ _ _ _,Below.refl _ _⟩
 case round =>
  obtain⟨k,hk,rfl,hX,hB⟩:=hrel;by_cases hlt:(k:Int)<4096
  ·have hT:=Rg.tree_range HRt.out (k:Int) n (Nat.le_refl _);have c4:wr.cell? ⟨g,k,none⟩=some (.int .u8 (Rg.tree vs ts (k:Int) n)):=(hB.out.cell (by exact hgl)).trans ((cell_of_row _ _ _ _ _ _ HG.out).trans (rowF_get _ _ _ (by omega)));have HY:Hid ((0:Int)=Rg.pairs vs ts n (2*k)):=(by rw[Rg.pairs_even];exact(rfl:(0:Int)=0))
   have HZ:Hid (Rg.tree vs ts (k:Int) n=Rg.pairs vs ts n (2*k+1)):=(by rw[Rg.pairs_odd];exact(rfl:Rg.tree vs ts (k:Int) n=Rg.tree vs ts (k:Int) n))
   have hsz:=hB.out.size;clear HG;generalize Rg.tree vs ts (k:Int) n=t at *;go_wp2_with (at_builtin;refine wpList_append_pair rfl (.tmp 13) (.tmp 15) rfl w1.heap.size _ (2*k) (Rg.pairs vs ts n) rfl _ _ hX.out hsz rfl HY.out HZ.out (by omega) ?_;intro v3 w3 ho3 hb3;have HO3:Hid (w3.ownsRow w1.heap.size 5 1 v3 (2*(k+1)) (bytesL (2*(k+1)) (Rg.pairs vs ts n))):=ho3;have HB3:Hid (Bl w1 w3):=hB.out.trans hb3;clear ho3 hb3)
   exact⟨⟨k+1,by omega,by go_num,HO3,HB3⟩,by simp[intOf];omega⟩
  ·obtain rfl:k=4096:=by omega
   obtain⟨bo,bc,rfl,hbr,_,hnil,_⟩:=owns_row (n:=8192) (f:=Rg.pairs vs ts n) (by exact hX.out);have HBR:Hid (ByteRow wr bo 8192 bc (Rg.pairs vs ts n)):=hbr;have HNL:Hid (bo=none→8192=0∧bc=0):=hnil;have HBW:Hid (Bl w wr):=HB1.out.trans (hB.out.mono HB1.out.size);have HPR:Hid (∀i,i<8192→0≤Rg.pairs vs ts n i∧Rg.pairs vs ts n i≤255):=fun i _=>Rg.pairs_range HRt.out i;have HM:Hid (∀W,Bl wr W→W.heap[wr.heap.size]?=some (.cells (rowF 16 Rg.key) 5)→Calls Tryz.prog 70 #[.slice (some ⟨wr.heap.size,0,none⟩) 16 16,.slice bo 8192 bc] W fun e w'=>∃ro rc,e=.returned (.slice ro 16 rc)∧Hid (ByteRow w' ro 16 rc (Md.dg (Rg.dig vs ts n)))∧Hid (Bl w w')):=by
    intro W hW hrow;refine(rmac_small _ _ 16 16 8192 bc Rg.key (Rg.pairs vs ts n) W ((ByteRow.of_row (off:=0) (n:=16) (cap:=16) hrow (by omega) (Nat.le_refl _)).congr (fun i _=>by rw[Nat.zero_add])) (HBR.out.below hW) HNL.out (by omega) HPR.out (by omega)).mono ?_;rintro e w' ⟨ro,rc,rfl,h1,h2⟩;have hW2:Bl w W:=HBW.out.trans (hW.mono HBW.out.size);exact⟨ro,rc,rfl,h1,hW2.trans (h2.mono hW2.size)⟩
   clear hX hB hbr hnil HG HBR HNL HPR;go_wp2_with (go_at_call 70;refine(HM.out _ (bA1 _ _) (heap_alloc_last _ _)).mono ?_;rintro e w3 ⟨ro,rc,rfl,HR3,HB3⟩)
   go_ret;exact⟨ro,rc,rfl,HR3.out,HB3.out⟩
def slen:Value→Nat
 | .slice _ n _=>n
 | _=>0
theorem OwnC.from {w w':World}{base n:Nat}{v:Value}{f:Nat→Int}(h:OwnC w base v n f) (hb:Bl w w'):OwnC w' base v n f:=h.below hb
theorem one_new (w:World) (y:Int):ByteRow (w.alloc (.cells #[.int .u8 y] 5)) (some ⟨w.heap.size,0,none⟩) 1 1 (fun _=>y):=by
 have hl:(w.alloc (.cells #[.int .u8 y] 5)).heap[w.heap.size]?=some (.cells (rowF 1 (fun _=>y)) 5):=heap_alloc_last _ _;exact ByteRow.of_row (off:=0) (n:=1) (cap:=1) hl (by omega) (Nat.le_refl _)
theorem two_new (w:World) (y z:Int):ByteRow (w.alloc (.cells #[.int .u8 y,.int .u8 z] 5)) (some ⟨w.heap.size,0,none⟩) 2 2 (fun i=>if i=0 then y else z):=by
 have hl:(w.alloc (.cells #[.int .u8 y,.int .u8 z] 5)).heap[w.heap.size]?=some (.cells (rowF 2 (fun i=>if i=0 then y else z)) 5):=heap_alloc_last _ _;exact(ByteRow.of_row (off:=0) (n:=2) (cap:=2) hl (by omega) (Nat.le_refl _)).congr (fun i _=>by rw[Nat.zero_add])
theorem rident_new (s:ByteArray) (rev:Int) (ao:Option Addr) (n cap:Nat) (vs ts:Nat→Int) (w:World) (hs:s.size≤32) (hv:0≤rev∧rev≤65535) (hR:Rg.Right vs ts n) (hr:WayRow w ao n cap vs ts) :
  Calls Tryz.prog 20 #[.agg #[.string s,.int .i64 rev,.slice ao n cap]] w fun e w'=>∃ro rc,e=.returned (.slice ro 50 rc)∧ByteRow w' ro 50 rc (Rg.ident s rev (Md.dg (Rg.dig vs ts n)))∧Bl w w'∧∀ad,ro=some ad→w.heap.size<ad.block:=by
 have HRt:Hid (Rg.Right vs ts n):=hR;obtain⟨P,HP⟩:∃P,Hid (P=Rg.ident s rev (Md.dg (Rg.dig vs ts n))):=⟨_,rfl⟩
 have HP0:Hid (∀i,i<s.size→Rg.nb s i=P i):=by
  intro i hi;rw[HP.out];unfold Rg.ident;rw[if_pos (by omega),if_pos hi]
 have HP1:Hid (∀k,s.size≤k→k<32→∀i,i<k+1→cat k P (fun _=>0) i=P i):=by
  intro k h1 h2 i hi;unfold cat;by_cases e:i<k
  ·rw[if_pos e]
  ·rw[if_neg e,HP.out];unfold Rg.ident;rw[if_pos (by omega),if_neg (by omega)]
 have HP2:Hid (∀i,i<34→cat 32 P (fun i=>if i=0 then rev/256 else rev%256) i=P i):=by
  intro i hi;unfold cat;by_cases e:i<32
  ·rw[if_pos e]
  ·rw[if_neg e,HP.out];unfold Rg.ident;rw[if_neg e];show(if i-32=0 then rev/256 else rev%256)=_;by_cases e2:i=32
   ·rw[if_pos (show i-32=0 by omega),if_pos e2]
   ·rw[if_neg (show ¬i-32=0 by omega),if_neg e2,if_pos (show i=33 by omega)]
 have HP3:Hid (∀i,i<50→cat 34 P (Md.dg (Rg.dig vs ts n)) i=P i):=by
  intro i hi;unfold cat;by_cases e:i<34
  ·rw[if_pos e]
  ·rw[if_neg e,HP.out];unfold Rg.ident;rw[if_neg (by omega),if_neg (by omega),if_neg (by omega)]
 obtain⟨ccap,cur,w1,hrun,hbr,hb1,hz1,hrow1,hcs1,hcl1⟩:=conv_bytes (w.alloc (.cells #[.string s,.int .i64 rev,.slice ao n cap] 63)) s;have hza:(w.alloc (.cells #[.string s,.int .i64 rev,.slice ao n cap] 63)).heap.size=w.heap.size+1:=(by simp)
 unfold Bl at hb1;rw[hza] at hrun hbr hb1 hz1 hrow1;have HO1:Hid (OwnC w1 (w.heap.size+1) (.slice (some ⟨w.heap.size+1,0,none⟩) s.size ccap) s.size P):=by
  refine(ownC_of_row (f:=Rg.nb s) hrow1 (Or.inr (Nat.le_refl _)) hcs1 hcl1 (Nat.le_refl _) (fun i hi => ?_)).congr HP0.out;obtain⟨b,off,e0,_,hc⟩:=hbr.2 (by omega);cases e0
  have:=hc i hi;rw[Nat.zero_add,cell_of_row _ _ _ _ _ _ hrow1] at this;exact this
 have HW:Hid (∀W,Below (w.heap.size+1) w1 W→W.cell? ⟨w.heap.size,0,none⟩=some (.string s)∧W.cell? ⟨w.heap.size,1,none⟩=some (.int .i64 rev)∧W.cell? ⟨w.heap.size,2,none⟩=some (.slice ao n cap)∧WayRow W ao n cap vs ts∧Bl w W∧w.heap.size+2≤W.heap.size):=by
  intro W hW;have hb2:=hb1.trans hW;have h:=rg_cells ((hb2.block w.heap.size (by omega)).trans (heap_alloc_last w (.cells #[.string s,.int .i64 rev,.slice ao n cap] 63)));have hl:Bl w W:=(bA1 w _).trans (hb2.mono (by omega));have hsz:=hW.size;exact⟨h.1,h.2.1,h.2.2,hr.below hl,hl,by omega⟩
 clear hbr hb1 hza hr hR hrow1 hcs1 hz1;go_enter Tryz.func20,Tryz.ntmps20;(go_wp2_with fail);go_loopw [3] (fun v wr=>∃k:Nat,s.size≤k∧k≤32∧Hid (OwnC wr (w.heap.size+1) v k P)∧Hid (Below (w.heap.size+1) w1 wr)) (fun v _=>32-slen v)
 case atStart=>exact⟨s.size,Nat.le_refl _,hs,HO1,Below.refl _ _⟩
 case round =>
  clear hrun HO1;obtain⟨k,hk0,hk,hX,hB⟩:=hrel;obtain⟨g,gc,rfl,hx1⟩:=hX.out;have HX:Hid (OwnC wr (w.heap.size+1) (.slice (some ⟨g,0,none⟩) k gc) k P):=hX;obtain⟨c0,c1,c2,hway,hlow,hsz⟩:=HW.out _ hB.out;have HWY:Hid (WayRow wr ao n cap vs ts):=hway;have HLW:Hid (Bl w wr):=hlow;clear hx1 hX hway hlow;by_cases hlt:k<32
  ·have HA:Hid (∀v3 w3,OwnC w3 (w.heap.size+1) v3 (k+1) (cat k P (fun _=>0))→Below (w.heap.size+1) (wr.alloc (.cells #[.int .u8 0] 5)) w3→OwnC w3 (w.heap.size+1) v3 (k+1) P∧Below (w.heap.size+1) w1 w3∧slen v3=k+1):=by
    intro v3 w3 h1 h2;refine⟨h1.congr (HP1.out k hk0 hlt),(hB.out.alloc (by omega) _).trans h2,?_⟩;obtain⟨g3,c3,rfl,_⟩:=h1;rfl
   clear HP0 HP1 HP2 HP3 HW;go_wp2_with (at_builtin;refine wpList_append_c rfl (.tmp 10) (.tmp 11) rfl (w.heap.size+1) _ k P rfl (HX.out.below (bA1 _ _)) wr.heap.size 0 1 1 (fun _=>0) rfl (one_new wr 0) (by omega) (by omega) (by simp;omega) ?_;intro v3 w3 ho3 hb3;obtain⟨hp1,hp2,hp3⟩:=HA.out v3 w3 ho3 hb3;have HO3:Hid (OwnC w3 (w.heap.size+1) v3 (k+1) P):=hp1;have HB3:Hid (Below (w.heap.size+1) w1 w3):=hp2;have HS3:Hid (slen v3=k+1):=hp3;clear ho3 hb3 hp1 hp2 hp3)
   exact⟨⟨k+1,by omega,by omega,HO3,HB3⟩,by rw[HS3.out];show 32-(k+1)<32-k;omega⟩
  ·obtain rfl:k=32:=by omega
   obtain⟨v1,v2⟩:=hv;have HA:Hid (∀o v3 w3,OwnC w3 (w.heap.size+1) v3 34 (cat 32 P (fun i=>if i=0 then rev/256 else rev%256))→Below (w.heap.size+1) (wr.alloc o) w3→∃g3 c3,v3=.slice (some ⟨g3,0,none⟩) 34 c3∧Hid (OwnC w3 (w.heap.size+1) (.slice (some ⟨g3,0,none⟩) 34 c3) 34 P)∧Hid (Below (w.heap.size+1) w1 w3)):=by
    intro o v3 w3 h1 h2;have h3:=h1.congr HP2.out;obtain⟨g3,c3,rfl,_⟩:=h1;exact⟨g3,c3,rfl,h3,(hB.out.alloc (by omega) _).trans h2⟩
   clear HP0 HP1 HP2 HWY HLW;go_wp2_with (at_builtin;refine wpList_append_c rfl (.tmp 13) (.tmp 22) rfl (w.heap.size+1) _ 32 P rfl (HX.out.below (bA1 _ _)) wr.heap.size 0 2 2 (fun i=>if i=0 then rev/256 else rev%256) rfl (two_new wr _ _) (by omega) (by omega) (by simp;omega) ?_;intro v3 w3 ho3 hb3;obtain⟨g3,c3,rfl,HO3,HB3⟩:=HA.out _ v3 w3 ho3 hb3;clear ho3 hb3;obtain⟨k0,k1,k2,hway3,hlow3,hsz3⟩:=HW.out _ HB3.out;have HWY3:Hid (WayRow w3 ao n cap vs ts):=hway3;have HLW3:Hid (Bl w w3):=hlow3;clear hway3 hlow3)
   refine(rdigest_any s rev ao n cap vs ts _ HRt.out HWY3.out).mono ?_;rintro e w4 ⟨ro,rc,rfl,hr4,hb4⟩;obtain⟨xg,xo,rfl,_,_⟩:=hr4.2 (by omega);have HR4:Hid (ByteRow w4 (some ⟨xg,xo,none⟩) 16 rc (Md.dg (Rg.dig vs ts n))):=hr4;have HO4:Hid (OwnC w4 (w.heap.size+1) (.slice (some ⟨g3,0,none⟩) 34 c3) 34 P):=HO3.out.below hb4;have HLW4:Hid (Bl w w4):=HLW3.out.trans (hb4.mono HLW3.out.size);have hsz4:w.heap.size+1≤w4.heap.size:=(by have:=hb4.size;omega)
   have HA2:Hid (∀v5 w5,OwnC w5 (w.heap.size+1) v5 50 (cat 34 P (Md.dg (Rg.dig vs ts n)))→Below (w.heap.size+1) w4 w5→∃g5 c5,v5=.slice (some ⟨g5,0,none⟩) 50 c5∧Hid (ByteRow w5 (some ⟨g5,0,none⟩) 50 c5 P)∧Hid (Bl w w5)∧Hid (w.heap.size<g5)):=by
    intro v5 w5 h1 h2;obtain⟨g5,c5,rfl,h3⟩:=(h1.congr HP3.out).bytes;obtain⟨g6,c6,e6,hg,_⟩:=h1;cases e6
    exact⟨g5,c5,rfl,h3,HLW4.out.trans (h2.mono (by omega)),hg⟩
   clear hr4 hb4 HO3 HB3 HLW3 HWY3 k0 k1 k2 HA HX HW hB c0 c1 c2 HRt;go_wp2_with (at_builtin;refine wpList_append_c rfl (.tmp 24) (.tmp 26) rfl (w.heap.size+1) _ 34 P rfl HO4.out xg xo 16 rc _ rfl HR4.out (by omega) (by omega) hsz4 ?_;intro v5 w5 ho5 hb5;obtain⟨g5,c5,rfl,HR5,HB5,HG5⟩:=HA2.out v5 w5 ho5 hb5;clear ho5 hb5)
   go_ret;exact⟨_,c5,rfl,by rw[←HP.out];exact HR5.out,HB5.out,fun ad e=>by cases e;exact HG5.out⟩
theorem rident_any (s:ByteArray) (rev:Int) (ao:Option Addr) (n cap:Nat) (vs ts:Nat→Int) (w:World) (hs:s.size≤32) (hv:0≤rev∧rev≤65535) (hR:Rg.Right vs ts n) (hr:WayRow w ao n cap vs ts) :
  Calls Tryz.prog 20 #[.agg #[.string s,.int .i64 rev,.slice ao n cap]] w fun e w'=>∃ro rc,e=.returned (.slice ro 50 rc)∧ByteRow w' ro 50 rc (Rg.ident s rev (Md.dg (Rg.dig vs ts n)))∧Bl w w':=by
 refine(rident_new s rev ao n cap vs ts w hs hv hR hr).mono ?_;rintro e w' ⟨ro,rc,h1,h2,h3,_⟩;exact⟨ro,rc,h1,h2,h3⟩
section
variable {Q:Exit→Act→World→Prop}(df:List Deferred) (X:World) (G YB bb boff xi i0 K kc:Nat) (s1 s2 sx:ByteArray) (r1 r2:Int) (a1 a2:Option Addr) (n1 n2 c1 c2:Nat)
variable (x0 x1 x2 x3 x5 x6 x7 x8 x9 x10 x11 x12 x13 x14 x16 x17 x18 x19 x20 x21 x23 x24 x25 x26 x27 x28 x29 x30 x31 x32 x33 x34 x35 x36 x37 x38 x39 x40 x41 x42 x43 x44 x45 x46 x47 x48 x49 x50 x51 x52 x53 x54 x55 x56 x57 x58 x59 x78:Value)
def la12_ops:Array Oper:=#[⟨some 60,.fieldAddr 25 (.tmp 15) 0,0, "law.go:188",#[],none⟩,⟨some 61,.load 22 (.tmp 60),22, "law.go:188",#[⟨0,.data⟩],none⟩,⟨some 62,.fieldAddr 54 (.tmp 22) 0,0, "law.go:188",#[],none⟩,⟨some 63,.load 3 (.tmp 62),3, "law.go:188",#[⟨2,.data⟩],none⟩,⟨some 64,.indexAddr 22 (.tmp 61) (.tmp 63),0, "law.go:188",#[⟨1,.data⟩,⟨3,.data⟩],none⟩,⟨some 65,.fieldAddr 65 (.tmp 64) 2,0, "law.go:188",#[⟨4,.data⟩],none⟩,⟨some 66,.load 63 (.tmp 65),63, "law.go:188",#[⟨5,.data⟩],none⟩,⟨some 67,.call { callee:=.value (.func 20),args:=#[.tmp 66],argTypes:=#[63] },29, "law.go:188",#[⟨6,.data⟩],none⟩,⟨some 68,.convert 29 9 (.tmp 67),9, "law.go:188",#[⟨7,.data⟩],none⟩,⟨some 69,.fieldAddr 25 (.tmp 15) 0,0, "law.go:188",#[],none⟩,⟨some 70,.load 22 (.tmp 69),22, "law.go:188",#[⟨9,.data⟩],none⟩,⟨some 71,.move (.tmp 4),3, "law.go:188",#[],none⟩,⟨some 72,.indexAddr 22 (.tmp 70) (.tmp 71),0, "law.go:188",#[⟨10,.data⟩,⟨11,.data⟩],none⟩,⟨some 73,.fieldAddr 65 (.tmp 72) 2,0, "law.go:188",#[⟨12,.data⟩],none⟩,⟨some 74,.load 63 (.tmp 73),63, "law.go:188",#[⟨13,.data⟩],none⟩,⟨some 75,.call { callee:=.value (.func 20),args:=#[.tmp 74],argTypes:=#[63] },29, "law.go:188",#[⟨14,.data⟩,⟨7,.chain⟩],none⟩,⟨some 76,.convert 29 9 (.tmp 75),9, "law.go:188",#[⟨15,.data⟩],none⟩,⟨some 77,.binOp .neq 9 (.tmp 68) (.tmp 76) 9,4, "law.go:188",#[⟨8,.data⟩,⟨16,.data⟩],none⟩]
variable (hQ:∀c (a:Act) (d:Tmp) (v:Value) (w:World),Q (.panic c) (a.put (some d) v) w→Q (.panic c) a w)
variable (hC:∀V,Bl X V→V.cell? ⟨G,0,none⟩=some (.slice (some ⟨bb,boff,none⟩) K kc)∧V.cell? ⟨YB,0,none⟩=some (.int .i64 (xi:Int))∧(V.cell? ⟨bb,boff+xi*5+2,none⟩=some (.string s1)∧V.cell? ⟨bb,boff+xi*5+2+1,none⟩=some (.int .i64 r1)∧V.cell? ⟨bb,boff+xi*5+2+2,none⟩=some (.slice a1 n1 c1))∧(V.cell? ⟨bb,boff+i0*5+2,none⟩=some (.string s2)∧V.cell? ⟨bb,boff+i0*5+2+1,none⟩=some (.int .i64 r2)∧V.cell? ⟨bb,boff+i0*5+2+2,none⟩=some (.slice a2 n2 c2)))
variable (k1:xi<K) (k2:i0<K)
variable (hI1:∀W,Bl X W→Calls Tryz.prog 20 #[.agg #[.string s1,.int .i64 r1,.slice a1 n1 c1]] W fun e w'=>∃ro rc,e=.returned (.slice ro 50 rc)∧Bl W w'∧∀V,Bl w' V→(convert 29 9 (.slice ro 50 rc)).run Tryz.prog V=.ok (.string sx) V)
variable (hI2:∀W,Bl X W→Calls Tryz.prog 20 #[.agg #[.string s2,.int .i64 r2,.slice a2 n2 c2]] W fun e w'=>∃ro rc,e=.returned (.slice ro 50 rc)∧Bl W w'∧∀V,Bl w' V→(convert 29 9 (.slice ro 50 rc)).run Tryz.prog V=.ok (.string sx) V)
variable (fin:∀(ro:Option Addr) (rc:Nat) (ro2:Option Addr) (rc2:Nat) (w':World),Bl X w'→Q .normal { tmps:=#[x0,x1,x2,x3,(.int .i64 (i0:Int)),x5,x6,x7,x8,x9,x10,x11,x12,x13,x14,(.pointer (some ⟨G,0,none⟩)),x16,x17,x18,x19,x20,x21,(.pointer (some ⟨YB,0,none⟩)),x23,x24,x25,x26,x27,x28,x29,x30,x31,x32,x33,x34,x35,x36,x37,x38,x39,x40,x41,x42,x43,x44,x45,x46,x47,x48,x49,x50,x51,x52,x53,x54,x55,x56,x57,x58,x59,(.pointer (some ⟨G,0,none⟩)),(.slice (some ⟨bb,boff,none⟩) K kc),(.pointer (some ⟨YB,0,none⟩)),(.int .i64 (xi:Int)),(.pointer (some ⟨bb,boff+xi*5,none⟩)),(.pointer (some ⟨bb,boff+xi*5+2,none⟩)),(.agg #[.string s1,.int .i64 r1,.slice a1 n1 c1]),(.slice ro 50 rc),(.string sx),(.pointer (some ⟨G,0,none⟩)),(.slice (some ⟨bb,boff,none⟩) K kc),(.int .i64 (i0:Int)),(.pointer (some ⟨bb,boff+i0*5,none⟩)),(.pointer (some ⟨bb,boff+i0*5+2,none⟩)),(.agg #[.string s2,.int .i64 r2,.slice a2 n2 c2]),(.slice ro2 50 rc2),(.string sx),(.bool false),x78],defers:=df } w')
include hQ hC k1 k2 hI1 hI2 fin in
theorem la12 (x60 x61 x62 x63 x64 x65 x66 x67 x68 x69 x70 x71 x72 x73 x74 x75 x76 x77:Value):(Code.region 12 la12_ops true).wp Tryz.prog Q { tmps:=#[x0,x1,x2,x3,(.int .i64 (i0:Int)),x5,x6,x7,x8,x9,x10,x11,x12,x13,x14,(.pointer (some ⟨G,0,none⟩)),x16,x17,x18,x19,x20,x21,(.pointer (some ⟨YB,0,none⟩)),x23,x24,x25,x26,x27,x28,x29,x30,x31,x32,x33,x34,x35,x36,x37,x38,x39,x40,x41,x42,x43,x44,x45,x46,x47,x48,x49,x50,x51,x52,x53,x54,x55,x56,x57,x58,x59,x60,x61,x62,x63,x64,x65,x66,x67,x68,x69,x70,x71,x72,x73,x74,x75,x76,x77,x78],defers:=df } X:=by
 have hXd:Bl X X.drew:=Below.drew (Below.refl _ _);have i1:(0:Int)≤(xi:Int):=(by omega)
 have i2:(xi:Int)<(K:Int):=(by omega)
 have i3:(0:Int)≤(i0:Int):=(by omega)
 have i4:(i0:Int)<(K:Int):=(by omega)
 refine wp_region_z (z:=17) (C:=fun W=>W.cell? ⟨G,0,none⟩=some (.slice (some ⟨bb,boff,none⟩) K kc)∧W.cell? ⟨YB,0,none⟩=some (.int .i64 (xi:Int))∧(W.cell? ⟨bb,boff+xi*5+2,none⟩=some (.string s1)∧W.cell? ⟨bb,boff+xi*5+2+1,none⟩=some (.int .i64 r1)∧W.cell? ⟨bb,boff+xi*5+2+2,none⟩=some (.slice a1 n1 c1))∧(W.cell? ⟨bb,boff+i0*5+2,none⟩=some (.string s2)∧W.cell? ⟨bb,boff+i0*5+2+1,none⟩=some (.int .i64 r2)∧W.cell? ⟨bb,boff+i0*5+2+2,none⟩=some (.slice a2 n2 c2))) (by kernel_rfl) (hC _ hXd) (fun hHeld => ?_);refine z_take (i:=0) (oi:=⟨some 60,.fieldAddr 25 (.tmp 15) 0,0, "law.go:188",#[],none⟩) (v := ?_) (some 60) rfl rfl (by kernel_rfl) (by kernel_rfl) (by kernel_rfl) (by decide) (fun c a w h=>hQ c a _ _ w h) (by rfl) ?_ hHeld ?_;rotate_left 1
 ·(intro wq;go_simp;try with_reducible rfl)
 (try simp only[Act.put,lsA,lsZ,lsS])
 refine z_load (i:=1) (oi:=⟨some 61,.load 22 (.tmp 60),22, "law.go:188",#[⟨0,.data⟩],none⟩) (v := ?_) (some 61) rfl rfl (by kernel_rfl) (by kernel_rfl) (by kernel_rfl) (by kernel_rfl) (fun c a w h=>hQ c a _ _ w h) (by rfl) ?_ hHeld ?_;rotate_left 1
 ·(intro wq hSw;go_simp;try with_reducible rfl)
 (try simp only[Act.put,lsA,lsZ,lsS])
 refine z_take (i:=2) (oi:=⟨some 62,.fieldAddr 54 (.tmp 22) 0,0, "law.go:188",#[],none⟩) (v := ?_) (some 62) rfl rfl (by kernel_rfl) (by kernel_rfl) (by kernel_rfl) (by decide) (fun c a w h=>hQ c a _ _ w h) (by rfl) ?_ hHeld ?_;rotate_left 1
 ·(intro wq;go_simp;try with_reducible rfl)
 (try simp only[Act.put,lsA,lsZ,lsS])
 refine z_load (i:=3) (oi:=⟨some 63,.load 3 (.tmp 62),3, "law.go:188",#[⟨2,.data⟩],none⟩) (v := ?_) (some 63) rfl rfl (by kernel_rfl) (by kernel_rfl) (by kernel_rfl) (by kernel_rfl) (fun c a w h=>hQ c a _ _ w h) (by rfl) ?_ hHeld ?_;rotate_left 1
 ·(intro wq hSw;go_simp;try with_reducible rfl)
 (try simp only[Act.put,lsA,lsZ,lsS])
 refine z_take (i:=4) (oi:=⟨some 64,.indexAddr 22 (.tmp 61) (.tmp 63),0, "law.go:188",#[⟨1,.data⟩,⟨3,.data⟩],none⟩) (v := ?_) (some 64) rfl rfl (by kernel_rfl) (by kernel_rfl) (by kernel_rfl) (by decide) (fun c a w h=>hQ c a _ _ w h) (by rfl) ?_ hHeld ?_;rotate_left 1
 ·(intro wq;go_simp;try with_reducible rfl)
 (try simp only[Act.put,lsA,lsZ,lsS])
 refine z_take (i:=5) (oi:=⟨some 65,.fieldAddr 65 (.tmp 64) 2,0, "law.go:188",#[⟨4,.data⟩],none⟩) (v := ?_) (some 65) rfl rfl (by kernel_rfl) (by kernel_rfl) (by kernel_rfl) (by decide) (fun c a w h=>hQ c a _ _ w h) (by rfl) ?_ hHeld ?_;rotate_left 1
 ·(intro wq;go_simp;try with_reducible rfl)
 (try simp only[Act.put,lsA,lsZ,lsS])
 refine z_load (i:=6) (oi:=⟨some 66,.load 63 (.tmp 65),63, "law.go:188",#[⟨5,.data⟩],none⟩) (v := ?_) (some 66) rfl rfl (by kernel_rfl) (by kernel_rfl) (by kernel_rfl) (by kernel_rfl) (fun c a w h=>hQ c a _ _ w h) (by rfl) ?_ hHeld ?_;rotate_left 1
 ·(intro wq hSw;go_simp;try with_reducible rfl)
 (try simp only[Act.put,lsA,lsZ,lsS])
 refine z_take (i:=9) (oi:=⟨some 69,.fieldAddr 25 (.tmp 15) 0,0, "law.go:188",#[],none⟩) (v := ?_) (some 69) rfl rfl (by kernel_rfl) (by kernel_rfl) (by kernel_rfl) (by decide) (fun c a w h=>hQ c a _ _ w h) (by rfl) ?_ hHeld ?_;rotate_left 1
 ·(intro wq;go_simp;try with_reducible rfl)
 (try simp only[Act.put,lsA,lsZ,lsS])
 refine z_load (i:=10) (oi:=⟨some 70,.load 22 (.tmp 69),22, "law.go:188",#[⟨9,.data⟩],none⟩) (v := ?_) (some 70) rfl rfl (by kernel_rfl) (by kernel_rfl) (by kernel_rfl) (by kernel_rfl) (fun c a w h=>hQ c a _ _ w h) (by rfl) ?_ hHeld ?_;rotate_left 1
 ·(intro wq hSw;go_simp;try with_reducible rfl)
 (try simp only[Act.put,lsA,lsZ,lsS])
 refine z_take (i:=11) (oi:=⟨some 71,.move (.tmp 4),3, "law.go:188",#[],none⟩) (v := ?_) (some 71) rfl rfl (by kernel_rfl) (by kernel_rfl) (by kernel_rfl) (by decide) (fun c a w h=>hQ c a _ _ w h) (by rfl) ?_ hHeld ?_;rotate_left 1
 ·(intro wq;go_simp;try with_reducible rfl)
 (try simp only[Act.put,lsA,lsZ,lsS])
 refine z_take (i:=12) (oi:=⟨some 72,.indexAddr 22 (.tmp 70) (.tmp 71),0, "law.go:188",#[⟨10,.data⟩,⟨11,.data⟩],none⟩) (v := ?_) (some 72) rfl rfl (by kernel_rfl) (by kernel_rfl) (by kernel_rfl) (by decide) (fun c a w h=>hQ c a _ _ w h) (by rfl) ?_ hHeld ?_;rotate_left 1
 ·(intro wq;go_simp;try with_reducible rfl)
 (try simp only[Act.put,lsA,lsZ,lsS])
 refine z_take (i:=13) (oi:=⟨some 73,.fieldAddr 65 (.tmp 72) 2,0, "law.go:188",#[⟨12,.data⟩],none⟩) (v := ?_) (some 73) rfl rfl (by kernel_rfl) (by kernel_rfl) (by kernel_rfl) (by decide) (fun c a w h=>hQ c a _ _ w h) (by rfl) ?_ hHeld ?_;rotate_left 1
 ·(intro wq;go_simp;try with_reducible rfl)
 (try simp only[Act.put,lsA,lsZ,lsS])
 refine z_load (i:=14) (oi:=⟨some 74,.load 63 (.tmp 73),63, "law.go:188",#[⟨13,.data⟩],none⟩) (v := ?_) (some 74) rfl rfl (by kernel_rfl) (by kernel_rfl) (by kernel_rfl) (by kernel_rfl) (fun c a w h=>hQ c a _ _ w h) (by rfl) ?_ hHeld ?_;rotate_left 1
 ·(intro wq hSw;go_simp;try with_reducible rfl)
 (try simp only[Act.put,lsA,lsZ,lsS])
 refine z_one (i:=7) (o:=⟨some 67,.call { callee:=.value (.func 20),args:=#[.tmp 66],argTypes:=#[63] },29, "law.go:188",#[⟨6,.data⟩],none⟩) (by kernel_rfl) rfl (fun K hK => ?_);go_simp;refine(hI1 _ hXd).mono ?_;rintro e w5 ⟨ro,rc,rfl,hb,hv1⟩;have hX5:Bl X w5:=hXd.trans (hb.mono hXd.size);have q1:=hv1 w5 (Below.refl _ _);refine hK.out _ _ (Or.inr (hC _ hX5)) (fun hHeld => ?_);(try simp only[lsA,lsZ,lsS])
 refine z_mem (rs:=[8,15]) (by kernel_rfl) (by simp) (fun i hi => ?_);simp only[List.mem_cons,List.not_mem_nil,or_false] at hi;rcases hi with rfl | rfl
 ·refine z_op (o:=⟨some 68,.convert 29 9 (.tmp 67),9, "law.go:188",#[⟨7,.data⟩],none⟩) rfl (fun K hK => ?_);go_simp;refine hK.out _ _ (Or.inr (hC _ hX5)) ?_;(try simp only[lsA,lsZ,lsS])
  refine z_one (i:=15) (o:=⟨some 75,.call { callee:=.value (.func 20),args:=#[.tmp 74],argTypes:=#[63] },29, "law.go:188",#[⟨14,.data⟩,⟨7,.chain⟩],none⟩) (by kernel_rfl) rfl (fun K hK => ?_);go_simp;refine(hI2 _ hX5).mono ?_;rintro e w6 ⟨ro2,rc2,rfl,hb,hv2⟩;have hX6:Bl X w6:=hX5.trans (hb.mono hX5.size);have q2:=hv1 w6 hb;have q3:=hv2 w6 (Below.refl _ _);refine hK.out _ _ (Or.inr (hC _ hX6)) (fun hHeld => ?_);(try simp only[lsA,lsZ,lsS])
  refine z_one (i:=16) (o:=⟨some 76,.convert 29 9 (.tmp 75),9, "law.go:188",#[⟨15,.data⟩],none⟩) (by kernel_rfl) rfl (fun K hK => ?_);go_simp;refine hK.out _ _ (Or.inr (hC _ hX6)) (fun hHeld => ?_);(try simp only[lsA,lsZ,lsS])
  refine z_one (i:=17) (o:=⟨some 77,.binOp .neq 9 (.tmp 68) (.tmp 76) 9,4, "law.go:188",#[⟨8,.data⟩,⟨16,.data⟩],none⟩) (by kernel_rfl) rfl (fun K hK => ?_);go_simp;refine hK.out _ _ (Or.inr (hC _ hX6)) (fun hHeld => ?_);(try simp only[lsA,lsZ,lsS])
  refine z_done (by kernel_rfl) ?_ _;exact fin ro rc ro2 rc2 w6 hX6
 ·refine z_op (o:=⟨some 75,.call { callee:=.value (.func 20),args:=#[.tmp 74],argTypes:=#[63] },29, "law.go:188",#[⟨14,.data⟩,⟨7,.chain⟩],none⟩) rfl (fun K hK => ?_);go_simp;refine(hI2 _ hX5).mono ?_;rintro e w6 ⟨ro2,rc2,rfl,hb,hv2⟩;have hX6:Bl X w6:=hX5.trans (hb.mono hX5.size);have q2:=hv1 w6 hb;have q3:=hv2 w6 (Below.refl _ _);refine hK.out _ _ (Or.inr (hC _ hX6)) ?_;(try simp only[lsA,lsZ,lsS])
  refine z_mem (rs:=[8,16]) (by kernel_rfl) (by simp) (fun i hi => ?_);simp only[List.mem_cons,List.not_mem_nil,or_false] at hi;rcases hi with rfl | rfl
  ·refine z_op (o:=⟨some 68,.convert 29 9 (.tmp 67),9, "law.go:188",#[⟨7,.data⟩],none⟩) rfl (fun K hK => ?_);go_simp;refine hK.out _ _ (Or.inr (hC _ hX6)) ?_;(try simp only[lsA,lsZ,lsS])
   refine z_one (i:=16) (o:=⟨some 76,.convert 29 9 (.tmp 75),9, "law.go:188",#[⟨15,.data⟩],none⟩) (by kernel_rfl) rfl (fun K hK => ?_);go_simp;refine hK.out _ _ (Or.inr (hC _ hX6)) (fun hHeld => ?_);(try simp only[lsA,lsZ,lsS])
   refine z_one (i:=17) (o:=⟨some 77,.binOp .neq 9 (.tmp 68) (.tmp 76) 9,4, "law.go:188",#[⟨8,.data⟩,⟨16,.data⟩],none⟩) (by kernel_rfl) rfl (fun K hK => ?_);go_simp;refine hK.out _ _ (Or.inr (hC _ hX6)) (fun hHeld => ?_);(try simp only[lsA,lsZ,lsS])
   refine z_done (by kernel_rfl) ?_ _;exact fin ro rc ro2 rc2 w6 hX6
  ·refine z_op (o:=⟨some 76,.convert 29 9 (.tmp 75),9, "law.go:188",#[⟨15,.data⟩],none⟩) rfl (fun K hK => ?_);go_simp;refine hK.out _ _ (Or.inr (hC _ hX6)) ?_;(try simp only[lsA,lsZ,lsS])
   refine z_one (i:=8) (o:=⟨some 68,.convert 29 9 (.tmp 67),9, "law.go:188",#[⟨7,.data⟩],none⟩) (by kernel_rfl) rfl (fun K hK => ?_);go_simp;refine hK.out _ _ (Or.inr (hC _ hX6)) (fun hHeld => ?_);(try simp only[lsA,lsZ,lsS])
   refine z_one (i:=17) (o:=⟨some 77,.binOp .neq 9 (.tmp 68) (.tmp 76) 9,4, "law.go:188",#[⟨8,.data⟩,⟨16,.data⟩],none⟩) (by kernel_rfl) rfl (fun K hK => ?_);go_simp;refine hK.out _ _ (Or.inr (hC _ hX6)) (fun hHeld => ?_);(try simp only[lsA,lsZ,lsS])
   refine z_done (by kernel_rfl) ?_ _;exact fin ro rc ro2 rc2 w6 hX6
end
end
end Go.Proofs.YtelebnancdjjiaaGreatDoor
