/- The document's On: its net and its talk in memory, behind so many things done -/
import Derived.Test.YtaneiffnhphkhaaGreatDoorD26
import Derived.Test.YtaneiffnhphkhaaGreatDoorD27
import Derived.Test.YtaneiffnhphkhaaGreatDoorD22
set_option maxRecDepth 100000
set_option maxHeartbeats 40000000
namespace Go.Proofs.YtaneiffnhphkhaaGreatDoor
section
open Go.RowKit
open Vc (V Of)
open Pl (En Lk Br Net LN lf)
open Tk (Md Mnd)
abbrev Pl.Net.es (n:Net):Nat→Lk:=fun j=>n.ls (LN n.lvs j)
theorem lvs_ok {n:Net}(R:n.Right) {k:Nat}(hk:k<n.lvs.length):(0≤(n.es k).a∧(n.es k).a<n.K)∧(0≤(n.es k).b∧(n.es k).b<n.K)∧(n.es k).a≠(n.es k).b:=by
 obtain⟨o1,o2,o3,_⟩:=R.links.ok _ (Pl.Net.lvs_mem hk).1;exact⟨o1,o2,o3⟩
theorem lvs_few {n:Net}(R:n.Right):n.lvs.length≤400:=by
 have h:=Pl.Net.lvsTo_few n n.L;have h2:=R.fewL;show(n.lvsTo n.L).length≤400;omega
abbrev tickO (n:Net) (xs:Nat→Mnd) (i:Nat):List Of:=roffs n.es i (fun j=>(xs j).md) n.lvs.length
theorem tickO_few {n:Net}(R:n.Right) (xs:Nat→Mnd) (i:Nat):(tickO n xs i).length≤1000:=by
 have h:=roffs_few n.es i (fun j=>(xs j).md) n.lvs.length;have h1:=Pl.Net.lvsTo_few n n.L;have h2:=R.fewL;have h3:n.lvs.length≤n.L:=h1;show(roffs n.es i (fun j=>(xs j).md) n.lvs.length).length≤1000;omega
theorem rof_any (n:Net) (lao:Option Addr) (lcap i gv gi:Nat) (xs:Nat→Mnd) (w:World) (R:n.Right) (hlk:LRow w lao n.lvs.length lcap n.es) (hv:VaAt w gv n.K (fun j=>(xs j).md.v)) (ha:IaAt w gi n.K (fun j=>(xs j).md.age)) :
  Calls Tryz.prog 68 #[.slice lao n.lvs.length lcap,.int .i64 i,.slice (some ⟨gv,0,none⟩) n.K n.K,.slice (some ⟨gi,0,none⟩) n.K n.K] w fun e w'=>∃ao cap,e=.returned (.slice ao (tickO n xs i).length cap)∧ORow w' ao (tickO n xs i).length cap (lf (tickO n xs i))∧Bl w w':=by
 refine(roffers_any lao n.lvs.length lcap n.es i gv n.K gi n.K n.K (fun j=>(xs j).md) w (lvs_few R) hlk hv.row ha.row (plt_some ha) (fun k hk=>lvs_ok R hk)).mono ?_;rintro e w' ⟨ao,cap,h1,h2,h3,_⟩;exact⟨ao,cap,h1,h2,h3⟩
theorem rch_any (n:Net) (id:Int) (xs:Nat→Mnd) (i:Nat) (ao:Option Addr) (cap:Nat) (w:World) (R:n.Right) (ho:ORow w ao (tickO n xs i).length cap (lf (tickO n xs i))) :
  Calls Tryz.prog 69 #[.int .u64 id,.slice ao (tickO n xs i).length cap] w fun e w'=>e=.returned (.tuple #[.agg #[.int .u64 (rtickMd n id xs i).v.root,.int .i64 (rtickMd n id xs i).v.cost,.int .u64 (rtickMd n id xs i).v.bridge,.int .i64 (rtickMd n id xs i).v.port],.int .i64 (rtickMd n id xs i).age,.int .i64 (rtickMd n id xs i).rp])∧Bl w w' :=
 rchoose_any id ao (tickO n xs i).length cap (lf (tickO n xs i)) w (by have:=tickO_few R xs i;omega) ho
theorem rrl_any (n:Net) (lao:Option Addr) (lcap i:Nat) (md:Md) (xs:Nat→Mnd) (oao:Option Addr) (ocap:Nat) (w:World) (R:n.Right) (hat:n.at' w) (hlk:LRow w lao n.lvs.length lcap n.es) (ho:ORow w oao (tickO n xs i).length ocap (lf (tickO n xs i))) :
  Calls Tryz.prog 70 #[n.val,.slice lao n.lvs.length lcap,.int .i64 i,.agg #[.int .u64 md.v.root,.int .i64 md.v.cost,.int .u64 md.v.bridge,.int .i64 md.v.port],.int .i64 md.rp,.slice oao (tickO n xs i).length ocap] w fun e w'=>∃ao cap,e=.returned (.slice ao (rtickRl n md xs i).length cap)∧w'.ownsRow w.heap.size 3 1 (.slice ao (rtickRl n md xs i).length cap) (rtickRl n md xs i).length (intCells (rtickRl n md xs i))∧Bl w w':=by
 have e:(rtickRl n md xs i).length=(Pl.ptsAll n.ls n.L i 30).length:=(by unfold rtickRl;rw[List.length_map])
 rw[e];refine(rroles_own n lao n.lvs.length lcap n.es i md.v md.rp (tickO n xs i) oao ocap w hat R.fewL R.links (lvs_few R) hlk (tickO_few R xs i) ho (fun k hk=>(lvs_ok R hk).2.2)).mono ?_;rintro e w' ⟨ao,cap,h1,_,_,h4,h5⟩;exact⟨ao,cap,h1,h5,h4⟩
theorem rtickRl_len {n:Net}(R:n.Right) (md:Md) (xs:Nat→Mnd) (i:Nat):(rtickRl n md xs i).length=(n.pts i).length∧(rtickRl n md xs i).length≤1200:=by
 have e:Pl.ptsAll n.ls n.L i 30=n.pts i:=Pl.ports_same R.links n.live i;have e2:(rtickRl n md xs i).length=(Pl.ptsAll n.ls n.L i 30).length:=(by unfold rtickRl;rw[List.length_map])
 have h1:=ptsAll_few n.ls n.L i 30;have h3:30*n.L≤30*40:=Nat.mul_le_mul (Nat.le_refl _) R.fewL;exact⟨by rw[e2,e],by omega⟩
theorem mbox_cells {w:World}{g:Nat}{a0 a1 a2 a3 a4 a5 a6 a7 a8:Value}{ty:TypeId}(h:w.heap[g]?=some (.cells #[a0,a1,a2,a3,a4,a5,a6,a7,a8] ty (0,0))) :
  (w.cell? ⟨g,0,none⟩=some a0∧w.cell? ⟨g,1,none⟩=some a1∧w.cell? ⟨g,2,none⟩=some a2∧w.cell? ⟨g,3,none⟩=some a3∧w.cell? ⟨g,4,none⟩=some a4∧w.cell? ⟨g,5,none⟩=some a5∧w.cell? ⟨g,6,none⟩=some a6∧w.cell? ⟨g,7,none⟩=some a7∧w.cell? ⟨g,8,none⟩=some a8)∧(w.frozen? ⟨g,0,none⟩=false∧w.frozen? ⟨g,1,none⟩=false∧w.frozen? ⟨g,2,none⟩=false∧w.frozen? ⟨g,3,none⟩=false∧w.frozen? ⟨g,4,none⟩=false∧w.frozen? ⟨g,5,none⟩=false∧w.frozen? ⟨g,7,none⟩=false∧w.frozen? ⟨g,8,none⟩=false) :=
 ⟨⟨cell_of_row w g 0 _ _ _ h,cell_of_row w g 1 _ _ _ h,cell_of_row w g 2 _ _ _ h,cell_of_row w g 3 _ _ _ h,cell_of_row w g 4 _ _ _ h,cell_of_row w g 5 _ _ _ h,cell_of_row w g 6 _ _ _ h,cell_of_row w g 7 _ _ _ h,cell_of_row w g 8 _ _ _ h⟩,
  ⟨frozen_of_row _ _ _ _ _ h,frozen_of_row _ _ _ _ _ h,frozen_of_row _ _ _ _ _ h,frozen_of_row _ _ _ _ _ h,frozen_of_row _ _ _ _ _ h,frozen_of_row _ _ _ _ _ h,frozen_of_row _ _ _ _ _ h,frozen_of_row _ _ _ _ _ h⟩⟩
theorem mind_six {w:World}{g:Nat}{a0 a1 a2 a3 a4 a5 a6 a7 a8 v0 v1 v2 v3 v4 v5:Value}{ty:TypeId}(h:w.heap[g]?=some (.cells #[a0,a1,a2,a3,a4,a5,a6,a7,a8] ty (0,0))) :
  ((((((w.setCell ⟨g,0,none⟩ v0).setCell ⟨g,1,none⟩ v1).setCell ⟨g,2,none⟩ v2).setCell ⟨g,3,none⟩ v3).setCell ⟨g,4,none⟩ v4).setCell ⟨g,5,none⟩ v5).heap[g]?=some (.cells #[v0,v1,v2,v3,v4,v5,a6,a7,a8] ty (0,0)):=by
 have h0:(w.setCell ⟨g,0,none⟩ v0).heap[g]?=some (.cells #[v0,a1,a2,a3,a4,a5,a6,a7,a8] ty (0,0)):=(by rw[heap_setCell_same _ _ _ _ _ _ h];rfl)
 have h1:((w.setCell ⟨g,0,none⟩ v0).setCell ⟨g,1,none⟩ v1).heap[g]?=some (.cells #[v0,v1,a2,a3,a4,a5,a6,a7,a8] ty (0,0)):=(by rw[heap_setCell_same _ _ _ _ _ _ h0];rfl)
 have h2:(((w.setCell ⟨g,0,none⟩ v0).setCell ⟨g,1,none⟩ v1).setCell ⟨g,2,none⟩ v2).heap[g]?=some (.cells #[v0,v1,v2,a3,a4,a5,a6,a7,a8] ty (0,0)):=(by rw[heap_setCell_same _ _ _ _ _ _ h1];rfl)
 have h3:((((w.setCell ⟨g,0,none⟩ v0).setCell ⟨g,1,none⟩ v1).setCell ⟨g,2,none⟩ v2).setCell ⟨g,3,none⟩ v3).heap[g]?=some (.cells #[v0,v1,v2,v3,a4,a5,a6,a7,a8] ty (0,0)):=(by rw[heap_setCell_same _ _ _ _ _ _ h2];rfl)
 have h4:(((((w.setCell ⟨g,0,none⟩ v0).setCell ⟨g,1,none⟩ v1).setCell ⟨g,2,none⟩ v2).setCell ⟨g,3,none⟩ v3).setCell ⟨g,4,none⟩ v4).heap[g]?=some (.cells #[v0,v1,v2,v3,v4,a5,a6,a7,a8] ty (0,0)):=(by rw[heap_setCell_same _ _ _ _ _ _ h3];rfl)
 rw[heap_setCell_same _ _ _ _ _ _ h4];rfl
theorem mind_seven {w:World}{g:Nat}{a0 a1 a2 a3 a4 a5 a6 a7 a8 v:Value}{ty:TypeId}(h:w.heap[g]?=some (.cells #[a0,a1,a2,a3,a4,a5,a6,a7,a8] ty (0,0))):(w.setCell ⟨g,7,none⟩ v).heap[g]?=some (.cells #[a0,a1,a2,a3,a4,a5,a6,v,a8] ty (0,0)):=by rw[heap_setCell_same _ _ _ _ _ _ h];rfl
theorem mind_eight {w:World}{g:Nat}{a0 a1 a2 a3 a4 a5 a6 a7 a8 v:Value}{ty:TypeId}(h:w.heap[g]?=some (.cells #[a0,a1,a2,a3,a4,a5,a6,a7,a8] ty (0,0))):(w.setCell ⟨g,8,none⟩ v).heap[g]?=some (.cells #[a0,a1,a2,a3,a4,a5,a6,a7,v] ty (0,0)):=by rw[heap_setCell_same _ _ _ _ _ _ h];rfl
theorem pset_keep2 {w:World}{g j o:Nat}{v:Value}(hne:g≠j):(w.setCell ⟨j,o,none⟩ v).heap[g]?=w.heap[g]?:=heap_setCell_other _ _ _ _ hne
structure TkO (w W:World) (n:Net) (BN RT OT:Nat) (t:List Tr) (base k:Nat) (ao:Option Addr) (cap:Nat) (t':List Tr):Prop where
 low:Bl w W
 net:W.heap[BN]?=some (.cells #[.slice n.bao n.K n.bcap,.slice n.lao n.L n.lcap] 25)
 res:W.heap[RT]?=some (.cells #[.slice none 0 0] 29)
 out:W.heap[OT]?=some (.cells #[.slice ao t'.length cap] 29)
 rk:RkT W base (.slice ao t'.length cap) t'
 len:t'.length=k
 each:∀j,j<k→TickT n (n.ids j) (tat t j).l (tat t' j).l
 big:base≤W.heap.size
 ord:w.heap.size≤BN∧BN<RT∧RT<OT∧OT<base
theorem TkO.below {w W W':World}{n:Net}{BN RT OT:Nat}{t:List Tr}{base k:Nat}{ao:Option Addr}{cap:Nat}{t':List Tr}(h:TkO w W n BN RT OT t base k ao cap t') (hb:Bl W W'):TkO w W' n BN RT OT t base k ao cap t' :=
 ⟨h.low.trans (hb.mono h.low.size),keep h.net hb,keep h.res hb,keep h.out hb,h.rk.below hb,h.len,h.each,Nat.le_trans h.big hb.size,h.ord⟩
theorem TkO.next {w W:World}{n:Net}{BN RT OT:Nat}{t:List Tr}{base k b2:Nat}{ao ao2:Option Addr}{cap cap2:Nat}{t':List Tr}{l':List Mi}(h:TkO w W n BN RT OT t base k ao cap t') (hl:t'.length≤1000) (hm:RkM W b2 (.slice ao2 l'.length cap2) l') (hbb:base≤b2) (ht:TickT n (n.ids k) (tat t k).l l') :
  ∃a c W2,(Builtin.append_ #[27,27] 27 #[.slice ao t'.length cap,.slice (some ⟨W.heap.size,0,none⟩) 1 1]).run Tryz.prog (W.alloc (.cells #[.slice ao2 l'.length cap2] 64))=.ok (.slice a (t'++[Tr.mk ao2 cap2 l']).length c) W2∧(W2.cell? ⟨OT,0,none⟩=some (.slice ao t'.length cap)∧W2.frozen? ⟨OT,0,none⟩=false) ∧
   TkO w (W2.setCell ⟨OT,0,none⟩ (.slice a (t'++[Tr.mk ao2 cap2 l']).length c)) n BN RT OT t base (k+1) a c (t'++[Tr.mk ao2 cap2 l']):=by
 obtain⟨a,c,W2,r,hk,hb,hq⟩:=more_r base W (.slice ao t'.length cap) t' ⟨ao2,cap2,l'⟩ h.rk (hm.mono hbb) hl h.big;have ho:=hq _ _ _ h.out (by decide);have hn:=hq _ _ _ h.net (by decide);have hr:=hq _ _ _ h.res (by decide);obtain⟨o1,o2,o3,o4⟩:=h.ord;have n1:BN≠OT:=(by omega)
 have n2:RT≠OT:=(by omega)
 have hsz:base≤(W2.setCell ⟨OT,0,none⟩ (.slice a (t'++[Tr.mk ao2 cap2 l']).length c)).heap.size:=by
  have h1:=hb.size;have h2:(W2.setCell ⟨OT,0,none⟩ (.slice a (t'++[Tr.mk ao2 cap2 l']).length c)).heap.size=W2.heap.size:=(by simp)
  have h3:=h.big;omega
 have hlow:Bl w W2:=h.low.trans (hb.mono (show w.heap.size≤base by omega));refine⟨a,c,W2,r,⟨one_cell ho,frozen_of_row _ _ _ _ _ ho⟩,hlow.setCell (show w.heap.size≤OT by omega) _,pset_keep hn n1,pset_keep hr n2,?_,hk.keep (fun q _ _ hq _ _=>pset_keep2 (by omega)),by rw[List.length_append,h.len];rfl,fun j hj => ?_,hsz,h.ord⟩
 ·rw[heap_setCell_same _ _ _ _ _ _ ho];rfl
 ·by_cases e:j=k
  ·subst e;rw[tat_right _ _ _ (by rw[h.len];exact Nat.le_refl _),h.len,Nat.sub_self];exact ht
  ·rw[tat_left _ _ _ (by rw[h.len];omega)];exact h.each j (by omega)
theorem tickM_next {n:Net}{ids:Nat→Int}{l l':List Mi}{i:Nat}{x:Mi}(hl:l'.length=i) (h:∀j,j<i→TickM n ids l j (mat l' j)) (hx:TickM n ids l i x):(l'++[x]).length=i+1∧∀j,j<i+1→TickM n ids l j (mat (l'++[x]) j):=by
 refine⟨by rw[List.length_append,hl];rfl,fun j hj => ?_⟩;by_cases e:j=i
 ·subst e;rw[mat_right _ _ _ (by rw[hl];exact Nat.le_refl _),hl,Nat.sub_self];exact hx
 ·rw[mat_left _ _ _ (by rw[hl];omega)];exact h j (by omega)
structure TkC (W8 W:World) (g:Nat) (md:Md) (ps rs:Value) (cs:List Int) (co:Option Addr) (cc:Nat) (U:World):Prop where
 box:W.heap[g]?=some (.cells #[.int .u64 md.v.root,.int .i64 md.v.cost,.int .u64 md.v.bridge,.int .i64 md.v.port,.int .i64 md.age,.int .i64 md.rp,ps,rs,.slice co cs.length cc] 66)
 own:W.ownsRow W8.heap.size 3 1 (.slice co cs.length cc) cs.length (intCells cs)
 rest:∀q,q<W8.heap.size→q≠g→W.heap[q]?=W8.heap[q]?
 low:Bl U W
 big:W8.heap.size≤W.heap.size
theorem TkC.next {W8 W:World}{g:Nat}{md:Md}{ps rs:Value}{cs:List Int}{co:Option Addr}{cc:Nat}{U:World}(h:TkC W8 W g md ps rs cs co cc U) (hg:U.heap.size≤g) (hg2:g<W8.heap.size) (hl:cs.length≤100000) (z:Int) :
  ∃a c W2,(Builtin.append_ #[59,59] 59 #[.slice co cs.length cc,.slice (some ⟨W.heap.size,0,none⟩) 1 1]).run Tryz.prog (W.alloc (.cells #[.int .i64 z] 3))=.ok (.slice a (cs++[z]).length c) W2∧W2.frozen? ⟨g,8,none⟩=false∧W2.cell? ⟨g,8,none⟩=some (.slice co cs.length cc) ∧
   TkC W8 (W2.setCell ⟨g,8,none⟩ (.slice a (cs++[z]).length c)) g md ps rs (cs++[z]) a c U:=by
 obtain⟨a,c,W2,r,ho,hb⟩:=int_more h.own h.big hl z;have hbx:W2.heap[g]?=_:=(hb.block g hg2).trans h.box;obtain⟨⟨_,_,_,_,_,_,_,_,c8⟩,_,_,_,_,_,_,_,f8⟩:=mbox_cells hbx;have hl:=h.low.size;have hbs:=h.big;have hsz:W8.heap.size≤(W2.setCell ⟨g,8,none⟩ (.slice a (cs++[z]).length c)).heap.size:=by
  have h1:=hb.size;have h2:(W2.setCell ⟨g,8,none⟩ (.slice a (cs++[z]).length c)).heap.size=W2.heap.size:=(by simp)
  omega
 refine⟨a,c,W2,r,f8,c8,mind_eight hbx,owns_keep ho (fun q hq=>heap_setCell_other _ _ _ _ (by show q≠g;have:=(oCb ho q hq).1;omega)),fun q h1 h2 => ?_,(h.low.trans (hb.mono (by omega))).setCell hg _,hsz⟩;exact((heap_setCell_other _ _ _ _ (by show q≠g;exact h2)).trans (hb.block q h1)).trans (h.rest q h1 h2)
theorem TkC.roles {W8 W:World}{g:Nat}{md:Md}{ps rs:Value}{cs:List Int}{co:Option Addr}{cc:Nat}{U:World}(h:TkC W8 W g md ps rs cs co cc U) {base:Nat}{v:Value}{m:Nat}{xs:List Value}{cur:Array Value}(hg:W8.heap[g]?=some (.cells cur 66)) (hr:W8.ownsRow base 3 1 v m xs):W.ownsRow base 3 1 v m xs :=
 owns_keep hr (fun q hq=>h.rest q (oCb hr q hq).2 (fun e=>by
  subst e;obtain⟨c2,h2⟩:=owns_type hr hq;exact absurd (cells_type hg h2) (by decide)))
end
section
open Go.RowKit
open Vc (V Of)
open Pl (En Lk Br Net LN lf)
open Tk (Md Mnd Cn Sc Dn)
theorem tickF_congr {ids:Nat→Int}{E:Nat→List En}{K:Nat}(G:Pl.Good ids E K) {x y:Nat→Mnd}(h:∀j,j<K→x j=y j) {i:Nat}(hi:i<K):Tk.tickF ids E x i=Tk.tickF ids E y i:=by
 have e:Tk.heard (E i) (fun j=>(x j).md)=Tk.heard (E i) (fun j=>(y j).md):=by
  unfold Tk.heard;apply List.map_congr_left
  intro e he;obtain⟨h1,h2⟩:=List.mem_filter.1 he;have hj:=Pl.toNat_lt (G.lt i hi e h1 h2).1;unfold Tk.heardOf;simp only[h _ hj]
 unfold Tk.tickF;rw[e,h i hi]
section
variable {n:Net}{s:Sc}{bao lao:Option Addr}{bcap lcap:Nat}{f:Nat→Option Addr×Nat×Option Addr×Nat}
theorem re_sc:(reNet n s bao bcap lao lcap f).sc s.ms=s:=by
 show(⟨fun i=>lsF (IL (s.pr i)) (s.pr i).length,s.ls,s.ms⟩:Sc)=s;have:(fun i=>lsF (IL (s.pr i)) (s.pr i).length)=s.pr:=funext (fun i=>lsF_IL _);rw[this]
theorem re_ends:(reNet n s bao bcap lao lcap f).ends=s.E n.cn:=by
 have:=Pl.Net.sc_E (reNet n s bao bcap lao lcap f) s.ms;rw[re_sc] at this;exact this.symm
theorem re_ids (k:Int):(reNet n s bao bcap lao lcap f).ids k=s.ids n.cn k:=by
 funext i
 have:=net_ids (n:=reNet n s bao bcap lao lcap f) s.ms k i;rw[re_sc] at this;exact this.symm
end
structure OnS (w W:World) (BN BT RN RT RF:Nat) (n:Net) (M:Nat→Prop) (T:Nat) (s:Sc) (n':Net) (oao:Option Addr) (ocap:Nat) (t':List Tr):Prop where
 low:Bl w W
 bxN:W.heap[BN]?=some (.cells #[.slice n'.bao n'.K n'.bcap,.slice n'.lao n'.L n'.lcap] 25)
 bxT:W.heap[BT]?=some (.cells #[.slice oao t'.length ocap] 29)
 rN:W.heap[RN]?=some (.cells #[.slice none 0 0,.slice none 0 0] 25)
 rT:W.heap[RT]?=some (.cells #[.slice none 0 0] 29)
 rF:W.heap[RF]?=some (.cells #[.int .i64 0,.int .i64 0] 32)
 brs:W.ownsRow (RF+1) 74 5 (.slice n'.bao n'.K n'.bcap) n'.K (cellsL n'.K 5 (fun i=>brC (n'.bs i)))
 lks:W.ownsRow (RF+1) 83 6 (.slice n'.lao n'.L n'.lcap) n'.L (cellsL n'.L 6 (fun i=>lkC (n'.ls i)))
 mB:∀q,(Value.slice n'.bao n'.K n'.bcap).ownBlock=some q→M q
 mL:∀q,(Value.slice n'.lao n'.L n'.lcap).ownBlock=some q→M q
 mX:M (BT)
 mS:∀q,M q→q<W.heap.size
 each:Bz M W (fun V=>∀i,i<n'.K→(n'.bs i).at' V∧NilOk (n'.bs i).pao (n'.bs i).pn (n'.bs i).pcap)
 talk:Bz M W (fun V=>TrRow V oao ocap t')
 re:∃f,n'=reNet n s n'.bao n'.bcap n'.lao n'.lcap f
 len:t'.length=T
 ord:w.heap.size≤BN∧BN<BT∧BT<RN∧RN<RT∧RT<RF
 ms:∀k,k<T→(tat t' k).l.length=n.K∧∀i,i<n.K→msT t' k i=s.ms k i∧(mat (tat t' k).l i).ports=n.pts i
section
variable {w W:World}{BN BT RN RT RF:Nat}{n:Net}{M:Nat→Prop}{T:Nat}{s:Sc}{n':Net}{oao:Option Addr}{ocap:Nat}{t':List Tr}
theorem OnS.sizes (h:OnS w W BN BT RN RT RF n M T s n' oao ocap t'):n'.K=n.K∧n'.L=n.L∧n'.ls=s.ls:=by
 obtain⟨f,e⟩:=h.re;rw[e];exact⟨rfl,rfl,rfl⟩
theorem OnS.plain (h:OnS w W BN BT RN RT RF n M T s n' oao ocap t'):n'.cn=n.cn∧n'.sc s.ms=s∧n'.ends=s.E n.cn∧∀k:Int,n'.ids k=s.ids n.cn k:=by
 obtain⟨f,e⟩:=h.re;rw[e];exact⟨rfl,re_sc,re_ends,re_ids⟩
theorem OnS.fine (h:OnS w W BN BT RN RT RF n M T s n' oao ocap t') (hw:n.Wf) (h0:n.wrong.1=0) (hf:Tk.Fine n.cn s):n'.wrong.1=0∧n'.Wf∧n'.Right:=by
 obtain⟨f,e⟩:=h.re;have:=reNet_wrong (bao:=n'.bao) (bcap:=n'.bcap) (lao:=n'.lao) (lcap:=n'.lcap) (f:=f) hw h0 hf;rw[←e] at this;exact⟨this.1,this.2,right_of this.2 this.1⟩
theorem OnS.net (h:OnS w W BN BT RN RT RF n M T s n' oao ocap t') (hK:n.K≤12) (hL:n.L≤40):n'.at' W:=by
 obtain⟨e1,e2,_⟩:=h.sizes;exact⟨(owns_cs (by omega) h.brs).2,fun i hi=>(h.each.here i hi).1,(owns_cs (by omega) h.lks).2,by omega,by omega⟩
theorem OnS.fits (h:OnS w W BN BT RN RT RF n M T s n' oao ocap t') (hT:1≤T∧T≤4) {ms:Nat→Nat→Mnd}(hok:Tk.Ok n.cn s T) (hf0:Tk.Fine n.cn (n.sc ms)) (hs:Tk.SameEnds n.cn (n.sc ms) s):fitT n' t'=true∧∀k i j,k<t'.length→i<n'.K→0≤(mat (tat t' k).l i).calm.getD j 0:=by
 obtain⟨e1,_,_⟩:=h.sizes;obtain⟨_,_,e3,_⟩:=h.plain;have hp:∀i,n'.pts i=n.pts i:=fun i=>by
  have:=(hs.len hf0 hok.fine i).1;rw[Pl.Net.sc_E,←e3] at this;exact this
 have hl:=h.len;refine⟨fit_iff.2 ⟨by omega,fun k hk => ?_⟩,fun k i j hk hi => ?_⟩
 ·rw[hl] at hk;obtain⟨a1,a2⟩:=h.ms k hk;refine⟨a1.trans e1.symm,fun i hi => ?_⟩;rw[e1] at hi;obtain⟨b1,b2⟩:=a2 i hi;have hf:=hok.fit k hk i hi;have hpl:(n'.pts i).length=(s.E n.cn i).length:=(by unfold Pl.Net.pts;rw[e3];simp)
  rw[←b1] at hf;exact⟨b2.trans (hp i).symm,hf.1.trans hpl.symm,hf.2.trans hpl.symm⟩
 ·rw[hl] at hk;rw[e1] at hi;obtain⟨_,a2⟩:=h.ms k hk;have:=(hok.calm k hk i hi j).1;rw[←(a2 i hi).1] at this;exact this
theorem OnS.below (h:OnS w W BN BT RN RT RF n M T s n' oao ocap t') {W':World}(hb:Bl W W'):OnS w W' BN BT RN RT RF n M T s n' oao ocap t' :=
 ⟨h.low.trans (hb.mono h.low.size),keep h.bxN hb,keep h.bxT hb,keep h.rN hb,keep h.rT hb,keep h.rF hb,ownsC_below h.brs hb,ownsC_below h.lks hb,h.mB,h.mL,h.mX,fun q hq=>Nat.lt_of_lt_of_le (h.mS q hq) hb.size,h.each.below hb,h.talk.below hb,h.re,h.len,h.ord,h.ms⟩
theorem OnS.prios (h:OnS w W BN BT RN RT RF n M T s n' oao ocap t') {i:Nat}(hi:i<n.K):∃gb,n'.bao=some ⟨gb,0,none⟩∧gb<W.heap.size∧W.frozen? ⟨gb,i*5+1,none⟩=false∧W.cell? ⟨gb,i*5+1,none⟩=some (.slice (n'.bs i).pao (s.pr i).length (n'.bs i).pcap)∧IRow W (n'.bs i).pao (s.pr i).length (n'.bs i).pcap (IL (s.pr i))∧NilOk (n'.bs i).pao (s.pr i).length (n'.bs i).pcap∧n.K≤n'.bcap:=by
 obtain⟨e1,_,_⟩:=h.sizes;obtain⟨f,e⟩:=h.re;have hat:=h.each.here i (by omega);have hpn:(n'.bs i).pn=(s.pr i).length∧(n'.bs i).pv=IL (s.pr i):=(by rw[e];exact⟨rfl,rfl⟩)
 obtain⟨⟨a1,_,_,_⟩,a2⟩:=hat;rw[hpn.1,hpn.2] at a1;rw[hpn.1] at a2;rcases owns_rowS h.brs with⟨_,z⟩ | ⟨gb,cap,sp,e3,e4,e5,e6,e7,e8⟩
 ·omega
 ·injection e3 with e3 _ e9;rw[e1] at e5 e8;have hc:=rowS_cell e8 hi (show 1<5 by omega);refine⟨gb,e3,lt_some e8,frozen_of_row _ _ _ _ _ e8,hc.trans ?_,a1,a2,by rw[e9];exact e5⟩;show some (Value.slice (n'.bs i).pao (n'.bs i).pn (n'.bs i).pcap)=_;rw[hpn.1]
theorem OnS.tick (h:OnS w W BN BT RN RT RF n M T s n' oao ocap t') (hok:Tk.Ok n.cn s T) {w2:World}{ao:Option Addr}{cap:Nat}{t2:List Tr}(hl:t2.length=t'.length) (he:∀k,k<t'.length→TickT n' (n'.ids k) (tat t' k).l (tat t2 k).l) (ht:Bz M w2 (fun V=>TrRow V ao cap t2)) (hb:Bl W w2) :
  OnS w (w2.setCell ⟨BT,0,none⟩ (.slice ao t2.length cap)) BN BT RN RT RF n M T (s.ticks n.cn 1) n' ao cap t2:=by
 obtain⟨e1,_,_⟩:=h.sizes;obtain⟨_,_,e3,e4⟩:=h.plain;have bxT:=keep h.bxT hb;obtain⟨o1,o2,o3,o4,o5⟩:=h.ord;refine⟨(h.low.trans (hb.mono h.low.size)).setCell (show w.heap.size≤BT by omega) _,pset_keep (keep h.bxN hb) (by omega),by rw[heap_setCell_same _ _ _ _ _ _ bxT];rfl,pset_keep (keep h.rN hb) (by omega),pset_keep (keep h.rT hb) (by omega),pset_keep (keep h.rF hb) (by omega),?_,?_,h.mB,h.mL,h.mX,fun q hq => ?_,(h.each.below hb).set h.mX,ht.set h.mX,h.re,hl.trans h.len,h.ord,fun k hk => ?_⟩
 ·have h1:=ownsC_below h.brs hb;exact owns_keep h1 (fun q hq=>pset_keep2 (by have:=(oCb h1 q hq).1;omega))
 ·have h1:=ownsC_below h.lks hb;exact owns_keep h1 (fun q hq=>pset_keep2 (by have:=(oCb h1 q hq).1;omega))
 ·have h1:=h.mS q hq;have h2:=hb.size;have h3:(w2.setCell ⟨BT,0,none⟩ (.slice ao t2.length cap)).heap.size=w2.heap.size:=(by simp)
  omega
 ·obtain⟨z1,z2⟩:=he k (by rw[h.len];exact hk);obtain⟨a1,a2⟩:=h.ms k hk;refine⟨z1.trans e1,fun i hi => ?_⟩;obtain⟨⟨_,_,p3⟩,hm⟩:=z2 i (by rw[e1];exact hi);refine⟨?_,p3.trans (a2 i hi).2⟩;show(⟨(mat (tat t2 k).l i).md,(mat (tat t2 k).l i).roles,(mat (tat t2 k).l i).calm⟩:Mnd)=Tk.tickF (s.ids n.cn k) (s.E n.cn) (s.ms k) i;rw[hm,e3,e4];exact tickF_congr (Pl.good hok.fine.links hok.fine.few _ _) (fun j hj=>(a2 j hj).1) hi
theorem OnS.link (h:OnS w W BN BT RN RT RF n M T s n' oao ocap t') {k x:Nat}{val:Value}{s':Sc}(hk:k<n.L) (hx:x<6) (hpr:s'.pr=s.pr) (hms:s'.ms=s.ms) (hls:∀j,j<n.L→∀y,y<6→lkC (s'.ls j) y=if j=k∧y=x then val else lkC (s.ls j) y) :
  ∃gl,n'.lao=some ⟨gl,0,none⟩∧(W.frozen? ⟨gl,k*6+x,none⟩=false∧W.cell? ⟨gl,k*6+x,none⟩=some (lkC (s.ls k) x)∧n.L≤n'.lcap)∧∃n2,OnS w (W.setCell ⟨gl,k*6+x,none⟩ val) BN BT RN RT RF n M T s' n2 oao ocap t':=by
 obtain⟨f,e⟩:=h.re;obtain⟨bao,K,bcap,bs,lao,L,lcap,ls⟩:=n';simp only at e;unfold reNet at e;simp only[Pl.Net.mk.injEq,true_and] at e;obtain⟨rfl,rfl,rfl,rfl⟩:=e;have hlk:=h.lks;simp only at hlk;rcases owns_rowS hlk with⟨_,z⟩ | ⟨gl,cap,sp,e1,e2,e3,e4,e5,e6⟩
 ·omega
 ·injection e1 with e1 _ e7;subst e1 e7;have hM:M gl:=h.mL gl rfl;obtain⟨o1,o2,o3,o4,o5⟩:=h.ord;have hset:=rowS_set e6 hk hx val;have hsz:∀q,M q→q<(W.setCell ⟨gl,k*6+x,none⟩ val).heap.size:=fun q hq=>by
   have h1:=h.mS q hq;have h3:(W.setCell ⟨gl,k*6+x,none⟩ val).heap.size=W.heap.size:=(by simp)
   omega
  refine⟨gl,rfl,⟨frozen_of_row _ _ _ _ _ e6,rowS_cell e6 hk hx,e3⟩,reNet n s' bao bcap (some ⟨gl,0,none⟩) lcap f,?_⟩;refine⟨h.low.setCell (show w.heap.size≤gl by omega) _,pset_keep h.bxN (by omega),pset_keep h.bxT (by omega),pset_keep h.rN (by omega),pset_keep h.rT (by omega),pset_keep h.rF (by omega),?_,?_,h.mB,h.mL,h.mX,hsz,?_,h.talk.set hM,⟨f,rfl⟩,h.len,h.ord,fun k hk => ?_⟩
  ·have h1:=owns_keep (w':=W.setCell ⟨gl,k*6+x,none⟩ val) h.brs (fun q hq=>pset_keep2 (fun z=>by
    obtain⟨c2,h2⟩:=owns_type h.brs hq;rw[z] at h2;exact absurd (cells_type h2 e6) (by decide)))
   unfold reNet;simp only at h1 ⊢;rw[hpr];exact h1
  ·refine rowS_owns e2 e3 e4 e5 ?_;refine hset.trans (congrArg (fun a=>some (Obj.cells a 83)) (rowS_congr2 sp ?_));intro j hj y hy;unfold updC;exact(hls j hj y hy).symm
  ·have h1:=h.each.set (o:=k*6+x) (v:=val) hM;unfold reNet;simp only at h1 ⊢;rw[hpr];exact h1
  ·obtain⟨a1,a2⟩:=h.ms k hk;exact⟨a1,fun i hi=>⟨by rw[hms];exact(a2 i hi).1,(a2 i hi).2⟩⟩
theorem OnS.prio (h:OnS w W BN BT RN RT RF n M T s n' oao ocap t') {W2:World}{i tr pc:Nat}{v:Int}{pa:Option Addr}(hi:i<n.K) (hb:Bl W W2) (hp:W2.ownsRow W.heap.size 3 1 (.slice pa (Tk.setPr (s.pr i) tr v).length pc) (Tk.setPr (s.pr i) tr v).length (intCells (Tk.setPr (s.pr i) tr v))) :
  ∃gb,n'.bao=some ⟨gb,0,none⟩∧(W2.frozen? ⟨gb,i*5+1,none⟩=false∧W2.cell? ⟨gb,i*5+1,none⟩=some (brC (n'.bs i) 1)∧n.K≤n'.bcap)∧∃n2,OnS w (W2.setCell ⟨gb,i*5+1,none⟩ (.slice pa (Tk.setPr (s.pr i) tr v).length pc)) BN BT RN RT RF n M T (s.setPrio i tr v) n2 oao ocap t':=by
 obtain⟨f,e⟩:=h.re;obtain⟨bao,K,bcap,bs,lao,L,lcap,ls⟩:=n';simp only at e;unfold reNet at e;simp only[Pl.Net.mk.injEq,true_and] at e;obtain⟨rfl,rfl,rfl,rfl⟩:=e;have hbr:=ownsC_below h.brs hb;simp only at hbr;rcases owns_rowS hbr with⟨_,z⟩ | ⟨gb,cap,sp,e1,e2,e3,e4,e5,e6⟩
 ·omega
 ·injection e1 with e1 _ e7;subst e1 e7;have hM:M gb:=h.mB gb rfl;obtain⟨o1,o2,o3,o4,o5⟩:=h.ord;obtain⟨pa',pc',ee,hrow,hnil,hnew⟩:=owns_c (by omega) hp;injection ee with ee1 _ ee2;subst ee1 ee2;have hset:=rowS_set e6 hi (show 1<5 by omega) (.slice pa (Tk.setPr (s.pr i) tr v).length pc);have hsz:∀q,M q→q<(W2.setCell ⟨gb,i*5+1,none⟩ (.slice pa (Tk.setPr (s.pr i) tr v).length pc)).heap.size:=fun q hq=>by
   have h1:=h.mS q hq;have h2:=hb.size;have h3:(W2.setCell ⟨gb,i*5+1,none⟩ (.slice pa (Tk.setPr (s.pr i) tr v).length pc)).heap.size=W2.heap.size:=(by simp)
   omega
  refine⟨gb,rfl,⟨frozen_of_row _ _ _ _ _ e6,rowS_cell e6 hi (show 1<5 by omega),e3⟩,reNet n (s.setPrio i tr v) (some ⟨gb,0,none⟩) bcap lao lcap (fun j=>if j=i then(pa,pc,(f j).2.2.1,(f j).2.2.2) else f j),?_⟩;refine⟨(h.low.trans (hb.mono h.low.size)).setCell (show w.heap.size≤gb by omega) _,pset_keep (keep h.bxN hb) (by omega),pset_keep (keep h.bxT hb) (by omega),pset_keep (keep h.rN hb) (by omega),pset_keep (keep h.rT hb) (by omega),pset_keep (keep h.rF hb) (by omega),?_,?_,h.mB,h.mL,h.mX,hsz,fun V hV j hj => ?_,(h.talk.below hb).set hM,⟨_,rfl⟩,h.len,h.ord,h.ms⟩
  ·refine rowS_owns e2 e3 e4 e5 ?_;refine hset.trans (congrArg (fun a=>some (Obj.cells a 74)) (rowS_congr2 sp ?_));intro j hj y hy;unfold updC Tk.Sc.setPrio;by_cases q:j=i
   ·subst q;rcases(by omega:y=0∨y=1∨y=2∨y=3∨y=4) with q | q | q | q | q<;>subst q<;>simp[brC,reNet]
   ·simp only[q,false_and,if_false,reNet]
  ·have h1:=ownsC_below h.lks hb;exact owns_keep h1 (fun q hq=>pset_keep2 (fun z=>by
    obtain⟨c2,h2⟩:=owns_type h1 hq;rw[z] at h2;exact absurd (cells_type h2 e6) (by decide)))
  ·have hold:=(h.each.below hb).set (o:=i*5+1) (v:=.slice pa (Tk.setPr (s.pr i) tr v).length pc) hM V hV j hj;by_cases q:j=i
   ·subst q;simp only at hold;obtain⟨⟨_,o2,_,o4⟩,_⟩:=hold;have hVp:V.ownsRow W.heap.size 3 1 (.slice pa (Tk.setPr (s.pr j) tr v).length pc) (Tk.setPr (s.pr j) tr v).length (intCells (Tk.setPr (s.pr j) tr v)):=owns_keep hp (fun q hq=>by
     obtain⟨u1,u2⟩:=oCb hp q hq;have hq2:¬M q:=fun z=>by have:=h.mS q z;omega
     have h3:(W2.setCell ⟨gb,j*5+1,none⟩ (.slice pa (Tk.setPr (s.pr j) tr v).length pc)).heap.size=W2.heap.size:=(by simp)
     have hne:q≠gb:=fun z=>hq2 (by rw[z];exact hM);exact(hV q (by omega) hq2).trans (pset_keep2 hne))
    unfold reNet Tk.Sc.setPrio;simp only[if_true];exact⟨⟨(owns_cs (by omega) hVp).2,o2,owns_few hp,o4⟩,hnil⟩
   ·unfold reNet Tk.Sc.setPrio;simp only[if_neg q];exact hold
theorem OnS.out {N:Nat→Prop}(h:OnS w W BN BT RN RT RF n M T s n' oao ocap t') (hw:n.Wf) (h0:n.wrong.1=0) (hok:Tk.Ok n.cn s T) (hNM:∀q,N q→M q) (hN:∀q,N q→q<w.heap.size) {W3:World}(hs:W3.heap.size=W.heap.size) (hk:∀q,q≠RN→q≠RT→q≠RF→W3.heap[q]?=W.heap[q]?) (hR:M (RN)∧M (RT)∧M (RF)):Bz N W3 (fun V=>SnOut V n T s n' oao ocap t'):=fun V hV=>by
 have R:=right_of hw h0;obtain⟨o1,o2,o3,o4,o5⟩:=h.ord;have hV2:∀q,q<W.heap.size→¬M q→V.heap[q]?=W.heap[q]?:=fun q h1 h2=>(hV q (by omega) (fun z=>h2 (hNM q z))).trans (hk q (fun z=>h2 (by rw[z];exact hR.1)) (fun z=>h2 (by rw[z];exact hR.2.1)) (fun z=>h2 (by rw[z];exact hR.2.2)));have hV3:∀q,RF+1≤q→q<W.heap.size→V.heap[q]?=W.heap[q]?:=fun q h1 h2=>(hV q (by omega) (fun z=>by have:=hN q z;omega)).trans (hk q (by omega) (by omega) (by omega));obtain⟨e1,e2,_⟩:=h.sizes;obtain⟨c1,c2,_,_⟩:=h.plain;obtain⟨f1,f2,_⟩:=h.fine hw h0 hok.fine;have hb:=owns_keep (w':=V) h.brs (fun q hq=>hV3 q (oCb h.brs q hq).1 (oCb h.brs q hq).2);have hl:=owns_keep (w':=V) h.lks (fun q hq=>hV3 q (oCb h.lks q hq).1 (oCb h.lks q hq).2);have hr:=R.few;have hr2:=R.fewL;refine⟨⟨(owns_cs (by omega) hb).2,fun i hi=>(h.each V hV2 i hi).1,(owns_cs (by omega) hl).2,by omega,by omega⟩,f2,f1,c1,c2,h.talk V hV2,h.len,h.ms,hok,fun i => ?_⟩;obtain⟨f,e⟩:=h.re;rw[e];exact⟨rfl,rfl,rfl,rfl,rfl⟩
end
end
end Go.Proofs.YtaneiffnhphkhaaGreatDoor
