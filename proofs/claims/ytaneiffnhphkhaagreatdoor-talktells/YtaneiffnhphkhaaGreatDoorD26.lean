/- walks: the document's Over -/
import Derived.Test.YtaneiffnhphkhaaGreatDoorD23
import Derived.Test.YtaneiffnhphkhaaGreatDoorD25
import Derived.Test.YtaneiffnhphkhaaGreatDoorD01
import Derived.Test.YtaneiffnhphkhaaGreatDoorD02
import Derived.Test.YtaneiffnhphkhaaGreatDoorD15
import Derived.Test.YtaneiffnhphkhaaGreatDoorD05
import Derived.Test.YtaneiffnhphkhaaGreatDoorD24
import Derived.Maps.AppendAt
set_option maxRecDepth 100000
set_option maxHeartbeats 40000000
namespace Go.Proofs.YtaneiffnhphkhaaGreatDoor
section
open Go.RowKit
open Vc (V Of)
open Pl (En Lk Br Net)
open Tk (Md Mnd)
def Bz (N:Nat→Prop) (w:World) (P:World→Prop):Prop:=∀V,(∀q,q<w.heap.size→¬N q→V.heap[q]?=w.heap[q]?)→P V
theorem Bz.here {N:Nat→Prop}{w:World}{P:World→Prop}(h:Bz N w P):P w:=h w (fun _ _ _=>rfl)
theorem Bz.below {N:Nat→Prop}{w w':World}{P:World→Prop}(h:Bz N w P) (hb:Bl w w'):Bz N w' P:=fun V hV=>h V (fun q h1 h2=>(hV q (Nat.lt_of_lt_of_le h1 hb.size) h2).trans (hb.block q h1))
theorem Bz.at' {N:Nat→Prop}{w w':World}{P:World→Prop}(h:Bz N w P) (hb:Bl w w'):P w':=(h.below hb).here
theorem Bz.imp {N:Nat→Prop}{w:World}{P Q:World→Prop}(h:Bz N w P) (hi:∀V,P V→Q V):Bz N w Q:=fun V hV=>hi V (h V hV)
theorem Bz.of {N M:Nat→Prop}{w:World}{P:World→Prop}(h:Bz N w P) (hi:∀q,M q→N q):Bz M w P:=fun V hV=>h V (fun q h1 h2=>hV q h1 (fun z=>h2 (hi q z)))
theorem Bz.set {N:Nat→Prop}{w:World}{P:World→Prop}(h:Bz N w P) {g o:Nat}{v:Value}(hg:N g):Bz N (w.setCell ⟨g,o,none⟩ v) P:=fun V hV=>h V (fun q h1 h2=>(hV q (by simpa using h1) h2).trans (heap_setCell_other _ _ _ _ (by show q≠g;intro e;rw[e] at h2;exact h2 hg)))
theorem Bz.more {N M:Nat→Prop}{w w':World}{P:World→Prop}(h:Bz N w P) (hb:Bl w w') (hM:∀q,M q→w.heap.size≤q):Bz (fun q=>N q∨M q) w' P:=fun V hV=>h V (fun q h1 h2=>(hV q (Nat.lt_of_lt_of_le h1 hb.size) (fun z=>by rcases z with z | z;exact h2 z;have:=hM q z;omega)).trans (hb.block q h1))
structure RkI (W:World) (base:Nat) (m:Mi):Prop where
 roles:W.ownsRow base 3 1 (.slice m.ro m.roles.length m.rc) m.roles.length (intCells m.roles)
 calm:W.ownsRow base 3 1 (.slice m.co m.calm.length m.cc) m.calm.length (intCells m.calm)
structure RkM (W:World) (base:Nat) (v:Value) (l:List Mi):Prop where
 row:W.ownsRow base 66 9 v l.length (cellsL l.length 9 (fun i=>miC (mat l i)))
 each:∀m∈l,RkI W base m
structure RkT (W:World) (base:Nat) (v:Value) (t:List Tr):Prop where
 row:W.ownsRow base 64 1 v t.length (cellsL t.length 1 (fun k _=>.slice (tat t k).ao (tat t k).l.length (tat t k).cap))
 each:∀x∈t,RkM W base (.slice x.ao x.l.length x.cap) x.l
theorem RkI.keep {W W':World}{base:Nat}{m:Mi}(h:RkI W base m) (hk:∀(q:Nat) (cur:Array Value),base≤q→W.heap[q]?=some (Obj.cells cur 3)→W'.heap[q]?=W.heap[q]?):RkI W' base m :=
 ⟨owns_keep h.roles (fun q hq=>by obtain⟨cur,hc⟩:=owns_type h.roles hq;exact hk q cur (oCb h.roles q hq).1 hc),owns_keep h.calm (fun q hq=>by obtain⟨cur,hc⟩:=owns_type h.calm hq;exact hk q cur (oCb h.calm q hq).1 hc)⟩
theorem RkM.keep {W W':World}{base:Nat}{v:Value}{l:List Mi}(h:RkM W base v l) (hk:∀(q:Nat) (cur:Array Value) (ty:TypeId),base≤q→W.heap[q]?=some (Obj.cells cur ty (0,0))→ty=3∨ty=66→W'.heap[q]?=W.heap[q]?):RkM W' base v l :=
 ⟨owns_keep h.row (fun q hq=>by obtain⟨cur,hc⟩:=owns_type h.row hq;exact hk q cur _ (oCb h.row q hq).1 hc (Or.inr rfl)),fun m hm=>(h.each m hm).keep (fun q cur hb hc=>hk q cur _ hb hc (Or.inl rfl))⟩
theorem RkT.keep {W W':World}{base:Nat}{v:Value}{t:List Tr}(h:RkT W base v t) (hk:∀(q:Nat) (cur:Array Value) (ty:TypeId),base≤q→W.heap[q]?=some (Obj.cells cur ty (0,0))→ty=3∨ty=66∨ty=64→W'.heap[q]?=W.heap[q]?):RkT W' base v t :=
 ⟨owns_keep h.row (fun q hq=>by obtain⟨cur,hc⟩:=owns_type h.row hq;exact hk q cur _ (oCb h.row q hq).1 hc (Or.inr (Or.inr rfl))),fun x hx=>(h.each x hx).keep (fun q cur ty hb hc ht=>hk q cur ty hb hc (by rcases ht with e | e;exact Or.inl e;exact Or.inr (Or.inl e)))⟩
theorem RkI.below {W W':World}{base:Nat}{m:Mi}(h:RkI W base m) (hb:Bl W W'):RkI W' base m:=h.keep (fun q _ _ hc=>hb.block q (lt_some hc))
theorem RkM.below {W W':World}{base:Nat}{v:Value}{l:List Mi}(h:RkM W base v l) (hb:Bl W W'):RkM W' base v l:=h.keep (fun q _ _ _ hc _=>hb.block q (lt_some hc))
theorem RkT.below {W W':World}{base:Nat}{v:Value}{t:List Tr}(h:RkT W base v t) (hb:Bl W W'):RkT W' base v t:=h.keep (fun q _ _ _ hc _=>hb.block q (lt_some hc))
theorem RkI.mono {W:World}{base base':Nat}{m:Mi}(h:RkI W base m) (hb:base'≤base):RkI W base' m:=⟨owns_mono h.roles hb,owns_mono h.calm hb⟩
theorem RkM.mono {W:World}{base base':Nat}{v:Value}{l:List Mi}(h:RkM W base v l) (hb:base'≤base):RkM W base' v l:=⟨owns_mono h.row hb,fun m hm=>(h.each m hm).mono hb⟩
theorem RkM.nil (W:World) (base:Nat):RkM W base (.slice none 0 0) []:=⟨ownsC_nil _ _ _ _ _,fun m h=>by simp at h⟩
theorem RkT.nil (W:World) (base:Nat):RkT W base (.slice none 0 0) []:=⟨ownsC_nil _ _ _ _ _,fun m h=>by simp at h⟩
theorem more_k (base:Nat) (W:World) (v:Value) (l:List Mi) (x:Mi) (ho:RkM W base v l) (hx:RkI W base x) (hl:l.length≤1000) (hbase:base≤W.heap.size) :
  ∃a c W2,runAppM v (.slice (some ⟨W.heap.size,0,none⟩) 1 1) (W.alloc (.cells (miA x) 66)) (.slice a (l++[x]).length c) W2∧RkM W2 base (.slice a (l++[x]).length c) (l++[x])∧Below base W W2:=by
 have hb1:=bA1 W (.cells (miA x) 66);have ho1:=ho.below hb1;have hx1:=hx.below hb1;obtain⟨a1,c1,w',r,o,b,q⟩:=append_c (W.alloc (.cells (miA x) 66)) 64 66 _ 9 120 Tryz.underlying64 infoMn rfl (by omega) base v l.length _ ho1.row (some ⟨W.heap.size,0,none⟩) 1 1 (fun _=>miC x) (fun _ _=>miC_one _ _) (one_mind (heap_alloc_last W _)) (fun h=>by cases h) (by unfold maxLen;omega) (by omega) (by have:=hb1.size;omega);have e:l.length+1=(l++[x]).length:=(by simp)
 rw[e] at r o;refine⟨a1,c1,w',r,⟨?_,?_⟩,(hb1.mono hbase).trans b⟩
 ·rw[cellsL_congr _ 9 _ (fun i=>miC (mat (l++[x]) i))] at o
  ·exact o
  ·intro i hi;unfold catC;by_cases h:i<l.length
   ·rw[if_pos h,mat_left l _ i h]
   ·have hi':i=l.length:=(by simp at hi;omega)
    subst hi';rw[if_neg (by omega),mat_right l _ _ (Nat.le_refl _),Nat.sub_self];rfl
 ·have hk:∀(g:Nat) (cur:Array Value),base≤g→(W.alloc (.cells (miA x) 66)).heap[g]?=some (Obj.cells cur 3)→w'.heap[g]?=(W.alloc (.cells (miA x) 66)).heap[g]?:=fun g cur _ hg=>by
   refine q g (lt_some hg) (fun hv => ?_);obtain⟨c2,h2⟩:=owns_type ho1.row hv.symm;exact absurd (cells_type hg h2) (by decide)
  intro y hy;rcases List.mem_append.1 hy with h | h
  ·exact(ho1.each y h).keep hk
  ·have:y=x:=by simpa using h
   subst this;exact hx1.keep hk
theorem infoMt:(Tryz.prog.info? 64).map (fun i=>(i.zero,i.size,i.bytes))=some (some (.slice none 0 0),1,24):=by kernel_rfl
theorem tat_left (l m:List Tr) (i:Nat) (h:i<l.length):tat (l++m) i=tat l i:=by
 simp[tat,h,List.getElem?_append_left]
theorem tat_right (l m:List Tr) (i:Nat) (h:l.length≤i):tat (l++m) i=tat m (i-l.length):=by
 simp[tat,h,List.getElem?_append_right]
theorem one_slice {w:World}{g:Nat}{x:Value}{ty:TypeId}(h:w.heap[g]?=some (.cells #[x] ty (0,0))):CRow w (some ⟨g,0,none⟩) 1 1 1 (fun _ _=>x):=by
 refine⟨Nat.le_refl _,fun _=>⟨g,0,rfl,(gSm.1 h).1,fun i hi j hj => ?_⟩⟩;obtain rfl:i=0:=by omega
 obtain rfl:j=0:=by omega
 exact cell_of_row w g 0 _ _ _ h
theorem more_r (base:Nat) (W:World) (v:Value) (t:List Tr) (x:Tr) (ho:RkT W base v t) (hx:RkM W base (.slice x.ao x.l.length x.cap) x.l) (hl:t.length≤1000) (hbase:base≤W.heap.size) :
  ∃a c W2,(Builtin.append_ #[27,27] 27 #[v,.slice (some ⟨W.heap.size,0,none⟩) 1 1]).run Tryz.prog (W.alloc (.cells #[.slice x.ao x.l.length x.cap] 64))=.ok (.slice a (t++[x]).length c) W2∧RkT W2 base (.slice a (t++[x]).length c) (t++[x])∧Below base W W2∧(∀(q:Nat) (cur:Array Value) (ty:TypeId),W.heap[q]?=some (Obj.cells cur ty (0,0))→ty≠64→W2.heap[q]?=some (Obj.cells cur ty (0,0))):=by
 have hb1:=bA1 W (.cells #[.slice x.ao x.l.length x.cap] 64);have ho1:=ho.below hb1;have hx1:=hx.below hb1;obtain⟨a1,c1,w',r,o,b,q⟩:=append_c (W.alloc (.cells #[.slice x.ao x.l.length x.cap] 64)) 27 64 _ 1 24 Tryz.underlying27 infoMt rfl (by omega) base v t.length _ ho1.row (some ⟨W.heap.size,0,none⟩) 1 1 (fun _ _=>.slice x.ao x.l.length x.cap) (fun _ _=>rfl) (one_slice (heap_alloc_last W _)) (fun h=>by cases h) (by unfold maxLen;omega) (by omega) (by have:=hb1.size;omega);have e:t.length+1=(t++[x]).length:=(by simp)
 rw[e] at r o;have hk:∀(g:Nat) (cur:Array Value) (ty:TypeId),(W.alloc (.cells #[.slice x.ao x.l.length x.cap] 64)).heap[g]?=some (Obj.cells cur ty (0,0))→ty≠64→w'.heap[g]?=(W.alloc (.cells #[.slice x.ao x.l.length x.cap] 64)).heap[g]?:=fun g cur ty hg hne=>by
  refine q g (lt_some hg) (fun hv => ?_);obtain⟨c2,h2⟩:=owns_type ho1.row hv.symm;exact hne (cells_type hg h2)
 refine⟨a1,c1,w',r,⟨?_,?_⟩,(hb1.mono hbase).trans b,fun g cur ty hg hne=>(hk g cur ty (keep hg hb1) hne).trans (keep hg hb1)⟩
 ·rw[cellsL_congr _ 1 _ (fun k _=>.slice (tat (t++[x]) k).ao (tat (t++[x]) k).l.length (tat (t++[x]) k).cap)] at o
  ·exact o
  ·intro i hi;unfold catC;by_cases h:i<t.length
   ·rw[if_pos h,tat_left t _ i h]
   ·have hi':i=t.length:=(by simp at hi;omega)
    subst hi';rw[if_neg (by omega),tat_right t _ _ (Nat.le_refl _),Nat.sub_self];rfl
 ·intro y hy;have hk2:∀(g:Nat) (cur:Array Value) (ty:TypeId),base≤g→(W.alloc (.cells #[.slice x.ao x.l.length x.cap] 64)).heap[g]?=some (Obj.cells cur ty (0,0))→ty=3∨ty=66→w'.heap[g]?=(W.alloc (.cells #[.slice x.ao x.l.length x.cap] 64)).heap[g]?:=fun g cur ty _ hg ht=>hk g cur ty hg (by rcases ht with e | e<;>rw[e]<;>decide);rcases List.mem_append.1 hy with h | h
  ·exact(ho1.each y h).keep hk2
  ·have:y=x:=by simpa using h
   subst this;exact hx1.keep hk2
theorem tat_mem {l:List Tr}{i:Nat}(h:i<l.length):tat l i∈l:=by
 have:tat l i=l[i]:=by simp[tat,h]
 rw[this];exact List.getElem_mem h
theorem owns_ils {W:World}{base:Nat}{a:Option Addr}{c:Nat}{x:List Int}(h:W.ownsRow base 3 1 (.slice a x.length c) x.length (intCells x)):ILs W a c x∧x.length≤9223372036854775807:=by
 obtain⟨ao',cap',e',h1,_,_⟩:=owns_c (by omega) h;injection e' with e1 _ e2;subst e1 e2;exact⟨h1,owns_few h⟩
theorem RkT.row' {W:World}{base:Nat}{ao:Option Addr}{cap:Nat}{t:List Tr}(h:RkT W base (.slice ao t.length cap) t) (hl:t.length≤1000) (hm:∀k,k<t.length→(tat t k).l.length≤1000) (hp:∀k,k<t.length→∀i,i<(tat t k).l.length→ILs W (mat (tat t k).l i).po (mat (tat t k).l i).pc (mat (tat t k).l i).ports∧(mat (tat t k).l i).ports.length≤9223372036854775807):TrRow W ao cap t:=by
 refine⟨(owns_cs (by omega) h.row).2,fun k hk => ?_,by omega⟩;have hx:=h.each _ (tat_mem hk);refine⟨(owns_cs (by omega) hx.row).2,fun i hi => ?_,by have:=hm k hk;omega⟩;have hi2:=hx.each _ (mat_mem hi);exact⟨(hp k hk i hi).1,(owns_ils hi2.roles).1,(owns_ils hi2.calm).1,(hp k hk i hi).2,(owns_ils hi2.roles).2,(owns_ils hi2.calm).2⟩
structure TickM (n:Net) (ids:Nat→Int) (l:List Mi) (i:Nat) (m:Mi):Prop where
 po:m.po=(mat l i).po∧m.pc=(mat l i).pc∧m.ports=(mat l i).ports
 mnd:(⟨m.md,m.roles,m.calm⟩:Mnd)=Tk.tickF ids n.ends (fun j=>⟨(mat l j).md,(mat l j).roles,(mat l j).calm⟩) i
def TickT (n:Net) (ids:Nat→Int) (l l':List Mi):Prop:=l'.length=n.K∧∀i,i<n.K→TickM n ids l i (mat l' i)
theorem tick_row {N:Nat→Prop}{w W:World}{n:Net}{t t':List Tr}{oao ao:Option Addr}{ocap cap:Nat}(hN:∀q,N q→q<w.heap.size) (ht:Bz N w (fun V=>TrRow V oao ocap t)) (hf:∀k,k<t.length→(tat t k).l.length=n.K) (h4:t.length≤4) (hK:n.K≤12) (hb:Bl w W)
  (h:RkT W w.heap.size (.slice ao t'.length cap) t') (hl:t'.length=t.length) (he:∀k,k<t.length→TickT n (n.ids k) (tat t k).l (tat t' k).l):Bz N W (fun V=>TrRow V ao cap t'):=fun V hV=>by
 have ho:TrRow V oao ocap t:=ht V (fun q h1 h2=>(hV q (Nat.lt_of_lt_of_le h1 hb.size) h2).trans (hb.block q h1));have hk:RkT V w.heap.size (.slice ao t'.length cap) t':=h.keep (fun q _ _ hq hc _=>hV q (lt_some hc) (fun z=>by have:=hN q z;omega));refine hk.row' (by omega) (fun k hk=>by rw[(he k (by omega)).1];omega) (fun k hk i hi => ?_);obtain⟨e1,e2⟩:=he k (by omega);have hiK:i<n.K:=(by rw[←e1];exact hi)
 obtain⟨p1,p2,p3⟩:=(e2 i hiK).po;have hm:=(ho.each k (by omega)).each i (by rw[hf k (by omega)];exact hiK);rw[p1,p2,p3];exact⟨hm.ports,hm.pn⟩
end
section
open Go.RowKit
theorem append_at (w:World) (t e:TypeId) (z:Value) (k bytes:Nat) (ht:Tryz.prog.underlying t=some (.slice e)) (hinfo:(Tryz.prog.info? e).map (fun i=>(i.zero,i.size,i.bytes))=some (some z,k,bytes)) (hzk:z.cells.size=k) (hk:0<k)
  (base:Nat) (v:Value) (n:Nat) (c:Nat→Nat→Value) (hown:w.ownsRow base e k v n (cellsL n k c)) (ad:Addr) (m cp:Nat) (d:Nat→Nat→Value) (hd:∀i j,(d i j).oneCell'=true) (hr:CRow w (some ad) m cp k d) (h63:n+m≤maxLen) (hb:(n+m)*bytes≤140737488355328) (hbase:base≤w.heap.size) :
  ∃a1 c1 w',(Builtin.append_ #[t,t] t #[v,.slice (some ad) m cp]).run Tryz.prog w=.ok (.slice a1 (n+m) c1) w'∧w'.ownsRow base e k (.slice a1 (n+m) c1) (n+m) (cellsL (n+m) k (catC n c d))∧w.grownBy w' v.ownBlock∧Below base w w'∧((Value.slice a1 (n+m) c1).ownBlock=v.ownBlock∨(Value.slice a1 (n+m) c1).ownBlock=some w.heap.size):=by
 obtain⟨i0,hi,hz0,hz1,hz2⟩:=info_parts hinfo;obtain⟨v',w',hrun,h1,h2,_,h3⟩:=run_append_own_at (P:=Tryz.prog) w base t t e i0 z k bytes ht hi hz0 hz1 hz2 hzk hk v n _ hown ad m cp (cellsL m k d) (cellsL_length _ _ _) (src_cells hk hr rfl) (cellsL_one _ _ _ hd) h63 hb hbase;rw[cellsL_cat n m k hk] at h1;obtain⟨a1,c1,rfl,_⟩:=owns_c hk h1;exact⟨a1,c1,w',hrun,h1,h2,(Below.refl _ _).grown h2 hbase (fun q hq=>(oCb hown q hq).1),h3⟩
theorem size_zero {s:ByteArray}(h:s.size=0):s=⟨#[]⟩:=by
 obtain⟨d⟩:=s;have:d.size=0:=h;rw[Array.eq_empty_of_size_eq_zero this]
theorem rwrong_any (s:ByteArray) (rev:Int) (ao:Option Addr) (n cap:Nat) (vs ts:Nat→Int) (w:World) (hn:n≤9223372036854775807) (hr:WayRow w ao n cap vs ts) :
  Calls Tryz.prog 58 #[.agg #[.string s,.int .i64 rev,.slice ao n cap]] w fun e w'=>e=.returned (.int .i64 (Rg.wrong s rev vs ts n))∧Bl w w':=by
 have HR:Hid (WayRow w ao n cap vs ts):=hr;clear hr;by_cases h0:s.size=0
 ·have e1:Rg.wrong s rev vs ts n=7:=by
   unfold Rg.wrong Rg.isName;simp[h0]
  have hs:=size_zero h0;subst hs;rw[e1];go_enter Tryz.func58,Tryz.ntmps58;go_wp2
  go_ret;exact⟨rfl,bA1 _ _⟩
 ·have hne:¬s.toList=[]:=by
   intro h;rw[ByteArray.toList_eq] at h;exact h0 (by show s.data.size=0;rw[←Array.length_toList,h];rfl)
  have hne2:(s.toList == [])=false:=(by simpa using hne)
  have hne3:decide (s.toList=[])=false:=decide_eq_false hne;by_cases h1:(32:Int)<s.size
  ·have e1:Rg.wrong s rev vs ts n=7:=by
    have:¬s.size≤32:=by omega
    unfold Rg.wrong Rg.isName;simp[this]
   rw[e1];go_enter Tryz.func58,Tryz.ntmps58;go_wp2
   go_ret;exact⟨rfl,bA1 _ _⟩
  ·have hs32:s.size≤32:=(by omega)
   have hnm:Hid (Rg.isName s=!Rg.anyOdd (Rg.nb s) s.size):=by
    show _=_;unfold Rg.isName;rw[decide_eq_true (show 1≤s.size by omega),decide_eq_true hs32];rfl
   obtain⟨ccap,cur,w1,hrun,hbr,hb1,hz1,_,_,_⟩:=conv_bytes (w.alloc (.cells #[.string s,.int .i64 rev,.slice ao n cap] 72)) s;have hza:(w.alloc (.cells #[.string s,.int .i64 rev,.slice ao n cap] 72)).heap.size=w.heap.size+1:=(by simp)
   unfold Bl at hb1;rw[hza] at hrun hbr hb1 hz1;have HBR:Hid (ByteRow w1 (some ⟨w.heap.size+1,0,none⟩) s.size ccap (Rg.nb s)):=hbr;have hccap:=hbr.1;have HW:Hid (∀W,Below (w.heap.size+1) w1 W→W.cell? ⟨w.heap.size,1,none⟩=some (.int .i64 rev)∧W.cell? ⟨w.heap.size,2,none⟩=some (.slice ao n cap)∧WayRow W ao n cap vs ts∧Bl w W):=by
    intro W hW;have hb2:=hb1.trans hW;have h:=rg_cells ((hb2.block w.heap.size (by omega)).trans (heap_alloc_last w (.cells #[.string s,.int .i64 rev,.slice ao n cap] 72)));have hl:Bl w W:=(bA1 w _).trans (hb2.mono (by omega));exact⟨h.2.1,h.2.2,HR.out.below hl,hl⟩
   clear hbr hb1 hza HR;go_enter Tryz.func58,Tryz.ntmps58;(go_wp2_with fail);go_loopw [21] (fun i wr=>∃k:Nat,k≤s.size∧i=.int .i64 k∧Hid (Rg.anyOdd (Rg.nb s) k=false)∧wr=w1) (fun i _=>s.size-(intOf i).toNat)
   case atStart=>exact⟨0,by omega,rfl,rfl,rfl⟩
   case round =>
    obtain⟨k,hk,rfl,hX,rfl⟩:=hrel;by_cases hlt:k<s.size
    ·obtain⟨b,off,e0,_,hc⟩:=HBR.out.2 (by omega);cases e0
     have c4:wr.cell? ⟨w.heap.size+1,k,none⟩=some (.int .u8 (Rg.nb s k)):=(by have:=hc k hlt;rw[Nat.zero_add] at this;exact this)
     have HS1:Hid (Rg.odd (Rg.nb s k)=true→Rg.wrong s rev vs ts n=7):=by
      intro h;unfold Rg.wrong;rw[hnm.out,Rg.anyOdd_here (Rg.nb s) k s.size hlt h];rfl
     have HS2:Hid (Rg.odd (Rg.nb s k)=false→Rg.anyOdd (Rg.nb s) (k+1)=false):=fun h=>Rg.anyOdd_next (Rg.nb s) k hX.out h;have HL:Hid (Bl w wr):=(HW.out _ (Below.refl _ _)).2.2.2;clear hc HBR hX hrun HW;generalize Rg.nb s k=c at *;by_cases q1:c<32
     ·have ho:Hid (Rg.odd c=true):=by show _=_;unfold Rg.odd;simp[q1]
      go_wp2
      go_ret;exact⟨by rw[HS1.out ho.out];rfl,HL.out⟩
     ·by_cases q2:126<c
      ·have ho:Hid (Rg.odd c=true):=by show _=_;unfold Rg.odd;simp[q2]
       go_wp2
       go_ret;exact⟨by rw[HS1.out ho.out];rfl,HL.out⟩
      ·have ho:Hid (Rg.odd c=false):=by show _=_;unfold Rg.odd;simp[q1,q2]
       go_wp2
       exact⟨⟨k+1,by omega,by go_num,HS2.out ho.out,trivial⟩,by simp[intOf];omega⟩
    ·obtain rfl:k=s.size:=by omega
     have HN:Hid (Rg.isName s=true):=(by rw[hnm.out,hX.out];rfl)
     clear hX hrun HBR;by_cases q1:0≤rev∧rev≤65535
     ·have HE:Hid (Rg.wrong s rev vs ts n=Rg.wrongTo vs ts n):=by show _=_;unfold Rg.wrong;rw[if_pos HN.out,if_pos q1]
      obtain⟨q2,q3⟩:=q1;obtain⟨d1,d2,_,_⟩:=HW.out _ (Below.refl _ _);rename World=>w2
      (go_wp2_with fail);go_loopw [5,43] (fun a i wr=>∃k:Nat,k≤n∧i=.int .i64 k∧a=.int .i64 (Rg.last vs k)∧Hid (Rg.wrongTo vs ts k=0)∧Hid (Below (w.heap.size+1) w2 wr)) (fun _ i _=>n-(intOf i).toNat)
      case atStart=>exact⟨0,by omega,rfl,rfl,rfl,Below.refl _ _⟩
      case round =>
       obtain⟨k,hk,rfl,rfl,hX,hB⟩:=hrel;by_cases hlt:k<n
       ·obtain⟨_,_,hway,hlow⟩:=HW.out _ hB.out;obtain⟨b,off,rfl,hb,hc⟩:=hway.2 (by omega);have hcap:=hway.1;have c0:wr.cell? ⟨b,off+k*2,none⟩=some (.int .i64 (vs k)):=(hc k hlt).1;have c1:wr.cell? ⟨b,off+k*2+1,none⟩=some (.int .i64 (ts k)):=(hc k hlt).2;have HE2:Hid (Rg.wayErr (Rg.last vs k) (vs k) (ts k)≠0→Rg.wrong s rev vs ts n=Rg.wayErr (Rg.last vs k) (vs k) (ts k)):=fun h=>HE.out.trans (Rg.wrongTo_here vs ts k n hlt hX.out h);have HZ:Hid (Rg.wayErr (Rg.last vs k) (vs k) (ts k)=0→Rg.wrongTo vs ts (k+1)=0):=fun h=>Rg.wrongTo_succ vs ts k hX.out h;have HL:Hid (Rg.last vs (k+1)=vs k):=by show Rg.last vs (k+1)=vs k;unfold Rg.last;rw[if_neg (by omega)];rfl
        have HBL:Hid (∀o,Bl w (wr.alloc o)):=fun o=>hlow.alloc hlow.size _;have HBK:Hid (∀o,Below (w.heap.size+1) w2 (wr.alloc o)):=fun o=>hB.out.alloc (by have:=hB.out.size;omega) _;clear hc hway hlow hX hB HE HW;generalize Rg.last vs k=l at *;generalize vs k=v at *;generalize ts k=t at *;by_cases g1:v<1
        ·have HW:Hid (Rg.wayErr l v t=3):=by show Rg.wayErr l v t=3;unfold Rg.wayErr;rw[if_neg (by omega)]
         go_wp2
         go_ret;exact⟨by rw[HE2.out (by rw[HW.out];decide),HW.out];rfl,HBL.out _⟩
        ·by_cases g2:4094<v
         ·have HW:Hid (Rg.wayErr l v t=3):=by show Rg.wayErr l v t=3;unfold Rg.wayErr;rw[if_neg (by omega)]
          go_wp2
          go_ret;exact⟨by rw[HE2.out (by rw[HW.out];decide),HW.out];rfl,HBL.out _⟩
         ·by_cases g3:t<1
          ·have HW:Hid (Rg.wayErr l v t=3):=by show Rg.wayErr l v t=3;unfold Rg.wayErr;rw[if_neg (by omega)]
           go_wp2
           go_ret;exact⟨by rw[HE2.out (by rw[HW.out];decide),HW.out];rfl,HBL.out _⟩
          ·by_cases g4:15<t
           ·have HW:Hid (Rg.wayErr l v t=3):=by show Rg.wayErr l v t=3;unfold Rg.wayErr;rw[if_neg (by omega)]
            go_wp2
            go_ret;exact⟨by rw[HE2.out (by rw[HW.out];decide),HW.out];rfl,HBL.out _⟩
           ·by_cases g5:v≤l
            ·have HW:Hid (Rg.wayErr l v t=2):=by show Rg.wayErr l v t=2;unfold Rg.wayErr;rw[if_pos (by omega),if_pos g5]
             go_wp2
             go_ret;exact⟨by rw[HE2.out (by rw[HW.out];decide),HW.out];rfl,HBL.out _⟩
            ·have HW:Hid (Rg.wayErr l v t=0):=by show Rg.wayErr l v t=0;unfold Rg.wayErr;rw[if_pos (by omega),if_neg g5]
             go_wp2
             exact⟨⟨k+1,by omega,by go_num,by rw[HL.out],HZ.out HW.out,HBK.out _⟩,by simp[intOf];omega⟩
       ·obtain rfl:k=n:=by omega
        have HLo:Hid (Bl w wr):=(HW.out _ hB.out).2.2.2;go_wp2
        go_ret;exact⟨by rw[HE.out,hX.out];rfl,HLo.out⟩
     ·have HE:Hid (Rg.wrong s rev vs ts n=3):=by show _=_;unfold Rg.wrong;rw[if_pos HN.out,if_neg q1]
      obtain⟨d1,d2,_,hlow⟩:=HW.out _ (Below.refl _ _);have HLo:Hid (Bl w wr):=hlow;clear hlow HW;by_cases q2:rev<0
      ·clear q1;go_wp2
       go_ret;exact⟨by rw[HE.out];rfl,HLo.out⟩
      ·have q3:65535<rev:=(by omega)
       clear q1;go_wp2
       go_ret;exact⟨by rw[HE.out];rfl,HLo.out⟩
end
section
open Go.RowKit
open Vc (V Of)
open Pl (Br Net Pc Lk En)
theorem psizeFa:(Tryz.prog.info? 32).map (·.size)=some 2:=by kernel_rfl
theorem pfa_set {w:World}{g:Nat}{a0 a1 v0 v1:Value}{ty:TypeId}(h:w.heap[g]?=some (.cells #[a0,a1] ty (0,0))):((w.setCell ⟨g,0,none⟩ v0).setCell ⟨g,1,none⟩ v1).heap[g]?=some (.cells #[v0,v1] ty (0,0)):=by
 have h0:(w.setCell ⟨g,0,none⟩ v0).heap[g]?=some (.cells #[v0,a1] ty (0,0)):=(by rw[heap_setCell_same _ _ _ _ _ _ h];rfl)
 rw[heap_setCell_same _ _ _ _ _ _ h0];rfl
theorem pfa_cells {w:World}{g:Nat}{a0 a1:Value}{ty:TypeId}(h:w.heap[g]?=some (.cells #[a0,a1] ty (0,0))):w.cell? ⟨g,0,none⟩=some a0∧w.cell? ⟨g,1,none⟩=some a1∧w.frozen? ⟨g,0,none⟩=false∧w.frozen? ⟨g,1,none⟩=false :=
 ⟨cell_of_row w g 0 _ _ _ h,cell_of_row w g 1 _ _ _ h,frozen_of_row _ _ _ _ _ h,frozen_of_row _ _ _ _ _ h⟩
theorem plt_some {W:World}{q:Nat}{o:Obj}(h:W.heap[q]?=some o):q<W.heap.size:=(gSm.1 h).1
theorem pset_keep {w:World}{g j o:Nat}{v:Value}{x:Obj}(h:w.heap[g]?=some x) (hne:g≠j):(w.setCell ⟨j,o,none⟩ v).heap[g]?=some x :=
 (heap_setCell_other _ _ _ _ (by exact hne)).trans h
theorem pup {w W W':World}{b:Nat}(h:Below b w W) (k:Bl W W') (hb:b≤W.heap.size):Below b w W':=h.trans (k.mono hb)
theorem pwrong_b {n:Net}(hf:¬(12<n.K∨40<n.L)) {k:Nat}{e:Int}(hk:k<n.K) (h0:∀j,j<k→Pl.bErr n.bs j=0) (he:e≠0) (h:Pl.bErr n.bs k=e):n.wrong=(e,(k:Int)):=by
 have h1:=Pl.firstTo_here (Pl.bErr n.bs) k h0 (by rw[h];exact he) n.K hk;rw[h] at h1;unfold Pl.Net.wrong;rw[if_neg hf,h1,if_pos he]
theorem pwrong_l {n:Net}(hf:¬(12<n.K∨40<n.L)) (hb:∀j,j<n.K→Pl.bErr n.bs j=0) {k:Nat}{e:Int}(hk:k<n.L) (h0:∀j,j<k→Pl.lErr n.K n.ls j=0) (he:e≠0) (h:Pl.lErr n.K n.ls k=e):n.wrong=(e,(k:Int)):=by
 have h1:=Pl.firstTo_here (Pl.lErr n.K n.ls) k h0 (by rw[h];exact he) n.L hk;rw[h] at h1;unfold Pl.Net.wrong;rw[if_neg hf,Pl.firstTo_all _ _ hb,if_neg (fun z=>z rfl),h1]
theorem pwrong_0 {n:Net}(hf:¬(12<n.K∨40<n.L)) (hb:∀j,j<n.K→Pl.bErr n.bs j=0) (hl:∀j,j<n.L→Pl.lErr n.K n.ls j=0):n.wrong=(0,0):=by
 unfold Pl.Net.wrong;rw[if_neg hf,Pl.firstTo_all _ _ hb,if_neg (fun z=>z rfl),Pl.firstTo_all _ _ hl]
theorem upto {f:Nat→Int}{k:Nat}(h:∀j,j<k→f j=0) (hk:f k=0):∀j,j<k+1→f j=0:=fun j hj=>by
 by_cases e:j=k
 ·subst e;exact hk
 ·exact h j (by omega)
theorem had_7 {K:Nat}{ls:Nat→Lk}{k m q:Nat}(hk:Pl.lkErr K (ls k)=0) (hm:m<2) (hq:q<2*k+m) (he:endSeq ls q=endSeq ls (2*k+m)):Pl.lErr K ls k=7:=by
 have hab:(ls k).a≠(ls k).b:=by
  intro e;unfold Pl.lkErr at hk;rw[if_pos e] at hk;split at hk
  ·cases hk
  ·cases hk
 have hq2:q<2*k:=by
  rcases(by omega:q<2*k∨q=2*k∧m=1) with h | ⟨rfl,rfl⟩
  ·exact h
  ·rw[endSeq_even,endSeq_odd] at he;injection he with h1 _;exact absurd h1 hab
 unfold Pl.lErr;rw[if_neg (fun z=>z hk),if_pos];rw[Pl.someTo_iff];rcases(by omega:m=0∨m=1) with rfl | rfl
 ·rw[Nat.add_zero,endSeq_even] at he;obtain⟨i,hi,h⟩:=(seq_isEnd ls _ _ k).1 (Pl.someTo_iff.2 ⟨q,hq2,decide_eq_true he⟩);exact⟨i,hi,by simp[h]⟩
 ·rw[endSeq_odd] at he;obtain⟨i,hi,h⟩:=(seq_isEnd ls _ _ k).1 (Pl.someTo_iff.2 ⟨q,hq2,decide_eq_true he⟩);exact⟨i,hi,by simp[h]⟩
theorem had_0 {K:Nat}{ls:Nat→Lk}{k:Nat}(hk:Pl.lkErr K (ls k)=0) (h0:∀q,q<2*k→endSeq ls q≠endSeq ls (2*k)) (h1:∀q,q<2*k+1→endSeq ls q≠endSeq ls (2*k+1)):Pl.lErr K ls k=0:=by
 unfold Pl.lErr;rw[if_neg (fun z=>z hk),if_neg];rw[Pl.someTo_iff];rintro⟨i,hi,h⟩;rw[Bool.or_eq_true] at h;rw[endSeq_even] at h0;rw[endSeq_odd] at h1;rcases h with h | h
 ·obtain⟨q,hq,h⟩:=Pl.someTo_iff.1 ((seq_isEnd ls _ _ k).2 ⟨i,hi,h⟩);exact h0 q hq (of_decide_eq_true h)
 ·obtain⟨q,hq,h⟩:=Pl.someTo_iff.1 ((seq_isEnd ls _ _ k).2 ⟨i,hi,h⟩);exact h1 q (by omega) (of_decide_eq_true h)
def ptC (ls:Nat→Lk) (q j:Nat):Value:=if j=0 then .int .i64 (endSeq ls q).1 else .int .i64 (endSeq ls q).2
theorem ptC_one (ls:Nat→Lk) (q j:Nat):(ptC ls q j).oneCell'=true:=by unfold ptC;split<;>rfl
theorem infoPt:(Tryz.prog.info? 120).map (fun i=>(i.zero,i.size,i.bytes))=some (some (.agg #[.int .i64 0,.int .i64 0]),2,16):=by kernel_rfl
theorem one_pt {w:World}{g:Nat}{ls:Nat→Lk}{q:Nat}{ty:TypeId}(h:w.heap[g]?=some (.cells #[.int .i64 (endSeq ls q).1,.int .i64 (endSeq ls q).2] ty (0,0))):CRow w (some ⟨g,0,none⟩) 1 1 2 (fun _=>ptC ls q):=by
 refine⟨Nat.le_refl _,fun _=>⟨g,0,rfl,(gSm.1 h).1,fun i hi j hj => ?_⟩⟩;obtain rfl:i=0:=by omega
 rcases(by omega:j=0∨j=1) with e | e<;>subst e<;>exact cell_of_row w g _ _ _ _ h
theorem had_more {W:World}{base:Nat}{ls:Nat→Lk}{q:Nat}{v:Value}(h:W.ownsRow base 120 2 v q (cellsL q 2 (ptC ls))) (hb:base≤W.heap.size) (hq:q≤1000) :
  ∃a1 c1 w2,(Builtin.append_ #[118,118] 118 #[v,.slice (some ⟨W.heap.size,0,none⟩) 1 1]).run Tryz.prog (W.alloc (.cells #[.int .i64 (endSeq ls q).1,.int .i64 (endSeq ls q).2] 120))=.ok (.slice a1 (q+1) c1) w2∧w2.ownsRow base 120 2 (.slice a1 (q+1) c1) (q+1) (cellsL (q+1) 2 (ptC ls))∧Below base W w2∧(∀b,b<W.heap.size→v.ownBlock≠some b→w2.heap[b]?=W.heap[b]?)∧(∀b,(Value.slice a1 (q+1) c1).ownBlock=some b→v.ownBlock=some b∨W.heap.size≤b)∧W.heap.size≤w2.heap.size:=by
 obtain⟨C,hC⟩:∃C,C=W.alloc (.cells #[.int .i64 (endSeq ls q).1,.int .i64 (endSeq ls q).2] 120):=⟨_,rfl⟩
 have hCB:Bl W C:=(by rw[hC];exact bA1 _ _)
 have hCs:C.heap.size=W.heap.size+1:=(by rw[hC];simp)
 have hCl:C.heap[W.heap.size]?=some (.cells #[.int .i64 (endSeq ls q).1,.int .i64 (endSeq ls q).2] 120):=(by rw[hC];exact heap_alloc_last _ _)
 obtain⟨a1,c1,w2,r,ho,hg,hb2,hw⟩:=append_at C 118 120 _ 2 16 Tryz.underlying118 infoPt rfl (by omega) base v q (ptC ls) (ownsC_below h hCB) ⟨W.heap.size,0,none⟩ 1 1 (fun _=>ptC ls q) (fun _ j=>ptC_one _ _ j) (one_pt hCl) (by unfold maxLen;omega) (by omega) (by omega);rw[cellsL_congr (q+1) 2 _ (ptC ls) (fun i hi=>by
  unfold catC;by_cases c:i<q
  ·rw[if_pos c]
  ·rw[if_neg c,show i=q by omega])] at ho
 refine⟨a1,c1,w2,by rw[←hC];exact r,ho,hCB.mono hb |>.trans hb2,fun b hb3 hne=>(hg.block b (by omega) (fun e=>hne e.symm)).trans (hCB.block b hb3),fun b hb3 => ?_,by have:=hb2.size;omega⟩;rcases hw with hw | hw
 ·rw[hw] at hb3;exact Or.inl hb3
 ·rw[hw] at hb3;injection hb3 with hb3;exact Or.inr (by omega)
theorem rbad1_any (e:Int) (Bi:Nat) (k:Int) (w:World) (hi:w.cell? ⟨Bi,0,none⟩=some (.int .i64 k)) :
  Calls Tryz.prog 57 #[.int .i64 e,.pointer (some ⟨Bi,0,none⟩)] w fun r w'=>r=.returned (.agg #[.int .i64 e,.int .i64 k])∧Bl w w':=by
 have l1:Bi<w.heap.size:=block_lt_of_cell hi;go_enter Tryz.func57,Tryz.ntmps57;(go_wp2_with fail);exact bodyPost_ret (v:=.agg #[.int .i64 e,.int .i64 k]) (results_row (p:=3) (ty:=32) Tryz.results57 _ _ w.heap.size 32 #[.int .i64 e,.int .i64 k] (0,0) _ rfl (heap_alloc_last _ _) Tryz.underlying32 rfl (by rw[psizeFa];rfl)) rfl ⟨rfl,bA1 _ _⟩
theorem rbad2_any (e:Int) (Bi:Nat) (k:Int) (w:World) (hi:w.cell? ⟨Bi,0,none⟩=some (.int .i64 k)) :
  Calls Tryz.prog 59 #[.int .i64 e,.pointer (some ⟨Bi,0,none⟩)] w fun r w'=>r=.returned (.agg #[.int .i64 e,.int .i64 k])∧Bl w w':=by
 have l1:Bi<w.heap.size:=block_lt_of_cell hi;go_enter Tryz.func59,Tryz.ntmps59;(go_wp2_with fail);exact bodyPost_ret (v:=.agg #[.int .i64 e,.int .i64 k]) (results_row (p:=3) (ty:=32) Tryz.results59 _ _ w.heap.size 32 #[.int .i64 e,.int .i64 k] (0,0) _ rfl (heap_alloc_last _ _) Tryz.underlying32 rfl (by rw[psizeFa];rfl)) rfl ⟨rfl,bA1 _ _⟩
end
section
open Go.RowKit
open Vc (V Of)
def IaAt (W:World) (g K:Nat) (f:Nat→Int):Prop:=W.heap[g]?=some (.cells (rowC K 1 (fun i _=>.int .i64 (f i))) 3)
def VaAt (W:World) (g K:Nat) (v:Nat→V):Prop:=W.heap[g]?=some (.cells (rowC K 4 (fun i=>vC (v i))) 58)
section
variable {W:World}{g K:Nat}{f:Nat→Int}{v:Nat→V}
theorem IaAt.cell (h:IaAt W g K f) {i:Nat}(hi:i<K):W.cell? ⟨g,i,none⟩=some (.int .i64 (f i))∧W.frozen? ⟨g,i,none⟩=false:=by
 have h1:=rowC_cell h hi (show 0<1 by omega);rw[show i*1+0=i by omega] at h1;exact⟨h1,frozen_of_row _ _ _ _ _ h⟩
theorem IaAt.set (h:IaAt W g K f) {i:Nat}(hi:i<K) (z:Int):IaAt (W.setCell ⟨g,i,none⟩ (.int .i64 z)) g K (fun j=>if j=i then z else f j):=by
 have h0:=rowC_set h hi (show 0<1 by omega) (.int .i64 z);rw[show i*1+0=i by omega] at h0;unfold IaAt;rw[h0,rC2 (d:=fun j _=>.int .i64 (if j=i then z else f j)) (fun j _ m hm => ?_)];unfold updC;obtain rfl:m=0:=by omega
 by_cases e:j=i
 ·rw[if_pos ⟨e,rfl⟩,if_pos e]
 ·rw[if_neg (fun q=>e q.1),if_neg e]
theorem IaAt.congr {h:Nat→Int}(hr:IaAt W g K f) (e:∀i,i<K→f i=h i):IaAt W g K h:=by
 unfold IaAt at hr ⊢;rw[hr,rC2 (fun i hi j _=>by rw[e i hi])]
theorem IaAt.row (h:IaAt W g K f):IRow W (some ⟨g,0,none⟩) K K f :=
 ⟨Nat.le_refl _,fun _=>⟨g,0,rfl,plt_some h,fun i hi j hj=>by rw[Nat.zero_add];exact rowC_cell h hi hj⟩⟩
theorem VaAt.cells (h:VaAt W g K v) {i:Nat}(hi:i<K):(W.cell? ⟨g,i*4,none⟩=some (.int .u64 (v i).root)∧W.cell? ⟨g,i*4+1,none⟩=some (.int .i64 (v i).cost)∧W.cell? ⟨g,i*4+2,none⟩=some (.int .u64 (v i).bridge)∧W.cell? ⟨g,i*4+3,none⟩=some (.int .i64 (v i).port))∧∀j,W.frozen? ⟨g,j,none⟩=false :=
 ⟨⟨rowC_cell h hi (show 0<4 by omega),rowC_cell h hi (show 1<4 by omega),rowC_cell h hi (show 2<4 by omega),rowC_cell h hi (show 3<4 by omega)⟩,fun _=>frozen_of_row _ _ _ _ _ h⟩
theorem VaAt.congr {u:Nat→V}(hr:VaAt W g K v) (e:∀i,i<K→v i=u i):VaAt W g K u:=by
 unfold VaAt at hr ⊢;rw[hr,rC2 (fun i hi j _=>by rw[e i hi])]
theorem VaAt.root (h:VaAt W g K v) {i:Nat}(hi:i<K) (z:Int):VaAt (W.setCell ⟨g,i*4,none⟩ (.int .u64 z)) g K (fun j=>if j=i then⟨z,(v j).cost,(v j).bridge,(v j).port⟩ else v j):=by
 have h0:=rowC_set h hi (show 0<4 by omega) (.int .u64 z);rw[show i*4+0=i*4 by omega] at h0;unfold VaAt;rw[h0,rC2 (d:=fun j=>vC (if j=i then⟨z,(v j).cost,(v j).bridge,(v j).port⟩ else v j)) (fun j _ m hm => ?_)];unfold updC;by_cases e:j=i
 ·subst e;rw[if_pos rfl];rcases(by omega:m=0∨m=1∨m=2∨m=3) with q | q | q | q<;>subst q
  ·rw[if_pos ⟨rfl,rfl⟩];rfl
  ·rw[if_neg (fun z=>by omega)];rfl
  ·rw[if_neg (fun z=>by omega)];rfl
  ·rw[if_neg (fun z=>by omega)];rfl
 ·rw[if_neg (fun q=>e q.1),if_neg e]
theorem VaAt.all (h:VaAt W g K v) {i:Nat}(hi:i<K) (u:V):VaAt ((((W.setCell ⟨g,i*4,none⟩ (.int .u64 u.root)).setCell ⟨g,i*4+1,none⟩ (.int .i64 u.cost)).setCell ⟨g,i*4+2,none⟩ (.int .u64 u.bridge)).setCell ⟨g,i*4+3,none⟩ (.int .i64 u.port)) g K (fun j=>if j=i then u else v j):=by
 have h0:=rowC_set h hi (show 0<4 by omega) (.int .u64 u.root);rw[show i*4+0=i*4 by omega] at h0;have h1:=rowC_set h0 hi (show 1<4 by omega) (.int .i64 u.cost);have h2:=rowC_set h1 hi (show 2<4 by omega) (.int .u64 u.bridge);have h3:=rowC_set h2 hi (show 3<4 by omega) (.int .i64 u.port);unfold VaAt;rw[h3,rC2 (d:=fun j=>vC (if j=i then u else v j)) (fun j _ m hm => ?_)];unfold updC;by_cases e:j=i
 ·subst e;rw[if_pos rfl];rcases(by omega:m=0∨m=1∨m=2∨m=3) with q | q | q | q<;>subst q<;>simp[vC]
 ·simp only[e,false_and,if_false]
theorem VaAt.row (h:VaAt W g K v):VRow W (some ⟨g,0,none⟩) K K v :=
 ⟨Nat.le_refl _,fun _=>⟨g,0,rfl,plt_some h,fun i hi j hj=>by rw[Nat.zero_add];exact rowC_cell h hi hj⟩⟩
theorem VaAt.other {q o:Nat}{x:Value}(h:VaAt W g K v) (hne:g≠q):VaAt (W.setCell ⟨q,o,none⟩ x) g K v:=pset_keep h hne
theorem IaAt.other {q o:Nat}{x:Value}(h:IaAt W g K f) (hne:g≠q):IaAt (W.setCell ⟨q,o,none⟩ x) g K f:=pset_keep h hne
end
theorem infoInt1:(Tryz.prog.info? 3).map (fun i=>(i.zero,i.size,i.bytes))=some (some (.int .i64 0),1,8):=by kernel_rfl
theorem infoVc4:(Tryz.prog.info? 58).map (fun i=>(i.zero,i.size,i.bytes))=some (some (.agg #[.int .u64 0,.int .i64 0,.int .u64 0,.int .i64 0]),4,32):=by kernel_rfl
theorem make_ia (W:World) {K:Nat}(hK:K≤1000):(Instr.makeSlice 59 (.int .i64 (K:Int)) (.int .i64 (K:Int))).run Tryz.prog W=.ok (.slice (some ⟨W.heap.size,0,none⟩) K K) (W.alloc (.cells (rowC K 1 (fun _ _=>.int .i64 0)) 3)):=make_rowD W 59 3 (.int .i64 0) 1 8 K Tryz.underlying59 infoInt1 (by omega) rfl (by omega) (by omega) _ (fun _ j hj=>by rw[show j=0 by omega];rfl)
theorem make_va (W:World) {K:Nat}(hK:K≤1000):(Instr.makeSlice 129 (.int .i64 (K:Int)) (.int .i64 (K:Int))).run Tryz.prog W=.ok (.slice (some ⟨W.heap.size,0,none⟩) K K) (W.alloc (.cells (rowC K 4 (fun _=>vC Vc.v0)) 58)):=make_rowD W 129 58 _ 4 32 K Tryz.underlying129 infoVc4 (by omega) rfl (by omega) (by omega) _ (fun _ j hj=>by
 rcases(by omega:j=0∨j=1∨j=2∨j=3) with e | e | e | e<;>subst e<;>rfl)
end
section
open Go.RowKit
open Vc (V Of)
open Pl (Br Net Pc Lk En)
theorem rid6_any (b:Br) (tree:Int) (w:World) (hb:b.at' w) (hf:b.Fine) (ht:0≤tree∧tree≤15) :
  Calls Tryz.prog 35 #[.agg (brA b),.int .i64 tree] w fun e w'=>e=.returned (.int .u64 (b.id tree))∧Bl w w':=by
 obtain⟨X,HX⟩:∃X,Hid (X=w.alloc (.cells (brA b) 74)):=⟨_,rfl⟩
 have hXB:Bl w X:=(by rw[HX.out];exact bA1 _ _)
 have hp:=CRow.below hb.1 hXB;have hpr:=hf.prio;have hfew:=hf.few;have hadr:=hf.addr;clear hb hf hXB;unfold Pl.Br.id Pl.Br.prio;obtain⟨addr,pao,pn,pcap,pv,⟨s,rev,ao,n,cap,vs,ts⟩⟩:=b;simp only[brA] at *;by_cases h:tree≤(pn:Int)-1
 ·rw[if_pos ⟨ht.1,h⟩];obtain⟨k,hk⟩:∃k:Nat,tree=k:=⟨tree.toNat,by omega⟩
  subst hk;have hkn:k<pn:=(by omega)
  obtain⟨pb,poff,rfl,_⟩:=CRow.some hp (by omega);have c0:=IRow.cells hp hkn;have hcap:=hp.1;have hv:=hpr k hkn;rw[Int.toNat_natCast];generalize pv k=p at *;have i0:(0:Int)≤(k:Int):=(by omega)
  have i1:(k:Int)<(pn:Int):=(by omega)
  have u0:IntKind.u64.wrap p=p:=wraps_u64 _ (by omega) (by omega);have u1:IntKind.u64.wrap (p*281474976710656)=p*281474976710656:=wraps_u64 _ (by omega) (by omega);have u2:IntKind.u64.wrap (p*281474976710656+addr)=p*281474976710656+addr:=wraps_u64 _ (by omega) (by omega);rw[HX.out] at c0;clear hp hpr;go_enter Tryz.func35,Tryz.ntmps35;(go_wp2_with fail);go_ret;exact⟨rfl,bA1 _ _⟩
 ·rw[if_neg (fun q=>h q.2)];have i1:¬tree<(pn:Int):=(by omega)
  have u2:IntKind.u64.wrap (32768*281474976710656+addr)=32768*281474976710656+addr:=wraps_u64 _ (by omega) (by omega);clear hp hpr;go_enter Tryz.func35,Tryz.ntmps35;(go_wp2_with fail);go_ret;exact⟨rfl,bA1 _ _⟩
end
section
open Go.RowKit
open Vc (V)
theorem rover_any (v:V) (c:Int) (w:World) :
  Calls Tryz.prog 106 #[.agg #[.int .u64 v.root,.int .i64 v.cost,.int .u64 v.bridge,.int .i64 v.port],.int .i64 c] w fun e w'=>e=.returned (.tuple #[.agg (vA (Vc.overV v c)),.bool (decide (Vc.fitsOver v c))])∧Bl w w':=by
 unfold Vc.overV;obtain⟨vr,vc,vb,vp⟩:=v;by_cases h:Vc.fitsOver ⟨vr,vc,vb,vp⟩ c
 ·rw[if_pos h,decide_eq_true h];obtain⟨⟨a1,a2⟩,⟨b1,b2⟩,b3⟩:=h;simp only at a1 a2 b1 b2 b3 ⊢;go_enter Tryz.func106,Tryz.ntmps106;(go_wp2_with fail);exact bodyPost_ret (v:=.tuple #[.agg (vA (Vc.add ⟨vr,vc,vb,vp⟩ c)),.bool true]) (rRt (p:=4) (u:=5) (ty:=58) Tryz.results106 _ _ (w.heap.size+1) 58 (vA (Vc.add ⟨vr,vc,vb,vp⟩ c)) (0,0) _ rfl (heap_alloc2_new w _ _) Tryz.underlying58 rfl (by rw[sizeVc];rfl)) rfl ⟨rfl,bA2 _ _ _⟩
 ·rw[if_neg h,decide_eq_false h];have H:Hid (¬((0≤vc∧vc≤1000000000)∧(0≤c∧c≤1000000000)∧vc+c≤1000000000)):=h;clear h;simp only;by_cases q1:vc<0
  ·clear H;go_enter Tryz.func106,Tryz.ntmps106;(go_wp2_with fail);exact bodyPost_ret (v:=.tuple #[.agg (vA Vc.v0),.bool false]) (rRt (p:=4) (u:=5) (ty:=58) Tryz.results106 _ _ (w.heap.size+1) 58 (vA Vc.v0) (0,0) _ rfl (heap_alloc2_new w _ _) Tryz.underlying58 rfl (by rw[sizeVc];rfl)) rfl ⟨rfl,bA2 _ _ _⟩
  ·by_cases q2:1000000000<vc
   ·clear H;go_enter Tryz.func106,Tryz.ntmps106;(go_wp2_with fail);exact bodyPost_ret (v:=.tuple #[.agg (vA Vc.v0),.bool false]) (rRt (p:=4) (u:=5) (ty:=58) Tryz.results106 _ _ (w.heap.size+1) 58 (vA Vc.v0) (0,0) _ rfl (heap_alloc2_new w _ _) Tryz.underlying58 rfl (by rw[sizeVc];rfl)) rfl ⟨rfl,bA2 _ _ _⟩
   ·by_cases q3:c<0
    ·clear H;go_enter Tryz.func106,Tryz.ntmps106;(go_wp2_with fail);exact bodyPost_ret (v:=.tuple #[.agg (vA Vc.v0),.bool false]) (rRt (p:=4) (u:=5) (ty:=58) Tryz.results106 _ _ (w.heap.size+1) 58 (vA Vc.v0) (0,0) _ rfl (heap_alloc2_new w _ _) Tryz.underlying58 rfl (by rw[sizeVc];rfl)) rfl ⟨rfl,bA2 _ _ _⟩
    ·by_cases q4:1000000000<c
     ·clear H;go_enter Tryz.func106,Tryz.ntmps106;(go_wp2_with fail);exact bodyPost_ret (v:=.tuple #[.agg (vA Vc.v0),.bool false]) (rRt (p:=4) (u:=5) (ty:=58) Tryz.results106 _ _ (w.heap.size+1) 58 (vA Vc.v0) (0,0) _ rfl (heap_alloc2_new w _ _) Tryz.underlying58 rfl (by rw[sizeVc];rfl)) rfl ⟨rfl,bA2 _ _ _⟩
     ·have q5:1000000000<vc+c:=(by have:=H.out;omega)
      have q6:vc≤1000000000:=(by omega)
      have q7:c≤1000000000:=(by omega)
      clear H;go_enter Tryz.func106,Tryz.ntmps106;(go_wp2_with fail);exact bodyPost_ret (v:=.tuple #[.agg (vA Vc.v0),.bool false]) (rRt (p:=4) (u:=5) (ty:=58) Tryz.results106 _ _ (w.heap.size+1) 58 (vA Vc.v0) (0,0) _ rfl (heap_alloc2_new w _ _) Tryz.underlying58 rfl (by rw[sizeVc];rfl)) rfl ⟨rfl,bA2 _ _ _⟩
end
end Go.Proofs.YtaneiffnhphkhaaGreatDoor
