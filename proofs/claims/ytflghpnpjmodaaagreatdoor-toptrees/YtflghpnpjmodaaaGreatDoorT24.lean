/- walks: package talk's On -/
import Derived.Test.YtflghpnpjmodaaaGreatDoorT23
import Derived.Test.YtflghpnpjmodaaaGreatDoorT13
import Derived.Test.YtflghpnpjmodaaaGreatDoorT20
import Derived.Test.YtflghpnpjmodaaaGreatDoorT19
set_option maxRecDepth 100000
set_option maxHeartbeats 6000000
namespace Go.Proofs.YtflghpnpjmodaaaGreatDoor
section
open Go.RowKit
open Vc (V Of)
open Pl (En Lk Br Net)
open Tk (Md Mnd Cn Sc Dn ixM ilist lst3 ilm)
section
variable {P:Program}{ops:Array Oper}{Q:Exit→Act→World→Prop}{md:Region.Mode}{z:Nat}{C:World→Prop}
end
def miC (m:Mi):Nat→Value:=mdC m.md (.slice m.po m.ports.length m.pc) (.slice m.ro m.roles.length m.rc) (.slice m.co m.calm.length m.cc)
def miA (m:Mi):Array Value:=#[.int .u64 m.md.v.root,.int .i64 m.md.v.cost,.int .u64 m.md.v.bridge,.int .i64 m.md.v.port,.int .i64 m.md.age,.int .i64 m.md.rp,.slice m.po m.ports.length m.pc,.slice m.ro m.roles.length m.rc,.slice m.co m.calm.length m.cc]
structure OwnI (W:World) (base:Nat) (m:Mi):Prop where
 ports:W.ownsRow base 3 1 (.slice m.po m.ports.length m.pc) m.ports.length (intCells m.ports)
 roles:W.ownsRow base 3 1 (.slice m.ro m.roles.length m.rc) m.roles.length (intCells m.roles)
 calm:W.ownsRow base 3 1 (.slice m.co m.calm.length m.cc) m.calm.length (intCells m.calm)
structure OwnM (W:World) (base:Nat) (v:Value) (l:List Mi):Prop where
 row:W.ownsRow base 52 9 v l.length (cellsL l.length 9 (fun i=>miC (mat l i)))
 each:∀m∈l,OwnI W base m
theorem OwnI.keep {W W':World}{base:Nat}{m:Mi}(h:OwnI W base m) (hk:∀(q:Nat) (cur:Array Value),W.heap[q]?=some (Obj.cells cur 3)→W'.heap[q]?=W.heap[q]?):OwnI W' base m :=
 ⟨owns_keep h.ports (fun q hq=>by obtain⟨cur,hc⟩:=owns_type h.ports hq;exact hk q cur hc),owns_keep h.roles (fun q hq=>by obtain⟨cur,hc⟩:=owns_type h.roles hq;exact hk q cur hc),owns_keep h.calm (fun q hq=>by obtain⟨cur,hc⟩:=owns_type h.calm hq;exact hk q cur hc)⟩
theorem lt_some {W:World}{q:Nat}{o:Obj}(h:W.heap[q]?=some o):q<W.heap.size:=(gSm.1 h).1
theorem OwnI.below {W W':World}{base:Nat}{m:Mi}(h:OwnI W base m) (hb:Bl W W'):OwnI W' base m:=h.keep (fun q _ hc=>hb.block q (lt_some hc))
theorem OwnI.mono {W:World}{base base':Nat}{m:Mi}(h:OwnI W base m) (hb:base'≤base):OwnI W base' m:=⟨owns_mono h.ports hb,owns_mono h.roles hb,owns_mono h.calm hb⟩
theorem OwnM.keep {W W':World}{base:Nat}{v:Value}{l:List Mi}(h:OwnM W base v l) (hk:∀(q:Nat) (cur:Array Value) (ty:TypeId),W.heap[q]?=some (Obj.cells cur ty (0,0))→ty=3∨ty=52→W'.heap[q]?=W.heap[q]?):OwnM W' base v l :=
 ⟨owns_keep h.row (fun q hq=>by obtain⟨cur,hc⟩:=owns_type h.row hq;exact hk q cur _ hc (Or.inr rfl)),fun m hm=>(h.each m hm).keep (fun q cur hc=>hk q cur _ hc (Or.inl rfl))⟩
theorem OwnM.below {W W':World}{base:Nat}{v:Value}{l:List Mi}(h:OwnM W base v l) (hb:Bl W W'):OwnM W' base v l:=h.keep (fun q _ _ hc _=>hb.block q (lt_some hc))
theorem OwnM.mono {W:World}{base base':Nat}{v:Value}{l:List Mi}(h:OwnM W base v l) (hb:base'≤base):OwnM W base' v l:=⟨owns_mono h.row hb,fun m hm=>(h.each m hm).mono hb⟩
theorem OwnM.nil (W:World) (base:Nat):OwnM W base (.slice none 0 0) []:=⟨ownsC_nil _ _ _ _ _,fun m h=>by simp at h⟩
theorem mat_mem {l:List Mi}{i:Nat}(h:i<l.length):mat l i∈l:=by
 have:mat l i=l[i]:=by simp[mat,h]
 rw[this];exact List.getElem_mem h
theorem OwnM.row' {W:World}{base:Nat}{v:Value}{l:List Mi}(h:OwnM W base v l) (hl:l.length≤1000):∃ao cap,v=.slice ao l.length cap∧MiRow W ao cap l:=by
 obtain⟨ao,cap,e,h1,_,_⟩:=owns_c (by omega) h.row;refine⟨ao,cap,e,h1,fun i hi => ?_,by omega⟩;have hm:=h.each _ (mat_mem hi);have f:∀{a:Option Addr}{c:Nat}{x:List Int},W.ownsRow base 3 1 (.slice a x.length c) x.length (intCells x)→ILs W a c x∧x.length≤9223372036854775807:=fun {a c x} h=>by
  obtain⟨ao',cap',e',h1,_,_⟩:=owns_c (by omega) h;injection e' with e1 _ e2;subst e1 e2;exact⟨h1,owns_few h⟩
 exact⟨(f hm.ports).1,(f hm.roles).1,(f hm.calm).1,(f hm.ports).2,(f hm.roles).2,(f hm.calm).2⟩
theorem one_mind {w:World}{g:Nat}{x:Mi}{ty:TypeId}(h:w.heap[g]?=some (.cells (miA x) ty (0,0))):CRow w (some ⟨g,0,none⟩) 1 1 9 (fun _=>miC x):=by
 refine⟨Nat.le_refl _,fun _=>⟨g,0,rfl,(gSm.1 h).1,fun i hi j hj => ?_⟩⟩;obtain rfl:i=0:=by omega
 rcases(by omega:j=0∨j=1∨j=2∨j=3∨j=4∨j=5∨j=6∨j=7∨j=8) with e | e | e | e | e | e | e | e | e<;>subst e
 ·exact cell_of_row w g 0 _ _ _ h
 ·exact cell_of_row w g 1 _ _ _ h
 ·exact cell_of_row w g 2 _ _ _ h
 ·exact cell_of_row w g 3 _ _ _ h
 ·exact cell_of_row w g 4 _ _ _ h
 ·exact cell_of_row w g 5 _ _ _ h
 ·exact cell_of_row w g 6 _ _ _ h
 ·exact cell_of_row w g 7 _ _ _ h
 ·exact cell_of_row w g 8 _ _ _ h
theorem infoMn:(Tryz.prog.info? 52).map (fun i=>(i.zero,i.size,i.bytes))=some (some (.agg #[.int .u64 0,.int .i64 0,.int .u64 0,.int .i64 0,.int .i64 0,.int .i64 0,.slice none 0 0,.slice none 0 0,.slice none 0 0]),9,120):=by kernel_rfl
theorem miC_one (m:Mi) (x:Nat):(miC m x).oneCell'=true:=mdC_one _ rfl rfl rfl x
theorem mat_left (l m:List Mi) (i:Nat) (h:i<l.length):mat (l++m) i=mat l i:=by
 simp[mat,h,List.getElem?_append_left]
theorem mat_right (l m:List Mi) (i:Nat) (h:l.length≤i):mat (l++m) i=mat m (i-l.length):=by
 simp[mat,h,List.getElem?_append_right]
abbrev runAppM (v x:Value) (w:World) (v':Value) (w':World):Prop:=(Builtin.append_ #[50,50] 50 #[v,x]).run Tryz.prog w=.ok v' w'
theorem more_m (base:Nat) (W:World) (v:Value) (l:List Mi) (x:Mi) (ho:OwnM W base v l) (hx:OwnI W base x) (hl:l.length≤1000) (hbase:base≤W.heap.size) :
  ∃a m c W2,runAppM v (.slice (some ⟨W.heap.size,0,none⟩) 1 1) (W.alloc (.cells (miA x) 52)) (.slice a m c) W2∧m=(l++[x]).length∧OwnM W2 base (.slice a m c) (l++[x])∧Below base W W2∧(∀(q:Nat) (cur:Array Value) (ty:TypeId),W.heap[q]?=some (Obj.cells cur ty (0,0))→ty≠52→W2.heap[q]?=some (Obj.cells cur ty (0,0))):=by
 have hb1:=bA1 W (.cells (miA x) 52);have ho1:=ho.below hb1;have hx1:=hx.below hb1;obtain⟨a1,c1,w',r,o,b,q⟩:=append_c (W.alloc (.cells (miA x) 52)) 50 52 _ 9 120 Tryz.underlying50 infoMn rfl (by omega) base v l.length _ ho1.row (some ⟨W.heap.size,0,none⟩) 1 1 (fun _=>miC x) (fun _ _=>miC_one _ _) (one_mind (heap_alloc_last W _)) (fun h=>by cases h) (by unfold maxLen;omega) (by omega) (by have:=hb1.size;omega);have e:l.length+1=(l++[x]).length:=(by simp)
 refine⟨a1,_,c1,w',r,e,⟨?_,?_⟩,(hb1.mono hbase).trans b,fun g cur ty hg hty => ?_⟩;rotate_left 2
 ·have hg1:=keep hg hb1;refine(q g (lt_some hg1) (fun hv => ?_)).trans hg1;obtain⟨c2,h2⟩:=owns_type ho1.row hv.symm;exact hty (cells_type hg1 h2)
 ·rw[e] at o ⊢;rw[cellsL_congr _ 9 _ (fun i=>miC (mat (l++[x]) i))] at o
  ·exact o
  ·intro i hi;unfold catC;by_cases h:i<l.length
   ·rw[if_pos h,mat_left l _ i h]
   ·have hi':i=l.length:=(by simp at hi;omega)
    subst hi';rw[if_neg (by omega),mat_right l _ _ (Nat.le_refl _),Nat.sub_self];rfl
 ·have hk:∀(g:Nat) (cur:Array Value),(W.alloc (.cells (miA x) 52)).heap[g]?=some (Obj.cells cur 3)→w'.heap[g]?=(W.alloc (.cells (miA x) 52)).heap[g]?:=fun g cur hg=>by
   refine q g (lt_some hg) (fun hv => ?_);obtain⟨c2,h2⟩:=owns_type ho1.row hv.symm;exact absurd (cells_type hg h2) (by decide)
  intro y hy;rcases List.mem_append.1 hy with h | h
  ·exact(ho1.each y h).keep hk
  ·have:y=x:=by simpa using h
   subst this;exact hx1.keep hk
def zer (n:Nat):List Int:=List.replicate n 0
theorem zer_len (n:Nat):(zer n).length=n:=by simp[zer]
theorem zer_get (n j:Nat):(zer n).getD j 0=0:=by
 simp[zer,List.getElem?_replicate];split<;>rfl
theorem ZeroAt.owns {W:World}{g n base:Nat}(h:ZeroAt W g n) (hn:n≤1000) (hb:base≤g):W.ownsRow base 3 1 (.slice (some ⟨g,0,none⟩) (zer n).length n) (zer n).length (intCells (zer n)):=by
 have:=owns_mono (RlAt.owns h (by omega)) hb;unfold intCells;rw[zer_len,cellsL_congr n 1 _ (fun _ _=>.int .i64 0)]
 ·exact this
 ·intro i _;funext _
  rw[show IL (zer n) i=0 from zer_get n i]
def startMs (n:Net) (k i:Nat):Mnd:=⟨⟨⟨n.ids k i,0,n.ids k i,0⟩,0,-1⟩,zer (n.pts i).length,zer (n.pts i).length⟩
def isFirst (n:Net) (k i:Nat) (m:Mi):Prop:=m.md=⟨⟨n.ids k i,0,n.ids k i,0⟩,0,-1⟩∧m.ports=n.pts i∧m.roles=zer (n.pts i).length∧m.calm=zer (n.pts i).length
def stErr (n:Net) (trees:Int):Int×Int:=if n.wrong.1≠0 then n.wrong else if ¬(1≤trees∧trees≤4) then(3,0) else(0,0)
structure StA (W Y:World) (n:Net) (T G:Nat) (vs:Nat→Value) (ls:Nat→List Mi) (k:Nat):Prop where
 out:W.heap[G]?=some (.cells (rowC T 1 (fun j _=>vs j)) 50)
 each:∀j,j<k→OwnM W Y.heap.size (vs j) (ls j)∧(ls j).length=n.K∧∀x,x<n.K→isFirst n j x (mat (ls j) x)
 rest:∀j,k≤j→vs j=.slice none 0 0
 bt:Bt (fun q=>q=G) Y W
structure StI (W Z:World) (n:Net) (T G k i:Nat) (vs:Nat→Value) (v:Value) (l:List Mi):Prop where
 out:W.heap[G]?=some (.cells (rowC T 1 (fun j _=>upF vs k v j)) 50)
 own:OwnM W Z.heap.size v l
 len:l.length=i
 first:∀x,x<i→isFirst n k x (mat l x)
 bt:Bt (fun q=>q=G) Z W
theorem StI.done {W Z Y:World}{n:Net}{T G k:Nat}{vs:Nat→Value}{ls:Nat→List Mi}{v:Value}{l:List Mi}(hA:StA Z Y n T G vs ls k) (h:StI W Z n T G k n.K vs v l):StA W Y n T G (upF vs k v) (upF ls k l) (k+1):=by
 refine⟨h.out,fun j hj => ?_,fun j hj => ?_,hA.bt.trans h.bt⟩
 ·by_cases q:j=k
  ·subst q;rw[upF_same,upF_same];exact⟨h.own.mono hA.bt.size,h.len,h.first⟩
  ·rw[upF_other _ _ q,upF_other _ _ q];obtain⟨a1,a2,a3⟩:=hA.each j (by omega);refine⟨a1.keep (fun q cur ty hc ht=>h.bt.block q (lt_some hc) (fun e => ?_)),a2,a3⟩;subst e;have:=cells_type hc hA.out;rcases ht with ht | ht
   ·exact absurd (ht.symm.trans this) (by decide)
   ·exact absurd (ht.symm.trans this) (by decide)
 ·rw[upF_other _ _ (by omega)];exact hA.rest j (by omega)
theorem below_an {a b:World}(h:Bl a b) (o:Obj):Bl a (b.alloc o):=h.alloc h.size o
structure StT (w:World) (n:Net) (trees:Int) (oao:Option Addr) (ocap:Nat) (t0:List Tr):Prop where
 row:TrRow w oao ocap t0
 len:(t0.length:Int)=trees
 fit:fitT n t0=true
 calm:CalmT t0
 ms:∀k,k<t0.length→∀i,i<n.K→startMs n k i=msT t0 k i
theorem StT.below {w w':World}{n:Net}{trees:Int}{oao:Option Addr}{ocap:Nat}{t0:List Tr}(h:StT w n trees oao ocap t0) (hb:Bl w w'):StT w' n trees oao ocap t0:=⟨h.row.below hb,h.len,h.fit,h.calm,h.ms⟩
theorem start_all {W:World}{n:Net}{T G b:Nat}{vs:Nat→Value}{ls:Nat→List Mi}(hT:1≤T∧T≤4) (hK:n.K≤12) (hout:W.heap[G]?=some (.cells (rowC T 1 (fun j _=>vs j)) 50))
  (heach:∀j,j<T→OwnM W b (vs j) (ls j)∧(ls j).length=n.K∧∀x,x<n.K→isFirst n j x (mat (ls j) x)):∃t0:List Tr,t0.length=T∧StT W n T (some ⟨G,0,none⟩) T t0:=by
 obtain⟨f,hf⟩:=Classical.axiomOfChoice (r:=fun(j:Nat) (p:Option Addr×Nat)=>j<T→vs j=.slice p.1 (ls j).length p.2∧MiRow W p.1 p.2 (ls j)) (fun j=>by
  by_cases q:j<T
  ·obtain⟨h1,h2,_⟩:=heach j q;obtain⟨a,c,e1,e2⟩:=h1.row' (by omega);exact⟨(a,c),fun _=>⟨e1,e2⟩⟩
  ·exact⟨(none,0),fun z=>absurd z q⟩)
 obtain⟨t0,ht0⟩:∃t0:List Tr,t0=(List.range T).map (fun j=>⟨(f j).1,(f j).2,ls j⟩):=⟨_,rfl⟩
 have tl:t0.length=T:=(by rw[ht0];simp)
 have tk:∀j,j<T→tat t0 j=⟨(f j).1,(f j).2,ls j⟩:=fun j hj=>by unfold tat;rw[ht0];exact range_getD _ _ hj
 have hF:∀j,j<T→∀x,x<n.K→isFirst n j x (mat (tat t0 j).l x):=fun j hj x hx=>by rw[tk j hj];exact(heach j hj).2.2 x hx
 have hL:∀j,j<T→(tat t0 j).l.length=n.K:=fun j hj=>by rw[tk j hj];exact(heach j hj).2.1
 refine⟨t0,tl,⟨⟨?_,fun j hj => ?_,by omega⟩,by rw[tl],?_,fun j hj x hx y => ?_,fun j hj x hx => ?_⟩⟩
 ·rw[tl];refine(rowC_crow hout).congr (fun j hj => ?_);funext _
  rw[(hf j hj).1,tk j hj]
 ·rw[tl] at hj;rw[tk j hj];exact(hf j hj).2
 ·refine fit_iff.2 ⟨by rw[tl];exact hT,fun j hj => ?_⟩;rw[tl] at hj;refine⟨hL j hj,fun x hx => ?_⟩;obtain⟨_,e1,e2,e3⟩:=hF j hj x hx;rw[e1,e2,e3,zer_len];exact⟨rfl,rfl,rfl⟩
 ·rw[tl] at hj;rw[hL j hj] at hx;obtain⟨_,_,_,e3⟩:=hF j hj x hx;rw[e3,zer_get];exact⟨Int.le_refl _,fun h=>absurd h (Int.lt_irrefl _)⟩
 ·rw[tl] at hj;obtain⟨e0,_,e2,e3⟩:=hF j hj x hx;unfold msT startMs;rw[e0,e2,e3]
def StartW (w:World) (n:Net) (trees:Int) (e:Ending) (w':World):Prop :=
 Bl w w'∧(((stErr n trees).1≠0∧e=.returned (.tuple #[.agg #[.slice none 0 0],.agg #[.int .i64 (stErr n trees).1,.int .i64 (stErr n trees).2]])) ∨
  ((stErr n trees).1=0∧∃(oao:Option Addr) (ocap:Nat) (t0:List Tr),e=.returned (.tuple #[.agg #[.slice oao t0.length ocap],.agg #[.int .i64 0,.int .i64 0]])∧StT w' n trees oao ocap t0))
def dnC (d:Dn) (j:Nat):Value:=if j=0 then .int .i64 d.kind else if j=1 then .int .i64 d.n else if j=2 then .int .i64 d.tree else .int .i64 d.value
abbrev DRow (w:World) (ao:Option Addr) (n cap:Nat) (ds:Nat→Dn):Prop:=CRow w ao n cap 4 (fun i=>dnC (ds i))
theorem DRow.cells {w:World}{b off n cap:Nat}{ds:Nat→Dn}(h:DRow w (some ⟨b,off,none⟩) n cap ds) {i:Nat}(hi:i<n) :
  w.cell? ⟨b,off+i*4,none⟩=some (.int .i64 (ds i).kind)∧w.cell? ⟨b,off+i*4+1,none⟩=some (.int .i64 (ds i).n)∧w.cell? ⟨b,off+i*4+2,none⟩=some (.int .i64 (ds i).tree)∧w.cell? ⟨b,off+i*4+3,none⟩=some (.int .i64 (ds i).value):=by
 obtain⟨b',off',e,_,hc⟩:=h.2 (by omega);cases e
 exact⟨hc i hi 0 (by omega),hc i hi 1 (by omega),hc i hi 2 (by omega),hc i hi 3 (by omega)⟩
def onErr (n:Net) (t:List Tr) (ds:Nat→Dn) (dn:Nat):Int×Int:=if (wrT n t dn).1≠0 then wrT n t dn else Tk.errTo n.cn ds dn
theorem onErr_zero {n:Net}{t:List Tr}{ds:Nat→Dn}{dn:Nat}(h:(onErr n t ds dn).1=0):(wrT n t dn).1=0∧(Tk.errTo n.cn ds dn).1=0:=by
 unfold onErr at h;by_cases q:(wrT n t dn).1=0
 ·rw[if_neg (fun z=>z q)] at h;exact⟨q,h⟩
 ·rw[if_pos q] at h;exact absurd h q
theorem wrT_zero {n:Net}{t:List Tr}{dn:Nat}(h:(wrT n t dn).1=0):wrT n t dn=(0,0)∧n.wrong.1=0∧fitT n t=true∧dn≤30:=by
 unfold wrT at h ⊢;by_cases q:n.wrong.1=0
 ·rw[if_neg (fun z=>z q)] at h ⊢;by_cases q2:fitT n t=false
  ·rw[if_pos q2] at h;cases h
  ·rw[if_neg q2] at h ⊢;by_cases q3:30<dn
   ·rw[if_pos q3] at h;cases h
   ·rw[if_neg q3];exact⟨rfl,q,by simpa using q2,by omega⟩
 ·rw[if_pos q] at h;exact absurd h q
theorem sizeTk:(Tryz.prog.info? 43).map (·.size)=some 1:=by kernel_rfl
theorem sizeNt:(Tryz.prog.info? 32).map (·.size)=some 2:=by kernel_rfl
def OnW (w:World) (n:Net) (t:List Tr) (ms:Nat→Nat→Mnd) (ds:Nat→Dn) (dn:Nat) (e:Ending) (w':World):Prop :=
 Bl w w'∧(((onErr n t ds dn).1≠0∧e=.returned (.tuple #[.agg #[.slice none 0 0,.slice none 0 0],.agg #[.slice none 0 0],.agg #[.int .i64 (onErr n t ds dn).1,.int .i64 (onErr n t ds dn).2]])) ∨
  ((onErr n t ds dn).1=0∧∃(n':Net) (oao:Option Addr) (ocap:Nat) (t':List Tr),e=.returned (.tuple #[n'.val,.agg #[.slice oao t'.length ocap],.agg #[.int .i64 0,.int .i64 0]])∧∃b,w.heap.size≤b∧Kept w' b (fun V=>SnOut V n t.length ((n.sc ms).all n.cn ds dn) n' oao ocap t')))
theorem low_below {w w' W0 V:World}{b:Nat}(h1:Bl w w') (h2:Below b W0 w') (h3:Below b W0 V) (hb:w.heap.size≤b) (hb2:b≤W0.heap.size):Bl w V :=
 ⟨(h3.os.trans h2.os.symm).trans h1.os,(h3.tape.trans h2.tape.symm).trans h1.tape,(h3.output.trans h2.output.symm).trans h1.output,by have:=h3.size;omega,fun q hq=>((h3.block q (by omega)).trans (h2.block q (by omega)).symm).trans (h1.block q hq)⟩
theorem ton_any (n:Net) (oao:Option Addr) (ocap:Nat) (t:List Tr) (ms:Nat→Nat→Mnd) (dao:Option Addr) (dn dcap:Nat) (ds:Nat→Dn) (w:World) (hwf:n.Wf) (hat:n.at' w) (htr:TrRow w oao ocap t) (hdn:dn≤9223372036854775807) (hds:DRow w dao dn dcap ds) (hc:CalmT t) (hm:∀k,k<t.length→∀i,i<n.K→ms k i=msT t k i) (htb:Tabs w) (hbt:2≤w.heap.size) :
  Calls Tryz.prog 29 #[n.val,.agg #[.slice oao t.length ocap],.slice dao dn dcap] w fun e w'=>OnW w n t ms ds dn e w':=by
 obtain⟨X2,HX2⟩:∃X2,Hid (X2=(w.alloc (.cells #[.slice n.bao n.K n.bcap,.slice n.lao n.L n.lcap] 32)).alloc (.cells #[.slice oao t.length ocap] 43)):=⟨_,rfl⟩
 obtain⟨X,HX⟩:∃X,Hid (X=((X2.alloc (.cells #[.slice none 0 0,.slice none 0 0] 32)).alloc (.cells #[.slice none 0 0] 43)).alloc (.cells #[.int .i64 0,.int .i64 0] 26)):=⟨_,rfl⟩
 have b1:Bl w X2:=(by rw[HX2.out];exact bA2 _ _ _)
 have s1:X2.heap.size=w.heap.size+1+1:=(by rw[HX2.out];simp)
 have b2:Bl X2 X:=(by rw[HX.out];exact((bA2 _ _ _).alloc (by simp;omega) _))
 have s2:X.heap.size=X2.heap.size+1+1+1:=(by rw[HX.out];simp)
 have hXB:Bl w X:=b1.trans (b2.mono b1.size);have g0:X.heap[w.heap.size]?=some (.cells #[.slice n.bao n.K n.bcap,.slice n.lao n.L n.lcap] 32):=keep (by rw[HX2.out];exact heap_alloc2_old _ _ _) b2;have g1:X.heap[w.heap.size+1]?=some (.cells #[.slice oao t.length ocap] 43):=keep (by rw[HX2.out];exact heap_alloc2_new _ _ _) b2;have g2:X.heap[w.heap.size+1+1]?=some (.cells #[.slice none 0 0,.slice none 0 0] 32):=by
  rw[HX.out,←s1];exact keep (heap_alloc2_old _ _ _) (bA1 _ _)
 have g3:X.heap[w.heap.size+1+1+1]?=some (.cells #[.slice none 0 0] 43):=by
  rw[HX.out,←s1];exact keep (heap_alloc2_new _ _ _) (bA1 _ _)
 have g4:X.heap[w.heap.size+1+1+1+1]?=some (.cells #[.int .i64 0,.int .i64 0] 26):=by
  have:w.heap.size+1+1+1+1=((X2.alloc (.cells #[.slice none 0 0,.slice none 0 0] 32)).alloc (.cells #[.slice none 0 0] 43)).heap.size:=by simp[s1]
  rw[HX.out,this];exact heap_alloc_last _ _
 obtain⟨BN,HBN⟩:∃BN,Hid (BN=w.heap.size):=⟨_,rfl⟩
 obtain⟨BT,HBT⟩:∃BT,Hid (BT=w.heap.size+1):=⟨_,rfl⟩
 obtain⟨RN,HRN⟩:∃RN,Hid (RN=w.heap.size+1+1):=⟨_,rfl⟩
 obtain⟨RT,HRT⟩:∃RT,Hid (RT=w.heap.size+1+1+1):=⟨_,rfl⟩
 obtain⟨RF,HRF⟩:∃RF,Hid (RF=w.heap.size+1+1+1+1):=⟨_,rfl⟩
 rw[←HBN.out] at g0;rw[←HBT.out] at g1;rw[←HRN.out] at g2;rw[←HRT.out] at g3;rw[←HRF.out] at g4;have ne1:RN≠RT:=(by have:=HRN.out;have:=HRT.out;omega)
 have ne2:RN≠RF:=(by have:=HRN.out;have:=HRF.out;omega)
 have ne3:RT≠RF:=(by have:=HRT.out;have:=HRF.out;omega)
 have le1:w.heap.size≤RN:=(by have:=HRN.out;omega)
 have le2:w.heap.size≤RT:=(by have:=HRT.out;omega)
 have le3:w.heap.size≤RF:=(by have:=HRF.out;omega)
 have lt1:RN<X.heap.size:=(by have:=HRN.out;omega)
 have lt2:RT<X.heap.size:=(by have:=HRT.out;omega)
 have lt3:RF<X.heap.size:=(by have:=HRF.out;omega)
 have HC:Hid (∀V,Bl X V→(V.cell? ⟨BN,0,none⟩=some (.slice n.bao n.K n.bcap)∧V.cell? ⟨BN,1,none⟩=some (.slice n.lao n.L n.lcap))∧V.cell? ⟨BT,0,none⟩=some (.slice oao t.length ocap)∧(V.cell? ⟨RN,0,none⟩=some (.slice none 0 0)∧V.cell? ⟨RN,1,none⟩=some (.slice none 0 0))∧V.cell? ⟨RT,0,none⟩=some (.slice none 0 0)∧(V.cell? ⟨RF,0,none⟩=some (.int .i64 0)∧V.cell? ⟨RF,1,none⟩=some (.int .i64 0))∧(V.frozen? ⟨RN,0,none⟩=false∧V.frozen? ⟨RN,1,none⟩=false)∧V.frozen? ⟨RT,0,none⟩=false∧V.frozen? ⟨RF,0,none⟩=false∧V.frozen? ⟨RF,1,none⟩=false):=fun V hV =>
  ⟨tC2 (keep g0 hV),one_cell (keep g1 hV),tC2 (keep g2 hV),one_cell (keep g3 hV),tC2 (keep g4 hV),⟨frozen_of_row _ _ _ _ _ (keep g2 hV),frozen_of_row _ _ _ _ _ (keep g2 hV)⟩,frozen_of_row _ _ _ _ _ (keep g3 hV),frozen_of_row _ _ _ _ _ (keep g4 hV),frozen_of_row _ _ _ _ _ (keep g4 hV)⟩
 have HH:Hid (∀V,Bl X V→V.heap[RN]?=some (.cells #[.slice none 0 0,.slice none 0 0] 32)∧V.heap[RT]?=some (.cells #[.slice none 0 0] 43)∧V.heap[RF]?=some (.cells #[.int .i64 0,.int .i64 0] 26)∧Bl w V):=fun V hV=>⟨keep g2 hV,keep g3 hV,keep g4 hV,hXB.trans (hV.mono hXB.size)⟩
 have HWR:Hid (Calls Tryz.prog 56 #[.agg #[.slice n.bao n.K n.bcap,.slice n.lao n.L n.lcap],.agg #[.slice oao t.length ocap],.slice dao dn dcap] X fun e w'=>e=.returned (.agg #[.int .i64 (wrT n t dn).1,.int .i64 (wrT n t dn).2])∧Hid (Bl X w')):=(twrong_any n oao ocap t dao dn dcap X hwf (hat.below hXB) (htr.below hXB) hdn).mono (fun e w' h=>⟨h.1,h.2⟩);have HNS:Hid ((wrT n t dn).1=0→∀V,Bl X V→Calls Tryz.prog 57 #[.agg #[.slice n.bao n.K n.bcap,.slice n.lao n.L n.lcap],.agg #[.slice oao t.length ocap]] V fun e w'=>NewW V n t.length ms e w'):=fun h0 V hV=>by
  obtain⟨_,z1,z2,_⟩:=wrT_zero h0;have hV2:=hXB.trans (hV.mono hXB.size);obtain⟨f1,_⟩:=fit_iff.1 z2;exact tnewscene_any n t.length ms oao ocap (vtT t) (ivT t) V (right_of hwf z1) f1.2 (hat.below hV2) (fit_at (htr.below hV2) z2 (right_of hwf z1).few hm) (fit_ok hwf z1 z2 hc hm) (htb.below hV2 hbt) (Nat.le_trans hbt hV2.size)
 have HDS:Hid (∀V,Bl X V→DRow V dao dn dcap ds):=fun V hV=>CRow.below hds (hXB.trans (hV.mono hXB.size));have HWF:Hid n.Wf:=hwf;have HWX:Hid (w.heap.size≤X.heap.size):=hXB.size;have hcap:=hds.1;clear hwf hat htr hds hc hm htb hbt b1 b2 s1 s2 hXB g0 g1 g2 g3 g4;simp only[Pl.Net.val];go_enter Tryz.func29,Tryz.ntmps29;obtain⟨⟨x0,x1⟩,x2,_⟩:=HC.out X (Below.refl _ _);rw[HX.out,HX2.out,HBN.out] at x0 x1;rw[HX.out,HX2.out,HBT.out] at x2;(go_wp2_with fail);rw[←HX2.out,←HX.out,←HRF.out,←HRT.out,←HRN.out,←HBT.out,←HBN.out];refine HWR.out.mono ?_;rintro e w1 ⟨rfl,H1⟩;clear x0 x1 x2 HWR;obtain⟨V1,HV1⟩:∃V1,Hid (V1=w1.alloc (.cells #[.int .i64 (wrT n t dn).1,.int .i64 (wrT n t dn).2] 26)):=⟨_,rfl⟩
 have hV1:Bl X V1:=(by rw[HV1.out];exact H1.out.alloc H1.out.size _)
 have f0:V1.cell? ⟨w1.heap.size,0,none⟩=some (.int .i64 (wrT n t dn).1)∧V1.cell? ⟨w1.heap.size,1,none⟩=some (.int .i64 (wrT n t dn).2):=tC2 (by rw[HV1.out];exact heap_alloc_last _ _);obtain⟨f0,f1⟩:=f0;obtain⟨⟨p0,p1⟩,p2,⟨p3,p4⟩,p5,⟨p6,p7⟩,⟨q0,q1⟩,q2,q3,q4⟩:=HC.out V1 hV1;have y0:=f0;rw[HV1.out] at y0;by_cases q:(wrT n t dn).1=0
 ·have HE:Hid (onErr n t ds dn=Tk.errTo n.cn ds dn):=if_neg (fun z=>z q);obtain⟨z0,hw0,hfit,hfew⟩:=wrT_zero q;have HN0:Hid (n.wrong.1=0):=hw0;have HNV:Hid (Calls Tryz.prog 57 #[.agg #[.slice n.bao n.K n.bcap,.slice n.lao n.L n.lcap],.agg #[.slice oao t.length ocap]] V1 fun e w'=>NewW V1 n t.length ms e w'):=HNS.out q V1 hV1;have r0:=p0;have r1:=p1;have r2:=p2;rw[HV1.out] at r0 r1 r2;clear hw0 hfit f0 f1 p0 p1 p2 p3 p4 p5 p6 p7 q0 q1 q2 q3 q4 HNS z0;generalize (wrT n t dn).1=r5 at *;generalize (wrT n t dn).2=r6 at *;subst q;(go_wp2_with fail);rw[←HV1.out];refine HNV.out.mono ?_;rintro e w2 ⟨S,F,M,G,ve,rfl,hSc,hF,hb,hB2⟩;have HSW:Hid (∀V,Below F.base F.W0 V→Bl X V):=fun V hV=>hV1.trans ((low_below hB2 hSc.at'.low hV hb (Nat.le_refl _)).mono hV1.size);have HFB:Hid (X.heap.size≤F.base):=Nat.le_trans hV1.size hb;have HFC:Hid (F.c=n.cn∧F.T=t.length∧F.pts=n.pts∧F.rg=fun i=>(n.bs i).reg):=hF;have HST:Hid (∃M G ve,ScOk w2 S F ((n.sc ms).all n.cn ds 0) M G ve):=⟨M,G,ve,hSc⟩
  clear hSc hF hb hB2 hV1 y0 r0 r1 r2 HNV;(go_wp2_with fail);go_loopw [29] (fun i wr=>∃k:Nat,k≤dn∧i=.int .i64 k∧Hid (∀j,j<k→Tk.errOf n.cn (ds j)=0)∧Hid (∃M G ve,ScOk wr S F ((n.sc ms).all n.cn ds k) M G ve)) (fun i _=>dn-(intOf i).toNat)
  case atStart=>exact⟨0,by omega,rfl,(fun j hj=>absurd hj (by omega)),HST⟩
  case round =>
   obtain⟨k,hk,rfl,hZ,hS⟩:=hrel;obtain⟨M,G,ve,hSc⟩:=hS.out;have hXr:=HSW.out wr hSc.at'.low;clear HST;by_cases hlt:k<dn
   ·have hrow:=HDS.out wr hXr;obtain⟨b,off,rfl,_⟩:=CRow.some hrow (by omega);obtain⟨c0,c1,c2,c3⟩:=DRow.cells hrow hlt;have ik:(0:Int)≤(k:Int):=(by omega)
    have nk:(k:Int)<(dn:Int):=(by omega)
    have HDO:Hid (Calls Tryz.prog 58 #[.pointer (some ⟨S,0,none⟩),.agg #[.int .i64 (ds k).kind,.int .i64 (ds k).n,.int .i64 (ds k).tree,.int .i64 (ds k).value]] (wr.alloc (.cells #[.int .i64 (ds k).kind,.int .i64 (ds k).n,.int .i64 (ds k).tree,.int .i64 (ds k).value] 47)) fun e w'=>∃z,e=.returned (.int .i64 z)∧Hid (z=Tk.errOf n.cn (ds k)∧Bl X w'∧(z=0→∃M G ve,ScOk w' S F ((n.sc ms).all n.cn ds (k+1)) M G ve))):=by
     refine(tdo_any _ S F ((n.sc ms).all n.cn ds k) M G ve (ds k) (hSc.below (bA1 _ _))).mono ?_;rintro e w' ⟨rfl,h1,h2⟩;rw[HFC.out.1] at h2;refine⟨_,rfl,by rw[HFC.out.1],HSW.out _ h1,fun z => ?_⟩;rw[HFC.out.1] at z;exact h2 z
    have HK0:Hid (∀z:Int,z=Tk.errOf n.cn (ds k)→z=0→∀j,j<k+1→Tk.errOf n.cn (ds j)=0):=fun z hz h0 j hj=>by
     by_cases e:j=k
     ·subst e;rw[←hz];exact h0
     ·exact hZ.out j (by omega)
    have HK1:Hid (∀z:Int,z=Tk.errOf n.cn (ds k)→z≠0→onErr n t ds dn=(z,(k:Int))):=fun z hz h0=>by
     rw[HE.out,hz];exact Pl.firstTo_here _ k hZ.out (by rw[←hz];exact h0) dn hlt
    clear hSc hS hZ hrow HFC HSW HDS;generalize ds k=d at *;(go_wp2_with fail);refine HDO.out.mono ?_;rintro e w3 ⟨z,rfl,H3⟩;clear HDO c0 c1 c2 c3;by_cases hz:z=0
    ·have HK2:Hid (∀j,j<k+1→Tk.errOf n.cn (ds j)=0):=HK0.out z H3.out.1 hz;have HK3:Hid (∃M G ve,ScOk w3 S F ((n.sc ms).all n.cn ds (k+1)) M G ve):=H3.out.2.2 hz;subst hz;clear HK0 HK1 H3;(go_wp2_with fail);exact⟨⟨k+1,by omega,by go_num,HK2,HK3⟩,by simp[intOf];omega⟩
    ·have HK2:Hid (onErr n t ds dn=(z,(k:Int))):=HK1.out z H3.out.1 hz;have hz1:(z != 0)=true:=(by simpa using hz)
     obtain⟨_,_,⟨p3,p4⟩,p5,⟨p6,p7⟩,⟨q0,q1⟩,q2,q3,q4⟩:=HC.out w3 H3.out.2.1;clear HK0 HK1;(go_wp2_with fail);refine bodyPost_ret (v:=.tuple #[.agg #[.slice none 0 0,.slice none 0 0],.agg #[.slice none 0 0],.agg #[.int .i64 z,.int .i64 (k:Int)]]) (results_row3 Tryz.results29 _ _ RN RT RF 32 43 26 #[.slice none 0 0,.slice none 0 0] #[.slice none 0 0] #[.int .i64 z,.int .i64 (k:Int)] (0,0) (0,0) (0,0) _ _ _ rfl rfl rfl ?h1 ?h2 ?h3 Tryz.underlying32 Tryz.underlying43 Tryz.underlying26 rfl rfl rfl ?i1 ?i2 ?i3) rfl ?post
     case h1=>repeat(first | (with_reducible refine drew_keep ?_) | (with_reducible exact(HH.out _ H3.out.2.1).1) | (with_reducible refine set2_same (a0:=Value.slice none 0 0) (a1:=Value.slice none 0 0) ?_) | (with_reducible refine set_keep ?_ ne1) | (with_reducible refine set_keep ?_ ne2))
     case h2=>repeat(first | (with_reducible refine drew_keep ?_) | (with_reducible exact(HH.out _ H3.out.2.1).2.1) | (with_reducible refine set1_same (a0:=Value.slice none 0 0) ?_) | (with_reducible refine set_keep ?_ ne1.symm) | (with_reducible refine set_keep ?_ ne3))
     case h3=>repeat(first | (with_reducible refine drew_keep ?_) | (with_reducible exact(HH.out _ H3.out.2.1).2.2.1) | (with_reducible refine set2_same (a0:=Value.int .i64 0) (a1:=Value.int .i64 0) ?_) | (with_reducible refine set_keep ?_ ne2.symm) | (with_reducible refine set_keep ?_ ne3.symm))
     case i1=>rw[sizeNt];try rfl
     case i2=>rw[sizeTk];try rfl
     case i3=>rw[sizeFt];try rfl
     case post =>
      refine⟨?_,Or.inl ⟨by rw[HK2.out];exact hz,by rw[HK2.out]⟩⟩;repeat(first | (with_reducible refine Below.drew ?_) | (with_reducible exact(HH.out _ H3.out.2.1).2.2.2) | (with_reducible refine Below.setCell ?_ le1 _) | (with_reducible refine Below.setCell ?_ le2 _) | (with_reducible refine Below.setCell ?_ le3 _))
   ·obtain rfl:k=dn:=by omega
    have hA:=hSc.at';obtain⟨bao,bcap,eb,_,_,_⟩:=owns_c (by omega) hA.brs;obtain⟨lao,lcap,el,_,_,_⟩:=owns_c (by omega) hA.lks;obtain⟨oa,oc,eo,_,_,_⟩:=owns_c (by omega) hA.out;obtain⟨s0,s1,s2,_,_⟩:=hA.cells;rw[eb] at s0;rw[el] at s1;rw[eo] at s2;have HFIN:Hid (∀V,(∀q,F.base≤q→V.heap[q]?=wr.heap[q]?)→V.heap.size=wr.heap.size→Bl w V→OnW w n t ms ds k (.returned (.tuple #[.agg #[.slice bao F.c.K bcap,.slice lao F.c.L lcap],.agg #[.slice oa F.T oc],.agg #[.int .i64 0,.int .i64 0]])) V):=fun V h1 hs h2=>by
     obtain⟨n',oao',ocap',t',⟨e1,e2,e3⟩,h3⟩:=scene_out hSc HWF.out HN0.out HFC.out;refine⟨h2,Or.inr ⟨?_,n',oao',ocap',t',?_,F.base,Nat.le_trans HWX.out HFB.out,fun V2 hV2=>h3 V2 (fun q q1 q2=>(hV2 q q1 (by rw[hs];exact q2)).trans (h1 q q1))⟩⟩
     ·rw[HE.out];exact(congrArg Prod.fst (Pl.firstTo_all _ _ hZ.out))
     ·rw[←eb,←el,←eo,e1,e2,e3];rfl
    have lo1:RN<F.base:=Nat.lt_of_lt_of_le lt1 HFB.out;have lo2:RT<F.base:=Nat.lt_of_lt_of_le lt2 HFB.out;have lo3:RF<F.base:=Nat.lt_of_lt_of_le lt3 HFB.out;have HXR:Hid (Bl X wr):=hXr;obtain⟨_,_,⟨p3,p4⟩,p5,⟨p6,p7⟩,⟨q0,q1⟩,q2,q3,q4⟩:=HC.out wr hXr;clear hSc hS hZ hA eb el eo hXr HFC HSW HDS HE HC;(go_wp2_with fail);go_region
    (all_goals go_wp2_with fail);all_goals
     refine bodyPost_ret (v:=.tuple #[.agg #[.slice bao F.c.K bcap,.slice lao F.c.L lcap],.agg #[.slice oa F.T oc],.agg #[.int .i64 0,.int .i64 0]]) (results_row3 Tryz.results29 _ _ RN RT RF 32 43 26 #[.slice bao F.c.K bcap,.slice lao F.c.L lcap] #[.slice oa F.T oc] #[.int .i64 0,.int .i64 0] (0,0) (0,0) (0,0) _ _ _ rfl rfl rfl ?h1 ?h2 ?h3 Tryz.underlying32 Tryz.underlying43 Tryz.underlying26 rfl rfl rfl ?i1 ?i2 ?i3) rfl ?post
     case h1=>repeat(first | (with_reducible refine drew_keep ?_) | (with_reducible exact(HH.out _ HXR.out).1) | (with_reducible exact(HH.out _ (below_drewN HXR.out _)).1) | (with_reducible exact(HH.out _ (Below.drew HXR.out)).1) | (with_reducible refine set2_same (a0:=Value.slice none 0 0) (a1:=Value.slice none 0 0) ?_) | (with_reducible refine set_keep ?_ ne1) | (with_reducible refine set_keep ?_ ne2))
     case h2=>repeat(first | (with_reducible refine drew_keep ?_) | (with_reducible exact(HH.out _ HXR.out).2.1) | (with_reducible exact(HH.out _ (below_drewN HXR.out _)).2.1) | (with_reducible exact(HH.out _ (Below.drew HXR.out)).2.1) | (with_reducible refine set1_same (a0:=Value.slice none 0 0) ?_) | (with_reducible refine set_keep ?_ ne1.symm) | (with_reducible refine set_keep ?_ ne3))
     case h3=>repeat(first | (with_reducible refine drew_keep ?_) | (with_reducible exact(HH.out _ HXR.out).2.2.1) | (with_reducible exact(HH.out _ (below_drewN HXR.out _)).2.2.1) | (with_reducible exact(HH.out _ (Below.drew HXR.out)).2.2.1) | (with_reducible refine set2_same (a0:=Value.int .i64 0) (a1:=Value.int .i64 0) ?_) | (with_reducible refine set_keep ?_ ne2.symm) | (with_reducible refine set_keep ?_ ne3.symm))
     case i1=>rw[sizeNt];try rfl
     case i2=>rw[sizeTk];try rfl
     case i3=>rw[sizeFt];try rfl
     case post =>
      refine HFIN.out _ ?_ ?_ ?_
      ·repeat(first | (with_reducible refine out_drew ?_) | (with_reducible refine out_set ?_ lo1) | (with_reducible refine out_set ?_ lo2) | (with_reducible refine out_set ?_ lo3) | (exact(fun _ _=>rfl)))
      ·simp
      ·repeat(first | (with_reducible refine Below.drew ?_) | (with_reducible exact(HH.out _ HXR.out).2.2.2) | (with_reducible exact(HH.out _ (below_drewN HXR.out _)).2.2.2) | (with_reducible exact(HH.out _ (Below.drew HXR.out)).2.2.2) | (with_reducible refine Below.setCell ?_ le1 _) | (with_reducible refine Below.setCell ?_ le2 _) | (with_reducible refine Below.setCell ?_ le3 _))
 ·have HE:Hid ((onErr n t ds dn).1=(wrT n t dn).1∧(onErr n t ds dn).2=(wrT n t dn).2):=by
   have:onErr n t ds dn=wrT n t dn:=if_pos q;exact⟨by rw[this],by rw[this]⟩
  have q1':((wrT n t dn).1 != 0)=true:=(by simpa using q)
  have HV1B:Hid (Bl X V1):=hV1;have HNE:Hid ((wrT n t dn).1≠0):=q;have d1:RN≠w1.heap.size:=(by have:=H1.out.size;omega)
  have d2:RT≠w1.heap.size:=(by have:=H1.out.size;omega)
  have d3:RF≠w1.heap.size:=(by have:=H1.out.size;omega)
  have d4:=d1.symm;have d5:=d2.symm;have d6:=d3.symm;clear p0 p1 p2 hV1 HNS HDS HWF HC;generalize (wrT n t dn).1=E1 at *;generalize (wrT n t dn).2=E2 at *;(go_wp2_with fail);rw[←HV1.out];go_region
  (all_goals go_wp2_with fail);all_goals
   refine bodyPost_ret (v:=.tuple #[.agg #[.slice none 0 0,.slice none 0 0],.agg #[.slice none 0 0],.agg #[.int .i64 E1,.int .i64 E2]]) (results_row3 Tryz.results29 _ _ RN RT RF 32 43 26 #[.slice none 0 0,.slice none 0 0] #[.slice none 0 0] #[.int .i64 E1,.int .i64 E2] (0,0) (0,0) (0,0) _ _ _ rfl rfl rfl ?h1 ?h2 ?h3 Tryz.underlying32 Tryz.underlying43 Tryz.underlying26 rfl rfl rfl ?i1 ?i2 ?i3) rfl ?post
   case h1=>repeat(first | (with_reducible refine drew_keep ?_) | (with_reducible exact(HH.out _ HV1B.out).1) | (with_reducible exact(HH.out _ (below_drewN HV1B.out _)).1) | (with_reducible exact(HH.out _ (Below.drew HV1B.out)).1) | (with_reducible refine set2_same (a0:=Value.slice none 0 0) (a1:=Value.slice none 0 0) ?_) | (with_reducible refine set_keep ?_ ne1) | (with_reducible refine set_keep ?_ ne2))
   case h2=>repeat(first | (with_reducible refine drew_keep ?_) | (with_reducible exact(HH.out _ HV1B.out).2.1) | (with_reducible exact(HH.out _ (below_drewN HV1B.out _)).2.1) | (with_reducible exact(HH.out _ (Below.drew HV1B.out)).2.1) | (with_reducible refine set1_same (a0:=Value.slice none 0 0) ?_) | (with_reducible refine set_keep ?_ ne1.symm) | (with_reducible refine set_keep ?_ ne3))
   case h3=>repeat(first | (with_reducible refine drew_keep ?_) | (with_reducible exact(HH.out _ HV1B.out).2.2.1) | (with_reducible exact(HH.out _ (below_drewN HV1B.out _)).2.2.1) | (with_reducible exact(HH.out _ (Below.drew HV1B.out)).2.2.1) | (with_reducible refine set2_same (a0:=Value.int .i64 0) (a1:=Value.int .i64 0) ?_) | (with_reducible refine set_keep ?_ ne2.symm) | (with_reducible refine set_keep ?_ ne3.symm))
   case i1=>rw[sizeNt];try rfl
   case i2=>rw[sizeTk];try rfl
   case i3=>rw[sizeFt];try rfl
   case post =>
    refine⟨?_,Or.inl ⟨by rw[HE.out.1];exact HNE.out,by rw[HE.out.1,HE.out.2]⟩⟩;repeat(first | (with_reducible refine Below.drew ?_) | (with_reducible exact(HH.out _ HV1B.out).2.2.2) | (with_reducible exact(HH.out _ (below_drewN HV1B.out _)).2.2.2) | (with_reducible exact(HH.out _ (Below.drew HV1B.out)).2.2.2) | (with_reducible refine Below.setCell ?_ le1 _) | (with_reducible refine Below.setCell ?_ le2 _) | (with_reducible refine Below.setCell ?_ le3 _))
end
end Go.Proofs.YtflghpnpjmodaaaGreatDoor
