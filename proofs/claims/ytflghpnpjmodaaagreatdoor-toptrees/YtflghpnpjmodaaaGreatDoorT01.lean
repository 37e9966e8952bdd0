/- What all four rows ask: the tables out of the row's list; a slice of bytes that came in; a world for the witness. -/
import Derived.Test.YtflghpnpjmodaaaGreatDoorRows
import Derived.WalkSpells
import Derived.WalkLawsBesides
import Derived.BigRegion
import Derived.BigQuiet
import Derived.RegionTactic
import Derived.Deep.WholeRow
import Derived.Deep.RegionWith
import Derived.Deep.DeepCutAuto
import Derived.Laws.CopyOwn
import Derived.Laws.BitsLemmas
import Derived.Laws.Bits64b
import Derived.Laws.ResultCell
import Derived.Laws.AppendOwnNone
import Derived.OwnWalk
import GoSem.Claim
import Derived.Deep.QuietTactic
import Derived.ProofKit
import Derived.OpenShut
import Derived.ChangeOld
import Derived.ChangeSlices
import Derived.SizedLaws
import Derived.Deep.DeepHandedRow
import Derived.Lib.LaidTab
import Derived.Stop.LaidErr
set_option maxRecDepth 100000
set_option maxHeartbeats 6000000
namespace Go.Proofs.YtflghpnpjmodaaaGreatDoor
section
open Go.RowKit
theorem lsA {α:Type} (l:List α) (i:Nat) (a:α):l.toArray.setIfInBounds i a=(l.set i a).toArray:=by simp
theorem lsZ {α:Type} {a b:α} {l:List α}:(a::l).set 0 b=b::l:=rfl
theorem lsS {α:Type} {a b:α} {l:List α} {n:Nat}:(a::l).set (n+1) b=a::l.set n b:=rfl
theorem gSm {α:Type} {x:Array α} {i:Nat} {a:α}:x[i]?=some a↔∃h:i<x.size,x[i]=a:=Array.getElem?_eq_some_iff
abbrev Bl (a b:World):Prop:=Below a.heap.size a b
theorem add_row (b off j:Nat):(⟨b,off,none⟩:Addr).add j=⟨b,off+j,none⟩:=by unfold Addr.add;split<;>simp_all
theorem bA1 (w:World) (o:Obj):Bl w (w.alloc o):=(Below.refl _ _).alloc (Nat.le_refl _) _
theorem bA2 (w:World) (o1 o2:Obj):Bl w ((w.alloc o1).alloc o2):=((Below.refl _ w).alloc (Nat.le_refl _) _).alloc (by simp) _
theorem alloc3 (w:World) (A B C:Obj):(((w.alloc A).alloc B).alloc C).heap[w.heap.size]?=some A∧(((w.alloc A).alloc B).alloc C).heap[w.heap.size+1]?=some B∧(((w.alloc A).alloc B).alloc C).heap[w.heap.size+1+1]?=some C∧Bl w (((w.alloc A).alloc B).alloc C):=by
 refine⟨?_,?_,?_,(((Below.refl _ _).alloc (Nat.le_refl _) _).alloc (by simp) _).alloc (by simp;omega) _⟩
 ·rw[Below.heap_alloc _ _ _ (by simp;omega)];exact heap_alloc2_old w A B
 ·rw[Below.heap_alloc _ _ _ (by simp)];exact heap_alloc2_new w A B
 ·have:=heap_alloc_last ((w.alloc A).alloc B) C;simpa using this
theorem rRt {P:Program}{fn:Func}{p u:Tmp}{ty:TypeId}(h:fn.results=#[.cell p ty,.tmp u]) (tmps:Array Value) (w:World) (g:Nat) (t:TypeId) (cs:Array Value) (fr:Nat×Nat) (d:TypeDesc)
  (hp:tmps.getD p undef=.pointer (some ⟨g,0,none⟩)) (hg:w.heap[g]?=some (.cells cs t fr))
  (hu:P.underlying ty=some d) (hd:(match d with | .struct _ | .array _ _=>true | _=>false)=true) (hi:(P.info? ty).map (·.size)=some cs.size) :
  (results fn tmps).run P w=.ok (.tuple #[.agg cs,tmps.getD u undef]) w:=by
 rw[results_cell_tmp h tmps P w,hp];simp[asAddr,run_loadVar_row w g t ty cs fr d hg hu hd hi]
theorem wraps_i64 (n:Int) (h0:0≤n) (h1:n<2 ^ 62):IntKind.i64.wrap n=n:=by
 simp[IntKind.wrap,IntKind.bits,IntKind.signed];omega
theorem wraps_u64 (n:Int) (h0:0≤n) (h1:n<2 ^ 64):IntKind.u64.wrap n=n:=by
 simp[IntKind.wrap,IntKind.bits,IntKind.signed];omega
def NilOk (ao:Option Addr) (n c:Nat):Prop:=ao=none→n=0∧c=0
theorem keep {w1 w2:World}{g:Nat}{o:Obj}(h:w1.heap[g]?=some o) (hb:Bl w1 w2):w2.heap[g]?=some o:=by
 refine(hb.block g ?_).trans h;rcases Nat.lt_or_ge g w1.heap.size with e | e
 ·exact e
 ·rw[Array.getElem?_eq_none e] at h;cases h
theorem drew_row {w:World}{g:Nat}{o:Option Obj}(h:w.heap[g]?=o):w.drew.heap[g]?=o:=h
def rowF (n:Nat) (f:Nat→Int):Array Value:=((List.range n).map fun i=>Value.int .u8 (f i)).toArray
theorem rowF_size (n:Nat) (f:Nat→Int):(rowF n f).size=n:=by simp[rowF]
theorem rowF_get (n:Nat) (f:Nat→Int) (j:Nat) (h:j<n):(rowF n f)[j]?=some (.int .u8 (f j)):=by simp[rowF,h]
theorem rowF_set (n:Nat) (f:Nat→Int) (k:Nat) (v:Int) (h:k<n):(rowF n f).setIfInBounds k (.int .u8 v)=rowF n (fun i=>if i=k then v else f i):=by
 apply Array.ext_getElem?
 intro i;by_cases hi:i<n
 ·rw[rowF_get n _ i hi,Array.getElem?_setIfInBounds];by_cases e:k=i
  ·subst e;simp[rowF_size,h]
  ·rw[if_neg e,rowF_get n f i hi,if_neg (fun h=>e h.symm)]
 ·rw[Array.getElem?_eq_none (by simp[rowF_size];omega),Array.getElem?_eq_none (by simp[rowF_size];omega)]
theorem rowF_congr (n:Nat) (f g:Nat→Int) (h:∀i,i<n→f i=g i):rowF n f=rowF n g:=by
 unfold rowF;congr 1
 apply List.map_congr_left
 intro i hi;rw[h i (by simpa using hi)]
theorem rowF_all (n:Nat) (f:Nat→Int):(rowF n f).all (·.oneCell')=true:=by
 rw[Array.all_eq_true_iff_forall_mem];intro v hv;simp[rowF] at hv;obtain⟨i,_,rfl⟩:=hv;rfl
def bytesL (n:Nat) (f:Nat→Int):List Value:=(List.range n).map fun i=>Value.int .u8 (f i)
theorem bytesL_length (n:Nat) (f:Nat→Int):(bytesL n f).length=n:=by simp[bytesL]
theorem bytesL_get (n:Nat) (f:Nat→Int) (j:Nat) (v:Value) (h:(bytesL n f)[j]?=some v):j<n∧v=.int .u8 (f j):=by
 have hj:j<n:=by
  have:=(List.getElem?_eq_some_iff.1 h).1;simpa[bytesL] using this
 refine⟨hj,?_⟩;simp[bytesL,hj] at h;exact h.symm
theorem bytesL_one (n:Nat) (f:Nat→Int):∀v∈bytesL n f,v.oneCell'=true:=by
 intro v hv;simp[bytesL] at hv;obtain⟨i,_,rfl⟩:=hv;rfl
theorem bytesL_congr (n:Nat) (f g:Nat→Int) (h:∀i,i<n→f i=g i):bytesL n f=bytesL n g:=by
 unfold bytesL;apply List.map_congr_left
 intro i hi;rw[h i (by simpa using hi)]
theorem bytesL_append (n m:Nat) (f g:Nat→Int):bytesL n f++bytesL m g=bytesL (n+m) (fun i=>if i<n then f i else g (i-n)):=by
 apply List.ext_getElem?
 intro i;by_cases h:i<n
 ·rw[List.getElem?_append_left (by rw[bytesL_length];exact h)];simp[bytesL,h,show i<n+m by omega]
 ·rw[List.getElem?_append_right (by rw[bytesL_length];omega),bytesL_length];by_cases h2:i<n+m
  ·simp[bytesL,h,h2,show i-n<m by omega]
  ·rw[List.getElem?_eq_none (by rw[bytesL_length];omega),List.getElem?_eq_none (by rw[bytesL_length];omega)]
theorem splice_row (m n:Nat) (f:Nat→Int) (h:n≤m):(splice (bytesL m (fun _=>0)) 0 (bytesL n f)).toArray=rowF m (fun i=>if i<n then f i else 0):=by
 unfold splice rowF;congr 1
 apply List.ext_getElem?
 intro i;simp only[List.take_zero,List.nil_append,Nat.zero_add,bytesL_length];by_cases hi:i<n
 ·rw[List.getElem?_append_left (by simpa[bytesL_length] using hi)];simp[bytesL,hi,show i<m by omega]
 ·rw[List.getElem?_append_right (by simp[bytesL_length];omega)];by_cases hm:i<m
  ·simp[bytesL,List.getElem?_drop,hi,show n+(i-n)=i by omega,hm]
  ·simp[bytesL,List.getElem?_drop,show n+(i-n)=i by omega,hm]
def ByteRow (w:World) (ao:Option Addr) (n cap:Nat) (bs:Nat→Int):Prop :=
 n≤cap∧(0<n→∃b off,ao=some ⟨b,off,none⟩∧b<w.heap.size∧∀i,i<n→w.cell? ⟨b,off+i,none⟩=some (.int .u8 (bs i)))
theorem ByteRow.below {w w':World}{ao:Option Addr}{n cap:Nat}{bs:Nat→Int}(h:ByteRow w ao n cap bs) (hb:Bl w w'):ByteRow w' ao n cap bs:=by
 refine⟨h.1,fun hp => ?_⟩;obtain⟨b,off,e,hlt,hc⟩:=h.2 hp;exact⟨b,off,e,Nat.lt_of_lt_of_le hlt hb.size,fun i hi=>(hb.cell (by exact hlt)).trans (hc i hi)⟩
theorem ByteRow.congr {w:World}{ao:Option Addr}{n cap:Nat}{bs cs:Nat→Int}(h:ByteRow w ao n cap bs) (e:∀i,i<n→bs i=cs i):ByteRow w ao n cap cs:=by
 refine⟨h.1,fun hp => ?_⟩;obtain⟨b,off,e1,hlt,hc⟩:=h.2 hp;exact⟨b,off,e1,hlt,fun i hi=>by rw[←e i hi];exact hc i hi⟩
theorem src_row {W:World}{ao:Option Addr}{n cap:Nat}{bs:Nat→Int}(h:ByteRow W ao n cap bs) {ad:Addr}(e:ao=some ad):∀j v,(bytesL n bs)[j]?=some v→W.cell? (ad.add j)=some v:=by
 intro j v hj;obtain⟨hj1,rfl⟩:=bytesL_get _ _ _ _ hj;obtain⟨b,off,e2,_,hc⟩:=h.2 (by omega);rw[e] at e2;cases e2
 rw[add_row];exact hc j hj1
theorem ByteRow.of_row {w:World}{g N off n cap:Nat}{f:Nat→Int}{ty:TypeId}(h:w.heap[g]?=some (.cells (rowF N f) ty (0,0))) (hn:off+n≤N) (hc:n≤cap):ByteRow w (some ⟨g,off,none⟩) n cap (fun i=>f (off+i)):=by
 refine⟨hc,fun hp=>⟨g,off,rfl,block_lt_of_cell ((cell_of_row w g off _ _ _ h).trans (rowF_get _ _ _ (by omega))),fun i hi=>(cell_of_row w g (off+i) _ _ _ h).trans (rowF_get _ _ _ (by omega))⟩⟩
theorem size5:(Tryz.prog.info? 5).map (·.size)=some 1:=by kernel_rfl
theorem copy_src {W:World}{ao:Option Addr}{n m cap:Nat}{bs:Nat→Int}(h:ByteRow W ao n cap bs) (hm:m≤n) (hp:0<(bytesL m bs).length):∃ad,ao=some ad∧∀j v,(bytesL m bs)[j]?=some v→W.cell? (ad.add j)=some v:=by
 rw[bytesL_length] at hp;obtain⟨b,off,rfl,hb,hc⟩:=h.2 (by omega);refine⟨_,rfl,fun j v hj => ?_⟩;obtain⟨hj1,rfl⟩:=bytesL_get _ _ _ _ hj;rw[add_row];exact hc j (by omega)
theorem info5:(Tryz.prog.info? 5).map (fun i=>(i.zero,i.size,i.bytes))=some (some (.int .u8 0),1,1):=by kernel_rfl
theorem owns_below {w w':World}{base e size n:Nat}{v:Value}{xs:List Value}(h:w.ownsRow base e size v n xs) (hb:Bl w w'):w'.ownsRow base e size v n xs:=by
 obtain⟨h1,h2⟩:=h;refine⟨h1,?_⟩;rcases h2 with h2 | ⟨g,cap,cur,hv,hg,hh,r⟩
 ·exact Or.inl h2
 ·exact Or.inr ⟨g,cap,cur,hv,hg,by rw[hb.block g (by
   rcases Nat.lt_or_ge g w.heap.size with h | h
   ·exact h
   ·rw[Array.getElem?_eq_none h] at hh;cases hh)];exact hh,r⟩
theorem owns_block {w:World}{base e size n:Nat}{v:Value}{xs:List Value}(h:w.ownsRow base e size v n xs):∀k,v.ownBlock=some k→base≤k:=by
 intro k hk;obtain⟨_,h2⟩:=h;rcases h2 with⟨rfl,_⟩ | ⟨g,cap,cur,rfl,hg,_⟩
 ·simp[Value.ownBlock] at hk
 ·simp[Value.ownBlock] at hk;omega
theorem owns_row {w:World}{base n:Nat}{v:Value}{f:Nat→Int}(h:w.ownsRow base 5 1 v n (bytesL n f)):∃ao cap,v=.slice ao n cap∧ByteRow w ao n cap f∧cap≤maxLen∧(ao=none→n=0∧cap=0)∧(∀ad,ao=some ad→base≤ad.block):=by
 have h':=h;obtain⟨_,h2⟩:=h;rcases h2 with⟨rfl,rfl⟩ | ⟨g,cap,cur,rfl,hg,hh,hn,hm,_,_⟩
 ·exact⟨none,0,rfl,⟨Nat.le_refl _,fun h=>absurd h (by omega)⟩,by unfold maxLen;omega,fun _=>⟨rfl,rfl⟩,fun ad e=>by cases e⟩
 ·refine⟨_,cap,rfl,⟨hn,fun hp=>⟨g,0,rfl,?_,fun i hi => ?_⟩⟩,hm,(fun e=>by cases e),(fun ad e=>by cases e;exact hg)⟩
  ·rcases Nat.lt_or_ge g w.heap.size with h | h
   ·exact h
   ·rw[Array.getElem?_eq_none h] at hh;cases hh
  ·rw[Nat.zero_add,h'.cellAt i (by omega)];simp[bytesL,hi]
theorem owns_empty (w:World):(w.alloc (.cells #[] 5)).ownsRow w.heap.size 5 1 (.slice (some ⟨w.heap.size,0,none⟩) 0 0) 0 [] :=
 ⟨rfl,Or.inr ⟨w.heap.size,0,#[],rfl,Nat.le_refl _,heap_alloc_last w _,Nat.le_refl _,by unfold maxLen;omega,rfl,rfl⟩⟩
theorem wpList_append_bytes {w:World}{ops:Array Oper}{rest:List Oper}{o:Oper}{a:Act}{Q:Exit→Act→World→Prop}(hgd:o.guard=none) (s x:Operand)
  (ho:o.op=.call { callee:=.builtin .append,args:=#[s,x],argTypes:=#[60,60] }) (base:Nat)
  (v:Value) (n:Nat) (xs:List Value) (hs:a.eval s=v) (hown:w.ownsRow base 5 1 v n xs)
  (ao:Option Addr) (m c:Nat) (bs:Nat→Int) (hx:a.eval x=.slice ao m c) (hr:ByteRow w ao m c bs) (hnil:ao=none→m=0∧c=0) (hb:n+m≤140737488355328) (hbase:base≤w.heap.size)
  (h:∀v' w',w'.ownsRow base 5 1 v' (n+m) (xs++bytesL m bs)→w.grownBy w' v.ownBlock→wpList Tryz.prog ops Q rest (a.put o.dst v') w'):wpList Tryz.prog ops Q (o :: rest) a w:=by
 obtain⟨i0,hi,hz0,hz1,hz2⟩:=info_parts info5;cases ao with
 | none =>
  obtain⟨rfl,rfl⟩:=hnil rfl;refine wpList_append_own_none hgd s x 60 ho base 5 i0 1 Tryz.underlying60 hi v n xs hs hown hx ?_;exact h v w (by simpa[bytesL] using hown) ⟨rfl,rfl,rfl,Nat.le_refl _,fun _ _ _=>rfl⟩
 | some ad =>
  refine wpList_append_own _ hgd s x 60 ho base 5 i0 (.int .u8 0) 1 1 Tryz.underlying60 hi hz0 hz1 hz2 rfl (by decide) v n xs hs hown ad m c (bytesL m bs) hx (by rw[bytesL_length];omega) (src_row hr rfl) (bytesL_one _ _) (by unfold maxLen;omega) (by omega) hbase ?_;intro v' w' h1 h2 _;exact h v' w' h1 h2
theorem grown_own {w w0 w':World}{v:Value}{base:Nat}{n:Nat}{xs:List Value}(hb:Below base w0 w) (hown:w.ownsRow base 5 1 v n xs) (hbase:base≤w.heap.size) (hg:w.grownBy w' v.ownBlock):Below base w0 w' :=
 hb.grown hg hbase (owns_block hown)
def strOf (n:Nat) (bs:Nat→Int):ByteArray:=((List.range n).map bs).foldl (fun r n=>r.push (UInt8.ofNat n.toNat)) ByteArray.empty
theorem run_str (w:World) (ao:Option Addr) (n cap:Nat) (bs:Nat→Int) (hr:ByteRow w ao n cap bs) (hn:NilOk ao n cap) :
  (convert 60 9 (.slice ao n cap)).run Tryz.prog w=.ok (.string (strOf n bs)) w:=by
 rw[run_convert_bytes_string w 60 9 5 _ _ _ Tryz.underlying60 Tryz.underlying5 Tryz.underlying9];cases ao with
 | none =>
  obtain⟨rfl,rfl⟩:=hn rfl;rfl
 | some ad =>
  unfold strOf;apply run_bytesToString
  have:=run_loadCells_list (P:=Tryz.prog) w ad (((List.range n).map bs).map (Value.int .u8)) (fun j v hj=>by
   have hjn:j<n:=by
    have:=(List.getElem?_eq_some_iff.1 hj).1;simpa using this
   obtain⟨b,off,e,_,hc⟩:=hr.2 (by omega);cases e
   rw[add_row,hc j hjn];simp[hjn] at hj;rw[←hj])
  simpa using this
theorem made_zeros (m:Nat):madeCells (Value.int .u8 0).cells m=rowF m (fun _=>0):=by
 apply Array.ext_getElem?
 intro i;by_cases h:i<m
 ·rw[rowF_get _ _ _ h];simp[madeCells,Value.cells,h,Nat.mod_one]
 ·rw[Array.getElem?_eq_none (by simp[madeCells];omega),Array.getElem?_eq_none (by rw[rowF_size];omega)]
end
section
namespace Md
def rowU (n:Nat) (f:Nat→Int) (k:Nat):Array Value:=((List.range n).map fun i=>Value.int .u32 (if i<k then f i else 0)).toArray
theorem rowU_size (n:Nat) (f:Nat→Int) (k:Nat):(rowU n f k).size=n:=by simp[rowU]
theorem rowU_get (n:Nat) (f:Nat→Int) (k j:Nat) (h:j<n):(rowU n f k)[j]?=some (.int .u32 (if j<k then f j else 0)):=by
 simp[rowU,h]
theorem rowU_set (n:Nat) (f:Nat→Int) (k:Nat) (h:k<n):(rowU n f k).setIfInBounds k (.int .u32 (f k))=rowU n f (k+1):=by
 apply Array.ext_getElem?
 intro i;by_cases hi:i<n
 ·rw[rowU_get n f (k+1) i hi,Array.getElem?_setIfInBounds];by_cases e:k=i
  ·subst e;simp[rowU_size,h]
  ·rw[if_neg e,rowU_get n f k i hi];have:(i<k)↔(i<k+1):=by omega
   simp[this]
 ·have h1:n≤i:=(by omega)
  rw[Array.getElem?_eq_none (by simp[rowU_size];omega),Array.getElem?_eq_none (by simp[rowU_size];omega)]
theorem rowU_all (n:Nat) (f:Nat→Int) (k:Nat):(rowU n f k).all (·.oneCell')=true:=by
 rw[Array.all_eq_true_iff_forall_mem];intro v hv;simp[rowU] at hv;obtain⟨i,_,rfl⟩:=hv;rfl
def rowB (n:Nat) (f:Nat→Int) (k:Nat):Array Value:=((List.range n).map fun i=>Value.int .u8 (if i<k then f i else 0)).toArray
theorem rowB_size (n:Nat) (f:Nat→Int) (k:Nat):(rowB n f k).size=n:=by simp[rowB]
theorem rowB_get (n:Nat) (f:Nat→Int) (k j:Nat) (h:j<n):(rowB n f k)[j]?=some (.int .u8 (if j<k then f j else 0)):=by
 simp[rowB,h]
theorem rowB_set (n:Nat) (f:Nat→Int) (k:Nat) (h:k<n):(rowB n f k).setIfInBounds k (.int .u8 (f k))=rowB n f (k+1):=by
 apply Array.ext_getElem?
 intro i;by_cases hi:i<n
 ·rw[rowB_get n f (k+1) i hi,Array.getElem?_setIfInBounds];by_cases e:k=i
  ·subst e;simp[rowB_size,h]
  ·rw[if_neg e,rowB_get n f k i hi];have:(i<k)↔(i<k+1):=by omega
   simp[this]
 ·have h1:n≤i:=(by omega)
  rw[Array.getElem?_eq_none (by simp[rowB_size];omega),Array.getElem?_eq_none (by simp[rowB_size];omega)]
def wd (bs:Nat→Int) (i:Nat):Int :=
 bits BinOp.or IntKind.u32 (bits BinOp.or IntKind.u32 (bits BinOp.or IntKind.u32 (bs (4*i)%4294967296) (bs (4*i+1)%4294967296*256%4294967296)) (bs (4*i+2)%4294967296*65536%4294967296)) (bs (4*i+3)%4294967296*16777216%4294967296)
def tab:List Int:=[0xD76AA478,0xE8C7B756,0x242070DB,0xC1BDCEEE,0xF57C0FAF,0x4787C62A,0xA8304613,0xFD469501,
 0x698098D8,0x8B44F7AF,0xFFFF5BB1,0x895CD7BE,0x6B901122,0xFD987193,0xA679438E,0x49B40821,
 0xF61E2562,0xC040B340,0x265E5A51,0xE9B6C7AA,0xD62F105D,0x02441453,0xD8A1E681,0xE7D3FBC8,
 0x21E1CDE6,0xC33707D6,0xF4D50D87,0x455A14ED,0xA9E3E905,0xFCEFA3F8,0x676F02D9,0x8D2A4C8A,
 0xFFFA3942,0x8771F681,0x6D9D6122,0xFDE5380C,0xA4BEEA44,0x4BDECFA9,0xF6BB4B60,0xBEBFBC70,
 0x289B7EC6,0xEAA127FA,0xD4EF3085,0x04881D05,0xD9D4D039,0xE6DB99E5,0x1FA27CF8,0xC4AC5665,
 0xF4292244,0x432AFF97,0xAB9423A7,0xFC93A039,0x655B59C3,0x8F0CCC92,0xFFEFF47D,0x85845DD1,
 0x6FA87E4F,0xFE2CE6E0,0xA3014314,0x4E0811A1,0xF7537E82,0xBD3AF235,0x2AD7D2BB,0xEB86D391]
def trn:List Int:=[7,12,17,22,5,9,14,20,4,11,16,23,6,10,15,21]
def tabAt (i:Nat):Int:=tab.getD i 0
def trnAt (i:Nat):Int:=trn.getD i 0
theorem trnAt_range:∀i,i<16→0≤trnAt i∧trnAt i<32:=by decide
def rotl (x k:Int):Int:=bits BinOp.or IntKind.u32 (x*2 ^ k.toNat%4294967296) (x/2 ^ (32-k).toNat)
def fsel (i:Nat) (b c d:Int):Int :=
 if i<16 then bits BinOp.or IntKind.u32 (bits BinOp.and IntKind.u32 b c) (bits BinOp.and IntKind.u32 (bits BinOp.xor IntKind.u32 IntKind.u32.max b) d)
 else if i<32 then bits BinOp.or IntKind.u32 (bits BinOp.and IntKind.u32 b d) (bits BinOp.andNot IntKind.u32 c d)
 else if i<48 then bits BinOp.xor IntKind.u32 (bits BinOp.xor IntKind.u32 b c) d
 else bits BinOp.xor IntKind.u32 c (bits BinOp.or IntKind.u32 b (bits BinOp.xor IntKind.u32 IntKind.u32.max d))
def ksel (i:Nat):Nat :=
 if i<16 then i else if i<32 then(5*i+1)%16 else if i<48 then(3*i+5)%16 else 7*i%16
theorem ksel_lt (i:Nat):ksel i<16:=by
 unfold ksel;split
 ·assumption
 ·split
  ·omega
  ·split<;>omega
structure St where
 a:Int
 b:Int
 c:Int
 d:Int
def stV (s:St):Value:=.agg #[.int .u32 s.a,.int .u32 s.b,.int .u32 s.c,.int .u32 s.d]
theorem all4 (a b c d:Int):(#[Value.int .u32 a,.int .u32 b,.int .u32 c,.int .u32 d]:Array Value).all (·.oneCell')=true:=by
 rw[Array.all_eq_true_iff_forall_mem];intro v hv;simp at hv;rcases hv with rfl | rfl | rfl | rfl<;>rfl
def stp (bs:Nat→Int) (i:Nat) (s:St):St :=
 ⟨s.d,(s.b+rotl ((s.a+fsel i s.b s.c s.d+tabAt i+wd bs (ksel i))%4294967296) (trnAt (i/16*4+i%4)))%4294967296,s.b,s.c⟩
def runTo (bs:Nat→Int):Nat→St→St
 | 0,s=>s
 | k+1,s=>stp bs k (runTo bs k s)
def mixS (s:St) (bs:Nat→Int):St :=
 ⟨(s.a+(runTo bs 64 s).a)%4294967296,(s.b+(runTo bs 64 s).b)%4294967296,(s.c+(runTo bs 64 s).c)%4294967296,(s.d+(runTo bs 64 s).d)%4294967296⟩
def st0:St:=⟨1732584193,4023233417,2562383102,271733878⟩
def mixN (s:St) (bs:Nat→Int):Nat→St
 | 0=>s
 | k+1=>mixS (mixN s bs k) (fun i=>bs (64*k+i))
def stA (s:St):Array Value:=#[.int .u32 s.a,.int .u32 s.b,.int .u32 s.c,.int .u32 s.d]
theorem stA_all (s:St):(stA s).all (·.oneCell')=true:=all4 _ _ _ _
theorem stA_size (s:St):(stA s).size=4:=rfl
def wordOf (s:St):Nat→Int
 | 0=>s.a
 | 1=>s.b
 | 2=>s.c
 | _=>s.d
def dg (s:St) (i:Nat):Int:=wordOf s (i/4)/2 ^ (8*(i%4))%256
end Md
end
section
open Go.RowKit
theorem size50:(Tryz.prog.info? 272).map (·.size)=some 16:=by kernel_rfl
theorem words_any (b off cap:Nat) (bs:Nat→Int) (w:World) (hb:b<w.heap.size) (hcap:64≤cap) (hc:∀i,i<64→w.cell? ⟨b,off+i,none⟩=some (.int .u8 (bs i))) :
  Calls Tryz.prog 177 #[.slice (some ⟨b,off,none⟩) 64 cap] w fun e w'=>e=.returned (.agg (Md.rowU 16 (Md.wd bs) 16))∧Bl w w':=by
 go_enter Tryz.func177,Tryz.ntmps177;go_wp2
 go_loopw [6] (fun i wr=>∃k:Nat,k≤16∧i=.int .i64 k∧wr.heap[w.heap.size]?=some (.cells (Md.rowU 16 (Md.wd bs) 0) 272)∧wr.heap[w.heap.size+1]?=some (.cells (Md.rowU 16 (Md.wd bs) k) 272)∧Bl w wr) (fun i _=>16-(intOf i).toNat)
 case atStart=>exact⟨0,by omega,rfl,heap_alloc2_old w _ _,heap_alloc2_new w _ _,((Below.refl _ _).alloc (Nat.le_refl _) _).alloc (by simp) _⟩
 case round =>
  obtain⟨k,hk,rfl,hA,hB,hbel⟩:=hrel;by_cases hlt:k<16
  ·have c0:wr.cell? ⟨b,off+4*k,none⟩=some (.int .u8 (bs (4*k))):=(hbel.cell (by exact hb)).trans (hc (4*k) (by omega));have c1:wr.cell? ⟨b,off+4*k+1,none⟩=some (.int .u8 (bs (4*k+1))):=(hbel.cell (by exact hb)).trans (hc (4*k+1) (by omega));have c2:wr.cell? ⟨b,off+4*k+2,none⟩=some (.int .u8 (bs (4*k+2))):=(hbel.cell (by exact hb)).trans (hc (4*k+2) (by omega));have c3:wr.cell? ⟨b,off+4*k+3,none⟩=some (.int .u8 (bs (4*k+3))):=(hbel.cell (by exact hb)).trans (hc (4*k+3) (by omega));have c4:wr.cell? ⟨w.heap.size+1,k,none⟩=some (.int .u32 0):=(cell_of_row wr _ k _ _ _ hB).trans (by rw[Md.rowU_get _ _ _ _ hlt];simp);have f4:wr.frozen? ⟨w.heap.size+1,k,none⟩=false:=frozen_of_row _ _ _ _ _ hB;have R1:Hid ((wr.setCell ⟨w.heap.size+1,k,none⟩ (.int .u32 (Md.wd bs k))).heap[w.heap.size]?=some (.cells (Md.rowU 16 (Md.wd bs) 0) 272)∧(wr.setCell ⟨w.heap.size+1,k,none⟩ (.int .u32 (Md.wd bs k))).heap[w.heap.size+1]?=some (.cells (Md.rowU 16 (Md.wd bs) (k+1)) 272)∧Bl w (wr.setCell ⟨w.heap.size+1,k,none⟩ (.int .u32 (Md.wd bs k))).drew):=by
    refine⟨by rw[heap_setCell_other _ _ _ _ (by simp)];exact hA,?_,(hbel.setCell (by simp) _).drew⟩;rw[heap_setCell_same _ _ _ _ _ _ hB,Md.rowU_set _ _ _ hlt]
   clear hc hA hB hbel;go_wp2
   go_region
   go_wp2
   exact⟨⟨k+1,by omega,by go_num,R1.out.1,R1.out.2.1,R1.out.2.2⟩,by simp[intOf];omega⟩
  ·obtain rfl:k=16:=by omega
   go_wp2_with (first | refine wpList_load_row rfl 272 _ rfl (w.heap.size+1) rfl 272 _ (0,0) _ hB Tryz.underlying272 rfl (by rw[size50,Md.rowU_size]) ?_ | refine wpList_store_row rfl 272 _ _ rfl (w.heap.size) _ rfl rfl 272 _ hA (by rw[size50,Md.rowU_size]) (by simp[Md.rowU_size]) (Md.rowU_all _ _ _) ?_)
   exact bodyPost_ret (v:=.agg (Md.rowU 16 (Md.wd bs) 16)) (results_cell_row (p:=2) (ty:=272) rfl _ _ w.heap.size 272 _ (0,0) _ rfl (setRow_heap _ _ _ _ _ _ hA) Tryz.underlying272 rfl (by rw[size50,Md.rowU_size])) rfl ⟨rfl,below_setRow hbel (Nat.le_refl _) _⟩
theorem start_any (w:World) :
  Calls Tryz.prog 125 #[] w fun e w'=>e=.returned (Md.stV Md.st0)∧Bl w w':=by
 go_enter Tryz.func125,Tryz.ntmps125;go_wp2
 exact bodyPost_ret (v:=Md.stV Md.st0) (by simp[results,Tryz.results125,go_sem,Md.stV,Md.st0]) rfl ⟨rfl,(Below.refl _ _).alloc (Nat.le_refl _) _⟩
theorem and31 (k:Int) (h0:0≤k) (h1:k<32):bits BinOp.and IntKind.u64 k 31=k:=by
 go_bits2
theorem rot_any (x k:Int) (w:World) (h0:0≤k) (h1:k<32) :
  Calls Tryz.prog 179 #[.int .u32 x,.int .i64 k] w fun e w'=>e=.returned (.int .u32 (Md.rotl x k))∧w'=w:=by
 have hk:=and31 k h0 h1;go_enter Tryz.func179,Tryz.ntmps179;go_wp2
 go_ret;exact⟨rfl,rfl⟩
theorem choose_any (i:Nat) (b c d:Int) (w:World) (h1:i<64) :
  Calls Tryz.prog 178 #[.int .i64 i,.int .u32 b,.int .u32 c,.int .u32 d] w fun e w'=>e=.returned (.tuple #[.int .u32 (Md.fsel i b c d),.int .i64 (Md.ksel i)])∧w'=w:=by
 rcases(show i<16∨(16≤i∧i<32)∨(32≤i∧i<48)∨(48≤i∧i<64) by omega) with h | h | h | h
 ·have e1:Md.fsel i b c d=bits BinOp.or IntKind.u32 (bits BinOp.and IntKind.u32 b c) (bits BinOp.and IntKind.u32 (bits BinOp.xor IntKind.u32 IntKind.u32.max b) d):=(by simp[Md.fsel,h])
  have e2:Md.ksel i=i:=(by simp[Md.ksel,h])
  rw[e1,e2];clear e1 e2;go_enter Tryz.func178,Tryz.ntmps178;go_wp2
  go_ret2;exact⟨rfl,rfl⟩
 ·obtain⟨h2,h3⟩:=h;have e1:Md.fsel i b c d=bits BinOp.or IntKind.u32 (bits BinOp.and IntKind.u32 b d) (bits BinOp.andNot IntKind.u32 c d):=(by simp[Md.fsel,h3,show ¬i<16 by omega])
  have e2:((Md.ksel i:Nat):Int)=(5*(i:Int)+1)%16:=(by simp[Md.ksel,h3,show ¬i<16 by omega])
  rw[e1,e2];clear e1 e2;go_enter Tryz.func178,Tryz.ntmps178;go_wp2
  go_ret2;exact⟨rfl,rfl⟩
 ·obtain⟨h2,h3⟩:=h;have e1:Md.fsel i b c d=bits BinOp.xor IntKind.u32 (bits BinOp.xor IntKind.u32 b c) d:=(by simp[Md.fsel,h3,show ¬i<16 by omega,show ¬i<32 by omega])
  have e2:((Md.ksel i:Nat):Int)=(3*(i:Int)+5)%16:=(by simp[Md.ksel,h3,show ¬i<16 by omega,show ¬i<32 by omega])
  rw[e1,e2];clear e1 e2;go_enter Tryz.func178,Tryz.ntmps178;go_wp2
  go_ret2;exact⟨rfl,rfl⟩
 ·obtain⟨h2,h3⟩:=h;have e1:Md.fsel i b c d=bits BinOp.xor IntKind.u32 c (bits BinOp.or IntKind.u32 b (bits BinOp.xor IntKind.u32 IntKind.u32.max d)):=(by simp[Md.fsel,show ¬i<48 by omega,show ¬i<16 by omega,show ¬i<32 by omega])
  have e2:((Md.ksel i:Nat):Int)=7*(i:Int)%16:=(by simp[Md.ksel,show ¬i<48 by omega,show ¬i<16 by omega,show ¬i<32 by omega])
  rw[e1,e2];clear e1 e2;go_enter Tryz.func178,Tryz.ntmps178;go_wp2
  go_ret2;exact⟨rfl,rfl⟩
structure Tabs (w:World):Prop where
 adds:∀i,i<64→w.cell? ⟨0,i,none⟩=some (.int .u32 (Md.tabAt i))
 turn:∀i,i<16→w.cell? ⟨1,i,none⟩=some (.int .i64 (Md.trnAt i))
theorem Tabs.lt {w:World}(h:Tabs w):1<w.heap.size:=block_lt_of_cell (h.turn 0 (by decide))
theorem Tabs.below {w w':World}{B:Nat}(h:Tabs w) (hb:Below B w w') (hB:2≤B):Tabs w' :=
 ⟨fun i hi=>(hb.cell (by show 0<B;omega)).trans (h.adds i hi),fun i hi=>(hb.cell (by show 1<B;omega)).trans (h.turn i hi)⟩
theorem w64id (n:Int) (h0:0≤n) (h1:n<100):IntKind.i64.wrap n=n:=by
 simp[IntKind.wrap,IntKind.bits,IntKind.signed];omega
theorem size34:(Tryz.prog.info? 170).map (·.size)=some 4:=by kernel_rfl
theorem mix_any (s:Md.St) (b off cap:Nat) (bs:Nat→Int) (w:World) (ht:Tabs w) (hb:b<w.heap.size) (hcap:64≤cap) (hc:∀i,i<64→w.cell? ⟨b,off+i,none⟩=some (.int .u8 (bs i))) :
  Calls Tryz.prog 124 #[Md.stV s,.slice (some ⟨b,off,none⟩) 64 cap] w fun e w'=>e=.returned (Md.stV (Md.mixS s bs))∧Bl w w':=by
 have HT:Hid (Tabs w):=ht;have hbt:=ht.lt;clear ht;unfold Md.stV;go_enter Tryz.func124,Tryz.ntmps124;(go_wp2_with fail);refine(words_any b off cap bs _ (by simp;omega) hcap (fun i hi => ?_)).mono ?_
 ·rw[World.cell?_alloc_past _ _ _ (by simp;omega),World.cell?_alloc_past _ _ _ hb];exact hc i hi
 rintro e w1 ⟨rfl,hb1⟩;have hA:w1.heap[w.heap.size]?=some (.cells #[.int .u32 s.a,.int .u32 s.b,.int .u32 s.c,.int .u32 s.d] 170):=(hb1.block w.heap.size (by simp;omega)).trans (heap_alloc2_old w _ _);have hB:w1.heap[w.heap.size+1]?=some (.cells #[.int .u32 0,.int .u32 0,.int .u32 0,.int .u32 0] 170):=(hb1.block _ (by simp)).trans (heap_alloc2_new w _ _);have hz:w.heap.size+2≤w1.heap.size:=(by have:=hb1.size;simpa using this)
 have hbel:Bl w w1:=(((Below.refl _ w).alloc (Nat.le_refl _) _).alloc (by simp) _).trans (hb1.mono (by simp;omega));clear hb1;have cA:=fun j=>cell_of_row w1 _ j _ _ _ hA;have hs0:w1.cell? ⟨w.heap.size,0,none⟩=some (.int .u32 s.a):=cA 0;have hs1:w1.cell? ⟨w.heap.size,1,none⟩=some (.int .u32 s.b):=cA 1;have hs2:w1.cell? ⟨w.heap.size,2,none⟩=some (.int .u32 s.c):=cA 2;have hs3:w1.cell? ⟨w.heap.size,3,none⟩=some (.int .u32 s.d):=cA 3;have HA:=Hid.out (p:=Hid _) (show Hid (Hid _) from hA);have HB:Hid _:=hB;clear cA hA hB hc;go_wp2_with (refine wpList_store_row rfl 272 _ _ rfl (w1.heap.size) _ rfl rfl 272 _ (heap_alloc_last _ _) (by rw[size50,Md.rowU_size]) (by simp[Md.rowU_size]) (Md.rowU_all _ _ _) ?_;rw[World.setRow_alloc_new])
 have i0:w.heap.size<w1.heap.size:=(by omega)
 (go_quiet (fail));go_wp2
 go_loopw [6,7,8,9,24] (fun ra rb rc rd i wr=>∃k:Nat,k≤64∧i=.int .i64 k∧ra=.int .u32 (Md.runTo bs k s).a∧rb=.int .u32 (Md.runTo bs k s).b∧rc=.int .u32 (Md.runTo bs k s).c∧rd=.int .u32 (Md.runTo bs k s).d∧wr.heap[w1.heap.size]?=some (.cells (Md.rowU 16 (Md.wd bs) 16) 272)∧Bl w1 wr) (fun _ _ _ _ i _=>64-(intOf i).toNat)
 case atStart=>exact⟨0,by omega,rfl,rfl,rfl,rfl,rfl,heap_alloc_last _ _,below_drewN ((Below.refl _ w1).alloc (Nat.le_refl _) _) _⟩
 case round =>
  obtain⟨k,hk,rfl,rfl,rfl,rfl,rfl,hW,hbw⟩:=hrel;by_cases hlt:k<64
  ·have hT:Tabs wr:=HT.out.below (B:=w.heap.size) (hbel.trans (hbw.mono (by omega))) (by omega);have t0:wr.cell? ⟨0,k,none⟩=some (.int .u32 (Md.tabAt k)):=hT.adds k hlt;have t1:wr.cell? ⟨1,k/16*4+k%4,none⟩=some (.int .i64 (Md.trnAt (k/16*4+k%4))):=hT.turn _ (by omega);have t2:wr.cell? ⟨w1.heap.size,Md.ksel k,none⟩=some (.int .u32 (Md.wd bs (Md.ksel k))):=(cell_of_row wr _ _ _ _ _ hW).trans (by rw[Md.rowU_get _ _ _ _ (Md.ksel_lt k)];simp[Md.ksel_lt k]);have hr:=Md.trnAt_range (k/16*4+k%4) (by omega);have hr0:=hr.1;have hr1:=hr.2;have hks:((Md.ksel k:Nat):Int)<16:=(by have:=Md.ksel_lt k;omega)
   have HX:Hid (Md.runTo bs (k+1) s=⟨(Md.runTo bs k s).d,((Md.runTo bs k s).b+Md.rotl (((Md.runTo bs k s).a+Md.fsel k (Md.runTo bs k s).b (Md.runTo bs k s).c (Md.runTo bs k s).d+Md.tabAt k+Md.wd bs (Md.ksel k))%4294967296) (Md.trnAt (k/16*4+k%4)))%4294967296,(Md.runTo bs k s).b,(Md.runTo bs k s).c⟩):=rfl;have HW:Hid _:=hW;have HBW:Hid _:=hbw;have HBL:Hid _:=hbel;clear hr hT hW hbw hbel hs0 hs1 hs2 hs3;generalize Md.runTo bs k s=q at *;(go_wp2_with fail);refine(choose_any k _ _ _ _ hlt).mono ?_;rintro e w2 ⟨rfl,rfl⟩;obtain⟨r,hr⟩:∃r,r=k/16:=⟨_,rfl⟩
   obtain⟨j,hj⟩:∃j,j=k%4:=⟨_,rfl⟩
   have k1:IntKind.i64.wrap ((k:Int)/16)=(r:Int):=(by rw[w64id _ (by omega) (by omega)];omega)
   have k2:Int.tmod (k:Int) 4=(j:Int):=(by rw[Int.tmod_eq_emod_of_nonneg (by omega)];omega)
   have k3:r<4:=(by omega)
   have k4:j<4:=(by omega)
   have k5:(r:Int)<4:=(by omega)
   have k6:(j:Int)<4:=(by omega)
   rw[←hr,←hj] at t1 hr0 hr1 HX;have HR:Hid (r=k/16):=hr;have HJ:Hid (j=k%4):=hj;clear hr hj;(go_wp2_with fail);go_quiet ((go_at_call 179;refine Calls.quiet_of_same (rot_any _ _ _ (by assumption) (by assumption))))
   go_wp2
   refine⟨⟨k+1,by omega,by go_num,?_⟩,by simp[intOf];omega⟩;rw[HX.out];exact⟨rfl,rfl,rfl,rfl,HW.out,below_drewN HBW.out _⟩
  ·obtain rfl:k=64:=by omega
   have hbl:w.heap.size<w1.heap.size:=(by omega)
   have gA:wr.heap[w.heap.size]?=_:=(hbw.block _ hbl).trans HA.out;have gB:wr.heap[w.heap.size+1]?=_:=(hbw.block _ (by omega)).trans HB.out;have cA:=fun j=>cell_of_row wr _ j _ _ _ gA;have ws0:wr.cell? ⟨w.heap.size,0,none⟩=some (.int .u32 s.a):=cA 0;have ws1:wr.cell? ⟨w.heap.size,1,none⟩=some (.int .u32 s.b):=cA 1;have ws2:wr.cell? ⟨w.heap.size,2,none⟩=some (.int .u32 s.c):=cA 2;have ws3:wr.cell? ⟨w.heap.size,3,none⟩=some (.int .u32 s.d):=cA 3;have HX:Hid (Md.mixS s bs=⟨(s.a+(Md.runTo bs 64 s).a)%4294967296,(s.b+(Md.runTo bs 64 s).b)%4294967296,(s.c+(Md.runTo bs 64 s).c)%4294967296,(s.d+(Md.runTo bs 64 s).d)%4294967296⟩):=rfl;have HBW:Hid _:=hbw;have HBL:Hid _:=hbel;have HGB:Hid _:=gB;clear cA gA hW hbw hbel hs0 hs1 hs2 hs3 gB;generalize Md.runTo bs 64 s=q at *;go_wp2_with (refine wpList_store_row rfl 170 _ _ rfl (w.heap.size+1) #[.int .u32 ((s.a+q.a)%4294967296),.int .u32 ((s.b+q.b)%4294967296),.int .u32 ((s.c+q.c)%4294967296),.int .u32 ((s.d+q.d)%4294967296)] rfl rfl 170 _ HGB.out (by rw[size34];rfl) (by rfl) (Md.all4 _ _ _ _) ?_)
   rw[HX.out];exact bodyPost_ret (v:=.agg #[.int .u32 ((s.a+q.a)%4294967296),.int .u32 ((s.b+q.b)%4294967296),.int .u32 ((s.c+q.c)%4294967296),.int .u32 ((s.d+q.d)%4294967296)]) (results_cell_row (p:=4) (ty:=170) rfl _ _ (w.heap.size+1) 170 _ (0,0) _ rfl (setRow_heap _ _ _ _ _ _ HGB.out) Tryz.underlying170 rfl (by rw[size34];rfl)) rfl ⟨rfl,below_setRow (HBL.out.trans (HBW.out.mono (by omega))) (by omega) _⟩
theorem mix_out (s:Md.St) (b off cap:Nat) (bs:Nat→Int) (w:World) (ht:Tabs w) (hb:b<w.heap.size) (hcap:64≤cap) (hc:∀i,i<64→w.cell? ⟨b,off+i,none⟩=some (.int .u8 (bs i))) :
  Calls Tryz.prog 124 #[.agg #[.int .u32 s.a,.int .u32 s.b,.int .u32 s.c,.int .u32 s.d],.slice (some ⟨b,off,none⟩) 64 cap] w fun e w'=>e=.returned (.agg #[.int .u32 (Md.mixS s bs).a,.int .u32 (Md.mixS s bs).b,.int .u32 (Md.mixS s bs).c,.int .u32 (Md.mixS s bs).d])∧Bl w w' :=
 mix_any s b off cap bs w ht hb hcap hc
theorem set4 {w:World}{g:Nat}{q s':Md.St}(hA:w.heap[g]?=some (.cells (Md.stA q) 170)) :
  ((((w.setCell ⟨g,0,none⟩ (.int .u32 s'.a)).setCell ⟨g,1,none⟩ (.int .u32 s'.b)).setCell ⟨g,2,none⟩ (.int .u32 s'.c)).setCell ⟨g,3,none⟩ (.int .u32 s'.d)).heap[g]?=some (.cells (Md.stA s') 170) ∧
  (∀k,k≠g→((((w.setCell ⟨g,0,none⟩ (.int .u32 s'.a)).setCell ⟨g,1,none⟩ (.int .u32 s'.b)).setCell ⟨g,2,none⟩ (.int .u32 s'.c)).setCell ⟨g,3,none⟩ (.int .u32 s'.d)).heap[k]?=w.heap[k]?) ∧
  (∀B a,B≤g→Below B a w→Below B a ((((w.setCell ⟨g,0,none⟩ (.int .u32 s'.a)).setCell ⟨g,1,none⟩ (.int .u32 s'.b)).setCell ⟨g,2,none⟩ (.int .u32 s'.c)).setCell ⟨g,3,none⟩ (.int .u32 s'.d))):=by
 refine⟨?_,fun k hk => ?_,fun B a hB hb=>(((hb.setCell hB _).setCell hB _).setCell hB _).setCell hB _⟩
 ·rw[heap_setCell_same _ _ _ _ _ _ (heap_setCell_same _ _ _ _ _ _ (heap_setCell_same _ _ _ _ _ _ (heap_setCell_same _ _ _ _ _ _ hA)))];rfl
 ·rw[heap_setCell_other _ _ _ _ hk,heap_setCell_other _ _ _ _ hk,heap_setCell_other _ _ _ _ hk,heap_setCell_other _ _ _ _ hk]
theorem four {wr w2:World}{g:Nat}{q:Md.St}(hb:Below wr.drew.heap.size wr.drew w2) (hA:wr.heap[g]?=some (.cells (Md.stA q) 170)) :
  w2.cell? ⟨g,0,none⟩=some (.int .u32 q.a)∧w2.cell? ⟨g,1,none⟩=some (.int .u32 q.b)∧w2.cell? ⟨g,2,none⟩=some (.int .u32 q.c)∧w2.cell? ⟨g,3,none⟩=some (.int .u32 q.d) ∧
  w2.frozen? ⟨g,0,none⟩=false∧w2.frozen? ⟨g,1,none⟩=false∧w2.frozen? ⟨g,2,none⟩=false∧w2.frozen? ⟨g,3,none⟩=false:=by
 have hlt:g<wr.heap.size:=block_lt_of_cell (cell_of_row wr g 0 _ _ _ hA);have h2:w2.heap[g]?=some (.cells (Md.stA q) 170):=(hb.block g hlt).trans hA;exact⟨cell_of_row w2 g 0 _ _ _ h2,cell_of_row w2 g 1 _ _ _ h2,cell_of_row w2 g 2 _ _ _ h2,cell_of_row w2 g 3 _ _ _ h2,frozen_of_row _ _ _ _ _ h2,frozen_of_row _ _ _ _ _ h2,frozen_of_row _ _ _ _ _ h2,frozen_of_row _ _ _ _ _ h2⟩
theorem mixAll_any (s:Md.St) (ao:Option Addr) (m cap:Nat) (bs:Nat→Int) (w:World) (ht:Tabs w) (hr:ByteRow w ao (64*m) cap bs) (hm:64*m≤140737488355328) :
  Calls Tryz.prog 121 #[.agg (Md.stA s),.slice ao (64*m) cap] w fun e w'=>e=.returned (.agg (Md.stA (Md.mixN s bs m)))∧Bl w w':=by
 have HT:Hid (Tabs w):=ht;have HR:Hid _:=hr;have hbt:=ht.lt;clear ht hr;unfold Md.stA;go_enter Tryz.func121,Tryz.ntmps121;go_wp2
 go_loopw [5] (fun i wr=>∃k:Nat,k≤m∧i=.int .i64 (64*k)∧wr.heap[w.heap.size]?=some (.cells (Md.stA (Md.mixN s bs k)) 170)∧wr.heap[w.heap.size+1]?=some (.cells (Md.stA ⟨0,0,0,0⟩) 170)∧Bl w wr) (fun i _=>64*m-(intOf i).toNat)
 case atStart=>exact⟨0,by omega,rfl,heap_alloc2_old w _ _,heap_alloc2_new w _ _,((Below.refl _ _).alloc (Nat.le_refl _) _).alloc (by simp) _⟩
 case round =>
  obtain⟨k,hk,rfl,hA,hB,hbel⟩:=hrel;by_cases hlt:k<m
  ·obtain⟨hcap,hrow⟩:=HR.out;obtain⟨b,off,rfl,hb,hc⟩:=hrow (by omega);have HA:Hid _:=hA;have HB:Hid _:=hB;have HBL:Hid _:=hbel;have HC:Hid _:=hc;have hs:=hbel.size;have hsz:=block_lt_of_cell (cell_of_row wr _ 0 _ _ _ hB);have a0:wr.cell? ⟨w.heap.size,0,none⟩=some (.int .u32 (Md.mixN s bs k).a):=cell_of_row wr _ 0 _ _ _ hA;have a1:wr.cell? ⟨w.heap.size,1,none⟩=some (.int .u32 (Md.mixN s bs k).b):=cell_of_row wr _ 1 _ _ _ hA;have a2:wr.cell? ⟨w.heap.size,2,none⟩=some (.int .u32 (Md.mixN s bs k).c):=cell_of_row wr _ 2 _ _ _ hA;have a3:wr.cell? ⟨w.heap.size,3,none⟩=some (.int .u32 (Md.mixN s bs k).d):=cell_of_row wr _ 3 _ _ _ hA;have hw:IntKind.i64.wrap (64*(k:Int)+64)=((64*k+64:Nat):Int):=(by simp[IntKind.wrap,IntKind.bits,IntKind.signed];omega)
   have h64:(64*k+64:Nat)≤cap:=(by omega)
   have h65:((64*k+64:Nat):Int)≤(cap:Int):=(by omega)
   have HT':Hid (Tabs wr.drew):=HT.out.below hbel.drew (by omega);have HB':Hid (b<wr.drew.heap.size):=(show b<wr.heap.size from by omega)
   have HC':Hid (∀i,i<64→wr.drew.cell? ⟨b,off+64*k+i,none⟩=some (.int .u8 (bs (64*k+i)))):=fun i hi=>((hbel.drew.cell (by exact hb)).trans (by rw[Nat.add_assoc];exact hc (64*k+i) (by omega)))
   clear hA hB hbel hc hrow HR HC HT;have HQ:Hid (Md.mixN s bs (k+1)=Md.mixS (Md.mixN s bs k) fun i=>bs (64*k+i)):=rfl;generalize Md.mixN s bs k=q at *;(go_wp2_with fail);go_region_with (go_at_call 124;refine(mix_out q b (off+64*k) (cap-64*k) (fun i=>bs (64*k+i)) _ HT'.out HB'.out (by omega) HC'.out).mono ?_;rintro e w2 ⟨rfl,hb2⟩;have c2:=four hb2 HA.out;obtain⟨c20,c21,c22,c23,f20,f21,f22,f23⟩:=c2;have HB2:Hid _:=hb2;clear hb2)
   all_goals go_wp2
   all_goals
    have hset:=set4 (s':=Md.mixS q fun i=>bs (64*k+i)) ((HB2.out.block w.heap.size (show _<wr.heap.size from by omega)).trans HA.out);exact⟨⟨k+1,by omega,by go_num,by rw[HQ.out];exact hset.1,(hset.2.1 _ (by omega)).trans ((HB2.out.block (w.heap.size+1) (show _<wr.heap.size from by omega)).trans HB.out),hset.2.2 _ _ (Nat.le_refl _) (HBL.out.drew.trans (HB2.out.mono (show _≤wr.heap.size from by omega)))⟩,by simp[intOf];omega⟩
  ·obtain rfl:k=m:=by omega
   clear HR HT;go_wp2_with (first | refine wpList_load_row rfl 170 _ rfl (w.heap.size) rfl 170 _ (0,0) _ hA Tryz.underlying170 rfl (by rw[size34,Md.stA_size]) ?_ | refine wpList_store_row rfl 170 _ _ rfl (w.heap.size+1) (Md.stA (Md.mixN s bs k)) rfl rfl 170 _ hB (by rw[size34,Md.stA_size]) (by rfl) (Md.stA_all _) ?_)
   exact bodyPost_ret (v:=.agg (Md.stA (Md.mixN s bs k))) (results_cell_row (p:=4) (ty:=170) rfl _ _ (w.heap.size+1) 170 _ (0,0) _ rfl (setRow_heap _ _ _ _ _ _ hB) Tryz.underlying170 rfl (by rw[size34,Md.stA_size])) rfl ⟨rfl,below_setRow hbel (by omega) _⟩
end
section
open Go.ChangeShapes Go.WideShapes Go.ChangeAt Go.RowKit
theorem own:ownKnob Tryz.prog.godebug=none:=by kernel_rfl
theorem laidOut:laidOutB Tryz.prog=true:=by kernel_rfl
theorem wf_u64 {n:Int}(h:(Lit.int .u64 n).wf=true):0≤n∧n<18446744073709551616:=by
 simp only[Lit.wf,Bool.and_eq_true,decide_eq_true_eq] at h;have h1:IntKind.u64.min=0:=(by decide)
 have h2:IntKind.u64.max=18446744073709551615:=(by decide)
 rw[h1,h2] at h;omega
theorem gTurns:Tryz.prog.globalNamed "hedgerow/md5.turns" = some 1:=by kernel_rfl
theorem gTurnsType:(Tryz.prog.globals[1]?).map (·.type)=some 279:=by kernel_rfl
theorem gAdds:Tryz.prog.globalNamed "hedgerow/md5.addends" = some 0:=by kernel_rfl
theorem gAddsType:(Tryz.prog.globals[0]?).map (·.type)=some 274:=by kernel_rfl
theorem cells52:Tryz.prog.cellsOf 274=64:=by kernel_rfl
theorem cells55:Tryz.prog.cellsOf 278=4:=by kernel_rfl
theorem cells32:Tryz.prog.cellsOf 168=1:=by kernel_rfl
theorem cells3:Tryz.prog.cellsOf 3=1:=by kernel_rfl
theorem tabs_of {W:World}(h:laidMetH Tryz.prog [("hedgerow/md5.turns",Rows.laid_hedgerow_md5_turns),("hedgerow/md5.addends",Rows.laid_hedgerow_md5_addends)] W):Tabs W:=by
 have h':laidMet Tryz.prog [("hedgerow/md5.turns",Rows.laid_hedgerow_md5_turns),("hedgerow/md5.addends",Rows.laid_hedgerow_md5_addends)] W:=h;refine⟨fun i hi => ?_,fun i hi => ?_⟩
 ·have ht:laidMet Tryz.prog [("hedgerow/md5.addends",Lib.tabData .u32 Md.tab)] W:=laidMet.tail h';have:=Lib.tabIs_of_head (rest:=[]) gAdds gAddsType Tryz.underlying274 Tryz.underlying168 cells32 cells52 ht;exact this.cell gAdds i hi
 ·obtain⟨ps,⟨g',t',cs,fuel,p,q,hg',ht',hvar,hd,_,_⟩,_⟩:=h';obtain rfl:=Option.some.inj (gTurns.symm.trans hg');obtain rfl:=Option.some.inj (gTurnsType.symm.trans ht');obtain⟨xs,m,rfl,hx,hl,hxl,hall⟩:=DataW.trod_array Tryz.underlying279 hd;have hx1:xs.map (·.1)=[Lib.tabData .i64 [7,12,17,22],Lib.tabData .i64 [5,9,14,20],Lib.tabData .i64 [4,11,16,23],Lib.tabData .i64 [6,10,15,21]]:=by
   have:=congrArg Prod.fst hx;simp only[Rows.laid_hedgerow_md5_turns] at this;exact(DataW.agg.inj this).symm
  have row:∀r zs,r<4→(xs.map (·.1))[r]?=some (Lib.tabData .i64 zs)→(cs.toList.drop (r*4)).take 4=zs.map fun z=>Value.int .i64 z:=by
   intro r zs hr hz;have h1:=hall r hr;rw[cells55] at h1;simp only[List.getElem?_map,Option.map_eq_some_iff] at hz;obtain⟨y,hy,hy1⟩:=hz;rw[hy] at h1;obtain⟨y1,y2⟩:=y;simp only at hy1;subst hy1;exact Lib.cells_of_tab Tryz.underlying278 Tryz.underlying3 cells3 cells55 h1
  have cell:=World.var?_cell gTurns hvar i;rw[cell];have hget:∀r j,j<4→cs[r*4+j]?=((cs.toList.drop (r*4)).take 4)[j]?:=by
   intro r j hj;rw[List.getElem?_take_of_lt hj,List.getElem?_drop,Array.getElem?_toList]
  rcases(show(∃j,j<4∧i=0*4+j)∨(∃j,j<4∧i=1*4+j)∨(∃j,j<4∧i=2*4+j)∨(∃j,j<4∧i=3*4+j) from by
   by_cases h1:i<4
   ·exact Or.inl ⟨i,h1,by omega⟩
   ·by_cases h2:i<8
    ·exact Or.inr (Or.inl ⟨i-4,by omega,by omega⟩)
    ·by_cases h3:i<12
     ·exact Or.inr (Or.inr (Or.inl ⟨i-8,by omega,by omega⟩))
     ·exact Or.inr (Or.inr (Or.inr ⟨i-12,by omega,by omega⟩))) with⟨j,hj,rfl⟩ | ⟨j,hj,rfl⟩ | ⟨j,hj,rfl⟩ | ⟨j,hj,rfl⟩
  ·rw[hget 0 j hj,row 0 [7,12,17,22] (by omega) (by rw[hx1];rfl)];rcases(show j=0∨j=1∨j=2∨j=3 by omega) with rfl | rfl | rfl | rfl<;>rfl
  ·rw[hget 1 j hj,row 1 [5,9,14,20] (by omega) (by rw[hx1];rfl)];rcases(show j=0∨j=1∨j=2∨j=3 by omega) with rfl | rfl | rfl | rfl<;>rfl
  ·rw[hget 2 j hj,row 2 [4,11,16,23] (by omega) (by rw[hx1];rfl)];rcases(show j=0∨j=1∨j=2∨j=3 by omega) with rfl | rfl | rfl | rfl<;>rfl
  ·rw[hget 3 j hj,row 3 [6,10,15,21] (by omega) (by rw[hx1];rfl)];rcases(show j=0∨j=1∨j=2∨j=3 by omega) with rfl | rfl | rfl | rfl<;>rfl
def rowPut (cs:Array Value):Obj→Obj
 | .cells _ t frozen=>.cells cs t frozen
 | o=>o
def laidW (w:World):World :=
 { w with heap:=(w.heap.modify 0 (rowPut (Md.tab.map (Value.int .u32)).toArray)).modify 1 (rowPut (Md.trn.map (Value.int .i64)).toArray) }
end
end Go.Proofs.YtflghpnpjmodaaaGreatDoor
