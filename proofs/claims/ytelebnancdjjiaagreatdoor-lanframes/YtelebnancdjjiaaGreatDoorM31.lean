/- What the rows of package lan's laws ask: books that came in -/
import Derived.Test.YtelebnancdjjiaaGreatDoorM30
import Derived.Test.YtelebnancdjjiaaGreatDoorM24
import Derived.Test.YtelebnancdjjiaaGreatDoorM05
import Derived.Test.YtelebnancdjjiaaGreatDoorM25
import Derived.ArgAppend
import Derived.Lib.LazyBuf
import Derived.Deep.Upon
import Derived.Deep.Slices
import Derived.SizedLaws
set_option maxRecDepth 100000
set_option maxHeartbeats 6000000
namespace Go.Proofs.YtelebnancdjjiaaGreatDoor
section
open Go.RowKit
open Bk (E at')
open Rl (G gat F R O)
structure AV where
 i:Nat
 v:OV
def AV.p (x:AV):Nat×O:=(x.i,x.v.o)
def av0:AV:=⟨0,ov0⟩
def aat (l:List AV) (i:Nat):AV:=l.getD i av0
theorem aat_left (l m:List AV) (i:Nat) (h:i<l.length):aat (l++m) i=aat l i:=by simp[aat,h,List.getElem?_append_left]
theorem aat_last (l:List AV) (x:AV):aat (l++[x]) l.length=x:=by simp[aat]
def aA (f:F) (x:AV):Array Value:=#[.int .i64 (x.i:Int),.int .i64 x.v.o.port,.int .u64 f.dst,.int .u64 f.src,.bool x.v.o.tagged,.int .i64 x.v.o.prio,.bool x.v.o.drop,.int .i64 x.v.o.vid,.int .i64 f.type,.slice x.v.da f.n x.v.dc]
def sA (f:F) (x:AV):Array Value:=#[.int .i64 (x.i:Int),.int .u64 f.dst,.int .u64 f.src,.bool x.v.o.tagged,.int .i64 x.v.o.prio,.bool x.v.o.drop,.int .i64 x.v.o.vid,.int .i64 f.type,.slice x.v.da f.n x.v.dc]
def sC (f:F) (x:AV) (j:Nat):Value:=(sA f x).getD j (.int .i64 0)
theorem sC_one (f:F) (x:AV) (j:Nat):(sC f x j).oneCell'=true:=by
 unfold sC sA;by_cases h:j<9
 ·rcases(by omega:j=0∨j=1∨j=2∨j=3∨j=4∨j=5∨j=6∨j=7∨j=8) with e | e | e | e | e | e | e | e | e<;>subst e<;>rfl
 ·simp[h];rfl
theorem aA_one (f:F) (x:AV):∀u∈(aA f x).toList,u.oneCell'=true:=by
 intro u hu;simp only[aA,List.mem_cons,List.not_mem_nil,or_false] at hu;rcases hu with rfl | rfl | rfl | rfl | rfl | rfl | rfl | rfl | rfl | rfl<;>rfl
theorem infoAr:(Tryz.prog.info? 77).map (fun i=>(i.zero,i.size,i.bytes))=some (some (.agg #[.int .i64 0,.int .i64 0,.int .u64 0,.int .u64 0,.bool false,.int .i64 0,.bool false,.int .i64 0,.int .i64 0,.slice none 0 0]),10,96):=by kernel_rfl
theorem infoSe:(Tryz.prog.info? 54).map (fun i=>(i.zero,i.size,i.bytes))=some (some (.agg #[.int .i64 0,.int .u64 0,.int .u64 0,.bool false,.int .i64 0,.bool false,.int .i64 0,.int .i64 0,.slice none 0 0]),9,88):=by kernel_rfl
def Dt (W:World) (base:Nat) (f:F) (x:OV):Prop:=(x.da=f.ao∧x.dc=f.cap)∨W.ownsRow base 5 1 (.slice x.da f.n x.dc) f.n (bytesL f.n f.bs)
def QAt (W:World) (base g off cap:Nat) (f:F) (l:List AV):Prop :=
 base≤g∧l.length≤cap∧∃N c,W.rowIs g 77 N c∧off+cap*10≤N∧∀i,i<l.length→∀j,j<10→(aA f (aat l i))[j]?=some (c (off+i*10+j))
theorem QAt.other {W W':World}{base g off cap:Nat}{f:F}{l:List AV}(h:QAt W base g off cap f l) (e:W'.heap[g]?=W.heap[g]?):QAt W' base g off cap f l:=by
 obtain⟨h1,h2,N,c,⟨cs,h3,h4⟩,r⟩:=h;exact⟨h1,h2,N,c,⟨cs,e.trans h3,h4⟩,r⟩
theorem QAt.lt {W:World}{base g off cap:Nat}{f:F}{l:List AV}(h:QAt W base g off cap f l):g<W.heap.size:=by
 obtain⟨h1,h2,N,c,⟨cs,h3,h4⟩,r⟩:=h;exact(gSm.1 h3).1
theorem QAt.type {W:World}{base g off cap:Nat}{f:F}{l:List AV}(h:QAt W base g off cap f l):∃cs,W.heap[g]?=some (.cells cs 77):=by
 obtain⟨h1,h2,N,c,⟨cs,h3,h4⟩,r⟩:=h;exact⟨cs,h3⟩
theorem QAt.below {W W':World}{base g off cap:Nat}{f:F}{l:List AV}(h:QAt W base g off cap f l) (hb:Bl W W'):QAt W' base g off cap f l:=h.other (hb.block _ h.lt)
theorem QAt.one {W:World}{base g:Nat}{f:F}{x:AV}(h:W.heap[g]?=some (.cells (aA f x) 77)) (hb:base≤g):QAt W base g 0 1 f [x]:=by
 refine⟨hb,by simp,10,fun j=>(aA f x).getD j (.int .i64 0),⟨_,h,rfl,fun j hj => ?_⟩,by omega,fun i hi j hj => ?_⟩
 ·have hs:j<(aA f x).size:=hj;simp[hs]
 ·obtain rfl:i=0:=by simp at hi;omega
  have hs:j<(aA f x).size:=hj;show(aA f x)[j]?=some ((aA f x).getD (0+0*10+j) (.int .i64 0));rw[show 0+0*10+j=j by omega];simp[hs]
theorem QAt.cell {W:World}{base g off cap:Nat}{f:F}{l:List AV}(h:QAt W base g off cap f l) {i:Nat}(hi:i<l.length) {j:Nat}(hj:j<10):W.cell? ⟨g,off+i*10+j,none⟩=(aA f (aat l i))[j]?:=by
 obtain⟨h1,h2,N,c,⟨cs,h3,h4,h5⟩,h6,h7⟩:=h;rw[h7 i hi j hj,cell_of_row W g _ _ _ _ h3];have:i*10+10≤cap*10:=by omega
 exact h5 _ (by omega)
theorem QAt.tail {W:World}{base g off cap:Nat}{f:F}{x:AV}{l:List AV}(h:QAt W base g off cap f (x :: l)):QAt W base g (off+10) (cap-1) f l:=by
 obtain⟨h1,h2,N,c,h3,h4,h5⟩:=h;simp only[List.length_cons] at h2;refine⟨h1,by omega,N,c,h3,by omega,fun i hi j hj => ?_⟩;have:=h5 (i+1) (by simp;omega) j hj;rw[show off+10+i*10+j=off+(i+1)*10+j by omega];exact this
abbrev runAppQ (v x:Value) (w:World) (v':Value) (w':World):Prop:=(Builtin.append_ #[121,121] 121 #[v,x]).run Tryz.prog w=.ok v' w'
abbrev runAppS (v x:Value) (w:World) (v':Value) (w':World):Prop:=(Builtin.append_ #[40,40] 40 #[v,x]).run Tryz.prog w=.ok v' w'
theorem one_ar {W:World}{g:Nat}{f:F}{x:AV}(h:W.heap[g]?=some (.cells (aA f x) 77)) (j:Nat) (u:Value) (hj:(aA f x).toList[j]?=some u):W.cell? (Addr.add ⟨g,0,none⟩ j)=some u:=by
 rw[Addr.add_lit,Nat.zero_add,cell_of_row W g _ _ _ _ h];rw[Array.getElem?_toList] at hj;exact hj
theorem more_q (base g off cap:Nat) (W:World) (f:F) (l:List AV) (x:AV) (h:QAt W base g off cap f l) (hl:l.length≤100000) (hbase:base≤W.heap.size) :
  ∃g' off' cap' W2,runAppQ (.slice (some ⟨g,off,none⟩) l.length cap) (.slice (some ⟨W.heap.size,0,none⟩) 1 1) (W.alloc (.cells (aA f x) 77)) (.slice (some ⟨g',off',none⟩) (l.length+1) cap') W2∧QAt W2 base g' off' cap' f (l++[x])∧(g'=g∨W.heap.size<g')∧Below base W W2∧∀q,q≠g→q<W.heap.size→W2.heap[q]?=W.heap[q]?:=by
 obtain⟨i0,hi,hz0,hz1,hz2⟩:=info_parts infoAr;have hb1:=bA1 W (.cells (aA f x) 77);have hq:=h.below hb1;have hlast:=heap_alloc_last W (.cells (aA f x) 77);have hlt:=h.lt;obtain⟨h1,h2,N,c,hrow,h4,h5⟩:=hq;have hrow':=hrow;obtain⟨cs,hcs,hsz,hcc⟩:=hrow';by_cases hroom:l.length+1≤cap
 ·have hrun:=run_append_room_cells (P:=Tryz.prog) (W.alloc (.cells (aA f x) 77)) 121 121 77 i0 Tryz.underlying121 hi g off l.length cap ⟨W.heap.size,0,none⟩ 1 1 (aA f x).toList (by rw[hz1];rfl) (one_ar hlast) (aA_one f x) hroom (fun j hj=>by
   rw[cell_of_row _ g _ _ _ _ hcs,hz1,hcc _ (by have:j<10:=hj;omega)];rfl) (fun j hj=>frozen_of_row _ _ _ _ _ hcs)
  rw[hz1] at hrun;refine⟨g,off,cap,_,hrun,⟨h1,by simp;omega,N,_,rowIs_setCells _ _ _ _ hrow,h4,fun i hi j hj => ?_⟩,Or.inl rfl,?_,fun q hne hlt => ?_⟩
  ·simp only[List.length_append,List.length_cons,List.length_nil] at hi;show _=some (if _ then _ else _);rw[show(aA f x).toList.length=10 from rfl];by_cases e:i<l.length
   ·rw[aat_left l _ i e,h5 i e j hj,if_neg (by omega)]
   ·obtain rfl:i=l.length:=by omega
    rw[aat_last,if_pos (by omega),show off+l.length*10+j-(off+l.length*10)=j by omega];have hs:j<(aA f x).size:=hj;simp[hs]
  ·exact(hb1.mono hbase).trans (below_setCells h1 _ _ _ (Below.refl _ _))
  ·rw[World.heap_setCells_other _ _ _ _ (by simp;omega) hne];exact hb1.block q hlt
 ·obtain⟨olds,eo⟩:∃olds,olds=cellsL l.length 10 (fun i j=>c (off+i*10+j)):=⟨_,rfl⟩
  obtain⟨v',w',hrun,hown,hg⟩:=run_append_arg_grows (P:=Tryz.prog) (W.alloc (.cells (aA f x) 77)) 121 121 77 i0 _ 10 96 Tryz.underlying121 hi hz0 hz1 hz2 rfl (by omega) ⟨g,off,none⟩ l.length cap olds (by rw[eo,cellsL_length]) (fun j u hj=>by
   rw[Addr.add_lit,cell_of_row _ g _ _ _ _ hcs];rw[eo] at hj;have hjl:j<l.length*10:=(by have:=(List.getElem?_eq_some_iff.1 hj).1;rwa [cellsL_length] at this)
   rw[hcc _ (by omega)];simp[cellsL,hjl] at hj;rw[←hj,show off+j/10*10+j%10=off+j by omega]) ⟨W.heap.size,0,none⟩ 1 1 (aA f x).toList rfl (one_ar hlast) (by omega) (by unfold maxLen;omega) (by omega)
  obtain⟨ho1,ho2⟩:=hown;rcases ho2 with⟨rfl,e0⟩ | ⟨g',cap',cur,rfl,hg',hh,hnc,hm,hs,ht⟩
  ·omega
  ·have hg2:W.heap.size+1≤g':=(by simpa using hg')
   refine⟨g',0,cap',w',hrun,⟨by omega,by simp;omega,cur.size,fun j=>cur.getD j (.int .i64 0),⟨cur,hh,rfl,fun i hi=>by simp[hi]⟩,by omega,fun i hi j hj => ?_⟩,Or.inr (by omega),?_,fun q hne hlt => ?_⟩
   ·simp only[List.length_append,List.length_cons,List.length_nil] at hi;have hk:i*10+j<(l.length+1)*10:=(by omega)
    have h3:(cur.toList.take ((l.length+1)*10))[i*10+j]?=(olds++(aA f x).toList)[i*10+j]?:=(by rw[ht])
    rw[List.getElem?_take_of_lt hk,Array.getElem?_toList] at h3;have hcz:i*10+j<cur.size:=(by omega)
    have h6:some (cur.getD (0+i*10+j) (.int .i64 0))=cur[i*10+j]?:=by
     rw[Nat.zero_add];simp[hcz]
    show _=some (cur.getD (0+i*10+j) (.int .i64 0));rw[h6,h3];have hol:olds.length=l.length*10:=(by rw[eo,cellsL_length])
    by_cases e:i<l.length
    ·rw[List.getElem?_append_left (by omega),aat_left l _ i e,h5 i e j hj,eo];have:i*10+j<l.length*10:=by omega
     simp[cellsL,this];rw[show(i*10+j)/10=i by omega,Nat.mod_eq_of_lt hj]
    ·obtain rfl:i=l.length:=by omega
     rw[List.getElem?_append_right (by omega),aat_last,hol,show l.length*10+j-l.length*10=j by omega,Array.getElem?_toList]
   ·exact(hb1.mono hbase).grown hg (by simp;omega) (fun k hk=>by cases hk)
   ·rw[hg.block q (by simp;omega) (by simp)];exact hb1.block q hlt
theorem one_seen {W:World}{g:Nat}{f:F}{x:AV}(h:W.heap[g]?=some (.cells (sA f x) 54)):CRow W (some ⟨g,0,none⟩) 1 1 9 (fun _=>sC f x):=by
 refine⟨Nat.le_refl _,fun _=>⟨g,0,rfl,(gSm.1 h).1,fun i hi j hj => ?_⟩⟩;obtain rfl:i=0:=by omega
 rw[show 0+0*9+j=j by omega,cell_of_row W g j _ _ _ h];have hs:j<(sA f x).size:=hj;simp[sC,hs]
theorem more_s (base:Nat) (W:World) (v:Value) (f:F) (l:List AV) (x:AV) (ho:W.ownsRow base 54 9 v l.length (cellsL l.length 9 (fun i=>sC f (aat l i)))) (hl:l.length≤100000) (hbase:base≤W.heap.size) :
  ∃a c W2,runAppS v (.slice (some ⟨W.heap.size,0,none⟩) 1 1) (W.alloc (.cells (sA f x) 54)) (.slice a (l.length+1) c) W2∧W2.ownsRow base 54 9 (.slice a (l.length+1) c) (l++[x]).length (cellsL (l++[x]).length 9 (fun i=>sC f (aat (l++[x]) i)))∧Below base W W2∧(∀(q:Nat) (cur:Array Value) (ty:TypeId),W.heap[q]?=some (Obj.cells cur ty (0,0))→ty≠54→W2.heap[q]?=some (Obj.cells cur ty (0,0))):=by
 have hb1:=bA1 W (.cells (sA f x) 54);have ho1:=ownsC_below ho hb1;obtain⟨a1,c1,w',r,o,b,q⟩:=append_c (W.alloc (.cells (sA f x) 54)) 40 54 _ 9 88 Tryz.underlying40 infoSe rfl (by omega) base v l.length _ ho1 (some ⟨W.heap.size,0,none⟩) 1 1 (fun _=>sC f x) (fun _ _=>sC_one _ _ _) (one_seen (heap_alloc_last W _)) (fun h=>by cases h) (by unfold maxLen;omega) (by omega) (by have:=hb1.size;omega);have e:l.length+1=(l++[x]).length:=(by simp)
 refine⟨a1,c1,w',r,?_,(hb1.mono hbase).trans b,fun g cur ty hg hty => ?_⟩
 ·rw[←e];rw[cellsL_congr (l.length+1) 9 _ (fun i=>sC f (aat (l++[x]) i)) (fun i hi => ?_)] at o
  ·exact o
  ·unfold catC;by_cases q:i<l.length
   ·rw[if_pos q,aat_left l _ i q]
   ·obtain rfl:i=l.length:=by omega
    rw[if_neg q,aat_last]
 ·have hg1:=keep hg hb1;refine(q g (gSm.1 hg1).1 (fun hv => ?_)).trans hg1;obtain⟨c2,h2⟩:=owns_type ho1 hv.symm;rw[hg1] at h2;injection h2 with h2;injection h2 with _ h2;exact hty h2
end
section
open Go.RowKit
open Pl (Net)
open Bk (E at')
open Rl (G gat F R O)
def Ty (W W':World) (e:TypeId):Prop:=∀(q:Nat) (cur:Array Value),W.heap[q]?=some (Obj.cells cur e (0,0))→W'.heap[q]?=some (Obj.cells cur e (0,0))
theorem Ty.owns {W W':World}{base e k n:Nat}{v:Value}{xs:List Value}(t:Ty W W' e) (h:W.ownsRow base e k v n xs):W'.ownsRow base e k v n xs:=by
 obtain⟨h1,h2⟩:=h;refine⟨h1,?_⟩;rcases h2 with h2 | ⟨g,cap,cur,hv,hg,hh,r⟩
 ·exact Or.inl h2
 ·exact Or.inr ⟨g,cap,cur,hv,hg,t g cur hh,r⟩
theorem Ty.below {W W':World}(e:TypeId) (h:Bl W W'):Ty W W' e:=fun _ _ hq=>keep hq h
theorem Ty.but {W W':World}{g:Nat}{cs:Array Value}{ty:TypeId}{fr:Nat×Nat}(hg:W.heap[g]?=some (.cells cs ty fr)) (h:∀q,q≠g→q<W.heap.size→W'.heap[q]?=W.heap[q]?) (e:TypeId) (hne:e≠ty):Ty W W' e:=fun q cur hq=>by
 refine(h q (fun c => ?_) (gSm.1 hq).1).trans hq;subst c;rw[hg] at hq;injection hq with hq;injection hq with _ hq;exact hne hq.symm
theorem Ty.dt {W W':World}{base:Nat}{f:F}{x:OV}(t:Ty W W' 5) (h:Dt W base f x):Dt W' base f x:=by
 rcases h with h | h
 ·exact Or.inl h
 ·exact Or.inr (t.owns h)
structure BkO (W:World) (b0 g K:Nat) (bks:Nat→List E) (bo:Nat→Option Addr) (bc:Nat→Nat):Prop where
 row:W.heap[g]?=some (.cells (rowC K 1 (fun i _=>.slice (bo i) (bks i).length (bc i))) 67)
 each:∀i,i<K→OwnE W b0 (.slice (bo i) (bks i).length (bc i)) (bks i)∧(bks i).length≤9223372036854775807
theorem BkO.bk {W:World}{b0 g K:Nat}{bks:Nat→List E}{bo:Nat→Option Addr}{bc:Nat→Nat}(h:BkO W b0 g K bks bo bc):BkW W g K bks bo bc :=
 ⟨h.row,fun i hi=>by
  obtain⟨h1,h2⟩:=h.each i hi;obtain⟨a,c,e,h3,h4,_⟩:=h1.el;injection e with e1 _ e2;subst e1 e2;exact⟨h3,h4,h2⟩⟩
theorem BkO.ty {W W':World}{b0 g K:Nat}{bks:Nat→List E}{bo:Nat→Option Addr}{bc:Nat→Nat}(h:BkO W b0 g K bks bo bc) (t1:Ty W W' 67) (t2:Ty W W' 110):BkO W' b0 g K bks bo bc :=
 ⟨t1 _ _ h.row,fun i hi=>⟨t2.owns (h.each i hi).1,(h.each i hi).2⟩⟩
theorem BkO.put {W W':World}{b0 g K:Nat}{bks:Nat→List E}{bo:Nat→Option Addr}{bc:Nat→Nat}(h:BkO W b0 g K bks bo bc) {i:Nat}{a:Option Addr}{c:Nat}{l:List E}(hb:OwnE W' b0 (.slice a l.length c) l) (hg:W.grownBy W' (some g))
  (hk:BkW W' g K (fun j=>if j=i then l else bks j) (fun j=>if j=i then a else bo j) (fun j=>if j=i then c else bc j)):BkO W' b0 g K (fun j=>if j=i then l else bks j) (fun j=>if j=i then a else bo j) (fun j=>if j=i then c else bc j):=by
 refine⟨hk.row,fun j hj=>⟨?_,(hk.each j hj).2.2⟩⟩;by_cases e:j=i
 ·simp only[if_pos e];exact hb
 ·simp only[if_neg e];exact(Ty.but h.row (fun q hne hq=>hg.block q hq (fun c=>hne (by simpa using c))) _ (by decide)).owns (h.each j hj).1
structure CM (w W:World) (b0 K gk:Nat) (f:F) (bks:Nat→List E) (bo:Nat→Option Addr) (bc:Nat→Nat) (so:Option Addr) (sc:Nat) (ss:List AV) (g off cap:Nat) (ws:List AV):Prop where
 row:W.ownsRow w.heap.size 54 9 (.slice so ss.length sc) ss.length (cellsL ss.length 9 (fun i=>sC f (aat ss i)))
 q:QAt W w.heap.size g off cap f ws
 dS:∀x∈ss,Dt W w.heap.size f x.v
 dW:∀x∈ws,Dt W w.heap.size f x.v
 bk:BkO W b0 gk K bks bo bc
 grow:w.grownBy W (some gk)
section
variable {w W W':World}{b0 K gk:Nat}{f:F}{bks:Nat→List E}{bo:Nat→Option Addr}{bc:Nat→Nat}{so:Option Addr}{sc:Nat}{ss:List AV}{g off cap:Nat}{ws:List AV}
theorem grown_low (h:w.grownBy W (some gk)) (hb:Bl W W'):w.grownBy W' (some gk):=⟨hb.os.trans h.os,hb.tape.trans h.tape,hb.output.trans h.output,Nat.le_trans h.size hb.size,fun i hi hne=>(hb.block i (Nat.lt_of_lt_of_le hi h.size)).trans (h.block i hi hne)⟩
theorem grown_base (h:w.grownBy W (some gk)) (hb:Below w.heap.size W W'):w.grownBy W' (some gk):=⟨hb.os.trans h.os,hb.tape.trans h.tape,hb.output.trans h.output,Nat.le_trans h.size hb.size,fun i hi hne=>(hb.block i hi).trans (h.block i hi hne)⟩
theorem CM.below (h:CM w W b0 K gk f bks bo bc so sc ss g off cap ws) (hb:Bl W W'):CM w W' b0 K gk f bks bo bc so sc ss g off cap ws :=
 ⟨ownsC_below h.row hb,h.q.below hb,fun x hx=>(Ty.below _ hb).dt (h.dS x hx),fun x hx=>(Ty.below _ hb).dt (h.dW x hx),h.bk.ty (Ty.below _ hb) (Ty.below _ hb),grown_low h.grow hb⟩
theorem CM.tail {x:AV}(h:CM w W b0 K gk f bks bo bc so sc ss g off cap (x :: ws)):CM w W b0 K gk f bks bo bc so sc ss g (off+10) (cap-1) ws :=
 ⟨h.row,h.q.tail,h.dS,fun y hy=>h.dW y (List.mem_cons_of_mem _ hy),h.bk,h.grow⟩
theorem CM.tail1 {x:AV}{off1:Nat}(h:CM w W b0 K gk f bks bo bc so sc ss g off cap (x :: ws)) (h1:cap=1→off1=off) (h2:cap≠1→off1=off+10):CM w W b0 K gk f bks bo bc so sc ss g off1 (cap-1) ws:=by
 by_cases e:cap=1
 ·rw[h1 e];have ht:=h.tail;refine⟨ht.row,?_,ht.dS,ht.dW,ht.bk,ht.grow⟩;obtain⟨q1,q2,N,c,q3,q4,q5⟩:=h.q;simp only[List.length_cons] at q2;exact⟨q1,by omega,N,c,q3,by omega,fun i hi=>by omega⟩
 ·rw[h2 e];exact h.tail
theorem CM.book (h:CM w W b0 K gk f bks bo bc so sc ss g off cap ws) (hgk:gk<w.heap.size) {i:Nat}{a:Option Addr}{c:Nat}{l:List E}(hb:OwnE W' b0 (.slice a l.length c) l) (hg:W.grownBy W' (some gk))
  (hk:BkW W' gk K (fun j=>if j=i then l else bks j) (fun j=>if j=i then a else bo j) (fun j=>if j=i then c else bc j)):CM w W' b0 K gk f (fun j=>if j=i then l else bks j) (fun j=>if j=i then a else bo j) (fun j=>if j=i then c else bc j) so sc ss g off cap ws:=by
 have t:∀e,e≠67→Ty W W' e:=fun e he=>Ty.but h.bk.row (fun q hne hq=>hg.block q hq (fun c=>hne (by simpa using c))) e he;have hq:=h.q.lt;have hl:=h.q.1;exact⟨(t _ (by decide)).owns h.row,h.q.other (hg.block g hq (fun c=>by injection c with c;omega)),fun x hx=>(t _ (by decide)).dt (h.dS x hx),fun x hx=>(t _ (by decide)).dt (h.dW x hx),h.bk.put hb hg hk,h.grow.trans hg⟩
theorem CM.seen {W2:World}{so':Option Addr}{sc':Nat}{x:AV}(h:CM w W b0 K gk f bks bo bc so sc ss g off cap ws) (hx:Dt W w.heap.size f x.v) (ho:W2.ownsRow w.heap.size 54 9 (.slice so' (ss.length+1) sc') (ss++[x]).length (cellsL (ss++[x]).length 9 (fun i=>sC f (aat (ss++[x]) i)))) (hb:Below w.heap.size W W2) (ht:∀(q:Nat) (cur:Array Value) (ty:TypeId),W.heap[q]?=some (Obj.cells cur ty (0,0))→ty≠54→W2.heap[q]?=some (Obj.cells cur ty (0,0))) :
  CM w W2 b0 K gk f bks bo bc so' sc' (ss++[x]) g off cap ws:=by
 have t:∀e,e≠54→Ty W W2 e:=fun e he q cur hq=>ht q cur e hq he;obtain⟨cs,hq⟩:=h.q.type;have e:(ss++[x]).length=ss.length+1:=(by simp)
 refine⟨by rw[←e] at ho;exact ho,h.q.other ((ht g cs _ hq (by decide)).trans hq.symm),fun y hy => ?_,fun y hy=>(t _ (by decide)).dt (h.dW y hy),h.bk.ty (t _ (by decide)) (t _ (by decide)),grown_base h.grow hb⟩;rcases List.mem_append.1 hy with hy | hy
 ·exact(t _ (by decide)).dt (h.dS y hy)
 ·obtain rfl:y=x:=by simpa using hy
  exact(t _ (by decide)).dt hx
theorem CM.more {W2:World}{g' off' cap':Nat}{x:AV}(h:CM w W b0 K gk f bks bo bc so sc ss g off cap ws) (hx:Dt W w.heap.size f x.v) (hq:QAt W2 w.heap.size g' off' cap' f (ws++[x])) (hb:Below w.heap.size W W2) (ht:∀q,q≠g→q<W.heap.size→W2.heap[q]?=W.heap[q]?) :
  CM w W2 b0 K gk f bks bo bc so sc ss g' off' cap' (ws++[x]):=by
 obtain⟨cs,hg⟩:=h.q.type;have t:∀e,e≠77→Ty W W2 e:=fun e he=>Ty.but hg ht e he;refine⟨(t _ (by decide)).owns h.row,hq,fun y hy=>(t _ (by decide)).dt (h.dS y hy),fun y hy => ?_,h.bk.ty (t _ (by decide)) (t _ (by decide)),grown_base h.grow hb⟩;rcases List.mem_append.1 hy with hy | hy
 ·exact(t _ (by decide)).dt (h.dW y hy)
 ·obtain rfl:y=x:=by simpa using hy
  exact(t _ (by decide)).dt hx
theorem Dt.row {x:OV}{base:Nat}(h:Dt W base f x) (hf:ByteRow W f.ao f.n f.cap f.bs) (hn:NilOk f.ao f.n f.cap):ByteRow W x.da f.n x.dc f.bs∧NilOk x.da f.n x.dc:=by
 rcases h with⟨e1,e2⟩ | h
 ·rw[e1,e2];exact⟨hf,hn⟩
 ·obtain⟨a,c,e,h1,_,h2,_⟩:=owns_row h;injection e with e1 _ e2;subst e1 e2;exact⟨h1,h2⟩
end
end
section
open Go.RowKit
open Bk (E at')
structure BIn (w:World) (ko:Option Addr) (K kcap:Nat) (bks:Nat→List E) (bo:Nat→Option Addr) (bc:Nat→Nat):Prop where
 row:CRow w ko K kcap 1 (fun i _=>.slice (bo i) (bks i).length (bc i))
 each:∀i,i<K→BEL w (bo i) (bc i) (bks i)∧NilOk (bo i) (bks i).length (bc i)∧(bks i).length*32≤140737488355328
theorem BIn.below {w W:World}{ko:Option Addr}{K kcap:Nat}{bks:Nat→List E}{bo:Nat→Option Addr}{bc:Nat→Nat}(h:BIn w ko K kcap bks bo bc) (hb:Bl w W):BIn W ko K kcap bks bo bc:=⟨CRow.below h.row hb,fun i hi=>⟨(h.each i hi).1.below hb,(h.each i hi).2⟩⟩
theorem append_e0 (w:World) (base:Nat) (ao:Option Addr) (cp:Nat) (m:List E) (hr:BEL w ao cp m) (hnil:NilOk ao m.length cp) (hb:m.length*32≤140737488355328) (hbase:base≤w.heap.size) :
  ∃a1 c1 w',(Builtin.append_ #[67,67] 67 #[.slice none 0 0,.slice ao m.length cp]).run Tryz.prog w=.ok (.slice a1 m.length c1) w'∧OwnE w' base (.slice a1 m.length c1) m∧Below base w w'∧(∀q,q<w.heap.size→w'.heap[q]?=w.heap[q]?):=by
 obtain⟨a1,c1,w',r,o,b,q⟩:=append_c w 67 110 _ 4 32 Tryz.underlying67 infoEy rfl (by omega) base (.slice none 0 0) 0 (fun i=>eC (at' m i)) (ownsC_nil w base _ _ _) ao m.length cp (fun i=>eC (at' m i)) (fun _ _=>eC_one _ _) hr hnil (by unfold maxLen;omega) (by omega) hbase;rw[Nat.zero_add] at r o;refine⟨a1,c1,w',r,?_,b,fun x hx=>q x hx (by simp[Value.ownBlock])⟩;unfold OwnE;rw[cellsL_congr _ 4 _ (fun i=>eC (at' m i))] at o
 ·exact o
 ·intro i hi;unfold catC;rw[if_neg (by omega),Nat.sub_zero]
structure CpA (w W:World) (K:Nat) (bks:Nat→List E) (k:Nat) (bo:Nat→Option Addr) (bc:Nat→Nat):Prop where
 row:W.heap[w.heap.size]?=some (.cells (rowC K 1 (fun i _=>if i<k then .slice (bo i) (bks i).length (bc i) else .slice none 0 0)) 67)
 each:∀i,i<k→OwnE W w.heap.size (.slice (bo i) (bks i).length (bc i)) (bks i)
 low:Bl w W
theorem CpA.step {w W W':World}{K:Nat}{bks:Nat→List E}{k:Nat}{bo:Nat→Option Addr}{bc:Nat→Nat}(h:CpA w W K bks k bo bc) (hk:k<K) {a:Option Addr}{c:Nat}(ho:OwnE W' w.heap.size (.slice a (bks k).length c) (bks k)) (hb:Below w.heap.size W W') (hq:∀q,q<W.heap.size→W'.heap[q]?=W.heap[q]?) :
  CpA w (W'.setCell ⟨w.heap.size,k,none⟩ (.slice a (bks k).length c)) K bks (k+1) (fun i=>if i=k then a else bo i) (fun i=>if i=k then c else bc i):=by
 have hl:w.heap.size<W.heap.size:=(gSm.1 h.row).1;have hr:W'.heap[w.heap.size]?=_:=(hq _ hl).trans h.row;have hst:=rowC_set hr hk (show 0<1 by omega) (.slice a (bks k).length c);rw[show k*1+0=k by omega] at hst;have ty:Ty W' (W'.setCell ⟨w.heap.size,k,none⟩ (.slice a (bks k).length c)) 110:=Ty.but hr (fun q hne _=>heap_setCell_other _ _ _ _ (fun e=>hne e)) _ (by decide);refine⟨?_,fun i hi => ?_,?_⟩
 ·rw[hst];congr 2
  apply rC2
  intro i hi j hj;unfold updC;obtain rfl:j=0:=by omega
  by_cases e:i=k
  ·subst e;rw[if_pos ⟨rfl,rfl⟩,if_pos (by omega),if_pos rfl,if_pos rfl]
  ·rw[if_neg (fun q=>e q.1)];show(if i<k then _ else _)=_;by_cases e2:i<k
   ·rw[if_pos e2,if_pos (by omega),if_neg e,if_neg e]
   ·rw[if_neg e2,if_neg (by omega)]
 ·by_cases e:i=k
  ·subst e;simp only[if_true];exact ty.owns ho
  ·simp only[if_neg e];refine ty.owns ?_;have h1:=h.each i (by omega);exact(show Ty W W' 110 from fun q cur hc=>(hq q (gSm.1 hc).1).trans hc).owns h1
 ·exact(h.low.trans hb).setCell (Nat.le_refl _) _
theorem jcopied_any (ko:Option Addr) (K kcap:Nat) (bks:Nat→List E) (bo:Nat→Option Addr) (bc:Nat→Nat) (w:World) (h:BIn w ko K kcap bks bo bc) (hK:K≤12) :
  Calls Tryz.prog 26 #[.slice ko K kcap] w fun e w'=>e=.returned (.slice (some ⟨w.heap.size,0,none⟩) K K)∧Hid (∃bo' bc',BkO w' w.heap.size w.heap.size K bks bo' bc'∧Bl w w'):=by
 have hmk:∀W:World,(Instr.makeSlice 27 (.int .i64 (K:Int)) (.int .i64 (K:Int))).run Tryz.prog W=.ok (.slice (some ⟨W.heap.size,0,none⟩) K K) (W.alloc (.cells (rowC K 1 (fun _ _=>.slice none 0 0)) 67)):=fun W=>make_rowD W 27 67 (.slice none 0 0) 1 24 K Tryz.underlying27 (by kernel_rfl) (by omega) rfl (by omega) (by omega) _ (fun _ j hj=>by rw[show j=0 by omega];rfl);obtain⟨X,HX⟩:∃X,Hid (X=w.alloc (.cells (rowC K 1 (fun _ _=>.slice none 0 0)) 67)):=⟨_,rfl⟩
 have H0:Hid (∃bo' bc',CpA w X K bks 0 bo' bc'):=⟨bo,bc,by
  refine⟨?_,fun i hi=>absurd hi (by omega),?_⟩
  ·rw[HX.out,heap_alloc_last];congr 2
  ·rw[HX.out];exact bA1 _ _⟩
 have hc:K≤kcap:=h.row.1;have HI:Hid (∀W,Bl w W→BIn W ko K kcap bks bo bc):=fun W hW=>h.below hW;have HLN:Hid (∀i,i<K→(bks i).length≤9223372036854775807):=fun i hi=>by
  have:=(h.each i hi).2.2;omega
 clear h;go_enter Tryz.func26,Tryz.ntmps26;(go_wp2_with fail);rw[←HX.out];go_loopw [11] (fun i wr=>∃k:Nat,k≤K∧i=.int .i64 k∧Hid (∃bo' bc',CpA w wr K bks k bo' bc')) (fun i _=>K-(intOf i).toNat)
 case atStart=>exact⟨0,by omega,rfl,H0⟩
 case round =>
  obtain⟨k,hk,rfl,hX⟩:=hrel;clear H0;obtain⟨bo',bc',hI⟩:=hX.out;by_cases hlt:k<K
  ·have hin:=HI.out wr hI.low;obtain⟨b,off,eb,_⟩:=CRow.some hin.row (by omega);have hrow:=hin.row;rw[eb] at hrow ⊢;obtain⟨b',off',e',_,hcc⟩:=hrow.2 (by omega);cases e'
   have c0:=hcc k hlt 0 (by omega);rw[show off+k*1+0=off+k by omega] at c0;have hls:=hI.low.size;obtain⟨a1,c1,W1,hrun,ho,hb1,hq1⟩:=append_e0 wr w.heap.size (bo k) (bc k) (bks k) (hin.each k hlt).1 (hin.each k hlt).2.1 (hin.each k hlt).2.2 hls;have hl:w.heap.size<wr.heap.size:=(gSm.1 hI.row).1;have hr1:W1.heap[w.heap.size]?=_:=(hq1 _ hl).trans hI.row;have s0:=rowC_cell hr1 hlt (show 0<1 by omega);rw[show k*1+0=k by omega,if_neg (by omega)] at s0;have s1:W1.frozen? ⟨w.heap.size,k,none⟩=false:=frozen_of_row _ _ _ _ _ hr1;have HEND:Hid (∃bo' bc',CpA w (W1.setCell ⟨w.heap.size,k,none⟩ (.slice a1 (bks k).length c1)) K bks (k+1) bo' bc'):=⟨_,_,hI.step hlt ho hb1 hq1⟩
   have HRN:Hid ((Builtin.append_ #[67,67] 67 #[.slice none 0 0,.slice (bo k) (bks k).length (bc k)]).run Tryz.prog wr=.ok (.slice a1 (bks k).length c1) W1):=hrun;have ik:(0:Int)≤(k:Int):=(by omega)
   have nk:(k:Int)<(K:Int):=(by omega)
   clear hrun ho hb1 hq1 hr1 hcc hrow hin hI hX eb;go_wp2_with (at_builtin;refine wpList_append_run rfl (.const (.slice none 0 0)) (.tmp 18) 67 rfl _ _ _ rfl rfl HRN.out ?_;clear HRN)
   exact⟨⟨k+1,by omega,by go_num,HEND⟩,by simp[intOf];omega⟩
  ·obtain rfl:k=K:=by omega
   have HF:Hid (∃bo' bc',BkO wr w.heap.size w.heap.size k bks bo' bc'∧Bl w wr):=⟨bo',bc',⟨by
    rw[hI.row];congr 2
    apply rC2
    intro i hi j hj;rw[if_pos hi],fun i hi=>⟨hI.each i hi,HLN.out i hi⟩⟩,hI.low⟩
   clear hI hX;(go_wp2_with fail);go_ret;exact⟨rfl,HF⟩
end
section
open Go.ChangeShapes Go.WideShapes Go.ChangeAt Go.RowKit
set_option maxRecDepth 100000
open Bk (E)
theorem cellsE4:Tryz.prog.cellsOf 110=4:=by kernel_rfl
theorem elist4 {α:Type}{l:List α}(h:l.length=4):∃c0 c1 c2 c3,l=[c0,c1,c2,c3]:=by
 match l,h with
 | [c0,c1,c2,c3],_=>exact⟨c0,c1,c2,c3,rfl⟩
theorem entry_cells {H:Type}{enc:TypeId×Value→H}{W:World}{c0 c1 c2 c3:Value}{fuel:Nat}{x:DataW H×List MemPlace}
  (hf:DataW.trod enc Tryz.prog W 0 (fun _=>true) true fuel 110 [c0,c1,c2,c3]=some x) :
  ∃v:E,c0=.int .i64 v.vid∧c1=.int .u64 v.addr∧c2=.int .i64 v.port∧c3=.int .i64 v.age:=by
 obtain⟨xs,m,_,_,_,hlen,hfs⟩:=DataW.trod_struct Tryz.underlying110 hf;obtain⟨y0,y1,y2,y3,rfl⟩:=elist4 (by simpa using hlen);obtain⟨ro,e0,_,_⟩:=DataW.trod_int Tryz.underlying3 (hfs 0 _ rfl);obtain⟨co,e1,_,_⟩:=DataW.trod_int Tryz.underlying28 (hfs 1 _ rfl);obtain⟨br,e2,_,_⟩:=DataW.trod_int Tryz.underlying3 (hfs 2 _ rfl);obtain⟨po,e3,_,_⟩:=DataW.trod_int Tryz.underlying3 (hfs 3 _ rfl);exact⟨⟨ro,co,br,po⟩,one_of e0,one_of e1,one_of e2,one_of e3⟩
theorem entries_cell {H:Type}{enc:TypeId×Value→H}{W:World}{v:Value}{fuel:Nat}{x:DataW H×List MemPlace}
  (hf:DataW.trod enc Tryz.prog W 0 (fun _=>true) true fuel 67 [v]=some x) :
  ∃ao cap l,v=.slice ao l.length cap∧BEL W ao cap l∧NilOk ao l.length cap∧l.length≤9223372036854775807:=by
 rcases Deep.open_slice Tryz.underlying67 hf with⟨hcs,_⟩ | ⟨a,len,cap,m,k,D,Pl,hcs,_,hl,hm,hmm,_,hx⟩
 ·simp at hcs;subst hcs;exact⟨none,0,[],rfl,CRow.none _ _ _ _ _,fun _=>⟨rfl,rfl⟩,by simp⟩
 ·simp at hcs;subst hcs;rw[if_pos rfl] at hmm;have each:∀i,i<len→∃t:E,∀j,j<4→W.cell? (a.add (i*4+j))=some (eC t j):=by
   intro i hi;obtain⟨cs',h1,h2⟩:=hx i (by omega);rw[cellsE4] at h1;obtain⟨_,hlen,hcell⟩:=World.cells?_some h1;obtain⟨c0,c1,c2,c3,rfl⟩:=elist4 hlen;obtain⟨t,rfl,rfl,rfl,rfl⟩:=entry_cells h2;refine⟨t,fun j hj => ?_⟩;have kj:=hcell j (by omega);rw[Deep.add_add] at kj;rw[kj];rcases(show j=0∨j=1∨j=2∨j=3 by omega) with rfl | rfl | rfl | rfl
   ·rfl
   ·rfl
   ·rfl
   ·rfl
  haveI:Inhabited E:=⟨⟨0,0,0,0⟩⟩
  obtain⟨q,hq⟩:=Deep.choose_lt each;have hrow:CRow W (some a) len cap 4 (fun i=>eC (q i)):=by
   refine⟨hl,fun hp => ?_⟩;obtain⟨b,off,spot⟩:=a;have hspot:spot=none:=by
    have h0:=hq 0 (by omega) 0 (by omega);simpa[Addr.add] using World.cell?_spot h0
   subst hspot;have hc:∀i,i<len→∀j,j<4→_:=fun i hi j hj=>hq i hi j hj;simp only[add_row] at hc;exact⟨b,off,rfl,block_lt_of_cell (hc 0 hp 0 (by omega)),fun i hi j hj=>by have:=hc i hi j hj;rw[←Nat.add_assoc] at this;exact this⟩
  refine⟨some a,cap,Bk.listOf len q,by rw[Bk.listOf_length],BEL.of hrow,(fun e=>by cases e),by rw[Bk.listOf_length];unfold maxLen at hm;omega⟩
set_option maxRecDepth 100000
theorem cellsFr:Tryz.prog.cellsOf 31=8:=by kernel_rfl
theorem list8 {α:Type}{l:List α}(h:l.length=8):∃c0 c1 c2 c3 c4 c5 c6 c7,l=[c0,c1,c2,c3,c4,c5,c6,c7]:=by
 match l,h with
 | [c0,c1,c2,c3,c4,c5,c6,c7],_=>exact⟨c0,c1,c2,c3,c4,c5,c6,c7,rfl⟩
theorem frame_in {H:Type}{enc:TypeId×Value→H}{W:World}{base:Nat}{v:Value}{D:DataW H}{ps:List MemPlace}
  (hv:Value.okWide Tryz.prog W .any base 31 v) (h:DataW.Trod enc Tryz.prog W 0 (fun _=>true) true 31 v D ps) :
  ∃d s t p dr vid y ao n c bs,v=.agg #[.int .u64 d,.int .u64 s,.bool t,.int .i64 p,.bool dr,.int .i64 vid,.int .i64 y,.slice ao n c]∧(Lit.int .u64 d).wf=true∧(Lit.int .u64 s).wf=true∧(Lit.int .i64 p).wf=true∧(Lit.int .i64 vid).wf=true∧(Lit.int .i64 y).wf=true ∧
   ByteRow W ao n c bs∧(∀i,i<n→0≤bs i∧bs i≤255)∧(ao=none→n=0∧c=0):=by
 obtain⟨cs,rfl,hcs⟩:=okWide_struct Tryz.underlying31 hv;rw[cellsFr] at hcs;obtain⟨l⟩:=cs;obtain⟨c0,c1,c2,c3,c4,c5,c6,c7,rfl⟩:=list8 (by simpa using hcs);obtain⟨fuel,hf⟩:=h;obtain⟨xs,m,_,_,_,hlen,hfs⟩:=DataW.trod_struct Tryz.underlying31 hf;obtain⟨y0,y1,y2,y3,y4,y5,y6,y7,rfl⟩:=list8 (by simpa using hlen);have g0:=hfs 0 _ rfl;have g1:=hfs 1 _ rfl;have g2:=hfs 2 _ rfl;have g3:=hfs 3 _ rfl;have g4:=hfs 4 _ rfl;have g5:=hfs 5 _ rfl;have g6:=hfs 6 _ rfl;have g7:=hfs 7 _ rfl;simp only[Value.cells] at g0 g1 g2 g3 g4 g5 g6 g7;obtain⟨d,e0,_,w0⟩:=DataW.trod_int Tryz.underlying28 g0;obtain⟨s,e1,_,w1⟩:=DataW.trod_int Tryz.underlying28 g1;obtain⟨t,e2,_⟩:=DataW.trod_bool Tryz.underlying4 g2;obtain⟨p,e3,_,w3⟩:=DataW.trod_int Tryz.underlying3 g3;obtain⟨dr,e4,_⟩:=DataW.trod_bool Tryz.underlying4 g4;obtain⟨vid,e5,_,w5⟩:=DataW.trod_int Tryz.underlying3 g5;obtain⟨y,e6,_,w6⟩:=DataW.trod_int Tryz.underlying3 g6;obtain⟨ao,n,c,bs,e7,hr,hb,hn⟩:=bytes_cell g7;obtain rfl:=one_of e0;obtain rfl:=one_of e1;obtain rfl:=one_of e2;obtain rfl:=one_of e3;obtain rfl:=one_of e4;obtain rfl:=one_of e5;obtain rfl:=one_of e6;subst e7;exact⟨d,s,t,p,dr,vid,y,ao,n,c,bs,rfl,w0,w1,w3,w5,w6,hr,hb,hn⟩
set_option maxRecDepth 100000
open Bk (E)
theorem bytesEn:Tryz.prog.bytesOf 110=32:=by kernel_rfl
theorem cellsEs:Tryz.prog.cellsOf 67=1:=by kernel_rfl
theorem weights_at {H:Type}{P:Program}{e:TypeId}{D:Nat→DataW H}{p:Nat→Bool}:∀{l:List Nat},(DataW.weightsAll P e (l.map D)).all p=true→∀i∈l,((D i).weights P e).all p=true
 | [],_,i,hi=>by simp at hi
 | a :: l,h,i,hi=>by
  rw[List.map_cons] at h;unfold DataW.weightsAll at h;rw[List.all_append,Bool.and_eq_true] at h;rcases List.mem_cons.1 hi with rfl | hi
  ·exact h.1
  ·exact weights_at h.2 i hi
theorem entries_many {H:Type}{enc:TypeId×Value→H}{W:World}{ao:Option Addr}{n cap:Nat}{fuel:Nat}{x:DataW H×List MemPlace}
  (hf:DataW.trod enc Tryz.prog W 0 (fun _=>true) true fuel 67 [.slice ao n cap]=some x) (hz:(x.1.weights Tryz.prog 67).all (·≤reachBytes)=true):n*32≤reachBytes:=by
 rcases Deep.open_slice Tryz.underlying67 hf with⟨hcs,_⟩ | ⟨a,len,cap',m,k,D,Pl,hcs,_,hl,hm,hmm,hx,_⟩
 ·simp at hcs;omega
 ·simp at hcs;obtain⟨_,rfl,rfl⟩:=hcs;rw[if_pos rfl] at hmm;rw[hx] at hz;unfold DataW.weights at hz;rw[Tryz.underlying67] at hz;simp only[List.all_cons,Bool.and_eq_true,decide_eq_true_eq,List.length_map,List.length_range,bytesEn] at hz;have:=hz.1;omega
theorem books_in {H:Type}{enc:TypeId×Value→H}{W:World}{base:Nat}{v:Value}{D:DataW H}{ps:List MemPlace}
  (hv:Value.okWide Tryz.prog W .any base 27 v) (h:DataW.Trod enc Tryz.prog W 0 (fun _=>true) true 27 v D ps) :
  ∃(ko:Option Addr) (K cap:Nat) (bks:Nat→List E) (bo:Nat→Option Addr) (bc:Nat→Nat),v=.slice ko K cap∧K≤9223372036854775807∧((D.weights Tryz.prog 27).all (·≤reachBytes)=true→BIn W ko K cap bks bo bc):=by
 obtain⟨a0,len0,cap0,rfl⟩:=okWide_slice Tryz.underlying27 hv;obtain⟨fuel,hf⟩:=h;rcases Deep.open_slice Tryz.underlying27 hf with⟨hcs,_⟩ | ⟨a,len,cap,m,k,DD,Pl,hcs,_,hl,hm,hmm,hxx,hx⟩
 ·simp[Value.cells] at hcs;obtain⟨rfl,rfl,rfl⟩:=hcs;exact⟨none,0,0,fun _=>[],fun _=>none,fun _=>0,rfl,by omega,fun _=>⟨CRow.none _ _ _ _ _,fun i hi=>absurd hi (by omega)⟩⟩
 ·simp[Value.cells] at hcs;obtain⟨rfl,rfl,rfl⟩:=hcs;rw[if_pos rfl] at hmm;have each:∀i,i<len0→∃t:Option Addr×Nat×List E,W.cell? (a.add i)=some (.slice t.1 t.2.2.length t.2.1)∧BEL W t.1 t.2.1 t.2.2∧NilOk t.1 t.2.2.length t.2.1∧(((DD i).weights Tryz.prog 67).all (·≤reachBytes)=true→t.2.2.length*32≤reachBytes):=by
   intro i hi;obtain⟨cs',h1,h2⟩:=hx i (by omega);rw[cellsEs] at h1;obtain⟨_,hlen,hcell⟩:=World.cells?_some h1;obtain⟨c0,rfl⟩:=List.length_eq_one_iff.1 hlen;obtain⟨ao,cp,l,rfl,z1,z2,_⟩:=entries_cell h2;refine⟨(ao,cp,l),?_,z1,z2,fun hz=>entries_many h2 hz⟩;have kj:=hcell 0 (by omega);rw[Deep.add_add] at kj;rw[show i*1+0=i by omega] at kj;rw[kj];rfl
  haveI:Inhabited (Option Addr×Nat×List E):=⟨(none,0,[])⟩
  obtain⟨q,hq⟩:=Deep.choose_lt each;refine⟨some a,len0,cap0,fun i=>(q i).2.2,fun i=>(q i).1,fun i=>(q i).2.1,rfl,by unfold maxLen at hm;omega,fun hz=>⟨⟨hl,fun hp => ?_⟩,fun i hi=>⟨(hq i hi).2.1,(hq i hi).2.2.1,?_⟩⟩⟩
  ·obtain⟨b,off,spot⟩:=a;have hspot:spot=none:=by
    have h0:=(hq 0 (by omega)).1;simpa[Addr.add] using World.cell?_spot h0
   subst hspot;have hc:∀i,i<len0→_:=fun i hi=>(hq i hi).1;simp only[add_row] at hc;refine⟨b,off,rfl,block_lt_of_cell (hc 0 hp),fun i hi j hj => ?_⟩;obtain rfl:j=0:=by omega
   have:=hc i hi;rw[Nat.mul_one,Nat.add_zero];exact this
  ·have hD:D=_:=congrArg Prod.fst hxx;rw[hD] at hz;unfold DataW.weights at hz;rw[Tryz.underlying27] at hz;simp only[List.all_cons,List.all_append,Bool.and_eq_true] at hz;have:=(hq i hi).2.2.2 (weights_at hz.2.1 i (List.mem_range.2 hi));unfold reachBytes at this;omega
theorem frame_inL {H:Type}{enc:TypeId×Value→H}{W:World}{base:Nat}{v:Value}{D:DataW H}{ps:List MemPlace}
  (hv:Value.okWide Tryz.prog W .any base 31 v) (h:DataW.Trod enc Tryz.prog W 0 (fun _=>true) true 31 v D ps) :
  ∃f:Rl.F,v=.agg #[.int .u64 f.dst,.int .u64 f.src,.bool f.tagged,.int .i64 f.prio,.bool f.drop,.int .i64 f.vid,.int .i64 f.type,.slice f.ao f.n f.cap]∧ByteRow W f.ao f.n f.cap f.bs∧NilOk f.ao f.n f.cap∧(0≤f.dst∧f.dst<18446744073709551616)∧(0≤f.src∧f.src<18446744073709551616):=by
 obtain⟨d,s,t,p,dr,vid,y,ao,n,c,bs,rfl,w0,w1,_,_,_,hr,_,hn⟩:=frame_in hv h;exact⟨⟨d,s,t,p,dr,vid,y,ao,n,c,bs⟩,rfl,hr,hn,wf_u64 w0,wf_u64 w1⟩
end
end Go.Proofs.YtelebnancdjjiaaGreatDoor
