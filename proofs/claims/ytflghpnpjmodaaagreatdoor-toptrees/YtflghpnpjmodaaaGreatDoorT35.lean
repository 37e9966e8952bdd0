/- carry's memory: what is seen, what waits, the books -/
import Derived.Test.YtflghpnpjmodaaaGreatDoorT34
import Derived.ArgAppend
import Derived.Lib.LazyBuf
import Derived.Deep.Upon
set_option maxRecDepth 100000
set_option maxHeartbeats 6000000
namespace Go.Proofs.YtflghpnpjmodaaaGreatDoor
section
open Go.RowKit
open Bk (E at')
open Rl (G gat F R O)
structure AV where
 i:Nat
 v:OV
def AV.p (x:AV):Nat×O:=(x.i,x.v.o)
def av0:AV:=⟨0,ov0⟩
def aat (l:List AV) (i:Nat):AV:=l.getD i av0
theorem aat_left (l m:List AV) (i:Nat) (h:i<l.length):aat (l++m) i=aat l i:=by simp[aat,h,List.getElem?_append_left]
theorem aat_last (l:List AV) (x:AV):aat (l++[x]) l.length=x:=by simp[aat]
def aA (f:F) (x:AV):Array Value:=#[.int .i64 (x.i:Int),.int .i64 x.v.o.port,.int .u64 f.dst,.int .u64 f.src,.bool x.v.o.tagged,.int .i64 x.v.o.prio,.bool x.v.o.drop,.int .i64 x.v.o.vid,.int .i64 f.type,.slice x.v.da f.n x.v.dc]
def sA (f:F) (x:AV):Array Value:=#[.int .i64 (x.i:Int),.int .u64 f.dst,.int .u64 f.src,.bool x.v.o.tagged,.int .i64 x.v.o.prio,.bool x.v.o.drop,.int .i64 x.v.o.vid,.int .i64 f.type,.slice x.v.da f.n x.v.dc]
def sC (f:F) (x:AV) (j:Nat):Value:=(sA f x).getD j (.int .i64 0)
theorem sC_one (f:F) (x:AV) (j:Nat):(sC f x j).oneCell'=true:=by
 unfold sC sA;by_cases h:j<9
 ·rcases(by omega:j=0∨j=1∨j=2∨j=3∨j=4∨j=5∨j=6∨j=7∨j=8) with e | e | e | e | e | e | e | e | e<;>subst e<;>rfl
 ·simp[h];rfl
theorem aA_one (f:F) (x:AV):∀u∈(aA f x).toList,u.oneCell'=true:=by
 intro u hu;simp only[aA,List.mem_cons,List.not_mem_nil,or_false] at hu;rcases hu with rfl | rfl | rfl | rfl | rfl | rfl | rfl | rfl | rfl | rfl<;>rfl
theorem infoAr:(Tryz.prog.info? 141).map (fun i=>(i.zero,i.size,i.bytes))=some (some (.agg #[.int .i64 0,.int .i64 0,.int .u64 0,.int .u64 0,.bool false,.int .i64 0,.bool false,.int .i64 0,.int .i64 0,.slice none 0 0]),10,96):=by kernel_rfl
theorem infoSe:(Tryz.prog.info? 97).map (fun i=>(i.zero,i.size,i.bytes))=some (some (.agg #[.int .i64 0,.int .u64 0,.int .u64 0,.bool false,.int .i64 0,.bool false,.int .i64 0,.int .i64 0,.slice none 0 0]),9,88):=by kernel_rfl
def Dt (W:World) (base:Nat) (f:F) (x:OV):Prop:=(x.da=f.ao∧x.dc=f.cap)∨W.ownsRow base 5 1 (.slice x.da f.n x.dc) f.n (bytesL f.n f.bs)
def QAt (W:World) (base g off cap:Nat) (f:F) (l:List AV):Prop :=
 base≤g∧l.length≤cap∧∃N c,W.rowIs g 141 N c∧off+cap*10≤N∧∀i,i<l.length→∀j,j<10→(aA f (aat l i))[j]?=some (c (off+i*10+j))
theorem QAt.other {W W':World}{base g off cap:Nat}{f:F}{l:List AV}(h:QAt W base g off cap f l) (e:W'.heap[g]?=W.heap[g]?):QAt W' base g off cap f l:=by
 obtain⟨h1,h2,N,c,⟨cs,h3,h4⟩,r⟩:=h;exact⟨h1,h2,N,c,⟨cs,e.trans h3,h4⟩,r⟩
theorem QAt.lt {W:World}{base g off cap:Nat}{f:F}{l:List AV}(h:QAt W base g off cap f l):g<W.heap.size:=by
 obtain⟨h1,h2,N,c,⟨cs,h3,h4⟩,r⟩:=h;exact(gSm.1 h3).1
theorem QAt.type {W:World}{base g off cap:Nat}{f:F}{l:List AV}(h:QAt W base g off cap f l):∃cs,W.heap[g]?=some (.cells cs 141):=by
 obtain⟨h1,h2,N,c,⟨cs,h3,h4⟩,r⟩:=h;exact⟨cs,h3⟩
theorem QAt.below {W W':World}{base g off cap:Nat}{f:F}{l:List AV}(h:QAt W base g off cap f l) (hb:Bl W W'):QAt W' base g off cap f l:=h.other (hb.block _ h.lt)
theorem QAt.one {W:World}{base g:Nat}{f:F}{x:AV}(h:W.heap[g]?=some (.cells (aA f x) 141)) (hb:base≤g):QAt W base g 0 1 f [x]:=by
 refine⟨hb,by simp,10,fun j=>(aA f x).getD j (.int .i64 0),⟨_,h,rfl,fun j hj => ?_⟩,by omega,fun i hi j hj => ?_⟩
 ·have hs:j<(aA f x).size:=hj;simp[hs]
 ·obtain rfl:i=0:=by simp at hi;omega
  have hs:j<(aA f x).size:=hj;show(aA f x)[j]?=some ((aA f x).getD (0+0*10+j) (.int .i64 0));rw[show 0+0*10+j=j by omega];simp[hs]
theorem QAt.cell {W:World}{base g off cap:Nat}{f:F}{l:List AV}(h:QAt W base g off cap f l) {i:Nat}(hi:i<l.length) {j:Nat}(hj:j<10):W.cell? ⟨g,off+i*10+j,none⟩=(aA f (aat l i))[j]?:=by
 obtain⟨h1,h2,N,c,⟨cs,h3,h4,h5⟩,h6,h7⟩:=h;rw[h7 i hi j hj,cell_of_row W g _ _ _ _ h3];have:i*10+10≤cap*10:=by omega
 exact h5 _ (by omega)
theorem QAt.tail {W:World}{base g off cap:Nat}{f:F}{x:AV}{l:List AV}(h:QAt W base g off cap f (x :: l)):QAt W base g (off+10) (cap-1) f l:=by
 obtain⟨h1,h2,N,c,h3,h4,h5⟩:=h;simp only[List.length_cons] at h2;refine⟨h1,by omega,N,c,h3,by omega,fun i hi j hj => ?_⟩;have:=h5 (i+1) (by simp;omega) j hj;rw[show off+10+i*10+j=off+(i+1)*10+j by omega];exact this
abbrev runAppQ (v x:Value) (w:World) (v':Value) (w':World):Prop:=(Builtin.append_ #[187,187] 187 #[v,x]).run Tryz.prog w=.ok v' w'
abbrev runAppS (v x:Value) (w:World) (v':Value) (w':World):Prop:=(Builtin.append_ #[86,86] 86 #[v,x]).run Tryz.prog w=.ok v' w'
theorem one_ar {W:World}{g:Nat}{f:F}{x:AV}(h:W.heap[g]?=some (.cells (aA f x) 141)) (j:Nat) (u:Value) (hj:(aA f x).toList[j]?=some u):W.cell? (Addr.add ⟨g,0,none⟩ j)=some u:=by
 rw[Addr.add_lit,Nat.zero_add,cell_of_row W g _ _ _ _ h];rw[Array.getElem?_toList] at hj;exact hj
theorem more_q (base g off cap:Nat) (W:World) (f:F) (l:List AV) (x:AV) (h:QAt W base g off cap f l) (hl:l.length≤100000) (hbase:base≤W.heap.size) :
  ∃g' off' cap' W2,runAppQ (.slice (some ⟨g,off,none⟩) l.length cap) (.slice (some ⟨W.heap.size,0,none⟩) 1 1) (W.alloc (.cells (aA f x) 141)) (.slice (some ⟨g',off',none⟩) (l.length+1) cap') W2∧QAt W2 base g' off' cap' f (l++[x])∧(g'=g∨W.heap.size<g')∧Below base W W2∧∀q,q≠g→q<W.heap.size→W2.heap[q]?=W.heap[q]?:=by
 obtain⟨i0,hi,hz0,hz1,hz2⟩:=info_parts infoAr;have hb1:=bA1 W (.cells (aA f x) 141);have hq:=h.below hb1;have hlast:=heap_alloc_last W (.cells (aA f x) 141);have hlt:=h.lt;obtain⟨h1,h2,N,c,hrow,h4,h5⟩:=hq;have hrow':=hrow;obtain⟨cs,hcs,hsz,hcc⟩:=hrow';by_cases hroom:l.length+1≤cap
 ·have hrun:=run_append_room_cells (P:=Tryz.prog) (W.alloc (.cells (aA f x) 141)) 187 187 141 i0 Tryz.underlying187 hi g off l.length cap ⟨W.heap.size,0,none⟩ 1 1 (aA f x).toList (by rw[hz1];rfl) (one_ar hlast) (aA_one f x) hroom (fun j hj=>by
   rw[cell_of_row _ g _ _ _ _ hcs,hz1,hcc _ (by have:j<10:=hj;omega)];rfl) (fun j hj=>frozen_of_row _ _ _ _ _ hcs)
  rw[hz1] at hrun;refine⟨g,off,cap,_,hrun,⟨h1,by simp;omega,N,_,rowIs_setCells _ _ _ _ hrow,h4,fun i hi j hj => ?_⟩,Or.inl rfl,?_,fun q hne hlt => ?_⟩
  ·simp only[List.length_append,List.length_cons,List.length_nil] at hi;show _=some (if _ then _ else _);rw[show(aA f x).toList.length=10 from rfl];by_cases e:i<l.length
   ·rw[aat_left l _ i e,h5 i e j hj,if_neg (by omega)]
   ·obtain rfl:i=l.length:=by omega
    rw[aat_last,if_pos (by omega),show off+l.length*10+j-(off+l.length*10)=j by omega];have hs:j<(aA f x).size:=hj;simp[hs]
  ·exact(hb1.mono hbase).trans (below_setCells h1 _ _ _ (Below.refl _ _))
  ·rw[World.heap_setCells_other _ _ _ _ (by simp;omega) hne];exact hb1.block q hlt
 ·obtain⟨olds,eo⟩:∃olds,olds=cellsL l.length 10 (fun i j=>c (off+i*10+j)):=⟨_,rfl⟩
  obtain⟨v',w',hrun,hown,hg⟩:=run_append_arg_grows (P:=Tryz.prog) (W.alloc (.cells (aA f x) 141)) 187 187 141 i0 _ 10 96 Tryz.underlying187 hi hz0 hz1 hz2 rfl (by omega) ⟨g,off,none⟩ l.length cap olds (by rw[eo,cellsL_length]) (fun j u hj=>by
   rw[Addr.add_lit,cell_of_row _ g _ _ _ _ hcs];rw[eo] at hj;have hjl:j<l.length*10:=(by have:=(List.getElem?_eq_some_iff.1 hj).1;rwa [cellsL_length] at this)
   rw[hcc _ (by omega)];simp[cellsL,hjl] at hj;rw[←hj,show off+j/10*10+j%10=off+j by omega]) ⟨W.heap.size,0,none⟩ 1 1 (aA f x).toList rfl (one_ar hlast) (by omega) (by unfold maxLen;omega) (by omega)
  obtain⟨ho1,ho2⟩:=hown;rcases ho2 with⟨rfl,e0⟩ | ⟨g',cap',cur,rfl,hg',hh,hnc,hm,hs,ht⟩
  ·omega
  ·have hg2:W.heap.size+1≤g':=(by simpa using hg')
   refine⟨g',0,cap',w',hrun,⟨by omega,by simp;omega,cur.size,fun j=>cur.getD j (.int .i64 0),⟨cur,hh,rfl,fun i hi=>by simp[hi]⟩,by omega,fun i hi j hj => ?_⟩,Or.inr (by omega),?_,fun q hne hlt => ?_⟩
   ·simp only[List.length_append,List.length_cons,List.length_nil] at hi;have hk:i*10+j<(l.length+1)*10:=(by omega)
    have h3:(cur.toList.take ((l.length+1)*10))[i*10+j]?=(olds++(aA f x).toList)[i*10+j]?:=(by rw[ht])
    rw[List.getElem?_take_of_lt hk,Array.getElem?_toList] at h3;have hcz:i*10+j<cur.size:=(by omega)
    have h6:some (cur.getD (0+i*10+j) (.int .i64 0))=cur[i*10+j]?:=by
     rw[Nat.zero_add];simp[hcz]
    show _=some (cur.getD (0+i*10+j) (.int .i64 0));rw[h6,h3];have hol:olds.length=l.length*10:=(by rw[eo,cellsL_length])
    by_cases e:i<l.length
    ·rw[List.getElem?_append_left (by omega),aat_left l _ i e,h5 i e j hj,eo];have:i*10+j<l.length*10:=by omega
     simp[cellsL,this];rw[show(i*10+j)/10=i by omega,Nat.mod_eq_of_lt hj]
    ·obtain rfl:i=l.length:=by omega
     rw[List.getElem?_append_right (by omega),aat_last,hol,show l.length*10+j-l.length*10=j by omega,Array.getElem?_toList]
   ·exact(hb1.mono hbase).grown hg (by simp;omega) (fun k hk=>by cases hk)
   ·rw[hg.block q (by simp;omega) (by simp)];exact hb1.block q hlt
theorem one_seen {W:World}{g:Nat}{f:F}{x:AV}(h:W.heap[g]?=some (.cells (sA f x) 97)):CRow W (some ⟨g,0,none⟩) 1 1 9 (fun _=>sC f x):=by
 refine⟨Nat.le_refl _,fun _=>⟨g,0,rfl,(gSm.1 h).1,fun i hi j hj => ?_⟩⟩;obtain rfl:i=0:=by omega
 rw[show 0+0*9+j=j by omega,cell_of_row W g j _ _ _ h];have hs:j<(sA f x).size:=hj;simp[sC,hs]
theorem more_s (base:Nat) (W:World) (v:Value) (f:F) (l:List AV) (x:AV) (ho:W.ownsRow base 97 9 v l.length (cellsL l.length 9 (fun i=>sC f (aat l i)))) (hl:l.length≤100000) (hbase:base≤W.heap.size) :
  ∃a c W2,runAppS v (.slice (some ⟨W.heap.size,0,none⟩) 1 1) (W.alloc (.cells (sA f x) 97)) (.slice a (l.length+1) c) W2∧W2.ownsRow base 97 9 (.slice a (l.length+1) c) (l++[x]).length (cellsL (l++[x]).length 9 (fun i=>sC f (aat (l++[x]) i)))∧Below base W W2∧(∀(q:Nat) (cur:Array Value) (ty:TypeId),W.heap[q]?=some (Obj.cells cur ty (0,0))→ty≠97→W2.heap[q]?=some (Obj.cells cur ty (0,0))):=by
 have hb1:=bA1 W (.cells (sA f x) 97);have ho1:=ownsC_below ho hb1;obtain⟨a1,c1,w',r,o,b,q⟩:=append_c (W.alloc (.cells (sA f x) 97)) 86 97 _ 9 88 Tryz.underlying86 infoSe rfl (by omega) base v l.length _ ho1 (some ⟨W.heap.size,0,none⟩) 1 1 (fun _=>sC f x) (fun _ _=>sC_one _ _ _) (one_seen (heap_alloc_last W _)) (fun h=>by cases h) (by unfold maxLen;omega) (by omega) (by have:=hb1.size;omega);have e:l.length+1=(l++[x]).length:=(by simp)
 refine⟨a1,c1,w',r,?_,(hb1.mono hbase).trans b,fun g cur ty hg hty => ?_⟩
 ·rw[←e];rw[cellsL_congr (l.length+1) 9 _ (fun i=>sC f (aat (l++[x]) i)) (fun i hi => ?_)] at o
  ·exact o
  ·unfold catC;by_cases q:i<l.length
   ·rw[if_pos q,aat_left l _ i q]
   ·obtain rfl:i=l.length:=by omega
    rw[if_neg q,aat_last]
 ·have hg1:=keep hg hb1;refine(q g (gSm.1 hg1).1 (fun hv => ?_)).trans hg1;obtain⟨c2,h2⟩:=owns_type ho1 hv.symm;rw[hg1] at h2;injection h2 with h2;injection h2 with _ h2;exact hty h2
end
section
open Go.RowKit
open Pl (Net)
open Bk (E at')
open Rl (G gat F R O)
def Ty (W W':World) (e:TypeId):Prop:=∀(q:Nat) (cur:Array Value),W.heap[q]?=some (Obj.cells cur e (0,0))→W'.heap[q]?=some (Obj.cells cur e (0,0))
theorem Ty.owns {W W':World}{base e k n:Nat}{v:Value}{xs:List Value}(t:Ty W W' e) (h:W.ownsRow base e k v n xs):W'.ownsRow base e k v n xs:=by
 obtain⟨h1,h2⟩:=h;refine⟨h1,?_⟩;rcases h2 with h2 | ⟨g,cap,cur,hv,hg,hh,r⟩
 ·exact Or.inl h2
 ·exact Or.inr ⟨g,cap,cur,hv,hg,t g cur hh,r⟩
theorem Ty.below {W W':World}(e:TypeId) (h:Bl W W'):Ty W W' e:=fun _ _ hq=>keep hq h
theorem Ty.but {W W':World}{g:Nat}{cs:Array Value}{ty:TypeId}{fr:Nat×Nat}(hg:W.heap[g]?=some (.cells cs ty fr)) (h:∀q,q≠g→q<W.heap.size→W'.heap[q]?=W.heap[q]?) (e:TypeId) (hne:e≠ty):Ty W W' e:=fun q cur hq=>by
 refine(h q (fun c => ?_) (gSm.1 hq).1).trans hq;subst c;rw[hg] at hq;injection hq with hq;injection hq with _ hq;exact hne hq.symm
theorem Ty.dt {W W':World}{base:Nat}{f:F}{x:OV}(t:Ty W W' 5) (h:Dt W base f x):Dt W' base f x:=by
 rcases h with h | h
 ·exact Or.inl h
 ·exact Or.inr (t.owns h)
structure BkO (W:World) (b0 g K:Nat) (bks:Nat→List E) (bo:Nat→Option Addr) (bc:Nat→Nat):Prop where
 row:W.heap[g]?=some (.cells (rowC K 1 (fun i _=>.slice (bo i) (bks i).length (bc i))) 186)
 each:∀i,i<K→OwnE W b0 (.slice (bo i) (bks i).length (bc i)) (bks i)∧(bks i).length≤9223372036854775807
theorem BkO.bk {W:World}{b0 g K:Nat}{bks:Nat→List E}{bo:Nat→Option Addr}{bc:Nat→Nat}(h:BkO W b0 g K bks bo bc):BkW W g K bks bo bc :=
 ⟨h.row,fun i hi=>by
  obtain⟨h1,h2⟩:=h.each i hi;obtain⟨a,c,e,h3,h4,_⟩:=h1.el;injection e with e1 _ e2;subst e1 e2;exact⟨h3,h4,h2⟩⟩
theorem BkO.ty {W W':World}{b0 g K:Nat}{bks:Nat→List E}{bo:Nat→Option Addr}{bc:Nat→Nat}(h:BkO W b0 g K bks bo bc) (t1:Ty W W' 186) (t2:Ty W W' 291):BkO W' b0 g K bks bo bc :=
 ⟨t1 _ _ h.row,fun i hi=>⟨t2.owns (h.each i hi).1,(h.each i hi).2⟩⟩
theorem BkO.put {W W':World}{b0 g K:Nat}{bks:Nat→List E}{bo:Nat→Option Addr}{bc:Nat→Nat}(h:BkO W b0 g K bks bo bc) {i:Nat}{a:Option Addr}{c:Nat}{l:List E}(hb:OwnE W' b0 (.slice a l.length c) l) (hg:W.grownBy W' (some g))
  (hk:BkW W' g K (fun j=>if j=i then l else bks j) (fun j=>if j=i then a else bo j) (fun j=>if j=i then c else bc j)):BkO W' b0 g K (fun j=>if j=i then l else bks j) (fun j=>if j=i then a else bo j) (fun j=>if j=i then c else bc j):=by
 refine⟨hk.row,fun j hj=>⟨?_,(hk.each j hj).2.2⟩⟩;by_cases e:j=i
 ·simp only[if_pos e];exact hb
 ·simp only[if_neg e];exact(Ty.but h.row (fun q hne hq=>hg.block q hq (fun c=>hne (by simpa using c))) _ (by decide)).owns (h.each j hj).1
structure CM (w W:World) (b0 K gk:Nat) (f:F) (bks:Nat→List E) (bo:Nat→Option Addr) (bc:Nat→Nat) (so:Option Addr) (sc:Nat) (ss:List AV) (g off cap:Nat) (ws:List AV):Prop where
 row:W.ownsRow w.heap.size 97 9 (.slice so ss.length sc) ss.length (cellsL ss.length 9 (fun i=>sC f (aat ss i)))
 q:QAt W w.heap.size g off cap f ws
 dS:∀x∈ss,Dt W w.heap.size f x.v
 dW:∀x∈ws,Dt W w.heap.size f x.v
 bk:BkO W b0 gk K bks bo bc
 grow:w.grownBy W (some gk)
section
variable {w W W':World}{b0 K gk:Nat}{f:F}{bks:Nat→List E}{bo:Nat→Option Addr}{bc:Nat→Nat}{so:Option Addr}{sc:Nat}{ss:List AV}{g off cap:Nat}{ws:List AV}
theorem grown_low (h:w.grownBy W (some gk)) (hb:Bl W W'):w.grownBy W' (some gk):=⟨hb.os.trans h.os,hb.tape.trans h.tape,hb.output.trans h.output,Nat.le_trans h.size hb.size,fun i hi hne=>(hb.block i (Nat.lt_of_lt_of_le hi h.size)).trans (h.block i hi hne)⟩
theorem grown_base (h:w.grownBy W (some gk)) (hb:Below w.heap.size W W'):w.grownBy W' (some gk):=⟨hb.os.trans h.os,hb.tape.trans h.tape,hb.output.trans h.output,Nat.le_trans h.size hb.size,fun i hi hne=>(hb.block i hi).trans (h.block i hi hne)⟩
theorem CM.below (h:CM w W b0 K gk f bks bo bc so sc ss g off cap ws) (hb:Bl W W'):CM w W' b0 K gk f bks bo bc so sc ss g off cap ws :=
 ⟨ownsC_below h.row hb,h.q.below hb,fun x hx=>(Ty.below _ hb).dt (h.dS x hx),fun x hx=>(Ty.below _ hb).dt (h.dW x hx),h.bk.ty (Ty.below _ hb) (Ty.below _ hb),grown_low h.grow hb⟩
theorem CM.tail {x:AV}(h:CM w W b0 K gk f bks bo bc so sc ss g off cap (x :: ws)):CM w W b0 K gk f bks bo bc so sc ss g (off+10) (cap-1) ws :=
 ⟨h.row,h.q.tail,h.dS,fun y hy=>h.dW y (List.mem_cons_of_mem _ hy),h.bk,h.grow⟩
theorem CM.tail1 {x:AV}{off1:Nat}(h:CM w W b0 K gk f bks bo bc so sc ss g off cap (x :: ws)) (h1:cap=1→off1=off) (h2:cap≠1→off1=off+10):CM w W b0 K gk f bks bo bc so sc ss g off1 (cap-1) ws:=by
 by_cases e:cap=1
 ·rw[h1 e];have ht:=h.tail;refine⟨ht.row,?_,ht.dS,ht.dW,ht.bk,ht.grow⟩;obtain⟨q1,q2,N,c,q3,q4,q5⟩:=h.q;simp only[List.length_cons] at q2;exact⟨q1,by omega,N,c,q3,by omega,fun i hi=>by omega⟩
 ·rw[h2 e];exact h.tail
theorem CM.book (h:CM w W b0 K gk f bks bo bc so sc ss g off cap ws) (hgk:gk<w.heap.size) {i:Nat}{a:Option Addr}{c:Nat}{l:List E}(hb:OwnE W' b0 (.slice a l.length c) l) (hg:W.grownBy W' (some gk))
  (hk:BkW W' gk K (fun j=>if j=i then l else bks j) (fun j=>if j=i then a else bo j) (fun j=>if j=i then c else bc j)):CM w W' b0 K gk f (fun j=>if j=i then l else bks j) (fun j=>if j=i then a else bo j) (fun j=>if j=i then c else bc j) so sc ss g off cap ws:=by
 have t:∀e,e≠186→Ty W W' e:=fun e he=>Ty.but h.bk.row (fun q hne hq=>hg.block q hq (fun c=>hne (by simpa using c))) e he;have hq:=h.q.lt;have hl:=h.q.1;exact⟨(t _ (by decide)).owns h.row,h.q.other (hg.block g hq (fun c=>by injection c with c;omega)),fun x hx=>(t _ (by decide)).dt (h.dS x hx),fun x hx=>(t _ (by decide)).dt (h.dW x hx),h.bk.put hb hg hk,h.grow.trans hg⟩
theorem CM.seen {W2:World}{so':Option Addr}{sc':Nat}{x:AV}(h:CM w W b0 K gk f bks bo bc so sc ss g off cap ws) (hx:Dt W w.heap.size f x.v) (ho:W2.ownsRow w.heap.size 97 9 (.slice so' (ss.length+1) sc') (ss++[x]).length (cellsL (ss++[x]).length 9 (fun i=>sC f (aat (ss++[x]) i)))) (hb:Below w.heap.size W W2) (ht:∀(q:Nat) (cur:Array Value) (ty:TypeId),W.heap[q]?=some (Obj.cells cur ty (0,0))→ty≠97→W2.heap[q]?=some (Obj.cells cur ty (0,0))) :
  CM w W2 b0 K gk f bks bo bc so' sc' (ss++[x]) g off cap ws:=by
 have t:∀e,e≠97→Ty W W2 e:=fun e he q cur hq=>ht q cur e hq he;obtain⟨cs,hq⟩:=h.q.type;have e:(ss++[x]).length=ss.length+1:=(by simp)
 refine⟨by rw[←e] at ho;exact ho,h.q.other ((ht g cs _ hq (by decide)).trans hq.symm),fun y hy => ?_,fun y hy=>(t _ (by decide)).dt (h.dW y hy),h.bk.ty (t _ (by decide)) (t _ (by decide)),grown_base h.grow hb⟩;rcases List.mem_append.1 hy with hy | hy
 ·exact(t _ (by decide)).dt (h.dS y hy)
 ·obtain rfl:y=x:=by simpa using hy
  exact(t _ (by decide)).dt hx
theorem CM.more {W2:World}{g' off' cap':Nat}{x:AV}(h:CM w W b0 K gk f bks bo bc so sc ss g off cap ws) (hx:Dt W w.heap.size f x.v) (hq:QAt W2 w.heap.size g' off' cap' f (ws++[x])) (hb:Below w.heap.size W W2) (ht:∀q,q≠g→q<W.heap.size→W2.heap[q]?=W.heap[q]?) :
  CM w W2 b0 K gk f bks bo bc so sc ss g' off' cap' (ws++[x]):=by
 obtain⟨cs,hg⟩:=h.q.type;have t:∀e,e≠141→Ty W W2 e:=fun e he=>Ty.but hg ht e he;refine⟨(t _ (by decide)).owns h.row,hq,fun y hy=>(t _ (by decide)).dt (h.dS y hy),fun y hy => ?_,h.bk.ty (t _ (by decide)) (t _ (by decide)),grown_base h.grow hb⟩;rcases List.mem_append.1 hy with hy | hy
 ·exact(t _ (by decide)).dt (h.dW y hy)
 ·obtain rfl:y=x:=by simpa using hy
  exact(t _ (by decide)).dt hx
theorem Dt.row {x:OV}{base:Nat}(h:Dt W base f x) (hf:ByteRow W f.ao f.n f.cap f.bs) (hn:NilOk f.ao f.n f.cap):ByteRow W x.da f.n x.dc f.bs∧NilOk x.da f.n x.dc:=by
 rcases h with⟨e1,e2⟩ | h
 ·rw[e1,e2];exact⟨hf,hn⟩
 ·obtain⟨a,c,e,h1,_,h2,_⟩:=owns_row h;injection e with e1 _ e2;subst e1 e2;exact⟨h1,h2⟩
end
end
end Go.Proofs.YtflghpnpjmodaaaGreatDoor
