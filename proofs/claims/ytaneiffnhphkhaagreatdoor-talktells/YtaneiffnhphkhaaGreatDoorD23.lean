/- Plain: the document's plan: who is reached from whom, told by the least one; how far all are from the root, link by link -/
import Derived.Test.YtaneiffnhphkhaaGreatDoorD03
import Derived.Test.YtaneiffnhphkhaaGreatDoorD11
import Derived.Test.YtaneiffnhphkhaaGreatDoorD04
import Derived.Test.YtaneiffnhphkhaaGreatDoorD15
import Derived.Test.YtaneiffnhphkhaaGreatDoorD22
import Derived.Test.YtaneiffnhphkhaaGreatDoorD09
import Derived.Test.YtaneiffnhphkhaaGreatDoorD10
import Derived.Test.YtaneiffnhphkhaaGreatDoorD19
import Derived.Test.YtaneiffnhphkhaaGreatDoorD18
import Derived.Test.YtaneiffnhphkhaaGreatDoorD08
import Derived.ProofKit
import Derived.OpenShut
import Derived.ChangeOld
import Derived.SizedLaws
import Derived.Deep.DeepHandedRow
import Derived.Lib.LaidTab
import Derived.Stop.LaidErr
import Derived.Deep.SlicePairs
import Derived.Deep.Slices
set_option maxRecDepth 100000
set_option maxHeartbeats 40000000
namespace Go.Proofs.YtaneiffnhphkhaaGreatDoor
section
open Go.ChangeShapes Go.WideShapes Go.ChangeAt Go.RowKit
theorem gTurns:Tryz.prog.globalNamed "hedgerow/md5.turns" = some 1:=by kernel_rfl
theorem gTurnsType:(Tryz.prog.globals[1]?).map (·.type)=some 245:=by kernel_rfl
theorem gAdds:Tryz.prog.globalNamed "hedgerow/md5.addends" = some 0:=by kernel_rfl
theorem gAddsType:(Tryz.prog.globals[0]?).map (·.type)=some 241:=by kernel_rfl
theorem cells52:Tryz.prog.cellsOf 241=64:=by kernel_rfl
theorem cells55:Tryz.prog.cellsOf 244=4:=by kernel_rfl
theorem cells32:Tryz.prog.cellsOf 193=1:=by kernel_rfl
theorem cells3:Tryz.prog.cellsOf 3=1:=by kernel_rfl
theorem tabs_of {W:World}(h:laidMetH Tryz.prog [("hedgerow/md5.turns",Rows.laid_hedgerow_md5_turns),("hedgerow/md5.addends",Rows.laid_hedgerow_md5_addends)] W):Tabs W:=by
 have h':laidMet Tryz.prog [("hedgerow/md5.turns",Rows.laid_hedgerow_md5_turns),("hedgerow/md5.addends",Rows.laid_hedgerow_md5_addends)] W:=h;refine⟨fun i hi => ?_,fun i hi => ?_⟩
 ·have ht:laidMet Tryz.prog [("hedgerow/md5.addends",Lib.tabData .u32 Md.tab)] W:=laidMet.tail h';have:=Lib.tabIs_of_head (rest:=[]) gAdds gAddsType Tryz.underlying241 Tryz.underlying193 cells32 cells52 ht;exact this.cell gAdds i hi
 ·obtain⟨ps,⟨g',t',cs,fuel,p,q,hg',ht',hvar,hd,_,_⟩,_⟩:=h';obtain rfl:=Option.some.inj (gTurns.symm.trans hg');obtain rfl:=Option.some.inj (gTurnsType.symm.trans ht');obtain⟨xs,m,rfl,hx,hl,hxl,hall⟩:=DataW.trod_array Tryz.underlying245 hd;have hx1:xs.map (·.1)=[Lib.tabData .i64 [7,12,17,22],Lib.tabData .i64 [5,9,14,20],Lib.tabData .i64 [4,11,16,23],Lib.tabData .i64 [6,10,15,21]]:=by
   have:=congrArg Prod.fst hx;simp only[Rows.laid_hedgerow_md5_turns] at this;exact(DataW.agg.inj this).symm
  have row:∀r zs,r<4→(xs.map (·.1))[r]?=some (Lib.tabData .i64 zs)→(cs.toList.drop (r*4)).take 4=zs.map fun z=>Value.int .i64 z:=by
   intro r zs hr hz;have h1:=hall r hr;rw[cells55] at h1;simp only[List.getElem?_map,Option.map_eq_some_iff] at hz;obtain⟨y,hy,hy1⟩:=hz;rw[hy] at h1;obtain⟨y1,y2⟩:=y;simp only at hy1;subst hy1;exact Lib.cells_of_tab Tryz.underlying244 Tryz.underlying3 cells3 cells55 h1
  have cell:=World.var?_cell gTurns hvar i;rw[cell];have hget:∀r j,j<4→cs[r*4+j]?=((cs.toList.drop (r*4)).take 4)[j]?:=by
   intro r j hj;rw[List.getElem?_take_of_lt hj,List.getElem?_drop,Array.getElem?_toList]
  rcases(show(∃j,j<4∧i=0*4+j)∨(∃j,j<4∧i=1*4+j)∨(∃j,j<4∧i=2*4+j)∨(∃j,j<4∧i=3*4+j) from by
   by_cases h1:i<4
   ·exact Or.inl ⟨i,h1,by omega⟩
   ·by_cases h2:i<8
    ·exact Or.inr (Or.inl ⟨i-4,by omega,by omega⟩)
    ·by_cases h3:i<12
     ·exact Or.inr (Or.inr (Or.inl ⟨i-8,by omega,by omega⟩))
     ·exact Or.inr (Or.inr (Or.inr ⟨i-12,by omega,by omega⟩))) with⟨j,hj,rfl⟩ | ⟨j,hj,rfl⟩ | ⟨j,hj,rfl⟩ | ⟨j,hj,rfl⟩
  ·rw[hget 0 j hj,row 0 [7,12,17,22] (by omega) (by rw[hx1];rfl)];rcases(show j=0∨j=1∨j=2∨j=3 by omega) with rfl | rfl | rfl | rfl<;>rfl
  ·rw[hget 1 j hj,row 1 [5,9,14,20] (by omega) (by rw[hx1];rfl)];rcases(show j=0∨j=1∨j=2∨j=3 by omega) with rfl | rfl | rfl | rfl<;>rfl
  ·rw[hget 2 j hj,row 2 [4,11,16,23] (by omega) (by rw[hx1];rfl)];rcases(show j=0∨j=1∨j=2∨j=3 by omega) with rfl | rfl | rfl | rfl<;>rfl
  ·rw[hget 3 j hj,row 3 [6,10,15,21] (by omega) (by rw[hx1];rfl)];rcases(show j=0∨j=1∨j=2∨j=3 by omega) with rfl | rfl | rfl | rfl<;>rfl
def rowPut (cs:Array Value):Obj→Obj
 | .cells _ t frozen=>.cells cs t frozen
 | o=>o
def laidW (w:World):World :=
 { w with heap:=(w.heap.modify 0 (rowPut (Md.tab.map (Value.int .u32)).toArray)).modify 1 (rowPut (Md.trn.map (Value.int .i64)).toArray) }
theorem cellsWay:Tryz.prog.cellsOf 81=2:=by kernel_rfl
theorem cellsInt:Tryz.prog.cellsOf 3=1:=by kernel_rfl
theorem ways_cell {H:Type}{enc:TypeId×Value→H}{W:World}{v:Value}{fuel:Nat}{x:DataW H×List MemPlace}
  (hf:DataW.trod enc Tryz.prog W 0 (fun _=>true) true fuel 70 [v]=some x) :
  ∃ao n cap vs ts,v=.slice ao n cap∧WayRow W ao n cap vs ts∧n≤9223372036854775807:=by
 rcases Deep.open_slice_pairs Tryz.underlying70 Tryz.underlying81 cellsWay rfl rfl cellsInt cellsInt hf with⟨hcs,_⟩ | ⟨a,len,cap,m,k,V0,V1,D0,D1,P0,P1,hcs,_,hl,hm,hmm,_,hx⟩
 ·simp at hcs;subst hcs;exact⟨none,0,0,fun _=>0,fun _=>0,rfl,⟨Nat.le_refl _,fun h=>absurd h (by omega)⟩,by omega⟩
 ·simp at hcs;subst hcs;rw[if_pos rfl] at hmm;have each:∀i,i<len→∃q:Int×Int,V0 i=.int .i64 q.1∧V1 i=.int .i64 q.2:=by
   intro i hi;obtain⟨_,_,t0,t1⟩:=hx i (by omega);obtain⟨y0,e0,_,_⟩:=DataW.trod_int Tryz.underlying3 t0;obtain⟨y1,e1,_,_⟩:=DataW.trod_int Tryz.underlying3 t1;exact⟨(y0,y1),one_of e0,one_of e1⟩
  obtain⟨q,hq⟩:=Deep.choose_lt each;refine⟨some a,len,cap,fun i=>(q i).1,fun i=>(q i).2,rfl,⟨hl,fun hp => ?_⟩,by unfold maxLen at hm;omega⟩;obtain⟨b,off,spot⟩:=a;have hspot:spot=none:=by
   have h0:=(hx 0 (by omega)).1;simpa[Addr.add] using World.cell?_spot h0
  subst hspot;have hc:∀i,i<len→W.cell? ⟨b,off+i*2,none⟩=some (.int .i64 (q i).1)∧W.cell? ⟨b,off+i*2+1,none⟩=some (.int .i64 (q i).2):=by
   intro i hi;obtain⟨c0,c1,_,_⟩:=hx i (by omega);rw[add_row,(hq i hi).1] at c0;rw[add_row,(hq i hi).2] at c1;exact⟨c0,c1⟩
  exact⟨b,off,rfl,block_lt_of_cell (hc 0 hp).1,hc⟩
end
section
open Go.ChangeShapes Go.WideShapes Go.ChangeAt Go.RowKit
open Pl (Br Net Pc Lk En)
theorem cellsNt:Tryz.prog.cellsOf 25=2:=by kernel_rfl
theorem cellsBg:Tryz.prog.cellsOf 74=5:=by kernel_rfl
theorem cellsLk:Tryz.prog.cellsOf 83=6:=by kernel_rfl
theorem plist2 {α:Type}{l:List α}(h:l.length=2):∃c0 c1,l=[c0,c1]:=by
 match l,h with
 | [c0,c1],_=>exact⟨c0,c1,rfl⟩
theorem plist3 {α:Type}{l:List α}(h:l.length=3):∃c0 c1 c2,l=[c0,c1,c2]:=by
 match l,h with
 | [c0,c1,c2],_=>exact⟨c0,c1,c2,rfl⟩
theorem plist5 {α:Type}{l:List α}(h:l.length=5):∃c0 c1 c2 c3 c4,l=[c0,c1,c2,c3,c4]:=by
 match l,h with
 | [c0,c1,c2,c3,c4],_=>exact⟨c0,c1,c2,c3,c4,rfl⟩
theorem plist6 {α:Type}{l:List α}(h:l.length=6):∃c0 c1 c2 c3 c4 c5,l=[c0,c1,c2,c3,c4,c5]:=by
 match l,h with
 | [c0,c1,c2,c3,c4,c5],_=>exact⟨c0,c1,c2,c3,c4,c5,rfl⟩
theorem rows_cell {α:Type} [Inhabited α] {H:Type}{enc:TypeId×Value→H}{W:World}{t e:TypeId}{k:Nat}(hk:0<k) (ht:Tryz.prog.underlying t=some (.slice e)) (hc:Tryz.prog.cellsOf e=k) (C:α→Nat→Value) (Q:α→Prop)
  (elem:∀fuel cs x,cs.length=k→DataW.trod enc Tryz.prog W 0 (fun _=>true) true fuel e cs=some x→∃a:α,(∀j,j<k→cs[j]?=some (C a j))∧Q a)
  {v:Value}{fuel:Nat}{x:DataW H×List MemPlace}(hf:DataW.trod enc Tryz.prog W 0 (fun _=>true) true fuel t [v]=some x) :
  ∃(ao:Option Addr) (n cap:Nat) (f:Nat→α),v=.slice ao n cap∧CRow W ao n cap k (fun i=>C (f i))∧NilOk ao n cap∧n≤9223372036854775807∧∀i,i<n→Q (f i):=by
 rcases Deep.open_slice ht hf with⟨hcs,_⟩ | ⟨a,len,cap,m,q,D,Pl,hcs,_,hl,hm,hmm,_,hx⟩
 ·simp at hcs;subst hcs;exact⟨none,0,0,fun _=>default,rfl,CRow.none _ _ _ _ _,fun _=>⟨rfl,rfl⟩,by omega,fun i hi=>absurd hi (by omega)⟩
 ·simp at hcs;subst hcs;rw[if_pos rfl] at hmm;have each:∀i,i<len→∃t:α,(∀j,j<k→W.cell? (a.add (i*k+j))=some (C t j))∧Q t:=by
   intro i hi;obtain⟨cs',h1,h2⟩:=hx i (by omega);rw[hc] at h1;obtain⟨_,hlen,hcell⟩:=World.cells?_some h1;obtain⟨t,h3,h4⟩:=elem _ _ _ hlen h2;refine⟨t,fun j hj => ?_,h4⟩;have kj:=hcell j (by omega);rw[Deep.add_add] at kj;rw[kj];exact h3 j hj
  obtain⟨f,hq⟩:=Deep.choose_lt each;refine⟨some a,len,cap,f,rfl,⟨hl,fun hp => ?_⟩,(fun e=>by cases e),by unfold maxLen at hm;omega,fun i hi=>(hq i hi).2⟩;obtain⟨b,off,spot⟩:=a;have hspot:spot=none:=by
   have h0:=(hq 0 (by omega)).1 0 (by omega);simpa[Addr.add] using World.cell?_spot h0
  subst hspot;have hc:∀i,i<len→∀j,j<k→_:=fun i hi j hj=>(hq i hi).1 j hj;simp only[add_row] at hc;refine⟨b,off,rfl,block_lt_of_cell (hc 0 hp 0 hk),fun i hi j hj => ?_⟩;have:=hc i hi j hj;rw[←Nat.add_assoc] at this;exact this
theorem ints_cell {H:Type}{enc:TypeId×Value→H}{W:World}{v:Value}{fuel:Nat}{x:DataW H×List MemPlace}
  (hf:DataW.trod enc Tryz.prog W 0 (fun _=>true) true fuel 59 [v]=some x) :
  ∃(ao:Option Addr) (n cap:Nat) (f:Nat→Int),v=.slice ao n cap∧IRow W ao n cap f∧NilOk ao n cap∧n≤9223372036854775807:=by
 obtain⟨ao,n,cap,f,h1,h2,h3,h4,_⟩:=rows_cell (by omega) Tryz.underlying59 cellsInt (fun(x:Int) _=>.int .i64 x) (fun _=>True) (fun fuel cs x hl h=>by
  obtain⟨y,e,_,_⟩:=DataW.trod_int Tryz.underlying3 h;exact⟨y,fun j hj=>by
   obtain rfl:j=0:=by omega
   rw[e];rfl,trivial⟩) hf
 exact⟨ao,n,cap,f,h1,h2,h3,h4⟩
theorem links_cell {H:Type}{enc:TypeId×Value→H}{W:World}{v:Value}{fuel:Nat}{x:DataW H×List MemPlace}
  (hf:DataW.trod enc Tryz.prog W 0 (fun _=>true) true fuel 23 [v]=some x) :
  ∃(ao:Option Addr) (n cap:Nat) (f:Nat→Lk),v=.slice ao n cap∧LRow W ao n cap f∧NilOk ao n cap∧n≤9223372036854775807∧∀i,i<n→(Lit.int .i64 (f i).a).wf=true∧(Lit.int .i64 (f i).pa).wf=true∧(Lit.int .i64 (f i).b).wf=true∧(Lit.int .i64 (f i).pb).wf=true:=by
 haveI:Inhabited Lk:=⟨⟨0,0,0,0,0,false⟩⟩
 refine rows_cell (by omega) Tryz.underlying23 cellsLk lkC (fun l=>(Lit.int .i64 l.a).wf=true∧(Lit.int .i64 l.pa).wf=true∧(Lit.int .i64 l.b).wf=true∧(Lit.int .i64 l.pb).wf=true) (fun fuel cs x hl h => ?_) hf;obtain⟨c0,c1,c2,c3,c4,c5,rfl⟩:=plist6 hl;obtain⟨xs,m,_,_,_,hlen,hfs⟩:=DataW.trod_struct Tryz.underlying83 h;obtain⟨y0,y1,y2,y3,y4,y5,rfl⟩:=plist6 (by simpa using hlen);obtain⟨a,e0,_,w0⟩:=DataW.trod_int Tryz.underlying3 (hfs 0 _ rfl);obtain⟨pa,e1,_,w1⟩:=DataW.trod_int Tryz.underlying3 (hfs 1 _ rfl);obtain⟨b,e2,_,w2⟩:=DataW.trod_int Tryz.underlying3 (hfs 2 _ rfl);obtain⟨pb,e3,_,w3⟩:=DataW.trod_int Tryz.underlying3 (hfs 3 _ rfl);obtain⟨co,e4,_,_⟩:=DataW.trod_int Tryz.underlying3 (hfs 4 _ rfl);obtain⟨up,e5,_⟩:=DataW.trod_bool Tryz.underlying4 (hfs 5 _ rfl);refine⟨⟨a,pa,b,pb,co,up⟩,fun j hj => ?_,w0,w1,w2,w3⟩;rw[one_of e0,one_of e1,one_of e2,one_of e3,one_of e4,one_of e5];rcases(by omega:j=0∨j=1∨j=2∨j=3∨j=4∨j=5) with q | q | q | q | q | q<;>subst q<;>rfl
theorem region_cells {H:Type}{enc:TypeId×Value→H}{W:World}{c0 c1 c2:Value}{fuel:Nat}{x:DataW H×List MemPlace}
  (hf:DataW.trod enc Tryz.prog W 0 (fun _=>true) true fuel 72 [c0,c1,c2]=some x) :
  ∃r:Rg.Reg,c0=.string r.s∧c1=.int .i64 r.rev∧c2=.slice r.ao r.n r.cap∧r.at' W∧r.n≤9223372036854775807:=by
 obtain⟨xs,m,_,_,_,hlen,hfs⟩:=DataW.trod_struct Tryz.underlying72 hf;obtain⟨y0,y1,y2,rfl⟩:=plist3 (by simpa using hlen);have g2:=hfs 2 _ rfl;obtain⟨s,e0,_⟩:=DataW.trod_string Tryz.underlying9 (hfs 0 _ rfl);obtain⟨rev,e1,_,_⟩:=DataW.trod_int Tryz.underlying3 (hfs 1 _ rfl);obtain⟨ao,n,cap,vs,ts,e2,hr,hn⟩:=ways_cell g2;exact⟨⟨s,rev,ao,n,cap,vs,ts⟩,one_of e0,one_of e1,e2,hr,hn⟩
end
section
open Go.ChangeShapes Go.WideShapes Go.ChangeAt Go.RowKit
open Tk (Dn)
theorem cellsDo:Tryz.prog.cellsOf 45=4:=by kernel_rfl
theorem bytesDo:Tryz.prog.bytesOf 45=32:=by kernel_rfl
theorem plist4 {α:Type}{l:List α}(h:l.length=4):∃c0 c1 c2 c3,l=[c0,c1,c2,c3]:=by
 match l,h with
 | [c0,c1,c2,c3],_=>exact⟨c0,c1,c2,c3,rfl⟩
theorem dos_cell {H:Type}{enc:TypeId×Value→H}{W:World}{v:Value}{fuel:Nat}{x:DataW H×List MemPlace}
  (hf:DataW.trod enc Tryz.prog W 0 (fun _=>true) true fuel 26 [v]=some x) :
  ∃(ao:Option Addr) (n cap:Nat) (ds:Nat→Dn),v=.slice ao n cap∧DRow W ao n cap ds∧NilOk ao n cap∧n≤9223372036854775807∧∀i,i<n→True:=by
 haveI:Inhabited Dn:=⟨⟨0,0,0,0⟩⟩
 refine rows_cell (by omega) Tryz.underlying26 cellsDo dnC (fun _=>True) (fun fuel cs x hl h => ?_) hf;obtain⟨c0,c1,c2,c3,rfl⟩:=plist4 hl;obtain⟨xs,m,_,_,_,hlen,hfs⟩:=DataW.trod_struct Tryz.underlying45 h;obtain⟨y0,y1,y2,y3,rfl⟩:=plist4 (by simpa using hlen);obtain⟨a,e0,_,_⟩:=DataW.trod_int Tryz.underlying3 (hfs 0 _ rfl);obtain⟨b,e1,_,_⟩:=DataW.trod_int Tryz.underlying3 (hfs 1 _ rfl);obtain⟨c,e2,_,_⟩:=DataW.trod_int Tryz.underlying3 (hfs 2 _ rfl);obtain⟨d,e3,_,_⟩:=DataW.trod_int Tryz.underlying3 (hfs 3 _ rfl);refine⟨⟨a,b,c,d⟩,fun j hj => ?_,trivial⟩;rw[one_of e0,one_of e1,one_of e2,one_of e3];rcases(by omega:j=0∨j=1∨j=2∨j=3) with q | q | q | q<;>subst q<;>rfl
theorem dos_many {H:Type}{enc:TypeId×Value→H}{W:World}{ao:Option Addr}{n cap:Nat}{fuel:Nat}{x:DataW H×List MemPlace}
  (hf:DataW.trod enc Tryz.prog W 0 (fun _=>true) true fuel 26 [.slice ao n cap]=some x) (hz:(x.1.weights Tryz.prog 26).all (·≤reachBytes)=true):n*32≤reachBytes:=by
 rcases Deep.open_slice Tryz.underlying26 hf with⟨hcs,_⟩ | ⟨a,len,cap',m,k,D,Pl,hcs,_,hl,hm,hmm,hx,_⟩
 ·simp at hcs;omega
 ·simp at hcs;obtain⟨_,rfl,rfl⟩:=hcs;rw[if_pos rfl] at hmm;rw[hx] at hz;unfold DataW.weights at hz;rw[Tryz.underlying26] at hz;simp only[List.all_cons,Bool.and_eq_true,decide_eq_true_eq,List.length_map,List.length_range,bytesDo] at hz;have:=hz.1;omega
theorem dos_in {H:Type}{enc:TypeId×Value→H}{W:World}{base:Nat}{v:Value}{D:DataW H}{ps:List MemPlace}
  (hv:Value.okWide Tryz.prog W .any base 26 v) (h:DataW.Trod enc Tryz.prog W 0 (fun _=>true) true 26 v D ps) :
  ∃(ao:Option Addr) (n cap:Nat) (ds:Nat→Dn),v=.slice ao n cap∧DRow W ao n cap ds∧NilOk ao n cap∧n≤9223372036854775807∧((D.weights Tryz.prog 26).all (·≤reachBytes)=true→n*32≤reachBytes):=by
 obtain⟨a0,len0,cap0,rfl⟩:=okWide_slice Tryz.underlying26 hv;obtain⟨fuel,hf⟩:=h;obtain⟨ao,n,cap,ds,e,h1,h2,h3,_⟩:=dos_cell hf;have e2:=e;injection e2 with e3 e4 e5;subst e3 e4 e5;exact⟨_,_,_,ds,rfl,h1,h2,h3,fun hz=>dos_many hf hz⟩
end
section
open Go.ChangeShapes Go.WideShapes Go.ChangeAt Go.RowKit
open Pl (Br Net Pc Lk En)
theorem bridges_cell7 {H:Type}{enc:TypeId×Value→H}{W:World}{v:Value}{fuel:Nat}{x:DataW H×List MemPlace}
  (hf:DataW.trod enc Tryz.prog W 0 (fun _=>true) true fuel 22 [v]=some x) :
  ∃(ao:Option Addr) (n cap:Nat) (f:Nat→Br),v=.slice ao n cap∧BRow W ao n cap f∧NilOk ao n cap∧n≤9223372036854775807∧∀i,i<n→(f i).at' W∧(Lit.int .u64 (f i).addr).wf=true∧NilOk (f i).pao (f i).pn (f i).pcap:=by
 haveI:Inhabited Br:=⟨⟨0,none,0,0,fun _=>0,⟨⟨#[]⟩,0,none,0,0,fun _=>0,fun _=>0⟩⟩⟩
 refine rows_cell (by omega) Tryz.underlying22 cellsBg brC (fun b=>b.at' W∧(Lit.int .u64 b.addr).wf=true∧NilOk b.pao b.pn b.pcap) (fun fuel cs x hl h => ?_) hf;obtain⟨c0,c1,c2,c3,c4,rfl⟩:=plist5 hl;obtain⟨xs,m,_,_,_,hlen,hfs⟩:=DataW.trod_struct Tryz.underlying74 h;obtain⟨y0,y1,y2,rfl⟩:=plist3 (by simpa using hlen);obtain⟨a,e0,_,w0⟩:=DataW.trod_int Tryz.underlying56 (hfs 0 _ rfl);have g1:=hfs 1 _ rfl;have g2:=hfs 2 _ rfl;obtain⟨pao,pn,pcap,pv,e1,hp,hnil,hpn⟩:=ints_cell g1;obtain⟨r,e2,e3,e4,hr,hn⟩:=region_cells g2;refine⟨⟨a,pao,pn,pcap,pv,r⟩,fun j hj => ?_,⟨hp,hr,hpn,hn⟩,w0,hnil⟩;rw[one_of e0,e1,e2,e3,e4];rcases(by omega:j=0∨j=1∨j=2∨j=3∨j=4) with q | q | q | q | q<;>subst q<;>rfl
theorem net_in7 {H:Type}{enc:TypeId×Value→H}{W:World}{base:Nat}{v:Value}{D:DataW H}{ps:List MemPlace}
  (hv:Value.okWide Tryz.prog W .any base 25 v) (h:DataW.Trod enc Tryz.prog W 0 (fun _=>true) true 25 v D ps) :
  ∃n:Net,v=n.val∧n.at' W∧n.Wf∧NilOk n.bao n.K n.bcap∧NilOk n.lao n.L n.lcap∧∀i,i<n.K→NilOk (n.bs i).pao (n.bs i).pn (n.bs i).pcap:=by
 obtain⟨cs,rfl,hcs⟩:=okWide_struct Tryz.underlying25 hv;rw[cellsNt] at hcs;obtain⟨l⟩:=cs;obtain⟨c0,c1,rfl⟩:=plist2 (by simpa using hcs);obtain⟨fuel,hf⟩:=h;obtain⟨xs,m,_,hxy,_,hlen,hfs⟩:=DataW.trod_struct Tryz.underlying25 hf;obtain⟨y0,y1,rfl⟩:=plist2 (by simpa using hlen);have g0:=hfs 0 _ rfl;have g1:=hfs 1 _ rfl;simp only[Value.cells] at g0 g1;obtain⟨bao,K,bcap,bs,rfl,hb,hbi,hbn,hb2⟩:=bridges_cell7 g0;obtain⟨lao,L,lcap,ls,rfl,hl,hli,hln,hl2⟩:=links_cell g1;exact⟨⟨bao,K,bcap,bs,lao,L,lcap,ls⟩,rfl,⟨hb,fun i hi=>(hb2 i hi).1,hl,hbn,hln⟩,⟨fun i hi=>(hb2 i hi).2.1,hl2⟩,hbi,hli,fun i hi=>(hb2 i hi).2.2⟩
end
section
open Go.RowKit
open Vc (V Of)
open Pl (En Lk Br Net)
open Tk (Md Mnd Cn Sc Dn)
theorem sizeMd:(Tryz.prog.info? 66).map (·.size)=some 9:=by kernel_rfl
def fmA (id:Int) (p r c:Value):Array Value:=#[.int .u64 id,.int .i64 0,.int .u64 id,.int .i64 0,.int .i64 0,.int .i64 (-1),p,r,c]
abbrev ZeroAt (w:World) (g n:Nat):Prop:=RlAt w g n (fun _=>0)
theorem choose_none (id:Int):Vc.chV id (fun _=>⟨0,0,0,⟨0,0,0,0⟩⟩) 0=⟨id,0,id,0⟩∧Vc.chA id (fun _=>⟨0,0,0,⟨0,0,0,0⟩⟩) 0=0∧Vc.chP id (fun _=>⟨0,0,0,⟨0,0,0,0⟩⟩) 0 = -1:=⟨rfl,rfl,rfl⟩
def FmW (w:World) (id:Int) (ao:Option Addr) (n cap:Nat) (e:Ending) (w':World):Prop :=
 ∃R C,e=.returned (.agg (fmA id (.slice ao n cap) (.slice (some ⟨R,0,none⟩) n n) (.slice (some ⟨C,0,none⟩) n n)))∧ZeroAt w' R n∧ZeroAt w' C n∧(w.heap.size≤R∧w.heap.size≤C)∧Bl w w'
structure FmC (w wx:World) (RB mb R C n:Nat) (ao:Option Addr) (cap:Nat):Prop where
 res:wx.heap[RB]?=some (.cells #[.int .u64 0,.int .i64 0,.int .u64 0,.int .i64 0,.int .i64 0,.int .i64 0,.slice none 0 0,.slice none 0 0,.slice none 0 0] 66)
 mnd:wx.heap[mb]?=some (.cells #[.int .u64 0,.int .i64 0,.int .u64 0,.int .i64 0,.int .i64 0,.int .i64 0,.slice ao n cap,.slice (some ⟨R,0,none⟩) n n,.slice (some ⟨C,0,none⟩) n n] 66)
 r:ZeroAt wx R n
 c:ZeroAt wx C n
 ne:mb≠RB∧R≠mb∧C≠mb∧R≠RB∧C≠RB
 le:w.heap.size≤RB∧w.heap.size≤mb∧w.heap.size≤R∧w.heap.size≤C
 low:Bl w wx
theorem alloc4 (w:World) (c0 c1 c2 c3:Array Value) (t0 t1 t2 t3:TypeId):((((w.alloc (.cells c0 t0)).alloc (.cells c1 t1)).alloc (.cells c2 t2)).alloc (.cells c3 t3)).heap[w.heap.size]?=some (.cells c0 t0)∧((((w.alloc (.cells c0 t0)).alloc (.cells c1 t1)).alloc (.cells c2 t2)).alloc (.cells c3 t3)).heap[w.heap.size+1]?=some (.cells c1 t1)∧((((w.alloc (.cells c0 t0)).alloc (.cells c1 t1)).alloc (.cells c2 t2)).alloc (.cells c3 t3)).heap[w.heap.size+1+1]?=some (.cells c2 t2)∧((((w.alloc (.cells c0 t0)).alloc (.cells c1 t1)).alloc (.cells c2 t2)).alloc (.cells c3 t3)).heap[w.heap.size+1+1+1]?=some (.cells c3 t3)∧Bl w ((((w.alloc (.cells c0 t0)).alloc (.cells c1 t1)).alloc (.cells c2 t2)).alloc (.cells c3 t3)):=by
 obtain⟨X,hX⟩:∃X,X=(w.alloc (.cells c0 t0)).alloc (.cells c1 t1):=⟨_,rfl⟩
 have hb:Bl w X:=(by rw[hX];exact bA2 _ _ _)
 have hs:X.heap.size=w.heap.size+1+1:=(by rw[hX];simp)
 have h0:X.heap[w.heap.size]?=some (.cells c0 t0):=(by rw[hX];exact heap_alloc2_old _ _ _)
 have h1:X.heap[w.heap.size+1]?=some (.cells c1 t1):=(by rw[hX];exact heap_alloc2_new _ _ _)
 have hb2:=bA2 X (.cells c2 t2) (.cells c3 t3);rw[←hX,←hs];exact⟨keep h0 hb2,keep h1 hb2,heap_alloc2_old _ _ _,heap_alloc2_new _ _ _,hb.trans (hb2.mono hb.size)⟩
theorem tfirst_any (id:Int) (ao:Option Addr) (n cap:Nat) (w:World) (hn:n≤1000) :
  Calls Tryz.prog 31 #[.int .u64 id,.slice ao n cap] w fun e w'=>FmW w id ao n cap e w':=by
 have hmk:∀W:World,(Instr.makeSlice 59 (.int .i64 (n:Int)) (.int .i64 (n:Int))).run Tryz.prog W=.ok (.slice (some ⟨W.heap.size,0,none⟩) n n) (W.alloc (.cells (rowC n 1 (fun _ _=>.int .i64 0)) 3)):=fun W=>make_rowD W 59 3 _ 1 8 n Tryz.underlying59 infoI (by omega) rfl hn (by omega) _ (fun _ j hj=>by rw[show j=0 by omega];rfl);have HCH:Hid (∀W,Calls Tryz.prog 55 #[.int .u64 id,.slice none 0 0] W fun e w'=>e=.returned (.tuple #[.agg #[.int .u64 id,.int .i64 0,.int .u64 id,.int .i64 0],.int .i64 0,.int .i64 (-1)])∧Hid (Bl W w')):=fun W=>by
  refine(vchoose_any id none 0 0 (fun _=>⟨0,0,0,⟨0,0,0,0⟩⟩) W (by omega) (CRow.none _ _ _ _ _)).mono ?_;rintro e w' ⟨rfl,h⟩;obtain⟨e1,e2,e3⟩:=choose_none id;rw[e1,e2,e3];exact⟨rfl,h⟩
 go_enter Tryz.func31,Tryz.ntmps31;obtain⟨RB,HRB⟩:∃RB,Hid (RB=w.heap.size):=⟨_,rfl⟩
 (go_wp2_with fail);go_cut [5] (fun s5 wx=>∃mb R C,s5=.pointer (some ⟨mb,0,none⟩)∧Hid (FmC w wx w.heap.size mb R C n ao cap))
 case first =>
  go_region
  (all_goals go_wp2_with fail);all_goals go_meet
  all_goals first | (exact⟨_,_,_,rfl,FmC.mk (alloc4 w _ _ _ _ _ _ _ _).1 (alloc4 w _ _ _ _ _ _ _ _).2.1 (alloc4 w _ _ _ _ _ _ _ _).2.2.1 (alloc4 w _ _ _ _ _ _ _ _).2.2.2.1 (by omega) (by omega) (Below.drew (alloc4 w _ _ _ _ _ _ _ _).2.2.2.2)⟩) | (exact⟨_,_,_,rfl,FmC.mk (alloc4 w _ _ _ _ _ _ _ _).1 (alloc4 w _ _ _ _ _ _ _ _).2.1 (alloc4 w _ _ _ _ _ _ _ _).2.2.2.1 (alloc4 w _ _ _ _ _ _ _ _).2.2.1 (by omega) (by omega) (Below.drew (alloc4 w _ _ _ _ _ _ _ _).2.2.2.2)⟩) | (exact⟨_,_,_,rfl,FmC.mk (alloc4 w _ _ _ _ _ _ _ _).1 (alloc4 w _ _ _ _ _ _ _ _).2.2.1 (alloc4 w _ _ _ _ _ _ _ _).2.1 (alloc4 w _ _ _ _ _ _ _ _).2.2.2.1 (by omega) (by omega) (Below.drew (alloc4 w _ _ _ _ _ _ _ _).2.2.2.2)⟩) | (exact⟨_,_,_,rfl,FmC.mk (alloc4 w _ _ _ _ _ _ _ _).1 (alloc4 w _ _ _ _ _ _ _ _).2.2.1 (alloc4 w _ _ _ _ _ _ _ _).2.2.2.1 (alloc4 w _ _ _ _ _ _ _ _).2.1 (by omega) (by omega) (Below.drew (alloc4 w _ _ _ _ _ _ _ _).2.2.2.2)⟩) | (exact⟨_,_,_,rfl,FmC.mk (alloc4 w _ _ _ _ _ _ _ _).1 (alloc4 w _ _ _ _ _ _ _ _).2.2.2.1 (alloc4 w _ _ _ _ _ _ _ _).2.1 (alloc4 w _ _ _ _ _ _ _ _).2.2.1 (by omega) (by omega) (Below.drew (alloc4 w _ _ _ _ _ _ _ _).2.2.2.2)⟩) | (exact⟨_,_,_,rfl,FmC.mk (alloc4 w _ _ _ _ _ _ _ _).1 (alloc4 w _ _ _ _ _ _ _ _).2.2.2.1 (alloc4 w _ _ _ _ _ _ _ _).2.2.1 (alloc4 w _ _ _ _ _ _ _ _).2.1 (by omega) (by omega) (Below.drew (alloc4 w _ _ _ _ _ _ _ _).2.2.2.2)⟩)
 case rest =>
 obtain⟨mb,R,C,rfl,HF⟩:=hcut;have HMN:Hid (∀V,Bl wc V→FmC w V w.heap.size mb R C n ao cap):=fun V hV=>⟨keep HF.out.res hV,keep HF.out.mnd hV,keep HF.out.r hV,keep HF.out.c hV,HF.out.ne,HF.out.le,HF.out.low.trans (hV.mono HF.out.low.size)⟩
 clear hmk;(go_wp2_with fail);refine(HCH.out _).mono ?_;rintro e w2 ⟨rfl,H2⟩;have HV2:Hid (FmC w w2 w.heap.size mb R C n ao cap):=HMN.out w2 H2.out;clear HCH HMN;obtain⟨W3,HW3⟩:∃W3,Hid (W3=(((((w2.setCell ⟨mb,0,none⟩ (.int .u64 id)).setCell ⟨mb,1,none⟩ (.int .i64 0)).setCell ⟨mb,2,none⟩ (.int .u64 id)).setCell ⟨mb,3,none⟩ (.int .i64 0)).setCell ⟨mb,4,none⟩ (.int .i64 0)).setCell ⟨mb,5,none⟩ (.int .i64 (-1))):=⟨_,rfl⟩
 obtain⟨m1,m2,m3,m4,⟨n1,n2,n3,n4,n5⟩,⟨l1,l2,l3,l4⟩,m5⟩:=HV2.out;have k2:W3.heap[mb]?=some (.cells #[.int .u64 id,.int .i64 0,.int .u64 id,.int .i64 0,.int .i64 0,.int .i64 (-1),.slice ao n cap,.slice (some ⟨R,0,none⟩) n n,.slice (some ⟨C,0,none⟩) n n] 66):=by
  rw[HW3.out];exact set_at (set_at (set_at (set_at (set_at (set_at m2)))))
 have kk:∀{g:Nat}{o:Obj},w2.heap[g]?=some o→g≠mb→W3.heap[g]?=some o:=fun {g o} h hne=>by
  rw[HW3.out];exact set_keep (set_keep (set_keep (set_keep (set_keep (set_keep h hne) hne) hne) hne) hne) hne
 have k1:=kk m1 n1.symm;have HK1:Hid (W3.heap[w.heap.size]?=some (.cells #[.int .u64 0,.int .i64 0,.int .u64 0,.int .i64 0,.int .i64 0,.int .i64 0,.slice none 0 0,.slice none 0 0,.slice none 0 0] 66)):=k1;have HK3:Hid (ZeroAt W3 R n∧ZeroAt W3 C n∧Bl w W3):=⟨kk m3 n2,kk m4 n3,by
  rw[HW3.out];exact(((((m5.setCell l2 _).setCell l2 _).setCell l2 _).setCell l2 _).setCell l2 _).setCell l2 _⟩
 have HNE:Hid (R≠w.heap.size∧C≠w.heap.size∧w.heap.size≤R∧w.heap.size≤C):=⟨n4,n5,l3,l4⟩
 have a0:=cell_of_row w2 mb 0 _ _ _ m2;have a1:=cell_of_row w2 mb 1 _ _ _ m2;have a2:=cell_of_row w2 mb 2 _ _ _ m2;have a3:=cell_of_row w2 mb 3 _ _ _ m2;have a4:=cell_of_row w2 mb 4 _ _ _ m2;have a5:=cell_of_row w2 mb 5 _ _ _ m2;have fz:∀x,w2.frozen? ⟨mb,x,none⟩=false:=fun x=>frozen_of_row _ _ _ _ _ m2;have z0:=fz 0;have z1:=fz 1;have z2:=fz 2;have z3:=fz 3;have z4:=fz 4;have z5:=fz 5;clear fz m1 m2 m3 m4 m5 kk HV2 HF;(go_upto_region 3 with fail);rw[←HW3.out];clear a0 a1 a2 a3 a4 a5 z0 z1 z2 z3 z4 z5;have a0:=cell_of_row W3 mb 0 _ _ _ k2;have a1:=cell_of_row W3 mb 1 _ _ _ k2;have a2:=cell_of_row W3 mb 2 _ _ _ k2;have a3:=cell_of_row W3 mb 3 _ _ _ k2;have a4:=cell_of_row W3 mb 4 _ _ _ k2;have a5:=cell_of_row W3 mb 5 _ _ _ k2;have a6:=cell_of_row W3 mb 6 _ _ _ k2;have a7:=cell_of_row W3 mb 7 _ _ _ k2;have a8:=cell_of_row W3 mb 8 _ _ _ k2;clear k2 HW3;obtain⟨RB,HRB⟩:∃RB,Hid (RB=w.heap.size):=⟨_,rfl⟩
 rw[←HRB.out] at k1 n1 HK1 HNE ⊢;have fz:∀x,W3.frozen? ⟨RB,x,none⟩=false:=fun x=>frozen_of_row _ _ _ _ _ k1;have b0:=cell_of_row W3 RB 0 _ _ _ k1;have b1:=cell_of_row W3 RB 1 _ _ _ k1;have b2:=cell_of_row W3 RB 2 _ _ _ k1;have b3:=cell_of_row W3 RB 3 _ _ _ k1;have b4:=cell_of_row W3 RB 4 _ _ _ k1;have b5:=cell_of_row W3 RB 5 _ _ _ k1;have b6:=cell_of_row W3 RB 6 _ _ _ k1;have b7:=cell_of_row W3 RB 7 _ _ _ k1;have b8:=cell_of_row W3 RB 8 _ _ _ k1;have z0:=fz 0;have z1:=fz 1;have z2:=fz 2;have z3:=fz 3;have z4:=fz 4;have z5:=fz 5;have z6:=fz 6;have z7:=fz 7;have z8:=fz 8;clear fz k1 n1 n2 n3 n4 n5 l1 l2 l3 l4;(go_wp2_with fail);refine bodyPost_ret (results_row (p:=4) (ty:=66) Tryz.results31 _ _ RB 66 _ (0,0) _ rfl (set_at (set_at (set_at (set_at (set_at (set_at (set_at (set_at (set_at HK1.out))))))))) Tryz.underlying66 rfl (by rw[sizeMd];rfl)) rfl ?_;obtain⟨h1,h2,h3⟩:=HK3.out;obtain⟨e1,e2,e3,e4⟩:=HNE.out;have hle:w.heap.size≤RB:=(by rw[HRB.out];exact Nat.le_refl _)
 refine⟨R,C,rfl,?_,?_,by rw[←HRB.out];exact⟨e3,e4⟩,?_⟩
 ·exact set_keep (set_keep (set_keep (set_keep (set_keep (set_keep (set_keep (set_keep (set_keep h1 e1) e1) e1) e1) e1) e1) e1) e1) e1
 ·exact set_keep (set_keep (set_keep (set_keep (set_keep (set_keep (set_keep (set_keep (set_keep h2 e2) e2) e2) e2) e2) e2) e2) e2) e2
 ·exact((((((((h3.setCell hle _).setCell hle _).setCell hle _).setCell hle _).setCell hle _).setCell hle _).setCell hle _).setCell hle _).setCell hle _
end
section
open Go.RowKit
open Vc (V Of)
open Pl (En Lk Br Net)
open Tk (Md Mnd Cn Sc Dn ixM ilist lst3 ilm)
section
variable {P:Program}{ops:Array Oper}{Q:Exit→Act→World→Prop}{md:Region.Mode}{z:Nat}{C:World→Prop}
theorem z_two {i j:Nat}{o o2:Oper}{fuel:Nat}{listed:Array Bool}{a:Act}{w:World}(hr:Region.ready md ops listed=[i,j]) (ho:ops[i]?=some o) (ho2:ops[j]?=some o2)
  (h:∀K':Act→World→Prop,Shut (∀a w,((listed.setIfInBounds i true).getD z true=true∨C w)→(((listed.setIfInBounds i true).getD z true=true∨C w)→wpAnyZ P md ops Q z C fuel (listed.setIfInBounds i true) a w)→K' a w)→if Region.wanted o (yielded ops a.tmps)=true then Oper.wp P o a w K' Q else K' (a.put o.dst undef) w)
  (h2:∀K':Act→World→Prop,Shut (∀a w,((listed.setIfInBounds j true).getD z true=true∨C w)→(((listed.setIfInBounds j true).getD z true=true∨C w)→wpAnyZ P md ops Q z C fuel (listed.setIfInBounds j true) a w)→K' a w)→if Region.wanted o2 (yielded ops a.tmps)=true then Oper.wp P o2 a w K' Q else K' (a.put o2.dst undef) w) :
  wpAnyZ P md ops Q z C (fuel+1) listed a w:=by
 refine⟨fun h0=>(by rw[hr] at h0;cases h0),fun x hx => ?_⟩;rw[hr] at hx;rcases(by simpa using hx:x=i∨x=j) with q | q
 ·subst q;exact wpOp_step ho (fun K' hK=>h K' (fun a w hS hW=>hK a w ⟨hS,hW hS⟩))
 ·subst q;exact wpOp_step ho2 (fun K' hK=>h2 K' (fun a w hS hW=>hK a w ⟨hS,hW hS⟩))
end
def miC (m:Mi):Nat→Value:=mdC m.md (.slice m.po m.ports.length m.pc) (.slice m.ro m.roles.length m.rc) (.slice m.co m.calm.length m.cc)
def miA (m:Mi):Array Value:=#[.int .u64 m.md.v.root,.int .i64 m.md.v.cost,.int .u64 m.md.v.bridge,.int .i64 m.md.v.port,.int .i64 m.md.age,.int .i64 m.md.rp,.slice m.po m.ports.length m.pc,.slice m.ro m.roles.length m.rc,.slice m.co m.calm.length m.cc]
structure OwnI (W:World) (base:Nat) (m:Mi):Prop where
 ports:W.ownsRow base 3 1 (.slice m.po m.ports.length m.pc) m.ports.length (intCells m.ports)
 roles:W.ownsRow base 3 1 (.slice m.ro m.roles.length m.rc) m.roles.length (intCells m.roles)
 calm:W.ownsRow base 3 1 (.slice m.co m.calm.length m.cc) m.calm.length (intCells m.calm)
structure OwnM (W:World) (base:Nat) (v:Value) (l:List Mi):Prop where
 row:W.ownsRow base 66 9 v l.length (cellsL l.length 9 (fun i=>miC (mat l i)))
 each:∀m∈l,OwnI W base m
theorem OwnI.keep {W W':World}{base:Nat}{m:Mi}(h:OwnI W base m) (hk:∀(q:Nat) (cur:Array Value),W.heap[q]?=some (Obj.cells cur 3)→W'.heap[q]?=W.heap[q]?):OwnI W' base m :=
 ⟨owns_keep h.ports (fun q hq=>by obtain⟨cur,hc⟩:=owns_type h.ports hq;exact hk q cur hc),owns_keep h.roles (fun q hq=>by obtain⟨cur,hc⟩:=owns_type h.roles hq;exact hk q cur hc),owns_keep h.calm (fun q hq=>by obtain⟨cur,hc⟩:=owns_type h.calm hq;exact hk q cur hc)⟩
theorem lt_some {W:World}{q:Nat}{o:Obj}(h:W.heap[q]?=some o):q<W.heap.size:=(gSm.1 h).1
theorem OwnI.below {W W':World}{base:Nat}{m:Mi}(h:OwnI W base m) (hb:Bl W W'):OwnI W' base m:=h.keep (fun q _ hc=>hb.block q (lt_some hc))
theorem OwnI.mono {W:World}{base base':Nat}{m:Mi}(h:OwnI W base m) (hb:base'≤base):OwnI W base' m:=⟨owns_mono h.ports hb,owns_mono h.roles hb,owns_mono h.calm hb⟩
theorem OwnM.keep {W W':World}{base:Nat}{v:Value}{l:List Mi}(h:OwnM W base v l) (hk:∀(q:Nat) (cur:Array Value) (ty:TypeId),W.heap[q]?=some (Obj.cells cur ty (0,0))→ty=3∨ty=66→W'.heap[q]?=W.heap[q]?):OwnM W' base v l :=
 ⟨owns_keep h.row (fun q hq=>by obtain⟨cur,hc⟩:=owns_type h.row hq;exact hk q cur _ hc (Or.inr rfl)),fun m hm=>(h.each m hm).keep (fun q cur hc=>hk q cur _ hc (Or.inl rfl))⟩
theorem OwnM.below {W W':World}{base:Nat}{v:Value}{l:List Mi}(h:OwnM W base v l) (hb:Bl W W'):OwnM W' base v l:=h.keep (fun q _ _ hc _=>hb.block q (lt_some hc))
theorem OwnM.mono {W:World}{base base':Nat}{v:Value}{l:List Mi}(h:OwnM W base v l) (hb:base'≤base):OwnM W base' v l:=⟨owns_mono h.row hb,fun m hm=>(h.each m hm).mono hb⟩
theorem OwnM.nil (W:World) (base:Nat):OwnM W base (.slice none 0 0) []:=⟨ownsC_nil _ _ _ _ _,fun m h=>by simp at h⟩
theorem mat_mem {l:List Mi}{i:Nat}(h:i<l.length):mat l i∈l:=by
 have:mat l i=l[i]:=by simp[mat,h]
 rw[this];exact List.getElem_mem h
theorem OwnM.row' {W:World}{base:Nat}{v:Value}{l:List Mi}(h:OwnM W base v l) (hl:l.length≤1000):∃ao cap,v=.slice ao l.length cap∧MiRow W ao cap l:=by
 obtain⟨ao,cap,e,h1,_,_⟩:=owns_c (by omega) h.row;refine⟨ao,cap,e,h1,fun i hi => ?_,by omega⟩;have hm:=h.each _ (mat_mem hi);have f:∀{a:Option Addr}{c:Nat}{x:List Int},W.ownsRow base 3 1 (.slice a x.length c) x.length (intCells x)→ILs W a c x∧x.length≤9223372036854775807:=fun {a c x} h=>by
  obtain⟨ao',cap',e',h1,_,_⟩:=owns_c (by omega) h;injection e' with e1 _ e2;subst e1 e2;exact⟨h1,owns_few h⟩
 exact⟨(f hm.ports).1,(f hm.roles).1,(f hm.calm).1,(f hm.ports).2,(f hm.roles).2,(f hm.calm).2⟩
theorem one_mind {w:World}{g:Nat}{x:Mi}{ty:TypeId}(h:w.heap[g]?=some (.cells (miA x) ty (0,0))):CRow w (some ⟨g,0,none⟩) 1 1 9 (fun _=>miC x):=by
 refine⟨Nat.le_refl _,fun _=>⟨g,0,rfl,(gSm.1 h).1,fun i hi j hj => ?_⟩⟩;obtain rfl:i=0:=by omega
 rcases(by omega:j=0∨j=1∨j=2∨j=3∨j=4∨j=5∨j=6∨j=7∨j=8) with e | e | e | e | e | e | e | e | e<;>subst e
 ·exact cell_of_row w g 0 _ _ _ h
 ·exact cell_of_row w g 1 _ _ _ h
 ·exact cell_of_row w g 2 _ _ _ h
 ·exact cell_of_row w g 3 _ _ _ h
 ·exact cell_of_row w g 4 _ _ _ h
 ·exact cell_of_row w g 5 _ _ _ h
 ·exact cell_of_row w g 6 _ _ _ h
 ·exact cell_of_row w g 7 _ _ _ h
 ·exact cell_of_row w g 8 _ _ _ h
theorem infoMn:(Tryz.prog.info? 66).map (fun i=>(i.zero,i.size,i.bytes))=some (some (.agg #[.int .u64 0,.int .i64 0,.int .u64 0,.int .i64 0,.int .i64 0,.int .i64 0,.slice none 0 0,.slice none 0 0,.slice none 0 0]),9,120):=by kernel_rfl
theorem miC_one (m:Mi) (x:Nat):(miC m x).oneCell'=true:=mdC_one _ rfl rfl rfl x
theorem mat_left (l m:List Mi) (i:Nat) (h:i<l.length):mat (l++m) i=mat l i:=by
 simp[mat,h,List.getElem?_append_left]
theorem mat_right (l m:List Mi) (i:Nat) (h:l.length≤i):mat (l++m) i=mat m (i-l.length):=by
 simp[mat,h,List.getElem?_append_right]
abbrev runAppM (v x:Value) (w:World) (v':Value) (w':World):Prop:=(Builtin.append_ #[64,64] 64 #[v,x]).run Tryz.prog w=.ok v' w'
theorem more_m (base:Nat) (W:World) (v:Value) (l:List Mi) (x:Mi) (ho:OwnM W base v l) (hx:OwnI W base x) (hl:l.length≤1000) (hbase:base≤W.heap.size) :
  ∃a m c W2,runAppM v (.slice (some ⟨W.heap.size,0,none⟩) 1 1) (W.alloc (.cells (miA x) 66)) (.slice a m c) W2∧m=(l++[x]).length∧OwnM W2 base (.slice a m c) (l++[x])∧Below base W W2∧(∀(q:Nat) (cur:Array Value) (ty:TypeId),W.heap[q]?=some (Obj.cells cur ty (0,0))→ty≠66→W2.heap[q]?=some (Obj.cells cur ty (0,0))):=by
 have hb1:=bA1 W (.cells (miA x) 66);have ho1:=ho.below hb1;have hx1:=hx.below hb1;obtain⟨a1,c1,w',r,o,b,q⟩:=append_c (W.alloc (.cells (miA x) 66)) 64 66 _ 9 120 Tryz.underlying64 infoMn rfl (by omega) base v l.length _ ho1.row (some ⟨W.heap.size,0,none⟩) 1 1 (fun _=>miC x) (fun _ _=>miC_one _ _) (one_mind (heap_alloc_last W _)) (fun h=>by cases h) (by unfold maxLen;omega) (by omega) (by have:=hb1.size;omega);have e:l.length+1=(l++[x]).length:=(by simp)
 refine⟨a1,_,c1,w',r,e,⟨?_,?_⟩,(hb1.mono hbase).trans b,fun g cur ty hg hty => ?_⟩;rotate_left 2
 ·have hg1:=keep hg hb1;refine(q g (lt_some hg1) (fun hv => ?_)).trans hg1;obtain⟨c2,h2⟩:=owns_type ho1.row hv.symm;exact hty (cells_type hg1 h2)
 ·rw[e] at o ⊢;rw[cellsL_congr _ 9 _ (fun i=>miC (mat (l++[x]) i))] at o
  ·exact o
  ·intro i hi;unfold catC;by_cases h:i<l.length
   ·rw[if_pos h,mat_left l _ i h]
   ·have hi':i=l.length:=(by simp at hi;omega)
    subst hi';rw[if_neg (by omega),mat_right l _ _ (Nat.le_refl _),Nat.sub_self];rfl
 ·have hk:∀(g:Nat) (cur:Array Value),(W.alloc (.cells (miA x) 66)).heap[g]?=some (Obj.cells cur 3)→w'.heap[g]?=(W.alloc (.cells (miA x) 66)).heap[g]?:=fun g cur hg=>by
   refine q g (lt_some hg) (fun hv => ?_);obtain⟨c2,h2⟩:=owns_type ho1.row hv.symm;exact absurd (cells_type hg h2) (by decide)
  intro y hy;rcases List.mem_append.1 hy with h | h
  ·exact(ho1.each y h).keep hk
  ·have:y=x:=by simpa using h
   subst this;exact hx1.keep hk
def zer (n:Nat):List Int:=List.replicate n 0
theorem zer_len (n:Nat):(zer n).length=n:=by simp[zer]
theorem zer_get (n j:Nat):(zer n).getD j 0=0:=by
 simp[zer,List.getElem?_replicate];split<;>rfl
theorem ZeroAt.owns {W:World}{g n base:Nat}(h:ZeroAt W g n) (hn:n≤1000) (hb:base≤g):W.ownsRow base 3 1 (.slice (some ⟨g,0,none⟩) (zer n).length n) (zer n).length (intCells (zer n)):=by
 have:=owns_mono (RlAt.owns h (by omega)) hb;unfold intCells;rw[zer_len,cellsL_congr n 1 _ (fun _ _=>.int .i64 0)]
 ·exact this
 ·intro i _;funext _
  rw[show IL (zer n) i=0 from zer_get n i]
def startMs (n:Net) (k i:Nat):Mnd:=⟨⟨⟨n.ids k i,0,n.ids k i,0⟩,0,-1⟩,zer (n.pts i).length,zer (n.pts i).length⟩
def isFirst (n:Net) (k i:Nat) (m:Mi):Prop:=m.md=⟨⟨n.ids k i,0,n.ids k i,0⟩,0,-1⟩∧m.ports=n.pts i∧m.roles=zer (n.pts i).length∧m.calm=zer (n.pts i).length
def stErr (n:Net) (trees:Int):Int×Int:=if n.wrong.1≠0 then n.wrong else if ¬(1≤trees∧trees≤4) then(3,0) else(0,0)
structure StA (W Y:World) (n:Net) (T G:Nat) (vs:Nat→Value) (ls:Nat→List Mi) (k:Nat):Prop where
 out:W.heap[G]?=some (.cells (rowC T 1 (fun j _=>vs j)) 64)
 each:∀j,j<k→OwnM W Y.heap.size (vs j) (ls j)∧(ls j).length=n.K∧∀x,x<n.K→isFirst n j x (mat (ls j) x)
 rest:∀j,k≤j→vs j=.slice none 0 0
 bt:Bt (fun q=>q=G) Y W
structure StI (W Z:World) (n:Net) (T G k i:Nat) (vs:Nat→Value) (v:Value) (l:List Mi):Prop where
 out:W.heap[G]?=some (.cells (rowC T 1 (fun j _=>upF vs k v j)) 64)
 own:OwnM W Z.heap.size v l
 len:l.length=i
 first:∀x,x<i→isFirst n k x (mat l x)
 bt:Bt (fun q=>q=G) Z W
theorem StI.done {W Z Y:World}{n:Net}{T G k:Nat}{vs:Nat→Value}{ls:Nat→List Mi}{v:Value}{l:List Mi}(hA:StA Z Y n T G vs ls k) (h:StI W Z n T G k n.K vs v l):StA W Y n T G (upF vs k v) (upF ls k l) (k+1):=by
 refine⟨h.out,fun j hj => ?_,fun j hj => ?_,hA.bt.trans h.bt⟩
 ·by_cases q:j=k
  ·subst q;rw[upF_same,upF_same];exact⟨h.own.mono hA.bt.size,h.len,h.first⟩
  ·rw[upF_other _ _ q,upF_other _ _ q];obtain⟨a1,a2,a3⟩:=hA.each j (by omega);refine⟨a1.keep (fun q cur ty hc ht=>h.bt.block q (lt_some hc) (fun e => ?_)),a2,a3⟩;subst e;have:=cells_type hc hA.out;rcases ht with ht | ht
   ·exact absurd (ht.symm.trans this) (by decide)
   ·exact absurd (ht.symm.trans this) (by decide)
 ·rw[upF_other _ _ (by omega)];exact hA.rest j (by omega)
theorem below_an {a b:World}(h:Bl a b) (o:Obj):Bl a (b.alloc o):=h.alloc h.size o
structure StT (w:World) (n:Net) (trees:Int) (oao:Option Addr) (ocap:Nat) (t0:List Tr):Prop where
 row:TrRow w oao ocap t0
 len:(t0.length:Int)=trees
 fit:fitT n t0=true
 calm:CalmT t0
 ms:∀k,k<t0.length→∀i,i<n.K→startMs n k i=msT t0 k i
theorem StT.below {w w':World}{n:Net}{trees:Int}{oao:Option Addr}{ocap:Nat}{t0:List Tr}(h:StT w n trees oao ocap t0) (hb:Bl w w'):StT w' n trees oao ocap t0:=⟨h.row.below hb,h.len,h.fit,h.calm,h.ms⟩
theorem start_all {W:World}{n:Net}{T G b:Nat}{vs:Nat→Value}{ls:Nat→List Mi}(hT:1≤T∧T≤4) (hK:n.K≤12) (hout:W.heap[G]?=some (.cells (rowC T 1 (fun j _=>vs j)) 64))
  (heach:∀j,j<T→OwnM W b (vs j) (ls j)∧(ls j).length=n.K∧∀x,x<n.K→isFirst n j x (mat (ls j) x)):∃t0:List Tr,t0.length=T∧StT W n T (some ⟨G,0,none⟩) T t0:=by
 obtain⟨f,hf⟩:=Classical.axiomOfChoice (r:=fun(j:Nat) (p:Option Addr×Nat)=>j<T→vs j=.slice p.1 (ls j).length p.2∧MiRow W p.1 p.2 (ls j)) (fun j=>by
  by_cases q:j<T
  ·obtain⟨h1,h2,_⟩:=heach j q;obtain⟨a,c,e1,e2⟩:=h1.row' (by omega);exact⟨(a,c),fun _=>⟨e1,e2⟩⟩
  ·exact⟨(none,0),fun z=>absurd z q⟩)
 obtain⟨t0,ht0⟩:∃t0:List Tr,t0=(List.range T).map (fun j=>⟨(f j).1,(f j).2,ls j⟩):=⟨_,rfl⟩
 have tl:t0.length=T:=(by rw[ht0];simp)
 have tk:∀j,j<T→tat t0 j=⟨(f j).1,(f j).2,ls j⟩:=fun j hj=>by unfold tat;rw[ht0];exact range_getD _ _ hj
 have hF:∀j,j<T→∀x,x<n.K→isFirst n j x (mat (tat t0 j).l x):=fun j hj x hx=>by rw[tk j hj];exact(heach j hj).2.2 x hx
 have hL:∀j,j<T→(tat t0 j).l.length=n.K:=fun j hj=>by rw[tk j hj];exact(heach j hj).2.1
 refine⟨t0,tl,⟨⟨?_,fun j hj => ?_,by omega⟩,by rw[tl],?_,fun j hj x hx y => ?_,fun j hj x hx => ?_⟩⟩
 ·rw[tl];refine(rowC_crow hout).congr (fun j hj => ?_);funext _
  rw[(hf j hj).1,tk j hj]
 ·rw[tl] at hj;rw[tk j hj];exact(hf j hj).2
 ·refine fit_iff.2 ⟨by rw[tl];exact hT,fun j hj => ?_⟩;rw[tl] at hj;refine⟨hL j hj,fun x hx => ?_⟩;obtain⟨_,e1,e2,e3⟩:=hF j hj x hx;rw[e1,e2,e3,zer_len];exact⟨rfl,rfl,rfl⟩
 ·rw[tl] at hj;rw[hL j hj] at hx;obtain⟨_,_,_,e3⟩:=hF j hj x hx;rw[e3,zer_get];exact⟨Int.le_refl _,fun h=>absurd h (Int.lt_irrefl _)⟩
 ·rw[tl] at hj;obtain⟨e0,_,e2,e3⟩:=hF j hj x hx;unfold msT startMs;rw[e0,e2,e3]
def StartW (w:World) (n:Net) (trees:Int) (e:Ending) (w':World):Prop :=
 Bl w w'∧(((stErr n trees).1≠0∧e=.returned (.tuple #[.agg #[.slice none 0 0],.agg #[.int .i64 (stErr n trees).1,.int .i64 (stErr n trees).2]])) ∨
  ((stErr n trees).1=0∧∃(oao:Option Addr) (ocap:Nat) (t0:List Tr),e=.returned (.tuple #[.agg #[.slice oao t0.length ocap],.agg #[.int .i64 0,.int .i64 0]])∧StT w' n trees oao ocap t0))
end
section
namespace Pl
open Vc (V Of)
section
variable {ids:Nat→Int}{ls:Nat→Lk}{lv:Nat→Bool}{K L m:Nat}{on:Nat→Nat}
structure Lives (ls:Nat→Lk) (lv:Nat→Bool) (L m:Nat) (on:Nat→Nat):Prop where
 mem:∀j,j<m→on j<L∧lv (on j)=true
 all:∀k,k<L→lv k=true→∃j,j<m∧on j=k
end
end Pl
end
end Go.Proofs.YtaneiffnhphkhaaGreatDoor
