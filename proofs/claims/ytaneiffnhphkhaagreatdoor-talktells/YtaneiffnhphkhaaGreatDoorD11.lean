/- Maps that count what was taken: of addresses, of ports; package plan's takers -/
import Derived.Test.YtaneiffnhphkhaaGreatDoorD10
import Derived.Test.YtaneiffnhphkhaaGreatDoorD01
import Derived.Test.YtaneiffnhphkhaaGreatDoorD04
import Derived.ProofKit
import Derived.OpenShut
import Derived.ChangeOld
import Derived.ChangeSlices
import Derived.Maps.OwnOps
import Derived.Maps.Range
import Derived.Maps.RangeWalk
import Derived.Maps.Views
import Derived.WideKeyEntry
import Derived.DeepKeys4
import Derived.MapViews
set_option maxRecDepth 100000
set_option maxHeartbeats 40000000
namespace Go.Proofs.YtaneiffnhphkhaaGreatDoor
section
open Go.RowKit
open Vc (V Of)
open Pl (En)
open Tk (Md Mnd)
theorem tcalm_any (r c:Int) (w:World) (h : -9223372036854775808≤c):Calls Tryz.prog 152 #[.int .i64 r,.int .i64 c] w fun e w'=>e=.returned (.int .i64 (Tk.calmOf r c))∧w'=w:=by
 by_cases q:r=1∨r=2
 ·have HD:Hid (Tk.calmOf r c=min c 49+1):=by
   show(if r=1∨r=2 then(if c<49 then c else 49)+1 else 0)=min c 49+1;rw[if_pos q];by_cases q2:c<49
   ·rw[if_pos q2];omega
   ·rw[if_neg q2];omega
  have wp:IntKind.i64.wrap (min c 49+1)=min c 49+1:=(by simp[IntKind.wrap,IntKind.bits,IntKind.signed];omega)
  rcases q with q | q
  ·subst q;go_enter Tryz.func152,Tryz.ntmps152;(go_wp2_with fail);go_ret;exact⟨by rw[HD.out];rfl,rfl⟩
  ·subst q;go_enter Tryz.func152,Tryz.ntmps152;(go_wp2_with fail);go_ret;exact⟨by rw[HD.out];rfl,rfl⟩
 ·have HD:Hid (Tk.calmOf r c=0):=(by unfold Tk.calmOf;rw[if_neg q];rfl)
  have q1:(r != 1)=true:=(by simp;exact fun e=>q (Or.inl e))
  have q2:(r != 2)=true:=(by simp;exact fun e=>q (Or.inr e))
  clear q;go_enter Tryz.func152,Tryz.ntmps152;(go_wp2_with fail);go_ret;exact⟨by rw[HD.out];rfl,rfl⟩
def toldTo (x:Nat→Md) (k i:Nat):Md:=if i<k then x i else⟨⟨0,0,0,0⟩,0,0⟩
def TalesAt (w:World) (g K:Nat) (x:Nat→Md):Prop:=w.heap[g]?=some (.cells (rowC K 6 (fun i=>tlC (x i).v (x i).age)) 104)
theorem TalesAt.told {w:World}{g K:Nat}{x:Nat→Md}(h:TalesAt w g K x):ToldAt w g K x :=
 ⟨(gSm.1 h).1,fun i hi=>⟨fun j hj=>by
  have:=rowC_cell h hi (show 1+j<6 by omega);rw[←Nat.add_assoc] at this;rw[this];unfold tlC;rw[if_neg (by omega),if_pos (by omega),show 1+j-1=j by omega],by
  have:=rowC_cell h hi (show 5<6 by omega);rw[this];rfl⟩⟩
theorem tales_set {w:World}{g K:Nat}{x:Nat→Md}(h:TalesAt w g K x) {i:Nat}(hi:i<K) (m:Md) :
  TalesAt ((((((w.setCell ⟨g,i*6,none⟩ (.int .i64 0)).setCell ⟨g,i*6+1,none⟩ (.int .u64 m.v.root)).setCell ⟨g,i*6+2,none⟩ (.int .i64 m.v.cost)).setCell ⟨g,i*6+3,none⟩ (.int .u64 m.v.bridge)).setCell ⟨g,i*6+4,none⟩ (.int .i64 m.v.port)).setCell ⟨g,i*6+5,none⟩ (.int .i64 m.age)) g K (fun j=>if j=i then m else x j):=by
 have h0:=rowC_set h hi (show 0<6 by omega) (.int .i64 0);have h1:=rowC_set h0 hi (show 1<6 by omega) (.int .u64 m.v.root);have h2:=rowC_set h1 hi (show 2<6 by omega) (.int .i64 m.v.cost);have h3:=rowC_set h2 hi (show 3<6 by omega) (.int .u64 m.v.bridge);have h4:=rowC_set h3 hi (show 4<6 by omega) (.int .i64 m.v.port);have h5:=rowC_set h4 hi (show 5<6 by omega) (.int .i64 m.age);rw[Nat.add_zero] at h0 h1 h2 h3 h4 h5;refine h5.trans (congrArg (fun a=>some (Obj.cells a 104)) (rC2 ?_));intro j hj y hy;unfold updC;by_cases q:j=i
 ·subst q;rcases(by omega:y=0∨y=1∨y=2∨y=3∨y=4∨y=5) with e | e | e | e | e | e<;>subst e<;>simp[tlC,vC]
 ·simp[q]
abbrev MRow (w:World) (ao:Option Addr) (n cap:Nat) (x:Nat→Md) (p r c:Nat→Value):Prop:=CRow w ao n cap 9 (fun i=>mdC (x i) (p i) (r i) (c i))
theorem MRow.cells {w:World}{b off n cap:Nat}{x:Nat→Md}{p r c:Nat→Value}(h:MRow w (some ⟨b,off,none⟩) n cap x p r c) {i:Nat}(hi:i<n) :
  w.cell? ⟨b,off+i*9,none⟩=some (.int .u64 (x i).v.root)∧w.cell? ⟨b,off+i*9+1,none⟩=some (.int .i64 (x i).v.cost)∧w.cell? ⟨b,off+i*9+2,none⟩=some (.int .u64 (x i).v.bridge)∧w.cell? ⟨b,off+i*9+3,none⟩=some (.int .i64 (x i).v.port)∧w.cell? ⟨b,off+i*9+4,none⟩=some (.int .i64 (x i).age)∧w.cell? ⟨b,off+i*9+5,none⟩=some (.int .i64 (x i).rp)∧w.cell? ⟨b,off+i*9+6,none⟩=some (p i)∧w.cell? ⟨b,off+i*9+7,none⟩=some (r i)∧w.cell? ⟨b,off+i*9+8,none⟩=some (c i):=by
 obtain⟨b',off',e,_,hc⟩:=h.2 (by omega);cases e
 exact⟨hc i hi 0 (by omega),hc i hi 1 (by omega),hc i hi 2 (by omega),hc i hi 3 (by omega),hc i hi 4 (by omega),hc i hi 5 (by omega),hc i hi 6 (by omega),hc i hi 7 (by omega),hc i hi 8 (by omega)⟩
theorem ttales_any (ao:Option Addr) (n cap:Nat) (x:Nat→Md) (p r c:Nat→Value) (w:World) (hn:n≤12) (hsl:∀i,i<n→(∃a m q,p i=.slice a m q)∧(∃a m q,r i=.slice a m q)∧∃a m q,c i=.slice a m q) (hr:MRow w ao n cap x p r c) :
  Calls Tryz.prog 134 #[.slice ao n cap] w fun e w'=>e=.returned (.slice (some ⟨w.heap.size,0,none⟩) n n)∧TalesAt w' w.heap.size n x∧Bl w w':=by
 have hcap:=hr.1;have HRW:Hid (∀W,Bl w W→MRow W ao n cap x p r c):=fun W hW=>CRow.below hr hW;have hmk:∀W:World,(Instr.makeSlice 100 (.int .i64 (n:Int)) (.int .i64 (n:Int))).run Tryz.prog W=.ok (.slice (some ⟨W.heap.size,0,none⟩) n n) (W.alloc (.cells (rowC n 6 (fun i=>tlC (toldTo x 0 i).v (toldTo x 0 i).age)) 104)):=fun W=>make_rowD W 100 104 _ 6 48 n Tryz.underlying100 infoTl (by omega) rfl (by omega) (by omega) _ (fun _ j hj=>by
  rcases(by omega:j=0∨j=1∨j=2∨j=3∨j=4∨j=5) with e | e | e | e | e | e<;>subst e<;>rfl)
 obtain⟨G,HG⟩:∃G,Hid (G=w.heap.size):=⟨_,rfl⟩
 have hGM:w.heap.size≤G:=(by rw[HG.out];exact Nat.le_refl _)
 have H0:Hid (∀W,W=w.alloc (.cells (rowC n 6 (fun i=>tlC (toldTo x 0 i).v (toldTo x 0 i).age)) 104)→TalesAt W G n (toldTo x 0)∧Bl w W):=fun W hW=>by
  rw[hW,HG.out];exact⟨heap_alloc_last _ _,bA1 _ _⟩
 have HSL:Hid (∀i,i<n→(∃a m q,p i=.slice a m q)∧(∃a m q,r i=.slice a m q)∧∃a m q,c i=.slice a m q):=hsl;clear hr hsl;rw[←HG.out];go_enter Tryz.func134,Tryz.ntmps134;(go_wp2_with fail);rw[←HG.out];go_loopw [11] (fun i wr=>∃k:Nat,k≤n∧i=.int .i64 k∧Hid (TalesAt wr G n (toldTo x k)∧Bl w wr)) (fun i _=>n-(intOf i).toNat)
 case atStart=>exact⟨0,by omega,rfl,H0.out _ rfl⟩
 case round =>
  obtain⟨k,hk,rfl,hX⟩:=hrel;clear H0;by_cases hlt:k<n
  ·obtain⟨b,off,rfl,_⟩:=CRow.some (HRW.out wr hX.out.2) (by omega);obtain⟨c0,c1,c2,c3,c4,c5,c6,c7,c8⟩:=MRow.cells (HRW.out wr hX.out.2) hlt;have hGl:G<wr.heap.size:=(gSm.1 hX.out.1).1;have e0:wr.cell? ⟨G,k*6,none⟩=some (tlC (toldTo x k k).v (toldTo x k k).age 0):=rowC_cell hX.out.1 hlt (show 0<6 by omega);have e1:wr.cell? ⟨G,k*6+1,none⟩=some (tlC (toldTo x k k).v (toldTo x k k).age 1):=rowC_cell hX.out.1 hlt (by omega);have e2:wr.cell? ⟨G,k*6+2,none⟩=some (tlC (toldTo x k k).v (toldTo x k k).age 2):=rowC_cell hX.out.1 hlt (by omega);have e3:wr.cell? ⟨G,k*6+3,none⟩=some (tlC (toldTo x k k).v (toldTo x k k).age 3):=rowC_cell hX.out.1 hlt (by omega);have e4:wr.cell? ⟨G,k*6+4,none⟩=some (tlC (toldTo x k k).v (toldTo x k k).age 4):=rowC_cell hX.out.1 hlt (by omega);have e5:wr.cell? ⟨G,k*6+5,none⟩=some (tlC (toldTo x k k).v (toldTo x k k).age 5):=rowC_cell hX.out.1 hlt (by omega);have fz:∀o,wr.frozen? ⟨G,o,none⟩=false:=fun o=>frozen_of_row _ _ _ _ _ hX.out.1;have f0:=fz (k*6);have f1:=fz (k*6+1);have f2:=fz (k*6+2);have f3:=fz (k*6+3);have f4:=fz (k*6+4);have f5:=fz (k*6+5);have HN:Hid (∀o,TalesAt (((((((wr.setCell ⟨G,k*6,none⟩ (.int .i64 0)).setCell ⟨G,k*6+1,none⟩ (.int .u64 (x k).v.root)).setCell ⟨G,k*6+2,none⟩ (.int .i64 (x k).v.cost)).setCell ⟨G,k*6+3,none⟩ (.int .u64 (x k).v.bridge)).setCell ⟨G,k*6+4,none⟩ (.int .i64 (x k).v.port)).setCell ⟨G,k*6+5,none⟩ (.int .i64 (x k).age)).alloc o) G n (toldTo x (k+1))∧Bl w (((((((wr.setCell ⟨G,k*6,none⟩ (.int .i64 0)).setCell ⟨G,k*6+1,none⟩ (.int .u64 (x k).v.root)).setCell ⟨G,k*6+2,none⟩ (.int .i64 (x k).v.cost)).setCell ⟨G,k*6+3,none⟩ (.int .u64 (x k).v.bridge)).setCell ⟨G,k*6+4,none⟩ (.int .i64 (x k).v.port)).setCell ⟨G,k*6+5,none⟩ (.int .i64 (x k).age)).alloc o)):=fun o=>by
    have ht:=tales_set hX.out.1 hlt (x k);have hb:Bl w ((((((wr.setCell ⟨G,k*6,none⟩ (.int .i64 0)).setCell ⟨G,k*6+1,none⟩ (.int .u64 (x k).v.root)).setCell ⟨G,k*6+2,none⟩ (.int .i64 (x k).v.cost)).setCell ⟨G,k*6+3,none⟩ (.int .u64 (x k).v.bridge)).setCell ⟨G,k*6+4,none⟩ (.int .i64 (x k).v.port)).setCell ⟨G,k*6+5,none⟩ (.int .i64 (x k).age)):=(((((hX.out.2.setCell hGM _).setCell hGM _).setCell hGM _).setCell hGM _).setCell hGM _).setCell hGM _;have hc:(fun j=>if j=k then x k else toldTo x k j)=toldTo x (k+1):=by
     funext j
     unfold toldTo;by_cases q:j=k
     ·subst q;rw[if_pos rfl,if_pos (Nat.lt_succ_self _)]
     ·rw[if_neg q];by_cases q2:j<k
      ·rw[if_pos q2,if_pos (by omega)]
      ·rw[if_neg q2,if_neg (by omega)]
    rw[hc] at ht;exact⟨keep ht (bA1 _ _),hb.alloc hb.size _⟩
   have ik:(0:Int)≤(k:Int):=(by omega)
   have nk:(k:Int)<(n:Int):=(by omega)
   obtain⟨⟨pa,pm,pq,ep⟩,⟨ra,rm,rq,er⟩,⟨ca,cm,cq,ec⟩⟩:=HSL.out k hlt;rw[ep] at c6;rw[er] at c7;rw[ec] at c8;clear hX HRW fz HSL ep er ec;generalize toldTo x k k=tk at *;generalize x k=y at *;(go_wp2_with fail);exact⟨⟨k+1,by omega,by go_num,HN.out _⟩,by simp[intOf];omega⟩
  ·obtain rfl:k=n:=by omega
   have HF:Hid (TalesAt wr G k x∧Bl w wr):=by
    refine⟨?_,hX.out.2⟩;have h:=hX.out.1;refine Eq.trans h (congrArg (fun a=>some (Obj.cells a 104)) (rowC_congr ?_));intro i hi;unfold toldTo;rw[if_pos hi]
   clear hX HRW;(go_wp2_with fail);go_ret;exact⟨rfl,HF.out.1,HF.out.2⟩
theorem mind_set6 {w:World}{g n i:Nat}{sp:Array Value}{cc:Nat→Nat→Value}{x0:Md}{vp vr vc:Value}(h:w.heap[g]?=some (.cells (rowS sp n 9 cc) 66)) (hi:i<n) (hcc:∀x,x<9→cc i x=mdC x0 vp vr vc x) (m:Md) :
  ((((((w.setCell ⟨g,i*9,none⟩ (.int .u64 m.v.root)).setCell ⟨g,i*9+1,none⟩ (.int .i64 m.v.cost)).setCell ⟨g,i*9+2,none⟩ (.int .u64 m.v.bridge)).setCell ⟨g,i*9+3,none⟩ (.int .i64 m.v.port)).setCell ⟨g,i*9+4,none⟩ (.int .i64 m.age)).setCell ⟨g,i*9+5,none⟩ (.int .i64 m.rp)).heap[g]?=some (.cells (rowS sp n 9 (fun a x=>if a=i then mdC m vp vr vc x else cc a x)) 66):=by
 have h0:=rowS_set h hi (show 0<9 by omega) (.int .u64 m.v.root);have h1:=rowS_set h0 hi (show 1<9 by omega) (.int .i64 m.v.cost);have h2:=rowS_set h1 hi (show 2<9 by omega) (.int .u64 m.v.bridge);have h3:=rowS_set h2 hi (show 3<9 by omega) (.int .i64 m.v.port);have h4:=rowS_set h3 hi (show 4<9 by omega) (.int .i64 m.age);have h5:=rowS_set h4 hi (show 5<9 by omega) (.int .i64 m.rp);rw[Nat.add_zero] at h0 h1 h2 h3 h4 h5;refine h5.trans (congrArg (fun a=>some (Obj.cells a 66)) (rowS_congr2 sp ?_));intro a ha y hy;unfold updC;by_cases q:a=i
 ·subst q;have:=hcc y hy;rcases(by omega:y=0∨y=1∨y=2∨y=3∨y=4∨y=5∨y=6∨y=7∨y=8) with e | e | e | e | e | e | e | e | e<;>subst e<;>simp_all [mdC,vC]
 ·simp[q]
theorem mind_set7 {w:World}{g n i:Nat}{sp:Array Value}{cc:Nat→Nat→Value}{m:Md}{vp vr vc:Value}(h:w.heap[g]?=some (.cells (rowS sp n 9 (fun a x=>if a=i then mdC m vp vr vc x else cc a x)) 66)) (hi:i<n) (vr2:Value) :
  (w.setCell ⟨g,i*9+7,none⟩ vr2).heap[g]?=some (.cells (rowS sp n 9 (fun a x=>if a=i then mdC m vp vr2 vc x else cc a x)) 66):=by
 refine(rowS_set h hi (show 7<9 by omega) vr2).trans (congrArg (fun a=>some (Obj.cells a 66)) (rowS_congr2 sp ?_));intro a ha y hy;unfold updC;by_cases q:a=i
 ·subst q;rcases(by omega:y=0∨y=1∨y=2∨y=3∨y=4∨y=5∨y=6∨y=7∨y=8) with e | e | e | e | e | e | e | e | e<;>subst e<;>simp[mdC]
 ·simp[q]
theorem mind_cells {w:World}{g n i:Nat}{sp:Array Value}{cc:Nat→Nat→Value}{m:Md}{vp vr vc:Value}(h:w.heap[g]?=some (.cells (rowS sp n 9 (fun a x=>if a=i then mdC m vp vr vc x else cc a x)) 66)) (hi:i<n) :
  (w.cell? ⟨g,i*9,none⟩=some (.int .u64 m.v.root)∧w.cell? ⟨g,i*9+1,none⟩=some (.int .i64 m.v.cost)∧w.cell? ⟨g,i*9+2,none⟩=some (.int .u64 m.v.bridge)∧w.cell? ⟨g,i*9+3,none⟩=some (.int .i64 m.v.port))∧w.cell? ⟨g,i*9+5,none⟩=some (.int .i64 m.rp)∧w.cell? ⟨g,i*9+7,none⟩=some vr∧w.cell? ⟨g,i*9+8,none⟩=some vc:=by
 have H:∀y,y<9→w.cell? ⟨g,i*9+y,none⟩=some (mdC m vp vr vc y):=fun y hy=>by
  have:=rowS_cell h hi hy;rw[if_pos rfl] at this;exact this
 exact⟨⟨H 0 (by omega),H 1 (by omega),H 2 (by omega),H 3 (by omega)⟩,H 5 (by omega),H 7 (by omega),H 8 (by omega)⟩
def calmTo (rs cs:List Int) (j:Nat):List Int:=(List.zipWith Tk.calmOf rs cs).take j++cs.drop j
theorem calmTo_zero (rs cs:List Int):calmTo rs cs 0=cs:=by simp[calmTo]
theorem calmTo_all {rs cs:List Int}(h:rs.length=cs.length):calmTo rs cs cs.length=List.zipWith Tk.calmOf rs cs:=by
 unfold calmTo;rw[List.drop_length,List.append_nil,List.take_of_length_le (by simp;omega)]
theorem calmTo_length {rs cs:List Int}(h:rs.length=cs.length) {j:Nat}(hj:j≤cs.length):(calmTo rs cs j).length=cs.length:=by
 simp[calmTo];omega
theorem calmTo_get {rs cs:List Int}(h:rs.length=cs.length) {j:Nat}(hj:j≤cs.length) {a:Nat}(ha:a<cs.length):IL (calmTo rs cs j) a=if a<j then Tk.calmOf (IL rs a) (IL cs a) else IL cs a:=by
 have hl:((List.zipWith Tk.calmOf rs cs).take j).length=j:=(by simp;omega)
 unfold calmTo IL;by_cases q:a<j
 ·rw[if_pos q,List.getD_eq_getElem?_getD,List.getElem?_append_left (by omega),List.getElem?_take_of_lt q];rw[←List.getD_eq_getElem?_getD];exact Tk.getD_zip rs cs h a (by omega)
 ·rw[if_neg q,List.getD_eq_getElem?_getD,List.getElem?_append_right (by omega),hl,List.getElem?_drop,show j+(a-j)=a by omega,List.getD_eq_getElem?_getD]
structure HearW (w w':World) (g n i:Nat) (sp:Array Value) (cc:Nat→Nat→Value) (m:Md) (vp vc:Value) (base R:Nat) (rs cs:List Int):Prop where
 row:w'.heap[g]?=some (.cells (rowS sp n 9 (fun a x=>if a=i then mdC m vp (.slice (some ⟨R,0,none⟩) rs.length rs.length) vc x else cc a x)) 66)
 roles:RlAt w' R rs.length (IL rs)
 new:w.heap.size≤R
 calm:w'.ownsRow base 3 1 vc cs.length (intCells cs)
 else':Bt (fun q=>q=g∨vc.ownBlock=some q) w w'
theorem HearW.lowB {w w' w2:World}{g n i:Nat}{sp:Array Value}{cc:Nat→Nat→Value}{m:Md}{vp vc:Value}{base R:Nat}{rs cs:List Int}(h:HearW w w' g n i sp cc m vp vc base R rs cs) (hb:Bl w' w2):HearW w w2 g n i sp cc m vp vc base R rs cs :=
 ⟨keep h.row hb,keep h.roles hb,h.new,ownsC_below h.calm hb,h.else'.low hb⟩
theorem owns_int_set {w:World}{base gc cap n:Nat}{sp:Array Value}{l:List Int}{j:Nat}(hh:w.heap[gc]?=some (.cells (rowS sp n 1 (fun a _=>.int .i64 (IL l a))) 3)) (hj:j<n) (z:Int) {l2:List Int}(he:∀a,a<n→IL l2 a=if a=j then z else IL l a) (hn:n=l2.length) (hg:base≤gc) (hcap:n≤cap) (hm:cap≤maxLen) (hs:sp.size+n*1=cap*1) :
  (w.setCell ⟨gc,j,none⟩ (.int .i64 z)).ownsRow base 3 1 (.slice (some ⟨gc,0,none⟩) n cap) n (intCells l2):=by
 have h0:=rowS_set hh hj (show 0<1 by omega) (.int .i64 z);rw[show j*1+0=j by omega] at h0;have h1:(w.setCell ⟨gc,j,none⟩ (.int .i64 z)).heap[gc]?=some (.cells (rowS sp n 1 (fun a _=>.int .i64 (IL l2 a))) 3):=by
  refine h0.trans (congrArg (fun a=>some (Obj.cells a 3)) (rowS_congr2 sp ?_));intro a ha y hy;unfold updC;rw[he a ha];by_cases q:a=j
  ·rw[if_pos ⟨q,by omega⟩,if_pos q]
  ·rw[if_neg (fun p=>q p.1),if_neg q]
 have:=rowS_owns hg hcap hm hs h1;unfold intCells;rw[←hn];exact this
theorem thear_any (g n i:Nat) (sp:Array Value) (cc:Nat→Nat→Value) (x0:Md) (vp vr0 vc:Value) (id:Int) (es:List En) (eao:Option Addr) (ecap:Nat) (os:List Of) (oao:Option Addr) (ocap:Nat) (calm:List Int) (base:Nat) (w:World)
  (hi:i<n) (hg:w.heap[g]?=some (.cells (rowS sp n 9 cc) 66)) (hcc:∀x,x<9→cc i x=mdC x0 vp vr0 vc x) (hcm:w.ownsRow base 3 1 vc calm.length (intCells calm)) (hcl:calm.length=es.length) (hc0:∀a,a<calm.length→0≤IL calm a)
  (hel:es.length≤1000) (hol:os.length≤1000) (her:ERow w eao es.length ecap (EL es)) (hen:∀b off,eao=some ⟨b,off,none⟩→b≠g) (hor:ORow w oao os.length ocap (Pl.lf os)) (hon:∀b off,oao=some ⟨b,off,none⟩→b≠g) :
  Calls Tryz.prog 135 #[.pointer (some ⟨g,i*9,none⟩),.int .u64 id,.slice eao es.length ecap,.slice oao os.length ocap] w fun e w'=>e=.returned (.tuple #[])∧∃R,HearW w w' g n i sp cc (Tk.chM id os) vp vc base R (es.map (Tk.roleM (Tk.chM id os) os)) (List.zipWith Tk.calmOf (es.map (Tk.roleM (Tk.chM id os) os)) calm):=by
 obtain⟨m,hm⟩:∃m,m=Tk.chM id os:=⟨_,rfl⟩
 obtain⟨rs,hrs⟩:∃rs,rs=es.map (Tk.roleM m os):=⟨_,rfl⟩
 have hrl:rs.length=es.length:=(by rw[hrs];simp)
 have hrc:rs.length=calm.length:=(by omega)
 rw[←hm,←hrs];have hgl:g<w.heap.size:=(gSm.1 hg).1;have hne:vc.ownBlock≠some g:=fun q=>by
  obtain⟨cur,hc⟩:=owns_type hcm q;rw[hg] at hc;injection hc with hc;injection hc with _ h3;exact absurd h3 (by decide)
 have HCH:Hid (Calls Tryz.prog 55 #[.int .u64 id,.slice oao os.length ocap] w fun e w'=>e=.returned (.tuple #[.agg #[.int .u64 m.v.root,.int .i64 m.v.cost,.int .u64 m.v.bridge,.int .i64 m.v.port],.int .i64 m.age,.int .i64 m.rp])∧Bl w w'):=by
  rw[hm];exact vchoose_any id oao os.length ocap (Pl.lf os) w (by omega) hor
 have HW2:Hid (∀w1,Bl w w1→∀W2,W2=(((((w1.setCell ⟨g,i*9,none⟩ (.int .u64 m.v.root)).setCell ⟨g,i*9+1,none⟩ (.int .i64 m.v.cost)).setCell ⟨g,i*9+2,none⟩ (.int .u64 m.v.bridge)).setCell ⟨g,i*9+3,none⟩ (.int .i64 m.v.port)).setCell ⟨g,i*9+4,none⟩ (.int .i64 m.age)).setCell ⟨g,i*9+5,none⟩ (.int .i64 m.rp)→W2.heap[g]?=some (.cells (rowS sp n 9 (fun a x=>if a=i then mdC m vp vr0 vc x else cc a x)) 66)∧Bt (fun q=>q=g) w W2):=fun w1 h1 W2 e2=>by
  rw[e2];have b0:Bt (fun q=>q=g) w w1:=Bt.of h1;have st:∀(V:World) (o:Nat) (u:Value),Bt (fun q=>q=g) w V→Bt (fun q=>q=g) w (V.setCell ⟨g,o,none⟩ u):=fun V o u hV=>hV.setCell (Or.inl rfl) o u;exact⟨mind_set6 (keep hg h1) hi hcc m,st _ _ _ (st _ _ _ (st _ _ _ (st _ _ _ (st _ _ _ (st _ _ _ b0)))))⟩
 have HRO:Hid (∀W2,Bt (fun q=>q=g) w W2→∀W,Bl W2 W→Calls Tryz.prog 50 #[.slice eao es.length ecap,.agg #[.int .u64 m.v.root,.int .i64 m.v.cost,.int .u64 m.v.bridge,.int .i64 m.v.port],.int .i64 m.rp,.slice oao os.length ocap] W fun e w'=>∃R,e=.returned (.slice (some ⟨R,0,none⟩) es.length es.length)∧Hid (RlAt w' R es.length (IL rs)∧W2.heap.size≤R∧Bl W2 w')):=fun W2 hb W hW=>by
  have hbW:Bt (fun q=>q=g) w W:=hb.low hW;have he:ERow W eao es.length ecap (EL es):=CRow.other her (fun b off e hlt=>hbW.block b hlt (hen b off e)) hbW.size;have ho:ORow W oao os.length ocap (Pl.lf os):=CRow.other hor (fun b off e hlt=>hbW.block b hlt (hon b off e)) hbW.size;refine(proles_any m es eao ecap os oao ocap W hel hol he ho).mono ?_;rintro e w' ⟨R,rfl,z1,z2,z3⟩;refine⟨R,rfl,?_,Nat.le_trans hW.size z3,hW.trans (z2.mono hW.size)⟩;refine Eq.trans z1 (congrArg (fun a=>some (Obj.cells a 3)) (rowC_congr ?_));intro a ha;funext _
  rw[hrs];simp[IL,EL,List.getD_eq_getElem?_getD,List.getElem?_map,List.getElem?_eq_getElem ha]
 have HCB:Hid (∀W,Bt (fun q=>q=g) w W→W.ownsRow base 3 1 vc calm.length (intCells calm)):=fun W hW=>owns_keep hcm (fun q hq=>hW.block q (oCb hcm q hq).2 (fun e=>hne (by rw[←e];exact hq)));have HGL:Hid (∀q,vc.ownBlock=some q→q<w.heap.size):=fun q hq=>(oCb hcm q hq).2;have HGN:Hid (∀q,vc.ownBlock=some q→q≠g):=fun q hq e=>hne (by rw[←e];exact hq);obtain⟨k0,k1,k2,k3,k4,k5,k6,k7,k8⟩:w.cell? ⟨g,i*9,none⟩=some (.int .u64 x0.v.root)∧w.cell? ⟨g,i*9+1,none⟩=some (.int .i64 x0.v.cost)∧w.cell? ⟨g,i*9+2,none⟩=some (.int .u64 x0.v.bridge)∧w.cell? ⟨g,i*9+3,none⟩=some (.int .i64 x0.v.port)∧w.cell? ⟨g,i*9+4,none⟩=some (.int .i64 x0.age)∧w.cell? ⟨g,i*9+5,none⟩=some (.int .i64 x0.rp)∧w.cell? ⟨g,i*9+6,none⟩=some vp∧w.cell? ⟨g,i*9+7,none⟩=some vr0∧w.cell? ⟨g,i*9+8,none⟩=some vc:=by
  have H:∀y,y<9→w.cell? ⟨g,i*9+y,none⟩=some (mdC x0 vp vr0 vc y):=fun y hy=>by rw[←hcc y hy];exact rowS_cell hg hi hy
  exact⟨H 0 (by omega),H 1 (by omega),H 2 (by omega),H 3 (by omega),H 4 (by omega),H 5 (by omega),H 6 (by omega),H 7 (by omega),H 8 (by omega)⟩
 have HFR:Hid (∀w1,Bl w w1→(w1.cell? ⟨g,i*9,none⟩=some (.int .u64 x0.v.root)∧w1.cell? ⟨g,i*9+1,none⟩=some (.int .i64 x0.v.cost)∧w1.cell? ⟨g,i*9+2,none⟩=some (.int .u64 x0.v.bridge)∧w1.cell? ⟨g,i*9+3,none⟩=some (.int .i64 x0.v.port)∧w1.cell? ⟨g,i*9+4,none⟩=some (.int .i64 x0.age)∧w1.cell? ⟨g,i*9+5,none⟩=some (.int .i64 x0.rp))∧(∀o,w1.frozen? ⟨g,o,none⟩=false)):=fun w1 h1=>by
  have hgw:∀o,w1.cell? ⟨g,o,none⟩=w.cell? ⟨g,o,none⟩:=fun o=>h1.cell (by exact hgl);exact⟨⟨(hgw _).trans k0,(hgw _).trans k1,(hgw _).trans k2,(hgw _).trans k3,(hgw _).trans k4,(hgw _).trans k5⟩,fun o=>frozen_of_row _ _ _ _ _ (keep hg h1)⟩
 have HC0:Hid (∀a,a<calm.length→0≤IL calm a):=hc0;clear hm hrs hcm hcc hg her hor hen hon hne hc0 k0 k1 k2 k3 k4 k5 k6 k7 k8;go_enter Tryz.func135,Tryz.ntmps135;(go_wp2_with fail);refine HCH.out.mono ?_;rintro e w1 ⟨rfl,hb1⟩;obtain⟨⟨k0,k1,k2,k3,k4,k5⟩,fz⟩:=HFR.out w1 hb1;have f0:=fz (i*9);have f1:=fz (i*9+1);have f2:=fz (i*9+2);have f3:=fz (i*9+3);have f4:=fz (i*9+4);have f5:=fz (i*9+5);obtain⟨W2,HE2⟩:∃W2,Hid (W2=(((((w1.setCell ⟨g,i*9,none⟩ (.int .u64 m.v.root)).setCell ⟨g,i*9+1,none⟩ (.int .i64 m.v.cost)).setCell ⟨g,i*9+2,none⟩ (.int .u64 m.v.bridge)).setCell ⟨g,i*9+3,none⟩ (.int .i64 m.v.port)).setCell ⟨g,i*9+4,none⟩ (.int .i64 m.age)).setCell ⟨g,i*9+5,none⟩ (.int .i64 m.rp)):=⟨_,rfl⟩
 have HQ2:Hid (W2.heap[g]?=some (.cells (rowS sp n 9 (fun a x=>if a=i then mdC m vp vr0 vc x else cc a x)) 66)∧Bt (fun q=>q=g) w W2):=HW2.out w1 hb1 W2 HE2.out;clear HFR HCH fz HW2 hb1;(go_wp2_with fail);rw[←HE2.out];clear k0 k1 k2 k3 k4 k5 f0 f1 f2 f3 f4 f5 HE2;have HR2:Hid (∀W,Bl W2 W→Calls Tryz.prog 50 #[.slice eao es.length ecap,.agg #[.int .u64 m.v.root,.int .i64 m.v.cost,.int .u64 m.v.bridge,.int .i64 m.v.port],.int .i64 m.rp,.slice oao os.length ocap] W fun e w'=>∃R,e=.returned (.slice (some ⟨R,0,none⟩) es.length es.length)∧Hid (RlAt w' R es.length (IL rs)∧W2.heap.size≤R∧Bl W2 w')):=HRO.out W2 HQ2.out.2;have HMC:Hid (∀W,Bl W2 W→((W.cell? ⟨g,i*9,none⟩=some (.int .u64 m.v.root)∧W.cell? ⟨g,i*9+1,none⟩=some (.int .i64 m.v.cost)∧W.cell? ⟨g,i*9+2,none⟩=some (.int .u64 m.v.bridge)∧W.cell? ⟨g,i*9+3,none⟩=some (.int .i64 m.v.port))∧W.cell? ⟨g,i*9+5,none⟩=some (.int .i64 m.rp))):=fun W hW=>by
  obtain⟨a1,a2,_,_⟩:=mind_cells (keep HQ2.out.1 hW) hi;exact⟨a1,a2⟩
 have HM7:Hid (∀W,Bl W2 W→W.cell? ⟨g,i*9+7,none⟩=some vr0∧W.frozen? ⟨g,i*9+7,none⟩=false):=fun W hW=>⟨(mind_cells (keep HQ2.out.1 hW) hi).2.2.1,frozen_of_row _ _ _ _ _ (keep HQ2.out.1 hW)⟩
 have HMS:Hid (∀W (u:Value),Bl W2 W→(((W.setCell ⟨g,i*9+7,none⟩ u).cell? ⟨g,i*9,none⟩=some (.int .u64 m.v.root)∧(W.setCell ⟨g,i*9+7,none⟩ u).cell? ⟨g,i*9+1,none⟩=some (.int .i64 m.v.cost)∧(W.setCell ⟨g,i*9+7,none⟩ u).cell? ⟨g,i*9+2,none⟩=some (.int .u64 m.v.bridge)∧(W.setCell ⟨g,i*9+7,none⟩ u).cell? ⟨g,i*9+3,none⟩=some (.int .i64 m.v.port))∧(W.setCell ⟨g,i*9+7,none⟩ u).cell? ⟨g,i*9+5,none⟩=some (.int .i64 m.rp))):=fun W u hW=>by
  obtain⟨a1,a2,_,_⟩:=mind_cells (mind_set7 (keep HQ2.out.1 hW) hi u) hi;exact⟨a1,a2⟩
 have HN4:Hid (∀W R,Hid (RlAt W R es.length (IL rs)∧W2.heap.size≤R∧Bl W2 W)→HearW w (W.setCell ⟨g,i*9+7,none⟩ (.slice (some ⟨R,0,none⟩) es.length es.length)) g n i sp cc m vp vc base R rs (calmTo rs calm 0)):=fun W R h=>by
  obtain⟨z1,z2,z3⟩:=h.out;have hgR:g≠R:=by
   have:=HQ2.out.2.size;omega
  have hb4:Bt (fun q=>q=g) w (W.setCell ⟨g,i*9+7,none⟩ (.slice (some ⟨R,0,none⟩) es.length es.length)):=(HQ2.out.2.low z3).setCell (Or.inl rfl) _ _;refine⟨?_,?_,Nat.le_trans HQ2.out.2.size z2,?_,hb4.mono (fun q _ h=>Or.inl h)⟩
  ·rw[hrl];exact mind_set7 (keep HQ2.out.1 z3) hi _
  ·rw[hrl];unfold RlAt;rw[heap_setCell_other _ _ _ _ (by exact hgR.symm)];exact z1
  ·rw[calmTo_zero];exact HCB.out _ hb4
 have HB0:Hid (Bl W2 W2.drew):=Below.drew (Below.refl _ _);obtain⟨⟨b0,b1,b2,b3⟩,b5⟩:=HMC.out W2 (Below.refl _ _);clear HRO HQ2;go_region_held3 (fun W=>(W.cell? ⟨g,i*9,none⟩=some (.int .u64 m.v.root)∧W.cell? ⟨g,i*9+1,none⟩=some (.int .i64 m.v.cost)∧W.cell? ⟨g,i*9+2,none⟩=some (.int .u64 m.v.bridge)∧W.cell? ⟨g,i*9+3,none⟩=some (.int .i64 m.v.port))∧W.cell? ⟨g,i*9+5,none⟩=some (.int .i64 m.rp))
  (first | (with_reducible exact HMC.out _ HB0.out) | (with_reducible exact HMC.out _ HR1.out.2.2) | (exact HMS.out _ _ HR1.out.2.2))
  (first | (go_at_call 50;(with_reducible refine(HR2.out _ HB0.out).mono ?_);rintro e w6 ⟨R,rfl,HR1⟩;obtain⟨g0,f0⟩:=HM7.out w6 HR1.out.2.2))
 obtain⟨W4,HE4⟩:∃W4,Hid (W4=w6.setCell ⟨g,i*9+7,none⟩ (.slice (some ⟨R,0,none⟩) es.length es.length)):=⟨_,rfl⟩
 rw[←HE4.out];have HH4:Hid (HearW w W4 g n i sp cc m vp vc base R rs (calmTo rs calm 0)):=(by rw[HE4.out];exact HN4.out w6 R HR1)
 clear HE4 HR1 HN4 HMS HM7 HMC HR2 HB0 HCB b0 b1 b2 b3 b5 g0 f0;obtain⟨_,_,r7,_⟩:=mind_cells HH4.out.row hi;rw[hrl] at r7;(go_wp2_with fail);clear r7;go_loopw [45] (fun z wr=>∃j:Nat,j≤es.length∧z=.int .i64 j∧Hid (HearW w wr g n i sp cc m vp vc base R rs (calmTo rs calm j))) (fun z _=>es.length-(intOf z).toNat)
 case atStart=>exact⟨0,by omega,rfl,HH4⟩
 case round =>
  obtain⟨j,hj,rfl,hX⟩:=hrel;clear HH4;by_cases hlt:j<es.length
  ·have hlc:(calmTo rs calm j).length=calm.length:=calmTo_length hrc (by omega);have hco:=hX.out.calm;rw[hlc] at hco;have hco2:wr.ownsRow base 3 1 vc calm.length (cellsL calm.length 1 (fun a _=>.int .i64 (IL (calmTo rs calm j) a))):=by
    unfold intCells at hco;rw[hlc] at hco;exact hco
   rcases owns_rowS hco2 with⟨_,e1⟩ | ⟨gc,cp,sp2,e1,hg2,hn2,hm2,hs2,hh2⟩
   ·omega
   ·subst e1;obtain⟨_,_,_,c8⟩:=mind_cells hX.out.row hi;have hjc:j<calm.length:=(by omega)
    have cR:wr.cell? ⟨R,j,none⟩=some (.int .i64 (IL rs j)):=by
     have:=rowC_cell hX.out.roles (show j<rs.length by omega) (show 0<1 by omega);rw[show j*1+0=j by omega] at this;exact this
    have cC:wr.cell? ⟨gc,j,none⟩=some (.int .i64 (IL calm j)):=by
     have:=rowS_cell hh2 hjc (show 0<1 by omega);rw[show j*1+0=j by omega,calmTo_get hrc (by omega) hjc,if_neg (Nat.lt_irrefl _)] at this;exact this
    have fC:wr.frozen? ⟨gc,j,none⟩=false:=frozen_of_row _ _ _ _ _ hh2;have hgn:gc≠g:=HGN.out gc rfl;have hgR:gc≠R:=fun e=>by
     have h1:=HGL.out gc rfl;have h3:=hX.out.new;omega
    have hca:=HC0.out j hjc;have HTC:Hid (∀W,Calls Tryz.prog 152 #[.int .i64 (IL rs j),.int .i64 (IL calm j)] W fun e w'=>e=.returned (.int .i64 (Tk.calmOf (IL rs j) (IL calm j)))∧w'=W):=fun W=>tcalm_any _ _ W (by omega);have HN:Hid (HearW w (wr.setCell ⟨gc,j,none⟩ (.int .i64 (Tk.calmOf (IL rs j) (IL calm j)))) g n i sp cc m vp (.slice (some ⟨gc,0,none⟩) calm.length cp) base R rs (calmTo rs calm (j+1))):=by
     have hl1:(calmTo rs calm (j+1)).length=calm.length:=calmTo_length hrc (by omega);refine⟨?_,?_,hX.out.new,?_,hX.out.else'.setCell (Or.inl (Or.inr rfl)) _ _⟩
     ·rw[heap_setCell_other _ _ _ _ (by exact hgn.symm)];exact hX.out.row
     ·unfold RlAt;rw[heap_setCell_other _ _ _ _ (by exact hgR.symm)];exact hX.out.roles
     ·rw[hl1];refine owns_int_set hh2 hjc _ (fun a ha => ?_) hl1.symm hg2 hn2 hm2 hs2;rw[calmTo_get hrc (by omega) ha,calmTo_get hrc (by omega) ha];by_cases q:a=j
      ·subst q;rw[if_pos (Nat.lt_succ_self _),if_pos rfl]
      ·rw[if_neg q];by_cases q2:a<j
       ·rw[if_pos q2,if_pos (by omega)]
       ·rw[if_neg q2,if_neg (by omega)]
    have ij:(0:Int)≤(j:Int):=(by omega)
    have nj:(j:Int)<(es.length:Int):=(by omega)
    have nc:(j:Int)<(calm.length:Int):=(by omega)
    clear hX hco hco2 hh2 hs2 hlc;generalize Tk.calmOf (IL rs j) (IL calm j)=z2 at *;generalize IL rs j=zr at *;generalize IL calm j=zc at *;(go_wp2_with fail);go_region_with (go_at_call 152;refine(HTC.out _).mono ?_;rintro e w7 ⟨rfl,rfl⟩)
    (all_goals go_wp2_with fail);all_goals exact⟨⟨j+1,by omega,by go_num,by first | exact HN.out | exact HN.out.lowB (Below.drew (Below.refl _ _)) | exact HN.out.lowB (below_drewN (Below.refl _ _) _)⟩,by simp[intOf];omega⟩
  ·obtain rfl:j=es.length:=by omega
   have HF:Hid (HearW w wr g n i sp cc m vp vc base R rs (List.zipWith Tk.calmOf rs calm)):=by
    have h:=hX.out;rw[←hcl,calmTo_all hrc] at h;exact h
   clear hX;(go_wp2_with fail);exact bodyPost_end (results_none Tryz.results135 _ _ _) rfl ⟨rfl,R,HF.out⟩
end
section
open Go.ChangeShapes Go.WideShapes Go.ChangeAt Go.RowKit
theorem own:ownKnob Tryz.prog.godebug=none:=by kernel_rfl
theorem laidOut:laidOutB Tryz.prog=true:=by kernel_rfl
theorem one_of {a b:Value}(h:[a]=[b]):a=b:=by simpa using h
theorem wf_u64 {n:Int}(h:(Lit.int .u64 n).wf=true):0≤n∧n<18446744073709551616:=by
 simp only[Lit.wf,Bool.and_eq_true,decide_eq_true_eq] at h;have h1:IntKind.u64.min=0:=(by decide)
 have h2:IntKind.u64.max=18446744073709551615:=(by decide)
 rw[h1,h2] at h;omega
end
section
open Go.RowKit Go.Maps Go.WideElems Go.ChangeShapes Go.WideShapes Go.MapKept Go.ChangeMaps
def cntI {α:Type} [DecidableEq α] (f:Nat→α) (a:α):Nat→Int
 | 0=>0
 | k+1=>cntI f a k+if f k=a then 1 else 0
theorem cntI_range {α:Type} [DecidableEq α] (f:Nat→α) (a:α):∀k:Nat,0≤cntI f a k∧cntI f a k≤k
 | 0=>⟨Int.le_refl _,Int.le_refl _⟩
 | k+1=>by
  have:=cntI_range f a k;simp only[cntI];split<;>omega
theorem cntI_pos {α:Type} [DecidableEq α] (f:Nat→α) (a:α):∀k:Nat,0<cntI f a k↔Vc.someTo (fun j=>decide (f j=a)) k=true
 | 0=>⟨fun h=>by simp[cntI] at h,fun h=>by simp[Vc.someTo] at h⟩
 | k+1=>by
  have h1:=cntI_range f a k;have h2:=cntI_pos f a k;have h3:cntI f a (k+1)=cntI f a k+if f k=a then 1 else 0:=rfl
  have h4:Vc.someTo (fun j=>decide (f j=a)) (k+1)=(Vc.someTo (fun j=>decide (f j=a)) k||decide (f k=a)):=rfl;rw[h3,h4];by_cases e:f k=a
  ·rw[if_pos e,decide_eq_true e,Bool.or_true];exact⟨fun _=>rfl,fun _=>by omega⟩
  ·rw[if_neg e,decide_eq_false e,Bool.or_false,Int.add_zero];exact h2
theorem grown_cell {w w':World}{b P:Nat}{v:Value}(h:w.cell? ⟨P,0,none⟩=some v) (hg:w.grownBy w' (some b)) (hne:P≠b):w'.cell? ⟨P,0,none⟩=some v :=
 (World.cell?_of_block (w:=w) (hg.block P (block_lt_of_cell h) (fun e=>hne (by simpa using e)))).trans h
theorem mzero (w:World):(zeroValue 3).run Tryz.prog w=.ok (.int .i64 0) w:=by kernel_rfl
theorem mwf {n:Int}(h0:0≤n) (h1:n≤100000):(Lit.int .i64 n).wf=true:=WalkArith.wf_i64 (by omega)
theorem lit_inj {a b:Int}(h:(DataW.lit (.int .i64 a):DataW Unit)=.lit (.int .i64 b)):a=b:=by
 injection h with h;injection h
/- addresses -/
theorem ukeyed:Keyed Tryz.prog 56:=int_keyed Tryz.underlying56
def UCnt (w:World) (b:Nat) (f:Nat→Int) (m:Nat):Prop:=∃D:DataW Unit,w.ownsMap Tryz.prog 56 (plainElem Tryz.prog 3) b m D∧IsMap D∧∀a,(Lit.int .u64 a).wf=true→D.atKey (.int .u64 a) (.lit (.int .i64 0))=.lit (.int .i64 (cntI f a m))
theorem UCnt.same {w w':World}{b m:Nat}{f:Nat→Int}(h:UCnt w b f m) (e:w'.heap[b]?=w.heap[b]?):UCnt w' b f m:=by
 obtain⟨D,⟨es,clock,hb,r⟩,h2⟩:=h;exact⟨D,⟨es,clock,e.trans hb,r⟩,h2⟩
theorem UCnt.lt {w:World}{b m:Nat}{f:Nat→Int}(h:UCnt w b f m):b<w.heap.size:=by
 obtain⟨D,h1,_⟩:=h;exact h1.lt
theorem utake_any (P b m:Nat) (f:Nat→Int) (a:Int) (w:World) (hP:w.cell? ⟨P,0,none⟩=some (.map (some b))) (hne:P≠b) (h:UCnt w b f m) (hm:m≤1000) (hf:f m=a) (hwf:(Lit.int .u64 a).wf=true) :
  Calls Tryz.prog 113 #[.int .u64 a,.pointer (some ⟨P,0,none⟩)] w fun e w'=>e=.returned (.int .i64 (if 0<cntI f a m then 7 else 0))∧UCnt w' b f (m+1)∧w.grownBy w' (some b):=by
 obtain⟨D,ho,hD,hat⟩:=h;have hr:=cntI_range f a m;have ht:=Tryz.underlying176;have he:=Tryz.underlying3;have hkey:=keyOf_int_mk (k:=56) Tryz.underlying56 hwf;obtain⟨c,e1,e2,_⟩:=ho.lookup_int ukeyed ht he (mzero w) hkey;rw[hat a hwf] at e2;have e2:=lit_inj e2;subst e2;obtain⟨w1,e3,ho1,hg⟩:=ho.update ukeyed ht (by unfold maxLen;omega) hkey (plainElem_int he (mwf (n:=cntI f a m+1) (by omega) (by omega)));have hat1:∀x,(Lit.int .u64 x).wf=true→(D.put (.int .u64 a) (.lit (.int .i64 (cntI f a m+1)))).atKey (.int .u64 x) (.lit (.int .i64 0))=.lit (.int .i64 (cntI f x (m+1))):=by
  intro x hx;simp only[cntI];by_cases e:a=x
  ·subst e;rw[atKey_put_same hD (ukeyed.key hkey),if_pos hf]
  ·rw[atKey_put_other (fun q=>e (by injection q with _ q;exact q.symm)),hat x hx,if_neg (by rw[hf];exact e),Int.add_zero]
 obtain⟨c',e4,e5,_⟩:=ho1.lookup_int ukeyed ht he (mzero w1) hkey;rw[hat1 a hwf] at e5;have e5:=lit_inj e5;simp only[cntI,if_pos hf] at e5;subst e5;have hP1:w1.cell? ⟨P,0,none⟩=some (.map (some b)):=grown_cell hP hg hne;have HF:Hid (UCnt w1 b f (m+1)∧w.grownBy w1 (some b)):=⟨⟨_,ho1,hD.put _ _,hat1⟩,hg⟩
 clear hat1 ho1 hat ho hD hg hf;generalize cntI f a m=t at *;have wt:IntKind.i64.wrap (t+1)=t+1:=wraps_i64 _ (by omega) (by omega);by_cases h0:0<t
 ·rw[if_pos h0];have g1:(1:Int)<t+1:=(by omega)
  go_enter Tryz.func113,Tryz.ntmps113;(go_wp2_with fail);go_ret;exact⟨rfl,HF.out⟩
 ·rw[if_neg h0];have g1:¬(1:Int)<t+1:=(by omega)
  go_enter Tryz.func113,Tryz.ntmps113;(go_wp2_with fail);go_ret;exact⟨rfl,HF.out⟩
theorem utaker_any (f:Nat→Int) (w:World) :
  Calls Tryz.prog 80 #[] w fun e w'=>e=.returned (.func (.func 113) #[] #[.pointer (some ⟨w.heap.size+1,0,none⟩)])∧w'.cell? ⟨w.heap.size+1,0,none⟩=some (.map (some w.heap.size))∧UCnt w' w.heap.size f 0∧Bl w w':=by
 have hmm:=@run_makeMap Tryz.prog;go_enter Tryz.func80,Tryz.ntmps80;(go_wp2_with fail);go_ret;exact⟨rfl,cell_of_row _ _ 0 _ _ _ (heap_alloc2_new w (.map #[] 0) (.cells #[.map (some w.heap.size)] 176)),⟨.map [],(World.ownsMap_made w _ _ _).alloc _,isMap_empty,fun _ _=>rfl⟩,bA2 _ _ _⟩
/- ports -/
theorem prowT:(120:TypeId)<Tryz.prog.types.size:=of_decide_eq_true (by kernel_rfl)
theorem pwide:(match Tryz.prog.underlying 120 with | some (.array _ _) | some (.struct _)=>true | _=>false)=true:=by rw[Tryz.underlying120]
theorem pklaw:WideMaps.KeyLaw Tryz.prog 120:=deep_law_laid laidOut (m:=3) (by omega) prowT (by kernel_rfl) pwide
theorem pkeyed:Keyed Tryz.prog 120:=Keyed.of_law pklaw
def pkl (x:Int×Int):Lit:=.string (keyBytes [.int .i64 x.1,.int .i64 x.2])
def pV (x:Int×Int):Value:=.agg #[.int .i64 x.1,.int .i64 x.2]
theorem ptypes:∃m,Tryz.prog.types.size=m+1:=⟨Tryz.prog.types.size-1,by kernel_rfl⟩
theorem pkeyType:Tryz.prog.keyType 120=true:=by kernel_rfl
theorem pcells2:Tryz.prog.cellsOf 120=2:=by kernel_rfl
theorem pcells1:Tryz.prog.cellsOf 3=1:=by kernel_rfl
theorem pkey_of (x:Int×Int) (h1:(Lit.int .i64 x.1).wf=true) (h2:(Lit.int .i64 x.2).wf=true):keyOf Tryz.prog 120 (pV x)=some (pkl x):=by
 obtain⟨m,hm⟩:=ptypes;unfold keyOf pV;simp only[Tryz.underlying120];rw[if_pos (by simp[pkeyType,Value.formed,Tryz.underlying120,pcells2]),hm];unfold Program.keyLits;simp only[Tryz.underlying120,Value.cells];rw[if_pos (by rw[pcells2];exact⟨rfl,by simp⟩)];simp[pcells1,Program.keyLits,Tryz.underlying3,h1,h2,pkl]
end
end Go.Proofs.YtaneiffnhphkhaaGreatDoor
