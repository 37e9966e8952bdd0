/- walks: Go's stable sort: rotate -/
import Derived.Test.YtaneiffnhphkhaaGreatDoorD04
import Derived.Test.YtaneiffnhphkhaaGreatDoorD05
set_option maxRecDepth 100000
set_option maxHeartbeats 40000000
namespace Go.Proofs.YtaneiffnhphkhaaGreatDoor
section
open Go.RowKit
open Pl (En)
namespace Ec
def cmp (a b:En):Int:=sg a.port b.port
theorem cmp_lt {a b:En}:cmp a b<0↔lt a b:=by
 unfold cmp sg lt;by_cases h1:a.port<b.port
 ·simp[h1]
 ·by_cases h2:b.port<a.port<;>simp[h1,h2]
end Ec
namespace Es
theorem ecmp_any (x y:En) (W:World):Calls Tryz.prog 77 #[.agg #[.int .i64 x.port,.int .i64 x.cost,.int .i64 x.other,.int .i64 x.oport,.bool x.live],.agg #[.int .i64 y.port,.int .i64 y.cost,.int .i64 y.other,.int .i64 y.oport,.bool y.live]] W fun e w'=>e=.returned (.int .i64 (Ec.cmp x y))∧Bl W w':=by
 have hcon:=fun W'=>ccmpi_any x.port y.port W';unfold Ec.cmp;generalize sg x.port y.port=r at hcon ⊢;go_enter Tryz.func77,Tryz.ntmps77;go_wp2_with (go_at_call 78;refine(hcon _).mono ?_;rintro e w' ⟨rfl,rfl⟩)
 go_ret;exact⟨rfl,bA2 _ _ _⟩
def rowE (sp:Array Value) (n:Nat) (f:Nat→En):Array Value:=rowC n 5 (fun i=>enC (f i))++sp
theorem rowE_get (sp:Array Value) (n:Nat) (f:Nat→En) (k j:Nat) (hk:k<n) (hj:j<5):(rowE sp n f)[k*5+j]?=some (enC (f k) j):=by
 have h:=mul_add_lt hk hj;unfold rowE;rw[Array.getElem?_append_left (by rw[rowC_size];exact h)];exact rowC_get _ hk hj
theorem rowE_put1 (sp:Array Value) (n:Nat) (c:Nat→Nat→Value) (k j:Nat) (v:Value) (hk:k<n) (hj:j<5):(rowC n 5 c++sp).setIfInBounds (k*5+j) v=rowC n 5 (updC c k j v)++sp:=by
 have h:=mul_add_lt hk hj;rw[←rowC_put c hk hj];apply Array.ext_getElem?
 intro x;have s1:=rowC_size n 5 c;rw[Array.getElem?_setIfInBounds];by_cases hx:x<n*5
 ·rw[Array.getElem?_append_left (by rw[s1];exact hx),Array.getElem?_append_left (by rw[Array.size_setIfInBounds,s1];exact hx),Array.getElem?_setIfInBounds];by_cases q:k*5+j=x
  ·rw[if_pos q,if_pos q,if_pos (by rw[Array.size_append,s1];omega),if_pos (by rw[s1];omega)]
  ·rw[if_neg q,if_neg q]
 ·rw[if_neg (by omega),Array.getElem?_append_right (by rw[s1];omega),Array.getElem?_append_right (by rw[Array.size_setIfInBounds,s1];omega),Array.size_setIfInBounds]
theorem rowE_congr (sp:Array Value) (n:Nat) (f g:Nat→En) (h:∀i,i<n→f i=g i):rowE sp n f=rowE sp n g:=by
 unfold rowE;rw[rowC_congr (d:=fun i=>enC (g i)) (fun i hi=>by rw[h i hi])]
section
variable {sp:Array Value}{w:World}{g n:Nat}{f:Nat→En}{ty:TypeId}
theorem rowE_cells (h:w.heap[g]?=some (.cells (rowE sp n f) ty (0,0))) {k:Nat}(hk:k<n) :
  w.cell? ⟨g,k*5,none⟩=some (.int .i64 (f k).port)∧w.cell? ⟨g,k*5+1,none⟩=some (.int .i64 (f k).cost)∧w.cell? ⟨g,k*5+2,none⟩=some (.int .i64 (f k).other)∧w.cell? ⟨g,k*5+3,none⟩=some (.int .i64 (f k).oport)∧w.cell? ⟨g,k*5+4,none⟩=some (.bool (f k).live):=by
 have H:∀j,j<5→w.cell? ⟨g,k*5+j,none⟩=some (enC (f k) j):=fun j hj=>(cell_of_row w g _ _ _ _ h).trans (rowE_get sp n f k j hk hj);exact⟨H 0 (by omega),H 1 (by omega),H 2 (by omega),H 3 (by omega),H 4 (by omega)⟩
theorem rowE_free (h:w.heap[g]?=some (.cells (rowE sp n f) ty (0,0))) (k:Nat) :
  w.frozen? ⟨g,k*5,none⟩=false∧w.frozen? ⟨g,k*5+1,none⟩=false∧w.frozen? ⟨g,k*5+2,none⟩=false∧w.frozen? ⟨g,k*5+3,none⟩=false∧w.frozen? ⟨g,k*5+4,none⟩=false :=
 ⟨frozen_of_row _ _ _ _ _ h,frozen_of_row _ _ _ _ _ h,frozen_of_row _ _ _ _ _ h,frozen_of_row _ _ _ _ _ h,frozen_of_row _ _ _ _ _ h⟩
theorem rowE_set (h:w.heap[g]?=some (.cells (rowE sp n f) ty (0,0))) {k:Nat}(hk:k<n) (v:En) :
  (((((w.setCell ⟨g,k*5,none⟩ (.int .i64 v.port)).setCell ⟨g,k*5+1,none⟩ (.int .i64 v.cost)).setCell ⟨g,k*5+2,none⟩ (.int .i64 v.other)).setCell ⟨g,k*5+3,none⟩ (.int .i64 v.oport)).setCell ⟨g,k*5+4,none⟩ (.bool v.live)).heap[g]?=some (.cells (rowE sp n (fun i=>if i=k then v else f i)) ty (0,0)):=by
 rw[heap_setCell_same _ _ _ _ _ _ (heap_setCell_same _ _ _ _ _ _ (heap_setCell_same _ _ _ _ _ _ (heap_setCell_same _ _ _ _ _ _ (heap_setCell_same _ _ _ _ _ _ h))))];have e0:=rowE_put1 sp n (fun i=>enC (f i)) k 0 (.int .i64 v.port) hk (by omega);rw[Nat.add_zero] at e0;unfold rowE;rw[e0,rowE_put1 sp n _ k 1 _ hk (by omega),rowE_put1 sp n _ k 2 _ hk (by omega),rowE_put1 sp n _ k 3 _ hk (by omega),rowE_put1 sp n _ k 4 _ hk (by omega)];rw[rC2 (d:=fun i=>enC (if i=k then v else f i)) (fun i _ m hm => ?_)];unfold updC;by_cases q:i=k
 ·subst q;rcases(by omega:m=0∨m=1∨m=2∨m=3∨m=4) with e | e | e | e | e<;>subst e<;>simp[enC]
 ·simp[q]
theorem rowE_swap (h:w.heap[g]?=some (.cells (rowE sp n f) ty (0,0))) {i j:Nat}(hi:i<n) (hj:j<n) (hne:i≠j) :
  ((((((((((w.setCell ⟨g,i*5,none⟩ (.int .i64 (f j).port)).setCell ⟨g,i*5+1,none⟩ (.int .i64 (f j).cost)).setCell ⟨g,i*5+2,none⟩ (.int .i64 (f j).other)).setCell ⟨g,i*5+3,none⟩ (.int .i64 (f j).oport)).setCell ⟨g,i*5+4,none⟩ (.bool (f j).live)).setCell ⟨g,j*5,none⟩ (.int .i64 (f i).port)).setCell ⟨g,j*5+1,none⟩ (.int .i64 (f i).cost)).setCell ⟨g,j*5+2,none⟩ (.int .i64 (f i).other)).setCell ⟨g,j*5+3,none⟩ (.int .i64 (f i).oport)).setCell ⟨g,j*5+4,none⟩ (.bool (f i).live)).heap[g]?=some (.cells (rowE sp n (Ec.swp f i j)) ty (0,0)):=by
 rw[rowE_set (rowE_set h hi (f j)) hj (f i)];congr 2
 apply rowE_congr
 intro x _;unfold Ec.swp;by_cases e:x=j
 ·rw[if_pos e];by_cases e2:x=i
  ·omega
  ·rw[if_neg e2,if_pos e]
 ·rw[if_neg e,if_neg e]
def But (g:Nat) (u w:World):Prop:=u.grownBy w (some g)
theorem But.refl (g:Nat) (w:World):But g w w:=⟨rfl,rfl,rfl,Nat.le_refl _,fun _ _ _=>rfl⟩
theorem But.trans {g:Nat}{a b c:World}(h:But g a b) (k:But g b c):But g a c :=
 ⟨k.os.trans h.os,k.tape.trans h.tape,k.output.trans h.output,Nat.le_trans h.size k.size,fun q hq hne=>(k.block q (Nat.lt_of_lt_of_le hq h.size) hne).trans (h.block q hq hne)⟩
theorem But.low {g:Nat}{a b c:World}(h:But g a b) (k:Bl b c):But g a c :=
 h.trans ⟨k.os,k.tape,k.output,k.size,fun q hq _=>k.block q hq⟩
theorem But.drewN {g:Nat}{a b:World}(h:But g a b) (m:Nat):But g a (b.drewN m):=h.low (below_drewN (Below.refl _ _) m)
theorem But.drew {g:Nat}{a b:World}(h:But g a b):But g a b.drew:=h.low (Below.drew (Below.refl _ _))
theorem But.setCell {g:Nat}{a b:World}(h:But g a b) (o:Nat) (v:Value):But g a (b.setCell ⟨g,o,none⟩ v) :=
 h.trans ⟨by first | rfl | simp,by first | rfl | simp,by first | rfl | simp,by first | exact Nat.le_refl _ | simp,fun q _ hne=>heap_setCell_other _ _ _ _ (by intro e;exact hne (by rw[e]))⟩
theorem but_set5 {u w:World}(h:But g u w) {o1 o2 o3 o4 o5:Nat}{v1 v2 v3 v4 v5:Value} :
  But g u (((((w.setCell ⟨g,o1,none⟩ v1).setCell ⟨g,o2,none⟩ v2).setCell ⟨g,o3,none⟩ v3).setCell ⟨g,o4,none⟩ v4).setCell ⟨g,o5,none⟩ v5) :=
 ((((h.setCell _ _).setCell _ _).setCell _ _).setCell _ _).setCell _ _
theorem swap_fin {u:World}(h:w.heap[g]?=some (.cells (rowE sp n f) ty (0,0))) (hb:But g u w) (_:g≤g) {i j:Nat}(hi:i<n) (hj:j<n) (hne:i≠j) {F:Nat→En}(e:Ec.swp f i j=F) :
  ((((((((((w.setCell ⟨g,i*5,none⟩ (.int .i64 (f j).port)).setCell ⟨g,i*5+1,none⟩ (.int .i64 (f j).cost)).setCell ⟨g,i*5+2,none⟩ (.int .i64 (f j).other)).setCell ⟨g,i*5+3,none⟩ (.int .i64 (f j).oport)).setCell ⟨g,i*5+4,none⟩ (.bool (f j).live)).setCell ⟨g,j*5,none⟩ (.int .i64 (f i).port)).setCell ⟨g,j*5+1,none⟩ (.int .i64 (f i).cost)).setCell ⟨g,j*5+2,none⟩ (.int .i64 (f i).other)).setCell ⟨g,j*5+3,none⟩ (.int .i64 (f i).oport)).setCell ⟨g,j*5+4,none⟩ (.bool (f i).live)).drew.heap[g]?=some (.cells (rowE sp n F) ty (0,0)) ∧
   But g u ((((((((((w.setCell ⟨g,i*5,none⟩ (.int .i64 (f j).port)).setCell ⟨g,i*5+1,none⟩ (.int .i64 (f j).cost)).setCell ⟨g,i*5+2,none⟩ (.int .i64 (f j).other)).setCell ⟨g,i*5+3,none⟩ (.int .i64 (f j).oport)).setCell ⟨g,i*5+4,none⟩ (.bool (f j).live)).setCell ⟨g,j*5,none⟩ (.int .i64 (f i).port)).setCell ⟨g,j*5+1,none⟩ (.int .i64 (f i).cost)).setCell ⟨g,j*5+2,none⟩ (.int .i64 (f i).other)).setCell ⟨g,j*5+3,none⟩ (.int .i64 (f i).oport)).setCell ⟨g,j*5+4,none⟩ (.bool (f i).live)).drew:=by
 subst e;exact⟨drew_row (rowE_swap h hi hj hne),(but_set5 (but_set5 hb)).drew⟩
end
end Es
namespace Es
theorem cmp_say (x y:En) (X W:World) (hW:Bl X W) :
  Calls Tryz.prog 77 #[.agg #[.int .i64 x.port,.int .i64 x.cost,.int .i64 x.other,.int .i64 x.oport,.bool x.live],.agg #[.int .i64 y.port,.int .i64 y.cost,.int .i64 y.other,.int .i64 y.oport,.bool y.live]] W fun e w'=>e=.returned (.int .i64 (Ec.cmp x y))∧Hid (Bl X w') :=
 (ecmp_any x y W).mono (fun _ _ h=>⟨h.1,hW.trans (h.2.mono hW.size)⟩)
theorem sinsertion_any (sp:Array Value) (g n cap a b:Nat) (f:Nat→En) (w:World) (hA:w.heap[g]?=some (.cells (rowE sp n f) 135)) (hn:n≤4398046511104) (ha:a≤n) (hb:b≤n) :
  Calls Tryz.prog 140 #[.slice (some ⟨g,0,none⟩) n cap,.int .i64 a,.int .i64 b,.func (.func 77) #[] #[]] w fun x w'=>x=.returned (.tuple #[])∧∃G,w'.heap[g]?=some (.cells (rowE sp n G) 135)∧Ec.Pm a b f G∧Ec.SIn a b G∧But g w w':=by
 have HA:Hid (w.heap[g]?=some (.cells (rowE sp n f) 135)):=hA;clear hA;go_enter Tryz.func140,Tryz.ntmps140;(go_wp2_with fail);go_loopw [8] (fun vi wr=>∃i:Nat,a+1≤i∧(i≤b∨i=a+1)∧vi=.int .i64 i∧Hid (∃G,wr.heap[g]?=some (.cells (rowE sp n G) 135)∧Ec.Pm a b f G∧Ec.SIn a i G∧But g w wr)) (fun i _=>b-(intOf i).toNat)
 case atStart=>exact⟨a+1,by omega,Or.inr rfl,by go_num,f,HA.out,Ec.Pm.refl,Ec.SIn.short f (by omega),But.refl _ _⟩
 case round =>
  obtain⟨i,li,ui,rfl,hX⟩:=hrel;have HX:Hid (∃G,wr.heap[g]?=some (.cells (rowE sp n G) 135)∧Ec.Pm a b f G∧Ec.SIn a i G∧But g w wr):=hX;clear hX HA;by_cases hlt:i<b
  ·have hlt2:(i:Int)<(b:Int):=(by omega)
   (go_wp2_with fail);go_loopw [9] (fun vj wi=>∃j:Nat,a≤j∧j≤i∧vj=.int .i64 j∧Hid (∃G,wi.heap[g]?=some (.cells (rowE sp n G) 135)∧Ec.Pm a b f G∧Ec.Ins a i j G∧But g w wi)) (fun j _=>(intOf j).toNat)
   case atStart =>
    obtain⟨G,h1,h2,h3,h4⟩:=HX.out;exact⟨i,by omega,by omega,rfl,G,h1,h2,Ec.Ins.start h3,h4⟩
   case round =>
    obtain⟨j,lj,uj,rfl,hY⟩:=hrel;obtain⟨G,hG,hP,hI,hB⟩:=hY.out;have HG:Hid (wr.heap[g]?=some (.cells (rowE sp n G) 135)):=hG;have HP:Hid (Ec.Pm a b f G):=hP;have HI:Hid (Ec.Ins a i j G):=hI;have HB:Hid (But g w wr):=hB;clear hY hG hP hI hB HX;by_cases hj:a<j
    ·obtain⟨p,hp⟩:∃p,p=j-1:=⟨_,rfl⟩
     have wp:IntKind.i64.wrap ((j:Int)-1)=(p:Int):=(by rw[wraps_i64 _ (by omega) (by omega)];omega)
     have hj2:(a:Int)<(j:Int):=(by omega)
     have ip:(0:Int)≤(p:Int):=(by omega)
     have ij:(0:Int)≤(j:Int):=(by omega)
     have np:(p:Int)<(n:Int):=(by omega)
     have nj:(j:Int)<(n:Int):=(by omega)
     have HCC:Hid (∀W,Bl wr W→(W.cell? ⟨g,j*5,none⟩=some (.int .i64 (G j).port)∧W.cell? ⟨g,j*5+1,none⟩=some (.int .i64 (G j).cost)∧W.cell? ⟨g,j*5+2,none⟩=some (.int .i64 (G j).other)∧W.cell? ⟨g,j*5+3,none⟩=some (.int .i64 (G j).oport)∧W.cell? ⟨g,j*5+4,none⟩=some (.bool (G j).live))∧W.cell? ⟨g,p*5,none⟩=some (.int .i64 (G p).port)∧W.cell? ⟨g,p*5+1,none⟩=some (.int .i64 (G p).cost)∧W.cell? ⟨g,p*5+2,none⟩=some (.int .i64 (G p).other)∧W.cell? ⟨g,p*5+3,none⟩=some (.int .i64 (G p).oport)∧W.cell? ⟨g,p*5+4,none⟩=some (.bool (G p).live)):=fun W hW=>⟨rowE_cells (keep HG.out hW) (show j<n by omega),rowE_cells (keep HG.out hW) (show p<n by omega)⟩
     have HFR:Hid (∀W,Bl wr W→(W.frozen? ⟨g,j*5,none⟩=false∧W.frozen? ⟨g,j*5+1,none⟩=false∧W.frozen? ⟨g,j*5+2,none⟩=false∧W.frozen? ⟨g,j*5+3,none⟩=false∧W.frozen? ⟨g,j*5+4,none⟩=false)∧W.frozen? ⟨g,p*5,none⟩=false∧W.frozen? ⟨g,p*5+1,none⟩=false∧W.frozen? ⟨g,p*5+2,none⟩=false∧W.frozen? ⟨g,p*5+3,none⟩=false∧W.frozen? ⟨g,p*5+4,none⟩=false):=fun W hW=>⟨rowE_free (keep HG.out hW) j,rowE_free (keep HG.out hW) p⟩
     have HW0:Hid (Bl wr wr):=Below.refl _ _;have HCM:Hid (∀W,Bl wr W→Calls Tryz.prog 77 #[.agg #[.int .i64 (G j).port,.int .i64 (G j).cost,.int .i64 (G j).other,.int .i64 (G j).oport,.bool (G j).live],.agg #[.int .i64 (G p).port,.int .i64 (G p).cost,.int .i64 (G p).other,.int .i64 (G p).oport,.bool (G p).live]] W fun e w'=>e=.returned (.int .i64 (Ec.cmp (G j) (G p)))∧Hid (Bl wr w')):=fun W hW=>cmp_say (G j) (G p) wr W hW;have HSW:Hid (∀W,Bl wr W→_):=fun W hW=>swap_fin (F:=Ec.swp G j p) (keep HG.out hW) (HB.out.low hW) (Nat.le_refl _) (show j<n by omega) (show p<n by omega) (show j≠p by omega) rfl;have HLO:Hid (∀W,Bl wr W→W.heap[g]?=some (.cells (rowE sp n G) 135)∧But g w W):=fun W hW=>⟨keep HG.out hW,HB.out.low hW⟩
     have HYES:Hid (Ec.cmp (G j) (G p)<0→Ec.Pm a b f (Ec.swp G j p)∧Ec.Ins a i p (Ec.swp G j p)):=fun h=>⟨Ec.Pm.swap j p ⟨by omega,by omega⟩ ⟨by omega,by omega⟩ HP.out,by
      subst hp;exact HI.out.step hj uj (Ec.cmp_lt.1 h)⟩
     have HNO:Hid (¬Ec.cmp (G j) (G p)<0→Ec.SIn a (i+1) G):=fun h=>HI.out.done lj uj (fun _ q=>h (Ec.cmp_lt.2 (by subst hp;exact q)));obtain⟨⟨c0,c1,c2,c3,c4⟩,d0,d1,d2,d3,d4⟩:=HCC.out wr HW0.out;have hpj:p<j:=(by omega)
     have hap:a≤p:=(by omega)
     clear hp HI HG HB;obtain⟨CV,hCV⟩:∃CV,Ec.cmp (G j) (G p)=CV:=⟨_,rfl⟩
     rw[hCV] at HCM HYES HNO;clear hCV;obtain⟨x,hx⟩:∃x,G j=x:=⟨_,rfl⟩
     obtain⟨y,hy⟩:∃y,G p=y:=⟨_,rfl⟩
     rw[hx,hy] at HCC HCM HSW;rw[hx] at c0 c1 c2 c3 c4;rw[hy] at d0 d1 d2 d3 d4;clear hx hy;(go_wp2_with fail);go_region_held3 (fun W=>(W.cell? ⟨g,j*5,none⟩=some (.int .i64 x.port)∧W.cell? ⟨g,j*5+1,none⟩=some (.int .i64 x.cost)∧W.cell? ⟨g,j*5+2,none⟩=some (.int .i64 x.other)∧W.cell? ⟨g,j*5+3,none⟩=some (.int .i64 x.oport)∧W.cell? ⟨g,j*5+4,none⟩=some (.bool x.live))∧W.cell? ⟨g,p*5,none⟩=some (.int .i64 y.port)∧W.cell? ⟨g,p*5+1,none⟩=some (.int .i64 y.cost)∧W.cell? ⟨g,p*5+2,none⟩=some (.int .i64 y.other)∧W.cell? ⟨g,p*5+3,none⟩=some (.int .i64 y.oport)∧W.cell? ⟨g,p*5+4,none⟩=some (.bool y.live))
      (first | (exact HCC.out _ (Below.drew HW0.out)) | (exact HCC.out _ (Hid.out (by assumption))))
      (first | (go_at_call 77;refine(HCM.out _ (Below.drew HW0.out)).mono ?_;rintro e w3 ⟨rfl,HB3⟩))
     clear c0 c1 c2 c3 c4 d0 d1 d2 d3 d4;by_cases hc:CV<0
     ·obtain⟨k1,k2⟩:=HYES.out hc;have HFN:Hid (_∧_):=HSW.out w3 HB3.out;have HPI:Hid (Ec.Pm a b f (Ec.swp G j p)∧Ec.Ins a i p (Ec.swp G j p)):=⟨k1,k2⟩
      obtain⟨⟨c0,c1,c2,c3,c4⟩,d0,d1,d2,d3,d4⟩:=HCC.out w3 HB3.out;obtain⟨⟨e0,e1,e2,e3,e4⟩,f0,f1,f2,f3,f4⟩:=HFR.out w3 HB3.out;have hne:j*5≠p*5:=(by omega)
      clear HSW HCC HCM HFR HYES HNO HLO k1 k2 HW0 HB3;(go_wp2_with fail);go_region
      (all_goals go_wp2_with fail);all_goals exact⟨⟨p,hap,by omega,rfl,Ec.swp G j p,HFN.out.1,HPI.out.1,HPI.out.2,HFN.out.2⟩,by simp[intOf];omega⟩
     ·have HOUT:Hid (∃G,w3.heap[g]?=some (.cells (rowE sp n G) 135)∧Ec.Pm a b f G∧Ec.SIn a (i+1) G∧But g w w3):=⟨G,(HLO.out w3 HB3.out).1,HP.out,HNO.out (by omega),(HLO.out w3 HB3.out).2⟩
      have hc2:decide (CV<0)=false:=decide_eq_false hc;clear HSW HCC HCM HFR HYES HNO HLO HW0 HB3;(go_wp2_with fail);exact⟨⟨i+1,by omega,by omega,by go_num,HOUT⟩,by simp[intOf];omega⟩
    ·have hja:j=a:=(by omega)
     have HOUT:Hid (∀m,∃G,(wr.drewN m).heap[g]?=some (.cells (rowE sp n G) 135)∧Ec.Pm a b f G∧Ec.SIn a (i+1) G∧But g w (wr.drewN m)):=fun m=>⟨G,HG.out,HP.out,HI.out.done lj uj (fun q=>by omega),HB.out.drewN m⟩
     have hd:decide ((a:Int)<(j:Int))=false:=decide_eq_false (by omega);clear HG HP HI HB hja;(go_wp2_with fail);(go_quiet (fail));(go_wp2_with fail);exact⟨⟨i+1,by omega,by omega,by go_num,HOUT.out _⟩,by simp[intOf];omega⟩
  ·have HF:Hid (∃G,wr.heap[g]?=some (.cells (rowE sp n G) 135)∧Ec.Pm a b f G∧Ec.SIn a b G∧But g w wr):=by
    obtain⟨G,h1,h2,h3,h4⟩:=HX.out;exact⟨G,h1,h2,h3.sub (Nat.le_refl _) (by omega),h4⟩
   clear HX;(go_wp2_with fail);exact bodyPost_end (results_none Tryz.results140 _ _ _) rfl ⟨rfl,HF.out⟩
end Es
namespace Es
theorem lt_of_le_lt {x y z:En}(h:¬Ec.lt y x) (k:Ec.lt y z):Ec.lt x z:=by unfold Ec.lt at *;omega
theorem lt_of_lt_le {x y z:En}(h:Ec.lt x y) (k:¬Ec.lt z y):Ec.lt x z:=by unfold Ec.lt at *;omega
theorem two_cells {sp:Array Value}{X:World}{g n:Nat}{G:Nat→En}{ty:TypeId}(hG:X.heap[g]?=some (.cells (rowE sp n G) ty (0,0))) {i j:Nat}(hi:i<n) (hj:j<n) (W:World) (hW:Bl X W) :
  (W.cell? ⟨g,i*5,none⟩=some (.int .i64 (G i).port)∧W.cell? ⟨g,i*5+1,none⟩=some (.int .i64 (G i).cost)∧W.cell? ⟨g,i*5+2,none⟩=some (.int .i64 (G i).other)∧W.cell? ⟨g,i*5+3,none⟩=some (.int .i64 (G i).oport)∧W.cell? ⟨g,i*5+4,none⟩=some (.bool (G i).live))∧W.cell? ⟨g,j*5,none⟩=some (.int .i64 (G j).port)∧W.cell? ⟨g,j*5+1,none⟩=some (.int .i64 (G j).cost)∧W.cell? ⟨g,j*5+2,none⟩=some (.int .i64 (G j).other)∧W.cell? ⟨g,j*5+3,none⟩=some (.int .i64 (G j).oport)∧W.cell? ⟨g,j*5+4,none⟩=some (.bool (G j).live) :=
 ⟨rowE_cells (keep hG hW) hi,rowE_cells (keep hG hW) hj⟩
theorem row_stay {sp:Array Value}{X w:World}{g n:Nat}{G:Nat→En}{ty:TypeId}(hG:X.heap[g]?=some (.cells (rowE sp n G) ty (0,0))) (hB:But g w X) (W:World) (hW:Bl X W):W.heap[g]?=some (.cells (rowE sp n G) ty (0,0))∧But g w W :=
 ⟨keep hG hW,hB.low hW⟩
theorem smergeA (sp:Array Value) (g n cap a m b:Nat) (f:Nat→En) (w:World) (hA:w.heap[g]?=some (.cells (rowE sp n f) 135)) (hn:n≤4398046511104) (hm:m=a+1) (h1:m<b) (h2:b≤n) (hs:Ec.SIn m b f) :
  Calls Tryz.prog 141 #[.slice (some ⟨g,0,none⟩) n cap,.int .i64 a,.int .i64 m,.int .i64 b,.func (.func 77) #[] #[]] w fun x w'=>x=.returned (.tuple #[])∧∃G,w'.heap[g]?=some (.cells (rowE sp n G) 135)∧Ec.Pm a b f G∧Ec.SIn a b G∧But g w w':=by
 have HA:Hid (w.heap[g]?=some (.cells (rowE sp n f) 135)):=hA;have HS:Hid (Ec.SIn m b f):=hs;have HM:Hid (m=a+1):=hm;have wm:IntKind.i64.wrap ((m:Int)-(a:Int))=1:=(by rw[wraps_i64 _ (by omega) (by omega)];omega)
 have am:a<m:=(by omega)
 clear hA hs hm;go_enter Tryz.func141,Tryz.ntmps141;(go_wp2_with fail);go_loopw [10,11] (fun x y wr=>∃i j:Nat,m≤i∧i≤j∧j≤b∧x=.int .i64 i∧y=.int .i64 j∧Hid ((∀q,m≤q→q<i→Ec.lt (f q) (f a))∧∀q,j≤q→q<b→¬Ec.lt (f q) (f a))∧Hid (wr.heap[g]?=some (.cells (rowE sp n f) 135)∧But g w wr)) (fun x y _=>(intOf y-intOf x).toNat)
 case atStart=>exact⟨m,b,by omega,by omega,by omega,rfl,rfl,⟨fun q q1 q2=>by omega,fun q q1 q2=>by omega⟩,HA.out,But.refl _ _⟩
 case round =>
  obtain⟨i,j,li,lij,uj,rfl,rfl,hQ,hX⟩:=hrel;clear HA;by_cases hlt:i<j
  ·obtain⟨h,hh⟩:∃h,h=(i+j)/2:=⟨_,rfl⟩
   have eh:((i:Int)+(j:Int))/2=(h:Int):=(by omega)
   have l1:i≤h:=(by omega)
   have l2:h<j:=(by omega)
   clear hh;have hlt2:(i:Int)<(j:Int):=(by omega)
   have ia:(0:Int)≤(a:Int):=(by omega)
   have ih:(0:Int)≤(h:Int):=(by omega)
   have na:(a:Int)<(n:Int):=(by omega)
   have nh:(h:Int)<(n:Int):=(by omega)
   have HCC:Hid (∀W,Bl wr W→_):=two_cells hX.out.1 (show h<n by omega) (show a<n by omega);have HLO:Hid (∀W,Bl wr W→W.heap[g]?=some (.cells (rowE sp n f) 135)∧But g w W):=row_stay hX.out.1 hX.out.2;have HW0:Hid (Bl wr wr):=Below.refl _ _;have HCM:Hid (∀W,Bl wr W→Calls Tryz.prog 77 #[.agg #[.int .i64 (f h).port,.int .i64 (f h).cost,.int .i64 (f h).other,.int .i64 (f h).oport,.bool (f h).live],.agg #[.int .i64 (f a).port,.int .i64 (f a).cost,.int .i64 (f a).other,.int .i64 (f a).oport,.bool (f a).live]] W fun e w'=>e=.returned (.int .i64 (Ec.cmp (f h) (f a)))∧Hid (Bl wr w')):=fun W hW=>cmp_say (f h) (f a) wr W hW;have HYES:Hid (Ec.cmp (f h) (f a)<0→(∀q,m≤q→q<h+1→Ec.lt (f q) (f a))∧∀q,j≤q→q<b→¬Ec.lt (f q) (f a)):=fun c=>by
    have c':=Ec.cmp_lt.1 c;refine⟨fun q q1 q2 => ?_,hQ.out.2⟩;by_cases e:q=h
    ·subst e;exact c'
    ·exact lt_of_le_lt (HS.out q h q1 (by omega) (by omega)) c'
   have HNO:Hid (¬Ec.cmp (f h) (f a)<0→(∀q,m≤q→q<i→Ec.lt (f q) (f a))∧∀q,h≤q→q<b→¬Ec.lt (f q) (f a)):=fun c=>by
    have c':¬Ec.lt (f h) (f a):=fun q=>c (Ec.cmp_lt.2 q);refine⟨hQ.out.1,fun q q1 q2 => ?_⟩;by_cases e:q=h
    ·subst e;exact c'
    ·exact Ec.not_lt_trans c' (HS.out h q (by omega) (by omega) q2)
   obtain⟨⟨c0,c1,c2,c3,c4⟩,d0,d1,d2,d3,d4⟩:=HCC.out wr HW0.out;obtain⟨CV,hCV⟩:∃CV,Ec.cmp (f h) (f a)=CV:=⟨_,rfl⟩
   rw[hCV] at HCM HYES HNO;clear hCV hQ hX HS;obtain⟨x,hx⟩:∃x,f h=x:=⟨_,rfl⟩
   obtain⟨y,hy⟩:∃y,f a=y:=⟨_,rfl⟩
   rw[hx,hy] at HCC HCM;rw[hx] at c0 c1 c2 c3 c4;rw[hy] at d0 d1 d2 d3 d4;clear hx hy;(go_wp2_with fail);go_region_held3 (fun W=>(W.cell? ⟨g,h*5,none⟩=some (.int .i64 x.port)∧W.cell? ⟨g,h*5+1,none⟩=some (.int .i64 x.cost)∧W.cell? ⟨g,h*5+2,none⟩=some (.int .i64 x.other)∧W.cell? ⟨g,h*5+3,none⟩=some (.int .i64 x.oport)∧W.cell? ⟨g,h*5+4,none⟩=some (.bool x.live))∧W.cell? ⟨g,a*5,none⟩=some (.int .i64 y.port)∧W.cell? ⟨g,a*5+1,none⟩=some (.int .i64 y.cost)∧W.cell? ⟨g,a*5+2,none⟩=some (.int .i64 y.other)∧W.cell? ⟨g,a*5+3,none⟩=some (.int .i64 y.oport)∧W.cell? ⟨g,a*5+4,none⟩=some (.bool y.live))
    (first | (exact HCC.out _ (Below.drew HW0.out)) | (exact HCC.out _ (Hid.out (by assumption))))
    (first | (go_at_call 77;refine(HCM.out _ (Below.drew HW0.out)).mono ?_;rintro e w3 ⟨rfl,HB3⟩))
   clear c0 c1 c2 c3 c4 d0 d1 d2 d3 d4;by_cases hc:CV<0
   ·have HQ2:=HYES.out (by omega);have HX2:Hid _:=HLO.out w3 HB3.out;clear HYES HNO HLO HCC HCM HW0 HB3;(go_wp2_with fail);exact⟨⟨h+1,j,by omega,by omega,uj,by go_num,rfl,HQ2,HX2⟩,by simp[intOf];omega⟩
   ·have HQ2:=HNO.out (by omega);have HX2:Hid _:=HLO.out w3 HB3.out;have hc2:decide (CV<0)=false:=decide_eq_false hc;clear HYES HNO HLO HCC HCM HW0 HB3;(go_wp2_with fail);exact⟨⟨i,h,li,l1,by omega,rfl,rfl,HQ2,HX2⟩,by simp[intOf];omega⟩
  ·obtain rfl:i=j:=by omega
   obtain⟨p,hp⟩:∃p,p=i-1:=⟨_,rfl⟩
   have wp:IntKind.i64.wrap ((i:Int)-1)=(p:Int):=(by rw[wraps_i64 _ (by omega) (by omega)];omega)
   have HSO:Hid (Ec.SIn a b (Ec.shL a p f)):=by
    have hm:=HM.out;subst hm;subst hp;exact Ec.shL_sorted a i b f HS.out li uj hQ.out.1 hQ.out.2
   have pb:p<b:=(by omega)
   have ap:a≤p:=(by omega)
   have HX:Hid (wr.heap[g]?=some (.cells (rowE sp n f) 135)∧But g w wr):=hX;clear hp hQ HS hX;(go_wp2_with fail);go_loopw [13] (fun vk wi=>∃k:Nat,a≤k∧k≤p∧vk=.int .i64 k∧Hid (wi.heap[g]?=some (.cells (rowE sp n (Ec.shL a k f)) 135)∧Ec.Pm a b f (Ec.shL a k f)∧But g w wi)) (fun k _=>p-(intOf k).toNat)
   case atStart=>exact⟨a,by omega,ap,rfl,by rw[Ec.shL_start];exact⟨HX.out.1,Ec.Pm.refl,HX.out.2⟩⟩
   case round =>
    obtain⟨k,lk,uk,rfl,hY⟩:=hrel;clear HX;by_cases hk:k<p
    ·obtain⟨q,hq⟩:∃q,q=k+1:=⟨_,rfl⟩
     have wq:IntKind.i64.wrap ((k:Int)+1)=(q:Int):=(by rw[wraps_i64 _ (by omega) (by omega)];omega)
     have ik:(0:Int)≤(k:Int):=(by omega)
     have iq:(0:Int)≤(q:Int):=(by omega)
     have nk:(k:Int)<(n:Int):=(by omega)
     have nq':(q:Int)<(n:Int):=(by omega)
     have hk2:(k:Int)<(p:Int):=(by omega)
     obtain⟨c0,c1,c2,c3,c4⟩:=rowE_cells hY.out.1 (show k<n by omega);obtain⟨d0,d1,d2,d3,d4⟩:=rowE_cells hY.out.1 (show q<n by omega);obtain⟨f0,f1,f2,f3,f4⟩:=rowE_free hY.out.1 k;obtain⟨e0,e1,e2,e3,e4⟩:=rowE_free hY.out.1 q;have HFN:Hid _:=swap_fin (F:=Ec.shL a q f) hY.out.1 hY.out.2.2 (Nat.le_refl _) (show k<n by omega) (show q<n by omega) (show k≠q by omega) (by rw[hq];exact Ec.shL_step a k f lk);have HPM:Hid (Ec.Pm a b f (Ec.shL a q f)):=(by rw[hq,←Ec.shL_step a k f lk];exact Ec.Pm.swap _ _ ⟨by omega,by omega⟩ ⟨by omega,by omega⟩ hY.out.2.1)
     have hne:k*5≠q*5:=(by omega)
     have qp:q≤p:=(by omega)
     have kq:k<q:=(by omega)
     generalize Ec.shL a k f=F at *;generalize F k=x at *;generalize F q=y at *;clear hY hq;(go_wp2_with fail);go_region
     (all_goals go_wp2_with fail);all_goals exact⟨⟨q,by omega,qp,rfl,HFN.out.1,HPM.out,HFN.out.2⟩,by simp[intOf];omega⟩
    ·obtain rfl:k=p:=by omega
     have HF:Hid _:=hY.out;clear hY;(go_wp2_with fail);exact bodyPost_ret (results_none Tryz.results141 _ _ _) rfl ⟨rfl,_,HF.out.1,HF.out.2.1,HSO.out,HF.out.2.2⟩
end Es
namespace Es
theorem smergeB (sp:Array Value) (g n cap a m b:Nat) (f:Nat→En) (w:World) (hA:w.heap[g]?=some (.cells (rowE sp n f) 135)) (hn:n≤4398046511104) (hm:b=m+1) (h1:a+1<m) (h2:b≤n) (hs:Ec.SIn a m f) :
  Calls Tryz.prog 141 #[.slice (some ⟨g,0,none⟩) n cap,.int .i64 a,.int .i64 m,.int .i64 b,.func (.func 77) #[] #[]] w fun x w'=>x=.returned (.tuple #[])∧∃G,w'.heap[g]?=some (.cells (rowE sp n G) 135)∧Ec.Pm a b f G∧Ec.SIn a b G∧But g w w':=by
 have HA:Hid (w.heap[g]?=some (.cells (rowE sp n f) 135)):=hA;have HS:Hid (Ec.SIn a m f):=hs;have HM:Hid (b=m+1):=hm;obtain⟨d,hd⟩:∃d,d=m-a:=⟨_,rfl⟩
 have wd:IntKind.i64.wrap ((m:Int)-(a:Int))=(d:Int):=(by rw[wraps_i64 _ (by omega) (by omega)];omega)
 have d1:((d:Int) == 1)=false:=(by simp;omega)
 have wm:IntKind.i64.wrap ((b:Int)-(m:Int))=1:=(by rw[wraps_i64 _ (by omega) (by omega)];omega)
 have am:a<m:=(by omega)
 have mb:m<b:=(by omega)
 have mn:m<n:=(by omega)
 clear hA hs hm hd;go_enter Tryz.func141,Tryz.ntmps141;(go_wp2_with fail);go_loopw [14,15] (fun x y wr=>∃i j:Nat,a≤i∧i≤j∧j≤m∧x=.int .i64 i∧y=.int .i64 j∧Hid ((∀q,a≤q→q<i→¬Ec.lt (f m) (f q))∧∀q,j≤q→q<m→Ec.lt (f m) (f q))∧Hid (wr.heap[g]?=some (.cells (rowE sp n f) 135)∧But g w wr)) (fun x y _=>(intOf y-intOf x).toNat)
 case atStart=>exact⟨a,m,by omega,by omega,by omega,rfl,rfl,⟨fun q q1 q2=>by omega,fun q q1 q2=>by omega⟩,HA.out,But.refl _ _⟩
 case round =>
  obtain⟨i,j,li,lij,uj,rfl,rfl,hQ,hX⟩:=hrel;clear HA;by_cases hlt:i<j
  ·obtain⟨h,hh⟩:∃h,h=(i+j)/2:=⟨_,rfl⟩
   have eh:((i:Int)+(j:Int))/2=(h:Int):=(by omega)
   have l1:i≤h:=(by omega)
   have l2:h<j:=(by omega)
   clear hh;have hlt2:(i:Int)<(j:Int):=(by omega)
   have ia:(0:Int)≤(m:Int):=(by omega)
   have ih:(0:Int)≤(h:Int):=(by omega)
   have na:(m:Int)<(n:Int):=(by omega)
   have nh:(h:Int)<(n:Int):=(by omega)
   have HCC:Hid (∀W,Bl wr W→_):=two_cells hX.out.1 (show m<n by omega) (show h<n by omega);have HLO:Hid (∀W,Bl wr W→W.heap[g]?=some (.cells (rowE sp n f) 135)∧But g w W):=row_stay hX.out.1 hX.out.2;have HW0:Hid (Bl wr wr):=Below.refl _ _;have HCM:Hid (∀W,Bl wr W→Calls Tryz.prog 77 #[.agg #[.int .i64 (f m).port,.int .i64 (f m).cost,.int .i64 (f m).other,.int .i64 (f m).oport,.bool (f m).live],.agg #[.int .i64 (f h).port,.int .i64 (f h).cost,.int .i64 (f h).other,.int .i64 (f h).oport,.bool (f h).live]] W fun e w'=>e=.returned (.int .i64 (Ec.cmp (f m) (f h)))∧Hid (Bl wr w')):=fun W hW=>cmp_say (f m) (f h) wr W hW;have HYES:Hid (Ec.cmp (f m) (f h)<0→(∀q,a≤q→q<i→¬Ec.lt (f m) (f q))∧∀q,h≤q→q<m→Ec.lt (f m) (f q)):=fun c=>by
    have c':=Ec.cmp_lt.1 c;refine⟨hQ.out.1,fun q q1 q2 => ?_⟩;by_cases e:q=h
    ·subst e;exact c'
    ·exact lt_of_lt_le c' (HS.out h q (by omega) (by omega) q2)
   have HNO:Hid (¬Ec.cmp (f m) (f h)<0→(∀q,a≤q→q<h+1→¬Ec.lt (f m) (f q))∧∀q,j≤q→q<m→Ec.lt (f m) (f q)):=fun c=>by
    have c':¬Ec.lt (f m) (f h):=fun q=>c (Ec.cmp_lt.2 q);refine⟨fun q q1 q2 => ?_,hQ.out.2⟩;by_cases e:q=h
    ·subst e;exact c'
    ·exact Ec.not_lt_trans (HS.out q h q1 (by omega) (by omega)) c'
   obtain⟨⟨c0,c1,c2,c3,c4⟩,d0,d1',d2,d3,d4⟩:=HCC.out wr HW0.out;obtain⟨CV,hCV⟩:∃CV,Ec.cmp (f m) (f h)=CV:=⟨_,rfl⟩
   rw[hCV] at HCM HYES HNO;clear hCV hQ hX HS;obtain⟨x,hx⟩:∃x,f m=x:=⟨_,rfl⟩
   obtain⟨y,hy⟩:∃y,f h=y:=⟨_,rfl⟩
   rw[hx,hy] at HCC HCM;rw[hx] at c0 c1 c2 c3 c4;rw[hy] at d0 d1' d2 d3 d4;clear hx hy;by_cases hc:CV<0
   ·have HQ2:=HYES.out (by omega);have hc2:decide (CV<0)=true:=decide_eq_true hc;clear HYES HNO;(go_wp2_with fail);go_region_held3 (fun W=>(W.cell? ⟨g,m*5,none⟩=some (.int .i64 x.port)∧W.cell? ⟨g,m*5+1,none⟩=some (.int .i64 x.cost)∧W.cell? ⟨g,m*5+2,none⟩=some (.int .i64 x.other)∧W.cell? ⟨g,m*5+3,none⟩=some (.int .i64 x.oport)∧W.cell? ⟨g,m*5+4,none⟩=some (.bool x.live))∧W.cell? ⟨g,h*5,none⟩=some (.int .i64 y.port)∧W.cell? ⟨g,h*5+1,none⟩=some (.int .i64 y.cost)∧W.cell? ⟨g,h*5+2,none⟩=some (.int .i64 y.other)∧W.cell? ⟨g,h*5+3,none⟩=some (.int .i64 y.oport)∧W.cell? ⟨g,h*5+4,none⟩=some (.bool y.live))
     (first | (exact HCC.out _ (Below.drew HW0.out)) | (exact HCC.out _ (Hid.out (by assumption))))
     (first | (go_at_call 77;refine(HCM.out _ (Below.drew HW0.out)).mono ?_;rintro e w3 ⟨rfl,HB3⟩))
    clear c0 c1 c2 c3 c4 d0 d1' d2 d3 d4;have HX2:Hid _:=HLO.out w3 HB3.out;clear HLO HCC HCM HW0 HB3;(go_wp2_with fail);exact⟨⟨i,h,li,l1,by omega,rfl,rfl,HQ2,HX2⟩,by simp[intOf];omega⟩
   ·have HQ2:=HNO.out (by omega);have hc2:decide (CV<0)=false:=decide_eq_false hc;clear HYES HNO;(go_wp2_with fail);go_region_held3 (fun W=>(W.cell? ⟨g,m*5,none⟩=some (.int .i64 x.port)∧W.cell? ⟨g,m*5+1,none⟩=some (.int .i64 x.cost)∧W.cell? ⟨g,m*5+2,none⟩=some (.int .i64 x.other)∧W.cell? ⟨g,m*5+3,none⟩=some (.int .i64 x.oport)∧W.cell? ⟨g,m*5+4,none⟩=some (.bool x.live))∧W.cell? ⟨g,h*5,none⟩=some (.int .i64 y.port)∧W.cell? ⟨g,h*5+1,none⟩=some (.int .i64 y.cost)∧W.cell? ⟨g,h*5+2,none⟩=some (.int .i64 y.other)∧W.cell? ⟨g,h*5+3,none⟩=some (.int .i64 y.oport)∧W.cell? ⟨g,h*5+4,none⟩=some (.bool y.live))
     (first | (exact HCC.out _ (Below.drew HW0.out)) | (exact HCC.out _ (Hid.out (by assumption))))
     (first | (go_at_call 77;refine(HCM.out _ (Below.drew HW0.out)).mono ?_;rintro e w3 ⟨rfl,HB3⟩))
    clear c0 c1 c2 c3 c4 d0 d1' d2 d3 d4;have HX2:Hid _:=HLO.out w3 HB3.out;clear HLO HCC HCM HW0 HB3;(go_wp2_with fail);exact⟨⟨h+1,j,by omega,by omega,uj,by go_num,rfl,HQ2,HX2⟩,by simp[intOf];omega⟩
  ·obtain rfl:i=j:=by omega
   have HSO:Hid (Ec.SIn a b (Ec.shR m i f)):=by
    have hm:=HM.out;subst hm;exact Ec.shR_sorted a i m f HS.out li uj hQ.out.1 hQ.out.2
   have HX:Hid (wr.heap[g]?=some (.cells (rowE sp n f) 135)∧But g w wr):=hX;clear hQ HS hX;(go_wp2_with fail);go_loopw [17] (fun vk wi=>∃k:Nat,i≤k∧k≤m∧vk=.int .i64 k∧Hid (wi.heap[g]?=some (.cells (rowE sp n (Ec.shR m k f)) 135)∧Ec.Pm a b f (Ec.shR m k f)∧But g w wi)) (fun k _=>(intOf k).toNat)
   case atStart=>exact⟨m,uj,by omega,rfl,by rw[Ec.shR_start];exact⟨HX.out.1,Ec.Pm.refl,HX.out.2⟩⟩
   case round =>
    obtain⟨k,lk,uk,rfl,hY⟩:=hrel;clear HX;by_cases hk:i<k
    ·obtain⟨q,hq⟩:∃q,q=k-1:=⟨_,rfl⟩
     have wq:IntKind.i64.wrap ((k:Int)-1)=(q:Int):=(by rw[wraps_i64 _ (by omega) (by omega)];omega)
     have ik:(0:Int)≤(k:Int):=(by omega)
     have iq:(0:Int)≤(q:Int):=(by omega)
     have nk:(k:Int)<(n:Int):=(by omega)
     have nq':(q:Int)<(n:Int):=(by omega)
     have hk2:(i:Int)<(k:Int):=(by omega)
     obtain⟨c0,c1,c2,c3,c4⟩:=rowE_cells hY.out.1 (show k<n by omega);obtain⟨d0,d1',d2,d3,d4⟩:=rowE_cells hY.out.1 (show q<n by omega);obtain⟨f0,f1,f2,f3,f4⟩:=rowE_free hY.out.1 k;obtain⟨e0,e1,e2,e3,e4⟩:=rowE_free hY.out.1 q;have HFN:Hid _:=swap_fin (F:=Ec.shR m q f) hY.out.1 hY.out.2.2 (Nat.le_refl _) (show k<n by omega) (show q<n by omega) (show k≠q by omega) (by rw[hq];exact Ec.shR_step m k f uk (by omega));have HPM:Hid (Ec.Pm a b f (Ec.shR m q f)):=(by rw[hq,←Ec.shR_step m k f uk (by omega)];exact Ec.Pm.swap _ _ ⟨by omega,by omega⟩ ⟨by omega,by omega⟩ hY.out.2.1)
     have hne:k*5≠q*5:=(by omega)
     have qi:i≤q:=(by omega)
     have kq:q<k:=(by omega)
     generalize Ec.shR m k f=F at *;generalize F k=x at *;generalize F q=y at *;clear hY hq;(go_wp2_with fail);go_region
     (all_goals go_wp2_with fail);all_goals exact⟨⟨q,qi,by omega,rfl,HFN.out.1,HPM.out,HFN.out.2⟩,by simp[intOf];omega⟩
    ·obtain rfl:k=i:=by omega
     have HF:Hid _:=hY.out;clear hY;(go_wp2_with fail);exact bodyPost_ret (results_none Tryz.results141 _ _ _) rfl ⟨rfl,_,HF.out.1,HF.out.2.1,HSO.out,HF.out.2.2⟩
end Es
namespace Es
theorem sswapRange_any (sp:Array Value) (g n cap a b c:Nat) (f:Nat→En) (cv:Value) (w:World) (hA:w.heap[g]?=some (.cells (rowE sp n f) 135)) (hn:n≤4398046511104) (h1:a+c≤b) (h2:b+c≤n) :
  Calls Tryz.prog 170 #[.slice (some ⟨g,0,none⟩) n cap,.int .i64 a,.int .i64 b,.int .i64 c,cv] w fun e w'=>e=.returned (.tuple #[])∧w'.heap[g]?=some (.cells (rowE sp n (Ec.swr a b c f)) 135)∧But g w w':=by
 have HA:Hid (w.heap[g]?=some (.cells (rowE sp n f) 135)):=hA;clear hA;go_enter Tryz.func170,Tryz.ntmps170;(go_wp2_with fail);go_loopw [10] (fun i wr=>∃k:Nat,k≤c∧i=.int .i64 k∧Hid (wr.heap[g]?=some (.cells (rowE sp n (Ec.swr a b k f)) 135)∧But g w wr)) (fun i _=>c-(intOf i).toNat)
 case atStart=>exact⟨0,by omega,rfl,by rw[Ec.swr_zero];exact HA.out,But.refl _ _⟩
 case round =>
  obtain⟨k,hk,rfl,hX⟩:=hrel;by_cases hlt:k<c
  ·obtain⟨i,hi⟩:∃i,i=a+k:=⟨_,rfl⟩
   obtain⟨j,hj⟩:∃j,j=b+k:=⟨_,rfl⟩
   have wi:IntKind.i64.wrap ((a:Int)+(k:Int))=(i:Int):=(by rw[wraps_i64 _ (by omega) (by omega)];omega)
   have wj:IntKind.i64.wrap ((b:Int)+(k:Int))=(j:Int):=(by rw[wraps_i64 _ (by omega) (by omega)];omega)
   have ii:(0:Int)≤(i:Int):=(by omega)
   have ij:(0:Int)≤(j:Int):=(by omega)
   have ni:(i:Int)<(n:Int):=(by omega)
   have nj:(j:Int)<(n:Int):=(by omega)
   obtain⟨c0,c1,c2,c3,c4⟩:=rowE_cells hX.out.1 (show i<n by omega);obtain⟨d0,d1,d2,d3,d4⟩:=rowE_cells hX.out.1 (show j<n by omega);obtain⟨f0,f1,f2,f3,f4⟩:=rowE_free hX.out.1 i;obtain⟨e0,e1,e2,e3,e4⟩:=rowE_free hX.out.1 j;have HFN:Hid _:=swap_fin (F:=Ec.swr a b (k+1) f) hX.out.1 hX.out.2 (Nat.le_refl _) (show i<n by omega) (show j<n by omega) (show i≠j by omega) (by rw[hi,hj];exact Ec.swr_step a b k f (by omega));generalize Ec.swr a b k f=F at *;generalize F i=x at *;generalize F j=y at *;have hne:i*5≠j*5:=(by omega)
   clear hX HA hi hj;(go_wp2_with fail);go_region
   (all_goals go_wp2_with fail);all_goals exact⟨⟨k+1,by omega,by go_num,HFN⟩,by simp[intOf];omega⟩
  ·obtain rfl:k=c:=by omega
   (go_wp2_with fail);exact bodyPost_end (results_none Tryz.results170 _ _ _) rfl ⟨rfl,hX.out⟩
end Es
namespace Es
theorem srotate_any (sp:Array Value) (g n cap s m e:Nat) (f:Nat→En) (cv:Value) (w:World) (hA:w.heap[g]?=some (.cells (rowE sp n f) 135)) (hn:n≤4398046511104) (h1:s<m) (h2:m<e) (h3:e≤n) :
  Calls Tryz.prog 157 #[.slice (some ⟨g,0,none⟩) n cap,.int .i64 s,.int .i64 m,.int .i64 e,cv] w fun x w'=>x=.returned (.tuple #[])∧w'.heap[g]?=some (.cells (rowE sp n (Ec.rot s m e f)) 135)∧Ec.Pm s e f (Ec.rot s m e f)∧But g w w':=by
 have HA:Hid (w.heap[g]?=some (.cells (rowE sp n f) 135)):=hA;have HSW:Hid (∀(a b c:Nat) (A B C:Int) (G:Nat→En) (W:World),A=a→B=b→C=c→W.heap[g]?=some (.cells (rowE sp n G) 135)→a+c≤b→b+c≤n→Calls Tryz.prog 170 #[.slice (some ⟨g,0,none⟩) n cap,.int .i64 A,.int .i64 B,.int .i64 C,cv] W fun e w'=>e=.returned (.tuple #[])∧w'.heap[g]?=some (.cells (rowE sp n (Ec.swr a b c G)) 135)∧But g W w'):=fun a b c A B C G W eA eB eC hW q1 q2=>by
  subst eA;subst eB;subst eC;exact sswapRange_any sp g n cap a b c G cv W hW hn q1 q2
 have hi0:IntKind.i64.wrap ((m:Int)-(s:Int))=((m-s:Nat):Int):=(by rw[wraps_i64 _ (by omega) (by omega)];omega)
 have hj0:IntKind.i64.wrap ((e:Int)-(m:Int))=((e-m:Nat):Int):=(by rw[wraps_i64 _ (by omega) (by omega)];omega)
 clear hA;go_enter Tryz.func157,Tryz.ntmps157;(go_wp2_with fail);go_loopw [10,11] (fun vi vj wr=>∃i j:Nat,0<i∧0<j∧i+s≤m∧j+m≤e∧vi=.int .i64 i∧vj=.int .i64 j∧Hid (∃G,wr.heap[g]?=some (.cells (rowE sp n G) 135)∧Ec.Pm s e f G∧Ec.rot (m-i) m (m+j) G=Ec.rot s m e f∧But g w wr)) (fun i j _=>(intOf i).toNat+(intOf j).toNat)
 case atStart=>exact⟨m-s,e-m,by omega,by omega,by omega,by omega,by first | rfl | (congr 1;omega),by first | rfl | (congr 1;omega),f,HA.out,Ec.Pm.refl,by rw[show m-(m-s)=s by omega,show m+(e-m)=e by omega],But.refl _ _⟩
 case round =>
  obtain⟨i,j,pi,pj,li,lj,rfl,rfl,hX⟩:=hrel;obtain⟨G,hG,hP,hR,hB⟩:=hX.out;have HG:Hid (wr.heap[g]?=some (.cells (rowE sp n G) 135)):=hG;have HP:Hid (Ec.Pm s e f G):=hP;have HR:Hid (Ec.rot (m-i) m (m+j) G=Ec.rot s m e f):=hR;have HB:Hid (But g w wr):=hB;clear hX hG hP hR hB HA hi0 hj0;by_cases q:i=j
  ·subst q;have HC:Hid (Calls Tryz.prog 170 #[.slice (some ⟨g,0,none⟩) n cap,.int .i64 ((m:Int)-(i:Int)),.int .i64 (m:Int),.int .i64 (i:Int),cv] wr fun e w'=>e=.returned (.tuple #[])∧w'.heap[g]?=some (.cells (rowE sp n (Ec.swr (m-i) m i G)) 135)∧But g wr w'):=HSW.out (m-i) m i _ _ _ G wr (by omega) rfl rfl HG.out (by omega) (by omega);clear HSW;(go_wp2_with fail);refine HC.out.mono ?_;rintro x w1 ⟨rfl,k1,k2⟩;have HF:Hid (w1.heap[g]?=some (.cells (rowE sp n (Ec.rot s m e f)) 135)∧Ec.Pm s e f (Ec.rot s m e f)∧But g w w1):=by
    have e1:=Ec.rot_same m i G (by omega);rw[HR.out] at e1;rw[e1] at k1;refine⟨k1,?_,HB.out.trans k2⟩;have:=HP.out.trans ((Ec.swr_pm (m-i) m G i (by omega)).mono (c:=s) (d:=e) (by omega) (by omega));rw[e1] at this;exact this
   clear k1 k2;(go_wp2_with fail);exact bodyPost_end (results_none Tryz.results157 _ _ _) rfl ⟨rfl,HF.out⟩
  ·have dq:((i:Int) != (j:Int))=true:=(by simp;omega)
   have dn:¬((i:Int)=(j:Int)):=(by omega)
   by_cases r:j<i
   ·have HC:Hid (Calls Tryz.prog 170 #[.slice (some ⟨g,0,none⟩) n cap,.int .i64 ((m:Int)-(i:Int)),.int .i64 (m:Int),.int .i64 (j:Int),cv] wr fun e w'=>e=.returned (.tuple #[])∧w'.heap[g]?=some (.cells (rowE sp n (Ec.swr (m-i) m j G)) 135)∧But g wr w'):=HSW.out (m-i) m j _ _ _ G wr (by omega) rfl rfl HG.out (by omega) (by omega);have ri:(j:Int)<(i:Int):=(by omega)
    clear HSW;(go_wp2_with fail);refine HC.out.mono ?_;rintro x w1 ⟨rfl,k1,k2⟩;have HF:Hid (∃G,w1.heap[g]?=some (.cells (rowE sp n G) 135)∧Ec.Pm s e f G∧Ec.rot (m-(i-j)) m (m+j) G=Ec.rot s m e f∧But g w w1) :=
     ⟨_,k1,HP.out.trans ((Ec.swr_pm (m-i) m G j (by omega)).mono (by omega) (by omega)),(Ec.rot_more m i j G (by omega) pj r).trans HR.out,HB.out.trans k2⟩
    clear k1 k2;(go_wp2_with fail);exact⟨⟨i-j,j,by omega,pj,by omega,lj,by congr 1;omega,rfl,HF⟩,by simp[intOf];omega⟩
   ·have HC:Hid (Calls Tryz.prog 170 #[.slice (some ⟨g,0,none⟩) n cap,.int .i64 ((m:Int)-(i:Int)),.int .i64 ((m:Int)+(j:Int)-(i:Int)),.int .i64 (i:Int),cv] wr fun e w'=>e=.returned (.tuple #[])∧w'.heap[g]?=some (.cells (rowE sp n (Ec.swr (m-i) (m+j-i) i G)) 135)∧But g wr w'):=HSW.out (m-i) (m+j-i) i _ _ _ G wr (by omega) (by omega) rfl HG.out (by omega) (by omega);have ri:(i:Int)<(j:Int):=(by omega)
    clear HSW;(go_wp2_with fail);refine HC.out.mono ?_;rintro x w1 ⟨rfl,k1,k2⟩;have HF:Hid (∃G,w1.heap[g]?=some (.cells (rowE sp n G) 135)∧Ec.Pm s e f G∧Ec.rot (m-i) m (m+(j-i)) G=Ec.rot s m e f∧But g w w1) :=
     ⟨_,k1,HP.out.trans ((Ec.swr_pm (m-i) (m+j-i) G i (by omega)).mono (by omega) (by omega)),(Ec.rot_less m i j G (by omega) pi (by omega)).trans HR.out,HB.out.trans k2⟩
    clear k1 k2;(go_wp2_with fail);exact⟨⟨i,j-i,pi,by omega,li,by omega,rfl,by congr 1;omega,HF⟩,by simp[intOf];omega⟩
end Es
end
end Go.Proofs.YtaneiffnhphkhaaGreatDoor
