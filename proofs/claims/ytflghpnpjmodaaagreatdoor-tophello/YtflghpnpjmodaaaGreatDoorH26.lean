/- walks: bytes.Clone -/
import Derived.Test.YtflghpnpjmodaaaGreatDoorH25
import Derived.Test.YtflghpnpjmodaaaGreatDoorH02
import Derived.Deep.RegionHeld3
import Derived.Laws.AppendOwnNone
import Derived.OwnWalk
set_option maxRecDepth 100000
set_option maxHeartbeats 40000000
namespace Go.Proofs.YtflghpnpjmodaaaGreatDoor
section
open Go.RowKit
open Hl (Tl)
theorem sizeTl:(Tryz.prog.info? 66).map (·.size)=some 6:=by kernel_rfl
theorem tl_free {w:World}{g:Nat}{A:Array Value}{ty:TypeId}(h:w.heap[g]?=some (.cells A ty (0,0))) :
  w.frozen? ⟨g,0,none⟩=false∧w.frozen? ⟨g,1,none⟩=false∧w.frozen? ⟨g,2,none⟩=false∧w.frozen? ⟨g,3,none⟩=false∧w.frozen? ⟨g,4,none⟩=false∧w.frozen? ⟨g,5,none⟩=false :=
 ⟨frozen_of_row _ _ _ _ _ h,frozen_of_row _ _ _ _ _ h,frozen_of_row _ _ _ _ _ h,frozen_of_row _ _ _ _ _ h,frozen_of_row _ _ _ _ _ h,frozen_of_row _ _ _ _ _ h⟩
theorem tl_set6 {w:World}{g:Nat}{a0 a1 a2 a3 a4 a5 v0 v1 v2 v3 v4 v5:Value}{ty:TypeId}(h:w.heap[g]?=some (.cells #[a0,a1,a2,a3,a4,a5] ty (0,0))) :
  ((((((w.setCell ⟨g,0,none⟩ v0).setCell ⟨g,1,none⟩ v1).setCell ⟨g,2,none⟩ v2).setCell ⟨g,3,none⟩ v3).setCell ⟨g,4,none⟩ v4).setCell ⟨g,5,none⟩ v5).heap[g]?=some (.cells #[v0,v1,v2,v3,v4,v5] ty (0,0)):=by
 have h0:(w.setCell ⟨g,0,none⟩ v0).heap[g]?=some (.cells #[v0,a1,a2,a3,a4,a5] ty (0,0)):=(by rw[heap_setCell_same _ _ _ _ _ _ h];rfl)
 have h1:((w.setCell ⟨g,0,none⟩ v0).setCell ⟨g,1,none⟩ v1).heap[g]?=some (.cells #[v0,v1,a2,a3,a4,a5] ty (0,0)):=(by rw[heap_setCell_same _ _ _ _ _ _ h0];rfl)
 have h2:(((w.setCell ⟨g,0,none⟩ v0).setCell ⟨g,1,none⟩ v1).setCell ⟨g,2,none⟩ v2).heap[g]?=some (.cells #[v0,v1,v2,a3,a4,a5] ty (0,0)):=(by rw[heap_setCell_same _ _ _ _ _ _ h1];rfl)
 have h3:((((w.setCell ⟨g,0,none⟩ v0).setCell ⟨g,1,none⟩ v1).setCell ⟨g,2,none⟩ v2).setCell ⟨g,3,none⟩ v3).heap[g]?=some (.cells #[v0,v1,v2,v3,a4,a5] ty (0,0)):=(by rw[heap_setCell_same _ _ _ _ _ _ h2];rfl)
 have h4:(((((w.setCell ⟨g,0,none⟩ v0).setCell ⟨g,1,none⟩ v1).setCell ⟨g,2,none⟩ v2).setCell ⟨g,3,none⟩ v3).setCell ⟨g,4,none⟩ v4).heap[g]?=some (.cells #[v0,v1,v2,v3,v4,a5] ty (0,0)):=(by rw[heap_setCell_same _ _ _ _ _ _ h3];rfl)
 have h5:((((((w.setCell ⟨g,0,none⟩ v0).setCell ⟨g,1,none⟩ v1).setCell ⟨g,2,none⟩ v2).setCell ⟨g,3,none⟩ v3).setCell ⟨g,4,none⟩ v4).setCell ⟨g,5,none⟩ v5).heap[g]?=some (.cells #[v0,v1,v2,v3,v4,v5] ty (0,0)):=(by rw[heap_setCell_same _ _ _ _ _ _ h4];rfl)
 exact h5
theorem ltaleOf_any (b off cap:Nat) (f:Nat→Int) (w:World) (hr:ByteRow w (some ⟨b,off,none⟩) 23 cap f) (hf:∀i,i<23→0≤f i∧f i≤255) :
  Calls Tryz.prog 48 #[.slice (some ⟨b,off,none⟩) 23 cap] w fun e w'=>e=.returned (.agg (tlA (Hl.taleF f)))∧Bl w w':=by
 obtain⟨W0,HW⟩:∃W0,Hid (W0=w.alloc (.cells #[.int .i64 0,.int .u64 0,.int .i64 0,.int .u64 0,.int .i64 0,.int .i64 0] 66)):=⟨_,rfl⟩
 have HA:Hid (W0.heap[w.heap.size]?=some (.cells #[.int .i64 0,.int .u64 0,.int .i64 0,.int .u64 0,.int .i64 0,.int .i64 0] 66)):=(by rw[HW.out];exact heap_alloc_last w _)
 have HB:Hid (Bl w W0):=(by rw[HW.out];exact bA1 _ _)
 have HR:Hid (ByteRow W0 (some ⟨b,off,none⟩) 23 cap f):=(by rw[HW.out];exact hr.below (bA1 _ _))
 have hcap:23≤cap:=hr.1;obtain⟨b',off',hbo,hb,hc⟩:=HR.out.2 (by omega);cases hbo
 have c0:W0.cell? ⟨b,off,none⟩=some (.int .u8 (f 0)):=hc 0 (by omega);have c1:W0.cell? ⟨b,off+1,none⟩=some (.int .u8 (f 1)):=hc 1 (by omega);have c22:W0.cell? ⟨b,off+22,none⟩=some (.int .u8 (f 22)):=hc 22 (by omega);have r0:=hf 0 (by omega);have r1:=hf 1 (by omega);have r22:=hf 22 (by omega);have HN:Hid (∀(o n:Nat) (W:World),W.heap=W0.heap→o+n≤23→n≤8→0<n→Calls Tryz.prog 85 #[.slice (some ⟨b,off+o,none⟩) n (cap-o)] W fun e w'=>e=.returned (.int .u64 (num (fun i=>f (o+i)) n))∧w'=W):=by
  intro o n W hW h1 h2 h3;refine nof_any _ n (cap-o) (fun i=>f (o+i)) W ?_ (fun i hi=>hf _ (by omega)) h2;refine⟨by omega,fun _=>⟨b,off+o,rfl,by rw[hW];exact hb,fun i hi => ?_⟩⟩;have:=hc (o+i) (by omega);rw[Nat.add_assoc];unfold World.cell? at this ⊢;rw[hW];exact this
 have hW4:0≤num (fun i=>f (10+i)) 4∧num (fun i=>f (10+i)) 4<4294967296:=Hl.num_range' (fun i=>f (10+i)) 4 (fun i hi=>hf _ (by omega));have N2:Hid (∀W:World,W.heap=W0.heap→Calls Tryz.prog 85 #[.slice (some ⟨b,off+2,none⟩) 8 (cap-2)] W fun e w'=>e=.returned (.int .u64 (num (fun i=>f (2+i)) 8))∧w'=W):=fun W hW=>HN.out 2 8 W hW (by omega) (by omega) (by omega);have N10:Hid (∀W:World,W.heap=W0.heap→Calls Tryz.prog 85 #[.slice (some ⟨b,off+10,none⟩) 4 (cap-10)] W fun e w'=>e=.returned (.int .u64 (num (fun i=>f (10+i)) 4))∧w'=W):=fun W hW=>HN.out 10 4 W hW (by omega) (by omega) (by omega);have N14:Hid (∀W:World,W.heap=W0.heap→Calls Tryz.prog 85 #[.slice (some ⟨b,off+14,none⟩) 8 (cap-14)] W fun e w'=>e=.returned (.int .u64 (num (fun i=>f (14+i)) 8))∧w'=W):=fun W hW=>HN.out 14 8 W hW (by omega) (by omega) (by omega);have HT:Hid (Hl.taleF f=⟨f 0,num (fun i=>f (2+i)) 8,num (fun i=>f (10+i)) 4,num (fun i=>f (14+i)) 8,f 22,f 1⟩):=rfl;have i10:(10:Int)≤(cap:Int):=(by omega)
 have i14:(14:Int)≤(cap:Int):=(by omega)
 have i22:(22:Int)≤(cap:Int):=(by omega)
 have hbw:b<w.heap.size:=by obtain⟨_,_,e,h,_⟩:=hr.2 (by omega);cases e;exact h
 have hne:b≠w.heap.size:=(by omega)
 have hne2:w.heap.size≠b:=(by omega)
 clear hbw;have j2:cap≠2:=(by omega)
 have j10:cap≠10:=(by omega)
 have j14:cap≠14:=(by omega)
 have v0:IntKind.i64.wrap (f 0)=f 0:=wraps_i64 _ (by omega) (by omega);have v1:IntKind.i64.wrap (f 1)=f 1:=wraps_i64 _ (by omega) (by omega);have v22:IntKind.i64.wrap (f 22)=f 22:=wraps_i64 _ (by omega) (by omega);have v4:IntKind.i64.wrap (num (fun i=>f (10+i)) 4)=num (fun i=>f (10+i)) 4:=wraps_i64 _ (by omega) (by omega);clear hr hf hc hb HR;clear HN;generalize num (fun i=>f (2+i)) 8=R at *;generalize num (fun i=>f (10+i)) 4=C at *;generalize num (fun i=>f (14+i)) 8=B at *;generalize Hl.taleF f=T at *;generalize f 0=f0 at *;generalize f 1=f1 at *;generalize f 22=f2 at *;have HV:Hid (tlA T=#[.int .i64 f0,.int .u64 R,.int .i64 C,.int .u64 B,.int .i64 f2,.int .i64 f1]):=(by rw[HT.out];rfl)
 obtain⟨s0,s1,s2,s3,s4,s5⟩:=tl_cells (t:=⟨0,0,0,0,0,0⟩) HA.out;obtain⟨z0,z1,z2,z3,z4,z5⟩:=tl_free HA.out;go_enter Tryz.func48,Tryz.ntmps48;(go_wp2_with fail);rw[←HW.out];go_region_held3 (fun W=>W.cell? ⟨b,off,none⟩=some (.int .u8 f0)∧W.cell? ⟨b,off+1,none⟩=some (.int .u8 f1)∧W.cell? ⟨b,off+22,none⟩=some (.int .u8 f2))
  (go_keep) (first | (go_at_call 85;with_reducible refine(N2.out W0.drew rfl).mono ?_;rintro e w1 ⟨rfl,rfl⟩) | (go_at_call 85;with_reducible refine(N10.out W0.drew rfl).mono ?_;rintro e w1 ⟨rfl,rfl⟩) | (go_at_call 85;with_reducible refine(N14.out W0.drew rfl).mono ?_;rintro e w1 ⟨rfl,rfl⟩))
 (go_wp2_with fail);exact bodyPost_ret (v:=.agg #[.int .i64 f0,.int .u64 R,.int .i64 C,.int .u64 B,.int .i64 f2,.int .i64 f1]) (results_cell_row (p:=2) (ty:=66) rfl _ _ w.heap.size 66 _ (0,0) _ rfl (drew_row (tl_set6 HA.out)) Tryz.underlying66 rfl (by rw[sizeTl];rfl)) rfl ⟨by rw[HV.out],((((((HB.out.setCell (Nat.le_refl _) _).setCell (Nat.le_refl _) _).setCell (Nat.le_refl _) _).setCell (Nat.le_refl _) _).setCell (Nat.le_refl _) _).setCell (Nat.le_refl _) _).drew⟩
def l9tlC (t:Tl) (j:Nat):Value :=
 if j=0 then .int .i64 t.tree else if j=1 then .int .u64 t.root else if j=2 then .int .i64 t.cost else if j=3 then .int .u64 t.bridge else if j=4 then .int .i64 t.port else .int .i64 t.age
def l9rowC (M:Nat) (c:Nat→Value):Array Value:=((List.range M).map c).toArray
theorem l9rowC_size (M:Nat) (c:Nat→Value):(l9rowC M c).size=M:=by simp[l9rowC]
theorem l9rowC_get (M:Nat) (c:Nat→Value) (j:Nat) (h:j<M):(l9rowC M c)[j]?=some (c j):=by simp[l9rowC,h]
theorem l9rowC_set (M:Nat) (c:Nat→Value) (k:Nat) (v:Value) (h:k<M):(l9rowC M c).setIfInBounds k v=l9rowC M (fun i=>if i=k then v else c i):=by
 apply Array.ext_getElem?
 intro i;by_cases hi:i<M
 ·rw[l9rowC_get M _ i hi,Array.getElem?_setIfInBounds];by_cases e:k=i
  ·subst e;simp[l9rowC_size,h]
  ·rw[if_neg e,l9rowC_get M c i hi,if_neg (fun h=>e h.symm)]
 ·rw[Array.getElem?_eq_none (by simp[l9rowC_size];omega),Array.getElem?_eq_none (by simp[l9rowC_size];omega)]
theorem l9rowC_congr (M:Nat) (c d:Nat→Value) (h:∀i,i<M→c i=d i):l9rowC M c=l9rowC M d:=by
 unfold l9rowC;congr 1
 apply List.map_congr_left
 intro i hi;rw[h i (by simpa using hi)]
def tlsC (ts:Nat→Tl) (j:Nat):Value:=l9tlC (ts (j/6)) (j%6)
def tl0:Tl:=⟨0,0,0,0,0,0⟩
def upTo (ts:Nat→Tl) (k i:Nat):Tl:=if i<k then ts i else tl0
theorem l9infoTl:(Tryz.prog.info? 66).map (fun i=>(i.zero,i.size,i.bytes))=some (some (.agg (tlA tl0)),6,48):=by kernel_rfl
theorem made_tales (M:Nat):madeCells (Value.agg (tlA tl0)).cells M=l9rowC M (tlsC (upTo (fun _=>tl0) 0)):=by
 apply Array.ext_getElem?
 intro i;by_cases h:i<M
 ·rw[l9rowC_get _ _ _ h];have h6:i%6<6:=Nat.mod_lt _ (by omega);unfold tlsC;rw[show upTo (fun _=>tl0) 0 (i/6)=tl0 from if_neg (by omega)];simp[madeCells,Value.cells,tlA,h];rcases(show i%6=0∨i%6=1∨i%6=2∨i%6=3∨i%6=4∨i%6=5 by omega) with e | e | e | e | e | e<;>rw[e]<;>rfl
 ·rw[Array.getElem?_eq_none (by simp[madeCells];omega),Array.getElem?_eq_none (by rw[l9rowC_size];omega)]
theorem make_tales (w:World) (m:Nat) (hm:m≤255):(Instr.makeSlice 62 (.int .i64 (m:Int)) (.int .i64 (m:Int))).run Tryz.prog w=.ok (.slice (some ⟨w.heap.size,0,none⟩) m m) (w.alloc (.cells (l9rowC (m*6) (tlsC (upTo (fun _=>tl0) 0))) 66)):=by
 obtain⟨i0,hi,hz0,hz1,hz2⟩:=info_parts l9infoTl;have h:=run_make (P:=Tryz.prog) w 62 66 i0 (.agg (tlA tl0)) Tryz.underlying62 hi hz0 .i64 .i64 (m:Int) (m:Int) (by omega) (Int.le_refl _) (by rw[hz2];omega) (by omega);rw[hz1,Int.toNat_natCast,made_tales] at h;exact h
theorem rowT_cells {w:World}{g M k:Nat}{ts:Nat→Tl}{ty:TypeId}(h:w.heap[g]?=some (.cells (l9rowC (M*6) (tlsC ts)) ty (0,0))) (hk:k<M) :
  w.cell? ⟨g,k*6,none⟩=some (.int .i64 (ts k).tree)∧w.cell? ⟨g,k*6+1,none⟩=some (.int .u64 (ts k).root)∧w.cell? ⟨g,k*6+2,none⟩=some (.int .i64 (ts k).cost)∧w.cell? ⟨g,k*6+3,none⟩=some (.int .u64 (ts k).bridge)∧w.cell? ⟨g,k*6+4,none⟩=some (.int .i64 (ts k).port)∧w.cell? ⟨g,k*6+5,none⟩=some (.int .i64 (ts k).age):=by
 have H:∀j,j<6→w.cell? ⟨g,k*6+j,none⟩=some (l9tlC (ts k) j):=fun j hj=>by
  refine(cell_of_row w g _ _ _ _ h).trans ((l9rowC_get _ _ _ (by omega)).trans ?_);unfold tlsC;rw[show(k*6+j)/6=k by omega,show(k*6+j)%6=j by omega]
 exact⟨H 0 (by omega),H 1 (by omega),H 2 (by omega),H 3 (by omega),H 4 (by omega),H 5 (by omega)⟩
theorem row_tales {w:World}{g M n cap:Nat}{ts:Nat→Tl}{ty:TypeId}(h:w.heap[g]?=some (.cells (l9rowC (M*6) (tlsC ts)) ty (0,0))) (hn:n≤M) (hc:n≤cap):TaleRow w (some ⟨g,0,none⟩) n cap ts:=by
 refine⟨hc,fun hp=>⟨g,0,rfl,block_lt_of_cell (rowT_cells h (show 0<M by omega)).1,fun i hi => ?_⟩⟩;rw[Nat.zero_add];exact rowT_cells h (by omega)
theorem rowT_free {w:World}{g:Nat}{A:Array Value}{ty:TypeId}(h:w.heap[g]?=some (.cells A ty (0,0))) (k:Nat) :
  w.frozen? ⟨g,k*6,none⟩=false∧w.frozen? ⟨g,k*6+1,none⟩=false∧w.frozen? ⟨g,k*6+2,none⟩=false∧w.frozen? ⟨g,k*6+3,none⟩=false∧w.frozen? ⟨g,k*6+4,none⟩=false∧w.frozen? ⟨g,k*6+5,none⟩=false :=
 ⟨frozen_of_row _ _ _ _ _ h,frozen_of_row _ _ _ _ _ h,frozen_of_row _ _ _ _ _ h,frozen_of_row _ _ _ _ _ h,frozen_of_row _ _ _ _ _ h,frozen_of_row _ _ _ _ _ h⟩
theorem l9rowC_put {w:World}{g M k:Nat}{c:Nat→Value}{v:Value}{ty:TypeId}(h:w.heap[g]?=some (.cells (l9rowC M c) ty (0,0))) (hk:k<M) :
  (w.setCell ⟨g,k,none⟩ v).heap[g]?=some (.cells (l9rowC M (fun i=>if i=k then v else c i)) ty (0,0)):=by
 rw[heap_setCell_same _ _ _ _ _ _ h,l9rowC_set _ _ _ _ hk]
theorem rowT_put {w:World}{g M k:Nat}{ts:Nat→Tl}{t:Tl}{ty:TypeId}(h:w.heap[g]?=some (.cells (l9rowC (M*6) (tlsC ts)) ty (0,0))) (hk:k<M) :
  ((((((w.setCell ⟨g,k*6,none⟩ (.int .i64 t.tree)).setCell ⟨g,k*6+1,none⟩ (.int .u64 t.root)).setCell ⟨g,k*6+2,none⟩ (.int .i64 t.cost)).setCell ⟨g,k*6+3,none⟩ (.int .u64 t.bridge)).setCell ⟨g,k*6+4,none⟩ (.int .i64 t.port)).setCell ⟨g,k*6+5,none⟩ (.int .i64 t.age)).heap[g]?=some (.cells (l9rowC (M*6) (tlsC (fun i=>if i=k then t else ts i))) ty (0,0)):=by
 have h0:=l9rowC_put (v:=.int .i64 t.tree) h (show k*6<M*6 by omega);have h1:=l9rowC_put (v:=.int .u64 t.root) h0 (show k*6+1<M*6 by omega);have h2:=l9rowC_put (v:=.int .i64 t.cost) h1 (show k*6+2<M*6 by omega);have h3:=l9rowC_put (v:=.int .u64 t.bridge) h2 (show k*6+3<M*6 by omega);have h4:=l9rowC_put (v:=.int .i64 t.port) h3 (show k*6+4<M*6 by omega);have h5:=l9rowC_put (v:=.int .i64 t.age) h4 (show k*6+5<M*6 by omega);rw[h5,l9rowC_congr];intro i hi;unfold tlsC;show _=l9tlC (if i/6=k then t else ts (i/6)) (i%6);by_cases e:i/6=k
 ·rw[if_pos e];unfold l9tlC;by_cases e5:i=k*6+5
  ·rw[if_pos e5,if_neg (by omega),if_neg (by omega),if_neg (by omega),if_neg (by omega),if_neg (by omega)]
  ·rw[if_neg e5];by_cases e4:i=k*6+4
   ·rw[if_pos e4,if_neg (by omega),if_neg (by omega),if_neg (by omega),if_neg (by omega),if_pos (by omega)]
   ·rw[if_neg e4];by_cases e3:i=k*6+3
    ·rw[if_pos e3,if_neg (by omega),if_neg (by omega),if_neg (by omega),if_pos (by omega)]
    ·rw[if_neg e3];by_cases e2:i=k*6+2
     ·rw[if_pos e2,if_neg (by omega),if_neg (by omega),if_pos (by omega)]
     ·rw[if_neg e2];by_cases e1:i=k*6+1
      ·rw[if_pos e1,if_neg (by omega),if_pos (by omega)]
      ·rw[if_neg e1,if_pos (by omega),if_pos (by omega)]
 ·rw[if_neg e,if_neg (by omega),if_neg (by omega),if_neg (by omega),if_neg (by omega),if_neg (by omega),if_neg (by omega)]
theorem rowT_congr {w:World}{g M:Nat}{ts us:Nat→Tl}{ty:TypeId}(h:w.heap[g]?=some (.cells (l9rowC (M*6) (tlsC ts)) ty (0,0))) (e:∀i,i<M→ts i=us i):w.heap[g]?=some (.cells (l9rowC (M*6) (tlsC us)) ty (0,0)):=by
 rw[h,l9rowC_congr];intro i hi;unfold tlsC;rw[e _ (by omega)]
theorem upTo_step (ts:Nat→Tl) (k i:Nat):(if i=k then ts k else upTo ts k i)=upTo ts (k+1) i:=by
 unfold upTo;by_cases e:i=k
 ·rw[if_pos e,if_pos (by omega),e]
 ·rw[if_neg e];by_cases e2:i<k
  ·rw[if_pos e2,if_pos (by omega)]
  ·rw[if_neg e2,if_neg (by omega)]
def LParse (n:Nat) (bs:Nat→Int) (e:Ending) (w':World):Prop :=
 (¬(17≤n∧(n:Int)=17+bs 16*23)∧e=.returned (.tuple #[.agg #[.slice none 0 0,.slice none 0 0],.int .i64 2])) ∨
 ∃m:Nat,n=17+m*23∧bs 16=(m:Int) ∧
  ((Hl.wrongTo (Hl.talesF bs) m≠0∧e=.returned (.tuple #[.agg #[.slice none 0 0,.slice none 0 0],.int .i64 (Hl.wrongTo (Hl.talesF bs) m)])) ∨
   (Hl.wrongTo (Hl.talesF bs) m=0∧∃da dc ta tc,e=.returned (.tuple #[.agg #[.slice da 16 dc,.slice ta m tc],.int .i64 0])∧ByteRow w' da 16 dc bs∧TaleRow w' ta m tc (Hl.talesF bs)∧NilOk da 16 dc∧NilOk ta m tc))
end
section
open Go.RowKit
theorem nclone_any (ao:Option Addr) (n c:Nat) (bs:Nat→Int) (w:World) (hr:ByteRow w ao n c bs) (hnil:ao=none→n=0∧c=0) (hn:n≤140737488355328) :
  Calls Tryz.prog 47 #[.slice ao n c] w fun e w'=>∃ao' c',e=.returned (.slice ao' n c')∧ByteRow w' ao' n c' bs∧(ao'=none→n=0∧c'=0)∧(∀ad,ao'=some ad→w.heap.size≤ad.block)∧Bl w w':=by
 have HR:Hid (ByteRow w ao n c bs):=hr;clear hr;cases ao with
 | none =>
  obtain⟨rfl,rfl⟩:=hnil rfl;have he:∀w:World,(binOp .eql 60 (.slice none 0 0) (.slice none 0 0)).run Tryz.prog w=.ok (.bool true) w:=fun _=>by kernel_rfl
  go_enter Tryz.func47,Tryz.ntmps47;(go_wp2_with fail);go_ret;exact⟨none,0,rfl,⟨Nat.le_refl _,fun h=>absurd h (by omega)⟩,by simp,by simp,Below.refl _ _⟩
 | some ad =>
  clear hnil;have HR1:Hid (ByteRow (w.alloc (.cells #[] 5)) (some ad) n c bs):=HR.out.below (bA1 w _);have HO:Hid ((w.alloc (.cells #[] 5)).ownsRow w.heap.size 5 1 (.slice (some ⟨w.heap.size,0,none⟩) 0 0) 0 []):=owns_empty w;have he:∀w:World,(binOp .eql 60 (.slice (some ad) n c) (.slice none 0 0)).run Tryz.prog w=.ok (.bool false) w:=fun _=>by kernel_rfl
  go_enter Tryz.func47,Tryz.ntmps47;go_wp2_with (at_builtin;refine wpList_append_bytes rfl (.tmp 5) (.tmp 6) rfl w.heap.size _ 0 [] rfl HO.out (some ad) n c bs rfl HR1.out (fun e=>by cases e) (by omega) (by simp) ?_;intro v1 w1 h1 h2;have HG:Hid (Bl w w1):=grown_own (bA1 w _) HO.out (by simp) h2;clear h2;rw[Nat.zero_add,List.nil_append] at h1;obtain⟨a1,c1,rfl,hrow,_,hnil,hnew⟩:=owns_row h1;have H1:Hid (ByteRow w1 a1 n c1 bs):=hrow;clear hrow h1)
  go_ret;exact⟨a1,c1,rfl,H1.out,hnil,hnew,HG.out⟩
end
end Go.Proofs.YtflghpnpjmodaaaGreatDoor
