/- walks: package plan's Heard -/
import Derived.Test.YtflghpnpjmodaaaGreatDoorT10
import Derived.Test.YtflghpnpjmodaaaGreatDoorT07
import Derived.Test.YtflghpnpjmodaaaGreatDoorT02
import Derived.Test.YtflghpnpjmodaaaGreatDoorT05
import Derived.Maps.AppendAt
import Derived.Deep.RegionHeld3
import Derived.Deep.DeepCutAuto
set_option maxRecDepth 100000
set_option maxHeartbeats 6000000
namespace Go.Proofs.YtflghpnpjmodaaaGreatDoor
section
open Go.RowKit
open Pl (Br Net Pc Lk En St)
theorem infoE:(Tryz.prog.info? 153).map (fun i=>(i.zero,i.size,i.bytes))=some (some (.agg #[.int .i64 0,.int .i64 0,.int .i64 0,.int .i64 0,.bool false]),5,40):=by kernel_rfl
theorem infoEs:(Tryz.prog.info? 106).map (fun i=>(i.zero,i.size,i.bytes))=some (some (.slice none 0 0),1,24):=by kernel_rfl
abbrev eCells (l:List En):List Value:=cellsL l.length 5 (fun j=>enC (EL l j))
theorem eCells_snoc (l:List En) (e:En):eCells l++encE e=eCells (l++[e]):=by
 have h1:encE e=cellsL 1 5 (fun _=>enC e):=by
  simp[encE,cellsL,enC,List.range_succ]
 unfold eCells;rw[h1,cellsL_cat _ _ _ (by omega),List.length_append];apply cellsL_congr
 intro i hi;simp only[catC];by_cases q:i<l.length
 ·rw[if_pos q];simp[EL,List.getD,List.getElem?_append_left q]
 ·rw[if_neg q];obtain rfl:i=l.length:=by omega
  simp[EL,List.getD]
structure EnAt (w:World) (G K:Nat) (v:Nat→Value) (L:Nat→List En):Prop where
 blk:w.heap[G]?=some (.cells (rowC K 1 (fun i _=>v i)) 106)
 own:∀i,i<K→w.ownsRow (G+1) 153 5 (v i) (L i).length (eCells (L i))
 apart:∀i j,i<K→j<K→i≠j→∀q,(v i).ownBlock=some q→(v j).ownBlock≠some q
theorem EnAt.below {w w':World}{G K:Nat}{v:Nat→Value}{L:Nat→List En}(h:EnAt w G K v L) (hb:Bl w w'):EnAt w' G K v L :=
 ⟨keep h.blk hb,fun i hi=>ownsC_below (h.own i hi) hb,h.apart⟩
theorem grown_owns {w w':World}{base n:Nat}{v:Value}{xs:List Value}{r:Option Nat}(h:w.ownsRow base 153 5 v n xs) (hg:w.grownBy w' r) (hne:∀q,v.ownBlock=some q→r≠some q):w'.ownsRow base 153 5 v n xs:=by
 refine h.kept hg ?_;cases hv:v.ownBlock with
 | none=>exact Or.inl rfl
 | some q=>exact Or.inr (fun e=>hne q hv e.symm)
theorem en_append {Z:World}{G K:Nat}{v:Nat→Value}{L:Nat→List En}(hE:EnAt Z G K v L) (i:Nat) (hi:i<K) (e:En) (hlen:(L i).length≤1000) :
  ∃v' w2,(Builtin.append_ #[106,106] 106 #[v i,.slice (some ⟨Z.heap.size,0,none⟩) 1 1]).run Tryz.prog (Z.drew.alloc (.cells #[.int .i64 e.port,.int .i64 e.cost,.int .i64 e.other,.int .i64 e.oport,.bool e.live] 153))=.ok v' w2 ∧
   w2.cell? ⟨G,i,none⟩=some (v i)∧w2.frozen? ⟨G,i,none⟩=false∧EnAt (w2.setCell ⟨G,i,none⟩ v') G K (fun j=>if j=i then v' else v j) (fun j=>if j=i then L i++[e] else L j) ∧
   Below G Z (w2.setCell ⟨G,i,none⟩ v')∧(v'.ownBlock=(v i).ownBlock∨v'.ownBlock=some (Z.heap.size+1))∧(∀q,q<Z.heap.size→(v i).ownBlock≠some q→w2.heap[q]?=Z.heap[q]?)∧Z.heap.size≤w2.heap.size:=by
 obtain⟨i0,hi0,hz0,hz1,hz2⟩:=info_parts infoE;have hGl:G<Z.heap.size:=(gSm.1 hE.blk).1;obtain⟨C,hC⟩:∃C,C=Z.drew.alloc (.cells #[.int .i64 e.port,.int .i64 e.cost,.int .i64 e.other,.int .i64 e.oport,.bool e.live] 153):=⟨_,rfl⟩
 have hCb:Bl Z C:=(by rw[hC];exact(Below.drew (Below.refl _ _)).alloc (Nat.le_refl _) _)
 have hCs:C.heap.size=Z.heap.size+1:=(by rw[hC];simp)
 have hCl:C.heap[Z.heap.size]?=some (.cells #[.int .i64 e.port,.int .i64 e.cost,.int .i64 e.other,.int .i64 e.oport,.bool e.live] 153):=(by rw[hC];exact heap_alloc_last Z.drew _)
 have hEC:=hE.below hCb;have hsrc:∀j u,(encE e)[j]?=some u→C.cell? ((⟨Z.heap.size,0,none⟩:Addr).add j)=some u:=by
  intro j u hj;have hl:j<5:=by
   have:=(List.getElem?_eq_some_iff.1 hj).1;simpa[encE] using this
  rw[add_row,Nat.zero_add];rcases(by omega:j=0∨j=1∨j=2∨j=3∨j=4) with q | q | q | q | q<;>subst q<;>(have:=cell_of_row C Z.heap.size 0 _ _ _ hCl;simp[encE] at hj;subst hj;exact cell_of_row C Z.heap.size _ _ _ _ hCl)
 obtain⟨v',w2,hrun,h1,h2,_,h3⟩:=run_append_own_at (P:=Tryz.prog) C (G+1) 106 106 153 i0 _ 5 40 Tryz.underlying106 hi0 hz0 hz1 hz2 rfl (by omega) (v i) (L i).length (eCells (L i)) (hEC.own i hi) ⟨Z.heap.size,0,none⟩ 1 1 (encE e) rfl hsrc (fun u hu=>by simp[encE] at hu;rcases hu with rfl | rfl | rfl | rfl | rfl<;>rfl) (by unfold maxLen;omega) (by omega) (by omega);rw[eCells_snoc] at h1;have hG1:(v i).ownBlock≠some G:=fun q=>by have:=(oCb (hEC.own i hi) G q).1;omega
 have hw2G:w2.heap[G]?=some (.cells (rowC K 1 (fun i _=>v i)) 106):=(h2.block G (by omega) (fun q=>hG1 q.symm)).trans hEC.blk;have hsame:∀q,q<C.heap.size→(v i).ownBlock≠some q→w2.heap[q]?=C.heap[q]?:=fun q hq hne=>h2.block q hq (fun p=>hne p.symm);have hv'G:v'.ownBlock≠some G:=fun q=>by rcases h3 with h3 | h3<;>rw[h3] at q;exact hG1 q;injection q with q;omega
 have eC:(⟨G,i,none⟩:Addr)=⟨G,i*1+0,none⟩:=(by simp)
 have oth:∀q,q≠G→(w2.setCell ⟨G,i,none⟩ v').heap[q]?=w2.heap[q]?:=fun q hq=>heap_setCell_other _ _ _ _ (by exact hq);have hgs:w2.grownBy (w2.setCell ⟨G,i,none⟩ v') (some G):=⟨by first | rfl | simp,by first | rfl | simp,by first | rfl | simp,by first | exact Nat.le_refl _ | simp,fun q _ hne=>oth q (fun p=>hne (by rw[p]))⟩
 refine⟨v',w2,by rw[←hC];exact hrun,?_,frozen_of_row _ _ _ _ _ hw2G,⟨?_,fun j hj => ?_,fun j k hj hk hjk q hq => ?_⟩,?_,?_,fun q hq hne => ?_,?_⟩
 ·rw[eC];exact rowC_cell hw2G hi (by omega)
 ·rw[eC,rowC_set hw2G hi (by omega),rC2 (d:=fun j _=>if j=i then v' else v j) (fun j _ m hm=>by
   unfold updC;by_cases q:j=i
   ·rw[if_pos ⟨q,by omega⟩,if_pos q]
   ·rw[if_neg (fun p=>q p.1),if_neg q])]
 ·by_cases q:j=i
  ·subst q;simp only[if_true];rw[List.length_append];exact grown_owns h1 hgs (fun q hq p=>hv'G (by rw[hq];exact p.symm))
  ·simp only[if_neg q];refine grown_owns (grown_owns (hEC.own j hj) h2 (fun p hp r=>hE.apart j i hj hi q p hp r)) hgs (fun p hp r => ?_);have:=(oCb (hEC.own j hj) p hp).1;injection r with r;omega
 ·by_cases c1:j=i<;>by_cases c2:k=i
  ·exact absurd (c1.trans c2.symm) hjk
  ·simp only[if_pos c1] at hq;simp only[if_neg c2];intro r;rcases h3 with h3 | h3
   ·exact hE.apart i k hi hk (fun p=>c2 p.symm) q (by rw[←h3];exact hq) r
   ·have:=(oCb (hE.own k hk) q r).2;rw[h3] at hq;injection hq with hq;omega
  ·simp only[if_neg c1] at hq;simp only[if_pos c2];intro r;rcases h3 with h3 | h3
   ·exact hE.apart j i hj hi c1 q hq (by rw[←h3];exact r)
   ·have:=(oCb (hE.own j hj) q hq).2;rw[h3] at r;injection r with r;omega
  ·simp only[if_neg c1] at hq;simp only[if_neg c2];exact hE.apart j k hj hk hjk q hq
 ·have b1:Below G Z C:=hCb.mono (Nat.le_of_lt hGl);have b2:Below G C w2:=(Below.refl _ _).grown h2 (by omega) (fun q hq=>by have:=(oCb (hEC.own i hi) q hq).1;omega);exact(b1.trans b2).setCell (Nat.le_refl _) _
 ·rcases h3 with h3 | h3
  ·exact Or.inl h3
  ·exact Or.inr (by rw[h3,hCs])
 ·rw[hsame q (by omega) hne];exact hCb.block q hq
 ·have:=h2.size;omega
structure EndsOk (w:World) (G K:Nat) (v:Nat→Value) (E:Nat→List En):Prop where
 blk:w.heap[G]?=some (.cells (rowC K 1 (fun i _=>v i)) 106)
 row:∀i,i<K→∃ao cap,v i=.slice ao (E i).length cap∧ERow w ao (E i).length cap (EL (E i))
 ty:∀i,i<K→∀q,(v i).ownBlock=some q→∃cur,w.heap[q]?=some (.cells cur 153)
theorem EndsOk.below {w w':World}{G K:Nat}{v:Nat→Value}{E:Nat→List En}(h:EndsOk w G K v E) (hb:Bl w w'):EndsOk w' G K v E :=
 ⟨keep h.blk hb,fun i hi=>by
  obtain⟨ao,cap,e,h1⟩:=h.row i hi;exact⟨ao,cap,e,CRow.below h1 hb⟩,fun i hi q hq=>by
  obtain⟨cur,hc⟩:=h.ty i hi q hq;exact⟨cur,keep hc hb⟩⟩
structure SrtAt (w:World) (G K:Nat) (v:Nat→Value) (L E:Nat→List En) (k:Nat):Prop where
 blk:w.heap[G]?=some (.cells (rowC K 1 (fun i _=>v i)) 106)
 own:∀i,i<K→k≤i→w.ownsRow (G+1) 153 5 (v i) (L i).length (eCells (L i))
 row:∀i,i<k→∃ao cap,v i=.slice ao (E i).length cap∧ERow w ao (E i).length cap (EL (E i))
 ty:∀i,i<k→∀q,(v i).ownBlock=some q→∃cur,w.heap[q]?=some (.cells cur 153)
 apart:∀i j,i<K→j<K→i≠j→∀q,(v i).ownBlock=some q→(v j).ownBlock≠some q
theorem srt_next {w w':World}{G K:Nat}{v:Nat→Value}{L E:Nat→List En}{k:Nat}(h:SrtAt w G K v L E k) (hk:k<K) (hg:w.grownBy w' (v k).ownBlock) (hr:∃ao cap,v k=.slice ao (E k).length cap∧ERow w' ao (E k).length cap (EL (E k))) (hty:∀q,(v k).ownBlock=some q→∃cur,w'.heap[q]?=some (.cells cur 153)):SrtAt w' G K v L E (k+1):=by
 have hGl:G<w.heap.size:=(gSm.1 h.blk).1;have hG1:(v k).ownBlock≠some G:=fun q=>by have:=(oCb (h.own k hk (Nat.le_refl _)) G q).1;omega
 refine⟨(hg.block G hGl (fun q=>hG1 q.symm)).trans h.blk,fun i hi hki=>grown_owns (h.own i hi (by omega)) hg (fun q hq p=>h.apart i k hi hk (by omega) q hq p),fun i hi => ?_,fun i hi q hq => ?_,h.apart⟩;rotate_left
 ·by_cases e:i=k
  ·subst e;exact hty q hq
  ·obtain⟨cur,hc⟩:=h.ty i (by omega) q hq;exact⟨cur,(hg.block q (gSm.1 hc).1 (fun p=>h.apart i k (by omega) hk e q hq p.symm)).trans hc⟩
 by_cases e:i=k
 ·subst e;exact hr
 ·obtain⟨ao,cap,e1,h1⟩:=h.row i (by omega);refine⟨ao,cap,e1,CRow.other h1 (fun b off hb hlt=>hg.block b hlt (fun q => ?_)) hg.size⟩;subst hb;exact h.apart i k (by omega) hk e b (by rw[e1];rfl) q.symm
end
section
namespace Tk
open Vc (V Of)
open Pl (Lk En St lf lf_mem lf_of_mem le2 Walk fin fin_real fin_up fin_fix fin_port fin_edge fin_bridge fin_cost offerOf offs toNat_lt)
structure Md where
 v:V
 age:Int
 rp:Int
def heardOf (x:Nat→Md) (e:En):Of:=⟨e.port,e.cost,(x e.other.toNat).age,⟨(x e.other.toNat).v.root,(x e.other.toNat).v.cost,(x e.other.toNat).v.bridge,e.oport⟩⟩
def heard (E:List En) (x:Nat→Md):List Of:=(E.filter (·.live)).map (heardOf x)
def chM (id:Int) (l:List Of):Md:=⟨Vc.chV id (lf l) l.length,Vc.chA id (lf l) l.length,Vc.chP id (lf l) l.length⟩
def tick (ids:Nat→Int) (E:Nat→List En) (x:Nat→Md):Nat→Md:=fun i=>chM (ids i) (heard (E i) x)
def ticks (ids:Nat→Int) (E:Nat→List En) (x:Nat→Md):Nat→(Nat→Md)
 | 0=>x
 | t+1=>tick ids E (ticks ids E x t)
theorem heard_mem {l:List En}{x:Nat→Md}{o:Of}(h:o∈heard l x):∃e,e∈l∧e.live=true∧o=heardOf x e:=by
 unfold heard at h;obtain⟨e,he,rfl⟩:=List.mem_map.1 h;obtain⟨h1,h2⟩:=List.mem_filter.1 he;exact⟨e,h1,h2,rfl⟩
theorem mem_heard {l:List En}{x:Nat→Md}{e:En}(h:e∈l) (hl:e.live=true):heardOf x e∈heard l x :=
 List.mem_map.2 ⟨e,List.mem_filter.2 ⟨h,hl⟩,rfl⟩
theorem chM_real (id:Int) (l:List Of):(chM id l=⟨⟨id,0,id,0⟩,0,-1⟩∧∀o∈l,¬Vc.may id o)∨∃o∈l,Vc.may id o∧chM id l=⟨⟨o.vec.root,o.vec.cost+o.cost,id,0⟩,o.age+1,o.port⟩∧∀q∈l,Vc.may id q→¬Vc.ahead q o:=by
 cases h:Vc.chTo id (lf l) l.length with
 | none =>
  refine Or.inl ⟨?_,fun o ho hm => ?_⟩
  ·unfold chM Vc.chV Vc.chA Vc.chP;rw[h]
  ·obtain⟨j,hj,e⟩:=lf_of_mem ho;exact Vc.chTo_none id (lf l) l.length h j hj (by rw[e];exact hm)
 | some i =>
  obtain⟨h1,h2,h3⟩:=Vc.chTo_some id (lf l) l.length i h;refine Or.inr ⟨lf l i,lf_mem h1,h2,?_,fun q hq hm => ?_⟩
  ·unfold chM Vc.chV Vc.chA Vc.chP;rw[h];rfl
  ·obtain⟨j,hj,e⟩:=lf_of_mem hq;rw[←e];exact h3 j hj (by rw[e];exact hm)
theorem chM_own (id:Int) (l:List Of):(chM id l).v.bridge=id∧(chM id l).v.port=0∧(0≤(chM id l).age∧(chM id l).age≤20)∧((chM id l).age=0↔(chM id l).rp<0)∧((chM id l).v.root=id↔(chM id l).rp<0)∧(0≤(chM id l).v.cost∧(chM id l).v.cost≤1000000000)∧(chM id l).v.root≤id:=by
 rcases chM_real id l with⟨h,_⟩ | ⟨o,_,hm,h,_⟩
 ·rw[h];simp
 ·rw[h];obtain⟨⟨f1,f2,f3⟩,hp,ha,hr⟩:=hm;simp only;refine⟨trivial,trivial,by omega,⟨fun q=>by omega,fun q=>by omega⟩,⟨fun q=>by omega,fun q=>by omega⟩,by omega,by omega⟩
section
variable {ids:Nat→Int}{E:Nat→List En}{K:Nat}
theorem ticks_own (x:Nat→Md) (t:Nat) (i:Nat):(ticks ids E x (t+1) i).v.bridge=ids i∧(ticks ids E x (t+1) i).v.port=0∧(0≤(ticks ids E x (t+1) i).age∧(ticks ids E x (t+1) i).age≤20):=by
 have h:=chM_own (ids i) (heard (E i) (ticks ids E x t));exact⟨h.1,h.2.1,h.2.2.1⟩
theorem real_of (G:Pl.Good ids E K) (x:Nat→Md):∀t i,i<K→(ticks ids E x t i).age<t→0≤(ticks ids E x t i).age→∃vs,Walk ids E K i vs (ticks ids E x t i).v.root (ticks ids E x t i).v.cost∧(vs.length:Int)=(ticks ids E x t i).age+1
 | 0,i,_,h,h0=>by omega
 | t+1,i,hi,h,_=>by
  simp only[ticks,tick] at h ⊢;rcases chM_real (ids i) (heard (E i) (ticks ids E x t)) with⟨e,_⟩ | ⟨o,ho,hm,e,_⟩
  ·rw[e];exact⟨_,Walk.here i hi,rfl⟩
  ·rw[e] at h ⊢;obtain⟨q,q1,q2,rfl⟩:=heard_mem ho;obtain⟨_,_,ha,_⟩:=hm;simp only[heardOf] at h ha ⊢;obtain⟨vs,h1,h2⟩:=real_of G x t q.other.toNat (toNat_lt (G.lt i hi q q1 q2).1) (by omega) ha.1;exact⟨_,Walk.over i q vs _ _ hi q1 q2 h1,by simp only[List.length_cons];omega⟩
theorem real_late (G:Pl.Good ids E K) (x:Nat→Md) {t:Nat}(ht:21≤t) {i:Nat}(hi:i<K):∃vs,Walk ids E K i vs (ticks ids E x t i).v.root (ticks ids E x t i).v.cost:=by
 obtain⟨s,rfl⟩:∃s,t=s+1:=⟨t-1,by omega⟩
 have h:=ticks_own (ids:=ids) (E:=E) x s i;obtain⟨vs,h1,_⟩:=real_of G x (s+1) i hi (by omega) h.2.2.1;exact⟨vs,h1⟩
inductive Dep (ids:Nat→Int) (E:Nat→List En) (K:Nat):Nat→List Nat→Prop
 | root (i:Nat):i<K→(fin ids E K i).rp = -1→Dep ids E K i [i]
 | step (i:Nat) (e:En) (vs:List Nat):i<K→e∈E i→e.live=true→e.port=(fin ids E K i).rp→(fin ids E K i).v.root<ids i→(fin ids E K i).v.root=(fin ids E K e.other.toNat).v.root→(fin ids E K i).v.cost=(fin ids E K e.other.toNat).v.cost+e.cost →
   (∀q,q∈E i→q.live=true→¬Vc.ahead (offerOf (fin ids E K) q) (offerOf (fin ids E K) e))→Dep ids E K e.other.toNat vs→Dep ids E K i (i :: vs)
theorem dep_there (G:Pl.Good ids E K):∀(c:Nat) (i:Nat),i<K→(fin ids E K i).v.cost.toNat≤c→∃vs,Dep ids E K i vs:=by
 intro c;induction c with
 | zero =>
  intro i hi hc;rcases fin_port G hi with⟨h,_⟩ | ⟨_,hr,e,h1,h2,h3,h4,h5,h6⟩
  ·exact⟨_,Dep.root i hi h⟩
  ·exfalso
   obtain⟨g1,g2,_⟩:=G.lt i hi e h1 h2;have:=fin_cost G (toNat_lt g1);omega
 | succ c ih =>
  intro i hi hc;rcases fin_port G hi with⟨h,_⟩ | ⟨_,hr,e,h1,h2,h3,h4,h5,h6⟩
  ·exact⟨_,Dep.root i hi h⟩
  ·obtain⟨g1,g2,_⟩:=G.lt i hi e h1 h2;have:=fin_cost G (toNat_lt g1);obtain⟨vs,hv⟩:=ih e.other.toNat (toNat_lt g1) (by omega);exact⟨_,Dep.step i e vs hi h1 h2 h3 hr h4 h5 h6 hv⟩
theorem Dep.near (G:Pl.Good ids E K) {i:Nat}{vs:List Nat}(h:Dep ids E K i vs):(∀v∈vs,v<K∧(fin ids E K v).v.cost≤(fin ids E K i).v.cost)∧vs.Nodup:=by
 induction h with
 | root i hi _=>exact⟨fun v hv=>by rw[List.mem_singleton] at hv;subst hv;exact⟨hi,Int.le_refl _⟩,by simp⟩
 | step i e vs hi h1 h2 _ _ _ h5 _ _ ih =>
  obtain⟨_,g2,_⟩:=G.lt i hi e h1 h2;refine⟨fun v hv => ?_,List.nodup_cons.2 ⟨fun hm => ?_,ih.2⟩⟩
  ·rcases List.mem_cons.1 hv with q | q
   ·subst q;exact⟨hi,Int.le_refl _⟩
   ·have:=ih.1 v q;exact⟨this.1,by omega⟩
  ·have:=(ih.1 i hm).2;omega
theorem Dep.len (G:Pl.Good ids E K) {i:Nat}{vs:List Nat}(h:Dep ids E K i vs):vs.length≤12 :=
 Nat.le_trans (Pl.nodup_few K vs (h.near G).2 (fun v hv=>((h.near G).1 v hv).1)) G.few
theorem Dep.pos {i:Nat}{vs:List Nat}(h:Dep ids E K i vs):1≤vs.length:=by cases h<;>simp
theorem agree (G:Pl.Good ids E K) (one:∀i,i<K→∀p q,p∈E i→q∈E i→p.port=q.port→p=q) (x:Nat→Md) {i:Nat}{vs:List Nat}(h:Dep ids E K i vs):∀t,20+vs.length≤t→ticks ids E x t i=⟨(fin ids E K i).v,(vs.length:Int)-1,(fin ids E K i).rp⟩:=by
 induction h with
 | root i hi hrp =>
  intro t ht;simp only[List.length_singleton] at ht;obtain⟨s,rfl⟩:∃s,t=s+1:=⟨t-1,by omega⟩
  have hf:(fin ids E K i).v=⟨ids i,0,ids i,0⟩:=by
   have hb:=fin_bridge (ids:=ids) (E:=E) (K:=K) i;rcases fin_port G hi with⟨_,h2,h3⟩ | ⟨h2,_⟩
   ·exact Vc.V.eq h2 h3 hb.1 hb.2
   ·omega
  obtain⟨ws,hw⟩:=real_late G x (t:=s+1) (by omega) hi;have hle:=fin_up G hi hw;simp only[ticks,tick] at hle ⊢;rcases chM_real (ids i) (heard (E i) (ticks ids E x s)) with⟨e,_⟩ | ⟨o,_,hm,e,_⟩
  ·rw[e,hf,hrp];simp
  ·exfalso
   rw[e,hf] at hle;have:=hm.2.2.2;unfold le2 at hle;simp only at hle;omega
 | step i e vs hi h1 h2 h3 hr h4 h5 h6 hd ih =>
  intro t ht;simp only[List.length_cons] at ht;have hlen:=hd.len G;have hpos:=hd.pos;obtain⟨s,rfl⟩:∃s,t=s+1:=⟨t-1,by omega⟩
  obtain⟨r,rfl⟩:∃r,s=r+1:=⟨s-1,by omega⟩
  obtain⟨g1,g2,g3⟩:=G.lt i hi e h1 h2;have hp:=ih (r+1) (by omega);have hc:=fin_cost G (toNat_lt g1);have hb:=fin_bridge (ids:=ids) (E:=E) (K:=K) i;have hbp:=fin_bridge (ids:=ids) (E:=E) (K:=K) e.other.toNat;have ho:heardOf (ticks ids E x (r+1)) e=⟨e.port,e.cost,(vs.length:Int)-1,(offerOf (fin ids E K) e).vec⟩:=(by unfold heardOf;rw[hp];rfl)
  have hmay:Vc.may (ids i) (heardOf (ticks ids E x (r+1)) e):=by
   rw[ho];refine⟨?_,g3,⟨?_,?_⟩,?_⟩
   ·unfold Vc.fitsOver offerOf;simp only;omega
   ·show(0:Int)≤(vs.length:Int)-1;omega
   ·show(vs.length:Int)-1<20;omega
   ·show(fin ids E K e.other.toNat).v.root<ids i;omega
  have hnot:∀q,q∈E i→q.live=true→¬Vc.ahead (heardOf (ticks ids E x (r+1)) q) (heardOf (ticks ids E x (r+1)) e):=by
   intro q q1 q2 ha;obtain⟨k1,_,_⟩:=G.lt i hi q q1 q2;obtain⟨ws,hw⟩:=real_late G x (t:=r+1) (by omega) (toNat_lt k1);have l1:=fin_up G (toNat_lt k1) hw;have l2:=fin_edge G hi q1 q2;have own:=ticks_own (ids:=ids) (E:=E) x r q.other.toNat;have hbq:=fin_bridge (ids:=ids) (E:=E) (K:=K) q.other.toNat;have hav:(heardOf (ticks ids E x (r+1)) e).v=(offerOf (fin ids E K) e).v:=(by rw[ho];rfl)
   have hap:(heardOf (ticks ids E x (r+1)) e).port=(offerOf (fin ids E K) e).port:=rfl;have e1:(offerOf (fin ids E K) e).v.root=(fin ids E K i).v.root:=(by rw[h4];rfl)
   have e2:(offerOf (fin ids E K) e).v.cost=(fin ids E K i).v.cost:=(by rw[h5];rfl)
   have hle:(heardOf (ticks ids E x (r+1)) q).v.root<(fin ids E K i).v.root∨((heardOf (ticks ids E x (r+1)) q).v.root=(fin ids E K i).v.root∧(heardOf (ticks ids E x (r+1)) q).v.cost≤(fin ids E K i).v.cost):=by
    rcases ha with ha | ⟨ha,_⟩
    ·rw[hav] at ha;unfold Vc.lt at ha;omega
    ·rw[ha,hav,e1,e2];exact Or.inr ⟨rfl,Int.le_refl _⟩
   unfold heardOf Vc.Of.v Vc.add at hle;unfold le2 at l1 l2;simp only at hle;have r1:(ticks ids E x (r+1) q.other.toNat).v.root=(fin ids E K q.other.toNat).v.root:=(by omega)
   have r2:(ticks ids E x (r+1) q.other.toNat).v.cost=(fin ids E K q.other.toNat).v.cost:=(by omega)
   have hqv:(heardOf (ticks ids E x (r+1)) q).v=(offerOf (fin ids E K) q).v:=by
    unfold heardOf offerOf Vc.Of.v Vc.add;simp only;rw[r1,r2,own.1,hbq.1]
   apply h6 q q1 q2
   unfold Vc.ahead at ha ⊢;rw[hqv,hav] at ha;exact ha
  simp only[ticks,tick];change chM (ids i) (heard (E i) (ticks ids E x (r+1)))=_
  rcases chM_real (ids i) (heard (E i) (ticks ids E x (r+1))) with⟨_,hn⟩ | ⟨o,hom,hm,e',hn⟩
  ·exact absurd hmay (hn _ (mem_heard h1 h2))
  ·obtain⟨q,q1,q2,rfl⟩:=heard_mem hom;obtain⟨_,z2⟩:=Vc.not_ahead (hnot q q1 q2) (hn _ (mem_heard h1 h2) hmay);have:q=e:=one i hi q e q1 h1 z2;subst this;rw[e',ho];have hv:(fin ids E K i).v=⟨(fin ids E K q.other.toNat).v.root,(fin ids E K q.other.toNat).v.cost+q.cost,ids i,0⟩:=Vc.V.eq h4 h5 hb.1 hb.2;rw[hv,←h3];simp only[offerOf,List.length_cons];congr 1
   omega
open Classical in
theorem settled (G:Pl.Good ids E K) (one:∀i,i<K→∀p q,p∈E i→q∈E i→p.port=q.port→p=q) (x:Nat→Md):∃dep:Nat→Int,(∀i,i<K→0≤dep i∧dep i≤11)∧∀t,32≤t→∀i,i<K→ticks ids E x t i=⟨(fin ids E K i).v,dep i,(fin ids E K i).rp⟩:=by
 refine⟨fun i=>if h:∃vs,Dep ids E K i vs then(h.choose.length:Int)-1 else 0,fun i hi => ?_,fun t ht i hi => ?_⟩
 ·have h:=dep_there G _ i hi (Nat.le_refl _);simp only[dif_pos h];have h1:=h.choose_spec.len G;have h2:=h.choose_spec.pos;omega
 ·have h:=dep_there G _ i hi (Nat.le_refl _);simp only[dif_pos h];exact agree G one x h.choose_spec t (by have:=h.choose_spec.len G;omega)
end
def roleM (m:Md) (l:List Of) (e:En):Int:=if e.live=true then Vc.role m.v m.rp e.port (lf l) l.length else 0
section
variable {ids:Nat→Int}{E:Nat→List En}{K:Nat}
theorem someTo_congr {p q:Nat→Bool}:∀n,(∀i,i<n→p i=q i)→Vc.someTo p n=Vc.someTo q n
 | 0,_=>rfl
 | n+1,h=>by simp only[Vc.someTo];rw[someTo_congr n (fun i hi=>h i (by omega)),h n (by omega)]
theorem role_same (m:Md) (s:St) (hv:m.v=s.v) (hr:m.rp=s.rp) (l:List En) (x:Nat→Md) (y:Nat→St) (h:∀e,e∈l→e.live=true→(x e.other.toNat).v=(y e.other.toNat).v∧0≤(x e.other.toNat).age∧(x e.other.toNat).age≤20) (e:En):roleM m (heard l x) e=Pl.roleAt s (offs l y) e:=by
 unfold roleM Pl.roleAt;by_cases hl:e.live=true
 ·rw[if_pos hl,if_pos hl,hv,hr];unfold Vc.role;have hlen:(heard l x).length=(offs l y).length:=(by unfold heard offs;rw[List.length_map,List.length_map])
  rw[hlen];have key:Vc.someTo (fun i=>decide (Vc.hears s.v e.port (lf (heard l x) i))) (offs l y).length=Vc.someTo (fun i=>decide (Vc.hears s.v e.port (lf (offs l y) i))) (offs l y).length:=by
   apply someTo_congr
   intro i hi;have hi':i<(l.filter (·.live)).length:=by unfold offs at hi;rw[List.length_map] at hi;exact hi
   have hm:=List.getElem_mem hi';obtain⟨m1,m2⟩:=List.mem_filter.1 hm;obtain⟨k1,k2,k3⟩:=h _ m1 m2;have a1:lf (heard l x) i=heardOf x ((l.filter (·.live))[i]):=by
    unfold lf heard;rw[List.getD_eq_getElem?_getD,List.getElem?_map,List.getElem?_eq_getElem hi'];rfl
   have a2:lf (offs l y) i=offerOf y ((l.filter (·.live))[i]):=by
    unfold lf offs;rw[List.getD_eq_getElem?_getD,List.getElem?_map,List.getElem?_eq_getElem hi'];rfl
   rw[a1,a2];apply decide_eq_decide.2
   unfold Vc.hears heardOf offerOf;simp only;rw[k1];constructor
   ·rintro⟨p1,p2,p3⟩;exact⟨p1,⟨by omega,by omega⟩,p3⟩
   ·rintro⟨p1,p2,p3⟩;exact⟨p1,⟨k2,k3⟩,p3⟩
  rw[key]
 ·rw[if_neg hl,if_neg hl]
end
end Tk
end
section
open Go.RowKit
theorem step_append_d {w w':World}{ops:Array Oper}{o:Oper}{a:Act}{K:Act→World→Prop}{Q:Exit→Act→World→Prop}{E:Prop}(d:Option Tmp) (hd:o.dst=d) (hgd:o.guard=none) (s x:Operand) (t:TypeId)
  (ho:o.op=.call { callee:=.builtin .append,args:=#[s,x],argTypes:=#[t,t] }) (v vx v':Value) (hs:a.eval s=v) (hx:a.eval x=vx) (hr:(Builtin.append_ #[t,t] o.type #[v,vx]).run Tryz.prog w=.ok v' w')
  (h:K (a.put d v') w'):if Region.wanted o (yielded ops a.tmps)=true then Oper.wp Tryz.prog o a w K Q else E:=by
 subst hd;exact step_append_c hgd s x t ho v vx v' hs hx hr h
section
variable {P:Program}{ops:Array Oper}{Q:Exit→Act→World→Prop}{md:Region.Mode}{S:World→Prop}
theorem pheld_take {i:Nat}{oi:Oper}{v:Value}(d:Option Tmp) {fuel:Nat}{listed:Array Bool}{a:Act}{w:World}(hi:ops[i]?=some oi) (hd:oi.dst=d)
  (hs:Region.noSelect ops=true) (hf:Region.free md ops listed i=true) (hr:(Region.ready md ops listed).contains i=true)
  (hQ:∀c a w,Q (.panic c) (a.put d v) w→Q (.panic c) a w) (hw:Region.wanted oi (yielded ops a.tmps)=true) (hy:∀w,S w→(execOp a.eval oi).run P w=.ok (.value v) w) (hS:S w)
  (h:wpAnyH P md ops Q S fuel (listed.setIfInBounds i true) (a.put d v) w):wpAnyH P md ops Q S (fuel+1) listed a w:=by
 subst hd;exact wpAnyH_take hi hs hf hr hQ (Or.inl ⟨hw,hy⟩) hS h
end
end
section
open Go.RowKit
open Vc (V Of)
open Pl (Br Net Pc Lk En St)
theorem infoOf:(Tryz.prog.info? 162).map (fun i=>(i.zero,i.size,i.bytes))=some (some (.agg #[.int .i64 0,.int .i64 0,.int .i64 0,.int .u64 0,.int .i64 0,.int .u64 0,.int .i64 0]),7,56):=by kernel_rfl
def ofA (o:Of):Array Value:=#[.int .i64 o.port,.int .i64 o.cost,.int .i64 o.age,.int .u64 o.vec.root,.int .i64 o.vec.cost,.int .u64 o.vec.bridge,.int .i64 o.vec.port]
def ToldAt (w:World) (g K:Nat) (x:Nat→Tk.Md):Prop:=g<w.heap.size∧∀i,i<K→(∀j,j<4→w.cell? ⟨g,i*6+1+j,none⟩=some (vC (x i).v j))∧w.cell? ⟨g,i*6+5,none⟩=some (.int .i64 (x i).age)
theorem ToldAt.below {w w':World}{g K:Nat}{x:Nat→Tk.Md}(h:ToldAt w g K x) (hb:Bl w w'):ToldAt w' g K x :=
 ⟨Nat.lt_of_lt_of_le h.1 hb.size,fun i hi=>⟨fun j hj=>(hb.cell (by exact h.1)).trans ((h.2 i hi).1 j hj),(hb.cell (by exact h.1)).trans (h.2 i hi).2⟩⟩
theorem ToldAt.cells {w:World}{g K:Nat}{x:Nat→Tk.Md}(h:ToldAt w g K x) {i:Nat}(hi:i<K) :
  w.cell? ⟨g,i*6+1,none⟩=some (.int .u64 (x i).v.root)∧w.cell? ⟨g,i*6+2,none⟩=some (.int .i64 (x i).v.cost)∧w.cell? ⟨g,i*6+3,none⟩=some (.int .u64 (x i).v.bridge)∧w.cell? ⟨g,i*6+4,none⟩=some (.int .i64 (x i).v.port)∧w.cell? ⟨g,i*6+5,none⟩=some (.int .i64 (x i).age) :=
 ⟨(h.2 i hi).1 0 (by omega),(h.2 i hi).1 1 (by omega),(h.2 i hi).1 2 (by omega),(h.2 i hi).1 3 (by omega),(h.2 i hi).2⟩
abbrev ofCells (l:List Of):List Value:=cellsL l.length 7 (fun j=>ofC (Pl.lf l j))
theorem lf_snoc (l:List Of) (o:Of):cellsL (l.length+1) 7 (catC l.length (fun j=>ofC (Pl.lf l j)) (fun _=>ofC o))=ofCells (l++[o]):=by
 unfold ofCells;rw[List.length_append];apply cellsL_congr
 intro i hi;simp only[catC];by_cases q:i<l.length
 ·rw[if_pos q];simp[Pl.lf,List.getD,List.getElem?_append_left q]
 ·rw[if_neg q];obtain rfl:i=l.length:=by omega
  simp[Pl.lf,List.getD]
theorem off_more2 {Z Zd:World}{base:Nat}{v:Value}{l:List Of}(ho:Z.ownsRow base 162 7 v l.length (ofCells l)) (hbase:base≤Z.heap.size) (hl:l.length≤1000) (z:Of) (hZ:Bl Z Zd) (hs:Zd.heap.size=Z.heap.size) :
  ∃vo vc w2,(Builtin.append_ #[107,107] 107 #[v,.slice (some ⟨Z.heap.size,0,none⟩) 1 1]).run Tryz.prog (Zd.alloc (.cells (ofA z) 162))=.ok (.slice vo (l++[z]).length vc) w2∧w2.ownsRow base 162 7 (.slice vo (l++[z]).length vc) (l++[z]).length (ofCells (l++[z])) ∧
   (∀q,q<Z.heap.size→v.ownBlock≠some q→w2.heap[q]?=Z.heap[q]?)∧Below base Z w2:=by
 obtain⟨i0,hi0,hz0,hz1,hz2⟩:=info_parts infoOf;obtain⟨C,hC⟩:∃C,C=Zd.alloc (.cells (ofA z) 162):=⟨_,rfl⟩
 have hCb:Bl Z C:=(by rw[hC];exact hZ.alloc (by omega) _)
 have hCs:C.heap.size=Z.heap.size+1:=(by rw[hC];simp[hs])
 have hCl:C.heap[Z.heap.size]?=some (.cells (ofA z) 162):=(by rw[hC,←hs];exact heap_alloc_last Zd _)
 have hO:=ownsC_below ho hCb;obtain⟨v',w2,hrun,h1,h2,_,h3⟩:=run_append_own_at (P:=Tryz.prog) C base 107 107 162 i0 _ 7 56 Tryz.underlying107 hi0 hz0 hz1 hz2 rfl (by omega) v l.length (ofCells l) hO ⟨Z.heap.size,0,none⟩ 1 1 (ofA z).toList rfl (fun j u hj=>by
  have hl:j<7:=by
   have:=(List.getElem?_eq_some_iff.1 hj).1;simpa[ofA] using this
  rw[add_row,Nat.zero_add];have:=cell_of_row C Z.heap.size j _ _ _ hCl;rw[this];simpa using hj) (fun u hu=>by simp[ofA] at hu;rcases hu with rfl | rfl | rfl | rfl | rfl | rfl | rfl<;>rfl) (by unfold maxLen;omega) (by omega) (by omega)
 have e1:ofCells l++(ofA z).toList=ofCells (l++[z]):=by
  have:(ofA z).toList=cellsL 1 7 (fun _=>ofC z):=by simp[cellsL,ofA,ofC,vC,List.range_succ]
  rw[this,cellsL_cat _ _ _ (by omega),lf_snoc]
 have e2:(l++[z]).length=l.length+1:=(by simp)
 rw[e1,←e2] at h1;obtain⟨ao,cap,rfl,_⟩:=owns_c (by omega) h1;exact⟨ao,cap,w2,by rw[←hC];exact hrun,h1,fun q hq hne=>(h2.block q (by omega) (fun p=>hne p.symm)).trans (hCb.block q hq),(hCb.mono hbase).trans ((Below.refl _ _).grown h2 (by omega) (fun q hq=>(oCb hO q hq).1))⟩
theorem heard_next {es:List En}{x:Nat→Tk.Md}{k:Nat}(hk:k<es.length):Tk.heard (es.take (k+1)) x=Tk.heard (es.take k) x++if (EL es k).live=true then [Tk.heardOf x (EL es k)] else []:=by
 have e:es.take (k+1)=es.take k++[EL es k]:=by
  rw[List.take_add_one,List.getElem?_eq_getElem hk];simp[EL,List.getD,List.getElem?_eq_getElem hk]
 unfold Tk.heard;rw[e,List.filter_append,List.map_append];generalize EL es k=y;congr 1
 cases hl:y.live<;>simp[hl]
theorem heard_few (es:List En) (x:Nat→Tk.Md):(Tk.heard es x).length≤es.length:=by
 unfold Tk.heard;rw[List.length_map];exact List.length_filter_le _ _
theorem pheard_any (es:List En) (eao:Option Addr) (ecap:Nat) (Pb K:Nat) (x:Nat→Tk.Md) (w:World) (hK:K≤1000) (hlen:es.length≤1000) (hr:ERow w eao es.length ecap (EL es)) (hs:ToldAt w Pb K x) (hoth:∀e,e∈es→e.live=true→0≤e.other∧e.other<K) :
  Calls Tryz.prog 37 #[.slice eao es.length ecap,.slice (some ⟨Pb,0,none⟩) K K] w fun e w'=>∃ao cap,e=.returned (.slice ao (Tk.heard es x).length cap)∧ORow w' ao (Tk.heard es x).length cap (Pl.lf (Tk.heard es x))∧Bl w w'∧∀ad,ao=some ad→w.heap.size≤ad.block:=by
 have HRW:Hid (∀W,Bl w W→ERow W eao es.length ecap (EL es)∧ToldAt W Pb K x):=fun W hW=>⟨CRow.below hr hW,hs.below hW⟩
 have HOT:Hid (∀e,e∈es→e.live=true→0≤e.other∧e.other<K):=hoth;have hcap:=hr.1;have wk:IntKind.i64.wrap ((K:Int)-1)=(K:Int)-1:=(by rw[IntKind.wrap_i64];omega)
 have HPB:Hid (Pb<w.heap.size):=hs.1;clear hr hs hoth;have H0:Hid (w.ownsRow w.heap.size 162 7 (.slice none (Tk.heard (es.take 0) x).length 0) (Tk.heard (es.take 0) x).length (ofCells (Tk.heard (es.take 0) x))∧Bl w w):=⟨ownsC_nil _ _ _ _ _,Below.refl _ _⟩
 go_enter Tryz.func37,Tryz.ntmps37;(go_wp2_with fail);go_loopw [5,11] (fun s5 i wr=>∃(k:Nat) (ao:Option Addr) (cap:Nat),k≤es.length∧i=.int .i64 k∧s5=.slice ao (Tk.heard (es.take k) x).length cap∧Hid (wr.ownsRow w.heap.size 162 7 (.slice ao (Tk.heard (es.take k) x).length cap) (Tk.heard (es.take k) x).length (ofCells (Tk.heard (es.take k) x))∧Bl w wr)) (fun _ i _=>es.length-(intOf i).toNat)
 case atStart=>exact⟨0,none,0,by omega,rfl,rfl,H0⟩
 case round =>
  obtain⟨k,ao,cap,hk,rfl,rfl,hX⟩:=hrel;clear H0;by_cases hlt:k<es.length
  ·obtain⟨hO,hB⟩:=hX.out;obtain⟨f1,f2⟩:=HRW.out wr hB;obtain⟨eb,eoff,rfl,_⟩:=CRow.some f1 (by omega);obtain⟨c0,c1,c2,c3,c4⟩:=ERow.cells f1 hlt;have hmem:EL es k∈es:=by
    have:EL es k=es[k]:=by simp[EL,List.getD,List.getElem?_eq_getElem hlt]
    rw[this];exact List.getElem_mem hlt
   have hnext:=heard_next (x:=x) hlt;have hol:=HOT.out _ hmem;have hfew:(Tk.heard (es.take k) x).length≤1000:=by
    have h1:=heard_few (es.take k) x;rw[List.length_take] at h1;omega
   have i0:(0:Int)≤(k:Int):=(by omega)
   have i1:(k:Int)<(es.length:Int):=(by omega)
   generalize EL es k=e at *;obtain⟨port,cost,other,oport,live⟩:=e;simp only at c0 c1 c2 c3 c4 hol hnext;cases live with
   | false =>
    rw[if_neg (by decide),List.append_nil] at hnext;have HN:Hid (∀W,Bl wr W→W.ownsRow w.heap.size 162 7 (.slice ao (Tk.heard (es.take (k+1)) x).length cap) (Tk.heard (es.take (k+1)) x).length (ofCells (Tk.heard (es.take (k+1)) x))∧Bl w W):=fun W hW=>by rw[hnext];exact⟨ownsC_below hO hW,hB.trans (hW.mono hB.size)⟩
    have HLE:Hid ((Tk.heard (es.take (k+1)) x).length=(Tk.heard (es.take k) x).length):=by show _=_;rw[hnext]
    clear hO hB hX f1 f2 hol hnext hmem HRW HOT;(go_wp2_with fail);exact⟨⟨k+1,ao,cap,by omega,by go_num,by rw[HLE.out],HN.out _ (bA1 _ _)⟩,by simp[intOf];omega⟩
   | true =>
    obtain⟨j,rfl⟩:∃j:Nat,other=j:=⟨other.toNat,by have:=hol rfl;omega⟩
    have hj:j<K:=(by have:=hol rfl;omega)
    have j0:(0:Int)≤(j:Int):=(by omega)
    have j1:(j:Int)<(K:Int):=(by omega)
    have HW:Hid (∀W,Calls Tryz.prog 32 #[.int .i64 j,.int .i64 0,.int .i64 ((K:Int)-1)] W fun e w'=>e=.returned (.bool true)∧w'=W):=fun W=>by
     have:=gwithin_any (j:Int) 0 ((K:Int)-1) W;rw[decide_eq_true (by omega)] at this;exact this
    have hPb:=f2.1;obtain⟨X,HX⟩:∃X,Hid (X=wr.alloc (.cells #[.int .i64 port,.int .i64 cost,.int .i64 j,.int .i64 oport,.bool true] 153)):=⟨_,rfl⟩
    have hXB:Bl wr X:=(by rw[HX.out];exact bA1 _ _)
    have hXs:X.heap.size=wr.heap.size+1:=(by rw[HX.out];simp)
    have hXe:X.heap[wr.heap.size]?=some (.cells #[.int .i64 port,.int .i64 cost,.int .i64 j,.int .i64 oport,.bool true] 153):=(by rw[HX.out];exact heap_alloc_last _ _)
    obtain⟨Y,HY⟩:∃Y,Hid (Y=X.alloc (.cells #[.int .u64 (x j).v.root,.int .i64 (x j).v.cost,.int .u64 (x j).v.bridge,.int .i64 oport] 36)):=⟨_,rfl⟩
    have hYX:Bl X Y:=(by rw[HY.out];exact bA1 _ _)
    have hYB:Bl wr Y:=hXB.trans (hYX.mono hXB.size);have hYv:Y.heap[X.heap.size]?=some (.cells #[.int .u64 (x j).v.root,.int .i64 (x j).v.cost,.int .u64 (x j).v.bridge,.int .i64 oport] 36):=(by rw[HY.out];exact heap_alloc_last _ _)
    obtain⟨p0,p1,p2,p3,p4⟩:=(f2.below hXB).cells hj;obtain⟨_,_,_,_,u4⟩:=(f2.below hYB).cells hj;obtain⟨q0,q1,q2,q3,q4⟩:=br_cells hXe;obtain⟨r0,r1,r2,_,_⟩:=br_cells (keep hXe hYX);obtain⟨v0,v1,v2,v3⟩:=vc_cells hYv;rw[if_pos rfl] at hnext;have hYs:Y.heap.size=wr.heap.size+1+1:=(by rw[HY.out,←hXs];simp)
    obtain⟨a1,c1',w2,r,ho2,hk2,hb2⟩:=off_more2 (Zd:=Y.drew) (ownsC_below hO hYB) (Nat.le_trans hB.size hYB.size) hfew (Tk.heardOf x ⟨port,cost,j,oport,true⟩) (Below.drew (Below.refl _ _)) rfl;have HN:Hid (w2.ownsRow w.heap.size 162 7 (.slice a1 (Tk.heard (es.take (k+1)) x).length c1') (Tk.heard (es.take (k+1)) x).length (ofCells (Tk.heard (es.take (k+1)) x))∧Bl w w2):=by
     rw[hnext];exact⟨ho2,(hB.trans (hYB.mono hB.size)).trans hb2⟩
    have HLE:Hid ((Tk.heard (es.take (k+1)) x).length=(Tk.heard (es.take k) x++[Tk.heardOf x ⟨port,cost,j,oport,true⟩]).length):=by show _=_;rw[hnext]
    have HR2:Hid _:=r;simp only[ofA,Tk.heardOf,Int.toNat_natCast] at HR2;have hvl:∀q,wr.heap.size≤q→(Value.slice ao (Tk.heard (es.take k) x).length cap).ownBlock≠some q:=fun q hq p=>by have:=(oCb hO _ p).2;omega
    have hw2e:=(hk2 wr.heap.size (by omega) (hvl _ (Nat.le_refl _))).trans (keep hXe hYX);have hw2v:=(hk2 X.heap.size (by omega) (hvl _ (by omega))).trans hYv;have hw2a:w2.cell? ⟨Pb,j*6+5,none⟩=some (.int .i64 (x j).age):=by
     by_cases q:(Value.slice ao (Tk.heard (es.take k) x).length cap).ownBlock=some Pb
     ·exfalso
      have h1:=(oCb hO _ q).1;have h2:=HPB.out;omega
     ·exact(World.cell?_of_block (hk2 Pb (Nat.lt_of_lt_of_le hPb hYB.size) q)).trans u4
    generalize (x j).age=aj at *;generalize (x j).v=vj at *;obtain⟨vr,vco,vbr,vpt⟩:=vj;simp only at p0 p1 p2 p3 HR2 HY hYv hw2v;obtain⟨B,HB⟩:∃B,Hid (B=wr.heap.size):=⟨_,rfl⟩
    have HS:Hid (∀W,Bl Y W→((W.cell? ⟨B,0,none⟩=some (.int .i64 port)∧W.cell? ⟨B,1,none⟩=some (.int .i64 cost)∧W.cell? ⟨B,2,none⟩=some (.int .i64 j))∧(W.cell? ⟨B+1,0,none⟩=some (.int .u64 vr)∧W.cell? ⟨B+1,1,none⟩=some (.int .i64 vco)∧W.cell? ⟨B+1,2,none⟩=some (.int .u64 vbr)∧W.cell? ⟨B+1,3,none⟩=some (.int .i64 oport))∧W.cell? ⟨Pb,j*6+5,none⟩=some (.int .i64 aj))):=fun W hW=>by
     rw[HB.out];obtain⟨z0,z1,z2,_,_⟩:=br_cells (keep (keep hXe hYX) hW);have hv2:=keep hYv hW;rw[hXs] at hv2;obtain⟨y0,y1,y2,y3⟩:=vc_cells hv2;exact⟨⟨z0,z1,z2⟩,⟨y0,y1,y2,y3⟩,(hW.cell (by exact Nat.lt_of_lt_of_le hPb hYB.size)).trans u4⟩
    have HS2:Hid ((w2.cell? ⟨B,0,none⟩=some (.int .i64 port)∧w2.cell? ⟨B,1,none⟩=some (.int .i64 cost)∧w2.cell? ⟨B,2,none⟩=some (.int .i64 j))∧(w2.cell? ⟨B+1,0,none⟩=some (.int .u64 vr)∧w2.cell? ⟨B+1,1,none⟩=some (.int .i64 vco)∧w2.cell? ⟨B+1,2,none⟩=some (.int .u64 vbr)∧w2.cell? ⟨B+1,3,none⟩=some (.int .i64 oport))∧w2.cell? ⟨Pb,j*6+5,none⟩=some (.int .i64 aj)):=by
     rw[HB.out];obtain⟨z0,z1,z2,_,_⟩:=br_cells hw2e;rw[hXs] at hw2v;obtain⟨y0,y1,y2,y3⟩:=vc_cells hw2v;exact⟨⟨z0,z1,z2⟩,⟨y0,y1,y2,y3⟩,hw2a⟩
    rw[HX.out] at p0 p1 p2 p3 q2 q3 q4;clear hO hB hX f1 f2 hol hnext hmem HRW HOT r ho2 hb2 hk2 hvl hYB hXB hYX hXe hYv p4 q0 q1 r0 r1 r2 v0 v1 v2 v3 hYs hXs hw2e hw2v hw2a u4 hPb;go_wp2_with (go_at_call 32;refine(HW.out _).mono ?_;rintro e w1 ⟨rfl,rfl⟩)
    rw[←HX.out];rw[←HY.out];rw[←HB.out];refine wp_region_held_drew (S:=fun W=>(W.cell? ⟨B,0,none⟩=some (.int .i64 port)∧W.cell? ⟨B,1,none⟩=some (.int .i64 cost)∧W.cell? ⟨B,2,none⟩=some (.int .i64 j))∧(W.cell? ⟨B+1,0,none⟩=some (.int .u64 vr)∧W.cell? ⟨B+1,1,none⟩=some (.int .i64 vco)∧W.cell? ⟨B+1,2,none⟩=some (.int .u64 vbr)∧W.cell? ⟨B+1,3,none⟩=some (.int .i64 oport))∧W.cell? ⟨Pb,j*6+5,none⟩=some (.int .i64 aj)) (by kernel_rfl) (HS.out _ (Below.drew (Below.refl _ _))) (fun hHeld => ?_);refine pheld_take (i:=0) (v := ?_) (some 34) rfl rfl (by kernel_rfl) (by kernel_rfl) (by kernel_rfl) (fun _ _ _ h=>h) (by rfl) ?_ hHeld ?_;rotate_left 1
    ·(intro wq hSw;go_simp;try with_reducible rfl)
    (try simp only[Act.put,lsA,lsZ,lsS])
    refine pheld_take (i:=1) (v := ?_) (some 35) rfl rfl (by kernel_rfl) (by kernel_rfl) (by kernel_rfl) (fun _ _ _ h=>h) (by rfl) ?_ hHeld ?_;rotate_left 1
    ·(intro wq hSw;go_simp;try with_reducible rfl)
    (try simp only[Act.put,lsA,lsZ,lsS])
    refine pheld_take (i:=2) (v := ?_) (some 36) rfl rfl (by kernel_rfl) (by kernel_rfl) (by kernel_rfl) (fun _ _ _ h=>h) (by rfl) ?_ hHeld ?_;rotate_left 1
    ·(intro wq hSw;go_simp;try with_reducible rfl)
    (try simp only[Act.put,lsA,lsZ,lsS])
    refine pheld_take (i:=3) (v := ?_) (some 37) rfl rfl (by kernel_rfl) (by kernel_rfl) (by kernel_rfl) (fun _ _ _ h=>h) (by rfl) ?_ hHeld ?_;rotate_left 1
    ·(intro wq hSw;go_simp;try with_reducible rfl)
    (try simp only[Act.put,lsA,lsZ,lsS])
    refine pheld_take (i:=4) (v := ?_) (some 38) rfl rfl (by kernel_rfl) (by kernel_rfl) (by kernel_rfl) (fun _ _ _ h=>h) (by rfl) ?_ hHeld ?_;rotate_left 1
    ·(intro wq hSw;go_simp;try with_reducible rfl)
    (try simp only[Act.put,lsA,lsZ,lsS])
    refine pheld_take (i:=5) (v := ?_) (some 39) rfl rfl (by kernel_rfl) (by kernel_rfl) (by kernel_rfl) (fun _ _ _ h=>h) (by rfl) ?_ hHeld ?_;rotate_left 1
    ·(intro wq hSw;go_simp;try with_reducible rfl)
    (try simp only[Act.put,lsA,lsZ,lsS])
    refine pheld_take (i:=6) (v := ?_) (some 40) rfl rfl (by kernel_rfl) (by kernel_rfl) (by kernel_rfl) (fun _ _ _ h=>h) (by rfl) ?_ hHeld ?_;rotate_left 1
    ·(intro wq hSw;go_simp;try with_reducible rfl)
    (try simp only[Act.put,lsA,lsZ,lsS])
    refine pheld_take (i:=7) (v := ?_) (some 41) rfl rfl (by kernel_rfl) (by kernel_rfl) (by kernel_rfl) (fun _ _ _ h=>h) (by rfl) ?_ hHeld ?_;rotate_left 1
    ·(intro wq hSw;go_simp;try with_reducible rfl)
    (try simp only[Act.put,lsA,lsZ,lsS])
    refine pheld_take (i:=8) (v := ?_) (some 42) rfl rfl (by kernel_rfl) (by kernel_rfl) (by kernel_rfl) (fun _ _ _ h=>h) (by rfl) ?_ hHeld ?_;rotate_left 1
    ·(intro wq hSw;go_simp;try with_reducible rfl)
    (try simp only[Act.put,lsA,lsZ,lsS])
    refine pheld_take (i:=9) (v := ?_) (some 43) rfl rfl (by kernel_rfl) (by kernel_rfl) (by kernel_rfl) (fun _ _ _ h=>h) (by rfl) ?_ hHeld ?_;rotate_left 1
    ·(intro wq hSw;go_simp;try with_reducible rfl)
    (try simp only[Act.put,lsA,lsZ,lsS])
    refine pheld_take (i:=10) (v := ?_) (some 44) rfl rfl (by kernel_rfl) (by kernel_rfl) (by kernel_rfl) (fun _ _ _ h=>h) (by rfl) ?_ hHeld ?_;rotate_left 1
    ·(intro wq hSw;go_simp;try with_reducible rfl)
    (try simp only[Act.put,lsA,lsZ,lsS])
    refine pheld_take (i:=11) (v := ?_) (some 45) rfl rfl (by kernel_rfl) (by kernel_rfl) (by kernel_rfl) (fun _ _ _ h=>h) (by rfl) ?_ hHeld ?_;rotate_left 1
    ·(intro wq hSw;go_simp;try with_reducible rfl)
    (try simp only[Act.put,lsA,lsZ,lsS])
    refine pheld_take (i:=12) (v := ?_) (some 46) rfl rfl (by kernel_rfl) (by kernel_rfl) (by kernel_rfl) (fun _ _ _ h=>h) (by rfl) ?_ hHeld ?_;rotate_left 1
    ·(intro wq hSw;go_simp;try with_reducible rfl)
    (try simp only[Act.put,lsA,lsZ,lsS])
    refine wpAnyH_ready (rs:=[13]) (by kernel_rfl) (by simp) ?_;refine AllReadyH.cons rfl (fun K hK => ?_) AllReadyH.nil;go_simp;refine hK.out _ _ (HS.out _ ((Below.drew (Below.refl _ _)).alloc (Nat.le_refl _) _)) (fun hHeld => ?_);clear hK K;(try simp only[Act.put,lsA,lsZ,lsS])
    refine wpAnyH_ready (rs:=[14]) (by kernel_rfl) (by simp) ?_;refine AllReadyH.cons rfl (fun K hK => ?_) AllReadyH.nil;refine step_append_d (some 48) rfl rfl (.tmp 34) (.tmp 47) 107 rfl _ _ _ rfl rfl HR2.out ?_;refine hK.out _ _ HS2.out (fun hHeld => ?_);clear hK K;(try simp only[Act.put,lsA,lsZ,lsS])
    refine pheld_take (i:=15) (v := ?_) (some 5) rfl rfl (by kernel_rfl) (by kernel_rfl) (by kernel_rfl) (fun _ _ _ h=>h) (by rfl) ?_ hHeld ?_;rotate_left 1
    ·(intro wq hSw;go_simp;try with_reducible rfl)
    (try simp only[Act.put,lsA,lsZ,lsS])
    refine wpAnyH_done (by kernel_rfl) ?_ _;(go_wp2_with fail);exact⟨⟨k+1,a1,c1',by omega,by go_num,by rw[HLE.out,List.length_append];rfl,HN⟩,by simp[intOf];omega⟩
  ·obtain rfl:k=es.length:=by omega
   obtain⟨hO,hB⟩:=hX.out;rw[List.take_length] at hO;rw[List.take_length];obtain⟨a1,c1,e1,h1,_,h3⟩:=owns_c (by omega) hO;injection e1 with e1 _ e2;subst e1;subst e2;(go_wp2_with fail);go_ret;exact⟨ao,cap,rfl,h1,hB,h3⟩
end
end Go.Proofs.YtflghpnpjmodaaaGreatDoor
