/- walks: package talk's copiedTalk: the walk -/
import Derived.Test.YtelebnancdjjiaaGreatDoorM01
import Derived.Test.YtelebnancdjjiaaGreatDoorM19
import Derived.Deep.RegionHeld3
set_option maxRecDepth 100000
set_option maxHeartbeats 6000000
namespace Go.Proofs.YtelebnancdjjiaaGreatDoor
section
open Go.RowKit
section
variable {P:Program}{ops:Array Oper}{Q:Exit→Act→World→Prop}{md:Region.Mode}{z:Nat}{C:World→Prop}
def wpAnyZ (P:Program) (md:Region.Mode) (ops:Array Oper) (Q:Exit→Act→World→Prop) (z:Nat) (C:World→Prop):Nat→Array Bool→Act→World→Prop
 | 0,listed,a,w=>Region.ready md ops listed=[]∧Q .normal a w
 | fuel+1,listed,a,w =>
  (Region.ready md ops listed=[]→Q .normal a w) ∧
  ∀i∈Region.ready md ops listed,wpOp P ops Q i (fun a' w'=>((listed.setIfInBounds i true).getD z true=true∨C w')∧wpAnyZ P md ops Q z C fuel (listed.setIfInBounds i true) a' w') a w
theorem wpAny_of_z:∀(fuel:Nat) (listed:Array Bool) (a:Act) (w:World),wpAnyZ P md ops Q z C fuel listed a w→wpAny P md ops Q fuel listed a w
 | 0,_,_,_,h=>h
 | fuel+1,_,_,_,h=>⟨h.1,fun i hi=>wpOp_mono (fun a' w' h'=>wpAny_of_z fuel _ a' w' h'.2) (h.2 i hi)⟩
def zwait (md:Region.Mode) (ops:Array Oper) (i:Nat) (D:List Nat) (j:Nat):Bool :=
 match ops[j]? with
 | some o=>o.after.any (fun e=>Region.binds md e&&(e.on == i||D.contains e.on))
 | none=>false
def zdesc (md:Region.Mode) (ops:Array Oper) (i:Nat):Nat→List Nat
 | 0=>[]
 | n+1=>(List.range ops.size).filter (zwait md ops i (zdesc md ops i n))
def zok (md:Region.Mode) (ops:Array Oper) (listed:Array Bool) (z i:Nat):Bool :=
 i != z&&(zdesc md ops i ops.size).contains z&&(zdesc md ops i ops.size).all (fun d=>zwait md ops i (zdesc md ops i ops.size) d && !listed.getD d true)
theorem zunlisted {listed:Array Bool}{i:Nat}(h0:listed.getD i true=false):listed.getD i false=false:=by
 rcases Nat.lt_or_ge i listed.size with h' | h'
 ·simp[h'] at h0 ⊢;exact h0
 ·simp[Array.getElem?_eq_none h'] at h0
theorem wpAnyZ_first {i:Nat}{oi:Oper}{v:Value}(hi:ops[i]?=some oi) (hsel:∀(j:Nat) (o:Oper) cs b,ops[j]?=some o→o.op≠.select cs b)
  (hQ:∀c a w,Q (.panic c) (a.put oi.dst v) w→Q (.panic c) a w) {D:List Nat}(hiz:i≠z) (hzD:z∈D) (hcl:∀d,d∈D→zwait md ops i D d=true) :
  ∀(fuel:Nat) (listed:Array Bool) (a:Act) (w:World),
   (∀j oj,ops[j]?=some oj→j≠i→listed.getD j true=false→(∀e∈oj.after,Region.binds md e=true→e.on≠i)→oi.apart ops oj=true) →
   (∀d,d∈D→listed.getD d true=false)→i∈Region.ready md ops listed→YieldsIf P ops C oi v a→C w →
   wpAnyZ P md ops Q z C fuel (listed.setIfInBounds i true) (a.put oi.dst v) w→wpAnyZ P md ops Q z C (fuel+1) listed a w:=by
 intro fuel;induction fuel with
 | zero =>
  intro listed a w _ _ hr hy hS H;refine⟨fun h=>(by rw[h] at hr;cases hr),fun j hj => ?_⟩;by_cases hji:j=i
  ·subst hji;exact hy.wpOp hi hS ⟨Or.inr hS,H⟩
  ·have:=ready_mono hj hji;rw[H.1] at this;cases this
 | succ fuel ih =>
  intro listed a w hfree hun hr hy hS H;refine⟨fun h=>(by rw[h] at hr;cases hr),fun j hj => ?_⟩;by_cases hji:j=i
  ·subst hji;exact hy.wpOp hi hS ⟨Or.inr hS,H⟩
  ·have h1:=H.2 j (ready_mono hj hji);obtain⟨hjun,oj,hoj,hall⟩:=mem_ready.1 hj;have h0:=zunlisted (mem_ready.1 hr).1;have hnot:∀e∈oj.after,Region.binds md e=true→e.on≠i:=fun e he hb heq=>by
    have h1:=hall e he hb;rw[heq,h0] at h1;cases h1
   have hjD:j ∉ D:=fun hm=>by
    have hw:=hcl j hm;unfold zwait at hw;rw[hoj] at hw;simp only[Array.any_eq_true,Bool.and_eq_true,Bool.or_eq_true,beq_iff_eq,List.contains_iff_mem] at hw;obtain⟨x,hx,hb,he⟩:=hw;have h1:=hall _ (Array.getElem_mem hx) hb;rcases he with he | he
    ·rw[he,h0] at h1;cases h1
    ·rw[zunlisted (hun _ he)] at h1;cases h1
   have hjz:j≠z:=fun e=>hjD (e ▸ hzD);have h2:=wpOp_putIf hoj (hfree j oj hoj hji hjun hnot) (fun cs b=>hsel i oi cs b hi) (fun cs b=>hsel j oj cs b hoj) hQ hy h1;have hfree':∀k ok,ops[k]?=some ok→k≠i→(listed.setIfInBounds j true).getD k true=false →
     (∀e∈ok.after,Region.binds md e=true→e.on≠i)→oi.apart ops ok=true:=fun k ok hk hki hun hno=>by
    refine hfree k ok hk hki ?_ hno;by_cases hjk:j=k
    ·subst hjk;exact hjun
    ·rw[getD_set_ne true hjk] at hun;exact hun
   have hun':∀d,d∈D→(listed.setIfInBounds j true).getD d true=false:=fun d hd=>by
    have hne:j≠d:=fun e=>by subst e;exact hjD hd
    rw[getD_set_ne true hne];exact hun d hd
   refine wpOp_mono (fun a' w' h3 => ?_) h2;have hC:C w':=by
    rcases h3.2.1 with h4 | h4
    ·rw[getD_set_ne true hjz,getD_set_ne true hiz,hun z hzD] at h4;cases h4
    ·exact h4
   refine⟨Or.inr hC,ih (listed.setIfInBounds j true) a' w' hfree' hun' (ready_mono hr (Ne.symm hji)) h3.1 hC ?_⟩;rw[Array.setIfInBounds_comm _ _ hji];exact h3.2.2
theorem wpAnyZ_firstW {i:Nat}{oi:Oper}{v:Value}(hi:ops[i]?=some oi) (hsel:∀(j:Nat) (o:Oper) cs b,ops[j]?=some o→o.op≠.select cs b)
  (hQ:∀c a w,Q (.panic c) (a.put oi.dst v) w→Q (.panic c) a w) (hiz:i≠z) :
  ∀(fuel:Nat) (listed:Array Bool) (a:Act) (w:World),
   (∀j oj,ops[j]?=some oj→j≠i→listed.getD j true=false→(∀e∈oj.after,Region.binds md e=true→e.on≠i)→oi.apart ops oj=true) →
   i∈Region.ready md ops listed→YieldsIf P ops (fun _=>True) oi v a→(listed.getD z true=true∨C w) →
   wpAnyZ P md ops Q z C fuel (listed.setIfInBounds i true) (a.put oi.dst v) w→wpAnyZ P md ops Q z C (fuel+1) listed a w:=by
 intro fuel;induction fuel with
 | zero =>
  intro listed a w _ hr hy hS H;refine⟨fun h=>(by rw[h] at hr;cases hr),fun j hj => ?_⟩;by_cases hji:j=i
  ·subst hji;exact hy.wpOp hi trivial ⟨by rw[getD_set_ne true hiz];exact hS,H⟩
  ·have:=ready_mono hj hji;rw[H.1] at this;cases this
 | succ fuel ih =>
  intro listed a w hfree hr hy hS H;refine⟨fun h=>(by rw[h] at hr;cases hr),fun j hj => ?_⟩;by_cases hji:j=i
  ·subst hji;exact hy.wpOp hi trivial ⟨by rw[getD_set_ne true hiz];exact hS,H⟩
  ·have h1:=H.2 j (ready_mono hj hji);obtain⟨hjun,oj,hoj,hall⟩:=mem_ready.1 hj;have h0:=zunlisted (mem_ready.1 hr).1;have hnot:∀e∈oj.after,Region.binds md e=true→e.on≠i:=fun e he hb heq=>by
    have h1:=hall e he hb;rw[heq,h0] at h1;cases h1
   have h2:=wpOp_putIf hoj (hfree j oj hoj hji hjun hnot) (fun cs b=>hsel i oi cs b hi) (fun cs b=>hsel j oj cs b hoj) hQ hy h1;have hfree':∀k ok,ops[k]?=some ok→k≠i→(listed.setIfInBounds j true).getD k true=false →
     (∀e∈ok.after,Region.binds md e=true→e.on≠i)→oi.apart ops ok=true:=fun k ok hk hki hun hno=>by
    refine hfree k ok hk hki ?_ hno;by_cases hjk:j=k
    ·subst hjk;exact hjun
    ·rw[getD_set_ne true hjk] at hun;exact hun
   refine wpOp_mono (fun a' w' h3 => ?_) h2;have hS':(listed.setIfInBounds j true).getD z true=true∨C w':=by
    have h4:=h3.2.1;rw[Array.setIfInBounds_comm _ _ (Ne.symm hji),getD_set_ne true hiz] at h4;exact h4
   refine⟨hS',ih (listed.setIfInBounds j true) a' w' hfree' (ready_mono hr (Ne.symm hji)) h3.1 hS' ?_⟩;rw[Array.setIfInBounds_comm _ _ hji];exact h3.2.2
theorem z_load {i:Nat}{oi:Oper}{v:Value}(d:Option Tmp) {fuel:Nat}{listed:Array Bool}{a:Act}{w:World}(hi:ops[i]?=some oi) (hd:oi.dst=d)
  (hs:Region.noSelect ops=true) (hf:Region.free md ops listed i=true) (hr:(Region.ready md ops listed).contains i=true) (hk:zok md ops listed z i=true)
  (hQ:∀c a w,Q (.panic c) (a.put d v) w→Q (.panic c) a w) (hw:Region.wanted oi (yielded ops a.tmps)=true) (hy:∀w,C w→(execOp a.eval oi).run P w=.ok (.value v) w) (hS:listed.getD z true=true∨C w)
  (h:wpAnyZ P md ops Q z C fuel (listed.setIfInBounds i true) (a.put d v) w):wpAnyZ P md ops Q z C (fuel+1) listed a w:=by
 subst hd;unfold zok at hk;simp only[Bool.and_eq_true,bne_iff_ne,ne_eq,List.contains_iff_mem,List.all_eq_true,Bool.not_eq_true'] at hk;obtain⟨⟨k1,k2⟩,k3⟩:=hk;have hC:C w:=by
  rcases hS with h1 | h1
  ·rw[(k3 z k2).2] at h1;cases h1
  ·exact h1
 exact wpAnyZ_first hi (Region.noSelect_spec hs) hQ k1 k2 (fun d hd=>(k3 d hd).1) fuel listed a w (Region.free_spec hi hf) (fun d hd=>(k3 d hd).2) (by simpa using hr) (Or.inl ⟨hw,hy⟩) hC h
theorem z_take {i:Nat}{oi:Oper}{v:Value}(d:Option Tmp) {fuel:Nat}{listed:Array Bool}{a:Act}{w:World}(hi:ops[i]?=some oi) (hd:oi.dst=d)
  (hs:Region.noSelect ops=true) (hf:Region.free md ops listed i=true) (hr:(Region.ready md ops listed).contains i=true) (hiz:i≠z)
  (hQ:∀c a w,Q (.panic c) (a.put d v) w→Q (.panic c) a w) (hw:Region.wanted oi (yielded ops a.tmps)=true) (hy:∀w,(execOp a.eval oi).run P w=.ok (.value v) w) (hS:listed.getD z true=true∨C w)
  (h:wpAnyZ P md ops Q z C fuel (listed.setIfInBounds i true) (a.put d v) w):wpAnyZ P md ops Q z C (fuel+1) listed a w:=by
 subst hd;exact wpAnyZ_firstW hi (Region.noSelect_spec hs) hQ hiz fuel listed a w (Region.free_spec hi hf) (by simpa using hr) (Or.inl ⟨hw,fun w _=>hy w⟩) hS h
theorem z_one {i:Nat}{o:Oper}{fuel:Nat}{listed:Array Bool}{a:Act}{w:World}(hr:Region.ready md ops listed=[i]) (ho:ops[i]?=some o)
  (h:∀K':Act→World→Prop,Shut (∀a w,((listed.setIfInBounds i true).getD z true=true∨C w)→(((listed.setIfInBounds i true).getD z true=true∨C w)→wpAnyZ P md ops Q z C fuel (listed.setIfInBounds i true) a w)→K' a w)→if Region.wanted o (yielded ops a.tmps)=true then Oper.wp P o a w K' Q else K' (a.put o.dst undef) w) :
  wpAnyZ P md ops Q z C (fuel+1) listed a w:=by
 refine⟨fun h0=>(by rw[hr] at h0;cases h0),fun j hj => ?_⟩;rw[hr] at hj;obtain rfl:j=i:=by simpa using hj
 exact wpOp_step ho (fun K' hK=>h K' (fun a w hS hW=>hK a w ⟨hS,hW hS⟩))
theorem z_done {listed:Array Bool}{a:Act}{w:World}(hr:Region.ready md ops listed=[]) (h:Q .normal a w) :
  ∀fuel,wpAnyZ P md ops Q z C fuel listed a w
 | 0=>⟨hr,h⟩
 | _+1=>⟨fun _=>h,by rw[hr];simp⟩
theorem wp_region_z {id:Nat}{a:Act}{w:World}(hm:P.follows .mixedOrders=true) (hC:C w.drew)
  (h:(Array.replicate ops.size false).getD z true=true∨C w.drew→wpAnyZ P .any ops Q z C ops.size (Array.replicate ops.size false) a w.drew):(Code.region id ops true).wp P Q a w :=
 wp_region_any hm (wpAny_of_z _ _ _ _ (h (Or.inr hC)))
end
end
section
open Go.RowKit
open Vc (V Of)
open Pl (En Lk Br Net)
open Tk (Md Mnd Cn Sc Dn ixM ilist lst3 ilm)
structure TlC (W:World) (base K T:Nat) (pts:Nat→List Int) (ms:Nat→Nat→Mnd) (vo:Value) (vt iv:Nat→Value):Prop where
 out:W.ownsRow base 112 1 vo T (cellsL T 1 (fun k _=>vt k))
 mds:Fam W base 117 9 T vt (fun _=>K) (fun k i=>mdC (ms k i).md (iv (ixM k i 0)) (iv (ixM k i 1)) (iv (ixM k i 2)))
 ints:Fam W base 3 1 156 iv (fun a=>(ilm K T pts ms a).length) (fun a i _=>.int .i64 (IL (ilm K T pts ms a) i))
def CotW (w:World) (K T:Nat) (pts:Nat→List Int) (ms:Nat→Nat→Mnd) (e:Ending) (w':World):Prop :=
 ∃oa oc vt iv,e=.returned (.agg #[.slice oa T oc])∧TlC w' w.heap.size K T pts ms (.slice oa T oc) vt iv∧Bl w w'
theorem one_cell {w:World}{g:Nat}{a0:Value}{ty:TypeId}(h:w.heap[g]?=some (.cells #[a0] ty (0,0))):w.cell? ⟨g,0,none⟩=some a0:=cell_of_row w g 0 _ _ _ h
theorem mdC_one (m:Md) {p r c:Value}(hp:p.oneCell'=true) (hr:r.oneCell'=true) (hc:c.oneCell'=true) (x:Nat):(mdC m p r c x).oneCell'=true:=by
 unfold mdC;repeat' split
 all_goals first | rfl | exact vC_one _ _ | assumption
def iv00 (K T:Nat) (iv:Nat→Value) (a:Nat):Value:=if a<12∨T≤(a-12)/36∨K≤(a-12)%36/3 then .slice none 0 0 else iv a
theorem iv00_ix {K T k i j:Nat}(iv:Nat→Value) (hK:K≤12) (hk:k<T) (hi:i<K) (hj:j<3):iv00 K T iv (ixM k i j)=iv (ixM k i j):=by
 obtain⟨a1,a2,a3,a4⟩:=Tk.ix_parts (k:=k) (i:=i) (j:=j) (by omega) hj;unfold iv00;rw[if_neg (by omega)]
theorem crow_guard {w:World}{ao:Option Addr}{n cap k:Nat}{c:Nat→Nat→Value}(h:CRow w ao n cap k c):CRow w ao n cap k (fun i j=>if i<n then c i j else .slice none 0 0):=by
 refine⟨h.1,fun hp => ?_⟩;obtain⟨b,off,e,hb,hc⟩:=h.2 hp;refine⟨b,off,e,hb,fun i hi j hj => ?_⟩;simp only[if_pos hi];exact hc i hi j hj
theorem cells_guard (n k:Nat) (c:Nat→Nat→Value):cellsL n k (fun i j=>if i<n then c i j else .slice none 0 0)=cellsL n k c:=by
 apply cellsL_congr
 intro i hi;funext x
 simp only[if_pos hi]
theorem tcoptalk_any (K T:Nat) (pts:Nat→List Int) (ms:Nat→Nat→Mnd) (oao:Option Addr) (ocap:Nat) (vt iv:Nat→Value) (w:World) (hK:K≤12) (hT:T≤4) (hfew:∀k i j,k<T→i<K→j<3→(lst3 pts ms k i j).length≤100000) (hat:TkAt w K T pts ms oao ocap vt iv) :
  Calls Tryz.prog 104 #[.agg #[.slice oao T ocap]] w fun e w'=>CotW w K T pts ms e w':=by
 obtain⟨X,HX⟩:∃X,Hid (X=(w.alloc (.cells #[.slice oao T ocap] 34)).alloc (.cells #[.slice none 0 0] 34)):=⟨_,rfl⟩
 have hXB:Bl w X:=(by rw[HX.out];exact bA2 _ _ _)
 have hX0:X.heap[w.heap.size]?=some (.cells #[.slice oao T ocap] 34):=(by rw[HX.out];exact heap_alloc2_old _ _ _)
 have hX1:X.heap[w.heap.size+1]?=some (.cells #[.slice none 0 0] 34):=(by rw[HX.out];exact heap_alloc2_new _ _ _)
 have hXs:X.heap.size=w.heap.size+2:=(by rw[HX.out];simp only[World.alloc,Array.size_push])
 obtain⟨B,HB⟩:∃B,Hid (B=w.heap.size):=⟨_,rfl⟩
 obtain⟨Z,HZ⟩:∃Z,Hid (Z=w.heap.size+1):=⟨_,rfl⟩
 rw[←HB.out] at hX0;rw[←HZ.out] at hX1;have HBS:Hid (B<X.heap.size∧Z<X.heap.size∧w.heap.size≤B∧w.heap.size≤Z∧B≠Z):=⟨by have:=HB.out;omega,by have:=HZ.out;omega,by have:=HB.out;omega,by have:=HZ.out;omega,by have h1:=HB.out;have h2:=HZ.out;omega⟩
 have c0:=one_cell hX0;have f0:X.frozen? ⟨B,0,none⟩=false:=frozen_of_row _ _ _ _ _ hX0;have hsl:∀k,k<T→(vt k).oneCell'=true:=fun k hk=>by obtain⟨ao,cap,e,_⟩:=hat.mds k hk;rw[e];rfl
 have HCB:Hid (Calls Tryz.prog 159 #[.slice oao T ocap] X fun e w'=>∃a cp,e=.returned (.slice a T cp)∧w'.cell? ⟨B,0,none⟩=some (.slice oao T ocap)∧w'.frozen? ⟨B,0,none⟩=false∧Hid (TlP (w'.setCell ⟨B,0,none⟩ (.slice a T cp)) X.heap.size K T pts ms 0 (ixM 0 0 0) (.slice a T cp) vt (iv00 K T iv) vt (iv00 K T iv)∧(w'.setCell ⟨B,0,none⟩ (.slice a T cp)).heap[B]?=some (.cells #[.slice a T cp] 34)∧(w'.setCell ⟨B,0,none⟩ (.slice a T cp)).heap[Z]?=some (.cells #[.slice none 0 0] 34)∧Bl w (w'.setCell ⟨B,0,none⟩ (.slice a T cp))∧X.heap.size≤(w'.setCell ⟨B,0,none⟩ (.slice a T cp)).heap.size)):=by
  refine(clone_ms oao T ocap (fun k _=>if k<T then vt k else .slice none 0 0) X (by omega) (fun i j=>by
   by_cases q:i<T
   ·simp only[if_pos q];exact hsl i q
   ·simp only[if_neg q];rfl) (crow_guard (CRow.below hat.out hXB))).mono ?_
  rintro e w' ⟨v,rfl,h1,h2⟩;obtain⟨a,cp,rfl⟩:=owns_slice h1;have k0:=keep hX0 h2;have bt:Bt (fun q=>q=B) w' (w'.setCell ⟨B,0,none⟩ (.slice a T cp)):=((Bt.refl (fun q=>q=B) w').setCell (Or.inl rfl) _ _)
  refine⟨a,cp,rfl,one_cell k0,frozen_of_row _ _ _ _ _ k0,⟨?_,Fam.zero _ _ _ _ _ _ _,?_,fun _ _=>rfl,fun _ _=>rfl⟩,?_,?_,?_,?_⟩
  ·have:=owns_keep h1 (fun q hq=>bt.block q (oCb h1 q hq).2 (fun e=>by have h1':=(oCb h1 q hq).1;have h2':=HBS.out.1;omega));rw[cells_guard T 1 (fun k _=>vt k)] at this;exact this
  ·refine(Fam.zero _ _ _ _ _ _ _).nils (fun a _ ha => ?_);have ha':a<12:=(by unfold ixM at ha;omega)
   exact⟨by unfold iv00;rw[if_pos (Or.inl ha')],by rw[Tk.ilm_out pts ms (Or.inl ha')];rfl⟩
  ·rw[heap_setCell_same _ _ 0 _ _ _ k0];rfl
  ·exact bt.keep (keep hX1 h2) (fun e=>HBS.out.2.2.2.2 e.symm)
  ·have h0:Bl w w':=hXB.trans (h2.mono hXB.size);exact h0.setCell HBS.out.2.2.1 _
  ·exact Nat.le_trans h2.size bt.size
 have HFW:Hid (∀k i j,k<T→i<K→j<3→(lst3 pts ms k i j).length≤100000):=hfew;have HAT:Hid (TkAt w K T pts ms oao ocap vt iv):=hat;have hwX:w.heap.size≤X.heap.size:=hXB.size;clear hat hfew hX0 hX1 hXs hsl;go_enter Tryz.func104,Tryz.ntmps104;(go_wp2_with fail);rw[←HX.out,←HZ.out,←HB.out];refine HCB.out.mono ?_;rintro e w1 ⟨oa,oc,rfl,y0,y1,H1⟩;clear HCB c0 f0;have c2:=one_cell H1.out.2.1;(go_wp2_with fail);clear y0 y1 c2;go_loopw [13] (fun z wr=>∃k:Nat,k≤T∧z=.int .i64 k∧Hid (∃vt' iv',TlP wr X.heap.size K T pts ms k (ixM k 0 0) (.slice oa T oc) vt' iv' vt (iv00 K T iv)∧wr.heap[B]?=some (.cells #[.slice oa T oc] 34)∧wr.heap[Z]?=some (.cells #[.slice none 0 0] 34)∧Bl w wr∧X.heap.size≤wr.heap.size)) (fun z _=>T-(intOf z).toNat)
 case atStart=>exact⟨0,by omega,rfl,_,_,H1.out⟩
 case round =>
  obtain⟨k,hk,rfl,hY⟩:=hrel;clear H1;by_cases hlt:k<T
  ·obtain⟨vt',iv',hN,hBB,hZZ,hw,hsz⟩:=hY.out;obtain⟨go,ocp,osp,e,hgo,_,_,_,hho⟩:=hN.row (by omega);injection e with e1 _ e2;subst e1 e2;have c0:=one_cell hBB;have o1:=hN.old k (Nat.le_refl _);obtain⟨mao,mcap,em,hmr⟩:=HAT.out.mds k hlt;have hiv:∀i j,i<K→j<3→iv' (ixM k i j)=iv (ixM k i j):=fun i j hi hj=>by
    rw[hN.oldi _ (by unfold ixM;omega),iv00_ix iv hK hlt hi hj]
   have HCF:Hid (∀V,Bl wr V→V.cell? ⟨B,0,none⟩=some (.slice (some ⟨go,0,none⟩) T oc)∧V.cell? ⟨go,k,none⟩=some (.slice mao K mcap)∧V.frozen? ⟨go,k,none⟩=false):=fun V hV=>by
    have k0:=keep hho hV;have k1:=rowS_cell k0 hlt (show 0<1 by omega);rw[show k*1+0=k by omega,o1,em] at k1;exact⟨one_cell (keep hBB hV),k1,frozen_of_row _ _ _ _ _ k0⟩
   have HCM:Hid (∀V,Bl wr V→Calls Tryz.prog 160 #[.slice mao K mcap] V fun e w'=>∃a cp,e=.returned (.slice a K cp)∧Hid (Bl wr w')∧Hid (∃vt' iv',vt' k=.slice a K cp∧TlP (w'.setCell ⟨go,k,none⟩ (.slice a K cp)) X.heap.size K T pts ms (k+1) (ixM k 0 0) (.slice (some ⟨go,0,none⟩) T oc) vt' iv' vt (iv00 K T iv)∧(w'.setCell ⟨go,k,none⟩ (.slice a K cp)).heap[B]?=some (.cells #[.slice (some ⟨go,0,none⟩) T oc] 34)∧(w'.setCell ⟨go,k,none⟩ (.slice a K cp)).heap[Z]?=some (.cells #[.slice none 0 0] 34)∧Bl w (w'.setCell ⟨go,k,none⟩ (.slice a K cp))∧X.heap.size≤(w'.setCell ⟨go,k,none⟩ (.slice a K cp)).heap.size)):=fun V hV=>by
    refine(clone_mn mao K mcap (fun i x=>if i<K then mdC (ms k i).md (iv (ixM k i 0)) (iv (ixM k i 1)) (iv (ixM k i 2)) x else .slice none 0 0) V (by omega) (fun i j => ?_) (crow_guard (CRow.below (CRow.below hmr hw) hV))).mono ?_
    ·by_cases q:i<K
     ·simp only[if_pos q];have hone:∀j,j<3→(iv (ixM k i j)).oneCell'=true:=fun j hj=>by obtain⟨ao,cap,e,_⟩:=HAT.out.ints k i j hlt q hj;rw[e];rfl
      exact mdC_one _ (hone 0 (by omega)) (hone 1 (by omega)) (hone 2 (by omega)) _
     ·simp only[if_neg q];rfl
    rintro e w' ⟨v,rfl,h1,h2⟩;obtain⟨a,cp,rfl⟩:=owns_slice h1;rw[cells_guard K 9 (fun i=>mdC (ms k i).md (iv (ixM k i 0)) (iv (ixM k i 1)) (iv (ixM k i 2)))] at h1;have h3:Bl wr w':=hV.trans (h2.mono hV.size);have bt:Bt (fun q=>q=go) wr (w'.setCell ⟨go,k,none⟩ (.slice a K cp)):=((Bt.of (P:=fun q=>q=go) h3).setCell (Or.inl rfl) _ _)
    refine⟨a,cp,rfl,h3,upF vt' k (.slice a K cp),iv',upF_same _ _ _,hN.tree hlt rfl h3 hsz ?_,bt.keep hBB (fun e=>by subst e;exact absurd (cells_type hBB hho) (by decide)),bt.keep hZZ (fun e=>by subst e;exact absurd (cells_type hZZ hho) (by decide)),?_,Nat.le_trans hsz bt.size⟩
    ·rw[cellsL_congr K 9 _ (fun i=>mdC (ms k i).md (iv (ixM k i 0)) (iv (ixM k i 1)) (iv (ixM k i 2))) (fun i hi=>by rw[hiv i 0 hi (by omega),hiv i 1 hi (by omega),hiv i 2 hi (by omega)])];exact owns_mono h1 hV.size
    ·have hq:w.heap.size≤go:=Nat.le_trans hwX hgo;exact hw.trans (bt.below hw.size (fun q hq' e=>by omega))
   have HB0:Hid (∀m,Bl wr (wr.drewN m)):=fun m=>below_drewN (Below.refl _ _) m;have HB1:Hid (Bl wr wr.drew):=Below.drew (Below.refl _ _);obtain⟨x1,x2,x3⟩:=HCF.out wr (Below.refl _ _);have ik:(0:Int)≤(k:Int):=(by omega)
   have nk:(k:Int)<(T:Int):=(by omega)
   clear hY hN hBB hZZ hho o1 em hmr hiv c0 hgo hw;(go_wp2_with fail);go_cut [3] (fun s3 wx=>s3=.int .i64 k∧∃ma mc,Hid (∃vt' iv',vt' k=.slice ma K mc∧TlP wx X.heap.size K T pts ms (k+1) (ixM k 0 0) (.slice (some ⟨go,0,none⟩) T oc) vt' iv' vt (iv00 K T iv)∧wx.heap[B]?=some (.cells #[.slice (some ⟨go,0,none⟩) T oc] 34)∧wx.heap[Z]?=some (.cells #[.slice none 0 0] 34)∧Bl w wx∧X.heap.size≤wx.heap.size))
   case first =>
    go_region_with (go_at_call 160;refine(HCM.out _ (by first | exact HB0.out _ | exact HB1.out)).mono ?_;rintro e w2 ⟨a1,p1,rfl,HQ,H2⟩;obtain⟨y1,y2,y3⟩:=HCF.out w2 HQ.out)
    (all_goals go_wp2_with fail);all_goals go_meet
    all_goals exact⟨rfl,a1,p1,H2⟩
   case rest =>
   obtain⟨rfl,ma,mc,HC⟩:=hcut;clear HCF HCM HB0 HB1 x1 x2 x3;obtain⟨vt2,iv2,em2,hN2,hBB2,hZZ2,hw2,hsz2⟩:=HC.out;have c0:=one_cell hBB2;have c1:wc.cell? ⟨go,k,none⟩=some (.slice ma K mc):=by
    obtain⟨go',ocp',osp',e,hgo',_,_,_,hho'⟩:=hN2.row (by omega);injection e with e1;injection e1 with e2;injection e2 with e3;subst e3;have k1:=rowS_cell hho' hlt (show 0<1 by omega);rw[show k*1+0=k by omega,em2] at k1;exact k1
   have HST:Hid (∃iv',TlP wc X.heap.size K T pts ms (k+1) (ixM k 0 0) (.slice (some ⟨go,0,none⟩) T oc) vt2 iv' vt (iv00 K T iv)∧wc.heap[B]?=some (.cells #[.slice (some ⟨go,0,none⟩) T oc] 34)∧wc.heap[Z]?=some (.cells #[.slice none 0 0] 34)∧Bl w wc∧X.heap.size≤wc.heap.size):=⟨iv2,hN2,hBB2,hZZ2,hw2,hsz2⟩
   have HEM:Hid (vt2 k=.slice ma K mc):=em2;clear HC hN2 hBB2 hZZ2 hw2 hsz2 em2;(go_wp2_with fail);clear c0 c1;go_loopw [32] (fun z wr=>∃i:Nat,i≤K∧z=.int .i64 i∧Hid (∃iv',TlP wr X.heap.size K T pts ms (k+1) (ixM k i 0) (.slice (some ⟨go,0,none⟩) T oc) vt2 iv' vt (iv00 K T iv)∧wr.heap[B]?=some (.cells #[.slice (some ⟨go,0,none⟩) T oc] 34)∧wr.heap[Z]?=some (.cells #[.slice none 0 0] 34)∧Bl w wr∧X.heap.size≤wr.heap.size)) (fun z _=>K-(intOf z).toNat)
   case atStart=>exact⟨0,by omega,rfl,HST⟩
   case round =>
    obtain⟨i,hi,rfl,hZ⟩:=hrel;clear HST;by_cases hli:i<K
    ·obtain⟨iv',hN,hBB,hZZ,hw,hsz⟩:=hZ.out;obtain⟨gm,mcp,msp,e,hgm,_,_,_,hhm⟩:=hN.mrow (Nat.lt_succ_self k) (by omega);rw[HEM.out] at e;injection e with e1 _ e2;subst e1 e2;obtain⟨go',ocp',osp',e,_,_,_,_,hho⟩:=hN.row (by omega);injection e with e1 _ e5;injection e1 with e2;injection e2 with e3;subst e3 e5;have c0:=one_cell hBB;have c1:wr.cell? ⟨go,k,none⟩=some (.slice (some ⟨gm,0,none⟩) K mc):=by
      have k1:=rowS_cell hho hlt (show 0<1 by omega);rw[show k*1+0=k by omega,HEM.out] at k1;exact k1
     have hiv:∀j,j<3→iv' (ixM k i j)=iv (ixM k i j):=fun j hj=>by
      rw[hN.oldi _ (by unfold ixM;omega),iv00_ix iv hK hlt hli hj]
     obtain⟨pa,pc,ep,hpr⟩:=HAT.out.ints k i 0 hlt hli (by omega);obtain⟨ra,rc,er,hrr⟩:=HAT.out.ints k i 1 hlt hli (by omega);obtain⟨ca,cc,ec,hcr⟩:=HAT.out.ints k i 2 hlt hli (by omega);have HCF:Hid (∀V,Bl wr V→V.cell? ⟨gm,i*9+6,none⟩=some (.slice pa (lst3 pts ms k i 0).length pc)∧V.cell? ⟨gm,i*9+7,none⟩=some (.slice ra (lst3 pts ms k i 1).length rc)∧V.cell? ⟨gm,i*9+8,none⟩=some (.slice ca (lst3 pts ms k i 2).length cc)∧V.frozen? ⟨gm,i*9+6,none⟩=false∧V.frozen? ⟨gm,i*9+7,none⟩=false∧V.frozen? ⟨gm,i*9+8,none⟩=false):=fun V hV=>by
      have k0:=keep hhm hV;have fz:∀o,V.frozen? ⟨gm,o,none⟩=false:=fun o=>frozen_of_row _ _ _ _ _ k0;refine⟨?_,?_,?_,fz _,fz _,fz _⟩
      ·rw[←ep,←hiv 0 (by omega)];exact rowS_cell k0 hli (show 6<9 by omega)
      ·rw[←er,←hiv 1 (by omega)];exact rowS_cell k0 hli (show 7<9 by omega)
      ·rw[←ec,←hiv 2 (by omega)];exact rowS_cell k0 hli (show 8<9 by omega)
     have HCI:Hid (∀V j ao cap,j<3→Bl wr V→IRow w ao (lst3 pts ms k i j).length cap (IL (lst3 pts ms k i j))→Calls Tryz.prog 157 #[.slice ao (lst3 pts ms k i j).length cap] V fun e w'=>∃a cp,e=.returned (.slice a (lst3 pts ms k i j).length cp)∧Hid (w'.ownsRow V.heap.size 3 1 (.slice a (lst3 pts ms k i j).length cp) (lst3 pts ms k i j).length (cellsL (lst3 pts ms k i j).length 1 (fun y _=>.int .i64 (IL (lst3 pts ms k i j) y)))∧Bl V w'∧Bl wr w')):=fun V j ao cap hj hV hr=>by
      refine(clone_int ao (lst3 pts ms k i j).length cap (fun y _=>.int .i64 (IL (lst3 pts ms k i j) y)) V (HFW.out k i j hlt hli hj) (fun _ _=>rfl) (CRow.below (CRow.below hr hw) hV)).mono ?_;rintro e w' ⟨v,rfl,h1,h2⟩;obtain⟨a,cp,rfl⟩:=owns_slice h1;exact⟨a,cp,rfl,h1,h2,hV.trans (h2.mono hV.size)⟩
     have HC0:Hid (∀V,Bl wr V→Calls Tryz.prog 157 #[.slice pa (lst3 pts ms k i 0).length pc] V fun e w'=>∃a cp,e=.returned (.slice a (lst3 pts ms k i 0).length cp)∧Hid (w'.ownsRow V.heap.size 3 1 (.slice a (lst3 pts ms k i 0).length cp) (lst3 pts ms k i 0).length (cellsL (lst3 pts ms k i 0).length 1 (fun y _=>.int .i64 (IL (lst3 pts ms k i 0) y)))∧Bl V w'∧Bl wr w')):=fun V hV=>HCI.out V 0 pa pc (by omega) hV hpr;have HC1:Hid (∀V,Bl wr V→Calls Tryz.prog 157 #[.slice ra (lst3 pts ms k i 1).length rc] V fun e w'=>∃a cp,e=.returned (.slice a (lst3 pts ms k i 1).length cp)∧Hid (w'.ownsRow V.heap.size 3 1 (.slice a (lst3 pts ms k i 1).length cp) (lst3 pts ms k i 1).length (cellsL (lst3 pts ms k i 1).length 1 (fun y _=>.int .i64 (IL (lst3 pts ms k i 1) y)))∧Bl V w'∧Bl wr w')):=fun V hV=>HCI.out V 1 ra rc (by omega) hV hrr;have HC2:Hid (∀V,Bl wr V→Calls Tryz.prog 157 #[.slice ca (lst3 pts ms k i 2).length cc] V fun e w'=>∃a cp,e=.returned (.slice a (lst3 pts ms k i 2).length cp)∧Hid (w'.ownsRow V.heap.size 3 1 (.slice a (lst3 pts ms k i 2).length cp) (lst3 pts ms k i 2).length (cellsL (lst3 pts ms k i 2).length 1 (fun y _=>.int .i64 (IL (lst3 pts ms k i 2) y)))∧Bl V w'∧Bl wr w')):=fun V hV=>HCI.out V 2 ca cc (by omega) hV hcr;have HNX:Hid (∀W1 W2 W3 v1 v2 v3,Bl wr W1→Bl W1 W2→Bl W2 W3→W1.ownsRow wr.heap.size 3 1 v1 (lst3 pts ms k i 0).length (cellsL (lst3 pts ms k i 0).length 1 (fun y _=>.int .i64 (IL (lst3 pts ms k i 0) y)))→W2.ownsRow W1.heap.size 3 1 v2 (lst3 pts ms k i 1).length (cellsL (lst3 pts ms k i 1).length 1 (fun y _=>.int .i64 (IL (lst3 pts ms k i 1) y)))→W3.ownsRow W2.heap.size 3 1 v3 (lst3 pts ms k i 2).length (cellsL (lst3 pts ms k i 2).length 1 (fun y _=>.int .i64 (IL (lst3 pts ms k i 2) y))) →
       ∃iv',TlP (((W3.setCell ⟨gm,i*9+6,none⟩ v1).setCell ⟨gm,i*9+7,none⟩ v2).setCell ⟨gm,i*9+8,none⟩ v3) X.heap.size K T pts ms (k+1) (ixM k (i+1) 0) (.slice (some ⟨go,0,none⟩) T oc) vt2 iv' vt (iv00 K T iv)∧(((W3.setCell ⟨gm,i*9+6,none⟩ v1).setCell ⟨gm,i*9+7,none⟩ v2).setCell ⟨gm,i*9+8,none⟩ v3).heap[B]?=some (.cells #[.slice (some ⟨go,0,none⟩) T oc] 34)∧(((W3.setCell ⟨gm,i*9+6,none⟩ v1).setCell ⟨gm,i*9+7,none⟩ v2).setCell ⟨gm,i*9+8,none⟩ v3).heap[Z]?=some (.cells #[.slice none 0 0] 34)∧Bl w (((W3.setCell ⟨gm,i*9+6,none⟩ v1).setCell ⟨gm,i*9+7,none⟩ v2).setCell ⟨gm,i*9+8,none⟩ v3)∧X.heap.size≤(((W3.setCell ⟨gm,i*9+6,none⟩ v1).setCell ⟨gm,i*9+7,none⟩ v2).setCell ⟨gm,i*9+8,none⟩ v3).heap.size):=fun W1 W2 W3 v1 v2 v3 hb1 hb2 hb3 h1 h2 h3=>by
      have hb:Bl wr W3:=hb1.trans ((hb2.mono hb1.size).trans (hb3.mono (Nat.le_trans hb1.size hb2.size)));have bt:Bt (fun q=>q=gm) wr (((W3.setCell ⟨gm,i*9+6,none⟩ v1).setCell ⟨gm,i*9+7,none⟩ v2).setCell ⟨gm,i*9+8,none⟩ v3):=((((Bt.of (P:=fun q=>q=gm) hb).setCell (Or.inl rfl) _ _).setCell (Or.inl rfl) _ _).setCell (Or.inl rfl) _ _)
      refine⟨_,hN.mind hlt hli hK HEM.out hb1 hb2 hb3 hsz h1 h2 h3,bt.keep hBB (fun e=>by subst e;exact absurd (cells_type hBB hhm) (by decide)),bt.keep hZZ (fun e=>by subst e;exact absurd (cells_type hZZ hhm) (by decide)),?_,Nat.le_trans hsz bt.size⟩;have hq:w.heap.size≤gm:=Nat.le_trans hwX hgm;exact hw.trans (bt.below hw.size (fun q hq' e=>by omega))
     have HB0:Hid (∀m,Bl wr (wr.drewN m)):=fun m=>below_drewN (Below.refl _ _) m;have HB1:Hid (Bl wr wr.drew):=Below.drew (Below.refl _ _);obtain⟨x1,x2,x3,_,_,_⟩:=HCF.out wr (Below.refl _ _);have ik:(0:Int)≤(k:Int):=(by omega)
     have nk:(k:Int)<(T:Int):=(by omega)
     have ii:(0:Int)≤(i:Int):=(by omega)
     have ni:(i:Int)<(K:Int):=(by omega)
     clear hZ hN hBB hZZ hhm hho hpr hrr hcr hiv hw hgm ep er ec HCI HAT HFW HEM;generalize (lst3 pts ms k i 0).length=n0 at *;generalize (lst3 pts ms k i 1).length=n1 at *;generalize (lst3 pts ms k i 2).length=n2 at *;(go_wp2_with fail);clear c0 c1 ik nk ii ni;refine wp_region_z (z:=20) (C:=fun W=>W.cell? ⟨gm,i*9+6,none⟩=some (.slice pa n0 pc)∧W.cell? ⟨gm,i*9+7,none⟩=some (.slice ra n1 rc)∧W.cell? ⟨gm,i*9+8,none⟩=some (.slice ca n2 cc)) (by kernel_rfl) ⟨x1,x2,x3⟩ (fun hHeld => ?_);refine z_take (i:=0) (v := ?_) (some 42) rfl rfl (by kernel_rfl) (by kernel_rfl) (by kernel_rfl) (by decide) (fun _ _ _ h=>h) (by rfl) ?_ hHeld ?_;rotate_left 1
     ·(intro wq;go_simp;try with_reducible rfl)
     simp only[Act.put,lsA,lsZ,lsS];refine z_take (i:=1) (v := ?_) (some 43) rfl rfl (by kernel_rfl) (by kernel_rfl) (by kernel_rfl) (by decide) (fun _ _ _ h=>h) (by rfl) ?_ hHeld ?_;rotate_left 1
     ·(intro wq;go_simp;try with_reducible rfl)
     simp only[Act.put,lsA,lsZ,lsS];refine z_take (i:=2) (v := ?_) (some 44) rfl rfl (by kernel_rfl) (by kernel_rfl) (by kernel_rfl) (by decide) (fun _ _ _ h=>h) (by rfl) ?_ hHeld ?_;rotate_left 1
     ·(intro wq;go_simp;try with_reducible rfl)
     simp only[Act.put,lsA,lsZ,lsS];refine z_take (i:=3) (v := ?_) (some 45) rfl rfl (by kernel_rfl) (by kernel_rfl) (by kernel_rfl) (by decide) (fun _ _ _ h=>h) (by rfl) ?_ hHeld ?_;rotate_left 1
     ·(intro wq;go_simp;try with_reducible rfl)
     simp only[Act.put,lsA,lsZ,lsS];refine z_take (i:=4) (v := ?_) (some 46) rfl rfl (by kernel_rfl) (by kernel_rfl) (by kernel_rfl) (by decide) (fun _ _ _ h=>h) (by rfl) ?_ hHeld ?_;rotate_left 1
     ·(intro wq;go_simp;try with_reducible rfl)
     simp only[Act.put,lsA,lsZ,lsS];refine z_take (i:=5) (v := ?_) (some 47) rfl rfl (by kernel_rfl) (by kernel_rfl) (by kernel_rfl) (by decide) (fun _ _ _ h=>h) (by rfl) ?_ hHeld ?_;rotate_left 1
     ·(intro wq;go_simp;try with_reducible rfl)
     simp only[Act.put,lsA,lsZ,lsS];refine z_load (i:=6) (v := ?_) (some 48) rfl rfl (by kernel_rfl) (by kernel_rfl) (by kernel_rfl) (by kernel_rfl) (fun _ _ _ h=>h) (by rfl) ?_ hHeld ?_;rotate_left 1
     ·(intro wq hSw;go_simp;try with_reducible rfl)
     simp only[Act.put,lsA,lsZ,lsS];refine z_take (i:=8) (v := ?_) (some 50) rfl rfl (by kernel_rfl) (by kernel_rfl) (by kernel_rfl) (by decide) (fun _ _ _ h=>h) (by rfl) ?_ hHeld ?_;rotate_left 1
     ·(intro wq;go_simp;try with_reducible rfl)
     simp only[Act.put,lsA,lsZ,lsS];refine z_take (i:=9) (v := ?_) (some 51) rfl rfl (by kernel_rfl) (by kernel_rfl) (by kernel_rfl) (by decide) (fun _ _ _ h=>h) (by rfl) ?_ hHeld ?_;rotate_left 1
     ·(intro wq;go_simp;try with_reducible rfl)
     simp only[Act.put,lsA,lsZ,lsS];refine z_take (i:=10) (v := ?_) (some 52) rfl rfl (by kernel_rfl) (by kernel_rfl) (by kernel_rfl) (by decide) (fun _ _ _ h=>h) (by rfl) ?_ hHeld ?_;rotate_left 1
     ·(intro wq;go_simp;try with_reducible rfl)
     simp only[Act.put,lsA,lsZ,lsS];refine z_load (i:=11) (v := ?_) (some 53) rfl rfl (by kernel_rfl) (by kernel_rfl) (by kernel_rfl) (by kernel_rfl) (fun _ _ _ h=>h) (by rfl) ?_ hHeld ?_;rotate_left 1
     ·(intro wq hSw;go_simp;try with_reducible rfl)
     simp only[Act.put,lsA,lsZ,lsS];refine z_take (i:=13) (v := ?_) (some 55) rfl rfl (by kernel_rfl) (by kernel_rfl) (by kernel_rfl) (by decide) (fun _ _ _ h=>h) (by rfl) ?_ hHeld ?_;rotate_left 1
     ·(intro wq;go_simp;try with_reducible rfl)
     simp only[Act.put,lsA,lsZ,lsS];refine z_take (i:=14) (v := ?_) (some 56) rfl rfl (by kernel_rfl) (by kernel_rfl) (by kernel_rfl) (by decide) (fun _ _ _ h=>h) (by rfl) ?_ hHeld ?_;rotate_left 1
     ·(intro wq;go_simp;try with_reducible rfl)
     simp only[Act.put,lsA,lsZ,lsS];refine z_take (i:=15) (v := ?_) (some 57) rfl rfl (by kernel_rfl) (by kernel_rfl) (by kernel_rfl) (by decide) (fun _ _ _ h=>h) (by rfl) ?_ hHeld ?_;rotate_left 1
     ·(intro wq;go_simp;try with_reducible rfl)
     simp only[Act.put,lsA,lsZ,lsS];refine z_load (i:=16) (v := ?_) (some 58) rfl rfl (by kernel_rfl) (by kernel_rfl) (by kernel_rfl) (by kernel_rfl) (fun _ _ _ h=>h) (by rfl) ?_ hHeld ?_;rotate_left 1
     ·(intro wq hSw;go_simp;try with_reducible rfl)
     simp only[Act.put,lsA,lsZ,lsS];refine z_one (i:=7) (by kernel_rfl) rfl (fun K hK => ?_);go_simp;(with_reducible refine(HC0.out _ HB1.out).mono ?_)
     rintro e w3 ⟨a1,p1,rfl,H1⟩;refine hK.out _ _ (Or.inr ⟨(HCF.out w3 H1.out.2.2).1,(HCF.out w3 H1.out.2.2).2.1,(HCF.out w3 H1.out.2.2).2.2.1⟩) (fun hHeld => ?_);clear hK K;refine z_one (i:=12) (by kernel_rfl) rfl (fun K hK => ?_);go_simp;(with_reducible refine(HC1.out _ H1.out.2.2).mono ?_)
     rintro e w4 ⟨a2,p2,rfl,H2⟩;refine hK.out _ _ (Or.inr ⟨(HCF.out w4 H2.out.2.2).1,(HCF.out w4 H2.out.2.2).2.1,(HCF.out w4 H2.out.2.2).2.2.1⟩) (fun hHeld => ?_);clear hK K;refine z_one (i:=17) (by kernel_rfl) rfl (fun K hK => ?_);go_simp;(with_reducible refine(HC2.out _ H2.out.2.2).mono ?_)
     rintro e w5 ⟨a3,p3,rfl,H3⟩;refine hK.out _ _ (Or.inr ⟨(HCF.out w5 H3.out.2.2).1,(HCF.out w5 H3.out.2.2).2.1,(HCF.out w5 H3.out.2.2).2.2.1⟩) (fun hHeld => ?_);clear hK K;refine z_take (i:=18) (v := ?_) (some 60) rfl rfl (by kernel_rfl) (by kernel_rfl) (by kernel_rfl) (by decide) (fun _ _ _ h=>h) (by rfl) ?_ hHeld ?_;rotate_left 1
     ·(intro wq;go_simp;try with_reducible rfl)
     simp only[Act.put,lsA,lsZ,lsS];refine z_take (i:=19) (v := ?_) (some 61) rfl rfl (by kernel_rfl) (by kernel_rfl) (by kernel_rfl) (by decide) (fun _ _ _ h=>h) (by rfl) ?_ hHeld ?_;rotate_left 1
     ·(intro wq;go_simp;try with_reducible rfl)
     simp only[Act.put,lsA,lsZ,lsS];refine z_one (i:=20) (by kernel_rfl) rfl (fun K hK => ?_);obtain⟨u1,u2,u3,u4,u5,u6⟩:=HCF.out w5 H3.out.2.2;go_simp;refine hK.out _ _ (Or.inl (by kernel_rfl)) (fun hHeld => ?_);clear hK K;refine z_take (i:=21) (v := ?_) (some 62) rfl rfl (by kernel_rfl) (by kernel_rfl) (by kernel_rfl) (by decide) (fun _ _ _ h=>h) (by rfl) ?_ hHeld ?_;rotate_left 1
     ·(intro wq;go_simp;try with_reducible rfl)
     simp only[Act.put,lsA,lsZ,lsS];refine z_take (i:=22) (v := ?_) (some 63) rfl rfl (by kernel_rfl) (by kernel_rfl) (by kernel_rfl) (by decide) (fun _ _ _ h=>h) (by rfl) ?_ hHeld ?_;rotate_left 1
     ·(intro wq;go_simp;try with_reducible rfl)
     simp only[Act.put,lsA,lsZ,lsS];refine z_one (i:=23) (by kernel_rfl) rfl (fun K hK => ?_);go_simp;refine hK.out _ _ (Or.inl (by kernel_rfl)) (fun hHeld => ?_);clear hK K;refine z_take (i:=24) (v := ?_) (some 64) rfl rfl (by kernel_rfl) (by kernel_rfl) (by kernel_rfl) (by decide) (fun _ _ _ h=>h) (by rfl) ?_ hHeld ?_;rotate_left 1
     ·(intro wq;go_simp;try with_reducible rfl)
     simp only[Act.put,lsA,lsZ,lsS];refine z_take (i:=25) (v := ?_) (some 65) rfl rfl (by kernel_rfl) (by kernel_rfl) (by kernel_rfl) (by decide) (fun _ _ _ h=>h) (by rfl) ?_ hHeld ?_;rotate_left 1
     ·(intro wq;go_simp;try with_reducible rfl)
     simp only[Act.put,lsA,lsZ,lsS];refine z_one (i:=26) (by kernel_rfl) rfl (fun K hK => ?_);go_simp;refine hK.out _ _ (Or.inl (by kernel_rfl)) (fun hHeld => ?_);clear hK K;refine z_done (by kernel_rfl) ?_ _;(go_wp2_with fail);exact⟨⟨i+1,by omega,by go_num,HNX.out _ _ _ _ _ _ H1.out.2.2 H2.out.2.1 H3.out.2.1 (owns_mono H1.out.1 (below_drewN (Below.refl wr.heap.size wr) 1).size) H2.out.1 H3.out.1⟩,by simp[intOf];omega⟩
    ·obtain rfl:i=K:=by omega
     have HN:Hid (∃vt' iv',TlP wr X.heap.size i T pts ms (k+1) (ixM (k+1) 0 0) (.slice (some ⟨go,0,none⟩) T oc) vt' iv' vt (iv00 i T iv)∧wr.heap[B]?=some (.cells #[.slice (some ⟨go,0,none⟩) T oc] 34)∧wr.heap[Z]?=some (.cells #[.slice none 0 0] 34)∧Bl w wr∧X.heap.size≤wr.heap.size):=by
      obtain⟨iv',hN,h2⟩:=hZ.out;exact⟨vt2,iv',hN.next hK (fun a ha=>by unfold iv00;rw[if_pos (Or.inr (Or.inr ha))]),h2⟩
     clear hZ;(go_wp2_with fail);exact⟨⟨k+1,by omega,by go_num,HN⟩,by simp[intOf];omega⟩
  ·obtain rfl:k=T:=by omega
   obtain⟨vt',iv',hN,hBB,hZZ,hw,hsz⟩:=hY.out;have c0:=one_cell hBB;have d0:=one_cell hZZ;have g0:wr.frozen? ⟨Z,0,none⟩=false:=frozen_of_row _ _ _ _ _ hZZ;have HFN:Hid ((wr.setCell ⟨Z,0,none⟩ (.slice oa k oc)).heap[Z]?=some (.cells #[.slice oa k oc] 34)∧CotW w K k pts ms (.returned (.agg #[.slice oa k oc])) (wr.setCell ⟨Z,0,none⟩ (.slice oa k oc))):=by
    have hq:w.heap.size≤Z:=HBS.out.2.2.2.1;have bt:Bt (fun q=>q=Z) wr (wr.setCell ⟨Z,0,none⟩ (.slice oa k oc)):=((Bt.refl (fun q=>q=Z) wr).setCell (Or.inl rfl) _ _)
    have ne:∀{q:Nat},X.heap.size≤q→¬q=Z:=fun hq e=>by have:=HBS.out.2.1;omega
    refine⟨?_,oa,oc,vt',iv',rfl,⟨?_,?_,?_⟩,hw.setCell hq _⟩
    ·rw[heap_setCell_same _ _ 0 _ _ _ hZZ];rfl
    ·exact owns_mono (owns_keep hN.out (fun q hq=>bt.block q (oCb hN.out q hq).2 (ne (oCb hN.out q hq).1))) hwX
    ·have:=hN.mds.bt bt (fun a ha q hq=>ne (oCb (hN.mds.own a ha) q hq).1);exact⟨fun a ha=>owns_mono (this.own a ha) hwX,this.one⟩
    ·have h0:=hN.ints.bt bt (fun a ha q hq=>ne (oCb (hN.ints.own a ha) q hq).1);have:=h0.nils (T':=156) (fun a h1 h2=>by
      have hq:k≤(a-12)/36:=(by unfold ixM at h1;omega)
      exact⟨(hN.oldi a h1).trans (by unfold iv00;rw[if_pos (Or.inr (Or.inl hq))]),by rw[Tk.ilm_out pts ms (Or.inr (Or.inl (by omega)))];rfl⟩)
     exact⟨fun a ha=>owns_mono (this.own a ha) hwX,this.one⟩
   clear hY hN hBB hZZ hw;(go_wp2_with fail);exact bodyPost_ret (v:=.agg #[.slice oa k oc]) (results_row (p:=2) (ty:=34) Tryz.results104 _ _ Z 34 #[.slice oa k oc] (0,0) _ rfl HFN.out.1 Tryz.underlying34 rfl (by kernel_rfl)) rfl HFN.out.2
end
end Go.Proofs.YtelebnancdjjiaaGreatDoor
