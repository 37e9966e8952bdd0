/- walks: package talk's newScene; a net and a talk as a scene -/
import Derived.Test.YtaneiffnhphkhaaGreatDoorD19
set_option maxRecDepth 100000
set_option maxHeartbeats 40000000
namespace Go.Proofs.YtaneiffnhphkhaaGreatDoor
section
open Go.RowKit
open Vc (V Of)
open Pl (En Lk Br Net)
open Tk (Md Mnd Cn Sc Dn ixM ilist lst3 ilm)
structure TlC (W:World) (base K T:Nat) (pts:Nat→List Int) (ms:Nat→Nat→Mnd) (vo:Value) (vt iv:Nat→Value):Prop where
 out:W.ownsRow base 64 1 vo T (cellsL T 1 (fun k _=>vt k))
 mds:Fam W base 66 9 T vt (fun _=>K) (fun k i=>mdC (ms k i).md (iv (ixM k i 0)) (iv (ixM k i 1)) (iv (ixM k i 2)))
 ints:Fam W base 3 1 156 iv (fun a=>(ilm K T pts ms a).length) (fun a i _=>.int .i64 (IL (ilm K T pts ms a) i))
def CotW (w:World) (K T:Nat) (pts:Nat→List Int) (ms:Nat→Nat→Mnd) (e:Ending) (w':World):Prop :=
 ∃oa oc vt iv,e=.returned (.agg #[.slice oa T oc])∧TlC w' w.heap.size K T pts ms (.slice oa T oc) vt iv∧Bl w w'
theorem one_cell {w:World}{g:Nat}{a0:Value}{ty:TypeId}(h:w.heap[g]?=some (.cells #[a0] ty (0,0))):w.cell? ⟨g,0,none⟩=some a0:=cell_of_row w g 0 _ _ _ h
theorem mdC_one (m:Md) {p r c:Value}(hp:p.oneCell'=true) (hr:r.oneCell'=true) (hc:c.oneCell'=true) (x:Nat):(mdC m p r c x).oneCell'=true:=by
 unfold mdC;repeat' split
 all_goals first | rfl | exact vC_one _ _ | assumption
def iv00 (K T:Nat) (iv:Nat→Value) (a:Nat):Value:=if a<12∨T≤(a-12)/36∨K≤(a-12)%36/3 then .slice none 0 0 else iv a
theorem iv00_ix {K T k i j:Nat}(iv:Nat→Value) (hK:K≤12) (hk:k<T) (hi:i<K) (hj:j<3):iv00 K T iv (ixM k i j)=iv (ixM k i j):=by
 obtain⟨a1,a2,a3,a4⟩:=Tk.ix_parts (k:=k) (i:=i) (j:=j) (by omega) hj;unfold iv00;rw[if_neg (by omega)]
theorem crow_guard {w:World}{ao:Option Addr}{n cap k:Nat}{c:Nat→Nat→Value}(h:CRow w ao n cap k c):CRow w ao n cap k (fun i j=>if i<n then c i j else .slice none 0 0):=by
 refine⟨h.1,fun hp => ?_⟩;obtain⟨b,off,e,hb,hc⟩:=h.2 hp;refine⟨b,off,e,hb,fun i hi j hj => ?_⟩;simp only[if_pos hi];exact hc i hi j hj
theorem cells_guard (n k:Nat) (c:Nat→Nat→Value):cellsL n k (fun i j=>if i<n then c i j else .slice none 0 0)=cellsL n k c:=by
 apply cellsL_congr
 intro i hi;funext x
 simp only[if_pos hi]
theorem tcoptalk_any (K T:Nat) (pts:Nat→List Int) (ms:Nat→Nat→Mnd) (oao:Option Addr) (ocap:Nat) (vt iv:Nat→Value) (w:World) (hK:K≤12) (hT:T≤4) (hfew:∀k i j,k<T→i<K→j<3→(lst3 pts ms k i j).length≤100000) (hat:TkAt w K T pts ms oao ocap vt iv) :
  Calls Tryz.prog 62 #[.agg #[.slice oao T ocap]] w fun e w'=>CotW w K T pts ms e w':=by
 obtain⟨X,HX⟩:∃X,Hid (X=(w.alloc (.cells #[.slice oao T ocap] 29)).alloc (.cells #[.slice none 0 0] 29)):=⟨_,rfl⟩
 have hXB:Bl w X:=(by rw[HX.out];exact bA2 _ _ _)
 have hX0:X.heap[w.heap.size]?=some (.cells #[.slice oao T ocap] 29):=(by rw[HX.out];exact heap_alloc2_old _ _ _)
 have hX1:X.heap[w.heap.size+1]?=some (.cells #[.slice none 0 0] 29):=(by rw[HX.out];exact heap_alloc2_new _ _ _)
 have hXs:X.heap.size=w.heap.size+2:=(by rw[HX.out];simp only[World.alloc,Array.size_push])
 obtain⟨B,HB⟩:∃B,Hid (B=w.heap.size):=⟨_,rfl⟩
 obtain⟨Z,HZ⟩:∃Z,Hid (Z=w.heap.size+1):=⟨_,rfl⟩
 rw[←HB.out] at hX0;rw[←HZ.out] at hX1;have HBS:Hid (B<X.heap.size∧Z<X.heap.size∧w.heap.size≤B∧w.heap.size≤Z∧B≠Z):=⟨by have:=HB.out;omega,by have:=HZ.out;omega,by have:=HB.out;omega,by have:=HZ.out;omega,by have h1:=HB.out;have h2:=HZ.out;omega⟩
 have c0:=one_cell hX0;have f0:X.frozen? ⟨B,0,none⟩=false:=frozen_of_row _ _ _ _ _ hX0;have hsl:∀k,k<T→(vt k).oneCell'=true:=fun k hk=>by obtain⟨ao,cap,e,_⟩:=hat.mds k hk;rw[e];rfl
 have HCB:Hid (Calls Tryz.prog 100 #[.slice oao T ocap] X fun e w'=>∃a cp,e=.returned (.slice a T cp)∧w'.cell? ⟨B,0,none⟩=some (.slice oao T ocap)∧w'.frozen? ⟨B,0,none⟩=false∧Hid (TlP (w'.setCell ⟨B,0,none⟩ (.slice a T cp)) X.heap.size K T pts ms 0 (ixM 0 0 0) (.slice a T cp) vt (iv00 K T iv) vt (iv00 K T iv)∧(w'.setCell ⟨B,0,none⟩ (.slice a T cp)).heap[B]?=some (.cells #[.slice a T cp] 29)∧(w'.setCell ⟨B,0,none⟩ (.slice a T cp)).heap[Z]?=some (.cells #[.slice none 0 0] 29)∧Bl w (w'.setCell ⟨B,0,none⟩ (.slice a T cp))∧X.heap.size≤(w'.setCell ⟨B,0,none⟩ (.slice a T cp)).heap.size)):=by
  refine(clone_ms oao T ocap (fun k _=>if k<T then vt k else .slice none 0 0) X (by omega) (fun i j=>by
   by_cases q:i<T
   ·simp only[if_pos q];exact hsl i q
   ·simp only[if_neg q];rfl) (crow_guard (CRow.below hat.out hXB))).mono ?_
  rintro e w' ⟨v,rfl,h1,h2⟩;obtain⟨a,cp,rfl⟩:=owns_slice h1;have k0:=keep hX0 h2;have bt:Bt (fun q=>q=B) w' (w'.setCell ⟨B,0,none⟩ (.slice a T cp)):=((Bt.refl (fun q=>q=B) w').setCell (Or.inl rfl) _ _)
  refine⟨a,cp,rfl,one_cell k0,frozen_of_row _ _ _ _ _ k0,⟨?_,Fam.zero _ _ _ _ _ _ _,?_,fun _ _=>rfl,fun _ _=>rfl⟩,?_,?_,?_,?_⟩
  ·have:=owns_keep h1 (fun q hq=>bt.block q (oCb h1 q hq).2 (fun e=>by have h1':=(oCb h1 q hq).1;have h2':=HBS.out.1;omega));rw[cells_guard T 1 (fun k _=>vt k)] at this;exact this
  ·refine(Fam.zero _ _ _ _ _ _ _).nils (fun a _ ha => ?_);have ha':a<12:=(by unfold ixM at ha;omega)
   exact⟨by unfold iv00;rw[if_pos (Or.inl ha')],by rw[Tk.ilm_out pts ms (Or.inl ha')];rfl⟩
  ·rw[heap_setCell_same _ _ 0 _ _ _ k0];rfl
  ·exact bt.keep (keep hX1 h2) (fun e=>HBS.out.2.2.2.2 e.symm)
  ·have h0:Bl w w':=hXB.trans (h2.mono hXB.size);exact h0.setCell HBS.out.2.2.1 _
  ·exact Nat.le_trans h2.size bt.size
 have HFW:Hid (∀k i j,k<T→i<K→j<3→(lst3 pts ms k i j).length≤100000):=hfew;have HAT:Hid (TkAt w K T pts ms oao ocap vt iv):=hat;have hwX:w.heap.size≤X.heap.size:=hXB.size;clear hat hfew hX0 hX1 hXs hsl;go_enter Tryz.func62,Tryz.ntmps62;(go_wp2_with fail);rw[←HX.out,←HZ.out,←HB.out];refine HCB.out.mono ?_;rintro e w1 ⟨oa,oc,rfl,y0,y1,H1⟩;clear HCB c0 f0;have c2:=one_cell H1.out.2.1;(go_wp2_with fail);clear y0 y1 c2;go_loopw [13] (fun z wr=>∃k:Nat,k≤T∧z=.int .i64 k∧Hid (∃vt' iv',TlP wr X.heap.size K T pts ms k (ixM k 0 0) (.slice oa T oc) vt' iv' vt (iv00 K T iv)∧wr.heap[B]?=some (.cells #[.slice oa T oc] 29)∧wr.heap[Z]?=some (.cells #[.slice none 0 0] 29)∧Bl w wr∧X.heap.size≤wr.heap.size)) (fun z _=>T-(intOf z).toNat)
 case atStart=>exact⟨0,by omega,rfl,_,_,H1.out⟩
 case round =>
  obtain⟨k,hk,rfl,hY⟩:=hrel;clear H1;by_cases hlt:k<T
  ·obtain⟨vt',iv',hN,hBB,hZZ,hw,hsz⟩:=hY.out;obtain⟨go,ocp,osp,e,hgo,_,_,_,hho⟩:=hN.row (by omega);injection e with e1 _ e2;subst e1 e2;have c0:=one_cell hBB;have o1:=hN.old k (Nat.le_refl _);obtain⟨mao,mcap,em,hmr⟩:=HAT.out.mds k hlt;have hiv:∀i j,i<K→j<3→iv' (ixM k i j)=iv (ixM k i j):=fun i j hi hj=>by
    rw[hN.oldi _ (by unfold ixM;omega),iv00_ix iv hK hlt hi hj]
   have HCF:Hid (∀V,Bl wr V→V.cell? ⟨B,0,none⟩=some (.slice (some ⟨go,0,none⟩) T oc)∧V.cell? ⟨go,k,none⟩=some (.slice mao K mcap)∧V.frozen? ⟨go,k,none⟩=false):=fun V hV=>by
    have k0:=keep hho hV;have k1:=rowS_cell k0 hlt (show 0<1 by omega);rw[show k*1+0=k by omega,o1,em] at k1;exact⟨one_cell (keep hBB hV),k1,frozen_of_row _ _ _ _ _ k0⟩
   have HCM:Hid (∀V,Bl wr V→Calls Tryz.prog 101 #[.slice mao K mcap] V fun e w'=>∃a cp,e=.returned (.slice a K cp)∧Hid (Bl wr w')∧Hid (∃vt' iv',vt' k=.slice a K cp∧TlP (w'.setCell ⟨go,k,none⟩ (.slice a K cp)) X.heap.size K T pts ms (k+1) (ixM k 0 0) (.slice (some ⟨go,0,none⟩) T oc) vt' iv' vt (iv00 K T iv)∧(w'.setCell ⟨go,k,none⟩ (.slice a K cp)).heap[B]?=some (.cells #[.slice (some ⟨go,0,none⟩) T oc] 29)∧(w'.setCell ⟨go,k,none⟩ (.slice a K cp)).heap[Z]?=some (.cells #[.slice none 0 0] 29)∧Bl w (w'.setCell ⟨go,k,none⟩ (.slice a K cp))∧X.heap.size≤(w'.setCell ⟨go,k,none⟩ (.slice a K cp)).heap.size)):=fun V hV=>by
    refine(clone_mn mao K mcap (fun i x=>if i<K then mdC (ms k i).md (iv (ixM k i 0)) (iv (ixM k i 1)) (iv (ixM k i 2)) x else .slice none 0 0) V (by omega) (fun i j => ?_) (crow_guard (CRow.below (CRow.below hmr hw) hV))).mono ?_
    ·by_cases q:i<K
     ·simp only[if_pos q];have hone:∀j,j<3→(iv (ixM k i j)).oneCell'=true:=fun j hj=>by obtain⟨ao,cap,e,_⟩:=HAT.out.ints k i j hlt q hj;rw[e];rfl
      exact mdC_one _ (hone 0 (by omega)) (hone 1 (by omega)) (hone 2 (by omega)) _
     ·simp only[if_neg q];rfl
    rintro e w' ⟨v,rfl,h1,h2⟩;obtain⟨a,cp,rfl⟩:=owns_slice h1;rw[cells_guard K 9 (fun i=>mdC (ms k i).md (iv (ixM k i 0)) (iv (ixM k i 1)) (iv (ixM k i 2)))] at h1;have h3:Bl wr w':=hV.trans (h2.mono hV.size);have bt:Bt (fun q=>q=go) wr (w'.setCell ⟨go,k,none⟩ (.slice a K cp)):=((Bt.of (P:=fun q=>q=go) h3).setCell (Or.inl rfl) _ _)
    refine⟨a,cp,rfl,h3,upF vt' k (.slice a K cp),iv',upF_same _ _ _,hN.tree hlt rfl h3 hsz ?_,bt.keep hBB (fun e=>by subst e;exact absurd (cells_type hBB hho) (by decide)),bt.keep hZZ (fun e=>by subst e;exact absurd (cells_type hZZ hho) (by decide)),?_,Nat.le_trans hsz bt.size⟩
    ·rw[cellsL_congr K 9 _ (fun i=>mdC (ms k i).md (iv (ixM k i 0)) (iv (ixM k i 1)) (iv (ixM k i 2))) (fun i hi=>by rw[hiv i 0 hi (by omega),hiv i 1 hi (by omega),hiv i 2 hi (by omega)])];exact owns_mono h1 hV.size
    ·have hq:w.heap.size≤go:=Nat.le_trans hwX hgo;exact hw.trans (bt.below hw.size (fun q hq' e=>by omega))
   have HB0:Hid (∀m,Bl wr (wr.drewN m)):=fun m=>below_drewN (Below.refl _ _) m;have HB1:Hid (Bl wr wr.drew):=Below.drew (Below.refl _ _);obtain⟨x1,x2,x3⟩:=HCF.out wr (Below.refl _ _);have ik:(0:Int)≤(k:Int):=(by omega)
   have nk:(k:Int)<(T:Int):=(by omega)
   clear hY hN hBB hZZ hho o1 em hmr hiv c0 hgo hw;(go_wp2_with fail);go_cut [3] (fun s3 wx=>s3=.int .i64 k∧∃ma mc,Hid (∃vt' iv',vt' k=.slice ma K mc∧TlP wx X.heap.size K T pts ms (k+1) (ixM k 0 0) (.slice (some ⟨go,0,none⟩) T oc) vt' iv' vt (iv00 K T iv)∧wx.heap[B]?=some (.cells #[.slice (some ⟨go,0,none⟩) T oc] 29)∧wx.heap[Z]?=some (.cells #[.slice none 0 0] 29)∧Bl w wx∧X.heap.size≤wx.heap.size))
   case first =>
    go_region_with (go_at_call 101;refine(HCM.out _ (by first | exact HB0.out _ | exact HB1.out)).mono ?_;rintro e w2 ⟨a1,p1,rfl,HQ,H2⟩;obtain⟨y1,y2,y3⟩:=HCF.out w2 HQ.out)
    (all_goals go_wp2_with fail);all_goals go_meet
    all_goals exact⟨rfl,a1,p1,H2⟩
   case rest =>
   obtain⟨rfl,ma,mc,HC⟩:=hcut;clear HCF HCM HB0 HB1 x1 x2 x3;obtain⟨vt2,iv2,em2,hN2,hBB2,hZZ2,hw2,hsz2⟩:=HC.out;have c0:=one_cell hBB2;have c1:wc.cell? ⟨go,k,none⟩=some (.slice ma K mc):=by
    obtain⟨go',ocp',osp',e,hgo',_,_,_,hho'⟩:=hN2.row (by omega);injection e with e1;injection e1 with e2;injection e2 with e3;subst e3;have k1:=rowS_cell hho' hlt (show 0<1 by omega);rw[show k*1+0=k by omega,em2] at k1;exact k1
   have HST:Hid (∃iv',TlP wc X.heap.size K T pts ms (k+1) (ixM k 0 0) (.slice (some ⟨go,0,none⟩) T oc) vt2 iv' vt (iv00 K T iv)∧wc.heap[B]?=some (.cells #[.slice (some ⟨go,0,none⟩) T oc] 29)∧wc.heap[Z]?=some (.cells #[.slice none 0 0] 29)∧Bl w wc∧X.heap.size≤wc.heap.size):=⟨iv2,hN2,hBB2,hZZ2,hw2,hsz2⟩
   have HEM:Hid (vt2 k=.slice ma K mc):=em2;clear HC hN2 hBB2 hZZ2 hw2 hsz2 em2;(go_wp2_with fail);clear c0 c1;go_loopw [32] (fun z wr=>∃i:Nat,i≤K∧z=.int .i64 i∧Hid (∃iv',TlP wr X.heap.size K T pts ms (k+1) (ixM k i 0) (.slice (some ⟨go,0,none⟩) T oc) vt2 iv' vt (iv00 K T iv)∧wr.heap[B]?=some (.cells #[.slice (some ⟨go,0,none⟩) T oc] 29)∧wr.heap[Z]?=some (.cells #[.slice none 0 0] 29)∧Bl w wr∧X.heap.size≤wr.heap.size)) (fun z _=>K-(intOf z).toNat)
   case atStart=>exact⟨0,by omega,rfl,HST⟩
   case round =>
    obtain⟨i,hi,rfl,hZ⟩:=hrel;clear HST;by_cases hli:i<K
    ·obtain⟨iv',hN,hBB,hZZ,hw,hsz⟩:=hZ.out;obtain⟨gm,mcp,msp,e,hgm,_,_,_,hhm⟩:=hN.mrow (Nat.lt_succ_self k) (by omega);rw[HEM.out] at e;injection e with e1 _ e2;subst e1 e2;obtain⟨go',ocp',osp',e,_,_,_,_,hho⟩:=hN.row (by omega);injection e with e1 _ e5;injection e1 with e2;injection e2 with e3;subst e3 e5;have c0:=one_cell hBB;have c1:wr.cell? ⟨go,k,none⟩=some (.slice (some ⟨gm,0,none⟩) K mc):=by
      have k1:=rowS_cell hho hlt (show 0<1 by omega);rw[show k*1+0=k by omega,HEM.out] at k1;exact k1
     have hiv:∀j,j<3→iv' (ixM k i j)=iv (ixM k i j):=fun j hj=>by
      rw[hN.oldi _ (by unfold ixM;omega),iv00_ix iv hK hlt hli hj]
     obtain⟨pa,pc,ep,hpr⟩:=HAT.out.ints k i 0 hlt hli (by omega);obtain⟨ra,rc,er,hrr⟩:=HAT.out.ints k i 1 hlt hli (by omega);obtain⟨ca,cc,ec,hcr⟩:=HAT.out.ints k i 2 hlt hli (by omega);have HCF:Hid (∀V,Bl wr V→V.cell? ⟨gm,i*9+6,none⟩=some (.slice pa (lst3 pts ms k i 0).length pc)∧V.cell? ⟨gm,i*9+7,none⟩=some (.slice ra (lst3 pts ms k i 1).length rc)∧V.cell? ⟨gm,i*9+8,none⟩=some (.slice ca (lst3 pts ms k i 2).length cc)∧V.frozen? ⟨gm,i*9+6,none⟩=false∧V.frozen? ⟨gm,i*9+7,none⟩=false∧V.frozen? ⟨gm,i*9+8,none⟩=false):=fun V hV=>by
      have k0:=keep hhm hV;have fz:∀o,V.frozen? ⟨gm,o,none⟩=false:=fun o=>frozen_of_row _ _ _ _ _ k0;refine⟨?_,?_,?_,fz _,fz _,fz _⟩
      ·rw[←ep,←hiv 0 (by omega)];exact rowS_cell k0 hli (show 6<9 by omega)
      ·rw[←er,←hiv 1 (by omega)];exact rowS_cell k0 hli (show 7<9 by omega)
      ·rw[←ec,←hiv 2 (by omega)];exact rowS_cell k0 hli (show 8<9 by omega)
     have HCI:Hid (∀V j ao cap,j<3→Bl wr V→IRow w ao (lst3 pts ms k i j).length cap (IL (lst3 pts ms k i j))→Calls Tryz.prog 98 #[.slice ao (lst3 pts ms k i j).length cap] V fun e w'=>∃a cp,e=.returned (.slice a (lst3 pts ms k i j).length cp)∧Hid (w'.ownsRow V.heap.size 3 1 (.slice a (lst3 pts ms k i j).length cp) (lst3 pts ms k i j).length (cellsL (lst3 pts ms k i j).length 1 (fun y _=>.int .i64 (IL (lst3 pts ms k i j) y)))∧Bl V w'∧Bl wr w')):=fun V j ao cap hj hV hr=>by
      refine(clone_int ao (lst3 pts ms k i j).length cap (fun y _=>.int .i64 (IL (lst3 pts ms k i j) y)) V (HFW.out k i j hlt hli hj) (fun _ _=>rfl) (CRow.below (CRow.below hr hw) hV)).mono ?_;rintro e w' ⟨v,rfl,h1,h2⟩;obtain⟨a,cp,rfl⟩:=owns_slice h1;exact⟨a,cp,rfl,h1,h2,hV.trans (h2.mono hV.size)⟩
     have HC0:Hid (∀V,Bl wr V→Calls Tryz.prog 98 #[.slice pa (lst3 pts ms k i 0).length pc] V fun e w'=>∃a cp,e=.returned (.slice a (lst3 pts ms k i 0).length cp)∧Hid (w'.ownsRow V.heap.size 3 1 (.slice a (lst3 pts ms k i 0).length cp) (lst3 pts ms k i 0).length (cellsL (lst3 pts ms k i 0).length 1 (fun y _=>.int .i64 (IL (lst3 pts ms k i 0) y)))∧Bl V w'∧Bl wr w')):=fun V hV=>HCI.out V 0 pa pc (by omega) hV hpr;have HC1:Hid (∀V,Bl wr V→Calls Tryz.prog 98 #[.slice ra (lst3 pts ms k i 1).length rc] V fun e w'=>∃a cp,e=.returned (.slice a (lst3 pts ms k i 1).length cp)∧Hid (w'.ownsRow V.heap.size 3 1 (.slice a (lst3 pts ms k i 1).length cp) (lst3 pts ms k i 1).length (cellsL (lst3 pts ms k i 1).length 1 (fun y _=>.int .i64 (IL (lst3 pts ms k i 1) y)))∧Bl V w'∧Bl wr w')):=fun V hV=>HCI.out V 1 ra rc (by omega) hV hrr;have HC2:Hid (∀V,Bl wr V→Calls Tryz.prog 98 #[.slice ca (lst3 pts ms k i 2).length cc] V fun e w'=>∃a cp,e=.returned (.slice a (lst3 pts ms k i 2).length cp)∧Hid (w'.ownsRow V.heap.size 3 1 (.slice a (lst3 pts ms k i 2).length cp) (lst3 pts ms k i 2).length (cellsL (lst3 pts ms k i 2).length 1 (fun y _=>.int .i64 (IL (lst3 pts ms k i 2) y)))∧Bl V w'∧Bl wr w')):=fun V hV=>HCI.out V 2 ca cc (by omega) hV hcr;have HNX:Hid (∀W1 W2 W3 v1 v2 v3,Bl wr W1→Bl W1 W2→Bl W2 W3→W1.ownsRow wr.heap.size 3 1 v1 (lst3 pts ms k i 0).length (cellsL (lst3 pts ms k i 0).length 1 (fun y _=>.int .i64 (IL (lst3 pts ms k i 0) y)))→W2.ownsRow W1.heap.size 3 1 v2 (lst3 pts ms k i 1).length (cellsL (lst3 pts ms k i 1).length 1 (fun y _=>.int .i64 (IL (lst3 pts ms k i 1) y)))→W3.ownsRow W2.heap.size 3 1 v3 (lst3 pts ms k i 2).length (cellsL (lst3 pts ms k i 2).length 1 (fun y _=>.int .i64 (IL (lst3 pts ms k i 2) y))) →
       ∃iv',TlP (((W3.setCell ⟨gm,i*9+6,none⟩ v1).setCell ⟨gm,i*9+7,none⟩ v2).setCell ⟨gm,i*9+8,none⟩ v3) X.heap.size K T pts ms (k+1) (ixM k (i+1) 0) (.slice (some ⟨go,0,none⟩) T oc) vt2 iv' vt (iv00 K T iv)∧(((W3.setCell ⟨gm,i*9+6,none⟩ v1).setCell ⟨gm,i*9+7,none⟩ v2).setCell ⟨gm,i*9+8,none⟩ v3).heap[B]?=some (.cells #[.slice (some ⟨go,0,none⟩) T oc] 29)∧(((W3.setCell ⟨gm,i*9+6,none⟩ v1).setCell ⟨gm,i*9+7,none⟩ v2).setCell ⟨gm,i*9+8,none⟩ v3).heap[Z]?=some (.cells #[.slice none 0 0] 29)∧Bl w (((W3.setCell ⟨gm,i*9+6,none⟩ v1).setCell ⟨gm,i*9+7,none⟩ v2).setCell ⟨gm,i*9+8,none⟩ v3)∧X.heap.size≤(((W3.setCell ⟨gm,i*9+6,none⟩ v1).setCell ⟨gm,i*9+7,none⟩ v2).setCell ⟨gm,i*9+8,none⟩ v3).heap.size):=fun W1 W2 W3 v1 v2 v3 hb1 hb2 hb3 h1 h2 h3=>by
      have hb:Bl wr W3:=hb1.trans ((hb2.mono hb1.size).trans (hb3.mono (Nat.le_trans hb1.size hb2.size)));have bt:Bt (fun q=>q=gm) wr (((W3.setCell ⟨gm,i*9+6,none⟩ v1).setCell ⟨gm,i*9+7,none⟩ v2).setCell ⟨gm,i*9+8,none⟩ v3):=((((Bt.of (P:=fun q=>q=gm) hb).setCell (Or.inl rfl) _ _).setCell (Or.inl rfl) _ _).setCell (Or.inl rfl) _ _)
      refine⟨_,hN.mind hlt hli hK HEM.out hb1 hb2 hb3 hsz h1 h2 h3,bt.keep hBB (fun e=>by subst e;exact absurd (cells_type hBB hhm) (by decide)),bt.keep hZZ (fun e=>by subst e;exact absurd (cells_type hZZ hhm) (by decide)),?_,Nat.le_trans hsz bt.size⟩;have hq:w.heap.size≤gm:=Nat.le_trans hwX hgm;exact hw.trans (bt.below hw.size (fun q hq' e=>by omega))
     have HB0:Hid (∀m,Bl wr (wr.drewN m)):=fun m=>below_drewN (Below.refl _ _) m;have HB1:Hid (Bl wr wr.drew):=Below.drew (Below.refl _ _);obtain⟨x1,x2,x3,_,_,_⟩:=HCF.out wr (Below.refl _ _);have ik:(0:Int)≤(k:Int):=(by omega)
     have nk:(k:Int)<(T:Int):=(by omega)
     have ii:(0:Int)≤(i:Int):=(by omega)
     have ni:(i:Int)<(K:Int):=(by omega)
     clear hZ hN hBB hZZ hhm hho hpr hrr hcr hiv hw hgm ep er ec HCI HAT HFW HEM;generalize (lst3 pts ms k i 0).length=n0 at *;generalize (lst3 pts ms k i 1).length=n1 at *;generalize (lst3 pts ms k i 2).length=n2 at *;(go_wp2_with fail);clear c0 c1 ik nk ii ni;refine wp_region_z (z:=20) (C:=fun W=>W.cell? ⟨gm,i*9+6,none⟩=some (.slice pa n0 pc)∧W.cell? ⟨gm,i*9+7,none⟩=some (.slice ra n1 rc)∧W.cell? ⟨gm,i*9+8,none⟩=some (.slice ca n2 cc)) (by kernel_rfl) ⟨x1,x2,x3⟩ (fun hHeld => ?_);refine z_take (i:=0) (v := ?_) (some 42) rfl rfl (by kernel_rfl) (by kernel_rfl) (by kernel_rfl) (by decide) (fun _ _ _ h=>h) (by rfl) ?_ hHeld ?_;rotate_left 1
     ·(intro wq;go_simp;try with_reducible rfl)
     simp only[Act.put,lsA,lsZ,lsS];refine z_take (i:=1) (v := ?_) (some 43) rfl rfl (by kernel_rfl) (by kernel_rfl) (by kernel_rfl) (by decide) (fun _ _ _ h=>h) (by rfl) ?_ hHeld ?_;rotate_left 1
     ·(intro wq;go_simp;try with_reducible rfl)
     simp only[Act.put,lsA,lsZ,lsS];refine z_take (i:=2) (v := ?_) (some 44) rfl rfl (by kernel_rfl) (by kernel_rfl) (by kernel_rfl) (by decide) (fun _ _ _ h=>h) (by rfl) ?_ hHeld ?_;rotate_left 1
     ·(intro wq;go_simp;try with_reducible rfl)
     simp only[Act.put,lsA,lsZ,lsS];refine z_take (i:=3) (v := ?_) (some 45) rfl rfl (by kernel_rfl) (by kernel_rfl) (by kernel_rfl) (by decide) (fun _ _ _ h=>h) (by rfl) ?_ hHeld ?_;rotate_left 1
     ·(intro wq;go_simp;try with_reducible rfl)
     simp only[Act.put,lsA,lsZ,lsS];refine z_take (i:=4) (v := ?_) (some 46) rfl rfl (by kernel_rfl) (by kernel_rfl) (by kernel_rfl) (by decide) (fun _ _ _ h=>h) (by rfl) ?_ hHeld ?_;rotate_left 1
     ·(intro wq;go_simp;try with_reducible rfl)
     simp only[Act.put,lsA,lsZ,lsS];refine z_take (i:=5) (v := ?_) (some 47) rfl rfl (by kernel_rfl) (by kernel_rfl) (by kernel_rfl) (by decide) (fun _ _ _ h=>h) (by rfl) ?_ hHeld ?_;rotate_left 1
     ·(intro wq;go_simp;try with_reducible rfl)
     simp only[Act.put,lsA,lsZ,lsS];refine z_load (i:=6) (v := ?_) (some 48) rfl rfl (by kernel_rfl) (by kernel_rfl) (by kernel_rfl) (by kernel_rfl) (fun _ _ _ h=>h) (by rfl) ?_ hHeld ?_;rotate_left 1
     ·(intro wq hSw;go_simp;try with_reducible rfl)
     simp only[Act.put,lsA,lsZ,lsS];refine z_take (i:=8) (v := ?_) (some 50) rfl rfl (by kernel_rfl) (by kernel_rfl) (by kernel_rfl) (by decide) (fun _ _ _ h=>h) (by rfl) ?_ hHeld ?_;rotate_left 1
     ·(intro wq;go_simp;try with_reducible rfl)
     simp only[Act.put,lsA,lsZ,lsS];refine z_take (i:=9) (v := ?_) (some 51) rfl rfl (by kernel_rfl) (by kernel_rfl) (by kernel_rfl) (by decide) (fun _ _ _ h=>h) (by rfl) ?_ hHeld ?_;rotate_left 1
     ·(intro wq;go_simp;try with_reducible rfl)
     simp only[Act.put,lsA,lsZ,lsS];refine z_take (i:=10) (v := ?_) (some 52) rfl rfl (by kernel_rfl) (by kernel_rfl) (by kernel_rfl) (by decide) (fun _ _ _ h=>h) (by rfl) ?_ hHeld ?_;rotate_left 1
     ·(intro wq;go_simp;try with_reducible rfl)
     simp only[Act.put,lsA,lsZ,lsS];refine z_load (i:=11) (v := ?_) (some 53) rfl rfl (by kernel_rfl) (by kernel_rfl) (by kernel_rfl) (by kernel_rfl) (fun _ _ _ h=>h) (by rfl) ?_ hHeld ?_;rotate_left 1
     ·(intro wq hSw;go_simp;try with_reducible rfl)
     simp only[Act.put,lsA,lsZ,lsS];refine z_take (i:=13) (v := ?_) (some 55) rfl rfl (by kernel_rfl) (by kernel_rfl) (by kernel_rfl) (by decide) (fun _ _ _ h=>h) (by rfl) ?_ hHeld ?_;rotate_left 1
     ·(intro wq;go_simp;try with_reducible rfl)
     simp only[Act.put,lsA,lsZ,lsS];refine z_take (i:=14) (v := ?_) (some 56) rfl rfl (by kernel_rfl) (by kernel_rfl) (by kernel_rfl) (by decide) (fun _ _ _ h=>h) (by rfl) ?_ hHeld ?_;rotate_left 1
     ·(intro wq;go_simp;try with_reducible rfl)
     simp only[Act.put,lsA,lsZ,lsS];refine z_take (i:=15) (v := ?_) (some 57) rfl rfl (by kernel_rfl) (by kernel_rfl) (by kernel_rfl) (by decide) (fun _ _ _ h=>h) (by rfl) ?_ hHeld ?_;rotate_left 1
     ·(intro wq;go_simp;try with_reducible rfl)
     simp only[Act.put,lsA,lsZ,lsS];refine z_load (i:=16) (v := ?_) (some 58) rfl rfl (by kernel_rfl) (by kernel_rfl) (by kernel_rfl) (by kernel_rfl) (fun _ _ _ h=>h) (by rfl) ?_ hHeld ?_;rotate_left 1
     ·(intro wq hSw;go_simp;try with_reducible rfl)
     simp only[Act.put,lsA,lsZ,lsS];refine z_one (i:=7) (by kernel_rfl) rfl (fun K hK => ?_);go_simp;(with_reducible refine(HC0.out _ HB1.out).mono ?_)
     rintro e w3 ⟨a1,p1,rfl,H1⟩;refine hK.out _ _ (Or.inr ⟨(HCF.out w3 H1.out.2.2).1,(HCF.out w3 H1.out.2.2).2.1,(HCF.out w3 H1.out.2.2).2.2.1⟩) (fun hHeld => ?_);clear hK K;refine z_one (i:=12) (by kernel_rfl) rfl (fun K hK => ?_);go_simp;(with_reducible refine(HC1.out _ H1.out.2.2).mono ?_)
     rintro e w4 ⟨a2,p2,rfl,H2⟩;refine hK.out _ _ (Or.inr ⟨(HCF.out w4 H2.out.2.2).1,(HCF.out w4 H2.out.2.2).2.1,(HCF.out w4 H2.out.2.2).2.2.1⟩) (fun hHeld => ?_);clear hK K;refine z_one (i:=17) (by kernel_rfl) rfl (fun K hK => ?_);go_simp;(with_reducible refine(HC2.out _ H2.out.2.2).mono ?_)
     rintro e w5 ⟨a3,p3,rfl,H3⟩;refine hK.out _ _ (Or.inr ⟨(HCF.out w5 H3.out.2.2).1,(HCF.out w5 H3.out.2.2).2.1,(HCF.out w5 H3.out.2.2).2.2.1⟩) (fun hHeld => ?_);clear hK K;refine z_take (i:=18) (v := ?_) (some 60) rfl rfl (by kernel_rfl) (by kernel_rfl) (by kernel_rfl) (by decide) (fun _ _ _ h=>h) (by rfl) ?_ hHeld ?_;rotate_left 1
     ·(intro wq;go_simp;try with_reducible rfl)
     simp only[Act.put,lsA,lsZ,lsS];refine z_take (i:=19) (v := ?_) (some 61) rfl rfl (by kernel_rfl) (by kernel_rfl) (by kernel_rfl) (by decide) (fun _ _ _ h=>h) (by rfl) ?_ hHeld ?_;rotate_left 1
     ·(intro wq;go_simp;try with_reducible rfl)
     simp only[Act.put,lsA,lsZ,lsS];refine z_one (i:=20) (by kernel_rfl) rfl (fun K hK => ?_);obtain⟨u1,u2,u3,u4,u5,u6⟩:=HCF.out w5 H3.out.2.2;go_simp;refine hK.out _ _ (Or.inl (by kernel_rfl)) (fun hHeld => ?_);clear hK K;refine z_take (i:=21) (v := ?_) (some 62) rfl rfl (by kernel_rfl) (by kernel_rfl) (by kernel_rfl) (by decide) (fun _ _ _ h=>h) (by rfl) ?_ hHeld ?_;rotate_left 1
     ·(intro wq;go_simp;try with_reducible rfl)
     simp only[Act.put,lsA,lsZ,lsS];refine z_take (i:=22) (v := ?_) (some 63) rfl rfl (by kernel_rfl) (by kernel_rfl) (by kernel_rfl) (by decide) (fun _ _ _ h=>h) (by rfl) ?_ hHeld ?_;rotate_left 1
     ·(intro wq;go_simp;try with_reducible rfl)
     simp only[Act.put,lsA,lsZ,lsS];refine z_one (i:=23) (by kernel_rfl) rfl (fun K hK => ?_);go_simp;refine hK.out _ _ (Or.inl (by kernel_rfl)) (fun hHeld => ?_);clear hK K;refine z_take (i:=24) (v := ?_) (some 64) rfl rfl (by kernel_rfl) (by kernel_rfl) (by kernel_rfl) (by decide) (fun _ _ _ h=>h) (by rfl) ?_ hHeld ?_;rotate_left 1
     ·(intro wq;go_simp;try with_reducible rfl)
     simp only[Act.put,lsA,lsZ,lsS];refine z_take (i:=25) (v := ?_) (some 65) rfl rfl (by kernel_rfl) (by kernel_rfl) (by kernel_rfl) (by decide) (fun _ _ _ h=>h) (by rfl) ?_ hHeld ?_;rotate_left 1
     ·(intro wq;go_simp;try with_reducible rfl)
     simp only[Act.put,lsA,lsZ,lsS];refine z_one (i:=26) (by kernel_rfl) rfl (fun K hK => ?_);go_simp;refine hK.out _ _ (Or.inl (by kernel_rfl)) (fun hHeld => ?_);clear hK K;refine z_done (by kernel_rfl) ?_ _;(go_wp2_with fail);exact⟨⟨i+1,by omega,by go_num,HNX.out _ _ _ _ _ _ H1.out.2.2 H2.out.2.1 H3.out.2.1 (owns_mono H1.out.1 (below_drewN (Below.refl wr.heap.size wr) 1).size) H2.out.1 H3.out.1⟩,by simp[intOf];omega⟩
    ·obtain rfl:i=K:=by omega
     have HN:Hid (∃vt' iv',TlP wr X.heap.size i T pts ms (k+1) (ixM (k+1) 0 0) (.slice (some ⟨go,0,none⟩) T oc) vt' iv' vt (iv00 i T iv)∧wr.heap[B]?=some (.cells #[.slice (some ⟨go,0,none⟩) T oc] 29)∧wr.heap[Z]?=some (.cells #[.slice none 0 0] 29)∧Bl w wr∧X.heap.size≤wr.heap.size):=by
      obtain⟨iv',hN,h2⟩:=hZ.out;exact⟨vt2,iv',hN.next hK (fun a ha=>by unfold iv00;rw[if_pos (Or.inr (Or.inr ha))]),h2⟩
     clear hZ;(go_wp2_with fail);exact⟨⟨k+1,by omega,by go_num,HN⟩,by simp[intOf];omega⟩
  ·obtain rfl:k=T:=by omega
   obtain⟨vt',iv',hN,hBB,hZZ,hw,hsz⟩:=hY.out;have c0:=one_cell hBB;have d0:=one_cell hZZ;have g0:wr.frozen? ⟨Z,0,none⟩=false:=frozen_of_row _ _ _ _ _ hZZ;have HFN:Hid ((wr.setCell ⟨Z,0,none⟩ (.slice oa k oc)).heap[Z]?=some (.cells #[.slice oa k oc] 29)∧CotW w K k pts ms (.returned (.agg #[.slice oa k oc])) (wr.setCell ⟨Z,0,none⟩ (.slice oa k oc))):=by
    have hq:w.heap.size≤Z:=HBS.out.2.2.2.1;have bt:Bt (fun q=>q=Z) wr (wr.setCell ⟨Z,0,none⟩ (.slice oa k oc)):=((Bt.refl (fun q=>q=Z) wr).setCell (Or.inl rfl) _ _)
    have ne:∀{q:Nat},X.heap.size≤q→¬q=Z:=fun hq e=>by have:=HBS.out.2.1;omega
    refine⟨?_,oa,oc,vt',iv',rfl,⟨?_,?_,?_⟩,hw.setCell hq _⟩
    ·rw[heap_setCell_same _ _ 0 _ _ _ hZZ];rfl
    ·exact owns_mono (owns_keep hN.out (fun q hq=>bt.block q (oCb hN.out q hq).2 (ne (oCb hN.out q hq).1))) hwX
    ·have:=hN.mds.bt bt (fun a ha q hq=>ne (oCb (hN.mds.own a ha) q hq).1);exact⟨fun a ha=>owns_mono (this.own a ha) hwX,this.one⟩
    ·have h0:=hN.ints.bt bt (fun a ha q hq=>ne (oCb (hN.ints.own a ha) q hq).1);have:=h0.nils (T':=156) (fun a h1 h2=>by
      have hq:k≤(a-12)/36:=(by unfold ixM at h1;omega)
      exact⟨(hN.oldi a h1).trans (by unfold iv00;rw[if_pos (Or.inr (Or.inl hq))]),by rw[Tk.ilm_out pts ms (Or.inr (Or.inl (by omega)))];rfl⟩)
     exact⟨fun a ha=>owns_mono (this.own a ha) hwX,this.one⟩
   clear hY hN hBB hZZ hw;(go_wp2_with fail);exact bodyPost_ret (v:=.agg #[.slice oa k oc]) (results_row (p:=2) (ty:=29) Tryz.results62 _ _ Z 29 #[.slice oa k oc] (0,0) _ rfl HFN.out.1 Tryz.underlying29 rfl (by kernel_rfl)) rfl HFN.out.2
def lsF (f:Nat→Int) (n:Nat):List Int:=(List.range n).map f
theorem lsF_len (f:Nat→Int) (n:Nat):(lsF f n).length=n:=by simp[lsF]
theorem lsF_get (f:Nat→Int) {n j:Nat}(h:j<n):IL (lsF f n) j=f j:=by
 unfold IL lsF;rw[List.getD_eq_getElem?_getD,List.getElem?_map,List.getElem?_range h];rfl
theorem lsF_mem {f:Nat→Int}{n:Nat}{p:Int}(h:p∈lsF f n):∃j,j<n∧f j=p:=by
 unfold lsF at h;rw[List.mem_map] at h;obtain⟨j,hj,e⟩:=h;exact⟨j,List.mem_range.1 hj,e⟩
namespace Pl
def Net.cn (n:Net):Cn:=⟨n.K,n.L,fun i=>(n.bs i).addr,fun i j=>decide (strOf 50 (n.bs i).reg.id=strOf 50 (n.bs j).reg.id)⟩
def Net.sc (n:Net) (ms:Nat→Nat→Mnd):Sc:=⟨fun i=>lsF (n.bs i).pv (n.bs i).pn,n.ls,ms⟩
def Net.pts (n:Net) (i:Nat):List Int:=(n.ends i).map (fun e:En=>e.port)
theorem Net.sc_sm (n:Net) (i j:Nat):n.cn.sm i j=decide (strOf 50 (n.bs i).reg.id=strOf 50 (n.bs j).reg.id):=by
 unfold Net.cn;with_reducible rfl
theorem Net.sc_lv (n:Net) (ms:Nat→Nat→Mnd) (k:Nat):(n.sc ms).lv n.cn k=n.live k:=by
 unfold Tk.Sc.lv Net.live;rw[Net.sc_sm];unfold Net.sc;with_reducible rfl
theorem Net.sc_E (n:Net) (ms:Nat→Nat→Mnd):(n.sc ms).E n.cn=n.ends:=by
 have e:(n.sc ms).lv n.cn=n.live:=funext (n.sc_lv ms);funext i
 unfold Tk.Sc.E Net.ends;rw[e];unfold Net.sc Net.cn;with_reducible rfl
end Pl
theorem net_ids {n:Net}(ms:Nat→Nat→Mnd) (tree:Int) (i:Nat):(n.sc ms).ids n.cn tree i=n.ids tree i:=by
 unfold Tk.Sc.ids Pl.Net.sc Pl.Net.cn Pl.Net.ids Pl.Br.id Pl.Br.prio Tk.prioOf;simp only[lsF_len];by_cases q:0≤tree∧tree≤((n.bs i).pn:Int)-1
 ·rw[if_pos q,if_pos q];have:=lsF_get (n.bs i).pv (show tree.toNat<(n.bs i).pn by omega);unfold IL at this;rw[this]
 ·rw[if_neg q,if_neg q]
theorem scene_new {n:Net}{T:Nat}{ms:Nat→Nat→Mnd}{W0 V2 V3 V4:World}{B1 B2 b1 G:Nat}{vb vl vo:Value}{ivN weN vt ivT ve:Nat→Value}(hK:n.K≤12) (hT:T≤4) (h1:W0.heap.size≤b1)
  (hN:NetP V2 b1 n n.K vb vl ivN weN) (hT3:TlC V3 V2.heap.size n.K T n.pts ms vo vt ivT) (b02:Bl W0 V2) (b23:Bl V2 V3) (b34:Bl V3 V4) (hE:EndsOk V4 G n.K ve n.ends)
  (hA:AmongAt W0 n.K n.bs B1 B2) (hok:Tk.Ok n.cn (n.sc ms) T) (hreg:∀i,i<n.K→(n.bs i).reg.ok) :
  ∃M,ScOk (V4.alloc (.cells #[vb,vl,vo,.func (.func 74) #[] #[.pointer (some ⟨B1,0,none⟩),.pointer (some ⟨B2,0,none⟩)],.slice (some ⟨G,0,none⟩) n.K n.K] 92)) V4.heap.size ⟨n.cn,T,n.pts,fun i=>(n.bs i).reg,n.bs,B1,B2,W0⟩ (n.sc ms) M G ve:=by
 have c02:W0.heap.size≤V2.heap.size:=b02.size;have b24:Bl V2 V4:=b23.trans (b34.mono b23.size);have bA:Bl V4 (V4.alloc (.cells #[vb,vl,vo,.func (.func 74) #[] #[.pointer (some ⟨B1,0,none⟩),.pointer (some ⟨B2,0,none⟩)],.slice (some ⟨G,0,none⟩) n.K n.K] 92)):=bA1 _ _;have b2:=b24.trans (bA.mono b24.size);have b3:=b34.trans (bA.mono b34.size);generalize hWW:V4.alloc (.cells #[vb,vl,vo,.func (.func 74) #[] #[.pointer (some ⟨B1,0,none⟩),.pointer (some ⟨B2,0,none⟩)],.slice (some ⟨G,0,none⟩) n.K n.K] 92)=W at bA b2 b3 ⊢;have hblk:W.heap[V4.heap.size]?=some (.cells #[vb,vl,vo,.func (.func 74) #[] #[.pointer (some ⟨B1,0,none⟩),.pointer (some ⟨B2,0,none⟩)],.slice (some ⟨G,0,none⟩) n.K n.K] 92):=(by rw[←hWW];exact heap_alloc_last _ _)
 refine⟨⟨vb,vl,vo,vt,fun a=>if a<12 then(if a<n.K then ivN a else .slice none 0 0) else ivT a,fun i=>if i<n.K then weN i else .slice none 0 0⟩,⟨hblk,?_,owns_mono (ownsC_below hN.lks b2) h1,owns_mono (ownsC_below hT3.out b3) c02,?_,?_,?_,b02.trans (b2.mono c02),by rw[Net.sc_E];exact hE.below bA,hK,hT⟩,hok,hreg,Nat.le_trans c02 b24.size,n.sc_sm,hA⟩
 ·have:=owns_mono (ownsC_below hN.brs b2) h1;show W.ownsRow W0.heap.size 74 5 vb n.K (cellsL n.K 5 (fun i=>brX (n.bs i).addr (if i<12 then(if i<n.K then ivN i else .slice none 0 0) else ivT i) (n.bs i).reg.s (n.bs i).reg.rev (if i<n.K then weN i else .slice none 0 0)));rw[cellsL_congr n.K 5 _ (fun a=>brX (n.bs a).addr (ivN a) (n.bs a).reg.s (n.bs a).reg.rev (weN a)) (fun i hi=>by
   simp only[if_pos hi,if_pos (show i<12 by omega)])]
  exact this
 ·have:=hT3.mds.below b3;refine Fam.congr ⟨fun a ha=>owns_mono (this.own a ha) c02,this.one⟩ (fun _ _=>rfl) (fun k hk i hi x hx => ?_);unfold Tm.mc;have hne:∀j,¬ixM k i j<12:=fun j=>by unfold ixM;omega
  simp only[if_neg (hne _)];rfl
 ·have t1:=hT3.ints.below b3;have n1:=hN.ints.below b2;have hil:∀a,(Tf.il ⟨n.cn,T,n.pts,fun i=>(n.bs i).reg,n.bs,B1,B2,W0⟩ (n.sc ms) a)=if a<12 then(if a<n.K then lsF (n.bs a).pv (n.bs a).pn else []) else ilm n.K T n.pts ms a:=fun a=>Tk.ilist_ilm n.K T n.pts (n.sc ms) a
  refine⟨fun a ha => ?_,fun a b ha hb q hqa hqb => ?_⟩
  ·by_cases q:a<12
   ·by_cases q2:a<n.K
    ·simp only[hil,if_pos q,if_pos q2,lsF_len];have:=owns_mono (n1.own a q2) h1;rw[cellsL_congr _ 1 _ (fun i _=>.int .i64 ((n.bs a).pv i)) (fun i hi=>by
      funext x
      rw[lsF_get _ hi])]
     exact this
    ·simp only[hil,if_pos q,if_neg q2];exact ownsC_nil _ _ _ _ _
   ·simp only[hil,if_neg q];exact owns_mono (t1.own a ha) c02
  ·have lo:∀{a q},a<12→(if a<n.K then ivN a else Value.slice none 0 0).ownBlock=some q→a<n.K∧(ivN a).ownBlock=some q∧q<V2.heap.size:=fun {a q} _ hq=>by
    by_cases q2:a<n.K
    ·rw[if_pos q2] at hq;exact⟨q2,hq,(oCb (hN.ints.own a q2) q hq).2⟩
    ·rw[if_neg q2] at hq;simp[Value.ownBlock] at hq
   by_cases qa:a<12
   ·simp only[if_pos qa] at hqa;obtain⟨a1,a2,a3⟩:=lo qa hqa;by_cases qb:b<12
    ·simp only[if_pos qb] at hqb;obtain⟨b1,b2,b3⟩:=lo qb hqb;exact n1.one a b a1 b1 q a2 b2
    ·simp only[if_neg qb] at hqb;have:=(oCb (t1.own b hb) q hqb).1;omega
   ·simp only[if_neg qa] at hqa;by_cases qb:b<12
    ·simp only[if_pos qb] at hqb;obtain⟨b1,b2,b3⟩:=lo qb hqb;have:=(oCb (t1.own a ha) q hqa).1;omega
    ·simp only[if_neg qb] at hqb;exact t1.one a b ha hb q hqa hqb
 ·have n1:=hN.ways.below b2;have n2:Fam W W0.heap.size 81 2 n.K (fun i=>if i<n.K then weN i else .slice none 0 0) (fun i=>if i<n.K then(n.bs i).reg.n else 0) (fun i j=>wyC ((n.bs i).reg.vs j) ((n.bs i).reg.ts j)):=by
   refine⟨fun a ha => ?_,fun a b ha hb q hqa hqb => ?_⟩
   ·simp only[if_pos ha];exact owns_mono (n1.own a ha) h1
   ·simp only[if_pos ha] at hqa;simp only[if_pos hb] at hqb;exact n1.one a b ha hb q hqa hqb
  exact n2.nils (fun a h1 h2=>⟨if_neg (by omega),if_neg (by omega)⟩)
theorem vids_few {vs ts:Nat→Int}{m:Nat}(h:Rg.Right vs ts m):m≤4094:=by
 have k:∀i,i<m→(i:Int)+1≤vs i:=fun i=>by
  induction i with
  | zero=>intro hi;have:=(h.vid 0 hi).1;omega
  | succ i ih =>
   intro hi;have h1:=ih (by omega);have h2:=h.less i (i+1) (by omega) hi;omega
 by_cases q:m=0
 ·omega
 ·have h1:=k (m-1) (by omega);have h2:=(h.vid (m-1) (by omega)).2;omega
def NewW (w:World) (n:Net) (T:Nat) (ms:Nat→Nat→Mnd) (e:Ending) (w':World):Prop :=
 ∃S F M G ve,e=.returned (.pointer (some ⟨S,0,none⟩))∧ScOk w' S F (n.sc ms) M G ve∧(F.c=n.cn∧F.T=T∧F.pts=n.pts∧F.rg=fun i=>(n.bs i).reg)∧w.heap.size≤F.base∧Bl w w'
theorem mind_few {n:Net}{T:Nat}{ms:Nat→Nat→Mnd}(hok:Tk.Ok n.cn (n.sc ms) T) (hL:n.L≤40):∀k i j,k<T→i<n.K→j<3→(lst3 n.pts ms k i j).length≤100000:=fun k i j hk hi hj=>by
 have h1:=ends_few n i hL;have h2:=hok.fit k hk i hi;rw[Net.sc_E] at h2;have h3:(n.pts i).length=(n.ends i).length:=(by unfold Pl.Net.pts;simp)
 have h4:((n.sc ms).ms k i)=ms k i:=rfl;rw[h4] at h2;unfold lst3;rcases(by omega:j=0∨j=1∨j=2) with q | q | q<;>subst q<;>simp<;>omega
theorem tnewscene_any (n:Net) (T:Nat) (ms:Nat→Nat→Mnd) (oao:Option Addr) (ocap:Nat) (vt iv:Nat→Value) (w:World) (hR:n.Right) (hT:T≤4) (hat:n.at' w) (htk:TkAt w n.K T n.pts ms oao ocap vt iv) (hok:Tk.Ok n.cn (n.sc ms) T) (ht:Tabs w) (hbt:2≤w.heap.size) :
  Calls Tryz.prog 40 #[n.val,.agg #[.slice oao T ocap]] w fun e w'=>NewW w n T ms e w':=by
 obtain⟨X,HX⟩:∃X,Hid (X=(w.alloc (.cells #[.slice n.bao n.K n.bcap,.slice n.lao n.L n.lcap] 25)).alloc (.cells #[.slice oao T ocap] 29)):=⟨_,rfl⟩
 have hXB:Bl w X:=(by rw[HX.out];exact bA2 _ _ _)
 have hX0:X.heap[w.heap.size]?=some (.cells #[.slice n.bao n.K n.bcap,.slice n.lao n.L n.lcap] 25):=(by rw[HX.out];exact heap_alloc2_old _ _ _)
 have hX1:X.heap[w.heap.size+1]?=some (.cells #[.slice oao T ocap] 29):=(by rw[HX.out];exact heap_alloc2_new _ _ _)
 obtain⟨c0,c1⟩:=tC2 hX0;have c2:=one_cell hX1;have hnX:=hat.below hXB;have HAM:Hid (Calls Tryz.prog 48 #[.slice n.bao n.K n.bcap] X fun e w'=>∃B1 B2,e=.returned (.func (.func 74) #[] #[.pointer (some ⟨B1,0,none⟩),.pointer (some ⟨B2,0,none⟩)])∧Hid (AmongAt w' n.K n.bs B1 B2∧Bl X w')):=pamong_any n.bao n.K n.bcap n.bs X hR.few hnX.brs hnX.each hR.fine (ht.below hXB hbt) (Nat.le_trans hbt hXB.size);have HCE:Hid (∀V,Bl X V→(V.cell? ⟨w.heap.size,0,none⟩=some (.slice n.bao n.K n.bcap)∧V.cell? ⟨w.heap.size,1,none⟩=some (.slice n.lao n.L n.lcap))∧V.cell? ⟨w.heap.size+1,0,none⟩=some (.slice oao T ocap)):=fun V hV=>⟨tC2 (keep hX0 hV),one_cell (keep hX1 hV)⟩
 have HKN:Hid (∀V,Bl X V→n.at' V):=fun V hV=>hnX.below hV;have HKT:Hid (∀V,Bl X V→TkAt V n.K T n.pts ms oao ocap vt iv):=fun V hV=>(htk.below hXB).below hV;have HR:Hid n.Right:=hR;have HOK:Hid (Tk.Ok n.cn (n.sc ms) T):=hok;have HXB:Hid (Bl w X):=hXB;have HT4:Hid (T≤4):=hT;clear hR hT hat htk hok ht hbt hXB hX0 hX1 hnX;unfold Net.val;go_enter Tryz.func40,Tryz.ntmps40;(go_wp2_with fail);rw[←HX.out];refine HAM.out.mono ?_;rintro e w1 ⟨B1,B2,rfl,H1⟩;clear HAM c0 c1 c2;have HCN:Hid (∀V,Bl w1 V→Calls Tryz.prog 61 #[.agg #[.slice n.bao n.K n.bcap,.slice n.lao n.L n.lcap]] V fun e w'=>∃ba bc la lc,e=.returned (.agg #[.slice ba n.K bc,.slice la n.L lc])∧Hid (Bl w1 w'∧∃iv we b1,w1.heap.size≤b1∧NetP w' b1 n n.K (.slice ba n.K bc) (.slice la n.L lc) iv we)):=fun V hV=>by
  have hXV:=H1.out.2.trans (hV.mono H1.out.2.size);refine(tcopnet_any n V HR.out.few HR.out.fewL (fun i hi => ?_) (HKN.out V hXV)).mono ?_
  ·have hf:=HR.out.fine i hi;exact⟨by have:=hf.few;omega,by have:=vids_few hf.reg.2.2;omega⟩
  rintro e w' ⟨ba,bc,la,lc,iv,we,rfl,h1,h2⟩;exact⟨ba,bc,la,lc,rfl,hV.trans (h2.mono hV.size),iv,we,V.heap.size,hV.size,h1⟩
 have HCT:Hid (∀V2 V,Bl w1 V2→Bl V2 V→Calls Tryz.prog 62 #[.agg #[.slice oao T ocap]] V fun e w'=>∃oa oc,e=.returned (.agg #[.slice oa T oc])∧Hid (Bl w1 w'∧Bl V2 w'∧∃vt iv,TlC w' V2.heap.size n.K T n.pts ms (.slice oa T oc) vt iv)):=fun V2 V h12 hV=>by
  have h1V:=h12.trans (hV.mono h12.size);have hXV:=H1.out.2.trans (h1V.mono H1.out.2.size);refine(tcoptalk_any n.K T n.pts ms oao ocap vt iv V HR.out.few HT4.out (mind_few HOK.out HR.out.fewL) (HKT.out V hXV)).mono ?_;rintro e w' ⟨oa,oc,vt',iv',rfl,h1,h2⟩;exact⟨oa,oc,rfl,h1V.trans (h2.mono h1V.size),hV.trans (h2.mono hV.size),vt',iv',owns_mono h1.out hV.size,⟨fun a ha=>owns_mono (h1.mds.own a ha) hV.size,h1.mds.one⟩,⟨fun a ha=>owns_mono (h1.ints.own a ha) hV.size,h1.ints.one⟩⟩
 have HCA:Hid (∀V3 V,Bl w1 V3→Bl V3 V→Calls Tryz.prog 74 #[.slice n.lao n.L n.lcap,.pointer (some ⟨B1,0,none⟩),.pointer (some ⟨B2,0,none⟩)] V fun e w'=>∃G,e=.returned (.slice (some ⟨G,0,none⟩) n.K n.K)∧Hid (Bl w1 w'∧Bl V3 w'∧∃ve,EndsOk w' G n.K ve n.ends)):=fun V3 V h13 hV=>by
  have h1V:=h13.trans (hV.mono h13.size);have hXV:=H1.out.2.trans (h1V.mono H1.out.2.size);refine(pends_any n.K n.bs B1 B2 n.lao n.L n.lcap n.ls V HR.out.few HR.out.fewL (H1.out.1.below h1V) (HKN.out V hXV).lks HR.out.links).mono ?_;rintro e w' ⟨G,v,rfl,h1,h2,h3⟩;exact⟨G,rfl,h1V.trans (h3.mono h1V.size),hV.trans (h3.mono hV.size),v,h1⟩
 have HC1:Hid (∀V,Bl w1 V→(V.cell? ⟨w.heap.size,0,none⟩=some (.slice n.bao n.K n.bcap)∧V.cell? ⟨w.heap.size,1,none⟩=some (.slice n.lao n.L n.lcap))∧V.cell? ⟨w.heap.size+1,0,none⟩=some (.slice oao T ocap)):=fun V hV=>HCE.out V (H1.out.2.trans (hV.mono H1.out.2.size));have HB0:Hid (∀m,Bl w1 (w1.drewN m)):=fun m=>below_drewN (Below.refl _ _) m;have HB1:Hid (Bl w1 w1.drew):=Below.drew (Below.refl _ _);obtain⟨⟨c0,c1⟩,c2⟩:=HC1.out w1 (Below.refl _ _);have HFIN:Hid (∀(ba:Option Addr) (bc:Nat) (la:Option Addr) (lc:Nat) (w2:World) (oa:Option Addr) (oc:Nat) (w3:World) (G:Nat) (w4 W:World),Hid (Bl w1 w2∧∃iv we b1,w1.heap.size≤b1∧NetP w2 b1 n n.K (.slice ba n.K bc) (.slice la n.L lc) iv we)→Hid (Bl w1 w3∧Bl w2 w3∧∃vt iv,TlC w3 w2.heap.size n.K T n.pts ms (.slice oa T oc) vt iv)→Hid (Bl w1 w4∧Bl w3 w4∧∃ve,EndsOk w4 G n.K ve n.ends)→Bl w4 W →
   NewW w n T ms (.returned (.pointer (some ⟨W.heap.size,0,none⟩))) (W.alloc (.cells #[.slice ba n.K bc,.slice la n.L lc,.slice oa T oc,.func (.func 74) #[] #[.pointer (some ⟨B1,0,none⟩),.pointer (some ⟨B2,0,none⟩)],.slice (some ⟨G,0,none⟩) n.K n.K] 92))):=fun ba bc la lc w2 oa oc w3 G w4 W h2 h3 h4 hW=>by
  obtain⟨a1,ivN,weN,b1,a2,a3⟩:=h2.out;obtain⟨_,b2,vt',iv',b3⟩:=h3.out;obtain⟨d1,d2,ve,d3⟩:=h4.out;have d4:=d2.trans (hW.mono d2.size);obtain⟨M,hM⟩:=scene_new (W0:=w1) (V2:=w2) (V3:=w3) (V4:=W) HR.out.few HT4.out a2 a3 b3 a1 b2 d4 (d3.below hW) H1.out.1 HOK.out (fun i hi=>(HR.out.fine i hi).reg);have hwX:=HXB.out.trans (H1.out.2.mono HXB.out.size);have d5:=d1.trans (hW.mono d1.size);have d6:=hwX.trans (d5.mono hwX.size);exact⟨_,_,M,G,ve,rfl,hM,⟨rfl,rfl,rfl,rfl⟩,hwX.size,d6.trans ((bA1 _ _).mono d6.size)⟩
 clear HKN HKT HR HOK HT4 HXB;(go_wp2_with fail);go_region_with (first | (go_at_call 61;refine(HCN.out _ (by first | exact HB0.out _ | exact HB1.out)).mono ?_;rintro e w2 ⟨ba,bc,la,lc,rfl,H2⟩;obtain⟨⟨d0,d1⟩,d2⟩:=HC1.out w2 H2.out.1) | (go_at_call 62;refine(HCT.out w2 _ H2.out.1 (by first | exact Below.refl _ _ | exact below_drewN (Below.refl _ _) _ | exact Below.drew (Below.refl _ _))).mono ?_;rintro e w3 ⟨oa,oc,rfl,H3⟩;obtain⟨⟨f0,f1⟩,f2⟩:=HC1.out w3 H3.out.1) | (go_at_call 74;refine(HCA.out w3 _ H3.out.1 (by first | exact Below.refl _ _ | exact below_drewN (Below.refl _ _) _ | exact Below.drew (Below.refl _ _))).mono ?_;rintro e w4 ⟨G,rfl,H4⟩))
 (all_goals go_wp2_with fail);(all_goals go_ret);all_goals first | exact HFIN.out _ _ _ _ _ _ _ _ _ _ _ H2 H3 H4 (Below.refl _ _) | exact HFIN.out _ _ _ _ _ _ _ _ _ _ _ H2 H3 H4 (below_drewN (Below.refl _ _) _) | exact HFIN.out _ _ _ _ _ _ _ _ _ _ _ H2 H3 H4 (Below.drew (Below.refl _ _))
end
end Go.Proofs.YtaneiffnhphkhaaGreatDoor
