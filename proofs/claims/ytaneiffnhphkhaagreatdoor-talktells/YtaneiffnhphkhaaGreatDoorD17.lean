/- walks: package talk's changePriority -/
import Derived.Test.YtaneiffnhphkhaaGreatDoorD16
set_option maxRecDepth 100000
set_option maxHeartbeats 40000000
namespace Go.Proofs.YtaneiffnhphkhaaGreatDoor
section
open Go.RowKit
open Vc (V Of)
open Pl (En Lk Br)
open Tk (Md Mnd Cn Sc Dn ixM ilist)
theorem do_cells {w:World}{g:Nat}{a0 a1 a2 a3:Value}{ty:TypeId}(h:w.heap[g]?=some (.cells #[a0,a1,a2,a3] ty (0,0))) :
  w.cell? ⟨g,0,none⟩=some a0∧w.cell? ⟨g,1,none⟩=some a1∧w.cell? ⟨g,2,none⟩=some a2∧w.cell? ⟨g,3,none⟩=some a3 :=
 ⟨cell_of_row w g 0 _ _ _ h,cell_of_row w g 1 _ _ _ h,cell_of_row w g 2 _ _ _ h,cell_of_row w g 3 _ _ _ h⟩
theorem ScOk.below {W W':World}{S:Nat}{F:Tf}{s:Sc}{M:Tm}{G:Nat}{ve:Nat→Value}(h:ScOk W S F s M G ve) (hb:Bl W W'):ScOk W' S F s M G ve:=⟨h.at'.below hb,h.ok,h.reg,h.hi,h.sm,h.am⟩
theorem ends_sc {W:World}{S:Nat}{F:Tf}{s:Sc}{M:Tm}{G:Nat}{ve:Nat→Value}(h:ScOk W S F s M G ve) (s':Sc):(fun i=>Pl.ends s'.ls (lvF F.bs s'.ls) F.c.L i)=s'.E F.c:=by
 have e:lvF F.bs s'.ls=s'.lv F.c:=funext (fun k=>by unfold lvF Sc.lv;rw[h.sm]);funext i
 show Pl.ends s'.ls (lvF F.bs s'.ls) F.c.L i=Pl.ends s'.ls (s'.lv F.c) F.c.L i;rw[e]
theorem lk_up (s:Sc) (t:Nat) (up:Bool) (k y:Nat) (hy:y<6):lkC ((s.setUp t up).ls k) y=if k=t∧y=5 then .bool up else lkC (s.ls k) y:=by
 unfold Sc.setUp;by_cases q:k=t
 ·subst q;rcases(by omega:y=0∨y=1∨y=2∨y=3∨y=4∨y=5) with e | e | e | e | e | e<;>subst e<;>simp[lkC]
 ·simp[q]
theorem lk_cost (s:Sc) (t:Nat) (v:Int) (k y:Nat) (hy:y<6):lkC ((s.setCost t v).ls k) y=if k=t∧y=4 then .int .i64 v else lkC (s.ls k) y:=by
 unfold Sc.setCost;by_cases q:k=t
 ·subst q;rcases(by omega:y=0∨y=1∨y=2∨y=3∨y=4∨y=5) with e | e | e | e | e | e<;>subst e<;>simp[lkC]
 ·simp[q]
theorem link_ends {W V':World}{S:Nat}{F:Tf}{s:Sc}{M:Tm}{G:Nat}{ve:Nat→Value}(h:ScOk W S F s M G ve) {s':Sc}{vE:Value}(hC:ScC V' S F s' M vE) (hf:Tk.Fine F.c s') (hk:Tk.Ok F.c s' F.T) {lao:Option Addr}{lcap:Nat}(hv:M.vl=.slice lao F.c.L lcap) :
  ∀V,Bl V' V→Calls Tryz.prog 74 #[.slice lao F.c.L lcap,.pointer (some ⟨F.B1,0,none⟩),.pointer (some ⟨F.B2,0,none⟩)] V fun e w'=>∃G',e=.returned (.slice (some ⟨G',0,none⟩) F.c.K F.c.K)∧Hid (Bl V' w'∧∃ve',ScOk (w'.setCell ⟨S,4,none⟩ (.slice (some ⟨G',0,none⟩) F.c.K F.c.K)) S F s' M G' ve'):=fun V hV=>by
 have hCV:=hC.below hV;obtain⟨lao',lcap',e1,hl,_,_⟩:=owns_c (by omega) hCV.lks;rw[hv] at e1;injection e1 with e2 _ e3;subst e2 e3;refine(pends_any F.c.K F.bs F.B1 F.B2 lao F.c.L lcap s'.ls V h.at'.few hf.fewL (h.am.below hCV.low) hl hf.links).mono ?_;rintro e w' ⟨G',ve',rfl,z1,z2,z3⟩;rw[ends_sc h s'] at z1;have hCw:=hCV.below z3;refine⟨G',rfl,hV.trans (z3.mono hV.size),ve',?_⟩;have hSc:=hCw.scene h.hi (.slice (some ⟨G',0,none⟩) F.c.K F.c.K);have hb:Bt (fun q=>q=S) w' (w'.setCell ⟨S,4,none⟩ (.slice (some ⟨G',0,none⟩) F.c.K F.c.K)):=(Bt.refl (fun q=>q=S) w').setCell (Or.inl rfl) _ _;refine⟨hSc.with' (z1.bt hb (fun e => ?_) (fun q cur hq e => ?_)),hk,h.reg,h.hi,h.sm,h.am⟩
 ·have:=z1.blk;rw[e] at this;exact absurd (cells_type this hCw.blk) (by decide)
 ·subst e;exact absurd (cells_type hq hCw.blk) (by decide)
theorem tchangelink_any (W:World) (S:Nat) (F:Tf) (s:Sc) (M:Tm) (G:Nat) (ve:Nat→Value) (d:Dn) (hkd:d.kind=2∨d.kind=3∨d.kind=4) (h:ScOk W S F s M G ve) :
  Calls Tryz.prog 64 #[.pointer (some ⟨S,0,none⟩),.agg #[.int .i64 d.kind,.int .i64 d.n,.int .i64 d.tree,.int .i64 d.value]] W fun e w' =>
   e=.returned (.int .i64 (Tk.errOf F.c d))∧Below F.base F.W0 w'∧(Tk.errOf F.c d=0→∃M' G' ve',ScOk w' S F (s.one F.c d) M' G' ve'):=by
 have hK:=h.at'.few;have hL:=h.ok.fine.fewL;obtain⟨lao,lcap,el,hlk,_,_⟩:=owns_c (by omega) h.at'.lks;have hlcap:=hlk.1;obtain⟨X,HX⟩:∃X,Hid (X=W.alloc (.cells #[.int .i64 d.kind,.int .i64 d.n,.int .i64 d.tree,.int .i64 d.value] 45)):=⟨_,rfl⟩
 have hXB:Bl W X:=(by rw[HX.out];exact bA1 _ _)
 have hXd:X.heap[W.heap.size]?=some (.cells #[.int .i64 d.kind,.int .i64 d.n,.int .i64 d.tree,.int .i64 d.value] 45):=(by rw[HX.out];exact heap_alloc_last _ _)
 have hA:=h.below hXB;have hSl:S<W.heap.size:=(gSm.1 h.at'.blk).1;obtain⟨d0,d1,d2,d3⟩:=do_cells hXd;obtain⟨_,s1,_,_,_⟩:=hA.at'.cells;rw[el] at s1;have wp:IntKind.i64.wrap ((F.c.L:Int)-1)=(F.c.L:Int)-1:=(by simp[IntKind.wrap,IntKind.bits,IntKind.signed];omega)
 have HWI:Hid (∀V,Calls Tryz.prog 30 #[.int .i64 d.n,.int .i64 0,.int .i64 ((F.c.L:Int)-1)] V fun e w'=>e=.returned (.bool (decide (0≤d.n∧d.n≤(F.c.L:Int)-1)))∧w'=V):=fun V=>gwithin_any _ _ _ V;have HER:Hid (Tk.errOf F.c d=if 0≤d.n∧d.n≤(F.c.L:Int)-1 then(if d.kind=4∧¬(1≤d.value∧d.value≤200000) then 3 else 0) else 6):=by
  show Tk.errOf F.c d=_;unfold Tk.errOf;rw[if_neg (by omega),if_pos hkd]
 have HSC:Hid (∀V,Bl X V→V.cell? ⟨W.heap.size,1,none⟩=some (.int .i64 d.n)∧V.cell? ⟨S,1,none⟩=some (.slice lao F.c.L lcap)):=fun V hV=>by
  have hSX:S<X.heap.size:=Nat.lt_of_lt_of_le hSl hXB.size;exact⟨(do_cells (keep hXd hV)).2.1,(hV.cell (by exact hSX)).trans s1⟩
 have HXX:Hid (Bl X X):=Below.refl _ _;by_cases hn:0≤d.n∧d.n≤(F.c.L:Int)-1
 ·rw[decide_eq_true hn] at HWI;obtain⟨t,ht⟩:∃t:Nat,d.n=(t:Int):=⟨d.n.toNat,by omega⟩
  have htL:t<F.c.L:=(by omega)
  have htn:d.n.toNat=t:=(by omega)
  obtain⟨gl,lc2,sp,e1,hgb,hlc2,hmx,hsp,hh⟩:∃g cap sp,M.vl=.slice (some ⟨g,0,none⟩) F.c.L cap∧F.base≤g∧F.c.L≤cap∧cap≤maxLen∧sp.size+F.c.L*6=cap*6∧X.heap[g]?=some (.cells (rowS sp F.c.L 6 (fun k=>lkC (s.ls k))) 83):=by
   rcases owns_rowS hA.at'.lks with⟨_,q⟩ | q
   ·omega
   ·exact q
  rw[el] at e1;injection e1 with e2 _ e3;subst e2 e3;have HH:Hid (∀V,Bl X V→V.heap[gl]?=some (.cells (rowS sp F.c.L 6 (fun k=>lkC (s.ls k))) 83)):=fun V hV=>keep hh hV;have l4:X.cell? ⟨gl,t*6+4,none⟩=some (.int .i64 (s.ls t).cost):=rowS_cell hh htL (show 4<6 by omega);have l5:X.cell? ⟨gl,t*6+5,none⟩=some (.bool (s.ls t).up):=rowS_cell hh htL (show 5<6 by omega);have lf:∀o,X.frozen? ⟨gl,o,none⟩=false:=fun o=>frozen_of_row _ _ _ _ _ hh;have l4f:=lf (t*6+4);have l5f:=lf (t*6+5);have HST:Hid (∀V,Bl X V→∀(x:Nat) (val:Value) (s':Sc),x<6→s'.pr=s.pr→s'.ms=s.ms→(∀k,k<F.c.L→∀y,y<6→lkC (s'.ls k) y=if k=t∧y=x then val else lkC (s.ls k) y)→ScC (V.setCell ⟨gl,t*6+x,none⟩ val) S F s' M (.slice (some ⟨G,0,none⟩) F.c.K F.c.K)):=fun V hV x val s' hx a1 a2 a3 =>
   (hA.at'.core.below hV).link el hlc2 hmx hsp (keep hh hV) htL hx a1 a2 a3
  have HLE:Hid (∀(V':World) (s':Sc),ScC V' S F s' M (.slice (some ⟨G,0,none⟩) F.c.K F.c.K)→Tk.Ok F.c s' F.T→∀V,Bl V' V→Calls Tryz.prog 74 #[.slice (some ⟨gl,0,none⟩) F.c.L lcap,.pointer (some ⟨F.B1,0,none⟩),.pointer (some ⟨F.B2,0,none⟩)] V fun e w'=>∃G',e=.returned (.slice (some ⟨G',0,none⟩) F.c.K F.c.K)∧Hid (Bl V' w'∧∃ve',ScOk (w'.setCell ⟨S,4,none⟩ (.slice (some ⟨G',0,none⟩) F.c.K F.c.K)) S F s' M G' ve')):=fun V' s' hC hk=>link_ends hA hC hk.fine hk el;have HOK:Hid (Tk.errOf F.c d=0→Tk.Ok F.c (s.one F.c d) F.T):=fun e=>hA.ok.one d e;have HHI:Hid (F.base≤S):=hA.hi;have HCE:Hid (∀(V':World) (s':Sc) (vE:Value),ScC V' S F s' M vE→V'.cell? ⟨S,1,none⟩=some (.slice (some ⟨gl,0,none⟩) F.c.L lcap)∧V'.cell? ⟨S,3,none⟩=some (.func (.func 74) #[] #[.pointer (some ⟨F.B1,0,none⟩),.pointer (some ⟨F.B2,0,none⟩)])∧V'.cell? ⟨S,4,none⟩=some vE∧V'.frozen? ⟨S,4,none⟩=false):=fun V' s' vE hC=>by
   obtain⟨_,q1,_,q3,q4⟩:=hC.cells;rw[el] at q1;exact⟨q1,q3,q4,frozen_of_row _ _ _ _ _ hC.blk⟩
  have it:(0:Int)≤(t:Int):=(by omega)
  have nt:(t:Int)<(F.c.L:Int):=(by omega)
  clear lf;rw[ht] at HWI HSC d1 HX;rcases hkd with k2 | k3 | k4
  ·have HE0:Hid (Tk.errOf F.c d=0):=(by rw[HER.out,if_pos hn,if_neg (by omega)];rfl)
   have HON:Hid (s.one F.c d=s.setUp t true):=by
    show s.one F.c d=_;unfold Sc.one;rw[if_neg (by omega),if_pos k2,htn]
   rw[k2] at d0 HX;rw[k2,ht];clear h hA hlk hXd hXB HER hn hh;go_enter Tryz.func64,Tryz.ntmps64;(go_wp2_with fail);rw[←HX.out];go_region_held3 (fun V=>V.cell? ⟨W.heap.size,1,none⟩=some (.int .i64 (t:Int))∧V.cell? ⟨S,1,none⟩=some (.slice (some ⟨gl,0,none⟩) F.c.L lcap))
    (first | (exact HSC.out _ (Below.drew HXX.out)))
    (first | (go_at_call 30;refine(HWI.out _).mono ?_;rintro e w1 ⟨rfl,rfl⟩))
   (go_wp2_with fail);(go_quiet (fail));(go_wp2_with fail);obtain⟨V',HV⟩:∃V',Hid (V'=(X.drewN (1+nq)).setCell ⟨gl,t*6+5,none⟩ (.bool true)):=⟨_,rfl⟩
   rw[←HV.out];have HC:Hid (ScC V' S F (s.setUp t true) M (.slice (some ⟨G,0,none⟩) F.c.K F.c.K)):=by
    rw[HV.out];exact HST.out _ (below_drewN HXX.out _) 5 (.bool true) (s.setUp t true) (by omega) rfl rfl (fun k _ y hy=>lk_up s t true k y hy)
   have HL2:Hid (∀V,Bl V' V→Calls Tryz.prog 74 #[.slice (some ⟨gl,0,none⟩) F.c.L lcap,.pointer (some ⟨F.B1,0,none⟩),.pointer (some ⟨F.B2,0,none⟩)] V fun e w'=>∃G',e=.returned (.slice (some ⟨G',0,none⟩) F.c.K F.c.K)∧Hid (Bl V' w'∧∃ve',ScOk (w'.setCell ⟨S,4,none⟩ (.slice (some ⟨G',0,none⟩) F.c.K F.c.K)) S F (s.setUp t true) M G' ve')):=HLE.out V' _ HC.out (by rw[←HON.out];exact HOK.out HE0.out);have HCV:Hid (∀V,Bl V' V→V.cell? ⟨S,1,none⟩=some (.slice (some ⟨gl,0,none⟩) F.c.L lcap)∧V.cell? ⟨S,3,none⟩=some (.func (.func 74) #[] #[.pointer (some ⟨F.B1,0,none⟩),.pointer (some ⟨F.B2,0,none⟩)])):=fun V hV=>⟨(HCE.out V _ _ (HC.out.below hV)).1,(HCE.out V _ _ (HC.out.below hV)).2.1⟩
   have HC4:Hid (∀V,Bl V' V→V.cell? ⟨S,4,none⟩=some (.slice (some ⟨G,0,none⟩) F.c.K F.c.K)∧V.frozen? ⟨S,4,none⟩=false):=fun V hV=>(HCE.out V _ _ (HC.out.below hV)).2.2;have HCS:Hid (∀V (u:Value),Bl V' V→(V.setCell ⟨S,4,none⟩ u).cell? ⟨S,1,none⟩=some (.slice (some ⟨gl,0,none⟩) F.c.L lcap)∧(V.setCell ⟨S,4,none⟩ u).cell? ⟨S,3,none⟩=some (.func (.func 74) #[] #[.pointer (some ⟨F.B1,0,none⟩),.pointer (some ⟨F.B2,0,none⟩)])):=fun V u hV=>⟨(HCE.out _ _ _ ((HC.out.below hV).scene HHI.out u)).1,(HCE.out _ _ _ ((HC.out.below hV).scene HHI.out u)).2.1⟩
   have HB0:Hid (Bl V' V'.drew):=Below.drew (Below.refl _ _);obtain⟨v1,v3⟩:=HCV.out V' (Below.refl _ _);clear HST HLE HOK HCE HSC HV HC HX d0 d1 d2 d3 s1 l4 l5 l4f l5f;go_region_held3 (fun V=>V.cell? ⟨S,1,none⟩=some (.slice (some ⟨gl,0,none⟩) F.c.L lcap)∧V.cell? ⟨S,3,none⟩=some (.func (.func 74) #[] #[.pointer (some ⟨F.B1,0,none⟩),.pointer (some ⟨F.B2,0,none⟩)]))
    (first | (with_reducible exact HCV.out _ HB0.out) | (with_reducible exact HCV.out _ HR1.out.1) | (exact HCS.out _ _ HR1.out.1))
    (first | (go_at_call 74;(with_reducible refine(HL2.out _ HB0.out).mono ?_);rintro e w6 ⟨G',rfl,HR1⟩;obtain⟨g0,f0⟩:=HC4.out w6 HR1.out.1))
   (go_wp2_with fail);go_ret;obtain⟨ve',hF⟩:=HR1.out.2;exact⟨by rw[HE0.out];rfl,hF.at'.low,fun _=>⟨M,G',ve',by rw[HON.out];exact hF⟩⟩
  ·have HE0:Hid (Tk.errOf F.c d=0):=(by rw[HER.out,if_pos hn,if_neg (by omega)];rfl)
   have HON:Hid (s.one F.c d=s.setUp t false):=by
    show s.one F.c d=_;unfold Sc.one;rw[if_neg (by omega),if_neg (by omega),if_pos k3,htn]
   rw[k3] at d0 HX;rw[k3,ht];clear h hA hlk hXd hXB HER hn hh;go_enter Tryz.func64,Tryz.ntmps64;(go_wp2_with fail);rw[←HX.out];go_region_held3 (fun V=>V.cell? ⟨W.heap.size,1,none⟩=some (.int .i64 (t:Int))∧V.cell? ⟨S,1,none⟩=some (.slice (some ⟨gl,0,none⟩) F.c.L lcap))
    (first | (exact HSC.out _ (Below.drew HXX.out)))
    (first | (go_at_call 30;refine(HWI.out _).mono ?_;rintro e w1 ⟨rfl,rfl⟩))
   (go_wp2_with fail);(go_quiet (fail));(go_wp2_with fail);obtain⟨V',HV⟩:∃V',Hid (V'=(X.drewN (1+nq)).setCell ⟨gl,t*6+5,none⟩ (.bool false)):=⟨_,rfl⟩
   rw[←HV.out];have HC:Hid (ScC V' S F (s.setUp t false) M (.slice (some ⟨G,0,none⟩) F.c.K F.c.K)):=by
    rw[HV.out];exact HST.out _ (below_drewN HXX.out _) 5 (.bool false) (s.setUp t false) (by omega) rfl rfl (fun k _ y hy=>lk_up s t false k y hy)
   have HL2:Hid (∀V,Bl V' V→Calls Tryz.prog 74 #[.slice (some ⟨gl,0,none⟩) F.c.L lcap,.pointer (some ⟨F.B1,0,none⟩),.pointer (some ⟨F.B2,0,none⟩)] V fun e w'=>∃G',e=.returned (.slice (some ⟨G',0,none⟩) F.c.K F.c.K)∧Hid (Bl V' w'∧∃ve',ScOk (w'.setCell ⟨S,4,none⟩ (.slice (some ⟨G',0,none⟩) F.c.K F.c.K)) S F (s.setUp t false) M G' ve')):=HLE.out V' _ HC.out (by rw[←HON.out];exact HOK.out HE0.out);have HCV:Hid (∀V,Bl V' V→V.cell? ⟨S,1,none⟩=some (.slice (some ⟨gl,0,none⟩) F.c.L lcap)∧V.cell? ⟨S,3,none⟩=some (.func (.func 74) #[] #[.pointer (some ⟨F.B1,0,none⟩),.pointer (some ⟨F.B2,0,none⟩)])):=fun V hV=>⟨(HCE.out V _ _ (HC.out.below hV)).1,(HCE.out V _ _ (HC.out.below hV)).2.1⟩
   have HC4:Hid (∀V,Bl V' V→V.cell? ⟨S,4,none⟩=some (.slice (some ⟨G,0,none⟩) F.c.K F.c.K)∧V.frozen? ⟨S,4,none⟩=false):=fun V hV=>(HCE.out V _ _ (HC.out.below hV)).2.2;have HCS:Hid (∀V (u:Value),Bl V' V→(V.setCell ⟨S,4,none⟩ u).cell? ⟨S,1,none⟩=some (.slice (some ⟨gl,0,none⟩) F.c.L lcap)∧(V.setCell ⟨S,4,none⟩ u).cell? ⟨S,3,none⟩=some (.func (.func 74) #[] #[.pointer (some ⟨F.B1,0,none⟩),.pointer (some ⟨F.B2,0,none⟩)])):=fun V u hV=>⟨(HCE.out _ _ _ ((HC.out.below hV).scene HHI.out u)).1,(HCE.out _ _ _ ((HC.out.below hV).scene HHI.out u)).2.1⟩
   have HB0:Hid (Bl V' V'.drew):=Below.drew (Below.refl _ _);obtain⟨v1,v3⟩:=HCV.out V' (Below.refl _ _);clear HST HLE HOK HCE HSC HV HC HX d0 d1 d2 d3 s1 l4 l5 l4f l5f;go_region_held3 (fun V=>V.cell? ⟨S,1,none⟩=some (.slice (some ⟨gl,0,none⟩) F.c.L lcap)∧V.cell? ⟨S,3,none⟩=some (.func (.func 74) #[] #[.pointer (some ⟨F.B1,0,none⟩),.pointer (some ⟨F.B2,0,none⟩)]))
    (first | (with_reducible exact HCV.out _ HB0.out) | (with_reducible exact HCV.out _ HR1.out.1) | (exact HCS.out _ _ HR1.out.1))
    (first | (go_at_call 74;(with_reducible refine(HL2.out _ HB0.out).mono ?_);rintro e w6 ⟨G',rfl,HR1⟩;obtain⟨g0,f0⟩:=HC4.out w6 HR1.out.1))
   (go_wp2_with fail);go_ret;obtain⟨ve',hF⟩:=HR1.out.2;exact⟨by rw[HE0.out];rfl,hF.at'.low,fun _=>⟨M,G',ve',by rw[HON.out];exact hF⟩⟩
  ·have HWV:Hid (∀V,Calls Tryz.prog 30 #[.int .i64 d.value,.int .i64 1,.int .i64 200000] V fun e w'=>e=.returned (.bool (decide (1≤d.value∧d.value≤200000)))∧w'=V):=fun V=>gwithin_any _ _ _ V;have HLX:Hid (Below F.base F.W0 X):=hA.at'.low;rw[k4] at d0 HX;rw[ht,k4];by_cases hv:1≤d.value∧d.value≤200000
   ·rw[decide_eq_true hv] at HWV;have HE0:Hid (Tk.errOf F.c d=0):=(by rw[HER.out,if_pos hn,if_neg (fun q=>q.2 hv)];rfl)
    have HON:Hid (s.one F.c d=s.setCost t d.value):=by
     show s.one F.c d=_;unfold Sc.one;rw[if_neg (by omega),if_neg (by omega),if_neg (by omega),if_pos k4,htn]
    clear h hA hlk hXd hXB HER hn hh;go_enter Tryz.func64,Tryz.ntmps64;(go_wp2_with fail);rw[←HX.out];go_region_held3 (fun V=>V.cell? ⟨W.heap.size,1,none⟩=some (.int .i64 (t:Int))∧V.cell? ⟨S,1,none⟩=some (.slice (some ⟨gl,0,none⟩) F.c.L lcap))
     (first | (exact HSC.out _ (Below.drew HXX.out)))
     (first | (go_at_call 30;refine(HWI.out _).mono ?_;rintro e w1 ⟨rfl,rfl⟩))
    (go_wp2_with fail);(go_quiet (fail));go_wp2_with (go_at_call 30;refine(HWV.out _).mono ?_;rintro e w2 ⟨rfl,rfl⟩)
    obtain⟨V',HV⟩:∃V',Hid (V'=(X.drewN (1+nq)).setCell ⟨gl,t*6+4,none⟩ (.int .i64 d.value)):=⟨_,rfl⟩
    rw[←HV.out];have HC:Hid (ScC V' S F (s.setCost t d.value) M (.slice (some ⟨G,0,none⟩) F.c.K F.c.K)):=by
     rw[HV.out];exact HST.out _ (below_drewN HXX.out _) 4 (.int .i64 d.value) (s.setCost t d.value) (by omega) rfl rfl (fun k _ y hy=>lk_cost s t d.value k y hy)
    have HL2:Hid (∀V,Bl V' V→Calls Tryz.prog 74 #[.slice (some ⟨gl,0,none⟩) F.c.L lcap,.pointer (some ⟨F.B1,0,none⟩),.pointer (some ⟨F.B2,0,none⟩)] V fun e w'=>∃G',e=.returned (.slice (some ⟨G',0,none⟩) F.c.K F.c.K)∧Hid (Bl V' w'∧∃ve',ScOk (w'.setCell ⟨S,4,none⟩ (.slice (some ⟨G',0,none⟩) F.c.K F.c.K)) S F (s.setCost t d.value) M G' ve')):=HLE.out V' _ HC.out (by rw[←HON.out];exact HOK.out HE0.out);have HCV:Hid (∀V,Bl V' V→V.cell? ⟨S,1,none⟩=some (.slice (some ⟨gl,0,none⟩) F.c.L lcap)∧V.cell? ⟨S,3,none⟩=some (.func (.func 74) #[] #[.pointer (some ⟨F.B1,0,none⟩),.pointer (some ⟨F.B2,0,none⟩)])):=fun V hV=>⟨(HCE.out V _ _ (HC.out.below hV)).1,(HCE.out V _ _ (HC.out.below hV)).2.1⟩
    have HC4:Hid (∀V,Bl V' V→V.cell? ⟨S,4,none⟩=some (.slice (some ⟨G,0,none⟩) F.c.K F.c.K)∧V.frozen? ⟨S,4,none⟩=false):=fun V hV=>(HCE.out V _ _ (HC.out.below hV)).2.2;have HCS:Hid (∀V (u:Value),Bl V' V→(V.setCell ⟨S,4,none⟩ u).cell? ⟨S,1,none⟩=some (.slice (some ⟨gl,0,none⟩) F.c.L lcap)∧(V.setCell ⟨S,4,none⟩ u).cell? ⟨S,3,none⟩=some (.func (.func 74) #[] #[.pointer (some ⟨F.B1,0,none⟩),.pointer (some ⟨F.B2,0,none⟩)])):=fun V u hV=>⟨(HCE.out _ _ _ ((HC.out.below hV).scene HHI.out u)).1,(HCE.out _ _ _ ((HC.out.below hV).scene HHI.out u)).2.1⟩
    have HB0:Hid (Bl V' V'.drew):=Below.drew (Below.refl _ _);obtain⟨v1,v3⟩:=HCV.out V' (Below.refl _ _);clear HST HLE HOK HCE HSC HV HC HX d0 d1 d2 d3 s1 l4 l5 l4f l5f;go_region_held3 (fun V=>V.cell? ⟨S,1,none⟩=some (.slice (some ⟨gl,0,none⟩) F.c.L lcap)∧V.cell? ⟨S,3,none⟩=some (.func (.func 74) #[] #[.pointer (some ⟨F.B1,0,none⟩),.pointer (some ⟨F.B2,0,none⟩)]))
     (first | (with_reducible exact HCV.out _ HB0.out) | (with_reducible exact HCV.out _ HR1.out.1) | (exact HCS.out _ _ HR1.out.1))
     (first | (go_at_call 74;(with_reducible refine(HL2.out _ HB0.out).mono ?_);rintro e w6 ⟨G',rfl,HR1⟩;obtain⟨g0,f0⟩:=HC4.out w6 HR1.out.1))
    (go_wp2_with fail);go_ret;obtain⟨ve',hF⟩:=HR1.out.2;exact⟨by rw[HE0.out];rfl,hF.at'.low,fun _=>⟨M,G',ve',by rw[HON.out];exact hF⟩⟩
   ·rw[decide_eq_false hv] at HWV;have HE3:Hid (Tk.errOf F.c d=3):=(by rw[HER.out,if_pos hn,if_pos ⟨k4,hv⟩];rfl)
    clear h hA hlk hXd hXB HER hn hh;go_enter Tryz.func64,Tryz.ntmps64;(go_wp2_with fail);rw[←HX.out];go_region_held3 (fun V=>V.cell? ⟨W.heap.size,1,none⟩=some (.int .i64 (t:Int))∧V.cell? ⟨S,1,none⟩=some (.slice (some ⟨gl,0,none⟩) F.c.L lcap))
     (first | (exact HSC.out _ (Below.drew HXX.out)))
     (first | (go_at_call 30;refine(HWI.out _).mono ?_;rintro e w1 ⟨rfl,rfl⟩))
    (go_wp2_with fail);(go_quiet (fail));go_wp2_with (go_at_call 30;refine(HWV.out _).mono ?_;rintro e w2 ⟨rfl,rfl⟩)
    go_ret;exact⟨by rw[HE3.out];rfl,below_drewN HLX.out _,fun e=>by rw[HE3.out] at e;cases e⟩
 ·rw[decide_eq_false hn] at HWI;have HE6:Hid (Tk.errOf F.c d=6):=(by rw[HER.out,if_neg hn];rfl)
  have HLW:Hid (Below F.base F.W0 X):=hA.at'.low;clear h hA hlk hXd hXB HER hkd hn;go_enter Tryz.func64,Tryz.ntmps64;(go_wp2_with fail);rw[←HX.out];go_region_held3 (fun V=>V.cell? ⟨W.heap.size,1,none⟩=some (.int .i64 d.n)∧V.cell? ⟨S,1,none⟩=some (.slice lao F.c.L lcap))
   (first | (exact HSC.out _ (Below.drew HXX.out)))
   (first | (go_at_call 30;refine(HWI.out _).mono ?_;rintro e w1 ⟨rfl,rfl⟩))
  (go_wp2_with fail);go_ret;exact⟨by rw[HE6.out];rfl,Below.drew HLW.out,fun e=>by rw[HE6.out] at e;cases e⟩
namespace Tk
def Sc.setL (s:Sc) (t:Nat) (l:List Int):Sc:=⟨fun j=>if j=t then l else s.pr j,s.ls,s.ms⟩
theorem ilist_setL {K T:Nat}(pts:Nat→List Int) (s:Sc) {t:Nat}(hK:K≤12) (ht:t<K) (l:List Int) (a:Nat):ilist K T pts (s.setL t l) a=upF (ilist K T pts s) t l a:=by
 unfold ilist Sc.setL;by_cases q:a=t
 ·subst q;rw[upF_same,if_pos (by omega),if_pos ht];simp
 ·rw[upF_other _ _ q];simp only[q,if_false]
end Tk
section
variable {W W':World}{S:Nat}{F:Tf}{s:Sc}{M:Tm}{vE:Value}
theorem ScC.parts2 (h:ScC W S F s M vE) {P:Nat→Prop}(hb:Bt P W W') (hP:∀q cur e,W.heap[q]?=some (.cells cur e (0,0))→e≠3→e≠74→¬P q) (hlo:∀q,q<F.base→¬P q) :
  W'.heap[S]?=some (.cells #[M.vb,M.vl,M.vo,.func (.func 74) #[] #[.pointer (some ⟨F.B1,0,none⟩),.pointer (some ⟨F.B2,0,none⟩)],vE] 92) ∧
  W'.ownsRow F.base 83 6 M.vl F.c.L (cellsL F.c.L 6 (fun k=>lkC (s.ls k))) ∧
  W'.ownsRow F.base 64 1 M.vo F.T (cellsL F.T 1 (fun k _=>M.vt k)) ∧
  Fam W' F.base 66 9 F.T M.vt (fun _=>F.c.K) (fun k i=>M.mc s k i) ∧
  Fam W' F.base 81 2 12 M.we (fun i=>if i<F.c.K then(F.rg i).n else 0) (fun i j=>wyC ((F.rg i).vs j) ((F.rg i).ts j))∧Below F.base F.W0 W':=by
 have ko:∀{e k n:Nat}{v:Value}{xs:List Value},W.ownsRow F.base e k v n xs→e≠3→e≠74→W'.ownsRow F.base e k v n xs:=fun ho he he2=>owns_keep ho (fun q hq=>by
  obtain⟨cur,hc⟩:=owns_type ho hq;exact hb.block q (oCb ho q hq).2 (hP q cur _ hc he he2))
 have kf:∀{e kk T:Nat}{v:Nat→Value}{n:Nat→Nat}{c:Nat→Nat→Nat→Value},Fam W F.base e kk T v n c→e≠3→e≠74→Fam W' F.base e kk T v n c:=fun hf he he2=>hf.bt hb (fun a ha q hq=>by
  obtain⟨cur,hc⟩:=owns_type (hf.own a ha) hq;exact hP q cur _ hc he he2)
 exact⟨hb.keep h.blk (hP _ _ _ h.blk (by decide) (by decide)),ko h.lks (by decide) (by decide),ko h.out (by decide) (by decide),kf h.mds (by decide) (by decide),kf h.ways (by decide) (by decide),h.low.trans (hb.below h.low.size hlo)⟩
theorem ScC.prio (h:ScC W S F s M vE) {t gb cap:Nat}(ht:t<F.c.K) {sp:Array Value}(hv:M.vb=.slice (some ⟨gb,0,none⟩) F.c.K cap) (hcap:F.c.K≤cap) (hmx:cap≤maxLen) (hsp:sp.size+F.c.K*5=cap*5) (hh:W.heap[gb]?=some (.cells (rowS sp F.c.K 5 (fun i=>brX (F.c.addr i) (M.iv i) (F.rg i).s (F.rg i).rev (M.we i))) 74))
  {W2:World}{v':Value}{l':List Int}(ho:W2.ownsRow F.base 3 1 v' l'.length (intCells l')) (hoth:∀q,q<W.heap.size→(M.iv t).ownBlock≠some q→W2.heap[q]?=W.heap[q]?) (hown:v'.ownBlock=(M.iv t).ownBlock∨v'.ownBlock=some (W.heap.size+1)) (hB:Below F.base W W2) :
  ScC (W2.setCell ⟨gb,t*5+1,none⟩ v') S F (s.setL t l') { M with iv:=upF M.iv t v' } vE:=by
 have hK:=h.few;have h156:t<156:=(by omega)
 have hbgb:F.base≤gb:=(oCb h.brs gb (by rw[hv];rfl)).1;have hit:=h.ints.own t h156;have hgn:(M.iv t).ownBlock≠some gb:=fun q=>by
  obtain⟨cur,hc⟩:=owns_type hit q;exact absurd (cells_type hc hh) (by decide)
 have hgl:gb<W.heap.size:=(gSm.1 hh).1;have hh2:W2.heap[gb]?=some (.cells (rowS sp F.c.K 5 (fun i=>brX (F.c.addr i) (M.iv i) (F.rg i).s (F.rg i).rev (M.we i))) 74):=(hoth gb hgl hgn).trans hh;have hvg:v'.ownBlock≠some gb:=fun q=>by
  obtain⟨cur,hc⟩:=owns_type ho q;exact absurd (cells_type hc hh2) (by decide)
 have hb1:Bt (fun q=>(M.iv t).ownBlock=some q∨q=gb) W W2:=⟨hB.os,hB.tape,hB.output,hB.size,fun q hq hn=>hoth q hq (fun e=>hn (Or.inl e))⟩
 have hb:Bt (fun q=>(M.iv t).ownBlock=some q∨q=gb) W (W2.setCell ⟨gb,t*5+1,none⟩ v'):=hb1.setCell (Or.inl (Or.inr rfl)) _ _;obtain⟨p1,p3,p4,p5,p7,p8⟩:=h.parts2 hb (fun q cur e hq n1 n2 hp=>by
  rcases hp with hp | hp
  ·obtain⟨c2,hc2⟩:=owns_type hit hp;exact n1 (cells_type hq hc2)
  ·subst hp;exact n2 (cells_type hq hh)) (fun q hq hp=>by
  rcases hp with hp | hp
  ·have:=(oCb hit q hp).1;omega
  ·omega)
 refine⟨p1,?_,p3,p4,p5.congr (fun _ _=>rfl) (fun a ha i hi y _ => ?_),?_,p7,p8,h.few,h.fewT⟩
 ·show(W2.setCell ⟨gb,t*5+1,none⟩ v').ownsRow F.base 74 5 M.vb F.c.K _;rw[hv];refine rowS_owns hbgb hcap hmx hsp ?_;refine(rowS_set hh2 ht (show 1<5 by omega) v').trans (congrArg (fun a=>some (Obj.cells a 74)) (rowS_congr2 sp ?_));intro i hi y hy;unfold updC;show _=brX (F.c.addr i) (upF M.iv t v' i) (F.rg i).s (F.rg i).rev (M.we i) y;by_cases q:i=t
  ·subst q;rw[upF_same];rcases(by omega:y=0∨y=1∨y=2∨y=3∨y=4) with e | e | e | e | e<;>subst e<;>simp[brX]
  ·rw[if_neg (fun p=>q p.1),upF_other _ _ q]
 ·unfold Tm.mc Sc.setL;simp only;rw[upF_other _ _ (by unfold ixM;omega),upF_other _ _ (by unfold ixM;omega),upF_other _ _ (by unfold ixM;omega)]
 ·have ho3:(W2.setCell ⟨gb,t*5+1,none⟩ v').ownsRow F.base 3 1 v' l'.length (intCells l'):=owns_keep ho (fun q hq=>heap_setCell_other _ _ _ _ (by
   intro e;have e2:q=gb:=e;subst e2;exact hvg hq))
  have hil:∀a,F.il (s.setL t l') a=upF (F.il s) t l' a:=fun a=>Tk.ilist_setL F.pts s hK ht l' a;refine⟨fun a ha => ?_,fun a b ha hb' q hqa hqb => ?_⟩
  ·show(W2.setCell ⟨gb,t*5+1,none⟩ v').ownsRow F.base 3 1 (upF M.iv t v' a) (F.il (s.setL t l') a).length _;rw[hil];by_cases q:a=t
   ·subst q;rw[upF_same,upF_same];exact ho3
   ·rw[upF_other _ _ q,upF_other _ _ q];exact owns_keep (h.ints.own a ha) (fun r hr=>hb.block r (oCb (h.ints.own a ha) r hr).2 (fun hp=>by
     rcases hp with hp | hp
     ·exact q (h.ints.one a t ha h156 r hr hp)
     ·subst hp;obtain⟨c2,hc2⟩:=owns_type (h.ints.own a ha) hr;exact absurd (cells_type hc2 hh) (by decide)))
  ·have hqa:(upF M.iv t v' a).ownBlock=some q:=hqa;have hqb:(upF M.iv t v' b).ownBlock=some q:=hqb;by_cases qa:a=t
   ·by_cases qb:b=t
    ·rw[qa,qb]
    ·subst qa;rw[upF_same] at hqa;rw[upF_other _ _ qb] at hqb;rcases hown with e | e
     ·rw[e] at hqa;exact h.ints.one a b ha hb' q hqa hqb
     ·rw[e] at hqa;injection hqa with hqa;have:=(oCb (h.ints.own b hb') q hqb).2;omega
   ·by_cases qb:b=t
    ·subst qb;rw[upF_same] at hqb;rw[upF_other _ _ qa] at hqa;rcases hown with e | e
     ·rw[e] at hqb;exact h.ints.one a b ha hb' q hqa hqb
     ·rw[e] at hqb;injection hqb with hqb;have:=(oCb (h.ints.own a ha) q hqa).2;omega
    ·rw[upF_other _ _ qa] at hqa;rw[upF_other _ _ qb] at hqb;exact h.ints.one a b ha hb' q hqa hqb
theorem ScC.prioSet (h:ScC W S F s M vE) {t gp cap x:Nat}(ht:t<F.c.K) {sp:Array Value}(hv:M.iv t=.slice (some ⟨gp,0,none⟩) (s.pr t).length cap) (hcap:(s.pr t).length≤cap) (hmx:cap≤maxLen) (hsp:sp.size+(s.pr t).length*1=cap*1) (hh:W.heap[gp]?=some (.cells (rowS sp (s.pr t).length 1 (fun a _=>.int .i64 (IL (s.pr t) a))) 3)) (hx:x<(s.pr t).length) (z:Int) :
  ScC (W.setCell ⟨gp,x,none⟩ (.int .i64 z)) S F (s.setL t ((s.pr t).set x z)) M vE:=by
 have hK:=h.few;have h156:t<156:=(by omega)
 have hb:Bt (fun q=>q=gp) W (W.setCell ⟨gp,x,none⟩ (.int .i64 z)):=(Bt.refl (fun q=>q=gp) W).setCell (Or.inl rfl) _ _;have hit:=h.ints.own t h156;have hlo:F.base≤gp:=(oCb hit gp (by rw[hv];rfl)).1;obtain⟨p1,p2,p3,p4,p5,_,p7,p8⟩:=h.parts (eP:=3) hb (fun q cur e hq he hp=>by subst hp;exact he (cells_type hq hh)) (fun q hq hp=>by omega);have hil:∀a,F.il (s.setL t ((s.pr t).set x z)) a=upF (F.il s) t ((s.pr t).set x z) a:=fun a=>Tk.ilist_setL F.pts s hK ht _ a;have hlen:(F.il s t).length=(s.pr t).length:=(by rw[show F.il s t=s.pr t from Tk.ilist_prio hK F.pts s ht])
 refine⟨p1 (by decide),p2 (by decide),p3 (by decide),p4 (by decide),p5 (by decide),?_,p7 (by decide),p8,h.few,h.fewT⟩;have hrow:(W.setCell ⟨gp,x,none⟩ (.int .i64 z)).heap[gp]?=some (.cells (rowS sp (F.il s t).length 1 (fun a _=>.int .i64 (IL ((s.pr t).set x z) a))) 3):=by
  have h0:=rowS_set hh hx (show 0<1 by omega) (.int .i64 z);rw[show x*1+0=x by omega] at h0;rw[hlen];refine h0.trans (congrArg (fun a=>some (Obj.cells a 3)) (rowS_congr2 sp ?_));intro a ha y hy;unfold updC IL;by_cases q:a=x
  ·subst q;rw[if_pos ⟨rfl,by omega⟩];simp[ha]
  ·rw[if_neg (fun p=>q p.1)];have:x≠a:=fun e=>q e.symm;simp[this]
 refine(h.ints.write h156 (by rw[hlen];exact hv) hb (fun a ha hne q hq hp => ?_) (by rw[hlen];exact hcap) hmx (by rw[hlen];exact hsp) hrow).congr (fun a ha => ?_) (fun a ha i hi y hy => ?_)
 ·subst hp;exact hne (h.ints.one a t ha h156 q hq (by rw[hv];rfl))
 ·rw[hil];by_cases q:a=t
  ·subst q;rw[upF_same,hlen];simp
  ·rw[upF_other _ _ q]
 ·rw[hil];by_cases q:a=t
  ·subst q;rw[upF_same,upF_same]
  ·rw[upF_other _ _ q,upF_other _ _ q]
end
def lenAt (w:World) (g o:Nat):Nat:=match w.cell? ⟨g,o,none⟩ with | some (.slice _ n _)=>n | _=>0
theorem ends_keep {W W3:World}{G K:Nat}{ve:Nat→Value}{E:Nat→List En}{P:Nat→Prop}(h:EndsOk W G K ve E) (hb:Bt P W W3) (hP:∀q cur e,W.heap[q]?=some (.cells cur e (0,0))→e≠3→e≠74→¬P q):EndsOk W3 G K ve E :=
 h.bt hb (hP _ _ _ h.blk (by decide) (by decide)) (fun q cur hq=>hP q cur _ hq (by decide) (by decide))
theorem prio_more {W Wd:World}{S:Nat}{F:Tf}{s:Sc}{M:Tm}{G:Nat}{ve:Nat→Value}(h:ScAt W S F s M G ve) {t gb cap:Nat}(ht:t<F.c.K) (hv:M.vb=.slice (some ⟨gb,0,none⟩) F.c.K cap) (hl:(s.pr t).length≤1000) (z:Int) (hd:Bl W Wd) (hds:Wd.heap.size=W.heap.size) :
  ∃vo vc w2,(Builtin.append_ #[59,59] 59 #[M.iv t,.slice (some ⟨W.heap.size,0,none⟩) 1 1]).run Tryz.prog (Wd.alloc (.cells #[.int .i64 z] 3))=.ok (.slice vo (s.pr t++[z]).length vc) w2∧w2.cell? ⟨gb,t*5+1,none⟩=some (M.iv t)∧w2.frozen? ⟨gb,t*5+1,none⟩=false ∧
   ScAt (w2.setCell ⟨gb,t*5+1,none⟩ (.slice vo (s.pr t++[z]).length vc)) S F (s.setL t (s.pr t++[z])) { M with iv:=upF M.iv t (.slice vo (s.pr t++[z]).length vc) } G ve∧lenAt (w2.setCell ⟨gb,t*5+1,none⟩ (.slice vo (s.pr t++[z]).length vc)) gb (t*5+1)=(s.pr t).length+1∧∀(q:Nat) (cur:Array Value),W.heap[q]?=some (.cells cur 45)→(w2.setCell ⟨gb,t*5+1,none⟩ (.slice vo (s.pr t++[z]).length vc)).heap[q]?=some (.cells cur 45):=by
 have hK:=h.few;have hit:=h.ints.own t (by omega);have e1:F.il s t=s.pr t:=Tk.ilist_prio hK F.pts s ht;rw[e1] at hit;obtain⟨vo,vc,w2,hrun,ho,hoth,hown,hB,_⟩:=int_more2 hit h.low.size (by omega) z hd hds;obtain⟨gb',cap',sp,e2,hgb,hn,hmx,hsp,hh⟩:∃g cap sp,M.vb=.slice (some ⟨g,0,none⟩) F.c.K cap∧F.base≤g∧F.c.K≤cap∧cap≤maxLen∧sp.size+F.c.K*5=cap*5∧W.heap[g]?=some (.cells (rowS sp F.c.K 5 (fun i=>brX (F.c.addr i) (M.iv i) (F.rg i).s (F.rg i).rev (M.we i))) 74):=by
  rcases owns_rowS h.brs with⟨_,q⟩ | q
  ·omega
  ·exact q
 rw[hv] at e2;injection e2 with e3 _ e4;injection e3 with e5;injection e5 with e6;subst e6 e4;have hgn:(M.iv t).ownBlock≠some gb:=fun q=>by
  obtain⟨cur,hc⟩:=owns_type hit q;exact absurd (cells_type hc hh) (by decide)
 have hgl:gb<W.heap.size:=(gSm.1 hh).1;have hh2:w2.heap[gb]?=some (.cells (rowS sp F.c.K 5 (fun i=>brX (F.c.addr i) (M.iv i) (F.rg i).s (F.rg i).rev (M.we i))) 74):=(hoth gb hgl hgn).trans hh;have hC:=h.core.prio ht hv hn hmx hsp hh ho hoth hown hB;have hb1:Bt (fun q=>(M.iv t).ownBlock=some q∨q=gb) W w2:=⟨hB.os,hB.tape,hB.output,hB.size,fun q hq hn=>hoth q hq (fun e=>hn (Or.inl e))⟩
 have hb:Bt (fun q=>(M.iv t).ownBlock=some q∨q=gb) W (w2.setCell ⟨gb,t*5+1,none⟩ (.slice vo (s.pr t++[z]).length vc)):=hb1.setCell (Or.inl (Or.inr rfl)) _ _;refine⟨vo,vc,w2,hrun,rowS_cell hh2 ht (show 1<5 by omega),frozen_of_row _ _ _ _ _ hh2,hC.with' (ends_keep h.ends hb (fun q cur e hq n1 n2 hp => ?_)),?_,fun q cur hq=>hb.keep hq (fun hp => ?_)⟩
 ·rcases hp with hp | hp
  ·obtain⟨c2,hc2⟩:=owns_type hit hp;exact n1 (cells_type hq hc2)
  ·subst hp;exact n2 (cells_type hq hh)
 rotate_left
 ·rcases hp with hp | hp
  ·obtain⟨c2,hc2⟩:=owns_type hit hp;exact absurd (cells_type hq hc2) (by decide)
  ·subst hp;exact absurd (cells_type hq hh) (by decide)
 ·unfold lenAt;have h5:=rowS_set hh2 ht (show 1<5 by omega) (.slice vo (s.pr t++[z]).length vc);have:=rowS_cell h5 ht (show 1<5 by omega);rw[this];unfold updC;simp
theorem prio_set {W:World}{S:Nat}{F:Tf}{s:Sc}{M:Tm}{G:Nat}{ve:Nat→Value}(h:ScAt W S F s M G ve) {t x:Nat}(ht:t<F.c.K) (hx:x<(s.pr t).length) (z:Int) :
  ∃gp cap,M.iv t=.slice (some ⟨gp,0,none⟩) (s.pr t).length cap∧(s.pr t).length≤cap∧W.cell? ⟨gp,x,none⟩=some (.int .i64 (IL (s.pr t) x))∧W.frozen? ⟨gp,x,none⟩=false∧ScAt (W.setCell ⟨gp,x,none⟩ (.int .i64 z)) S F (s.setL t ((s.pr t).set x z)) M G ve:=by
 have hK:=h.few;have hit:=h.ints.own t (by omega);have e1:F.il s t=s.pr t:=Tk.ilist_prio hK F.pts s ht;rw[e1] at hit;rcases owns_rowS hit with⟨_,q⟩ | ⟨gp,cap,sp,e2,hg,hn,hmx,hsp,hh⟩
 ·omega
 ·have hc:=rowS_cell hh hx (show 0<1 by omega);rw[show x*1+0=x by omega] at hc;have hb:Bt (fun q=>q=gp) W (W.setCell ⟨gp,x,none⟩ (.int .i64 z)):=(Bt.refl (fun q=>q=gp) W).setCell (Or.inl rfl) _ _;exact⟨gp,cap,e2,hn,hc,frozen_of_row _ _ _ _ _ hh,(h.core.prioSet ht e2 hn hmx hsp hh hx z).with' (ends_keep h.ends hb (fun q cur e hq n1 _ hp=>by subst hp;exact n1 (cells_type hq hh)))⟩
end
end Go.Proofs.YtaneiffnhphkhaaGreatDoor
