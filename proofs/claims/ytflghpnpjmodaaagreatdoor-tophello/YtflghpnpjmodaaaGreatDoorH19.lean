/- walks: slices.Clone at bridges, links, ints, ways, minds and rows of minds -/
import Derived.Test.YtflghpnpjmodaaaGreatDoorH18
import Derived.Test.YtflghpnpjmodaaaGreatDoorH01
set_option maxRecDepth 100000
set_option maxHeartbeats 40000000
namespace Go.Proofs.YtflghpnpjmodaaaGreatDoor
section
open Go.RowKit
open Vc (V Of)
open Pl (En Lk Br)
open Tk (Md Mnd Cn Sc Dn ixM ilist)
theorem setL_setL (s:Sc) (t:Nat) (a b:List Int):(s.setL t a).setL t b=s.setL t b:=by
 unfold Tk.Sc.setL;congr 1
 funext j
 by_cases q:j=t
 ·simp[q]
 ·simp[q]
theorem setL_same (s:Sc) (t:Nat):s.setL t (s.pr t)=s:=by
 unfold Tk.Sc.setL;congr 1
 funext j
 by_cases q:j=t
 ·simp[q]
 ·simp[q]
def padN (p:List Int) (j:Nat):List Int:=p++List.replicate j 32768
theorem padN_len (p:List Int) (j:Nat):(padN p j).length=p.length+j:=by simp[padN]
theorem padN_more (p:List Int) (j:Nat):padN p j++[32768]=padN p (j+1):=by
 unfold padN;rw[List.append_assoc,List.replicate_succ']
theorem tchangeprio_any (W:World) (S:Nat) (F:Tf) (s:Sc) (M:Tm) (G:Nat) (ve:Nat→Value) (d:Dn) (hkd:d.kind=5) (h:ScOk W S F s M G ve) :
  Calls Tryz.prog 98 #[.pointer (some ⟨S,0,none⟩),.agg #[.int .i64 d.kind,.int .i64 d.n,.int .i64 d.tree,.int .i64 d.value]] W fun e w' =>
   e=.returned (.int .i64 (Tk.errOf F.c d))∧Below F.base F.W0 w'∧(Tk.errOf F.c d=0→∃M' G' ve',ScOk w' S F (s.one F.c d) M' G' ve'):=by
 have hK:=h.at'.few;obtain⟨bao,bcap,eb,hbr,_,_⟩:=owns_c (by omega) h.at'.brs;have hbcap:=hbr.1;obtain⟨X,HX⟩:∃X,Hid (X=W.alloc (.cells #[.int .i64 d.kind,.int .i64 d.n,.int .i64 d.tree,.int .i64 d.value] 47)):=⟨_,rfl⟩
 have hXB:Bl W X:=(by rw[HX.out];exact bA1 _ _)
 have hXd:X.heap[W.heap.size]?=some (.cells #[.int .i64 d.kind,.int .i64 d.n,.int .i64 d.tree,.int .i64 d.value] 47):=(by rw[HX.out];exact heap_alloc_last _ _)
 have hA:=h.below hXB;have hSl:S<W.heap.size:=(gSm.1 h.at'.blk).1;obtain⟨d0,d1,d2,d3⟩:=do_cells hXd;obtain⟨s0,_,_,_,_⟩:=hA.at'.cells;rw[eb] at s0;have wp:IntKind.i64.wrap ((F.c.K:Int)-1)=(F.c.K:Int)-1:=(by simp[IntKind.wrap,IntKind.bits,IntKind.signed];omega)
 have HWI:Hid (∀V,Calls Tryz.prog 32 #[.int .i64 d.n,.int .i64 0,.int .i64 ((F.c.K:Int)-1)] V fun e w'=>e=.returned (.bool (decide (0≤d.n∧d.n≤(F.c.K:Int)-1)))∧w'=V):=fun V=>gwithin_any _ _ _ V;have HWT:Hid (∀V,Calls Tryz.prog 32 #[.int .i64 d.tree,.int .i64 0,.int .i64 15] V fun e w'=>e=.returned (.bool (decide (0≤d.tree∧d.tree≤15)))∧w'=V):=fun V=>gwithin_any _ _ _ V;have HIP:Hid (∀V,Calls Tryz.prog 140 #[.int .i64 d.value] V fun e w'=>e=.returned (.bool (!Pl.oddP d.value))∧w'=V):=fun V=>pisprio_any _ V;have HER:Hid (Tk.errOf F.c d=if 0≤d.n∧d.n≤(F.c.K:Int)-1 then(if (0≤d.tree∧d.tree≤15)∧Pl.oddP d.value=false then 0 else 3) else 6):=by
  show Tk.errOf F.c d=_;unfold Tk.errOf;rw[if_neg (by omega),if_neg (by omega),if_pos hkd]
 have HSC:Hid (∀V,Bl X V→V.cell? ⟨W.heap.size,1,none⟩=some (.int .i64 d.n)∧V.cell? ⟨S,0,none⟩=some (.slice bao F.c.K bcap)):=fun V hV=>by
  have hSX:S<X.heap.size:=Nat.lt_of_lt_of_le hSl hXB.size;exact⟨(do_cells (keep hXd hV)).2.1,(hV.cell (by exact hSX)).trans s0⟩
 have HXX:Hid (Bl X X):=Below.refl _ _;have HLW:Hid (Below F.base F.W0 X):=hA.at'.low;by_cases hn:0≤d.n∧d.n≤(F.c.K:Int)-1
 ·rw[decide_eq_true hn] at HWI;by_cases htr:0≤d.tree∧d.tree≤15
  ·rw[decide_eq_true htr] at HWT;by_cases hod:Pl.oddP d.value=false
   ·rw[hod] at HIP;have HE0:Hid (Tk.errOf F.c d=0):=(by rw[HER.out,if_pos hn,if_pos ⟨htr,hod⟩];rfl)
    obtain⟨t,ht⟩:∃t:Nat,d.n=(t:Int):=⟨d.n.toNat,by omega⟩
    obtain⟨r,hr⟩:∃r:Nat,d.tree=(r:Int):=⟨d.tree.toNat,by omega⟩
    have htK:t<F.c.K:=(by omega)
    have hr15:r≤15:=(by omega)
    obtain⟨gb,boff,rfl,_⟩:=CRow.some hbr (by omega);obtain rfl:boff=0:=by
     rcases owns_rowS h.at'.brs with⟨_,q⟩ | ⟨g',c',_,e1,_⟩
     ·omega
     ·rw[eb] at e1;injection e1 with e2;injection e2 with e3;injection e3
    have HON:Hid (s.one F.c d=s.setL t (Tk.setPr (s.pr t) r d.value)):=by
     show s.one F.c d=_;unfold Sc.one;rw[if_neg (by omega),if_neg (by omega),if_neg (by omega),if_neg (by omega),show d.n.toNat=t by omega,show d.tree.toNat=r by omega];rfl
    have HOK:Hid (Tk.Ok F.c (s.one F.c d) F.T):=hA.ok.one d HE0.out;have hpl:=(hA.ok.fine.prios t htK).1;have H0:Hid (∀V,Bl X V→∃(j:Nat) (v:Nat→Value),(s.pr t).length+j≤max (s.pr t).length (r+1)∧ScAt V S F (s.setL t (padN (s.pr t) j)) { M with iv:=v } G ve∧V.heap[W.heap.size]?=some (.cells #[.int .i64 d.kind,.int .i64 (t:Int),.int .i64 (r:Int),.int .i64 d.value] 47)):=fun V hV=>by
     refine⟨0,M.iv,by omega,?_,?_⟩
     ·have e:padN (s.pr t) 0=s.pr t:=(by simp[padN])
      rw[e,setL_same];exact hA.at'.below hV
     ·rw[←ht,←hr];exact keep hXd hV
    have HAL:Hid (∀V s' v',ScAt V S F s' { M with iv:=v' } G ve→s'=s.one F.c d→ScOk V S F (s.one F.c d) { M with iv:=v' } G ve):=fun V s' v' hV e=>by
     subst e;exact⟨hV,HOK.out,hA.reg,hA.hi,hA.sm,hA.am⟩
    have HEB:Hid (M.vb=.slice (some ⟨gb,0,none⟩) F.c.K bcap):=eb;rw[ht] at HWI HSC d1 HX;rw[hr] at HWT d2 HX;rw[ht,hr];have it:(0:Int)≤(t:Int):=(by omega)
    have nt:(t:Int)<(F.c.K:Int):=(by omega)
    clear h hA hbr hXd hXB HER hn htr eb hkd ht hr;go_enter Tryz.func98,Tryz.ntmps98;(go_wp2_with fail);rw[←HX.out];go_region_held3 (fun V=>V.cell? ⟨W.heap.size,1,none⟩=some (.int .i64 (t:Int))∧V.cell? ⟨S,0,none⟩=some (.slice (some ⟨gb,0,none⟩) F.c.K bcap))
     (first | (exact HSC.out _ (Below.drew HXX.out)))
     (first | (go_at_call 32;refine(HWI.out _).mono ?_;rintro e w1 ⟨rfl,rfl⟩))
    go_wp2_with (first | (go_at_call 32;refine(HWT.out _).mono ?_;rintro e w2 ⟨rfl,rfl⟩) | (go_at_call 140;refine(HIP.out _).mono ?_;rintro e w2 ⟨rfl,rfl⟩))
    (go_quiet (fail));(go_wp2_with fail);clear d0 d1 d2 d3 s0 HWI HWT HIP HSC;go_loopw [] (fun wr=>Hid (∃(j:Nat) (v:Nat→Value),(s.pr t).length+j≤max (s.pr t).length (r+1)∧ScAt wr S F (s.setL t (padN (s.pr t) j)) { M with iv:=v } G ve∧wr.heap[W.heap.size]?=some (.cells #[.int .i64 d.kind,.int .i64 (t:Int),.int .i64 (r:Int),.int .i64 d.value] 47))) (fun wr=>20-lenAt wr gb (t*5+1))
    case atStart=>exact H0.out _ (below_drewN (Below.drew HXX.out) _)
    case round =>
     obtain⟨j,v,hj,hA,hD⟩:=hrel.out;clear H0 hrel;have hpl2:(padN (s.pr t) j).length=(s.pr t).length+j:=padN_len _ _;have hst:(s.setL t (padN (s.pr t) j)).pr t=padN (s.pr t) j:=(by unfold Tk.Sc.setL;simp)
     obtain⟨pao,pcap,_,_,ep,hpr,_,_,_⟩:=hA.bridge htK;have hpcap:=hpr.1;rw[hst] at ep hpr hpcap;have ep2:v t=.slice pao (padN (s.pr t) j).length pcap:=ep;obtain⟨q0,q1,q2,q3⟩:=do_cells hD;obtain⟨gb',cap',sp,e2,hgb,hn2,hmx,hsp,hh⟩:∃g cap sp,M.vb=.slice (some ⟨g,0,none⟩) F.c.K cap∧F.base≤g∧F.c.K≤cap∧cap≤maxLen∧sp.size+F.c.K*5=cap*5∧wr.heap[g]?=some (.cells (rowS sp F.c.K 5 (fun i=>brX (F.c.addr i) (v i) (F.rg i).s (F.rg i).rev (M.we i))) 58):=by
      rcases owns_rowS hA.brs with⟨_,q⟩ | q
      ·omega
      ·exact q
     rw[HEB.out] at e2;injection e2 with e3 _ e4;injection e3 with e5;injection e5 with e6;subst e6 e4;have cb:wr.cell? ⟨gb,t*5+1,none⟩=some (.slice pao (padN (s.pr t) j).length pcap):=by
      rw[←ep2];exact rowS_cell hh htK (show 1<5 by omega)
     have HLN:Hid (lenAt wr gb (t*5+1)=(padN (s.pr t) j).length):=by
      show lenAt wr gb (t*5+1)=_;unfold lenAt;rw[cb]
     by_cases hle:(padN (s.pr t) j).length≤r
     ·have HPM:Hid (∀m,∃vo vc w2,(Builtin.append_ #[37,37] 37 #[.slice pao (padN (s.pr t) j).length pcap,.slice (some ⟨wr.heap.size,0,none⟩) 1 1]).run Tryz.prog ((wr.drewN m).alloc (.cells #[.int .i64 32768] 3))=.ok (.slice vo ((padN (s.pr t) j).length+1) vc) w2∧w2.cell? ⟨gb,t*5+1,none⟩=some (.slice pao (padN (s.pr t) j).length pcap)∧w2.frozen? ⟨gb,t*5+1,none⟩=false∧Hid ((∃(j':Nat) (v':Nat→Value),(s.pr t).length+j'≤max (s.pr t).length (r+1)∧ScAt (w2.setCell ⟨gb,t*5+1,none⟩ (.slice vo ((padN (s.pr t) j).length+1) vc)) S F (s.setL t (padN (s.pr t) j')) { M with iv:=v' } G ve∧(w2.setCell ⟨gb,t*5+1,none⟩ (.slice vo ((padN (s.pr t) j).length+1) vc)).heap[W.heap.size]?=some (.cells #[.int .i64 d.kind,.int .i64 (t:Int),.int .i64 (r:Int),.int .i64 d.value] 47))∧lenAt (w2.setCell ⟨gb,t*5+1,none⟩ (.slice vo ((padN (s.pr t) j).length+1) vc)) gb (t*5+1)=(padN (s.pr t) j).length+1)):=fun m=>by
       obtain⟨vo,vc,w2,r1,r2,r3,r4,r5,r6⟩:=prio_more hA htK HEB.out (by rw[hst];omega) 32768 (below_drewN (Below.refl _ _) m) rfl;have el:((s.setL t (padN (s.pr t) j)).pr t++[32768]).length=(padN (s.pr t) j).length+1:=(by rw[hst];simp)
       rw[el] at r1 r4 r5 r6;rw[show({ M with iv:=v }:Tm).iv t=v t from rfl,ep2] at r1 r2;rw[hst,setL_setL,padN_more] at r4;exact⟨vo,vc,w2,r1,r2,r3,⟨j+1,_,by omega,r4,r6 _ _ hD⟩,by rw[r5,hst]⟩
      have hlz:((padN (s.pr t) j).length:Int)≤(r:Int):=(by omega)
      have hlr:(padN (s.pr t) j).length<20:=(by omega)
      clear hA hD hh hpr ep ep2 hst hpl2 hj;generalize (padN (s.pr t) j).length=pl at *;(go_wp2_with fail);(go_quiet (fail));obtain⟨vo,vc,w2,r1,r2,r3,HZ⟩:=HPM.out nq;have HR:Hid _:=r1;clear r1 HPM;go_wp2_with (at_builtin;refine wpList_append_run rfl (.tmp 49) (.tmp 50) 37 rfl _ _ _ rfl rfl HR.out ?_;clear HR)
      exact⟨HZ.out.1,by rw[HLN.out,HZ.out.2];omega⟩
     ·have hx:r<((s.setL t (padN (s.pr t) j)).pr t).length:=(by rw[hst];omega)
      obtain⟨gp,gcap,eg,hgc,cg,fg,hS⟩:=prio_set hA htK hx d.value;rw[hst] at eg cg hS;rw[setL_setL] at hS;have eg2:v t=.slice (some ⟨gp,0,none⟩) (padN (s.pr t) j).length gcap:=eg;rw[ep2] at eg2;injection eg2 with eg3 _ eg4;subst eg3 eg4;have hpad:padN (s.pr t) j=Tk.padTo (s.pr t) r:=by
       unfold padN Tk.padTo;rw[show j=r+1-(s.pr t).length by omega]
      have HF:Hid (ScOk (wr.setCell ⟨gp,r,none⟩ (.int .i64 d.value)) S F (s.one F.c d) { M with iv:=v } G ve):=HAL.out _ _ v hS (by
       rw[HON.out,hpad];rfl)
      have hlz:¬((padN (s.pr t) j).length:Int)≤(r:Int):=(by omega)
      have ir:(0:Int)≤(r:Int):=(by omega)
      have nr:(r:Int)<((padN (s.pr t) j).length:Int):=(by omega)
      generalize IL (padN (s.pr t) j) r=zo at *;clear hA hD hh hpr ep ep2 hst hj hS eg hpad hx HAL HON;generalize (padN (s.pr t) j).length=pl at *;clear hpl2;(go_wp2_with fail);(go_quiet (fail));(go_wp2_with fail);go_region
      (all_goals go_wp2_with fail);(all_goals go_ret);all_goals exact⟨by rw[HE0.out];rfl,by first | exact HF.out.at'.low | exact Below.drew HF.out.at'.low | exact below_drewN HF.out.at'.low _,fun _=>⟨_,G,ve,by first | exact HF.out | exact HF.out.below (Below.drew (Below.refl _ _)) | exact HF.out.below (below_drewN (Below.refl _ _) _)⟩⟩
   ·rw[Bool.not_eq_false] at hod;rw[hod] at HIP;have HE3:Hid (Tk.errOf F.c d=3):=(by rw[HER.out,if_pos hn,if_neg (fun q=>by rw[q.2] at hod;cases hod)];rfl)
    clear h hA hbr hXd hXB HER hkd hn htr;go_enter Tryz.func98,Tryz.ntmps98;(go_wp2_with fail);rw[←HX.out];go_region_held3 (fun V=>V.cell? ⟨W.heap.size,1,none⟩=some (.int .i64 d.n)∧V.cell? ⟨S,0,none⟩=some (.slice bao F.c.K bcap))
     (first | (exact HSC.out _ (Below.drew HXX.out)))
     (first | (go_at_call 32;refine(HWI.out _).mono ?_;rintro e w1 ⟨rfl,rfl⟩))
    go_wp2_with (first | (go_at_call 32;refine(HWT.out _).mono ?_;rintro e w2 ⟨rfl,rfl⟩) | (go_at_call 140;refine(HIP.out _).mono ?_;rintro e w2 ⟨rfl,rfl⟩))
    go_ret;exact⟨by rw[HE3.out];rfl,Below.drew HLW.out,fun e=>by rw[HE3.out] at e;cases e⟩
  ·rw[decide_eq_false htr] at HWT;have HE3:Hid (Tk.errOf F.c d=3):=(by rw[HER.out,if_pos hn,if_neg (fun q=>htr q.1)];rfl)
   clear h hA hbr hXd hXB HER hkd hn htr;go_enter Tryz.func98,Tryz.ntmps98;(go_wp2_with fail);rw[←HX.out];go_region_held3 (fun V=>V.cell? ⟨W.heap.size,1,none⟩=some (.int .i64 d.n)∧V.cell? ⟨S,0,none⟩=some (.slice bao F.c.K bcap))
    (first | (exact HSC.out _ (Below.drew HXX.out)))
    (first | (go_at_call 32;refine(HWI.out _).mono ?_;rintro e w1 ⟨rfl,rfl⟩))
   go_wp2_with (go_at_call 32;refine(HWT.out _).mono ?_;rintro e w2 ⟨rfl,rfl⟩)
   go_ret;exact⟨by rw[HE3.out];rfl,Below.drew HLW.out,fun e=>by rw[HE3.out] at e;cases e⟩
 ·rw[decide_eq_false hn] at HWI;have HE6:Hid (Tk.errOf F.c d=6):=(by rw[HER.out,if_neg hn];rfl)
  clear h hA hbr hXd hXB HER hkd hn;go_enter Tryz.func98,Tryz.ntmps98;(go_wp2_with fail);rw[←HX.out];go_region_held3 (fun V=>V.cell? ⟨W.heap.size,1,none⟩=some (.int .i64 d.n)∧V.cell? ⟨S,0,none⟩=some (.slice bao F.c.K bcap))
   (first | (exact HSC.out _ (Below.drew HXX.out)))
   (first | (go_at_call 32;refine(HWI.out _).mono ?_;rintro e w1 ⟨rfl,rfl⟩))
  (go_wp2_with fail);go_ret;exact⟨by rw[HE6.out];rfl,Below.drew HLW.out,fun e=>by rw[HE6.out] at e;cases e⟩
def DoW (S:Nat) (F:Tf) (s:Sc) (d:Dn) (e:Ending) (w':World):Prop :=
 e=.returned (.int .i64 (Tk.errOf F.c d))∧Below F.base F.W0 w'∧(Tk.errOf F.c d=0→∃M' G' ve',ScOk w' S F (s.one F.c d) M' G' ve')
theorem tdo_any (W:World) (S:Nat) (F:Tf) (s:Sc) (M:Tm) (G:Nat) (ve:Nat→Value) (d:Dn) (h:ScOk W S F s M G ve) :
  Calls Tryz.prog 58 #[.pointer (some ⟨S,0,none⟩),.agg #[.int .i64 d.kind,.int .i64 d.n,.int .i64 d.tree,.int .i64 d.value]] W fun e w'=>DoW S F s d e w':=by
 obtain⟨X,HX⟩:∃X,Hid (X=W.alloc (.cells #[.int .i64 d.kind,.int .i64 d.n,.int .i64 d.tree,.int .i64 d.value] 47)):=⟨_,rfl⟩
 have hXB:Bl W X:=(by rw[HX.out];exact bA1 _ _)
 have hA:=h.below hXB;have HLW:Hid (Below F.base F.W0 X):=hA.at'.low;by_cases k1:d.kind=1
 ·have HD:Hid (Calls Tryz.prog 96 #[.pointer (some ⟨S,0,none⟩),.int .i64 d.n] X fun e w'=>∃z,e=.returned (.int .i64 z)∧Hid (DoW S F s d (.returned (.int .i64 z)) w')):=by
   refine(tdoticks_any X S F s M G ve d.n hA).mono ?_;have hE:Tk.errOf F.c d=if 0≤d.n∧d.n≤200 then 0 else 3:=(by unfold Tk.errOf;rw[if_pos k1])
   have hO:s.one F.c d=s.ticks F.c d.n.toNat:=(by unfold Sc.one;rw[if_pos k1])
   rintro e w' (⟨hn,rfl,rfl⟩ | ⟨hn,rfl,v,hS⟩)
   ·rw[if_neg hn] at hE;exact⟨3,rfl,by rw[hE],hA.at'.low,fun e=>by rw[hE] at e;cases e⟩
   ·rw[if_pos hn] at hE;exact⟨0,rfl,by rw[hE],hS.at'.low,fun _=>⟨_,G,ve,by rw[hO];exact hS⟩⟩
  rw[k1] at HX;rw[k1];clear h hA hXB k1;go_enter Tryz.func58,Tryz.ntmps58;(go_wp2_with fail);rw[←HX.out];refine HD.out.mono ?_;rintro e w2 ⟨z,rfl,H2⟩;(go_wp2_with fail);go_ret;exact H2.out
 ·skip
  by_cases k24:d.kind=2∨d.kind=3∨d.kind=4
  ·have HD:Hid (Calls Tryz.prog 97 #[.pointer (some ⟨S,0,none⟩),.agg #[.int .i64 d.kind,.int .i64 d.n,.int .i64 d.tree,.int .i64 d.value]] X fun e w'=>∃z,e=.returned (.int .i64 z)∧Hid (DoW S F s d (.returned (.int .i64 z)) w')):=by
    refine(tchangelink_any X S F s M G ve d k24 hA).mono ?_;rintro e w' ⟨rfl,h1,h2⟩;exact⟨_,rfl,rfl,h1,h2⟩
   clear h hA hXB k1;rcases k24 with k | k | k
   ·rw[k] at HX HD;rw[k];clear k;go_enter Tryz.func58,Tryz.ntmps58;(go_wp2_with fail);rw[←HX.out];refine HD.out.mono ?_;rintro e w2 ⟨z,rfl,H2⟩;(go_wp2_with fail);go_ret;exact H2.out
   ·rw[k] at HX HD;rw[k];clear k;go_enter Tryz.func58,Tryz.ntmps58;(go_wp2_with fail);rw[←HX.out];refine HD.out.mono ?_;rintro e w2 ⟨z,rfl,H2⟩;(go_wp2_with fail);go_ret;exact H2.out
   ·rw[k] at HX HD;rw[k];clear k;go_enter Tryz.func58,Tryz.ntmps58;(go_wp2_with fail);rw[←HX.out];refine HD.out.mono ?_;rintro e w2 ⟨z,rfl,H2⟩;(go_wp2_with fail);go_ret;exact H2.out
  ·by_cases k5:d.kind=5
   ·have HD:Hid (Calls Tryz.prog 98 #[.pointer (some ⟨S,0,none⟩),.agg #[.int .i64 d.kind,.int .i64 d.n,.int .i64 d.tree,.int .i64 d.value]] X fun e w'=>∃z,e=.returned (.int .i64 z)∧Hid (DoW S F s d (.returned (.int .i64 z)) w')):=by
     refine(tchangeprio_any X S F s M G ve d k5 hA).mono ?_;rintro e w' ⟨rfl,h1,h2⟩;exact⟨_,rfl,rfl,h1,h2⟩
    rw[k5] at HX HD;rw[k5];clear h hA hXB k1 k24 k5;go_enter Tryz.func58,Tryz.ntmps58;(go_wp2_with fail);rw[←HX.out];refine HD.out.mono ?_;rintro e w2 ⟨z,rfl,H2⟩;(go_wp2_with fail);go_ret;exact H2.out
   ·have HE:Hid (Tk.errOf F.c d=1):=by
     show Tk.errOf F.c d=1;unfold Tk.errOf;rw[if_neg k1,if_neg k24,if_neg k5]
    have q1:(d.kind == 1)=false:=(by simpa using k1)
    have q2:(d.kind == 2)=false:=(by simp;omega)
    have q3:(d.kind == 3)=false:=(by simp;omega)
    have q4:(d.kind == 4)=false:=(by simp;omega)
    have q5:(d.kind == 5)=false:=(by simpa using k5)
    clear h hA hXB k1 k24 k5;go_enter Tryz.func58,Tryz.ntmps58;(go_wp2_with fail);rw[←HX.out];go_ret;exact⟨by rw[HE.out];rfl,HLW.out,fun e=>by rw[HE.out] at e;cases e⟩
end
section
open Go.RowKit
theorem clone_empty (w:World) (e k:Nat) (c:Nat→Nat→Value):(w.alloc (.cells #[] e)).ownsRow w.heap.size e k (.slice (some ⟨w.heap.size,0,none⟩) 0 0) 0 (cellsL 0 k c) :=
 ⟨by rw[cellsL_length],Or.inr ⟨w.heap.size,0,#[],rfl,Nat.le_refl _,heap_alloc_last _ _,Nat.le_refl _,Nat.zero_le _,by simp,by simp[cellsL]⟩⟩
theorem infoC_br:(Tryz.prog.info? 58).map (fun i=>(i.zero,i.size,i.bytes))=some (some (.agg #[.int .u64 0,.slice none 0 0,.string ⟨#[]⟩,.int .i64 0,.slice none 0 0]),5,80):=by kernel_rfl
theorem clone_br (ao:Option Addr) (n cap:Nat) (c:Nat→Nat→Value) (w:World) (hn:n≤100000) (hc:∀i j,(c i j).oneCell'=true) (hr:CRow w ao n cap 5 c) :
  Calls Tryz.prog 133 #[.slice ao n cap] w fun e w'=>∃v,e=.returned v∧w'.ownsRow w.heap.size 58 5 v n (cellsL n 5 c)∧Bl w w':=by
 cases ao with
 | none =>
  obtain rfl:n=0:=by
   rcases Nat.eq_zero_or_pos n with q | q
   ·exact q
   ·obtain⟨_,_,e,_⟩:=hr.2 q;cases e
  clear hn hc hr;have he:∀w:World,(binOp .eql 29 (.slice none 0 cap) (.slice none 0 0)).run Tryz.prog w=.ok (.bool true) w:=fun _=>rfl;go_enter Tryz.func133,Tryz.ntmps133;(go_wp2_with fail);go_ret;exact⟨_,rfl,ownsC_nil _ _ _ _ _,Below.refl _ _⟩
 | some ad =>
  obtain⟨X,HX⟩:∃X,Hid (X=w.alloc (.cells #[] 58)):=⟨_,rfl⟩
  have hXB:Bl w X:=(by rw[HX.out];exact bA1 _ _)
  obtain⟨a1,c1,w2,r,ho,hb,_⟩:=append_c X 29 58 _ 5 80 Tryz.underlying29 infoC_br rfl (by omega) w.heap.size (.slice (some ⟨w.heap.size,0,none⟩) 0 0) 0 c (by rw[HX.out];exact clone_empty w _ _ _) (some ad) n cap c hc (CRow.below hr hXB) (fun h=>by cases h) (by unfold maxLen;omega) (by omega) hXB.size;have e:cellsL (0+n) 5 (catC 0 c c)=cellsL n 5 c:=by
   rw[Nat.zero_add];apply cellsL_congr
   intro i _;simp[catC]
  rw[e,Nat.zero_add] at ho;rw[Nat.zero_add] at r;have HR:Hid _:=r;have HF:Hid (w2.ownsRow w.heap.size 58 5 (.slice a1 n c1) n (cellsL n 5 c)∧Bl w w2):=⟨ho,hXB.trans hb⟩
  clear r ho hb hXB hr e hn hc;have he:∀w:World,(binOp .eql 29 (.slice (some ad) n cap) (.slice none 0 0)).run Tryz.prog w=.ok (.bool false) w:=fun _=>rfl;go_enter Tryz.func133,Tryz.ntmps133;go_wp2_with (at_builtin;(try rw[←HX.out]);refine wpList_append_run rfl (.tmp 5) (.tmp 6) 29 rfl _ _ _ rfl rfl HR.out ?_)
  go_ret;exact⟨_,rfl,HF.out⟩
theorem infoC_lk:(Tryz.prog.info? 83).map (fun i=>(i.zero,i.size,i.bytes))=some (some (.agg #[.int .i64 0,.int .i64 0,.int .i64 0,.int .i64 0,.int .i64 0,.bool false]),6,48):=by kernel_rfl
theorem clone_lk (ao:Option Addr) (n cap:Nat) (c:Nat→Nat→Value) (w:World) (hn:n≤100000) (hc:∀i j,(c i j).oneCell'=true) (hr:CRow w ao n cap 6 c) :
  Calls Tryz.prog 134 #[.slice ao n cap] w fun e w'=>∃v,e=.returned v∧w'.ownsRow w.heap.size 83 6 v n (cellsL n 6 c)∧Bl w w':=by
 cases ao with
 | none =>
  obtain rfl:n=0:=by
   rcases Nat.eq_zero_or_pos n with q | q
   ·exact q
   ·obtain⟨_,_,e,_⟩:=hr.2 q;cases e
  clear hn hc hr;have he:∀w:World,(binOp .eql 30 (.slice none 0 cap) (.slice none 0 0)).run Tryz.prog w=.ok (.bool true) w:=fun _=>rfl;go_enter Tryz.func134,Tryz.ntmps134;(go_wp2_with fail);go_ret;exact⟨_,rfl,ownsC_nil _ _ _ _ _,Below.refl _ _⟩
 | some ad =>
  obtain⟨X,HX⟩:∃X,Hid (X=w.alloc (.cells #[] 83)):=⟨_,rfl⟩
  have hXB:Bl w X:=(by rw[HX.out];exact bA1 _ _)
  obtain⟨a1,c1,w2,r,ho,hb,_⟩:=append_c X 30 83 _ 6 48 Tryz.underlying30 infoC_lk rfl (by omega) w.heap.size (.slice (some ⟨w.heap.size,0,none⟩) 0 0) 0 c (by rw[HX.out];exact clone_empty w _ _ _) (some ad) n cap c hc (CRow.below hr hXB) (fun h=>by cases h) (by unfold maxLen;omega) (by omega) hXB.size;have e:cellsL (0+n) 6 (catC 0 c c)=cellsL n 6 c:=by
   rw[Nat.zero_add];apply cellsL_congr
   intro i _;simp[catC]
  rw[e,Nat.zero_add] at ho;rw[Nat.zero_add] at r;have HR:Hid _:=r;have HF:Hid (w2.ownsRow w.heap.size 83 6 (.slice a1 n c1) n (cellsL n 6 c)∧Bl w w2):=⟨ho,hXB.trans hb⟩
  clear r ho hb hXB hr e hn hc;have he:∀w:World,(binOp .eql 30 (.slice (some ad) n cap) (.slice none 0 0)).run Tryz.prog w=.ok (.bool false) w:=fun _=>rfl;go_enter Tryz.func134,Tryz.ntmps134;go_wp2_with (at_builtin;(try rw[←HX.out]);refine wpList_append_run rfl (.tmp 5) (.tmp 6) 30 rfl _ _ _ rfl rfl HR.out ?_)
  go_ret;exact⟨_,rfl,HF.out⟩
theorem infoC_int:(Tryz.prog.info? 3).map (fun i=>(i.zero,i.size,i.bytes))=some (some (.int .i64 0),1,8):=by kernel_rfl
theorem clone_int (ao:Option Addr) (n cap:Nat) (c:Nat→Nat→Value) (w:World) (hn:n≤100000) (hc:∀i j,(c i j).oneCell'=true) (hr:CRow w ao n cap 1 c) :
  Calls Tryz.prog 135 #[.slice ao n cap] w fun e w'=>∃v,e=.returned v∧w'.ownsRow w.heap.size 3 1 v n (cellsL n 1 c)∧Bl w w':=by
 cases ao with
 | none =>
  obtain rfl:n=0:=by
   rcases Nat.eq_zero_or_pos n with q | q
   ·exact q
   ·obtain⟨_,_,e,_⟩:=hr.2 q;cases e
  clear hn hc hr;have he:∀w:World,(binOp .eql 37 (.slice none 0 cap) (.slice none 0 0)).run Tryz.prog w=.ok (.bool true) w:=fun _=>rfl;go_enter Tryz.func135,Tryz.ntmps135;(go_wp2_with fail);go_ret;exact⟨_,rfl,ownsC_nil _ _ _ _ _,Below.refl _ _⟩
 | some ad =>
  obtain⟨X,HX⟩:∃X,Hid (X=w.alloc (.cells #[] 3)):=⟨_,rfl⟩
  have hXB:Bl w X:=(by rw[HX.out];exact bA1 _ _)
  obtain⟨a1,c1,w2,r,ho,hb,_⟩:=append_c X 37 3 _ 1 8 Tryz.underlying37 infoC_int rfl (by omega) w.heap.size (.slice (some ⟨w.heap.size,0,none⟩) 0 0) 0 c (by rw[HX.out];exact clone_empty w _ _ _) (some ad) n cap c hc (CRow.below hr hXB) (fun h=>by cases h) (by unfold maxLen;omega) (by omega) hXB.size;have e:cellsL (0+n) 1 (catC 0 c c)=cellsL n 1 c:=by
   rw[Nat.zero_add];apply cellsL_congr
   intro i _;simp[catC]
  rw[e,Nat.zero_add] at ho;rw[Nat.zero_add] at r;have HR:Hid _:=r;have HF:Hid (w2.ownsRow w.heap.size 3 1 (.slice a1 n c1) n (cellsL n 1 c)∧Bl w w2):=⟨ho,hXB.trans hb⟩
  clear r ho hb hXB hr e hn hc;have he:∀w:World,(binOp .eql 37 (.slice (some ad) n cap) (.slice none 0 0)).run Tryz.prog w=.ok (.bool false) w:=fun _=>rfl;go_enter Tryz.func135,Tryz.ntmps135;go_wp2_with (at_builtin;(try rw[←HX.out]);refine wpList_append_run rfl (.tmp 5) (.tmp 6) 37 rfl _ _ _ rfl rfl HR.out ?_)
  go_ret;exact⟨_,rfl,HF.out⟩
theorem infoC_way:(Tryz.prog.info? 92).map (fun i=>(i.zero,i.size,i.bytes))=some (some (.agg #[.int .i64 0,.int .i64 0]),2,16):=by kernel_rfl
theorem clone_way (ao:Option Addr) (n cap:Nat) (c:Nat→Nat→Value) (w:World) (hn:n≤100000) (hc:∀i j,(c i j).oneCell'=true) (hr:CRow w ao n cap 2 c) :
  Calls Tryz.prog 136 #[.slice ao n cap] w fun e w'=>∃v,e=.returned v∧w'.ownsRow w.heap.size 92 2 v n (cellsL n 2 c)∧Bl w w':=by
 cases ao with
 | none =>
  obtain rfl:n=0:=by
   rcases Nat.eq_zero_or_pos n with q | q
   ·exact q
   ·obtain⟨_,_,e,_⟩:=hr.2 q;cases e
  clear hn hc hr;have he:∀w:World,(binOp .eql 54 (.slice none 0 cap) (.slice none 0 0)).run Tryz.prog w=.ok (.bool true) w:=fun _=>rfl;go_enter Tryz.func136,Tryz.ntmps136;(go_wp2_with fail);go_ret;exact⟨_,rfl,ownsC_nil _ _ _ _ _,Below.refl _ _⟩
 | some ad =>
  obtain⟨X,HX⟩:∃X,Hid (X=w.alloc (.cells #[] 92)):=⟨_,rfl⟩
  have hXB:Bl w X:=(by rw[HX.out];exact bA1 _ _)
  obtain⟨a1,c1,w2,r,ho,hb,_⟩:=append_c X 54 92 _ 2 16 Tryz.underlying54 infoC_way rfl (by omega) w.heap.size (.slice (some ⟨w.heap.size,0,none⟩) 0 0) 0 c (by rw[HX.out];exact clone_empty w _ _ _) (some ad) n cap c hc (CRow.below hr hXB) (fun h=>by cases h) (by unfold maxLen;omega) (by omega) hXB.size;have e:cellsL (0+n) 2 (catC 0 c c)=cellsL n 2 c:=by
   rw[Nat.zero_add];apply cellsL_congr
   intro i _;simp[catC]
  rw[e,Nat.zero_add] at ho;rw[Nat.zero_add] at r;have HR:Hid _:=r;have HF:Hid (w2.ownsRow w.heap.size 92 2 (.slice a1 n c1) n (cellsL n 2 c)∧Bl w w2):=⟨ho,hXB.trans hb⟩
  clear r ho hb hXB hr e hn hc;have he:∀w:World,(binOp .eql 54 (.slice (some ad) n cap) (.slice none 0 0)).run Tryz.prog w=.ok (.bool false) w:=fun _=>rfl;go_enter Tryz.func136,Tryz.ntmps136;go_wp2_with (at_builtin;(try rw[←HX.out]);refine wpList_append_run rfl (.tmp 5) (.tmp 6) 54 rfl _ _ _ rfl rfl HR.out ?_)
  go_ret;exact⟨_,rfl,HF.out⟩
theorem infoC_ms:(Tryz.prog.info? 50).map (fun i=>(i.zero,i.size,i.bytes))=some (some (.slice none 0 0),1,24):=by kernel_rfl
theorem clone_ms (ao:Option Addr) (n cap:Nat) (c:Nat→Nat→Value) (w:World) (hn:n≤100000) (hc:∀i j,(c i j).oneCell'=true) (hr:CRow w ao n cap 1 c) :
  Calls Tryz.prog 137 #[.slice ao n cap] w fun e w'=>∃v,e=.returned v∧w'.ownsRow w.heap.size 50 1 v n (cellsL n 1 c)∧Bl w w':=by
 cases ao with
 | none =>
  obtain rfl:n=0:=by
   rcases Nat.eq_zero_or_pos n with q | q
   ·exact q
   ·obtain⟨_,_,e,_⟩:=hr.2 q;cases e
  clear hn hc hr;have he:∀w:World,(binOp .eql 41 (.slice none 0 cap) (.slice none 0 0)).run Tryz.prog w=.ok (.bool true) w:=fun _=>rfl;go_enter Tryz.func137,Tryz.ntmps137;(go_wp2_with fail);go_ret;exact⟨_,rfl,ownsC_nil _ _ _ _ _,Below.refl _ _⟩
 | some ad =>
  obtain⟨X,HX⟩:∃X,Hid (X=w.alloc (.cells #[] 50)):=⟨_,rfl⟩
  have hXB:Bl w X:=(by rw[HX.out];exact bA1 _ _)
  obtain⟨a1,c1,w2,r,ho,hb,_⟩:=append_c X 41 50 _ 1 24 Tryz.underlying41 infoC_ms rfl (by omega) w.heap.size (.slice (some ⟨w.heap.size,0,none⟩) 0 0) 0 c (by rw[HX.out];exact clone_empty w _ _ _) (some ad) n cap c hc (CRow.below hr hXB) (fun h=>by cases h) (by unfold maxLen;omega) (by omega) hXB.size;have e:cellsL (0+n) 1 (catC 0 c c)=cellsL n 1 c:=by
   rw[Nat.zero_add];apply cellsL_congr
   intro i _;simp[catC]
  rw[e,Nat.zero_add] at ho;rw[Nat.zero_add] at r;have HR:Hid _:=r;have HF:Hid (w2.ownsRow w.heap.size 50 1 (.slice a1 n c1) n (cellsL n 1 c)∧Bl w w2):=⟨ho,hXB.trans hb⟩
  clear r ho hb hXB hr e hn hc;have he:∀w:World,(binOp .eql 41 (.slice (some ad) n cap) (.slice none 0 0)).run Tryz.prog w=.ok (.bool false) w:=fun _=>rfl;go_enter Tryz.func137,Tryz.ntmps137;go_wp2_with (at_builtin;(try rw[←HX.out]);refine wpList_append_run rfl (.tmp 5) (.tmp 6) 41 rfl _ _ _ rfl rfl HR.out ?_)
  go_ret;exact⟨_,rfl,HF.out⟩
theorem infoC_mn:(Tryz.prog.info? 52).map (fun i=>(i.zero,i.size,i.bytes))=some (some (.agg #[.int .u64 0,.int .i64 0,.int .u64 0,.int .i64 0,.int .i64 0,.int .i64 0,.slice none 0 0,.slice none 0 0,.slice none 0 0]),9,120):=by kernel_rfl
theorem clone_mn (ao:Option Addr) (n cap:Nat) (c:Nat→Nat→Value) (w:World) (hn:n≤100000) (hc:∀i j,(c i j).oneCell'=true) (hr:CRow w ao n cap 9 c) :
  Calls Tryz.prog 138 #[.slice ao n cap] w fun e w'=>∃v,e=.returned v∧w'.ownsRow w.heap.size 52 9 v n (cellsL n 9 c)∧Bl w w':=by
 cases ao with
 | none =>
  obtain rfl:n=0:=by
   rcases Nat.eq_zero_or_pos n with q | q
   ·exact q
   ·obtain⟨_,_,e,_⟩:=hr.2 q;cases e
  clear hn hc hr;have he:∀w:World,(binOp .eql 50 (.slice none 0 cap) (.slice none 0 0)).run Tryz.prog w=.ok (.bool true) w:=fun _=>rfl;go_enter Tryz.func138,Tryz.ntmps138;(go_wp2_with fail);go_ret;exact⟨_,rfl,ownsC_nil _ _ _ _ _,Below.refl _ _⟩
 | some ad =>
  obtain⟨X,HX⟩:∃X,Hid (X=w.alloc (.cells #[] 52)):=⟨_,rfl⟩
  have hXB:Bl w X:=(by rw[HX.out];exact bA1 _ _)
  obtain⟨a1,c1,w2,r,ho,hb,_⟩:=append_c X 50 52 _ 9 120 Tryz.underlying50 infoC_mn rfl (by omega) w.heap.size (.slice (some ⟨w.heap.size,0,none⟩) 0 0) 0 c (by rw[HX.out];exact clone_empty w _ _ _) (some ad) n cap c hc (CRow.below hr hXB) (fun h=>by cases h) (by unfold maxLen;omega) (by omega) hXB.size;have e:cellsL (0+n) 9 (catC 0 c c)=cellsL n 9 c:=by
   rw[Nat.zero_add];apply cellsL_congr
   intro i _;simp[catC]
  rw[e,Nat.zero_add] at ho;rw[Nat.zero_add] at r;have HR:Hid _:=r;have HF:Hid (w2.ownsRow w.heap.size 52 9 (.slice a1 n c1) n (cellsL n 9 c)∧Bl w w2):=⟨ho,hXB.trans hb⟩
  clear r ho hb hXB hr e hn hc;have he:∀w:World,(binOp .eql 50 (.slice (some ad) n cap) (.slice none 0 0)).run Tryz.prog w=.ok (.bool false) w:=fun _=>rfl;go_enter Tryz.func138,Tryz.ntmps138;go_wp2_with (at_builtin;(try rw[←HX.out]);refine wpList_append_run rfl (.tmp 5) (.tmp 6) 50 rfl _ _ _ rfl rfl HR.out ?_)
  go_ret;exact⟨_,rfl,HF.out⟩
end
end Go.Proofs.YtflghpnpjmodaaaGreatDoor
