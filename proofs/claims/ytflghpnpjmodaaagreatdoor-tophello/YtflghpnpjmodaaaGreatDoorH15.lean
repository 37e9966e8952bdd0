/- walks: package plan's firstWrong at links; wrongBridges, wrongLinks -/
import Derived.Test.YtflghpnpjmodaaaGreatDoorH12
import Derived.Test.YtflghpnpjmodaaaGreatDoorH14
import Derived.Test.YtflghpnpjmodaaaGreatDoorH13
import Derived.Test.YtflghpnpjmodaaaGreatDoorH08
import Derived.Deep.RegionHeld3
import Derived.Laws.EntriesVeiled
set_option maxRecDepth 100000
set_option maxHeartbeats 40000000
namespace Go.Proofs.YtflghpnpjmodaaaGreatDoor
section
open Go.RowKit
open Vc (V Of)
open Pl (En Lk Br)
open Tk (Md Mnd Cn Sc ixM ilist)
structure Tm where
 vb:Value
 vl:Value
 vo:Value
 vt:Nat→Value
 iv:Nat→Value
 we:Nat→Value
def brX (addr:Int) (p:Value) (nm:ByteArray) (rev:Int) (ww:Value) (x:Nat):Value:=if x=0 then .int .u64 addr else if x=1 then p else if x=2 then .string nm else if x=3 then .int .i64 rev else ww
def wyC (v t:Int) (x:Nat):Value:=if x=0 then .int .i64 v else .int .i64 t
def Tm.mc (M:Tm) (s:Sc) (k i:Nat):Nat→Value:=mdC (s.ms k i).md (M.iv (ixM k i 0)) (M.iv (ixM k i 1)) (M.iv (ixM k i 2))
structure Tf where
 c:Cn
 T:Nat
 pts:Nat→List Int
 rg:Nat→Rg.Reg
 bs:Nat→Br
 B1:Nat
 B2:Nat
 W0:World
abbrev Tf.base (F:Tf):Nat:=F.W0.heap.size
abbrev Tf.il (F:Tf) (s:Sc):Nat→List Int:=ilist F.c.K F.T F.pts s
structure ScAt (W:World) (S:Nat) (F:Tf) (s:Sc) (M:Tm) (G:Nat) (ve:Nat→Value):Prop where
 blk:W.heap[S]?=some (.cells #[M.vb,M.vl,M.vo,.func (.func 69) #[] #[.pointer (some ⟨F.B1,0,none⟩),.pointer (some ⟨F.B2,0,none⟩)],.slice (some ⟨G,0,none⟩) F.c.K F.c.K] 135)
 brs:W.ownsRow F.base 58 5 M.vb F.c.K (cellsL F.c.K 5 (fun i=>brX (F.c.addr i) (M.iv i) (F.rg i).s (F.rg i).rev (M.we i)))
 lks:W.ownsRow F.base 83 6 M.vl F.c.L (cellsL F.c.L 6 (fun k=>lkC (s.ls k)))
 out:W.ownsRow F.base 50 1 M.vo F.T (cellsL F.T 1 (fun k _=>M.vt k))
 mds:Fam W F.base 52 9 F.T M.vt (fun _=>F.c.K) (fun k i=>M.mc s k i)
 ints:Fam W F.base 3 1 156 M.iv (fun a=>(F.il s a).length) (fun a i _=>.int .i64 (IL (F.il s a) i))
 ways:Fam W F.base 92 2 12 M.we (fun i=>if i<F.c.K then(F.rg i).n else 0) (fun i j=>wyC ((F.rg i).vs j) ((F.rg i).ts j))
 low:Below F.base F.W0 W
 ends:EndsOk W G F.c.K ve (s.E F.c)
 few:F.c.K≤12
 fewT:F.T≤4
theorem cells_type {w:World}{q e e':Nat}{c c':Array Value}(h:w.heap[q]?=some (.cells c e (0,0))) (h':w.heap[q]?=some (.cells c' e' (0,0))):e=e':=by
 rw[h] at h';injection h' with h';injection h' with _ h3
theorem EndsOk.bt {w w':World}{G K:Nat}{v:Nat→Value}{E:Nat→List En}{P:Nat→Prop}(h:EndsOk w G K v E) (hb:Bt P w w') (h1:¬P G) (h2:∀q cur,w.heap[q]?=some (.cells cur 153)→¬P q):EndsOk w' G K v E:=by
 refine⟨hb.keep h.blk h1,fun i hi => ?_,fun i hi q hq => ?_⟩
 ·obtain⟨ao,cap,e,hr⟩:=h.row i hi;refine⟨ao,cap,e,CRow.other hr (fun b off eb hlt => ?_) hb.size⟩;obtain⟨cur,hc⟩:=h.ty i hi b (by rw[e,eb];rfl);exact hb.block b hlt (h2 b cur hc)
 ·obtain⟨cur,hc⟩:=h.ty i hi q hq;exact⟨cur,hb.keep hc (h2 q cur hc)⟩
theorem Fam.two {W W':World}{base e kk T:Nat}{v:Nat→Value}{n:Nat→Nat}{c:Nat→Nat→Nat→Value}{P:Nat→Prop}(h:Fam W base e kk T v n c) {jr jc base' n':Nat}{v':Value}{c' cc':Nat→Nat→Value}(hb:Bt P W W') (hne:jc≠jr) (hP:∀a,a<T→a≠jr→a≠jc→∀q,(v a).ownBlock=some q→¬P q)
  (ho:W'.ownsRow base' e kk v' n' (cellsL n' kk c')) (h1:W.heap.size≤base') (h2:base≤base') (hc:W'.ownsRow base e kk (v jc) (n jc) (cellsL (n jc) kk cc')):Fam W' base e kk T (upF v jr v') (upF n jr n') (upF (upF c jr c') jc cc'):=by
 refine⟨fun a ha => ?_,fun a b ha hb' q hqa hqb => ?_⟩
 ·by_cases q:a=jr
  ·subst q;rw[upF_same,upF_same,upF_other _ _ (Ne.symm hne),upF_same];exact owns_mono ho h2
  ·rw[upF_other _ _ q,upF_other _ _ q];by_cases q2:a=jc
   ·subst q2;rw[upF_same];exact hc
   ·rw[upF_other _ _ q2,upF_other _ _ q];exact owns_keep (h.own a ha) (fun r hr=>hb.block r (oCb (h.own a ha) r hr).2 (hP a ha q q2 r hr))
 ·by_cases qa:a=jr
  ·by_cases qb:b=jr
   ·rw[qa,qb]
   ·subst qa;rw[upF_same] at hqa;rw[upF_other _ _ qb] at hqb;have x1:=(oCb ho q hqa).1;have x2:=(oCb (h.own b hb') q hqb).2;omega
  ·by_cases qb:b=jr
   ·subst qb;rw[upF_same] at hqb;rw[upF_other _ _ qa] at hqa;have x1:=(oCb ho q hqb).1;have x2:=(oCb (h.own a ha) q hqa).2;omega
   ·rw[upF_other _ _ qa] at hqa;rw[upF_other _ _ qb] at hqb;exact h.one a b ha hb' q hqa hqb
theorem RlAt.owns {W:World}{g n:Nat}{f:Nat→Int}(h:RlAt W g n f) (hn:n≤100000):W.ownsRow g 3 1 (.slice (some ⟨g,0,none⟩) n n) n (cellsL n 1 (fun j _=>.int .i64 (f j))):=by
 refine⟨cellsL_length _ _ _,Or.inr ⟨g,n,_,rfl,Nat.le_refl _,h,Nat.le_refl _,by unfold maxLen;omega,by rw[rowC_size],?_⟩⟩;unfold rowC;simp only;rw[List.take_of_length_le (by rw[cellsL_length];exact Nat.le_refl _)]
theorem ScAt.hear {W W':World}{S:Nat}{F:Tf}{s:Sc}{M:Tm}{G:Nat}{ve:Nat→Value}(h:ScAt W S F s M G ve) {k i g cap R:Nat}{sp:Array Value}{m:Md}{rs cs:List Int}(hk:k<F.T) (hi:i<F.c.K)
  (hv:M.vt k=.slice (some ⟨g,0,none⟩) F.c.K cap) (hcap:F.c.K≤cap) (hmx:cap≤maxLen) (hsp:sp.size+F.c.K*9=cap*9)
  (hW:HearW W W' g F.c.K i sp (fun i=>M.mc s k i) m (M.iv (ixM k i 0)) (M.iv (ixM k i 2)) F.base R rs cs) (hcl:cs.length=(s.ms k i).calm.length) (hrl:rs.length≤1000) :
  ScAt W' S F (s.setM k i ⟨m,rs,cs⟩) { M with iv:=upF M.iv (ixM k i 1) (.slice (some ⟨R,0,none⟩) rs.length rs.length) } G ve:=by
 have hK:=h.few;have hT:=h.fewT;obtain⟨_,l1,l2⟩:=Tk.ilist_m (T:=F.T) hK F.pts s hk hi;have hIM:ixM k i 2<156:=Tk.ix_lt (by omega) (by omega) (by omega);have hIR:ixM k i 1<156:=Tk.ix_lt (by omega) (by omega) (by omega);have hgt:∃cur,W.heap[g]?=some (.cells cur 52):=owns_type (h.mds.own k hk) (by rw[hv];rfl);obtain⟨gcur,hgc⟩:=hgt;have hct:∀q,(M.iv (ixM k i 2)).ownBlock=some q→∃cur,W.heap[q]?=some (.cells cur 3):=fun q hq=>owns_type (h.ints.own _ hIM) hq;have hPt:∀q cur e,W.heap[q]?=some (.cells cur e (0,0))→e≠52→e≠3→¬(q=g∨(M.iv (ixM k i 2)).ownBlock=some q):=fun q cur e hq n1 n2 hp=>by
  rcases hp with hp | hp
  ·subst hp;exact n1 (cells_type hq hgc)
  ·obtain⟨c2,hc2⟩:=hct q hp;exact n2 (cells_type hq hc2)
 have hbs:=hW.else';have hbg:F.base≤g:=(oCb (h.mds.own k hk) g (by rw[hv];rfl)).1;refine⟨hbs.keep h.blk (hPt _ _ _ h.blk (by decide) (by decide)),?_,?_,?_,?_,?_,?_,?_,?_,hK,hT⟩
 ·have h1:=owns_keep h.brs (fun q hq=>by
   obtain⟨cur,hc⟩:=owns_type h.brs hq;exact hbs.block q (oCb h.brs q hq).2 (hPt q cur _ hc (by decide) (by decide)))
  rw[cellsL_congr _ 5 _ (fun i'=>brX (F.c.addr i') (upF M.iv (ixM k i 1) (.slice (some ⟨R,0,none⟩) rs.length rs.length) i') (F.rg i').s (F.rg i').rev (M.we i'))] at h1
  ·exact h1
  ·intro i' hi';rw[upF_other _ _ (by unfold ixM;omega)]
 ·exact owns_keep h.lks (fun q hq=>by
   obtain⟨cur,hc⟩:=owns_type h.lks hq;exact hbs.block q (oCb h.lks q hq).2 (hPt q cur _ hc (by decide) (by decide)))
 ·exact owns_keep h.out (fun q hq=>by
   obtain⟨cur,hc⟩:=owns_type h.out hq;exact hbs.block q (oCb h.out q hq).2 (hPt q cur _ hc (by decide) (by decide)))
 ·refine(h.mds.write hk hv hbs (fun a ha hne q hq hp => ?_) hcap hmx hsp hW.row).congr (fun _ _=>rfl) (fun a ha i' hi' x hx => ?_)
  ·rcases hp with hp | hp
   ·subst hp;exact hne (h.mds.one a k ha hk q hq (by rw[hv];rfl))
   ·obtain⟨c1,hc1⟩:=owns_type (h.mds.own a ha) hq;obtain⟨c2,hc2⟩:=hct q hp;exact absurd (cells_type hc1 hc2) (by decide)
  ·have ne:∀j,j<3→¬(a=k∧i'=i∧j=1)→upF M.iv (ixM k i 1) (.slice (some ⟨R,0,none⟩) rs.length rs.length) (ixM a i' j)=M.iv (ixM a i' j):=fun j hj hn=>upF_other _ _ (fun e=>hn (Tk.ix_one (by omega) hj (by omega) (by omega) e));unfold Tm.mc Sc.setM;by_cases qa:a=k
   ·subst qa;rw[upF_same];by_cases qi:i'=i
    ·subst qi;simp only[true_and,if_true];rw[ne 0 (by omega) (by omega),ne 2 (by omega) (by omega),upF_same]
    ·simp only[true_and,if_neg qi];rw[ne 0 (by omega) (by omega),ne 1 (by omega) (by omega),ne 2 (by omega) (by omega)]
   ·rw[upF_other _ _ qa];simp only[qa,false_and,if_false];rw[ne 0 (by omega) (by omega),ne 1 (by omega) (by omega),ne 2 (by omega) (by omega)]
 ·have hne:ixM k i 2≠ixM k i 1:=(by unfold ixM;omega)
  have hcm:W'.ownsRow F.base 3 1 (M.iv (ixM k i 2)) (F.il s (ixM k i 2)).length (cellsL (F.il s (ixM k i 2)).length 1 (fun a _=>.int .i64 (IL cs a))):=by
   have:=hW.calm;have l3:F.il s (ixM k i 2)=(s.ms k i).calm:=l2;rw[l3,←hcl];exact this
  refine(h.ints.two hbs hne (fun a ha n1 n2 q hq hp => ?_) (hW.roles.owns (by omega)) hW.new (Nat.le_trans h.low.size hW.new) hcm).congr (fun a ha => ?_) (fun a ha x hx y hy => ?_)
  ·rcases hp with hp | hp
   ·subst hp;obtain⟨c1,hc1⟩:=owns_type (h.ints.own a ha) hq;exact absurd (cells_type hc1 hgc) (by decide)
   ·exact n2 (h.ints.one a _ ha hIM q hq hp)
  ·show upF (fun a=>(F.il s a).length) (ixM k i 1) rs.length a=(F.il (s.setM k i ⟨m,rs,cs⟩) a).length;unfold Tf.il;rw[Tk.ilist_setM hK F.pts s hk hi];by_cases q2:a=ixM k i 2
   ·subst q2;rw[upF_other _ _ hne,upF_same,l2,hcl]
   ·rw[upF_other (upF (ilist F.c.K F.T F.pts s) (ixM k i 1) rs) _ q2];by_cases q1:a=ixM k i 1
    ·subst q1;rw[upF_same,upF_same]
    ·rw[upF_other _ _ q1,upF_other _ _ q1]
  ·show upF (upF (fun a i _=>Value.int .i64 (IL (F.il s a) i)) (ixM k i 1) (fun j _=>.int .i64 (IL rs j))) (ixM k i 2) (fun a _=>.int .i64 (IL cs a)) a x y=.int .i64 (IL (F.il (s.setM k i ⟨m,rs,cs⟩) a) x);unfold Tf.il;rw[Tk.ilist_setM hK F.pts s hk hi];by_cases q2:a=ixM k i 2
   ·subst q2;rw[upF_same,upF_same]
   ·rw[upF_other _ _ q2,upF_other _ _ q2];by_cases q1:a=ixM k i 1
    ·subst q1;rw[upF_same,upF_same]
    ·rw[upF_other _ _ q1,upF_other _ _ q1]
 ·exact h.ways.bt hbs (fun a ha q hq=>by
   obtain⟨c1,hc1⟩:=owns_type (h.ways.own a ha) hq;exact hPt q c1 _ hc1 (by decide) (by decide))
 ·refine h.low.trans (hbs.below h.low.size (fun q hq hp => ?_));rcases hp with hp | hp
  ·omega
  ·have:=(oCb (h.ints.own _ hIM) q hp).1;omega
 ·exact h.ends.bt hbs (hPt _ _ _ h.ends.blk (by decide) (by decide)) (fun q cur hq=>hPt q cur _ hq (by decide) (by decide))
end
section
open Go.RowKit Go.Maps
open Pl (Br Net Pc Lk En St)
def endSeq (ls:Nat→Lk) (j:Nat):Int×Int:=if j%2=0 then((ls (j/2)).a,(ls (j/2)).pa) else((ls (j/2)).b,(ls (j/2)).pb)
theorem endSeq_even (ls:Nat→Lk) (k:Nat):endSeq ls (2*k)=((ls k).a,(ls k).pa):=by
 unfold endSeq;rw[if_pos (by omega),show 2*k/2=k by omega]
theorem endSeq_odd (ls:Nat→Lk) (k:Nat):endSeq ls (2*k+1)=((ls k).b,(ls k).pb):=by
 unfold endSeq;rw[if_neg (by omega),show(2*k+1)/2=k by omega]
def lSay (K:Nat) (l:Lk) (c d:Int):Int:=if Pl.lkErr K l≠0 then Pl.lkErr K l else if 0<c then 7 else if 0<d then 7 else 0
theorem plClosure_any (K:Nat) (hK:K≤12) (l:Lk) (N Q P B m:Nat) (f:Nat→Int×Int) (w:World) (hN:w.cell? ⟨N,0,none⟩=some (.int .i64 K)) (hQ:w.cell? ⟨Q,0,none⟩=some (.func (.func 160) #[] #[.pointer (some ⟨P,0,none⟩)])) (hP:w.cell? ⟨P,0,none⟩=some (.map (some B))) (hPB:P≠B) (hQB:Q≠B) (hc:PCnt w B f m) (hm:m≤900) (hf:f m=(l.a,l.pa)) (hf1:f (m+1)=(l.b,l.pb))
  (wa:(Lit.int .i64 l.a).wf=true) (wpa:(Lit.int .i64 l.pa).wf=true) (wb:(Lit.int .i64 l.b).wf=true) (wpb:(Lit.int .i64 l.pb).wf=true) :
  Calls Tryz.prog 110 #[.agg (lkA l),.pointer (some ⟨N,0,none⟩),.pointer (some ⟨Q,0,none⟩)] w fun e w'=>e=.returned (.int .i64 (lSay K l (cntI f (l.a,l.pa) m) (cntI f (l.b,l.pb) (m+1))))∧(Pl.lkErr K l=0→PCnt w' B f (m+2))∧w.grownBy w' (some B):=by
 obtain⟨X,HX⟩:∃X,Hid (X=w.alloc (.cells (lkA l) 83)):=⟨_,rfl⟩
 have hXB:Bl w X:=(by rw[HX.out];exact bA1 _ _)
 have hXb:X.heap[w.heap.size]?=some (.cells (lkA l) 83):=(by rw[HX.out];exact heap_alloc_last _ _)
 have hlt:=hc.lt;have hQl:=block_lt_of_cell hQ;have hPl:=block_lt_of_cell hP;have hNl:=block_lt_of_cell hN;simp only at hQl hPl hNl;have HL:Hid (∀W,X.grownBy W (some B)→(W.cell? ⟨w.heap.size,0,none⟩=some (.int .i64 l.a)∧W.cell? ⟨w.heap.size,1,none⟩=some (.int .i64 l.pa)∧W.cell? ⟨w.heap.size,2,none⟩=some (.int .i64 l.b)∧W.cell? ⟨w.heap.size,3,none⟩=some (.int .i64 l.pb))∧W.cell? ⟨Q,0,none⟩=some (.func (.func 160) #[] #[.pointer (some ⟨P,0,none⟩)])):=by
  intro W hW;obtain⟨x0,x1,x2,x3,_⟩:=lk_cells (grown_block hXb hW (by omega));exact⟨⟨x0,x1,x2,x3⟩,grown_cell ((hXB.cell (by exact hQl)).trans hQ) hW hQB⟩
 have HGG:Hid (∀W,X.grownBy W (some B)→w.grownBy W (some B)):=fun W hW=>(grown_of_below hXB).trans hW;have HC:Hid (Calls Tryz.prog 111 #[.agg (lkA l),.int .i64 K] X fun e w'=>e=.returned (.int .i64 (Pl.lkErr K l))∧Hid (X.grownBy w' (some B)∧PCnt w' B f m)):=by
  refine(pwrongLink_any K l X hK).mono ?_;rintro e w' ⟨rfl,h2⟩;exact⟨rfl,grown_of_below h2,(hc.same (hXB.block B hlt)).same (h2.block B (Nat.lt_of_lt_of_le hlt hXB.size))⟩
 have HT1:Hid (∀W,Hid (X.grownBy W (some B)∧PCnt W B f m)→Calls Tryz.prog 160 #[.agg #[.int .i64 l.a,.int .i64 l.pa],.pointer (some ⟨P,0,none⟩)] W fun e w'=>e=.returned (.int .i64 (if 0<cntI f (l.a,l.pa) m then 7 else 0))∧Hid (X.grownBy w' (some B)∧PCnt w' B f (m+1))):=by
  intro W hW;refine(ptake_any P B m f (l.a,l.pa) W (grown_cell ((hXB.cell (by exact hPl)).trans hP) hW.out.1 hPB) hPB hW.out.2 (by omega) hf wa wpa).mono ?_;rintro e w' ⟨rfl,k1,k2⟩;exact⟨rfl,hW.out.1.trans k2,k1⟩
 have HT2:Hid (∀W,Hid (X.grownBy W (some B)∧PCnt W B f (m+1))→Calls Tryz.prog 160 #[.agg #[.int .i64 l.b,.int .i64 l.pb],.pointer (some ⟨P,0,none⟩)] W fun e w'=>e=.returned (.int .i64 (if 0<cntI f (l.b,l.pb) (m+1) then 7 else 0))∧Hid (X.grownBy w' (some B)∧PCnt w' B f (m+2))):=by
  intro W hW;refine(ptake_any P B (m+1) f (l.b,l.pb) W (grown_cell ((hXB.cell (by exact hPl)).trans hP) hW.out.1 hPB) hPB hW.out.2 (by omega) hf1 wb wpb).mono ?_;rintro e w' ⟨rfl,k1,k2⟩;exact⟨rfl,hW.out.1.trans k2,k1⟩
 obtain⟨q0,q1,q2,q3,q4,q5⟩:=lk_cells hXb;have n0:X.cell? ⟨N,0,none⟩=some (.int .i64 K):=(hXB.cell (by exact hNl)).trans hN;have HFIN:Hid (∀W (o:Obj),Hid (X.grownBy W (some B)∧PCnt W B f (m+2))→PCnt (W.alloc o) B f (m+2)∧w.grownBy (W.alloc o) (some B)):=fun W o hW=>by
  have h1:=hW.out.2.lt;exact⟨hW.out.2.same ((bA1 W o).block B h1),(HGG.out W hW.out.1).trans (grown_of_below (bA1 W o))⟩
 have HAD:Hid (∀W,Hid (X.grownBy W (some B)∧PCnt W B f m)→Hid (X.grownBy W.drew (some B)∧PCnt W.drew B f m)):=fun W hW=>⟨⟨hW.out.1.os,hW.out.1.tape,hW.out.1.output,hW.out.1.size,hW.out.1.block⟩,hW.out.2⟩
 have HSAY:Hid (Pl.lkErr K l=0→lSay K l (cntI f (l.a,l.pa) m) (cntI f (l.b,l.pb) (m+1))=if (if 0<cntI f (l.a,l.pa) m then(7:Int) else 0)=0 then(if 0<cntI f (l.b,l.pb) (m+1) then 7 else 0) else(if 0<cntI f (l.a,l.pa) m then 7 else 0)):=fun h=>by
  unfold lSay;rw[if_neg (fun q=>q h)];by_cases c:0<cntI f (l.a,l.pa) m
  ·rw[if_pos c,if_pos c];rfl
  ·rw[if_neg c,if_neg c];rfl
 have HSAY2:Hid (Pl.lkErr K l≠0→lSay K l (cntI f (l.a,l.pa) m) (cntI f (l.b,l.pb) (m+1))=Pl.lkErr K l):=fun h=>if_pos h;generalize lSay K l (cntI f (l.a,l.pa) m) (cntI f (l.b,l.pb) (m+1))=S at *;generalize (if 0<cntI f (l.a,l.pa) m then(7:Int) else 0)=R1 at *;generalize (if 0<cntI f (l.b,l.pb) (m+1) then(7:Int) else 0)=R2 at *;generalize Pl.lkErr K l=E at *;clear hQ hP hc hf hf1 hXb hXB hN wa wpa wb wpb;obtain⟨a,pa,b,pb,c,up⟩:=l;simp only[lkA] at *;rw[HX.out] at n0;by_cases e0:E=0
 ·subst e0;have HS:Hid (S=if R1=0 then R2 else R1):=HSAY.out (by first | exact rfl | trivial);have HOR:Hid (∀(g:Nat) (ty:TypeId) (W:World),W.heap[g]?=some (.cells #[.int .i64 R1,.int .i64 R2] ty (0,0))→Calls Tryz.prog 112 #[.slice (some ⟨g,0,none⟩) 2 2] W fun e w'=>e=.returned (.int .i64 S)∧w'=W):=fun g ty W h=>by rw[HS.out];exact core2 R1 R2 g ty W h
  clear HSAY HSAY2 HS;go_enter Tryz.func110,Tryz.ntmps110;(go_wp2_with fail);rw[←HX.out];refine HC.out.mono ?_;rintro e w1 ⟨rfl,hA⟩;obtain⟨⟨x0,x1,x2,x3⟩,x4⟩:=HL.out w1 hA.out.1;have HA0:Hid _:=HAD.out w1 hA;have HAd:Hid (X.grownBy w1.drew (some B)):=HA0.out.1;clear q0 q1 q2 q3 q4 q5 n0 hA HAD HC;(go_wp2_with fail);go_region_held3 (fun W=>(W.cell? ⟨w.heap.size,0,none⟩=some (.int .i64 a)∧W.cell? ⟨w.heap.size,1,none⟩=some (.int .i64 pa)∧W.cell? ⟨w.heap.size,2,none⟩=some (.int .i64 b)∧W.cell? ⟨w.heap.size,3,none⟩=some (.int .i64 pb))∧W.cell? ⟨Q,0,none⟩=some (.func (.func 160) #[] #[.pointer (some ⟨P,0,none⟩)]))
   (first | (exact HL.out _ HAd.out) | (exact HL.out _ HA1.out.1) | (exact HL.out _ HA2.out.1) | (exact HL.out _ (HA2.out.1.trans (grown_of_below (bA1 _ _)))))
   (first | (go_at_call 160;first | ((with_reducible refine(HT1.out _ HA0).mono ?_);rintro e wa ⟨rfl,HA1⟩) | ((with_reducible refine(HT2.out _ HA1).mono ?_);rintro e wb ⟨rfl,HA2⟩)) | (go_at_call 112;refine(HOR.out _ _ _ (heap_alloc_last _ _)).mono ?_;rintro e wc ⟨rfl,rfl⟩))
  (all_goals go_wp2_with fail);(all_goals go_ret);all_goals first | exact⟨rfl,fun _=>(HFIN.out _ _ HA2).1,(HFIN.out _ _ HA2).2⟩ | exact⟨rfl,(HFIN.out _ _ HA2).1,(HFIN.out _ _ HA2).2⟩
 ·have e1:(E == 0)=false:=(by simp[e0])
  have HS:Hid (S=E):=HSAY2.out e0;clear HSAY HSAY2;go_enter Tryz.func110,Tryz.ntmps110;(go_wp2_with fail);rw[←HX.out];refine HC.out.mono ?_;rintro e w1 ⟨rfl,hA⟩;(go_wp2_with fail);go_ret;exact⟨by rw[HS.out];rfl,fun h=>absurd h e0,HGG.out _ hA.out.1⟩
theorem seq_isEnd (ls:Nat→Lk) (x p:Int) (k:Nat):Vc.someTo (fun j=>decide (endSeq ls j=(x,p))) (2*k)=true↔∃i,i<k∧Pl.isEnd (ls i) x p=true:=by
 rw[Pl.someTo_iff];constructor
 ·rintro⟨j,hj,h⟩;have h:=of_decide_eq_true h;refine⟨j/2,by omega,?_⟩;unfold endSeq at h;unfold Pl.isEnd;by_cases e:j%2=0
  ·rw[if_pos e] at h;injection h with h1 h2;simp[h1,h2]
  ·rw[if_neg e] at h;injection h with h1 h2;simp[h1,h2]
 ·rintro⟨i,hi,h⟩;unfold Pl.isEnd at h;simp only[Bool.or_eq_true,decide_eq_true_eq] at h;rcases h with⟨h1,h2⟩ | ⟨h1,h2⟩
  ·exact⟨2*i,by omega,decide_eq_true (by rw[endSeq_even,h1,h2])⟩
  ·exact⟨2*i+1,by omega,decide_eq_true (by rw[endSeq_odd,h1,h2])⟩
theorem lSay_err (K:Nat) (ls:Nat→Lk) (k:Nat):lSay K (ls k) (cntI (endSeq ls) ((ls k).a,(ls k).pa) (2*k)) (cntI (endSeq ls) ((ls k).b,(ls k).pb) (2*k+1))=Pl.lErr K ls k:=by
 unfold lSay Pl.lErr;by_cases h:Pl.lkErr K (ls k)=0
 ·have hn:¬Pl.lkErr K (ls k)≠0:=fun q=>q h;rw[if_neg hn,if_neg hn];have hab:=(Pl.lkErr_ok h).2.2.1;have c1:=(cntI_pos (endSeq ls) ((ls k).a,(ls k).pa) (2*k)).trans (seq_isEnd ls _ _ k);have c2:0<cntI (endSeq ls) ((ls k).b,(ls k).pb) (2*k+1)↔∃i,i<k∧Pl.isEnd (ls i) (ls k).b (ls k).pb=true:=by
   have e:cntI (endSeq ls) ((ls k).b,(ls k).pb) (2*k+1)=cntI (endSeq ls) ((ls k).b,(ls k).pb) (2*k):=by
    show _+(if endSeq ls (2*k)=_ then(1:Int) else 0)=_;rw[if_neg (by rw[endSeq_even];intro q;injection q with q1 _;exact hab q1),Int.add_zero]
   rw[e];exact(cntI_pos (endSeq ls) ((ls k).b,(ls k).pb) (2*k)).trans (seq_isEnd ls _ _ k)
  have c3:Vc.someTo (fun j=>Pl.isEnd (ls j) (ls k).a (ls k).pa||Pl.isEnd (ls j) (ls k).b (ls k).pb) k=true↔(0<cntI (endSeq ls) ((ls k).a,(ls k).pa) (2*k)∨0<cntI (endSeq ls) ((ls k).b,(ls k).pb) (2*k+1)):=by
   rw[Pl.someTo_iff,c1,c2];constructor
   ·rintro⟨i,hi,q⟩;simp only[Bool.or_eq_true] at q;rcases q with q | q
    ·exact Or.inl ⟨i,hi,q⟩
    ·exact Or.inr ⟨i,hi,q⟩
   ·rintro(⟨i,hi,q⟩ | ⟨i,hi,q⟩)
    ·exact⟨i,hi,by simp[q]⟩
    ·exact⟨i,hi,by simp[q]⟩
  by_cases q1:0<cntI (endSeq ls) ((ls k).a,(ls k).pa) (2*k)
  ·rw[if_pos q1,if_pos (c3.2 (Or.inl q1))]
  ·rw[if_neg q1];by_cases q2:0<cntI (endSeq ls) ((ls k).b,(ls k).pb) (2*k+1)
   ·rw[if_pos q2,if_pos (c3.2 (Or.inr q2))]
   ·rw[if_neg q2,if_neg (fun q=>by rcases c3.1 q with q | q;exact q1 q;exact q2 q)]
 ·rw[if_pos h,if_pos h]
theorem lErr_zero {K:Nat}{ls:Nat→Lk}{k:Nat}(h:Pl.lErr K ls k=0):Pl.lkErr K (ls k)=0:=(Pl.lErr_ok h).1
theorem plFirst_any (ao:Option Addr) (n cap:Nat) (ls:Nat→Lk) (K:Nat) (hK:K≤12) (N Q P B:Nat) (W0 w:World) (hn:n≤40) (hr:LRow W0 ao n cap ls) (hwf:∀i,i<n→(Lit.int .i64 (ls i).a).wf=true∧(Lit.int .i64 (ls i).pa).wf=true∧(Lit.int .i64 (ls i).b).wf=true∧(Lit.int .i64 (ls i).pb).wf=true)
  (hN:w.cell? ⟨N,0,none⟩=some (.int .i64 K)) (hNB:N≠B)
  (hQ:w.cell? ⟨Q,0,none⟩=some (.func (.func 160) #[] #[.pointer (some ⟨P,0,none⟩)])) (hP:w.cell? ⟨P,0,none⟩=some (.map (some B))) (hPB:P≠B) (hQB:Q≠B) (hc:PCnt w B (endSeq ls) 0)
  (hM:W0.heap.size≤B) (hW0:Bl W0 w) :
  Calls Tryz.prog 109 #[.slice ao n cap,.func (.func 110) #[] #[.pointer (some ⟨N,0,none⟩),.pointer (some ⟨Q,0,none⟩)]] w fun e w'=>e=.returned (.agg (ftA (Pl.firstTo (Pl.lErr K ls) n)))∧Bl W0 w':=by
 have HRW:Hid (∀W,Bl W0 W→LRow W ao n cap ls):=fun W hW=>CRow.other hr (fun q _ _ hq=>hW.block q hq) hW.size;have HWF:Hid (∀i,i<n→(Lit.int .i64 (ls i).a).wf=true∧(Lit.int .i64 (ls i).pa).wf=true∧(Lit.int .i64 (ls i).b).wf=true∧(Lit.int .i64 (ls i).pb).wf=true):=hwf;have hcap:=hr.1;have hBl:=hc.lt;obtain⟨G,HG⟩:∃G,Hid (G=w.heap.size):=⟨_,rfl⟩
 have hGB:G≠B:=(by rw[HG.out];omega)
 have hGM:W0.heap.size≤G:=(by rw[HG.out];exact hW0.size)
 have HI:Hid (∀W,W=w.alloc (.cells #[.int .i64 0,.int .i64 0] 26)→Bl W0 W∧PCnt W B (endSeq ls) 0∧W.heap[G]?=some (.cells #[.int .i64 0,.int .i64 0] 26)∧W.cell? ⟨Q,0,none⟩=some (.func (.func 160) #[] #[.pointer (some ⟨P,0,none⟩)])∧W.cell? ⟨P,0,none⟩=some (.map (some B))∧W.cell? ⟨N,0,none⟩=some (.int .i64 K)):=by
  intro W hW;have h1:Bl w W:=(by rw[hW];exact bA1 _ _)
  have hQl:=block_lt_of_cell hQ;have hPl:=block_lt_of_cell hP;have hNl:=block_lt_of_cell hN;exact⟨hW0.trans (h1.mono hW0.size),hc.same (h1.block B hBl),by rw[hW,HG.out];exact heap_alloc_last _ _,(h1.cell (by exact hQl)).trans hQ,(h1.cell (by exact hPl)).trans hP,(h1.cell (by exact hNl)).trans hN⟩
 clear hr hwf hQ hP hN hc hW0 hBl;go_enter Tryz.func109,Tryz.ntmps109;(go_wp2_with fail);rw[←HG.out];go_loopw [10] (fun i wr=>∃k:Nat,k≤n∧i=.int .i64 k∧Hid (∀j,j<k→Pl.lErr K ls j=0)∧Hid (Bl W0 wr∧PCnt wr B (endSeq ls) (2*k)∧wr.heap[G]?=some (.cells #[.int .i64 0,.int .i64 0] 26)∧wr.cell? ⟨Q,0,none⟩=some (.func (.func 160) #[] #[.pointer (some ⟨P,0,none⟩)])∧wr.cell? ⟨P,0,none⟩=some (.map (some B))∧wr.cell? ⟨N,0,none⟩=some (.int .i64 K))) (fun i _=>n-(intOf i).toNat)
 case atStart=>exact⟨0,by omega,rfl,(fun j hj=>absurd hj (by omega)),HI.out _ rfl⟩
 case round =>
  obtain⟨k,hk,rfl,hS,hX⟩:=hrel;clear HI;by_cases hlt:k<n
  ·obtain⟨b,off,rfl,_⟩:=CRow.some (HRW.out wr hX.out.1) (by omega);obtain⟨c0,c1,c2,c3,c4,c5⟩:=LRow.cells (HRW.out wr hX.out.1) hlt;obtain⟨X,HX⟩:∃X,Hid (X=wr.alloc (.cells (lkA (ls k)) 83)):=⟨_,rfl⟩
   have HXB:Hid (Bl wr X):=(by rw[HX.out];exact bA1 _ _)
   have HX5:Hid (X.heap[wr.heap.size]?=some (.cells (lkA (ls k)) 83)):=(by rw[HX.out];exact heap_alloc_last _ _)
   have HCL:Hid (Calls Tryz.prog 110 #[.agg (lkA (ls k)),.pointer (some ⟨N,0,none⟩),.pointer (some ⟨Q,0,none⟩)] X fun e w'=>e=.returned (.int .i64 (Pl.lErr K ls k))∧Hid (Bl W0 w'∧(Pl.lErr K ls k=0→PCnt w' B (endSeq ls) (2*(k+1)))∧w'.heap[G]?=some (.cells #[.int .i64 0,.int .i64 0] 26)∧w'.cell? ⟨Q,0,none⟩=some (.func (.func 160) #[] #[.pointer (some ⟨P,0,none⟩)])∧w'.cell? ⟨P,0,none⟩=some (.map (some B))∧w'.cell? ⟨N,0,none⟩=some (.int .i64 K))):=by
    obtain⟨x1,x2,x3,x4,x5,x6⟩:=hX.out;have l1:=block_lt_of_cell x4;have l2:=block_lt_of_cell x5;have l3:=block_lt_of_cell x6;have y6:=(HXB.out.cell (by exact l3)).trans x6;obtain⟨v1,v2,v3,v4⟩:=HWF.out k hlt;have y1:Bl W0 X:=x1.trans (HXB.out.mono x1.size);have y4:=(HXB.out.cell (by exact l1)).trans x4;have y5:=(HXB.out.cell (by exact l2)).trans x5;have y3:=keep x3 HXB.out;refine(plClosure_any K hK (ls k) N Q P B (2*k) (endSeq ls) X y6 y4 y5 hPB hQB (x2.same (HXB.out.block B x2.lt)) (by omega) (endSeq_even ls k) (endSeq_odd ls k) v1 v2 v3 v4).mono ?_;rintro e w' ⟨rfl,z1,z2⟩;rw[lSay_err];exact⟨rfl,y1.trans (below_of_grown z2 y1.size hM),fun h=>z1 (lErr_zero h),grown_block y3 z2 hGB,grown_cell y4 z2 hQB,grown_cell y5 z2 hPB,grown_cell y6 z2 hNB⟩
   have HF1:Hid (Pl.lErr K ls k≠0→ftA (Pl.firstTo (Pl.lErr K ls) n)=#[.int .i64 (Pl.lErr K ls k),.int .i64 (k:Int)]):=fun h=>by rw[Pl.firstTo_here (Pl.lErr K ls) k hS.out h n hlt];rfl
   have HS1:Hid (Pl.lErr K ls k=0→∀j,j<k+1→Pl.lErr K ls j=0):=fun h j hj=>by
    by_cases e:j=k
    ·subst e;exact h
    ·exact hS.out j (by omega)
   obtain⟨d0,d1,d2,d3,d4,d5⟩:=lk_cells HX5.out;clear hX hS HX5 HXB HWF HRW;generalize Pl.lErr K ls k=E at *;by_cases e0:E=0
   ·subst e0;have HS2:Hid (∀j,j<k+1→Pl.lErr K ls j=0):=HS1.out rfl;clear HS1 HF1;simp only[lkA] at *;(go_wp2_with fail);rw[←HX.out];refine HCL.out.mono ?_;rintro e w1 ⟨rfl,hY⟩;clear d0 d1 d2 d3 d4 d5 c0 c1 c2 c3 c4 c5;(go_wp2_with fail);exact⟨⟨k+1,by omega,by go_num,HS2,⟨hY.out.1,hY.out.2.1 (by first | exact rfl | trivial),hY.out.2.2⟩⟩,by simp[intOf];omega⟩
   ·have e1:(E == 0)=false:=(by simp[e0])
    have HF2:Hid _:=HF1.out e0;clear HS1 HF1;simp only[lkA] at *;(go_wp2_with fail);rw[←HX.out];refine HCL.out.mono ?_;rintro e w1 ⟨rfl,hY⟩;clear d0 d1 d2 d3 d4 d5 c0 c1 c2 c3 c4 c5;obtain⟨f0,f1⟩:=tC2 hY.out.2.2.1;obtain⟨g0,g1,_,_⟩:=vc_free hY.out.2.2.1;(go_wp2_with fail);exact bodyPost_ret (v:=.agg #[.int .i64 E,.int .i64 (k:Int)]) (results_row (p:=4) (ty:=26) Tryz.results109 _ _ G 26 #[.int .i64 E,.int .i64 (k:Int)] (0,0) _ rfl (set2_same hY.out.2.2.1) Tryz.underlying26 rfl (by rw[sizeFt];rfl)) rfl ⟨by rw[HF2.out],(hY.out.1.setCell hGM _).setCell hGM _⟩
  ·obtain rfl:k=n:=by omega
   have HF2:Hid (ftA (Pl.firstTo (Pl.lErr K ls) k)=#[.int .i64 0,.int .i64 0]):=(by rw[Pl.firstTo_all _ _ hS.out];rfl)
   obtain⟨f0,f1⟩:=tC2 hX.out.2.2.1;obtain⟨g0,g1,_,_⟩:=vc_free hX.out.2.2.1;(go_wp2_with fail);exact bodyPost_ret (v:=.agg #[.int .i64 0,.int .i64 0]) (results_row (p:=4) (ty:=26) Tryz.results109 _ _ G 26 #[.int .i64 0,.int .i64 0] (0,0) _ rfl (set2_same hX.out.2.2.1) Tryz.underlying26 rfl (by rw[sizeFt];rfl)) rfl ⟨by rw[HF2.out],(hX.out.1.setCell hGM _).setCell hGM _⟩
theorem pwrongBridges_any (ao:Option Addr) (n cap:Nat) (bs:Nat→Br) (w:World) (hn:n≤12) (hr:BRow w ao n cap bs) (hb:∀i,i<n→(bs i).at' w) (hwf:∀i,i<n→(Lit.int .u64 (bs i).addr).wf=true) :
  Calls Tryz.prog 65 #[.slice ao n cap] w fun e w'=>e=.returned (.agg (ftA (Pl.firstTo (Pl.bErr bs) n)))∧Bl w w':=by
 obtain⟨X,HX⟩:∃X,Hid (X=w.alloc (.cells #[.int .i64 0,.int .i64 0] 26)):=⟨_,rfl⟩
 have hXB:Bl w X:=(by rw[HX.out];exact bA1 _ _)
 have hXb:X.heap[w.heap.size]?=some (.cells #[.int .i64 0,.int .i64 0] 26):=(by rw[HX.out];exact heap_alloc_last _ _)
 have hXs:X.heap.size=w.heap.size+1:=(by rw[HX.out];simp)
 have HT:Hid (Calls Tryz.prog 104 #[] X fun e w'=>e=.returned (.func (.func 157) #[] #[.pointer (some ⟨X.heap.size+1,0,none⟩)])∧Hid (w'.cell? ⟨X.heap.size+1,0,none⟩=some (.map (some X.heap.size))∧UCnt w' X.heap.size (fun j=>(bs j).addr) 0∧Bl X w')):=utaker_any _ X;have HF:Hid (∀w1,Hid (w1.cell? ⟨X.heap.size+1,0,none⟩=some (.map (some X.heap.size))∧UCnt w1 X.heap.size (fun j=>(bs j).addr) 0∧Bl X w1)→∀Y,Y=w1.alloc (.cells #[.func (.func 157) #[] #[.pointer (some ⟨X.heap.size+1,0,none⟩)]] 199) →
   Calls Tryz.prog 105 #[.slice ao n cap,.func (.func 106) #[] #[.pointer (some ⟨w1.heap.size,0,none⟩)]] Y fun e w'=>e=.returned (.agg (ftA (Pl.firstTo (Pl.bErr bs) n)))∧Bl X w'):=by
  intro w1 h Y hY;obtain⟨h1,h2,h3⟩:=h.out;have hYB:Bl w1 Y:=(by rw[hY];exact bA1 _ _)
  have l1:=block_lt_of_cell h1;have h2':=h2.lt;have hYX:Bl X Y:=h3.trans (hYB.mono h3.size);have hYQ:Y.heap[w1.heap.size]?=some (.cells #[.func (.func 157) #[] #[.pointer (some ⟨X.heap.size+1,0,none⟩)]] 199):=(by rw[hY];exact heap_alloc_last _ _)
  refine(pbFirst_any ao n cap bs w1.heap.size (X.heap.size+1) X.heap.size X Y hn (CRow.below hr hXB) (fun i hi=>(hb i hi).below hXB) hwf (cell_of_row _ _ 0 _ _ _ hYQ) ((hYB.cell (by exact l1)).trans h1) (by omega) (by omega) (h2.same (hYB.block _ h2')) (Nat.le_refl _) hYX).mono ?_;rintro e w' ⟨rfl,z⟩;exact⟨rfl,z⟩
 have HEND:Hid (∀W,Bl X W→W.heap[w.heap.size]?=some (.cells #[.int .i64 0,.int .i64 0] 26)∧Bl w W):=fun W hW=>⟨keep hXb hW,hXB.trans (hW.mono hXB.size)⟩
 clear hr hb hwf hXb hXB hXs;generalize Pl.firstTo (Pl.bErr bs) n=R at *;obtain⟨r1,r2⟩:=R;simp only[ftA] at *;go_enter Tryz.func65,Tryz.ntmps65;(go_wp2_with fail);rw[←HX.out];refine HT.out.mono ?_;rintro e w1 ⟨rfl,h1⟩;have hf:=HF.out w1 h1 _ rfl;clear HT HF h1;(go_wp2_with fail);refine hf.mono ?_;rintro e w2 ⟨rfl,h2⟩;obtain⟨k1,k2⟩:=HEND.out w2 h2;obtain⟨f0,f1⟩:=tC2 k1;obtain⟨g0,g1,_,_⟩:=vc_free k1;have HK1:Hid (w2.heap[w.heap.size]?=some (.cells #[.int .i64 0,.int .i64 0] 26)):=k1;have HK2:Hid (Bl w w2):=k2;clear hf k1 k2 h2 HEND;(go_wp2_with fail);exact bodyPost_ret (v:=.agg #[.int .i64 r1,.int .i64 r2]) (results_row (p:=2) (ty:=26) Tryz.results65 _ _ w.heap.size 26 #[.int .i64 r1,.int .i64 r2] (0,0) _ rfl (set2_same HK1.out) Tryz.underlying26 rfl (by rw[sizeFt];rfl)) rfl ⟨rfl,(HK2.out.setCell (Nat.le_refl _) _).setCell (Nat.le_refl _) _⟩
theorem pwrongLinks_any (ao:Option Addr) (n cap:Nat) (ls:Nat→Lk) (K:Nat) (hK:K≤12) (w:World) (hn:n≤40) (hr:LRow w ao n cap ls) (hwf:∀i,i<n→(Lit.int .i64 (ls i).a).wf=true∧(Lit.int .i64 (ls i).pa).wf=true∧(Lit.int .i64 (ls i).b).wf=true∧(Lit.int .i64 (ls i).pb).wf=true) :
  Calls Tryz.prog 66 #[.slice ao n cap,.int .i64 K] w fun e w'=>e=.returned (.agg (ftA (Pl.firstTo (Pl.lErr K ls) n)))∧Bl w w':=by
 obtain⟨X,HX⟩:∃X,Hid (X=(w.alloc (.cells #[.int .i64 K] 3)).alloc (.cells #[.int .i64 0,.int .i64 0] 26)):=⟨_,rfl⟩
 have hXB:Bl w X:=(by rw[HX.out];exact bA2 _ _ _)
 have hXn:X.heap[w.heap.size]?=some (.cells #[.int .i64 K] 3):=(by rw[HX.out];exact heap_alloc2_old w _ _)
 have hXb:X.heap[w.heap.size+1]?=some (.cells #[.int .i64 0,.int .i64 0] 26):=(by rw[HX.out];exact heap_alloc2_new w _ _)
 have hXs:X.heap.size=w.heap.size+2:=(by rw[HX.out];simp)
 have HT:Hid (Calls Tryz.prog 108 #[] X fun e w'=>e=.returned (.func (.func 160) #[] #[.pointer (some ⟨X.heap.size+1,0,none⟩)])∧Hid (w'.cell? ⟨X.heap.size+1,0,none⟩=some (.map (some X.heap.size))∧PCnt w' X.heap.size (endSeq ls) 0∧Bl X w')):=ptaker_any _ X;have HF:Hid (∀w1,Hid (w1.cell? ⟨X.heap.size+1,0,none⟩=some (.map (some X.heap.size))∧PCnt w1 X.heap.size (endSeq ls) 0∧Bl X w1)→∀Y,Y=w1.alloc (.cells #[.func (.func 160) #[] #[.pointer (some ⟨X.heap.size+1,0,none⟩)]] 203) →
   Calls Tryz.prog 109 #[.slice ao n cap,.func (.func 110) #[] #[.pointer (some ⟨w.heap.size,0,none⟩),.pointer (some ⟨w1.heap.size,0,none⟩)]] Y fun e w'=>e=.returned (.agg (ftA (Pl.firstTo (Pl.lErr K ls) n)))∧Bl X w'):=by
  intro w1 h Y hY;obtain⟨h1,h2,h3⟩:=h.out;have hYB:Bl w1 Y:=(by rw[hY];exact bA1 _ _)
  have l1:=block_lt_of_cell h1;have h2':=h2.lt;have hYX:Bl X Y:=h3.trans (hYB.mono h3.size);have hYQ:Y.heap[w1.heap.size]?=some (.cells #[.func (.func 160) #[] #[.pointer (some ⟨X.heap.size+1,0,none⟩)]] 203):=(by rw[hY];exact heap_alloc_last _ _)
  refine(plFirst_any ao n cap ls K hK w.heap.size w1.heap.size (X.heap.size+1) X.heap.size X Y hn (CRow.below hr hXB) hwf (cell_of_row _ _ 0 _ _ _ (keep hXn hYX)) (by omega) (cell_of_row _ _ 0 _ _ _ hYQ) ((hYB.cell (by exact l1)).trans h1) (by omega) (by omega) (h2.same (hYB.block _ h2')) (Nat.le_refl _) hYX).mono ?_;rintro e w' ⟨rfl,z⟩;exact⟨rfl,z⟩
 have HEND:Hid (∀W,Bl X W→W.heap[w.heap.size+1]?=some (.cells #[.int .i64 0,.int .i64 0] 26)∧Bl w W):=fun W hW=>⟨keep hXb hW,hXB.trans (hW.mono hXB.size)⟩
 clear hr hwf hXb hXn hXB hXs;generalize Pl.firstTo (Pl.lErr K ls) n=R at *;obtain⟨r1,r2⟩:=R;simp only[ftA] at *;go_enter Tryz.func66,Tryz.ntmps66;(go_wp2_with fail);rw[←HX.out];refine HT.out.mono ?_;rintro e w1 ⟨rfl,h1⟩;have hf:=HF.out w1 h1 _ rfl;clear HT HF h1;(go_wp2_with fail);refine hf.mono ?_;rintro e w2 ⟨rfl,h2⟩;obtain⟨k1,k2⟩:=HEND.out w2 h2;obtain⟨f0,f1⟩:=tC2 k1;obtain⟨g0,g1,_,_⟩:=vc_free k1;have HK1:Hid (w2.heap[w.heap.size+1]?=some (.cells #[.int .i64 0,.int .i64 0] 26)):=k1;have HK2:Hid (Bl w w2):=k2;clear hf k1 k2 h2 HEND;(go_wp2_with fail);exact bodyPost_ret (v:=.agg #[.int .i64 r1,.int .i64 r2]) (results_row (p:=4) (ty:=26) Tryz.results66 _ _ (w.heap.size+1) 26 #[.int .i64 r1,.int .i64 r2] (0,0) _ rfl (set2_same HK1.out) Tryz.underlying26 rfl (by rw[sizeFt];rfl)) rfl ⟨rfl,(HK2.out.setCell (Nat.le_add_right _ _) _).setCell (Nat.le_add_right _ _) _⟩
end
end Go.Proofs.YtflghpnpjmodaaaGreatDoor
