/- walks: package talk's tick -/
import Derived.Test.YtelebnancdjjiaaGreatDoorM14
import Derived.Test.YtelebnancdjjiaaGreatDoorM15
import Derived.Test.YtelebnancdjjiaaGreatDoorM12
import Derived.Test.YtelebnancdjjiaaGreatDoorM06
import Derived.Test.YtelebnancdjjiaaGreatDoorM07
import Derived.Test.YtelebnancdjjiaaGreatDoorM13
set_option maxRecDepth 100000
set_option maxHeartbeats 6000000
namespace Go.Proofs.YtelebnancdjjiaaGreatDoor
section
open Go.RowKit
open Vc (V Of)
open Pl (En Lk Br)
open Tk (Md Mnd Cn Sc ixM ilist)
structure Tm where
 vb:Value
 vl:Value
 vo:Value
 vt:Nat→Value
 iv:Nat→Value
 we:Nat→Value
def brX (addr:Int) (p:Value) (nm:ByteArray) (rev:Int) (ww:Value) (x:Nat):Value:=if x=0 then .int .u64 addr else if x=1 then p else if x=2 then .string nm else if x=3 then .int .i64 rev else ww
def wyC (v t:Int) (x:Nat):Value:=if x=0 then .int .i64 v else .int .i64 t
def Tm.mc (M:Tm) (s:Sc) (k i:Nat):Nat→Value:=mdC (s.ms k i).md (M.iv (ixM k i 0)) (M.iv (ixM k i 1)) (M.iv (ixM k i 2))
structure Tf where
 c:Cn
 T:Nat
 pts:Nat→List Int
 rg:Nat→Rg.Reg
 bs:Nat→Br
 B1:Nat
 B2:Nat
 W0:World
abbrev Tf.base (F:Tf):Nat:=F.W0.heap.size
abbrev Tf.il (F:Tf) (s:Sc):Nat→List Int:=ilist F.c.K F.T F.pts s
structure ScAt (W:World) (S:Nat) (F:Tf) (s:Sc) (M:Tm) (G:Nat) (ve:Nat→Value):Prop where
 blk:W.heap[S]?=some (.cells #[M.vb,M.vl,M.vo,.func (.func 150) #[] #[.pointer (some ⟨F.B1,0,none⟩),.pointer (some ⟨F.B2,0,none⟩)],.slice (some ⟨G,0,none⟩) F.c.K F.c.K] 148)
 brs:W.ownsRow F.base 65 5 M.vb F.c.K (cellsL F.c.K 5 (fun i=>brX (F.c.addr i) (M.iv i) (F.rg i).s (F.rg i).rev (M.we i)))
 lks:W.ownsRow F.base 103 6 M.vl F.c.L (cellsL F.c.L 6 (fun k=>lkC (s.ls k)))
 out:W.ownsRow F.base 112 1 M.vo F.T (cellsL F.T 1 (fun k _=>M.vt k))
 mds:Fam W F.base 117 9 F.T M.vt (fun _=>F.c.K) (fun k i=>M.mc s k i)
 ints:Fam W F.base 3 1 156 M.iv (fun a=>(F.il s a).length) (fun a i _=>.int .i64 (IL (F.il s a) i))
 ways:Fam W F.base 131 2 12 M.we (fun i=>if i<F.c.K then(F.rg i).n else 0) (fun i j=>wyC ((F.rg i).vs j) ((F.rg i).ts j))
 low:Below F.base F.W0 W
 ends:EndsOk W G F.c.K ve (s.E F.c)
 few:F.c.K≤12
 fewT:F.T≤4
theorem cells_type {w:World}{q e e':Nat}{c c':Array Value}(h:w.heap[q]?=some (.cells c e (0,0))) (h':w.heap[q]?=some (.cells c' e' (0,0))):e=e':=by
 rw[h] at h';injection h' with h';injection h' with _ h3
theorem EndsOk.bt {w w':World}{G K:Nat}{v:Nat→Value}{E:Nat→List En}{P:Nat→Prop}(h:EndsOk w G K v E) (hb:Bt P w w') (h1:¬P G) (h2:∀q cur,w.heap[q]?=some (.cells cur 221)→¬P q):EndsOk w' G K v E:=by
 refine⟨hb.keep h.blk h1,fun i hi => ?_,fun i hi q hq => ?_⟩
 ·obtain⟨ao,cap,e,hr⟩:=h.row i hi;refine⟨ao,cap,e,CRow.other hr (fun b off eb hlt => ?_) hb.size⟩;obtain⟨cur,hc⟩:=h.ty i hi b (by rw[e,eb];rfl);exact hb.block b hlt (h2 b cur hc)
 ·obtain⟨cur,hc⟩:=h.ty i hi q hq;exact⟨cur,hb.keep hc (h2 q cur hc)⟩
theorem Fam.two {W W':World}{base e kk T:Nat}{v:Nat→Value}{n:Nat→Nat}{c:Nat→Nat→Nat→Value}{P:Nat→Prop}(h:Fam W base e kk T v n c) {jr jc base' n':Nat}{v':Value}{c' cc':Nat→Nat→Value}(hb:Bt P W W') (hne:jc≠jr) (hP:∀a,a<T→a≠jr→a≠jc→∀q,(v a).ownBlock=some q→¬P q)
  (ho:W'.ownsRow base' e kk v' n' (cellsL n' kk c')) (h1:W.heap.size≤base') (h2:base≤base') (hc:W'.ownsRow base e kk (v jc) (n jc) (cellsL (n jc) kk cc')):Fam W' base e kk T (upF v jr v') (upF n jr n') (upF (upF c jr c') jc cc'):=by
 refine⟨fun a ha => ?_,fun a b ha hb' q hqa hqb => ?_⟩
 ·by_cases q:a=jr
  ·subst q;rw[upF_same,upF_same,upF_other _ _ (Ne.symm hne),upF_same];exact owns_mono ho h2
  ·rw[upF_other _ _ q,upF_other _ _ q];by_cases q2:a=jc
   ·subst q2;rw[upF_same];exact hc
   ·rw[upF_other _ _ q2,upF_other _ _ q];exact owns_keep (h.own a ha) (fun r hr=>hb.block r (oCb (h.own a ha) r hr).2 (hP a ha q q2 r hr))
 ·by_cases qa:a=jr
  ·by_cases qb:b=jr
   ·rw[qa,qb]
   ·subst qa;rw[upF_same] at hqa;rw[upF_other _ _ qb] at hqb;have x1:=(oCb ho q hqa).1;have x2:=(oCb (h.own b hb') q hqb).2;omega
  ·by_cases qb:b=jr
   ·subst qb;rw[upF_same] at hqb;rw[upF_other _ _ qa] at hqa;have x1:=(oCb ho q hqb).1;have x2:=(oCb (h.own a ha) q hqa).2;omega
   ·rw[upF_other _ _ qa] at hqa;rw[upF_other _ _ qb] at hqb;exact h.one a b ha hb' q hqa hqb
theorem RlAt.owns {W:World}{g n:Nat}{f:Nat→Int}(h:RlAt W g n f) (hn:n≤100000):W.ownsRow g 3 1 (.slice (some ⟨g,0,none⟩) n n) n (cellsL n 1 (fun j _=>.int .i64 (f j))):=by
 refine⟨cellsL_length _ _ _,Or.inr ⟨g,n,_,rfl,Nat.le_refl _,h,Nat.le_refl _,by unfold maxLen;omega,by rw[rowC_size],?_⟩⟩;unfold rowC;simp only;rw[List.take_of_length_le (by rw[cellsL_length];exact Nat.le_refl _)]
theorem ScAt.hear {W W':World}{S:Nat}{F:Tf}{s:Sc}{M:Tm}{G:Nat}{ve:Nat→Value}(h:ScAt W S F s M G ve) {k i g cap R:Nat}{sp:Array Value}{m:Md}{rs cs:List Int}(hk:k<F.T) (hi:i<F.c.K)
  (hv:M.vt k=.slice (some ⟨g,0,none⟩) F.c.K cap) (hcap:F.c.K≤cap) (hmx:cap≤maxLen) (hsp:sp.size+F.c.K*9=cap*9)
  (hW:HearW W W' g F.c.K i sp (fun i=>M.mc s k i) m (M.iv (ixM k i 0)) (M.iv (ixM k i 2)) F.base R rs cs) (hcl:cs.length=(s.ms k i).calm.length) (hrl:rs.length≤1000) :
  ScAt W' S F (s.setM k i ⟨m,rs,cs⟩) { M with iv:=upF M.iv (ixM k i 1) (.slice (some ⟨R,0,none⟩) rs.length rs.length) } G ve:=by
 have hK:=h.few;have hT:=h.fewT;obtain⟨_,l1,l2⟩:=Tk.ilist_m (T:=F.T) hK F.pts s hk hi;have hIM:ixM k i 2<156:=Tk.ix_lt (by omega) (by omega) (by omega);have hIR:ixM k i 1<156:=Tk.ix_lt (by omega) (by omega) (by omega);have hgt:∃cur,W.heap[g]?=some (.cells cur 117):=owns_type (h.mds.own k hk) (by rw[hv];rfl);obtain⟨gcur,hgc⟩:=hgt;have hct:∀q,(M.iv (ixM k i 2)).ownBlock=some q→∃cur,W.heap[q]?=some (.cells cur 3):=fun q hq=>owns_type (h.ints.own _ hIM) hq;have hPt:∀q cur e,W.heap[q]?=some (.cells cur e (0,0))→e≠117→e≠3→¬(q=g∨(M.iv (ixM k i 2)).ownBlock=some q):=fun q cur e hq n1 n2 hp=>by
  rcases hp with hp | hp
  ·subst hp;exact n1 (cells_type hq hgc)
  ·obtain⟨c2,hc2⟩:=hct q hp;exact n2 (cells_type hq hc2)
 have hbs:=hW.else';have hbg:F.base≤g:=(oCb (h.mds.own k hk) g (by rw[hv];rfl)).1;refine⟨hbs.keep h.blk (hPt _ _ _ h.blk (by decide) (by decide)),?_,?_,?_,?_,?_,?_,?_,?_,hK,hT⟩
 ·have h1:=owns_keep h.brs (fun q hq=>by
   obtain⟨cur,hc⟩:=owns_type h.brs hq;exact hbs.block q (oCb h.brs q hq).2 (hPt q cur _ hc (by decide) (by decide)))
  rw[cellsL_congr _ 5 _ (fun i'=>brX (F.c.addr i') (upF M.iv (ixM k i 1) (.slice (some ⟨R,0,none⟩) rs.length rs.length) i') (F.rg i').s (F.rg i').rev (M.we i'))] at h1
  ·exact h1
  ·intro i' hi';rw[upF_other _ _ (by unfold ixM;omega)]
 ·exact owns_keep h.lks (fun q hq=>by
   obtain⟨cur,hc⟩:=owns_type h.lks hq;exact hbs.block q (oCb h.lks q hq).2 (hPt q cur _ hc (by decide) (by decide)))
 ·exact owns_keep h.out (fun q hq=>by
   obtain⟨cur,hc⟩:=owns_type h.out hq;exact hbs.block q (oCb h.out q hq).2 (hPt q cur _ hc (by decide) (by decide)))
 ·refine(h.mds.write hk hv hbs (fun a ha hne q hq hp => ?_) hcap hmx hsp hW.row).congr (fun _ _=>rfl) (fun a ha i' hi' x hx => ?_)
  ·rcases hp with hp | hp
   ·subst hp;exact hne (h.mds.one a k ha hk q hq (by rw[hv];rfl))
   ·obtain⟨c1,hc1⟩:=owns_type (h.mds.own a ha) hq;obtain⟨c2,hc2⟩:=hct q hp;exact absurd (cells_type hc1 hc2) (by decide)
  ·have ne:∀j,j<3→¬(a=k∧i'=i∧j=1)→upF M.iv (ixM k i 1) (.slice (some ⟨R,0,none⟩) rs.length rs.length) (ixM a i' j)=M.iv (ixM a i' j):=fun j hj hn=>upF_other _ _ (fun e=>hn (Tk.ix_one (by omega) hj (by omega) (by omega) e));unfold Tm.mc Sc.setM;by_cases qa:a=k
   ·subst qa;rw[upF_same];by_cases qi:i'=i
    ·subst qi;simp only[true_and,if_true];rw[ne 0 (by omega) (by omega),ne 2 (by omega) (by omega),upF_same]
    ·simp only[true_and,if_neg qi];rw[ne 0 (by omega) (by omega),ne 1 (by omega) (by omega),ne 2 (by omega) (by omega)]
   ·rw[upF_other _ _ qa];simp only[qa,false_and,if_false];rw[ne 0 (by omega) (by omega),ne 1 (by omega) (by omega),ne 2 (by omega) (by omega)]
 ·have hne:ixM k i 2≠ixM k i 1:=(by unfold ixM;omega)
  have hcm:W'.ownsRow F.base 3 1 (M.iv (ixM k i 2)) (F.il s (ixM k i 2)).length (cellsL (F.il s (ixM k i 2)).length 1 (fun a _=>.int .i64 (IL cs a))):=by
   have:=hW.calm;have l3:F.il s (ixM k i 2)=(s.ms k i).calm:=l2;rw[l3,←hcl];exact this
  refine(h.ints.two hbs hne (fun a ha n1 n2 q hq hp => ?_) (hW.roles.owns (by omega)) hW.new (Nat.le_trans h.low.size hW.new) hcm).congr (fun a ha => ?_) (fun a ha x hx y hy => ?_)
  ·rcases hp with hp | hp
   ·subst hp;obtain⟨c1,hc1⟩:=owns_type (h.ints.own a ha) hq;exact absurd (cells_type hc1 hgc) (by decide)
   ·exact n2 (h.ints.one a _ ha hIM q hq hp)
  ·show upF (fun a=>(F.il s a).length) (ixM k i 1) rs.length a=(F.il (s.setM k i ⟨m,rs,cs⟩) a).length;unfold Tf.il;rw[Tk.ilist_setM hK F.pts s hk hi];by_cases q2:a=ixM k i 2
   ·subst q2;rw[upF_other _ _ hne,upF_same,l2,hcl]
   ·rw[upF_other (upF (ilist F.c.K F.T F.pts s) (ixM k i 1) rs) _ q2];by_cases q1:a=ixM k i 1
    ·subst q1;rw[upF_same,upF_same]
    ·rw[upF_other _ _ q1,upF_other _ _ q1]
  ·show upF (upF (fun a i _=>Value.int .i64 (IL (F.il s a) i)) (ixM k i 1) (fun j _=>.int .i64 (IL rs j))) (ixM k i 2) (fun a _=>.int .i64 (IL cs a)) a x y=.int .i64 (IL (F.il (s.setM k i ⟨m,rs,cs⟩) a) x);unfold Tf.il;rw[Tk.ilist_setM hK F.pts s hk hi];by_cases q2:a=ixM k i 2
   ·subst q2;rw[upF_same,upF_same]
   ·rw[upF_other _ _ q2,upF_other _ _ q2];by_cases q1:a=ixM k i 1
    ·subst q1;rw[upF_same,upF_same]
    ·rw[upF_other _ _ q1,upF_other _ _ q1]
 ·exact h.ways.bt hbs (fun a ha q hq=>by
   obtain⟨c1,hc1⟩:=owns_type (h.ways.own a ha) hq;exact hPt q c1 _ hc1 (by decide) (by decide))
 ·refine h.low.trans (hbs.below h.low.size (fun q hq hp => ?_));rcases hp with hp | hp
  ·omega
  ·have:=(oCb (h.ints.own _ hIM) q hp).1;omega
 ·exact h.ends.bt hbs (hPt _ _ _ h.ends.blk (by decide) (by decide)) (fun q cur hq=>hPt q cur _ hq (by decide) (by decide))
end
section
open Go.RowKit
open Vc (V Of)
open Pl (Br Net Pc Lk En St)
structure SetIn (w:World) (bao:Option Addr) (K bcap:Nat) (bs:Nat→Br) (G:Nat) (v:Nat→Value) (E:Nat→List En):Prop where
 few:K≤12
 brs:BRow w bao K bcap bs
 each:∀i,i<K→(bs i).at' w
 fine:∀i,i<K→(bs i).Fine
 ends:EndsOk w G K v E
 len:∀i,i<K→(E i).length≤1000
 oth:∀i,i<K→∀e,e∈E i→e.live=true→0≤e.other∧e.other<K
theorem SetIn.below {w w':World}{bao:Option Addr}{K bcap:Nat}{bs:Nat→Br}{G:Nat}{v:Nat→Value}{E:Nat→List En}(h:SetIn w bao K bcap bs G v E) (hb:Bl w w'):SetIn w' bao K bcap bs G v E :=
 ⟨h.few,CRow.below h.brs hb,fun i hi=>(h.each i hi).below hb,h.fine,h.ends.below hb,h.len,h.oth⟩
def ptsRaw (ls:Nat→Lk) (i:Nat):Nat→List Int
 | 0=>[]
 | k+1=>ptsRaw ls i k++((if (ls k).a=(i:Int) then [(ls k).pa] else [])++if (ls k).b=(i:Int) then [(ls k).pb] else [])
theorem ptsRaw_ends (ls:Nat→Lk) (lv:Nat→Bool) (i:Nat):∀k,ptsRaw ls i k=(Pl.endsTo ls lv i k).map (·.port)
 | 0=>rfl
 | k+1=>by
  simp only[ptsRaw,Pl.endsTo,List.map_append];rw[ptsRaw_ends ls lv i k];congr 1
  unfold Pl.endsAt;rw[List.map_append];congr 1
  ·split<;>rfl
  ·split<;>rfl
theorem ptsRaw_few (ls:Nat→Lk) (i:Nat):∀k,(ptsRaw ls i k).length≤2*k
 | 0=>by simp[ptsRaw]
 | k+1=>by
  have:=ptsRaw_few ls i k;simp only[ptsRaw,List.length_append];split<;>split<;>simp<;>omega
theorem ports_sorted {K L:Nat}{ls:Nat→Lk}(R:Pl.RightL K L ls) (lv:Nat→Bool) (i:Nat):(ptsRaw ls i L).mergeSort (fun x y=>decide (x≤y))=(Pl.ends ls lv L i).map (·.port):=by
 have p1:((ptsRaw ls i L).mergeSort (fun x y=>decide (x≤y))).Perm (ptsRaw ls i L):=List.mergeSort_perm _ _;have p2:=(Pl.ends_perm ls lv L i).map (fun e:En=>e.port);rw[←ptsRaw_ends ls lv i L] at p2;refine(p1.trans p2.symm).eq_of_pairwise (le:=fun a b:Int=>a≤b) (fun a b _ _ h1 h2=>by omega) ?_ ?_
 ·have:=List.pairwise_mergeSort (le:=fun x y:Int=>decide (x≤y)) (fun a b c h1 h2=>by simp at *;omega) (fun a b=>by simp;omega) (ptsRaw ls i L);exact this.imp (fun {a b} h=>by simpa using h)
 ·exact(List.pairwise_map.2 (Pl.ends_sorted R lv i)).imp (fun {a b} h=>by omega)
theorem pports_own (lao:Option Addr) (K L lcap:Nat) (ls:Nat→Lk) (lv:Nat→Bool) (i:Nat) (w:World) (hL:L≤40) (hlk:LRow w lao L lcap ls) (R:Pl.RightL K L ls) :
  Calls Tryz.prog 51 #[.slice lao L lcap,.int .i64 i] w fun e w'=>∃ao cap,e=.returned (.slice ao ((Pl.ends ls lv L i).map (·.port)).length cap)∧IRow w' ao ((Pl.ends ls lv L i).map (·.port)).length cap (IL ((Pl.ends ls lv L i).map (·.port)))∧Bl w w'∧(∀ad,ao=some ad→w.heap.size≤ad.block)∧w'.ownsRow w.heap.size 3 1 (.slice ao ((Pl.ends ls lv L i).map (·.port)).length cap) ((Pl.ends ls lv L i).map (·.port)).length (intCells ((Pl.ends ls lv L i).map (·.port))):=by
 rw[←ports_sorted R lv i];have HRW:Hid (∀W,Bl w W→LRow W lao L lcap ls):=fun W hW=>CRow.below hlk hW;have hcap:=hlk.1;have HNE:Hid (∀k,k<L→¬((ls k).a=(i:Int)∧(ls k).b=(i:Int))):=fun k hk h=>(R.ok k hk).2.2.1 (h.1.trans h.2.symm);clear hlk R;have H0:Hid (w.ownsRow w.heap.size 3 1 (.slice none (ptsRaw ls i 0).length 0) (ptsRaw ls i 0).length (intCells (ptsRaw ls i 0))∧Bl w w):=⟨ownsC_nil _ _ _ _ _,Below.refl _ _⟩
 go_enter Tryz.func51,Tryz.ntmps51;(go_wp2_with fail);go_loopw [5,10] (fun s5 q wr=>∃(k:Nat) (ao:Option Addr) (cap:Nat),k≤L∧q=.int .i64 k∧s5=.slice ao (ptsRaw ls i k).length cap∧Hid (wr.ownsRow w.heap.size 3 1 (.slice ao (ptsRaw ls i k).length cap) (ptsRaw ls i k).length (intCells (ptsRaw ls i k))∧Bl w wr)) (fun _ q _=>L-(intOf q).toNat)
 case atStart=>exact⟨0,none,0,by omega,rfl,rfl,H0⟩
 case round =>
  obtain⟨k,ao,cap,hk,rfl,rfl,hX⟩:=hrel;clear H0;by_cases hlt:k<L
  ·obtain⟨hO,hB⟩:=hX.out;have f1:=HRW.out wr hB;obtain⟨lb,loff,rfl,_⟩:=CRow.some f1 (by omega);obtain⟨c0,c1,c2,c3,c4,c5⟩:=LRow.cells f1 hlt;have hfew:=ptsRaw_few ls i k;have hnext:ptsRaw ls i (k+1)=ptsRaw ls i k++((if (ls k).a=(i:Int) then [(ls k).pa] else [])++if (ls k).b=(i:Int) then [(ls k).pb] else []):=rfl;have hne:=HNE.out k hlt;have i0:(0:Int)≤(k:Int):=(by omega)
   have i1:(k:Int)<(L:Int):=(by omega)
   generalize ls k=l at *;obtain⟨a,pa,b,pb,c,up⟩:=l;simp only at c0 c1 c2 c3 c4 c5 hnext hne;obtain⟨X,HX⟩:∃X,Hid (X=wr.alloc (.cells #[.int .i64 a,.int .i64 pa,.int .i64 b,.int .i64 pb,.int .i64 c,.bool up] 103)):=⟨_,rfl⟩
   have hXB:Bl wr X:=(by rw[HX.out];exact bA1 _ _)
   have hXs2:X.heap.size=wr.heap.size+1:=(by rw[HX.out];simp)
   have hXs:w.heap.size≤X.heap.size:=Nat.le_trans hB.size hXB.size;have HOX:Hid (X.ownsRow w.heap.size 3 1 (.slice ao (ptsRaw ls i k).length cap) (ptsRaw ls i k).length (intCells (ptsRaw ls i k))):=ownsC_below hO hXB;have HBX:Hid (Bl w X):=hB.trans (hXB.mono hB.size);have hXe:X.heap[wr.heap.size]?=some (.cells #[.int .i64 a,.int .i64 pa,.int .i64 b,.int .i64 pb,.int .i64 c,.bool up] 103):=(by rw[HX.out];exact heap_alloc_last _ _)
   obtain⟨q0,q1,q2,q3,_,_⟩:=lk_cells hXe;by_cases ha:a=(i:Int)
   ·have hb:¬b=(i:Int):=fun h=>hne ⟨ha,h⟩;rw[if_pos ha,if_neg hb,List.append_nil] at hnext;obtain⟨a1,c1',w2,r,ho2,hk2,_,hb2,_⟩:=int_more2 HOX.out hXs (by omega) pa (Below.refl _ _) rfl;have hw2:w2.heap[wr.heap.size]?=some (.cells #[.int .i64 a,.int .i64 pa,.int .i64 b,.int .i64 pb,.int .i64 c,.bool up] 103):=(hk2 _ (by rw[hXs2];omega) (fun p=>by have:=(oCb hO _ p).2;omega)).trans hXe;obtain⟨_,_,p2,_,_,_⟩:=lk_cells hw2;have HN:Hid (w2.ownsRow w.heap.size 3 1 (.slice a1 (ptsRaw ls i (k+1)).length c1') (ptsRaw ls i (k+1)).length (intCells (ptsRaw ls i (k+1)))∧Bl w w2):=by
     rw[hnext];exact⟨ho2,HBX.out.trans hb2⟩
    have HR2:Hid _:=r;have HLE:Hid ((ptsRaw ls i (k+1)).length=(ptsRaw ls i k++[pa]).length):=by show _=_;rw[hnext]
    rw[hXs2] at HR2;have e2:(b == (i:Int))=false:=(by simp[hb])
    clear hne;subst ha;clear r ho2 hk2 hb2 hw2 hO hB hX f1 hnext HRW HNE HOX HBX hXe hXB hXs q0 q1 q2 q3 hXs2;go_wp2_with (at_builtin;(try rw[←HX.out]);refine wpList_append_run rfl (.tmp 18) (.tmp 21) 52 rfl _ _ _ rfl rfl HR2.out ?_)
    exact⟨⟨k+1,a1,c1',by omega,by go_num,by rw[HLE.out,List.length_append];rfl,HN⟩,by simp[intOf];omega⟩
   ·rw[if_neg ha,List.nil_append] at hnext;have e1:(a == (i:Int))=false:=(by simp[ha])
    by_cases hb:b=(i:Int)
    ·rw[if_pos hb] at hnext;obtain⟨a1,c1',w2,r,ho2,hk2,_,hb2,_⟩:=int_more2 HOX.out hXs (by omega) pb (Below.refl _ _) rfl;have HN:Hid (w2.ownsRow w.heap.size 3 1 (.slice a1 (ptsRaw ls i (k+1)).length c1') (ptsRaw ls i (k+1)).length (intCells (ptsRaw ls i (k+1)))∧Bl w w2):=by
      rw[hnext];exact⟨ho2,HBX.out.trans hb2⟩
     have HR2:Hid _:=r;have HLE:Hid ((ptsRaw ls i (k+1)).length=(ptsRaw ls i k++[pb]).length):=by show _=_;rw[hnext]
     rw[hXs2] at HR2;clear hne;subst hb;clear r ho2 hk2 hb2 hO hB hX f1 hnext HRW HNE HOX HBX hXe hXB hXs q0 q1 q2 q3 hXs2;go_wp2_with (at_builtin;(try rw[←HX.out]);refine wpList_append_run rfl (.tmp 27) (.tmp 30) 52 rfl _ _ _ rfl rfl HR2.out ?_)
     exact⟨⟨k+1,a1,c1',by omega,by go_num,by rw[HLE.out,List.length_append];rfl,HN⟩,by simp[intOf];omega⟩
    ·rw[if_neg hb,List.append_nil] at hnext;have e2:(b == (i:Int))=false:=(by simp[hb])
     have HN:Hid (X.ownsRow w.heap.size 3 1 (.slice ao (ptsRaw ls i (k+1)).length cap) (ptsRaw ls i (k+1)).length (intCells (ptsRaw ls i (k+1)))∧Bl w X):=by
      rw[hnext];exact⟨HOX.out,HBX.out⟩
     have HLE:Hid ((ptsRaw ls i (k+1)).length=(ptsRaw ls i k).length):=by show _=_;rw[hnext]
     rw[HX.out] at HN;clear hO hB hX f1 hnext hne HRW HNE HOX HBX hXe hXB hXs q0 q1 q2 q3 hXs2;(go_wp2_with fail);exact⟨⟨k+1,ao,cap,by omega,by go_num,by rw[HLE.out],HN⟩,by simp[intOf];omega⟩
  ·obtain rfl:k=L:=by omega
   obtain⟨hO,hB⟩:=hX.out;have hfew:=ptsRaw_few ls i k;have HSO:Hid (Calls Tryz.prog 80 #[.slice ao (ptsRaw ls i k).length cap] wr fun e w'=>e=.returned (.tuple #[])∧Hid (w'.ownsRow w.heap.size 3 1 (.slice ao (ptsRaw ls i k).length cap) ((ptsRaw ls i k).mergeSort fun x y=>decide (x≤y)).length (intCells ((ptsRaw ls i k).mergeSort fun x y=>decide (x≤y)))∧Bl w w')):=by
    refine(isort_any w.heap.size _ (ptsRaw ls i k) wr (by omega) hO).mono ?_;rintro e w' ⟨rfl,z1,z2⟩;exact⟨rfl,z1,hB.grown z2 hB.size (fun q hq=>(oCb hO q hq).1)⟩
   clear hX hO hB HRW HNE;(go_wp2_with fail);refine HSO.out.mono ?_;rintro e w2 ⟨rfl,HN⟩;clear HSO;obtain⟨ao',cap',ev,z1,z3⟩:=IL_row HN.out.1;injection ev with ev1 ev2 ev3;subst ev1;subst ev3;have HZ1:Hid (IRow w2 ao ((ptsRaw ls i k).mergeSort fun x y=>decide (x≤y)).length cap (IL ((ptsRaw ls i k).mergeSort fun x y=>decide (x≤y)))):=z1;have HZ3:Hid (∀ad,ao=some ad→w.heap.size≤ad.block):=z3;have HOW:Hid (w2.ownsRow w.heap.size 3 1 (.slice ao ((ptsRaw ls i k).mergeSort fun x y=>decide (x≤y)).length cap) ((ptsRaw ls i k).mergeSort fun x y=>decide (x≤y)).length (intCells ((ptsRaw ls i k).mergeSort fun x y=>decide (x≤y)))):=by
    have:=HN.out.1;rw[ev2] at this;exact this
   have HEV:Hid ((ptsRaw ls i k).length=((ptsRaw ls i k).mergeSort fun x y=>decide (x≤y)).length):=ev2;clear z1 z3 ev2;(go_wp2_with fail);go_ret;exact⟨ao,cap,congrArg (fun n=>Ending.returned (Value.slice ao n cap)) HEV.out,HZ1.out,HN.out.2,HZ3.out,HOW.out⟩
theorem pports_any (lao:Option Addr) (K L lcap:Nat) (ls:Nat→Lk) (lv:Nat→Bool) (i:Nat) (w:World) (hL:L≤40) (hlk:LRow w lao L lcap ls) (R:Pl.RightL K L ls) :
  Calls Tryz.prog 51 #[.slice lao L lcap,.int .i64 i] w fun e w'=>∃ao cap,e=.returned (.slice ao ((Pl.ends ls lv L i).map (·.port)).length cap)∧IRow w' ao ((Pl.ends ls lv L i).map (·.port)).length cap (IL ((Pl.ends ls lv L i).map (·.port)))∧Bl w w'∧∀ad,ao=some ad→w.heap.size≤ad.block:=by
 exact(pports_own lao K L lcap ls lv i w hL hlk R).mono (fun e w' ⟨ao,cap,h1,h2,h3,h4,_⟩=>⟨ao,cap,h1,h2,h3,h4⟩)
theorem EndsOk.grown {w W:World}{G K P:Nat}{v:Nat→Value}{E:Nat→List En}(h:EndsOk w G K v E) (hW:w.grownBy W (some P)) (hP:w.heap.size≤P):EndsOk W G K v E:=by
 have hl:=(gSm.1 h.blk).1;refine⟨(hW.block G hl (fun q=>by injection q with q;omega)).trans h.blk,fun i hi => ?_,fun i hi q hq => ?_⟩;rotate_left
 ·obtain⟨cur,hc⟩:=h.ty i hi q hq;have hq2:=(gSm.1 hc).1;exact⟨cur,(hW.block q hq2 (fun p=>by injection p with p;omega)).trans hc⟩
 obtain⟨ao,cap,e,h1⟩:=h.row i hi;exact⟨ao,cap,e,CRow.other h1 (fun b off _ hlt=>hW.block b hlt (fun q=>by injection q with q;omega)) hW.size⟩
theorem ends_few (n:Net) (i:Nat) (h:n.L≤40):(n.ends i).length≤1000:=by
 have h1:=(Pl.ends_perm n.ls n.live n.L i).length_eq;have h2:=endsTo_few n.ls n.live i n.L;show(Pl.ends n.ls n.live n.L i).length≤1000;omega
structure Pl.Net.Right (n:Net):Prop where
 few:n.K≤12
 fewL:n.L≤40
 fine:∀i,i<n.K→(n.bs i).Fine
 links:Pl.RightL n.K n.L n.ls
 apart:∀i j,i<n.K→j<n.K→(n.bs i).addr=(n.bs j).addr→i=j
theorem right_of {n:Net}(hw:n.Wf) (h:n.wrong.1=0):n.Right:=by
 unfold Pl.Net.wrong at h;by_cases c1:12<n.K∨40<n.L
 ·rw[if_pos c1] at h;cases h
 ·rw[if_neg c1] at h;by_cases c2:(Pl.firstTo (Pl.bErr n.bs) n.K).1=0
  ·rw[if_neg (fun q=>q c2)] at h;have hb:=(Pl.firstTo_zero _ _ c2).2;have hl:=(Pl.firstTo_zero _ _ h).2;refine⟨by omega,by omega,fun i hi => ?_,Pl.rightL hl,fun i j hi hj e => ?_⟩
   ·have h0:=bErr_zero (hb i hi);have ha:=wf_u64 (hw.addr i hi);unfold Pl.brErr at h0;split at h0
    ·omega
    ·split at h0
     ·omega
     ·split at h0
      ·omega
      ·rename_i q1 q2 q3;refine⟨by omega,by omega,fun t ht => ?_,Rg.wrong_zero h0⟩;have:=Pl.someTo_false (by simpa using q3) t ht;unfold Pl.oddP at this;simp only[Bool.or_eq_false_iff,Bool.not_eq_false',decide_eq_true_eq] at this;exact this.1
   ·have key:∀a b,a<b→b<n.K→(n.bs a).addr≠(n.bs b).addr:=fun a b hab hb' e2=>by
     have h7:=hb b hb';unfold Pl.bErr at h7;rw[if_neg (fun q=>q (bErr_zero (hb b hb'))),if_pos (Pl.someTo_iff.2 ⟨a,hab,decide_eq_true e2⟩)] at h7;cases h7
    rcases Nat.lt_trichotomy i j with q | q | q
    ·exact absurd e (key i j q hj)
    ·exact q
    ·exact absurd e.symm (key j i q hi)
  ·rw[if_pos c2] at h;exact absurd h c2
end
section
open Go.RowKit
open Vc (V Of)
open Pl (En Lk Br)
open Tk (Md Mnd Cn Sc ixM ilist)
namespace Tk
def Sc.mid (s:Sc) (c:Cn) (k i:Nat):Sc:=⟨s.pr,s.ls,fun k' i'=>if (k'<k∧i'<c.K)∨(k'=k∧i'<i) then tickF (s.ids c k') (s.E c) (s.ms k') i' else s.ms k' i'⟩
theorem Sc.mid_zero (s:Sc) (c:Cn):s.mid c 0 0=s:=by
 unfold Sc.mid;congr 1
 funext k i
 rw[if_neg (by omega)]
theorem Sc.mid_next (s:Sc) (c:Cn) (k:Nat):s.mid c k c.K=s.mid c (k+1) 0:=by
 unfold Sc.mid;congr 1
 funext k' i'
 by_cases h:(k'<k∧i'<c.K)∨(k'=k∧i'<c.K)
 ·rw[if_pos h,if_pos (by omega)]
 ·rw[if_neg h,if_neg (by omega)]
theorem Sc.mid_step (s:Sc) (c:Cn) (k i:Nat):(s.mid c k i).setM k i (tickF (s.ids c k) (s.E c) (s.ms k) i)=s.mid c k (i+1):=by
 unfold Sc.mid Sc.setM;congr 1
 funext k' i'
 by_cases h:k'=k∧i'=i
 ·rw[if_pos h,if_pos (by omega),h.1,h.2]
 ·rw[if_neg h];by_cases h2:(k'<k∧i'<c.K)∨(k'=k∧i'<i)
  ·simp only[if_pos h2];rw[if_pos (by omega)]
  ·simp only[if_neg h2];rw[if_neg (by omega)]
theorem Sc.mid_ms (s:Sc) (c:Cn) (k i j:Nat) (h:i≤j):(s.mid c k i).ms k j=s.ms k j:=by
 unfold Sc.mid;simp only;rw[if_neg (by omega)]
theorem Sc.mid_all (s:Sc) (c:Cn) {T k i:Nat}(hk:k<T) (hi:i<c.K):(s.mid c T 0).ms k i=(s.ticks c 1).ms k i:=by
 unfold Sc.mid Sc.ticks;simp only;rw[if_pos (by omega)];rfl
end Tk
section
variable {W W':World}{S:Nat}{F:Tf}{s:Sc}{M:Tm}{G:Nat}{ve:Nat→Value}
theorem ScAt.below (h:ScAt W S F s M G ve) (hb:Bl W W'):ScAt W' S F s M G ve :=
 ⟨keep h.blk hb,ownsC_below h.brs hb,ownsC_below h.lks hb,ownsC_below h.out hb,h.mds.below hb,h.ints.below hb,h.ways.below hb,h.low.trans (hb.mono h.low.size),h.ends.below hb,h.few,h.fewT⟩
theorem ScAt.congr {s':Sc}(h:ScAt W S F s M G ve) (h1:s'.pr=s.pr) (h2:s'.ls=s.ls) (h3:∀k i,k<F.T→i<F.c.K→s'.ms k i=s.ms k i):ScAt W S F s' M G ve:=by
 have hE:s'.E F.c=s.E F.c:=by
  unfold Sc.E Sc.lv;rw[h2]
 have hl:∀a,F.il s a=F.il s' a:=fun a=>by
  unfold Tf.il ilist;rw[h1];by_cases q:(a-12)/36<F.T∧(a-12)%36/3<F.c.K
  ·rw[h3 _ _ q.1 q.2]
  ·simp only[q,if_false]
 refine⟨h.blk,h.brs,by rw[h2];exact h.lks,h.out,h.mds.congr (fun _ _=>rfl) (fun a ha i hi x _ => ?_),h.ints.congr (fun a _=>by rw[hl]) (fun a _ i _ x _=>by rw[hl]),h.ways,h.low,by rw[hE];exact h.ends,h.few,h.fewT⟩;unfold Tm.mc;rw[h3 a i ha hi]
theorem ScAt.cells (h:ScAt W S F s M G ve):W.cell? ⟨S,0,none⟩=some M.vb∧W.cell? ⟨S,1,none⟩=some M.vl∧W.cell? ⟨S,2,none⟩=some M.vo∧W.cell? ⟨S,3,none⟩=some (.func (.func 150) #[] #[.pointer (some ⟨F.B1,0,none⟩),.pointer (some ⟨F.B2,0,none⟩)])∧W.cell? ⟨S,4,none⟩=some (.slice (some ⟨G,0,none⟩) F.c.K F.c.K) :=
 ⟨cell_of_row W S 0 _ _ _ h.blk,cell_of_row W S 1 _ _ _ h.blk,cell_of_row W S 2 _ _ _ h.blk,cell_of_row W S 3 _ _ _ h.blk,cell_of_row W S 4 _ _ _ h.blk⟩
theorem ScAt.bridge (h:ScAt W S F s M G ve) {i:Nat}(hi:i<F.c.K):∃pao pcap wao wcap,M.iv i=.slice pao (s.pr i).length pcap∧IRow W pao (s.pr i).length pcap (IL (s.pr i))∧M.we i=.slice wao (F.rg i).n wcap∧WayRow W wao (F.rg i).n wcap (F.rg i).vs (F.rg i).ts∧(F.rg i).n≤9223372036854775807:=by
 have hK:=h.few;have h1:=h.ints.own i (by omega);have e1:F.il s i=s.pr i:=Tk.ilist_prio hK F.pts s hi;rw[e1] at h1;obtain⟨pao,pcap,ep,hp,_,_⟩:=owns_c (by omega) h1;have h2:=h.ways.own i (by omega);rw[if_pos hi] at h2;have hmx:(F.rg i).n≤maxLen:=by
  obtain⟨_,q⟩:=h2;rcases q with⟨_,e⟩ | ⟨g,cap,cur,_,_,_,hn,hm,_,_⟩
  ·rw[e];exact Nat.zero_le _
  ·omega
 obtain⟨wao,wcap,ew,hw,_,_⟩:=owns_c (by omega) h2;refine⟨pao,pcap,wao,wcap,ep,hp,ew,⟨hw.1,fun hpz => ?_⟩,by unfold maxLen at hmx;omega⟩;obtain⟨b,off,e,hb,hc⟩:=hw.2 hpz;exact⟨b,off,e,hb,fun j hj=>⟨hc j hj 0 (by omega),hc j hj 1 (by omega)⟩⟩
theorem ScAt.ident (h:ScAt W S F s M G ve) {i:Nat}(hi:i<F.c.K) (hf:Tk.Fine F.c s) (hreg:(F.rg i).ok) (tree:Int) :
  Calls Tryz.prog 65 #[.agg #[.int .u64 (F.c.addr i),M.iv i,.string (F.rg i).s,.int .i64 (F.rg i).rev,M.we i],.int .i64 tree] W fun e w'=>e=.returned (.int .u64 (s.ids F.c tree i))∧Bl W w':=by
 obtain⟨pao,pcap,wao,wcap,ep,hp,ew,hw,hn⟩:=h.bridge hi;have hpr:=hf.prios i hi;have:=pident_any ⟨F.c.addr i,pao,(s.pr i).length,pcap,IL (s.pr i),⟨(F.rg i).s,(F.rg i).rev,wao,(F.rg i).n,wcap,(F.rg i).vs,(F.rg i).ts⟩⟩ tree W ⟨hp,hw,by have:=hpr.1;show(s.pr i).length≤_;omega,hn⟩ ⟨hf.addr i hi,hpr.1,fun j hj=>by
  have hj':j<(s.pr i).length:=hj;have:=hpr.2 (IL (s.pr i) j) (by unfold IL;rw[List.getD_eq_getElem?_getD,List.getElem?_eq_getElem hj'];exact List.getElem_mem hj');exact⟨this.1,this.2.1⟩,hreg⟩
 rw[ep,ew];exact this
end
structure TickOk (F:Tf) (s:Sc):Prop where
 fine:Tk.Fine F.c s
 reg:∀i,i<F.c.K→(F.rg i).ok
 fit:∀k,k<F.T→Tk.Fit (s.E F.c) F.c.K (s.ms k)
 calm:∀k,k<F.T→∀i,i<F.c.K→∀a,0≤IL (s.ms k i).calm a
theorem TalesAt.keepB {w w':World}{g K:Nat}{x:Nat→Md}(h:TalesAt w g K x) (hb:Bl w w'):TalesAt w' g K x:=keep h hb
theorem tick_hear {W:World}{S:Nat}{F:Tf}{s:Sc}{M:Tm}{G:Nat}{ve:Nat→Value}{k i:Nat}(hk:k<F.T) (hi:i<F.c.K) (ht:TickOk F s) (h:ScAt W S F (s.mid F.c k i) M G ve) {g cap:Nat}(hv:M.vt k=.slice (some ⟨g,0,none⟩) F.c.K cap) {gt:Nat}(htl:TalesAt W gt F.c.K (fun j=>(s.ms k j).md))
  {eao:Option Addr}{ecap:Nat}(hve:ve i=.slice eao (s.E F.c i).length ecap) (oao:Option Addr) (ocap:Nat) (hor:ORow W oao (Tk.heard (s.E F.c i) (fun j=>(s.ms k j).md)).length ocap (Pl.lf (Tk.heard (s.E F.c i) (fun j=>(s.ms k j).md)))) (hon:∀ad,oao=some ad→g<ad.block) :
  Calls Tryz.prog 194 #[.pointer (some ⟨g,i*9,none⟩),.int .u64 (s.ids F.c k i),.slice eao (s.E F.c i).length ecap,.slice oao (Tk.heard (s.E F.c i) (fun j=>(s.ms k j).md)).length ocap] W fun e w'=>e=.returned (.tuple #[])∧∃v,ScAt w' S F (s.mid F.c k (i+1)) { M with iv:=v } G ve∧TalesAt w' gt F.c.K (fun j=>(s.ms k j).md)∧∀a,a<12→v a=M.iv a:=by
 have hK:=h.few;have hT:=h.fewT;have hrow:=h.mds.own k hk;rcases owns_rowS hrow with⟨_,e1⟩ | ⟨g',cap',sp,e1,hg,hn,hm,hs,hh⟩
 ·omega
 ·rw[hv] at e1;injection e1 with e2 _ e3;injection e2 with e4;injection e4 with e5;subst e5 e3;have hms:(s.mid F.c k i).ms k i=s.ms k i:=Tk.Sc.mid_ms s F.c k i i (Nat.le_refl _);have hIM:ixM k i 2<156:=Tk.ix_lt (by omega) (by omega) (by omega);obtain⟨_,_,l2⟩:=Tk.ilist_m (T:=F.T) hK F.pts (s.mid F.c k i) hk hi;rw[hms] at l2;have hcm:=h.ints.own _ hIM;have l3:F.il (s.mid F.c k i) (ixM k i 2)=(s.ms k i).calm:=l2;rw[l3] at hcm;have hfit:=(ht.fit k hk i hi).2;have hlen:(s.E F.c i).length≤1000:=by
   have h1:=(Pl.ends_perm s.ls (s.lv F.c) F.c.L i).length_eq;have h2:=endsTo_few s.ls (s.lv F.c) i F.c.L;have h3:=ht.fine.fewL;show(Pl.ends s.ls (s.lv F.c) F.c.L i).length≤1000;omega
  obtain⟨eao',ecap',ee,her⟩:=h.ends.row i hi;have hE:(s.mid F.c k i).E F.c=s.E F.c:=rfl;rw[hE] at ee her;rw[hve] at ee;injection ee with ee1 _ ee3;subst ee1 ee3;have hgt:∃cur,W.heap[g]?=some (.cells cur 117):=⟨_,hh⟩
  refine(thear_any g F.c.K i sp (fun i'=>M.mc (s.mid F.c k i) k i') (s.ms k i).md (M.iv (ixM k i 0)) (M.iv (ixM k i 1)) (M.iv (ixM k i 2)) (s.ids F.c k i) (s.E F.c i) eao ecap (Tk.heard (s.E F.c i) (fun j=>(s.ms k j).md)) oao ocap (s.ms k i).calm F.base W hi hh (fun x _=>by unfold Tm.mc;rw[hms]) hcm hfit (fun a _=>ht.calm k hk i hi a) hlen (Nat.le_trans (heard_few _ _) hlen) her (fun b off eb => ?_) hor (fun b off eb => ?_)).mono ?_
  ·intro e6;subst e6;obtain⟨cur,hc⟩:=h.ends.ty i hi b (by rw[hve,eb];rfl);exact absurd (cells_type hc hh) (by decide)
  ·intro e6;have:=hon _ eb;simp only at this;omega
  ·rintro e w' ⟨rfl,R,hW⟩;refine⟨rfl,upF M.iv (ixM k i 1) (.slice (some ⟨R,0,none⟩) ((s.E F.c i).map (Tk.roleM (Tk.chM (s.ids F.c k i) (Tk.heard (s.E F.c i) (fun j=>(s.ms k j).md))) (Tk.heard (s.E F.c i) (fun j=>(s.ms k j).md)))).length ((s.E F.c i).map (Tk.roleM (Tk.chM (s.ids F.c k i) (Tk.heard (s.E F.c i) (fun j=>(s.ms k j).md))) (Tk.heard (s.E F.c i) (fun j=>(s.ms k j).md)))).length),?_,?_,fun a ha=>upF_other _ _ (by unfold ixM;omega)⟩
   ·have:=h.hear hk hi hv hn hm hs hW (by
     rw[hms];simp;omega) (by simp;omega)
    rw[←Tk.Sc.mid_step];exact this
   ·refine hW.else'.keep htl (fun hp => ?_);rcases hp with hp | hp
    ·subst hp;exact absurd (cells_type htl hh) (by decide)
    ·obtain⟨c2,hc2⟩:=owns_type hcm hp;exact absurd (cells_type htl hc2) (by decide)
theorem ttick_any (W:World) (S:Nat) (F:Tf) (s:Sc) (M:Tm) (G:Nat) (ve:Nat→Value) (ht:TickOk F s) (h:ScAt W S F s M G ve) :
  Calls Tryz.prog 161 #[.pointer (some ⟨S,0,none⟩)] W fun e w'=>e=.returned (.tuple #[])∧∃v,ScAt w' S F (s.ticks F.c 1) { M with iv:=v } G ve:=by
 have hK:=h.few;have hT:=h.fewT;obtain⟨oao,ocap,eo,hout,_,_⟩:=owns_c (by omega) h.out;have hocap:=hout.1;have H0:Hid (∃v,ScAt W S F (s.mid F.c 0 0) { M with iv:=v } G ve):=⟨M.iv,by rw[Tk.Sc.mid_zero];exact h⟩
 have HTK:Hid (TickOk F s):=ht;obtain⟨_,_,s2,_,_⟩:=h.cells;rw[eo] at s2;have HEO:Hid (M.vo=.slice oao F.T ocap):=eo;clear h ht eo hout;go_enter Tryz.func161,Tryz.ntmps161;(go_wp2_with fail);clear s2;go_loopw [12] (fun z wr=>∃k:Nat,k≤F.T∧z=.int .i64 k∧Hid (∃v,ScAt wr S F (s.mid F.c k 0) { M with iv:=v } G ve)) (fun z _=>F.T-(intOf z).toNat)
 case atStart=>exact⟨0,by omega,rfl,H0⟩
 case round =>
  obtain⟨k,hk,rfl,hX⟩:=hrel;clear H0;by_cases hlt:k<F.T
  ·obtain⟨v0,hA⟩:=hX.out;obtain⟨oao',ocap',eo',hout,_,_⟩:=owns_c (by omega) hA.out;have eo2:M.vo=.slice oao' F.T ocap':=eo';rw[HEO.out] at eo2;injection eo2 with eo3 _ eo4;subst eo3 eo4;obtain⟨ob,ooff,rfl,hob⟩:=CRow.some hout (by omega);have co:wr.cell? ⟨ob,ooff+k,none⟩=some (M.vt k):=by
    obtain⟨b',off',e',_,hc'⟩:=hout.2 (by omega);cases e'
    have:=hc' k hlt 0 (by omega);rw[Nat.mul_one,Nat.add_zero] at this;exact this
   obtain⟨mao,mcap,em,hmr,_,_⟩:=owns_c (by omega) (hA.mds.own k hlt);have em2:M.vt k=.slice mao F.c.K mcap:=em;rw[em2] at co;have hmcap:=hmr.1;have hx:∀j,j<F.c.K→((s.mid F.c k 0).ms k j).md=(s.ms k j).md:=fun j _=>by rw[Tk.Sc.mid_ms s F.c k 0 j (Nat.zero_le _)]
   have hsl:∀a,a<156→∃x m q,v0 a=.slice x m q:=fun a ha=>by
    obtain⟨x,q,e,_⟩:=owns_c (by omega) (hA.ints.own a ha);exact⟨x,_,q,e⟩
   have HTA:Hid (Calls Tryz.prog 193 #[.slice mao F.c.K mcap] wr fun e w'=>e=.returned (.slice (some ⟨wr.heap.size,0,none⟩) F.c.K F.c.K)∧Hid (∃v,ScAt w' S F (s.mid F.c k 0) { M with iv:=v } G ve∧TalesAt w' wr.heap.size F.c.K (fun j=>(s.ms k j).md))):=by
    refine(ttales_any mao F.c.K mcap (fun j=>((s.mid F.c k 0).ms k j).md) (fun j=>v0 (ixM k j 0)) (fun j=>v0 (ixM k j 1)) (fun j=>v0 (ixM k j 2)) wr hK (fun j hj=>⟨hsl _ (Tk.ix_lt (by omega) (by omega) (by omega)),hsl _ (Tk.ix_lt (by omega) (by omega) (by omega)),hsl _ (Tk.ix_lt (by omega) (by omega) (by omega))⟩) hmr).mono ?_;rintro e w' ⟨rfl,z1,z2⟩;refine⟨rfl,v0,hA.below z2,?_⟩;refine Eq.trans z1 (congrArg (fun a=>some (Obj.cells a 278)) (rowC_congr ?_));intro j hj;show tlC ((s.mid F.c k 0).ms k j).md.v ((s.mid F.c k 0).ms k j).md.age=tlC (s.ms k j).md.v (s.ms k j).md.age;rw[hx j hj]
   have ik:(0:Int)≤(k:Int):=(by omega)
   have nk:(k:Int)<(F.T:Int):=(by omega)
   have HEM:Hid (M.vt k=.slice mao F.c.K mcap):=em2;obtain⟨gt,HGT⟩:∃gt,Hid (gt=wr.heap.size):=⟨_,rfl⟩
   rw[←HGT.out] at HTA;clear hX hA hout hmr hx hsl em em2 eo';(go_wp2_with fail);refine HTA.out.mono ?_;rintro e w2 ⟨rfl,H2⟩;clear HTA co;(go_wp2_with fail);go_loopw [21] (fun z wr2=>∃i:Nat,i≤F.c.K∧z=.int .i64 i∧Hid (∃v,ScAt wr2 S F (s.mid F.c k i) { M with iv:=v } G ve∧TalesAt wr2 gt F.c.K (fun j=>(s.ms k j).md))) (fun z _=>F.c.K-(intOf z).toNat)
   case atStart=>exact⟨0,by omega,rfl,H2⟩
   case round =>
    obtain⟨i,hi,rfl,hY⟩:=hrel;clear H2;by_cases hli:i<F.c.K
    ·obtain⟨v,hA,hTl⟩:=hY.out;obtain⟨g,mc2,eg⟩:∃g mc2,M.vt k=.slice (some ⟨g,0,none⟩) F.c.K mc2:=by
      rcases owns_rowS (hA.mds.own k hlt) with⟨_,e1⟩ | ⟨g',cap',_,e1,_⟩
      ·omega
      ·exact⟨g',cap',e1⟩
     have eg2:=eg;rw[HEM.out] at eg2;injection eg2 with eg3 _ eg4;subst eg3 eg4;have hgl:g<wr.heap.size:=(oCb (hA.mds.own k hlt) g (by rw[show({ M with iv:=v }:Tm).vt k=M.vt k from rfl,eg];rfl)).2;obtain⟨bao,bcap,eb,hbr,_,_⟩:=owns_c (by omega) hA.brs;have eb2:M.vb=.slice bao F.c.K bcap:=eb;have hbcap:=hbr.1;obtain⟨bb,boff,rfl,_⟩:=CRow.some hbr (by omega);obtain⟨pao,pcap,wao,wcap,ep,_,ew,_,_⟩:=hA.bridge hli;obtain⟨eao,ecap,ee,her⟩:=hA.ends.row i hli;have ee2:ve i=.slice eao (s.E F.c i).length ecap:=ee;have ep2:v i=.slice pao (s.pr i).length pcap:=ep;have ew2:M.we i=.slice wao (F.rg i).n wcap:=ew;have HRD:Hid (∀(V:World) (s':Sc) (v':Nat→Value),ScAt V S F s' { M with iv:=v' } G ve→v' i=v i→V.cell? ⟨S,0,none⟩=some (.slice (some ⟨bb,boff,none⟩) F.c.K bcap)∧V.cell? ⟨S,4,none⟩=some (.slice (some ⟨G,0,none⟩) F.c.K F.c.K)∧(V.cell? ⟨bb,boff+i*5,none⟩=some (.int .u64 (F.c.addr i))∧V.cell? ⟨bb,boff+i*5+1,none⟩=some (.slice pao (s.pr i).length pcap)∧V.cell? ⟨bb,boff+i*5+2,none⟩=some (.string (F.rg i).s)∧V.cell? ⟨bb,boff+i*5+3,none⟩=some (.int .i64 (F.rg i).rev)∧V.cell? ⟨bb,boff+i*5+4,none⟩=some (.slice wao (F.rg i).n wcap))∧V.cell? ⟨G,i,none⟩=some (.slice eao (s.E F.c i).length ecap)):=fun V s' v' hV hv'=>by
      obtain⟨q0,_,_,_,q4⟩:=hV.cells;obtain⟨bao',bcap',eb',hbr',_,_⟩:=owns_c (by omega) hV.brs;have eb3:M.vb=.slice bao' F.c.K bcap':=eb';rw[eb2] at eb3;injection eb3 with eb4 _ eb5;subst eb4 eb5;obtain⟨b'',off'',e'',_,hc''⟩:=hbr'.2 (by omega);cases e''
      have q5:=rowC_cell hV.ends.blk hli (show 0<1 by omega);rw[show i*1+0=i by omega,ee2] at q5;refine⟨by rw[←eb2];exact q0,q4,⟨hc'' i hli 0 (by omega),?_,hc'' i hli 2 (by omega),hc'' i hli 3 (by omega),?_⟩,q5⟩
      ·rw[←ep2,←hv'];exact hc'' i hli 1 (by omega)
      ·rw[←ew2];exact hc'' i hli 4 (by omega)
     have HID:Hid (∀V,Bl wr V→Calls Tryz.prog 65 #[.agg #[.int .u64 (F.c.addr i),.slice pao (s.pr i).length pcap,.string (F.rg i).s,.int .i64 (F.rg i).rev,.slice wao (F.rg i).n wcap],.int .i64 k] V fun e w'=>e=.returned (.int .u64 (s.ids F.c k i))∧Hid (Bl wr w')):=fun V hV=>by
      have h1:=(hA.below hV).ident hli ⟨HTK.out.fine.few,HTK.out.fine.fewL,HTK.out.fine.links,HTK.out.fine.addr,HTK.out.fine.apart,HTK.out.fine.prios⟩ (HTK.out.reg i hli) k;rw[show({ M with iv:=v }:Tm).iv i=v i from rfl,ep2,show({ M with iv:=v }:Tm).we i=M.we i from rfl,ew2] at h1;refine h1.mono ?_;rintro e w' ⟨rfl,z⟩;exact⟨rfl,hV.trans (z.mono hV.size)⟩
     have hlen:(s.E F.c i).length≤1000:=by
      have h1:=(Pl.ends_perm s.ls (s.lv F.c) F.c.L i).length_eq;have h2:=endsTo_few s.ls (s.lv F.c) i F.c.L;have h3:=HTK.out.fine.fewL;show(Pl.ends s.ls (s.lv F.c) F.c.L i).length≤1000;omega
     have HHD:Hid (∀V,Bl wr V→Calls Tryz.prog 195 #[.slice eao (s.E F.c i).length ecap,.slice (some ⟨gt,0,none⟩) F.c.K F.c.K] V fun e w'=>∃oao ocap,e=.returned (.slice oao (Tk.heard (s.E F.c i) (fun j=>(s.ms k j).md)).length ocap)∧Hid (ORow w' oao (Tk.heard (s.E F.c i) (fun j=>(s.ms k j).md)).length ocap (Pl.lf (Tk.heard (s.E F.c i) (fun j=>(s.ms k j).md)))∧(∀ad,oao=some ad→g<ad.block)∧Bl wr w')):=fun V hV=>by
      refine(pheard_any (s.E F.c i) eao ecap gt F.c.K (fun j=>(s.ms k j).md) V (by omega) hlen (CRow.below her hV) ((hTl.keepB hV).told) (fun e he hl=>((HTK.out.fine.good (s.ids F.c k)).lt i hli e he hl).1)).mono ?_;rintro e w' ⟨oao,ocap,rfl,z1,z2,z3⟩;exact⟨oao,ocap,rfl,z1,fun ad e=>Nat.lt_of_lt_of_le hgl (Nat.le_trans hV.size (z3 ad e)),hV.trans (z2.mono hV.size)⟩
     have HHR:Hid (∀(V:World) (oao:Option Addr) (ocap:Nat),Hid (ORow V oao (Tk.heard (s.E F.c i) (fun j=>(s.ms k j).md)).length ocap (Pl.lf (Tk.heard (s.E F.c i) (fun j=>(s.ms k j).md)))∧(∀ad,oao=some ad→g<ad.block)∧Bl wr V)→Calls Tryz.prog 194 #[.pointer (some ⟨g,i*9,none⟩),.int .u64 (s.ids F.c k i),.slice eao (s.E F.c i).length ecap,.slice oao (Tk.heard (s.E F.c i) (fun j=>(s.ms k j).md)).length ocap] V fun e w'=>e=.returned (.tuple #[])∧∃v',Hid (ScAt w' S F (s.mid F.c k (i+1)) { M with iv:=v' } G ve∧TalesAt w' gt F.c.K (fun j=>(s.ms k j).md)∧v' i=v i)):=fun V oao ocap hh=>by
      obtain⟨z1,z2,z3⟩:=hh.out;refine(tick_hear hlt hli HTK.out (hA.below z3) eg (hTl.keepB z3) ee2 oao ocap z1 z2).mono ?_;rintro e w' ⟨rfl,v',y1,y2,y3⟩;exact⟨rfl,v',y1,y2,y3 i (by omega)⟩
     have HSB:Hid (∀V,Bl wr V→ScAt V S F (s.mid F.c k i) { M with iv:=v } G ve):=fun V hV=>hA.below hV;have HB0:Hid (Bl wr wr.drew):=Below.drew (Below.refl _ _);obtain⟨t0,t4,⟨b0,b1,b2,b3,b4⟩,tg⟩:=HRD.out wr _ v hA rfl;have ii:(0:Int)≤(i:Int):=(by omega)
     have ni:(i:Int)<(F.c.K:Int):=(by omega)
     clear hY hA hTl hbr her eg hgl eb eb2 ep ew ee ep2 ew2 ee2 hlen HTK;generalize s.ids F.c k i=idv at *;generalize (Tk.heard (s.E F.c i) (fun j=>(s.ms k j).md)).length=hl at *;generalize (s.E F.c i).length=el at *;generalize (s.pr i).length=pl at *;generalize (F.rg i).s=rs at *;generalize (F.rg i).rev=rv at *;generalize (F.rg i).n=wn at *;generalize F.c.addr i=ad at *;(go_wp2_with fail);go_region_held3 (fun V=>V.cell? ⟨S,0,none⟩=some (.slice (some ⟨bb,boff,none⟩) F.c.K bcap)∧V.cell? ⟨S,4,none⟩=some (.slice (some ⟨G,0,none⟩) F.c.K F.c.K)∧(V.cell? ⟨bb,boff+i*5,none⟩=some (.int .u64 ad)∧V.cell? ⟨bb,boff+i*5+1,none⟩=some (.slice pao pl pcap)∧V.cell? ⟨bb,boff+i*5+2,none⟩=some (.string rs)∧V.cell? ⟨bb,boff+i*5+3,none⟩=some (.int .i64 rv)∧V.cell? ⟨bb,boff+i*5+4,none⟩=some (.slice wao wn wcap))∧V.cell? ⟨G,i,none⟩=some (.slice eao el ecap))
      (first | (with_reducible exact HRD.out _ _ v (HSB.out _ HB0.out) rfl) | (with_reducible exact HRD.out _ _ v (HSB.out _ HI1.out) rfl) | (with_reducible exact HRD.out _ _ v (HSB.out _ HO1.out.2.2) rfl) | (with_reducible exact HRD.out _ _ _ HN1.out.1 HN1.out.2.2))
      (first | (go_at_call 65;(with_reducible refine(HID.out _ HB0.out).mono ?_);rintro e w4 ⟨rfl,HI1⟩) | (go_at_call 195;(with_reducible refine(HHD.out _ HI1.out).mono ?_);rintro e w5 ⟨oao,ocap2,rfl,HO1⟩) | (go_at_call 194;(with_reducible refine(HHR.out _ _ _ HO1).mono ?_);rintro e w6 ⟨rfl,v',HN1⟩))
     (all_goals go_wp2_with fail);all_goals exact⟨⟨i+1,by omega,by go_num,⟨v',HN1.out.1,HN1.out.2.1⟩⟩,by simp[intOf];omega⟩
    ·obtain rfl:i=F.c.K:=by omega
     have HN:Hid (∃v,ScAt wr S F (s.mid F.c (k+1) 0) { M with iv:=v } G ve):=by
      obtain⟨v,hA,_⟩:=hY.out;rw[Tk.Sc.mid_next] at hA;exact⟨v,hA⟩
     clear hY;(go_wp2_with fail);exact⟨⟨k+1,by omega,by go_num,HN⟩,by simp[intOf];omega⟩
  ·obtain rfl:k=F.T:=by omega
   have HF:Hid (∃v,ScAt wr S F (s.ticks F.c 1) { M with iv:=v } G ve):=by
    obtain⟨v,hA⟩:=hX.out;exact⟨v,hA.congr rfl rfl (fun k i hk hi=>(Tk.Sc.mid_all s F.c hk hi).symm)⟩
   clear hX;(go_wp2_with fail);exact bodyPost_end (results_none Tryz.results161 _ _ _) rfl ⟨rfl,HF.out⟩
end
end Go.Proofs.YtelebnancdjjiaaGreatDoor
