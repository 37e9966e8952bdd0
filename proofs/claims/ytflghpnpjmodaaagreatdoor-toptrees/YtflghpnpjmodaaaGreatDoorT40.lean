/- What Play leaves in three variables' boxes, whether it is right or not (split off V3) -/
import Derived.Test.YtflghpnpjmodaaaGreatDoorT39
import Derived.Test.YtflghpnpjmodaaaGreatDoorT27
import Derived.Test.YtflghpnpjmodaaaGreatDoorT15
set_option maxRecDepth 100000
set_option maxHeartbeats 6000000
namespace Go.Proofs.YtflghpnpjmodaaaGreatDoor
section
open Go.RowKit
open Vc (V Of)
open Pl (Br Net Pc Lk En St ringE lineE ringId)
open Tk (Md Mnd Cn Sc Dn ten yes)
def waT (wa:Nat→Nat) (i:Nat):Option Addr:=some ⟨wa i,0,none⟩
def wyB (k:Nat) (v:Int) (wa:Nat→Nat) (j i:Nat):Br:=if i<j then bsT k v (waT wa) none i else bsL i
structure WyW (w:World) (lo base k g c5:Nat) (v:Int) (a6:Option Addr) (c6 BN:Nat) (wa:Nat→Nat) (sp:Array Value) (j:Nat) (W:World):Prop where
 row:W.heap[g]?=some (.cells (rowS sp k 5 (fun i=>brC (wyB k v wa j i))) 58)
 wys:∀i,i<j→W.heap[wa i]?=some (.cells #[.int .i64 v,.int .i64 1] 92)
 lks:W.ownsRow base 83 6 (.slice a6 k c6) k (cellsL k 6 (fun j=>lkC (Pl.lnk k ten yes j)))
 apart:(Value.slice a6 k c6).ownBlock≠some g
 box:W.heap[BN]?=some (.cells #[.slice (some ⟨g,0,none⟩) k c5,.slice a6 k c6] 32)
 low:Below lo w W
 le:lo≤w.heap.size
section
variable {w W:World}{lo base k g c5:Nat}{v:Int}{a5:Option Addr}{a6:Option Addr}{c6 BN:Nat}{wa:Nat→Nat}{sp:Array Value}{j:Nat}
theorem WyW.cell (h:WyW w lo base k g c5 v a6 c6 BN wa sp j W) (hj:j<k):W.cell? ⟨g,j*5+4,none⟩=some (.slice none 0 0)∧W.frozen? ⟨g,j*5+4,none⟩=false:=by
 have h1:=rowS_cell h.row hj (show 4<5 by omega);unfold wyB at h1;rw[if_neg (Nat.lt_irrefl j)] at h1;exact⟨h1,frozen_of_row _ _ _ _ _ h.row⟩
theorem WyW.pcell (h:WyW w lo base k g c5 v a6 c6 BN wa sp k W) {f:Nat}(hf:f<k):W.cell? ⟨g,f*5+1,none⟩=some (.slice none 0 0)∧W.frozen? ⟨g,f*5+1,none⟩=false:=by
 have h1:=rowS_cell h.row hf (show 1<5 by omega);unfold wyB at h1;rw[if_pos hf] at h1;have e:brC (bsT k v (waT wa) none f) 1=.slice none 0 0:=by
  unfold brC bsT;simp only[if_neg (show ¬f=k by omega)];rfl
 rw[e] at h1;exact⟨h1,frozen_of_row _ _ _ _ _ h.row⟩
theorem owns_set {o:Nat}{x:Value}(h:W.ownsRow base 83 6 (.slice a6 k c6) k (cellsL k 6 (fun j=>lkC (Pl.lnk k ten yes j)))) (ha:(Value.slice a6 k c6).ownBlock≠some g):(W.setCell ⟨g,o,none⟩ x).ownsRow base 83 6 (.slice a6 k c6) k (cellsL k 6 (fun j=>lkC (Pl.lnk k ten yes j))):=by
 have hgs:W.grownBy (W.setCell ⟨g,o,none⟩ x) (some g):=by
  have bz:Below 0 W (W.setCell ⟨g,o,none⟩ x):=(Below.refl 0 W).setCell (Nat.zero_le _) _;exact⟨bz.os,bz.tape,bz.output,bz.size,fun q hq hne=>heap_setCell_other _ _ _ _ (by exact fun e=>hne (by rw[e]))⟩
 refine h.kept hgs ?_;cases hv:(Value.slice a6 k c6).ownBlock with
 | none=>exact Or.inl rfl
 | some q=>exact Or.inr (fun e=>by injection e with e;subst e;exact ha hv)
theorem WyW.step (h:WyW w lo base k g c5 v a6 c6 BN wa sp j W) (hj:j<k) (hg:lo≤g) :
  WyW w lo base k g c5 v a6 c6 BN (fun i=>if i=j then W.heap.size else wa i) sp (j+1) ((W.setCell ⟨g,j*5+4,none⟩ (.slice (some ⟨W.heap.size,0,none⟩) 1 1)).alloc (.cells #[.int .i64 v,.int .i64 1] 92)):=by
 obtain⟨U,hU⟩:∃U,U=W.setCell ⟨g,j*5+4,none⟩ (.slice (some ⟨W.heap.size,0,none⟩) 1 1):=⟨_,rfl⟩
 have hUs:U.heap.size=W.heap.size:=(by rw[hU];simp)
 have hB:Bl U (U.alloc (.cells #[.int .i64 v,.int .i64 1] 92)):=bA1 _ _;have hlow:Below lo w U:=(by rw[hU];exact h.low.setCell hg _)
 rw[←hU];refine⟨?_,fun i hi => ?_,ownsC_below (by rw[hU];exact owns_set h.lks h.apart) hB,h.apart,?_,?_,h.le⟩
 ·have h1:=rowS_set h.row hj (show 4<5 by omega) (.slice (some ⟨W.heap.size,0,none⟩) 1 1);rw[←hU] at h1;rw[keep h1 hB];rw[rowS_congr2 (d:=fun i=>brC (wyB k v (fun i=>if i=j then W.heap.size else wa i) (j+1) i)) sp (fun i hi q hq => ?_)];unfold updC wyB;show(if i=j∧q=4 then Value.slice (some ⟨W.heap.size,0,none⟩) 1 1 else brC (if i<j then bsT k v (waT wa) none i else bsL i) q)=brC (if i<j+1 then bsT k v (waT fun i=>if i=j then W.heap.size else wa i) none i else bsL i) q;by_cases e:i=j
  ·subst e;rw[if_pos (show i<i+1 by omega),if_neg (Nat.lt_irrefl i)];have hne:¬i=k:=(by omega)
   by_cases e2:q=4
   ·subst e2;rw[if_pos ⟨rfl,rfl⟩];unfold brC bsT regT waT;simp
   ·rw[if_neg (fun z=>e2 z.2)];rcases(by omega:q=0∨q=1∨q=2∨q=3) with z | z | z | z<;>subst z
    ·rfl
    ·unfold brC bsT;simp only[if_neg hne];rfl
    ·rfl
    ·rfl
  ·rw[if_neg (fun z=>e z.1)];by_cases e2:i<j
   ·rw[if_pos e2,if_pos (show i<j+1 by omega)];unfold bsT waT;simp only[if_neg e]
   ·rw[if_neg e2,if_neg (show ¬i<j+1 by omega)]
 ·by_cases e:i=j
  ·simp only[if_pos e];rw[←hUs];exact heap_alloc_last _ _
  ·simp only[if_neg e];have h1:=h.wys i (by omega);have h2:wa i≠g:=fun q=>by rw[q] at h1;exact absurd (cells_type h1 h.row) (by decide)
   refine keep ?_ hB;rw[hU];exact set_keep h1 h2
 ·have h2:BN≠g:=fun q=>by have h1:=h.box;rw[q] at h1;exact absurd (cells_type h1 h.row) (by decide)
  refine keep ?_ hB;rw[hU];exact set_keep h.box h2
 ·exact hlow.trans (hB.mono (by rw[hUs];exact Nat.le_trans h.le h.low.size))
theorem WyW.net (h:WyW w lo base k g c5 v a6 c6 BN wa sp k W) {f:Nat}(hf:f<k) (hk:3≤k∧k≤12) (hc:k≤c5) (hg:lo≤g) {Z:World}(hZ:Z=(W.setCell ⟨g,f*5+1,none⟩ (.slice (some ⟨W.heap.size,0,none⟩) 2 2)).alloc (.cells #[.int .i64 32768,.int .i64 4096] 3)) :
  (netT k f v (waT wa) (some ⟨W.heap.size,0,none⟩) (some ⟨g,0,none⟩) c5 a6 c6).at' Z∧Z.heap[BN]?=some (.cells #[.slice (some ⟨g,0,none⟩) k c5,.slice a6 k c6] 32)∧Below lo w Z:=by
 obtain⟨U,hU⟩:∃U,U=W.setCell ⟨g,f*5+1,none⟩ (.slice (some ⟨W.heap.size,0,none⟩) 2 2):=⟨_,rfl⟩
 have hUs:U.heap.size=W.heap.size:=(by rw[hU];simp)
 rw[←hU] at hZ;have hB:Bl U Z:=(by rw[hZ];exact bA1 _ _)
 have hlow:Below lo w U:=(by rw[hU];exact h.low.setCell hg _)
 have hp:Z.heap[W.heap.size]?=some (.cells #[.int .i64 32768,.int .i64 4096] 3):=(by rw[hZ,←hUs];exact heap_alloc_last _ _)
 refine⟨⟨?_,fun i hi => ?_,?_,show k≤9223372036854775807 by omega,?_⟩,?_,hlow.trans (hB.mono (by rw[hUs];exact Nat.le_trans h.le h.low.size))⟩
 ·have h1:=rowS_set h.row hf (show 1<5 by omega) (.slice (some ⟨W.heap.size,0,none⟩) 2 2);rw[←hU] at h1;rw[rowS_congr2 (d:=fun i=>brC (bsT f v (waT wa) (some ⟨W.heap.size,0,none⟩) i)) sp (fun i hi q hq => ?_)] at h1
  ·exact rowS_crow (keep h1 hB) hc
  ·unfold updC wyB;show(if i=f∧q=1 then Value.slice (some ⟨W.heap.size,0,none⟩) 2 2 else brC (if i<k then bsT k v (waT wa) none i else bsL i) q)=brC (bsT f v (waT wa) (some ⟨W.heap.size,0,none⟩) i) q;rw[if_pos hi];have hne:¬i=k:=(by omega)
   rcases(by omega:q=0∨q=1∨q=2∨q=3∨q=4) with z | z | z | z | z<;>subst z
   ·rw[if_neg (fun z=>by omega)];rfl
   ·by_cases e:i=f
    ·rw[if_pos ⟨e,rfl⟩];unfold brC bsT;simp[e]
    ·rw[if_neg (fun z=>e z.1)];unfold brC bsT;simp[e,hne]
   ·rw[if_neg (fun z=>by omega)];rfl
   ·rw[if_neg (fun z=>by omega)];rfl
   ·rw[if_neg (fun z=>by omega)];rfl
 ·have hi:i<k:=hi;have h1:=h.wys i hi;have h2:wa i≠g:=fun q=>by rw[q] at h1;exact absurd (cells_type h1 h.row) (by decide)
  have h3:Z.heap[wa i]?=some (.cells #[.int .i64 v,.int .i64 1] 92):=keep (by rw[hU];exact set_keep h1 h2) hB;refine⟨?_,?_,?_,show 1≤9223372036854775807 by omega⟩
  ·show CRow Z (if i=f then some ⟨W.heap.size,0,none⟩ else none) (if i=f then 2 else 0) (if i=f then 2 else 0) 1 _;by_cases e:i=f
   ·rw[if_pos e,if_pos e];refine⟨Nat.le_refl _,fun _=>⟨W.heap.size,0,rfl,(gSm.1 hp).1,fun a ha m hm => ?_⟩⟩;obtain rfl:m=0:=by omega
    rcases(by omega:a=0∨a=1) with z | z<;>subst z<;>exact cell_of_row Z _ _ _ _ _ hp
   ·rw[if_neg e,if_neg e];exact CRow.none _ _ _ _ _
  ·refine⟨Nat.le_refl _,fun _=>⟨wa i,0,rfl,(gSm.1 h3).1,fun a ha => ?_⟩⟩;have ha:a<1:=ha;obtain rfl:a=0:=by omega
   exact⟨cell_of_row Z _ 0 _ _ _ h3,cell_of_row Z _ 1 _ _ _ h3⟩
  ·show(if i=f then 2 else 0)≤9223372036854775807;split<;>omega
 ·have h1:=(owns_cs (by omega) (ownsC_below (by rw[hU];exact owns_set h.lks h.apart:U.ownsRow base 83 6 (.slice a6 k c6) k (cellsL k 6 (fun j=>lkC (Pl.lnk k ten yes j)))) hB)).2;show LRow Z a6 (lnL k true) c6 (Pl.lnk k ten yes);rw[lnL_ring hk.1];exact h1
 ·show lnL k true≤9223372036854775807;rw[lnL_ring hk.1];omega
 ·have h2:BN≠g:=fun q=>by have h1:=h.box;rw[q] at h1;exact absurd (cells_type h1 h.row) (by decide)
  exact keep (by rw[hU];exact set_keep h.box h2) hB
theorem WyW.start (h:LineW base W (Pl.lnk k ten yes) k k (.slice a5 k c5) (.slice a6 k c6)) (hk:0<k) (hl:Below lo w W) (hle:lo≤w.heap.size) {X:World}(hX:X=W.alloc (.cells #[.slice a5 k c5,.slice a6 k c6] 32)) :
  ∃g sp,a5=some ⟨g,0,none⟩∧base≤g∧k≤c5∧WyW w lo base k g c5 v a6 c6 W.heap.size wa sp 0 X:=by
 have hB:Bl W X:=(by rw[hX];exact bA1 _ _)
 rcases owns_rowS h.brs with⟨e,q⟩ | ⟨g,cap,sp,e,h1,h2,h3,h4,h5⟩
 ·omega
 ·injection e with e1 _ e3;subst e1 e3;refine⟨g,sp,rfl,h1,h2,?_,fun i hi=>absurd hi (Nat.not_lt_zero i),ownsC_below h.lks hB,h.apart g rfl,?_,hl.trans (hB.mono (Nat.le_trans hle hl.size)),hle⟩
  ·rw[rowS_congr2 (c:=fun i=>brC (wyB k v wa 0 i)) (d:=fun i=>brC (bsL i)) sp (fun i hi q hq=>by unfold wyB;rw[if_neg (Nat.not_lt_zero i)])];exact keep h5 hB
  ·rw[hX];exact heap_alloc_last _ _
end
section
variable {k f:Nat}{v:Int}{ra:Nat→Option Addr}{pa:Option Addr}{a5:Option Addr}{c5:Nat}{a6:Option Addr}{c6:Nat}
theorem trees_root {W:World}{n':Net}{oa:Option Addr}{oc:Nat}{t':List Tr}(h:SnOut W (netT k f v ra pa a5 c5 a6 c6) 2 (((netT k f v ra pa a5 c5 a6 c6).sc (startMs (netT k f v ra pa a5 c5 a6 c6))).all (netT k f v ra pa a5 c5 a6 c6).cn (tk1 90) 1) n' oa oc t') (hk:4≤k∧k≤12) (hv:1≤v∧v≤4094) {tree:Nat}(ht:tree<2) {ids:Nat→Int}(hids:(netT k f v ra pa a5 c5 a6 c6).ids (tree:Int)=ids) :
  (mat (tat t' tree).l (k-1)).md.v.root=(Pl.sat (Pl.finL ids (ringE k ten yes) k) (k-1)).v.root:=by
 have hi:k-1<k:=(by omega)
 have hF:=net_fine (netT_wf (f:=f) (v:=v) (ra:=ra) (pa:=pa) (a5:=a5) (c5:=c5) (a6:=a6) (c6:=c6) hk.2) (netT_right hk.2 hv) (startMs (netT k f v ra pa a5 c5 a6 c6));obtain⟨_,hm⟩:=h.each tree ht;have hmd:(mat (tat t' tree).l (k-1)).md=_:=congrArg Mnd.md (hm (k-1) hi).1;rw[tk1_all] at hmd;have hA:((((netT k f v ra pa a5 c5 a6 c6).sc (startMs (netT k f v ra pa a5 c5 a6 c6))).ticks (netT k f v ra pa a5 c5 a6 c6).cn 90).ms tree (k-1)).md.v=(Pl.fin (((netT k f v ra pa a5 c5 a6 c6).sc (startMs (netT k f v ra pa a5 c5 a6 c6))).ids (netT k f v ra pa a5 c5 a6 c6).cn (tree:Int)) (((netT k f v ra pa a5 c5 a6 c6).sc (startMs (netT k f v ra pa a5 c5 a6 c6))).E (netT k f v ra pa a5 c5 a6 c6).cn) k (k-1)).v:=(hF.settles (t:=90) (by omega) tree (k-1) hi).1;have hmd2:(mat (tat t' tree).l (k-1)).md.v=_:=(congrArg Md.v hmd).trans hA;rw[hmd2,Pl.Net.sc_E,show((netT k f v ra pa a5 c5 a6 c6).sc (startMs (netT k f v ra pa a5 c5 a6 c6))).ids (netT k f v ra pa a5 c5 a6 c6).cn (tree:Int)=ids from by rw[←hids];funext q;exact net_ids _ _ _];rw[Pl.finL_by (E:=(netT k f v ra pa a5 c5 a6 c6).ends) (fun i hi=>netT_ring (by omega) hi) (Pl.ringE_in (by omega) ten yes) hi];rfl
theorem trees_roots {W:World}{n':Net}{oa:Option Addr}{oc:Nat}{t':List Tr}(h:SnOut W (netT k f v ra pa a5 c5 a6 c6) 2 (((netT k f v ra pa a5 c5 a6 c6).sc (startMs (netT k f v ra pa a5 c5 a6 c6))).all (netT k f v ra pa a5 c5 a6 c6).cn (tk1 90) 1) n' oa oc t') (hk:4≤k∧k≤12) (hf:1≤f∧f<k) (hv:1≤v∧v≤4094) :
  (mat (tat t' 0).l (k-1)).md.v.root=ringId 0∧(mat (tat t' 1).l (k-1)).md.v.root=firstId f f :=
 ⟨(trees_root h hk hv (tree:=0) (by decide) netT_ids0).trans (root0_at hk),(trees_root h hk hv (tree:=1) (by decide) netT_ids1).trans (root_at hk hf)⟩
end
end
section
open Go.RowKit
open Vc (V Of)
open Pl (Br Net Pc Lk En St)
open Tk (Md Mnd Cn Sc Dn)
theorem u_finT {X V W0 W:World}{n:Net}{trees:Int}{ds:Nat→Dn}{dn:Nat}{na:Option Addr}{nk nc:Nat}{la:Option Addr}{lk lc:Nat}{oa:Option Addr}{ol oc:Nat}{f1 f2:Int}{g7 g8 g9:Nat}(hR:PlF V W0 n trees ds dn na nk nc la lk lc oa ol oc f1 f2) (hb:Bl W0 W) (hX:Bl X W)
  (hk:W.heap[g7]?=some (.cells #[.slice none 0 0,.slice none 0 0] 32)∧W.heap[g8]?=some (.cells #[.slice none 0 0] 43)∧W.heap[g9]?=some (.cells #[.int .i64 0,.int .i64 0] 26)) (hl:X.heap.size≤g7∧X.heap.size≤g8∧X.heap.size≤g9)
  (hz:(g7<V.heap.size∨W0.heap.size≤g7)∧(g8<V.heap.size∨W0.heap.size≤g8)∧(g9<V.heap.size∨W0.heap.size≤g9)) {Z:World}(HZ:Z=boxes5 W g7 g8 g9 na nk nc la lk lc oa ol oc f1 f2) :
  Bl X Z∧(∀U,Bl Z U→U.cell? ⟨g9,0,none⟩=some (.int .i64 f1))∧(f1≠0∨((plErr n trees ds dn).1=0∧f1=0∧∃(n':Net) (t':List Tr),(na=n'.bao∧n'.K=nk∧nc=n'.bcap)∧(la=n'.lao∧n'.L=lk∧lc=n'.lcap)∧t'.length=ol ∧
   ∀U,Bl Z U→SnOut U n trees.toNat ((n.sc (startMs n)).all n.cn ds dn) n' oa oc t'∧U.heap[g7]?=some (.cells #[.slice na nk nc,.slice la lk lc] 32)∧U.heap[g8]?=some (.cells #[.slice oa ol oc] 43))):=by
 obtain⟨k7,k8,k9⟩:=hk;obtain⟨l7,l8,l9⟩:=hl;obtain⟨z7,z8,z9⟩:=hz;have n78:g7≠g8:=fun e=>by subst e;exact absurd (cells_type k7 k8) (by decide)
 have n79:g7≠g9:=fun e=>by subst e;exact absurd (cells_type k7 k9) (by decide)
 have n89:g8≠g9:=fun e=>by subst e;exact absurd (cells_type k8 k9) (by decide)
 unfold boxes5 at HZ;have y7:Z.heap[g7]?=some (.cells #[.slice na nk nc,.slice la lk lc] 32):=(by rw[HZ];exact set_keep (set_keep (set_keep (set2_same k7) n78) n79) n79)
 have y8:Z.heap[g8]?=some (.cells #[.slice oa ol oc] 43):=(by rw[HZ];exact set_keep (set_keep (set1_same (set_keep (set_keep k8 n78.symm) n78.symm)) n89) n89)
 have y9:Z.heap[g9]?=some (.cells #[.int .i64 f1,.int .i64 f2] 26):=(by rw[HZ];exact set2_same (set_keep (set_keep (set_keep k9 n79.symm) n79.symm) n89.symm))
 have zs:Z.heap.size=W.heap.size:=(by rw[HZ];simp)
 have hZX:Bl X Z:=(by rw[HZ];exact((((hX.setCell l7 _).setCell l7 _).setCell l8 _).setCell l9 _).setCell l9 _)
 refine⟨hZX,fun U hU=>(tC2 (keep y9 hU)).1,?_⟩;rcases hR with⟨q,⟨rfl,rfl⟩,_⟩ | ⟨q,⟨rfl,rfl⟩,n',t',⟨rfl,rfl,rfl⟩,⟨rfl,rfl,rfl⟩,rfl,b,hVb,hK⟩
 ·exact Or.inl q
 ·exact Or.inr ⟨q,rfl,n',t',⟨rfl,rfl,rfl⟩,⟨rfl,rfl,rfl⟩,rfl,fun U hU=>⟨boxes_kept hK hVb hb z7 z8 z9 (by rw[←HZ,←zs];exact hU),keep y7 hU,keep y8 hU⟩⟩
end
end Go.Proofs.YtflghpnpjmodaaaGreatDoor
