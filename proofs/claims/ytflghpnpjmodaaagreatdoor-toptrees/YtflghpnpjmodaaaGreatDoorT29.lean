/- walks: lan.gatesOf: a bridge's gates -/
import Derived.Test.YtflghpnpjmodaaaGreatDoorT28
import Derived.Test.YtflghpnpjmodaaaGreatDoorT03
import Derived.Test.YtflghpnpjmodaaaGreatDoorT22
import Derived.Test.YtflghpnpjmodaaaGreatDoorT07
import Derived.Test.YtflghpnpjmodaaaGreatDoorT27
import Derived.Test.YtflghpnpjmodaaaGreatDoorT15
import Derived.Test.YtflghpnpjmodaaaGreatDoorT23
set_option maxRecDepth 100000
set_option maxHeartbeats 6000000
namespace Go.Proofs.YtflghpnpjmodaaaGreatDoor
section
open Go.RowKit
open Bk (E at')
theorem bsizeFa:(Tryz.prog.info? 26).map (·.size)=some 2:=by kernel_rfl
theorem bfa_set {w:World}{g:Nat}{a0 a1 v0 v1:Value}{ty:TypeId}(h:w.heap[g]?=some (.cells #[a0,a1] ty (0,0))):((w.setCell ⟨g,0,none⟩ v0).setCell ⟨g,1,none⟩ v1).heap[g]?=some (.cells #[v0,v1] ty (0,0)):=by
 have h0:(w.setCell ⟨g,0,none⟩ v0).heap[g]?=some (.cells #[v0,a1] ty (0,0)):=(by rw[heap_setCell_same _ _ _ _ _ _ h];rfl)
 rw[heap_setCell_same _ _ _ _ _ _ h0];rfl
theorem bfa_cells {w:World}{g:Nat}{a0 a1:Value}{ty:TypeId}(h:w.heap[g]?=some (.cells #[a0,a1] ty (0,0))):w.cell? ⟨g,0,none⟩=some a0∧w.cell? ⟨g,1,none⟩=some a1∧w.frozen? ⟨g,0,none⟩=false∧w.frozen? ⟨g,1,none⟩=false :=
 ⟨cell_of_row w g 0 _ _ _ h,cell_of_row w g 1 _ _ _ h,frozen_of_row _ _ _ _ _ h,frozen_of_row _ _ _ _ _ h⟩
abbrev faV (p:Int×Int):Value:=.agg #[.int .i64 p.1,.int .i64 p.2]
theorem bwrong_any (ao:Option Addr) (cap:Nat) (l:List E) (w:World) (hn:l.length≤9223372036854775807) (hr:BEL w ao cap l) :
  Calls Tryz.prog 146 #[.slice ao l.length cap] w fun e w'=>e=.returned (faV (Bk.wrong (at' l) l.length))∧Bl w w':=by
 have HRW:Hid (∀W,Bl w W→BEL W ao cap l):=fun W hW=>BEL.below hr hW;have hcap:l.length≤cap:=hr.1;clear hr;obtain⟨G,HG⟩:∃G,Hid (G=w.heap.size):=⟨_,rfl⟩
 have HI:Hid (∀W,W=w.alloc (.cells #[.int .i64 0,.int .i64 0] 26)→Bl w W∧W.heap[G]?=some (.cells #[.int .i64 0,.int .i64 0] 26)):=by
  intro W hW;rw[hW,HG.out];exact⟨bA1 _ _,heap_alloc_last _ _⟩
 have hGM:w.heap.size≤G:=(by rw[HG.out];exact Nat.le_refl _)
 have HZ:Hid (30<l.length→Bk.wrong (at' l) l.length=(5,0)):=fun h=>if_pos h;have HN:Hid (¬30<l.length→Bk.wrong (at' l) l.length=Bk.firstTo (Bk.errAt (at' l)) l.length):=fun h=>if_neg h;obtain⟨N,hN⟩:∃N,N=l.length:=⟨_,rfl⟩
 by_cases h30:30<l.length
 ·have HZ1:Hid _:=HZ.out h30;have h30z:(30:Int)<(l.length:Int):=(by omega)
  clear HI HZ HN;go_enter Tryz.func146,Tryz.ntmps146;(go_wp2_with fail);exact bodyPost_ret (v:=.agg #[.int .i64 5,.int .i64 0]) (results_row (p:=2) (ty:=26) Tryz.results146 _ _ w.heap.size 26 #[.int .i64 5,.int .i64 0] (0,0) _ rfl (heap_alloc_last _ _) Tryz.underlying26 rfl (by rw[bsizeFa];rfl)) rfl ⟨by rw[HZ1.out],bA1 _ _⟩
 ·have HN1:Hid _:=HN.out h30;have h30z:¬(30:Int)<(l.length:Int):=(by omega)
  clear HZ HN;go_enter Tryz.func146,Tryz.ntmps146;(go_wp2_with fail);rw[←HG.out];go_loopw [11] (fun i wr=>∃k:Nat,k≤l.length∧i=.int .i64 k∧Hid (∀j,j<k→Bk.errAt (at' l) j=0)∧Hid (Bl w wr∧wr.heap[G]?=some (.cells #[.int .i64 0,.int .i64 0] 26))) (fun i _=>l.length-(intOf i).toNat)
  case atStart=>exact⟨0,by omega,rfl,(fun j hj=>absurd hj (by omega)),HI.out _ rfl⟩
  case round =>
   obtain⟨k,hk,rfl,hS,hX⟩:=hrel;clear HI;by_cases hlt:k<l.length
   ·obtain⟨b,off,rfl,_⟩:=(HRW.out wr hX.out.1).place (by omega);obtain⟨c0,c1,c2,c3⟩:=(HRW.out wr hX.out.1).cells hlt;obtain⟨X,HX⟩:∃X,Hid (X=wr.alloc (.cells #[.int .i64 (at' l k).vid,.int .u64 (at' l k).addr,.int .i64 (at' l k).port,.int .i64 (at' l k).age] 291)):=⟨_,rfl⟩
    have HXB:Hid (Bl wr X):=(by rw[HX.out];exact bA1 _ _)
    have HX5:Hid (X.heap[wr.heap.size]?=some (.cells #[.int .i64 (at' l k).vid,.int .u64 (at' l k).addr,.int .i64 (at' l k).port,.int .i64 (at' l k).age] 291)):=(by rw[HX.out];exact heap_alloc_last _ _)
    have HCL:Hid (Calls Tryz.prog 191 #[.agg #[.int .i64 (at' l k).vid,.int .u64 (at' l k).addr,.int .i64 (at' l k).port,.int .i64 (at' l k).age]] X fun e w'=>e=.returned (.bool (decide (Bk.rng (at' l k))))∧Hid (Bl w w'∧w'.heap[G]?=some (.cells #[.int .i64 0,.int .i64 0] 26)∧w'.heap[wr.heap.size]?=some (.cells #[.int .i64 (at' l k).vid,.int .u64 (at' l k).addr,.int .i64 (at' l k).port,.int .i64 (at' l k).age] 291))):=by
     refine(binr_any (at' l k) X).mono ?_;rintro e w' ⟨rfl,hb⟩;have y1:Bl w X:=hX.out.1.trans (HXB.out.mono hX.out.1.size);exact⟨rfl,y1.trans (hb.mono y1.size),keep (keep hX.out.2 HXB.out) hb,keep HX5.out hb⟩
    have HF1:Hid (∀e,e≠0→Bk.errAt (at' l) k=e→Bk.firstTo (Bk.errAt (at' l)) l.length=(e,(k:Int))):=fun e he h=>by
     subst h;exact Bk.firstTo_stay _ k (by rw[Bk.firstTo_none _ _ hS.out]) he _ hlt
    have HS1:Hid (Bk.errAt (at' l) k=0→∀j,j<k+1→Bk.errAt (at' l) j=0):=fun h j hj=>by
     by_cases e:j=k
     ·subst e;exact h
     ·exact hS.out j (by omega)
    obtain⟨d0,d1,d2,d3⟩:=en_cells HX5.out;clear hX hS HX5 HXB;by_cases hg:Bk.rng (at' l k)
    ·have hdg:decide (Bk.rng (at' l k))=true:=decide_eq_true hg;rw[hdg] at HCL;by_cases hk0:k=0
     ·have hd0:decide (0<k)=false:=decide_eq_false (by omega);have HS2:Hid _:=HS1.out (Bk.errAt_zero.2 ⟨hg,fun h=>absurd h (by omega)⟩);clear HS1 HF1 HRW HN1 hg hdg hk0;generalize at' l k=x at *;(go_wp2_with fail);rw[←HX.out];refine HCL.out.mono ?_;rintro e w1 ⟨rfl,hY⟩;clear d0 d1 d2 d3 c0 c1 c2 c3;(go_wp2_with fail);(go_quiet (fail));(go_wp2_with fail);exact⟨⟨k+1,by omega,by go_num,HS2,⟨below_drewN hY.out.1 _,hY.out.2.1⟩⟩,by simp[intOf];omega⟩
     ·obtain⟨p,hp⟩:∃p,p=k-1:=⟨_,rfl⟩
      have wp:IntKind.i64.wrap ((k:Int)-1)=(p:Int):=(by rw[wraps_i64 _ (by omega) (by omega)];omega)
      have k0:decide (0<k)=true:=decide_eq_true (by omega);have ip:(0:Int)≤(p:Int):=(by omega)
      have np:(p:Int)<(l.length:Int):=(by omega)
      have hpl:p<l.length:=(by omega)
      have HE2:Hid (¬Bk.lt (at' l p) (at' l k)→Bk.errAt (at' l) k=2):=fun h=>by
       show(if ¬Bk.rng (at' l k) then(3:Int) else if 0<k∧¬Bk.lt (at' l (k-1)) (at' l k) then 2 else 0)=2;rw[if_neg (by simp[hg]),if_pos ⟨by omega,by rw[←hp];exact h⟩]
      have HE0:Hid (Bk.lt (at' l p) (at' l k)→Bk.errAt (at' l) k=0):=fun h=>Bk.errAt_zero.2 ⟨hg,fun _=>by rw[←hp];exact h⟩;have HRC:Hid (∀W,Bl w W→W.cell? ⟨b,off+p*4,none⟩=some (.int .i64 (at' l p).vid)∧W.cell? ⟨b,off+p*4+1,none⟩=some (.int .u64 (at' l p).addr)∧W.cell? ⟨b,off+p*4+2,none⟩=some (.int .i64 (at' l p).port)∧W.cell? ⟨b,off+p*4+3,none⟩=some (.int .i64 (at' l p).age)):=fun W hW=>(HRW.out W hW).cells hpl;have HBE:Hid (∀W W1,Bl W1 W→Calls Tryz.prog 192 #[.agg #[.int .i64 (at' l p).vid,.int .u64 (at' l p).addr,.int .i64 (at' l p).port,.int .i64 (at' l p).age],.agg #[.int .i64 (at' l k).vid,.int .u64 (at' l k).addr,.int .i64 (at' l k).port,.int .i64 (at' l k).age]] W fun e w'=>e=.returned (.int .i64 (Bk.cmp (at' l p) (at' l k)))∧Hid (Bl W1 w')):=fun W W1 hW=>(border_any (at' l p) (at' l k) W).mono (fun e w' h=>⟨h.1,hW.trans (h.2.mono hW.size)⟩);have HGQ:=cmp_geq (at' l p) (at' l k);have HQ:Hid (decide (Bk.cmp (at' l p) (at' l k)≥0)=decide (¬Bk.lt (at' l p) (at' l k))):=HGQ;clear HGQ hp;(go_wp2_with fail);rw[←HX.out];refine HCL.out.mono ?_;rintro e w1 ⟨rfl,hY⟩;clear d0 d1 d2 d3 c0 c1 c2 c3 HRW hg hdg;have HXX:Hid (Bl w1 w1):=Below.refl _ _;have HFIN:Hid (∀W,Bl w1 W→Bl w W∧W.heap[G]?=some (.cells #[.int .i64 0,.int .i64 0] 26)):=fun W hW=>⟨hY.out.1.trans (hW.mono hY.out.1.size),keep hY.out.2.1 hW⟩
      have HJC:Hid (∀W,Bl w1 W→(W.cell? ⟨b,off+p*4,none⟩=some (.int .i64 (at' l p).vid)∧W.cell? ⟨b,off+p*4+1,none⟩=some (.int .u64 (at' l p).addr)∧W.cell? ⟨b,off+p*4+2,none⟩=some (.int .i64 (at' l p).port)∧W.cell? ⟨b,off+p*4+3,none⟩=some (.int .i64 (at' l p).age))∧W.cell? ⟨wr.heap.size,0,none⟩=some (.int .i64 (at' l k).vid)∧W.cell? ⟨wr.heap.size,1,none⟩=some (.int .u64 (at' l k).addr)∧W.cell? ⟨wr.heap.size,2,none⟩=some (.int .i64 (at' l k).port)∧W.cell? ⟨wr.heap.size,3,none⟩=some (.int .i64 (at' l k).age)):=fun W hW=>⟨HRC.out W (HFIN.out W hW).1,en_cells (keep hY.out.2.2 hW)⟩
      obtain⟨⟨t0,t1,t2,t3⟩,u0,u1,u2,u3⟩:=HJC.out w1 HXX.out;clear HCL hY HRC;by_cases hl:Bk.lt (at' l p) (at' l k)
      ·have HS2:Hid _:=HS1.out (HE0.out hl);have hq:=HQ.out;rw[decide_eq_false (show ¬¬Bk.lt (at' l p) (at' l k) by simp[hl])] at hq;clear HS1 HF1 HE0 HE2 HQ hl HN1;generalize Bk.cmp (at' l p) (at' l k)=cm at *;generalize at' l p=y at *;generalize at' l k=x at *;(go_wp2_with fail);go_region_held3 (fun W=>(W.cell? ⟨b,off+p*4,none⟩=some (.int .i64 y.vid)∧W.cell? ⟨b,off+p*4+1,none⟩=some (.int .u64 y.addr)∧W.cell? ⟨b,off+p*4+2,none⟩=some (.int .i64 y.port)∧W.cell? ⟨b,off+p*4+3,none⟩=some (.int .i64 y.age))∧W.cell? ⟨wr.heap.size,0,none⟩=some (.int .i64 x.vid)∧W.cell? ⟨wr.heap.size,1,none⟩=some (.int .u64 x.addr)∧W.cell? ⟨wr.heap.size,2,none⟩=some (.int .i64 x.port)∧W.cell? ⟨wr.heap.size,3,none⟩=some (.int .i64 x.age))
        (first | (exact HJC.out _ (Below.drew HXX.out)) | (exact HJC.out _ (Hid.out (by assumption))))
        (first | (go_at_call 192;refine(HBE.out _ _ (Below.drew HXX.out)).mono ?_;rintro e w3 ⟨rfl,HB3⟩))
       clear t0 t1 t2 t3 u0 u1 u2 u3;have HF3:Hid _:=HFIN.out w3 HB3.out;clear HFIN HJC HBE;(go_wp2_with fail);exact⟨⟨k+1,by omega,by go_num,HS2,HF3.out⟩,by simp[intOf];omega⟩
      ·have HF2:Hid _:=HF1.out 2 (by omega) (HE2.out hl);have hq:=HQ.out;rw[decide_eq_true hl] at hq;clear HS1 HF1 HE0 HE2 HQ hl;generalize Bk.cmp (at' l p) (at' l k)=cm at *;generalize at' l p=y at *;generalize at' l k=x at *;(go_wp2_with fail);go_region_held3 (fun W=>(W.cell? ⟨b,off+p*4,none⟩=some (.int .i64 y.vid)∧W.cell? ⟨b,off+p*4+1,none⟩=some (.int .u64 y.addr)∧W.cell? ⟨b,off+p*4+2,none⟩=some (.int .i64 y.port)∧W.cell? ⟨b,off+p*4+3,none⟩=some (.int .i64 y.age))∧W.cell? ⟨wr.heap.size,0,none⟩=some (.int .i64 x.vid)∧W.cell? ⟨wr.heap.size,1,none⟩=some (.int .u64 x.addr)∧W.cell? ⟨wr.heap.size,2,none⟩=some (.int .i64 x.port)∧W.cell? ⟨wr.heap.size,3,none⟩=some (.int .i64 x.age))
        (first | (exact HJC.out _ (Below.drew HXX.out)) | (exact HJC.out _ (Hid.out (by assumption))))
        (first | (go_at_call 192;refine(HBE.out _ _ (Below.drew HXX.out)).mono ?_;rintro e w3 ⟨rfl,HB3⟩))
       clear t0 t1 t2 t3 u0 u1 u2 u3;have HF3:Hid _:=HFIN.out w3 HB3.out;obtain⟨f0,f1,f2,f3⟩:=bfa_cells HF3.out.2;clear HFIN HJC HBE;(go_wp2_with fail);exact bodyPost_ret (v:=.agg #[.int .i64 2,.int .i64 (k:Int)]) (results_row (p:=2) (ty:=26) Tryz.results146 _ _ G 26 #[.int .i64 2,.int .i64 (k:Int)] (0,0) _ rfl (bfa_set HF3.out.2) Tryz.underlying26 rfl (by rw[bsizeFa];rfl)) rfl ⟨by rw[HN1.out,HF2.out],(HF3.out.1.setCell hGM _).setCell hGM _⟩
    ·have hdg:decide (Bk.rng (at' l k))=false:=decide_eq_false hg;rw[hdg] at HCL;have HF2:Hid _:=HF1.out 3 (by omega) (if_pos hg);clear HS1 HF1 HRW hg hdg;generalize at' l k=x at *;(go_wp2_with fail);rw[←HX.out];refine HCL.out.mono ?_;rintro e w1 ⟨rfl,hY⟩;obtain⟨f0,f1,f2,f3⟩:=bfa_cells hY.out.2.1;clear d0 d1 d2 d3 c0 c1 c2 c3;(go_wp2_with fail);exact bodyPost_ret (v:=.agg #[.int .i64 3,.int .i64 (k:Int)]) (results_row (p:=2) (ty:=26) Tryz.results146 _ _ G 26 #[.int .i64 3,.int .i64 (k:Int)] (0,0) _ rfl (bfa_set hY.out.2.1) Tryz.underlying26 rfl (by rw[bsizeFa];rfl)) rfl ⟨by rw[HN1.out,HF2.out],(hY.out.1.setCell hGM _).setCell hGM _⟩
   ·obtain rfl:k=l.length:=by omega
    have HF2:Hid (Bk.firstTo (Bk.errAt (at' l)) l.length=(0,0)):=Bk.firstTo_none _ _ hS.out;obtain⟨f0,f1,f2,f3⟩:=bfa_cells hX.out.2;clear HRW;(go_wp2_with fail);exact bodyPost_ret (v:=.agg #[.int .i64 0,.int .i64 0]) (results_row (p:=2) (ty:=26) Tryz.results146 _ _ G 26 #[.int .i64 0,.int .i64 0] (0,0) _ rfl (bfa_set hX.out.2) Tryz.underlying26 rfl (by rw[bsizeFa];rfl)) rfl ⟨by rw[HN1.out,HF2.out],(hX.out.1.setCell hGM _).setCell hGM _⟩
def Bk.lookP (l:List E) (s:E):Int:=match Bk.look l s with | some e=>e.port | none=>0
theorem Bk.lookP_some {l:List E}{s:E}(hb:Bk.Book l) {e:E}(he:e∈l) (hk:Bk.key e s):Bk.lookP l s=e.port:=by
 unfold Bk.lookP;rw[Bk.look_some hb he hk]
theorem Bk.lookP_none {l:List E}{s:E}(h:¬Bk.Known l s):Bk.lookP l s=0:=by
 unfold Bk.lookP;rw[Bk.look_none h]
theorem blook_any (ao:Option Addr) (cap:Nat) (l:List E) (vid addr:Int) (w:World) (hbk:Bk.Book l) (hr:BEL w ao cap l) :
  Calls Tryz.prog 153 #[.slice ao l.length cap,.int .i64 vid,.int .u64 addr] w fun e w'=>e=.returned (.tuple #[.int .i64 (Bk.lookP l (sought vid addr)),.bool (decide (Bk.Known l (sought vid addr)))])∧Bl w w':=by
 have hn:=hbk.many;have hcap:l.length≤cap:=hr.1;have HRW:Hid (∀W,Bl w W→BEL W ao cap l):=fun W hW=>BEL.below hr hW;have HF:Hid (Calls Tryz.prog 195 #[.slice ao l.length cap,.int .i64 vid,.int .u64 addr] w fun e w'=>∃(k:Nat) (kn:Bool),e=.returned (.tuple #[.int .i64 k,.bool kn])∧Hid (decide (Bk.Known l (sought vid addr))=kn)∧(kn=true→k<l.length∧Bk.lookP l (sought vid addr)=(at' l k).port)∧Hid (Bl w w')):=by
  refine(bfind_any ao cap l vid addr w hbk hr).mono ?_;rintro e w' ⟨k,rfl,hs,hb⟩;refine⟨k,_,rfl,rfl,fun h => ?_,hb⟩;have h2:=(hs.known hbk).1 (of_decide_eq_true h);exact⟨h2.1,Bk.lookP_some hbk (Bk.at_mem l k h2.1) h2.2⟩
 have HNO:Hid (¬Bk.Known l (sought vid addr)→Bk.lookP l (sought vid addr)=0):=fun h=>Bk.lookP_none h;clear hbk hr;go_enter Tryz.func153,Tryz.ntmps153;(go_wp2_with fail);refine HF.out.mono ?_;rintro e w1 ⟨k,kn,rfl,HD,hK,HB⟩;clear HF;cases kn with
 | false =>
  have HP:Hid _:=HNO.out (of_decide_eq_false HD.out);clear hK HNO HRW;(go_wp2_with fail);go_ret2;exact⟨by rw[HD.out,HP.out];rfl,HB.out⟩
 | true =>
  obtain⟨hlt,hp⟩:=hK rfl;have HP:Hid _:=hp;obtain⟨b,off,rfl,hb⟩:=(HRW.out w1 HB.out).place (by omega);obtain⟨c0,c1,c2,c3⟩:=(HRW.out w1 HB.out).cells hlt;have ik:(0:Int)≤(k:Int):=(by omega)
  have nk:(k:Int)<(l.length:Int):=(by omega)
  clear hK HNO HRW hp;generalize at' l k=x at *;(go_wp2_with fail);go_ret2;exact⟨by rw[HD.out,HP.out];rfl,HB.out⟩
end
section
namespace Rl
open Bk (E at')
structure G where
 port:Int
 plain:Int
 ways:List Int
 opens:List Bool
 wo:Option Addr
 wcap:Nat
 oo:Option Addr
 ocap:Nat
def g0:G:=⟨0,0,[],[],none,0,none,0⟩
instance:Inhabited G:=⟨g0⟩
def gat (l:List G) (i:Nat):G:=l.getD i g0
theorem gat_get (l:List G) (i:Nat) (h:i<l.length):gat l i=l[i]:=by simp[gat,h]
theorem gat_mem (l:List G) (i:Nat) (h:i<l.length):gat l i∈l:=by rw[gat_get l i h];exact List.getElem_mem h
theorem mem_gat {l:List G}{g:G}(h:g∈l):∃i,i<l.length∧gat l i=g:=by
 obtain⟨i,hi,rfl⟩:=List.getElem_of_mem h;exact⟨i,hi,gat_get l i hi⟩
theorem take_succ (l:List G) (k:Nat) (h:k<l.length):l.take (k+1)=l.take k++[gat l k]:=by
 rw[gat_get l k h,List.take_succ_eq_append_getElem h]
def gateErr (g:G):Int:=if (0≤g.port∧g.port≤30)∧0≤g.plain∧g.plain≤4094 then(if (16:Int)<g.opens.length then 5 else 0) else 3
def wv (l:List Int) (i:Nat):Int:=l.getD i 0
def waysErr (l:List Int):Int:=Rg.wrongTo (wv l) (fun _=>1) l.length
def rise (a n:Int):Int:=if n≤a then 2 else 0
def aheadP (l:List G) (i:Nat):Int:=if i=0 then -1 else(gat l (i-1)).port
def or3 (a b c:Int):Int:=if a=0 then(if b=0 then c else b) else a
def gErr (l:List G) (i:Nat):Int:=or3 (gateErr (gat l i)) (waysErr (gat l i).ways) (rise (aheadP l i) (gat l i).port)
def wrong (l:List G):Int×Int:=Bk.firstTo (gErr l) l.length
theorem or3_zero {a b c:Int}(h:or3 a b c=0):a=0∧b=0∧c=0:=by
 unfold or3 at h;by_cases h1:a=0
 ·rw[if_pos h1] at h;by_cases h2:b=0
  ·rw[if_pos h2] at h;exact⟨h1,h2,h⟩
  ·rw[if_neg h2] at h;exact absurd h h2
 ·rw[if_neg h1] at h;exact absurd h h1
structure Right (l:List G):Prop where
 port:∀i,i<l.length→0≤(gat l i).port∧(gat l i).port≤30
 plain:∀i,i<l.length→0≤(gat l i).plain∧(gat l i).plain≤4094
 opens:∀i,i<l.length→(gat l i).opens.length≤16
 ways:∀i,i<l.length→Rg.Right (wv (gat l i).ways) (fun _=>1) (gat l i).ways.length
 less:∀i j,i<j→j<l.length→(gat l i).port<(gat l j).port
theorem right_of {l:List G}(h:(wrong l).1=0):Right l:=by
 have hz:=(Bk.firstTo_zero _ _ h).2;have h1:∀i,i<l.length→gateErr (gat l i)=0∧waysErr (gat l i).ways=0∧rise (aheadP l i) (gat l i).port=0:=fun i hi=>or3_zero (hz i hi);have hg:∀i,i<l.length→((0≤(gat l i).port∧(gat l i).port≤30)∧0≤(gat l i).plain∧(gat l i).plain≤4094)∧(gat l i).opens.length≤16:=fun i hi=>by
  have:=(h1 i hi).1;unfold gateErr at this;by_cases c:(0≤(gat l i).port∧(gat l i).port≤30)∧0≤(gat l i).plain∧(gat l i).plain≤4094
  ·rw[if_pos c] at this;by_cases d:(16:Int)<(gat l i).opens.length
   ·rw[if_pos d] at this;cases this
   ·exact⟨c,by omega⟩
  ·rw[if_neg c] at this;cases this
 refine⟨fun i hi=>(hg i hi).1.1,fun i hi=>(hg i hi).1.2,fun i hi=>(hg i hi).2,fun i hi=>Rg.right_of (h1 i hi).2.1,?_⟩;have hs:∀i,i+1<l.length→(gat l i).port<(gat l (i+1)).port:=fun i hi=>by
  have:=(h1 (i+1) hi).2.2;have ea:aheadP l (i+1)=(gat l i).port:=(by unfold aheadP;rw[if_neg (by omega)];rfl)
  rw[ea] at this;unfold rise at this;by_cases c:(gat l (i+1)).port≤(gat l i).port
  ·rw[if_pos c] at this;cases this
  ·omega
 intro i j hij;induction j with
 | zero=>omega
 | succ j ih =>
  intro hj;by_cases e:i=j
  ·subst e;exact hs i hj
  ·have:=ih (by omega) (by omega);have:=hs j hj;omega
theorem Right.low {l:List G}(h:Right l):∀i,i<l.length→(i:Int)≤(gat l i).port
 | 0,hi=>(h.port 0 hi).1
 | i+1,hi=>by have:=Right.low h i (by omega);have:=h.less i (i+1) (by omega) hi;omega
theorem Right.many {l:List G}(h:Right l):l.length≤31:=by
 rcases Nat.eq_zero_or_pos l.length with e | e
 ·omega
 ·have h1:=h.low (l.length-1) (by omega);have h2:=(h.port (l.length-1) (by omega)).2;omega
def passes (g:G) (tree way:Int):Bool:=g.ways.contains way&&(decide (0≤tree∧tree≤(g.opens.length:Int)-1)&&g.opens.getD tree.toNat false)
structure F where
 dst:Int
 src:Int
 tagged:Bool
 prio:Int
 drop:Bool
 vid:Int
 type:Int
 ao:Option Addr
 n:Nat
 cap:Nat
 bs:Nat→Int
def wayOf (f:F) (g:G):Int:=if f.tagged=true∧f.vid≠0 then f.vid else g.plain
def res (d:Int):Bool:=decide (1652522221568≤d∧d≤1652522221583)
def idx (l:List G) (p:Int):Nat→Int
 | 0 => -1
 | k+1=>if 0≤idx l p k then idx l p k else if (gat l k).port=p then(k:Int) else -1
theorem idx_stay (l:List G) (p:Int) (k:Nat) (h:0≤idx l p k):∀m,k≤m→idx l p m=idx l p k:=by
 intro m hm;induction m with
 | zero =>
  obtain rfl:k=0:=by omega
  rfl
 | succ m ih =>
  by_cases e:k=m+1
  ·subst e;rfl
  ·have:=ih (by omega);show(if 0≤idx l p m then idx l p m else _)=_;rw[if_pos (by omega),this]
theorem idx_cases (l:List G) (p:Int):∀k,(idx l p k = -1∧∀i,i<k→(gat l i).port≠p)∨∃i,i<k∧idx l p k=(i:Int)∧(gat l i).port=p∧∀j,j<i→(gat l j).port≠p
 | 0=>Or.inl ⟨rfl,fun i hi=>by omega⟩
 | k+1=>by
  show((if 0≤idx l p k then idx l p k else if (gat l k).port=p then(k:Int) else -1) = -1∧_)∨∃i,i<k+1∧(if 0≤idx l p k then idx l p k else if (gat l k).port=p then(k:Int) else -1)=(i:Int)∧_;rcases idx_cases l p k with⟨h1,h2⟩ | ⟨i,hi,h1,h2,h3⟩
  ·rw[h1,if_neg (by omega)];by_cases e:(gat l k).port=p
   ·rw[if_pos e];exact Or.inr ⟨k,by omega,rfl,e,h2⟩
   ·rw[if_neg e];refine Or.inl ⟨rfl,fun i hi => ?_⟩;by_cases q:i=k
    ·subst q;exact e
    ·exact h2 i (by omega)
  ·rw[h1,if_pos (by omega)];exact Or.inr ⟨i,by omega,rfl,h2,h3⟩
structure O where
 port:Int
 tagged:Bool
 prio:Int
 drop:Bool
 vid:Int
def leave (f:F) (way:Int) (g:G):O :=
 if g.plain=way then⟨g.port,false,0,false,0⟩ else⟨g.port,true,if f.tagged=true then f.prio else 0,f.tagged&&f.drop,way⟩
theorem leave_port (f:F) (way:Int) (g:G):(leave f way g).port=g.port:=by unfold leave;split<;>rfl
structure R where
 name:ByteArray
 rev:Int
 ao:Option Addr
 n:Nat
 cap:Nat
 vs:Nat→Int
 ts:Nat→Int
def R.wrong (r:R):Int:=Rg.wrong r.name r.rev r.vs r.ts r.n
def R.tree (r:R) (v:Int):Int:=Rg.tree r.vs r.ts v r.n
def F.wrong (f:F):Int:=Go.Proofs.YtflghpnpjmodaaaGreatDoor.wrong f.dst f.src f.tagged f.prio f.vid f.type f.n
def or4 (a b c d:Int):Int:=if a=0 then or3 b c d else a
def errR (r:R) (l:List G) (b:List E) (f:F):Int:=or4 r.wrong (wrong l).1 (Bk.wrong (at' b) b.length).1 f.wrong
def leads (r:R) (m:List E) (way:Int) (f:F) (p:Int) (g:G):Bool :=
 decide (g.port≠p)&&(passes g (r.tree way) way&&(!decide (Bk.Known m ⟨way,f.dst,0,0⟩)||decide (g.port=Bk.lookP m ⟨way,f.dst,0,0⟩)))
structure Res where
 out:List O
 book:List E
 err:Int
def inG (l:List G) (p:Int):G:=gat l (idx l p l.length).toNat
def stays (r:R) (l:List G) (p:Int) (f:F):Bool:=!passes (inG l p) (r.tree (wayOf f (inG l p))) (wayOf f (inG l p))||res f.dst
def learnt (b:List E) (l:List G) (p:Int) (f:F):List E:=Bk.learn b ⟨wayOf f (inG l p),f.src,p,0⟩
def outs (r:R) (l:List G) (b:List E) (p:Int) (f:F):List O :=
 (l.filter (leads r (learnt b l p f) (wayOf f (inG l p)) f p)).map (leave f (wayOf f (inG l p)))
def relay (r:R) (l:List G) (b:List E) (p:Int) (f:F):Res :=
 if errR r l b f=0 then
  (if idx l p l.length<0 then⟨[],[],6⟩
   else if stays r l p f=true then⟨[],b,0⟩
   else⟨outs r l b p f,learnt b l p f,0⟩)
 else⟨[],[],errR r l b f⟩
end Rl
end
section
open Go.RowKit
open Bk (E at')
theorem bcontains_any (ao:Option Addr) (cap:Nat) (l:List Int) (n:Int) (w:World) (hn:l.length≤9223372036854775807) (hr:ILs w ao cap l) :
  Calls Tryz.prog 194 #[.slice ao l.length cap,.int .i64 n] w fun e w'=>e=.returned (.bool (l.contains n))∧w'=w:=by
 have HI:Hid (Calls Tryz.prog 55 #[.slice ao l.length cap,.int .i64 n] w fun e w'=>e=.returned (.int .i64 (Bk.idx l n l.length))∧w'=w):=bindex_any ao cap l n w hn hr;have HC:Hid (decide (Bk.idx l n l.length≥0)=l.contains n):=Bk.idx_contains l n;clear hr;generalize Bk.idx l n l.length=q at *;go_enter Tryz.func194,Tryz.ntmps194;go_wp2_with (go_at_call 55;refine HI.out.mono ?_;rintro e w1 ⟨rfl,rfl⟩)
 go_ret;exact⟨by rw[←HC.out];rfl,rfl⟩
end
section
open Go.RowKit
open Bk (E at')
open Rl (G gat)
def BLs (w:World) (ao:Option Addr) (cap:Nat) (l:List Bool):Prop:=CRow w ao l.length cap 1 (fun i _=>.bool (l.getD i false))
theorem BLs.below {w w':World}{ao:Option Addr}{cap:Nat}{l:List Bool}(h:BLs w ao cap l) (hb:Bl w w'):BLs w' ao cap l:=CRow.below h hb
theorem BLs.cell {w:World}{b off cap:Nat}{l:List Bool}(h:BLs w (some ⟨b,off,none⟩) cap l) {i:Nat}(hi:i<l.length):w.cell? ⟨b,off+i,none⟩=some (.bool (l.getD i false)):=by
 obtain⟨b',off',e,_,hc⟩:=h.2 (by omega);cases e
 have:=hc i hi 0 (by omega);rw[Nat.mul_one,Nat.add_zero] at this;exact this
theorem BLs.place {w:World}{ao:Option Addr}{cap:Nat}{l:List Bool}(h:BLs w ao cap l) (hn:0<l.length):∃b off,ao=.some ⟨b,off,.none⟩∧b<w.heap.size:=by
 obtain⟨b,off,e,hb,_⟩:=h.2 hn;exact⟨b,off,e,hb⟩
theorem BLs.of {w:World}{ao:Option Addr}{n cap:Nat}{f:Nat→Bool}(h:CRow w ao n cap 1 (fun i _=>.bool (f i))):BLs w ao cap ((List.range n).map f):=by
 unfold BLs;rw[show((List.range n).map f).length=n by simp];exact h.congr (fun i hi=>by simp[hi])
def gA (g:G):Array Value:=#[.int .i64 g.port,.slice g.wo g.ways.length g.wcap,.int .i64 g.plain,.slice g.oo g.opens.length g.ocap]
def gC (g:G) (j:Nat):Value:=if j=0 then .int .i64 g.port else if j=1 then .slice g.wo g.ways.length g.wcap else if j=2 then .int .i64 g.plain else .slice g.oo g.opens.length g.ocap
theorem gC_one (g:G) (j:Nat):(gC g j).oneCell'=true:=by
 unfold gC;repeat' split
 all_goals rfl
theorem gt_cells {w:World}{g:Nat}{a0 a1 a2 a3:Value}{ty:TypeId}(h:w.heap[g]?=some (.cells #[a0,a1,a2,a3] ty (0,0))) :
  w.cell? ⟨g,0,none⟩=some a0∧w.cell? ⟨g,1,none⟩=some a1∧w.cell? ⟨g,2,none⟩=some a2∧w.cell? ⟨g,3,none⟩=some a3 :=
 ⟨cell_of_row w g 0 _ _ _ h,cell_of_row w g 1 _ _ _ h,cell_of_row w g 2 _ _ _ h,cell_of_row w g 3 _ _ _ h⟩
structure GIn (w:World) (g:G):Prop where
 ways:ILs w g.wo g.wcap g.ways
 opens:BLs w g.oo g.ocap g.opens
 wn:g.ways.length≤9223372036854775807
 on:g.opens.length≤9223372036854775807
theorem GIn.below {w w':World}{g:G}(h:GIn w g) (hb:Bl w w'):GIn w' g:=⟨h.ways.below hb,h.opens.below hb,h.wn,h.on⟩
structure GRow (w:World) (ao:Option Addr) (cap:Nat) (l:List G):Prop where
 row:CRow w ao l.length cap 4 (fun i=>gC (gat l i))
 each:∀g∈l,GIn w g
 many:l.length≤9223372036854775807
theorem GRow.below {w w':World}{ao:Option Addr}{cap:Nat}{l:List G}(h:GRow w ao cap l) (hb:Bl w w'):GRow w' ao cap l:=⟨h.row.below hb,fun g hg=>(h.each g hg).below hb,h.many⟩
theorem GRow.cells {w:World}{b off cap:Nat}{l:List G}(h:GRow w (some ⟨b,off,none⟩) cap l) {i:Nat}(hi:i<l.length) :
  w.cell? ⟨b,off+i*4,none⟩=some (.int .i64 (gat l i).port)∧w.cell? ⟨b,off+i*4+1,none⟩=some (.slice (gat l i).wo (gat l i).ways.length (gat l i).wcap)∧w.cell? ⟨b,off+i*4+2,none⟩=some (.int .i64 (gat l i).plain)∧w.cell? ⟨b,off+i*4+3,none⟩=some (.slice (gat l i).oo (gat l i).opens.length (gat l i).ocap):=by
 obtain⟨b',off',e,_,hc⟩:=h.row.2 (by omega);cases e
 exact⟨hc i hi 0 (by omega),hc i hi 1 (by omega),hc i hi 2 (by omega),hc i hi 3 (by omega)⟩
theorem GRow.place {w:World}{ao:Option Addr}{cap:Nat}{l:List G}(h:GRow w ao cap l) (hn:0<l.length):∃b off,ao=.some ⟨b,off,.none⟩∧b<w.heap.size:=by
 obtain⟨b,off,e,hb,_⟩:=h.row.2 hn;exact⟨b,off,e,hb⟩
theorem GRow.at {w:World}{ao:Option Addr}{cap:Nat}{l:List G}(h:GRow w ao cap l) {i:Nat}(hi:i<l.length):GIn w (gat l i):=h.each _ (Rl.gat_mem l i hi)
end
section
open Go.RowKit
open Rl (G gat)
def mkG (t:List Tr) (bridge vid:Int) (port plain:Int) (a b:Nat):G:=⟨port,plain,[vid],(List.range t.length).map (gopen t bridge port),some ⟨a,0,none⟩,1,some ⟨b,0,none⟩,t.length⟩
def gList (t:List Tr) (bridge vid:Int) (pf:Nat→Int) (fa fb:Nat→Nat):Nat→List G
 | 0=>[mkG t bridge vid 0 vid (fa 0) (fb 0)]
 | j+1=>gList t bridge vid pf fa fb j++[mkG t bridge vid (pf j) 0 (fa (j+1)) (fb (j+1))]
theorem gList_len (t:List Tr) (bridge vid:Int) (pf:Nat→Int) (fa fb:Nat→Nat):∀j,(gList t bridge vid pf fa fb j).length=j+1
 | 0=>rfl
 | j+1=>by
  show(gList t bridge vid pf fa fb j++[_]).length=j+1+1;rw[List.length_append,gList_len t bridge vid pf fa fb j];rfl
theorem gList_congr {t:List Tr}{bridge vid:Int}{pf:Nat→Int}{fa fb fa' fb':Nat→Nat}:∀j,(∀i,i≤j→fa i=fa' i∧fb i=fb' i)→gList t bridge vid pf fa fb j=gList t bridge vid pf fa' fb' j
 | 0,h=>by
  show [mkG t bridge vid 0 vid (fa 0) (fb 0)]=[mkG t bridge vid 0 vid (fa' 0) (fb' 0)]
  rw[(h 0 (Nat.le_refl _)).1,(h 0 (Nat.le_refl _)).2]
 | j+1,h=>by
  show gList t bridge vid pf fa fb j++[mkG t bridge vid (pf j) 0 (fa (j+1)) (fb (j+1))]=gList t bridge vid pf fa' fb' j++[mkG t bridge vid (pf j) 0 (fa' (j+1)) (fb' (j+1))]
  rw[gList_congr j (fun i hi=>h i (by omega)),(h (j+1) (Nat.le_refl _)).1,(h (j+1) (Nat.le_refl _)).2]
theorem gat_app {l:List G}{x:G}{i:Nat}(h:i<l.length):gat (l++[x]) i=gat l i:=by
 unfold gat;rw[List.getD_eq_getElem?_getD,List.getD_eq_getElem?_getD,List.getElem?_append_left h]
theorem gat_last {l:List G}{x:G}:gat (l++[x]) l.length=x:=by
 unfold gat;rw[List.getD_eq_getElem?_getD,List.getElem?_append_right (Nat.le_refl _),Nat.sub_self];rfl
theorem infoGate:(Tryz.prog.info? 238).map (fun i=>(i.zero,i.size,i.bytes))=some (some (.agg #[.int .i64 0,.slice none 0 0,.int .i64 0,.slice none 0 0]),4,64):=by kernel_rfl
theorem one_gate {W:World}{g:Nat}{x:G}{ty:TypeId}(h:W.heap[g]?=some (.cells (gA x) ty (0,0))):CRow W (some ⟨g,0,none⟩) 1 1 4 (fun _=>gC x):=by
 refine⟨Nat.le_refl _,fun _=>⟨g,0,rfl,(gSm.1 h).1,fun i hi j hj => ?_⟩⟩;obtain rfl:i=0:=by omega
 rcases(by omega:j=0∨j=1∨j=2∨j=3) with e | e | e | e<;>subst e<;>exact cell_of_row W g _ _ _ _ h
structure GtW (w W:World) (t:List Tr) (bridge vid:Int) (pf:Nat→Int) (fa fb:Nat→Nat) (v:Value) (j:Nat):Prop where
 own:W.ownsRow w.heap.size 238 4 v (j+1) (cellsL (j+1) 4 (fun i=>gC (gat (gList t bridge vid pf fa fb j) i)))
 ways:∀i,i≤j→W.heap[fa i]?=some (.cells #[.int .i64 vid] 3)
 opens:∀i,i≤j→OpAt W (fb i) t.length (gopen t bridge (if i=0 then 0 else pf (i-1)))
 low:Bl w W
theorem GtW.below {w W W':World}{t:List Tr}{bridge vid:Int}{pf:Nat→Int}{fa fb:Nat→Nat}{v:Value}{j:Nat}(h:GtW w W t bridge vid pf fa fb v j) (hb:Bl W W'):GtW w W' t bridge vid pf fa fb v j :=
 ⟨ownsC_below h.own hb,fun i hi=>keep (h.ways i hi) hb,fun i hi=>(h.opens i hi).below hb,h.low.trans (hb.mono h.low.size)⟩
theorem GtW.more {w W:World}{t:List Tr}{bridge vid:Int}{pf:Nat→Int}{fa fb:Nat→Nat}{v:Value}{j a b g:Nat}(h:GtW w W t bridge vid pf fa fb v j) (ha:W.heap[a]?=some (.cells #[.int .i64 vid] 3)) (hb:OpAt W b t.length (gopen t bridge (pf j)))
  (hg:W.heap[g]?=some (.cells #[.int .i64 (pf j),.slice (some ⟨a,0,none⟩) 1 1,.int .i64 0,.slice (some ⟨b,0,none⟩) t.length t.length] 238)) (hj:j≤1000) :
  ∃a1 c1 w',(Builtin.append_ #[193,193] 193 #[v,.slice (some ⟨g,0,none⟩) 1 1]).run Tryz.prog W=.ok (.slice a1 (j+1+1) c1) w'∧GtW w w' t bridge vid pf (fun i=>if i=j+1 then a else fa i) (fun i=>if i=j+1 then b else fb i) (.slice a1 (j+1+1) c1) (j+1):=by
 have hgA:W.heap[g]?=some (.cells (gA (mkG t bridge vid (pf j) 0 a b)) 238):=by
  rw[hg];unfold gA mkG;simp
 obtain⟨a1,c1,w',r,o,bl,q⟩:=append_c W 193 238 _ 4 64 Tryz.underlying193 infoGate rfl (by omega) w.heap.size v (j+1) _ h.own (some ⟨g,0,none⟩) 1 1 (fun _=>gC (mkG t bridge vid (pf j) 0 a b)) (fun _ _=>gC_one _ _) (one_gate hgA) (fun z=>by cases z) (by unfold maxLen;omega) (by omega) h.low.size;have hg2:gList t bridge vid pf (fun i=>if i=j+1 then a else fa i) (fun i=>if i=j+1 then b else fb i) (j+1)=gList t bridge vid pf fa fb j++[mkG t bridge vid (pf j) 0 a b]:=by
  show gList t bridge vid pf (fun i=>if i=j+1 then a else fa i) (fun i=>if i=j+1 then b else fb i) j++[mkG t bridge vid (pf j) 0 (if j+1=j+1 then a else fa (j+1)) (if j+1=j+1 then b else fb (j+1))]=_;rw[if_pos rfl,if_pos rfl,gList_congr (fa':=fa) (fb':=fb) j (fun i hi=>⟨by rw[if_neg (by omega)],by rw[if_neg (by omega)]⟩)]
 have hlen:=gList_len t bridge vid pf fa fb j;have other:∀{x:Nat}{cs:Array Value}{ty:TypeId},W.heap[x]?=some (.cells cs ty (0,0))→ty≠238→w'.heap[x]?=some (.cells cs ty (0,0)):=fun {x cs ty} hx hne=>(q x (gSm.1 hx).1 (fun hv=>by
  obtain⟨c2,h4⟩:=owns_type h.own hv.symm;exact hne (cells_type hx h4))).trans hx
 refine⟨a1,c1,w',r,?_,fun i hi => ?_,fun i hi => ?_,h.low.trans bl⟩
 ·rw[hg2];rw[cellsL_congr (j+1+1) 4 _ (fun i=>gC (gat (gList t bridge vid pf fa fb j++[mkG t bridge vid (pf j) 0 a b]) i)) (fun i hi=>by
   unfold catC;by_cases c:i<j+1
   ·rw[if_pos c,gat_app (by rw[hlen];exact c)]
   ·have e:i=(gList t bridge vid pf fa fb j).length:=(by omega)
    rw[if_neg c,e,gat_last])] at o
  exact o
 ·by_cases e:i=j+1
  ·simp only[if_pos e];exact other ha (by decide)
  ·simp only[if_neg e];exact other (h.ways i (by omega)) (by decide)
 ·by_cases e:i=j+1
  ·subst e;simp only[if_pos];rw[if_neg (by omega),show j+1-1=j by omega];exact other hb (by decide)
  ·simp only[if_neg e];exact other (h.opens i (by omega)) (by decide)
theorem GtW.row {w W:World}{t:List Tr}{bridge vid:Int}{pf:Nat→Int}{fa fb:Nat→Nat}{ao:Option Addr}{n cap j:Nat}(h:GtW w W t bridge vid pf fa fb (.slice ao n cap) j) (hj:j≤1000) (ht:t.length≤4):n=j+1∧GRow W ao cap (gList t bridge vid pf fa fb j):=by
 have hl:=gList_len t bridge vid pf fa fb j;obtain⟨e,hr⟩:=owns_cs (by omega) h.own;refine⟨e,by rw[hl];exact hr,?_,by omega⟩;have key:∀k,k≤j→∀x∈gList t bridge vid pf fa fb k,GIn W x:=by
  intro k;have mk:∀i,i≤j→∀p pl,(if i=0 then 0 else pf (i-1))=p→GIn W (mkG t bridge vid p pl (fa i) (fb i)):=fun i hi p pl hp=>by
   have h1:=h.ways i hi;have h2:=h.opens i hi;rw[hp] at h2;refine⟨⟨Nat.le_refl _,fun _=>⟨fa i,0,rfl,(gSm.1 h1).1,fun q hq m hm => ?_⟩⟩,?_,by show 1≤_;omega,by show((List.range t.length).map _).length≤_;simp;omega⟩
   ·obtain rfl:m=0:=by omega
    obtain rfl:q=0:=by have:q<1:=hq;omega
    exact cell_of_row W _ _ _ _ _ h1
   ·refine BLs.of ⟨Nat.le_refl _,fun _=>⟨fb i,0,rfl,(gSm.1 h2).1,fun q hq m hm => ?_⟩⟩;obtain rfl:m=0:=by omega
    have:=(h2.cell hq).1;rw[Nat.mul_one,Nat.add_zero,Nat.zero_add];exact this
  induction k with
  | zero =>
   intro hk x hx;obtain rfl:x=mkG t bridge vid 0 vid (fa 0) (fb 0):=by simpa[gList] using hx
   exact mk 0 (by omega) 0 vid rfl
  | succ k ih =>
   intro hk x hx;have hx:x∈gList t bridge vid pf fa fb k++[mkG t bridge vid (pf k) 0 (fa (k+1)) (fb (k+1))]:=hx;rw[List.mem_append,List.mem_singleton] at hx;rcases hx with hx | rfl
   ·exact ih (by omega) x hx
   ·exact mk (k+1) hk (pf k) 0 (by rw[if_neg (by omega),show k+1-1=k by omega])
 exact key j (Nat.le_refl _)
theorem jgates_any (oao:Option Addr) (ocap:Nat) (t:List Tr) (bridge:Int) (pao:Option Addr) (pn pcap:Nat) (pf:Nat→Int) (vid:Int) (w:World) (htr:TrRow w oao ocap t) (h4:t.length≤4) (hpr:IRow w pao pn pcap pf) (hpn:pn≤1000) :
  Calls Tryz.prog 101 #[.agg #[.slice oao t.length ocap],.int .i64 bridge,.slice pao pn pcap,.int .i64 vid] w fun e w'=>∃ao cap fa fb,e=.returned (.slice ao (gList t bridge vid pf fa fb pn).length cap)∧Hid (GRow w' ao cap (gList t bridge vid pf fa fb pn)∧Bl w w'):=by
 obtain⟨X,HX⟩:∃X,Hid (X=(w.alloc (.cells #[.slice oao t.length ocap] 43)).alloc (.cells #[.int .i64 bridge] 3)):=⟨_,rfl⟩
 have hXB:Bl w X:=(by rw[HX.out];exact bA2 _ _ _)
 have x0:X.heap[w.heap.size]?=some (.cells #[.slice oao t.length ocap] 43):=(by rw[HX.out];exact heap_alloc2_old _ _ _)
 have x1:X.heap[w.heap.size+1]?=some (.cells #[.int .i64 bridge] 3):=(by rw[HX.out];exact heap_alloc2_new _ _ _)
 have HOP:Hid (∀V,Bl X V→∀port,Calls Tryz.prog 143 #[.int .i64 port,.pointer (some ⟨w.heap.size,0,none⟩),.pointer (some ⟨w.heap.size+1,0,none⟩)] V fun e w'=>∃g,e=.returned (.slice (some ⟨g,0,none⟩) t.length t.length)∧Hid (V.heap.size≤g∧OpAt w' g t.length (gopen t bridge port)∧Bl V w')):=fun V hV port=>jopen_any port bridge _ _ oao ocap t V (keep x0 hV) (keep x1 hV) (htr.below (hXB.trans (hV.mono hXB.size))) h4;have HPR:Hid (∀V,Bl X V→IRow V pao pn pcap pf∧Bl w V):=fun V hV=>⟨CRow.below hpr (hXB.trans (hV.mono hXB.size)),hXB.trans (hV.mono hXB.size)⟩
 have hcap:=hpr.1;clear htr hpr x0 x1 hXB;go_enter Tryz.func101,Tryz.ntmps101;(go_wp2_with fail);obtain⟨A,HA⟩:∃A,Hid (A=X.alloc (.cells #[.int .i64 vid] 3)):=⟨_,rfl⟩
 have hAX:Bl X A:=(by rw[HA.out];exact bA1 _ _)
 have hXs:X.heap.size=w.heap.size+1+1:=(by rw[HX.out];simp)
 have hA0:A.heap[w.heap.size+1+1]?=some (.cells #[.int .i64 vid] 3):=(by rw[HA.out,←hXs];exact heap_alloc_last _ _)
 rw[←HX.out];rw[←HA.out];refine(HOP.out A hAX 0).mono ?_;rintro e w2 ⟨g,rfl,H2⟩;obtain⟨D,HD⟩:∃D,Hid (D=w2.alloc (.cells #[.int .i64 0,.slice (some ⟨w.heap.size+1+1,0,none⟩) 1 1,.int .i64 vid,.slice (some ⟨g,0,none⟩) t.length t.length] 238)):=⟨_,rfl⟩
 have hD2:Bl w2 D:=(by rw[HD.out];exact bA1 _ _)
 have hXw2:Bl X w2:=hAX.trans (H2.out.2.2.mono hAX.size);have H0:Hid (GtW X D t bridge vid pf (fun _=>w.heap.size+1+1) (fun _=>g) (.slice (some ⟨w2.heap.size,0,none⟩) 1 1) 0):=by
  have hXD:=hXw2.trans (hD2.mono hXw2.size);refine⟨?_,fun i hi => ?_,fun i hi => ?_,hXD⟩
  ·have hh:D.heap[w2.heap.size]?=some (.cells (rowS #[] 1 4 (fun i=>gC (gat (gList t bridge vid pf (fun _=>w.heap.size+1+1) (fun _=>g) 0) i))) 238):=by
    rw[HD.out,heap_alloc_last];congr 2
    unfold rowS rowC cellsL gC gat gList mkG;simp[List.range_succ]
   exact rowS_owns hXw2.size (Nat.le_refl _) (by unfold maxLen;omega) rfl hh
  ·exact keep (keep hA0 H2.out.2.2) hD2
  ·obtain rfl:i=0:=by omega
   exact(H2.out.2.1).below hD2
 clear hAX hA0 H2 hD2 hXw2;(go_wp2_with fail);rw[←HD.out];go_loopw [10,23] (fun s10 s23 wr=>∃(j:Nat) (fa fb:Nat→Nat) (v:Value),j≤pn∧s23=.int .i64 j∧v=s10∧Hid (GtW X wr t bridge vid pf fa fb v j)) (fun _ s23 _=>pn-(intOf s23).toNat)
 case atStart=>exact⟨0,_,_,_,by omega,rfl,rfl,H0⟩
 case round =>
  obtain⟨j,fa,fb,v,hj,rfl,rfl,hB⟩:=hrel;clear H0;by_cases hlt:j<pn
  ·have hi:(j:Int)<(pn:Int):=(by omega)
   have hi0:(0:Int)≤(j:Int):=(by omega)
   have hrow:=(HPR.out wr hB.out.low).1;obtain⟨pb,poff,ea,_⟩:=CRow.some hrow (by omega);subst ea;have c0:=IRow.cells hrow hlt;have wj:IntKind.i64.wrap ((j:Int)+1)=((j+1:Nat):Int):=(by rw[IntKind.wrap_i64];omega)
   obtain⟨A2,HA2⟩:∃A2,Hid (A2=wr.alloc (.cells #[.int .i64 vid] 3)):=⟨_,rfl⟩
   have hA2:Bl wr A2:=(by rw[HA2.out];exact bA1 _ _)
   have hA20:A2.heap[wr.heap.size]?=some (.cells #[.int .i64 vid] 3):=(by rw[HA2.out];exact heap_alloc_last _ _)
   have hXA2:Bl X A2:=hB.out.low.trans (hA2.mono hB.out.low.size);(go_wp2_with fail);rw[←HA2.out];refine(HOP.out A2 hXA2 (pf j)).mono ?_;rintro e w5 ⟨g5,rfl,H5⟩;obtain⟨D5,HD5⟩:∃D5,Hid (D5=w5.alloc (.cells #[.int .i64 (pf j),.slice (some ⟨wr.heap.size,0,none⟩) 1 1,.int .i64 0,.slice (some ⟨g5,0,none⟩) t.length t.length] 238)):=⟨_,rfl⟩
   have hD5:Bl w5 D5:=(by rw[HD5.out];exact bA1 _ _)
   have hDg:D5.heap[w5.heap.size]?=some (.cells #[.int .i64 (pf j),.slice (some ⟨wr.heap.size,0,none⟩) 1 1,.int .i64 0,.slice (some ⟨g5,0,none⟩) t.length t.length] 238):=(by rw[HD5.out];exact heap_alloc_last _ _)
   have hwD:Bl wr D5:=by
    have h:=hA2.trans (H5.out.2.2.mono hA2.size);exact h.trans (hD5.mono h.size)
   obtain⟨a1,c1,w6,r,hG6⟩:=(hB.out.below hwD).more (keep (keep hA20 H5.out.2.2) hD5) (H5.out.2.1.below hD5) hDg (by omega);have HR:Hid ((Builtin.append_ #[193,193] 193 #[v,.slice (some ⟨w5.heap.size,0,none⟩) 1 1]).run Tryz.prog (w5.alloc (.cells #[.int .i64 (pf j),.slice (some ⟨wr.heap.size,0,none⟩) 1 1,.int .i64 0,.slice (some ⟨g5,0,none⟩) t.length t.length] 238))=.ok (.slice a1 (j+1+1) c1) w6):=by
    have r':=r;rw[HD5.out] at r';exact r'
   have HN:Hid (GtW X w6 t bridge vid pf (fun i=>if i=j+1 then wr.heap.size else fa i) (fun i=>if i=j+1 then g5 else fb i) (.slice a1 (j+1+1) c1) (j+1)):=hG6;clear hB hrow hA2 hA20 hXA2 H5 hD5 hDg hwD r hG6 c0;go_wp2_with (at_builtin;refine wpList_append_run rfl (.tmp 27) (.tmp 35) 193 rfl _ _ _ rfl rfl HR.out ?_;clear HR)
   exact⟨⟨j+1,_,_,_,by omega,by go_num,rfl,HN⟩,by simp[intOf];omega⟩
  ·obtain rfl:j=pn:=by omega
   have hi:¬(j:Int)<(j:Int):=(by omega)
   obtain⟨a1,c1,e7,_⟩:=owns_c (by omega) hB.out.own;subst e7;obtain⟨_,hrow⟩:=hB.out.row (by omega) h4;have HF:Hid (GRow wr a1 c1 (gList t bridge vid pf fa fb j)∧Bl w wr):=⟨hrow,(HPR.out wr hB.out.low).2⟩
   have hl:=gList_len t bridge vid pf fa fb j;clear hB hrow HOP HPR;(go_wp2_with fail);go_ret;exact⟨a1,c1,fa,fb,by rw[hl];rfl,HF⟩
end
end Go.Proofs.YtflghpnpjmodaaaGreatDoor
