/- 'hedgetop.TopHello' returns true for every net, every number of trees, whatever is done and every bridge, and leaves it as it was: the row and its tied card. Conditions: none beyond the form's own (the tables lie as the program's text lays them: the card's tie). -/
import Derived.Test.YtflghpnpjmodaaaGreatDoorH32
import Derived.Test.YtflghpnpjmodaaaGreatDoorH35
import Derived.Test.YtflghpnpjmodaaaGreatDoorCards
import Derived.Test.YtflghpnpjmodaaaGreatDoorTie
import Derived.Test.YtflghpnpjmodaaaGreatDoorH24
set_option maxRecDepth 100000
set_option maxHeartbeats 40000000
namespace Go.Proofs.YtflghpnpjmodaaaGreatDoor
section
open Go.RowKit
open Vc (V Of)
open Pl (Br Net Pc Lk En St)
open Tk (Md Mnd Cn Sc Dn ten yes)
structure LineW (base:Nat) (W:World) (ls:Nat→Lk) (k L:Nat) (v5 v6:Value):Prop where
 brs:W.ownsRow base 58 5 v5 k (cellsL k 5 (fun i=>brC (bsL i)))
 lks:W.ownsRow base 83 6 v6 L (cellsL L 6 (fun j=>lkC (ls j)))
 apart:∀q,v5.ownBlock=some q→v6.ownBlock≠some q
theorem LineW.set {base g o:Nat}{x:Value}{W:World}{ls:Nat→Lk}{k L:Nat}{v5 v6:Value}(h:LineW base W ls k L v5 v6) (hg:g<base):LineW base (W.setCell ⟨g,o,none⟩ x) ls k L v5 v6:=by
 have hgs:W.grownBy (W.setCell ⟨g,o,none⟩ x) (some g):=by
  have bz:Below 0 W (W.setCell ⟨g,o,none⟩ x):=(Below.refl 0 W).setCell (Nat.zero_le _) _;exact⟨bz.os,bz.tape,bz.output,bz.size,fun q hq hne=>heap_setCell_other _ _ _ _ (by exact fun e=>hne (by rw[e]))⟩
 refine⟨h.brs.kept hgs ?_,h.lks.kept hgs ?_,h.apart⟩
 ·cases hv:v5.ownBlock with
  | none=>exact Or.inl rfl
  | some q=>exact Or.inr (fun e=>by have:=(oCb h.brs q hv).1;injection e with e;omega)
 ·cases hv:v6.ownBlock with
  | none=>exact Or.inl rfl
  | some q=>exact Or.inr (fun e=>by have:=(oCb h.lks q hv).1;injection e with e;omega)
theorem line_fin {w w1 W:World}{ls:Nat→Lk}{M R t s:Nat}{v5 v6:Value}(h:NetW w1 W bsL ls M t s v5 v6) (hR:W.heap[R]?=some (.cells #[.slice none 0 0,.slice none 0 0] 32)) (hlt:R<M) (hb:Below R w W) :
  ((W.setCell ⟨R,0,none⟩ v5).setCell ⟨R,1,none⟩ v6).heap[R]?=some (.cells #[v5,v6] 32)∧LineW (M+1) ((W.setCell ⟨R,0,none⟩ v5).setCell ⟨R,1,none⟩ v6) ls t s v5 v6∧Below R w ((W.setCell ⟨R,0,none⟩ v5).setCell ⟨R,1,none⟩ v6):=by
 refine⟨?_,?_,(hb.setCell (Nat.le_refl _) _).setCell (Nat.le_refl _) _⟩
 ·have h1:=set_at (i:=0) (v:=v5) hR;have h2:=set_at (i:=1) (v:=v6) h1;rw[h2];rfl
 ·have h0:LineW (M+1) W ls t s v5 v6:=⟨h.brs,h.lks,h.apart⟩
  exact(h0.set (by omega)).set (by omega)
theorem uticks_any (x:Int) (w:World):Calls Tryz.prog 16 #[.int .i64 x] w fun e w'=>e=.returned (.agg #[.int .i64 1,.int .i64 x,.int .i64 0,.int .i64 0])∧Bl w w':=by
 go_enter Tryz.func16,Tryz.ntmps16;(go_wp2_with fail);exact bodyPost_ret (v:=.agg #[.int .i64 1,.int .i64 x,.int .i64 0,.int .i64 0]) (results_row (p:=2) (ty:=47) Tryz.results16 _ _ w.heap.size 47 _ (0,0) _ rfl (heap_alloc_last _ _) Tryz.underlying47 rfl (by rw[sizeDo];rfl)) rfl ⟨rfl,bA1 _ _⟩
theorem uline_any (k:Nat) (ring:Bool) (w:World) (hk:k≤1000):Calls Tryz.prog 14 #[.int .i64 (k:Int),.bool ring] w fun e w'=>∃a5 c5 a6 c6,e=.returned (.agg #[.slice a5 k c5,.slice a6 (lnL k ring) c6])∧Hid (LineW (w.heap.size+2) w' (Pl.lnk k ten yes) k (lnL k ring) (.slice a5 k c5) (.slice a6 (lnL k ring) c6)∧Bl w w'):=by
 obtain⟨w1,Hw1⟩:∃w1,Hid (w1=w.alloc (.cells #[.slice none 0 0,.slice none 0 0] 32)):=⟨_,rfl⟩
 have h1B:Bl w w1:=(by rw[Hw1.out];exact bA1 _ _)
 have h1s:w1.heap.size=w.heap.size+1:=(by rw[Hw1.out];simp)
 have h1n:w1.heap[w.heap.size]?=some (.cells #[.slice none 0 0,.slice none 0 0] 32):=(by rw[Hw1.out];exact heap_alloc_last _ _)
 obtain⟨M,HM⟩:∃M,Hid (M=w.heap.size+1):=⟨_,rfl⟩
 obtain⟨X,HX⟩:∃X,Hid (X=w1.alloc (.cells #[.slice none 0 0,.slice none 0 0] 32)):=⟨_,rfl⟩
 have H0:Hid (NetW w1 X bsL (Pl.lnk k ten yes) M 0 (0-1) (.slice none 0 0) (.slice none 0 0)):=by
  have e:M=w1.heap.size:=(by rw[HM.out,h1s])
  rw[e,HX.out];exact⟨bA1 _ _,heap_alloc_last _ _,ownsC_nil _ _ _ _ _,ownsC_nil _ _ _ _ _,fun q hq=>by simp[Value.ownBlock] at hq⟩
 have HR:Hid (∀W,Below M w1 W→W.heap[w.heap.size]?=some (.cells #[.slice none 0 0,.slice none 0 0] 32)∧Bl w W):=fun W hW=>⟨(hW.block _ (by rw[HM.out];omega)).trans h1n,h1B.trans (hW.mono (by rw[HM.out];omega))⟩
 clear h1B h1n;go_enter Tryz.func14,Tryz.ntmps14;(go_wp2_with fail);rw[←Hw1.out,←HX.out];rw[←HM.out];go_loopw [8] (fun i wr=>∃(m:Nat) (v5 v6:Value),m≤k∧i=.int .i64 m∧Hid (NetW w1 wr bsL (Pl.lnk k ten yes) M m (m-1) v5 v6)) (fun i _=>k-(intOf i).toNat)
 case atStart=>exact⟨0,_,_,by omega,rfl,H0⟩
 case round =>
  obtain⟨m,v5,v6,hm,rfl,hN⟩:=hrel;clear H0;by_cases hlt:m<k
  ·have hi:(m:Int)<(k:Int):=(by omega)
   obtain⟨a1,c1,w2,hap,hlo2,hcell2,hfz2,hN2⟩:=net_br hN.out (by omega);have HAP:Hid ((Builtin.append_ #[29,29] 29 #[v5,.slice (some ⟨wr.heap.size,0,none⟩) 1 1]).run Tryz.prog (wr.alloc (.cells #[.int .u64 (10+(m:Int)),.slice none 0 0,.string ⟨#[114]⟩,.int .i64 0,.slice none 0 0] 58))=.ok (.slice a1 (m+1) c1) w2):=hap;obtain⟨g0,_⟩:=tC2 hN.out.box;have hMl:M<wr.heap.size:=(gSm.1 hN.out.box).1;have wa:IntKind.i64.wrap (10+(m:Int))=10+(m:Int):=(by rw[IntKind.wrap_i64];omega)
   have wb:IntKind.u64.wrap (10+(m:Int))=10+(m:Int):=(by rw[IntKind.wrap_u64];omega)
   have wc:IntKind.i64.wrap ((m:Int)+1)=(m:Int)+1:=(by rw[IntKind.wrap_i64];omega)
   have HN2:Hid (NetW w1 (w2.setCell ⟨M,0,none⟩ (.slice a1 (m+1) c1)) bsL (Pl.lnk k ten yes) M (m+1) (m-1) (.slice a1 (m+1) c1) v6):=hN2;clear hap hN hN2 hlo2;by_cases h0:m=0
   ·have HN0:Hid (NetW w1 (w2.setCell ⟨M,0,none⟩ (.slice a1 (m+1) c1)) bsL (Pl.lnk k ten yes) M (m+1) (m+1-1) (.slice a1 (m+1) c1) v6):=by
     have h:=HN2.out;rw[show m-1=m+1-1 by omega] at h;exact h
    have hneg:¬(0:Int)<(m:Int):=(by omega)
    have hnegN:¬0<m:=(by omega)
    clear h0 HN2;go_wp2_with (at_builtin;refine wpList_append_run rfl (.tmp 12) (.tmp 18) 29 rfl _ _ _ rfl rfl HAP.out ?_;clear HAP)
    exact⟨⟨m+1,_,_,by omega,by go_num,HN0⟩,by simp[intOf];omega⟩
   ·obtain⟨p,hp⟩:∃p,m=p+1:=⟨m-1,by omega⟩
    obtain⟨W3,HW3⟩:∃W3,Hid (W3=w2.setCell ⟨M,0,none⟩ (.slice a1 (m+1) c1)):=⟨_,rfl⟩
    have HN3:Hid (NetW w1 W3 bsL (Pl.lnk k ten yes) M (m+1) p (.slice a1 (m+1) c1) v6):=by
     have h:=HN2.out;rw[show m-1=p by omega] at h;rw[HW3.out];exact h
    obtain⟨a3,c3,w4,hap,hlo4,hcell4,hfz4,hN4⟩:=net_lk HN3.out (by omega);have HAL:Hid ((Builtin.append_ #[30,30] 30 #[v6,.slice (some ⟨w2.heap.size,0,none⟩) 1 1]).run Tryz.prog ((w2.setCell ⟨M,0,none⟩ (.slice a1 (m+1) c1)).alloc (.cells #[.int .i64 (p:Int),.int .i64 2,.int .i64 (m:Int),.int .i64 1,.int .i64 10,.bool true] 83))=.ok (.slice a3 (p+1) c3) w4):=by
     have e:lkA (Pl.lnk k ten yes p)=#[.int .i64 (p:Int),.int .i64 2,.int .i64 (m:Int),.int .i64 1,.int .i64 10,.bool true]:=by
      unfold Pl.lnk;rw[if_neg (by omega),hp];rfl
     have hs:W3.heap.size=w2.heap.size:=(by rw[HW3.out];simp)
     rw[e,hs,HW3.out] at hap;exact hap
    obtain⟨_,g3⟩:=tC2 HN3.out.box;have hMl3:M<W3.heap.size:=(gSm.1 HN3.out.box).1;have HN4:Hid (NetW w1 (w4.setCell ⟨M,1,none⟩ (.slice a3 (p+1) c3)) bsL (Pl.lnk k ten yes) M (m+1) (m+1-1) (.slice a1 (m+1) c1) (.slice a3 (p+1) c3)):=by
     rw[show m+1-1=p+1 by omega];exact hN4
    have wd:IntKind.i64.wrap ((m:Int)-1)=(p:Int):=(by rw[IntKind.wrap_i64];omega)
    have pos:(0:Int)<(m:Int):=(by omega)
    have posN:0<m:=(by omega)
    rw[HW3.out] at g3 hMl3;clear hap hN4 hlo4 HN3 HN2 hp h0;go_wp2_with (at_builtin;first | (refine wpList_append_run rfl (.tmp 12) (.tmp 18) 29 rfl _ _ _ rfl rfl HAP.out ?_;clear HAP) | (refine wpList_append_run rfl (.tmp 24) (.tmp 29) 30 rfl _ _ _ rfl rfl HAL.out ?_;clear HAL))
    exact⟨⟨m+1,_,_,by omega,by go_num,HN4⟩,by simp[intOf];omega⟩
  ·obtain rfl:m=k:=by omega
   have hi:¬(m:Int)<(m:Int):=(by omega)
   obtain⟨a5,c5,e5,_⟩:=owns_c (by omega) hN.out.brs;obtain⟨a6,c6,e6,_⟩:=owns_c (by omega) hN.out.lks;subst e5;subst e6;have hMl:M<wr.heap.size:=(gSm.1 hN.out.box).1;by_cases hr:ring=true∧2<m
   ·obtain⟨rfl,h2⟩:=hr;obtain⟨p,hp⟩:∃p,m=p+1:=⟨m-1,by omega⟩
    have HN3:Hid (NetW w1 wr bsL (Pl.lnk m ten yes) M m p (.slice a5 m c5) (.slice a6 (m-1) c6)):=by
     have h:=hN.out;rw[show m-1=p by omega] at h ⊢;exact h
    obtain⟨a3,c3,w4,hap,hlo4,hcell4,hfz4,hN4⟩:=net_lk HN3.out (by omega);have HAL:Hid ((Builtin.append_ #[30,30] 30 #[.slice a6 (m-1) c6,.slice (some ⟨wr.heap.size,0,none⟩) 1 1]).run Tryz.prog (wr.alloc (.cells #[.int .i64 (p:Int),.int .i64 2,.int .i64 0,.int .i64 1,.int .i64 10,.bool true] 83))=.ok (.slice a3 m c3) w4):=by
     have e:lkA (Pl.lnk m ten yes p)=#[.int .i64 (p:Int),.int .i64 2,.int .i64 0,.int .i64 1,.int .i64 10,.bool true]:=by
      unfold Pl.lnk;rw[if_pos hp.symm];rfl
     rw[e,←hp] at hap;exact hap
    obtain⟨_,g3⟩:=tC2 HN3.out.box;have wd:IntKind.i64.wrap ((m:Int)-1)=(p:Int):=(by rw[IntKind.wrap_i64];omega)
    have h2i:(2:Int)<(m:Int):=(by omega)
    obtain⟨W5,HW5⟩:∃W5,Hid (W5=w4.setCell ⟨M,1,none⟩ (.slice a3 m c3)):=⟨_,rfl⟩
    have HN5:Hid (NetW w1 W5 bsL (Pl.lnk m ten yes) M m m (.slice a5 m c5) (.slice a3 m c3)):=by
     rw[HW5.out];have h:=hN4;rw[←hp] at h;exact h
    rw[←hp] at hN4;obtain⟨r5,b5⟩:=HR.out W5 HN5.out.low;obtain⟨r0,r1⟩:=tC2 r5;have f0:=lF0 r5 0;have f1:=lF0 r5 1;obtain⟨m0,m1⟩:=tC2 HN5.out.box;have HF:Hid _:=line_fin HN5.out r5 (by rw[HM.out];omega) b5;have hl:lnL m true=m:=(by unfold lnL;rw[if_pos ⟨rfl,h2⟩])
    rw[HW5.out] at r0 r1 f0 f1 m0 m1 HF;clear hap hN4 hlo4 HN3 hN HR r5 b5 hp HN5;go_wp2_with (at_builtin;refine wpList_append_run rfl (.tmp 39) (.tmp 43) 30 rfl _ _ _ rfl rfl HAL.out ?_;clear HAL)
    obtain⟨y1,y2,y3⟩:=HF.out;exact bodyPost_ret (v:=.agg #[.slice a5 m c5,.slice a3 m c3]) (results_row (p:=4) (ty:=32) Tryz.results14 _ _ w.heap.size 32 _ (0,0) _ rfl y1 Tryz.underlying32 rfl (by rw[sizeNet];rfl)) rfl ⟨_,_,_,_,rfl,(by have e:M+1=w.heap.size+2:=by { rw[HM.out] };rw[←e];exact⟨y2,y3⟩)⟩
   ·have HN5:Hid (NetW w1 wr bsL (Pl.lnk m ten yes) M m (m-1) (.slice a5 m c5) (.slice a6 (m-1) c6)):=hN.out;obtain⟨r5,b5⟩:=HR.out wr HN5.out.low;obtain⟨r0,r1⟩:=tC2 r5;have f0:=lF0 r5 0;have f1:=lF0 r5 1;obtain⟨m0,m1⟩:=tC2 HN5.out.box;have HF:Hid _:=line_fin HN5.out r5 (by rw[HM.out];omega) b5;have hl:lnL m ring=m-1:=(by unfold lnL;rw[if_neg hr])
    clear hN HR r5 b5;have key:ring=false∨(ring=true∧¬(2:Int)<(m:Int)):=by
     cases ring with
     | false=>exact Or.inl rfl
     | true=>exact Or.inr ⟨rfl,fun z=>hr ⟨rfl,by omega⟩⟩
    rcases key with rfl | ⟨rfl,h2⟩
    ·(go_wp2_with fail);obtain⟨y1,y2,y3⟩:=HF.out;exact bodyPost_ret (v:=.agg #[.slice a5 m c5,.slice a6 (m-1) c6]) (results_row (p:=4) (ty:=32) Tryz.results14 _ _ w.heap.size 32 _ (0,0) _ rfl y1 Tryz.underlying32 rfl (by rw[sizeNet];rfl)) rfl ⟨_,_,_,_,rfl,(by have e:M+1=w.heap.size+2:=by { rw[HM.out] };rw[←e];exact⟨y2,y3⟩)⟩
    ·(go_wp2_with fail);obtain⟨y1,y2,y3⟩:=HF.out;exact bodyPost_ret (v:=.agg #[.slice a5 m c5,.slice a6 (m-1) c6]) (results_row (p:=4) (ty:=32) Tryz.results14 _ _ w.heap.size 32 _ (0,0) _ rfl y1 Tryz.underlying32 rfl (by rw[sizeNet];rfl)) rfl ⟨_,_,_,_,rfl,(by have e:M+1=w.heap.size+2:=by { rw[HM.out] };rw[←e];exact⟨y2,y3⟩)⟩
end
section
open Go.RowKit
open Vc (V Of)
open Pl (Br Net Pc Lk En St ringE lineE ringId)
open Tk (Md Mnd Cn Sc Dn ten yes)
theorem sn_links {W:World}{n:Net}{T:Nat}{s:Sc}{n':Net}{oa:Option Addr}{oc:Nat}{t':List Tr}(h:SnOut W n T s n' oa oc t'):n'.ls=s.ls:=congrArg Sc.ls h.sc
section
variable {k:Nat}{cst:Nat→Int}{a5:Option Addr}{c5:Nat}{a6:Option Addr}{c6:Nat}
theorem ring_opens {W:World}{n':Net}{oa:Option Addr}{oc:Nat}{t':List Tr}{x:Int}(hx:83≤x) (h:SnOut W (netL k true cst a5 c5 a6 c6) 1 (((netL k true cst a5 c5 a6 c6).sc (startMs (netL k true cst a5 c5 a6 c6))).all (netL k true cst a5 c5 a6 c6).cn (tk1 x) 1) n' oa oc t') (hk:3≤k∧k≤12) (hc:∀j,j<k→1≤cst j∧cst j≤200000) {i j:Nat}(hi:i<k) (hj:j<2) :
  opT t' 0 i ((j:Int)+1)=Tk.onR k cst yes (Pl.ringAll k cst yes) i j:=by
 have hO:=fun hj=>sn_opens (j:=j) (k:=0) h (netL_wf hk.2) (netL_right hk.2 hc) (fun k hk=>absurd hk (by omega)) (by omega) (by omega) (show i<(netL k true cst a5 c5 a6 c6).K from hi) hj;obtain⟨e1,_,e3,e4⟩:=sn_net h;have e1:n'.K=k:=e1;rw[tk1_all] at e3 e4;have e3:n'.ends=(netL k true cst a5 c5 a6 c6).ends:=by
  rw[e3];show((netL k true cst a5 c5 a6 c6).sc (startMs (netL k true cst a5 c5 a6 c6))).E _=_;rw[Pl.Net.sc_E]
 have e4:n'.ids ((0:Nat):Int)=ringId:=by
  rw[e4];funext q
  show((netL k true cst a5 c5 a6 c6).sc (startMs (netL k true cst a5 c5 a6 c6))).ids _ _ q=_;rw[net_ids,netL_ids]
 have hE:n'.ends i=ringE k cst yes i:=(by rw[e3];exact netL_ring hk.1 hc hi)
 have hlen:(ringE k cst yes i).length=2:=rfl;have hO:=hO (by rw[hE,hlen];exact hj);rw[e4,e1,hE] at hO;have hf:∀q,q<k→Pl.rounds ringId n'.ends k k q=Pl.sat (Pl.ringAll k cst yes) q:=fun q hq=>by
  rw[e3];exact(Pl.finL_by (fun i hi=>netL_ring hk.1 hc hi) (Pl.ringE_in hk.1 cst yes) hq).symm
 have hoffs:Pl.offs (ringE k cst yes i) (Pl.rounds ringId n'.ends k k)=Pl.offs (ringE k cst yes i) (Pl.sat (Pl.ringAll k cst yes)):=Pl.offs_congr (fun e he _=>by rw[hf _ (Pl.ringE_in hk.1 cst yes i hi e he)]);rw[hf i hi,hoffs] at hO;have hp:(EL (ringE k cst yes i) j).port=(j:Int)+1:=by
  rcases(by omega:j=0∨j=1) with e | e<;>subst e<;>rfl
 rw[hp] at hO;have hO:opT t' 0 i ((j:Int)+1)=_:=hO;rw[hO];have hr:(Pl.rolesL k cst yes (Pl.ringAll k cst yes) i).getD j 0=Pl.roleAt (Pl.sat (Pl.ringAll k cst yes) i) (Pl.offs (ringE k cst yes i) (Pl.sat (Pl.ringAll k cst yes))) (EL (ringE k cst yes i) j):=by
  unfold Pl.rolesL;exact Tk.map_getD _ _ (EL_get (by rw[hlen];exact hj))
 unfold Tk.onR;simp only[hr];rw[Bool.decide_or]
theorem tick_links {W:World}{n:Net}{n':Net}{oa:Option Addr}{oc:Nat}{t':List Tr}{x:Int}{T:Nat}(h:SnOut W n T ((n.sc (startMs n)).all n.cn (tk1 x) 1) n' oa oc t'):n'.ls=n.ls∧n'.K=n.K∧n'.L=n.L:=by
 obtain⟨e1,e2,_,_⟩:=sn_net h;have:=sn_links h;rw[tk1_all] at this;exact⟨this,e1,e2⟩
end
theorem three_at:(Tk.onR 3 ten yes (Pl.ringAll 3 ten yes) 0 1&&Tk.onR 3 ten yes (Pl.ringAll 3 ten yes) 1 0)=true∧(Tk.onR 3 ten yes (Pl.ringAll 3 ten yes) 1 1&&Tk.onR 3 ten yes (Pl.ringAll 3 ten yes) 2 0)=false∧(Tk.onR 3 ten yes (Pl.ringAll 3 ten yes) 2 1&&Tk.onR 3 ten yes (Pl.ringAll 3 ten yes) 0 0)=true:=by decide +kernel
theorem pl_ok {n:Net}{ds:Nat→Dn}{dn:Nat}(hw:n.wrong.1=0) (hdn:dn≤30) (he:∀q,q<dn→Tk.errOf n.cn (ds q)=0):(plErr n 1 ds dn).1=0:=by
 have e:stErr n 1=(0,0):=by
  unfold stErr;rw[if_neg (fun z=>z hw),if_neg (fun z=>z (by omega))]
 unfold plErr;rw[e,if_neg (fun z=>z rfl),if_neg (by omega)];show(Pl.firstTo (fun q=>Tk.errOf n.cn (ds q)) dn).1=0;rw[Pl.firstTo_all _ _ he]
theorem errTick {c:Cn}{x:Int}(hx:0≤x∧x≤200):Tk.errOf c (tickD x)=0:=by
 unfold Tk.errOf tickD;simp only[if_pos];rw[if_pos hx]
theorem LineW.at {base:Nat}{W:World}{cst:Nat→Int}{k L:Nat}{ring:Bool}{a5:Option Addr}{c5:Nat}{a6:Option Addr}{c6:Nat}(h:LineW base W (Pl.lnk k cst yes) k L (.slice a5 k c5) (.slice a6 L c6)) (hL:L=lnL k ring) (hk:k≤1000):(netL k ring cst a5 c5 a6 c6).at' W:=by
 subst hL;have h1:=(owns_cs (by omega) h.brs).2;have h2:=(owns_cs (by omega) h.lks).2;have hl:lnL k ring≤1000:=(by unfold lnL;split<;>omega)
 exact⟨h1,fun i _=>⟨CRow.none _ _ _ _ _,⟨Nat.le_refl _,fun q=>absurd q (Nat.lt_irrefl 0)⟩,Nat.zero_le _,Nat.zero_le _⟩,h2,show k≤9223372036854775807 by omega,show lnL k ring≤9223372036854775807 by omega⟩
section
variable {k:Nat}{ring:Bool}{cst:Nat→Int}{a5:Option Addr}{c5:Nat}{a6:Option Addr}{c6:Nat}
theorem uplay_any (hk:k≤12) (hc:∀j,j<k→1≤cst j∧cst j≤200000) (dao:Option Addr) (dn dcap:Nat) (ds:Nat→Dn) (X:World) (hat:(netL k ring cst a5 c5 a6 c6).at' X) (hds:DRow X dao dn dcap ds) (hdn:dn≤30) (he:∀q,q<dn→Tk.errOf (netL k ring cst a5 c5 a6 c6).cn (ds q)=0) (ht:Tabs X) (hbt:2≤X.heap.size) :
  Calls Tryz.prog 15 #[.agg #[.slice a5 k c5,.slice a6 (lnL k ring) c6],.int .i64 1,.slice dao dn dcap] X fun e w'=>∃(n':Net) (ob off oc:Nat) (t':List Tr),e=.returned (.tuple #[.agg #[.slice n'.bao k n'.bcap,.slice n'.lao (lnL k ring) n'.lcap],.agg #[.slice (some ⟨ob,off,none⟩) 1 oc],.agg #[.int .i64 0,.int .i64 0]])∧1≤oc∧Hid (Bl X w'∧SnOut w' (netL k ring cst a5 c5 a6 c6) 1 (((netL k ring cst a5 c5 a6 c6).sc (startMs (netL k ring cst a5 c5 a6 c6))).all (netL k ring cst a5 c5 a6 c6).cn ds dn) n' (some ⟨ob,off,none⟩) oc t'):=by
 have hw:=netL_right (ring:=ring) (a5:=a5) (c5:=c5) (a6:=a6) (c6:=c6) hk hc;have h0:=pl_ok (ds:=ds) (dn:=dn) hw hdn he;refine(tplay_any (netL k ring cst a5 c5 a6 c6) 1 dao dn dcap ds X (netL_wf hk) hat (by omega) hds ht hbt).mono ?_;rintro e w' ⟨z1,⟨z2,_⟩ | ⟨_,n',oao,ocap,t',rfl,bb,_,z3⟩⟩
 ·exact absurd h0 z2
 ·have hS:=z3.here;have tl:t'.length=1:=hS.len;obtain⟨ob,off,rfl,_⟩:=hS.row.place (by omega);have oc1:=hS.row.row.1;obtain⟨eK,eL,_⟩:=sn_net hS;have eK:n'.K=k:=eK;have eL:n'.L=lnL k ring:=eL;refine⟨n',ob,off,ocap,t',?_,by omega,z1,hS⟩;unfold Pl.Net.val;rw[eK,eL,tl]
end
theorem z3_1 (w:World) (o1 o2 o3:Obj):(((w.alloc o1).alloc o2).alloc o3).heap[w.heap.size+1]?=some o2:=keep (heap_alloc2_new w o1 o2) (bA1 _ _)
theorem z3_2 (w:World) (o1 o2 o3:Obj):(((w.alloc o1).alloc o2).alloc o3).heap[w.heap.size+1+1]?=some o3:=by
 have h:=heap_alloc_last ((w.alloc o1).alloc o2) o3;have e:((w.alloc o1).alloc o2).heap.size=w.heap.size+1+1:=(by simp)
 rw[e] at h;exact h
def linkOn (k:Nat) (cst:Nat→Int) (j:Nat):Bool:=Tk.onR k cst yes (Pl.ringAll k cst yes) j 1&&Tk.onR k cst yes (Pl.ringAll k cst yes) (Tk.nxt k j) 0
def cntOn (k:Nat) (cst:Nat→Int):Nat→Nat
 | 0=>0
 | j+1=>cntOn k cst j+(if linkOn k cst j=true then 1 else 0)
theorem cntOn_le (k:Nat) (cst:Nat→Int):∀j,cntOn k cst j≤j
 | 0=>Nat.le_refl _
 | j+1=>by
  have:=cntOn_le k cst j;show cntOn k cst j+(if linkOn k cst j=true then 1 else 0)≤j+1;split<;>omega
theorem three_cnt:cntOn 3 ten 3=2:=by
 obtain⟨h0,h1,h2⟩:=three_at;have e0:linkOn 3 ten 0=true:=h0;have e1:linkOn 3 ten 1=false:=h1;have e2:linkOn 3 ten 2=true:=h2;show 0+(if linkOn 3 ten 0=true then 1 else 0)+(if linkOn 3 ten 1=true then 1 else 0)+(if linkOn 3 ten 2=true then 1 else 0)=2;rw[e0,e1,e2];rfl
theorem ualive_any (w:World) (ht:Tabs w) (hbt:2≤w.heap.size):Calls Tryz.prog 12 #[] w fun e w'=>e=.returned (.bool true)∧Bl w w':=by
 have HT:Hid (∀V,Bl w V→Tabs V∧2≤V.heap.size):=fun V hV=>⟨ht.below hV hbt,Nat.le_trans hbt hV.size⟩
 clear ht hbt;have HLN:Hid (Calls Tryz.prog 14 #[.int .i64 3,.bool true] w fun e w'=>∃a5 c5 a6 c6,e=.returned (.agg #[.slice a5 3 c5,.slice a6 3 c6])∧Hid (LineW (w.heap.size+2) w' (Pl.lnk 3 ten yes) 3 3 (.slice a5 3 c5) (.slice a6 3 c6)∧Bl w w')):=uline_any 3 true w (by omega);go_enter Tryz.func12,Tryz.ntmps12;(go_wp2_with fail);refine HLN.out.mono ?_;rintro e w1 ⟨a5,c5,a6,c6,rfl,H1⟩;clear HLN;(go_wp2_with fail);refine(uticks_any 90 _).mono ?_;rintro e w2 ⟨rfl,hb2⟩;obtain⟨X,HX⟩:∃X,Hid (X=w2.alloc (.cells #[.int .i64 1,.int .i64 90,.int .i64 0,.int .i64 0] 47)):=⟨_,rfl⟩
 have hX2:Bl w2 X:=(by rw[HX.out];exact bA1 _ _)
 have hXd:DRow X (some ⟨w2.heap.size,0,none⟩) 1 1 (tk1 90):=by
  have:=one_do (w:=X) (g:=w2.heap.size) (d:=tickD 90) (ty:=47) (by rw[HX.out];exact heap_alloc_last _ _);rw[show tk1 90=fun _=>tickD 90 from funext (tk1_eq 90)];exact this
 have h12:=hb2.trans (hX2.mono hb2.size);have h0X:=H1.out.2.trans (h12.mono H1.out.2.size);have HP:Hid (Calls Tryz.prog 15 #[.agg #[.slice a5 3 c5,.slice a6 3 c6],.int .i64 1,.slice (some ⟨w2.heap.size,0,none⟩) 1 1] X fun e w'=>∃(n':Net) (ob off oc:Nat) (t':List Tr),e=.returned (.tuple #[.agg #[.slice n'.bao 3 n'.bcap,.slice n'.lao 3 n'.lcap],.agg #[.slice (some ⟨ob,off,none⟩) 1 oc],.agg #[.int .i64 0,.int .i64 0]])∧1≤oc∧Hid (Bl X w'∧SnOut w' (netL 3 true ten a5 c5 a6 c6) 1 (((netL 3 true ten a5 c5 a6 c6).sc (startMs (netL 3 true ten a5 c5 a6 c6))).all (netL 3 true ten a5 c5 a6 c6).cn (tk1 90) 1) n' (some ⟨ob,off,none⟩) oc t')) :=
  uplay_any (k:=3) (ring:=true) (cst:=ten) (by omega) ten_ok _ 1 1 (tk1 90) X ((H1.out.1.at (ring:=true) rfl (by omega)).below h12) hXd (by omega) (fun q hq=>by rw[tk1_eq];exact errTick (by omega)) (HT.out X h0X).1 (HT.out X h0X).2
 have H0X:Hid (Bl w X):=h0X;clear H1 hb2 hX2 hXd h12 h0X HT;(go_wp2_with fail);rw[←HX.out];refine HP.out.mono ?_;rintro e w3 ⟨n',ob,off,oc,t',rfl,hoc,H3⟩;clear HP;obtain⟨Z,HZ⟩:∃Z,Hid (Z=((w3.alloc (.cells #[.slice n'.bao 3 n'.bcap,.slice n'.lao 3 n'.lcap] 32)).alloc (.cells #[.slice (some ⟨ob,off,none⟩) 1 oc] 43)).alloc (.cells #[.int .i64 0,.int .i64 0] 26)):=⟨_,rfl⟩
 have hZ3:Bl w3 Z:=(by rw[HZ.out];exact(bA2 _ _ _).alloc (by simp;omega) _)
 have HB:Hid (Bl w Z):=by
  have:=H0X.out.trans (H3.out.1.mono H0X.out.size);exact this.trans (hZ3.mono this.size)
 obtain⟨G,HG⟩:∃G,Hid (G=w3.heap.size):=⟨_,rfl⟩
 have hZt:Z.heap[G+1]?=some (.cells #[.slice (some ⟨ob,off,none⟩) 1 oc] 43):=(by rw[HZ.out,HG.out];exact z3_1 _ _ _ _)
 have hZf:Z.heap[G+1+1]?=some (.cells #[.int .i64 0,.int .i64 0] 26):=(by rw[HZ.out,HG.out];exact z3_2 _ _ _ _)
 have HS:Hid (∀W,Bl Z W→LRow W n'.lao 3 n'.lcap (Pl.lnk 3 ten yes)∧TrRow W (some ⟨ob,off,none⟩) oc t'∧t'.length=1∧W.heap[G+1]?=some (.cells #[.slice (some ⟨ob,off,none⟩) 1 oc] 43)∧W.heap[G+1+1]?=some (.cells #[.int .i64 0,.int .i64 0] 26)∧(∀i j:Nat,i<3→j<2→opT t' 0 i ((j:Int)+1)=Tk.onR 3 ten yes (Pl.ringAll 3 ten yes) i j)∧Bl w W):=fun W hW=>by
  have hS:=H3.out.2.below (hZ3.trans (hW.mono hZ3.size));obtain⟨e1,e2,e3⟩:=tick_links H3.out.2;have r:=hS.net.lks;rw[e1,e3] at r;exact⟨r,hS.row,hS.len,keep hZt hW,keep hZf hW,fun i j hi hj=>ring_opens (by omega) H3.out.2 (by omega) ten_ok hi hj,HB.out.trans (hW.mono HB.out.size)⟩
 have hlc:3≤n'.lcap:=(HS.out Z (Below.refl _ _)).1.1;obtain⟨lb,loff,elao,_⟩:=CRow.some (HS.out Z (Below.refl _ _)).1 (by omega);rw[elao] at HZ ⊢;rw[elao] at HS;clear hZ3 H3 hZt hZf HB H0X elao;(go_wp2_with fail);rw[←HZ.out];rw[←HG.out];go_loopw [4,18] (fun s4 s18 wr=>∃j:Nat,j≤3∧s18=.int .i64 j∧s4=.int .i64 (cntOn 3 ten j)∧Hid (Bl Z wr)) (fun _ s18 _=>3-(intOf s18).toNat)
 case atStart=>exact⟨0,by omega,rfl,rfl,Below.refl _ _⟩
 case round =>
  obtain⟨j,hj,rfl,rfl,hB⟩:=hrel;by_cases hlt:j<3
  ·have hi:(j:Int)<3:=(by omega)
   have hi0:(0:Int)≤(j:Int):=(by omega)
   obtain⟨r0,r1,r2,r3,r4,r5,r6⟩:=HS.out wr hB.out;obtain⟨q0,q1,q2,q3,q4,q5⟩:=LRow.cells r0 hlt;have c0:wr.cell? ⟨lb,loff+j*6,none⟩=some (.int .i64 (j:Int)):=q0;have c1:wr.cell? ⟨lb,loff+j*6+1,none⟩=some (.int .i64 2):=q1;have c2:wr.cell? ⟨lb,loff+j*6+2,none⟩=some (.int .i64 ((Tk.nxt 3 j:Nat):Int)):=q2;have c3:wr.cell? ⟨lb,loff+j*6+3,none⟩=some (.int .i64 1):=q3;have c4:wr.cell? ⟨lb,loff+j*6+4,none⟩=some (.int .i64 10):=q4;have c5:wr.cell? ⟨lb,loff+j*6+5,none⟩=some (.bool true):=q5;obtain⟨Y,HY⟩:∃Y,Hid (Y=wr.alloc (.cells #[.int .i64 (j:Int),.int .i64 2,.int .i64 ((Tk.nxt 3 j:Nat):Int),.int .i64 1,.int .i64 10,.bool true] 83)):=⟨_,rfl⟩
   have hYB:Bl wr Y:=(by rw[HY.out];exact bA1 _ _)
   have hYx:Y.heap[wr.heap.size]?=some (.cells #[.int .i64 (j:Int),.int .i64 2,.int .i64 ((Tk.nxt 3 j:Nat):Int),.int .i64 1,.int .i64 10,.bool true] 83):=(by rw[HY.out];exact heap_alloc_last _ _)
   have hZY:Bl Z Y:=hB.out.trans (hYB.mono hB.out.size);have d0:=one_cell (HS.out Y hZY).2.2.2.1;rw[HY.out] at d0;have hnx:Tk.nxt 3 j<3:=(by unfold Tk.nxt;split<;>omega)
   have HO1:Hid (Calls Tryz.prog 27 #[.agg #[.slice (some ⟨ob,off,none⟩) 1 oc],.int .i64 0,.int .i64 (j:Int),.int .i64 2] Y fun e w'=>e=.returned (.bool (Tk.onR 3 ten yes (Pl.ringAll 3 ten yes) j 1))∧Bl Y w'):=by
    obtain⟨_,x1,x2,_⟩:=HS.out Y hZY;have h:=topens_any (some ⟨ob,off,none⟩) oc t' 0 (j:Int) 2 Y x1;have e1:opT t' 0 (j:Int) 2=Tk.onR 3 ten yes (Pl.ringAll 3 ten yes) j 1:=r5 j 1 hlt (by omega);rw[x2,e1] at h;exact h
   have HO2:Hid (∀V,Bl Y V→(V.cell? ⟨G+1,0,none⟩=some (.slice (some ⟨ob,off,none⟩) 1 oc)∧V.cell? ⟨wr.heap.size,2,none⟩=some (.int .i64 ((Tk.nxt 3 j:Nat):Int))∧V.cell? ⟨wr.heap.size,3,none⟩=some (.int .i64 1))∧Bl Z V∧Calls Tryz.prog 27 #[.agg #[.slice (some ⟨ob,off,none⟩) 1 oc],.int .i64 0,.int .i64 ((Tk.nxt 3 j:Nat):Int),.int .i64 1] V fun e w'=>e=.returned (.bool (Tk.onR 3 ten yes (Pl.ringAll 3 ten yes) (Tk.nxt 3 j) 0))∧Bl V w'):=fun V hV=>by
    have hZV:=hZY.trans (hV.mono hZY.size);obtain⟨_,x1,x2,x3,_⟩:=HS.out V hZV;have h:=topens_any (some ⟨ob,off,none⟩) oc t' 0 ((Tk.nxt 3 j:Nat):Int) 1 V x1;have e1:opT t' 0 ((Tk.nxt 3 j:Nat):Int) 1=Tk.onR 3 ten yes (Pl.ringAll 3 ten yes) (Tk.nxt 3 j) 0:=r5 (Tk.nxt 3 j) 0 hnx (by omega);rw[x2,e1] at h;obtain⟨_,_,k2,k3,_⟩:=lk_cells (keep hYx hV);exact⟨⟨one_cell x3,k2,k3⟩,hZV,h⟩
   have HCN:Hid (cntOn 3 ten (j+1)=cntOn 3 ten j+(if (Tk.onR 3 ten yes (Pl.ringAll 3 ten yes) j 1&&Tk.onR 3 ten yes (Pl.ringAll 3 ten yes) (Tk.nxt 3 j) 0)=true then 1 else 0)):=rfl;have hcl:=cntOn_le 3 ten j;have wc:IntKind.i64.wrap ((cntOn 3 ten j:Int)+1)=((cntOn 3 ten j+1:Nat):Int):=(by rw[IntKind.wrap_i64];omega)
   have wj:IntKind.i64.wrap ((j:Int)+1)=((j+1:Nat):Int):=(by rw[IntKind.wrap_i64];omega)
   clear r0 r1 r2 r3 r4 r5 r6 q0 q1 q2 q3 q4 q5 hYB hYx hZY hnx hB;generalize Tk.onR 3 ten yes (Pl.ringAll 3 ten yes) j 1=o1 at *;generalize Tk.onR 3 ten yes (Pl.ringAll 3 ten yes) (Tk.nxt 3 j) 0=o2 at *;(go_wp2_with fail);rw[←HY.out];refine HO1.out.mono ?_;rintro e w4 ⟨rfl,hb4⟩;obtain⟨⟨d1,d2,d3⟩,hZ4,hO⟩:=HO2.out w4 hb4;have HZ4:Hid (Bl Z w4):=hZ4;have HO:Hid (Calls Tryz.prog 27 #[.agg #[.slice (some ⟨ob,off,none⟩) 1 oc],.int .i64 0,.int .i64 ((Tk.nxt 3 j:Nat):Int),.int .i64 1] w4 fun e w'=>e=.returned (.bool o2)∧Bl w4 w'):=hO;clear HO1 HO2 hZ4 hO hb4;cases o1 with
   | false =>
    have e:cntOn 3 ten (j+1)=cntOn 3 ten j:=(by rw[HCN.out];simp)
    (go_wp2_with fail);exact⟨⟨j+1,by omega,by go_num,by rw[e],HZ4⟩,by simp[intOf];omega⟩
   | true =>
    (go_wp2_with fail);refine HO.out.mono ?_;rintro e w5 ⟨rfl,hb5⟩;have HZ5:Hid (Bl Z w5):=HZ4.out.trans (hb5.mono HZ4.out.size);cases o2 with
    | false =>
     have e:cntOn 3 ten (j+1)=cntOn 3 ten j:=(by rw[HCN.out];simp)
     (go_wp2_with fail);exact⟨⟨j+1,by omega,by go_num,by rw[e],HZ5⟩,by simp[intOf];omega⟩
    | true =>
     have e:cntOn 3 ten (j+1)=cntOn 3 ten j+1:=(by rw[HCN.out];simp)
     (go_wp2_with fail);exact⟨⟨j+1,by omega,by go_num,by rw[e];simp,HZ5⟩,by simp[intOf];omega⟩
  ·obtain rfl:j=3:=by omega
   rw[three_cnt];obtain⟨_,_,_,_,r4,_,r6⟩:=HS.out wr hB.out;obtain⟨c0,_⟩:=tC2 r4;have HBW:Hid (Bl w wr):=r6;have hi:¬((3:Nat):Int)<3:=(by omega)
   clear HS r4 r6;(go_wp2_with fail);go_ret;exact⟨rfl,HBW.out⟩
end
section
open Go.RowKit
open Vc (V Of)
open Pl (Br Net Pc Lk En St)
open Tk (Md Mnd Cn Sc Dn)
end
section
open Go.RowKit
open Vc (V Of)
open Pl (Br Net Pc Lk En St)
open Tk (Md Mnd Cn Sc Dn)
open Hl (Tl)
theorem ids_rangeU {n:Net}(R:n.Right) (tree:Int) {i:Nat}(hi:i<n.K):0≤n.ids tree i∧n.ids tree i<18446744073709551616:=by
 obtain⟨h1,h2,h3,_⟩:=R.fine i hi;have hp:0≤(n.bs i).prio tree∧(n.bs i).prio tree≤61440:=by
  unfold Pl.Br.prio;by_cases h:0≤tree∧tree≤((n.bs i).pn:Int)-1
  ·rw[if_pos h];exact h3 _ (by omega)
  ·rw[if_neg h];exact⟨by decide,by decide⟩
 unfold Pl.Net.ids Pl.Br.id;generalize (n.bs i).prio tree=p at *;omega
theorem start_wd {n:Net}(hw:n.Wf) (h:n.wrong.1=0) (k i:Nat) (hi:i<n.K):Tk.Wd (startMs n k i).md:=by
 have hr:=ids_rangeU (right_of hw h) k hi;exact⟨hr,hr,by show 0≤(0:Int)∧(0:Int)≤1000000000;omega,rfl,by show 0≤(0:Int);omega,by show(0:Int)≤20;omega⟩
theorem sn_wd {W:World}{n:Net}{T:Nat}{ds:Nat→Dn}{dn:Nat}{n':Net}{oa:Option Addr}{oc:Nat}{t':List Tr}(h:SnOut W n T ((n.sc (startMs n)).all n.cn ds dn) n' oa oc t') (hw:n.Wf) (h0:n.wrong.1=0) (he:∀k,k<dn→Tk.errOf n.cn (ds k)=0) {k i:Nat}(hk:k<T) (hi:i<n.K):Tk.Wd (mat (tat t' k).l i).md:=by
 have h1:=Tk.wd_all (start_ok hw h0 T) (fun k _ i hi=>start_wd hw h0 k i hi) ds dn he k hk i hi;rw[←((h.each k hk).2 i hi).1] at h1;exact h1
theorem hello_fits {W:World}{n:Net}{trees:Int}{ds:Nat→Dn}{dn:Nat}{n':Net}{oa:Option Addr}{oc:Nat}{t':List Tr}(h:SnOut W n trees.toNat ((n.sc (startMs n)).all n.cn ds dn) n' oa oc t') (hw:n.Wf) (hp:(plErr n trees ds dn).1=0) {i:Nat}(hi:i<n'.K) :
  n'.K=n.K∧t'.length≤4∧(∀k,k<t'.length→(tat t' k).l.length=n.K)∧Hl.wrongTo (talesM t' i) t'.length=0∧∀k,k<t'.length→(talesM t' i k).wide:=by
 obtain⟨⟨h0,h1⟩,_,h2⟩:=plErr_zero hp;have hK:n'.K=n.K:=congrArg Tk.Cn.K h.cn;have hT:=h.len;have h4:t'.length≤4:=(by omega)
 refine⟨hK,h4,fun k hk=>(h.each k (by omega)).1,talesM_right h4 (fun k hk=>sn_wd h hw h0 h2 (by omega) (by omega))⟩
theorem utophello_any (n:Net) (trees:Int) (dao:Option Addr) (dn dcap:Nat) (ds:Nat→Dn) (bz:Int) (w:World) (hat:n.at' w) (hwf:n.Wf) (hdn:dn≤9223372036854775807) (hds:DRow w dao dn dcap ds) (ht:Tabs w) (hbt:2≤w.heap.size) :
  Calls Tryz.prog 6 #[n.val,.int .i64 trees,.slice dao dn dcap,.int .i64 bz] w fun e w'=>e=.returned (.bool true)∧Bl w w':=by
 refine utophello_walk n trees dao dn dcap bz w (fun V hV=>ht.below hV hbt) (fun W hW=>ualive_any W (ht.below hW hbt) (Nat.le_trans hbt hW.size)) (fun W hW => ?_);refine(tplay_any n trees dao dn dcap ds W hwf (hat.below hW) hdn (CRow.below hds hW) (ht.below hW hbt) (Nat.le_trans hbt hW.size)).mono ?_;rintro e w' ⟨h1,⟨h2,rfl⟩ | ⟨h2,n',oa,oc,t',rfl,b,_,h3⟩⟩
 ·exact⟨none,0,0,none,0,0,none,0,0,_,_,rfl,hW.trans (h1.mono hW.size),fun z=>absurd z h2⟩
 ·refine⟨n'.bao,n'.K,n'.bcap,n'.lao,n'.L,n'.lcap,oa,t'.length,oc,0,0,rfl,hW.trans (h1.mono hW.size),fun _=>⟨n',t',⟨rfl,rfl,rfl,rfl,rfl,rfl,rfl⟩,?_⟩⟩;have h4:=h3.here;refine⟨h4.net,right_of h4.wf h4.right,h4.row,fun i hi => ?_⟩;obtain⟨hK,hT4,hlen,hw0,hwd⟩:=hello_fits h4 hwf h2 hi;exact⟨hT4,fun k hk=>by rw[hlen k hk];omega,hw0,hwd⟩
end
end Go.Proofs.YtflghpnpjmodaaaGreatDoor
namespace Go.Proofs.YtflghpnpjmodaaaGreatDoor.topHello
open Go.ChangeShapes Go.WideShapes Go.ChangeAt Go.RowKit
theorem contract (H:Type) (enc:TypeId×Value→H) (W:World) (base:Nat) (args:Array Value) (ds gs:List (DataW H)) (before:List MemPlace)
  (hval:∀(j:Nat) t v,Tryz.f6.params[j]?=some t→args[j]?=some v→Value.okWide Tryz.prog W .any base t v)
  (hW:DataW.Whole enc Tryz.prog Tryz.f6.params.toList Rows.topHelloSpec.vars false W args.toList ds gs before)
  (hsz:(DataW.weightsEach Tryz.prog (Tryz.f6.params.toList++(OpenSpec.ofChange Rows.topHelloSpec).bare.plain.varTypes Tryz.prog) (ds++gs)).all (·≤reachBytes)=true)
  (hL:laidMetH Tryz.prog Rows.topHelloRow.laid W) :
  Calls Tryz.prog 6 args W fun e W'=>∃v,e=.returned v∧Rows.topHelloSpec.post enc Tryz.prog Tryz.f6 false true false false W args v W':=by
 have hW':=hW;obtain⟨p,q,hA0,hV,rfl,hfz,hnd⟩:=hW;have hA:DataW.TrodAll enc Tryz.prog W 0 (fun _=>true) true Tryz.f6.params.toList args.toList ds p:=hA0;rw[Tryz.params6] at hA hval hsz;obtain⟨v0,vs0,d0,ds0,p0,q0,hargs,rfl,rfl,h0,r0⟩:=trodAll_cons hA;obtain⟨v1,vs1,d1,ds1,p1,q1,rfl,rfl,rfl,h1,r1⟩:=trodAll_cons r0;obtain⟨v2,vs2,d2,ds2,p2,q2,rfl,rfl,rfl,h2,r2⟩:=trodAll_cons r1;obtain⟨v3,vs3,d3,ds3,p3,q3,rfl,rfl,rfl,h3,r3⟩:=trodAll_cons r2;obtain⟨rfl,rfl,rfl⟩:=trodAll_nil r3;obtain rfl:args=#[v0,v1,v2,v3]:=by cases args;simp_all
 obtain⟨rfl,rfl⟩:=trodVars_none hV;have lt0:∀x∈p0,x.block<W.heap.size:=by obtain⟨m,hm⟩:=h0;exact DataW.trod_lt m _ _ _ hm
 obtain⟨n0,rfl,hat0,hwf0,hz0⟩:=net_in (hval 0 32 v0 rfl rfl) h0;have lt1:∀x∈p1,x.block<W.heap.size:=by obtain⟨m,hm⟩:=h1;exact DataW.trod_lt m _ _ _ hm
 obtain⟨z1,rfl⟩:=okWide_int Tryz.underlying3 (hval 1 3 v1 rfl rfl);have lt2:∀x∈p2,x.block<W.heap.size:=by obtain⟨m,hm⟩:=h2;exact DataW.trod_lt m _ _ _ hm
 obtain⟨da2,dn2,dc2,dd2,rfl,hd2,hnl2,hdn2,hdz2⟩:=dos_in (hval 2 49 v2 rfl rfl) h2;have lt3:∀x∈p3,x.block<W.heap.size:=by obtain⟨m,hm⟩:=h3;exact DataW.trod_lt m _ _ _ hm
 obtain⟨z3,rfl⟩:=okWide_int Tryz.underlying3 (hval 3 3 v3 rfl rfl);have hall:=hsz;simp only[List.cons_append,DataW.weightsEach,List.all_append,Bool.and_eq_true] at hall;have hm2:=hdz2 hall.2.2.1;unfold reachBytes at hm2;have hT:=tabs_of hL;have hG:2≤W.heap.size:=hT.lt;clear hA0 hall hsz;refine(utophello_any n0 z1 da2 dn2 dc2 dd2 z3 W hat0 hwf0 hdn2 hd2 hT hG).mono fun e W' ⟨he,bel⟩ => ?_;subst he;exact⟨_,rfl,_,_,_,[],_,[],hW',trodAll_mk1 (shut_bool Tryz.underlying4 _),(trodAll_cons_mk (Below.trod laidOut (by kernel_rfl) (of_decide_eq_true (by kernel_rfl)) h0 bel lt0) (trodAll_cons_mk (Below.trod laidOut (by kernel_rfl) (of_decide_eq_true (by kernel_rfl)) h1 bel lt1) (trodAll_cons_mk (Below.trod laidOut (by kernel_rfl) (of_decide_eq_true (by kernel_rfl)) h2 bel lt2) (trodAll_cons_mk (Below.trod laidOut (by kernel_rfl) (of_decide_eq_true (by kernel_rfl)) h3 bel lt3) trodAll_mk0)))),rfl,bel.frame _,fun h=>by cases h⟩
theorem laid_met (os:Os):laidMet Tryz.prog Rows.topHelloRow.laid ((laidW (World.holding Tryz.prog os ⟨#[],#[],[]⟩)).forCall (fun _ _=>0) ⟨#[],#[.agg #[.slice none 0 0,.slice none 0 0],.int .i64 0,.slice none 0 0,.int .i64 0],[]⟩).memory :=
 laidMet_of_run' 8 (by kernel_rfl) (by kernel_rfl)
theorem reads (os:Os) {H:Type}(enc:TypeId×Value→H):∃places,DataW.whole enc Tryz.prog ((laidW (World.holding Tryz.prog os ⟨#[],#[],[]⟩)).forCall (fun _ _=>0) ⟨#[],#[.agg #[.slice none 0 0,.slice none 0 0],.int .i64 0,.slice none 0 0,.int .i64 0],[]⟩).memory Tryz.f6.params.toList Rows.topHelloSpec.vars false #[Value.agg #[.slice none 0 0,.slice none 0 0],.int .i64 0,.slice none 0 0,.int .i64 0].toList 8=some ([.agg [.nil,.nil],.lit (.int .i64 0),.nil,.lit (.int .i64 0)],[],places) :=
 ⟨[],by kernel_rfl⟩
theorem lifted (os:Os) (started:os.Started) (H:Type) (enc:TypeId×Value→H) (F:Stop.Interp) :
  ReturnsInHanded {} Tryz.checked os 6 .any ((OpenSpec.ofChange Rows.topHelloSpec).preRow enc Tryz.prog Tryz.f6 Rows.topHelloRow.domain false Rows.topHelloRow.laid) (((OpenSpec.ofChange Rows.topHelloSpec).at F).post enc Tryz.prog Tryz.f6 false true false false):=by
 obtain⟨places,hx⟩:=reads os enc;refine returnsInHanded_of_row (C:=Tryz.checked) (s:=OpenSpec.ofChange Rows.topHelloSpec) own started (by kernel_rfl) Tryz.func6
  (witness_row_at (enc:=enc) (C:=Tryz.checked) false (laidW (World.holding Tryz.prog os ⟨#[],#[],[]⟩)) #[.agg #[.slice none 0 0,.slice none 0 0],.int .i64 0,.slice none 0 0,.int .i64 0] rfl (by kernel_rfl) (by kernel_rfl) (by kernel_rfl)
   (OpenSpec.preRow_of_cond 8 hx (by kernel_rfl) (fun k hk=>by cases hk) (by kernel_rfl) (laid_met os))) ?_
 intro W base args ds gs before hval hW _ _ hsz hL _ _;exact contract H enc W base args ds gs before hval hW hsz hL
theorem said:Rows.TopHelloSaid :=
 OpenClaim.holds_of_cond 6 Tryz.f6 rfl rfl rfl rfl rfl rfl rfl ⟨rfl,rfl,rfl,rfl,rfl⟩ rfl rfl rfl rfl rfl (by kernel_rfl) Tryz.func6 (by kernel_rfl)
  (of_decide_eq_true (by kernel_rfl)) (by unfold Func.isWrapper;first | (rw[if_pos (by decide +kernel)];kernel_rfl) | (rw[if_neg (by decide +kernel)];exact⟨rfl,rfl⟩))
  (fun os started H enc _ F=>by rw[OpenClaim.pre_eq_preRow];exact lifted os started H enc F)
theorem plain (f:FuncId) (fn:Func) (hf:Tryz.pinned.checked.prog.funcNamed "hedgerow/hedgetop.TopHello" = some f) (hfn:Tryz.pinned.checked.prog.funcs[f]?=some fn) :
  false=Tryz.pinned.checked.prog.looks []∧∀(j:Nat) t,fn.params[j]?=some t→Tryz.pinned.checked.prog.wantsStandIn t=false:=by
 obtain rfl:f=6:=Option.some.inj ((show Tryz.prog.funcNamed "hedgerow/hedgetop.TopHello" = some 6 by kernel_rfl).symm.trans hf) |>.symm;obtain rfl:fn=Tryz.f6:=(Option.some.inj (Tryz.func6.symm.trans hfn)).symm;refine⟨by kernel_rfl,fun j t ht => ?_⟩;rw[Tryz.params6] at ht;have h1:Tryz.prog.wantsStandIn 32=false:=(by kernel_rfl)
 have h2:Tryz.prog.wantsStandIn 3=false:=(by kernel_rfl)
 have h3:Tryz.prog.wantsStandIn 49=false:=(by kernel_rfl)
 have ht2:t=32∨t=3∨t=49∨t=3:=(by simpa using Array.mem_of_getElem? ht)
 rcases ht2 with rfl | rfl | rfl | rfl
 ·exact h1
 ·exact h2
 ·exact h3
 ·exact h2
theorem card:Rows.TopHelloCardSaid :=
 Claim7.holds_tied_plain_at .later [] _ _ _ _ said (fun _ h=>by cases h) (by kernel_rfl) (fun _ h=>by cases h) topHello_row_tie rfl ⟨rfl,rfl⟩ (by kernel_rfl) rfl plain (by kernel_rfl)
end Go.Proofs.YtflghpnpjmodaaaGreatDoor.topHello
namespace Go.Proofs.YtflghpnpjmodaaaGreatDoor
theorem topHello_card:Rows.TopHelloCardSaid:=topHello.card
#print axioms topHello_card
end Go.Proofs.YtflghpnpjmodaaaGreatDoor
