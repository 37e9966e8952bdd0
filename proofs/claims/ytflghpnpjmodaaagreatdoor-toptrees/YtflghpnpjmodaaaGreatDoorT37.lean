/- walks: lan.Send -/
import Derived.Test.YtflghpnpjmodaaaGreatDoorT08
import Derived.Test.YtflghpnpjmodaaaGreatDoorT29
import Derived.Test.YtflghpnpjmodaaaGreatDoorT30
import Derived.Test.YtflghpnpjmodaaaGreatDoorT24
import Derived.Test.YtflghpnpjmodaaaGreatDoorT36
import Derived.Deep.RegionHeld3
set_option maxRecDepth 100000
set_option maxHeartbeats 6000000
namespace Go.Proofs.YtflghpnpjmodaaaGreatDoor
section
open Go.RowKit
open Pl (Br Net)
open Rl (F)
def strayB (b:Br) (vid:Int) (T:Nat):Bool:=decide ((T:Int)≤Rg.tree b.reg.vs b.reg.ts vid b.reg.n)
def stray (n:Net) (vid:Int) (T:Nat):Bool:=decide (∃i,i<n.K∧strayB (n.bs i) vid T=true)
theorem jstray_any (b:Br) (VB TB:Nat) (vid:Int) (T:Nat) (w:World) (hb:b.at' w) (hf:b.Fine) (hv:w.cell? ⟨VB,0,none⟩=some (.int .i64 vid)) (ht:w.cell? ⟨TB,0,none⟩=some (.int .i64 (T:Int))) :
  Calls Tryz.prog 141 #[.agg (brA b),.pointer (some ⟨VB,0,none⟩),.pointer (some ⟨TB,0,none⟩)] w fun e w'=>e=.returned (.bool (strayB b vid T))∧Bl w w':=by
 have lv:=block_lt_of_cell hv;have lt:=block_lt_of_cell ht;obtain⟨X,HX⟩:∃X,Hid (X=w.alloc (.cells (brA b) 58)):=⟨_,rfl⟩
 have hXB:Bl w X:=(by rw[HX.out];exact bA1 _ _)
 have hXa:X.heap[w.heap.size]?=some (.cells (brA b) 58):=(by rw[HX.out];exact heap_alloc_last _ _)
 have HCC:Hid (∀V,Bl X V→V.cell? ⟨w.heap.size,2,none⟩=some (.string b.reg.s)∧V.cell? ⟨w.heap.size,3,none⟩=some (.int .i64 b.reg.rev)∧V.cell? ⟨w.heap.size,4,none⟩=some (.slice b.reg.ao b.reg.n b.reg.cap)∧V.cell? ⟨VB,0,none⟩=some (.int .i64 vid)∧V.cell? ⟨TB,0,none⟩=some (.int .i64 (T:Int))):=fun V hV=>by
  have hV':=hXB.trans (hV.mono hXB.size);have h1:=keep hXa hV;exact⟨cell_of_row _ _ 2 _ _ _ h1,cell_of_row _ _ 3 _ _ _ h1,cell_of_row _ _ 4 _ _ _ h1,(hV'.cell (by exact lv)).trans hv,(hV'.cell (by exact lt)).trans ht⟩
 have HC:Hid (∀V,Bl X V→Calls Tryz.prog 40 #[.agg #[.string b.reg.s,.int .i64 b.reg.rev,.slice b.reg.ao b.reg.n b.reg.cap],.int .i64 vid] V fun e w'=>e=.returned (.int .i64 (Rg.tree b.reg.vs b.reg.ts vid b.reg.n))∧Hid (Bl X w')):=fun V hV =>
  (gtree_any b.reg.s b.reg.rev b.reg.ao b.reg.n b.reg.cap b.reg.vs b.reg.ts vid V hf.reg.2.2 ((hb.below (hXB.trans (hV.mono hXB.size))).2.1)).mono (fun e w' h=>⟨h.1,hV.trans (h.2.mono hV.size)⟩)
 have HXB:Hid (Bl w X):=hXB;unfold strayB;clear hb hf hv ht hXa hXB;generalize Rg.tree b.reg.vs b.reg.ts vid b.reg.n=tr at *;unfold brA at HX ⊢;go_enter Tryz.func141,Tryz.ntmps141;(go_wp2_with fail);rw[←HX.out];have HB0:Hid (Bl X X.drew):=Below.drew (Below.refl _ _);go_region_held3 (fun W=>W.cell? ⟨w.heap.size,2,none⟩=some (.string b.reg.s)∧W.cell? ⟨w.heap.size,3,none⟩=some (.int .i64 b.reg.rev)∧W.cell? ⟨w.heap.size,4,none⟩=some (.slice b.reg.ao b.reg.n b.reg.cap)∧W.cell? ⟨VB,0,none⟩=some (.int .i64 vid)∧W.cell? ⟨TB,0,none⟩=some (.int .i64 (T:Int)))
  (first | (exact HCC.out _ (Hid.out (by assumption))) | (exact HCC.out _ (Below.drew (Hid.out (by assumption)))))
  (first | (go_at_call 40;(with_reducible refine(HC.out _ (by first | exact(Hid.out (by assumption)) | exact Below.drew (Hid.out (by assumption)))).mono ?_);rintro e w5 ⟨rfl,HB5⟩) | fail)
 (all_goals go_wp2_with fail);(all_goals go_ret);all_goals exact⟨rfl,HXB.out.trans (HB5.out.mono HXB.out.size)⟩
theorem jindexb_any (n:Net) (VB TB:Nat) (vid:Int) (T:Nat) (w:World) (hn:n.at' w) (hf:∀i,i<n.K→(n.bs i).Fine) (hv:w.cell? ⟨VB,0,none⟩=some (.int .i64 vid)) (ht:w.cell? ⟨TB,0,none⟩=some (.int .i64 (T:Int))) :
  Calls Tryz.prog 185 #[.slice n.bao n.K n.bcap,.func (.func 141) #[] #[.pointer (some ⟨VB,0,none⟩),.pointer (some ⟨TB,0,none⟩)]] w fun e w'=>∃r:Int,e=.returned (.int .i64 r)∧decide (r≥0)=stray n vid T∧Bl w w':=by
 have hnK:=hn.manyB;have hcap:n.K≤n.bcap:=hn.brs.1;have lv:=block_lt_of_cell hv;have lt:=block_lt_of_cell ht;have HR:Hid (∀W,Bl w W→BRow W n.bao n.K n.bcap n.bs):=fun W hW=>CRow.below hn.brs hW;have HC:Hid (∀W,Bl w W→∀k,k<n.K→Calls Tryz.prog 141 #[.agg (brA (n.bs k)),.pointer (some ⟨VB,0,none⟩),.pointer (some ⟨TB,0,none⟩)] W fun e w'=>e=.returned (.bool (strayB (n.bs k) vid T))∧Hid (Bl w w')):=fun W hW k hk=>(jstray_any (n.bs k) VB TB vid T W ((hn.each k hk).below hW) (hf k hk) ((hW.cell (by exact lv)).trans hv) ((hW.cell (by exact lt)).trans ht)).mono (fun e w' h=>⟨h.1,hW.trans (h.2.mono hW.size)⟩);clear hn hf hv ht lv lt;go_enter Tryz.func185,Tryz.ntmps185;(go_wp2_with fail);go_loopw [8] (fun i wr=>∃k:Nat,k≤n.K∧i=.int .i64 k∧Hid (∀j,j<k→strayB (n.bs j) vid T=false)∧Hid (Bl w wr)) (fun i _=>n.K-(intOf i).toNat)
 case atStart=>exact⟨0,by omega,rfl,(fun j hj=>absurd hj (by omega)),Below.refl _ _⟩
 case round =>
  obtain⟨k,hk,rfl,hS,hB⟩:=hrel;by_cases hlt:k<n.K
  ·obtain⟨b,off,eb,_⟩:=CRow.some (HR.out wr hB.out) (by omega);have hr:=HR.out wr hB.out;rw[eb] at hr ⊢;obtain⟨c0,c1,c2,c3,c4⟩:=BRow.cells hr hlt;have ik:(0:Int)≤(k:Int):=(by omega)
   have nk:(k:Int)<(n.K:Int):=(by omega)
   have HCG:Hid (Calls Tryz.prog 141 #[.agg #[.int .u64 (n.bs k).addr,.slice (n.bs k).pao (n.bs k).pn (n.bs k).pcap,.string (n.bs k).reg.s,.int .i64 (n.bs k).reg.rev,.slice (n.bs k).reg.ao (n.bs k).reg.n (n.bs k).reg.cap],.pointer (some ⟨VB,0,none⟩),.pointer (some ⟨TB,0,none⟩)] wr fun e w'=>e=.returned (.bool (strayB (n.bs k) vid T))∧Hid (Bl w w')):=HC.out wr hB.out k hlt;have HD:Hid (strayB (n.bs k) vid T=true→decide ((k:Int)≥0)=stray n vid T):=fun h=>by
    show decide ((k:Int)≥0)=stray n vid T;unfold stray;rw[decide_eq_true (show(k:Int)≥0 by omega),decide_eq_true (show ∃i,i<n.K∧strayB (n.bs i) vid T=true from⟨k,hlt,h⟩)]
   have HS2:Hid (strayB (n.bs k) vid T=false→∀j,j<k+1→strayB (n.bs j) vid T=false):=fun h j hj=>by
    by_cases e:j=k
    ·subst e;exact h
    ·exact hS.out j (by omega)
   clear HR HC hS hB hr;cases hq:strayB (n.bs k) vid T with
   | false =>
    have HS3:Hid (∀j,j<k+1→strayB (n.bs j) vid T=false):=HS2.out hq;rw[hq] at HCG;clear HD HS2 hq;go_wp2_with (go_at_call 141;refine HCG.out.mono ?_;rintro e w2 ⟨rfl,HB2⟩)
    exact⟨⟨k+1,by omega,by go_num,HS3,HB2⟩,by simp[intOf];omega⟩
   | true =>
    have HS3:Hid (decide ((k:Int)≥0)=stray n vid T):=HD.out hq;rw[hq] at HCG;clear HD HS2 hq;go_wp2_with (go_at_call 141;refine HCG.out.mono ?_;rintro e w2 ⟨rfl,HB2⟩)
    go_ret;exact⟨_,rfl,HS3.out,HB2.out⟩
  ·obtain rfl:k=n.K:=by omega
   have HN:¬∃i,i<n.K∧strayB (n.bs i) vid T=true:=by
    rintro⟨i,hi,h⟩;rw[hS.out i hi] at h;cases h
   have HD:Hid (decide ((-1:Int)≥0)=stray n vid T):=by
    show decide ((-1:Int)≥0)=stray n vid T;unfold stray;rw[decide_eq_false (show ¬(-1:Int)≥0 by omega),decide_eq_false HN]
   clear HN HR HC hS;(go_wp2_with fail);go_ret;exact⟨_,rfl,HD.out,hB.out⟩
theorem jcontb_any (n:Net) (VB TB:Nat) (vid:Int) (T:Nat) (w:World) (hn:n.at' w) (hf:∀i,i<n.K→(n.bs i).Fine) (hv:w.cell? ⟨VB,0,none⟩=some (.int .i64 vid)) (ht:w.cell? ⟨TB,0,none⟩=some (.int .i64 (T:Int))) :
  Calls Tryz.prog 142 #[.slice n.bao n.K n.bcap,.func (.func 141) #[] #[.pointer (some ⟨VB,0,none⟩),.pointer (some ⟨TB,0,none⟩)]] w fun e w'=>e=.returned (.bool (stray n vid T))∧Bl w w':=by
 have HC:Hid (Calls Tryz.prog 185 #[.slice n.bao n.K n.bcap,.func (.func 141) #[] #[.pointer (some ⟨VB,0,none⟩),.pointer (some ⟨TB,0,none⟩)]] w fun e w'=>∃r:Int,e=.returned (.int .i64 r)∧Hid (decide (r≥0)=stray n vid T∧Bl w w')):=(jindexb_any n VB TB vid T w hn hf hv ht).mono (fun e w' ⟨r,h1,h2,h3⟩=>⟨r,h1,h2,h3⟩);clear hn hf hv ht;generalize stray n vid T=d at *;go_enter Tryz.func142,Tryz.ntmps142;go_wp2_with (go_at_call 185;refine HC.out.mono ?_;rintro e w1 ⟨r,rfl,H1⟩)
 go_ret;exact⟨by rw[←H1.out.1];rfl,H1.out.2⟩
def besErr (n:Net) (T B:Nat) (from' vid:Int) (f:F):Int :=
 if B≠n.K then 8 else if ¬(0≤from'∧from'≤(n.K:Int)-1) then 6 else if ¬(1≤vid∧vid≤4094) then 3 else if f.tagged=true then 1
 else if wrong f.dst f.src f.tagged f.prio f.vid f.type f.n≠0 then wrong f.dst f.src f.tagged f.prio f.vid f.type f.n else if stray n vid T=true then 5 else 0
def frA (f:F):Array Value:=#[.int .u64 f.dst,.int .u64 f.src,.bool f.tagged,.int .i64 f.prio,.bool f.drop,.int .i64 f.vid,.int .i64 f.type,.slice f.ao f.n f.cap]
theorem jbeside_any (n:Net) (T B:Nat) (from' vid:Int) (f:F) (w:World) (hn:n.at' w) (hf:∀i,i<n.K→(n.bs i).Fine) (hK:n.K≤12) (hB:B≤9223372036854775807) (hs:0≤f.src∧f.src<18446744073709551616) :
  Calls Tryz.prog 99 #[.slice n.bao n.K n.bcap,.int .i64 (T:Int),.int .i64 (B:Int),.int .i64 from',.int .i64 vid,.agg (frA f)] w fun e w'=>e=.returned (.int .i64 (besErr n T B from' vid f))∧Bl w w':=by
 obtain⟨X,HX⟩:∃X,Hid (X=((w.alloc (.cells #[.int .i64 (T:Int)] 3)).alloc (.cells #[.int .i64 vid] 3)).alloc (.cells (frA f) 74)):=⟨_,rfl⟩
 have h3:=alloc3 w (.cells #[.int .i64 (T:Int)] 3) (.cells #[.int .i64 vid] 3) (.cells (frA f) 74);rw[←HX.out] at h3;obtain⟨hX0,hX1,_,hXB⟩:=h3;have HXB:Hid (Bl w X):=hXB;have HW:Hid (Calls Tryz.prog 49 #[.agg #[.int .u64 f.dst,.int .u64 f.src,.bool f.tagged,.int .i64 f.prio,.bool f.drop,.int .i64 f.vid,.int .i64 f.type,.slice f.ao f.n f.cap]] X fun e w'=>e=.returned (.int .i64 (wrong f.dst f.src f.tagged f.prio f.vid f.type f.n))∧Hid (Bl w w')∧Hid (Calls Tryz.prog 142 #[.slice n.bao n.K n.bcap,.func (.func 141) #[] #[.pointer (some ⟨w.heap.size+1,0,none⟩),.pointer (some ⟨w.heap.size,0,none⟩)]] w' fun e w''=>e=.returned (.bool (stray n vid T))∧Hid (Bl w w''))) :=
  (wrong_any f.dst f.src f.tagged f.prio f.drop f.vid f.type f.ao f.n f.cap X hs.1 hs.2).mono (fun e w' h=>by
   have h1:=hXB.trans (h.2.mono hXB.size);exact⟨h.1,h1,(jcontb_any n (w.heap.size+1) w.heap.size vid T w' (hn.below h1) hf (cell_of_row _ _ 0 _ _ _ (keep hX1 h.2)) (cell_of_row _ _ 0 _ _ _ (keep hX0 h.2))).mono (fun e w'' h2=>⟨h2.1,h1.trans (h2.2.mono h1.size)⟩)⟩)
 clear hn hf hs hX0 hX1 hXB;unfold frA at HX ⊢;unfold besErr;by_cases c1:B≠n.K
 ·rw[if_pos c1];have c1':(B:Int)≠(n.K:Int):=(by omega)
  clear HW;go_enter Tryz.func99,Tryz.ntmps99;(go_wp2_with fail);rw[←HX.out];go_ret;exact⟨rfl,HXB.out⟩
 ·rw[if_neg c1];obtain rfl:B=n.K:=by omega
  clear c1;have HN:Hid (∀(a l m:Int) (W:World),Calls Tryz.prog 32 #[.int .i64 a,.int .i64 l,.int .i64 m] W fun e w'=>e=.returned (.bool (decide (l≤a∧a≤m)))∧w'=W):=fun a l m W=>within_any a l m W;by_cases c2:0≤from'∧from'≤(n.K:Int)-1
  ·rw[if_neg (fun q=>q c2)];have d2:decide (0≤from'∧from'≤(n.K:Int)-1)=true:=decide_eq_true c2;by_cases c3:1≤vid∧vid≤4094
   ·rw[if_neg (fun q=>q c3)];have d3:decide (1≤vid∧vid≤4094)=true:=decide_eq_true c3;cases ht:f.tagged with
    | true =>
     rw[if_pos rfl];rw[ht] at HX;clear HW c2 c3;go_enter Tryz.func99,Tryz.ntmps99;go_wp2_with (go_at_call 32;refine(HN.out _ _ _ _).mono ?_;rintro e w1 ⟨rfl,rfl⟩;first | rw[d2] | rw[d3])
     rw[←HX.out];go_ret;exact⟨rfl,HXB.out⟩
    | false =>
     rw[if_neg (by decide)];rw[ht] at HX HW;by_cases c5:wrong f.dst f.src false f.prio f.vid f.type f.n=0
     ·rw[if_neg (fun q=>q c5)];rw[c5] at HW;clear c2 c3 c5 ht;cases hst:stray n vid T with
      | true =>
       rw[if_pos rfl];rw[hst] at HW;go_enter Tryz.func99,Tryz.ntmps99;go_wp2_with (first | (go_at_call 32;refine(HN.out _ _ _ _).mono ?_;rintro e w1 ⟨rfl,rfl⟩;first | rw[d2] | rw[d3]) | (go_at_call 49;rw[←HX.out];refine HW.out.mono ?_;rintro e w5 ⟨rfl,HB5,HC5⟩) | (go_at_call 142;refine HC5.out.mono ?_;rintro e w6 ⟨rfl,HB6⟩))
       go_ret;exact⟨rfl,HB6.out⟩
      | false =>
       rw[if_neg (by decide)];rw[hst] at HW;go_enter Tryz.func99,Tryz.ntmps99;go_wp2_with (first | (go_at_call 32;refine(HN.out _ _ _ _).mono ?_;rintro e w1 ⟨rfl,rfl⟩;first | rw[d2] | rw[d3]) | (go_at_call 49;rw[←HX.out];refine HW.out.mono ?_;rintro e w5 ⟨rfl,HB5,HC5⟩) | (go_at_call 142;refine HC5.out.mono ?_;rintro e w6 ⟨rfl,HB6⟩))
       go_ret;exact⟨rfl,HB6.out⟩
     ·rw[if_pos c5];generalize wrong f.dst f.src false f.prio f.vid f.type f.n=wr at *;clear c2 c3 ht;go_enter Tryz.func99,Tryz.ntmps99;go_wp2_with (first | (go_at_call 32;refine(HN.out _ _ _ _).mono ?_;rintro e w1 ⟨rfl,rfl⟩;first | rw[d2] | rw[d3]) | (go_at_call 49;rw[←HX.out];refine HW.out.mono ?_;rintro e w5 ⟨rfl,HB5,HC5⟩))
      go_ret;exact⟨rfl,HB5.out⟩
   ·rw[if_pos c3];have d3:decide (1≤vid∧vid≤4094)=false:=decide_eq_false c3;clear HW c2 c3;go_enter Tryz.func99,Tryz.ntmps99;go_wp2_with (go_at_call 32;refine(HN.out _ _ _ _).mono ?_;rintro e w1 ⟨rfl,rfl⟩;first | rw[d2] | rw[d3])
    rw[←HX.out];go_ret;exact⟨rfl,HXB.out⟩
  ·rw[if_pos c2];have d2:decide (0≤from'∧from'≤(n.K:Int)-1)=false:=decide_eq_false c2;clear HW c2;go_enter Tryz.func99,Tryz.ntmps99;go_wp2_with (go_at_call 32;refine(HN.out _ _ _ _).mono ?_;rintro e w1 ⟨rfl,rfl⟩;rw[d2])
   rw[←HX.out];go_ret;exact⟨rfl,HXB.out⟩
theorem jrelayer_any (n:Net) (oao:Option Addr) (T ocap:Nat) (vid:Int) (gk K kcap:Nat) (w:World) :
  Calls Tryz.prog 62 #[n.val,.agg #[.slice oao T ocap],.int .i64 vid,.slice (some ⟨gk,0,none⟩) K kcap] w fun e w'=>e=.returned (.func (.func 100) #[] #[.pointer (some ⟨w.heap.size+1,0,none⟩),.pointer (some ⟨w.heap.size,0,none⟩),.pointer (some ⟨w.heap.size+2,0,none⟩),.pointer (some ⟨w.heap.size+3,0,none⟩)])∧Hid (w'.heap.size=w.heap.size+4∧Bl w w'∧w'.heap[w.heap.size+1]?=some (.cells #[.slice oao T ocap] 43)∧w'.heap[w.heap.size]?=some (.cells #[.slice n.bao n.K n.bcap,.slice n.lao n.L n.lcap] 32)∧w'.heap[w.heap.size+2]?=some (.cells #[.int .i64 vid] 3)∧w'.heap[w.heap.size+3]?=some (.cells #[.slice (some ⟨gk,0,none⟩) K kcap] 93)):=by
 obtain⟨Y,HY⟩:∃Y,Hid (Y=((w.alloc (.cells #[.slice n.bao n.K n.bcap,.slice n.lao n.L n.lcap] 32)).alloc (.cells #[.slice oao T ocap] 43)).alloc (.cells #[.int .i64 vid] 3)):=⟨_,rfl⟩
 have h3:=alloc3 w (.cells #[.slice n.bao n.K n.bcap,.slice n.lao n.L n.lcap] 32) (.cells #[.slice oao T ocap] 43) (.cells #[.int .i64 vid] 3);rw[←HY.out] at h3;have hs:Y.heap.size=w.heap.size+3:=(by rw[HY.out];simp)
 have HF:Hid (∀V,V=Y.alloc (.cells #[.slice (some ⟨gk,0,none⟩) K kcap] 93)→V.heap.size=w.heap.size+4∧Bl w V∧V.heap[w.heap.size+1]?=some (.cells #[.slice oao T ocap] 43)∧V.heap[w.heap.size]?=some (.cells #[.slice n.bao n.K n.bcap,.slice n.lao n.L n.lcap] 32)∧V.heap[w.heap.size+2]?=some (.cells #[.int .i64 vid] 3)∧V.heap[w.heap.size+3]?=some (.cells #[.slice (some ⟨gk,0,none⟩) K kcap] 93)):=fun V hV=>by
  obtain⟨a,b,c,d⟩:=h3;have e1:Bl Y V:=(by rw[hV];exact bA1 _ _)
  refine⟨by rw[hV];simp[hs],d.trans (e1.mono d.size),keep b e1,keep a e1,keep c e1,?_⟩;rw[hV,←hs];exact heap_alloc_last _ _
 clear h3 hs;unfold Pl.Net.val;go_enter Tryz.func62,Tryz.ntmps62;(go_wp2_with fail);rw[←HY.out];go_ret;exact⟨rfl,HF.out _ rfl⟩
end
section
open Go.RowKit
open Pl (Br Net)
open Rl (F)
open Tk (Dn)
def dn0:Nat→Dn:=fun _=>⟨0,0,0,0⟩
def sErr (n:Net) (t:List Tr) (B:Nat) (from' vid:Int) (f:F):Int×Int:=if (onErr n t dn0 0).1≠0 then onErr n t dn0 0 else(besErr n t.length B from' vid f,0)
theorem jwrong_any (n:Net) (oao:Option Addr) (ocap:Nat) (t:List Tr) (ko:Option Addr) (B kcap:Nat) (from' vid:Int) (f:F) (w:World) (hwf:n.Wf) (hat:n.at' w) (htr:TrRow w oao ocap t) (hc:CalmT t) (htb:Tabs w) (hbt:2≤w.heap.size) (hB:B≤9223372036854775807) (hs:0≤f.src∧f.src<18446744073709551616) :
  Calls Tryz.prog 59 #[n.val,.agg #[.slice oao t.length ocap],.slice ko B kcap,.int .i64 from',.int .i64 vid,.agg (frA f)] w fun e w'=>e=.returned (.agg #[.int .i64 (sErr n t B from' vid f).1,.int .i64 (sErr n t B from' vid f).2])∧Bl w w':=by
 have le3:w.heap.size≤w.heap.size+1+1+1:=(by omega)
 obtain⟨X0,HX0⟩:∃X0,Hid (X0=((w.alloc (.cells #[.slice n.bao n.K n.bcap,.slice n.lao n.L n.lcap] 32)).alloc (.cells #[.slice oao t.length ocap] 43)).alloc (.cells (frA f) 74)):=⟨_,rfl⟩
 have h3:=alloc3 w (.cells #[.slice n.bao n.K n.bcap,.slice n.lao n.L n.lcap] 32) (.cells #[.slice oao t.length ocap] 43) (.cells (frA f) 74);rw[←HX0.out] at h3;obtain⟨g0,g1,g2,b0⟩:=h3;obtain⟨X,HX⟩:∃X,Hid (X=X0.alloc (.cells #[.int .i64 0,.int .i64 0] 26)):=⟨_,rfl⟩
 have b1:Bl X0 X:=(by rw[HX.out];exact bA1 _ _)
 have s0:X0.heap.size=w.heap.size+1+1+1:=(by rw[HX0.out];simp)
 have g3:X.heap[w.heap.size+1+1+1]?=some (.cells #[.int .i64 0,.int .i64 0] 26):=(by rw[HX.out,←s0];exact heap_alloc_last _ _)
 have bX:Bl w X:=b0.trans (b1.mono b0.size);have HH:Hid (∀V,Bl X V→(V.heap[w.heap.size]?=some (.cells #[.slice n.bao n.K n.bcap,.slice n.lao n.L n.lcap] 32)∧V.heap[w.heap.size+1]?=some (.cells #[.slice oao t.length ocap] 43)∧V.heap[w.heap.size+1+1]?=some (.cells (frA f) 74)∧V.heap[w.heap.size+1+1+1]?=some (.cells #[.int .i64 0,.int .i64 0] 26))∧Bl w V∧w.heap.size+1+1+1<V.heap.size):=fun V hV=>by
  have h1:=b1.trans (hV.mono b1.size);have h2:=keep g3 hV;exact⟨⟨keep g0 h1,keep g1 h1,keep g2 h1,h2⟩,bX.trans (hV.mono bX.size),(gSm.1 h2).1⟩
 have HON:Hid (Calls Tryz.prog 29 #[.agg #[.slice n.bao n.K n.bcap,.slice n.lao n.L n.lcap],.agg #[.slice oao t.length ocap],.slice none 0 0] X fun e w'=>∃na nk nc la lk lc oa ol oc,e=.returned (.tuple #[.agg #[.slice na nk nc,.slice la lk lc],.agg #[.slice oa ol oc],.agg #[.int .i64 (onErr n t dn0 0).1,.int .i64 (onErr n t dn0 0).2]])∧Hid (Bl X w')):=by
  refine(ton_any n oao ocap t (msT t) none 0 0 dn0 X hwf (hat.below bX) (htr.below bX) (by omega) ⟨Nat.le_refl _,fun h=>absurd h (by omega)⟩ hc (fun _ _ _ _=>rfl) (htb.below bX hbt) (Nat.le_trans hbt bX.size)).mono ?_;rintro e w' ⟨h1,h2 | ⟨h2,n',oao',ocap',t',rfl,_⟩⟩
  ·exact⟨none,0,0,none,0,0,none,0,0,h2.2,h1⟩
  ·refine⟨n'.bao,n'.K,n'.bcap,n'.lao,n'.L,n'.lcap,oao',t'.length,ocap',?_,h1⟩;have h4:=onErr_zero h2;have h5:onErr n t dn0 0=(0,0):=by
    unfold onErr;rw[if_neg (fun q=>q h4.1)];rfl
   rw[h5];rfl
 have HBS:Hid ((onErr n t dn0 0).1=0→∀V,Bl X V→Calls Tryz.prog 99 #[.slice n.bao n.K n.bcap,.int .i64 (t.length:Int),.int .i64 (B:Int),.int .i64 from',.int .i64 vid,.agg #[.int .u64 f.dst,.int .u64 f.src,.bool f.tagged,.int .i64 f.prio,.bool f.drop,.int .i64 f.vid,.int .i64 f.type,.slice f.ao f.n f.cap]] V fun e w'=>e=.returned (.int .i64 (besErr n t.length B from' vid f))∧Hid (Bl X w')):=fun he V hV=>by
  have hR:=right_of hwf (wrT_zero (onErr_zero he).1).2.1;exact(jbeside_any n t.length B from' vid f V (hat.below (HH.out V hV).2.1) hR.fine hR.few hB hs).mono (fun e w' h=>⟨h.1,hV.trans (h.2.mono hV.size)⟩)
 have htl:=htr.many;clear hwf hat htr hc htb hbt g0 g1 g2 g3 b0 b1 bX s0 hs;have HSE:Hid (sErr n t B from' vid f=if (onErr n t dn0 0).1≠0 then onErr n t dn0 0 else(besErr n t.length B from' vid f,0)):=rfl;generalize sErr n t B from' vid f=R at *;generalize besErr n t.length B from' vid f=be at *;generalize onErr n t dn0 0=oe at *;obtain⟨e1,e2⟩:=oe;simp only at HON HBS HSE;unfold frA at HX0 HH;unfold frA Pl.Net.val;go_enter Tryz.func59,Tryz.ntmps59;(go_wp2_with fail);rw[←HX0.out,←HX.out];refine HON.out.mono ?_;rintro e w1 ⟨na,nk,nc,la,lk,lc,oa,ol,oc,rfl,HB1⟩;obtain⟨V,HV⟩:∃V,Hid (V=((w1.alloc (.cells #[.slice na nk nc,.slice la lk lc] 32)).alloc (.cells #[.slice oa ol oc] 43)).alloc (.cells #[.int .i64 e1,.int .i64 e2] 26)):=⟨_,rfl⟩
 have h3:=alloc3 w1 (.cells #[.slice na nk nc,.slice la lk lc] 32) (.cells #[.slice oa ol oc] 43) (.cells #[.int .i64 e1,.int .i64 e2] 26);rw[←HV.out] at h3;obtain⟨_,_,v2,bV⟩:=h3;have HBV:Hid (Bl X V):=HB1.out.trans (bV.mono HB1.out.size);obtain⟨x0,x1⟩:=tC2 v2;obtain⟨⟨j0,j1,j2,j3⟩,j4,j5⟩:=HH.out V HBV.out;obtain⟨y0,y1⟩:=tC2 j0;have y2:=cell_of_row _ _ 0 _ _ _ j1;obtain⟨z0,z1,z2,z3,z4,z5,z6,z7⟩:=fr_cells j2;obtain⟨q0,q1⟩:=tC2 j3;have q2:=lF0 j3 0;have q3:=lF0 j3 1;have HJ:Hid (V.heap[w.heap.size+1+1+1]?=some (.cells #[.int .i64 0,.int .i64 0] 26)∧Bl w V):=⟨j3,j4⟩
 clear HON j0 j1 j2 j3 j4 bV v2;by_cases he:e1=0
 ·have HBS2:Hid (∀V,Bl X V→Calls Tryz.prog 99 #[.slice n.bao n.K n.bcap,.int .i64 (t.length:Int),.int .i64 (B:Int),.int .i64 from',.int .i64 vid,.agg #[.int .u64 f.dst,.int .u64 f.src,.bool f.tagged,.int .i64 f.prio,.bool f.drop,.int .i64 f.vid,.int .i64 f.type,.slice f.ao f.n f.cap]] V fun e w'=>e=.returned (.int .i64 be)∧Hid (Bl X w')):=HBS.out he;have HE:Hid (R=(be,0)):=by
   show R=_;rw[HSE.out,if_neg (fun q=>q he)]
  clear HBS HSE;subst he;(go_upto_region 2 with fail);rw[←HV.out];(go_wp2_with fail);refine(HBS2.out V HBV.out).mono ?_;rintro e w2 ⟨rfl,HB2⟩;obtain⟨⟨_,_,_,i3⟩,i4,i5⟩:=HH.out w2 HB2.out;obtain⟨q0,q1⟩:=tC2 i3;have q2:=lF0 i3 0;have q3:=lF0 i3 1;have HI:Hid (w2.heap[w.heap.size+1+1+1]?=some (.cells #[.int .i64 0,.int .i64 0] 26)∧Bl w w2):=⟨i3,i4⟩
  clear i3 i4 HBS2;(go_wp2_with fail);refine bodyPost_ret (v:=.agg #[.int .i64 be,.int .i64 0]) (results_row (p:=12) (ty:=26) Tryz.results59 _ _ (w.heap.size+1+1+1) 26 #[.int .i64 be,.int .i64 0] (0,0) _ rfl ?h1 Tryz.underlying26 rfl (by rw[sizeFt];rfl)) rfl ⟨by rw[HE.out],?h2⟩
  case h1=>first | (with_reducible exact set2_same HI.out.1) | (with_reducible exact drew_keep (set2_same HI.out.1)) | exact set2_same (drew_keep HI.out.1)
  case h2=>first | exact(HI.out.2.setCell le3 _).setCell le3 _ | exact((HI.out.2.setCell le3 _).setCell le3 _).drew | exact(HI.out.2.drew.setCell le3 _).setCell le3 _
 ·have HE:Hid (R=(e1,e2)):=by
   show R=_;rw[HSE.out,if_pos he]
  clear HBS HSE;(go_upto_region 2 with fail);rw[←HV.out];(go_wp2_with fail);refine bodyPost_ret (v:=.agg #[.int .i64 e1,.int .i64 e2]) (results_row (p:=12) (ty:=26) Tryz.results59 _ _ (w.heap.size+1+1+1) 26 #[.int .i64 e1,.int .i64 e2] (0,0) _ rfl ?h1 Tryz.underlying26 rfl (by rw[sizeFt];rfl)) rfl ⟨by rw[HE.out],?h2⟩
  case h1=>first | (with_reducible exact set2_same HJ.out.1) | (with_reducible exact drew_keep (set2_same HJ.out.1)) | exact set2_same (drew_keep HJ.out.1)
  case h2=>first | exact(HJ.out.2.setCell le3 _).setCell le3 _ | exact((HJ.out.2.setCell le3 _).setCell le3 _).drew | exact(HJ.out.2.drew.setCell le3 _).setCell le3 _
end
section
open Go.RowKit
open Pl (Br Net)
open Bk (E at')
open Rl (F O)
theorem results_tmp3_row {P:Program}{fn:Func}{p u1 u2 u3:Tmp}{ty:TypeId}(h:fn.results=#[.tmp u1,.tmp u2,.tmp u3,.cell p ty]) (tmps:Array Value) (w:World) (g:Nat) (t:TypeId) (cs:Array Value) (fr:Nat×Nat) (d:TypeDesc)
  (hp:tmps.getD p undef=.pointer (some ⟨g,0,none⟩)) (hg:w.heap[g]?=some (.cells cs t fr))
  (hu:P.underlying ty=some d) (hd:(match d with | .struct _ | .array _ _=>true | _=>false)=true) (hi:(P.info? ty).map (·.size)=some cs.size) :
  (results fn tmps).run P w=.ok (.tuple #[tmps.getD u1 undef,tmps.getD u2 undef,tmps.getD u3 undef,.agg cs]) w:=by
 have hp':tmps[p]?.getD undef=.pointer (some ⟨g,0,none⟩):=(by simpa using hp)
 simp[results,h,hp',asAddr,run_loadVar_row w g t ty cs fr d hg hu hd hi]
def sent (n:Net) (t:List Tr) (vid:Int) (f:F) (bks:Nat→List E) (i:Nat):Ln.Cs:=Ln.carry n t vid f 41 ⟨[],[(i,⟨0,f.tagged,f.prio,f.drop,f.vid⟩)],bks,0⟩
structure SdIs (w w':World) (K:Nat) (f:F) (RR:Ln.Cs) (so:Option Addr) (sc:Nat) (ss:List AV) (gk:Nat) (bo':Nat→Option Addr) (bc':Nat→Nat):Prop where
 map:ss.map AV.p=RR.seen
 row:w'.ownsRow w.heap.size 97 9 (.slice so ss.length sc) ss.length (cellsL ss.length 9 (fun i=>sC f (aat ss i)))
 data:∀x∈ss,Dt w' w.heap.size f x.v
 books:BkO w' w.heap.size gk K RR.books bo' bc'
 own:w.heap.size≤gk
def SdOut (w:World) (n:Net) (t:List Tr) (vid:Int) (f:F) (B:Nat) (bks:Nat→List E) (from':Int) (e:Ending) (w':World):Prop :=
 Bl w w'∧(((sErr n t B from' vid f).1≠0∧e=.returned (.tuple #[.slice none 0 0,.slice none 0 0,.bool false,.agg #[.int .i64 (sErr n t B from' vid f).1,.int .i64 (sErr n t B from' vid f).2]])) ∨
  ((sErr n t B from' vid f).1=0∧((¬((sent n t vid f bks from'.toNat).err=0∧(sent n t vid f bks from'.toNat).wait=[])∧e=.returned (.tuple #[.slice none 0 0,.slice none 0 0,.bool false,.agg #[.int .i64 (sent n t vid f bks from'.toNat).err,.int .i64 0]])) ∨
   ((sent n t vid f bks from'.toNat).err=0∧(sent n t vid f bks from'.toNat).wait=[]∧∃so sc ss gk bo' bc',e=.returned (.tuple #[.slice so (ss:List AV).length sc,.slice (some ⟨gk,0,none⟩) n.K n.K,.bool true,.agg #[.int .i64 0,.int .i64 0]])∧SdIs w w' n.K f (sent n t vid f bks from'.toNat) so sc ss gk bo' bc'))))
theorem sErr_zero {n:Net}{t:List Tr}{B:Nat}{from' vid:Int}{f:F}(h:(sErr n t B from' vid f).1=0):sErr n t B from' vid f=(0,0)∧(onErr n t dn0 0).1=0∧B=n.K∧(0≤from'∧from'≤(n.K:Int)-1)∧(1≤vid∧vid≤4094)∧f.tagged=false∧wrong f.dst f.src f.tagged f.prio f.vid f.type f.n=0∧stray n vid t.length=false:=by
 unfold sErr at h ⊢;by_cases q:(onErr n t dn0 0).1=0
 ·rw[if_neg (fun z=>z q)] at h ⊢;simp only at h;rw[h];unfold besErr at h;by_cases c1:B≠n.K
  ·rw[if_pos c1] at h;cases h
  ·rw[if_neg c1] at h;by_cases c2:0≤from'∧from'≤(n.K:Int)-1
   ·rw[if_neg (fun z=>z c2)] at h;by_cases c3:1≤vid∧vid≤4094
    ·rw[if_neg (fun z=>z c3)] at h;by_cases c4:f.tagged=true
     ·rw[if_pos c4] at h;cases h
     ·rw[if_neg c4] at h;by_cases c5:wrong f.dst f.src f.tagged f.prio f.vid f.type f.n=0
      ·rw[if_neg (fun z=>z c5)] at h;by_cases c6:stray n vid t.length=true
       ·rw[if_pos c6] at h;cases h
       ·exact⟨rfl,q,by omega,c2,c3,by simpa using c4,c5,by simpa using c6⟩
      ·rw[if_pos c5] at h;exact absurd h c5
    ·rw[if_pos c3] at h;cases h
   ·rw[if_pos c2] at h;cases h
 ·rw[if_pos q] at h;exact absurd h q
structure RBx (W:World) (n:Net) (T:Nat) (oao:Option Addr) (ocap:Nat) (vid:Int) (gk TB NB VB KB:Nat):Prop where
 tb:W.heap[TB]?=some (.cells #[.slice oao T ocap] 43)
 nb:W.heap[NB]?=some (.cells #[.slice n.bao n.K n.bcap,.slice n.lao n.L n.lcap] 32)
 vb:W.heap[VB]?=some (.cells #[.int .i64 vid] 3)
 kb:W.heap[KB]?=some (.cells #[.slice (some ⟨gk,0,none⟩) n.K n.K] 93)
theorem cyh_of {w W:World}{n:Net}{t:List Tr}{oao:Option Addr}{ocap:Nat}{vid:Int}{TB NB VB KB b0 gk P M nM:Nat}{f:F}(hb:Bl w W) (hgk:w.heap.size≤gk) (hgl:gk<W.heap.size) (hb0:b0≤W.heap.size) (hR:n.Right) (hn:n.at' w) (ht:TrRow w oao ocap t) (hf:t.length≤4) (hd:ByteRow w f.ao f.n f.cap f.bs) (hnil:NilOk f.ao f.n f.cap) (h1:0≤f.dst∧f.dst<18446744073709551616) (h2:0≤f.src∧f.src<18446744073709551616)
  (hx:RBx W n t.length oao ocap vid gk TB NB VB KB) (hne:TB≠gk∧NB≠gk∧VB≠gk∧KB≠gk∧P≠gk∧M≠gk) (hP:W.cell? ⟨P,0,none⟩=some (.map (some M))) (hM:CrW W M nM (crossTo n.ls n.L)):CyH W n t oao ocap vid TB NB VB KB b0 gk n.K P M nM f:=by
 have low:∀V,W.grownBy V (some gk)→Bl w V:=fun V hV=>⟨hV.os.trans hb.os,hV.tape.trans hb.tape,hV.output.trans hb.output,Nat.le_trans hb.size hV.size,fun i hi=>(hV.block i (Nat.lt_of_lt_of_le hi hb.size) (by simp;omega)).trans (hb.block i hi)⟩
 have kp:∀{V:World}{g:Nat}{o:Obj},W.grownBy V (some gk)→g≠gk→W.heap[g]?=some o→V.heap[g]?=some o:=fun {V g o} hV hg h=>(hV.block g (gSm.1 h).1 (by simpa using hg)).trans h;obtain⟨n1,n2,n3,n4,n5,n6⟩:=hne;refine⟨hgl,hb0,hR,fun V bks bo bc hV hk=>⟨kp hV n1 hx.tb,kp hV n2 hx.nb,kp hV n3 hx.vb,kp hV n4 hx.kb,hn.below (low V hV),hR,ht.below (low V hV),hf,hk,Nat.le_refl _⟩,fun V hV=>hd.below (low V hV),hnil,h1,h2,fun V hV=>⟨?_,hM.same (hV.block M hM.lt (by simpa using n6))⟩⟩;have hl:=block_lt_of_cell hP;have e:V.heap[P]?=W.heap[P]?:=hV.block P hl (by simpa using n5);unfold World.cell? at hP ⊢;simp only at hP ⊢;rw[e];exact hP
end
end Go.Proofs.YtflghpnpjmodaaaGreatDoor
