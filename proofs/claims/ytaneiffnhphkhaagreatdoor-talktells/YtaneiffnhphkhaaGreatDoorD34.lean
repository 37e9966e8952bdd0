/- walks: the document's Start (written by tools/gen_tf5.py out of tools/TF5.in) -/
import Derived.Test.YtaneiffnhphkhaaGreatDoorD28
import Derived.Test.YtaneiffnhphkhaaGreatDoorD22
import Derived.Test.YtaneiffnhphkhaaGreatDoorD29
set_option maxRecDepth 100000
set_option maxHeartbeats 40000000
namespace Go.Proofs.YtaneiffnhphkhaaGreatDoor
section
open Go.RowKit
open Vc (V Of)
open Pl (En Lk Br Net LN lf)
open Tk (Md Mnd)
theorem OwnM.rk {W:World}{base:Nat}{v:Value}{l:List Mi}(h:OwnM W base v l):RkM W base v l:=⟨h.row,fun m hm=>⟨(h.each m hm).roles,(h.each m hm).calm⟩⟩
theorem OwnM.kept {W W':World}{base:Nat}{v:Value}{l:List Mi}(h:OwnM W base v l) (hk:∀q,base≤q→q<W.heap.size→W'.heap[q]?=W.heap[q]?):OwnM W' base v l:=by
 have f:∀{e k n:Nat}{v:Value}{xs:List Value},W.ownsRow base e k v n xs→W'.ownsRow base e k v n xs:=fun ho=>owns_keep ho (fun q hq=>hk q (oCb ho q hq).1 (oCb ho q hq).2);exact⟨f h.row,fun m hm=>⟨f (h.each m hm).ports,f (h.each m hm).roles,f (h.each m hm).calm⟩⟩
structure TkS (w W:World) (n:Net) (BN RT RF OT base k:Nat) (ao:Option Addr) (cap:Nat) (t':List Tr):Prop where
 low:Bl w W
 net:W.heap[BN]?=some (.cells #[.slice n.bao n.K n.bcap,.slice n.lao n.L n.lcap] 25)
 res:W.heap[RT]?=some (.cells #[.slice none 0 0] 29)
 flt:W.heap[RF]?=some (.cells #[.int .i64 0,.int .i64 0] 32)
 out:W.heap[OT]?=some (.cells #[.slice ao t'.length cap] 29)
 rk:RkT W base (.slice ao t'.length cap) t'
 own:∀x∈t',OwnM W base (.slice x.ao x.l.length x.cap) x.l
 len:t'.length=k
 first:∀j,j<k→(tat t' j).l.length=n.K∧∀i,i<n.K→isFirst n j i (mat (tat t' j).l i)
 big:base≤W.heap.size
 ord:w.heap.size≤BN∧BN<RT∧RT<RF∧RF<OT∧OT<base
theorem TkS.below {w W W':World}{n:Net}{BN RT RF OT base k:Nat}{ao:Option Addr}{cap:Nat}{t':List Tr}(h:TkS w W n BN RT RF OT base k ao cap t') (hb:Bl W W'):TkS w W' n BN RT RF OT base k ao cap t' :=
 ⟨h.low.trans (hb.mono h.low.size),keep h.net hb,keep h.res hb,keep h.flt hb,keep h.out hb,h.rk.below hb,fun x hx=>(h.own x hx).below hb,h.len,h.first,Nat.le_trans h.big hb.size,h.ord⟩
theorem TkS.next {w W:World}{n:Net}{BN RT RF OT base k b2:Nat}{ao ao2:Option Addr}{cap cap2:Nat}{t':List Tr}{l':List Mi}(h:TkS w W n BN RT RF OT base k ao cap t') (hl:t'.length≤1000) (hm:OwnM W b2 (.slice ao2 l'.length cap2) l') (hbb:base≤b2) (ht:l'.length=n.K∧∀i,i<n.K→isFirst n k i (mat l' i)) :
  ∃a c W2,(Builtin.append_ #[27,27] 27 #[.slice ao t'.length cap,.slice (some ⟨W.heap.size,0,none⟩) 1 1]).run Tryz.prog (W.alloc (.cells #[.slice ao2 l'.length cap2] 64))=.ok (.slice a (t'++[Tr.mk ao2 cap2 l']).length c) W2∧(W2.cell? ⟨OT,0,none⟩=some (.slice ao t'.length cap)∧W2.frozen? ⟨OT,0,none⟩=false) ∧
   TkS w (W2.setCell ⟨OT,0,none⟩ (.slice a (t'++[Tr.mk ao2 cap2 l']).length c)) n BN RT RF OT base (k+1) a c (t'++[Tr.mk ao2 cap2 l']):=by
 obtain⟨a,c,W2,r,hk,hb,hq⟩:=more_r base W (.slice ao t'.length cap) t' ⟨ao2,cap2,l'⟩ h.rk ((hm.rk).mono hbb) hl h.big;have ho:=hq _ _ _ h.out (by decide);have hn:=hq _ _ _ h.net (by decide);have hr:=hq _ _ _ h.res (by decide);have hf:=hq _ _ _ h.flt (by decide);obtain⟨o1,o2,o3,o4,o5⟩:=h.ord;have hsz:base≤(W2.setCell ⟨OT,0,none⟩ (.slice a (t'++[Tr.mk ao2 cap2 l']).length c)).heap.size:=by
  have h1:=hb.size;have h2:(W2.setCell ⟨OT,0,none⟩ (.slice a (t'++[Tr.mk ao2 cap2 l']).length c)).heap.size=W2.heap.size:=(by simp)
  have h3:=h.big;omega
 have hlow:Bl w W2:=h.low.trans (hb.mono (show w.heap.size≤base by omega));have ko:∀{l:List Mi}{v:Value},OwnM W base v l→OwnM (W2.setCell ⟨OT,0,none⟩ (.slice a (t'++[Tr.mk ao2 cap2 l']).length c)) base v l:=fun {l v} hO=>by
  have h1:OwnM W2 base v l:=hO.keep (fun q cur ty hc ht=>(hq q cur ty hc (by rcases ht with e | e<;>rw[e]<;>decide)).trans hc.symm);exact h1.kept (fun q hq _=>pset_keep2 (by omega))
 refine⟨a,c,W2,r,⟨one_cell ho,frozen_of_row _ _ _ _ _ ho⟩,hlow.setCell (show w.heap.size≤OT by omega) _,pset_keep hn (by omega),pset_keep hr (by omega),pset_keep hf (by omega),?_,hk.keep (fun q _ _ hq _ _=>pset_keep2 (by omega)),fun x hx => ?_,by rw[List.length_append,h.len];rfl,fun j hj => ?_,hsz,h.ord⟩
 ·rw[heap_setCell_same _ _ _ _ _ _ ho];rfl
 ·rcases List.mem_append.1 hx with hx | hx
  ·exact ko (h.own x hx)
  ·have:x=Tr.mk ao2 cap2 l':=by simpa using hx
   subst this;exact ko (hm.mono hbb)
 ·by_cases e:j=k
  ·subst e;rw[tat_right _ _ _ (by rw[h.len];exact Nat.le_refl _),h.len,Nat.sub_self];exact ht
  ·rw[tat_left _ _ _ (by rw[h.len];omega)];exact h.first j (by omega)
theorem TkS.done {w W W3:World}{n:Net}{BN RT RF OT base:Nat}{T:Nat}{ao:Option Addr}{cap:Nat}{t':List Tr}(h:TkS w W n BN RT RF OT base T ao cap t') (hT:1≤T∧T≤4) (hK:n.K≤12) (hs:W3.heap.size=W.heap.size) (hk:∀q,base≤q→W3.heap[q]?=W.heap[q]?):Kept W3 w.heap.size (fun V=>StT V n T ao cap t'):=fun V hV=>by
 have hbw:w.heap.size≤base:=(by have:=h.ord;omega)
 have hVW:∀q,base≤q→q<W.heap.size→V.heap[q]?=W.heap[q]?:=fun q h1 h2=>(hV q (by omega) (by omega)).trans (hk q h1);have hF:∀j,j<T→∀x,x<n.K→isFirst n j x (mat (tat t' j).l x):=fun j hj x hx=>(h.first j hj).2 x hx;have hL:∀j,j<T→(tat t' j).l.length=n.K:=fun j hj=>(h.first j hj).1;have tl:=h.len;have hrow:TrRow V ao cap t':=by
  have hrk:RkT V base (.slice ao t'.length cap) t':=h.rk.keep (fun q _ _ hq hc _=>hVW q hq (lt_some hc));refine hrk.row' (by omega) (fun k hk=>by rw[hL k (by omega)];omega) (fun k hk i hi => ?_);have ho:=(h.own _ (tat_mem hk)).kept hVW;exact owns_ils (ho.each _ (mat_mem hi)).ports
 refine⟨hrow,by rw[tl],?_,fun j hj x hx y => ?_,fun j hj x hx => ?_⟩
 ·refine fit_iff.2 ⟨by rw[tl];exact hT,fun j hj => ?_⟩;rw[tl] at hj;refine⟨hL j hj,fun x hx => ?_⟩;obtain⟨_,e1,e2,e3⟩:=hF j hj x hx;rw[e1,e2,e3,zer_len];exact⟨rfl,rfl,rfl⟩
 ·rw[tl] at hj;rw[hL j hj] at hx;obtain⟨_,_,_,e3⟩:=hF j hj x hx;rw[e3,zer_get];exact⟨Int.le_refl _,fun h=>absurd h (Int.lt_irrefl _)⟩
 ·rw[tl] at hj;obtain⟨e0,_,e2,e3⟩:=hF j hj x hx;unfold msT startMs;rw[e0,e2,e3]
def RstW (w:World) (n:Net) (trees:Int) (e:Ending) (w':World):Prop :=
 Bl w w'∧(((stErr n trees).1≠0∧e=.returned (.tuple #[.agg #[.slice none 0 0],.agg #[.int .i64 (stErr n trees).1,.int .i64 (stErr n trees).2]])) ∨
  ((stErr n trees).1=0∧∃(oao:Option Addr) (ocap:Nat) (t0:List Tr),e=.returned (.tuple #[.agg #[.slice oao t0.length ocap],.agg #[.int .i64 0,.int .i64 0]])∧Kept w' w.heap.size (fun V=>StT V n trees oao ocap t0)))
theorem first_next {n:Net}{k i:Nat}{l:List Mi}{x:Mi}(hl:l.length=i) (h:∀j,j<i→isFirst n k j (mat l j)) (hx:isFirst n k i x):(l++[x]).length=i+1∧∀j,j<i+1→isFirst n k j (mat (l++[x]) j):=by
 refine⟨by rw[List.length_append,hl];rfl,fun j hj => ?_⟩;by_cases e:j=i
 ·subst e;rw[mat_right _ _ _ (by rw[hl];exact Nat.le_refl _),hl,Nat.sub_self];exact hx
 ·rw[mat_left _ _ _ (by rw[hl];omega)];exact h j (by omega)
end
section
open Go.RowKit
open Vc (V Of)
open Pl (En Lk Br Net)
open Tk (Md Mnd Cn Sc Dn)
theorem rise_few {l:List Int}{m:Nat}(h:l.Pairwise (· < ·)) (hx:∀x,x∈l→1≤x∧x≤(m:Int)):l.length≤m:=by
 induction m generalizing l with
 | zero =>
  cases l with
  | nil=>exact Nat.le_refl _
  | cons a l=>have:=hx a (by simp);omega
 | succ m ih =>
  have h1:=ih (l:=l.filter (fun x=>decide (x≤(m:Int)))) (h.filter _) (fun x hm=>by
   obtain⟨a,b⟩:=List.mem_filter.1 hm;have:=hx x a;simp at b;omega)
  have h2:(l.filter (fun x=>!decide (x≤(m:Int)))).length≤1:=by
   have hp:=h.filter (fun x=>!decide (x≤(m:Int)));have hm:∀x,x∈l.filter (fun x=>!decide (x≤(m:Int)))→x=(m:Int)+1:=fun x hm=>by
    obtain⟨a,b⟩:=List.mem_filter.1 hm;have:=hx x a;simp at b;omega
   generalize l.filter (fun x=>!decide (x≤(m:Int)))=k at *;match k with
   | []=>simp
   | [a]=>simp
   | a :: b :: k =>
    have:=(List.pairwise_cons.1 hp).1 b (by simp);have e1:=hm a (by simp);have e2:=hm b (by simp);omega
  have h3:l.length=(l.filter (fun x=>decide (x≤(m:Int)))).length+(l.filter (fun x=>!decide (x≤(m:Int)))).length:=by
   clear h hx ih h1 h2;induction l with
   | nil=>rfl
   | cons a l ih =>
    by_cases q:a≤(m:Int)
    ·simp[q,ih];omega
    ·simp[q,ih];omega
  omega
theorem rstart_any (n:Net) (trees:Int) (w:World) (hwf:n.Wf) (hat:n.at' w) :
  Calls Tryz.prog 13 #[n.val,.int .i64 trees] w fun e w'=>RstW w n trees e w':=by
 obtain⟨X,HX⟩:∃X,Hid (X=((w.alloc (.cells #[.slice n.bao n.K n.bcap,.slice n.lao n.L n.lcap] 25)).alloc (.cells #[.slice none 0 0] 29)).alloc (.cells #[.int .i64 0,.int .i64 0] 32)):=⟨_,rfl⟩
 have hXB:Bl w X:=(by rw[HX.out];exact(bA2 _ _ _).alloc (by simp;omega) _)
 have s2:X.heap.size=w.heap.size+1+1+1:=(by rw[HX.out];simp)
 have g0:X.heap[w.heap.size]?=some (.cells #[.slice n.bao n.K n.bcap,.slice n.lao n.L n.lcap] 25):=(by rw[HX.out];exact keep (heap_alloc2_old _ _ _) (bA1 _ _))
 have g1:X.heap[w.heap.size+1]?=some (.cells #[.slice none 0 0] 29):=(by rw[HX.out];exact keep (heap_alloc2_new _ _ _) (bA1 _ _))
 have g2:X.heap[w.heap.size+1+1]?=some (.cells #[.int .i64 0,.int .i64 0] 32):=by
  have:w.heap.size+1+1=((w.alloc (.cells #[.slice n.bao n.K n.bcap,.slice n.lao n.L n.lcap] 25)).alloc (.cells #[.slice none 0 0] 29)).heap.size:=by simp
  rw[HX.out,this];exact heap_alloc_last _ _
 obtain⟨BN,HBN⟩:∃BN,Hid (BN=w.heap.size):=⟨_,rfl⟩
 obtain⟨RT,HRT⟩:∃RT,Hid (RT=w.heap.size+1):=⟨_,rfl⟩
 obtain⟨RF,HRF⟩:∃RF,Hid (RF=w.heap.size+1+1):=⟨_,rfl⟩
 rw[←HBN.out] at g0;rw[←HRT.out] at g1;rw[←HRF.out] at g2;have ne3:RT≠RF:=(by have:=HRT.out;have:=HRF.out;omega)
 have le2:w.heap.size≤RT:=(by have:=HRT.out;omega)
 have le3:w.heap.size≤RF:=(by have:=HRF.out;omega)
 have lt2:RT<X.heap.size:=(by have:=HRT.out;omega)
 have lt3:RF<X.heap.size:=(by have:=HRF.out;omega)
 have HC:Hid (∀V,Bl X V→(V.cell? ⟨BN,0,none⟩=some (.slice n.bao n.K n.bcap)∧V.cell? ⟨BN,1,none⟩=some (.slice n.lao n.L n.lcap))∧V.cell? ⟨RT,0,none⟩=some (.slice none 0 0)∧(V.cell? ⟨RF,0,none⟩=some (.int .i64 0)∧V.cell? ⟨RF,1,none⟩=some (.int .i64 0))∧V.frozen? ⟨RT,0,none⟩=false∧V.frozen? ⟨RF,0,none⟩=false∧V.frozen? ⟨RF,1,none⟩=false):=fun V hV =>
  ⟨tC2 (keep g0 hV),one_cell (keep g1 hV),tC2 (keep g2 hV),frozen_of_row _ _ _ _ _ (keep g1 hV),frozen_of_row _ _ _ _ _ (keep g2 hV),frozen_of_row _ _ _ _ _ (keep g2 hV)⟩
 have HH:Hid (∀V,Bl X V→V.heap[RT]?=some (.cells #[.slice none 0 0] 29)∧V.heap[RF]?=some (.cells #[.int .i64 0,.int .i64 0] 32)∧Bl w V):=fun V hV=>⟨keep g1 hV,keep g2 hV,hXB.trans (hV.mono hXB.size)⟩
 have HBN2:Hid (∀V,Bl X V→V.heap[BN]?=some (.cells #[.slice n.bao n.K n.bcap,.slice n.lao n.L n.lcap] 25)):=fun V hV=>keep g0 hV;have HWR:Hid (Calls Tryz.prog 34 #[.agg #[.slice n.bao n.K n.bcap,.slice n.lao n.L n.lcap]] X fun e w'=>e=.returned (.agg #[.int .i64 n.wrong.1,.int .i64 n.wrong.2])∧Hid (Bl X w')):=(rwrong6_any n X (hat.below hXB)).mono (fun e w' h=>⟨h.1,h.2⟩);have HATW0:∀V,Bl w V→n.at' V:=fun V hV=>hat.below hV;have HAT:Hid (∀V,Bl X V→n.at' V):=fun V hV=>hat.below (hXB.trans (hV.mono hXB.size));have HRG:Hid (n.wrong.1=0→n.Right):=right_of hwf;have g0':=HC.out X (Below.refl _ _);clear hwf hat s2 hXB g0 g1 g2;simp only[Pl.Net.val];go_enter Tryz.func13,Tryz.ntmps13;obtain⟨⟨x0,x1⟩,_⟩:=g0';rw[HX.out,HBN.out] at x0 x1;(go_wp2_with fail);rw[←HX.out,←HRF.out,←HRT.out,←HBN.out];refine HWR.out.mono ?_;rintro e w1 ⟨rfl,H1⟩;clear x0 x1 HWR;obtain⟨V1,HV1⟩:∃V1,Hid (V1=w1.alloc (.cells #[.int .i64 n.wrong.1,.int .i64 n.wrong.2] 32)):=⟨_,rfl⟩
 have hV1:Bl X V1:=(by rw[HV1.out];exact H1.out.alloc H1.out.size _)
 have f0:V1.cell? ⟨w1.heap.size,0,none⟩=some (.int .i64 n.wrong.1)∧V1.cell? ⟨w1.heap.size,1,none⟩=some (.int .i64 n.wrong.2):=tC2 (by rw[HV1.out];exact heap_alloc_last _ _);obtain⟨f0,f1⟩:=f0;obtain⟨⟨p0,p1⟩,p2,⟨p3,p4⟩,q2,q3,q4⟩:=HC.out V1 hV1;have y0:=f0;rw[HV1.out] at y0;by_cases q:n.wrong.1=0
 ·have R:=HRG.out q;have HR:Hid n.Right:=R;have hbx:=HBN2.out V1 hV1;rcases(by omega:trees<1∨(¬trees<1∧trees > 4)∨(¬trees<1∧¬trees > 4)) with ht | ⟨ht,ht2⟩ | ⟨ht,ht2⟩
  ·have HE:Hid (stErr n trees=(3,0)):=by
    show(if n.wrong.1≠0 then n.wrong else if ¬(1≤trees∧trees≤4) then(3,0) else(0,0))=_;rw[if_neg (fun z=>z q),if_pos (by omega)]
   have HHR:Hid (V1.heap[RT]?=some (.cells #[.slice none 0 0] 29)∧V1.heap[RF]?=some (.cells #[.int .i64 0,.int .i64 0] 32)∧Bl w V1):=HH.out _ hV1;rw[HV1.out] at p2 p3 p4 q2 q3 q4;rw[q] at y0 p2 p3 p4 q2 q3 q4 HV1 ⊢;clear f0 f1 p0 p1 hV1 HRG HC HH HBN2 HAT HR hbx R q;(go_wp2_with fail);rw[←HV1.out];refine bodyPost_ret (v:=.tuple #[.agg #[.slice none 0 0],.agg #[.int .i64 3,.int .i64 0]]) (results_row2 Tryz.results13 _ _ RT RF 29 32 #[.slice none 0 0] #[.int .i64 3,.int .i64 0] (0,0) (0,0) _ _ rfl rfl ?h1 ?h2 Tryz.underlying29 Tryz.underlying32 rfl rfl ?i1 ?i2) rfl ?post
   case h1=>repeat(first | (with_reducible refine drew_keep ?_) | (with_reducible exact HHR.out.1) | (with_reducible refine set1_same (a0:=Value.slice none 0 0) ?_) | (with_reducible refine set_keep ?_ ne3))
   case h2=>repeat(first | (with_reducible refine drew_keep ?_) | (with_reducible exact HHR.out.2.1) | (with_reducible refine set2_same (a0:=Value.int .i64 0) (a1:=Value.int .i64 0) ?_) | (with_reducible refine set_keep ?_ ne3.symm))
   case i1=>rw[sizeTk];try rfl
   case i2=>rw[sizeFt];try rfl
   case post =>
    refine⟨?_,Or.inl ⟨by rw[HE.out];exact(by decide:(3:Int)≠0),by rw[HE.out];try rfl⟩⟩;repeat(first | (with_reducible refine Below.drew ?_) | (with_reducible exact HHR.out.2.2) | (with_reducible refine Below.setCell ?_ le2 _) | (with_reducible refine Below.setCell ?_ le3 _))
  ·have HE:Hid (stErr n trees=(3,0)):=by
    show(if n.wrong.1≠0 then n.wrong else if ¬(1≤trees∧trees≤4) then(3,0) else(0,0))=_;rw[if_neg (fun z=>z q),if_pos (by omega)]
   have HHR:Hid (V1.heap[RT]?=some (.cells #[.slice none 0 0] 29)∧V1.heap[RF]?=some (.cells #[.int .i64 0,.int .i64 0] 32)∧Bl w V1):=HH.out _ hV1;rw[HV1.out] at p2 p3 p4 q2 q3 q4;rw[q] at y0 p2 p3 p4 q2 q3 q4 HV1 ⊢;clear f0 f1 p0 p1 hV1 HRG HC HH HBN2 HAT HR hbx R q;(go_wp2_with fail);rw[←HV1.out];refine bodyPost_ret (v:=.tuple #[.agg #[.slice none 0 0],.agg #[.int .i64 3,.int .i64 0]]) (results_row2 Tryz.results13 _ _ RT RF 29 32 #[.slice none 0 0] #[.int .i64 3,.int .i64 0] (0,0) (0,0) _ _ rfl rfl ?h1 ?h2 Tryz.underlying29 Tryz.underlying32 rfl rfl ?i1 ?i2) rfl ?post
   case h1=>repeat(first | (with_reducible refine drew_keep ?_) | (with_reducible exact HHR.out.1) | (with_reducible refine set1_same (a0:=Value.slice none 0 0) ?_) | (with_reducible refine set_keep ?_ ne3))
   case h2=>repeat(first | (with_reducible refine drew_keep ?_) | (with_reducible exact HHR.out.2.1) | (with_reducible refine set2_same (a0:=Value.int .i64 0) (a1:=Value.int .i64 0) ?_) | (with_reducible refine set_keep ?_ ne3.symm))
   case i1=>rw[sizeTk];try rfl
   case i2=>rw[sizeFt];try rfl
   case post =>
    refine⟨?_,Or.inl ⟨by rw[HE.out];exact(by decide:(3:Int)≠0),by rw[HE.out];try rfl⟩⟩;repeat(first | (with_reducible refine Below.drew ?_) | (with_reducible exact HHR.out.2.2) | (with_reducible refine Below.setCell ?_ le2 _) | (with_reducible refine Below.setCell ?_ le3 _))
  ·obtain⟨T,rfl⟩:∃T:Nat,trees=(T:Int):=⟨trees.toNat,by omega⟩
   have HT:Hid (1≤T∧T≤4):=⟨by omega,by omega⟩
   have hT4:T≤4:=(by omega)
   have hK12:n.K≤12:=R.few;have HE:Hid (stErr n T=(0,0)):=by
    show(if n.wrong.1≠0 then n.wrong else if ¬(1≤(T:Int)∧(T:Int)≤4) then(3,0) else(0,0))=_;rw[if_neg (fun z=>z q),if_neg (fun z=>z ⟨by omega,by omega⟩)]
   obtain⟨OT,HOT⟩:∃OT,Hid (OT=V1.heap.size):=⟨_,rfl⟩
   have HOT2:Hid (OT=w1.heap.size+1):=by
    have h:OT=w1.heap.size+1:=(by rw[HOT.out,HV1.out];simp)
    exact h
   obtain⟨Y,HY⟩:∃Y,Hid (Y=V1.alloc (.cells #[.slice none 0 0] 29)):=⟨_,rfl⟩
   have hYB:Bl V1 Y:=(by rw[HY.out];exact bA1 _ _)
   have hYT:Y.heap[OT]?=some (.cells #[.slice none 0 0] 29):=(by rw[HY.out,HOT.out];exact heap_alloc_last _ _)
   have hXY:Bl X Y:=hV1.trans (hYB.mono hV1.size);have hYs:Y.heap.size=OT+1:=(by rw[HY.out,HOT.out];simp)
   obtain⟨hRT,hRF,hWY⟩:=HH.out Y hXY;have hord:w.heap.size≤BN∧BN<RT∧RT<RF∧RF<OT∧OT<Y.heap.size:=by
    have e1:=HBN.out;have e2:=HRT.out;have e3:=HRF.out;have e4:=HOT.out;have e5:=hV1.size;omega
   have HS0:Hid (∃ao cap t',TkS w Y n BN RT RF OT Y.heap.size 0 ao cap t'):=⟨none,0,[],hWY,keep (HBN2.out V1 hV1) hYB,hRT,hRF,hYT,RkT.nil _ _,fun x hx=>by simp at hx,rfl,fun j hj=>absurd hj (by omega),Nat.le_refl _,hord⟩
   have HORD:Hid (w.heap.size≤BN∧BN<RT∧RT<RF∧RF<OT∧OT<Y.heap.size):=hord;have HATW:Hid (∀V,Bl w V→n.at' V):=HATW0;rw[q] at y0 HV1 ⊢;clear f0 f1 p0 p1 p2 p3 p4 q2 q3 q4 hYB hYT hXY hV1 HRG hRT hRF hWY hord hYs hbx R HAT HBN2 HC;clear q;(go_wp2_with fail);rw[←HV1.out,←HY.out,←HOT2.out];clear y0;go_loopw [8] (fun q wr=>∃k:Nat,k≤T∧q=.int .i64 k∧Hid (∃ao cap t',TkS w wr n BN RT RF OT Y.heap.size k ao cap t')) (fun q _=>T-(intOf q).toNat)
   case atStart=>exact⟨0,by omega,rfl,HS0⟩
   case round =>
    obtain⟨k,hk,rfl,hS⟩:=hrel;clear HS0;obtain⟨Q,HQ⟩:∃Q,Hid (Q=wr):=⟨_,rfl⟩
    rw[←HQ.out] at hS ⊢;clear HQ;obtain⟨tao,tcap,t',hA⟩:=hS.out;by_cases hlt:k<T
    ·have nk:(k:Int)<(T:Int):=(by omega)
     have HKT:Hid (k+1≤T):=hlt;have HK4:Hid (0≤(k:Int)∧(k:Int)≤15):=⟨by omega,by omega⟩
     obtain⟨p0,p1⟩:=tC2 hA.net;have HQ:Hid (∀V,Bl Q V→n.at' V∧TkS w V n BN RT RF OT Y.heap.size k tao tcap t'):=fun V hV=>by
      have h:=hA.below hV;exact⟨HATW.out V h.low,h⟩
     have HI0:Hid (OwnM Q Q.heap.size (.slice none ([]:List Mi).length 0) []∧([]:List Mi).length=0∧(∀j,j<0→isFirst n k j (mat [] j))∧Bl Q Q):=⟨OwnM.nil _ _,rfl,fun j hj=>absurd hj (by omega),Below.refl _ _⟩
     clear hS hA HATW;(go_wp2_with fail);clear p0 p1;go_loopw [9,38] (fun s9 s38 wr=>∃(i:Nat) (ao:Option Addr) (cap:Nat) (l:List Mi),i≤n.K∧s38=.int .i64 i∧s9=.slice ao l.length cap∧Hid (OwnM wr Q.heap.size (.slice ao l.length cap) l∧l.length=i∧(∀j,j<i→isFirst n k j (mat l j))∧Bl Q wr)) (fun _ s38 _=>n.K-(intOf s38).toNat)
     case atStart=>exact⟨0,none,0,[],by omega,rfl,rfl,HI0⟩
     case round =>
      clear HI0;obtain⟨i,lo2,lc2,l,hi,rfl,rfl,hS⟩:=hrel;obtain⟨U,HU⟩:∃U,Hid (U=wr):=⟨_,rfl⟩
      rw[←HU.out] at hS ⊢;clear HU;by_cases hlt2:i<n.K
      ·obtain⟨atU,oU⟩:=HQ.out U hS.out.2.2.2;obtain⟨bb,boff,ebb,_⟩:=CRow.some atU.brs (by omega);have hbr:=atU.brs;rw[ebb] at hbr;obtain⟨c0,c1,c2,c3,c4⟩:=BRow.cells hbr hlt2;have i0:(0:Int)≤(i:Int):=(by omega)
       have i1:(i:Int)<(n.K:Int):=(by omega)
       obtain⟨b,hb⟩:∃b,b=n.bs i:=⟨_,rfl⟩
       rw[←hb] at c0 c1 c2 c3 c4;obtain⟨U1,HU1⟩:∃U1,Hid (U1=U.alloc (.cells #[.int .u64 b.addr,.slice b.pao b.pn b.pcap,.string b.reg.s,.int .i64 b.reg.rev,.slice b.reg.ao b.reg.n b.reg.cap] 74)):=⟨_,rfl⟩
       have bU1:Bl U U1:=(by rw[HU1.out];exact bA1 _ _)
       have hU1b:U1.heap[U.heap.size]?=some (.cells #[.int .u64 b.addr,.slice b.pao b.pn b.pcap,.string b.reg.s,.int .i64 b.reg.rev,.slice b.reg.ao b.reg.n b.reg.cap] 74):=(by rw[HU1.out];exact heap_alloc_last _ _)
       obtain⟨d0,d1,d2,d3,d4⟩:=br_cells hU1b;rw[HU1.out] at d0 d1 d2 d3 d4;have hQU:Bl Q U:=hS.out.2.2.2;have hQ1:Bl Q U1:=hQU.trans (bU1.mono hQU.size);have HID:Hid (Calls Tryz.prog 35 #[.agg #[.int .u64 b.addr,.slice b.pao b.pn b.pcap,.string b.reg.s,.int .i64 b.reg.rev,.slice b.reg.ao b.reg.n b.reg.cap],.int .i64 k] U1 fun e w'=>e=.returned (.int .u64 (n.ids k i))∧Hid (Bl U1 w')):=by
        have h:=rid6_any (n.bs i) k U1 ((HQ.out U1 hQ1).1.each i hlt2) (HR.out.fine i hlt2) HK4.out;rw[←hb] at h;refine h.mono (fun e w' h=>⟨h.1.trans ?_,h.2⟩);rw[hb];rfl
       have HS:Hid (OwnM U Q.heap.size (.slice lo2 l.length lc2) l∧l.length=i∧(∀j,j<i→isFirst n k j (mat l j))∧Bl Q U):=hS;have HBU:Hid (Bl U U1∧Bl Q U1):=⟨bU1,hQ1⟩
       have HLT:Hid (i<n.K):=hlt2;clear atU oU hbr hS hb bU1 hU1b hQU hQ1;rw[ebb];(go_wp2_with fail);rw[←HU1.out];refine HID.out.mono ?_;rintro e w4 ⟨rfl,H4⟩;clear HID c0 c1 c2 c3 c4 d0 d1 d2 d3 d4;have hQ4:Bl Q w4:=HBU.out.2.trans (H4.out.mono HBU.out.2.size);obtain⟨n0,n1⟩:=tC2 (HQ.out w4 hQ4).2.net;have HPO:Hid (Calls Tryz.prog 36 #[.agg #[.slice n.bao n.K n.bcap,.slice n.lao n.L n.lcap],.int .i64 i] w4 fun e w'=>∃ao cap,e=.returned (.slice ao (n.pts i).length cap)∧Hid (Bl w4 w'∧w'.ownsRow w4.heap.size 3 1 (.slice ao (n.pts i).length cap) (n.pts i).length (intCells (n.pts i)))):=by
        refine(rpts_any n i w4 (HQ.out w4 hQ4).1 HR.out.fewL HR.out.links).mono ?_;rintro e w' ⟨ao,cap,h1,_,_,_,h5,h6⟩;exact⟨ao,cap,h1,h5,h6⟩
       rw[ebb] at n0 HPO;have HB4:Hid (Bl U w4):=HBU.out.1.trans (H4.out.mono HBU.out.1.size);clear hQ4;(go_wp2_with fail);refine HPO.out.mono ?_;rintro e w5 ⟨pa,pc,rfl,H5⟩;clear HPO n0 n1;have hpl:(n.pts i).length≤1000:=by
        have e:Pl.ptsAll n.ls n.L i 30=n.pts i:=Pl.ports_same HR.out.links n.live i;obtain⟨h1,h2⟩:=Pl.ptsAll_rise HR.out.links i 30;rw[e] at h1 h2;have h3:=rise_few h1 (fun x hx=>((h2 x).1 hx).1);omega
       have hmk:∀W:World,(Instr.makeSlice 59 (.int .i64 ((n.pts i).length:Int)) (.int .i64 ((n.pts i).length:Int))).run Tryz.prog W=.ok (.slice (some ⟨W.heap.size,0,none⟩) (n.pts i).length (n.pts i).length) (W.alloc (.cells (rowC (n.pts i).length 1 (fun _ _=>.int .i64 0)) 3)):=fun W=>make_ia W hpl;have hb5:Bl U w5:=HB4.out.trans (H5.out.1.mono HB4.out.size);obtain⟨Z,HZ⟩:∃Z,Hid (Z=(w5.drew.alloc (.cells (rowC (n.pts i).length 1 (fun _ _=>.int .i64 0)) 3)).alloc (.cells (rowC (n.pts i).length 1 (fun _ _=>.int .i64 0)) 3)):=⟨_,rfl⟩
       have hZ1:Bl w5 Z:=(by rw[HZ.out];exact(Below.drew (Below.refl _ _)).trans (show Below w5.heap.size w5.drew _ from bA2 w5.drew _ _))
       have hza:Z.heap[w5.heap.size]?=some (.cells (rowC (n.pts i).length 1 (fun _ _=>.int .i64 0)) 3):=(by rw[HZ.out];exact heap_alloc2_old w5.drew _ _)
       have hzb:Z.heap[w5.heap.size+1]?=some (.cells (rowC (n.pts i).length 1 (fun _ _=>.int .i64 0)) 3):=(by rw[HZ.out];exact heap_alloc2_new w5.drew _ _)
       have hZU:Bl U Z:=hb5.trans (hZ1.mono hb5.size);have hzs:Z.heap.size=w5.heap.size+1+1:=(by rw[HZ.out];simp)
       obtain⟨hM,hl1,hl2,hbQ⟩:=HS.out;have hQs:Q.heap.size≤w5.heap.size:=Nat.le_trans hbQ.size hb5.size;have hpo:Z.ownsRow Q.heap.size 3 1 (.slice pa (n.pts i).length pc) (n.pts i).length (intCells (n.pts i)):=owns_mono (ownsC_below H5.out.2 hZ1) (by have:=HB4.out.size;have:=hbQ.size;omega);have w1:=ZeroAt.owns (base:=Q.heap.size) hza hpl (by omega);have w2:=ZeroAt.owns (base:=Q.heap.size) hzb hpl (by omega);have hq1:=hbQ.size;have hq2:=hZU.size;obtain⟨a1,m1,c1,W1,r1,rm1,o1,b1,_⟩:=more_m Q.heap.size Z (.slice lo2 l.length lc2) l (Mi.mk ⟨⟨n.ids k i,0,n.ids k i,0⟩,0,-1⟩ pa pc (n.pts i) (some ⟨w5.heap.size,0,none⟩) (n.pts i).length (zer (n.pts i).length) (some ⟨w5.heap.size+1,0,none⟩) (n.pts i).length (zer (n.pts i).length)) (hM.below hZU) ⟨hpo,w1,w2⟩ (by omega) (by omega);obtain⟨a2,m2,c2,W2,r2,rm2,o2,b2,_⟩:=more_m Q.heap.size Z (.slice lo2 l.length lc2) l (Mi.mk ⟨⟨n.ids k i,0,n.ids k i,0⟩,0,-1⟩ pa pc (n.pts i) (some ⟨w5.heap.size+1,0,none⟩) (n.pts i).length (zer (n.pts i).length) (some ⟨w5.heap.size,0,none⟩) (n.pts i).length (zer (n.pts i).length)) (hM.below hZU) ⟨hpo,w2,w1⟩ (by omega) (by omega);subst rm1 rm2;obtain⟨e1,f1⟩:=first_next (x:=Mi.mk ⟨⟨n.ids k i,0,n.ids k i,0⟩,0,-1⟩ pa pc (n.pts i) (some ⟨w5.heap.size,0,none⟩) (n.pts i).length (zer (n.pts i).length) (some ⟨w5.heap.size+1,0,none⟩) (n.pts i).length (zer (n.pts i).length)) hl1 hl2 ⟨rfl,rfl,rfl,rfl⟩;obtain⟨e2,f2⟩:=first_next (x:=Mi.mk ⟨⟨n.ids k i,0,n.ids k i,0⟩,0,-1⟩ pa pc (n.pts i) (some ⟨w5.heap.size+1,0,none⟩) (n.pts i).length (zer (n.pts i).length) (some ⟨w5.heap.size,0,none⟩) (n.pts i).length (zer (n.pts i).length)) hl1 hl2 ⟨rfl,rfl,rfl,rfl⟩;have hbz:Bl Q Z:=hbQ.trans (hZU.mono hbQ.size);unfold runAppM miA at r1 r2;simp only[zer_len] at r1 r2;obtain⟨l2,HL2⟩:∃l2:List Mi,Hid (l2=l++[Mi.mk ⟨⟨n.ids k i,0,n.ids k i,0⟩,0,-1⟩ pa pc (n.pts i) (some ⟨w5.heap.size,0,none⟩) (n.pts i).length (zer (n.pts i).length) (some ⟨w5.heap.size+1,0,none⟩) (n.pts i).length (zer (n.pts i).length)]):=⟨_,rfl⟩
       obtain⟨l3,HL3⟩:∃l3:List Mi,Hid (l3=l++[Mi.mk ⟨⟨n.ids k i,0,n.ids k i,0⟩,0,-1⟩ pa pc (n.pts i) (some ⟨w5.heap.size+1,0,none⟩) (n.pts i).length (zer (n.pts i).length) (some ⟨w5.heap.size,0,none⟩) (n.pts i).length (zer (n.pts i).length)]):=⟨_,rfl⟩
       rw[←HL2.out] at r1 o1 e1 f1;rw[←HL3.out] at r2 o2 e2 f2;have HN1:Hid (OwnM W1 Q.heap.size (.slice a1 l2.length c1) l2∧l2.length=i+1∧(∀j,j<i+1→isFirst n k j (mat l2 j))∧Bl Q W1):=⟨o1,e1,f1,hbz.trans b1⟩
       have HN2:Hid (OwnM W2 Q.heap.size (.slice a2 l3.length c2) l3∧l3.length=i+1∧(∀j,j<i+1→isFirst n k j (mat l3 j))∧Bl Q W2):=⟨o2,e2,f2,hbz.trans b2⟩
       rw[hzs] at r1 r2;have HR1:Hid _:=r1;have HR2:Hid _:=r2;rw[HZ.out] at HR1 HR2;clear hb5 hZ1 hza hzb hZU hzs hM hl1 hl2 hbQ hQs hpo w1 w2 hq1 hq2 r1 r2 o1 o2 b1 b2 e1 e2 f1 f2 hbz HL2 HL3;(go_wp2_with fail);refine wp_region_z (z:=14) (C:=fun _=>True) (by kernel_rfl) trivial (fun hHeld => ?_);refine z_take (i:=0) (v := ?_) (some 49) rfl rfl (by kernel_rfl) (by kernel_rfl) (by kernel_rfl) (by decide) (fun _ _ _ h=>h) (by rfl) ?_ hHeld ?_;rotate_left 1
       ·(intro wq;go_simp;try with_reducible rfl)
       (try simp only[Act.put,lsA,lsZ,lsS])
       refine z_take (i:=1) (v := ?_) (some 50) rfl rfl (by kernel_rfl) (by kernel_rfl) (by kernel_rfl) (by decide) (fun _ _ _ h=>h) (by rfl) ?_ hHeld ?_;rotate_left 1
       ·(intro wq;go_simp;try with_reducible rfl)
       (try simp only[Act.put,lsA,lsZ,lsS])
       refine z_take (i:=2) (v := ?_) (some 51) rfl rfl (by kernel_rfl) (by kernel_rfl) (by kernel_rfl) (by decide) (fun _ _ _ h=>h) (by rfl) ?_ hHeld ?_;rotate_left 1
       ·(intro wq;go_simp;try with_reducible rfl)
       (try simp only[Act.put,lsA,lsZ,lsS])
       refine z_take (i:=3) (v := ?_) (some 52) rfl rfl (by kernel_rfl) (by kernel_rfl) (by kernel_rfl) (by decide) (fun _ _ _ h=>h) (by rfl) ?_ hHeld ?_;rotate_left 1
       ·(intro wq;go_simp;try with_reducible rfl)
       (try simp only[Act.put,lsA,lsZ,lsS])
       refine z_take (i:=4) (v := ?_) (some 53) rfl rfl (by kernel_rfl) (by kernel_rfl) (by kernel_rfl) (by decide) (fun _ _ _ h=>h) (by rfl) ?_ hHeld ?_;rotate_left 1
       ·(intro wq;go_simp;try with_reducible rfl)
       (try simp only[Act.put,lsA,lsZ,lsS])
       refine z_take (i:=5) (v := ?_) (some 54) rfl rfl (by kernel_rfl) (by kernel_rfl) (by kernel_rfl) (by decide) (fun _ _ _ h=>h) (by rfl) ?_ hHeld ?_;rotate_left 1
       ·(intro wq;go_simp;try with_reducible rfl)
       (try simp only[Act.put,lsA,lsZ,lsS])
       refine z_take (i:=6) (v := ?_) (some 55) rfl rfl (by kernel_rfl) (by kernel_rfl) (by kernel_rfl) (by decide) (fun _ _ _ h=>h) (by rfl) ?_ hHeld ?_;rotate_left 1
       ·(intro wq;go_simp;try with_reducible rfl)
       (try simp only[Act.put,lsA,lsZ,lsS])
       refine z_take (i:=8) (v := ?_) (some 57) rfl rfl (by kernel_rfl) (by kernel_rfl) (by kernel_rfl) (by decide) (fun _ _ _ h=>h) (by rfl) ?_ hHeld ?_;rotate_left 1
       ·(intro wq;go_simp;try with_reducible rfl)
       (try simp only[Act.put,lsA,lsZ,lsS])
       refine z_take (i:=9) (v := ?_) (some 58) rfl rfl (by kernel_rfl) (by kernel_rfl) (by kernel_rfl) (by decide) (fun _ _ _ h=>h) (by rfl) ?_ hHeld ?_;rotate_left 1
       ·(intro wq;go_simp;try with_reducible rfl)
       (try simp only[Act.put,lsA,lsZ,lsS])
       refine z_two (i:=7) (j:=10) (by kernel_rfl) rfl rfl (fun K hK => ?_) (fun K hK => ?_)
       ·go_simp;refine hK.out _ _ (Or.inr trivial) (fun hHeld => ?_);clear hK K;(try simp only[Act.put,lsA,lsZ,lsS])
        refine z_one (i:=10) (by kernel_rfl) rfl (fun K hK => ?_);go_simp;refine hK.out _ _ (Or.inr trivial) (fun hHeld => ?_);clear hK K;(try simp only[Act.put,lsA,lsZ,lsS])
        refine z_take (i:=11) (v := ?_) (some 60) rfl rfl (by kernel_rfl) (by kernel_rfl) (by kernel_rfl) (by decide) (fun _ _ _ h=>h) (by rfl) ?_ hHeld ?_;rotate_left 1
        ·(intro wq;go_simp;try with_reducible rfl)
        (try simp only[Act.put,lsA,lsZ,lsS])
        refine z_one (i:=12) (by kernel_rfl) rfl (fun K hK => ?_);go_simp;refine hK.out _ _ (Or.inr trivial) (fun hHeld => ?_);clear hK K;(try simp only[Act.put,lsA,lsZ,lsS])
        refine z_one (i:=13) (by kernel_rfl) rfl (fun K hK => ?_);refine step_append_d (some 62) rfl rfl (.tmp 49) (.tmp 61) 64 rfl _ _ _ rfl rfl HR1.out ?_;refine hK.out _ _ (Or.inr trivial) (fun hHeld => ?_);clear hK K;(try simp only[Act.put,lsA,lsZ,lsS])
        refine z_one (i:=14) (by kernel_rfl) rfl (fun K hK => ?_);go_simp;refine hK.out _ _ (Or.inl (by kernel_rfl)) (fun hHeld => ?_);clear hK K;refine z_done (by kernel_rfl) ?_ _;(go_wp2_with fail);exact⟨⟨i+1,a1,c1,l2,HLT.out,by go_num,rfl,HN1⟩,by have:=HLT.out;simp[intOf];omega⟩
       ·go_simp;refine hK.out _ _ (Or.inr trivial) (fun hHeld => ?_);clear hK K;(try simp only[Act.put,lsA,lsZ,lsS])
        refine z_one (i:=7) (by kernel_rfl) rfl (fun K hK => ?_);go_simp;refine hK.out _ _ (Or.inr trivial) (fun hHeld => ?_);clear hK K;(try simp only[Act.put,lsA,lsZ,lsS])
        refine z_take (i:=11) (v := ?_) (some 60) rfl rfl (by kernel_rfl) (by kernel_rfl) (by kernel_rfl) (by decide) (fun _ _ _ h=>h) (by rfl) ?_ hHeld ?_;rotate_left 1
        ·(intro wq;go_simp;try with_reducible rfl)
        (try simp only[Act.put,lsA,lsZ,lsS])
        refine z_one (i:=12) (by kernel_rfl) rfl (fun K hK => ?_);go_simp;refine hK.out _ _ (Or.inr trivial) (fun hHeld => ?_);clear hK K;(try simp only[Act.put,lsA,lsZ,lsS])
        refine z_one (i:=13) (by kernel_rfl) rfl (fun K hK => ?_);refine step_append_d (some 62) rfl rfl (.tmp 49) (.tmp 61) 64 rfl _ _ _ rfl rfl HR2.out ?_;refine hK.out _ _ (Or.inr trivial) (fun hHeld => ?_);clear hK K;(try simp only[Act.put,lsA,lsZ,lsS])
        refine z_one (i:=14) (by kernel_rfl) rfl (fun K hK => ?_);go_simp;refine hK.out _ _ (Or.inl (by kernel_rfl)) (fun hHeld => ?_);clear hK K;refine z_done (by kernel_rfl) ?_ _;(go_wp2_with fail);exact⟨⟨i+1,a2,c2,l3,HLT.out,by go_num,rfl,HN2⟩,by have:=HLT.out;simp[intOf];omega⟩
      ·obtain rfl:i=n.K:=by omega
       obtain⟨hM,hl1,hl2,hbQ⟩:=hS.out;have hO:=(HQ.out U hbQ).2;have hbase:Y.heap.size≤Q.heap.size:=(HQ.out Q (Below.refl _ _)).2.big;obtain⟨a1,c1,W9,hrun,⟨o0,o1⟩,hN⟩:=hO.next (by rw[hO.len];omega) hM hbase ⟨hl1,hl2⟩;have ho0:=one_cell hO.out;have HN:Hid (∃ao cap t2,TkS w (W9.setCell ⟨OT,0,none⟩ (.slice a1 (t'++[Tr.mk lo2 lc2 l]).length c1)) n BN RT RF OT Y.heap.size (k+1) ao cap t2):=⟨a1,c1,_,hN⟩
       have HRR:Hid _:=hrun;clear hrun hN hO hS hM hl1 hl2 hbQ;generalize (t'++[Tr.mk lo2 lc2 l]).length=tl2 at *;go_wp2_with (at_builtin;refine wpList_append_run rfl (.tmp 65) (.tmp 67) 27 rfl _ _ _ rfl rfl HRR.out ?_)
       exact⟨⟨k+1,HKT.out,by go_num,HN⟩,by have:=HKT.out;simp[intOf];omega⟩
    ·obtain rfl:k=T:=by omega
     have nk:¬(k:Int)<(k:Int):=(by omega)
     have ho0:=one_cell hA.out;have hr0:=one_cell hA.res;have hr1:=frozen_of_row _ _ 0 _ _ hA.res;obtain⟨hf0,hf1⟩:=tC2 hA.flt;have hf2:=frozen_of_row _ _ 0 _ _ hA.flt;have hf3:=frozen_of_row _ _ 1 _ _ hA.flt;have ne5:OT≠RT:=(by have:=hA.ord;omega)
     have ne6:OT≠RF:=(by have:=hA.ord;omega)
     have ne7:=ne5.symm;have ne8:=ne6.symm;have ne9:=ne3.symm;have HB:Hid (Q.heap[RT]?=some (.cells #[.slice none 0 0] 29)∧Q.heap[RF]?=some (.cells #[.int .i64 0,.int .i64 0] 32)∧Bl w Q):=⟨hA.res,hA.flt,hA.low⟩
     have HFN:Hid (∀V,(∀q,Y.heap.size≤q→V.heap[q]?=Q.heap[q]?)→V.heap.size=Q.heap.size→Bl w V→RstW w n k (.returned (.tuple #[.agg #[.slice tao t'.length tcap],.agg #[.int .i64 0,.int .i64 0]])) V):=fun V h1 h2 h3=>⟨h3,Or.inr ⟨by rw[HE.out],tao,tcap,t',rfl,hA.done HT.out hK12 h2 h1⟩⟩
     have lo2:RT<Y.heap.size:=(by have:=HORD.out;omega)
     have lo3:RF<Y.heap.size:=(by have:=HORD.out;omega)
     clear hS hA;(go_wp2_with fail);refine bodyPost_ret (v:=.tuple #[.agg #[.slice tao t'.length tcap],.agg #[.int .i64 0,.int .i64 0]]) (results_row2 Tryz.results13 _ _ RT RF 29 32 #[.slice tao t'.length tcap] #[.int .i64 0,.int .i64 0] (0,0) (0,0) _ _ rfl rfl ?h1 ?h2 Tryz.underlying29 Tryz.underlying32 rfl rfl ?i1 ?i2) rfl ?post
     case h1=>repeat(first | (with_reducible exact HB.out.1) | (with_reducible refine set1_same (a0:=Value.slice none 0 0) ?_) | (with_reducible refine set_keep ?_ ne3))
     case h2=>repeat(first | (with_reducible exact HB.out.2.1) | (with_reducible refine set2_same (a0:=Value.int .i64 0) (a1:=Value.int .i64 0) ?_) | (with_reducible refine set_keep ?_ ne9))
     case i1=>rw[sizeTk];try rfl
     case i2=>rw[sizeFt];try rfl
     case post =>
      refine HFN.out _ ?_ ?_ ?_
      ·repeat(first | (with_reducible refine out_set ?_ lo2) | (with_reducible refine out_set ?_ lo3) | (exact(fun _ _=>rfl)))
      ·simp
      ·repeat(first | (with_reducible exact HB.out.2.2) | (with_reducible refine Below.setCell ?_ le2 _) | (with_reducible refine Below.setCell ?_ le3 _))
 ·have HE:Hid ((stErr n trees).1=n.wrong.1∧(stErr n trees).2=n.wrong.2):=by
   have:stErr n trees=n.wrong:=if_pos q;exact⟨by rw[this],by rw[this]⟩
  have q1:(n.wrong.1 != 0)=true:=(by simpa using q)
  have HHR:Hid (∀m,(V1.drewN m).heap[RT]?=some (.cells #[.slice none 0 0] 29)∧(V1.drewN m).heap[RF]?=some (.cells #[.int .i64 0,.int .i64 0] 32)∧Bl w (V1.drewN m)):=fun m=>HH.out _ (below_drewN hV1 m);have HHD:Hid (V1.drew.heap[RT]?=some (.cells #[.slice none 0 0] 29)∧V1.drew.heap[RF]?=some (.cells #[.int .i64 0,.int .i64 0] 32)∧Bl w V1.drew):=HH.out _ (Below.drew hV1);have HNE:Hid (n.wrong.1≠0):=q;have HHV:Hid (V1.heap[RT]?=some (.cells #[.slice none 0 0] 29)∧V1.heap[RF]?=some (.cells #[.int .i64 0,.int .i64 0] 32)∧Bl w V1):=HH.out _ hV1;have d2:RT≠w1.heap.size:=(by have:=H1.out.size;omega)
  have d3:RF≠w1.heap.size:=(by have:=H1.out.size;omega)
  have d5:=d2.symm;have d6:=d3.symm;clear p0 p1 hV1 HRG HC HH HBN2 HAT;generalize n.wrong.1=E1 at *;generalize n.wrong.2=E2 at *;(go_wp2_with fail);rw[←HV1.out];go_region
  (all_goals go_wp2_with fail);all_goals
   refine bodyPost_ret (v:=.tuple #[.agg #[.slice none 0 0],.agg #[.int .i64 E1,.int .i64 E2]]) (results_row2 Tryz.results13 _ _ RT RF 29 32 #[.slice none 0 0] #[.int .i64 E1,.int .i64 E2] (0,0) (0,0) _ _ rfl rfl ?h1 ?h2 Tryz.underlying29 Tryz.underlying32 rfl rfl ?i1 ?i2) rfl ?post
   case h1=>repeat(first | (with_reducible refine drew_keep ?_) | (with_reducible exact(HHR.out _).1) | (with_reducible exact HHD.out.1) | (with_reducible exact HHV.out.1) | (with_reducible refine set1_same (a0:=Value.slice none 0 0) ?_) | (with_reducible refine set_keep ?_ ne3))
   case h2=>repeat(first | (with_reducible refine drew_keep ?_) | (with_reducible exact(HHR.out _).2.1) | (with_reducible exact HHD.out.2.1) | (with_reducible exact HHV.out.2.1) | (with_reducible refine set2_same (a0:=Value.int .i64 0) (a1:=Value.int .i64 0) ?_) | (with_reducible refine set_keep ?_ ne3.symm))
   case i1=>rw[sizeTk];try rfl
   case i2=>rw[sizeFt];try rfl
   case post =>
    refine⟨?_,Or.inl ⟨by rw[HE.out.1];exact HNE.out,by rw[HE.out.1,HE.out.2]⟩⟩;repeat(first | (with_reducible refine Below.drew ?_) | (with_reducible exact(HHR.out _).2.2) | (with_reducible exact HHD.out.2.2) | (with_reducible exact HHV.out.2.2) | (with_reducible refine Below.setCell ?_ le2 _) | (with_reducible refine Below.setCell ?_ le3 _))
end
end Go.Proofs.YtaneiffnhphkhaaGreatDoor
