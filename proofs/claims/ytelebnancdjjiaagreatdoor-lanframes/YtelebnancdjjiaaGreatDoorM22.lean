/- Two and three results in boxes; boxes that are written -/
import Derived.Test.YtelebnancdjjiaaGreatDoorM21
import Derived.Test.YtelebnancdjjiaaGreatDoorM16
import Derived.Test.YtelebnancdjjiaaGreatDoorM08
import Derived.Test.YtelebnancdjjiaaGreatDoorM01
set_option maxRecDepth 100000
set_option maxHeartbeats 6000000
namespace Go.Proofs.YtelebnancdjjiaaGreatDoor
section
open Go.RowKit
open Tk (Md)
open Pl (Br Net Lk)
theorem infoInts:(Tryz.prog.info? 52).map (fun i=>(i.zero,i.size,i.bytes))=some (some (.slice none 0 0),1,24):=by kernel_rfl
def ptsN (n:Net) (i:Nat):List Int:=(Pl.ends n.ls n.live n.L i).map (·.port)
def fitT (n:Net) (t:List Tr):Bool:=decide ((1:Int)≤(t.length:Int)∧(t.length:Int)≤4)&&decide (∀k,k<t.length→(tat t k).l.length=n.K∧∀i,i<n.K→(mat (tat t k).l i).has (ptsN n i)=true)
structure PsAt (w:World) (n:Net) (G Bp:Nat) (ps:Nat→Po) (k:Nat):Prop where
 blk:w.heap[G]?=some (.cells (rowC n.K 1 (fun i _=>.slice (ps i).ao (ps i).l.length (ps i).cap)) 52)
 box:w.heap[Bp]?=some (.cells #[.slice (some ⟨G,0,none⟩) n.K n.K] 213)
 done:∀i,i<k→(ps i).l=ptsN n i∧ILs w (ps i).ao (ps i).cap (ps i).l∧∀ad,(ps i).ao=some ad→ad.block≠G
theorem PsAt.below {w w':World}{n:Net}{G Bp:Nat}{ps:Nat→Po}{k:Nat}(h:PsAt w n G Bp ps k) (hb:Bl w w'):PsAt w' n G Bp ps k:=⟨keep h.blk hb,keep h.box hb,fun i hi=>⟨(h.done i hi).1,(h.done i hi).2.1.below hb,(h.done i hi).2.2⟩⟩
theorem PsAt.set {w:World}{n:Net}{G Bp:Nat}{ps:Nat→Po}{k:Nat}(h:PsAt w n G Bp ps k) (hne:Bp≠G) (hk:k<n.K) (p:Po) (hl:p.l=ptsN n k) (hI:ILs w p.ao p.cap p.l) (ha:∀ad,p.ao=some ad→ad.block≠G) :
  PsAt (w.setCell ⟨G,k,none⟩ (.slice p.ao p.l.length p.cap)) n G Bp (fun i=>if i=k then p else ps i) (k+1):=by
 have oth:∀b,b≠G→(w.setCell ⟨G,k,none⟩ (.slice p.ao p.l.length p.cap)).heap[b]?=w.heap[b]?:=fun b hb=>heap_setCell_other _ _ _ _ (by exact hb);have e1:(⟨G,k,none⟩:Addr)=⟨G,k*1+0,none⟩:=(by simp)
 have keepI:∀q:Po,ILs w q.ao q.cap q.l→(∀ad,q.ao=some ad→ad.block≠G)→ILs (w.setCell ⟨G,k,none⟩ (.slice p.ao p.l.length p.cap)) q.ao q.cap q.l:=fun q h1 h2=>CRow.other h1 (fun b off e _=>oth b (by have:=h2 _ e;exact this)) (by simp);refine⟨?_,(oth Bp hne).trans h.box,fun i hi => ?_⟩
 ·rw[e1,rowC_set h.blk hk (by omega),rC2 (d:=fun i _=>.slice (if i=k then p else ps i).ao (if i=k then p else ps i).l.length (if i=k then p else ps i).cap) (fun i _ j hj=>by
   unfold updC;by_cases q:i=k
   ·rw[if_pos ⟨q,by omega⟩,if_pos q]
   ·rw[if_neg (fun p=>q p.1),if_neg q])]
 ·by_cases q:i=k
  ·subst q;simp only[if_pos];exact⟨hl,keepI p hI ha,ha⟩
  ·simp only[if_neg q];have:=h.done i (by omega);exact⟨this.1,keepI _ this.2.1 this.2.2,this.2.2⟩
def psL (n:Net) (ps:Nat→Po):List Po:=(List.range n.K).map ps
theorem psL_len (n:Net) (ps:Nat→Po):(psL n ps).length=n.K:=by simp[psL]
theorem psL_at (n:Net) (ps:Nat→Po) {i:Nat}(h:i<n.K):pat (psL n ps) i=ps i:=by
 unfold pat psL;rw[List.getD_eq_getElem?_getD,List.getElem?_map,List.getElem?_range h];rfl
theorem PsAt.row {w:World}{n:Net}{G Bp:Nat}{ps:Nat→Po}(h:PsAt w n G Bp ps n.K):PoRow w (some ⟨G,0,none⟩) n.K (psL n ps):=by
 refine⟨?_,fun i hi => ?_⟩
 ·rw[psL_len];exact CRow.congr (rowC_crow h.blk) (fun i hi=>by rw[psL_at n ps hi])
 ·rw[psL_len] at hi;rw[psL_at n ps hi];exact(h.done i hi).2.1
theorem fitT_odd {w:World}{n:Net}{G Bp:Nat}{ps:Nat→Po}(h:PsAt w n G Bp ps n.K) (t:List Tr):fitT n t=(decide ((1:Int)≤(t.length:Int)∧(t.length:Int)≤4) && !(oddT t (psL n ps))):=by
 unfold fitT;congr 1
 have e:∀k,eqF (tat t k).l (psL n ps)=decide ((tat t k).l.length=n.K∧∀i,i<n.K→(mat (tat t k).l i).has (ptsN n i)=true):=fun k=>by
  unfold eqF;rw[decide_eq_decide,psL_len];constructor
  ·rintro⟨h1,h2⟩;refine⟨h1,fun i hi => ?_⟩;have:=h2 i (by omega);rw[psL_at n ps hi,(h.done i hi).1] at this;exact this
  ·rintro⟨h1,h2⟩;refine⟨h1,fun i hi => ?_⟩;have hi':i<n.K:=(by omega)
   rw[psL_at n ps hi',(h.done i hi').1];exact h2 i hi'
 unfold oddT;rw[←decide_not,decide_eq_decide];constructor
 ·rintro h1 ⟨k,hk,h2⟩;rw[e k,decide_eq_true (h1 k hk)] at h2;cases h2
 ·intro h1 k hk;have:=fun q=>h1 ⟨k,hk,q⟩;rw[e k] at this;simpa using this
theorem tfits_any (n:Net) (oao:Option Addr) (ocap:Nat) (t:List Tr) (w:World) (hK:n.K≤12) (hL:n.L≤40) (R:Pl.RightL n.K n.L n.ls) (hat:n.at' w) (ht:TrRow w oao ocap t) :
  Calls Tryz.prog 101 #[.agg #[.slice oao t.length ocap],n.val] w fun e w'=>e=.returned (.bool (fitT n t))∧Bl w w':=by
 have hmk:∀W:World,(Instr.makeSlice 213 (.int .i64 (n.K:Int)) (.int .i64 (n.K:Int))).run Tryz.prog W=.ok (.slice (some ⟨W.heap.size,0,none⟩) n.K n.K) (W.alloc (.cells (rowC n.K 1 (fun _ _=>.slice none 0 0)) 52)):=fun W=>make_rowD W 213 52 (.slice none 0 0) 1 24 n.K Tryz.underlying213 infoInts (by omega) rfl (by omega) (by omega) _ (fun _ j hj=>by rw[show j=0 by omega];rfl);obtain⟨X,HX⟩:∃X,Hid (X=(w.alloc (.cells #[.slice oao t.length ocap] 34)).alloc (.cells #[.slice n.bao n.K n.bcap,.slice n.lao n.L n.lcap] 25)):=⟨_,rfl⟩
 have hXB:Bl w X:=(by rw[HX.out];exact bA2 _ _ _)
 have hX0:X.heap[w.heap.size]?=some (.cells #[.slice oao t.length ocap] 34):=(by rw[HX.out];exact heap_alloc2_old _ _ _)
 have hX1:X.heap[w.heap.size+1]?=some (.cells #[.slice n.bao n.K n.bcap,.slice n.lao n.L n.lcap] 25):=(by rw[HX.out];exact heap_alloc2_new _ _ _)
 have hXs:X.heap.size=w.heap.size+2:=(by rw[HX.out];simp only[World.alloc,Array.size_push])
 obtain⟨G,HG⟩:∃G,Hid (G=w.heap.size+1+1):=⟨_,rfl⟩
 obtain⟨Bp,HP⟩:∃Bp,Hid (Bp=w.heap.size+1+1+1):=⟨_,rfl⟩
 obtain⟨Y,HY⟩:∃Y,Hid (Y=(X.alloc (.cells (rowC n.K 1 (fun _ _=>.slice none 0 0)) 52)).alloc (.cells #[.slice (some ⟨G,0,none⟩) n.K n.K] 213)):=⟨_,rfl⟩
 have hGX:G=X.heap.size:=(by rw[HG.out,hXs])
 have hPX:Bp=X.heap.size+1:=(by rw[HP.out,hXs])
 have HNE:Hid (Bp≠G∧X.heap.size≤G):=⟨by omega,by omega⟩
 have hYB:Bl X Y:=(by rw[HY.out];exact bA2 _ _ _)
 have H0:Hid (∃ps,PsAt Y n G Bp ps 0∧Bl X Y):=⟨fun _=>po0,⟨by rw[HY.out,hGX];exact heap_alloc2_old _ _ _,by rw[HY.out,hPX];exact heap_alloc2_new _ _ _,fun i hi=>absurd hi (by omega)⟩,hYB⟩
 have HC:Hid (∀W,Bl X W→W.cell? ⟨w.heap.size,0,none⟩=some (.slice oao t.length ocap)∧(W.cell? ⟨w.heap.size+1,0,none⟩=some (.slice n.bao n.K n.bcap)∧W.cell? ⟨w.heap.size+1,1,none⟩=some (.slice n.lao n.L n.lcap))∧n.at' W∧TrRow W oao ocap t∧Bl w W):=fun W hW=>by
  have h1:Bl w W:=hXB.trans (hW.mono hXB.size);exact⟨cell_of_row W _ 0 _ _ _ (keep hX0 hW),tC2 (keep hX1 hW),hat.below h1,ht.below h1,h1⟩
 have HR:Hid (Pl.RightL n.K n.L n.ls):=R;have HX2:=HX.out;obtain⟨_,⟨n0,n1⟩,_⟩:=HC.out X (Below.refl _ _);rw[HX2] at n0 n1;have htc:t.length≤ocap:=ht.row.1;have htn:=ht.many;clear HX2 hat ht R hXB hX0 hX1 hXs hGX hPX hYB;simp only[Pl.Net.val];go_enter Tryz.func101,Tryz.ntmps101;(go_wp2_with fail);rw[←HX.out,←HP.out,←HG.out,←HY.out];clear n0 n1;go_loopw [14] (fun i wr=>∃k:Nat,k≤n.K∧i=.int .i64 k∧Hid (∃ps,PsAt wr n G Bp ps k∧Bl X wr)) (fun i _=>n.K-(intOf i).toNat)
 case atStart=>exact⟨0,by omega,rfl,H0⟩
 case round =>
  obtain⟨k,hk,rfl,hX⟩:=hrel;clear H0;obtain⟨ps,hI,hB⟩:=hX.out;by_cases hlt:k<n.K
  ·obtain⟨_,⟨n0,n1⟩,hatW,_,_⟩:=HC.out wr hB;have b0:=cell_of_row wr Bp 0 _ _ _ hI.box;have HCF:Hid (∀V,Bl wr V→V.cell? ⟨G,k,none⟩=some (.slice (ps k).ao (ps k).l.length (ps k).cap)∧V.frozen? ⟨G,k,none⟩=false∧V.cell? ⟨Bp,0,none⟩=some (.slice (some ⟨G,0,none⟩) n.K n.K)∧V.cell? ⟨w.heap.size+1,1,none⟩=some (.slice n.lao n.L n.lcap)):=fun V hV=>by
    have hI2:=hI.below hV;have q:=rowC_cell hI2.blk hlt (show 0<1 by omega);rw[show k*1+0=k by omega] at q;exact⟨q,lF0 hI2.blk _,cell_of_row V Bp 0 _ _ _ hI2.box,(HC.out V (hB.trans (hV.mono hB.size))).2.1.2⟩
   have HCL:Hid (∀V,Bl wr V→Calls Tryz.prog 51 #[.slice n.lao n.L n.lcap,.int .i64 k] V fun e w'=>∃ao cap,e=.returned (.slice ao (ptsN n k).length cap)∧Hid (Bl wr w')∧Hid (∃ps,PsAt (w'.setCell ⟨G,k,none⟩ (.slice ao (ptsN n k).length cap)) n G Bp ps (k+1)∧Bl X (w'.setCell ⟨G,k,none⟩ (.slice ao (ptsN n k).length cap)))):=fun V hV=>by
    refine(pports_any n.lao n.K n.L n.lcap n.ls n.live k V hL (CRow.below hatW.lks hV) HR.out).mono ?_;rintro e w' ⟨ao,cap,rfl,z1,z2,z3⟩;have hVw:Bl wr w':=hV.trans (z2.mono hV.size);have hI2:=hI.below hVw;have hB2:Bl X w':=hB.trans (hVw.mono hB.size);have hGl:G<wr.heap.size:=(gSm.1 hI.blk).1;refine⟨ao,cap,rfl,hVw,fun i=>if i=k then⟨ao,cap,ptsN n k⟩ else ps i,hI2.set HNE.out.1 hlt ⟨ao,cap,ptsN n k⟩ rfl z1 (fun ad e => ?_),hB2.setCell HNE.out.2 _⟩;have h1:=z3 ad e;have h2:=hV.size;omega
   have HB0:Hid (∀m,Bl wr (wr.drewN m)):=fun m=>below_drewN (Below.refl _ _) m;have HB1:Hid (Bl wr wr.drew):=Below.drew (Below.refl _ _);obtain⟨x1,x2,x3,x4⟩:=HCF.out wr (Below.refl _ _);have i0:(0:Int)≤(k:Int):=(by omega)
   have i1:(k:Int)<(n.K:Int):=(by omega)
   clear hX hI hB hatW HC n0 n1 b0;generalize (ptsN n k).length=m at *;(go_wp2_with fail);go_region_with (go_at_call 51;refine(HCL.out _ (by first | exact HB0.out _ | exact HB1.out)).mono ?_;rintro e w2 ⟨a1,p1,rfl,HQ,H2⟩;obtain⟨y1,y2,y3,y4⟩:=HCF.out w2 HQ.out)
   (all_goals go_wp2_with fail);all_goals exact⟨⟨k+1,by omega,by go_num,H2⟩,by simp[intOf];omega⟩
  ·obtain hkK:k=n.K:=by omega
   rw[hkK] at hI;have hnk:¬(k:Int)<(n.K:Int):=(by omega)
   have HFT:=fitT_odd hI t;obtain⟨m0,_,_,htW,hwW⟩:=HC.out wr hB;have HCC:Hid (Calls Tryz.prog 147 #[.slice oao t.length ocap,.func (.func 144) #[] #[.pointer (some ⟨Bp,0,none⟩)]] wr fun e w'=>e=.returned (.bool (oddT t (psL n ps)))∧Hid (Bl w w')):=(tcontf_any oao ocap t (some ⟨G,0,none⟩) n.K (psL n ps) Bp wr htW hI.row (by rw[psL_len];exact cell_of_row wr Bp 0 _ _ _ hI.box)).mono (fun e w' h=>⟨h.1,hwW.trans (h.2.mono hwW.size)⟩);have HWW:Hid (Bl w wr):=hwW;clear hX hI hB htW hwW HC;generalize oddT t (psL n ps)=od at *;by_cases q:(1:Int)≤(t.length:Int)∧(t.length:Int)≤4
   ·have HF2:Hid (fitT n t=!od):=(by rw[HFT,decide_eq_true q,Bool.true_and];exact rfl)
    clear HFT;go_wp2_with (first | (go_at_call 63;refine(vwithin_any _ _ _ _).mono ?_;rintro e w1 ⟨rfl,rfl⟩;rw[decide_eq_true q]) | (go_at_call 147;refine HCC.out.mono ?_;rintro e w1 ⟨rfl,HB1⟩))
    go_ret;exact⟨by rw[HF2.out];rfl,HB1.out⟩
   ·have HF2:Hid (fitT n t=false):=(by rw[HFT,decide_eq_false q,Bool.false_and];exact rfl)
    clear HFT;go_wp2_with (go_at_call 63;refine(vwithin_any _ _ _ _).mono ?_;rintro e w1 ⟨rfl,rfl⟩;rw[decide_eq_false q])
    go_ret;exact⟨by rw[HF2.out];rfl,HWW.out⟩
def wrT (n:Net) (t:List Tr) (dn:Nat):Int×Int:=if n.wrong.1≠0 then n.wrong else if fitT n t=false then(8,0) else if 30<dn then(5,0) else(0,0)
theorem twrong_any (n:Net) (oao:Option Addr) (ocap:Nat) (t:List Tr) (dao:Option Addr) (dn dcap:Nat) (w:World) (hwf:n.Wf) (hat:n.at' w) (ht:TrRow w oao ocap t) (hdn:dn≤9223372036854775807) :
  Calls Tryz.prog 66 #[n.val,.agg #[.slice oao t.length ocap],.slice dao dn dcap] w fun e w'=>e=.returned (.agg (ftA (wrT n t dn)))∧Bl w w':=by
 obtain⟨X,HX⟩:∃X,Hid (X=(w.alloc (.cells #[.slice n.bao n.K n.bcap,.slice n.lao n.L n.lcap] 25)).alloc (.cells #[.slice oao t.length ocap] 34)):=⟨_,rfl⟩
 obtain⟨Y,HY⟩:∃Y,Hid (Y=X.alloc (.cells #[.int .i64 0,.int .i64 0] 37)):=⟨_,rfl⟩
 have hXB:Bl w X:=(by rw[HX.out];exact bA2 _ _ _)
 have hX0:X.heap[w.heap.size]?=some (.cells #[.slice n.bao n.K n.bcap,.slice n.lao n.L n.lcap] 25):=(by rw[HX.out];exact heap_alloc2_old _ _ _)
 have hX1:X.heap[w.heap.size+1]?=some (.cells #[.slice oao t.length ocap] 34):=(by rw[HX.out];exact heap_alloc2_new _ _ _)
 have hXs:X.heap.size=w.heap.size+2:=(by rw[HX.out];simp only[World.alloc,Array.size_push])
 obtain⟨F,HF⟩:∃F,Hid (F=w.heap.size+1+1):=⟨_,rfl⟩
 have hFX:F=X.heap.size:=(by rw[HF.out,hXs])
 have hXY:Bl X Y:=(by rw[HY.out];exact bA1 _ _)
 have hYF:Y.heap[F]?=some (.cells #[.int .i64 0,.int .i64 0] 37):=(by rw[HY.out,hFX];exact heap_alloc_last _ _)
 have hYB:Bl w Y:=hXB.trans (hXY.mono hXB.size);have n1:=tC2 hX0;have n2:=cell_of_row X _ 0 _ _ _ hX1;rw[HX.out] at n1 n2;obtain⟨n0,n1⟩:=n1;have m1:=tC2 (keep hX0 hXY);have m2:=cell_of_row Y _ 0 _ _ _ (keep hX1 hXY);rw[HY.out,HX.out] at m1 m2;obtain⟨m0,m1⟩:=m1;have HC:Hid (∀V,Bl Y V→(V.cell? ⟨w.heap.size,0,none⟩=some (.slice n.bao n.K n.bcap)∧V.cell? ⟨w.heap.size,1,none⟩=some (.slice n.lao n.L n.lcap))∧V.cell? ⟨w.heap.size+1,0,none⟩=some (.slice oao t.length ocap)∧(V.cell? ⟨F,0,none⟩=some (.int .i64 0)∧V.cell? ⟨F,1,none⟩=some (.int .i64 0))∧V.frozen? ⟨F,0,none⟩=false∧V.frozen? ⟨F,1,none⟩=false):=fun V hV =>
  ⟨tC2 (keep (keep hX0 hXY) hV),cell_of_row _ _ 0 _ _ _ (keep (keep hX1 hXY) hV),tC2 (keep hYF hV),frozen_of_row _ _ _ _ _ (keep hYF hV),frozen_of_row _ _ _ _ _ (keep hYF hV)⟩
 have HH:Hid (∀V,Bl Y V→V.heap[F]?=some (.cells #[.int .i64 0,.int .i64 0] 37)∧Bl w V∧w.heap.size≤F):=fun V hV=>⟨keep hYF hV,hYB.trans (hV.mono hYB.size),by omega⟩
 have HW:Hid (Calls Tryz.prog 62 #[.agg #[.slice n.bao n.K n.bcap,.slice n.lao n.L n.lcap]] Y fun e w'=>e=.returned (.agg #[.int .i64 n.wrong.1,.int .i64 n.wrong.2])∧Hid (Bl Y w')):=(pwrong_any n Y (hat.below hYB) hwf).mono (fun e w' h=>⟨h.1,h.2⟩);have HFT:Hid (n.wrong.1=0→∀W,Bl Y W→Calls Tryz.prog 101 #[.agg #[.slice oao t.length ocap],.agg #[.slice n.bao n.K n.bcap,.slice n.lao n.L n.lcap]] W fun e w'=>e=.returned (.bool (fitT n t))∧Hid (Bl Y w')):=fun h0 W hW=>by
  have R:=right_of hwf h0;have hW2:=hYB.trans (hW.mono hYB.size);exact(tfits_any n oao ocap t W R.few R.fewL R.links (hat.below hW2) (ht.below hW2)).mono (fun e w' h=>⟨h.1,hW.trans (h.2.mono hW.size)⟩)
 have HBA:Hid (∀V o,Bl Y V→Bl Y (V.alloc o)):=fun V o hV=>hV.trans ((bA1 V o).mono hV.size);clear hat ht hwf hXB hX0 hX1 hXs hFX hXY hYF hYB;simp only[Pl.Net.val];go_enter Tryz.func66,Tryz.ntmps66;(go_wp2_with fail);rw[←HX.out,←HY.out,←HF.out];refine HW.out.mono ?_;rintro e w1 ⟨rfl,H1⟩;obtain⟨V1,HV1⟩:∃V1,Hid (V1=w1.alloc (.cells #[.int .i64 n.wrong.1,.int .i64 n.wrong.2] 37)):=⟨_,rfl⟩
 have H2:Hid (Bl Y V1):=(by rw[HV1.out];exact HBA.out _ _ H1.out)
 obtain⟨⟨p0,p1⟩,p2,⟨p3,p4⟩,p5,p6⟩:=HC.out V1 H2.out;have p7:V1.cell? ⟨w1.heap.size,0,none⟩=some (.int .i64 n.wrong.1)∧V1.cell? ⟨w1.heap.size,1,none⟩=some (.int .i64 n.wrong.2):=tC2 (by rw[HV1.out];exact heap_alloc_last _ _);obtain⟨p7,p8⟩:=p7;clear n0 n1 n2 m0 m1 m2 HW;by_cases q:n.wrong.1=0
 ·have HF2:Hid (Calls Tryz.prog 101 #[.agg #[.slice oao t.length ocap],.agg #[.slice n.bao n.K n.bcap,.slice n.lao n.L n.lcap]] V1 fun e w'=>e=.returned (.bool (fitT n t))∧Hid (Bl Y w')):=HFT.out q V1 H2.out;have HR:Hid (wrT n t dn=if fitT n t=false then(8,0) else if 30<dn then(5,0) else(0,0)):=if_neg (fun h=>h q);rw[HV1.out] at p0 p1 p2 p3 p4 p5 p6 p7 p8;clear HFT;generalize n.wrong.1=r1 at *;generalize n.wrong.2=r2 at *;subst q;(go_wp2_with fail);rw[←HV1.out];refine HF2.out.mono ?_;rintro e w3 ⟨rfl,H3⟩;clear p0 p1 p2 p3 p4 p5 p6 p7 p8 HF2;obtain⟨_,_,⟨p3,p4⟩,p5,p6⟩:=HC.out w3 H3.out;cases hf:fitT n t with
  | false =>
   have HR2:Hid (ftA (wrT n t dn)=#[.int .i64 8,.int .i64 0]):=(by rw[HR.out,if_pos hf];exact rfl)
   clear HR hf;(go_wp2_with fail);exact bodyPost_ret (v:=.agg #[.int .i64 8,.int .i64 0]) (results_row (p:=6) (ty:=37) Tryz.results66 _ _ F 37 #[.int .i64 8,.int .i64 0] (0,0) _ rfl (set2_same (HH.out _ H3.out).1) Tryz.underlying37 rfl (by rw[sizeFt];rfl)) rfl ⟨by rw[HR2.out],((HH.out _ H3.out).2.1.setCell (HH.out _ H3.out).2.2 _).setCell (HH.out _ H3.out).2.2 _⟩
  | true =>
   by_cases hd:30<dn
   ·have HR2:Hid (ftA (wrT n t dn)=#[.int .i64 5,.int .i64 0]):=(by rw[HR.out,if_neg (by rw[hf];exact Bool.noConfusion),if_pos hd];exact rfl)
    have hd1:(30:Int)<(dn:Int):=(by omega)
    clear HR hf hd;(go_wp2_with fail);exact bodyPost_ret (v:=.agg #[.int .i64 5,.int .i64 0]) (results_row (p:=6) (ty:=37) Tryz.results66 _ _ F 37 #[.int .i64 5,.int .i64 0] (0,0) _ rfl (set2_same (HH.out _ H3.out).1) Tryz.underlying37 rfl (by rw[sizeFt];rfl)) rfl ⟨by rw[HR2.out],((HH.out _ H3.out).2.1.setCell (HH.out _ H3.out).2.2 _).setCell (HH.out _ H3.out).2.2 _⟩
   ·have HR2:Hid (ftA (wrT n t dn)=#[.int .i64 0,.int .i64 0]):=(by rw[HR.out,if_neg (by rw[hf];exact Bool.noConfusion),if_neg hd];exact rfl)
    have hd1:¬(30:Int)<(dn:Int):=(by omega)
    clear HR hf hd;(go_wp2_with fail);exact bodyPost_ret (v:=.agg #[.int .i64 0,.int .i64 0]) (results_row (p:=6) (ty:=37) Tryz.results66 _ _ F 37 #[.int .i64 0,.int .i64 0] (0,0) _ rfl (set2_same (HH.out _ H3.out).1) Tryz.underlying37 rfl (by rw[sizeFt];rfl)) rfl ⟨by rw[HR2.out],((HH.out _ H3.out).2.1.setCell (HH.out _ H3.out).2.2 _).setCell (HH.out _ H3.out).2.2 _⟩
 ·have HR:Hid (wrT n t dn=n.wrong):=if_pos q;have q1:(n.wrong.1 != 0)=true:=(by simpa using q)
  rw[HV1.out] at p0 p1 p2 p3 p4 p5 p6 p7 p8;clear HFT;have HR2:Hid (ftA (wrT n t dn)=#[.int .i64 n.wrong.1,.int .i64 n.wrong.2]):=(by rw[HR.out];exact rfl)
  (go_wp2_with fail);rw[←HV1.out];exact bodyPost_ret (v:=.agg #[.int .i64 n.wrong.1,.int .i64 n.wrong.2]) (results_row (p:=6) (ty:=37) Tryz.results66 _ _ F 37 #[.int .i64 n.wrong.1,.int .i64 n.wrong.2] (0,0) _ rfl (set2_same (HH.out _ H2.out).1) Tryz.underlying37 rfl (by rw[sizeFt];rfl)) rfl ⟨by rw[HR2.out],((HH.out _ H2.out).2.1.setCell (HH.out _ H2.out).2.2 _).setCell (HH.out _ H2.out).2.2 _⟩
end
section
open Go.RowKit
open Pl (Br Net Pc Lk En St)
theorem wrong_iff (n:Net):n.wrong.1=0↔¬(12<n.K∨40<n.L)∧(∀i,i<n.K→Pl.bErr n.bs i=0)∧∀i,i<n.L→Pl.lErr n.K n.ls i=0:=by
 unfold Pl.Net.wrong;by_cases c1:12<n.K∨40<n.L
 ·rw[if_pos c1];exact⟨fun h=>(by cases h),fun h=>absurd c1 h.1⟩
 ·rw[if_neg c1];by_cases c2:(Pl.firstTo (Pl.bErr n.bs) n.K).1=0
  ·rw[if_neg (fun q=>q c2)];have hb:=(Pl.firstTo_zero _ _ c2).2;exact⟨fun h=>⟨c1,hb,(Pl.firstTo_zero _ _ h).2⟩,fun h=>by rw[Pl.firstTo_all _ _ h.2.2]⟩
  ·rw[if_pos c2];exact⟨fun h=>absurd h c2,fun h=>absurd (by rw[Pl.firstTo_all _ _ h.2.1]) c2⟩
end
section
open Go.RowKit
open Vc (V Of)
open Pl (En Lk Br Net)
open Tk (Md Mnd Cn Sc Dn ixM ilist lst3 ilm)
def msT (t:List Tr) (k i:Nat):Mnd:=⟨(mat (tat t k).l i).md,(mat (tat t k).l i).roles,(mat (tat t k).l i).calm⟩
def vtT (t:List Tr) (k:Nat):Value:=.slice (tat t k).ao (tat t k).l.length (tat t k).cap
def ivM (m:Mi) (j:Nat):Value:=if j=0 then .slice m.po m.ports.length m.pc else if j=1 then .slice m.ro m.roles.length m.rc else .slice m.co m.calm.length m.cc
def ivT (t:List Tr) (a:Nat):Value:=ivM (mat (tat t ((a-12)/36)).l ((a-12)%36/3)) ((a-12)%3)
theorem ivT_ix (t:List Tr) {k i j:Nat}(hi:i<12) (hj:j<3):ivT t (ixM k i j)=ivM (mat (tat t k).l i) j:=by
 obtain⟨_,a2,a3,a4⟩:=Tk.ix_parts (k:=k) hi hj;unfold ivT;rw[a2,a3,a4]
def CalmT (t:List Tr):Prop:=∀k,k<t.length→∀i,i<(tat t k).l.length→∀j,0≤(mat (tat t k).l i).calm.getD j 0∧(0<(mat (tat t k).l i).calm.getD j 0→(mat (tat t k).l i).roles.getD j 0=1∨(mat (tat t k).l i).roles.getD j 0=2)
theorem fit_iff {n:Net}{t:List Tr}:fitT n t=true↔(1≤t.length∧t.length≤4)∧∀k,k<t.length→(tat t k).l.length=n.K∧∀i,i<n.K→((mat (tat t k).l i).ports=n.pts i∧(mat (tat t k).l i).roles.length=(n.pts i).length∧(mat (tat t k).l i).calm.length=(n.pts i).length):=by
 unfold fitT;rw[Bool.and_eq_true,decide_eq_true_eq,decide_eq_true_eq];have e:∀(m:Mi) i,m.has (ptsN n i)=true↔(m.ports=n.pts i∧m.roles.length=(n.pts i).length∧m.calm.length=(n.pts i).length):=fun m i=>by
  unfold Mi.has hasP;rw[Bool.and_eq_true,Bool.and_eq_true,decide_eq_true_eq,decide_eq_true_eq,decide_eq_true_eq];exact Iff.rfl
 constructor
 ·rintro⟨h1,h2⟩;exact⟨⟨by omega,by omega⟩,fun k hk=>⟨(h2 k hk).1,fun i hi=>(e _ _).1 ((h2 k hk).2 i hi)⟩⟩
 ·rintro⟨h1,h2⟩;exact⟨⟨by omega,by omega⟩,fun k hk=>⟨(h2 k hk).1,fun i hi=>(e _ _).2 ((h2 k hk).2 i hi)⟩⟩
theorem fit_at {n:Net}{t:List Tr}{ms:Nat→Nat→Mnd}{w:World}{oao:Option Addr}{ocap:Nat}(h:TrRow w oao ocap t) (hf:fitT n t=true) (hK:n.K≤12) (hm:∀k,k<t.length→∀i,i<n.K→ms k i=msT t k i):TkAt w n.K t.length n.pts ms oao ocap (vtT t) (ivT t):=by
 obtain⟨_,h2⟩:=fit_iff.1 hf;refine⟨h.row,fun k hk => ?_,fun k i j hk hi hj => ?_⟩
 ·have hl:=(h2 k hk).1;refine⟨(tat t k).ao,(tat t k).cap,by unfold vtT;rw[hl],?_⟩;have:=(h.each k hk).row;rw[hl] at this;refine this.congr (fun i hi => ?_);rw[ivT_ix t (by omega) (by omega),ivT_ix t (by omega) (by omega),ivT_ix t (by omega) (by omega),hm k hk i hi];rfl
 ·have hms:=hm k hk i hi;have hm:=(h.each k hk).each i (by rw[(h2 k hk).1];exact hi);obtain⟨e1,_,_⟩:=(h2 k hk).2 i hi;rw[ivT_ix t (by omega) hj];rcases(by omega:j=0∨j=1∨j=2) with q | q | q<;>subst q
  ·refine⟨(mat (tat t k).l i).po,(mat (tat t k).l i).pc,?_,?_⟩
   ·show Value.slice _ (mat (tat t k).l i).ports.length _=Value.slice _ (n.pts i).length _;rw[e1]
   ·have:=hm.ports;rw[e1] at this;exact this
  ·have el:lst3 n.pts ms k i 1=(mat (tat t k).l i).roles:=by
    show(ms k i).roles=_;rw[hms];rfl
   rw[el];exact⟨(mat (tat t k).l i).ro,(mat (tat t k).l i).rc,rfl,hm.roles⟩
  ·have el:lst3 n.pts ms k i 2=(mat (tat t k).l i).calm:=by
    show(ms k i).calm=_;rw[hms];rfl
   rw[el];exact⟨(mat (tat t k).l i).co,(mat (tat t k).l i).cc,rfl,hm.calm⟩
theorem prio_mod {n:Net}(h:n.wrong.1=0) {i:Nat}(hi:i<n.K):∀j,j<(n.bs i).pn→(n.bs i).pv j%4096=0:=fun j hj=>by
 have h0:=bErr_zero (((wrong_iff n).1 h).2.1 i hi);unfold Pl.brErr at h0;split at h0
 ·omega
 ·split at h0
  ·omega
  ·split at h0
   ·omega
   ·rename_i q1 q2 q3;have:=Pl.someTo_false (by simpa using q3) j hj;unfold Pl.oddP at this;simp only[Bool.or_eq_false_iff,decide_eq_false_iff_not,Decidable.not_not] at this;exact this.2
theorem reg_zero {n:Net}(h:n.wrong.1=0) {i:Nat}(hi:i<n.K):Rg.wrong (n.bs i).reg.s (n.bs i).reg.rev (n.bs i).reg.vs (n.bs i).reg.ts (n.bs i).reg.n=0:=by
 have h0:=bErr_zero (((wrong_iff n).1 h).2.1 i hi);unfold Pl.brErr at h0;split at h0
 ·omega
 ·split at h0
  ·omega
  ·split at h0
   ·omega
   ·exact h0
theorem net_fine {n:Net}(hw:n.Wf) (h:n.wrong.1=0) (ms:Nat→Nat→Mnd):Tk.Fine n.cn (n.sc ms):=by
 have R:=right_of hw h;refine⟨R.few,R.fewL,R.links,fun i hi=>(R.fine i hi).addr,R.apart,fun i hi=>⟨?_,fun p hp => ?_⟩⟩
 ·show(lsF (n.bs i).pv (n.bs i).pn).length≤16;rw[lsF_len];exact(R.fine i hi).few
 ·obtain⟨j,hj,rfl⟩:=lsF_mem hp;exact⟨((R.fine i hi).prio j hj).1,((R.fine i hi).prio j hj).2,prio_mod h hi j hj⟩
theorem fit_ok {n:Net}{t:List Tr}{ms:Nat→Nat→Mnd}(hw:n.Wf) (h:n.wrong.1=0) (hf:fitT n t=true) (hc:CalmT t) (hm:∀k,k<t.length→∀i,i<n.K→ms k i=msT t k i):Tk.Ok n.cn (n.sc ms) t.length:=by
 obtain⟨_,h2⟩:=fit_iff.1 hf;refine⟨net_fine hw h _,fun k hk i hi => ?_,fun k hk i hi j => ?_⟩
 ·have hi:i<n.K:=hi;obtain⟨_,e2,e3⟩:=(h2 k hk).2 i hi;rw[Pl.Net.sc_E];have e:(n.pts i).length=(n.ends i).length:=(by unfold Pl.Net.pts;simp)
  show(ms k i).roles.length=_∧(ms k i).calm.length=_;rw[hm k hk i hi];exact⟨e2.trans e,e3.trans e⟩
 ·have hi:i<n.K:=hi;show 0≤(ms k i).calm.getD j 0∧(0<(ms k i).calm.getD j 0→(ms k i).roles.getD j 0=1∨(ms k i).roles.getD j 0=2)
  rw[hm k hk i hi];exact hc k hk i (by rw[(h2 k hk).1];exact hi) j
structure SnOut (w:World) (n:Net) (T:Nat) (s:Sc) (n':Net) (oao:Option Addr) (ocap:Nat) (t':List Tr):Prop where
 net:n'.at' w
 wf:n'.Wf
 right:n'.wrong.1=0
 cn:n'.cn=n.cn
 sc:n'.sc s.ms=s
 row:TrRow w oao ocap t'
 len:t'.length=T
 each:∀k,k<T→(tat t' k).l.length=n.K∧∀i,i<n.K→msT t' k i=s.ms k i∧(mat (tat t' k).l i).ports=n.pts i
 ok:Tk.Ok n.cn s T
 regs:∀i,(n'.bs i).reg.s=(n.bs i).reg.s∧(n'.bs i).reg.rev=(n.bs i).reg.rev∧(n'.bs i).reg.n=(n.bs i).reg.n∧(n'.bs i).reg.vs=(n.bs i).reg.vs∧(n'.bs i).reg.ts=(n.bs i).reg.ts
theorem SnOut.below {w w':World}{n:Net}{T:Nat}{s:Sc}{n':Net}{oao:Option Addr}{ocap:Nat}{t':List Tr}(h:SnOut w n T s n' oao ocap t') (hb:Bl w w'):SnOut w' n T s n' oao ocap t' :=
 ⟨h.net.below hb,h.wf,h.right,h.cn,h.sc,h.row.below hb,h.len,h.each,h.ok,h.regs⟩
theorem i64_wf {x:Int}(h : -9223372036854775808≤x∧x≤9223372036854775807):(Lit.int .i64 x).wf=true:=by
 have h1:IntKind.i64.min = -9223372036854775808:=(by decide)
 have h2:IntKind.i64.max=9223372036854775807:=(by decide)
 simp only[Lit.wf,Bool.and_eq_true,decide_eq_true_eq];rw[h1,h2];exact h
theorem lErr_of {K L:Nat}{ls:Nat→Lk}(R:Pl.RightL K L ls) {i:Nat}(hi:i<L):Pl.lErr K ls i=0:=by
 obtain⟨a1,a2,a3,a4,a5,a6⟩:=R.ok i hi;have h0:Pl.lkErr K (ls i)=0:=by
  unfold Pl.lkErr;rw[if_neg (by omega),if_neg a3,if_neg (by omega)]
 unfold Pl.lErr;rw[if_neg (fun q=>q h0),if_neg];rw[Bool.not_eq_true];cases hq:Vc.someTo (fun j=>Pl.isEnd (ls j) (ls i).a (ls i).pa||Pl.isEnd (ls j) (ls i).b (ls i).pb) i with
 | false=>rfl
 | true =>
  obtain⟨j,hj,hb⟩:=Pl.someTo_iff.1 hq;obtain⟨b1,b2⟩:=R.one j i hj hi;rw[b1,b2] at hb;cases hb
theorem owns_few {w:World}{base e k n:Nat}{v:Value}{xs:List Value}(h:w.ownsRow base e k v n xs):n≤9223372036854775807:=by
 obtain⟨_,q⟩:=h;rcases q with⟨_,e⟩ | ⟨g,cap,cur,_,_,_,hn,hm,_,_⟩
 ·omega
 ·unfold maxLen at hm;omega
def reNet (n:Net) (s:Sc) (bao:Option Addr) (bcap:Nat) (lao:Option Addr) (lcap:Nat) (f:Nat→Option Addr×Nat×Option Addr×Nat):Net :=
 ⟨bao,n.K,bcap,fun i=>⟨(n.bs i).addr,(f i).1,(s.pr i).length,(f i).2.1,IL (s.pr i),⟨(n.bs i).reg.s,(n.bs i).reg.rev,(f i).2.2.1,(n.bs i).reg.n,(f i).2.2.2,(n.bs i).reg.vs,(n.bs i).reg.ts⟩⟩,lao,n.L,lcap,s.ls⟩
theorem lsF_IL (l:List Int):lsF (IL l) l.length=l:=by
 apply List.ext_getElem
 ·rw[lsF_len]
 ·intro i h1 h2;simp[lsF,IL,h2]
theorem reNet_wrong {n:Net}{s:Sc}{bao:Option Addr}{bcap:Nat}{lao:Option Addr}{lcap:Nat}{f:Nat→Option Addr×Nat×Option Addr×Nat}(hw:n.Wf) (h:n.wrong.1=0) (hf:Tk.Fine n.cn s):(reNet n s bao bcap lao lcap f).wrong.1=0∧(reNet n s bao bcap lao lcap f).Wf:=by
 obtain⟨h1,h2,h3⟩:=(wrong_iff n).1 h;have R:=right_of hw h;refine⟨(wrong_iff _).2 ⟨h1,fun i hi => ?_,fun i hi=>lErr_of hf.links hi⟩,fun i hi=>hw.addr i hi,fun i hi => ?_⟩
 ·have hi:i<n.K:=hi;have h0:=h2 i hi;have hb:Pl.brErr ((reNet n s bao bcap lao lcap f).bs i)=0:=by
   have hz:=reg_zero h hi;obtain⟨p1,p2⟩:=hf.prios i hi;have:=(R.fine i hi).addr;unfold Pl.brErr reNet;simp only;rw[if_neg (by omega),if_neg (by omega),if_neg]
   ·exact hz
   ·rw[Bool.not_eq_true];cases hq:Vc.someTo (fun j=>Pl.oddP (IL (s.pr i) j)) (s.pr i).length with
    | false=>rfl
    | true =>
     obtain⟨j,hj,hb⟩:=Pl.someTo_iff.1 hq;have hm:=p2 (IL (s.pr i) j) (by unfold IL;rw[List.getD_eq_getElem?_getD,List.getElem?_eq_getElem hj];exact List.getElem_mem hj);unfold Pl.oddP at hb;rw[decide_eq_true ⟨hm.1,hm.2.1⟩,decide_eq_false (by rw[Decidable.not_not];exact hm.2.2)] at hb;cases hb
  unfold Pl.bErr at h0 ⊢;rw[if_neg (fun q=>q hb)];rw[if_neg (fun q=>q (bErr_zero (h2 i hi)))] at h0;exact h0
 ·obtain⟨a1,a2,_,a4,a5,_⟩:=hf.links.ok i hi;have hK:n.cn.K≤12:=R.few;show(Lit.int .i64 (s.ls i).a).wf=true∧(Lit.int .i64 (s.ls i).pa).wf=true∧(Lit.int .i64 (s.ls i).b).wf=true∧(Lit.int .i64 (s.ls i).pb).wf=true;exact⟨i64_wf (by omega),i64_wf (by omega),i64_wf (by omega),i64_wf (by omega)⟩
theorem range_getD {α:Type}(g:Nat→α) (d:α) {n i:Nat}(h:i<n):((List.range n).map g).getD i d=g i:=by
 rw[List.getD_eq_getElem?_getD,List.getElem?_map,List.getElem?_range h];rfl
theorem fam_bridge {w:World}{F:Tf}{s:Sc}{M:Tm}(hK:F.c.K≤12) (hints:Fam w F.base 3 1 156 M.iv (fun a=>(F.il s a).length) (fun a i _=>.int .i64 (IL (F.il s a) i)))
  (hways:Fam w F.base 131 2 12 M.we (fun i=>if i<F.c.K then(F.rg i).n else 0) (fun i j=>wyC ((F.rg i).vs j) ((F.rg i).ts j))) {i:Nat}(hi:i<F.c.K) :
  ∃pao pcap wao wcap,M.iv i=.slice pao (s.pr i).length pcap∧IRow w pao (s.pr i).length pcap (IL (s.pr i))∧M.we i=.slice wao (F.rg i).n wcap∧WayRow w wao (F.rg i).n wcap (F.rg i).vs (F.rg i).ts:=by
 have h1:=hints.own i (by omega);have e1:F.il s i=s.pr i:=Tk.ilist_prio hK F.pts s hi;rw[e1] at h1;obtain⟨pao,pcap,ep,hp,_,_⟩:=owns_c (by omega) h1;have h2:=hways.own i (by omega);rw[if_pos hi] at h2;obtain⟨wao,wcap,ew,hw,_,_⟩:=owns_c (by omega) h2;refine⟨pao,pcap,wao,wcap,ep,hp,ew,⟨hw.1,fun hpz => ?_⟩⟩;obtain⟨b,off,e,hb,hc⟩:=hw.2 hpz;exact⟨b,off,e,hb,fun j hj=>⟨hc j hj 0 (by omega),hc j hj 1 (by omega)⟩⟩
theorem owns_cs {w:World}{base e k m n cap:Nat}{ao:Option Addr}{c:Nat→Nat→Value}(hk:0<k) (h:w.ownsRow base e k (.slice ao m cap) n (cellsL n k c)):m=n∧CRow w ao n cap k c:=by
 obtain⟨ao',cap',e1,h1,_⟩:=owns_c hk h;injection e1 with e2 e3 e4;subst e2 e4;exact⟨e3,h1⟩
theorem scene_out {w0:World}{S:Nat}{F:Tf}{s:Sc}{M:Tm}{G:Nat}{ve:Nat→Value}{n:Net}{T:Nat}(h:ScOk w0 S F s M G ve) (hw:n.Wf) (h0:n.wrong.1=0) (hF:F.c=n.cn∧F.T=T∧F.pts=n.pts∧F.rg=fun i=>(n.bs i).reg) :
  ∃(n':Net) (oao:Option Addr) (ocap:Nat) (t':List Tr),(M.vb=.slice n'.bao n'.K n'.bcap∧M.vl=.slice n'.lao n'.L n'.lcap∧M.vo=.slice oao t'.length ocap)∧∀w,(∀q,F.base≤q→q<w0.heap.size→w.heap[q]?=w0.heap[q]?)→SnOut w n T s n' oao ocap t':=by
 obtain⟨c1,c2,c3,c4⟩:=hF;have hK:F.c.K=n.K:=(by rw[c1];rfl)
 have hL:F.c.L=n.L:=(by rw[c1];rfl)
 have R:=right_of hw h0;have hfine:Tk.Fine n.cn s:=(by rw[←c1];exact h.ok.fine)
 have hA:=h.at';obtain⟨bao,bcap,eb,_,_,_⟩:=owns_c (by omega) hA.brs;obtain⟨lao,lcap,el,_,_,_⟩:=owns_c (by omega) hA.lks;obtain⟨oao,ocap,eo,_,_,_⟩:=owns_c (by omega) hA.out;obtain⟨f,hf⟩:=Classical.axiomOfChoice (r:=fun(i:Nat) (p:Option Addr×Nat×Option Addr×Nat)=>i<n.K→M.iv i=.slice p.1 (s.pr i).length p.2.1∧M.we i=.slice p.2.2.1 (F.rg i).n p.2.2.2) (fun i=>by
  by_cases q:i<n.K
  ·obtain⟨a,b,c,d,e1,_,e3,_⟩:=fam_bridge hA.few hA.ints hA.ways (i:=i) (by rw[hK];exact q);exact⟨(a,b,c,d),fun _=>⟨e1,e3⟩⟩
  ·exact⟨(none,0,none,0),fun z=>absurd z q⟩)
 obtain⟨g,hg⟩:=Classical.axiomOfChoice (r:=fun(k:Nat) (p:Option Addr×Nat)=>k<T→M.vt k=.slice p.1 n.K p.2) (fun k=>by
  by_cases q:k<T
  ·obtain⟨a,b,e1,_,_,_⟩:=owns_c (by omega) (hA.mds.own k (by rw[c2];exact q));rw[hK] at e1;exact⟨(a,b),fun _=>e1⟩
  ·exact⟨(none,0),fun z=>absurd z q⟩)
 obtain⟨v,hv⟩:=Classical.axiomOfChoice (r:=fun(a:Nat) (p:Option Addr×Nat)=>a<156→M.iv a=.slice p.1 (F.il s a).length p.2) (fun a=>by
  by_cases q:a<156
  ·obtain⟨x,b,e1,_,_,_⟩:=owns_c (by omega) (hA.ints.own a q);exact⟨(x,b),fun _=>e1⟩
  ·exact⟨(none,0),fun z=>absurd z q⟩)
 obtain⟨mi,hmi⟩:∃mi:Nat→Nat→Mi,mi=fun k i=>⟨(s.ms k i).md,(v (ixM k i 0)).1,(v (ixM k i 0)).2,n.pts i,(v (ixM k i 1)).1,(v (ixM k i 1)).2,(s.ms k i).roles,(v (ixM k i 2)).1,(v (ixM k i 2)).2,(s.ms k i).calm⟩:=⟨_,rfl⟩
 obtain⟨t',ht'⟩:∃t':List Tr,t'=(List.range T).map (fun k=>⟨(g k).1,(g k).2,(List.range n.K).map (mi k)⟩):=⟨_,rfl⟩
 have tlen:t'.length=T:=(by rw[ht'];simp)
 have tk:∀k,k<T→tat t' k=⟨(g k).1,(g k).2,(List.range n.K).map (mi k)⟩:=fun k hk=>by unfold tat;rw[ht'];exact range_getD _ _ hk
 have ti:∀k i,k<T→i<n.K→mat (tat t' k).l i=mi k i:=fun k i hk hi=>by rw[tk k hk];exact range_getD _ _ hi
 have tl:∀k,k<T→(tat t' k).l.length=n.K:=fun k hk=>by rw[tk k hk];simp
 have hT4:T≤4:=(by rw[←c2];exact hA.fewT)
 have il3:∀k i,k<T→i<n.K→F.il s (ixM k i 0)=n.pts i∧F.il s (ixM k i 1)=(s.ms k i).roles∧F.il s (ixM k i 2)=(s.ms k i).calm:=fun k i hk hi=>by
  have:=Tk.ilist_m (T:=F.T) hA.few F.pts s (k:=k) (i:=i) (by rw[c2];exact hk) (by rw[hK];exact hi);unfold Tf.il;rw[←c3];exact this
 have few:=R.few;have lt:∀k i j,k<T→i<n.K→j<3→ixM k i j<156:=fun k i j hk hi hj=>Tk.ix_lt (by omega) (by omega) hj;refine⟨reNet n s bao bcap lao lcap f,oao,ocap,t',⟨by rw[eb,hK];rfl,by rw[el,hL];rfl,by rw[eo,c2,tlen]⟩,fun w hkp => ?_⟩;have hints:=hA.ints.keep (W':=w) (fun a ha q hq=>hkp q (oCb (hA.ints.own a ha) q hq).1 (oCb (hA.ints.own a ha) q hq).2);have hways:=hA.ways.keep (W':=w) (fun a ha q hq=>hkp q (oCb (hA.ways.own a ha) q hq).1 (oCb (hA.ways.own a ha) q hq).2);have hmds:=hA.mds.keep (W':=w) (fun a ha q hq=>hkp q (oCb (hA.mds.own a ha) q hq).1 (oCb (hA.mds.own a ha) q hq).2);have hbrs:=owns_keep (w':=w) hA.brs (fun q hq=>hkp q (oCb hA.brs q hq).1 (oCb hA.brs q hq).2);have hlks:=owns_keep (w':=w) hA.lks (fun q hq=>hkp q (oCb hA.lks q hq).1 (oCb hA.lks q hq).2);have hout:=owns_keep (w':=w) hA.out (fun q hq=>hkp q (oCb hA.out q hq).1 (oCb hA.out q hq).2);rw[eb] at hbrs;rw[el] at hlks;rw[eo] at hout;have hb:=(owns_cs (by omega) hbrs).2;have hl:=(owns_cs (by omega) hlks).2;have ho:=(owns_cs (by omega) hout).2;have hin:∀k i,k<T→i<n.K→MiIn w (mi k i)∧M.iv (ixM k i 0)=.slice (mi k i).po (mi k i).ports.length (mi k i).pc∧M.iv (ixM k i 1)=.slice (mi k i).ro (mi k i).roles.length (mi k i).rc∧M.iv (ixM k i 2)=.slice (mi k i).co (mi k i).calm.length (mi k i).cc:=fun k i hk hi=>by
  obtain⟨i0,i1,i2⟩:=il3 k i hk hi;have f3:∀a,a<156→ILs w (v a).1 (v a).2 (F.il s a)∧(F.il s a).length≤9223372036854775807:=fun a ha=>by
   have:=hints.own a ha;rw[hv a ha] at this;exact⟨(owns_cs (by omega) this).2,owns_few this⟩
  have x1:=hv _ (lt k i 0 hk hi (by omega));have y1:=hv _ (lt k i 1 hk hi (by omega));have z1:=hv _ (lt k i 2 hk hi (by omega));obtain⟨x2,x3⟩:=f3 _ (lt k i 0 hk hi (by omega));obtain⟨y2,y3⟩:=f3 _ (lt k i 1 hk hi (by omega));obtain⟨z2,z3⟩:=f3 _ (lt k i 2 hk hi (by omega));rw[i0] at x1 x2 x3;rw[i1] at y1 y2 y3;rw[i2] at z1 z2 z3;rw[hmi];exact⟨⟨x2,y2,z2,x3,y3,z3⟩,x1,y1,z1⟩
 refine⟨⟨?_,fun i hi => ?_,?_,?_,?_⟩,(reNet_wrong hw h0 hfine).2,(reNet_wrong hw h0 hfine).1,rfl,?_,⟨?_,fun k hk=>⟨?_,fun i hi => ?_,?_⟩,?_⟩,tlen,fun k hk=>⟨tl k hk,fun i hi => ?_⟩,by rw[←c1,←c2];exact h.ok,fun i=>⟨rfl,rfl,rfl,rfl,rfl⟩⟩
 ·rw[hK] at hb;refine hb.congr (fun i hi => ?_);obtain⟨e1,e3⟩:=hf i hi;funext x
  show brX (F.c.addr i) (M.iv i) (F.rg i).s (F.rg i).rev (M.we i) x=brC _ x;rw[e1,e3,c1,c4];rfl
 ·obtain⟨e1,e3⟩:=hf i hi;obtain⟨a,b,c,d,g1,g2,g3,g4⟩:=fam_bridge hA.few hints hways (i:=i) (by rw[hK];exact hi);rw[e1] at g1;rw[e3] at g3;injection g1 with g5 _ g6;injection g3 with g7 _ g8;subst g5 g6 g7 g8;rw[c4] at g4;have hp:=hfine.prios i hi;exact⟨g2,g4,by show(s.pr i).length≤_;have:=hp.1;omega,by show(n.bs i).reg.n≤_;have:=vids_few (R.fine i hi).reg.2.2;omega⟩
 ·rw[hL] at hl;exact hl
 ·show n.K≤_;omega
 ·show n.L≤_;have:=R.fewL;omega
 ·show(⟨fun i=>lsF (IL (s.pr i)) (s.pr i).length,s.ls,s.ms⟩:Sc)=s;have:(fun i=>lsF (IL (s.pr i)) (s.pr i).length)=s.pr:=funext (fun i=>lsF_IL _);rw[this]
 ·rw[tlen];rw[c2] at ho;refine ho.congr (fun k hk => ?_);funext _
  rw[hg k hk,tk k hk];show Value.slice _ n.K _=Value.slice _ ((List.range n.K).map (mi k)).length _;simp
 ·rw[tlen] at hk;rw[tl k hk];have e:(tat t' k).ao=(g k).1∧(tat t' k).cap=(g k).2:=(by rw[tk k hk];exact⟨rfl,rfl⟩)
  rw[e.1,e.2];have hm:=hmds.own k (by rw[c2];exact hk);rw[hg k hk] at hm;have hm2:=(owns_cs (by omega) hm).2;rw[hK] at hm2;refine hm2.congr (fun i hi => ?_);rw[ti k i hk hi];obtain⟨_,x1,x2,x3⟩:=hin k i hk hi;unfold Tm.mc;rw[x1,x2,x3,hmi]
 ·rw[tlen] at hk;rw[tl k hk] at hi;rw[ti k i hk hi];exact(hin k i hk hi).1
 ·rw[tlen] at hk;rw[tl k hk];omega
 ·rw[tlen];omega
 ·have:=ti k i hk hi;unfold msT;rw[this,hmi];exact⟨rfl,rfl⟩
def Kept (w:World) (b:Nat) (P:World→Prop):Prop:=∀V,(∀q,b≤q→q<w.heap.size→V.heap[q]?=w.heap[q]?)→P V
theorem Kept.here {w:World}{b:Nat}{P:World→Prop}(h:Kept w b P):P w:=h w (fun _ _ _=>rfl)
theorem Kept.below {w w':World}{b:Nat}{P:World→Prop}(h:Kept w b P) (hb:Bl w w'):Kept w' b P:=fun V hV=>h V (fun q h1 h2=>(hV q h1 (Nat.lt_of_lt_of_le h2 hb.size)).trans (hb.block q h2))
theorem Kept.low {w:World}{b g o:Nat}{v:Value}{P:World→Prop}(h:Kept w b P) (hg:g<b):Kept (w.setCell ⟨g,o,none⟩ v) b P:=fun V hV=>h V (fun q h1 h2=>(hV q h1 (by simpa using h2)).trans (heap_setCell_other _ _ _ _ (by show q≠g;omega)))
end
section
open Go.RowKit
theorem results_row3 {P:Program}{fn:Func}{p q r:Tmp}{t1 t2 t3:TypeId}(h:fn.results=#[.cell p t1,.cell q t2,.cell r t3]) (tmps:Array Value) (w:World) (g1 g2 g3:Nat) (u1 u2 u3:TypeId) (c1 c2 c3:Array Value) (f1 f2 f3:Nat×Nat) (d1 d2 d3:TypeDesc)
  (hp:tmps.getD p undef=.pointer (some ⟨g1,0,none⟩)) (hq:tmps.getD q undef=.pointer (some ⟨g2,0,none⟩)) (hr:tmps.getD r undef=.pointer (some ⟨g3,0,none⟩))
  (h1:w.heap[g1]?=some (.cells c1 u1 f1)) (h2:w.heap[g2]?=some (.cells c2 u2 f2)) (h3:w.heap[g3]?=some (.cells c3 u3 f3))
  (k1:P.underlying t1=some d1) (k2:P.underlying t2=some d2) (k3:P.underlying t3=some d3)
  (e1:(match d1 with | .struct _ | .array _ _=>true | _=>false)=true) (e2:(match d2 with | .struct _ | .array _ _=>true | _=>false)=true) (e3:(match d3 with | .struct _ | .array _ _=>true | _=>false)=true)
  (i1:(P.info? t1).map (·.size)=some c1.size) (i2:(P.info? t2).map (·.size)=some c2.size) (i3:(P.info? t3).map (·.size)=some c3.size) :
  (results fn tmps).run P w=.ok (.tuple #[.agg c1,.agg c2,.agg c3]) w:=by
 have hp':tmps[p]?.getD undef=.pointer (some ⟨g1,0,none⟩):=(by simpa using hp)
 have hq':tmps[q]?.getD undef=.pointer (some ⟨g2,0,none⟩):=(by simpa using hq)
 have hr':tmps[r]?.getD undef=.pointer (some ⟨g3,0,none⟩):=(by simpa using hr)
 simp[results,h,hp',hq',hr',asAddr,run_loadVar_row w g1 u1 t1 c1 f1 d1 h1 k1 e1 i1,run_loadVar_row w g2 u2 t2 c2 f2 d2 h2 k2 e2 i2,run_loadVar_row w g3 u3 t3 c3 f3 d3 h3 k3 e3 i3]
theorem results_row2 {P:Program}{fn:Func}{p q:Tmp}{t1 t2:TypeId}(h:fn.results=#[.cell p t1,.cell q t2]) (tmps:Array Value) (w:World) (g1 g2:Nat) (u1 u2:TypeId) (c1 c2:Array Value) (f1 f2:Nat×Nat) (d1 d2:TypeDesc)
  (hp:tmps.getD p undef=.pointer (some ⟨g1,0,none⟩)) (hq:tmps.getD q undef=.pointer (some ⟨g2,0,none⟩))
  (h1:w.heap[g1]?=some (.cells c1 u1 f1)) (h2:w.heap[g2]?=some (.cells c2 u2 f2))
  (k1:P.underlying t1=some d1) (k2:P.underlying t2=some d2)
  (e1:(match d1 with | .struct _ | .array _ _=>true | _=>false)=true) (e2:(match d2 with | .struct _ | .array _ _=>true | _=>false)=true)
  (i1:(P.info? t1).map (·.size)=some c1.size) (i2:(P.info? t2).map (·.size)=some c2.size) :
  (results fn tmps).run P w=.ok (.tuple #[.agg c1,.agg c2]) w:=by
 have hp':tmps[p]?.getD undef=.pointer (some ⟨g1,0,none⟩):=(by simpa using hp)
 have hq':tmps[q]?.getD undef=.pointer (some ⟨g2,0,none⟩):=(by simpa using hq)
 simp[results,h,hp',hq',asAddr,run_loadVar_row w g1 u1 t1 c1 f1 d1 h1 k1 e1 i1,run_loadVar_row w g2 u2 t2 c2 f2 d2 h2 k2 e2 i2]
theorem set_keep {w:World}{g j o:Nat}{v:Value}{x:Obj}(h:w.heap[g]?=some x) (hne:g≠j):(w.setCell ⟨j,o,none⟩ v).heap[g]?=some x :=
 (heap_setCell_other _ _ _ _ (by exact hne)).trans h
theorem set_at {w:World}{g i:Nat}{c:Array Value}{ty:TypeId}{v:Value}(h:w.heap[g]?=some (.cells c ty (0,0))):(w.setCell ⟨g,i,none⟩ v).heap[g]?=some (.cells (c.setIfInBounds i v) ty (0,0)) :=
 heap_setCell_same _ _ _ _ _ _ h
theorem set1_same {w:World}{g:Nat}{a0 v0:Value}{ty:TypeId}(h:w.heap[g]?=some (.cells #[a0] ty (0,0))):(w.setCell ⟨g,0,none⟩ v0).heap[g]?=some (.cells #[v0] ty (0,0)):=by
 rw[heap_setCell_same _ _ _ _ _ _ h];rfl
theorem drew_keep {w:World}{g:Nat}{o:Obj}(h:w.heap[g]?=some o):w.drew.heap[g]?=some o:=h
theorem out_set {W V:World}{b g o:Nat}{v:Value}(h:∀q,b≤q→V.heap[q]?=W.heap[q]?) (hg:g<b):∀q,b≤q→(V.setCell ⟨g,o,none⟩ v).heap[q]?=W.heap[q]?:=fun q hq =>
 (heap_setCell_other _ _ _ _ (by show q≠g;omega)).trans (h q hq)
theorem out_drew {W V:World}{b:Nat}(h:∀q,b≤q→V.heap[q]?=W.heap[q]?):∀q,b≤q→V.drew.heap[q]?=W.heap[q]?:=h
end
end Go.Proofs.YtelebnancdjjiaaGreatDoor
