/- walks: package plan's wrongLinks: its closure, firstWrong at it -/
import Derived.Test.YtflghpnpjmodaaaGreatDoorT05
import Derived.Test.YtflghpnpjmodaaaGreatDoorT01
import Derived.Test.YtflghpnpjmodaaaGreatDoorT02
import Derived.Deep.RegionHeld3
set_option maxRecDepth 100000
set_option maxHeartbeats 6000000
namespace Go.Proofs.YtflghpnpjmodaaaGreatDoor
section
open Go.RowKit Go.Maps
open Pl (Br Net Pc Lk En St)
theorem grown_of_below {w w':World}{b:Nat}(h:Bl w w'):w.grownBy w' (some b):=⟨h.os,h.tape,h.output,h.size,fun i hi _=>h.block i hi⟩
theorem below_of_grown {w w':World}{b n:Nat}(h:w.grownBy w' (some b)) (hn:n≤w.heap.size) (hb:n≤b):Below n w w':=(Below.refl n w).grown h hn (fun j hj=>by cases hj;exact hb)
def bSay (b:Br) (c:Int):Int:=if Pl.brErr b≠0 then Pl.brErr b else if 0<c then 7 else 0
theorem pbClosure_any (b:Br) (Q P B m:Nat) (f:Nat→Int) (w:World) (hb:b.at' w) (hQ:w.cell? ⟨Q,0,none⟩=some (.func (.func 157) #[] #[.pointer (some ⟨P,0,none⟩)])) (hP:w.cell? ⟨P,0,none⟩=some (.map (some B))) (hne:P≠B) (hc:UCnt w B f m) (hm:m≤1000) (hf:f m=b.addr) (hwf:(Lit.int .u64 b.addr).wf=true) :
  Calls Tryz.prog 106 #[.agg (brA b),.pointer (some ⟨Q,0,none⟩)] w fun e w'=>e=.returned (.int .i64 (bSay b (cntI f b.addr m)))∧(Pl.brErr b=0→UCnt w' B f (m+1))∧w.grownBy w' (some B):=by
 obtain⟨X,HX⟩:∃X,Hid (X=w.alloc (.cells (brA b) 58)):=⟨_,rfl⟩
 have hXB:Bl w X:=(by rw[HX.out];exact bA1 _ _)
 have hXb:X.heap[w.heap.size]?=some (.cells (brA b) 58):=(by rw[HX.out];exact heap_alloc_last _ _)
 have hlt:=hc.lt;have hQl:=block_lt_of_cell hQ;have hPl:=block_lt_of_cell hP;simp only at hQl hPl;have HC:Hid (Calls Tryz.prog 107 #[.agg (brA b)] X fun e w'=>e=.returned (.int .i64 (Pl.brErr b))∧Bl X w'):=pwrongBridge_any b X (hb.below hXB);have HT:Hid (∀W,Bl X W→Calls Tryz.prog 157 #[.int .u64 b.addr,.pointer (some ⟨P,0,none⟩)] W fun e w'=>e=.returned (.int .i64 (if 0<cntI f b.addr m then 7 else 0))∧UCnt w' B f (m+1)∧w.grownBy w' (some B)):=by
  intro W hW;have h1:Bl w W:=hXB.trans (hW.mono hXB.size);refine(utake_any P B m f b.addr W ((h1.cell (by exact hPl)).trans hP) hne (hc.same (h1.block B hlt)) hm hf hwf).mono ?_;rintro e w' ⟨rfl,k1,k2⟩;exact⟨rfl,k1,(grown_of_below h1).trans k2⟩
 have HL:Hid (∀W,Bl X W→W.cell? ⟨Q,0,none⟩=some (.func (.func 157) #[] #[.pointer (some ⟨P,0,none⟩)])∧W.cell? ⟨w.heap.size,0,none⟩=some (.int .u64 b.addr)∧w.grownBy W (some B)):=by
  intro W hW;have h1:Bl w W:=hXB.trans (hW.mono hXB.size);exact⟨(h1.cell (by exact hQl)).trans hQ,(br_cells (keep hXb hW)).1,grown_of_below h1⟩
 obtain⟨q0,q1,q2,q3,q4⟩:=br_cells hXb;unfold bSay;generalize Pl.brErr b=E at *;generalize cntI f b.addr m=t at *;generalize (if 0<t then(7:Int) else 0)=R at *;clear hQ hP hc hf hwf hXb hXB hb;obtain⟨addr,pao,pn,pcap,pv,⟨s,rev,ao,n,cap,vs,ts⟩⟩:=b;simp only[brA] at *;by_cases e0:E=0
 ·subst e0;rw[if_neg (by omega)];go_enter Tryz.func106,Tryz.ntmps106;(go_wp2_with fail);rw[←HX.out];refine HC.out.mono ?_;rintro e w1 ⟨rfl,hb1⟩;obtain⟨k0,k1,k2⟩:=HL.out w1 hb1;have ht1:=HT.out w1 hb1;clear hb1 k2 HL HT HC;(go_wp2_with fail);refine ht1.mono ?_;rintro e w2 ⟨rfl,k3,k4⟩;(go_wp2_with fail);go_ret;first | exact⟨rfl,fun _=>k3,k4⟩ | exact⟨rfl,k3,k4⟩
 ·rw[if_pos e0];have e1:(E == 0)=false:=(by simp[e0])
  go_enter Tryz.func106,Tryz.ntmps106;(go_wp2_with fail);rw[←HX.out];refine HC.out.mono ?_;rintro e w1 ⟨rfl,hb1⟩;obtain⟨k0,k1,k2⟩:=HL.out w1 hb1;(go_wp2_with fail);go_ret;exact⟨rfl,fun h=>absurd h e0,k2⟩
def ftA (x:Int×Int):Array Value:=#[.int .i64 x.1,.int .i64 x.2]
theorem sizeFt:(Tryz.prog.info? 26).map (·.size)=some 2:=by kernel_rfl
theorem set2_same {w:World}{g:Nat}{a0 a1 v0 v1:Value}{ty:TypeId}(h:w.heap[g]?=some (.cells #[a0,a1] ty (0,0))) :
  ((w.setCell ⟨g,0,none⟩ v0).setCell ⟨g,1,none⟩ v1).heap[g]?=some (.cells #[v0,v1] ty (0,0)):=by
 have h0:(w.setCell ⟨g,0,none⟩ v0).heap[g]?=some (.cells #[v0,a1] ty (0,0)):=(by rw[heap_setCell_same _ _ _ _ _ _ h];rfl)
 rw[heap_setCell_same _ _ _ _ _ _ h0];rfl
theorem bSay_err (bs:Nat→Br) (k:Nat):bSay (bs k) (cntI (fun j=>(bs j).addr) (bs k).addr k)=Pl.bErr bs k:=by
 unfold bSay Pl.bErr;have:=cntI_pos (fun j=>(bs j).addr) (bs k).addr k;by_cases h:Pl.brErr (bs k)=0
 ·have hn:¬Pl.brErr (bs k)≠0:=fun q=>q h;rw[if_neg hn,if_neg hn];by_cases c:0<cntI (fun j=>(bs j).addr) (bs k).addr k
  ·rw[if_pos c,if_pos (this.1 c)]
  ·rw[if_neg c,if_neg (fun q=>c (this.2 q))]
 ·rw[if_pos h,if_pos h]
theorem bErr_zero {bs:Nat→Br}{k:Nat}(h:Pl.bErr bs k=0):Pl.brErr (bs k)=0:=by
 unfold Pl.bErr at h;by_cases q:Pl.brErr (bs k)=0
 ·exact q
 ·rw[if_pos q] at h;exact absurd h q
theorem pbFirst_any (ao:Option Addr) (n cap:Nat) (bs:Nat→Br) (Q P B:Nat) (W0 w:World) (hn:n≤12) (hr:BRow W0 ao n cap bs) (hb:∀i,i<n→(bs i).at' W0) (hwf:∀i,i<n→(Lit.int .u64 (bs i).addr).wf=true)
  (hQ:w.cell? ⟨Q,0,none⟩=some (.func (.func 157) #[] #[.pointer (some ⟨P,0,none⟩)])) (hP:w.cell? ⟨P,0,none⟩=some (.map (some B))) (hPB:P≠B) (hQB:Q≠B) (hc:UCnt w B (fun j=>(bs j).addr) 0)
  (hM:W0.heap.size≤B) (hW0:Bl W0 w) :
  Calls Tryz.prog 105 #[.slice ao n cap,.func (.func 106) #[] #[.pointer (some ⟨Q,0,none⟩)]] w fun e w'=>e=.returned (.agg (ftA (Pl.firstTo (Pl.bErr bs) n)))∧Bl W0 w':=by
 have HRW:Hid (∀W,Bl W0 W→BRow W ao n cap bs∧∀i,i<n→(bs i).at' W):=fun W hW=>⟨CRow.other hr (fun q _ _ hq=>hW.block q hq) hW.size,fun i hi=>(hb i hi).below hW⟩
 have HWF:Hid (∀i,i<n→(Lit.int .u64 (bs i).addr).wf=true):=hwf;have hcap:=hr.1;have hBl:=hc.lt;obtain⟨G,HG⟩:∃G,Hid (G=w.heap.size):=⟨_,rfl⟩
 have hGB:G≠B:=(by rw[HG.out];omega)
 have hGM:W0.heap.size≤G:=(by rw[HG.out];exact hW0.size)
 have HI:Hid (∀W,W=w.alloc (.cells #[.int .i64 0,.int .i64 0] 26)→Bl W0 W∧UCnt W B (fun j=>(bs j).addr) 0∧W.heap[G]?=some (.cells #[.int .i64 0,.int .i64 0] 26)∧W.cell? ⟨Q,0,none⟩=some (.func (.func 157) #[] #[.pointer (some ⟨P,0,none⟩)])∧W.cell? ⟨P,0,none⟩=some (.map (some B))):=by
  intro W hW;have h1:Bl w W:=(by rw[hW];exact bA1 _ _)
  have hQl:=block_lt_of_cell hQ;have hPl:=block_lt_of_cell hP;exact⟨hW0.trans (h1.mono hW0.size),hc.same (h1.block B hBl),by rw[hW,HG.out];exact heap_alloc_last _ _,(h1.cell (by exact hQl)).trans hQ,(h1.cell (by exact hPl)).trans hP⟩
 clear hr hb hwf hQ hP hc hW0 hBl;go_enter Tryz.func105,Tryz.ntmps105;(go_wp2_with fail);rw[←HG.out];go_loopw [10] (fun i wr=>∃k:Nat,k≤n∧i=.int .i64 k∧Hid (∀j,j<k→Pl.bErr bs j=0)∧Hid (Bl W0 wr∧UCnt wr B (fun j=>(bs j).addr) k∧wr.heap[G]?=some (.cells #[.int .i64 0,.int .i64 0] 26)∧wr.cell? ⟨Q,0,none⟩=some (.func (.func 157) #[] #[.pointer (some ⟨P,0,none⟩)])∧wr.cell? ⟨P,0,none⟩=some (.map (some B)))) (fun i _=>n-(intOf i).toNat)
 case atStart=>exact⟨0,by omega,rfl,(fun j hj=>absurd hj (by omega)),HI.out _ rfl⟩
 case round =>
  obtain⟨k,hk,rfl,hS,hX⟩:=hrel;clear HI;by_cases hlt:k<n
  ·obtain⟨b,off,rfl,_⟩:=CRow.some (HRW.out wr hX.out.1).1 (by omega);obtain⟨c0,c1,c2,c3,c4⟩:=BRow.cells (HRW.out wr hX.out.1).1 hlt;obtain⟨X,HX⟩:∃X,Hid (X=wr.alloc (.cells (brA (bs k)) 58)):=⟨_,rfl⟩
   have HXB:Hid (Bl wr X):=(by rw[HX.out];exact bA1 _ _)
   have HX5:Hid (X.heap[wr.heap.size]?=some (.cells (brA (bs k)) 58)):=(by rw[HX.out];exact heap_alloc_last _ _)
   have HCL:Hid (Calls Tryz.prog 106 #[.agg (brA (bs k)),.pointer (some ⟨Q,0,none⟩)] X fun e w'=>e=.returned (.int .i64 (Pl.bErr bs k))∧Hid (Bl W0 w'∧(Pl.bErr bs k=0→UCnt w' B (fun j=>(bs j).addr) (k+1))∧w'.heap[G]?=some (.cells #[.int .i64 0,.int .i64 0] 26)∧w'.cell? ⟨Q,0,none⟩=some (.func (.func 157) #[] #[.pointer (some ⟨P,0,none⟩)])∧w'.cell? ⟨P,0,none⟩=some (.map (some B)))):=by
    obtain⟨x1,x2,x3,x4,x5⟩:=hX.out;have l1:=block_lt_of_cell x4;have l2:=block_lt_of_cell x5;have y1:Bl W0 X:=x1.trans (HXB.out.mono x1.size);have y4:=(HXB.out.cell (by exact l1)).trans x4;have y5:=(HXB.out.cell (by exact l2)).trans x5;have y3:=keep x3 HXB.out;refine(pbClosure_any (bs k) Q P B k (fun j=>(bs j).addr) X ((HRW.out X y1).2 k hlt) y4 y5 hPB (x2.same (HXB.out.block B x2.lt)) (by omega) rfl (HWF.out k hlt)).mono ?_;rintro e w' ⟨rfl,z1,z2⟩;rw[bSay_err];exact⟨rfl,y1.trans (below_of_grown z2 y1.size hM),fun h=>z1 (bErr_zero h),grown_block y3 z2 hGB,grown_cell y4 z2 hQB,grown_cell y5 z2 hPB⟩
   have HF1:Hid (Pl.bErr bs k≠0→ftA (Pl.firstTo (Pl.bErr bs) n)=#[.int .i64 (Pl.bErr bs k),.int .i64 (k:Int)]):=fun h=>by rw[Pl.firstTo_here (Pl.bErr bs) k hS.out h n hlt];rfl
   have HS1:Hid (Pl.bErr bs k=0→∀j,j<k+1→Pl.bErr bs j=0):=fun h j hj=>by
    by_cases e:j=k
    ·subst e;exact h
    ·exact hS.out j (by omega)
   obtain⟨d0,d1,d2,d3,d4⟩:=br_cells HX5.out;clear hX hS HX5 HXB HWF HRW;generalize Pl.bErr bs k=E at *;by_cases e0:E=0
   ·subst e0;have HS2:Hid (∀j,j<k+1→Pl.bErr bs j=0):=HS1.out rfl;clear HS1 HF1;simp only[brA] at *;(go_wp2_with fail);rw[←HX.out];refine HCL.out.mono ?_;rintro e w1 ⟨rfl,hY⟩;clear d0 d1 d2 d3 d4 c0 c1 c2 c3 c4;(go_wp2_with fail);exact⟨⟨k+1,by omega,by go_num,HS2,⟨hY.out.1,hY.out.2.1 (by first | exact rfl | trivial),hY.out.2.2⟩⟩,by simp[intOf];omega⟩
   ·have e1:(E == 0)=false:=(by simp[e0])
    have HF2:Hid _:=HF1.out e0;clear HS1 HF1;simp only[brA] at *;(go_wp2_with fail);rw[←HX.out];refine HCL.out.mono ?_;rintro e w1 ⟨rfl,hY⟩;clear d0 d1 d2 d3 d4 c0 c1 c2 c3 c4;obtain⟨f0,f1⟩:=tC2 hY.out.2.2.1;obtain⟨g0,g1,_,_⟩:=vc_free hY.out.2.2.1;(go_wp2_with fail);exact bodyPost_ret (v:=.agg #[.int .i64 E,.int .i64 (k:Int)]) (results_row (p:=4) (ty:=26) Tryz.results105 _ _ G 26 #[.int .i64 E,.int .i64 (k:Int)] (0,0) _ rfl (set2_same hY.out.2.2.1) Tryz.underlying26 rfl (by rw[sizeFt];rfl)) rfl ⟨by rw[HF2.out],(hY.out.1.setCell hGM _).setCell hGM _⟩
  ·obtain rfl:k=n:=by omega
   have HF2:Hid (ftA (Pl.firstTo (Pl.bErr bs) k)=#[.int .i64 0,.int .i64 0]):=(by rw[Pl.firstTo_all _ _ hS.out];rfl)
   obtain⟨f0,f1⟩:=tC2 hX.out.2.2.1;obtain⟨g0,g1,_,_⟩:=vc_free hX.out.2.2.1;(go_wp2_with fail);exact bodyPost_ret (v:=.agg #[.int .i64 0,.int .i64 0]) (results_row (p:=4) (ty:=26) Tryz.results105 _ _ G 26 #[.int .i64 0,.int .i64 0] (0,0) _ rfl (set2_same hX.out.2.2.1) Tryz.underlying26 rfl (by rw[sizeFt];rfl)) rfl ⟨by rw[HF2.out],(hX.out.1.setCell hGM _).setCell hGM _⟩
end
section
open Go.RowKit
section
variable {P:Program}{ops:Array Oper}{Q:Exit→Act→World→Prop}{md:Region.Mode}{S:World→Prop}
theorem held_take {i:Nat}{oi:Oper}{v:Value}(d:Option Tmp) {fuel:Nat}{listed:Array Bool}{a:Act}{w:World}(hi:ops[i]?=some oi) (hd:oi.dst=d)
  (hs:Region.noSelect ops=true) (hf:Region.free md ops listed i=true) (hr:(Region.ready md ops listed).contains i=true)
  (hQ:∀c a w,Q (.panic c) (a.put d v) w→Q (.panic c) a w) (hw:Region.wanted oi (yielded ops a.tmps)=true) (hy:∀w,S w→(execOp a.eval oi).run P w=.ok (.value v) w) (hS:S w)
  (h:wpAnyH P md ops Q S fuel (listed.setIfInBounds i true) (a.put d v) w):wpAnyH P md ops Q S (fuel+1) listed a w:=by
 subst hd;exact wpAnyH_take hi hs hf hr hQ (Or.inl ⟨hw,hy⟩) hS h
theorem held_skip {i:Nat}{oi:Oper}(d:Option Tmp) {fuel:Nat}{listed:Array Bool}{a:Act}{w:World}(hi:ops[i]?=some oi) (hd:oi.dst=d)
  (hs:Region.noSelect ops=true) (hf:Region.free md ops listed i=true) (hr:(Region.ready md ops listed).contains i=true)
  (hQ:∀c a w,Q (.panic c) (a.put d undef) w→Q (.panic c) a w) (hw:Region.wanted oi (yielded ops a.tmps)=false) (hS:S w)
  (h:wpAnyH P md ops Q S fuel (listed.setIfInBounds i true) (a.put d undef) w):wpAnyH P md ops Q S (fuel+1) listed a w:=by
 subst hd;exact wpAnyH_take hi hs hf hr hQ (Or.inr ⟨hw,rfl⟩) hS h
end
def sg (a b:Int):Int:=if a<b then -1 else if b<a then 1 else 0
theorem ccmpu_any (a b:Int) (w:World):Calls Tryz.prog 201 #[.int .u64 a,.int .u64 b] w fun e w'=>e=.returned (.int .i64 (sg a b))∧w'=w:=by
 unfold sg;by_cases h1:a<b
 ·rw[if_pos h1];go_enter Tryz.func201,Tryz.ntmps201;go_wp2
  go_ret;exact⟨rfl,rfl⟩
 ·rw[if_neg h1];by_cases h2:b<a
  ·rw[if_pos h2];go_enter Tryz.func201,Tryz.ntmps201;go_wp2
   go_ret;exact⟨rfl,rfl⟩
  ·rw[if_neg h2];go_enter Tryz.func201,Tryz.ntmps201;go_wp2
   go_ret;exact⟨rfl,rfl⟩
theorem ccmpi_any (a b:Int) (w:World):Calls Tryz.prog 73 #[.int .i64 a,.int .i64 b] w fun e w'=>e=.returned (.int .i64 (sg a b))∧w'=w:=by
 unfold sg;by_cases h1:a<b
 ·rw[if_pos h1];go_enter Tryz.func73,Tryz.ntmps73;go_wp2
  go_ret;exact⟨rfl,rfl⟩
 ·rw[if_neg h1];by_cases h2:b<a
  ·rw[if_pos h2];go_enter Tryz.func73,Tryz.ntmps73;go_wp2
   go_ret;exact⟨rfl,rfl⟩
  ·rw[if_neg h2];go_enter Tryz.func73,Tryz.ntmps73;go_wp2
   go_ret;exact⟨rfl,rfl⟩
theorem vwithin_any (n l m:Int) (w:World) :
  Calls Tryz.prog 32 #[.int .i64 n,.int .i64 l,.int .i64 m] w fun e w'=>e=.returned (.bool (decide (l≤n∧n≤m)))∧w'=w:=by
 by_cases h1:l≤n<;>by_cases h2:n≤m
 all_goals
  go_enter Tryz.func32,Tryz.ntmps32;go_wp2
  go_ret;exact⟨by simp[h1,h2],rfl⟩
def orTo (f:Nat→Int):Nat→Int
 | 0=>0
 | k+1=>if orTo f k=0 then f k else orTo f k
theorem orTo_stay (f:Nat→Int) (k:Nat) (h0:orTo f k=0) (h:f k≠0):∀n,k<n→orTo f n=f k
 | 0,hn=>by omega
 | n+1,hn=>by
  simp only[orTo];by_cases e:k=n
  ·subst e;rw[if_pos h0]
  ·rw[orTo_stay f k h0 h n (by omega),if_neg h]
theorem cor_any (b off n cap:Nat) (f:Nat→Int) (w:World) (hn:n≤9223372036854775807) (hcap:n≤cap) (hf:∀i,i<n→w.cell? ⟨b,off+i,none⟩=some (.int .i64 (f i))) :
  Calls Tryz.prog 164 #[.slice (some ⟨b,off,none⟩) n cap] w fun e w'=>e=.returned (.int .i64 (orTo f n))∧w'=w:=by
 have HF:Hid (∀i,i<n→w.cell? ⟨b,off+i,none⟩=some (.int .i64 (f i))):=hf;clear hf;go_enter Tryz.func164,Tryz.ntmps164;(go_wp2_with fail);go_loopw [8] (fun i wr=>∃k:Nat,k≤n∧i=.int .i64 k∧Hid (orTo f k=0)∧wr=w) (fun i _=>n-(intOf i).toNat)
 case atStart=>exact⟨0,by omega,rfl,rfl,rfl⟩
 case round =>
  obtain⟨k,hk,rfl,hS,rfl⟩:=hrel;by_cases hlt:k<n
  ·have c0:=HF.out k hlt;by_cases h0:f k=0
   ·have d0:(f k != 0)=false:=(by simp[h0])
    have HS2:Hid (orTo f (k+1)=0):=by show(if orTo f k=0 then f k else orTo f k)=0;rw[if_pos hS.out,h0]
    clear HF hS;(go_wp2_with fail);exact⟨⟨k+1,by omega,by go_num,HS2,trivial⟩,by simp[intOf];omega⟩
   ·have d0:(f k != 0)=true:=(by simp[h0])
    have HS2:Hid (orTo f n=f k):=orTo_stay f k hS.out h0 n hlt;clear HF hS h0;(go_wp2_with fail);go_ret;exact⟨by rw[HS2.out];rfl,rfl⟩
  ·obtain rfl:k=n:=by omega
   clear HF;(go_wp2_with fail);go_ret;exact⟨by rw[hS.out];rfl,rfl⟩
theorem sg_zero {a b:Int}:sg a b=0↔a=b:=by
 unfold sg;by_cases h:a<b
 ·rw[if_pos h];omega
 ·rw[if_neg h];by_cases k:b<a
  ·rw[if_pos k];omega
  ·rw[if_neg k];omega
end
section
open Go.RowKit
open Vc (V Of)
def sg4 (a b:V) (i:Nat):Int:=if i=0 then sg a.root b.root else if i=1 then sg a.cost b.cost else if i=2 then sg a.bridge b.bridge else sg a.port b.port
theorem orTo_sg4 (a b:V):orTo (sg4 a b) 4=Vc.cmp a b:=by
 have e:orTo (sg4 a b) 4=if sg a.root b.root=0 then(if sg a.cost b.cost=0 then(if sg a.bridge b.bridge=0 then sg a.port b.port else sg a.bridge b.bridge) else sg a.cost b.cost) else sg a.root b.root:=by
  have e1:orTo (sg4 a b) 1=sg a.root b.root:=(by simp[orTo,sg4])
  have e2:orTo (sg4 a b) 2=if sg a.root b.root=0 then sg a.cost b.cost else sg a.root b.root:=by
   show(if orTo (sg4 a b) 1=0 then sg4 a b 1 else orTo (sg4 a b) 1)=_;rw[e1];rfl
  have e3:orTo (sg4 a b) 3=if sg a.root b.root=0 then(if sg a.cost b.cost=0 then sg a.bridge b.bridge else sg a.cost b.cost) else sg a.root b.root:=by
   show(if orTo (sg4 a b) 2=0 then sg4 a b 2 else orTo (sg4 a b) 2)=_;rw[e2];by_cases h:sg a.root b.root=0
   ·rw[if_pos h,if_pos h];rfl
   ·rw[if_neg h,if_neg h,if_neg h]
  show(if orTo (sg4 a b) 3=0 then sg4 a b 3 else orTo (sg4 a b) 3)=_;rw[e3];by_cases h:sg a.root b.root=0
  ·rw[if_pos h,if_pos h];by_cases h2:sg a.cost b.cost=0
   ·rw[if_pos h2,if_pos h2];rfl
   ·rw[if_neg h2,if_neg h2,if_neg h2]
  ·rw[if_neg h,if_neg h,if_neg h]
 rw[e];simp only[sg_zero];have L:Vc.lt a b→Vc.cmp a b = -1:=fun h=>if_pos h;have G:Vc.lt b a→Vc.cmp a b=1:=fun h=>by unfold Vc.cmp;rw[if_neg (Vc.lt_asymm h),if_pos h]
 have Z:a=b→Vc.cmp a b=0:=fun h=>Vc.cmp_zero.2 h;unfold sg;by_cases h0:a.root=b.root
 ·rw[if_pos h0];by_cases h1:a.cost=b.cost
  ·rw[if_pos h1];by_cases h2:a.bridge=b.bridge
   ·rw[if_pos h2];by_cases h3:a.port<b.port
    ·rw[if_pos h3,L (by unfold Vc.lt;omega)]
    ·rw[if_neg h3];by_cases h4:b.port<a.port
     ·rw[if_pos h4,G (by unfold Vc.lt;omega)]
     ·rw[if_neg h4,Z (Vc.V.eq h0 h1 h2 (by omega))]
   ·rw[if_neg h2];by_cases h3:a.bridge<b.bridge
    ·rw[if_pos h3,L (by unfold Vc.lt;omega)]
    ·rw[if_neg h3,if_pos (by omega),G (by unfold Vc.lt;omega)]
  ·rw[if_neg h1];by_cases h3:a.cost<b.cost
   ·rw[if_pos h3,L (by unfold Vc.lt;omega)]
   ·rw[if_neg h3,if_pos (by omega),G (by unfold Vc.lt;omega)]
 ·rw[if_neg h0];by_cases h3:a.root<b.root
  ·rw[if_pos h3,L (by unfold Vc.lt;omega)]
  ·rw[if_neg h3,if_pos (by omega),G (by unfold Vc.lt;omega)]
theorem cor4 (a b:V) (g:Nat) (ty:TypeId) (w:World) (h:w.heap[g]?=some (.cells #[.int .i64 (sg a.root b.root),.int .i64 (sg a.cost b.cost),.int .i64 (sg a.bridge b.bridge),.int .i64 (sg a.port b.port)] ty (0,0))) :
  Calls Tryz.prog 164 #[.slice (some ⟨g,0,none⟩) 4 4] w fun e w'=>e=.returned (.int .i64 (Vc.cmp a b))∧w'=w:=by
 rw[←orTo_sg4];obtain⟨c0,c1,c2,c3⟩:=vc_cells h;refine cor_any g 0 4 4 (sg4 a b) w (by omega) (by omega) (fun i hi => ?_);rcases(by omega:i=0∨i=1∨i=2∨i=3) with e | e | e | e<;>subst e
 ·exact c0
 ·exact c1
 ·exact c2
 ·exact c3
theorem below_drew_alloc {n:Nat}{w w':World}(h:Below n w w') (hn:n≤w'.heap.size) (o:Obj):Below n w (w'.drew.alloc o):=(Below.drew h).alloc hn o
theorem vcompare_any (a b:V) (w:World) :
  Calls Tryz.prog 165 #[.agg #[.int .u64 a.root,.int .i64 a.cost,.int .u64 a.bridge,.int .i64 a.port],.agg #[.int .u64 b.root,.int .i64 b.cost,.int .u64 b.bridge,.int .i64 b.port]] w fun e w'=>e=.returned (.int .i64 (Vc.cmp a b))∧Bl w w':=by
 obtain⟨W0,HW0⟩:∃W0,Hid (W0=(w.alloc (.cells #[.int .u64 a.root,.int .i64 a.cost,.int .u64 a.bridge,.int .i64 a.port] 36)).alloc (.cells #[.int .u64 b.root,.int .i64 b.cost,.int .u64 b.bridge,.int .i64 b.port] 36)):=⟨_,rfl⟩
 have HB0:Hid (Bl w W0):=(by rw[HW0.out];exact bA2 _ _ _)
 have HBB:Hid (Bl W0 W0):=Below.refl _ _;have HC:Hid (∀W,Bl W0 W→W.cell? ⟨w.heap.size,0,none⟩=some (.int .u64 a.root)∧W.cell? ⟨w.heap.size,1,none⟩=some (.int .i64 a.cost)∧W.cell? ⟨w.heap.size,2,none⟩=some (.int .u64 a.bridge)∧W.cell? ⟨w.heap.size,3,none⟩=some (.int .i64 a.port)∧W.cell? ⟨w.heap.size+1,0,none⟩=some (.int .u64 b.root)∧W.cell? ⟨w.heap.size+1,1,none⟩=some (.int .i64 b.cost)∧W.cell? ⟨w.heap.size+1,2,none⟩=some (.int .u64 b.bridge)∧W.cell? ⟨w.heap.size+1,3,none⟩=some (.int .i64 b.port)):=fun W hW=>by
  rw[HW0.out] at hW;have h1:=vc_cells (keep (heap_alloc2_old w _ _) hW);have h2:=vc_cells (keep (heap_alloc2_new w _ _) hW);exact⟨h1.1,h1.2.1,h1.2.2.1,h1.2.2.2,h2.1,h2.2.1,h2.2.2.1,h2.2.2.2⟩
 have HOR:Hid (∀(g:Nat) (ty:TypeId) (W:World),W.heap[g]?=some (.cells #[.int .i64 (sg a.root b.root),.int .i64 (sg a.cost b.cost),.int .i64 (sg a.bridge b.bridge),.int .i64 (sg a.port b.port)] ty (0,0))→Calls Tryz.prog 164 #[.slice (some ⟨g,0,none⟩) 4 4] W fun e w'=>e=.returned (.int .i64 (Vc.cmp a b))∧w'=W):=fun g ty W h=>cor4 a b g ty W h;have HL:Hid (∀W,Bl W0 W→Bl w W):=fun W hW=>HB0.out.trans (hW.mono HB0.out.size);obtain⟨c0,c1,c2,c3,d0,d1,d2,d3⟩:=HC.out W0 HBB.out;go_enter Tryz.func165,Tryz.ntmps165;(go_wp2_with fail);rw[←HW0.out];go_region_held3 (fun W=>W.cell? ⟨w.heap.size,0,none⟩=some (.int .u64 a.root)∧W.cell? ⟨w.heap.size,1,none⟩=some (.int .i64 a.cost)∧W.cell? ⟨w.heap.size,2,none⟩=some (.int .u64 a.bridge)∧W.cell? ⟨w.heap.size,3,none⟩=some (.int .i64 a.port)∧W.cell? ⟨w.heap.size+1,0,none⟩=some (.int .u64 b.root)∧W.cell? ⟨w.heap.size+1,1,none⟩=some (.int .i64 b.cost)∧W.cell? ⟨w.heap.size+1,2,none⟩=some (.int .u64 b.bridge)∧W.cell? ⟨w.heap.size+1,3,none⟩=some (.int .i64 b.port))
  (first | (exact HC.out _ (Below.drew HBB.out)) | (exact HC.out _ (below_drew_alloc HBB.out (Nat.le_refl _) _)))
  (first | (go_at_call 201;refine(ccmpu_any _ _ _).mono ?_;rintro e w1 ⟨rfl,rfl⟩) | (go_at_call 73;refine(ccmpi_any _ _ _).mono ?_;rintro e w1 ⟨rfl,rfl⟩) | (go_at_call 164;refine(HOR.out _ _ _ (heap_alloc_last W0.drew _)).mono ?_;rintro e w1 ⟨rfl,rfl⟩))
 (go_wp2_with fail);go_ret;exact⟨rfl,HL.out _ (below_drew_alloc HBB.out (Nat.le_refl _) _)⟩
theorem vbetter_any (a b:V) (w:World) :
  Calls Tryz.prog 119 #[.agg #[.int .u64 a.root,.int .i64 a.cost,.int .u64 a.bridge,.int .i64 a.port],.agg #[.int .u64 b.root,.int .i64 b.cost,.int .u64 b.bridge,.int .i64 b.port]] w fun e w'=>e=.returned (.bool (decide (Vc.lt a b)))∧Bl w w':=by
 obtain⟨W0,HW0⟩:∃W0,Hid (W0=(w.alloc (.cells #[.int .u64 a.root,.int .i64 a.cost,.int .u64 a.bridge,.int .i64 a.port] 36)).alloc (.cells #[.int .u64 b.root,.int .i64 b.cost,.int .u64 b.bridge,.int .i64 b.port] 36)):=⟨_,rfl⟩
 have HB0:Hid (Bl w W0):=(by rw[HW0.out];exact bA2 _ _ _)
 have HCM:Hid (∀W,Calls Tryz.prog 165 #[.agg #[.int .u64 a.root,.int .i64 a.cost,.int .u64 a.bridge,.int .i64 a.port],.agg #[.int .u64 b.root,.int .i64 b.cost,.int .u64 b.bridge,.int .i64 b.port]] W fun e w'=>e=.returned (.int .i64 (Vc.cmp a b))∧Bl W w'):=fun W=>vcompare_any a b W;have HD:Hid (decide (Vc.cmp a b<0)=decide (Vc.lt a b)):=by
  by_cases h:Vc.lt a b
  ·exact(decide_eq_true (Vc.cmp_lt.2 h)).trans (decide_eq_true h).symm
  ·exact(decide_eq_false (fun q=>h (Vc.cmp_lt.1 q))).trans (decide_eq_false h).symm
 go_enter Tryz.func119,Tryz.ntmps119;(go_wp2_with fail);rw[←HW0.out];refine(HCM.out _).mono ?_;rintro e w1 ⟨rfl,hb1⟩;have HB1:Hid (Bl w w1):=HB0.out.trans (hb1.mono HB0.out.size);clear hb1;(go_wp2_with fail);go_ret;exact⟨by rw[←HD.out];rfl,HB1.out⟩
end
section
open Go.RowKit Go.Maps
open Pl (Br Net Pc Lk En St)
theorem lk_cells {w:World}{g:Nat}{a0 a1 a2 a3 a4 a5:Value}{ty:TypeId}(h:w.heap[g]?=some (.cells #[a0,a1,a2,a3,a4,a5] ty (0,0))) :
  w.cell? ⟨g,0,none⟩=some a0∧w.cell? ⟨g,1,none⟩=some a1∧w.cell? ⟨g,2,none⟩=some a2∧w.cell? ⟨g,3,none⟩=some a3∧w.cell? ⟨g,4,none⟩=some a4∧w.cell? ⟨g,5,none⟩=some a5 :=
 ⟨cell_of_row w g 0 _ _ _ h,cell_of_row w g 1 _ _ _ h,cell_of_row w g 2 _ _ _ h,cell_of_row w g 3 _ _ _ h,cell_of_row w g 4 _ _ _ h,cell_of_row w g 5 _ _ _ h⟩
def lkA (l:Lk):Array Value:=#[.int .i64 l.a,.int .i64 l.pa,.int .i64 l.b,.int .i64 l.pb,.int .i64 l.cost,.bool l.up]
theorem pwrongLink_any (K:Nat) (l:Lk) (w:World) (hK:K≤12) :
  Calls Tryz.prog 111 #[.agg (lkA l),.int .i64 K] w fun e w'=>e=.returned (.int .i64 (Pl.lkErr K l))∧Bl w w':=by
 obtain⟨a,pa,b,pb,c,up⟩:=l;simp only[lkA];have HA:Hid (∀W,Calls Tryz.prog 32 #[.int .i64 a,.int .i64 0,.int .i64 ((K:Int)-1)] W fun e w'=>e=.returned (.bool (decide (0≤a∧a≤(K:Int)-1)))∧w'=W):=fun W=>gwithin_any _ _ _ W;have HB:Hid (∀W,Calls Tryz.prog 32 #[.int .i64 b,.int .i64 0,.int .i64 ((K:Int)-1)] W fun e w'=>e=.returned (.bool (decide (0≤b∧b≤(K:Int)-1)))∧w'=W):=fun W=>gwithin_any _ _ _ W;have HP:Hid (∀W,Calls Tryz.prog 32 #[.int .i64 pa,.int .i64 1,.int .i64 30] W fun e w'=>e=.returned (.bool (decide (1≤pa∧pa≤30)))∧w'=W):=fun W=>gwithin_any _ _ _ W;have HQ:Hid (∀W,Calls Tryz.prog 32 #[.int .i64 pb,.int .i64 1,.int .i64 30] W fun e w'=>e=.returned (.bool (decide (1≤pb∧pb≤30)))∧w'=W):=fun W=>gwithin_any _ _ _ W;have HC:Hid (∀W,Calls Tryz.prog 32 #[.int .i64 c,.int .i64 1,.int .i64 200000] W fun e w'=>e=.returned (.bool (decide (1≤c∧c≤200000)))∧w'=W):=fun W=>gwithin_any _ _ _ W;have wk:IntKind.i64.wrap ((K:Int)-1)=(K:Int)-1:=(by rw[IntKind.wrap_i64];omega)
 obtain⟨c0,c1,c2,c3,c4,c5⟩:=lk_cells (heap_alloc_last w (.cells #[.int .i64 a,.int .i64 pa,.int .i64 b,.int .i64 pb,.int .i64 c,.bool up] 83));have HE:Hid (Pl.lkErr K ⟨a,pa,b,pb,c,up⟩=if ¬(0≤a∧a≤(K:Int)-1)∨¬(0≤b∧b≤(K:Int)-1) then 6 else if a=b then 8 else if ¬(1≤pa∧pa≤30)∨¬(1≤pb∧pb≤30)∨¬(1≤c∧c≤200000) then 3 else 0):=rfl;rw[HE.out];clear HE;by_cases h1:0≤a∧a≤(K:Int)-1
 ·rw[decide_eq_true h1] at HA;by_cases h2:0≤b∧b≤(K:Int)-1
  ·rw[decide_eq_true h2] at HB;rw[if_neg (by simp only[not_or,Classical.not_not];exact⟨h1,h2⟩)];by_cases h3:a=b
   ·rw[if_pos h3];have d3:(a == b)=true:=(by simp[h3])
    clear h1 h2 h3;go_enter Tryz.func111,Tryz.ntmps111;go_wp2_with (go_at_call 32;first | ((with_reducible refine(HA.out _).mono ?_);rintro e w1 ⟨rfl,rfl⟩) | ((with_reducible refine(HB.out _).mono ?_);rintro e w1 ⟨rfl,rfl⟩))
    go_ret;exact⟨rfl,bA1 _ _⟩
   ·rw[if_neg h3];have d3:(a == b)=false:=(by simp[h3])
    by_cases h4:1≤pa∧pa≤30
    ·rw[decide_eq_true h4] at HP;by_cases h5:1≤pb∧pb≤30
     ·rw[decide_eq_true h5] at HQ;by_cases h6:1≤c∧c≤200000
      ·rw[decide_eq_true h6] at HC;rw[if_neg (by simp only[not_or,Classical.not_not];exact⟨h4,h5,h6⟩)];clear h1 h2 h3 h4 h5 h6;go_enter Tryz.func111,Tryz.ntmps111;go_wp2_with (go_at_call 32;first | ((with_reducible refine(HA.out _).mono ?_);rintro e w1 ⟨rfl,rfl⟩) | ((with_reducible refine(HB.out _).mono ?_);rintro e w1 ⟨rfl,rfl⟩) | ((with_reducible refine(HP.out _).mono ?_);rintro e w1 ⟨rfl,rfl⟩) | ((with_reducible refine(HQ.out _).mono ?_);rintro e w1 ⟨rfl,rfl⟩) | ((with_reducible refine(HC.out _).mono ?_);rintro e w1 ⟨rfl,rfl⟩))
       go_ret;exact⟨rfl,bA1 _ _⟩
      ·rw[decide_eq_false h6] at HC;rw[if_pos (Or.inr (Or.inr h6))];clear h1 h2 h3 h4 h5 h6;go_enter Tryz.func111,Tryz.ntmps111;go_wp2_with (go_at_call 32;first | ((with_reducible refine(HA.out _).mono ?_);rintro e w1 ⟨rfl,rfl⟩) | ((with_reducible refine(HB.out _).mono ?_);rintro e w1 ⟨rfl,rfl⟩) | ((with_reducible refine(HP.out _).mono ?_);rintro e w1 ⟨rfl,rfl⟩) | ((with_reducible refine(HQ.out _).mono ?_);rintro e w1 ⟨rfl,rfl⟩) | ((with_reducible refine(HC.out _).mono ?_);rintro e w1 ⟨rfl,rfl⟩))
       go_ret;exact⟨rfl,bA1 _ _⟩
     ·rw[decide_eq_false h5] at HQ;rw[if_pos (Or.inr (Or.inl h5))];clear h1 h2 h3 h4 h5;go_enter Tryz.func111,Tryz.ntmps111;go_wp2_with (go_at_call 32;first | ((with_reducible refine(HA.out _).mono ?_);rintro e w1 ⟨rfl,rfl⟩) | ((with_reducible refine(HB.out _).mono ?_);rintro e w1 ⟨rfl,rfl⟩) | ((with_reducible refine(HP.out _).mono ?_);rintro e w1 ⟨rfl,rfl⟩) | ((with_reducible refine(HQ.out _).mono ?_);rintro e w1 ⟨rfl,rfl⟩))
      go_ret;exact⟨rfl,bA1 _ _⟩
    ·rw[decide_eq_false h4] at HP;rw[if_pos (Or.inl h4)];clear h1 h2 h3 h4;go_enter Tryz.func111,Tryz.ntmps111;go_wp2_with (go_at_call 32;first | ((with_reducible refine(HA.out _).mono ?_);rintro e w1 ⟨rfl,rfl⟩) | ((with_reducible refine(HB.out _).mono ?_);rintro e w1 ⟨rfl,rfl⟩) | ((with_reducible refine(HP.out _).mono ?_);rintro e w1 ⟨rfl,rfl⟩))
     go_ret;exact⟨rfl,bA1 _ _⟩
  ·rw[decide_eq_false h2] at HB;rw[if_pos (Or.inr h2)];clear h1 h2;go_enter Tryz.func111,Tryz.ntmps111;go_wp2_with (go_at_call 32;first | ((with_reducible refine(HA.out _).mono ?_);rintro e w1 ⟨rfl,rfl⟩) | ((with_reducible refine(HB.out _).mono ?_);rintro e w1 ⟨rfl,rfl⟩))
   go_ret;exact⟨rfl,bA1 _ _⟩
 ·rw[decide_eq_false h1] at HA;rw[if_pos (Or.inl h1)];clear h1;go_enter Tryz.func111,Tryz.ntmps111;go_wp2_with (go_at_call 32;refine(HA.out _).mono ?_;rintro e w1 ⟨rfl,rfl⟩)
  go_ret;exact⟨rfl,bA1 _ _⟩
theorem core_any (b off n cap:Nat) (f:Nat→Int) (w:World) (hn:n≤9223372036854775807) (hcap:n≤cap) (hf:∀i,i<n→w.cell? ⟨b,off+i,none⟩=some (.int .i64 (f i))) :
  Calls Tryz.prog 112 #[.slice (some ⟨b,off,none⟩) n cap] w fun e w'=>e=.returned (.int .i64 (orTo f n))∧w'=w:=by
 have HF:Hid (∀i,i<n→w.cell? ⟨b,off+i,none⟩=some (.int .i64 (f i))):=hf;clear hf;go_enter Tryz.func112,Tryz.ntmps112;(go_wp2_with fail);go_loopw [8] (fun i wr=>∃k:Nat,k≤n∧i=.int .i64 k∧Hid (orTo f k=0)∧wr=w) (fun i _=>n-(intOf i).toNat)
 case atStart=>exact⟨0,by omega,rfl,rfl,rfl⟩
 case round =>
  obtain⟨k,hk,rfl,hS,rfl⟩:=hrel;by_cases hlt:k<n
  ·have c0:=HF.out k hlt;by_cases h0:f k=0
   ·have d0:(f k != 0)=false:=(by simp[h0])
    have HS2:Hid (orTo f (k+1)=0):=by show(if orTo f k=0 then f k else orTo f k)=0;rw[if_pos hS.out,h0]
    clear HF hS;(go_wp2_with fail);exact⟨⟨k+1,by omega,by go_num,HS2,trivial⟩,by simp[intOf];omega⟩
   ·have d0:(f k != 0)=true:=(by simp[h0])
    have HS2:Hid (orTo f n=f k):=orTo_stay f k hS.out h0 n hlt;clear HF hS h0;(go_wp2_with fail);go_ret;exact⟨by rw[HS2.out];rfl,rfl⟩
  ·obtain rfl:k=n:=by omega
   clear HF;(go_wp2_with fail);go_ret;exact⟨by rw[hS.out];rfl,rfl⟩
theorem core2 (x y:Int) (g:Nat) (ty:TypeId) (w:World) (h:w.heap[g]?=some (.cells #[.int .i64 x,.int .i64 y] ty (0,0))) :
  Calls Tryz.prog 112 #[.slice (some ⟨g,0,none⟩) 2 2] w fun e w'=>e=.returned (.int .i64 (if x=0 then y else x))∧w'=w:=by
 obtain⟨c0,c1⟩:=tC2 h;have:=core_any g 0 2 2 (fun i=>if i=0 then x else y) w (by omega) (by omega) (fun i hi=>by
  rcases(by omega:i=0∨i=1) with e | e<;>subst e
  ·exact c0
  ·exact c1)
 have e:orTo (fun i=>if i=0 then x else y) 2=if x=0 then y else x:=by
  have e1:orTo (fun i=>if i=0 then x else y) 1=x:=(by simp[orTo])
  show(if orTo (fun i=>if i=0 then x else y) 1=0 then y else orTo (fun i=>if i=0 then x else y) 1)=_;rw[e1]
 rw[e] at this;exact this
def endSeq (ls:Nat→Lk) (j:Nat):Int×Int:=if j%2=0 then((ls (j/2)).a,(ls (j/2)).pa) else((ls (j/2)).b,(ls (j/2)).pb)
theorem endSeq_even (ls:Nat→Lk) (k:Nat):endSeq ls (2*k)=((ls k).a,(ls k).pa):=by
 unfold endSeq;rw[if_pos (by omega),show 2*k/2=k by omega]
theorem endSeq_odd (ls:Nat→Lk) (k:Nat):endSeq ls (2*k+1)=((ls k).b,(ls k).pb):=by
 unfold endSeq;rw[if_neg (by omega),show(2*k+1)/2=k by omega]
def lSay (K:Nat) (l:Lk) (c d:Int):Int:=if Pl.lkErr K l≠0 then Pl.lkErr K l else if 0<c then 7 else if 0<d then 7 else 0
theorem plClosure_any (K:Nat) (hK:K≤12) (l:Lk) (N Q P B m:Nat) (f:Nat→Int×Int) (w:World) (hN:w.cell? ⟨N,0,none⟩=some (.int .i64 K)) (hQ:w.cell? ⟨Q,0,none⟩=some (.func (.func 160) #[] #[.pointer (some ⟨P,0,none⟩)])) (hP:w.cell? ⟨P,0,none⟩=some (.map (some B))) (hPB:P≠B) (hQB:Q≠B) (hc:PCnt w B f m) (hm:m≤900) (hf:f m=(l.a,l.pa)) (hf1:f (m+1)=(l.b,l.pb))
  (wa:(Lit.int .i64 l.a).wf=true) (wpa:(Lit.int .i64 l.pa).wf=true) (wb:(Lit.int .i64 l.b).wf=true) (wpb:(Lit.int .i64 l.pb).wf=true) :
  Calls Tryz.prog 110 #[.agg (lkA l),.pointer (some ⟨N,0,none⟩),.pointer (some ⟨Q,0,none⟩)] w fun e w'=>e=.returned (.int .i64 (lSay K l (cntI f (l.a,l.pa) m) (cntI f (l.b,l.pb) (m+1))))∧(Pl.lkErr K l=0→PCnt w' B f (m+2))∧w.grownBy w' (some B):=by
 obtain⟨X,HX⟩:∃X,Hid (X=w.alloc (.cells (lkA l) 83)):=⟨_,rfl⟩
 have hXB:Bl w X:=(by rw[HX.out];exact bA1 _ _)
 have hXb:X.heap[w.heap.size]?=some (.cells (lkA l) 83):=(by rw[HX.out];exact heap_alloc_last _ _)
 have hlt:=hc.lt;have hQl:=block_lt_of_cell hQ;have hPl:=block_lt_of_cell hP;have hNl:=block_lt_of_cell hN;simp only at hQl hPl hNl;have HL:Hid (∀W,X.grownBy W (some B)→(W.cell? ⟨w.heap.size,0,none⟩=some (.int .i64 l.a)∧W.cell? ⟨w.heap.size,1,none⟩=some (.int .i64 l.pa)∧W.cell? ⟨w.heap.size,2,none⟩=some (.int .i64 l.b)∧W.cell? ⟨w.heap.size,3,none⟩=some (.int .i64 l.pb))∧W.cell? ⟨Q,0,none⟩=some (.func (.func 160) #[] #[.pointer (some ⟨P,0,none⟩)])):=by
  intro W hW;obtain⟨x0,x1,x2,x3,_⟩:=lk_cells (grown_block hXb hW (by omega));exact⟨⟨x0,x1,x2,x3⟩,grown_cell ((hXB.cell (by exact hQl)).trans hQ) hW hQB⟩
 have HGG:Hid (∀W,X.grownBy W (some B)→w.grownBy W (some B)):=fun W hW=>(grown_of_below hXB).trans hW;have HC:Hid (Calls Tryz.prog 111 #[.agg (lkA l),.int .i64 K] X fun e w'=>e=.returned (.int .i64 (Pl.lkErr K l))∧Hid (X.grownBy w' (some B)∧PCnt w' B f m)):=by
  refine(pwrongLink_any K l X hK).mono ?_;rintro e w' ⟨rfl,h2⟩;exact⟨rfl,grown_of_below h2,(hc.same (hXB.block B hlt)).same (h2.block B (Nat.lt_of_lt_of_le hlt hXB.size))⟩
 have HT1:Hid (∀W,Hid (X.grownBy W (some B)∧PCnt W B f m)→Calls Tryz.prog 160 #[.agg #[.int .i64 l.a,.int .i64 l.pa],.pointer (some ⟨P,0,none⟩)] W fun e w'=>e=.returned (.int .i64 (if 0<cntI f (l.a,l.pa) m then 7 else 0))∧Hid (X.grownBy w' (some B)∧PCnt w' B f (m+1))):=by
  intro W hW;refine(ptake_any P B m f (l.a,l.pa) W (grown_cell ((hXB.cell (by exact hPl)).trans hP) hW.out.1 hPB) hPB hW.out.2 (by omega) hf wa wpa).mono ?_;rintro e w' ⟨rfl,k1,k2⟩;exact⟨rfl,hW.out.1.trans k2,k1⟩
 have HT2:Hid (∀W,Hid (X.grownBy W (some B)∧PCnt W B f (m+1))→Calls Tryz.prog 160 #[.agg #[.int .i64 l.b,.int .i64 l.pb],.pointer (some ⟨P,0,none⟩)] W fun e w'=>e=.returned (.int .i64 (if 0<cntI f (l.b,l.pb) (m+1) then 7 else 0))∧Hid (X.grownBy w' (some B)∧PCnt w' B f (m+2))):=by
  intro W hW;refine(ptake_any P B (m+1) f (l.b,l.pb) W (grown_cell ((hXB.cell (by exact hPl)).trans hP) hW.out.1 hPB) hPB hW.out.2 (by omega) hf1 wb wpb).mono ?_;rintro e w' ⟨rfl,k1,k2⟩;exact⟨rfl,hW.out.1.trans k2,k1⟩
 obtain⟨q0,q1,q2,q3,q4,q5⟩:=lk_cells hXb;have n0:X.cell? ⟨N,0,none⟩=some (.int .i64 K):=(hXB.cell (by exact hNl)).trans hN;have HFIN:Hid (∀W (o:Obj),Hid (X.grownBy W (some B)∧PCnt W B f (m+2))→PCnt (W.alloc o) B f (m+2)∧w.grownBy (W.alloc o) (some B)):=fun W o hW=>by
  have h1:=hW.out.2.lt;exact⟨hW.out.2.same ((bA1 W o).block B h1),(HGG.out W hW.out.1).trans (grown_of_below (bA1 W o))⟩
 have HAD:Hid (∀W,Hid (X.grownBy W (some B)∧PCnt W B f m)→Hid (X.grownBy W.drew (some B)∧PCnt W.drew B f m)):=fun W hW=>⟨⟨hW.out.1.os,hW.out.1.tape,hW.out.1.output,hW.out.1.size,hW.out.1.block⟩,hW.out.2⟩
 have HSAY:Hid (Pl.lkErr K l=0→lSay K l (cntI f (l.a,l.pa) m) (cntI f (l.b,l.pb) (m+1))=if (if 0<cntI f (l.a,l.pa) m then(7:Int) else 0)=0 then(if 0<cntI f (l.b,l.pb) (m+1) then 7 else 0) else(if 0<cntI f (l.a,l.pa) m then 7 else 0)):=fun h=>by
  unfold lSay;rw[if_neg (fun q=>q h)];by_cases c:0<cntI f (l.a,l.pa) m
  ·rw[if_pos c,if_pos c];rfl
  ·rw[if_neg c,if_neg c];rfl
 have HSAY2:Hid (Pl.lkErr K l≠0→lSay K l (cntI f (l.a,l.pa) m) (cntI f (l.b,l.pb) (m+1))=Pl.lkErr K l):=fun h=>if_pos h;generalize lSay K l (cntI f (l.a,l.pa) m) (cntI f (l.b,l.pb) (m+1))=S at *;generalize (if 0<cntI f (l.a,l.pa) m then(7:Int) else 0)=R1 at *;generalize (if 0<cntI f (l.b,l.pb) (m+1) then(7:Int) else 0)=R2 at *;generalize Pl.lkErr K l=E at *;clear hQ hP hc hf hf1 hXb hXB hN wa wpa wb wpb;obtain⟨a,pa,b,pb,c,up⟩:=l;simp only[lkA] at *;rw[HX.out] at n0;by_cases e0:E=0
 ·subst e0;have HS:Hid (S=if R1=0 then R2 else R1):=HSAY.out (by first | exact rfl | trivial);have HOR:Hid (∀(g:Nat) (ty:TypeId) (W:World),W.heap[g]?=some (.cells #[.int .i64 R1,.int .i64 R2] ty (0,0))→Calls Tryz.prog 112 #[.slice (some ⟨g,0,none⟩) 2 2] W fun e w'=>e=.returned (.int .i64 S)∧w'=W):=fun g ty W h=>by rw[HS.out];exact core2 R1 R2 g ty W h
  clear HSAY HSAY2 HS;go_enter Tryz.func110,Tryz.ntmps110;(go_wp2_with fail);rw[←HX.out];refine HC.out.mono ?_;rintro e w1 ⟨rfl,hA⟩;obtain⟨⟨x0,x1,x2,x3⟩,x4⟩:=HL.out w1 hA.out.1;have HA0:Hid _:=HAD.out w1 hA;have HAd:Hid (X.grownBy w1.drew (some B)):=HA0.out.1;clear q0 q1 q2 q3 q4 q5 n0 hA HAD HC;(go_wp2_with fail);go_region_held3 (fun W=>(W.cell? ⟨w.heap.size,0,none⟩=some (.int .i64 a)∧W.cell? ⟨w.heap.size,1,none⟩=some (.int .i64 pa)∧W.cell? ⟨w.heap.size,2,none⟩=some (.int .i64 b)∧W.cell? ⟨w.heap.size,3,none⟩=some (.int .i64 pb))∧W.cell? ⟨Q,0,none⟩=some (.func (.func 160) #[] #[.pointer (some ⟨P,0,none⟩)]))
   (first | (exact HL.out _ HAd.out) | (exact HL.out _ HA1.out.1) | (exact HL.out _ HA2.out.1) | (exact HL.out _ (HA2.out.1.trans (grown_of_below (bA1 _ _)))))
   (first | (go_at_call 160;first | ((with_reducible refine(HT1.out _ HA0).mono ?_);rintro e wa ⟨rfl,HA1⟩) | ((with_reducible refine(HT2.out _ HA1).mono ?_);rintro e wb ⟨rfl,HA2⟩)) | (go_at_call 112;refine(HOR.out _ _ _ (heap_alloc_last _ _)).mono ?_;rintro e wc ⟨rfl,rfl⟩))
  (all_goals go_wp2_with fail);(all_goals go_ret);all_goals first | exact⟨rfl,fun _=>(HFIN.out _ _ HA2).1,(HFIN.out _ _ HA2).2⟩ | exact⟨rfl,(HFIN.out _ _ HA2).1,(HFIN.out _ _ HA2).2⟩
 ·have e1:(E == 0)=false:=(by simp[e0])
  have HS:Hid (S=E):=HSAY2.out e0;clear HSAY HSAY2;go_enter Tryz.func110,Tryz.ntmps110;(go_wp2_with fail);rw[←HX.out];refine HC.out.mono ?_;rintro e w1 ⟨rfl,hA⟩;(go_wp2_with fail);go_ret;exact⟨by rw[HS.out];rfl,fun h=>absurd h e0,HGG.out _ hA.out.1⟩
end
end Go.Proofs.YtflghpnpjmodaaaGreatDoor
