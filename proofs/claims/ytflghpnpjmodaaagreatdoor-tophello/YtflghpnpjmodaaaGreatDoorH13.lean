/- walks: package plan's wrongLink, cmp.Or of errors, the closure of wrongLinks -/
import Derived.Test.YtflghpnpjmodaaaGreatDoorH12
import Derived.Test.YtflghpnpjmodaaaGreatDoorH05
import Derived.Test.YtflghpnpjmodaaaGreatDoorH09
set_option maxRecDepth 100000
set_option maxHeartbeats 40000000
namespace Go.Proofs.YtflghpnpjmodaaaGreatDoor
section
open Go.RowKit Go.Maps Go.WideElems Go.ChangeShapes Go.WideShapes Go.MapKept Go.ChangeMaps
abbrev OwnP (w:World) (b n:Nat) (D:DataW Unit):Prop:=w.ownsMap Tryz.prog 139 (plainElem Tryz.prog 3) b n D
theorem ownP_same {w w':World}{b n:Nat}{D:DataW Unit}(h:OwnP w b n D) (e:w'.heap[b]?=w.heap[b]?):OwnP w' b n D:=by
 obtain⟨es,clock,hb,r⟩:=h;exact⟨es,clock,e.trans hb,r⟩
theorem wfP0:(Lit.int .i64 0).wf=true:=by decide
theorem entryP_own {w:World}{b n:Nat}{D:DataW Unit}{key:Value}{kl:Lit}(h:OwnP w b n D) (hkey:keyOf Tryz.prog 139 key=some kl) (hn:n<maxLen) (hD:IsMap D) :
  ∃(c:Int) (v0:Value) (st:Nat) (w1:World),(Instr.lookup 254 (.map (some b)) key false).run Tryz.prog w=.ok (.int .i64 c) w∧D.atKey kl (.lit (.int .i64 0))=.lit (.int .i64 c) ∧
   (Instr.mapEntry 254 (.map (some b)) key).run Tryz.prog w=.ok (.tuple #[v0,goInt st]) w1∧(Instr.lookup 254 (.map (some b)) key false).run Tryz.prog w1=.ok (.int .i64 c) w1 ∧
   ∀x,(Lit.int .i64 x).wf=true→∃w2,(Instr.entryStore 254 (.map (some b)) (goInt st) (.int .i64 x)).run Tryz.prog w1=.ok () w2∧OwnP w2 b (n+1) (D.put kl (.lit (.int .i64 x)))∧w.grownBy w2 (some b):=by
 have ht:=Tryz.underlying254;have he:=Tryz.underlying3;obtain⟨c,hl,hat,_⟩:=h.lookup_int pkeyed ht he (mzero w) hkey;have h':=h;obtain⟨es,clock,hb,F,hs,eD⟩:=h';obtain⟨v0,st,es1,clock1,hrun,_,hst⟩:=entry_then_store pklaw ht mzero hb F hkey;refine⟨c,v0,st,_,hl,hat,hrun,?_,fun x hx => ?_⟩
 ·have hb1:(setBlock w b (.map es1 clock1)).heap[b]?=some (.map es1 clock1):=heap_setBlock_same hb _;rcases pklaw.find w hkey es.toList F.keys with⟨q1,q2⟩ | ⟨j,e0,q1,q2,q3⟩
  ·have hr2:(Instr.mapEntry 254 (.map (some b)) key).run Tryz.prog w=.ok (.tuple #[.int .i64 0,goInt clock]) (setBlock w b (.map (es.push ⟨key,.int .i64 0,clock⟩) (clock+1))):=by
    simp[Instr.mapEntry,run_underlying ht,MapKept.run_getObj_map hb,pklaw.check w false hkey,q1,MapKept.run_setObj_map _ hb,Result.andThen,setBlock]
   have hu:(Instr.mapUpdate 254 (.map (some b)) key (.int .i64 0)).run Tryz.prog w=.ok () (setBlock w b (.map (es.push ⟨key,.int .i64 0,clock⟩) (clock+1))):=by
    simp[Instr.mapUpdate,run_underlying ht,MapKept.run_getObj_map hb,pklaw.check w false hkey,q1,MapKept.run_setObj_map _ hb,Result.andThen,setBlock]
   obtain⟨w',hu',hown,_⟩:=h.update pkeyed ht hn hkey (plainElem_int he wfP0);rw[hu] at hu';have ew:setBlock w b (.map (es.push ⟨key,.int .i64 0,clock⟩) (clock+1))=w':=by injection hu'
   rw[hr2] at hrun;have e1:setBlock w b (.map (es.push ⟨key,.int .i64 0,clock⟩) (clock+1))=setBlock w b (.map es1 clock1):=by injection hrun
   rw[←e1,ew];obtain⟨c',hl',hat',_⟩:=hown.lookup_int pkeyed ht he (mzero w') hkey;rw[hl'];rw[atKey_put_same hD (pkeyed.key hkey)] at hat';have h0:D.atKey kl (.lit (.int .i64 0))=.lit (.int .i64 0):=by
    rcases fit_look false pkeyed ht (mzero w) hb F hkey with⟨_,_,k3⟩ | ⟨e0,y,k1,k2,_⟩
    ·rw[eD];exact k3 _
    ·exact absurd k2 (q2 e0 k1)
   rw[h0] at hat;injection hat with hat;injection hat with _ hat;injection hat' with hat';injection hat' with _ hat';rw[←hat,←hat']
  ·have hj:es[j]?=some e0:=(by simpa using q2)
   have hsame:es.modify j (fun e=>{ e with key:=key })=es:=by
    apply Array.ext'
    rw[Array.toList_modify,modify_eq_set _ _ _ _ q2];have:({ e0 with key:=key }:MapEntry)=e0:=by rw[←q3]
    rw[this];exact set_self _ _ _ q2
   have hr2:(Instr.mapEntry 254 (.map (some b)) key).run Tryz.prog w=.ok (.tuple #[e0.val,goInt e0.born]) (setBlock w b (.map es clock)):=by
    simp[Instr.mapEntry,run_underlying ht,MapKept.run_getObj_map hb,pklaw.check w false hkey,q1,hj,q3,pklaw.stays w hkey,hsame,MapKept.run_setObj_map _ hb,Result.andThen,setBlock]
   rw[hr2] at hrun;have e1:setBlock w b (.map es clock)=setBlock w b (.map es1 clock1):=by injection hrun
   rw[←e1];have hown:=ownP_same (w':=setBlock w b (.map es clock)) h ((heap_setBlock_same hb _).trans hb.symm);obtain⟨c',hl',hat',_⟩:=hown.lookup_int pkeyed ht he (mzero _) hkey;rw[hl'];rw[hat] at hat';injection hat' with hat';injection hat' with _ hat';rw[hat']
 ·have hb1:(setBlock w b (.map es1 clock1)).heap[b]?=some (.map es1 clock1):=heap_setBlock_same hb _;obtain⟨es',clock',k1,k2⟩:=hst _ (.int .i64 x) hb1;obtain⟨w',hu',hown,hg⟩:=h.update pkeyed ht hn hkey (plainElem_int he hx);rw[k2] at hu';have ew:setBlock w b (.map es' clock')=w':=by injection hu'
  refine⟨_,k1,?_,?_⟩
  ·refine ownP_same hown ?_;rw[←ew,heap_setBlock_same hb1,heap_setBlock_same hb]
  ·exact⟨rfl,rfl,rfl,by simp[setBlock],fun i hi hne=>by
    rw[heap_setBlock_other hb1 _ (fun e=>hne (by rw[e])),heap_setBlock_other hb _ (fun e=>hne (by rw[e]))]⟩
def PCnt (w:World) (b:Nat) (f:Nat→Int×Int) (m:Nat):Prop:=∃D:DataW Unit,OwnP w b m D∧IsMap D∧∀a:Int×Int,(Lit.int .i64 a.1).wf=true→(Lit.int .i64 a.2).wf=true→D.atKey (pkl a) (.lit (.int .i64 0))=.lit (.int .i64 (cntI f a m))
theorem PCnt.same {w w':World}{b m:Nat}{f:Nat→Int×Int}(h:PCnt w b f m) (e:w'.heap[b]?=w.heap[b]?):PCnt w' b f m:=by
 obtain⟨D,h1,h2⟩:=h;exact⟨D,ownP_same h1 e,h2⟩
theorem PCnt.lt {w:World}{b m:Nat}{f:Nat→Int×Int}(h:PCnt w b f m):b<w.heap.size:=by
 obtain⟨D,h1,_⟩:=h;exact h1.lt
theorem pkl_inj {x y:Int×Int}(x1:(Lit.int .i64 x.1).wf=true) (x2:(Lit.int .i64 x.2).wf=true) (y1:(Lit.int .i64 y.1).wf=true) (y2:(Lit.int .i64 y.2).wf=true) (e:pkl x=pkl y):x=y:=by
 have h1:=pkey_of x x1 x2;rw[e] at h1;have:=pkeyed.inj h1 (pkey_of y y1 y2);obtain⟨a,b⟩:=x;obtain⟨a',b'⟩:=y;simp only[pV,Value.agg.injEq,Array.mk.injEq,List.cons.injEq,Value.int.injEq,true_and,and_true] at this;obtain⟨e1,e2⟩:=this;subst e1;subst e2;rfl
theorem tC2 {w:World}{g:Nat}{a0 a1:Value}{ty:TypeId}(h:w.heap[g]?=some (.cells #[a0,a1] ty (0,0))):w.cell? ⟨g,0,none⟩=some a0∧w.cell? ⟨g,1,none⟩=some a1 :=
 ⟨cell_of_row w g 0 _ _ _ h,cell_of_row w g 1 _ _ _ h⟩
theorem grown_block {w w':World}{b g:Nat}{o:Obj}(h:w.heap[g]?=some o) (hg:w.grownBy w' (some b)) (hne:g≠b):w'.heap[g]?=some o :=
 (hg.block g (gSm.1 h).1 (fun e=>hne (by simpa using e))).trans h
theorem ptake_any (P b m:Nat) (f:Nat→Int×Int) (a:Int×Int) (w:World) (hP:w.cell? ⟨P,0,none⟩=some (.map (some b))) (hne:P≠b) (h:PCnt w b f m) (hm:m≤1000) (hf:f m=a) (h1:(Lit.int .i64 a.1).wf=true) (h2:(Lit.int .i64 a.2).wf=true) :
  Calls Tryz.prog 160 #[.agg #[.int .i64 a.1,.int .i64 a.2],.pointer (some ⟨P,0,none⟩)] w fun e w'=>e=.returned (.int .i64 (if 0<cntI f a m then 7 else 0))∧PCnt w' b f (m+1)∧w.grownBy w' (some b):=by
 have hlt:=h.lt;have hPlt:=block_lt_of_cell hP;simp only at hPlt;obtain⟨X,HX⟩:∃X,Hid (X=w.alloc (.cells #[.int .i64 a.1,.int .i64 a.2] 139)):=⟨_,rfl⟩
 have hXb:X.heap[w.heap.size]?=some (.cells #[.int .i64 a.1,.int .i64 a.2] 139):=(by rw[HX.out];exact heap_alloc_last _ _)
 have hXg:w.grownBy X.drew (some b):=by
  rw[HX.out];exact⟨rfl,rfl,rfl,by simp[World.drew],fun i hi _=>(bA1 w _).block i hi⟩
 have hX:PCnt X.drew b f m:=h.same (by rw[HX.out];exact(bA1 w _).block b hlt);obtain⟨D,ho,hD,hat⟩:=hX;have hr:=cntI_range f a m;have hkey:=pkey_of a h1 h2;obtain⟨c,v0,st,w1,e1,e2,e3,e4,e5⟩:=entryP_own ho hkey (by unfold maxLen;omega) hD;rw[hat a h1 h2] at e2;have e2:=lit_inj e2;subst e2;obtain⟨w2,e6,ho2,hg⟩:=e5 (cntI f a m+1) (mwf (by omega) (by omega));have hat1:∀x:Int×Int,(Lit.int .i64 x.1).wf=true→(Lit.int .i64 x.2).wf=true→(D.put (pkl a) (.lit (.int .i64 (cntI f a m+1)))).atKey (pkl x) (.lit (.int .i64 0))=.lit (.int .i64 (cntI f x (m+1))):=by
  intro x x1 x2;simp only[cntI];by_cases e:a=x
  ·subst e;rw[atKey_put_same hD (pkeyed.key hkey),if_pos hf]
  ·rw[atKey_put_other (fun q=>e (pkl_inj h1 h2 x1 x2 q.symm)),hat x x1 x2,if_neg (by rw[hf];exact e),Int.add_zero]
 obtain⟨c',e7,e8,_⟩:=ho2.lookup_int pkeyed Tryz.underlying254 Tryz.underlying3 (mzero w2) hkey;rw[hat1 a h1 h2] at e8;have e8:=lit_inj e8;simp only[cntI,if_pos hf] at e8;subst e8;have q0:w2.cell? ⟨P,0,none⟩=some (.map (some b)):=grown_cell (grown_cell hP hXg hne) hg hne;have r0:X.cell? ⟨P,0,none⟩=some (.map (some b)):=(show X.drew.cell? ⟨P,0,none⟩=_ from grown_cell hP hXg hne)
 obtain⟨q1,q2⟩:=tC2 (grown_block (w:=X.drew) hXb hg (by omega));obtain⟨r1,r2⟩:=tC2 hXb;have HF:Hid (PCnt w2 b f (m+1)∧w.grownBy w2 (some b)):=⟨⟨_,ho2,hD.put _ _,hat1⟩,hXg.trans hg⟩
 unfold pV goInt at *;clear hat1 ho2 hat ho hD hg hf hXg hXb e5 hkey h hP;generalize cntI f a m=t at *;obtain⟨x,y⟩:=a;simp only at *;have wt:IntKind.i64.wrap (t+1)=t+1:=wraps_i64 _ (by omega) (by omega);by_cases h0:0<t
 ·rw[if_pos h0];have g1:(1:Int)<t+1:=(by omega)
  go_enter Tryz.func160,Tryz.ntmps160;(go_wp2_with fail);rw[←HX.out];go_region
  (all_goals go_wp2_with fail);(all_goals go_ret);all_goals exact⟨rfl,HF.out⟩
 ·rw[if_neg h0];have g1:¬(1:Int)<t+1:=(by omega)
  go_enter Tryz.func160,Tryz.ntmps160;(go_wp2_with fail);rw[←HX.out];go_region
  (all_goals go_wp2_with fail);(all_goals go_ret);all_goals exact⟨rfl,HF.out⟩
theorem ptaker_any (f:Nat→Int×Int) (w:World) :
  Calls Tryz.prog 108 #[] w fun e w'=>e=.returned (.func (.func 160) #[] #[.pointer (some ⟨w.heap.size+1,0,none⟩)])∧w'.cell? ⟨w.heap.size+1,0,none⟩=some (.map (some w.heap.size))∧PCnt w' w.heap.size f 0∧Bl w w':=by
 have hmm:=@run_makeMap Tryz.prog;go_enter Tryz.func108,Tryz.ntmps108;(go_wp2_with fail);go_ret;exact⟨rfl,cell_of_row _ _ 0 _ _ _ (heap_alloc2_new w (.map #[] 0) (.cells #[.map (some w.heap.size)] 254)),⟨.map [],(World.ownsMap_made w _ _ _).alloc _,isMap_empty,fun _ _ _=>rfl⟩,bA2 _ _ _⟩
end
section
open Go.RowKit Go.Maps
open Pl (Br Net Pc Lk En St)
theorem grown_of_below {w w':World}{b:Nat}(h:Bl w w'):w.grownBy w' (some b):=⟨h.os,h.tape,h.output,h.size,fun i hi _=>h.block i hi⟩
theorem below_of_grown {w w':World}{b n:Nat}(h:w.grownBy w' (some b)) (hn:n≤w.heap.size) (hb:n≤b):Below n w w':=(Below.refl n w).grown h hn (fun j hj=>by cases hj;exact hb)
def bSay (b:Br) (c:Int):Int:=if Pl.brErr b≠0 then Pl.brErr b else if 0<c then 7 else 0
theorem pbClosure_any (b:Br) (Q P B m:Nat) (f:Nat→Int) (w:World) (hb:b.at' w) (hQ:w.cell? ⟨Q,0,none⟩=some (.func (.func 157) #[] #[.pointer (some ⟨P,0,none⟩)])) (hP:w.cell? ⟨P,0,none⟩=some (.map (some B))) (hne:P≠B) (hc:UCnt w B f m) (hm:m≤1000) (hf:f m=b.addr) (hwf:(Lit.int .u64 b.addr).wf=true) :
  Calls Tryz.prog 106 #[.agg (brA b),.pointer (some ⟨Q,0,none⟩)] w fun e w'=>e=.returned (.int .i64 (bSay b (cntI f b.addr m)))∧(Pl.brErr b=0→UCnt w' B f (m+1))∧w.grownBy w' (some B):=by
 obtain⟨X,HX⟩:∃X,Hid (X=w.alloc (.cells (brA b) 58)):=⟨_,rfl⟩
 have hXB:Bl w X:=(by rw[HX.out];exact bA1 _ _)
 have hXb:X.heap[w.heap.size]?=some (.cells (brA b) 58):=(by rw[HX.out];exact heap_alloc_last _ _)
 have hlt:=hc.lt;have hQl:=block_lt_of_cell hQ;have hPl:=block_lt_of_cell hP;simp only at hQl hPl;have HC:Hid (Calls Tryz.prog 107 #[.agg (brA b)] X fun e w'=>e=.returned (.int .i64 (Pl.brErr b))∧Bl X w'):=pwrongBridge_any b X (hb.below hXB);have HT:Hid (∀W,Bl X W→Calls Tryz.prog 157 #[.int .u64 b.addr,.pointer (some ⟨P,0,none⟩)] W fun e w'=>e=.returned (.int .i64 (if 0<cntI f b.addr m then 7 else 0))∧UCnt w' B f (m+1)∧w.grownBy w' (some B)):=by
  intro W hW;have h1:Bl w W:=hXB.trans (hW.mono hXB.size);refine(utake_any P B m f b.addr W ((h1.cell (by exact hPl)).trans hP) hne (hc.same (h1.block B hlt)) hm hf hwf).mono ?_;rintro e w' ⟨rfl,k1,k2⟩;exact⟨rfl,k1,(grown_of_below h1).trans k2⟩
 have HL:Hid (∀W,Bl X W→W.cell? ⟨Q,0,none⟩=some (.func (.func 157) #[] #[.pointer (some ⟨P,0,none⟩)])∧W.cell? ⟨w.heap.size,0,none⟩=some (.int .u64 b.addr)∧w.grownBy W (some B)):=by
  intro W hW;have h1:Bl w W:=hXB.trans (hW.mono hXB.size);exact⟨(h1.cell (by exact hQl)).trans hQ,(br_cells (keep hXb hW)).1,grown_of_below h1⟩
 obtain⟨q0,q1,q2,q3,q4⟩:=br_cells hXb;unfold bSay;generalize Pl.brErr b=E at *;generalize cntI f b.addr m=t at *;generalize (if 0<t then(7:Int) else 0)=R at *;clear hQ hP hc hf hwf hXb hXB hb;obtain⟨addr,pao,pn,pcap,pv,⟨s,rev,ao,n,cap,vs,ts⟩⟩:=b;simp only[brA] at *;by_cases e0:E=0
 ·subst e0;rw[if_neg (by omega)];go_enter Tryz.func106,Tryz.ntmps106;(go_wp2_with fail);rw[←HX.out];refine HC.out.mono ?_;rintro e w1 ⟨rfl,hb1⟩;obtain⟨k0,k1,k2⟩:=HL.out w1 hb1;have ht1:=HT.out w1 hb1;clear hb1 k2 HL HT HC;(go_wp2_with fail);refine ht1.mono ?_;rintro e w2 ⟨rfl,k3,k4⟩;(go_wp2_with fail);go_ret;first | exact⟨rfl,fun _=>k3,k4⟩ | exact⟨rfl,k3,k4⟩
 ·rw[if_pos e0];have e1:(E == 0)=false:=(by simp[e0])
  go_enter Tryz.func106,Tryz.ntmps106;(go_wp2_with fail);rw[←HX.out];refine HC.out.mono ?_;rintro e w1 ⟨rfl,hb1⟩;obtain⟨k0,k1,k2⟩:=HL.out w1 hb1;(go_wp2_with fail);go_ret;exact⟨rfl,fun h=>absurd h e0,k2⟩
def ftA (x:Int×Int):Array Value:=#[.int .i64 x.1,.int .i64 x.2]
theorem sizeFt:(Tryz.prog.info? 26).map (·.size)=some 2:=by kernel_rfl
theorem set2_same {w:World}{g:Nat}{a0 a1 v0 v1:Value}{ty:TypeId}(h:w.heap[g]?=some (.cells #[a0,a1] ty (0,0))) :
  ((w.setCell ⟨g,0,none⟩ v0).setCell ⟨g,1,none⟩ v1).heap[g]?=some (.cells #[v0,v1] ty (0,0)):=by
 have h0:(w.setCell ⟨g,0,none⟩ v0).heap[g]?=some (.cells #[v0,a1] ty (0,0)):=(by rw[heap_setCell_same _ _ _ _ _ _ h];rfl)
 rw[heap_setCell_same _ _ _ _ _ _ h0];rfl
theorem bSay_err (bs:Nat→Br) (k:Nat):bSay (bs k) (cntI (fun j=>(bs j).addr) (bs k).addr k)=Pl.bErr bs k:=by
 unfold bSay Pl.bErr;have:=cntI_pos (fun j=>(bs j).addr) (bs k).addr k;by_cases h:Pl.brErr (bs k)=0
 ·have hn:¬Pl.brErr (bs k)≠0:=fun q=>q h;rw[if_neg hn,if_neg hn];by_cases c:0<cntI (fun j=>(bs j).addr) (bs k).addr k
  ·rw[if_pos c,if_pos (this.1 c)]
  ·rw[if_neg c,if_neg (fun q=>c (this.2 q))]
 ·rw[if_pos h,if_pos h]
theorem bErr_zero {bs:Nat→Br}{k:Nat}(h:Pl.bErr bs k=0):Pl.brErr (bs k)=0:=by
 unfold Pl.bErr at h;by_cases q:Pl.brErr (bs k)=0
 ·exact q
 ·rw[if_pos q] at h;exact absurd h q
theorem pbFirst_any (ao:Option Addr) (n cap:Nat) (bs:Nat→Br) (Q P B:Nat) (W0 w:World) (hn:n≤12) (hr:BRow W0 ao n cap bs) (hb:∀i,i<n→(bs i).at' W0) (hwf:∀i,i<n→(Lit.int .u64 (bs i).addr).wf=true)
  (hQ:w.cell? ⟨Q,0,none⟩=some (.func (.func 157) #[] #[.pointer (some ⟨P,0,none⟩)])) (hP:w.cell? ⟨P,0,none⟩=some (.map (some B))) (hPB:P≠B) (hQB:Q≠B) (hc:UCnt w B (fun j=>(bs j).addr) 0)
  (hM:W0.heap.size≤B) (hW0:Bl W0 w) :
  Calls Tryz.prog 105 #[.slice ao n cap,.func (.func 106) #[] #[.pointer (some ⟨Q,0,none⟩)]] w fun e w'=>e=.returned (.agg (ftA (Pl.firstTo (Pl.bErr bs) n)))∧Bl W0 w':=by
 have HRW:Hid (∀W,Bl W0 W→BRow W ao n cap bs∧∀i,i<n→(bs i).at' W):=fun W hW=>⟨CRow.other hr (fun q _ _ hq=>hW.block q hq) hW.size,fun i hi=>(hb i hi).below hW⟩
 have HWF:Hid (∀i,i<n→(Lit.int .u64 (bs i).addr).wf=true):=hwf;have hcap:=hr.1;have hBl:=hc.lt;obtain⟨G,HG⟩:∃G,Hid (G=w.heap.size):=⟨_,rfl⟩
 have hGB:G≠B:=(by rw[HG.out];omega)
 have hGM:W0.heap.size≤G:=(by rw[HG.out];exact hW0.size)
 have HI:Hid (∀W,W=w.alloc (.cells #[.int .i64 0,.int .i64 0] 26)→Bl W0 W∧UCnt W B (fun j=>(bs j).addr) 0∧W.heap[G]?=some (.cells #[.int .i64 0,.int .i64 0] 26)∧W.cell? ⟨Q,0,none⟩=some (.func (.func 157) #[] #[.pointer (some ⟨P,0,none⟩)])∧W.cell? ⟨P,0,none⟩=some (.map (some B))):=by
  intro W hW;have h1:Bl w W:=(by rw[hW];exact bA1 _ _)
  have hQl:=block_lt_of_cell hQ;have hPl:=block_lt_of_cell hP;exact⟨hW0.trans (h1.mono hW0.size),hc.same (h1.block B hBl),by rw[hW,HG.out];exact heap_alloc_last _ _,(h1.cell (by exact hQl)).trans hQ,(h1.cell (by exact hPl)).trans hP⟩
 clear hr hb hwf hQ hP hc hW0 hBl;go_enter Tryz.func105,Tryz.ntmps105;(go_wp2_with fail);rw[←HG.out];go_loopw [10] (fun i wr=>∃k:Nat,k≤n∧i=.int .i64 k∧Hid (∀j,j<k→Pl.bErr bs j=0)∧Hid (Bl W0 wr∧UCnt wr B (fun j=>(bs j).addr) k∧wr.heap[G]?=some (.cells #[.int .i64 0,.int .i64 0] 26)∧wr.cell? ⟨Q,0,none⟩=some (.func (.func 157) #[] #[.pointer (some ⟨P,0,none⟩)])∧wr.cell? ⟨P,0,none⟩=some (.map (some B)))) (fun i _=>n-(intOf i).toNat)
 case atStart=>exact⟨0,by omega,rfl,(fun j hj=>absurd hj (by omega)),HI.out _ rfl⟩
 case round =>
  obtain⟨k,hk,rfl,hS,hX⟩:=hrel;clear HI;by_cases hlt:k<n
  ·obtain⟨b,off,rfl,_⟩:=CRow.some (HRW.out wr hX.out.1).1 (by omega);obtain⟨c0,c1,c2,c3,c4⟩:=BRow.cells (HRW.out wr hX.out.1).1 hlt;obtain⟨X,HX⟩:∃X,Hid (X=wr.alloc (.cells (brA (bs k)) 58)):=⟨_,rfl⟩
   have HXB:Hid (Bl wr X):=(by rw[HX.out];exact bA1 _ _)
   have HX5:Hid (X.heap[wr.heap.size]?=some (.cells (brA (bs k)) 58)):=(by rw[HX.out];exact heap_alloc_last _ _)
   have HCL:Hid (Calls Tryz.prog 106 #[.agg (brA (bs k)),.pointer (some ⟨Q,0,none⟩)] X fun e w'=>e=.returned (.int .i64 (Pl.bErr bs k))∧Hid (Bl W0 w'∧(Pl.bErr bs k=0→UCnt w' B (fun j=>(bs j).addr) (k+1))∧w'.heap[G]?=some (.cells #[.int .i64 0,.int .i64 0] 26)∧w'.cell? ⟨Q,0,none⟩=some (.func (.func 157) #[] #[.pointer (some ⟨P,0,none⟩)])∧w'.cell? ⟨P,0,none⟩=some (.map (some B)))):=by
    obtain⟨x1,x2,x3,x4,x5⟩:=hX.out;have l1:=block_lt_of_cell x4;have l2:=block_lt_of_cell x5;have y1:Bl W0 X:=x1.trans (HXB.out.mono x1.size);have y4:=(HXB.out.cell (by exact l1)).trans x4;have y5:=(HXB.out.cell (by exact l2)).trans x5;have y3:=keep x3 HXB.out;refine(pbClosure_any (bs k) Q P B k (fun j=>(bs j).addr) X ((HRW.out X y1).2 k hlt) y4 y5 hPB (x2.same (HXB.out.block B x2.lt)) (by omega) rfl (HWF.out k hlt)).mono ?_;rintro e w' ⟨rfl,z1,z2⟩;rw[bSay_err];exact⟨rfl,y1.trans (below_of_grown z2 y1.size hM),fun h=>z1 (bErr_zero h),grown_block y3 z2 hGB,grown_cell y4 z2 hQB,grown_cell y5 z2 hPB⟩
   have HF1:Hid (Pl.bErr bs k≠0→ftA (Pl.firstTo (Pl.bErr bs) n)=#[.int .i64 (Pl.bErr bs k),.int .i64 (k:Int)]):=fun h=>by rw[Pl.firstTo_here (Pl.bErr bs) k hS.out h n hlt];rfl
   have HS1:Hid (Pl.bErr bs k=0→∀j,j<k+1→Pl.bErr bs j=0):=fun h j hj=>by
    by_cases e:j=k
    ·subst e;exact h
    ·exact hS.out j (by omega)
   obtain⟨d0,d1,d2,d3,d4⟩:=br_cells HX5.out;clear hX hS HX5 HXB HWF HRW;generalize Pl.bErr bs k=E at *;by_cases e0:E=0
   ·subst e0;have HS2:Hid (∀j,j<k+1→Pl.bErr bs j=0):=HS1.out rfl;clear HS1 HF1;simp only[brA] at *;(go_wp2_with fail);rw[←HX.out];refine HCL.out.mono ?_;rintro e w1 ⟨rfl,hY⟩;clear d0 d1 d2 d3 d4 c0 c1 c2 c3 c4;(go_wp2_with fail);exact⟨⟨k+1,by omega,by go_num,HS2,⟨hY.out.1,hY.out.2.1 (by first | exact rfl | trivial),hY.out.2.2⟩⟩,by simp[intOf];omega⟩
   ·have e1:(E == 0)=false:=(by simp[e0])
    have HF2:Hid _:=HF1.out e0;clear HS1 HF1;simp only[brA] at *;(go_wp2_with fail);rw[←HX.out];refine HCL.out.mono ?_;rintro e w1 ⟨rfl,hY⟩;clear d0 d1 d2 d3 d4 c0 c1 c2 c3 c4;obtain⟨f0,f1⟩:=tC2 hY.out.2.2.1;obtain⟨g0,g1,_,_⟩:=vc_free hY.out.2.2.1;(go_wp2_with fail);exact bodyPost_ret (v:=.agg #[.int .i64 E,.int .i64 (k:Int)]) (results_row (p:=4) (ty:=26) Tryz.results105 _ _ G 26 #[.int .i64 E,.int .i64 (k:Int)] (0,0) _ rfl (set2_same hY.out.2.2.1) Tryz.underlying26 rfl (by rw[sizeFt];rfl)) rfl ⟨by rw[HF2.out],(hY.out.1.setCell hGM _).setCell hGM _⟩
  ·obtain rfl:k=n:=by omega
   have HF2:Hid (ftA (Pl.firstTo (Pl.bErr bs) k)=#[.int .i64 0,.int .i64 0]):=(by rw[Pl.firstTo_all _ _ hS.out];rfl)
   obtain⟨f0,f1⟩:=tC2 hX.out.2.2.1;obtain⟨g0,g1,_,_⟩:=vc_free hX.out.2.2.1;(go_wp2_with fail);exact bodyPost_ret (v:=.agg #[.int .i64 0,.int .i64 0]) (results_row (p:=4) (ty:=26) Tryz.results105 _ _ G 26 #[.int .i64 0,.int .i64 0] (0,0) _ rfl (set2_same hX.out.2.2.1) Tryz.underlying26 rfl (by rw[sizeFt];rfl)) rfl ⟨by rw[HF2.out],(hX.out.1.setCell hGM _).setCell hGM _⟩
theorem lk_cells {w:World}{g:Nat}{a0 a1 a2 a3 a4 a5:Value}{ty:TypeId}(h:w.heap[g]?=some (.cells #[a0,a1,a2,a3,a4,a5] ty (0,0))) :
  w.cell? ⟨g,0,none⟩=some a0∧w.cell? ⟨g,1,none⟩=some a1∧w.cell? ⟨g,2,none⟩=some a2∧w.cell? ⟨g,3,none⟩=some a3∧w.cell? ⟨g,4,none⟩=some a4∧w.cell? ⟨g,5,none⟩=some a5 :=
 ⟨cell_of_row w g 0 _ _ _ h,cell_of_row w g 1 _ _ _ h,cell_of_row w g 2 _ _ _ h,cell_of_row w g 3 _ _ _ h,cell_of_row w g 4 _ _ _ h,cell_of_row w g 5 _ _ _ h⟩
def lkA (l:Lk):Array Value:=#[.int .i64 l.a,.int .i64 l.pa,.int .i64 l.b,.int .i64 l.pb,.int .i64 l.cost,.bool l.up]
theorem pwrongLink_any (K:Nat) (l:Lk) (w:World) (hK:K≤12) :
  Calls Tryz.prog 111 #[.agg (lkA l),.int .i64 K] w fun e w'=>e=.returned (.int .i64 (Pl.lkErr K l))∧Bl w w':=by
 obtain⟨a,pa,b,pb,c,up⟩:=l;simp only[lkA];have HA:Hid (∀W,Calls Tryz.prog 32 #[.int .i64 a,.int .i64 0,.int .i64 ((K:Int)-1)] W fun e w'=>e=.returned (.bool (decide (0≤a∧a≤(K:Int)-1)))∧w'=W):=fun W=>gwithin_any _ _ _ W;have HB:Hid (∀W,Calls Tryz.prog 32 #[.int .i64 b,.int .i64 0,.int .i64 ((K:Int)-1)] W fun e w'=>e=.returned (.bool (decide (0≤b∧b≤(K:Int)-1)))∧w'=W):=fun W=>gwithin_any _ _ _ W;have HP:Hid (∀W,Calls Tryz.prog 32 #[.int .i64 pa,.int .i64 1,.int .i64 30] W fun e w'=>e=.returned (.bool (decide (1≤pa∧pa≤30)))∧w'=W):=fun W=>gwithin_any _ _ _ W;have HQ:Hid (∀W,Calls Tryz.prog 32 #[.int .i64 pb,.int .i64 1,.int .i64 30] W fun e w'=>e=.returned (.bool (decide (1≤pb∧pb≤30)))∧w'=W):=fun W=>gwithin_any _ _ _ W;have HC:Hid (∀W,Calls Tryz.prog 32 #[.int .i64 c,.int .i64 1,.int .i64 200000] W fun e w'=>e=.returned (.bool (decide (1≤c∧c≤200000)))∧w'=W):=fun W=>gwithin_any _ _ _ W;have wk:IntKind.i64.wrap ((K:Int)-1)=(K:Int)-1:=(by rw[IntKind.wrap_i64];omega)
 obtain⟨c0,c1,c2,c3,c4,c5⟩:=lk_cells (heap_alloc_last w (.cells #[.int .i64 a,.int .i64 pa,.int .i64 b,.int .i64 pb,.int .i64 c,.bool up] 83));have HE:Hid (Pl.lkErr K ⟨a,pa,b,pb,c,up⟩=if ¬(0≤a∧a≤(K:Int)-1)∨¬(0≤b∧b≤(K:Int)-1) then 6 else if a=b then 8 else if ¬(1≤pa∧pa≤30)∨¬(1≤pb∧pb≤30)∨¬(1≤c∧c≤200000) then 3 else 0):=rfl;rw[HE.out];clear HE;by_cases h1:0≤a∧a≤(K:Int)-1
 ·rw[decide_eq_true h1] at HA;by_cases h2:0≤b∧b≤(K:Int)-1
  ·rw[decide_eq_true h2] at HB;rw[if_neg (by simp only[not_or,Classical.not_not];exact⟨h1,h2⟩)];by_cases h3:a=b
   ·rw[if_pos h3];have d3:(a == b)=true:=(by simp[h3])
    clear h1 h2 h3;go_enter Tryz.func111,Tryz.ntmps111;go_wp2_with (go_at_call 32;first | ((with_reducible refine(HA.out _).mono ?_);rintro e w1 ⟨rfl,rfl⟩) | ((with_reducible refine(HB.out _).mono ?_);rintro e w1 ⟨rfl,rfl⟩))
    go_ret;exact⟨rfl,bA1 _ _⟩
   ·rw[if_neg h3];have d3:(a == b)=false:=(by simp[h3])
    by_cases h4:1≤pa∧pa≤30
    ·rw[decide_eq_true h4] at HP;by_cases h5:1≤pb∧pb≤30
     ·rw[decide_eq_true h5] at HQ;by_cases h6:1≤c∧c≤200000
      ·rw[decide_eq_true h6] at HC;rw[if_neg (by simp only[not_or,Classical.not_not];exact⟨h4,h5,h6⟩)];clear h1 h2 h3 h4 h5 h6;go_enter Tryz.func111,Tryz.ntmps111;go_wp2_with (go_at_call 32;first | ((with_reducible refine(HA.out _).mono ?_);rintro e w1 ⟨rfl,rfl⟩) | ((with_reducible refine(HB.out _).mono ?_);rintro e w1 ⟨rfl,rfl⟩) | ((with_reducible refine(HP.out _).mono ?_);rintro e w1 ⟨rfl,rfl⟩) | ((with_reducible refine(HQ.out _).mono ?_);rintro e w1 ⟨rfl,rfl⟩) | ((with_reducible refine(HC.out _).mono ?_);rintro e w1 ⟨rfl,rfl⟩))
       go_ret;exact⟨rfl,bA1 _ _⟩
      ·rw[decide_eq_false h6] at HC;rw[if_pos (Or.inr (Or.inr h6))];clear h1 h2 h3 h4 h5 h6;go_enter Tryz.func111,Tryz.ntmps111;go_wp2_with (go_at_call 32;first | ((with_reducible refine(HA.out _).mono ?_);rintro e w1 ⟨rfl,rfl⟩) | ((with_reducible refine(HB.out _).mono ?_);rintro e w1 ⟨rfl,rfl⟩) | ((with_reducible refine(HP.out _).mono ?_);rintro e w1 ⟨rfl,rfl⟩) | ((with_reducible refine(HQ.out _).mono ?_);rintro e w1 ⟨rfl,rfl⟩) | ((with_reducible refine(HC.out _).mono ?_);rintro e w1 ⟨rfl,rfl⟩))
       go_ret;exact⟨rfl,bA1 _ _⟩
     ·rw[decide_eq_false h5] at HQ;rw[if_pos (Or.inr (Or.inl h5))];clear h1 h2 h3 h4 h5;go_enter Tryz.func111,Tryz.ntmps111;go_wp2_with (go_at_call 32;first | ((with_reducible refine(HA.out _).mono ?_);rintro e w1 ⟨rfl,rfl⟩) | ((with_reducible refine(HB.out _).mono ?_);rintro e w1 ⟨rfl,rfl⟩) | ((with_reducible refine(HP.out _).mono ?_);rintro e w1 ⟨rfl,rfl⟩) | ((with_reducible refine(HQ.out _).mono ?_);rintro e w1 ⟨rfl,rfl⟩))
      go_ret;exact⟨rfl,bA1 _ _⟩
    ·rw[decide_eq_false h4] at HP;rw[if_pos (Or.inl h4)];clear h1 h2 h3 h4;go_enter Tryz.func111,Tryz.ntmps111;go_wp2_with (go_at_call 32;first | ((with_reducible refine(HA.out _).mono ?_);rintro e w1 ⟨rfl,rfl⟩) | ((with_reducible refine(HB.out _).mono ?_);rintro e w1 ⟨rfl,rfl⟩) | ((with_reducible refine(HP.out _).mono ?_);rintro e w1 ⟨rfl,rfl⟩))
     go_ret;exact⟨rfl,bA1 _ _⟩
  ·rw[decide_eq_false h2] at HB;rw[if_pos (Or.inr h2)];clear h1 h2;go_enter Tryz.func111,Tryz.ntmps111;go_wp2_with (go_at_call 32;first | ((with_reducible refine(HA.out _).mono ?_);rintro e w1 ⟨rfl,rfl⟩) | ((with_reducible refine(HB.out _).mono ?_);rintro e w1 ⟨rfl,rfl⟩))
   go_ret;exact⟨rfl,bA1 _ _⟩
 ·rw[decide_eq_false h1] at HA;rw[if_pos (Or.inl h1)];clear h1;go_enter Tryz.func111,Tryz.ntmps111;go_wp2_with (go_at_call 32;refine(HA.out _).mono ?_;rintro e w1 ⟨rfl,rfl⟩)
  go_ret;exact⟨rfl,bA1 _ _⟩
theorem core_any (b off n cap:Nat) (f:Nat→Int) (w:World) (hn:n≤9223372036854775807) (hcap:n≤cap) (hf:∀i,i<n→w.cell? ⟨b,off+i,none⟩=some (.int .i64 (f i))) :
  Calls Tryz.prog 112 #[.slice (some ⟨b,off,none⟩) n cap] w fun e w'=>e=.returned (.int .i64 (orTo f n))∧w'=w:=by
 have HF:Hid (∀i,i<n→w.cell? ⟨b,off+i,none⟩=some (.int .i64 (f i))):=hf;clear hf;go_enter Tryz.func112,Tryz.ntmps112;(go_wp2_with fail);go_loopw [8] (fun i wr=>∃k:Nat,k≤n∧i=.int .i64 k∧Hid (orTo f k=0)∧wr=w) (fun i _=>n-(intOf i).toNat)
 case atStart=>exact⟨0,by omega,rfl,rfl,rfl⟩
 case round =>
  obtain⟨k,hk,rfl,hS,rfl⟩:=hrel;by_cases hlt:k<n
  ·have c0:=HF.out k hlt;by_cases h0:f k=0
   ·have d0:(f k != 0)=false:=(by simp[h0])
    have HS2:Hid (orTo f (k+1)=0):=by show(if orTo f k=0 then f k else orTo f k)=0;rw[if_pos hS.out,h0]
    clear HF hS;(go_wp2_with fail);exact⟨⟨k+1,by omega,by go_num,HS2,trivial⟩,by simp[intOf];omega⟩
   ·have d0:(f k != 0)=true:=(by simp[h0])
    have HS2:Hid (orTo f n=f k):=orTo_stay f k hS.out h0 n hlt;clear HF hS h0;(go_wp2_with fail);go_ret;exact⟨by rw[HS2.out];rfl,rfl⟩
  ·obtain rfl:k=n:=by omega
   clear HF;(go_wp2_with fail);go_ret;exact⟨by rw[hS.out];rfl,rfl⟩
theorem core2 (x y:Int) (g:Nat) (ty:TypeId) (w:World) (h:w.heap[g]?=some (.cells #[.int .i64 x,.int .i64 y] ty (0,0))) :
  Calls Tryz.prog 112 #[.slice (some ⟨g,0,none⟩) 2 2] w fun e w'=>e=.returned (.int .i64 (if x=0 then y else x))∧w'=w:=by
 obtain⟨c0,c1⟩:=tC2 h;have:=core_any g 0 2 2 (fun i=>if i=0 then x else y) w (by omega) (by omega) (fun i hi=>by
  rcases(by omega:i=0∨i=1) with e | e<;>subst e
  ·exact c0
  ·exact c1)
 have e:orTo (fun i=>if i=0 then x else y) 2=if x=0 then y else x:=by
  have e1:orTo (fun i=>if i=0 then x else y) 1=x:=(by simp[orTo])
  show(if orTo (fun i=>if i=0 then x else y) 1=0 then y else orTo (fun i=>if i=0 then x else y) 1)=_;rw[e1]
 rw[e] at this;exact this
end
end Go.Proofs.YtflghpnpjmodaaaGreatDoor
