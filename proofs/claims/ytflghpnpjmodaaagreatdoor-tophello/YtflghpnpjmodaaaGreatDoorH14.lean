/- walks: package plan's endsOf -/
import Derived.Test.YtflghpnpjmodaaaGreatDoorH05
import Derived.Test.YtflghpnpjmodaaaGreatDoorH08
import Derived.Test.YtflghpnpjmodaaaGreatDoorH13
import Derived.Test.YtflghpnpjmodaaaGreatDoorH09
import Derived.Laws.EntriesVeiled
import Derived.Deep.RegionHeld3
import Derived.Deep.DeepCutAuto
set_option maxRecDepth 100000
set_option maxHeartbeats 40000000
namespace Go.Proofs.YtflghpnpjmodaaaGreatDoor
section
open Go.RowKit
open Pl (Br Net Pc Lk En St)
def lvF (bs:Nat→Br) (ls:Nat→Lk) (k:Nat):Bool:=(ls k).up&&decide (strOf 50 (bs (ls k).a.toNat).reg.id=strOf 50 (bs (ls k).b.toNat).reg.id)
theorem endsTo_few (ls:Nat→Lk) (lv:Nat→Bool) (i:Nat):∀k,(Pl.endsTo ls lv i k).length≤2*k
 | 0=>by simp[Pl.endsTo]
 | k+1=>by
  have:=endsTo_few ls lv i k;simp only[Pl.endsTo,List.length_append,Pl.endsAt];split<;>split<;>simp<;>omega
def endsMid (ls:Nat→Lk) (lv:Nat→Bool) (k i:Nat):List En:=Pl.endsTo ls lv i k++if (ls k).a=(i:Int) then [⟨(ls k).pa,(ls k).cost,(ls k).b,(ls k).pb,lv k⟩] else []
theorem ends_next (ls:Nat→Lk) (lv:Nat→Bool) (k i:Nat):Pl.endsTo ls lv i (k+1)=endsMid ls lv k i++if (ls k).b=(i:Int) then [⟨(ls k).pb,(ls k).cost,(ls k).a,(ls k).pa,lv k⟩] else []:=by
 simp only[Pl.endsTo,Pl.endsAt,endsMid,List.append_assoc]
def MidW (w1 W:World) (G K B:Nat) (l:Lk) (L:Nat→List En):Prop :=
 Below G w1 W∧W.heap[B]?=some (.cells (lkA l) 83)∧B≠G∧∃v,EnAt W G K v L∧∀i,i<K→(v i).ownBlock≠some B
theorem EnAt.congr {w:World}{G K:Nat}{v:Nat→Value}{L M:Nat→List En}(h:EnAt w G K v L) (e:∀i,i<K→L i=M i):EnAt w G K v M :=
 ⟨h.blk,fun i hi=>by rw[←e i hi];exact h.own i hi,h.apart⟩
theorem MidW.below {w1 Z W:World}{G K B:Nat}{l:Lk}{L:Nat→List En}(h:MidW w1 Z G K B l L) (hb:Bl Z W):MidW w1 W G K B l L:=by
 obtain⟨h1,h2,h3,v,h4,h5⟩:=h;have hG:G<Z.heap.size:=(gSm.1 h4.blk).1;exact⟨h1.trans (hb.mono (Nat.le_of_lt hG)),keep h2 hb,h3,v,h4.below hb,h5⟩
theorem MidW.congr {w1 Z:World}{G K B:Nat}{l:Lk}{L M:Nat→List En}(h:MidW w1 Z G K B l L) (e:∀i,L i=M i):MidW w1 Z G K B l M:=by
 obtain⟨h1,h2,h3,v,h4,h5⟩:=h;exact⟨h1,h2,h3,v,h4.congr (fun i _=>e i),h5⟩
theorem mid_append {w1 Z:World}{G K B:Nat}{l:Lk}{L:Nat→List En}(h:MidW w1 Z G K B l L) (i:Nat) (hi:i<K) (e:En) (hlen:(L i).length≤1000) :
  ∃(x:Value) (vo:Option Addr) (vn vc:Nat) (w2:World),(∀W,Bl Z W→W.cell? ⟨G,i,none⟩=some x∧W.heap[B]?=some (.cells (lkA l) 83)) ∧
   (Builtin.append_ #[106,106] 106 #[x,.slice (some ⟨Z.heap.size,0,none⟩) 1 1]).run Tryz.prog (Z.drew.alloc (.cells #[.int .i64 e.port,.int .i64 e.cost,.int .i64 e.other,.int .i64 e.oport,.bool e.live] 153))=.ok (.slice vo vn vc) w2 ∧
   w2.cell? ⟨G,i,none⟩=some x∧w2.frozen? ⟨G,i,none⟩=false∧w2.heap[B]?=some (.cells (lkA l) 83)∧(w2.setCell ⟨G,i,none⟩ (.slice vo vn vc)).heap[B]?=some (.cells (lkA l) 83)∧((w2.setCell ⟨G,i,none⟩ (.slice vo vn vc)).cell? ⟨G,i,none⟩).isSome=true ∧
   MidW w1 (w2.setCell ⟨G,i,none⟩ (.slice vo vn vc)) G K B l (fun j=>L j++if j=i then [e] else []):=by
 obtain⟨hB,hb,hBG,v,hE,hown⟩:=h;obtain⟨v',w2,r1,r2,r3,r4,r5,r6,r7,r8⟩:=en_append hE i hi e hlen;have hBl:B<Z.heap.size:=(gSm.1 hb).1;have hw2:w2.heap[B]?=some (.cells (lkA l) 83):=(r7 B hBl (hown i hi)).trans hb;have hw3:(w2.setCell ⟨G,i,none⟩ v').heap[B]?=some (.cells (lkA l) 83):=(heap_setCell_other _ _ _ _ (by exact hBG)).trans hw2;have eC:(⟨G,i,none⟩:Addr)=⟨G,i*1+0,none⟩:=(by simp)
 have hsl:∃vo vn vc,v'=.slice vo vn vc:=by
  have:=r4.own i hi;simp only[if_true] at this;obtain⟨ao,cap,e1,_⟩:=owns_c (by omega) this;exact⟨ao,_,cap,e1⟩
 obtain⟨vo,vn,vc,rfl⟩:=hsl;refine⟨v i,vo,vn,vc,w2,fun W hW=>⟨by rw[eC];exact rowC_cell (keep hE.blk hW) hi (by omega),keep hb hW⟩,r1,r2,r3,hw2,hw3,?_,hB.trans r5,hw3,hBG,_,r4.congr (fun j hj => ?_),fun j hj => ?_⟩
 ·rw[eC,show(⟨G,i*1+0,none⟩:Addr)=⟨G,i*1+0,none⟩ from rfl,←eC];have:=rowC_cell r4.blk hi (show 0<1 by omega);rw[←eC] at this;rw[this];rfl
 ·by_cases q:j=i
  ·rw[if_pos q,if_pos q,q]
  ·rw[if_neg q,if_neg q,List.append_nil]
 ·by_cases q:j=i
  ·simp only[if_pos q];rcases r6 with r6 | r6
   ·rw[r6];exact hown i hi
   ·rw[r6];intro p;injection p with p;omega
  ·simp only[if_neg q];exact hown j hj
def AmongAt (w:World) (K:Nat) (bs:Nat→Br) (B1 B2:Nat):Prop :=
 ∃IB vI,IdsAt w IB K bs vI K∧w.heap[B1]?=some (.cells #[.slice (some ⟨IB,0,none⟩) K K] 127)∧w.heap[B2]?=some (.cells #[.func (.func 68) #[] #[.pointer (some ⟨B1,0,none⟩)]] 40)
theorem AmongAt.below {w w':World}{K:Nat}{bs:Nat→Br}{B1 B2:Nat}(h:AmongAt w K bs B1 B2) (hb:Bl w w'):AmongAt w' K bs B1 B2:=by
 obtain⟨IB,vI,h1,h2,h3⟩:=h;exact⟨IB,vI,h1.below hb,keep h2 hb,keep h3 hb⟩
theorem pisb_any (i:Int) (B1 IB K:Nat) (w:World) (hK:K≤12) (h:w.cell? ⟨B1,0,none⟩=some (.slice (some ⟨IB,0,none⟩) K K)) :
  Calls Tryz.prog 68 #[.int .i64 i,.pointer (some ⟨B1,0,none⟩)] w fun e w'=>e=.returned (.bool (decide (0≤i∧i≤(K:Int)-1)))∧w'=w:=by
 have HW:Hid (∀W,Calls Tryz.prog 32 #[.int .i64 i,.int .i64 0,.int .i64 ((K:Int)-1)] W fun e w'=>e=.returned (.bool (decide (0≤i∧i≤(K:Int)-1)))∧w'=W):=fun W=>gwithin_any _ _ _ W;have wk:IntKind.i64.wrap ((K:Int)-1)=(K:Int)-1:=(by rw[IntKind.wrap_i64];omega)
 generalize decide (0≤i∧i≤(K:Int)-1)=b at *;go_enter Tryz.func68,Tryz.ntmps68;go_wp2_with (go_at_call 32;refine(HW.out _).mono ?_;rintro e w1 ⟨rfl,rfl⟩)
 go_ret;exact⟨rfl,rfl⟩
theorem pamong_any (bao:Option Addr) (K bcap:Nat) (bs:Nat→Br) (w:World) (hK:K≤12) (hbr:BRow w bao K bcap bs) (hbat:∀i,i<K→(bs i).at' w) (hf:∀i,i<K→(bs i).Fine) (ht:Tabs w) (hbt:2≤w.heap.size) :
  Calls Tryz.prog 33 #[.slice bao K bcap] w fun e w'=>∃B1 B2,e=.returned (.func (.func 69) #[] #[.pointer (some ⟨B1,0,none⟩),.pointer (some ⟨B2,0,none⟩)])∧AmongAt w' K bs B1 B2∧Bl w w':=by
 have HID:Hid (Calls Tryz.prog 67 #[.slice bao K bcap] w fun e w'=>∃v,e=.returned (.slice (some ⟨w.heap.size,0,none⟩) K K)∧IdsAt w' w.heap.size K bs v K∧Bl w w'):=pidents_any bao K bcap bs w hK hbr hbat hf ht hbt;clear hbr hbat hf ht hbt;go_enter Tryz.func33,Tryz.ntmps33;(go_wp2_with fail);refine HID.out.mono ?_;rintro e w1 ⟨v,rfl,hI,hb⟩;obtain⟨IB,HIB⟩:∃IB,Hid (IB=w.heap.size):=⟨_,rfl⟩
 rw[←HIB.out] at hI ⊢;have HI:Hid (IdsAt w1 IB K bs v K):=hI;have HB:Hid (Bl w w1):=hb;clear hI hb HID;(go_wp2_with fail);go_ret;refine⟨w1.heap.size,w1.heap.size+1,rfl,⟨IB,v,HI.out.below (bA2 _ _ _),?_,?_⟩,HB.out.trans ((bA2 _ _ _).mono HB.out.size)⟩
 ·exact heap_alloc2_old w1 _ _
 ·exact heap_alloc2_new w1 _ _
theorem pends_any (K:Nat) (bs:Nat→Br) (B1 B2:Nat) (lao:Option Addr) (L lcap:Nat) (ls:Nat→Lk) (w:World) (hK:K≤12) (hL:L≤40) (hA:AmongAt w K bs B1 B2) (hlk:LRow w lao L lcap ls) (R:Pl.RightL K L ls) :
  Calls Tryz.prog 69 #[.slice lao L lcap,.pointer (some ⟨B1,0,none⟩),.pointer (some ⟨B2,0,none⟩)] w fun e w'=>∃G v,e=.returned (.slice (some ⟨G,0,none⟩) K K)∧EndsOk w' G K v (fun i=>Pl.ends ls (lvF bs ls) L i)∧w.heap.size≤G∧Bl w w':=by
 obtain⟨IB,vI,hI,hb1,hb2⟩:=hA;have hcap:=hlk.1;have HR:Hid (Pl.RightL K L ls):=R;have hmk:∀W:World,(Instr.makeSlice 99 (.int .i64 (K:Int)) (.int .i64 (K:Int))).run Tryz.prog W=.ok (.slice (some ⟨W.heap.size,0,none⟩) K K) (W.alloc (.cells (rowC K 1 (fun _ _=>.slice none 0 0)) 106)):=fun W=>make_rowD W 99 106 (.slice none 0 0) 1 24 K Tryz.underlying99 infoEs (by omega) rfl (by omega) (by omega) _ (fun _ j hj=>by rw[show j=0 by omega];rfl);obtain⟨G,HG⟩:∃G,Hid (G=w.heap.size):=⟨_,rfl⟩
 have hGw:w.heap.size≤G:=(by rw[HG.out];exact Nat.le_refl _)
 have HFR:Hid (∀W,Below G w W→(W.cell? ⟨B1,0,none⟩=some (.slice (some ⟨IB,0,none⟩) K K)∧W.cell? ⟨B2,0,none⟩=some (.func (.func 68) #[] #[.pointer (some ⟨B1,0,none⟩)]))∧LRow W lao L lcap ls∧IdsAt W IB K bs vI K∧Bl w W):=fun W hW=>by
  rw[HG.out] at hW;exact⟨⟨cell_of_row W B1 0 _ _ _ (keep hb1 hW),cell_of_row W B2 0 _ _ _ (keep hb2 hW)⟩,CRow.below hlk hW,hI.below hW,hW⟩
 obtain⟨⟨m0,_⟩,_⟩:=HFR.out w (by rw[HG.out];exact Below.refl _ _);have H0:Hid (Below G w (w.alloc (.cells (rowC K 1 (fun _ _=>.slice none 0 0)) 106))∧∃v,EnAt (w.alloc (.cells (rowC K 1 (fun _ _=>.slice none 0 0)) 106)) G K v (fun i=>Pl.endsTo ls (lvF bs ls) i 0)):=by
  rw[HG.out];exact⟨bA1 _ _,fun _=>.slice none 0 0,heap_alloc_last _ _,fun i hi=>ownsC_nil _ _ _ _ _,fun i j _ _ _ q hq=>by cases hq⟩
 have HGS:Hid (G≤w.heap.size):=(by rw[HG.out];exact Nat.le_refl _)
 have HIS:Hid (∀(W:World) (q:Nat),q<K→W.cell? ⟨B1,0,none⟩=some (.slice (some ⟨IB,0,none⟩) K K)→Calls Tryz.prog 68 #[.int .i64 q,.pointer (some ⟨B1,0,none⟩)] W fun e w'=>e=.returned (.bool true)∧w'=W):=fun W q hq hc=>by
  have:=pisb_any (q:Int) B1 IB K W hK hc;rw[decide_eq_true (by omega)] at this;exact this
 clear hlk R hI hb1 hb2;go_enter Tryz.func69,Tryz.ntmps69;(go_wp2_with fail);rw[←HG.out];clear m0;go_loopw [16] (fun i wr=>∃k:Nat,k≤L∧i=.int .i64 k∧Hid (Below G w wr∧∃v,EnAt wr G K v (fun i=>Pl.endsTo ls (lvF bs ls) i k))) (fun i _=>L-(intOf i).toNat)
 case atStart=>exact⟨0,by omega,rfl,H0⟩
 case round =>
  obtain⟨k,hk,rfl,hX⟩:=hrel;clear H0;by_cases hlt:k<L
  ·obtain⟨hB,v,hE⟩:=hX.out;obtain⟨_,f2,f3,_⟩:=HFR.out wr hB;obtain⟨lb,loff,rfl,_⟩:=CRow.some f2 (by omega);obtain⟨c0,c1,c2,c3,c4,c5⟩:=LRow.cells f2 hlt;obtain⟨o1,o2,o3,_⟩:=HR.out.ok k hlt;obtain⟨na,hna⟩:∃na:Nat,(ls k).a=na:=⟨(ls k).a.toNat,by omega⟩
   obtain⟨nb,hnb⟩:∃nb:Nat,(ls k).b=nb:=⟨(ls k).b.toNat,by omega⟩
   have ha:na<K:=(by omega)
   have hb:nb<K:=(by omega)
   obtain⟨B,HBB⟩:∃B,Hid (B=wr.heap.size):=⟨_,rfl⟩
   have hGlt:G<wr.heap.size:=(gSm.1 hE.blk).1;have HM0:Hid (MidW w (wr.alloc (.cells (lkA (ls k)) 83)) G K B (ls k) (fun i=>Pl.endsTo ls (lvF bs ls) i k)):=by
    refine⟨hB.trans ((bA1 wr _).mono (Nat.le_of_lt hGlt)),by rw[HBB.out];exact heap_alloc_last _ _,by rw[HBB.out];omega,v,hE.below (bA1 _ _),fun i hi p => ?_⟩;have:=(oCb (hE.own i hi) B p).2;rw[HBB.out] at this;omega
   have HLV:Hid (lvF bs ls k=((ls k).up&&decide (strOf 50 (bs na).reg.id=strOf 50 (bs nb).reg.id))):=(by unfold lvF;rw[hna,hnb];rfl)
   have HLA:Hid (∀i,(Pl.endsTo ls (lvF bs ls) i k).length≤100):=fun i=>by have:=endsTo_few ls (lvF bs ls) i k;omega
   have HMA:Hid (∀i,(fun j=>(fun i=>Pl.endsTo ls (lvF bs ls) i k) j++if j=na then [(⟨(ls k).pa,(ls k).cost,(ls k).b,(ls k).pb,lvF bs ls k⟩:En)] else []) i=endsMid ls (lvF bs ls) k i):=fun i=>by
    show _++_=_++_;congr 1
    by_cases q:i=na
    ·rw[if_pos q,if_pos (by rw[hna,q])]
    ·rw[if_neg q,if_neg (by rw[hna];omega)]
   have HMB:Hid (∀i,(fun j=>endsMid ls (lvF bs ls) k j++if j=nb then [(⟨(ls k).pb,(ls k).cost,(ls k).a,(ls k).pa,lvF bs ls k⟩:En)] else []) i=Pl.endsTo ls (lvF bs ls) i (k+1)):=fun i=>by
    rw[ends_next];show _++_=_++_;congr 1
    by_cases q:i=nb
    ·rw[if_pos q,if_pos (by rw[hnb,q])]
    ·rw[if_neg q,if_neg (by rw[hnb];omega)]
   have HLB:Hid (∀i,(endsMid ls (lvF bs ls) k i).length≤200):=fun i=>by
    have:=endsTo_few ls (lvF bs ls) i k;unfold endsMid;rw[List.length_append];split<;>simp<;>omega
   have ia0:(0:Int)≤(na:Int):=(by omega)
   have ia1:(na:Int)<(K:Int):=(by omega)
   have ib0:(0:Int)≤(nb:Int):=(by omega)
   have ib1:(nb:Int)<(K:Int):=(by omega)
   have HSP:Hid (∀W,MidW w W G K B (ls k) (fun i=>Pl.endsTo ls (lvF bs ls) i k)→Below G w W):=fun W h=>h.1;clear hX hB hE f2 f3 o1 o2 o3 hGlt;generalize lvF bs ls k=lv at *;generalize ls k=l at *;obtain⟨a,pa,b,pb,c,up⟩:=l;simp only at hna hnb c0 c1 c2 c3 c4 c5 HLV HMA HMB;subst hna;subst hnb;simp only[lkA] at HM0;obtain⟨⟨zb1,zb2⟩,_⟩:=HFR.out _ HM0.out.1;have HI1:Hid (Calls Tryz.prog 68 #[.int .i64 na,.pointer (some ⟨B1,0,none⟩)] (wr.alloc (.cells #[.int .i64 na,.int .i64 pa,.int .i64 nb,.int .i64 pb,.int .i64 c,.bool up] 83)) fun e w'=>e=.returned (.bool true)∧w'=(wr.alloc (.cells #[.int .i64 na,.int .i64 pa,.int .i64 nb,.int .i64 pb,.int .i64 c,.bool up] 83))):=HIS.out _ na ha zb1;have HI2:Hid (Calls Tryz.prog 68 #[.int .i64 nb,.pointer (some ⟨B1,0,none⟩)] (wr.alloc (.cells #[.int .i64 na,.int .i64 pa,.int .i64 nb,.int .i64 pb,.int .i64 c,.bool up] 83)) fun e w'=>e=.returned (.bool true)∧w'=(wr.alloc (.cells #[.int .i64 na,.int .i64 pa,.int .i64 nb,.int .i64 pb,.int .i64 c,.bool up] 83))):=HIS.out _ nb hb zb1;obtain⟨y0,y1,y2,y3,y4,y5⟩:=lk_cells HM0.out.2.1;rw[HBB.out] at y0 y1 y2 y3 y4 y5;go_wp2_with (go_at_call 68;(first | (with_reducible refine HI1.out.mono ?_) | (with_reducible refine HI2.out.mono ?_));rintro e w3 ⟨rfl,rfl⟩)
   rw[←HBB.out];clear y0 y1 y2 y3 y4 y5 zb1 zb2 HI1 HI2 HIS;go_cut [7,8] (fun s6 s7 wx=>s6=.pointer (some ⟨B,0,none⟩)∧s7=.bool lv∧Hid (MidW w wx G K B ⟨na,pa,nb,pb,c,up⟩ (fun i=>Pl.endsTo ls (lvF bs ls) i k)))
   case first =>
    obtain⟨Z,HZ⟩:∃Z,Hid (Z=wr.alloc (.cells #[.int .i64 na,.int .i64 pa,.int .i64 nb,.int .i64 pb,.int .i64 c,.bool up] 83)):=⟨_,rfl⟩
    rw[←HZ.out] at HM0 ⊢;have hm0:=HM0.out;obtain⟨⟨zb1,_⟩,_,g3,_⟩:=HFR.out Z hm0.1;obtain⟨q0,q1,q2,q3,q4,q5⟩:=lk_cells hm0.2.1;have HMD:Hid (∀j,MidW w (Z.drewN j) G K B ⟨na,pa,nb,pb,c,up⟩ (fun i=>Pl.endsTo ls (lvF bs ls) i k)):=fun j=>hm0.below (below_drewN (Below.refl _ _) j);have eA:(⟨IB,na,none⟩:Addr)=⟨IB,na*1+0,none⟩:=(by simp)
    have eB:(⟨IB,nb,none⟩:Addr)=⟨IB,nb*1+0,none⟩:=(by simp)
    have ca:Z.cell? ⟨IB,na,none⟩=some (vI na):=(by rw[eA];exact rowC_cell g3.1 ha (by omega))
    have cb:Z.cell? ⟨IB,nb,none⟩=some (vI nb):=(by rw[eB];exact rowC_cell g3.1 hb (by omega))
    obtain⟨ab,aoff,arc,xa,ra,_⟩:=g3.2 na ha;obtain⟨bb,boff,brc,xb,rb,_⟩:=g3.2 nb hb;rw[xa] at ca;rw[xb] at cb;have HEQ:Hid (∀m,Calls Tryz.prog 70 #[.slice (some ⟨ab,aoff,none⟩) 50 arc,.slice (some ⟨bb,boff,none⟩) 50 brc] (Z.drewN m) fun e w'=>e=.returned (.bool (decide (strOf 50 (bs na).reg.id=strOf 50 (bs nb).reg.id)))∧w'=Z.drewN m):=fun m=>gequal_any _ _ 50 _ 50 _ _ _ (Z.drewN m) (ra.below (below_drewN (Below.refl _ _) m)) (fun h=>by cases h) (rb.below (below_drewN (Below.refl _ _) m)) (fun h=>by cases h);clear hm0 g3 ra rb xa xb eA eB HM0 HFR;generalize decide (strOf 50 (bs na).reg.id=strOf 50 (bs nb).reg.id)=D at *;cases up with
    | true =>
     have HL2:lv=D:=(by rw[HLV.out,Bool.true_and])
     go_quiet (first | (go_at_call 70;exact Calls.quiet_of_same (HEQ.out _)))
     (all_goals go_wp2_with fail);all_goals go_meet
     all_goals (refine⟨rfl,?_,?_⟩;(rw[HL2]);exact HMD.out _)
    | false =>
     have HL2:lv=false:=(by rw[HLV.out,Bool.false_and])
     (go_quiet (fail));(go_wp2_with fail);go_meet
     refine⟨rfl,?_,?_⟩
     ·rw[HL2]
     ·exact HMD.out _
   case rest =>
   obtain⟨rfl,rfl,HM⟩:=hcut;clear HM0 c0 c1 c2 c3 c4 c5 HBB HLV;have HSB:Hid (∀W:World,W.heap[B]?=some (.cells (lkA ⟨na,pa,nb,pb,c,up⟩) 83)→(W.cell? ⟨B,0,none⟩=some (.int .i64 na)∧W.cell? ⟨B,1,none⟩=some (.int .i64 pa)∧W.cell? ⟨B,2,none⟩=some (.int .i64 nb)∧W.cell? ⟨B,3,none⟩=some (.int .i64 pb))∧W.cell? ⟨B,4,none⟩=some (.int .i64 c)):=fun W h=>by
    obtain⟨q0,q1,q2,q3,q4,q5⟩:=lk_cells h;exact⟨⟨q0,q1,q2,q3⟩,q4⟩
   (go_wp2_with fail);go_cut [7,8] (fun s6 s7 wx=>s6=.pointer (some ⟨B,0,none⟩)∧s7=.bool lv∧Hid (MidW w wx G K B ⟨na,pa,nb,pb,c,up⟩ (endsMid ls (lvF bs ls) k)))
   case first =>
    obtain⟨x,vo,vn,vc,w2,hW,r,s1,s2,hb2,hb3,hs3,hN⟩:=mid_append HM.out na ha ⟨pa,c,nb,pb,lv⟩ (by have:=HLA.out na;omega);have HN:Hid (MidW w (w2.setCell ⟨G,na,none⟩ (.slice vo vn vc)) G K B ⟨na,pa,nb,pb,c,up⟩ (endsMid ls (lvF bs ls) k)):=hN.congr HMA.out;have HW:Hid (∀W,Bl wc W→W.cell? ⟨G,na,none⟩=some x∧((W.cell? ⟨B,0,none⟩=some (.int .i64 na)∧W.cell? ⟨B,1,none⟩=some (.int .i64 pa)∧W.cell? ⟨B,2,none⟩=some (.int .i64 nb)∧W.cell? ⟨B,3,none⟩=some (.int .i64 pb))∧W.cell? ⟨B,4,none⟩=some (.int .i64 c))):=fun W h=>⟨(hW W h).1,HSB.out W (hW W h).2⟩
    have HB2:Hid _:=HSB.out w2 hb2;have HB3:Hid _:=HSB.out _ hb3;have g0:=(hW wc (Below.refl _ _)).1;have g1:∀o,(wc.alloc o).cell? ⟨G,na,none⟩=some x:=fun o=>(hW _ ((Below.refl _ _).alloc (Nat.le_refl _) o)).1;simp only at r;have HRR:Hid _:=r;clear r hN hW hb2 hb3 hs3 HM HMA HMB HLA HLB HFR HSP HR HSB;clear hmk HG HGS hGw;refine wp_region_held_drew (S:=fun W=>(W.cell? ⟨B,0,none⟩=some (.int .i64 na)∧W.cell? ⟨B,1,none⟩=some (.int .i64 pa)∧W.cell? ⟨B,2,none⟩=some (.int .i64 nb)∧W.cell? ⟨B,3,none⟩=some (.int .i64 pb))∧W.cell? ⟨B,4,none⟩=some (.int .i64 c)) (by kernel_rfl) (HW.out _ (Below.drew (Below.refl _ _))).2 (fun hHeld => ?_);refine pheld_take (i:=0) (v := ?_) (some 47) rfl rfl (by kernel_rfl) (by kernel_rfl) (by kernel_rfl) (fun _ _ _ h=>h) (by rfl) ?_ hHeld ?_;rotate_left 1
    ·(intro wq hSw;go_simp;try with_reducible rfl)
    (try simp only[Act.put,lsA,lsZ,lsS])
    refine pheld_take (i:=1) (v := ?_) (some 48) rfl rfl (by kernel_rfl) (by kernel_rfl) (by kernel_rfl) (fun _ _ _ h=>h) (by rfl) ?_ hHeld ?_;rotate_left 1
    ·(intro wq hSw;go_simp;try with_reducible rfl)
    (try simp only[Act.put,lsA,lsZ,lsS])
    refine pheld_take (i:=2) (v := ?_) (some 49) rfl rfl (by kernel_rfl) (by kernel_rfl) (by kernel_rfl) (fun _ _ _ h=>h) (by rfl) ?_ hHeld ?_;rotate_left 1
    ·(intro wq hSw;go_simp;try with_reducible rfl)
    (try simp only[Act.put,lsA,lsZ,lsS])
    refine pheld_take (i:=3) (v := ?_) (some 50) rfl rfl (by kernel_rfl) (by kernel_rfl) (by kernel_rfl) (fun _ _ _ h=>h) (by rfl) ?_ hHeld ?_;rotate_left 1
    ·(intro wq hSw;go_simp;try with_reducible rfl)
    (try simp only[Act.put,lsA,lsZ,lsS])
    refine pheld_take (i:=4) (v := ?_) (some 51) rfl rfl (by kernel_rfl) (by kernel_rfl) (by kernel_rfl) (fun _ _ _ h=>h) (by rfl) ?_ hHeld ?_;rotate_left 1
    ·(intro wq hSw;go_simp;try with_reducible rfl)
    (try simp only[Act.put,lsA,lsZ,lsS])
    refine pheld_take (i:=5) (v := ?_) (some 52) rfl rfl (by kernel_rfl) (by kernel_rfl) (by kernel_rfl) (fun _ _ _ h=>h) (by rfl) ?_ hHeld ?_;rotate_left 1
    ·(intro wq hSw;go_simp;try with_reducible rfl)
    (try simp only[Act.put,lsA,lsZ,lsS])
    refine pheld_take (i:=6) (v := ?_) (some 53) rfl rfl (by kernel_rfl) (by kernel_rfl) (by kernel_rfl) (fun _ _ _ h=>h) (by rfl) ?_ hHeld ?_;rotate_left 1
    ·(intro wq hSw;go_simp;try with_reducible rfl)
    (try simp only[Act.put,lsA,lsZ,lsS])
    refine pheld_take (i:=8) (v := ?_) (some 55) rfl rfl (by kernel_rfl) (by kernel_rfl) (by kernel_rfl) (fun _ _ _ h=>h) (by rfl) ?_ hHeld ?_;rotate_left 1
    ·(intro wq hSw;go_simp;try with_reducible rfl)
    (try simp only[Act.put,lsA,lsZ,lsS])
    refine pheld_take (i:=9) (v := ?_) (some 56) rfl rfl (by kernel_rfl) (by kernel_rfl) (by kernel_rfl) (fun _ _ _ h=>h) (by rfl) ?_ hHeld ?_;rotate_left 1
    ·(intro wq hSw;go_simp;try with_reducible rfl)
    (try simp only[Act.put,lsA,lsZ,lsS])
    refine pheld_take (i:=10) (v := ?_) (some 57) rfl rfl (by kernel_rfl) (by kernel_rfl) (by kernel_rfl) (fun _ _ _ h=>h) (by rfl) ?_ hHeld ?_;rotate_left 1
    ·(intro wq hSw;go_simp;try with_reducible rfl)
    (try simp only[Act.put,lsA,lsZ,lsS])
    refine pheld_take (i:=11) (v := ?_) (some 58) rfl rfl (by kernel_rfl) (by kernel_rfl) (by kernel_rfl) (fun _ _ _ h=>h) (by rfl) ?_ hHeld ?_;rotate_left 1
    ·(intro wq hSw;go_simp;try with_reducible rfl)
    (try simp only[Act.put,lsA,lsZ,lsS])
    refine pheld_take (i:=12) (v := ?_) (some 59) rfl rfl (by kernel_rfl) (by kernel_rfl) (by kernel_rfl) (fun _ _ _ h=>h) (by rfl) ?_ hHeld ?_;rotate_left 1
    ·(intro wq hSw;go_simp;try with_reducible rfl)
    (try simp only[Act.put,lsA,lsZ,lsS])
    refine pheld_take (i:=13) (v := ?_) (some 60) rfl rfl (by kernel_rfl) (by kernel_rfl) (by kernel_rfl) (fun _ _ _ h=>h) (by rfl) ?_ hHeld ?_;rotate_left 1
    ·(intro wq hSw;go_simp;try with_reducible rfl)
    (try simp only[Act.put,lsA,lsZ,lsS])
    refine pheld_take (i:=14) (v := ?_) (some 61) rfl rfl (by kernel_rfl) (by kernel_rfl) (by kernel_rfl) (fun _ _ _ h=>h) (by rfl) ?_ hHeld ?_;rotate_left 1
    ·(intro wq hSw;go_simp;try with_reducible rfl)
    (try simp only[Act.put,lsA,lsZ,lsS])
    refine pheld_take (i:=15) (v := ?_) (some 62) rfl rfl (by kernel_rfl) (by kernel_rfl) (by kernel_rfl) (fun _ _ _ h=>h) (by rfl) ?_ hHeld ?_;rotate_left 1
    ·(intro wq hSw;go_simp;try with_reducible rfl)
    (try simp only[Act.put,lsA,lsZ,lsS])
    refine pheld_take (i:=16) (v := ?_) (some 63) rfl rfl (by kernel_rfl) (by kernel_rfl) (by kernel_rfl) (fun _ _ _ h=>h) (by rfl) ?_ hHeld ?_;rotate_left 1
    ·(intro wq hSw;go_simp;try with_reducible rfl)
    (try simp only[Act.put,lsA,lsZ,lsS])
    refine pheld_take (i:=17) (v := ?_) (some 64) rfl rfl (by kernel_rfl) (by kernel_rfl) (by kernel_rfl) (fun _ _ _ h=>h) (by rfl) ?_ hHeld ?_;rotate_left 1
    ·(intro wq hSw;go_simp;try with_reducible rfl)
    (try simp only[Act.put,lsA,lsZ,lsS])
    refine wpAnyH_ready (rs:=[7,18]) (by kernel_rfl) (by simp) ?_;refine AllReadyH.cons rfl (fun K hK => ?_) (AllReadyH.cons rfl (fun K hK => ?_) AllReadyH.nil)
    ·go_simp;refine hK.out _ _ hHeld (fun hHeld => ?_);clear hK K;(try simp only[Act.put,lsA,lsZ,lsS])
     refine wpAnyH_ready (rs:=[18]) (by kernel_rfl) (by simp) ?_;refine AllReadyH.cons rfl (fun K hK => ?_) AllReadyH.nil;go_simp;refine hK.out _ _ (HW.out _ ((Below.drew (Below.refl _ _)).alloc (Nat.le_refl _) _)).2 (fun hHeld => ?_);clear hK K;(try simp only[Act.put,lsA,lsZ,lsS])
     refine wpAnyH_ready (rs:=[19]) (by kernel_rfl) (by simp) ?_;refine AllReadyH.cons rfl (fun K hK => ?_) AllReadyH.nil;refine step_append_d (some 66) rfl rfl (.tmp 54) (.tmp 65) 106 rfl _ _ _ rfl rfl HRR.out ?_;refine hK.out _ _ HB2.out (fun hHeld => ?_);clear hK K;(try simp only[Act.put,lsA,lsZ,lsS])
     refine pheld_take (i:=20) (v := ?_) (some 67) rfl rfl (by kernel_rfl) (by kernel_rfl) (by kernel_rfl) (fun _ _ _ h=>h) (by rfl) ?_ hHeld ?_;rotate_left 1
     ·(intro wq hSw;go_simp;try with_reducible rfl)
     (try simp only[Act.put,lsA,lsZ,lsS])
     refine wpAnyH_ready (rs:=[21]) (by kernel_rfl) (by simp) ?_;refine AllReadyH.cons rfl (fun K hK => ?_) AllReadyH.nil;go_simp;refine hK.out _ _ HB3.out (fun hHeld => ?_);clear hK K;refine wpAnyH_done (by kernel_rfl) ?_ _;(go_wp2_with fail);go_meet
     exact⟨rfl,rfl,HN⟩
    ·go_simp;refine hK.out _ _ (HW.out _ ((Below.drew (Below.refl _ _)).alloc (Nat.le_refl _) _)).2 (fun hHeld => ?_);clear hK K;(try simp only[Act.put,lsA,lsZ,lsS])
     refine wpAnyH_ready (rs:=[7]) (by kernel_rfl) (by simp) ?_;refine AllReadyH.cons rfl (fun K hK => ?_) AllReadyH.nil;go_simp;refine hK.out _ _ hHeld (fun hHeld => ?_);clear hK K;(try simp only[Act.put,lsA,lsZ,lsS])
     refine wpAnyH_ready (rs:=[19]) (by kernel_rfl) (by simp) ?_;refine AllReadyH.cons rfl (fun K hK => ?_) AllReadyH.nil;refine step_append_d (some 66) rfl rfl (.tmp 54) (.tmp 65) 106 rfl _ _ _ rfl rfl HRR.out ?_;refine hK.out _ _ HB2.out (fun hHeld => ?_);clear hK K;(try simp only[Act.put,lsA,lsZ,lsS])
     refine pheld_take (i:=20) (v := ?_) (some 67) rfl rfl (by kernel_rfl) (by kernel_rfl) (by kernel_rfl) (fun _ _ _ h=>h) (by rfl) ?_ hHeld ?_;rotate_left 1
     ·(intro wq hSw;go_simp;try with_reducible rfl)
     (try simp only[Act.put,lsA,lsZ,lsS])
     refine wpAnyH_ready (rs:=[21]) (by kernel_rfl) (by simp) ?_;refine AllReadyH.cons rfl (fun K hK => ?_) AllReadyH.nil;go_simp;refine hK.out _ _ HB3.out (fun hHeld => ?_);clear hK K;refine wpAnyH_done (by kernel_rfl) ?_ _;(go_wp2_with fail);go_meet
     exact⟨rfl,rfl,HN⟩
   case rest =>
   obtain⟨rfl,rfl,HM2⟩:=hcut;clear HM HMA HLA;(go_wp2_with fail);obtain⟨x,vo,vn,vc,w2,hW,r,s1,s2,hb2,hb3,hs3,hN⟩:=mid_append HM2.out nb hb ⟨pb,c,na,pa,lv⟩ (by have:=HLB.out nb;omega);have HN:Hid (Below G w (w2.setCell ⟨G,nb,none⟩ (.slice vo vn vc))∧∃v,EnAt (w2.setCell ⟨G,nb,none⟩ (.slice vo vn vc)) G K v (fun i=>Pl.endsTo ls (lvF bs ls) i (k+1))):=by
    obtain⟨h1,_,_,v,h4,_⟩:=hN.congr HMB.out;exact⟨h1,v,h4⟩
   have HW:Hid (∀W,Bl wc W→W.cell? ⟨G,nb,none⟩=some x∧((W.cell? ⟨B,0,none⟩=some (.int .i64 na)∧W.cell? ⟨B,1,none⟩=some (.int .i64 pa)∧W.cell? ⟨B,2,none⟩=some (.int .i64 nb)∧W.cell? ⟨B,3,none⟩=some (.int .i64 pb))∧W.cell? ⟨B,4,none⟩=some (.int .i64 c))):=fun W h=>⟨(hW W h).1,HSB.out W (hW W h).2⟩
   have HB2:Hid _:=HSB.out w2 hb2;have HB3:Hid _:=HSB.out _ hb3;have g0:=(hW wc (Below.refl _ _)).1;have g1:∀o,(wc.alloc o).cell? ⟨G,nb,none⟩=some x:=fun o=>(hW _ ((Below.refl _ _).alloc (Nat.le_refl _) o)).1;simp only at r;have HRR:Hid _:=r;clear r hN hW hb2 hb3 hs3 HM2 HMB HLB HFR HSP HR HSB;clear hmk HG HGS hGw;refine wp_region_held_drew (S:=fun W=>(W.cell? ⟨B,0,none⟩=some (.int .i64 na)∧W.cell? ⟨B,1,none⟩=some (.int .i64 pa)∧W.cell? ⟨B,2,none⟩=some (.int .i64 nb)∧W.cell? ⟨B,3,none⟩=some (.int .i64 pb))∧W.cell? ⟨B,4,none⟩=some (.int .i64 c)) (by kernel_rfl) (HW.out _ (Below.drew (Below.refl _ _))).2 (fun hHeld => ?_);refine pheld_take (i:=0) (v := ?_) (some 68) rfl rfl (by kernel_rfl) (by kernel_rfl) (by kernel_rfl) (fun _ _ _ h=>h) (by rfl) ?_ hHeld ?_;rotate_left 1
   ·(intro wq hSw;go_simp;try with_reducible rfl)
   (try simp only[Act.put,lsA,lsZ,lsS])
   refine pheld_take (i:=1) (v := ?_) (some 69) rfl rfl (by kernel_rfl) (by kernel_rfl) (by kernel_rfl) (fun _ _ _ h=>h) (by rfl) ?_ hHeld ?_;rotate_left 1
   ·(intro wq hSw;go_simp;try with_reducible rfl)
   (try simp only[Act.put,lsA,lsZ,lsS])
   refine pheld_take (i:=2) (v := ?_) (some 70) rfl rfl (by kernel_rfl) (by kernel_rfl) (by kernel_rfl) (fun _ _ _ h=>h) (by rfl) ?_ hHeld ?_;rotate_left 1
   ·(intro wq hSw;go_simp;try with_reducible rfl)
   (try simp only[Act.put,lsA,lsZ,lsS])
   refine pheld_take (i:=3) (v := ?_) (some 71) rfl rfl (by kernel_rfl) (by kernel_rfl) (by kernel_rfl) (fun _ _ _ h=>h) (by rfl) ?_ hHeld ?_;rotate_left 1
   ·(intro wq hSw;go_simp;try with_reducible rfl)
   (try simp only[Act.put,lsA,lsZ,lsS])
   refine pheld_take (i:=4) (v := ?_) (some 72) rfl rfl (by kernel_rfl) (by kernel_rfl) (by kernel_rfl) (fun _ _ _ h=>h) (by rfl) ?_ hHeld ?_;rotate_left 1
   ·(intro wq hSw;go_simp;try with_reducible rfl)
   (try simp only[Act.put,lsA,lsZ,lsS])
   refine pheld_take (i:=5) (v := ?_) (some 73) rfl rfl (by kernel_rfl) (by kernel_rfl) (by kernel_rfl) (fun _ _ _ h=>h) (by rfl) ?_ hHeld ?_;rotate_left 1
   ·(intro wq hSw;go_simp;try with_reducible rfl)
   (try simp only[Act.put,lsA,lsZ,lsS])
   refine pheld_take (i:=6) (v := ?_) (some 74) rfl rfl (by kernel_rfl) (by kernel_rfl) (by kernel_rfl) (fun _ _ _ h=>h) (by rfl) ?_ hHeld ?_;rotate_left 1
   ·(intro wq hSw;go_simp;try with_reducible rfl)
   (try simp only[Act.put,lsA,lsZ,lsS])
   refine pheld_take (i:=8) (v := ?_) (some 76) rfl rfl (by kernel_rfl) (by kernel_rfl) (by kernel_rfl) (fun _ _ _ h=>h) (by rfl) ?_ hHeld ?_;rotate_left 1
   ·(intro wq hSw;go_simp;try with_reducible rfl)
   (try simp only[Act.put,lsA,lsZ,lsS])
   refine pheld_take (i:=9) (v := ?_) (some 77) rfl rfl (by kernel_rfl) (by kernel_rfl) (by kernel_rfl) (fun _ _ _ h=>h) (by rfl) ?_ hHeld ?_;rotate_left 1
   ·(intro wq hSw;go_simp;try with_reducible rfl)
   (try simp only[Act.put,lsA,lsZ,lsS])
   refine pheld_take (i:=10) (v := ?_) (some 78) rfl rfl (by kernel_rfl) (by kernel_rfl) (by kernel_rfl) (fun _ _ _ h=>h) (by rfl) ?_ hHeld ?_;rotate_left 1
   ·(intro wq hSw;go_simp;try with_reducible rfl)
   (try simp only[Act.put,lsA,lsZ,lsS])
   refine pheld_take (i:=11) (v := ?_) (some 79) rfl rfl (by kernel_rfl) (by kernel_rfl) (by kernel_rfl) (fun _ _ _ h=>h) (by rfl) ?_ hHeld ?_;rotate_left 1
   ·(intro wq hSw;go_simp;try with_reducible rfl)
   (try simp only[Act.put,lsA,lsZ,lsS])
   refine pheld_take (i:=12) (v := ?_) (some 80) rfl rfl (by kernel_rfl) (by kernel_rfl) (by kernel_rfl) (fun _ _ _ h=>h) (by rfl) ?_ hHeld ?_;rotate_left 1
   ·(intro wq hSw;go_simp;try with_reducible rfl)
   (try simp only[Act.put,lsA,lsZ,lsS])
   refine pheld_take (i:=13) (v := ?_) (some 81) rfl rfl (by kernel_rfl) (by kernel_rfl) (by kernel_rfl) (fun _ _ _ h=>h) (by rfl) ?_ hHeld ?_;rotate_left 1
   ·(intro wq hSw;go_simp;try with_reducible rfl)
   (try simp only[Act.put,lsA,lsZ,lsS])
   refine pheld_take (i:=14) (v := ?_) (some 82) rfl rfl (by kernel_rfl) (by kernel_rfl) (by kernel_rfl) (fun _ _ _ h=>h) (by rfl) ?_ hHeld ?_;rotate_left 1
   ·(intro wq hSw;go_simp;try with_reducible rfl)
   (try simp only[Act.put,lsA,lsZ,lsS])
   refine pheld_take (i:=15) (v := ?_) (some 83) rfl rfl (by kernel_rfl) (by kernel_rfl) (by kernel_rfl) (fun _ _ _ h=>h) (by rfl) ?_ hHeld ?_;rotate_left 1
   ·(intro wq hSw;go_simp;try with_reducible rfl)
   (try simp only[Act.put,lsA,lsZ,lsS])
   refine pheld_take (i:=16) (v := ?_) (some 84) rfl rfl (by kernel_rfl) (by kernel_rfl) (by kernel_rfl) (fun _ _ _ h=>h) (by rfl) ?_ hHeld ?_;rotate_left 1
   ·(intro wq hSw;go_simp;try with_reducible rfl)
   (try simp only[Act.put,lsA,lsZ,lsS])
   refine pheld_take (i:=17) (v := ?_) (some 85) rfl rfl (by kernel_rfl) (by kernel_rfl) (by kernel_rfl) (fun _ _ _ h=>h) (by rfl) ?_ hHeld ?_;rotate_left 1
   ·(intro wq hSw;go_simp;try with_reducible rfl)
   (try simp only[Act.put,lsA,lsZ,lsS])
   refine wpAnyH_ready (rs:=[7,18]) (by kernel_rfl) (by simp) ?_;refine AllReadyH.cons rfl (fun K hK => ?_) (AllReadyH.cons rfl (fun K hK => ?_) AllReadyH.nil)
   ·go_simp;refine hK.out _ _ hHeld (fun hHeld => ?_);clear hK K;(try simp only[Act.put,lsA,lsZ,lsS])
    refine wpAnyH_ready (rs:=[18]) (by kernel_rfl) (by simp) ?_;refine AllReadyH.cons rfl (fun K hK => ?_) AllReadyH.nil;go_simp;refine hK.out _ _ (HW.out _ ((Below.drew (Below.refl _ _)).alloc (Nat.le_refl _) _)).2 (fun hHeld => ?_);clear hK K;(try simp only[Act.put,lsA,lsZ,lsS])
    refine wpAnyH_ready (rs:=[19]) (by kernel_rfl) (by simp) ?_;refine AllReadyH.cons rfl (fun K hK => ?_) AllReadyH.nil;refine step_append_d (some 87) rfl rfl (.tmp 75) (.tmp 86) 106 rfl _ _ _ rfl rfl HRR.out ?_;refine hK.out _ _ HB2.out (fun hHeld => ?_);clear hK K;(try simp only[Act.put,lsA,lsZ,lsS])
    refine pheld_take (i:=20) (v := ?_) (some 88) rfl rfl (by kernel_rfl) (by kernel_rfl) (by kernel_rfl) (fun _ _ _ h=>h) (by rfl) ?_ hHeld ?_;rotate_left 1
    ·(intro wq hSw;go_simp;try with_reducible rfl)
    (try simp only[Act.put,lsA,lsZ,lsS])
    refine wpAnyH_ready (rs:=[21]) (by kernel_rfl) (by simp) ?_;refine AllReadyH.cons rfl (fun K hK => ?_) AllReadyH.nil;go_simp;refine hK.out _ _ HB3.out (fun hHeld => ?_);clear hK K;refine wpAnyH_done (by kernel_rfl) ?_ _;(go_wp2_with fail);exact⟨⟨k+1,by omega,by go_num,HN⟩,by simp[intOf];omega⟩
   ·go_simp;refine hK.out _ _ (HW.out _ ((Below.drew (Below.refl _ _)).alloc (Nat.le_refl _) _)).2 (fun hHeld => ?_);clear hK K;(try simp only[Act.put,lsA,lsZ,lsS])
    refine wpAnyH_ready (rs:=[7]) (by kernel_rfl) (by simp) ?_;refine AllReadyH.cons rfl (fun K hK => ?_) AllReadyH.nil;go_simp;refine hK.out _ _ hHeld (fun hHeld => ?_);clear hK K;(try simp only[Act.put,lsA,lsZ,lsS])
    refine wpAnyH_ready (rs:=[19]) (by kernel_rfl) (by simp) ?_;refine AllReadyH.cons rfl (fun K hK => ?_) AllReadyH.nil;refine step_append_d (some 87) rfl rfl (.tmp 75) (.tmp 86) 106 rfl _ _ _ rfl rfl HRR.out ?_;refine hK.out _ _ HB2.out (fun hHeld => ?_);clear hK K;(try simp only[Act.put,lsA,lsZ,lsS])
    refine pheld_take (i:=20) (v := ?_) (some 88) rfl rfl (by kernel_rfl) (by kernel_rfl) (by kernel_rfl) (fun _ _ _ h=>h) (by rfl) ?_ hHeld ?_;rotate_left 1
    ·(intro wq hSw;go_simp;try with_reducible rfl)
    (try simp only[Act.put,lsA,lsZ,lsS])
    refine wpAnyH_ready (rs:=[21]) (by kernel_rfl) (by simp) ?_;refine AllReadyH.cons rfl (fun K hK => ?_) AllReadyH.nil;go_simp;refine hK.out _ _ HB3.out (fun hHeld => ?_);clear hK K;refine wpAnyH_done (by kernel_rfl) ?_ _;(go_wp2_with fail);exact⟨⟨k+1,by omega,by go_num,HN⟩,by simp[intOf];omega⟩
  ·obtain rfl:k=L:=by omega
   obtain⟨hB,v,hE⟩:=hX.out;have HS0:Hid (Below G w wr∧SrtAt wr G K v (fun i=>Pl.endsTo ls (lvF bs ls) i k) (fun i=>Pl.ends ls (lvF bs ls) k i) 0):=⟨hB,hE.blk,fun i hi _=>hE.own i hi,fun i hi=>absurd hi (by omega),fun i hi=>absurd hi (by omega),hE.apart⟩
   have HFW:Hid (∀j,(Pl.endsTo ls (lvF bs ls) j k).length≤1000):=fun j=>by have:=endsTo_few ls (lvF bs ls) j k;omega
   clear hX hB hE;(go_wp2_with fail);go_loopw [92] (fun i wr=>∃j:Nat,j≤K∧i=.int .i64 j∧Hid (Below G w wr∧SrtAt wr G K v (fun i=>Pl.endsTo ls (lvF bs ls) i k) (fun i=>Pl.ends ls (lvF bs ls) k i) j)) (fun i _=>K-(intOf i).toNat)
   case atStart=>exact⟨0,by omega,rfl,HS0⟩
   case round =>
    obtain⟨j,hj,rfl,hY⟩:=hrel;clear HS0;by_cases hlt2:j<K
    ·obtain⟨hB,hS⟩:=hY.out;have eA:(⟨G,j,none⟩:Addr)=⟨G,j*1+0,none⟩:=(by simp)
     have ca:wr.cell? ⟨G,j,none⟩=some (v j):=(by rw[eA];exact rowC_cell hS.blk hlt2 (by omega))
     have HSO:Hid (Calls Tryz.prog 71 #[v j,.func (.func 72) #[] #[]] wr fun e w'=>e=.returned (.tuple #[])∧Hid (Below G w w'∧SrtAt w' G K v (fun i=>Pl.endsTo ls (lvF bs ls) i k) (fun i=>Pl.ends ls (lvF bs ls) k i) (j+1))):=by
      have hGl:G<wr.heap.size:=(gSm.1 hS.blk).1;refine(psort_any (G+1) (v j) (Pl.endsTo ls (lvF bs ls) j k) wr (HFW.out j) (hS.own j hlt2 (Nat.le_refl _))).mono ?_;rintro e w' ⟨rfl,l',z1,z2,z3,z4,z6⟩;have z5:=Pl.ends_unique HR.out (lvF bs ls) j z1 z2;rw[z5] at z3;refine⟨rfl,hB.grown z4 (Nat.le_of_lt hGl) (fun q hq => ?_),srt_next hS hlt2 z4 z3 z6⟩;have:=(oCb (hS.own j hlt2 (Nat.le_refl _)) q hq).1;omega
     have i0:(0:Int)≤(j:Int):=(by omega)
     have i1:(j:Int)<(K:Int):=(by omega)
     clear hY hB hS eA HR HFW;(go_wp2_with fail);refine HSO.out.mono ?_;rintro e w2 ⟨rfl,HN⟩;clear HSO;(go_wp2_with fail);exact⟨⟨j+1,by omega,by go_num,HN⟩,by simp[intOf];omega⟩
    ·obtain rfl:j=K:=by omega
     obtain⟨hB,hS⟩:=hY.out;have HFI:Hid (Bl w wr):=(HFR.out wr hB).2.2.2;(go_wp2_with fail);go_ret;exact⟨G,v,rfl,⟨hS.blk,hS.row,hS.ty⟩,hGw,HFI.out⟩
end
end Go.Proofs.YtflghpnpjmodaaaGreatDoor
