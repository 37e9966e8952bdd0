/- walks: package talk's doTicks, changeLink -/
import Derived.Test.YtaneiffnhphkhaaGreatDoorD15
set_option maxRecDepth 100000
set_option maxHeartbeats 40000000
namespace Go.Proofs.YtaneiffnhphkhaaGreatDoor
section
open Go.RowKit
open Vc (V Of)
open Pl (En Lk Br)
open Tk (Md Mnd Cn Sc ixM ilist)
structure TickOk (F:Tf) (s:Sc):Prop where
 fine:Tk.Fine F.c s
 reg:∀i,i<F.c.K→(F.rg i).ok
 fit:∀k,k<F.T→Tk.Fit (s.E F.c) F.c.K (s.ms k)
 calm:∀k,k<F.T→∀i,i<F.c.K→∀a,0≤IL (s.ms k i).calm a
theorem TalesAt.keepB {w w':World}{g K:Nat}{x:Nat→Md}(h:TalesAt w g K x) (hb:Bl w w'):TalesAt w' g K x:=keep h hb
theorem tick_hear {W:World}{S:Nat}{F:Tf}{s:Sc}{M:Tm}{G:Nat}{ve:Nat→Value}{k i:Nat}(hk:k<F.T) (hi:i<F.c.K) (ht:TickOk F s) (h:ScAt W S F (s.mid F.c k i) M G ve) {g cap:Nat}(hv:M.vt k=.slice (some ⟨g,0,none⟩) F.c.K cap) {gt:Nat}(htl:TalesAt W gt F.c.K (fun j=>(s.ms k j).md))
  {eao:Option Addr}{ecap:Nat}(hve:ve i=.slice eao (s.E F.c i).length ecap) (oao:Option Addr) (ocap:Nat) (hor:ORow W oao (Tk.heard (s.E F.c i) (fun j=>(s.ms k j).md)).length ocap (Pl.lf (Tk.heard (s.E F.c i) (fun j=>(s.ms k j).md)))) (hon:∀ad,oao=some ad→g<ad.block) :
  Calls Tryz.prog 135 #[.pointer (some ⟨g,i*9,none⟩),.int .u64 (s.ids F.c k i),.slice eao (s.E F.c i).length ecap,.slice oao (Tk.heard (s.E F.c i) (fun j=>(s.ms k j).md)).length ocap] W fun e w'=>e=.returned (.tuple #[])∧∃v,ScAt w' S F (s.mid F.c k (i+1)) { M with iv:=v } G ve∧TalesAt w' gt F.c.K (fun j=>(s.ms k j).md)∧∀a,a<12→v a=M.iv a:=by
 have hK:=h.few;have hT:=h.fewT;have hrow:=h.mds.own k hk;rcases owns_rowS hrow with⟨_,e1⟩ | ⟨g',cap',sp,e1,hg,hn,hm,hs,hh⟩
 ·omega
 ·rw[hv] at e1;injection e1 with e2 _ e3;injection e2 with e4;injection e4 with e5;subst e5 e3;have hms:(s.mid F.c k i).ms k i=s.ms k i:=Tk.Sc.mid_ms s F.c k i i (Nat.le_refl _);have hIM:ixM k i 2<156:=Tk.ix_lt (by omega) (by omega) (by omega);obtain⟨_,_,l2⟩:=Tk.ilist_m (T:=F.T) hK F.pts (s.mid F.c k i) hk hi;rw[hms] at l2;have hcm:=h.ints.own _ hIM;have l3:F.il (s.mid F.c k i) (ixM k i 2)=(s.ms k i).calm:=l2;rw[l3] at hcm;have hfit:=(ht.fit k hk i hi).2;have hlen:(s.E F.c i).length≤1000:=by
   have h1:=(Pl.ends_perm s.ls (s.lv F.c) F.c.L i).length_eq;have h2:=endsTo_few s.ls (s.lv F.c) i F.c.L;have h3:=ht.fine.fewL;show(Pl.ends s.ls (s.lv F.c) F.c.L i).length≤1000;omega
  obtain⟨eao',ecap',ee,her⟩:=h.ends.row i hi;have hE:(s.mid F.c k i).E F.c=s.E F.c:=rfl;rw[hE] at ee her;rw[hve] at ee;injection ee with ee1 _ ee3;subst ee1 ee3;have hgt:∃cur,W.heap[g]?=some (.cells cur 66):=⟨_,hh⟩
  refine(thear_any g F.c.K i sp (fun i'=>M.mc (s.mid F.c k i) k i') (s.ms k i).md (M.iv (ixM k i 0)) (M.iv (ixM k i 1)) (M.iv (ixM k i 2)) (s.ids F.c k i) (s.E F.c i) eao ecap (Tk.heard (s.E F.c i) (fun j=>(s.ms k j).md)) oao ocap (s.ms k i).calm F.base W hi hh (fun x _=>by unfold Tm.mc;rw[hms]) hcm hfit (fun a _=>ht.calm k hk i hi a) hlen (Nat.le_trans (heard_few _ _) hlen) her (fun b off eb => ?_) hor (fun b off eb => ?_)).mono ?_
  ·intro e6;subst e6;obtain⟨cur,hc⟩:=h.ends.ty i hi b (by rw[hve,eb];rfl);exact absurd (cells_type hc hh) (by decide)
  ·intro e6;have:=hon _ eb;simp only at this;omega
  ·rintro e w' ⟨rfl,R,hW⟩;refine⟨rfl,upF M.iv (ixM k i 1) (.slice (some ⟨R,0,none⟩) ((s.E F.c i).map (Tk.roleM (Tk.chM (s.ids F.c k i) (Tk.heard (s.E F.c i) (fun j=>(s.ms k j).md))) (Tk.heard (s.E F.c i) (fun j=>(s.ms k j).md)))).length ((s.E F.c i).map (Tk.roleM (Tk.chM (s.ids F.c k i) (Tk.heard (s.E F.c i) (fun j=>(s.ms k j).md))) (Tk.heard (s.E F.c i) (fun j=>(s.ms k j).md)))).length),?_,?_,fun a ha=>upF_other _ _ (by unfold ixM;omega)⟩
   ·have:=h.hear hk hi hv hn hm hs hW (by
     rw[hms];simp;omega) (by simp;omega)
    rw[←Tk.Sc.mid_step];exact this
   ·refine hW.else'.keep htl (fun hp => ?_);rcases hp with hp | hp
    ·subst hp;exact absurd (cells_type htl hh) (by decide)
    ·obtain⟨c2,hc2⟩:=owns_type hcm hp;exact absurd (cells_type htl hc2) (by decide)
theorem ttick_any (W:World) (S:Nat) (F:Tf) (s:Sc) (M:Tm) (G:Nat) (ve:Nat→Value) (ht:TickOk F s) (h:ScAt W S F s M G ve) :
  Calls Tryz.prog 102 #[.pointer (some ⟨S,0,none⟩)] W fun e w'=>e=.returned (.tuple #[])∧∃v,ScAt w' S F (s.ticks F.c 1) { M with iv:=v } G ve:=by
 have hK:=h.few;have hT:=h.fewT;obtain⟨oao,ocap,eo,hout,_,_⟩:=owns_c (by omega) h.out;have hocap:=hout.1;have H0:Hid (∃v,ScAt W S F (s.mid F.c 0 0) { M with iv:=v } G ve):=⟨M.iv,by rw[Tk.Sc.mid_zero];exact h⟩
 have HTK:Hid (TickOk F s):=ht;obtain⟨_,_,s2,_,_⟩:=h.cells;rw[eo] at s2;have HEO:Hid (M.vo=.slice oao F.T ocap):=eo;clear h ht eo hout;go_enter Tryz.func102,Tryz.ntmps102;(go_wp2_with fail);clear s2;go_loopw [12] (fun z wr=>∃k:Nat,k≤F.T∧z=.int .i64 k∧Hid (∃v,ScAt wr S F (s.mid F.c k 0) { M with iv:=v } G ve)) (fun z _=>F.T-(intOf z).toNat)
 case atStart=>exact⟨0,by omega,rfl,H0⟩
 case round =>
  obtain⟨k,hk,rfl,hX⟩:=hrel;clear H0;by_cases hlt:k<F.T
  ·obtain⟨v0,hA⟩:=hX.out;obtain⟨oao',ocap',eo',hout,_,_⟩:=owns_c (by omega) hA.out;have eo2:M.vo=.slice oao' F.T ocap':=eo';rw[HEO.out] at eo2;injection eo2 with eo3 _ eo4;subst eo3 eo4;obtain⟨ob,ooff,rfl,hob⟩:=CRow.some hout (by omega);have co:wr.cell? ⟨ob,ooff+k,none⟩=some (M.vt k):=by
    obtain⟨b',off',e',_,hc'⟩:=hout.2 (by omega);cases e'
    have:=hc' k hlt 0 (by omega);rw[Nat.mul_one,Nat.add_zero] at this;exact this
   obtain⟨mao,mcap,em,hmr,_,_⟩:=owns_c (by omega) (hA.mds.own k hlt);have em2:M.vt k=.slice mao F.c.K mcap:=em;rw[em2] at co;have hmcap:=hmr.1;have hx:∀j,j<F.c.K→((s.mid F.c k 0).ms k j).md=(s.ms k j).md:=fun j _=>by rw[Tk.Sc.mid_ms s F.c k 0 j (Nat.zero_le _)]
   have hsl:∀a,a<156→∃x m q,v0 a=.slice x m q:=fun a ha=>by
    obtain⟨x,q,e,_⟩:=owns_c (by omega) (hA.ints.own a ha);exact⟨x,_,q,e⟩
   have HTA:Hid (Calls Tryz.prog 134 #[.slice mao F.c.K mcap] wr fun e w'=>e=.returned (.slice (some ⟨wr.heap.size,0,none⟩) F.c.K F.c.K)∧Hid (∃v,ScAt w' S F (s.mid F.c k 0) { M with iv:=v } G ve∧TalesAt w' wr.heap.size F.c.K (fun j=>(s.ms k j).md))):=by
    refine(ttales_any mao F.c.K mcap (fun j=>((s.mid F.c k 0).ms k j).md) (fun j=>v0 (ixM k j 0)) (fun j=>v0 (ixM k j 1)) (fun j=>v0 (ixM k j 2)) wr hK (fun j hj=>⟨hsl _ (Tk.ix_lt (by omega) (by omega) (by omega)),hsl _ (Tk.ix_lt (by omega) (by omega) (by omega)),hsl _ (Tk.ix_lt (by omega) (by omega) (by omega))⟩) hmr).mono ?_;rintro e w' ⟨rfl,z1,z2⟩;refine⟨rfl,v0,hA.below z2,?_⟩;refine Eq.trans z1 (congrArg (fun a=>some (Obj.cells a 104)) (rowC_congr ?_));intro j hj;show tlC ((s.mid F.c k 0).ms k j).md.v ((s.mid F.c k 0).ms k j).md.age=tlC (s.ms k j).md.v (s.ms k j).md.age;rw[hx j hj]
   have ik:(0:Int)≤(k:Int):=(by omega)
   have nk:(k:Int)<(F.T:Int):=(by omega)
   have HEM:Hid (M.vt k=.slice mao F.c.K mcap):=em2;obtain⟨gt,HGT⟩:∃gt,Hid (gt=wr.heap.size):=⟨_,rfl⟩
   rw[←HGT.out] at HTA;clear hX hA hout hmr hx hsl em em2 eo';(go_wp2_with fail);refine HTA.out.mono ?_;rintro e w2 ⟨rfl,H2⟩;clear HTA co;(go_wp2_with fail);go_loopw [21] (fun z wr2=>∃i:Nat,i≤F.c.K∧z=.int .i64 i∧Hid (∃v,ScAt wr2 S F (s.mid F.c k i) { M with iv:=v } G ve∧TalesAt wr2 gt F.c.K (fun j=>(s.ms k j).md))) (fun z _=>F.c.K-(intOf z).toNat)
   case atStart=>exact⟨0,by omega,rfl,H2⟩
   case round =>
    obtain⟨i,hi,rfl,hY⟩:=hrel;clear H2;by_cases hli:i<F.c.K
    ·obtain⟨v,hA,hTl⟩:=hY.out;obtain⟨g,mc2,eg⟩:∃g mc2,M.vt k=.slice (some ⟨g,0,none⟩) F.c.K mc2:=by
      rcases owns_rowS (hA.mds.own k hlt) with⟨_,e1⟩ | ⟨g',cap',_,e1,_⟩
      ·omega
      ·exact⟨g',cap',e1⟩
     have eg2:=eg;rw[HEM.out] at eg2;injection eg2 with eg3 _ eg4;subst eg3 eg4;have hgl:g<wr.heap.size:=(oCb (hA.mds.own k hlt) g (by rw[show({ M with iv:=v }:Tm).vt k=M.vt k from rfl,eg];rfl)).2;obtain⟨bao,bcap,eb,hbr,_,_⟩:=owns_c (by omega) hA.brs;have eb2:M.vb=.slice bao F.c.K bcap:=eb;have hbcap:=hbr.1;obtain⟨bb,boff,rfl,_⟩:=CRow.some hbr (by omega);obtain⟨pao,pcap,wao,wcap,ep,_,ew,_,_⟩:=hA.bridge hli;obtain⟨eao,ecap,ee,her⟩:=hA.ends.row i hli;have ee2:ve i=.slice eao (s.E F.c i).length ecap:=ee;have ep2:v i=.slice pao (s.pr i).length pcap:=ep;have ew2:M.we i=.slice wao (F.rg i).n wcap:=ew;have HRD:Hid (∀(V:World) (s':Sc) (v':Nat→Value),ScAt V S F s' { M with iv:=v' } G ve→v' i=v i→V.cell? ⟨S,0,none⟩=some (.slice (some ⟨bb,boff,none⟩) F.c.K bcap)∧V.cell? ⟨S,4,none⟩=some (.slice (some ⟨G,0,none⟩) F.c.K F.c.K)∧(V.cell? ⟨bb,boff+i*5,none⟩=some (.int .u64 (F.c.addr i))∧V.cell? ⟨bb,boff+i*5+1,none⟩=some (.slice pao (s.pr i).length pcap)∧V.cell? ⟨bb,boff+i*5+2,none⟩=some (.string (F.rg i).s)∧V.cell? ⟨bb,boff+i*5+3,none⟩=some (.int .i64 (F.rg i).rev)∧V.cell? ⟨bb,boff+i*5+4,none⟩=some (.slice wao (F.rg i).n wcap))∧V.cell? ⟨G,i,none⟩=some (.slice eao (s.E F.c i).length ecap)):=fun V s' v' hV hv'=>by
      obtain⟨q0,_,_,_,q4⟩:=hV.cells;obtain⟨bao',bcap',eb',hbr',_,_⟩:=owns_c (by omega) hV.brs;have eb3:M.vb=.slice bao' F.c.K bcap':=eb';rw[eb2] at eb3;injection eb3 with eb4 _ eb5;subst eb4 eb5;obtain⟨b'',off'',e'',_,hc''⟩:=hbr'.2 (by omega);cases e''
      have q5:=rowC_cell hV.ends.blk hli (show 0<1 by omega);rw[show i*1+0=i by omega,ee2] at q5;refine⟨by rw[←eb2];exact q0,q4,⟨hc'' i hli 0 (by omega),?_,hc'' i hli 2 (by omega),hc'' i hli 3 (by omega),?_⟩,q5⟩
      ·rw[←ep2,←hv'];exact hc'' i hli 1 (by omega)
      ·rw[←ew2];exact hc'' i hli 4 (by omega)
     have HID:Hid (∀V,Bl wr V→Calls Tryz.prog 32 #[.agg #[.int .u64 (F.c.addr i),.slice pao (s.pr i).length pcap,.string (F.rg i).s,.int .i64 (F.rg i).rev,.slice wao (F.rg i).n wcap],.int .i64 k] V fun e w'=>e=.returned (.int .u64 (s.ids F.c k i))∧Hid (Bl wr w')):=fun V hV=>by
      have h1:=(hA.below hV).ident hli ⟨HTK.out.fine.few,HTK.out.fine.fewL,HTK.out.fine.links,HTK.out.fine.addr,HTK.out.fine.apart,HTK.out.fine.prios⟩ (HTK.out.reg i hli) k;rw[show({ M with iv:=v }:Tm).iv i=v i from rfl,ep2,show({ M with iv:=v }:Tm).we i=M.we i from rfl,ew2] at h1;refine h1.mono ?_;rintro e w' ⟨rfl,z⟩;exact⟨rfl,hV.trans (z.mono hV.size)⟩
     have hlen:(s.E F.c i).length≤1000:=by
      have h1:=(Pl.ends_perm s.ls (s.lv F.c) F.c.L i).length_eq;have h2:=endsTo_few s.ls (s.lv F.c) i F.c.L;have h3:=HTK.out.fine.fewL;show(Pl.ends s.ls (s.lv F.c) F.c.L i).length≤1000;omega
     have HHD:Hid (∀V,Bl wr V→Calls Tryz.prog 51 #[.slice eao (s.E F.c i).length ecap,.slice (some ⟨gt,0,none⟩) F.c.K F.c.K] V fun e w'=>∃oao ocap,e=.returned (.slice oao (Tk.heard (s.E F.c i) (fun j=>(s.ms k j).md)).length ocap)∧Hid (ORow w' oao (Tk.heard (s.E F.c i) (fun j=>(s.ms k j).md)).length ocap (Pl.lf (Tk.heard (s.E F.c i) (fun j=>(s.ms k j).md)))∧(∀ad,oao=some ad→g<ad.block)∧Bl wr w')):=fun V hV=>by
      refine(pheard_any (s.E F.c i) eao ecap gt F.c.K (fun j=>(s.ms k j).md) V (by omega) hlen (CRow.below her hV) ((hTl.keepB hV).told) (fun e he hl=>((HTK.out.fine.good (s.ids F.c k)).lt i hli e he hl).1)).mono ?_;rintro e w' ⟨oao,ocap,rfl,z1,z2,z3⟩;exact⟨oao,ocap,rfl,z1,fun ad e=>Nat.lt_of_lt_of_le hgl (Nat.le_trans hV.size (z3 ad e)),hV.trans (z2.mono hV.size)⟩
     have HHR:Hid (∀(V:World) (oao:Option Addr) (ocap:Nat),Hid (ORow V oao (Tk.heard (s.E F.c i) (fun j=>(s.ms k j).md)).length ocap (Pl.lf (Tk.heard (s.E F.c i) (fun j=>(s.ms k j).md)))∧(∀ad,oao=some ad→g<ad.block)∧Bl wr V)→Calls Tryz.prog 135 #[.pointer (some ⟨g,i*9,none⟩),.int .u64 (s.ids F.c k i),.slice eao (s.E F.c i).length ecap,.slice oao (Tk.heard (s.E F.c i) (fun j=>(s.ms k j).md)).length ocap] V fun e w'=>e=.returned (.tuple #[])∧∃v',Hid (ScAt w' S F (s.mid F.c k (i+1)) { M with iv:=v' } G ve∧TalesAt w' gt F.c.K (fun j=>(s.ms k j).md)∧v' i=v i)):=fun V oao ocap hh=>by
      obtain⟨z1,z2,z3⟩:=hh.out;refine(tick_hear hlt hli HTK.out (hA.below z3) eg (hTl.keepB z3) ee2 oao ocap z1 z2).mono ?_;rintro e w' ⟨rfl,v',y1,y2,y3⟩;exact⟨rfl,v',y1,y2,y3 i (by omega)⟩
     have HSB:Hid (∀V,Bl wr V→ScAt V S F (s.mid F.c k i) { M with iv:=v } G ve):=fun V hV=>hA.below hV;have HB0:Hid (Bl wr wr.drew):=Below.drew (Below.refl _ _);obtain⟨t0,t4,⟨b0,b1,b2,b3,b4⟩,tg⟩:=HRD.out wr _ v hA rfl;have ii:(0:Int)≤(i:Int):=(by omega)
     have ni:(i:Int)<(F.c.K:Int):=(by omega)
     clear hY hA hTl hbr her eg hgl eb eb2 ep ew ee ep2 ew2 ee2 hlen HTK;generalize s.ids F.c k i=idv at *;generalize (Tk.heard (s.E F.c i) (fun j=>(s.ms k j).md)).length=hl at *;generalize (s.E F.c i).length=el at *;generalize (s.pr i).length=pl at *;generalize (F.rg i).s=rs at *;generalize (F.rg i).rev=rv at *;generalize (F.rg i).n=wn at *;generalize F.c.addr i=ad at *;(go_wp2_with fail);go_region_held3 (fun V=>V.cell? ⟨S,0,none⟩=some (.slice (some ⟨bb,boff,none⟩) F.c.K bcap)∧V.cell? ⟨S,4,none⟩=some (.slice (some ⟨G,0,none⟩) F.c.K F.c.K)∧(V.cell? ⟨bb,boff+i*5,none⟩=some (.int .u64 ad)∧V.cell? ⟨bb,boff+i*5+1,none⟩=some (.slice pao pl pcap)∧V.cell? ⟨bb,boff+i*5+2,none⟩=some (.string rs)∧V.cell? ⟨bb,boff+i*5+3,none⟩=some (.int .i64 rv)∧V.cell? ⟨bb,boff+i*5+4,none⟩=some (.slice wao wn wcap))∧V.cell? ⟨G,i,none⟩=some (.slice eao el ecap))
      (first | (with_reducible exact HRD.out _ _ v (HSB.out _ HB0.out) rfl) | (with_reducible exact HRD.out _ _ v (HSB.out _ HI1.out) rfl) | (with_reducible exact HRD.out _ _ v (HSB.out _ HO1.out.2.2) rfl) | (with_reducible exact HRD.out _ _ _ HN1.out.1 HN1.out.2.2))
      (first | (go_at_call 32;(with_reducible refine(HID.out _ HB0.out).mono ?_);rintro e w4 ⟨rfl,HI1⟩) | (go_at_call 51;(with_reducible refine(HHD.out _ HI1.out).mono ?_);rintro e w5 ⟨oao,ocap2,rfl,HO1⟩) | (go_at_call 135;(with_reducible refine(HHR.out _ _ _ HO1).mono ?_);rintro e w6 ⟨rfl,v',HN1⟩))
     (all_goals go_wp2_with fail);all_goals exact⟨⟨i+1,by omega,by go_num,⟨v',HN1.out.1,HN1.out.2.1⟩⟩,by simp[intOf];omega⟩
    ·obtain rfl:i=F.c.K:=by omega
     have HN:Hid (∃v,ScAt wr S F (s.mid F.c (k+1) 0) { M with iv:=v } G ve):=by
      obtain⟨v,hA,_⟩:=hY.out;rw[Tk.Sc.mid_next] at hA;exact⟨v,hA⟩
     clear hY;(go_wp2_with fail);exact⟨⟨k+1,by omega,by go_num,HN⟩,by simp[intOf];omega⟩
  ·obtain rfl:k=F.T:=by omega
   have HF:Hid (∃v,ScAt wr S F (s.ticks F.c 1) { M with iv:=v } G ve):=by
    obtain⟨v,hA⟩:=hX.out;exact⟨v,hA.congr rfl rfl (fun k i hk hi=>(Tk.Sc.mid_all s F.c hk hi).symm)⟩
   clear hX;(go_wp2_with fail);exact bodyPost_end (results_none Tryz.results102 _ _ _) rfl ⟨rfl,HF.out⟩
structure ScC (W:World) (S:Nat) (F:Tf) (s:Sc) (M:Tm) (vE:Value):Prop where
 blk:W.heap[S]?=some (.cells #[M.vb,M.vl,M.vo,.func (.func 74) #[] #[.pointer (some ⟨F.B1,0,none⟩),.pointer (some ⟨F.B2,0,none⟩)],vE] 92)
 brs:W.ownsRow F.base 74 5 M.vb F.c.K (cellsL F.c.K 5 (fun i=>brX (F.c.addr i) (M.iv i) (F.rg i).s (F.rg i).rev (M.we i)))
 lks:W.ownsRow F.base 83 6 M.vl F.c.L (cellsL F.c.L 6 (fun k=>lkC (s.ls k)))
 out:W.ownsRow F.base 64 1 M.vo F.T (cellsL F.T 1 (fun k _=>M.vt k))
 mds:Fam W F.base 66 9 F.T M.vt (fun _=>F.c.K) (fun k i=>M.mc s k i)
 ints:Fam W F.base 3 1 156 M.iv (fun a=>(F.il s a).length) (fun a i _=>.int .i64 (IL (F.il s a) i))
 ways:Fam W F.base 81 2 12 M.we (fun i=>if i<F.c.K then(F.rg i).n else 0) (fun i j=>wyC ((F.rg i).vs j) ((F.rg i).ts j))
 low:Below F.base F.W0 W
 few:F.c.K≤12
 fewT:F.T≤4
section
variable {W W':World}{S:Nat}{F:Tf}{s:Sc}{M:Tm}{G:Nat}{ve:Nat→Value}{vE:Value}
theorem ScAt.core (h:ScAt W S F s M G ve):ScC W S F s M (.slice (some ⟨G,0,none⟩) F.c.K F.c.K):=⟨h.blk,h.brs,h.lks,h.out,h.mds,h.ints,h.ways,h.low,h.few,h.fewT⟩
theorem ScC.with' (h:ScC W S F s M (.slice (some ⟨G,0,none⟩) F.c.K F.c.K)) (he:EndsOk W G F.c.K ve (s.E F.c)):ScAt W S F s M G ve:=⟨h.blk,h.brs,h.lks,h.out,h.mds,h.ints,h.ways,h.low,he,h.few,h.fewT⟩
theorem ScC.below (h:ScC W S F s M vE) (hb:Bl W W'):ScC W' S F s M vE :=
 ⟨keep h.blk hb,ownsC_below h.brs hb,ownsC_below h.lks hb,ownsC_below h.out hb,h.mds.below hb,h.ints.below hb,h.ways.below hb,h.low.trans (hb.mono h.low.size),h.few,h.fewT⟩
theorem ScC.cells (h:ScC W S F s M vE):W.cell? ⟨S,0,none⟩=some M.vb∧W.cell? ⟨S,1,none⟩=some M.vl∧W.cell? ⟨S,2,none⟩=some M.vo∧W.cell? ⟨S,3,none⟩=some (.func (.func 74) #[] #[.pointer (some ⟨F.B1,0,none⟩),.pointer (some ⟨F.B2,0,none⟩)])∧W.cell? ⟨S,4,none⟩=some vE :=
 ⟨cell_of_row W S 0 _ _ _ h.blk,cell_of_row W S 1 _ _ _ h.blk,cell_of_row W S 2 _ _ _ h.blk,cell_of_row W S 3 _ _ _ h.blk,cell_of_row W S 4 _ _ _ h.blk⟩
theorem ScC.parts (h:ScC W S F s M vE) {P:Nat→Prop}{eP:Nat}(hb:Bt P W W') (hP:∀q cur e,W.heap[q]?=some (.cells cur e (0,0))→e≠eP→¬P q) (hlo:∀q,q<F.base→¬P q) :
  (92≠eP→W'.heap[S]?=some (.cells #[M.vb,M.vl,M.vo,.func (.func 74) #[] #[.pointer (some ⟨F.B1,0,none⟩),.pointer (some ⟨F.B2,0,none⟩)],vE] 92)) ∧
  (74≠eP→W'.ownsRow F.base 74 5 M.vb F.c.K (cellsL F.c.K 5 (fun i=>brX (F.c.addr i) (M.iv i) (F.rg i).s (F.rg i).rev (M.we i)))) ∧
  (83≠eP→W'.ownsRow F.base 83 6 M.vl F.c.L (cellsL F.c.L 6 (fun k=>lkC (s.ls k)))) ∧
  (64≠eP→W'.ownsRow F.base 64 1 M.vo F.T (cellsL F.T 1 (fun k _=>M.vt k))) ∧
  (66≠eP→Fam W' F.base 66 9 F.T M.vt (fun _=>F.c.K) (fun k i=>M.mc s k i)) ∧
  (3≠eP→Fam W' F.base 3 1 156 M.iv (fun a=>(F.il s a).length) (fun a i _=>.int .i64 (IL (F.il s a) i))) ∧
  (81≠eP→Fam W' F.base 81 2 12 M.we (fun i=>if i<F.c.K then(F.rg i).n else 0) (fun i j=>wyC ((F.rg i).vs j) ((F.rg i).ts j)))∧Below F.base F.W0 W':=by
 have ko:∀{e k n:Nat}{v:Value}{xs:List Value},W.ownsRow F.base e k v n xs→e≠eP→W'.ownsRow F.base e k v n xs:=fun ho he=>owns_keep ho (fun q hq=>by
  obtain⟨cur,hc⟩:=owns_type ho hq;exact hb.block q (oCb ho q hq).2 (hP q cur _ hc he))
 have kf:∀{e kk T:Nat}{v:Nat→Value}{n:Nat→Nat}{c:Nat→Nat→Nat→Value},Fam W F.base e kk T v n c→e≠eP→Fam W' F.base e kk T v n c:=fun hf he=>hf.bt hb (fun a ha q hq=>by
  obtain⟨cur,hc⟩:=owns_type (hf.own a ha) hq;exact hP q cur _ hc he)
 exact⟨fun he=>hb.keep h.blk (hP _ _ _ h.blk he),ko h.brs,ko h.lks,ko h.out,kf h.mds,kf h.ints,kf h.ways,h.low.trans (hb.below h.low.size hlo)⟩
theorem ScC.link (h:ScC W S F s M vE) {gl cap n x:Nat}{sp:Array Value}{val:Value}(hv:M.vl=.slice (some ⟨gl,0,none⟩) F.c.L cap) (hcap:F.c.L≤cap) (hmx:cap≤maxLen) (hsp:sp.size+F.c.L*6=cap*6) (hh:W.heap[gl]?=some (.cells (rowS sp F.c.L 6 (fun k=>lkC (s.ls k))) 83)) (hn:n<F.c.L) (hx:x<6) {s':Sc}(hpr:s'.pr=s.pr) (hms:s'.ms=s.ms) (hls:∀k,k<F.c.L→∀y,y<6→lkC (s'.ls k) y=if k=n∧y=x then val else lkC (s.ls k) y) :
  ScC (W.setCell ⟨gl,n*6+x,none⟩ val) S F s' M vE:=by
 have hb:Bt (fun q=>q=gl) W (W.setCell ⟨gl,n*6+x,none⟩ val):=(Bt.refl (fun q=>q=gl) W).setCell (Or.inl rfl) _ _;have hbl:F.base≤gl:=(oCb h.lks gl (by rw[hv];rfl)).1;obtain⟨p1,p2,_,p4,p5,p6,p7,p8⟩:=h.parts (eP:=83) hb (fun q cur e hq he hp=>by subst hp;exact he (cells_type hq hh)) (fun q hq hp=>by omega);have hil:∀a,F.il s a=F.il s' a:=fun a=>by unfold Tf.il ilist;rw[hpr,hms]
 refine⟨p1 (by decide),p2 (by decide),?_,p4 (by decide),(p5 (by decide)).congr (fun _ _=>rfl) (fun a _ i _ y _=>by unfold Tm.mc;rw[hms]),(p6 (by decide)).congr (fun a _=>by rw[hil]) (fun a _ i _ y _=>by rw[hil]),p7 (by decide),p8,h.few,h.fewT⟩;rw[hv];refine rowS_owns hbl hcap hmx hsp ?_;refine(rowS_set hh hn hx val).trans (congrArg (fun a=>some (Obj.cells a 83)) (rowS_congr2 sp ?_));intro k hk y hy;rw[hls k hk y hy];rfl
theorem ScC.scene (h:ScC W S F s M vE) (hlo:F.base≤S) (vE':Value):ScC (W.setCell ⟨S,4,none⟩ vE') S F s M vE':=by
 have hb:Bt (fun q=>q=S) W (W.setCell ⟨S,4,none⟩ vE'):=(Bt.refl (fun q=>q=S) W).setCell (Or.inl rfl) _ _;obtain⟨_,p2,p3,p4,p5,p6,p7,p8⟩:=h.parts (eP:=92) hb (fun q cur e hq he hp=>by subst hp;exact he (cells_type hq h.blk)) (fun q hq hp=>by omega);refine⟨?_,p2 (by decide),p3 (by decide),p4 (by decide),p5 (by decide),p6 (by decide),p7 (by decide),p8,h.few,h.fewT⟩;rw[heap_setCell_same _ _ _ _ _ _ h.blk];rfl
end
end
section
open Go.RowKit
open Vc (V Of)
open Pl (En Lk Br)
open Tk (Md Mnd Cn Sc Dn ixM ilist)
structure ScOk (W:World) (S:Nat) (F:Tf) (s:Sc) (M:Tm) (G:Nat) (ve:Nat→Value):Prop where
 at':ScAt W S F s M G ve
 ok:Tk.Ok F.c s F.T
 reg:∀i,i<F.c.K→(F.rg i).ok
 hi:F.base≤S
 sm:∀i j,F.c.sm i j=decide (strOf 50 (F.bs i).reg.id=strOf 50 (F.bs j).reg.id)
 am:AmongAt F.W0 F.c.K F.bs F.B1 F.B2
theorem ScOk.tick {W:World}{S:Nat}{F:Tf}{s:Sc}{M:Tm}{G:Nat}{ve:Nat→Value}(h:ScOk W S F s M G ve):TickOk F s :=
 ⟨h.ok.fine,h.reg,h.ok.fit,fun k hk i hi a=>(h.ok.calm k hk i hi a).1⟩
theorem ok_ticks {c:Cn}{s:Sc}{T:Nat}(h:Tk.Ok c s T) (t:Nat):Tk.Ok c (s.ticks c t) T :=
 ⟨⟨h.fine.few,h.fine.fewL,h.fine.links,h.fine.addr,h.fine.apart,h.fine.prios⟩,fun k hk=>Tk.ticksF_fit (h.fit k hk) t,fun k hk=>Tk.ticksF_Calm (h.fit k hk) (h.calm k hk) t⟩
theorem tdoticks_any (W:World) (S:Nat) (F:Tf) (s:Sc) (M:Tm) (G:Nat) (ve:Nat→Value) (n:Int) (h:ScOk W S F s M G ve) :
  Calls Tryz.prog 63 #[.pointer (some ⟨S,0,none⟩),.int .i64 n] W fun e w' =>
   (¬(0≤n∧n≤200)∧e=.returned (.int .i64 3)∧w'=W)∨((0≤n∧n≤200)∧e=.returned (.int .i64 0)∧∃v,ScOk w' S F (s.ticks F.c n.toNat) { M with iv:=v } G ve):=by
 have HW:Hid (∀V,Calls Tryz.prog 30 #[.int .i64 n,.int .i64 0,.int .i64 200] V fun e w'=>e=.returned (.bool (decide (0≤n∧n≤200)))∧w'=V):=fun V=>gwithin_any n 0 200 V;by_cases hn:0≤n∧n≤200
 ·rw[decide_eq_true hn] at HW;obtain⟨t,rfl⟩:∃t:Nat,n=(t:Int):=⟨n.toNat,by omega⟩
  have H0:Hid (∃v,ScOk W S F (s.ticks F.c 0) { M with iv:=v } G ve):=⟨M.iv,h⟩
  have HN2:Hid (((0:Int)≤(t:Int)∧(t:Int)≤200)):=hn;have HTN:Hid ((t:Int).toNat=t):=Int.toNat_natCast t;clear h hn;go_enter Tryz.func63,Tryz.ntmps63;go_wp2_with (go_at_call 30;refine(HW.out _).mono ?_;rintro e w1 ⟨rfl,rfl⟩)
  go_loopw [9] (fun z wr=>∃j:Nat,j≤t∧z=.int .i64 j∧Hid (∃v,ScOk wr S F (s.ticks F.c j) { M with iv:=v } G ve)) (fun z _=>t-(intOf z).toNat)
  case atStart=>exact⟨0,by omega,rfl,H0⟩
  case round =>
   obtain⟨j,hj,rfl,hX⟩:=hrel;clear H0;by_cases hlt:j<t
   ·obtain⟨v,hA⟩:=hX.out;have HT:Hid (Calls Tryz.prog 102 #[.pointer (some ⟨S,0,none⟩)] wr fun e w'=>e=.returned (.tuple #[])∧Hid (∃v,ScOk w' S F (s.ticks F.c (j+1)) { M with iv:=v } G ve)):=by
     refine(ttick_any wr S F (s.ticks F.c j) { M with iv:=v } G ve hA.tick hA.at').mono ?_;rintro e w' ⟨rfl,v',hS⟩;rw[Tk.Sc.ticks_add] at hS;have hk:=ok_ticks hA.ok 1;rw[Tk.Sc.ticks_add] at hk;exact⟨rfl,v',hS,hk,hA.reg,hA.hi,hA.sm,hA.am⟩
    have ht2:=HN2.out;have hlz:(j:Int)<(t:Int):=(by omega)
    have htj:j<200:=(by omega)
    clear hX hA ht2;(go_wp2_with fail);refine HT.out.mono ?_;rintro e w2 ⟨rfl,H2⟩;clear HT;(go_wp2_with fail);exact⟨⟨j+1,by omega,by go_num,H2⟩,by simp[intOf];omega⟩
   ·obtain rfl:j=t:=by omega
    (go_wp2_with fail);go_ret;exact Or.inr ⟨HN2.out,rfl,by rw[HTN.out];exact hX.out⟩
 ·rw[decide_eq_false hn] at HW;have HNN:Hid (¬(0≤n∧n≤200)):=hn;clear h hn;go_enter Tryz.func63,Tryz.ntmps63;go_wp2_with (go_at_call 30;refine(HW.out _).mono ?_;rintro e w1 ⟨rfl,rfl⟩)
  go_ret;exact Or.inl ⟨HNN.out,rfl,rfl⟩
end
end Go.Proofs.YtaneiffnhphkhaaGreatDoor
