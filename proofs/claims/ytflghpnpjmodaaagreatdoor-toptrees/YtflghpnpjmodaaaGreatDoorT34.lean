/- What lan.carry comes to: plain functions on lists -/
import Derived.Test.YtflghpnpjmodaaaGreatDoorT33
import Derived.Test.YtflghpnpjmodaaaGreatDoorT05
import Derived.Test.YtflghpnpjmodaaaGreatDoorT11
import Derived.Test.YtflghpnpjmodaaaGreatDoorT29
import Derived.Maps.OwnSet
import Derived.Deep.RegionHeld3
set_option maxRecDepth 100000
set_option maxHeartbeats 6000000
namespace Go.Proofs.YtflghpnpjmodaaaGreatDoor
section
open Go.RowKit
open Vc (V Of)
open Pl (Br Net Pc Lk En St)
open Bk (E at')
open Rl (G gat F R O)
abbrev arA (i:Nat) (p:Int) (f:F):Array Value:=#[.int .i64 (i:Int),.int .i64 p,.int .u64 f.dst,.int .u64 f.src,.bool f.tagged,.int .i64 f.prio,.bool f.drop,.int .i64 f.vid,.int .i64 f.type,.slice f.ao f.n f.cap]
theorem owns_far {W W':World}{base:Nat}{ty:TypeId}{c:Nat}{v:Value}{n:Nat}{l:List Value}(h:W.ownsRow base ty c v n l) (hb:∀g,base≤g→W'.heap[g]?=W.heap[g]?):W'.ownsRow base ty c v n l:=by
 obtain⟨h1,h2⟩:=h;rcases h2 with⟨rfl,rfl⟩ | ⟨g,cap,cur,rfl,hg,hh,r⟩
 ·exact⟨h1,Or.inl ⟨rfl,rfl⟩⟩
 ·exact⟨h1,Or.inr ⟨g,cap,cur,rfl,hg,(hb g hg).trans hh,r⟩⟩
theorem OwnO.far {W W':World}{base:Nat}{v:Value}{f:F}{l:List OV}(h:OwnO W base v f l) (hb:∀g,base≤g→W'.heap[g]?=W.heap[g]?):OwnO W' base v f l:=⟨owns_far h.row hb,fun x hx=>owns_far (h.data x hx) hb⟩
theorem relay_len {r:R}{l:List G}{b:List E}{p:Int}{f:F}(h:b.length≤9223372036854775807):(Rl.relay r l b p f).book.length≤9223372036854775807:=by
 unfold Rl.relay;by_cases c:Rl.errR r l b f=0
 ·rw[if_pos c];split
  ·exact Nat.zero_le _
  ·split
   ·exact h
   ·have hb:Bk.Book b:=by
     unfold Rl.errR Rl.or4 at c;by_cases c1:r.wrong=0
     ·rw[if_pos c1] at c;exact Bk.wrong_book.1 (Rl.or3_zero c).2.1
     ·rw[if_neg c1] at c;exact absurd c c1
    have h2:=(Bk.learn_book hb ⟨Rl.wayOf f (Rl.inG l p),f.src,p,0⟩).many;show(Bk.learn b ⟨Rl.wayOf f (Rl.inG l p),f.src,p,0⟩).length≤_;omega
 ·rw[if_neg c];exact Nat.zero_le _
theorem jrelay_any (n:Net) (t:List Tr) (oao:Option Addr) (ocap:Nat) (vid:Int) (TB NB VB KB gk kcap:Nat) (bks:Nat→List E) (bo:Nat→Option Addr) (bc:Nat→Nat) (i:Nat) (p:Int) (f:F) (w:World) (h:RlH w n t oao ocap vid TB NB VB KB gk kcap bks bo bc) (hi:i<n.K) (hd:ByteRow w f.ao f.n f.cap f.bs) (hdn:NilOk f.ao f.n f.cap) (hds:0≤f.dst∧f.dst<18446744073709551616) (hsr:0≤f.src∧f.src<18446744073709551616) :
  Calls Tryz.prog 100 #[.agg (arA i p f),.pointer (some ⟨TB,0,none⟩),.pointer (some ⟨NB,0,none⟩),.pointer (some ⟨VB,0,none⟩),.pointer (some ⟨KB,0,none⟩)] w fun e w'=>∃oo oc os fa fb bo' bc',e=.returned (.tuple #[.slice oo os.length oc,.int .i64 (Rl.relay (rgR (n.bs i)) (gList t (i:Int) vid (IL (n.pts i)) fa fb (n.pts i).length) (bks i) p f).err])∧Hid (os.map OV.o=(Rl.relay (rgR (n.bs i)) (gList t (i:Int) vid (IL (n.pts i)) fa fb (n.pts i).length) (bks i) p f).out∧OwnO w' w.heap.size (.slice oo os.length oc) f os∧OwnE w' w.heap.size (.slice bo' (Rl.relay (rgR (n.bs i)) (gList t (i:Int) vid (IL (n.pts i)) fa fb (n.pts i).length) (bks i) p f).book.length bc') (Rl.relay (rgR (n.bs i)) (gList t (i:Int) vid (IL (n.pts i)) fa fb (n.pts i).length) (bks i) p f).book∧BkW w' gk n.K (fun j=>if j=i then(Rl.relay (rgR (n.bs i)) (gList t (i:Int) vid (IL (n.pts i)) fa fb (n.pts i).length) (bks i) p f).book else bks j) (fun j=>if j=i then bo' else bo j) (fun j=>if j=i then bc' else bc j)∧w.grownBy w' (some gk)):=by
 obtain⟨X,HX⟩:∃X,Hid (X=w.alloc (.cells (arA i p f) 141)):=⟨_,rfl⟩
 have hXB:Bl w X:=(by rw[HX.out];exact bA1 _ _)
 have hXa:X.heap[w.heap.size]?=some (.cells (arA i p f) 141):=(by rw[HX.out];exact heap_alloc_last _ _)
 have HH:Hid (∀V,Bl X V→RlH V n t oao ocap vid TB NB VB KB gk kcap bks bo bc∧V.heap[w.heap.size]?=some (.cells (arA i p f) 141)∧ByteRow V f.ao f.n f.cap f.bs∧Bl w V):=fun V hV=>by
  have hV':=hXB.trans (hV.mono hXB.size);exact⟨h.below hV',keep hXa hV,hd.below hV',hV'⟩
 have HDN:Hid (NilOk f.ao f.n f.cap):=hdn;have hK12:=h.right.few;have hkc:=h.cap;have hgk:gk<w.heap.size:=(gSm.1 h.books.row).1;have htl:=h.few;have a0:X.cell? ⟨w.heap.size,0,none⟩=some (.int .i64 (i:Int)):=cell_of_row _ _ 0 _ _ _ hXa;rw[HX.out] at a0;clear h hd hdn hXB hXa;go_enter Tryz.func100,Tryz.ntmps100;(go_wp2_with fail);rw[←HX.out];clear a0;have HCC:Hid (∀V,Bl X V→V.cell? ⟨TB,0,none⟩=some (.slice oao t.length ocap)∧V.cell? ⟨NB,1,none⟩=some (.slice n.lao n.L n.lcap)∧V.cell? ⟨VB,0,none⟩=some (.int .i64 vid)):=fun V hV=>by
  obtain⟨r,_⟩:=HH.out V hV;exact⟨cell_of_row _ _ 0 _ _ _ r.tb,(tC2 r.nb).2,cell_of_row _ _ 0 _ _ _ r.vb⟩
 have HPT:Hid (∀V,Bl X V→Calls Tryz.prog 35 #[.slice n.lao n.L n.lcap,.int .i64 (i:Int)] V fun e w'=>∃ao cap,e=.returned (.slice ao (n.pts i).length cap)∧Hid (Bl X w')∧Hid (Calls Tryz.prog 101 #[.agg #[.slice oao t.length ocap],.int .i64 (i:Int),.slice ao (n.pts i).length cap,.int .i64 vid] w' fun e w''=>∃ao2 cap2 fa fb,e=.returned (.slice ao2 (gList t (i:Int) vid (IL (n.pts i)) fa fb (n.pts i).length).length cap2)∧Hid (Bl X w''∧GRow w'' ao2 cap2 (gList t (i:Int) vid (IL (n.pts i)) fa fb (n.pts i).length)))):=fun V hV=>by
  obtain⟨r,_⟩:=HH.out V hV;refine(pports_any n.lao n.K n.L n.lcap n.ls n.live i V r.right.fewL r.net.lks r.right.links).mono ?_;rintro e w' ⟨ao,cap,rfl,h1,h2,_⟩;have hVw:=hV.trans (h2.mono hV.size);refine⟨ao,cap,rfl,hVw,?_⟩;obtain⟨r',_⟩:=HH.out w' hVw;have hfew:(n.pts i).length≤1000:=by
   have:=ends_few n i r'.right.fewL;unfold Pl.Net.pts;rw[List.length_map];omega
  refine(jgates_any oao ocap t (i:Int) ao (n.pts i).length cap (IL (n.pts i)) vid w' r'.talk r'.few h1 hfew).mono ?_;rintro e w'' ⟨ao2,cap2,fa,fb,rfl,H⟩;exact⟨ao2,cap2,fa,fb,rfl,hVw.trans (H.out.2.mono hVw.size),H.out.1⟩
 have HB0:Hid (Bl X X.drew):=Below.drew (Below.refl _ _);go_region_held3 (fun W=>W.cell? ⟨TB,0,none⟩=some (.slice oao t.length ocap)∧W.cell? ⟨NB,1,none⟩=some (.slice n.lao n.L n.lcap)∧W.cell? ⟨VB,0,none⟩=some (.int .i64 vid))
  (first | (exact HCC.out _ (Hid.out (by assumption))) | (exact HCC.out _ (Below.drew (Hid.out (by assumption)))))
  (first | (go_at_call 35;(with_reducible refine(HPT.out _ (by first | exact(Hid.out (by assumption)) | exact Below.drew (Hid.out (by assumption)))).mono ?_);rintro e w5 ⟨pao,pcap,rfl,HB5,HGT⟩) | (go_at_call 101;(with_reducible refine HGT.out.mono ?_);rintro e w6 ⟨gao,gcap,fa,fb,rfl,HG6⟩;have HB6:Hid (Bl X w6):=HG6.out.1))
 (all_goals go_wp2_with fail);have hb6:=HB6.out;obtain⟨r6,ar6,_⟩:=HH.out w6 hb6;obtain⟨bb,boff,eb,_⟩:=CRow.some r6.net.brs (by omega);have hbc:=r6.net.brs.1;obtain⟨gl,hgl⟩:∃gl,gl=gList t (i:Int) vid (IL (n.pts i)) fa fb (n.pts i).length:=⟨_,rfl⟩
 rw[←hgl] at HG6 ⊢;obtain⟨res,hres⟩:∃res,res=Rl.relay (rgR (n.bs i)) gl (bks i) p f:=⟨_,rfl⟩
 have HC2:Hid (∀V,Bl w6 V→V.cell? ⟨NB,0,none⟩=some (.slice (some ⟨bb,boff,none⟩) n.K n.bcap)∧(V.cell? ⟨bb,boff+i*5+2,none⟩=some (.string (n.bs i).reg.s)∧V.cell? ⟨bb,boff+i*5+2+1,none⟩=some (.int .i64 (n.bs i).reg.rev)∧V.cell? ⟨bb,boff+i*5+2+2,none⟩=some (.slice (n.bs i).reg.ao (n.bs i).reg.n (n.bs i).reg.cap))∧V.cell? ⟨KB,0,none⟩=some (.slice (some ⟨gk,0,none⟩) n.K kcap)∧V.cell? ⟨gk,i,none⟩=some (.slice (bo i) (bks i).length (bc i))∧(V.cell? ⟨w.heap.size,1,none⟩=some (.int .i64 p)∧V.cell? ⟨w.heap.size,2,none⟩=some (.int .u64 f.dst)∧V.cell? ⟨w.heap.size,3,none⟩=some (.int .u64 f.src)∧V.cell? ⟨w.heap.size,4,none⟩=some (.bool f.tagged)∧V.cell? ⟨w.heap.size,5,none⟩=some (.int .i64 f.prio)∧V.cell? ⟨w.heap.size,6,none⟩=some (.bool f.drop)∧V.cell? ⟨w.heap.size,7,none⟩=some (.int .i64 f.vid)∧V.cell? ⟨w.heap.size,8,none⟩=some (.int .i64 f.type)∧V.cell? ⟨w.heap.size,9,none⟩=some (.slice f.ao f.n f.cap))):=fun V hV=>by
  obtain⟨r,ar,_⟩:=HH.out V (hb6.trans (hV.mono hb6.size));obtain⟨y0,_⟩:=tC2 r.nb;have hbr:=r.net.brs;rw[eb] at y0 hbr;obtain⟨_,_,b2,b3,b4⟩:=BRow.cells hbr hi;exact⟨y0,⟨b2,b3,b4⟩,cell_of_row _ _ 0 _ _ _ r.kb,(r.books.cell hi).1,cell_of_row _ _ 1 _ _ _ ar,cell_of_row _ _ 2 _ _ _ ar,cell_of_row _ _ 3 _ _ _ ar,cell_of_row _ _ 4 _ _ _ ar,cell_of_row _ _ 5 _ _ _ ar,cell_of_row _ _ 6 _ _ _ ar,cell_of_row _ _ 7 _ _ _ ar,cell_of_row _ _ 8 _ _ _ ar,cell_of_row _ _ 9 _ _ _ ar⟩
 have HRY:Hid (∀V,Bl w6 V→Calls Tryz.prog 102 #[.agg #[.string (n.bs i).reg.s,.int .i64 (n.bs i).reg.rev,.slice (n.bs i).reg.ao (n.bs i).reg.n (n.bs i).reg.cap],.slice gao gl.length gcap,.slice (bo i) (bks i).length (bc i),.int .i64 p,.agg #[.int .u64 f.dst,.int .u64 f.src,.bool f.tagged,.int .i64 f.prio,.bool f.drop,.int .i64 f.vid,.int .i64 f.type,.slice f.ao f.n f.cap]] V fun e w'=>∃oo oc os bo' bc',e=.returned (.tuple #[.slice oo os.length oc,.slice bo' res.book.length bc',.int .i64 res.err])∧Hid (RelOut V w' f res oo oc os bo' bc')∧Hid (OwnO w' w.heap.size (.slice oo os.length oc) f os∧OwnE w' w.heap.size (.slice bo' res.book.length bc') res.book)∧Hid (Bl w6 w')):=fun V hV=>by
  obtain⟨r,_,hdV,_⟩:=HH.out V (hb6.trans (hV.mono hb6.size));obtain⟨_,_,_,hwle⟩:=HH.out w6 hb6;obtain⟨k1,k2,k3⟩:=r.books.each i hi;obtain⟨_,e2,_,e4⟩:=r.net.each i hi;have hR:=relay_any (rgR (n.bs i)) gao gcap gl (bo i) (bc i) (bks i) p f V ⟨e2,e4,HG6.out.2.below hV,k1,k3,k2,hdV,HDN.out,hds,hsr⟩;rw[←hres] at hR;refine hR.mono ?_;rintro e w' ⟨oo,oc,os,bo',bc',rfl,ho⟩;exact⟨oo,oc,os,bo',bc',rfl,ho,⟨ho.own.mono (Nat.le_trans hwle.size hV.size),ho.bown.mono (Nat.le_trans hwle.size hV.size)⟩,hV.trans (ho.low.mono hV.size)⟩
 have HLEN:Hid (res.book.length≤9223372036854775807):=by
  rw[hres];exact relay_len (r6.books.each i hi).2.2
 have HB60:Hid (Bl w6 w6.drew):=Below.drew (Below.refl _ _);have ii:(i:Int)<(n.K:Int):=(by omega)
 have HBK:Hid (∀V,Bl w6 V→BkW V gk n.K bks bo bc∧Bl w V):=fun V hV=>by
  obtain⟨r,_,_,h4⟩:=HH.out V (hb6.trans (hV.mono hb6.size));exact⟨r.books,h4⟩
 have HRS:Hid (res=Rl.relay (rgR (n.bs i)) (gList t (i:Int) vid (IL (n.pts i)) fa fb (n.pts i).length) (bks i) p f):=by show _=_;rw[←hgl];exact hres
 clear hb6 r6 ar6 eb hgl hres HH HCC HPT HGT HG6 HB5 HB0 hds hsr HDN;generalize (n.bs i).reg.s=rs at *;generalize (n.bs i).reg.rev=rv at *;generalize Value.slice (n.bs i).reg.ao (n.bs i).reg.n (n.bs i).reg.cap=rw3 at *;generalize Value.slice (bo i) (bks i).length (bc i)=vbk at *;go_region_held3 (fun V=>V.cell? ⟨NB,0,none⟩=some (.slice (some ⟨bb,boff,none⟩) n.K n.bcap)∧(V.cell? ⟨bb,boff+i*5+2,none⟩=some (.string rs)∧V.cell? ⟨bb,boff+i*5+2+1,none⟩=some (.int .i64 rv)∧V.cell? ⟨bb,boff+i*5+2+2,none⟩=some rw3)∧V.cell? ⟨KB,0,none⟩=some (.slice (some ⟨gk,0,none⟩) n.K kcap)∧V.cell? ⟨gk,i,none⟩=some vbk∧(V.cell? ⟨w.heap.size,1,none⟩=some (.int .i64 p)∧V.cell? ⟨w.heap.size,2,none⟩=some (.int .u64 f.dst)∧V.cell? ⟨w.heap.size,3,none⟩=some (.int .u64 f.src)∧V.cell? ⟨w.heap.size,4,none⟩=some (.bool f.tagged)∧V.cell? ⟨w.heap.size,5,none⟩=some (.int .i64 f.prio)∧V.cell? ⟨w.heap.size,6,none⟩=some (.bool f.drop)∧V.cell? ⟨w.heap.size,7,none⟩=some (.int .i64 f.vid)∧V.cell? ⟨w.heap.size,8,none⟩=some (.int .i64 f.type)∧V.cell? ⟨w.heap.size,9,none⟩=some (.slice f.ao f.n f.cap)))
  (first | (exact HC2.out _ (Hid.out (by assumption))) | (exact HC2.out _ (Below.drew (Hid.out (by assumption)))))
  (first | (go_at_call 102;(with_reducible refine(HRY.out _ (by first | exact(Hid.out (by assumption)) | exact Below.drew (Hid.out (by assumption)))).mono ?_);rintro e w7 ⟨oo,oc,os,bo',bc',rfl,HOUT,HOWN,HB7⟩))
 have hb7:=HB7.out;obtain⟨bk7,hw7⟩:=HBK.out w7 hb7;obtain⟨g7c,g7f⟩:=bk7.cell hi;obtain⟨_,_,kb7,_⟩:=HC2.out w7 hb7;have HFN:Hid (os.map OV.o=res.out∧OwnO (w7.setCell ⟨gk,i,none⟩ (.slice bo' res.book.length bc')) w.heap.size (.slice oo os.length oc) f os∧OwnE (w7.setCell ⟨gk,i,none⟩ (.slice bo' res.book.length bc')) w.heap.size (.slice bo' res.book.length bc') res.book∧BkW (w7.setCell ⟨gk,i,none⟩ (.slice bo' res.book.length bc')) gk n.K (fun j=>if j=i then res.book else bks j) (fun j=>if j=i then bo' else bo j) (fun j=>if j=i then bc' else bc j)∧w.grownBy (w7.setCell ⟨gk,i,none⟩ (.slice bo' res.book.length bc')) (some gk)):=by
  refine⟨HOUT.out.out,HOWN.out.1.far (fun g hg=>heap_setCell_other _ _ _ _ (show g≠gk by omega)),owns_far HOWN.out.2 (fun g hg=>heap_setCell_other _ _ _ _ (show g≠gk by omega)),bk7.put hi HOUT.out.book HOUT.out.bnil HLEN.out,?_⟩;have bz:Below 0 w7 (w7.setCell ⟨gk,i,none⟩ (.slice bo' res.book.length bc')):=(Below.refl 0 w7).setCell (Nat.zero_le _) _;exact⟨bz.os.trans hw7.os,bz.tape.trans hw7.tape,bz.output.trans hw7.output,Nat.le_trans hw7.size bz.size,fun q hq hne=>(heap_setCell_other _ _ _ _ (by exact fun e=>hne (by rw[e]))).trans (hw7.block q hq)⟩
 clear hb7 bk7 hw7 HC2 HRY HBK HOUT HB7 HLEN;(go_wp2_with fail);go_ret2;refine⟨oo,oc,os,fa,fb,bo',bc',?_,?_⟩
 ·rw[←HRS.out];rfl
 ·rw[←HRS.out];exact HFN
end
section
open Go.RowKit Go.Maps Go.WideElems Go.ChangeShapes Go.WideShapes Go.MapKept Go.ChangeMaps
open Pl (Lk)
def crossTo (ls:Nat→Lk):Nat→Int×Int→Option (Int×Int)
 | 0,_=>none
 | k+1,p=>if (ls k).up=true then(if p=((ls k).a,(ls k).pa) then some ((ls k).b,(ls k).pb) else if p=((ls k).b,(ls k).pb) then some ((ls k).a,(ls k).pa) else crossTo ls k p) else crossTo ls k p
def pR:Value→Option (DataW Unit×List MemPlace)
 | .agg c=>match c.toList with
  | [.int .i64 a,.int .i64 b]=>some (.agg [.lit (.int .i64 a),.lit (.int .i64 b)],[])
  | _=>none
 | _=>none
def pD (x:Int×Int):DataW Unit:=.agg [.lit (.int .i64 x.1),.lit (.int .i64 x.2)]
theorem pR_mk (x:Int×Int):pR (pV x)=some (pD x,[]):=rfl
theorem pR_inv {v:Value}{ps:List MemPlace}{x:Int×Int}(h:pR v=some (pD x,ps)):v=pV x:=by
 unfold pR at h;split at h
 ·rename_i c;split at h
  ·rename_i a b e;injection h with h;injection h with h _;unfold pD at h;injection h with h;injection h with h1 h;injection h with h2 _;have h1:=lit_inj h1;have h2:=lit_inj h2;subst h1;subst h2;unfold pV;congr 1
   apply Array.ext'
   rw[e]
  ·cases h
 ·cases h
def CrW (w:World) (b n:Nat) (f:Int×Int→Option (Int×Int)):Prop:=∃D:DataW Unit,w.ownsMap Tryz.prog 139 pR b n D∧IsMap D∧∀a:Int×Int,(Lit.int .i64 a.1).wf=true→(Lit.int .i64 a.2).wf=true→Maps.has D (pkl a)=(f a).isSome∧D.atKey (pkl a) (pD (0,0))=pD ((f a).getD (0,0))
theorem CrW.same {w w':World}{b n:Nat}{f:Int×Int→Option (Int×Int)}(h:CrW w b n f) (e:w'.heap[b]?=w.heap[b]?):CrW w' b n f:=by
 obtain⟨D,⟨es,clock,hb,r⟩,h2⟩:=h;exact⟨D,⟨es,clock,e.trans hb,r⟩,h2⟩
theorem CrW.lt {w:World}{b n:Nat}{f:Int×Int→Option (Int×Int)}(h:CrW w b n f):b<w.heap.size:=by
 obtain⟨D,h1,_⟩:=h;exact h1.lt
theorem CrW.put {w:World}{b n:Nat}{f:Int×Int→Option (Int×Int)}(h:CrW w b n f) (x y:Int×Int) (hn:n≤1000) (x1:(Lit.int .i64 x.1).wf=true) (x2:(Lit.int .i64 x.2).wf=true) :
  ∃w',(Instr.mapUpdate 197 (.map (some b)) (pV x) (pV y)).run Tryz.prog w=.ok () w'∧CrW w' b (n+1) (fun p=>if p=x then some y else f p)∧w.grownBy w' (some b):=by
 obtain⟨D,ho,hD,hat⟩:=h;have hkey:=pkey_of x x1 x2;obtain⟨w1,e3,ho1,hg⟩:=ho.update pkeyed Tryz.underlying197 (by unfold maxLen;omega) hkey (pR_mk y);refine⟨w1,e3,⟨_,ho1,hD.put _ _,fun a a1 a2 => ?_⟩,hg⟩;by_cases e:a=x
 ·subst e;simp only[if_pos];exact⟨has_put_same hD (pkeyed.key hkey) _,atKey_put_same hD (pkeyed.key hkey) _ _⟩
 ·simp only[if_neg e];have hne:pkl a≠pkl x:=fun q=>e (pkl_inj a1 a2 x1 x2 q);rw[has_put_other hne,atKey_put_other hne];exact hat a a1 a2
theorem sizePt:(Tryz.prog.info? 139).map (·.size)=some 2:=by kernel_rfl
theorem crzero (w:World):(zeroValue 139).run Tryz.prog w=.ok (pV (0,0)) w:=by kernel_rfl
theorem CrW.look {w:World}{b n:Nat}{f:Int×Int→Option (Int×Int)}(h:CrW w b n f) (x:Int×Int) (x1:(Lit.int .i64 x.1).wf=true) (x2:(Lit.int .i64 x.2).wf=true) :
  (Instr.lookup 197 (.map (some b)) (pV x) true).run Tryz.prog w=.ok (.tuple #[pV ((f x).getD (0,0)),.bool (f x).isSome]) w:=by
 obtain⟨D,ho,hD,hat⟩:=h;obtain⟨v,ps,e1,e2⟩:=ho.look_ok pkeyed Tryz.underlying197 (crzero w) (pR_mk (0,0)) (pkey_of x x1 x2);obtain⟨q1,q2⟩:=hat x x1 x2;rw[q1] at e1;rw[q2] at e2;rw[e1,pR_inv e2]
theorem jcross_any (P b n:Nat) (f:Int×Int→Option (Int×Int)) (a:Int×Int) (w:World) (hP:w.cell? ⟨P,0,none⟩=some (.map (some b))) (h:CrW w b n f) (h1:(Lit.int .i64 a.1).wf=true) (h2:(Lit.int .i64 a.2).wf=true) :
  Calls Tryz.prog 103 #[.agg #[.int .i64 a.1,.int .i64 a.2],.pointer (some ⟨P,0,none⟩)] w fun e w'=>e=.returned (.tuple #[pV ((f a).getD (0,0)),.bool (f a).isSome])∧Hid (Bl w w'):=by
 have hlt:=h.lt;have hPlt:=block_lt_of_cell hP;simp only at hPlt;obtain⟨X,HX⟩:∃X,Hid (X=(w.alloc (.cells #[.int .i64 a.1,.int .i64 a.2] 139)).alloc (.cells #[.int .i64 0,.int .i64 0] 139)):=⟨_,rfl⟩
 have hXB:Bl w X:=(by rw[HX.out];exact bA2 _ _ _)
 have hl:=(h.same (hXB.block b hlt)).look a h1 h2;have hP1:X.cell? ⟨P,0,none⟩=some (.map (some b)):=(hXB.cell (by exact hPlt)).trans hP;obtain⟨⟨y1,y2⟩,hy⟩:∃y:Int×Int,y=(f a).getD (0,0):=⟨_,rfl⟩
 have HFN:Hid (∀o1 o2 o3,Bl w (((w.alloc o1).alloc o2).alloc o3)):=fun o1 o2 o3=>(bA2 _ _ _).trans ((bA1 _ _).mono (by simp;omega));rw[←hy] at hl ⊢;generalize (f a).isSome=up at *;rw[HX.out] at hl;unfold pV at *;simp only at *;clear hy h hXB hP1 HX X;go_enter Tryz.func103,Tryz.ntmps103;(go_wp2_with fail);exact bodyPost_ret (v:=.tuple #[.agg #[.int .i64 y1,.int .i64 y2],.bool up]) (rRt (p:=3) (u:=4) (ty:=139) Tryz.results103 _ _ (w.heap.size+1) 139 #[.int .i64 y1,.int .i64 y2] (0,0) _ rfl (keep (heap_alloc2_new w _ _) (bA1 _ _)) Tryz.underlying139 rfl (by rw[sizePt];rfl)) rfl ⟨rfl,HFN.out _ _ _⟩
theorem jcrosser_any (K:Nat) (ao:Option Addr) (L cap:Nat) (ls:Nat→Lk) (w:World) (hr:LRow w ao L cap ls) (hL:L≤40) (hok:Pl.RightL K L ls) (hK:K≤12) :
  Calls Tryz.prog 63 #[.slice ao L cap] w fun e w'=>∃P M,e=.returned (.func (.func 103) #[] #[.pointer (some ⟨P,0,none⟩)])∧Hid (w.heap.size≤P∧w'.cell? ⟨P,0,none⟩=some (.map (some M))∧w.heap.size≤M∧CrW w' M (2*L) (crossTo ls L)∧Bl w w'):=by
 have hcap:L≤cap:=hr.1;have HR:Hid (∀W,Bl w W→LRow W ao L cap ls):=fun W hW=>hr.below hW;have HOK:Hid (Pl.RightL K L ls):=hok;have hmm:=@run_makeMap Tryz.prog;clear hr hok;obtain⟨w0,HW0⟩:∃w0,Hid (w0=(w.alloc (.map #[] 0)).alloc (.cells #[.map (some w.heap.size)] 197)):=⟨_,rfl⟩
 have H0:Hid (w0.heap[w.heap.size+1]?=some (.cells #[.map (some w.heap.size)] 197)∧CrW w0 w.heap.size (2*0) (crossTo ls 0)∧Bl w w0):=by
  rw[HW0.out];exact⟨heap_alloc2_new w (.map #[] 0) (.cells #[.map (some w.heap.size)] 197),⟨.map [],(World.ownsMap_made w _ _ _).alloc _,isMap_empty,fun _ _ _=>⟨rfl,rfl⟩⟩,bA2 _ _ _⟩
 go_enter Tryz.func63,Tryz.ntmps63;(go_wp2_with fail);rw[←HW0.out];clear hmm;go_loopw [11] (fun i wr=>∃(k:Nat),k≤L∧i=.int .i64 k∧Hid (wr.heap[w.heap.size+1]?=some (.cells #[.map (some w.heap.size)] 197)∧CrW wr w.heap.size (2*k) (crossTo ls k)∧Bl w wr)) (fun i _=>L-(intOf i).toNat)
 case atStart=>exact⟨0,by omega,rfl,H0⟩
 case round =>
  obtain⟨k,hk,rfl,hX⟩:=hrel;by_cases hlt:k<L
  ·obtain⟨hbx,hcr,hbel⟩:=hX.out;obtain⟨b,off,rfl,hbl⟩:=CRow.some (HR.out wr hbel) (by omega);obtain⟨c0,c1,c2,c3,c4,c5⟩:=LRow.cells (HR.out wr hbel) hlt;obtain⟨⟨oa1,oa2⟩,⟨ob1,ob2⟩,oab,⟨op1,op2⟩,⟨oq1,oq2⟩,_⟩:=HOK.out.ok k hlt;have hst:crossTo ls (k+1)=fun p=>if (ls k).up=true then(if p=((ls k).a,(ls k).pa) then some ((ls k).b,(ls k).pb) else if p=((ls k).b,(ls k).pb) then some ((ls k).a,(ls k).pa) else crossTo ls k p) else crossTo ls k p:=rfl
   have i1:(k:Int)<(L:Int):=(by omega)
   have i2:IntKind.i64.wrap ((k:Int)+1)=((k+1:Nat):Int):=(by rw[wraps_i64 _ (by omega) (by omega)];rfl)
   generalize hlk:ls k=lk at *;obtain⟨la,lpa,lb,lpb,lco,lup⟩:=lk;simp only at *;obtain⟨X,HX⟩:∃X,Hid (X=wr.alloc (.cells #[.int .i64 la,.int .i64 lpa,.int .i64 lb,.int .i64 lpb,.int .i64 lco,.bool lup] 83)):=⟨_,rfl⟩
   have hXB:Bl wr X:=(by rw[HX.out];exact bA1 _ _)
   have hXa:X.heap[wr.heap.size]?=some (.cells #[.int .i64 la,.int .i64 lpa,.int .i64 lb,.int .i64 lpb,.int .i64 lco,.bool lup] 83):=(by rw[HX.out];exact heap_alloc_last _ _)
   have hwX:Bl w X:=hbel.trans (hXB.mono hbel.size);cases hup:lup
   ·subst hup;have HFN:Hid (X.heap[w.heap.size+1]?=some (.cells #[.map (some w.heap.size)] 197)∧CrW X w.heap.size (2*(k+1)) (crossTo ls (k+1))∧Bl w X):=by
     refine⟨keep hbx hXB,?_,hwX⟩;rw[hst];simp only[Bool.false_eq_true,if_false];obtain⟨D,⟨es,clock,q1,q2,q3,q4⟩,r⟩:=hcr.same (hXB.block _ hcr.lt);exact⟨D,⟨es,clock,q1,q2,by omega,q4⟩,r⟩
    clear hbx hcr hbel hX hst hXB hwX;have a5:=cell_of_row X wr.heap.size 5 _ _ _ hXa;(go_wp2_with fail);rw[←HX.out];(go_wp2_with fail);go_roundw
    case rel=>exact⟨k+1,by omega,rfl,HFN⟩
    case measure=>simp only[intOf];omega
   ·subst hup;have a0:=cell_of_row X wr.heap.size 0 _ _ _ hXa;have a1:=cell_of_row X wr.heap.size 1 _ _ _ hXa;have a2:=cell_of_row X wr.heap.size 2 _ _ _ hXa;have a3:=cell_of_row X wr.heap.size 3 _ _ _ hXa;have a5:=cell_of_row X wr.heap.size 5 _ _ _ hXa;(go_upto_region 6 with fail);rw[←HX.out];have HSZ:Hid (∀o1 o2:Obj,((X.alloc o1).alloc o2).heap[X.heap.size+1]?=some o2):=fun o1 o2=>heap_alloc2_new X o1 o2;go_cut [6,7] (fun s6 s7 wx=>∃pa pb,s6=.pointer (some ⟨pa,0,none⟩)∧s7=.pointer (some ⟨pb,0,none⟩)∧Hid (pa≠pb∧X.heap.size≤pa∧X.heap.size≤pb∧wx.heap[pa]?=some (.cells #[.int .i64 la,.int .i64 lpa] 139)∧wx.heap[pb]?=some (.cells #[.int .i64 lb,.int .i64 lpb] 139)∧Bl X wx))
    case first =>
     go_region_held3 (fun W=>W.cell? ⟨wr.heap.size,0,none⟩=some (.int .i64 la)∧W.cell? ⟨wr.heap.size,1,none⟩=some (.int .i64 lpa)∧W.cell? ⟨wr.heap.size,2,none⟩=some (.int .i64 lb)∧W.cell? ⟨wr.heap.size,3,none⟩=some (.int .i64 lpb)) (go_keep) (fail)
     ·(go_wp2_with fail);go_meet
      exact⟨_,_,rfl,rfl,by omega,by omega,by omega,keep (heap_alloc_last _ _) (bA1 _ _).drew,HSZ.out _ _,(bA2 _ _ _).drew⟩
     ·(go_wp2_with fail);go_meet
      exact⟨_,_,rfl,rfl,by omega,by omega,by omega,HSZ.out _ _,keep (heap_alloc_last _ _) (bA1 _ _).drew,(bA2 _ _ _).drew⟩
    case rest =>
    obtain⟨pa,pb,rfl,rfl,HC⟩:=hcut;obtain⟨hne,hpa,hpb,hba,hbb,hXx⟩:=HC.out;have hMlt:=hcr.lt;have hXs:=hXB.size;have hws:=hbel.size;have hrX:Bl wr wc:=hXB.trans (hXx.mono hXs);have hPl:=(gSm.1 hbx).1;have wfn:∀z:Int,0≤z→z≤100000→(Lit.int .i64 z).wf=true:=fun z h0 h1=>mwf h0 h1;have hD:CrW wc.drew w.heap.size (2*k) (crossTo ls k):=hcr.same (hrX.block _ hMlt);obtain⟨Wa,ea,hca,hga⟩:=hD.put (la,lpa) (lb,lpb) (by omega) (wfn _ (by omega) (by omega)) (wfn _ (by omega) (by omega));obtain⟨Wab,eab,hcab,hgab⟩:=hca.put (lb,lpb) (la,lpa) (by omega) (wfn _ (by omega) (by omega)) (wfn _ (by omega) (by omega));obtain⟨Wb,eb,hcb,hgb⟩:=hD.put (lb,lpb) (la,lpa) (by omega) (wfn _ (by omega) (by omega)) (wfn _ (by omega) (by omega));obtain⟨Wba,eba,hcba,hgba⟩:=hcb.put (la,lpa) (lb,lpb) (by omega) (wfn _ (by omega) (by omega)) (wfn _ (by omega) (by omega));have HBX:∀V,wc.drew.grownBy V (some w.heap.size)→V.heap[w.heap.size+1]?=some (.cells #[.map (some w.heap.size)] 197)∧(V.cell? ⟨w.heap.size+1,0,none⟩=some (.map (some w.heap.size))∧V.cell? ⟨pa,0,none⟩=some (.int .i64 la)∧V.cell? ⟨pa,1,none⟩=some (.int .i64 lpa)∧V.cell? ⟨pb,0,none⟩=some (.int .i64 lb)∧V.cell? ⟨pb,1,none⟩=some (.int .i64 lpb)):=fun V hV=>by
     have t0:=grown_block (w:=wc.drew) (show wc.drew.heap[w.heap.size+1]?=_ from keep hbx hrX.drew) hV (by omega);have t1:=tC2 (grown_block (w:=wc.drew) (show wc.drew.heap[pa]?=_ from hba) hV (by omega));have t2:=tC2 (grown_block (w:=wc.drew) (show wc.drew.heap[pb]?=_ from hbb) hV (by omega));exact⟨t0,cell_of_row _ _ 0 _ _ _ t0,t1.1,t1.2,t2.1,t2.2⟩
    have hgn:wc.drew.grownBy wc.drew (some w.heap.size):=⟨rfl,rfl,rfl,Nat.le_refl _,fun _ _ _=>rfl⟩
    have HS0:=(HBX _ hgn).2;have HSa:=(HBX _ hga).2;have HSb:=(HBX _ hgb).2;have HSab:=(HBX _ (hga.trans hgab)).2;have HSba:=(HBX _ (hgb.trans hgba)).2;have hlow:∀V,wc.drew.grownBy V (some w.heap.size)→Bl w V:=fun V hV=>(hwX.trans (hXx.mono hwX.size)).drew.grown hV (by show w.heap.size≤wc.heap.size;have:=hXx.size;have:=hwX.size;omega) (fun q e=>by injection e with e;omega);have HFab:Hid (Wab.heap[w.heap.size+1]?=some (.cells #[.map (some w.heap.size)] 197)∧CrW Wab w.heap.size (2*(k+1)) (crossTo ls (k+1))∧Bl w Wab):=by
     refine⟨(HBX _ (hga.trans hgab)).1,?_,hlow _ (hga.trans hgab)⟩;rw[hst];simp only[if_true];rw[show(2*(k+1))=2*k+1+1 by omega];refine cast (congrArg _ (funext fun p => ?_)) hcab;by_cases e1:p=(la,lpa)
     ·rw[if_pos e1,if_neg (fun q=>by rw[e1] at q;injection q with q1 q2;omega),if_pos e1]
     ·rw[if_neg e1,if_neg e1]
    have HFba:Hid (Wba.heap[w.heap.size+1]?=some (.cells #[.map (some w.heap.size)] 197)∧CrW Wba w.heap.size (2*(k+1)) (crossTo ls (k+1))∧Bl w Wba):=by
     refine⟨(HBX _ (hgb.trans hgba)).1,?_,hlow _ (hgb.trans hgba)⟩;rw[hst];simp only[if_true];rw[show(2*(k+1))=2*k+1+1 by omega];exact hcba
    unfold pV at ea eab eb eba;simp only at ea eab eb eba;clear HBX hlow hgn hga hgb hgab hgba hca hcb hcab hcba hD hcr hbx hbel hX hst hXB hwX hrX HC hba hbb hXx hXa hlk HOK HR HSZ wfn;(go_upto_region 7 with fail);go_region_held3 (fun V=>V.cell? ⟨w.heap.size+1,0,none⟩=some (.map (some w.heap.size))∧V.cell? ⟨pa,0,none⟩=some (.int .i64 la)∧V.cell? ⟨pa,1,none⟩=some (.int .i64 lpa)∧V.cell? ⟨pb,0,none⟩=some (.int .i64 lb)∧V.cell? ⟨pb,1,none⟩=some (.int .i64 lpb)) (first | exact HS0 | exact HSa | exact HSb | exact HSab | exact HSba) (fail)
    (all_goals go_wp2_with fail);all_goals first
     | exact⟨⟨k+1,by omega,rfl,HFab⟩,by simp only[intOf];omega⟩
     | exact⟨⟨k+1,by omega,rfl,HFba⟩,by simp only[intOf];omega⟩
  ·obtain rfl:k=L:=by omega
   have HFN:=hX.out;have h3:=cell_of_row wr _ 0 _ _ _ HFN.1;(go_wp2_with fail);go_ret;exact⟨_,_,rfl,by omega,h3,Nat.le_refl _,HFN.2⟩
end
section
namespace Rl
open Bk (E at')
theorem filter_same (P:G→Bool) (Q:G→O):∀l l':List G,l'.length=l.length→(∀i,i<l.length→P (gat l' i)=P (gat l i)∧Q (gat l' i)=Q (gat l i))→(l'.filter P).map Q=(l.filter P).map Q
 | [],[],_,_=>rfl
 | [],_ :: _,h,_=>by simp at h
 | _ :: _,[],h,_=>by simp at h
 | a :: m,a' :: m',h,hs=>by
  have ih:=filter_same P Q m m' (by simpa using h) (fun i hi=>by
   have:=hs (i+1) (by simp;omega);simpa[gat] using this)
  have h0:=hs 0 (by simp);have e1:P a'=P a:=(by simpa[gat] using h0.1)
  have e2:Q a'=Q a:=(by simpa[gat] using h0.2)
  cases hp:P a with
  | true =>
   rw[List.filter_cons_of_pos (by rw[e1,hp]),List.filter_cons_of_pos hp,List.map_cons,List.map_cons,ih,e2]
  | false =>
   rw[List.filter_cons_of_neg (by rw[e1,hp];simp),List.filter_cons_of_neg (by rw[hp];simp),ih]
structure Alike (l l':List G) (t v:Int):Prop where
 len:l'.length=l.length
 port:∀i,(gat l' i).port=(gat l i).port
 plain:∀i,(gat l' i).plain=(gat l i).plain
 ways:∀i,(gat l' i).ways=(gat l i).ways
 opens:∀i,(gat l' i).opens.length=(gat l i).opens.length
 pass:∀i,passes (gat l' i) t v=passes (gat l i) t v
theorem Alike.wrong {l l':List G}{t v:Int}(h:Alike l l' t v):wrong l'=wrong l:=by
 unfold Rl.wrong;rw[h.len];congr 1
 funext i
 unfold gErr gateErr aheadP;rw[h.port i,h.plain i,h.ways i,h.opens i,h.port (i-1)]
theorem Alike.idx {l l':List G}{t v:Int}(h:Alike l l' t v) (p:Int):∀k,Rl.idx l' p k=Rl.idx l p k
 | 0=>rfl
 | k+1=>by
  show(if 0≤Rl.idx l' p k then Rl.idx l' p k else if (gat l' k).port=p then(k:Int) else -1)=(if 0≤Rl.idx l p k then Rl.idx l p k else if (gat l k).port=p then(k:Int) else -1)
  rw[h.idx p k,h.port k]
theorem relay_same {r:R}{l l':List G}{b:List E}{p:Int}{f:F}(h:Alike l l' (r.tree (wayOf f (inG l p))) (wayOf f (inG l p))):relay r l' b p f=relay r l b p f:=by
 have e1:errR r l' b f=errR r l b f:=(by unfold errR;rw[h.wrong])
 have e2:Rl.idx l' p l'.length=Rl.idx l p l.length:=(by rw[h.len,h.idx])
 have e3:wayOf f (inG l' p)=wayOf f (inG l p):=by
  unfold inG wayOf;rw[e2,h.plain]
 have e4:stays r l' p f=stays r l p f:=by
  unfold stays;rw[e3];unfold inG at h ⊢;rw[e2,h.pass]
 have e5:learnt b l' p f=learnt b l p f:=(by unfold learnt;rw[e3])
 have e6:outs r l' b p f=outs r l b p f:=by
  unfold outs;rw[e5,e3];refine filter_same _ _ l l' h.len (fun i hi=>⟨?_,?_⟩)
  ·unfold leads;rw[h.port i,h.pass i]
  ·unfold leave;rw[h.plain i,h.port i]
 unfold relay;rw[e1,e2,e4,e5,e6]
end Rl
end
section
open Pl (Net Lk)
open Bk (E at')
open Rl (G gat F R O)
namespace Ln
def frO (f:F) (o:O):F:={ f with tagged:=o.tagged,prio:=o.prio,drop:=o.drop,vid:=o.vid }
def frV (f:F) (x:OV):F:={ f with tagged:=x.o.tagged,prio:=x.o.prio,drop:=x.o.drop,vid:=x.o.vid,ao:=x.da,cap:=x.dc }
def gates (n:Net) (t:List Tr) (vid:Int) (i:Nat):List G:=gList t (i:Int) vid (IL (n.pts i)) (fun _=>0) (fun _=>0) (n.pts i).length
def rl (n:Net) (t:List Tr) (vid:Int) (f:F) (bks:Nat→List E) (i:Nat) (o:O):Rl.Res:=Rl.relay (rgR (n.bs i)) (gates n t vid i) (bks i) o.port (frO f o)
theorem gat_snoc (l:List G) (x:G) (i:Nat):gat (l++[x]) i=if i<l.length then gat l i else if i=l.length then x else Rl.g0:=by
 unfold Rl.gat;by_cases h:i<l.length
 ·rw[if_pos h];simp[h,List.getElem?_append_left]
 ·rw[if_neg h];by_cases e:i=l.length
  ·subst e;simp
  ·rw[if_neg e];simp[List.getElem?_append_right (by omega:l.length≤i)];rw[List.getElem?_eq_none (by simp;omega)];rfl
theorem gList_same (t:List Tr) (bridge vid:Int) (pf:Nat→Int) (fa fb fa' fb':Nat→Nat) (tr v:Int):∀j,Rl.Alike (gList t bridge vid pf fa fb j) (gList t bridge vid pf fa' fb' j) tr v
 | 0=>by
  refine⟨rfl,fun i => ?_,fun i => ?_,fun i => ?_,fun i => ?_,fun i => ?_⟩;all_goals cases i<;>rfl
 | j+1=>by
  have ih:=gList_same t bridge vid pf fa fb fa' fb' tr v j;have e1:gList t bridge vid pf fa fb (j+1)=gList t bridge vid pf fa fb j++[mkG t bridge vid (pf j) 0 (fa (j+1)) (fb (j+1))]:=rfl;have e2:gList t bridge vid pf fa' fb' (j+1)=gList t bridge vid pf fa' fb' j++[mkG t bridge vid (pf j) 0 (fa' (j+1)) (fb' (j+1))]:=rfl;rw[e1,e2];refine⟨by simp[gList_len],fun i => ?_,fun i => ?_,fun i => ?_,fun i => ?_,fun i => ?_⟩;all_goals rw[gat_snoc,gat_snoc,gList_len,gList_len]
  all_goals by_cases h:i<j+1
  all_goals first | (rw[if_pos h,if_pos h];first | exact ih.port i | exact ih.plain i | exact ih.ways i | exact ih.opens i | exact ih.pass i) | (rw[if_neg h,if_neg h];split<;>rfl)
theorem rl_eq (n:Net) (t:List Tr) (vid:Int) (f:F) (bks:Nat→List E) (i:Nat) (x:OV) (fa fb:Nat→Nat):Rl.relay (rgR (n.bs i)) (gList t (i:Int) vid (IL (n.pts i)) fa fb (n.pts i).length) (bks i) x.o.port (frV f x)=rl n t vid f bks i x.o:=by
 have h1:=Rl.relay_same (r:=rgR (n.bs i)) (b:=bks i) (p:=x.o.port) (f:=frV f x) (gList_same t (i:Int) vid (IL (n.pts i)) (fun _=>0) (fun _=>0) fa fb _ _ (n.pts i).length);exact h1
def crs (n:Net) (i:Nat) (o:O):Option (Nat×O):=if o.port=0 then none else(crossTo n.ls n.L ((i:Int),o.port)).map fun q=>(q.1.toNat,{ o with port:=q.2 })
def seenOf (i:Nat) (os:List O):List (Nat×O):=(os.filter (fun o=>decide (o.port=0))).map (fun o=>(i,o))
def waitOf (n:Net) (i:Nat) (os:List O):List (Nat×O):=os.filterMap (crs n i)
structure Cs where
 seen:List (Nat×O)
 wait:List (Nat×O)
 books:Nat→List E
 err:Int
def step (n:Net) (t:List Tr) (vid:Int) (f:F) (s:Cs) (x:Nat×O) (r:List (Nat×O)):Cs :=
 ⟨s.seen++seenOf x.1 (rl n t vid f s.books x.1 x.2).out,r++waitOf n x.1 (rl n t vid f s.books x.1 x.2).out,fun j=>if j=x.1 then(rl n t vid f s.books x.1 x.2).book else s.books j,(rl n t vid f s.books x.1 x.2).err⟩
def carry (n:Net) (t:List Tr) (vid:Int) (f:F):Nat→Cs→Cs
 | 0,s=>s
 | k+1,s=>match s.wait with
  | []=>s
  | x :: r=>if (step n t vid f s x r).err=0 then carry n t vid f k (step n t vid f s x r) else step n t vid f s x r
theorem carry_nil (n:Net) (t:List Tr) (vid:Int) (f:F) (k:Nat) (s:Cs) (h:s.wait=[]):carry n t vid f k s=s:=by
 cases k with
 | zero=>rfl
 | succ k=>simp[carry,h]
theorem carry_cons (n:Net) (t:List Tr) (vid:Int) (f:F) (k:Nat) (s:Cs) {x:Nat×O}{r:List (Nat×O)}(h:s.wait=x :: r):carry n t vid f (k+1) s=if (step n t vid f s x r).err=0 then carry n t vid f k (step n t vid f s x r) else step n t vid f s x r:=by
 simp[carry,h]
theorem seenOf_snoc (i:Nat) (os:List O) (o:O):seenOf i (os++[o])=seenOf i os++if o.port=0 then [(i,o)] else []:=by
 unfold seenOf;rw[List.filter_append,List.map_append];by_cases h:o.port=0<;>simp[h]
theorem waitOf_snoc (n:Net) (i:Nat) (os:List O) (o:O):waitOf n i (os++[o])=waitOf n i os++(crs n i o).toList:=by
 unfold waitOf;rw[List.filterMap_append];cases h:crs n i o<;>simp[h]
theorem out_mem {r:R}{l:List G}{b:List E}{p:Int}{f:F}{o:O}(h:o∈(Rl.relay r l b p f).out):Rl.errR r l b f=0∧Rl.Right l∧∃g∈l,Rl.leads r (Rl.learnt b l p f) (Rl.wayOf f (Rl.inG l p)) f p g=true∧Rl.leave f (Rl.wayOf f (Rl.inG l p)) g=o:=by
 unfold Rl.relay at h;split at h
 ·rename_i hz;split at h
  ·simp at h
  ·split at h
   ·simp at h
   ·have ho:o∈Rl.outs r l b p f:=h;unfold Rl.outs at ho;obtain⟨g,hg,e⟩:=List.mem_map.1 ho;refine⟨hz,?_,g,(List.mem_filter.1 hg).1,(List.mem_filter.1 hg).2,e⟩;unfold Rl.errR Rl.or4 at hz;by_cases c1:r.wrong=0
    ·rw[if_pos c1] at hz;exact Rl.right_of (Rl.or3_zero hz).1
    ·rw[if_neg c1] at hz;exact absurd hz c1
 ·simp at h
theorem out_port {r:R}{l:List G}{b:List E}{p:Int}{f:F}{o:O}(h:o∈(Rl.relay r l b p f).out):(0≤o.port∧o.port≤30)∧o.port≠p:=by
 obtain⟨_,hr,g,hg,hl,e⟩:=out_mem h;obtain⟨i,hi,e2⟩:=Rl.mem_gat hg;rw[←e,Rl.leave_port];unfold Rl.leads at hl;simp only[Bool.and_eq_true,decide_eq_true_eq] at hl;refine⟨?_,hl.1⟩;rw[←e2];exact hr.port i hi
theorem out_few {r:R}{l:List G}{b:List E}{p:Int}{f:F}:(Rl.relay r l b p f).out.length≤31:=by
 unfold Rl.relay;split
 ·rename_i h;have hr:Rl.Right l:=by
   unfold Rl.errR Rl.or4 at h;by_cases c1:r.wrong=0
   ·rw[if_pos c1] at h;exact Rl.right_of (Rl.or3_zero h).1
   ·rw[if_neg c1] at h;exact absurd h c1
  split
  ·simp
  ·split
   ·simp
   ·show(Rl.outs r l b p f).length≤31;unfold Rl.outs;rw[List.length_map];exact Nat.le_trans (List.length_filter_le _ _) hr.many
 ·simp
theorem crossTo_range {K:Nat}{ls:Nat→Lk}{L:Nat}(R:Pl.RightL K L ls) {p q:Int×Int}:∀k,k≤L→crossTo ls k p=some q→(0≤q.1∧q.1<K)∧1≤q.2∧q.2≤30
 | 0,_,h=>by cases h
 | k+1,hk,h=>by
  obtain⟨ha,hb,_,hpa,hpb,_⟩:=R.ok k (by omega);unfold crossTo at h;split at h
  ·split at h
   ·injection h with h;subst h;exact⟨hb,hpb⟩
   ·split at h
    ·injection h with h;subst h;exact⟨ha,hpa⟩
    ·exact crossTo_range R k (by omega) h
  ·exact crossTo_range R k (by omega) h
theorem crs_range {n:Net}(R:n.Right) {i:Nat}{o:O}{y:Nat×O}(h:crs n i o=some y):y.1<n.K∧1≤y.2.port∧y.2.port≤30:=by
 unfold crs at h;split at h
 ·cases h
 ·cases e:crossTo n.ls n.L ((i:Int),o.port) with
  | none=>rw[e] at h;cases h
  | some q =>
   rw[e] at h;injection h with h;subst h;obtain⟨h1,h2⟩:=crossTo_range R.links n.L (Nat.le_refl _) e;exact⟨by show q.1.toNat<n.K;omega,h2⟩
theorem wait_range {n:Net}(R:n.Right) {i:Nat}{os:List O}:∀y∈waitOf n i os,y.1<n.K:=fun y hy=>by
 unfold waitOf at hy;obtain⟨o,_,h⟩:=List.mem_filterMap.1 hy;exact(crs_range R h).1
end Ln
end
end Go.Proofs.YtflghpnpjmodaaaGreatDoor
