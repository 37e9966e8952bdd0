/- What the three appends of book.Learn leave -/
import Derived.Test.YtflghpnpjmodaaaGreatDoorT30
import Derived.Test.YtflghpnpjmodaaaGreatDoorT15
import Derived.Test.YtflghpnpjmodaaaGreatDoorT29
set_option maxRecDepth 100000
set_option maxHeartbeats 6000000
namespace Go.Proofs.YtflghpnpjmodaaaGreatDoor
section
open Go.RowKit
open Bk (E at')
open Rl (G gat F)
theorem owns_bytes_nil (w:World) (base:Nat) (bs:Nat→Int):w.ownsRow base 5 1 (.slice none 0 0) 0 (bytesL 0 bs):=⟨by simp[bytesL],Or.inl ⟨rfl,rfl⟩⟩
theorem nclone_own (ao:Option Addr) (n c:Nat) (bs:Nat→Int) (w:World) (hr:ByteRow w ao n c bs) (hnil:ao=none→n=0∧c=0) (hn:n≤140737488355328) :
  Calls Tryz.prog 47 #[.slice ao n c] w fun e w'=>∃v,e=.returned v∧w'.ownsRow w.heap.size 5 1 v n (bytesL n bs)∧Bl w w':=by
 have HR:Hid (ByteRow w ao n c bs):=hr;clear hr;cases ao with
 | none =>
  obtain⟨rfl,rfl⟩:=hnil rfl;have he:∀w:World,(binOp .eql 60 (.slice none 0 0) (.slice none 0 0)).run Tryz.prog w=.ok (.bool true) w:=fun _=>by kernel_rfl
  go_enter Tryz.func47,Tryz.ntmps47;(go_wp2_with fail);go_ret;exact⟨_,rfl,owns_bytes_nil _ _ _,Below.refl _ _⟩
 | some ad =>
  clear hnil;have HR1:Hid (ByteRow (w.alloc (.cells #[] 5)) (some ad) n c bs):=HR.out.below (bA1 w _);have HO:Hid ((w.alloc (.cells #[] 5)).ownsRow w.heap.size 5 1 (.slice (some ⟨w.heap.size,0,none⟩) 0 0) 0 []):=owns_empty w;have he:∀w:World,(binOp .eql 60 (.slice (some ad) n c) (.slice none 0 0)).run Tryz.prog w=.ok (.bool false) w:=fun _=>by kernel_rfl
  go_enter Tryz.func47,Tryz.ntmps47;go_wp2_with (at_builtin;refine wpList_append_bytes rfl (.tmp 5) (.tmp 6) rfl w.heap.size _ 0 [] rfl HO.out (some ad) n c bs rfl HR1.out (fun e=>by cases e) (by omega) (by simp) ?_;intro v1 w1 h1 h2;have HG:Hid (Bl w w1):=grown_own (bA1 w _) HO.out (by simp) h2;clear h2;rw[Nat.zero_add,List.nil_append] at h1;have H1:Hid (w1.ownsRow w.heap.size 5 1 v1 n (bytesL n bs)):=h1;clear h1)
  go_ret;exact⟨v1,rfl,H1.out,HG.out⟩
theorem fr_set8 {w:World}{g:Nat}{a0 a1 a2 a3 a4 a5 a6 a7 v0 v1 v2 v3 v4 v5 v6 v7:Value}{ty:TypeId}(h:w.heap[g]?=some (.cells #[a0,a1,a2,a3,a4,a5,a6,a7] ty (0,0))) :
  ((((((((w.setCell ⟨g,0,none⟩ v0).setCell ⟨g,1,none⟩ v1).setCell ⟨g,2,none⟩ v2).setCell ⟨g,3,none⟩ v3).setCell ⟨g,4,none⟩ v4).setCell ⟨g,5,none⟩ v5).setCell ⟨g,6,none⟩ v6).setCell ⟨g,7,none⟩ v7).heap[g]?=some (.cells #[v0,v1,v2,v3,v4,v5,v6,v7] ty (0,0)):=by
 have h0:(w.setCell ⟨g,0,none⟩ v0).heap[g]?=some (.cells #[v0,a1,a2,a3,a4,a5,a6,a7] ty (0,0)):=(by rw[heap_setCell_same _ _ _ _ _ _ h];rfl)
 have h1:((w.setCell ⟨g,0,none⟩ v0).setCell ⟨g,1,none⟩ v1).heap[g]?=some (.cells #[v0,v1,a2,a3,a4,a5,a6,a7] ty (0,0)):=(by rw[heap_setCell_same _ _ _ _ _ _ h0];rfl)
 have h2:(((w.setCell ⟨g,0,none⟩ v0).setCell ⟨g,1,none⟩ v1).setCell ⟨g,2,none⟩ v2).heap[g]?=some (.cells #[v0,v1,v2,a3,a4,a5,a6,a7] ty (0,0)):=(by rw[heap_setCell_same _ _ _ _ _ _ h1];rfl)
 have h3:((((w.setCell ⟨g,0,none⟩ v0).setCell ⟨g,1,none⟩ v1).setCell ⟨g,2,none⟩ v2).setCell ⟨g,3,none⟩ v3).heap[g]?=some (.cells #[v0,v1,v2,v3,a4,a5,a6,a7] ty (0,0)):=(by rw[heap_setCell_same _ _ _ _ _ _ h2];rfl)
 have h4:(((((w.setCell ⟨g,0,none⟩ v0).setCell ⟨g,1,none⟩ v1).setCell ⟨g,2,none⟩ v2).setCell ⟨g,3,none⟩ v3).setCell ⟨g,4,none⟩ v4).heap[g]?=some (.cells #[v0,v1,v2,v3,v4,a5,a6,a7] ty (0,0)):=(by rw[heap_setCell_same _ _ _ _ _ _ h3];rfl)
 have h5:((((((w.setCell ⟨g,0,none⟩ v0).setCell ⟨g,1,none⟩ v1).setCell ⟨g,2,none⟩ v2).setCell ⟨g,3,none⟩ v3).setCell ⟨g,4,none⟩ v4).setCell ⟨g,5,none⟩ v5).heap[g]?=some (.cells #[v0,v1,v2,v3,v4,v5,a6,a7] ty (0,0)):=(by rw[heap_setCell_same _ _ _ _ _ _ h4];rfl)
 have h6:(((((((w.setCell ⟨g,0,none⟩ v0).setCell ⟨g,1,none⟩ v1).setCell ⟨g,2,none⟩ v2).setCell ⟨g,3,none⟩ v3).setCell ⟨g,4,none⟩ v4).setCell ⟨g,5,none⟩ v5).setCell ⟨g,6,none⟩ v6).heap[g]?=some (.cells #[v0,v1,v2,v3,v4,v5,v6,a7] ty (0,0)):=(by rw[heap_setCell_same _ _ _ _ _ _ h5];rfl)
 rw[heap_setCell_same _ _ _ _ _ _ h6];rfl
theorem sizeFr:(Tryz.prog.info? 74).map (·.size)=some 8:=by kernel_rfl
theorem sent_end (w w1:World) {ao:Option Addr}{n c:Nat}{bs:Nat→Int}(ho:w1.ownsRow w.heap.size 5 1 (.slice ao n c) n (bytesL n bs)) (g1 g2:Nat) {c1 c2:Array Value}(k1:w1.heap[g1]?=some (.cells c1 74)) (k2:w1.heap[g2]?=some (.cells c2 74)) (W:World) (hW:∀q,q≠g1→q≠g2→W.heap[q]?=w1.heap[q]?) :
  W.ownsRow w.heap.size 5 1 (.slice ao n c) n (bytesL n bs):=by
 refine owns_keep ho (fun q hq=>hW q ?_ ?_)
 ·rintro rfl;obtain⟨cur,h⟩:=owns_type ho hq;rw[h] at k1;injection k1 with k1;injection k1 with _ k1;exact absurd k1 (by decide)
 ·rintro rfl;obtain⟨cur,h⟩:=owns_type ho hq;rw[h] at k2;injection k2 with k2;injection k2 with _ k2;exact absurd k2 (by decide)
theorem sender1_any (f:F) (way:Int) (g:G) (Bt Bw Bp Bf:Nat) (w:World) (hs:Snd w f way Bt Bw Bp Bf) (hd:ByteRow w f.ao f.n f.cap f.bs) (hnil:NilOk f.ao f.n f.cap) (hn:f.n≤1500) :
  Calls Tryz.prog 197 #[.agg #[.int .i64 g.port,.slice g.wo g.ways.length g.wcap,.int .i64 g.plain,.slice g.oo g.opens.length g.ocap],.pointer (some ⟨Bt,0,none⟩),.pointer (some ⟨Bw,0,none⟩),.pointer (some ⟨Bp,0,none⟩),.pointer (some ⟨Bf,0,none⟩)] w fun e w'=>∃a c,e=.returned (.agg #[.int .u64 f.dst,.int .u64 f.src,.bool (Rl.leave f way g).tagged,.int .i64 (Rl.leave f way g).prio,.bool (Rl.leave f way g).drop,.int .i64 (Rl.leave f way g).vid,.int .i64 f.type,.slice a f.n c])∧w'.ownsRow w.heap.size 5 1 (.slice a f.n c) f.n (bytesL f.n f.bs)∧Bl w w':=by
 obtain⟨s0,s1,s2,s3,s4,s5,s6,s7⟩:=fr_cells hs.t;obtain⟨p0,p1,p2,p3,p4,p5,p6,p7⟩:=fr_cells hs.p;obtain⟨_,_,_,_,_,_,_,q7⟩:=fr_cells hs.f;have cw:w.cell? ⟨Bw,0,none⟩=some (.int .i64 way):=cell_of_row w Bw 0 _ _ _ hs.w;have l1:Bt<w.heap.size:=block_lt_of_cell s0;have l2:Bp<w.heap.size:=block_lt_of_cell p0;have l3:Bf<w.heap.size:=block_lt_of_cell q7;have l4:Bw<w.heap.size:=block_lt_of_cell cw;have HCL:Hid (∀A B C:Obj,Calls Tryz.prog 47 #[.slice f.ao f.n f.cap] (((w.alloc A).alloc B).alloc C) fun e w'=>∃a c,e=.returned (.slice a f.n c)∧Hid (w'.ownsRow w.heap.size 5 1 (.slice a f.n c) f.n (bytesL f.n f.bs)∧Bl w w')∧Hid (w'.heap[w.heap.size+1]?=some B∧w'.heap[w.heap.size+1+1]?=some C)):=fun A B C=>by
  obtain⟨h1,h2,h3,h4⟩:=alloc3 w A B C;refine(nclone_own f.ao f.n f.cap f.bs _ (hd.below h4) hnil (by omega)).mono ?_;rintro e w' ⟨v,rfl,ho,hb⟩;obtain⟨a,c,rfl,_⟩:=owns_row ho;exact⟨a,c,rfl,⟨owns_mono ho h4.size,h4.trans (hb.mono h4.size)⟩,keep h2 hb,keep h3 hb⟩
 have HFIN:Hid (∀(w1:World) (a:Option Addr) (c:Nat) (B1 C1:Array Value),(w1.ownsRow w.heap.size 5 1 (.slice a f.n c) f.n (bytesL f.n f.bs)∧Bl w w1)→w1.heap[w.heap.size+1]?=some (.cells B1 74)→w1.heap[w.heap.size+1+1]?=some (.cells C1 74)→∀W:World,(∀q,q≠w.heap.size+1→q≠w.heap.size+1+1→W.heap[q]?=w1.heap[q]?)→W.ownsRow w.heap.size 5 1 (.slice a f.n c) f.n (bytesL f.n f.bs)):=fun w1 a c B1 C1 h1 k1 k2 W hW=>sent_end w w1 h1.1 _ _ k1 k2 W hW;have HLV:Hid (g.plain=way→Rl.leave f way g=⟨g.port,false,0,false,0⟩):=fun h=>if_pos h;have HLN:Hid (g.plain≠way→Rl.leave f way g=⟨g.port,true,if f.tagged=true then f.prio else 0,f.tagged&&f.drop,way⟩):=fun h=>if_neg h;clear hs hd hnil;have m4:Bw<w.heap.size+1+1:=(by omega)
 have m3:Bf<w.heap.size+1+1:=(by omega)
 have m2:Bp<w.heap.size+1+1:=(by omega)
 have n4:Bw≠w.heap.size+1+1:=(by omega)
 have n3:Bf≠w.heap.size+1+1:=(by omega)
 have n2:Bp≠w.heap.size+1+1:=(by omega)
 generalize (if f.tagged=true then f.prio else 0)=pr at *;generalize (f.tagged&&f.drop)=dr at *;by_cases hp:g.plain=way
 ·have e1:(g.plain == way)=true:=(by simp[hp])
  rw[HLV.out hp];clear HLV HLN hp;go_enter Tryz.func197,Tryz.ntmps197;(go_wp2_with fail);refine(HCL.out _ _ _).mono ?_;rintro e w1 ⟨a,c,rfl,H1,H2⟩;obtain⟨B1,HB1⟩:∃B1,Hid (B1=w.heap.size+1):=⟨_,rfl⟩
  obtain⟨B2,HB2⟩:∃B2,Hid (B2=w.heap.size+1+1):=⟨_,rfl⟩
  have hne:B1≠B2:=(by have:=HB1.out;have:=HB2.out;omega)
  have h2:=H2.out;have hf:=HFIN.out w1 a c _ _ H1.out h2.1 h2.2;rw[←HB2.out,←HB1.out] at h2 hf;have HF:Hid (∀W:World,(∀q,q≠B1→q≠B2→W.heap[q]?=w1.heap[q]?)→W.ownsRow w.heap.size 5 1 (.slice a f.n c) f.n (bytesL f.n f.bs)):=hf;have HK:Hid (w.heap.size≤B1∧w.heap.size≤B2):=(by have:=HB1.out;have:=HB2.out;exact⟨by omega,by omega⟩)
  obtain⟨o0,o1,o2,o3,o4,o5,o6,o7⟩:=fr_cells h2.2;obtain⟨z0,z1,z2,z3,z4,z5,z6,z7⟩:=fr_free h2.2;obtain⟨r0,r1,r2,r3,r4,r5,r6,r7⟩:=fr_cells h2.1;obtain⟨y0,y1,y2,y3,y4,y5,y6,y7⟩:=fr_free h2.1;have H3:Hid (w1.heap[B1]?=some (.cells #[.int .u64 0,.int .u64 0,.bool false,.int .i64 0,.bool false,.int .i64 0,.int .i64 0,.slice none 0 0] 74)):=h2.1;clear s0 s1 s2 s3 s4 s5 s6 s7 p0 p1 p2 p3 p4 p5 p6 p7 q7 cw l1 l2 l3 l4 HCL m2 m3 m4 n2 n3 n4 H2 h2 hf HFIN;rw[←HB2.out,←HB1.out];clear HB1 HB2;(go_wp2_with fail);refine bodyPost_ret (v:=.agg #[.int .u64 f.dst,.int .u64 f.src,.bool false,.int .i64 0,.bool false,.int .i64 0,.int .i64 f.type,.slice a f.n c]) (results_row (p:=6) (ty:=74) Tryz.results197 _ _ B1 74 #[.int .u64 f.dst,.int .u64 f.src,.bool false,.int .i64 0,.bool false,.int .i64 0,.int .i64 f.type,.slice a f.n c] (0,0) _ rfl (fr_set8 (by rw[heap_setCell_other _ _ _ _ (by exact hne)];exact H3.out)) Tryz.underlying74 rfl (by rw[sizeFr];rfl)) rfl ⟨a,c,rfl,HF.out _ (fun q n1 n2 => ?_),?_⟩
  ·rw[heap_setCell_other _ _ _ _ (by exact n1),heap_setCell_other _ _ _ _ (by exact n1),heap_setCell_other _ _ _ _ (by exact n1),heap_setCell_other _ _ _ _ (by exact n1),heap_setCell_other _ _ _ _ (by exact n1),heap_setCell_other _ _ _ _ (by exact n1),heap_setCell_other _ _ _ _ (by exact n1),heap_setCell_other _ _ _ _ (by exact n1),heap_setCell_other _ _ _ _ (by exact n2)]
  ·exact((((((((H1.out.2.setCell HK.out.2 _).setCell HK.out.1 _).setCell HK.out.1 _).setCell HK.out.1 _).setCell HK.out.1 _).setCell HK.out.1 _).setCell HK.out.1 _).setCell HK.out.1 _).setCell HK.out.1 _
 ·have e1:(g.plain == way)=false:=(by simpa using hp)
  rw[HLN.out hp];clear HLV HLN hp;go_enter Tryz.func197,Tryz.ntmps197;(go_wp2_with fail);refine(HCL.out _ _ _).mono ?_;rintro e w1 ⟨a,c,rfl,H1,H2⟩;obtain⟨B1,HB1⟩:∃B1,Hid (B1=w.heap.size+1):=⟨_,rfl⟩
  obtain⟨B2,HB2⟩:∃B2,Hid (B2=w.heap.size+1+1):=⟨_,rfl⟩
  have hne:B1≠B2:=(by have:=HB1.out;have:=HB2.out;omega)
  have h2:=H2.out;have hf:=HFIN.out w1 a c _ _ H1.out h2.1 h2.2;rw[←HB2.out,←HB1.out] at h2 hf;have HF:Hid (∀W:World,(∀q,q≠B1→q≠B2→W.heap[q]?=w1.heap[q]?)→W.ownsRow w.heap.size 5 1 (.slice a f.n c) f.n (bytesL f.n f.bs)):=hf;have HK:Hid (w.heap.size≤B1∧w.heap.size≤B2):=(by have:=HB1.out;have:=HB2.out;exact⟨by omega,by omega⟩)
  obtain⟨o0,o1,o2,o3,o4,o5,o6,o7⟩:=fr_cells h2.2;obtain⟨z0,z1,z2,z3,z4,z5,z6,z7⟩:=fr_free h2.2;obtain⟨r0,r1,r2,r3,r4,r5,r6,r7⟩:=fr_cells h2.1;obtain⟨y0,y1,y2,y3,y4,y5,y6,y7⟩:=fr_free h2.1;have H3:Hid (w1.heap[B1]?=some (.cells #[.int .u64 0,.int .u64 0,.bool false,.int .i64 0,.bool false,.int .i64 0,.int .i64 0,.slice none 0 0] 74)):=h2.1;clear s0 s1 s2 s3 s4 s5 s6 s7 p0 p1 p2 p3 p4 p5 p6 p7 q7 cw l1 l2 l3 l4 HCL m2 m3 m4 n2 n3 n4 H2 h2 hf HFIN;rw[←HB2.out,←HB1.out];clear HB1 HB2;(go_wp2_with fail);refine bodyPost_ret (v:=.agg #[.int .u64 f.dst,.int .u64 f.src,.bool true,.int .i64 pr,.bool dr,.int .i64 way,.int .i64 f.type,.slice a f.n c]) (results_row (p:=6) (ty:=74) Tryz.results197 _ _ B1 74 #[.int .u64 f.dst,.int .u64 f.src,.bool true,.int .i64 pr,.bool dr,.int .i64 way,.int .i64 f.type,.slice a f.n c] (0,0) _ rfl (fr_set8 (by rw[heap_setCell_other _ _ _ _ (by exact hne)];exact H3.out)) Tryz.underlying74 rfl (by rw[sizeFr];rfl)) rfl ⟨a,c,rfl,HF.out _ (fun q n1 n2 => ?_),?_⟩
  ·rw[heap_setCell_other _ _ _ _ (by exact n1),heap_setCell_other _ _ _ _ (by exact n1),heap_setCell_other _ _ _ _ (by exact n1),heap_setCell_other _ _ _ _ (by exact n1),heap_setCell_other _ _ _ _ (by exact n1),heap_setCell_other _ _ _ _ (by exact n1),heap_setCell_other _ _ _ _ (by exact n1),heap_setCell_other _ _ _ _ (by exact n1),heap_setCell_other _ _ _ _ (by exact n2)]
  ·exact((((((((H1.out.2.setCell HK.out.2 _).setCell HK.out.1 _).setCell HK.out.1 _).setCell HK.out.1 _).setCell HK.out.1 _).setCell HK.out.1 _).setCell HK.out.1 _).setCell HK.out.1 _).setCell HK.out.1 _
end
section
open Go.RowKit
open Bk (E at')
open Rl (G gat F O)
structure OV where
 o:O
 da:Option Addr
 dc:Nat
def ov0:OV:=⟨⟨0,false,0,false,0⟩,none,0⟩
def oat (l:List OV) (i:Nat):OV:=l.getD i ov0
theorem oat_get (l:List OV) (i:Nat) (h:i<l.length):oat l i=l[i]:=by simp[oat,h]
theorem oat_mem (l:List OV) (i:Nat) (h:i<l.length):oat l i∈l:=by rw[oat_get l i h];exact List.getElem_mem h
theorem oat_left (l m:List OV) (i:Nat) (h:i<l.length):oat (l++m) i=oat l i:=by
 simp[oat,h,List.getElem?_append_left]
theorem oat_right (l m:List OV) (i:Nat) (h:l.length≤i):oat (l++m) i=oat m (i-l.length):=by
 simp[oat,h,List.getElem?_append_right]
def oA (f:F) (x:OV):Array Value:=#[.int .i64 x.o.port,.int .u64 f.dst,.int .u64 f.src,.bool x.o.tagged,.int .i64 x.o.prio,.bool x.o.drop,.int .i64 x.o.vid,.int .i64 f.type,.slice x.da f.n x.dc]
def oC (f:F) (x:OV) (j:Nat):Value:=(oA f x).getD j (.int .i64 0)
theorem oC_one (f:F) (x:OV) (j:Nat):(oC f x j).oneCell'=true:=by
 unfold oC oA;by_cases h:j<9
 ·rcases(by omega:j=0∨j=1∨j=2∨j=3∨j=4∨j=5∨j=6∨j=7∨j=8) with e | e | e | e | e | e | e | e | e<;>subst e<;>rfl
 ·simp[h];rfl
theorem infoO:(Tryz.prog.info? 191).map (fun i=>(i.zero,i.size,i.bytes))=some (some (.agg #[.int .i64 0,.int .u64 0,.int .u64 0,.bool false,.int .i64 0,.bool false,.int .i64 0,.int .i64 0,.slice none 0 0]),9,88):=by kernel_rfl
structure OwnO (w:World) (base:Nat) (v:Value) (f:F) (l:List OV):Prop where
 row:w.ownsRow base 191 9 v l.length (cellsL l.length 9 (fun i=>oC f (oat l i)))
 data:∀x∈l,w.ownsRow base 5 1 (.slice x.da f.n x.dc) f.n (bytesL f.n f.bs)
theorem OwnO.below {w w':World}{base:Nat}{v:Value}{f:F}{l:List OV}(h:OwnO w base v f l) (hb:Bl w w'):OwnO w' base v f l:=⟨ownsC_below h.row hb,fun x hx=>ownsC_below (h.data x hx) hb⟩
theorem OwnO.mono {w:World}{base base':Nat}{v:Value}{f:F}{l:List OV}(h:OwnO w base v f l) (hb:base'≤base):OwnO w base' v f l:=⟨owns_mono h.row hb,fun x hx=>owns_mono (h.data x hx) hb⟩
theorem OwnO.nil (w:World) (base:Nat) (f:F):OwnO w base (.slice none 0 0) f []:=⟨ownsC_nil w base _ _ _,fun x h=>by simp at h⟩
structure ORw (w:World) (ao:Option Addr) (cap:Nat) (f:F) (l:List OV):Prop where
 row:CRow w ao l.length cap 9 (fun i=>oC f (oat l i))
 data:∀x∈l,ByteRow w x.da f.n x.dc f.bs∧NilOk x.da f.n x.dc
theorem OwnO.el {w:World}{base:Nat}{v:Value}{f:F}{l:List OV}(h:OwnO w base v f l):∃ao cap,v=.slice ao l.length cap∧ORw w ao cap f l∧NilOk ao l.length cap:=by
 obtain⟨ao,cap,rfl,h1,h2,_⟩:=owns_c (by omega) h.row;refine⟨ao,cap,rfl,⟨h1,fun x hx => ?_⟩,h2⟩;obtain⟨ao',cap',e,h3,_,h4,_⟩:=owns_row (h.data x hx);injection e with e1 _ e2;subst e1 e2;exact⟨h3,h4⟩
theorem ORw.place {w:World}{ao:Option Addr}{cap:Nat}{f:F}{l:List OV}(h:ORw w ao cap f l) (hn:0<l.length):∃b off,ao=.some ⟨b,off,.none⟩∧b<w.heap.size:=by
 obtain⟨b,off,e,hb,_⟩:=h.row.2 hn;exact⟨b,off,e,hb⟩
theorem ORw.cells {w:World}{b off cap:Nat}{f:F}{l:List OV}(h:ORw w (some ⟨b,off,none⟩) cap f l) {i:Nat}(hi:i<l.length) :
  w.cell? ⟨b,off+i*9,none⟩=some (.int .i64 (oat l i).o.port)∧w.cell? ⟨b,off+i*9+1,none⟩=some (.int .u64 f.dst)∧w.cell? ⟨b,off+i*9+2,none⟩=some (.int .u64 f.src)∧w.cell? ⟨b,off+i*9+3,none⟩=some (.bool (oat l i).o.tagged)∧w.cell? ⟨b,off+i*9+4,none⟩=some (.int .i64 (oat l i).o.prio)∧w.cell? ⟨b,off+i*9+5,none⟩=some (.bool (oat l i).o.drop)∧w.cell? ⟨b,off+i*9+6,none⟩=some (.int .i64 (oat l i).o.vid)∧w.cell? ⟨b,off+i*9+7,none⟩=some (.int .i64 f.type)∧w.cell? ⟨b,off+i*9+8,none⟩=some (.slice (oat l i).da f.n (oat l i).dc):=by
 obtain⟨b',off',e,_,hc⟩:=h.row.2 (by omega);cases e
 exact⟨hc i hi 0 (by omega),hc i hi 1 (by omega),hc i hi 2 (by omega),hc i hi 3 (by omega),hc i hi 4 (by omega),hc i hi 5 (by omega),hc i hi 6 (by omega),hc i hi 7 (by omega),hc i hi 8 (by omega)⟩
theorem one_out {w:World}{g:Nat}{f:F}{x:OV}{ty:TypeId}(h:w.heap[g]?=some (.cells (oA f x) ty (0,0))):CRow w (some ⟨g,0,none⟩) 1 1 9 (fun _=>oC f x):=by
 refine⟨Nat.le_refl _,fun _=>⟨g,0,rfl,(gSm.1 h).1,fun i hi j hj => ?_⟩⟩;obtain rfl:i=0:=by omega
 rcases(by omega:j=0∨j=1∨j=2∨j=3∨j=4∨j=5∨j=6∨j=7∨j=8) with e | e | e | e | e | e | e | e | e<;>subst e
 ·exact cell_of_row w g 0 _ _ _ h
 ·exact cell_of_row w g 1 _ _ _ h
 ·exact cell_of_row w g 2 _ _ _ h
 ·exact cell_of_row w g 3 _ _ _ h
 ·exact cell_of_row w g 4 _ _ _ h
 ·exact cell_of_row w g 5 _ _ _ h
 ·exact cell_of_row w g 6 _ _ _ h
 ·exact cell_of_row w g 7 _ _ _ h
 ·exact cell_of_row w g 8 _ _ _ h
abbrev runAppO (v x:Value) (w:World) (v':Value) (w':World):Prop:=(Builtin.append_ #[188,188] 188 #[v,x]).run Tryz.prog w=.ok v' w'
theorem more_o (base:Nat) (W:World) (v:Value) (f:F) (l:List OV) (x:OV) (ho:OwnO W base v f l) (hx:W.ownsRow base 5 1 (.slice x.da f.n x.dc) f.n (bytesL f.n f.bs)) (hl:l.length≤1000) (hbase:base≤W.heap.size) :
  ∃a m c W2,runAppO v (.slice (some ⟨W.heap.size,0,none⟩) 1 1) (W.alloc (.cells (oA f x) 191)) (.slice a m c) W2∧m=(l++[x]).length∧OwnO W2 base (.slice a m c) f (l++[x])∧Below base W W2∧(∀(q:Nat) (cur:Array Value) (ty:TypeId),W.heap[q]?=some (Obj.cells cur ty (0,0))→ty≠191→W2.heap[q]?=some (Obj.cells cur ty (0,0))):=by
 have hb1:=bA1 W (.cells (oA f x) 191);have ho1:=ho.below hb1;have hx1:=ownsC_below hx hb1;obtain⟨a1,c1,w',r,o,b,q⟩:=append_c (W.alloc (.cells (oA f x) 191)) 188 191 _ 9 88 Tryz.underlying188 infoO rfl (by omega) base v l.length _ ho1.row (some ⟨W.heap.size,0,none⟩) 1 1 (fun _=>oC f x) (fun _ _=>oC_one _ _ _) (one_out (heap_alloc_last W _)) (fun h=>by cases h) (by unfold maxLen;omega) (by omega) (by have:=hb1.size;omega);have e:l.length+1=(l++[x]).length:=(by simp)
 refine⟨a1,_,c1,w',r,e,⟨?_,?_⟩,(hb1.mono hbase).trans b,fun g cur ty hg hty => ?_⟩;rotate_left 2
 ·have hg1:=keep hg hb1;refine(q g (gSm.1 hg1).1 (fun hv => ?_)).trans hg1;obtain⟨c2,h2⟩:=owns_type ho1.row hv.symm;rw[hg1] at h2;injection h2 with h2;injection h2 with _ h2;exact hty h2
 ·rw[e] at o ⊢;rw[cellsL_congr _ 9 _ (fun i=>oC f (oat (l++[x]) i))] at o
  ·exact o
  ·intro i hi;unfold catC;by_cases h:i<l.length
   ·rw[if_pos h,oat_left l _ i h]
   ·have hi':i=l.length:=(by simp at hi;omega)
    subst hi';rw[if_neg (by omega),oat_right l _ _ (Nat.le_refl _),Nat.sub_self];rfl
 ·have hk:∀y:OV,(W.alloc (.cells (oA f x) 191)).ownsRow base 5 1 (.slice y.da f.n y.dc) f.n (bytesL f.n f.bs)→w'.ownsRow base 5 1 (.slice y.da f.n y.dc) f.n (bytesL f.n f.bs):=fun y hy=>by
   refine owns_keep hy (fun p hp=>q p (oCb hy p hp).2 ?_);have:=owns_apart hy ho1.row (by decide) hp;exact fun h=>this h.symm
  intro y hy;rcases List.mem_append.1 hy with h | h
  ·exact hk y (ho1.data y h)
  ·have:y=x:=by simpa using h
   subst this;exact hk y hx1
theorem sent_any (ao:Option Addr) (cap:Nat) (l:List G) (P1 P2 P3 P4 Bt Bw Bp Bf:Nat) (p:G→Bool) (f:F) (way:Int) (w:World) (hn:l.length≤31) (hr:GRow w ao cap l)
  (hl:∀W,Bl w W→∀g∈l,Calls Tryz.prog 154 #[.agg #[.int .i64 g.port,.slice g.wo g.ways.length g.wcap,.int .i64 g.plain,.slice g.oo g.opens.length g.ocap],.pointer (some ⟨P1,0,none⟩),.pointer (some ⟨P2,0,none⟩),.pointer (some ⟨P3,0,none⟩),.pointer (some ⟨P4,0,none⟩)] W fun e w'=>e=.returned (.bool (p g))∧Bl W w')
  (hs:∀W,Bl w W→∀g:G,Calls Tryz.prog 197 #[.agg #[.int .i64 g.port,.slice g.wo g.ways.length g.wcap,.int .i64 g.plain,.slice g.oo g.opens.length g.ocap],.pointer (some ⟨Bt,0,none⟩),.pointer (some ⟨Bw,0,none⟩),.pointer (some ⟨Bp,0,none⟩),.pointer (some ⟨Bf,0,none⟩)] W fun e w'=>∃a c,e=.returned (.agg #[.int .u64 f.dst,.int .u64 f.src,.bool (Rl.leave f way g).tagged,.int .i64 (Rl.leave f way g).prio,.bool (Rl.leave f way g).drop,.int .i64 (Rl.leave f way g).vid,.int .i64 f.type,.slice a f.n c])∧w'.ownsRow W.heap.size 5 1 (.slice a f.n c) f.n (bytesL f.n f.bs)∧Bl W w') :
  Calls Tryz.prog 155 #[.slice ao l.length cap,.func (.func 154) #[] #[.pointer (some ⟨P1,0,none⟩),.pointer (some ⟨P2,0,none⟩),.pointer (some ⟨P3,0,none⟩),.pointer (some ⟨P4,0,none⟩)],.func (.func 197) #[] #[.pointer (some ⟨Bt,0,none⟩),.pointer (some ⟨Bw,0,none⟩),.pointer (some ⟨Bp,0,none⟩),.pointer (some ⟨Bf,0,none⟩)]] w fun e w'=>∃v os,e=.returned v∧os.map OV.o=(l.filter p).map (Rl.leave f way)∧OwnO w' w.heap.size v f os∧Bl w w':=by
 have hcap:l.length≤cap:=hr.row.1;have HR:Hid (∀W,Bl w W→GRow W ao cap l):=fun W hW=>hr.below hW;have HL:Hid (∀W,Bl w W→∀g∈l,Calls Tryz.prog 154 #[.agg #[.int .i64 g.port,.slice g.wo g.ways.length g.wcap,.int .i64 g.plain,.slice g.oo g.opens.length g.ocap],.pointer (some ⟨P1,0,none⟩),.pointer (some ⟨P2,0,none⟩),.pointer (some ⟨P3,0,none⟩),.pointer (some ⟨P4,0,none⟩)] W fun e w'=>e=.returned (.bool (p g))∧Bl W w'):=hl;have HS:Hid (∀W,Bl w W→∀g:G,Calls Tryz.prog 197 #[.agg #[.int .i64 g.port,.slice g.wo g.ways.length g.wcap,.int .i64 g.plain,.slice g.oo g.opens.length g.ocap],.pointer (some ⟨Bt,0,none⟩),.pointer (some ⟨Bw,0,none⟩),.pointer (some ⟨Bp,0,none⟩),.pointer (some ⟨Bf,0,none⟩)] W fun e w'=>∃a c,e=.returned (.agg #[.int .u64 f.dst,.int .u64 f.src,.bool (Rl.leave f way g).tagged,.int .i64 (Rl.leave f way g).prio,.bool (Rl.leave f way g).drop,.int .i64 (Rl.leave f way g).vid,.int .i64 f.type,.slice a f.n c])∧w'.ownsRow W.heap.size 5 1 (.slice a f.n c) f.n (bytesL f.n f.bs)∧Bl W w'):=hs;clear hr hl hs;go_enter Tryz.func155,Tryz.ntmps155;(go_wp2_with fail);go_loopw [7,12] (fun o i wr=>∃(k:Nat) (a:Option Addr) (m c:Nat),k≤l.length∧i=.int .i64 k∧o=.slice a m c∧Hid (∃os:List OV,os.map OV.o=((l.take k).filter p).map (Rl.leave f way)∧m=os.length∧OwnO wr w.heap.size (.slice a m c) f os∧Bl w wr)) (fun _ i _=>l.length-(intOf i).toNat)
 case atStart=>exact⟨0,none,0,0,by omega,rfl,rfl,⟨[],rfl,rfl,OwnO.nil _ _ _,Below.refl _ _⟩⟩
 case round =>
  obtain⟨k,a,m,c,hk,rfl,rfl,hX⟩:=hrel;obtain⟨os,hmap,hm,hown,hbel⟩:=hX.out;by_cases hlt:k<l.length
  ·obtain⟨b,off,rfl,_⟩:=(HR.out wr hbel).place (by omega);obtain⟨c0,c1,c2,c3⟩:=(HR.out wr hbel).cells hlt;obtain⟨X,HX⟩:∃X,Hid (X=wr.alloc (.cells #[.int .i64 (gat l k).port,.slice (gat l k).wo (gat l k).ways.length (gat l k).wcap,.int .i64 (gat l k).plain,.slice (gat l k).oo (gat l k).opens.length (gat l k).ocap] 238)):=⟨_,rfl⟩
   have hXB:Bl wr X:=(by rw[HX.out];exact bA1 _ _)
   have hX5:X.heap[wr.heap.size]?=some (.cells #[.int .i64 (gat l k).port,.slice (gat l k).wo (gat l k).ways.length (gat l k).wcap,.int .i64 (gat l k).plain,.slice (gat l k).oo (gat l k).opens.length (gat l k).ocap] 238):=(by rw[HX.out];exact heap_alloc_last _ _)
   have hbX:Bl w X:=hbel.trans (hXB.mono hbel.size);have hst:((l.take (k+1)).filter p).map (Rl.leave f way)=os.map OV.o++(if p (gat l k)=true then [Rl.leave f way (gat l k)] else []):=by
    rw[Rl.take_succ l k hlt,List.filter_append,List.map_append,hmap];congr 1
    by_cases q:p (gat l k)=true
    ·simp[q]
    ·simp[q]
   have HLX:Hid (Calls Tryz.prog 154 #[.agg #[.int .i64 (gat l k).port,.slice (gat l k).wo (gat l k).ways.length (gat l k).wcap,.int .i64 (gat l k).plain,.slice (gat l k).oo (gat l k).opens.length (gat l k).ocap],.pointer (some ⟨P1,0,none⟩),.pointer (some ⟨P2,0,none⟩),.pointer (some ⟨P3,0,none⟩),.pointer (some ⟨P4,0,none⟩)] X fun e w'=>e=.returned (.bool (p (gat l k)))∧Hid (Bl X w')):=(HL.out X hbX (gat l k) (Rl.gat_mem l k hlt)).mono (fun e w' h=>⟨h.1,h.2⟩);have HCC:Hid (∀W,Bl X W→W.cell? ⟨wr.heap.size,0,none⟩=some (.int .i64 (gat l k).port)∧W.cell? ⟨wr.heap.size,1,none⟩=some (.slice (gat l k).wo (gat l k).ways.length (gat l k).wcap)∧W.cell? ⟨wr.heap.size,2,none⟩=some (.int .i64 (gat l k).plain)∧W.cell? ⟨wr.heap.size,3,none⟩=some (.slice (gat l k).oo (gat l k).opens.length (gat l k).ocap)):=fun W hW=>gt_cells (keep hX5 hW);have HNO:Hid (p (gat l k)=false→∀W,Bl X W→∃os:List OV,os.map OV.o=((l.take (k+1)).filter p).map (Rl.leave f way)∧m=os.length∧OwnO W w.heap.size (.slice a m c) f os∧Bl w W):=fun hp W hW=>⟨os,by rw[hst,if_neg (by simp[hp]),List.append_nil],hm,(hown.below hXB).below hW,hbX.trans (hW.mono hbX.size)⟩
   have hlen:os.length≤l.length:=by
    have h1:os.length=(((l.take k).filter p).map (Rl.leave f way)).length:=(by rw[←hmap,List.length_map])
    rw[h1,List.length_map];exact Nat.le_trans (List.length_filter_le _ _) (by simp;omega)
   have HSX:Hid (∀W,Bl X W→Calls Tryz.prog 197 #[.agg #[.int .i64 (gat l k).port,.slice (gat l k).wo (gat l k).ways.length (gat l k).wcap,.int .i64 (gat l k).plain,.slice (gat l k).oo (gat l k).opens.length (gat l k).ocap],.pointer (some ⟨Bt,0,none⟩),.pointer (some ⟨Bw,0,none⟩),.pointer (some ⟨Bp,0,none⟩),.pointer (some ⟨Bf,0,none⟩)] W fun e w'=>∃da dc,e=.returned (.agg #[.int .u64 f.dst,.int .u64 f.src,.bool (Rl.leave f way (gat l k)).tagged,.int .i64 (Rl.leave f way (gat l k)).prio,.bool (Rl.leave f way (gat l k)).drop,.int .i64 (Rl.leave f way (gat l k)).vid,.int .i64 f.type,.slice da f.n dc])∧Hid (Bl X w')∧(p (gat l k)=true→∃a1 m1 c1 w2,runAppO (.slice a m c) (.slice (some ⟨w'.heap.size,0,none⟩) 1 1) (w'.alloc (.cells #[.int .i64 (gat l k).port,.int .u64 f.dst,.int .u64 f.src,.bool (Rl.leave f way (gat l k)).tagged,.int .i64 (Rl.leave f way (gat l k)).prio,.bool (Rl.leave f way (gat l k)).drop,.int .i64 (Rl.leave f way (gat l k)).vid,.int .i64 f.type,.slice da f.n dc] 191)) (.slice a1 m1 c1) w2∧Hid (∃os:List OV,os.map OV.o=((l.take (k+1)).filter p).map (Rl.leave f way)∧m1=os.length∧OwnO w2 w.heap.size (.slice a1 m1 c1) f os∧Bl w w2)∧Hid (w2.heap[wr.heap.size]?=some (.cells #[.int .i64 (gat l k).port,.slice (gat l k).wo (gat l k).ways.length (gat l k).wcap,.int .i64 (gat l k).plain,.slice (gat l k).oo (gat l k).opens.length (gat l k).ocap] 238))) ):=fun W hW=>by
    have hwW:Bl w W:=hbX.trans (hW.mono hbX.size);refine(HS.out W hwW (gat l k)).mono ?_;rintro e w' ⟨da,dc,rfl,hd,hb⟩;have hw':Bl w w':=hwW.trans (hb.mono hwW.size);have hX':Bl X w':=hW.trans (hb.mono hW.size);refine⟨da,dc,rfl,hX',fun hp => ?_⟩;obtain⟨a1,m1,c1,w2,r,e1,o2,b2,hq⟩:=more_o w.heap.size w' (.slice a m c) f os ⟨Rl.leave f way (gat l k),da,dc⟩ ((hown.below hXB).below hX') (owns_mono hd hwW.size) (by omega) hw'.size;have hpo:(Rl.leave f way (gat l k)).port=(gat l k).port:=Rl.leave_port _ _ _;refine⟨a1,m1,c1,w2,?_,⟨os++[⟨Rl.leave f way (gat l k),da,dc⟩],by rw[hst,if_pos hp,List.map_append];rfl,e1,o2,hw'.trans b2⟩,?_⟩
    ·unfold oA at r;rw[hpo] at r;exact r
    ·exact hq _ _ _ (keep hX5 hX') (by decide)
   obtain⟨d0,d1,d2,d3⟩:=HCC.out X (Below.refl _ _);clear hX hmap hm hown hbel hXB hX5 hbX hst hlen HR HL HS;(go_wp2_with fail);rw[←HX.out];clear c0 c1 c2 c3;cases hp:p (gat l k) with
   | false =>
    rw[hp] at HLX;have HN2:Hid (∀W,Bl X W→∃os:List OV,os.map OV.o=((l.take (k+1)).filter p).map (Rl.leave f way)∧m=os.length∧OwnO W w.heap.size (.slice a m c) f os∧Bl w W):=HNO.out hp;clear HNO HSX HCC hp;generalize gat l k=x at *;go_wp2_with (go_at_call 154;refine HLX.out.mono ?_;rintro e w1 ⟨rfl,HB1⟩;clear d0 d1 d2 d3)
    exact⟨⟨k+1,a,m,c,by omega,by go_num,rfl,HN2.out _ HB1.out⟩,by simp[intOf];omega⟩
   | true =>
    rw[hp] at HLX;have HSY:Hid (∀W,Bl X W→Calls Tryz.prog 197 #[.agg #[.int .i64 (gat l k).port,.slice (gat l k).wo (gat l k).ways.length (gat l k).wcap,.int .i64 (gat l k).plain,.slice (gat l k).oo (gat l k).opens.length (gat l k).ocap],.pointer (some ⟨Bt,0,none⟩),.pointer (some ⟨Bw,0,none⟩),.pointer (some ⟨Bp,0,none⟩),.pointer (some ⟨Bf,0,none⟩)] W fun e w'=>∃da dc a1 m1 c1 w2,e=.returned (.agg #[.int .u64 f.dst,.int .u64 f.src,.bool (Rl.leave f way (gat l k)).tagged,.int .i64 (Rl.leave f way (gat l k)).prio,.bool (Rl.leave f way (gat l k)).drop,.int .i64 (Rl.leave f way (gat l k)).vid,.int .i64 f.type,.slice da f.n dc])∧Hid (Bl X w')∧Hid (runAppO (.slice a m c) (.slice (some ⟨w'.heap.size,0,none⟩) 1 1) (w'.alloc (.cells #[.int .i64 (gat l k).port,.int .u64 f.dst,.int .u64 f.src,.bool (Rl.leave f way (gat l k)).tagged,.int .i64 (Rl.leave f way (gat l k)).prio,.bool (Rl.leave f way (gat l k)).drop,.int .i64 (Rl.leave f way (gat l k)).vid,.int .i64 f.type,.slice da f.n dc] 191)) (.slice a1 m1 c1) w2)∧Hid (∃os:List OV,os.map OV.o=((l.take (k+1)).filter p).map (Rl.leave f way)∧m1=os.length∧OwnO w2 w.heap.size (.slice a1 m1 c1) f os∧Bl w w2)∧Hid (w2.cell? ⟨wr.heap.size,0,none⟩=some (.int .i64 (gat l k).port)∧w2.cell? ⟨wr.heap.size,1,none⟩=some (.slice (gat l k).wo (gat l k).ways.length (gat l k).wcap)∧w2.cell? ⟨wr.heap.size,2,none⟩=some (.int .i64 (gat l k).plain)∧w2.cell? ⟨wr.heap.size,3,none⟩=some (.slice (gat l k).oo (gat l k).opens.length (gat l k).ocap))):=fun W hW=>by
     refine(HSX.out W hW).mono ?_;rintro e w' ⟨da,dc,rfl,h1,h2⟩;obtain⟨a1,m1,c1,w2,r,h3,h4⟩:=h2 hp;exact⟨da,dc,a1,m1,c1,w2,rfl,h1,r,h3,gt_cells h4.out⟩
    clear HNO HSX hp;generalize Rl.leave f way (gat l k)=lv at *;generalize gat l k=x at *;(go_wp2_with fail);refine HLX.out.mono ?_;rintro e w1 ⟨rfl,HB1⟩;obtain⟨u0,u1,u2,u3⟩:=HCC.out w1 HB1.out;clear d0 d1 d2 d3 HLX;(go_wp2_with fail);go_region_held3 (fun W=>W.cell? ⟨wr.heap.size,0,none⟩=some (.int .i64 x.port)∧W.cell? ⟨wr.heap.size,1,none⟩=some (.slice x.wo x.ways.length x.wcap)∧W.cell? ⟨wr.heap.size,2,none⟩=some (.int .i64 x.plain)∧W.cell? ⟨wr.heap.size,3,none⟩=some (.slice x.oo x.opens.length x.ocap))
     (first | (exact HCC.out _ (Hid.out (by assumption))) | (exact HCC.out _ (Below.drew (Hid.out (by assumption)))) | (exact HCC.out _ (below_al (Hid.out (by assumption)) _)) | (exact HE.out))
     (first | (go_at_call 197;refine(HSY.out _ (by first | exact(Hid.out (by assumption)) | exact Below.drew (Hid.out (by assumption)))).mono ?_;rintro e w2 ⟨da,dc,a1,m1,c1,w3,rfl,HB2,HRN,HZ,HE⟩) | ((with_reducible refine step_append_c ?_ (.tmp 19) (.tmp 26) 188 ?_ _ _ _ ?_ ?_ HRN.out ?_);rfl;rfl;rfl;rfl))
    all_goals clear u0 u1 u2 u3 HCC HSY
    (all_goals go_wp2_with fail);all_goals exact⟨⟨k+1,a1,m1,c1,by omega,by go_num,rfl,HZ⟩,by simp[intOf];omega⟩
  ·obtain rfl:k=l.length:=by omega
   have HF:Hid (os.map OV.o=(l.filter p).map (Rl.leave f way)∧OwnO wr w.heap.size (.slice a m c) f os∧Bl w wr):=by
    rw[List.take_length] at hmap;exact⟨hmap,hown,hbel⟩
   clear hX HR HL HS hmap hown hbel;(go_wp2_with fail);go_ret;exact⟨_,os,rfl,HF.out.1,HF.out.2.1,HF.out.2.2⟩
end
section
open Go.RowKit
open Bk (E at')
abbrev runAppE (s x:Value) (w:World) (r:Value) (w':World):Prop:=(Builtin.append_ #[186,186] 186 #[s,x]).run Tryz.prog w=.ok r w'
theorem make_roomE (w:World) (c:Nat) (hc:c≤100000):∃cs:Array Value,cs.size=c*4∧(Instr.makeSlice 186 (.int .i64 0) (.int .i64 (c:Int))).run Tryz.prog w=.ok (.slice (some ⟨w.heap.size,0,none⟩) 0 c) (w.alloc (.cells cs 291)):=by
 obtain⟨i0,hi,hz0,hz1,hz2⟩:=info_parts infoEy;have h:=run_make (P:=Tryz.prog) w 186 291 i0 (.agg (eA Bk.e0)) Tryz.underlying186 hi hz0 .i64 .i64 0 (c:Int) (by omega) (by omega) (by rw[hz2];omega) (by omega);rw[hz1,Int.toNat_natCast] at h;exact⟨_,by simp[madeCells],h⟩
theorem own_room {w:World}{g c base:Nat}{cs:Array Value}(h:w.heap[g]?=some (.cells cs 291)) (hs:cs.size=c*4) (hb:base≤g) (hc:c≤100000):OwnE w base (.slice (some ⟨g,0,none⟩) 0 c) [] :=
 ⟨by simp[cellsL],Or.inr ⟨g,c,cs,rfl,hb,h,Nat.zero_le _,by unfold maxLen;omega,hs,by simp[cellsL]⟩⟩
theorem learn_app (w W:World) (hW:Bl w W) (sV:Array Value) (x0:E) (hs0:sV=eA x0) (hs:W.heap[w.heap.size]?=some (.cells sV 291)) (ao1:Option Addr) (cp1:Nat) (l1:List E) (n1:Nat) (e1:n1=l1.length) (h1:BEL w ao1 cp1 l1) (k1:NilOk ao1 n1 cp1) (ao2:Option Addr) (cp2:Nat) (l2:List E) (n2:Nat) (e2:n2=l2.length) (h2:BEL w ao2 cp2 l2) (k2:NilOk ao2 n2 cp2) (hb:n1+n2≤100) (c:Nat) (hc:c≤1000) :
  ∃cs a1 c1 X a2 c2 Y a3 c3 Z,(Instr.makeSlice 186 (.int .i64 0) (.int .i64 (c:Int))).run Tryz.prog W=.ok (.slice (some ⟨W.heap.size,0,none⟩) 0 c) (W.alloc (.cells cs 291)) ∧
   runAppE (.slice (some ⟨W.heap.size,0,none⟩) 0 c) (.slice ao1 n1 cp1) (W.alloc (.cells cs 291)) (.slice a1 n1 c1) X ∧
   runAppE (.slice a1 n1 c1) (.slice (some ⟨X.heap.size,0,none⟩) 1 1) (X.alloc (.cells sV 291)) (.slice a2 (n1+1) c2) Y ∧
   runAppE (.slice a2 (n1+1) c2) (.slice ao2 n2 cp2) Y (.slice a3 (n1+1+n2) c3) Z ∧
   X.heap[w.heap.size]?=some (.cells sV 291)∧OwnE Z w.heap.size (.slice a3 (n1+1+n2) c3) (l1++x0 :: l2)∧Bl w Z:=by
 obtain⟨cs,hcs,hmk⟩:=make_roomE W c (by omega);have hWa:Bl w (W.alloc (.cells cs 291)):=hW.alloc hW.size _;have hlt:w.heap.size<W.heap.size:=(gSm.1 hs).1;obtain⟨a1,c1,X,r1,o1,b1,q1⟩:=append_e (W.alloc (.cells cs 291)) w.heap.size _ [] (own_room (heap_alloc_last W _) hcs (Nat.le_of_lt hlt) (by omega)) ao1 cp1 l1 n1 e1 (BEL.below h1 hWa) k1 (by simp;omega) hWa.size;rw[List.nil_append,←e1] at r1 o1;have hX:Bl w X:=hWa.trans b1;have hXs:X.heap[w.heap.size]?=some (.cells sV 291):=(q1 _ (by simp;omega) (by simp[Value.ownBlock];omega)).trans (keep hs (bA1 W _));obtain⟨a2,c2,Y,r2,o2,b2,_⟩:=append_e (X.alloc (.cells sV 291)) w.heap.size _ l1 (OwnE.below o1 (bA1 X _)) (some ⟨X.heap.size,0,none⟩) 1 [x0] 1 rfl (one_entry (by rw[hs0];exact heap_alloc_last X _)) (fun h=>by cases h) (by omega) (by have:=hX.size;simp;omega);have hY:Bl w Y:=(hX.alloc hX.size _).trans b2;have e3:(l1++[x0]).length=n1+1:=(by simp[e1])
 rw[e3] at r2 o2;obtain⟨a3,c3,Z,r3,o3,b3,_⟩:=append_e Y w.heap.size _ (l1++[x0]) (by unfold OwnE;rw[e3];unfold OwnE at o2;rw[e3] at o2;exact o2) ao2 cp2 l2 n2 e2 (BEL.below h2 hY) k2 (by rw[e3];omega) hY.size;have e4:(l1++[x0]++l2).length=n1+1+n2:=(by simp[e1,e2];omega)
 rw[e4] at r3 o3;rw[List.append_assoc,List.singleton_append] at o3;exact⟨cs,a1,c1,X,a2,c2,Y,a3,c3,Z,hmk,r1,r2,r3,hXs,o3,hY.trans b3⟩
theorem learn_app0 (w W:World) (hW:Bl w W) (sV:Array Value) (x0:E) (hs0:sV=eA x0) (hs:W.heap[w.heap.size]?=some (.cells sV 291)) :
  ∃cs a2 c2 Y,(Instr.makeSlice 186 (.int .i64 0) (.int .i64 1)).run Tryz.prog W=.ok (.slice (some ⟨W.heap.size,0,none⟩) 0 1) (W.alloc (.cells cs 291)) ∧
   runAppE (.slice (some ⟨W.heap.size,0,none⟩) 0 1) (.slice (some ⟨W.heap.size+1,0,none⟩) 1 1) ((W.alloc (.cells cs 291)).alloc (.cells sV 291)) (.slice a2 1 c2) Y∧runAppE (.slice a2 1 c2) (.slice none 0 0) Y (.slice a2 1 c2) Y ∧
   (W.alloc (.cells cs 291)).heap[w.heap.size]?=some (.cells sV 291)∧OwnE Y w.heap.size (.slice a2 1 c2) [x0]∧Bl w Y:=by
 obtain⟨cs,hcs,hmk⟩:=make_roomE W 1 (by omega);have hWa:Bl w (W.alloc (.cells cs 291)):=hW.alloc hW.size _;have hlt:w.heap.size<W.heap.size:=(gSm.1 hs).1;have hXs:(W.alloc (.cells cs 291)).heap[w.heap.size]?=some (.cells sV 291):=keep hs (bA1 W _);have hy:((W.alloc (.cells cs 291)).alloc (.cells sV 291)).heap[W.heap.size+1]?=some (.cells sV 291):=heap_alloc2_new W _ _;have hWb:Bl w ((W.alloc (.cells cs 291)).alloc (.cells sV 291)):=hWa.alloc hWa.size _;obtain⟨a2,c2,Y,r2,o2,b2,_⟩:=append_e ((W.alloc (.cells cs 291)).alloc (.cells sV 291)) w.heap.size _ [] (own_room (heap_alloc2_old W _ _) hcs (Nat.le_of_lt hlt) (by omega)) (some ⟨W.heap.size+1,0,none⟩) 1 [x0] 1 rfl (one_entry (by rw[←hs0];exact hy)) (fun h=>by cases h) (by simp) hWb.size;obtain⟨i0,hi,_,_,_⟩:=info_parts infoEy;exact⟨cs,a2,c2,Y,hmk,r2,run_append_owned_none (P:=Tryz.prog) (w:=Y) w.heap.size 186 186 291 i0 4 Tryz.underlying186 hi _ _ _ o2,hXs,o2,hWb.trans b2⟩
theorem BEL.dropZ {w:World}{ao:Option Addr}{cap:Nat}{l:List E}{k:Nat}(h:l.length≤k):BEL w ao cap (l.drop k):=by
 rw[List.drop_eq_nil_of_le h];exact CRow.none _ _ _ _ _
theorem BEL.dropA {w:World}{ad:Addr}{cap:Nat}{l:List E}(h:BEL w (.some ad) cap l) (k:Nat) (hk:k≤l.length):BEL w (.some (ad.add (k*4))) (cap-k) (l.drop k):=by
 by_cases e:l.length≤k
 ·exact BEL.dropZ e
 ·obtain⟨b,off,ea,_⟩:=h.place (by omega);cases ea
  rw[add_row];exact h.drop k hk
end
end Go.Proofs.YtflghpnpjmodaaaGreatDoor
