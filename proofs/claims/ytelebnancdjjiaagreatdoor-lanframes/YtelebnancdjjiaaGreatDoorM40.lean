/- 'hedgelaw10.LanFrames' returns true for every net, every number of trees, whatever is done, all books, every two numbers and every frame, and leaves it as it was: the row and its tied card. Conditions: none beyond the form's own (the tables lie as the program's text lays them: the card's tie). -/
import Derived.Test.YtelebnancdjjiaaGreatDoorM38
import Derived.Test.YtelebnancdjjiaaGreatDoorM39
import Derived.Test.YtelebnancdjjiaaGreatDoorCards
import Derived.Test.YtelebnancdjjiaaGreatDoorTie
import Derived.Test.YtelebnancdjjiaaGreatDoorM08
import Derived.Test.YtelebnancdjjiaaGreatDoorM23
import Derived.Test.YtelebnancdjjiaaGreatDoorM07
import Derived.Test.YtelebnancdjjiaaGreatDoorM31
set_option maxRecDepth 100000
set_option maxHeartbeats 6000000
namespace Go.Proofs.YtelebnancdjjiaaGreatDoor
section
open Go.RowKit
open Vc (V Of)
open Pl (Br Net Pc Lk En St)
open Bk (E at')
open Rl (F O)
open Tk (Md Mnd Cn Sc Dn)
structure LnIn (w:World) (n:Net) (dao:Option Addr) (dn dcap:Nat) (ds:Nat→Dn) (ko:Option Addr) (B kcap:Nat) (bks:Nat→List E) (bo:Nat→Option Addr) (bc:Nat→Nat) (f:F):Prop where
 wf:n.Wf
 net:n.at' w
 many:dn≤9223372036854775807
 dos:DRow w dao dn dcap ds
 bmany:B≤9223372036854775807
 books:BIn w ko B kcap bks bo bc
 data:ByteRow w f.ao f.n f.cap f.bs
 nil:NilOk f.ao f.n f.cap
 dst:0≤f.dst∧f.dst<18446744073709551616
 src:0≤f.src∧f.src<18446744073709551616
 tabs:Tabs w
 top:2≤w.heap.size
theorem LnIn.below {w W:World}{n:Net}{dao:Option Addr}{dn dcap:Nat}{ds:Nat→Dn}{ko:Option Addr}{B kcap:Nat}{bks:Nat→List E}{bo:Nat→Option Addr}{bc:Nat→Nat}{f:F}(h:LnIn w n dao dn dcap ds ko B kcap bks bo bc f) (hb:Bl w W):LnIn W n dao dn dcap ds ko B kcap bks bo bc f :=
 ⟨h.wf,h.net.below hb,h.many,CRow.below h.dos hb,h.bmany,h.books.below hb,h.data.below hb,h.nil,h.dst,h.src,h.tabs.below hb h.top,Nat.le_trans h.top hb.size⟩
theorem tree_pos {vs ts:Nat→Int}{v:Int}:∀{n:Nat},Rg.Right vs ts n→0≤Rg.tree vs ts v n
 | 0,_=>Int.le_refl _
 | n+1,h=>by
  have h1:=tree_pos (v:=v) (n:=n) ⟨fun i hi=>h.vid i (by omega),fun i hi=>h.tree i (by omega),fun i j hij hj=>h.less i j hij (by omega)⟩;have h2:=(h.tree n (by omega)).1;show 0≤if vs n=v then ts n else Rg.tree vs ts v n
  split
  ·omega
  ·exact h1
structure FrG (Z w:World) (f:F) (K:Nat) (so:Option Addr) (sc:Nat) (ss:List AV) (gk:Nat) (ko:Option Addr) (kcap:Nat) (bks:Nat→List E) (bo:Nat→Option Addr) (bc:Nat→Nat) (nb:Nat→List E) (bo':Nat→Option Addr) (bc':Nat→Nat):Prop where
 keep:∀V,Bl Z V→CRow V so ss.length sc 9 (fun i=>sC f (aat ss i))∧(∀i,i<ss.length→ByteRow V (aat ss i).v.da f.n (aat ss i).v.dc f.bs∧NilOk (aat ss i).v.da f.n (aat ss i).v.dc)∧V.heap[w.heap.size+1]?=some (.cells #[.int .u64 f.dst,.int .u64 f.src,.bool false,.int .i64 f.prio,.bool f.drop,.int .i64 f.vid,.int .i64 f.type,.slice f.ao f.n f.cap] 31)∧ByteRow V f.ao f.n f.cap f.bs∧BkW V gk K nb bo' bc'∧BIn V ko K kcap bks bo bc∧Bl w V
 lv:∀i,i<ss.length→(aat ss i).v.o=Ln.lv 0 0
 nil:NilOk f.ao f.n f.cap
 few:ss.length≤9223372036854775807
 books:∀i,i<K→(Bk.Book (bks i)→Bk.Book (nb i))∧(¬Bk.Book (bks i)→nb i=bks i)
 fewK:K≤12
theorem lframes_any (n:Net) (trees:Int) (dao:Option Addr) (dn dcap:Nat) (ds:Nat→Dn) (ko:Option Addr) (B kcap:Nat) (bks:Nat→List E) (bo:Nat→Option Addr) (bc:Nat→Nat) (from' vid:Int) (f:F) (w:World) (h:LnIn w n dao dn dcap ds ko B kcap bks bo bc f) :
  Calls Tryz.prog 8 #[n.val,.int .i64 trees,.slice dao dn dcap,.slice ko B kcap,.int .i64 from',.int .i64 vid,.agg (frA f)] w fun e w'=>e=.returned (.bool true)∧Bl w w':=by
 obtain⟨X,HX⟩:∃X,Hid (X=(w.alloc (.cells #[.slice n.bao n.K n.bcap,.slice n.lao n.L n.lcap] 25)).alloc (.cells (frA f) 31)):=⟨_,rfl⟩
 have hXB:Bl w X:=(by rw[HX.out];exact bA2 _ _ _)
 have hX0:X.heap[w.heap.size]?=some (.cells #[.slice n.bao n.K n.bcap,.slice n.lao n.L n.lcap] 25):=(by rw[HX.out];exact heap_alloc2_old _ _ _)
 have hX1:X.heap[w.heap.size+1]?=some (.cells (frA f) 31):=(by rw[HX.out];exact heap_alloc2_new _ _ _)
 have HI:Hid (∀V,Bl X V→LnIn V n dao dn dcap ds ko B kcap bks bo bc f∧V.heap[w.heap.size]?=some (.cells #[.slice n.bao n.K n.bcap,.slice n.lao n.L n.lcap] 25)∧V.heap[w.heap.size+1]?=some (.cells (frA f) 31)∧Bl w V):=fun V hV=>by
  have hb:=hXB.trans (hV.mono hXB.size);exact⟨h.below hb,keep hX0 hV,keep hX1 hV,hb⟩
 have HAL:Hid (Calls Tryz.prog 14 #[] X fun e w'=>e=.returned (.bool true)∧Bl X w'):=l10alive_any X (HI.out X (Below.refl _ _)).1.tabs (HI.out X (Below.refl _ _)).1.top;clear h hXB hX0 hX1;unfold frA at HX HI;unfold frA Pl.Net.val;go_enter Tryz.func8,Tryz.ntmps8;(go_wp2_with fail);rw[←HX.out];refine HAL.out.mono ?_;rintro e w1 ⟨rfl,HB1⟩;have H1:Hid (Bl X w1):=HB1;obtain⟨l1,x0,x1,_⟩:=HI.out w1 HB1;obtain⟨a0,a1⟩:=tC2 x0;have HP:Hid (Calls Tryz.prog 19 #[.agg #[.slice n.bao n.K n.bcap,.slice n.lao n.L n.lcap],.int .i64 trees,.slice dao dn dcap] w1 fun e w'=>∃na nk nc la lk lc oa ol oc f1 f2,e=.returned (.tuple #[.agg #[.slice na nk nc,.slice la lk lc],.agg #[.slice oa ol oc],.agg #[.int .i64 f1,.int .i64 f2]])∧Hid (Bl w1 w'∧PlF w1 w' n trees ds dn na nk nc la lk lc oa ol oc f1 f2)):=tplay_flat n trees dao dn dcap ds w1 l1.wf l1.net l1.many l1.dos l1.tabs l1.top;clear HAL HB1 l1 x0 x1;(go_wp2_with fail);refine HP.out.mono ?_;rintro e w2 ⟨na,nk,nc,la,lk,lc,oa,ol,oc,f1,f2,rfl,H2⟩;clear HP a0 a1;obtain⟨Z,HZ⟩:∃Z,Hid (Z=((w2.alloc (.cells #[.slice na nk nc,.slice la lk lc] 25)).alloc (.cells #[.slice oa ol oc] 34)).alloc (.cells #[.int .i64 f1,.int .i64 f2] 37)):=⟨_,rfl⟩
 have h3:=alloc3 w2 (.cells #[.slice na nk nc,.slice la lk lc] 25) (.cells #[.slice oa ol oc] 34) (.cells #[.int .i64 f1,.int .i64 f2] 37);rw[←HZ.out] at h3;obtain⟨y0,y1,y2,y3⟩:=h3;obtain⟨G,HG⟩:∃G,Hid (G=w2.heap.size):=⟨_,rfl⟩
 rw[←HG.out] at y0 y1 y2;have hX2:Bl X w2:=H1.out.trans (H2.out.1.mono H1.out.size);have hXZ:Bl X Z:=hX2.trans (y3.mono hX2.size);have HXZ:Hid (Bl X Z):=hXZ;obtain⟨b0,b1⟩:=tC2 y0;have b2:=cell_of_row _ _ 0 _ _ _ y1;obtain⟨b3,b4⟩:=tC2 y2;have HGW:Hid (w.heap.size≤G):=by
  rw[HG.out];exact(HI.out w2 hX2).2.2.2.size
 rcases H2.out.2 with⟨q,⟨ef1,ef2⟩,⟨rfl,rfl,rfl⟩,⟨rfl,rfl,rfl⟩,rfl,rfl,rfl⟩ | ⟨q,⟨rfl,rfl⟩,n',t',⟨rfl,rfl,rfl⟩,⟨rfl,rfl,rfl⟩,rfl,bb,hVb,hK⟩
 ·have HBW:Hid (Bl w Z):=(HI.out Z hXZ).2.2.2;have hf1:f1≠0:=(by rw[ef1];exact q)
  clear HI H1 H2 y0 y1 y2 y3 hX2 hXZ b0 b1 b2 ef1 ef2 q;(go_upto_region 4 with fail);rw[←HZ.out,←HG.out];(go_wp2_with fail);go_ret;exact⟨rfl,HBW.out⟩
 ·obtain⟨⟨p1,p2⟩,p3,p4⟩:=plErr_zero q;have hS:SnOut Z n trees.toNat ((n.sc (startMs n)).all n.cn ds dn) n' oa oc t':=hK.here.below y3;have hl:=(HI.out Z hXZ).1;have hse:=ln_sent hS hl.wf p1 p4 (by omega) hl.tabs hl.top;have hfr:=(HI.out Z hXZ).2.2.1;obtain⟨g0,g1,g2,g3,g4,g5,g6,g7⟩:=fr_cells hfr;have HSD:Hid (Calls Tryz.prog 10 #[.agg #[.slice n'.bao n'.K n'.bcap,.slice n'.lao n'.L n'.lcap],.agg #[.slice oa t'.length oc],.slice ko B kcap,.int .i64 from',.int .i64 vid,.agg #[.int .u64 f.dst,.int .u64 f.src,.bool f.tagged,.int .i64 f.prio,.bool f.drop,.int .i64 f.vid,.int .i64 f.type,.slice f.ao f.n f.cap]] Z fun e w'=>Hid (SdOut Z n' t' vid f B bks from' e w')):=(jsend_any n' oa oc t' ko B kcap bks bo bc from' vid f Z hS.wf hS.net hS.row hse.calm hl.tabs hl.top hl.bmany hl.books hl.data hl.nil hl.dst hl.src).mono (fun e w' h=>h);have HN2:Hid (n'.at' w2∧Bl w2 Z∧w2.heap.size=G):=⟨hK.here.net,y3,HG.out.symm⟩
  have HSN:Hid (SnOut Z n trees.toNat ((n.sc (startMs n)).all n.cn ds dn) n' oa oc t'∧n.Wf∧n.wrong.1=0∧∀k,k<dn→Tk.errOf n.cn (ds k)=0):=⟨hS,hl.wf,p1,p4⟩
  have HY2:Hid (Z.heap[G+1+1]?=some (.cells #[.int .i64 0,.int .i64 0] 37)∧Z.heap[G]?=some (.cells #[.slice n'.bao n'.K n'.bcap,.slice n'.lao n'.L n'.lcap] 25)):=⟨y2,y0⟩
  have HX2:Hid (Bl X w2):=hX2;clear H1 H2 y0 y1 y2 y3 hX2 hXZ hVb hK q hS hl hse hfr p1 p2 p3 p4;(go_upto_region 4 with fail);rw[←HZ.out,←HG.out];(go_wp2_with fail);refine HSD.out.mono ?_;rintro e w3 H3;have hb3:Bl Z w3:=H3.out.1;have k2:=keep HY2.out.1 hb3;obtain⟨c0,c1⟩:=tC2 k2;have c2:=lF0 k2 0;have c3:=lF0 k2 1;have hwZ3:Bl w w3:=(HI.out w3 (HXZ.out.trans (hb3.mono HXZ.out.size))).2.2.2;have HW3:Hid (Bl w w3):=hwZ3;have hGW2:w.heap.size≤G+1+1:=(by have:=HGW.out;omega)
  have hNIL:(∃E1 E2,e=.returned (.tuple #[.slice none 0 0,.slice none 0 0,.bool false,.agg #[.int .i64 E1,.int .i64 E2]]))∨∃(so:Option Addr) (sc:Nat) (ss:List AV) (gk:Nat),e=.returned (.tuple #[.slice so ss.length sc,.slice (some ⟨gk,0,none⟩) n'.K n'.K,.bool true,.agg #[.int .i64 0,.int .i64 0]])∧∃bo' bc' i0,B=n'.K∧f.tagged=false∧i0<n'.K∧(sent n' t' vid f bks i0).err=0∧Ln.Hs n' t' vid f∧SdIs Z w3 n'.K f (sent n' t' vid f bks i0) so sc ss gk bo' bc':=by
   obtain⟨_,⟨_,rfl⟩ | ⟨hz,⟨_,rfl⟩ | ⟨hrr,_,so,sc,ss,gk,bo',bc',rfl,hI⟩⟩⟩:=H3.out
   ·exact Or.inl ⟨_,_,rfl⟩
   ·exact Or.inl ⟨_,_,rfl⟩
   ·obtain⟨_,z1,z2,⟨e3,e4⟩,z5,z6,z7,z8⟩:=sErr_zero hz;refine Or.inr ⟨so,sc,ss,gk,rfl,bo',bc',from'.toNat,z2,z6,by omega,hrr,?_,hI⟩;have hsn:=HSN.out.1;have hR:=right_of hsn.wf hsn.right;refine⟨hR,?_,z5,fun i hi=>⟨tree_pos (hR.fine i hi).reg.2.2,?_⟩,by rw[z6] at z7;exact z7⟩
    ·have:=wrT_zero (onErr_zero z1).1;exact(fit_iff.1 this.2.2.1).1.2
    ·have h9:¬∃i,i<n'.K∧strayB (n'.bs i) vid t'.length=true:=of_decide_eq_false z8;have h8:¬strayB (n'.bs i) vid t'.length=true:=fun q=>h9 ⟨i,hi,q⟩;unfold strayB at h8;have h7:=of_decide_eq_false (by simpa using h8:decide ((t'.length:Int)≤_)=false);unfold Ln.tr;omega
  clear H3 HSD hwZ3 b0 b1 b2 b3 b4 g0 g1 g2 g3 g4 g5 g6 g7;rcases hNIL with⟨E1,E2,rfl⟩ | ⟨so,sc,ss,gk,rfl,bo',bc',i0,rfl,hft,hiK,hrr,hHs,hIs⟩
  ·clear HI HSN HY2 HN2 hb3 k2 HXZ;by_cases hE:E1=0
   ·subst hE;(go_wp2_with fail);go_ret;exact⟨rfl,(HW3.out.setCell hGW2 _).setCell hGW2 _⟩
   ·(go_wp2_with fail);go_ret;exact⟨rfl,(HW3.out.setCell hGW2 _).setCell hGW2 _⟩
  ·obtain⟨L,hL⟩:∃L,L=ss.length:=⟨_,rfl⟩
   obtain⟨Z3,HZ3⟩:∃Z3,Hid (Z3=(w3.setCell ⟨G+1+1,0,none⟩ (.int .i64 0)).setCell ⟨G+1+1,1,none⟩ (.int .i64 0)):=⟨_,rfl⟩
   have hgd:=Ln.sent_good hHs hft hiK hrr;have hty:=set2_ty (a:=.int .i64 0) (b:=.int .i64 0) k2;rw[←HZ3.out] at hty;have hrow:=(hty _ (by decide)).owns hIs.row;obtain⟨ao,cap,ee,hc,_,_⟩:=owns_c (by omega) hrow;injection ee with ee1 _ ee2;subst ee1 ee2;have hXG:X.heap.size≤G+1+1:=by
    obtain⟨_,z2,z3⟩:=HN2.out;have:=HX2.out.size;omega
   have hXw3:Bl X w3:=HXZ.out.trans (hb3.mono HXZ.out.size);have hXZ3:Bl X Z3:=(by rw[HZ3.out];exact(hXw3.setCell hXG _).setCell hXG _)
   have hbk:=(hIs.books.ty (hty _ (by decide)) (hty _ (by decide))).bk;have hdt:∀i,i<ss.length→Dt Z3 Z.heap.size f (aat ss i).v:=fun i hi=>by
    refine(hty _ (by decide)).dt (hIs.data _ ?_);unfold aat;rw[List.getD_eq_getElem?_getD,List.getElem?_eq_getElem hi];exact List.getElem_mem hi
   have HSG:Hid (FrG Z3 w f n'.K so sc ss gk ko kcap bks bo bc (sent n' t' vid f bks i0).books bo' bc'):=by
    refine⟨fun V hV => ?_,fun i hi => ?_,(HI.out Z3 hXZ3).1.nil,owns_few hrow,hgd.books,hHs.right.few⟩
    ·obtain⟨q1,_,q3,q4⟩:=HI.out V (hXZ3.trans (hV.mono hXZ3.size));have q3':=q3;rw[hft] at q3';exact⟨CRow.below hc hV,fun i hi=>((Ty.below _ hV).dt (hdt i hi)).row q1.data q1.nil,q3',q1.data,hbk.below hV,q1.books,q4⟩
    ·have hm:(aat ss i).p∈(sent n' t' vid f bks i0).seen:=by
      rw[←hIs.map];refine List.mem_map.2 ⟨aat ss i,?_,rfl⟩;unfold aat;rw[List.getD_eq_getElem?_getD,List.getElem?_eq_getElem hi];exact List.getElem_mem hi
     have:=hgd.seen _ hm;exact this
   have hLf:=HSG.out.few;have hK12:=HSG.out.fewK;rw[←hL] at hLf ⊢;have HL:Hid (L=ss.length):=hL;have hcap:n'.K≤kcap:=(HSG.out.keep Z3 (Below.refl _ _)).2.2.2.2.2.1.row.1;have hKp:0<n'.K:=(by omega)
   clear HI HSN HY2 HN2 hb3 k2 HXZ HX2 hIs hL hgd hty hrow hc hXG hXw3 hXZ3 hbk hdt hHs hrr hiK hft;(go_wp2_with fail);rw[←HZ3.out];go_loopw [66] (fun i wr=>∃j:Nat,j≤L∧i=.int .i64 j∧Hid (Bl Z3 wr)) (fun i _=>L-(intOf i).toNat)
   case atStart=>exact⟨0,by omega,rfl,Below.refl _ _⟩
   case round =>
    obtain⟨j,hj,rfl,hB⟩:=hrel;by_cases hlt:j<L
    ·have hlt2:j<ss.length:=(by rw[←HL.out];exact hlt)
     obtain⟨hr,hdat,hfb,hfd,_⟩:=HSG.out.keep wr hB.out;obtain⟨gb,off,rfl,_,hcc⟩:=hr.2 (by omega);have hlv:=HSG.out.lv j hlt2;have hsc2:L≤sc:=(by rw[HL.out];exact hr.1)
     obtain⟨x,hx⟩:∃x,x=aat ss j:=⟨_,rfl⟩
     rw[←hx] at hlv;obtain⟨hd1,hd2⟩:=hdat j hlt2;rw[←hx] at hd1 hd2;have d0:wr.cell? ⟨gb,off+j*9,none⟩=some (.int .i64 (x.i:Int)):=(by rw[hx];exact hcc j hlt2 0 (by omega))
     have d1:wr.cell? ⟨gb,off+j*9+1,none⟩=some (.int .u64 f.dst):=hcc j hlt2 1 (by omega);have d2:wr.cell? ⟨gb,off+j*9+2,none⟩=some (.int .u64 f.src):=hcc j hlt2 2 (by omega);have d3:wr.cell? ⟨gb,off+j*9+3,none⟩=some (.bool x.v.o.tagged):=(by rw[hx];exact hcc j hlt2 3 (by omega))
     have d4:wr.cell? ⟨gb,off+j*9+4,none⟩=some (.int .i64 x.v.o.prio):=(by rw[hx];exact hcc j hlt2 4 (by omega))
     have d5:wr.cell? ⟨gb,off+j*9+5,none⟩=some (.bool x.v.o.drop):=(by rw[hx];exact hcc j hlt2 5 (by omega))
     have d6:wr.cell? ⟨gb,off+j*9+6,none⟩=some (.int .i64 x.v.o.vid):=(by rw[hx];exact hcc j hlt2 6 (by omega))
     have d7:wr.cell? ⟨gb,off+j*9+7,none⟩=some (.int .i64 f.type):=hcc j hlt2 7 (by omega);have d8:wr.cell? ⟨gb,off+j*9+8,none⟩=some (.slice x.v.da f.n x.v.dc):=(by rw[hx];exact hcc j hlt2 8 (by omega))
     rw[hlv] at d3 d4 d5 d6;obtain⟨⟨xi,⟨xo,xa,xc⟩⟩,hxx⟩:∃y,y=x:=⟨_,rfl⟩
     subst hxx;simp only[Ln.lv,if_true] at d0 d3 d4 d5 d6 d8 hd1 hd2;obtain⟨Y,HY⟩:∃Y,Hid (Y=wr.alloc (.cells #[.int .i64 (xi:Int),.int .u64 f.dst,.int .u64 f.src,.bool false,.int .i64 0,.bool false,.int .i64 0,.int .i64 f.type,.slice xa f.n xc] 54)):=⟨_,rfl⟩
     have hYB:Bl wr Y:=(by rw[HY.out];exact bA1 _ _)
     have hZY:Bl Z3 Y:=hB.out.trans (hYB.mono hB.out.size);obtain⟨_,_,hfY,hfdY,_⟩:=HSG.out.keep Y hZY;have HSM:Hid (Calls Tryz.prog 17 #[.agg #[.int .u64 f.dst,.int .u64 f.src,.bool false,.int .i64 0,.bool false,.int .i64 0,.int .i64 f.type,.slice xa f.n xc],.agg #[.int .u64 f.dst,.int .u64 f.src,.bool false,.int .i64 f.prio,.bool f.drop,.int .i64 f.vid,.int .i64 f.type,.slice f.ao f.n f.cap]] Y fun e w'=>e=.returned (.bool true)∧Hid (Bl Y w')):=(same_any f.dst f.src false 0 false 0 f.type f.prio f.drop f.vid xa f.ao f.n xc f.cap f.bs f.bs Y (fun q=>by cases q) (hd1.below hYB) hd2 hfdY HSG.out.nil (fun _ _=>rfl)).mono (fun e w' h=>⟨h.1,h.2⟩);have HZY:Hid (Bl Z3 Y):=hZY;obtain⟨e0,e1,e2,e3,e4,e5,e6,e7⟩:=fr_cells hfY;rw[HY.out] at e0 e1 e2 e3 e4 e5 e6 e7;have ik:(0:Int)≤(j:Int):=(by omega)
     have nk:(j:Int)<(L:Int):=(by omega)
     have wj:IntKind.i64.wrap ((j:Int)+1)=((j+1:Nat):Int):=(by rw[IntKind.wrap_i64];omega)
     clear hr hcc hdat hfb hfd hx hlv hB hYB hZY HSG hlt2 hfY hfdY hd1 hd2;(go_wp2_with fail);rw[←HY.out];refine HSM.out.mono ?_;rintro e w5 ⟨rfl,HB5⟩;clear HSM;(go_wp2_with fail);exact⟨⟨j+1,by omega,by go_num,HZY.out.trans (HB5.out.mono HZY.out.size)⟩,by simp[intOf];omega⟩
    ·obtain rfl:j=L:=by omega
     have hi:¬(j:Int)<(j:Int):=(by omega)
     (go_wp2_with fail);go_loopw [83] (fun i wr=>∃j:Nat,j≤n'.K∧i=.int .i64 j∧Hid (Bl Z3 wr)) (fun i _=>n'.K-(intOf i).toNat)
     case atStart=>exact⟨0,by omega,rfl,hB⟩
     case round =>
      clear hB hi;obtain⟨j,hj,rfl,hB⟩:=hrel;by_cases hlt:j<n'.K
      ·obtain⟨kb,koff,ek,_⟩:=CRow.some (HSG.out.keep wr hB.out).2.2.2.2.2.1.row hKp;obtain⟨RB,hRB⟩:∃RB,RB=(sent n' t' vid f bks i0).books:=⟨_,rfl⟩
       rw[←hRB] at HSG;have HCC:Hid (∀V,Bl Z3 V→V.cell? ⟨kb,koff+j,none⟩=some (.slice (bo j) (bks j).length (bc j))∧V.cell? ⟨gk,j,none⟩=some (.slice (bo' j) (RB j).length (bc' j))):=fun V hV=>by
        obtain⟨_,_,_,_,hbw,hbi,_⟩:=HSG.out.keep V hV;have h1:=hbi.row;rw[ek] at h1;obtain⟨_,_,e',_,hcc⟩:=h1.2 hKp;cases e'
        have c0:=hcc j hlt 0 (by omega);rw[show koff+j*1+0=koff+j by omega] at c0;exact⟨c0,(hbw.cell hlt).1⟩
       have HW1:Hid (∀V,Bl Z3 V→Calls Tryz.prog 21 #[.slice (bo j) (bks j).length (bc j)] V fun e w'=>e=.returned (.agg #[.int .i64 (Bk.wrong (at' (bks j)) (bks j).length).1,.int .i64 (Bk.wrong (at' (bks j)) (bks j).length).2])∧Bl V w'):=fun V hV=>by
        obtain⟨_,_,_,_,_,hbi,_⟩:=HSG.out.keep V hV;obtain⟨z1,z2,z3⟩:=hbi.each j hlt;exact(rwrong8_any (bo j) (bc j) (bks j) V (by omega) z1).mono (fun e w' h=>⟨h.1,h.2⟩)
       have HW2:Hid (∀V,Bl Z3 V→Calls Tryz.prog 21 #[.slice (bo' j) (RB j).length (bc' j)] V fun e w'=>e=.returned (.agg #[.int .i64 (Bk.wrong (at' (RB j)) (RB j).length).1,.int .i64 (Bk.wrong (at' (RB j)) (RB j).length).2])∧Bl V w'):=fun V hV=>by
        obtain⟨_,_,_,_,hbw,_,_⟩:=HSG.out.keep V hV;obtain⟨z1,z2,z3⟩:=hbw.each j hlt;exact(rwrong8_any (bo' j) (bc' j) (RB j) V z3 z1).mono (fun e w' h=>⟨h.1,h.2⟩)
       have HSA:Hid (RB j=bks j→∀V,Bl Z3 V→Calls Tryz.prog 22 #[.slice (bo' j) (RB j).length (bc' j),.slice (bo j) (bks j).length (bc j)] V fun e w'=>e=.returned (.bool true)∧Bl V w'):=fun he V hV=>by
        obtain⟨_,_,_,_,hbw,hbi,_⟩:=HSG.out.keep V hV;obtain⟨z1,z2,z3⟩:=hbi.each j hlt;obtain⟨y1,y2,y3⟩:=hbw.each j hlt;exact(rsame8_yes (bo' j) (bc' j) (bo j) (bc j) _ _ (RB j) (bks j) V rfl rfl he y3 y1 z1).mono (fun e w' h=>⟨h.1,h.2⟩)
       have HB9:Hid (Bl Z3 wr):=hB.out;have ik:(0:Int)≤(j:Int):=(by omega)
       have nk:(j:Int)<(n'.K:Int):=(by omega)
       obtain⟨g1,g2⟩:=HSG.out.books j hlt;rw[ek];by_cases hbk:Bk.Book (bks j)
       ·have z1:=Bk.wrong_zero hbk;have z2:=Bk.wrong_zero (g1 hbk);rw[z1] at HW1;rw[z2] at HW2;clear HSA hbk z1 z2 g1 g2 hB HSG hRB ek;generalize (bks j).length=l1n at *;generalize (RB j).length=l2n at *;generalize bo j=q1 at *;generalize bc j=q2 at *;generalize bo' j=p1 at *;generalize bc' j=p2 at *;simp only at HW1 HW2;(go_upto_region 18 with fail);refine la18a [] wr kb koff gk j n'.K kcap q1 p1 l1n q2 l2n p2 _ _ _ _ _ _ _ _ _ _ _ _ _ _ _ _ _ _ _ _ _ _ _ _ _ _ _ _ _ _ _ _ _ _ _ _ _ _ _ _ _ _ _ _ _ _ _ _ _ _ _ _ _ _ _ _ _ _ _ _ _ _ _ _ _ _ _ _ _ _ _ _ _ _ _ _ _ _ _ _ _ _ _ _ _ _ _ _ _ ?hQ ?hC hlt ?hW1 ?hW2 ?fin _ _ _ _ _ _ _ _ _ _ _ _ _ _ _ _ _ _ _ _ _ _ _ _ _ _ _ _ _ _ _ _ _ _ _ _ _
        case hQ=>exact fun _ _ _ _ _ h=>h
        case hC=>exact fun V hV=>HCC.out V (HB9.out.trans (hV.mono HB9.out.size))
        case hW1=>exact fun V hV=>HW1.out V (HB9.out.trans (hV.mono HB9.out.size))
        case hW2=>exact fun V hV=>HW2.out V (HB9.out.trans (hV.mono HB9.out.size))
        case fin =>
         intro w6 hb6;have HB6:Hid (Bl wr w6):=hb6;clear hb6;(go_wp2_with fail);exact⟨⟨j+1,by omega,by go_num,HB9.out.trans (HB6.out.mono HB9.out.size)⟩,by simp[intOf];omega⟩
       ·have z1:(Bk.wrong (at' (bks j)) (bks j).length).1≠0:=fun q=>hbk (Bk.wrong_book.1 q);have HSB:Hid (∀V,Bl Z3 V→Calls Tryz.prog 22 #[.slice (bo' j) (RB j).length (bc' j),.slice (bo j) (bks j).length (bc j)] V fun e w'=>e=.returned (.bool true)∧Bl V w'):=HSA.out (g2 hbk);clear HSA hbk g1 g2 hB HSG hRB ek HW2;generalize Bk.wrong (at' (bks j)) (bks j).length=wx at *;obtain⟨wx1,wx2⟩:=wx;generalize (bks j).length=l1n at *;generalize (RB j).length=l2n at *;generalize bo j=q1 at *;generalize bc j=q2 at *;generalize bo' j=p1 at *;generalize bc' j=p2 at *;simp only at HW1 z1;(go_upto_region 18 with fail);refine la18b [] wr kb koff gk j n'.K kcap q1 p1 l1n q2 l2n p2 wx1 wx2 _ _ _ _ _ _ _ _ _ _ _ _ _ _ _ _ _ _ _ _ _ _ _ _ _ _ _ _ _ _ _ _ _ _ _ _ _ _ _ _ _ _ _ _ _ _ _ _ _ _ _ _ _ _ _ _ _ _ _ _ _ _ _ _ _ _ _ _ _ _ _ _ _ _ _ _ _ _ _ _ _ _ _ _ _ _ _ _ _ ?hQ ?hC hlt z1 ?hW1 ?hS ?fin _ _ _ _ _ _ _ _ _ _ _ _ _ _ _ _ _ _ _ _ _ _ _ _ _ _ _ _ _ _ _ _ _ _ _ _ _
        case hQ=>exact fun _ _ _ _ _ h=>h
        case hC=>exact fun V hV=>HCC.out V (HB9.out.trans (hV.mono HB9.out.size))
        case hW1=>exact fun V hV=>HW1.out V (HB9.out.trans (hV.mono HB9.out.size))
        case hS=>exact fun V hV=>HSB.out V (HB9.out.trans (hV.mono HB9.out.size))
        case fin =>
         intro w6 hb6;have HB6:Hid (Bl wr w6):=hb6;clear hb6;(go_wp2_with fail);exact⟨⟨j+1,by omega,by go_num,HB9.out.trans (HB6.out.mono HB9.out.size)⟩,by simp[intOf];omega⟩
      ·obtain rfl:j=n'.K:=by omega
       obtain⟨_,_,_,_,_,_,r6⟩:=HSG.out.keep wr hB.out;have HBW:Hid (Bl w wr):=r6;have hi:¬(n'.K:Int)<(n'.K:Int):=(by omega)
       clear HSG r6;(go_wp2_with fail);go_ret;exact⟨rfl,HBW.out⟩
end
end Go.Proofs.YtelebnancdjjiaaGreatDoor
namespace Go.Proofs.YtelebnancdjjiaaGreatDoor.lanFrames
open Go.ChangeShapes Go.WideShapes Go.ChangeAt Go.RowKit
theorem contract (H:Type) (enc:TypeId×Value→H) (W:World) (base:Nat) (args:Array Value) (ds gs:List (DataW H)) (before:List MemPlace)
  (hval:∀(j:Nat) t v,Tryz.f8.params[j]?=some t→args[j]?=some v→Value.okWide Tryz.prog W .any base t v)
  (hW:DataW.Whole enc Tryz.prog Tryz.f8.params.toList Rows.lanFramesSpec.vars false W args.toList ds gs before)
  (hsz:(DataW.weightsEach Tryz.prog (Tryz.f8.params.toList++(OpenSpec.ofChange Rows.lanFramesSpec).bare.plain.varTypes Tryz.prog) (ds++gs)).all (·≤reachBytes)=true)
  (hL:laidMetH Tryz.prog Rows.lanFramesRow.laid W) :
  Calls Tryz.prog 8 args W fun e W'=>∃v,e=.returned v∧Rows.lanFramesSpec.post enc Tryz.prog Tryz.f8 false true false false W args v W':=by
 have hW':=hW;obtain⟨p,q,hA0,hV,rfl,hfz,hnd⟩:=hW;have hA:DataW.TrodAll enc Tryz.prog W 0 (fun _=>true) true Tryz.f8.params.toList args.toList ds p:=hA0;rw[Tryz.params8] at hA hval hsz;obtain⟨v0,vs0,d0,ds0,p0,q0,hargs,rfl,rfl,h0,r0⟩:=trodAll_cons hA;obtain⟨v1,vs1,d1,ds1,p1,q1,rfl,rfl,rfl,h1,r1⟩:=trodAll_cons r0;obtain⟨v2,vs2,d2,ds2,p2,q2,rfl,rfl,rfl,h2,r2⟩:=trodAll_cons r1;obtain⟨v3,vs3,d3,ds3,p3,q3,rfl,rfl,rfl,h3,r3⟩:=trodAll_cons r2;obtain⟨v4,vs4,d4,ds4,p4,q4,rfl,rfl,rfl,h4,r4⟩:=trodAll_cons r3;obtain⟨v5,vs5,d5,ds5,p5,q5,rfl,rfl,rfl,h5,r5⟩:=trodAll_cons r4;obtain⟨v6,vs6,d6,ds6,p6,q6,rfl,rfl,rfl,h6,r6⟩:=trodAll_cons r5;obtain⟨rfl,rfl,rfl⟩:=trodAll_nil r6;obtain rfl:args=#[v0,v1,v2,v3,v4,v5,v6]:=by cases args;simp_all
 obtain⟨rfl,rfl⟩:=trodVars_none hV;have lt0:∀x∈p0,x.block<W.heap.size:=by obtain⟨m,hm⟩:=h0;exact DataW.trod_lt m _ _ _ hm
 obtain⟨n0,rfl,hat0,hwf0,hz0⟩:=net_in (hval 0 25 v0 rfl rfl) h0;have lt1:∀x∈p1,x.block<W.heap.size:=by obtain⟨m,hm⟩:=h1;exact DataW.trod_lt m _ _ _ hm
 obtain⟨z1,rfl⟩:=okWide_int Tryz.underlying3 (hval 1 3 v1 rfl rfl);have lt2:∀x∈p2,x.block<W.heap.size:=by obtain⟨m,hm⟩:=h2;exact DataW.trod_lt m _ _ _ hm
 obtain⟨da2,dn2,dc2,dd2,rfl,hd2,hnl2,hdn2,hdz2⟩:=dos_in (hval 2 26 v2 rfl rfl) h2;have lt3:∀x∈p3,x.block<W.heap.size:=by obtain⟨m,hm⟩:=h3;exact DataW.trod_lt m _ _ _ hm
 obtain⟨ko3,kn3,kc3,bk3,bo3,bc3,rfl,hkn3,hkz3⟩:=books_in (hval 3 27 v3 rfl rfl) h3;have lt4:∀x∈p4,x.block<W.heap.size:=by obtain⟨m,hm⟩:=h4;exact DataW.trod_lt m _ _ _ hm
 obtain⟨z4,rfl⟩:=okWide_int Tryz.underlying3 (hval 4 3 v4 rfl rfl);have lt5:∀x∈p5,x.block<W.heap.size:=by obtain⟨m,hm⟩:=h5;exact DataW.trod_lt m _ _ _ hm
 obtain⟨z5,rfl⟩:=okWide_int Tryz.underlying3 (hval 5 3 v5 rfl rfl);have lt6:∀x∈p6,x.block<W.heap.size:=by obtain⟨m,hm⟩:=h6;exact DataW.trod_lt m _ _ _ hm
 obtain⟨f6,rfl,hr6,hnil6,hfd6,hfs6⟩:=frame_inL (hval 6 31 v6 rfl rfl) h6;have hall:=hsz;simp only[List.cons_append,DataW.weightsEach,List.all_append,Bool.and_eq_true] at hall;have hb3:=hkz3 hall.2.2.2.1;have hT:=tabs_of hL;have hG:2≤W.heap.size:=hT.lt;clear hA0 hall hsz;refine(lframes_any n0 z1 da2 dn2 dc2 dd2 ko3 kn3 kc3 bk3 bo3 bc3 z4 z5 f6 W ⟨hwf0,hat0,hdn2,hd2,hkn3,hb3,hr6,hnil6,hfd6,hfs6,hT,hG⟩).mono fun e W' ⟨he,bel⟩ => ?_;subst he;exact⟨_,rfl,_,_,_,[],_,[],hW',trodAll_mk1 (shut_bool Tryz.underlying4 _),(trodAll_cons_mk (Below.trod laidOut (by kernel_rfl) (of_decide_eq_true (by kernel_rfl)) h0 bel lt0) (trodAll_cons_mk (Below.trod laidOut (by kernel_rfl) (of_decide_eq_true (by kernel_rfl)) h1 bel lt1) (trodAll_cons_mk (Below.trod laidOut (by kernel_rfl) (of_decide_eq_true (by kernel_rfl)) h2 bel lt2) (trodAll_cons_mk (Below.trod laidOut (by kernel_rfl) (of_decide_eq_true (by kernel_rfl)) h3 bel lt3) (trodAll_cons_mk (Below.trod laidOut (by kernel_rfl) (of_decide_eq_true (by kernel_rfl)) h4 bel lt4) (trodAll_cons_mk (Below.trod laidOut (by kernel_rfl) (of_decide_eq_true (by kernel_rfl)) h5 bel lt5) (trodAll_cons_mk (Below.trod laidOut (by kernel_rfl) (of_decide_eq_true (by kernel_rfl)) h6 bel lt6) trodAll_mk0))))))),rfl,bel.frame _,fun h=>by cases h⟩
theorem laid_met (os:Os):laidMet Tryz.prog Rows.lanFramesRow.laid ((laidW (World.holding Tryz.prog os ⟨#[],#[],[]⟩)).forCall (fun _ _=>0) ⟨#[],#[.agg #[.slice none 0 0,.slice none 0 0],.int .i64 0,.slice none 0 0,.slice none 0 0,.int .i64 0,.int .i64 0,.agg #[.int .u64 0,.int .u64 0,.bool false,.int .i64 0,.bool false,.int .i64 0,.int .i64 0,.slice none 0 0]],[]⟩).memory :=
 laidMet_of_run' 8 (by kernel_rfl) (by kernel_rfl)
theorem reads (os:Os) {H:Type}(enc:TypeId×Value→H):∃places,DataW.whole enc Tryz.prog ((laidW (World.holding Tryz.prog os ⟨#[],#[],[]⟩)).forCall (fun _ _=>0) ⟨#[],#[.agg #[.slice none 0 0,.slice none 0 0],.int .i64 0,.slice none 0 0,.slice none 0 0,.int .i64 0,.int .i64 0,.agg #[.int .u64 0,.int .u64 0,.bool false,.int .i64 0,.bool false,.int .i64 0,.int .i64 0,.slice none 0 0]],[]⟩).memory Tryz.f8.params.toList Rows.lanFramesSpec.vars false #[Value.agg #[.slice none 0 0,.slice none 0 0],.int .i64 0,.slice none 0 0,.slice none 0 0,.int .i64 0,.int .i64 0,.agg #[.int .u64 0,.int .u64 0,.bool false,.int .i64 0,.bool false,.int .i64 0,.int .i64 0,.slice none 0 0]].toList 8=some ([.agg [.nil,.nil],.lit (.int .i64 0),.nil,.nil,.lit (.int .i64 0),.lit (.int .i64 0),.agg [.lit (.int .u64 0),.lit (.int .u64 0),.lit (.bool false),.lit (.int .i64 0),.lit (.bool false),.lit (.int .i64 0),.lit (.int .i64 0),.nil]],[],places) :=
 ⟨[],by kernel_rfl⟩
theorem lifted (os:Os) (started:os.Started) (H:Type) (enc:TypeId×Value→H) (F:Stop.Interp) :
  ReturnsInHanded {} Tryz.checked os 8 .any ((OpenSpec.ofChange Rows.lanFramesSpec).preRow enc Tryz.prog Tryz.f8 Rows.lanFramesRow.domain false Rows.lanFramesRow.laid) (((OpenSpec.ofChange Rows.lanFramesSpec).at F).post enc Tryz.prog Tryz.f8 false true false false):=by
 obtain⟨places,hx⟩:=reads os enc;refine returnsInHanded_of_row (C:=Tryz.checked) (s:=OpenSpec.ofChange Rows.lanFramesSpec) own started (by kernel_rfl) Tryz.func8
  (witness_row_at (enc:=enc) (C:=Tryz.checked) false (laidW (World.holding Tryz.prog os ⟨#[],#[],[]⟩)) #[.agg #[.slice none 0 0,.slice none 0 0],.int .i64 0,.slice none 0 0,.slice none 0 0,.int .i64 0,.int .i64 0,.agg #[.int .u64 0,.int .u64 0,.bool false,.int .i64 0,.bool false,.int .i64 0,.int .i64 0,.slice none 0 0]] rfl (by kernel_rfl) (by kernel_rfl) (by kernel_rfl)
   (OpenSpec.preRow_of_cond 8 hx (by kernel_rfl) (fun k hk=>by cases hk) (by kernel_rfl) (laid_met os))) ?_
 intro W base args ds gs before hval hW _ _ hsz hL _ _;exact contract H enc W base args ds gs before hval hW hsz hL
theorem said:Rows.LanFramesSaid :=
 OpenClaim.holds_of_cond 8 Tryz.f8 rfl rfl rfl rfl rfl rfl rfl ⟨rfl,rfl,rfl,rfl,rfl⟩ rfl rfl rfl rfl rfl (by kernel_rfl) Tryz.func8 (by kernel_rfl)
  (of_decide_eq_true (by kernel_rfl)) (by unfold Func.isWrapper;first | (rw[if_pos (by decide +kernel)];kernel_rfl) | (rw[if_neg (by decide +kernel)];exact⟨rfl,rfl⟩))
  (fun os started H enc _ F=>by rw[OpenClaim.pre_eq_preRow];exact lifted os started H enc F)
theorem plain (f:FuncId) (fn:Func) (hf:Tryz.pinned.checked.prog.funcNamed "hedgerow/hedgelaw10.LanFrames" = some f) (hfn:Tryz.pinned.checked.prog.funcs[f]?=some fn) :
  false=Tryz.pinned.checked.prog.looks []∧∀(j:Nat) t,fn.params[j]?=some t→Tryz.pinned.checked.prog.wantsStandIn t=false:=by
 obtain rfl:f=8:=Option.some.inj ((show Tryz.prog.funcNamed "hedgerow/hedgelaw10.LanFrames" = some 8 by kernel_rfl).symm.trans hf) |>.symm;obtain rfl:fn=Tryz.f8:=(Option.some.inj (Tryz.func8.symm.trans hfn)).symm;refine⟨by kernel_rfl,fun j t ht => ?_⟩;rw[Tryz.params8] at ht;have h1:Tryz.prog.wantsStandIn 25=false:=(by kernel_rfl)
 have h2:Tryz.prog.wantsStandIn 3=false:=(by kernel_rfl)
 have h3:Tryz.prog.wantsStandIn 26=false:=(by kernel_rfl)
 have h4:Tryz.prog.wantsStandIn 27=false:=(by kernel_rfl)
 have h5:Tryz.prog.wantsStandIn 31=false:=(by kernel_rfl)
 have ht2:t=25∨t=3∨t=26∨t=27∨t=3∨t=3∨t=31:=(by simpa using Array.mem_of_getElem? ht)
 rcases ht2 with rfl | rfl | rfl | rfl | rfl | rfl | rfl
 ·exact h1
 ·exact h2
 ·exact h3
 ·exact h4
 ·exact h2
 ·exact h2
 ·exact h5
theorem card:Rows.LanFramesCardSaid :=
 Claim7.holds_tied_plain_at .later [] _ _ _ _ said (fun _ h=>by cases h) (by kernel_rfl) (fun _ h=>by cases h) lanFrames_row_tie rfl ⟨rfl,rfl⟩ (by kernel_rfl) rfl plain (by kernel_rfl)
end Go.Proofs.YtelebnancdjjiaaGreatDoor.lanFrames
namespace Go.Proofs.YtelebnancdjjiaaGreatDoor
theorem lanFrames_card:Rows.LanFramesCardSaid:=lanFrames.card
#print axioms lanFrames_card
end Go.Proofs.YtelebnancdjjiaaGreatDoor
