/- walks: talk.fits' closure, slices.IndexFunc and ContainsFunc at trees of minds -/
import Derived.Test.YtelebnancdjjiaaGreatDoorM20
import Derived.Test.YtelebnancdjjiaaGreatDoorM01
import Derived.Test.YtelebnancdjjiaaGreatDoorM14
import Derived.Deep.QuietTactic
set_option maxRecDepth 100000
set_option maxHeartbeats 6000000
namespace Go.Proofs.YtelebnancdjjiaaGreatDoor
section
open Go.RowKit
open Vc (V Of)
open Pl (En Lk Br Net)
open Tk (Md Mnd Cn Sc Dn ixM ilist lst3 ilm)
def lsF (f:Nat→Int) (n:Nat):List Int:=(List.range n).map f
theorem lsF_len (f:Nat→Int) (n:Nat):(lsF f n).length=n:=by simp[lsF]
theorem lsF_get (f:Nat→Int) {n j:Nat}(h:j<n):IL (lsF f n) j=f j:=by
 unfold IL lsF;rw[List.getD_eq_getElem?_getD,List.getElem?_map,List.getElem?_range h];rfl
theorem lsF_mem {f:Nat→Int}{n:Nat}{p:Int}(h:p∈lsF f n):∃j,j<n∧f j=p:=by
 unfold lsF at h;rw[List.mem_map] at h;obtain⟨j,hj,e⟩:=h;exact⟨j,List.mem_range.1 hj,e⟩
namespace Pl
def Net.cn (n:Net):Cn:=⟨n.K,n.L,fun i=>(n.bs i).addr,fun i j=>decide (strOf 50 (n.bs i).reg.id=strOf 50 (n.bs j).reg.id)⟩
def Net.sc (n:Net) (ms:Nat→Nat→Mnd):Sc:=⟨fun i=>lsF (n.bs i).pv (n.bs i).pn,n.ls,ms⟩
def Net.pts (n:Net) (i:Nat):List Int:=(n.ends i).map (fun e:En=>e.port)
theorem Net.sc_sm (n:Net) (i j:Nat):n.cn.sm i j=decide (strOf 50 (n.bs i).reg.id=strOf 50 (n.bs j).reg.id):=by
 unfold Net.cn;with_reducible rfl
theorem Net.sc_lv (n:Net) (ms:Nat→Nat→Mnd) (k:Nat):(n.sc ms).lv n.cn k=n.live k:=by
 unfold Tk.Sc.lv Net.live;rw[Net.sc_sm];unfold Net.sc;with_reducible rfl
theorem Net.sc_E (n:Net) (ms:Nat→Nat→Mnd):(n.sc ms).E n.cn=n.ends:=by
 have e:(n.sc ms).lv n.cn=n.live:=funext (n.sc_lv ms);funext i
 unfold Tk.Sc.E Net.ends;rw[e];unfold Net.sc Net.cn;with_reducible rfl
end Pl
theorem net_ids {n:Net}(ms:Nat→Nat→Mnd) (tree:Int) (i:Nat):(n.sc ms).ids n.cn tree i=n.ids tree i:=by
 unfold Tk.Sc.ids Pl.Net.sc Pl.Net.cn Pl.Net.ids Pl.Br.id Pl.Br.prio Tk.prioOf;simp only[lsF_len];by_cases q:0≤tree∧tree≤((n.bs i).pn:Int)-1
 ·rw[if_pos q,if_pos q];have:=lsF_get (n.bs i).pv (show tree.toNat<(n.bs i).pn by omega);unfold IL at this;rw[this]
 ·rw[if_neg q,if_neg q]
theorem scene_new {n:Net}{T:Nat}{ms:Nat→Nat→Mnd}{W0 V2 V3 V4:World}{B1 B2 b1 G:Nat}{vb vl vo:Value}{ivN weN vt ivT ve:Nat→Value}(hK:n.K≤12) (hT:T≤4) (h1:W0.heap.size≤b1)
  (hN:NetP V2 b1 n n.K vb vl ivN weN) (hT3:TlC V3 V2.heap.size n.K T n.pts ms vo vt ivT) (b02:Bl W0 V2) (b23:Bl V2 V3) (b34:Bl V3 V4) (hE:EndsOk V4 G n.K ve n.ends)
  (hA:AmongAt W0 n.K n.bs B1 B2) (hok:Tk.Ok n.cn (n.sc ms) T) (hreg:∀i,i<n.K→(n.bs i).reg.ok) :
  ∃M,ScOk (V4.alloc (.cells #[vb,vl,vo,.func (.func 150) #[] #[.pointer (some ⟨B1,0,none⟩),.pointer (some ⟨B2,0,none⟩)],.slice (some ⟨G,0,none⟩) n.K n.K] 148)) V4.heap.size ⟨n.cn,T,n.pts,fun i=>(n.bs i).reg,n.bs,B1,B2,W0⟩ (n.sc ms) M G ve:=by
 have c02:W0.heap.size≤V2.heap.size:=b02.size;have b24:Bl V2 V4:=b23.trans (b34.mono b23.size);have bA:Bl V4 (V4.alloc (.cells #[vb,vl,vo,.func (.func 150) #[] #[.pointer (some ⟨B1,0,none⟩),.pointer (some ⟨B2,0,none⟩)],.slice (some ⟨G,0,none⟩) n.K n.K] 148)):=bA1 _ _;have b2:=b24.trans (bA.mono b24.size);have b3:=b34.trans (bA.mono b34.size);generalize hWW:V4.alloc (.cells #[vb,vl,vo,.func (.func 150) #[] #[.pointer (some ⟨B1,0,none⟩),.pointer (some ⟨B2,0,none⟩)],.slice (some ⟨G,0,none⟩) n.K n.K] 148)=W at bA b2 b3 ⊢;have hblk:W.heap[V4.heap.size]?=some (.cells #[vb,vl,vo,.func (.func 150) #[] #[.pointer (some ⟨B1,0,none⟩),.pointer (some ⟨B2,0,none⟩)],.slice (some ⟨G,0,none⟩) n.K n.K] 148):=(by rw[←hWW];exact heap_alloc_last _ _)
 refine⟨⟨vb,vl,vo,vt,fun a=>if a<12 then(if a<n.K then ivN a else .slice none 0 0) else ivT a,fun i=>if i<n.K then weN i else .slice none 0 0⟩,⟨hblk,?_,owns_mono (ownsC_below hN.lks b2) h1,owns_mono (ownsC_below hT3.out b3) c02,?_,?_,?_,b02.trans (b2.mono c02),by rw[Net.sc_E];exact hE.below bA,hK,hT⟩,hok,hreg,Nat.le_trans c02 b24.size,n.sc_sm,hA⟩
 ·have:=owns_mono (ownsC_below hN.brs b2) h1;show W.ownsRow W0.heap.size 65 5 vb n.K (cellsL n.K 5 (fun i=>brX (n.bs i).addr (if i<12 then(if i<n.K then ivN i else .slice none 0 0) else ivT i) (n.bs i).reg.s (n.bs i).reg.rev (if i<n.K then weN i else .slice none 0 0)));rw[cellsL_congr n.K 5 _ (fun a=>brX (n.bs a).addr (ivN a) (n.bs a).reg.s (n.bs a).reg.rev (weN a)) (fun i hi=>by
   simp only[if_pos hi,if_pos (show i<12 by omega)])]
  exact this
 ·have:=hT3.mds.below b3;refine Fam.congr ⟨fun a ha=>owns_mono (this.own a ha) c02,this.one⟩ (fun _ _=>rfl) (fun k hk i hi x hx => ?_);unfold Tm.mc;have hne:∀j,¬ixM k i j<12:=fun j=>by unfold ixM;omega
  simp only[if_neg (hne _)];rfl
 ·have t1:=hT3.ints.below b3;have n1:=hN.ints.below b2;have hil:∀a,(Tf.il ⟨n.cn,T,n.pts,fun i=>(n.bs i).reg,n.bs,B1,B2,W0⟩ (n.sc ms) a)=if a<12 then(if a<n.K then lsF (n.bs a).pv (n.bs a).pn else []) else ilm n.K T n.pts ms a:=fun a=>Tk.ilist_ilm n.K T n.pts (n.sc ms) a
  refine⟨fun a ha => ?_,fun a b ha hb q hqa hqb => ?_⟩
  ·by_cases q:a<12
   ·by_cases q2:a<n.K
    ·simp only[hil,if_pos q,if_pos q2,lsF_len];have:=owns_mono (n1.own a q2) h1;rw[cellsL_congr _ 1 _ (fun i _=>.int .i64 ((n.bs a).pv i)) (fun i hi=>by
      funext x
      rw[lsF_get _ hi])]
     exact this
    ·simp only[hil,if_pos q,if_neg q2];exact ownsC_nil _ _ _ _ _
   ·simp only[hil,if_neg q];exact owns_mono (t1.own a ha) c02
  ·have lo:∀{a q},a<12→(if a<n.K then ivN a else Value.slice none 0 0).ownBlock=some q→a<n.K∧(ivN a).ownBlock=some q∧q<V2.heap.size:=fun {a q} _ hq=>by
    by_cases q2:a<n.K
    ·rw[if_pos q2] at hq;exact⟨q2,hq,(oCb (hN.ints.own a q2) q hq).2⟩
    ·rw[if_neg q2] at hq;simp[Value.ownBlock] at hq
   by_cases qa:a<12
   ·simp only[if_pos qa] at hqa;obtain⟨a1,a2,a3⟩:=lo qa hqa;by_cases qb:b<12
    ·simp only[if_pos qb] at hqb;obtain⟨b1,b2,b3⟩:=lo qb hqb;exact n1.one a b a1 b1 q a2 b2
    ·simp only[if_neg qb] at hqb;have:=(oCb (t1.own b hb) q hqb).1;omega
   ·simp only[if_neg qa] at hqa;by_cases qb:b<12
    ·simp only[if_pos qb] at hqb;obtain⟨b1,b2,b3⟩:=lo qb hqb;have:=(oCb (t1.own a ha) q hqa).1;omega
    ·simp only[if_neg qb] at hqb;exact t1.one a b ha hb q hqa hqb
 ·have n1:=hN.ways.below b2;have n2:Fam W W0.heap.size 131 2 n.K (fun i=>if i<n.K then weN i else .slice none 0 0) (fun i=>if i<n.K then(n.bs i).reg.n else 0) (fun i j=>wyC ((n.bs i).reg.vs j) ((n.bs i).reg.ts j)):=by
   refine⟨fun a ha => ?_,fun a b ha hb q hqa hqb => ?_⟩
   ·simp only[if_pos ha];exact owns_mono (n1.own a ha) h1
   ·simp only[if_pos ha] at hqa;simp only[if_pos hb] at hqb;exact n1.one a b ha hb q hqa hqb
  exact n2.nils (fun a h1 h2=>⟨if_neg (by omega),if_neg (by omega)⟩)
theorem vids_few {vs ts:Nat→Int}{m:Nat}(h:Rg.Right vs ts m):m≤4094:=by
 have k:∀i,i<m→(i:Int)+1≤vs i:=fun i=>by
  induction i with
  | zero=>intro hi;have:=(h.vid 0 hi).1;omega
  | succ i ih =>
   intro hi;have h1:=ih (by omega);have h2:=h.less i (i+1) (by omega) hi;omega
 by_cases q:m=0
 ·omega
 ·have h1:=k (m-1) (by omega);have h2:=(h.vid (m-1) (by omega)).2;omega
def NewW (w:World) (n:Net) (T:Nat) (ms:Nat→Nat→Mnd) (e:Ending) (w':World):Prop :=
 ∃S F M G ve,e=.returned (.pointer (some ⟨S,0,none⟩))∧ScOk w' S F (n.sc ms) M G ve∧(F.c=n.cn∧F.T=T∧F.pts=n.pts∧F.rg=fun i=>(n.bs i).reg)∧w.heap.size≤F.base∧Bl w w'
theorem mind_few {n:Net}{T:Nat}{ms:Nat→Nat→Mnd}(hok:Tk.Ok n.cn (n.sc ms) T) (hL:n.L≤40):∀k i j,k<T→i<n.K→j<3→(lst3 n.pts ms k i j).length≤100000:=fun k i j hk hi hj=>by
 have h1:=ends_few n i hL;have h2:=hok.fit k hk i hi;rw[Net.sc_E] at h2;have h3:(n.pts i).length=(n.ends i).length:=(by unfold Pl.Net.pts;simp)
 have h4:((n.sc ms).ms k i)=ms k i:=rfl;rw[h4] at h2;unfold lst3;rcases(by omega:j=0∨j=1∨j=2) with q | q | q<;>subst q<;>simp<;>omega
theorem tnewscene_any (n:Net) (T:Nat) (ms:Nat→Nat→Mnd) (oao:Option Addr) (ocap:Nat) (vt iv:Nat→Value) (w:World) (hR:n.Right) (hT:T≤4) (hat:n.at' w) (htk:TkAt w n.K T n.pts ms oao ocap vt iv) (hok:Tk.Ok n.cn (n.sc ms) T) (ht:Tabs w) (hbt:2≤w.heap.size) :
  Calls Tryz.prog 67 #[n.val,.agg #[.slice oao T ocap]] w fun e w'=>NewW w n T ms e w':=by
 obtain⟨X,HX⟩:∃X,Hid (X=(w.alloc (.cells #[.slice n.bao n.K n.bcap,.slice n.lao n.L n.lcap] 25)).alloc (.cells #[.slice oao T ocap] 34)):=⟨_,rfl⟩
 have hXB:Bl w X:=(by rw[HX.out];exact bA2 _ _ _)
 have hX0:X.heap[w.heap.size]?=some (.cells #[.slice n.bao n.K n.bcap,.slice n.lao n.L n.lcap] 25):=(by rw[HX.out];exact heap_alloc2_old _ _ _)
 have hX1:X.heap[w.heap.size+1]?=some (.cells #[.slice oao T ocap] 34):=(by rw[HX.out];exact heap_alloc2_new _ _ _)
 obtain⟨c0,c1⟩:=tC2 hX0;have c2:=one_cell hX1;have hnX:=hat.below hXB;have HAM:Hid (Calls Tryz.prog 102 #[.slice n.bao n.K n.bcap] X fun e w'=>∃B1 B2,e=.returned (.func (.func 150) #[] #[.pointer (some ⟨B1,0,none⟩),.pointer (some ⟨B2,0,none⟩)])∧Hid (AmongAt w' n.K n.bs B1 B2∧Bl X w')):=pamong_any n.bao n.K n.bcap n.bs X hR.few hnX.brs hnX.each hR.fine (ht.below hXB hbt) (Nat.le_trans hbt hXB.size);have HCE:Hid (∀V,Bl X V→(V.cell? ⟨w.heap.size,0,none⟩=some (.slice n.bao n.K n.bcap)∧V.cell? ⟨w.heap.size,1,none⟩=some (.slice n.lao n.L n.lcap))∧V.cell? ⟨w.heap.size+1,0,none⟩=some (.slice oao T ocap)):=fun V hV=>⟨tC2 (keep hX0 hV),one_cell (keep hX1 hV)⟩
 have HKN:Hid (∀V,Bl X V→n.at' V):=fun V hV=>hnX.below hV;have HKT:Hid (∀V,Bl X V→TkAt V n.K T n.pts ms oao ocap vt iv):=fun V hV=>(htk.below hXB).below hV;have HR:Hid n.Right:=hR;have HOK:Hid (Tk.Ok n.cn (n.sc ms) T):=hok;have HXB:Hid (Bl w X):=hXB;have HT4:Hid (T≤4):=hT;clear hR hT hat htk hok ht hbt hXB hX0 hX1 hnX;unfold Net.val;go_enter Tryz.func67,Tryz.ntmps67;(go_wp2_with fail);rw[←HX.out];refine HAM.out.mono ?_;rintro e w1 ⟨B1,B2,rfl,H1⟩;clear HAM c0 c1 c2;have HCN:Hid (∀V,Bl w1 V→Calls Tryz.prog 103 #[.agg #[.slice n.bao n.K n.bcap,.slice n.lao n.L n.lcap]] V fun e w'=>∃ba bc la lc,e=.returned (.agg #[.slice ba n.K bc,.slice la n.L lc])∧Hid (Bl w1 w'∧∃iv we b1,w1.heap.size≤b1∧NetP w' b1 n n.K (.slice ba n.K bc) (.slice la n.L lc) iv we)):=fun V hV=>by
  have hXV:=H1.out.2.trans (hV.mono H1.out.2.size);refine(tcopnet_any n V HR.out.few HR.out.fewL (fun i hi => ?_) (HKN.out V hXV)).mono ?_
  ·have hf:=HR.out.fine i hi;exact⟨by have:=hf.few;omega,by have:=vids_few hf.reg.2.2;omega⟩
  rintro e w' ⟨ba,bc,la,lc,iv,we,rfl,h1,h2⟩;exact⟨ba,bc,la,lc,rfl,hV.trans (h2.mono hV.size),iv,we,V.heap.size,hV.size,h1⟩
 have HCT:Hid (∀V2 V,Bl w1 V2→Bl V2 V→Calls Tryz.prog 104 #[.agg #[.slice oao T ocap]] V fun e w'=>∃oa oc,e=.returned (.agg #[.slice oa T oc])∧Hid (Bl w1 w'∧Bl V2 w'∧∃vt iv,TlC w' V2.heap.size n.K T n.pts ms (.slice oa T oc) vt iv)):=fun V2 V h12 hV=>by
  have h1V:=h12.trans (hV.mono h12.size);have hXV:=H1.out.2.trans (h1V.mono H1.out.2.size);refine(tcoptalk_any n.K T n.pts ms oao ocap vt iv V HR.out.few HT4.out (mind_few HOK.out HR.out.fewL) (HKT.out V hXV)).mono ?_;rintro e w' ⟨oa,oc,vt',iv',rfl,h1,h2⟩;exact⟨oa,oc,rfl,h1V.trans (h2.mono h1V.size),hV.trans (h2.mono hV.size),vt',iv',owns_mono h1.out hV.size,⟨fun a ha=>owns_mono (h1.mds.own a ha) hV.size,h1.mds.one⟩,⟨fun a ha=>owns_mono (h1.ints.own a ha) hV.size,h1.ints.one⟩⟩
 have HCA:Hid (∀V3 V,Bl w1 V3→Bl V3 V→Calls Tryz.prog 150 #[.slice n.lao n.L n.lcap,.pointer (some ⟨B1,0,none⟩),.pointer (some ⟨B2,0,none⟩)] V fun e w'=>∃G,e=.returned (.slice (some ⟨G,0,none⟩) n.K n.K)∧Hid (Bl w1 w'∧Bl V3 w'∧∃ve,EndsOk w' G n.K ve n.ends)):=fun V3 V h13 hV=>by
  have h1V:=h13.trans (hV.mono h13.size);have hXV:=H1.out.2.trans (h1V.mono H1.out.2.size);refine(pends_any n.K n.bs B1 B2 n.lao n.L n.lcap n.ls V HR.out.few HR.out.fewL (H1.out.1.below h1V) (HKN.out V hXV).lks HR.out.links).mono ?_;rintro e w' ⟨G,v,rfl,h1,h2,h3⟩;exact⟨G,rfl,h1V.trans (h3.mono h1V.size),hV.trans (h3.mono hV.size),v,h1⟩
 have HC1:Hid (∀V,Bl w1 V→(V.cell? ⟨w.heap.size,0,none⟩=some (.slice n.bao n.K n.bcap)∧V.cell? ⟨w.heap.size,1,none⟩=some (.slice n.lao n.L n.lcap))∧V.cell? ⟨w.heap.size+1,0,none⟩=some (.slice oao T ocap)):=fun V hV=>HCE.out V (H1.out.2.trans (hV.mono H1.out.2.size));have HB0:Hid (∀m,Bl w1 (w1.drewN m)):=fun m=>below_drewN (Below.refl _ _) m;have HB1:Hid (Bl w1 w1.drew):=Below.drew (Below.refl _ _);obtain⟨⟨c0,c1⟩,c2⟩:=HC1.out w1 (Below.refl _ _);have HFIN:Hid (∀(ba:Option Addr) (bc:Nat) (la:Option Addr) (lc:Nat) (w2:World) (oa:Option Addr) (oc:Nat) (w3:World) (G:Nat) (w4 W:World),Hid (Bl w1 w2∧∃iv we b1,w1.heap.size≤b1∧NetP w2 b1 n n.K (.slice ba n.K bc) (.slice la n.L lc) iv we)→Hid (Bl w1 w3∧Bl w2 w3∧∃vt iv,TlC w3 w2.heap.size n.K T n.pts ms (.slice oa T oc) vt iv)→Hid (Bl w1 w4∧Bl w3 w4∧∃ve,EndsOk w4 G n.K ve n.ends)→Bl w4 W →
   NewW w n T ms (.returned (.pointer (some ⟨W.heap.size,0,none⟩))) (W.alloc (.cells #[.slice ba n.K bc,.slice la n.L lc,.slice oa T oc,.func (.func 150) #[] #[.pointer (some ⟨B1,0,none⟩),.pointer (some ⟨B2,0,none⟩)],.slice (some ⟨G,0,none⟩) n.K n.K] 148))):=fun ba bc la lc w2 oa oc w3 G w4 W h2 h3 h4 hW=>by
  obtain⟨a1,ivN,weN,b1,a2,a3⟩:=h2.out;obtain⟨_,b2,vt',iv',b3⟩:=h3.out;obtain⟨d1,d2,ve,d3⟩:=h4.out;have d4:=d2.trans (hW.mono d2.size);obtain⟨M,hM⟩:=scene_new (W0:=w1) (V2:=w2) (V3:=w3) (V4:=W) HR.out.few HT4.out a2 a3 b3 a1 b2 d4 (d3.below hW) H1.out.1 HOK.out (fun i hi=>(HR.out.fine i hi).reg);have hwX:=HXB.out.trans (H1.out.2.mono HXB.out.size);have d5:=d1.trans (hW.mono d1.size);have d6:=hwX.trans (d5.mono hwX.size);exact⟨_,_,M,G,ve,rfl,hM,⟨rfl,rfl,rfl,rfl⟩,hwX.size,d6.trans ((bA1 _ _).mono d6.size)⟩
 clear HKN HKT HR HOK HT4 HXB;(go_wp2_with fail);go_region_with (first | (go_at_call 103;refine(HCN.out _ (by first | exact HB0.out _ | exact HB1.out)).mono ?_;rintro e w2 ⟨ba,bc,la,lc,rfl,H2⟩;obtain⟨⟨d0,d1⟩,d2⟩:=HC1.out w2 H2.out.1) | (go_at_call 104;refine(HCT.out w2 _ H2.out.1 (by first | exact Below.refl _ _ | exact below_drewN (Below.refl _ _) _ | exact Below.drew (Below.refl _ _))).mono ?_;rintro e w3 ⟨oa,oc,rfl,H3⟩;obtain⟨⟨f0,f1⟩,f2⟩:=HC1.out w3 H3.out.1) | (go_at_call 150;refine(HCA.out w3 _ H3.out.1 (by first | exact Below.refl _ _ | exact below_drewN (Below.refl _ _) _ | exact Below.drew (Below.refl _ _))).mono ?_;rintro e w4 ⟨G,rfl,H4⟩))
 (all_goals go_wp2_with fail);(all_goals go_ret);all_goals first | exact HFIN.out _ _ _ _ _ _ _ _ _ _ _ H2 H3 H4 (Below.refl _ _) | exact HFIN.out _ _ _ _ _ _ _ _ _ _ _ H2 H3 H4 (below_drewN (Below.refl _ _) _) | exact HFIN.out _ _ _ _ _ _ _ _ _ _ _ H2 H3 H4 (Below.drew (Below.refl _ _))
end
section
open Go.RowKit
def ILs (w:World) (ao:Option Addr) (cap:Nat) (l:List Int):Prop:=CRow w ao l.length cap 1 (fun i _=>.int .i64 (l.getD i 0))
theorem ILs.below {w w':World}{ao:Option Addr}{cap:Nat}{l:List Int}(h:ILs w ao cap l) (hb:Bl w w'):ILs w' ao cap l:=CRow.below h hb
theorem ILs.cell {w:World}{b off cap:Nat}{l:List Int}(h:ILs w (some ⟨b,off,none⟩) cap l) {i:Nat}(hi:i<l.length):w.cell? ⟨b,off+i,none⟩=some (.int .i64 (l.getD i 0)):=by
 obtain⟨b',off',e,_,hc⟩:=h.2 (by omega);cases e
 have:=hc i hi 0 (by omega);rw[Nat.mul_one,Nat.add_zero] at this;exact this
theorem ILs.place {w:World}{ao:Option Addr}{cap:Nat}{l:List Int}(h:ILs w ao cap l) (hn:0<l.length):∃b off,ao=.some ⟨b,off,.none⟩∧b<w.heap.size:=by
 obtain⟨b,off,e,hb,_⟩:=h.2 hn;exact⟨b,off,e,hb⟩
theorem ILs.of {w:World}{ao:Option Addr}{n cap:Nat}{f:Nat→Int}(h:CRow w ao n cap 1 (fun i _=>.int .i64 (f i))):ILs w ao cap ((List.range n).map f):=by
 unfold ILs;rw[show((List.range n).map f).length=n by simp];exact h.congr (fun i hi=>by simp[hi])
def Bk.idx (l:List Int) (n:Int):Nat→Int
 | 0 => -1
 | k+1=>if 0≤Bk.idx l n k then Bk.idx l n k else if n=l.getD k 0 then(k:Int) else -1
theorem Bk.idx_contains (l:List Int) (n:Int):decide (Bk.idx l n l.length≥0)=l.contains n:=by
 have H:∀k,k≤l.length→(0≤Bk.idx l n k↔∃i,i<k∧n=l.getD i 0):=by
  intro k;induction k with
  | zero=>intro _;simp[Bk.idx]
  | succ k ih =>
   intro hk;have ih:=ih (by omega);show(0≤if 0≤Bk.idx l n k then Bk.idx l n k else if n=l.getD k 0 then(k:Int) else -1)↔_;by_cases q:0≤Bk.idx l n k
   ·rw[if_pos q];obtain⟨i,hi,he⟩:=ih.1 q;exact⟨fun _=>⟨i,by omega,he⟩,fun _=>q⟩
   ·rw[if_neg q];by_cases q2:n=l.getD k 0
    ·rw[if_pos q2];exact⟨fun _=>⟨k,by omega,q2⟩,fun _=>by omega⟩
    ·rw[if_neg q2];refine⟨fun h=>by omega,?_⟩;rintro⟨i,hi,he⟩;by_cases e:i=k
     ·subst e;exact absurd he q2
     ·exact absurd (ih.2 ⟨i,by omega,he⟩) q
 have h:=H l.length (Nat.le_refl _);have h2:(∃i,i<l.length∧n=l.getD i 0)↔n∈l:=by
  constructor
  ·rintro⟨i,hi,he⟩;rw[he];simp[hi]
  ·intro hm;obtain⟨i,hi,he⟩:=List.getElem_of_mem hm;exact⟨i,hi,by simp[hi,he]⟩
 by_cases q:n∈l
 ·rw[decide_eq_true (show Bk.idx l n l.length≥0 from h.2 (h2.2 q))];simp[q]
 ·rw[decide_eq_false (show ¬Bk.idx l n l.length≥0 from fun hh=>q (h2.1 (h.1 hh)))];simp[q]
theorem Bk.idx_stay (l:List Int) (n:Int) (k:Nat) (h:0≤Bk.idx l n k):∀m,k≤m→Bk.idx l n m=Bk.idx l n k:=by
 intro m hm;induction m with
 | zero =>
  obtain rfl:k=0:=by omega
  rfl
 | succ m ih =>
  by_cases e:k=m+1
  ·subst e;rfl
  ·have:=ih (by omega);show(if 0≤Bk.idx l n m then Bk.idx l n m else _)=_;rw[if_pos (by omega),this]
theorem bindex_any (ao:Option Addr) (cap:Nat) (l:List Int) (n:Int) (w:World) (hn:l.length≤9223372036854775807) (hr:ILs w ao cap l) :
  Calls Tryz.prog 119 #[.slice ao l.length cap,.int .i64 n] w fun e w'=>e=.returned (.int .i64 (Bk.idx l n l.length))∧w'=w:=by
 have hcap:l.length≤cap:=hr.1;have HR:Hid (ILs w ao cap l):=hr;clear hr;go_enter Tryz.func119,Tryz.ntmps119;(go_wp2_with fail);go_loopw [8] (fun i wr=>∃k:Nat,k≤l.length∧i=.int .i64 k∧Hid (Bk.idx l n k = -1)∧wr=w) (fun i _=>l.length-(intOf i).toNat)
 case atStart=>exact⟨0,by omega,rfl,rfl,rfl⟩
 case round =>
  obtain⟨k,hk,rfl,hS,rfl⟩:=hrel;by_cases hlt:k<l.length
  ·obtain⟨b,off,rfl,_⟩:=HR.out.place (by omega);have c0:=HR.out.cell hlt;have HS2:Hid (Bk.idx l n (k+1)=if n=l.getD k 0 then(k:Int) else -1):=by
    show(if 0≤Bk.idx l n k then Bk.idx l n k else if n=l.getD k 0 then(k:Int) else -1)=_;rw[if_neg (by rw[hS.out];omega)]
   have HSS:Hid (n=l.getD k 0→Bk.idx l n l.length=(k:Int)):=fun h=>by
    have h1:=HS2.out;rw[if_pos h] at h1;rw[Bk.idx_stay l n (k+1) (by omega) l.length (by omega),h1]
   clear HR hS;by_cases q:n=l.getD k 0
   ·have HS3:Hid _:=HSS.out q;rw[←q] at c0;clear HSS HS2 q;(go_wp2_with fail);go_ret;exact⟨by rw[HS3.out];rfl,rfl⟩
   ·have HS3:Hid (Bk.idx l n (k+1) = -1):=(by rw[HS2.out,if_neg q];rfl)
    have dq:(n == l.getD k 0)=false:=(by simpa using q)
    clear HSS HS2;generalize l.getD k 0=y at *;(go_wp2_with fail);exact⟨⟨k+1,by omega,by go_num,HS3,trivial⟩,by simp[intOf];omega⟩
  ·obtain rfl:k=l.length:=by omega
   clear HR;(go_wp2_with fail);go_ret;exact⟨by rw[hS.out];rfl,rfl⟩
theorem list_eq_iff (l m:List Int):l=m↔l.length=m.length∧∀i,i<l.length→l.getD i 0=m.getD i 0:=by
 constructor
 ·rintro rfl;exact⟨rfl,fun _ _=>rfl⟩
 ·rintro⟨h1,h2⟩;apply List.ext_getElem h1
  intro i a b;have:=h2 i a;simpa[a,b] using this
theorem tequal_any (ao:Option Addr) (cap:Nat) (l:List Int) (bo:Option Addr) (bcap:Nat) (m:List Int) (w:World) (hn:l.length≤9223372036854775807) (hr:ILs w ao cap l) (hr2:ILs w bo bcap m) :
  Calls Tryz.prog 188 #[.slice ao l.length cap,.slice bo m.length bcap] w fun e w'=>e=.returned (.bool (decide (l=m)))∧Bl w w':=by
 by_cases hl:l.length=m.length
 ·have hcap:l.length≤cap:=hr.1;have hcap2:l.length≤bcap:=(by have:=hr2.1;omega)
  have HR:Hid (∀W,Bl w W→ILs W ao cap l∧ILs W bo bcap m):=fun W hW=>⟨hr.below hW,hr2.below hW⟩
  have HLM:Hid (l.length=m.length):=hl;rw[←hl];clear hr hr2 hl;go_enter Tryz.func188,Tryz.ntmps188;(go_wp2_with fail);go_loopw [13] (fun i wr=>∃k:Nat,k≤l.length∧i=.int .i64 k∧Hid (∀j,j<k→l.getD j 0=m.getD j 0)∧Hid (Bl w wr)) (fun i _=>l.length-(intOf i).toNat)
  case atStart=>exact⟨0,by omega,rfl,(fun j hj=>absurd hj (by omega)),Below.refl _ _⟩
  case round =>
   obtain⟨k,hk,rfl,hS,hB⟩:=hrel;by_cases hlt:k<l.length
   ·obtain⟨b,off,rfl,_⟩:=(HR.out wr hB.out).1.place (by omega);obtain⟨b2,off2,rfl,_⟩:=(HR.out wr hB.out).2.place (by have:=HLM.out;omega);have c0:=(HR.out wr hB.out).1.cell hlt;have c1:=(HR.out wr hB.out).2.cell (show k<m.length by have:=HLM.out;omega);have ik:(0:Int)≤(k:Int):=(by omega)
    have nk:(k:Int)<(l.length:Int):=(by omega)
    have HD:Hid (l.getD k 0≠m.getD k 0→decide (l=m)=false):=fun h=>decide_eq_false (fun e=>h (by rw[e]));have HS2:Hid (l.getD k 0=m.getD k 0→∀j,j<k+1→l.getD j 0=m.getD j 0):=fun h j hj=>by
     by_cases e:j=k
     ·subst e;exact h
     ·exact hS.out j (by omega)
    have HBN:Hid (∀n,Bl w (wr.drewN n)):=fun n=>below_drewN hB.out n;clear HR HLM hS;generalize l.getD k 0=x at *;generalize m.getD k 0=y at *;by_cases q:x=y
    ·have e1:(x != y)=false:=(by simp[q])
     have HS3:Hid _:=HS2.out q;clear HD HS2 q;(go_wp2_with fail);(go_quiet (fail));(go_wp2_with fail);exact⟨⟨k+1,by omega,by go_num,HS3,HBN.out _⟩,by simp[intOf];omega⟩
    ·have e1:(x != y)=true:=(by simp[q])
     have HD2:Hid _:=HD.out q;clear HD HS2 q;(go_wp2_with fail);(go_quiet (fail));(go_wp2_with fail);go_ret;exact⟨by rw[HD2.out];rfl,HBN.out _⟩
   ·obtain rfl:k=l.length:=by omega
    have HD:Hid (decide (l=m)=true):=decide_eq_true ((list_eq_iff l m).2 ⟨HLM.out,hS.out⟩);clear HR HLM hS;(go_wp2_with fail);go_ret;exact⟨by rw[HD.out];rfl,hB.out⟩
 ·have HD:Hid (decide (l=m)=false):=decide_eq_false (fun e=>hl (by rw[e]));have e1:((l.length:Int) != (m.length:Int))=true:=(by simp;omega)
  have e2:(l.length != m.length)=true:=(by simpa using hl)
  clear hr hr2;go_enter Tryz.func188,Tryz.ntmps188;(go_wp2_with fail);go_ret;exact⟨by rw[HD.out];rfl,Below.refl _ _⟩
def hasP (ports roles calm pts:List Int):Bool:=decide (ports=pts)&&(decide (roles.length=pts.length)&&decide (calm.length=pts.length))
theorem thasports_any (v0 v1 v2 v3 v4 v5:Value) (po:Option Addr) (pc:Nat) (ports:List Int) (ro:Option Addr) (rc:Nat) (roles:List Int) (co:Option Addr) (cc:Nat) (calm:List Int) (bo:Option Addr) (bcap:Nat) (pts:List Int) (w:World) (hn:ports.length≤9223372036854775807) (hr:ILs w po pc ports) (hr2:ILs w bo bcap pts) :
  Calls Tryz.prog 146 #[.agg #[v0,v1,v2,v3,v4,v5,.slice po ports.length pc,.slice ro roles.length rc,.slice co calm.length cc],.slice bo pts.length bcap] w fun e w'=>e=.returned (.bool (hasP ports roles calm pts))∧Bl w w':=by
 obtain⟨W0,HW0⟩:∃W0,Hid (W0=w.alloc (.cells #[v0,v1,v2,v3,v4,v5,.slice po ports.length pc,.slice ro roles.length rc,.slice co calm.length cc] 117)):=⟨_,rfl⟩
 have hb0:Bl w W0:=(by rw[HW0.out];exact bA1 _ _)
 have hm0:W0.heap[w.heap.size]?=some (.cells #[v0,v1,v2,v3,v4,v5,.slice po ports.length pc,.slice ro roles.length rc,.slice co calm.length cc] 117):=(by rw[HW0.out];exact heap_alloc_last _ _)
 have HE:Hid (Calls Tryz.prog 188 #[.slice po ports.length pc,.slice bo pts.length bcap] W0 fun e w'=>e=.returned (.bool (decide (ports=pts)))∧(w'.cell? ⟨w.heap.size,7,none⟩=some (.slice ro roles.length rc)∧w'.cell? ⟨w.heap.size,8,none⟩=some (.slice co calm.length cc))∧Hid (Bl w w')):=(tequal_any po pc ports bo bcap pts W0 hn (hr.below hb0) (hr2.below hb0)).mono (fun e w' h=>⟨h.1,⟨cell_of_row w' _ 7 _ _ _ (keep hm0 h.2),cell_of_row w' _ 8 _ _ _ (keep hm0 h.2)⟩,hb0.trans (h.2.mono hb0.size)⟩);have c6:W0.cell? ⟨w.heap.size,6,none⟩=some (.slice po ports.length pc):=cell_of_row W0 _ 6 _ _ _ hm0;have HH:Hid (hasP ports roles calm pts=(decide (ports=pts)&&(decide (roles.length=pts.length)&&decide (calm.length=pts.length)))):=rfl;clear hr hr2 hb0 hm0;generalize decide (ports=pts)=d1 at *;go_enter Tryz.func146,Tryz.ntmps146;(go_upto_region 1 with fail);rw[←HW0.out];(go_wp2_with fail);refine HE.out.mono ?_;rintro e w1 ⟨rfl,⟨c7,c8⟩,HB1⟩;clear c6 HE;cases d1 with
 | false =>
  have HX:Hid (hasP ports roles calm pts=false):=(by rw[HH.out];rfl)
  (go_wp2_with fail);go_ret;exact⟨by rw[HX.out];rfl,HB1.out⟩
 | true =>
  by_cases q:roles.length=pts.length
  ·have e1:(roles.length == pts.length)=true:=(by simp[q])
   have e2:((roles.length:Int) == (pts.length:Int))=true:=(by simp[q])
   have HX:Hid (hasP ports roles calm pts=decide (calm.length=pts.length)):=(by rw[HH.out,decide_eq_true q];rfl)
   by_cases q2:calm.length=pts.length
   ·have e3:((calm.length:Int) == (pts.length:Int))=true:=(by simp[q2])
    have HX2:Hid (hasP ports roles calm pts=true):=(by rw[HX.out,decide_eq_true q2];rfl)
    clear q q2 HX HH;(go_wp2_with fail);go_ret;exact⟨by rw[HX2.out];simp,HB1.out⟩
   ·have e3:((calm.length:Int) == (pts.length:Int))=false:=(by simp;omega)
    have HX2:Hid (hasP ports roles calm pts=false):=(by rw[HX.out,decide_eq_false q2];rfl)
    clear q q2 HX HH;(go_wp2_with fail);go_ret;exact⟨by rw[HX2.out];simp,HB1.out⟩
  ·have e1:(roles.length == pts.length)=false:=(by simpa using q)
   have e2:((roles.length:Int) == (pts.length:Int))=false:=(by simp;omega)
   have HX:Hid (hasP ports roles calm pts=false):=(by rw[HH.out,decide_eq_false q];rfl)
   clear q HH;(go_wp2_with fail);go_ret;exact⟨by rw[HX.out];rfl,HB1.out⟩
end
section
open Go.RowKit
open Vc (V Of)
open Tk (Md)
structure Mi where
 md:Md
 po:Option Addr
 pc:Nat
 ports:List Int
 ro:Option Addr
 rc:Nat
 roles:List Int
 co:Option Addr
 cc:Nat
 calm:List Int
def mi0:Mi:=⟨⟨⟨0,0,0,0⟩,0,0⟩,none,0,[],none,0,[],none,0,[]⟩
def mat (l:List Mi) (i:Nat):Mi:=l.getD i mi0
def Mi.val (m:Mi):Value:=.agg #[.int .u64 m.md.v.root,.int .i64 m.md.v.cost,.int .u64 m.md.v.bridge,.int .i64 m.md.v.port,.int .i64 m.md.age,.int .i64 m.md.rp,.slice m.po m.ports.length m.pc,.slice m.ro m.roles.length m.rc,.slice m.co m.calm.length m.cc]
def Mi.has (m:Mi) (pts:List Int):Bool:=hasP m.ports m.roles m.calm pts
structure MiIn (w:World) (m:Mi):Prop where
 ports:ILs w m.po m.pc m.ports
 roles:ILs w m.ro m.rc m.roles
 calm:ILs w m.co m.cc m.calm
 pn:m.ports.length≤9223372036854775807
 rn:m.roles.length≤9223372036854775807
 cn:m.calm.length≤9223372036854775807
theorem MiIn.below {w w':World}{m:Mi}(h:MiIn w m) (hb:Bl w w'):MiIn w' m:=⟨h.ports.below hb,h.roles.below hb,h.calm.below hb,h.pn,h.rn,h.cn⟩
structure MiRow (w:World) (ao:Option Addr) (cap:Nat) (l:List Mi):Prop where
 row:CRow w ao l.length cap 9 (fun i=>mdC (mat l i).md (.slice (mat l i).po (mat l i).ports.length (mat l i).pc) (.slice (mat l i).ro (mat l i).roles.length (mat l i).rc) (.slice (mat l i).co (mat l i).calm.length (mat l i).cc))
 each:∀i,i<l.length→MiIn w (mat l i)
 many:l.length≤9223372036854775807
theorem MiRow.below {w w':World}{ao:Option Addr}{cap:Nat}{l:List Mi}(h:MiRow w ao cap l) (hb:Bl w w'):MiRow w' ao cap l:=⟨CRow.below h.row hb,fun i hi=>(h.each i hi).below hb,h.many⟩
theorem MiRow.place {w:World}{ao:Option Addr}{cap:Nat}{l:List Mi}(h:MiRow w ao cap l) (hn:0<l.length):∃b off,ao=.some ⟨b,off,.none⟩∧b<w.heap.size:=by
 obtain⟨b,off,e,hb,_⟩:=h.row.2 hn;exact⟨b,off,e,hb⟩
theorem MiRow.cells {w:World}{b off cap:Nat}{l:List Mi}(h:MiRow w (some ⟨b,off,none⟩) cap l) {i:Nat}(hi:i<l.length) :
  w.cell? ⟨b,off+i*9,none⟩=some (.int .u64 (mat l i).md.v.root)∧w.cell? ⟨b,off+i*9+1,none⟩=some (.int .i64 (mat l i).md.v.cost)∧w.cell? ⟨b,off+i*9+2,none⟩=some (.int .u64 (mat l i).md.v.bridge)∧w.cell? ⟨b,off+i*9+3,none⟩=some (.int .i64 (mat l i).md.v.port)∧w.cell? ⟨b,off+i*9+4,none⟩=some (.int .i64 (mat l i).md.age)∧w.cell? ⟨b,off+i*9+5,none⟩=some (.int .i64 (mat l i).md.rp)∧w.cell? ⟨b,off+i*9+6,none⟩=some (.slice (mat l i).po (mat l i).ports.length (mat l i).pc)∧w.cell? ⟨b,off+i*9+7,none⟩=some (.slice (mat l i).ro (mat l i).roles.length (mat l i).rc)∧w.cell? ⟨b,off+i*9+8,none⟩=some (.slice (mat l i).co (mat l i).calm.length (mat l i).cc):=by
 obtain⟨b',off',e,_,hc⟩:=h.row.2 (by omega);cases e
 exact⟨hc i hi 0 (by omega),hc i hi 1 (by omega),hc i hi 2 (by omega),hc i hi 3 (by omega),hc i hi 4 (by omega),hc i hi 5 (by omega),hc i hi 6 (by omega),hc i hi 7 (by omega),hc i hi 8 (by omega)⟩
structure Po where
 ao:Option Addr
 cap:Nat
 l:List Int
def po0:Po:=⟨none,0,[]⟩
def pat (l:List Po) (i:Nat):Po:=l.getD i po0
structure PoRow (w:World) (ao:Option Addr) (cap:Nat) (l:List Po):Prop where
 row:CRow w ao l.length cap 1 (fun i _=>.slice (pat l i).ao (pat l i).l.length (pat l i).cap)
 each:∀i,i<l.length→ILs w (pat l i).ao (pat l i).cap (pat l i).l
theorem PoRow.below {w w':World}{ao:Option Addr}{cap:Nat}{l:List Po}(h:PoRow w ao cap l) (hb:Bl w w'):PoRow w' ao cap l:=⟨CRow.below h.row hb,fun i hi=>(h.each i hi).below hb⟩
theorem PoRow.place {w:World}{ao:Option Addr}{cap:Nat}{l:List Po}(h:PoRow w ao cap l) (hn:0<l.length):∃b off,ao=.some ⟨b,off,.none⟩∧b<w.heap.size:=by
 obtain⟨b,off,e,hb,_⟩:=h.row.2 hn;exact⟨b,off,e,hb⟩
theorem PoRow.cell {w:World}{b off cap:Nat}{l:List Po}(h:PoRow w (some ⟨b,off,none⟩) cap l) {i:Nat}(hi:i<l.length):w.cell? ⟨b,off+i,none⟩=some (.slice (pat l i).ao (pat l i).l.length (pat l i).cap):=by
 obtain⟨b',off',e,_,hc⟩:=h.row.2 (by omega);cases e
 have:=hc i hi 0 (by omega);simpa using this
def eqF (l:List Mi) (ps:List Po):Bool:=decide (l.length=ps.length∧∀i,i<l.length→(mat l i).has (pat ps i).l=true)
theorem teqf_any (ao:Option Addr) (cap:Nat) (l:List Mi) (bo:Option Addr) (bcap:Nat) (ps:List Po) (w:World) (hr:MiRow w ao cap l) (hr2:PoRow w bo bcap ps) :
  Calls Tryz.prog 145 #[.slice ao l.length cap,.slice bo ps.length bcap,.func (.func 146) #[] #[]] w fun e w'=>e=.returned (.bool (eqF l ps))∧Bl w w':=by
 by_cases hl:l.length=ps.length
 ·have hn:=hr.many;have hcap:l.length≤cap:=hr.row.1;have hcap2:l.length≤bcap:=(by have:=hr2.row.1;omega)
  have HR:Hid (∀W,Bl w W→MiRow W ao cap l∧PoRow W bo bcap ps):=fun W hW=>⟨hr.below hW,hr2.below hW⟩
  have HLM:Hid (l.length=ps.length):=hl;rw[←hl];clear hr hr2 hl;go_enter Tryz.func145,Tryz.ntmps145;(go_wp2_with fail);go_loopw [17] (fun i wr=>∃k:Nat,k≤l.length∧i=.int .i64 k∧Hid (∀j,j<k→(mat l j).has (pat ps j).l=true)∧Hid (Bl w wr)) (fun i _=>l.length-(intOf i).toNat)
  case atStart=>exact⟨0,by omega,rfl,(fun j hj=>absurd hj (by omega)),Below.refl _ _⟩
  case round =>
   obtain⟨k,hk,rfl,hS,hB⟩:=hrel;by_cases hlt:k<l.length
   ·obtain⟨b,off,rfl,_⟩:=(HR.out wr hB.out).1.place (by omega);obtain⟨b2,off2,rfl,_⟩:=(HR.out wr hB.out).2.place (by have:=HLM.out;omega);obtain⟨c0,c1,c2,c3,c4,c5,c6,c7,c8⟩:=(HR.out wr hB.out).1.cells hlt;have d0:=(HR.out wr hB.out).2.cell (show k<ps.length by have:=HLM.out;omega);have ik:(0:Int)≤(k:Int):=(by omega)
    have nk:(k:Int)<(l.length:Int):=(by omega)
    have hm:=(HR.out wr hB.out).1.each k hlt;have hp:=(HR.out wr hB.out).2.each k (by have:=HLM.out;omega);have HC:Hid (∀W,Bl wr W→Calls Tryz.prog 146 #[(mat l k).val,.slice (pat ps k).ao (pat ps k).l.length (pat ps k).cap] W fun e w'=>e=.returned (.bool ((mat l k).has (pat ps k).l))∧Hid (Bl w w')):=fun W hW=>(thasports_any _ _ _ _ _ _ _ _ _ _ _ _ _ _ _ _ _ _ W hm.pn (hm.ports.below hW) (hp.below hW)).mono (fun e w' h=>⟨h.1,(hB.out.trans (hW.mono hB.out.size)).trans (h.2.mono (hB.out.trans (hW.mono hB.out.size)).size)⟩);have HD:Hid ((mat l k).has (pat ps k).l=false→eqF l ps=false):=fun h=>decide_eq_false (fun e=>by have:=e.2 k hlt;rw[h] at this;cases this);have HS2:Hid ((mat l k).has (pat ps k).l=true→∀j,j<k+1→(mat l j).has (pat ps j).l=true):=fun h j hj=>by
     by_cases e:j=k
     ·subst e;exact h
     ·exact hS.out j (by omega)
    clear HR HLM hS hm hp;unfold Mi.val at HC;generalize mat l k=x at *;generalize pat ps k=y at *;cases hq:x.has y.l with
    | true =>
     have HS3:Hid _:=HS2.out hq;rw[hq] at HC;clear HD HS2 hq;(go_wp2_with fail);refine(HC.out _ (bA1 _ _)).mono ?_;rintro e w2 ⟨rfl,HB2⟩;clear HC c0 c1 c2 c3 c4 c5 c6 c7 c8 d0;(go_wp2_with fail);exact⟨⟨k+1,by omega,by go_num,HS3,HB2⟩,by simp[intOf];omega⟩
    | false =>
     have HS3:Hid _:=HD.out hq;rw[hq] at HC;clear HD HS2 hq;(go_wp2_with fail);refine(HC.out _ (bA1 _ _)).mono ?_;rintro e w2 ⟨rfl,HB2⟩;clear HC c0 c1 c2 c3 c4 c5 c6 c7 c8 d0;(go_wp2_with fail);go_ret;exact⟨by rw[HS3.out];rfl,HB2.out⟩
   ·obtain rfl:k=l.length:=by omega
    have HD:Hid (eqF l ps=true):=decide_eq_true ⟨HLM.out,hS.out⟩;clear HR HLM hS;(go_wp2_with fail);go_ret;exact⟨by rw[HD.out];rfl,hB.out⟩
 ·have HD:Hid (eqF l ps=false):=decide_eq_false (fun e=>hl e.1);have e1:((l.length:Int) != (ps.length:Int))=true:=(by simp;omega)
  have e2:(l.length != ps.length)=true:=(by simpa using hl)
  clear hr hr2;go_enter Tryz.func145,Tryz.ntmps145;(go_wp2_with fail);go_ret;exact⟨by rw[HD.out];rfl,Below.refl _ _⟩
end
section
open Go.RowKit
open Tk (Md)
structure Tr where
 ao:Option Addr
 cap:Nat
 l:List Mi
def tr0:Tr:=⟨none,0,[]⟩
def tat (t:List Tr) (i:Nat):Tr:=t.getD i tr0
structure TrRow (w:World) (ao:Option Addr) (cap:Nat) (t:List Tr):Prop where
 row:CRow w ao t.length cap 1 (fun i _=>.slice (tat t i).ao (tat t i).l.length (tat t i).cap)
 each:∀i,i<t.length→MiRow w (tat t i).ao (tat t i).cap (tat t i).l
 many:t.length≤9223372036854775807
theorem TrRow.below {w w':World}{ao:Option Addr}{cap:Nat}{t:List Tr}(h:TrRow w ao cap t) (hb:Bl w w'):TrRow w' ao cap t:=⟨CRow.below h.row hb,fun i hi=>(h.each i hi).below hb,h.many⟩
theorem TrRow.place {w:World}{ao:Option Addr}{cap:Nat}{t:List Tr}(h:TrRow w ao cap t) (hn:0<t.length):∃b off,ao=.some ⟨b,off,.none⟩∧b<w.heap.size:=by
 obtain⟨b,off,e,hb,_⟩:=h.row.2 hn;exact⟨b,off,e,hb⟩
theorem TrRow.cell {w:World}{b off cap:Nat}{t:List Tr}(h:TrRow w (some ⟨b,off,none⟩) cap t) {i:Nat}(hi:i<t.length):w.cell? ⟨b,off+i,none⟩=some (.slice (tat t i).ao (tat t i).l.length (tat t i).cap):=by
 obtain⟨b',off',e,_,hc⟩:=h.row.2 (by omega);cases e
 have:=hc i hi 0 (by omega);simpa using this
def oddT (t:List Tr) (ps:List Po):Bool:=decide (∃i,i<t.length∧eqF (tat t i).l ps=false)
theorem tfits1_any (x:Tr) (bo:Option Addr) (bcap:Nat) (ps:List Po) (Bp:Nat) (w:World) (hr:MiRow w x.ao x.cap x.l) (hr2:PoRow w bo bcap ps) (hp:w.cell? ⟨Bp,0,none⟩=some (.slice bo ps.length bcap)) :
  Calls Tryz.prog 144 #[.slice x.ao x.l.length x.cap,.pointer (some ⟨Bp,0,none⟩)] w fun e w'=>e=.returned (.bool (!(eqF x.l ps)))∧Bl w w':=by
 have l1:=block_lt_of_cell hp;have HC:Hid (Calls Tryz.prog 145 #[.slice x.ao x.l.length x.cap,.slice bo ps.length bcap,.func (.func 146) #[] #[]] w fun e w'=>e=.returned (.bool (eqF x.l ps))∧Hid (Bl w w')):=(teqf_any x.ao x.cap x.l bo bcap ps w hr hr2).mono (fun e w' h=>⟨h.1,h.2⟩);clear hr hr2;generalize eqF x.l ps=d at *;go_enter Tryz.func144,Tryz.ntmps144;go_wp2_with (go_at_call 145;refine HC.out.mono ?_;rintro e w1 ⟨rfl,HB1⟩)
 go_ret;exact⟨rfl,HB1.out⟩
theorem tindexf_any (ao:Option Addr) (cap:Nat) (t:List Tr) (bo:Option Addr) (bcap:Nat) (ps:List Po) (Bp:Nat) (w:World) (hr:TrRow w ao cap t) (hr2:PoRow w bo bcap ps) (hp:w.cell? ⟨Bp,0,none⟩=some (.slice bo ps.length bcap)) :
  Calls Tryz.prog 189 #[.slice ao t.length cap,.func (.func 144) #[] #[.pointer (some ⟨Bp,0,none⟩)]] w fun e w'=>∃r:Int,e=.returned (.int .i64 r)∧decide (r≥0)=oddT t ps∧Bl w w':=by
 have hn:=hr.many;have hcap:t.length≤cap:=hr.row.1;have l1:=block_lt_of_cell hp;have HR:Hid (∀W,Bl w W→TrRow W ao cap t):=fun W hW=>hr.below hW;have HC:Hid (∀W,Bl w W→∀k,k<t.length→Calls Tryz.prog 144 #[.slice (tat t k).ao (tat t k).l.length (tat t k).cap,.pointer (some ⟨Bp,0,none⟩)] W fun e w'=>e=.returned (.bool (!(eqF (tat t k).l ps)))∧Hid (Bl w w')):=fun W hW k hk=>(tfits1_any (tat t k) bo bcap ps Bp W ((hr.each k hk).below hW) (hr2.below hW) ((hW.cell (by exact l1)).trans hp)).mono (fun e w' h=>⟨h.1,hW.trans (h.2.mono hW.size)⟩);clear hr hr2 hp l1;go_enter Tryz.func189,Tryz.ntmps189;(go_wp2_with fail);go_loopw [8] (fun i wr=>∃k:Nat,k≤t.length∧i=.int .i64 k∧Hid (∀j,j<k→eqF (tat t j).l ps=true)∧Hid (Bl w wr)) (fun i _=>t.length-(intOf i).toNat)
 case atStart=>exact⟨0,by omega,rfl,(fun j hj=>absurd hj (by omega)),Below.refl _ _⟩
 case round =>
  obtain⟨k,hk,rfl,hS,hB⟩:=hrel;by_cases hlt:k<t.length
  ·obtain⟨b,off,rfl,_⟩:=(HR.out wr hB.out).place (by omega);have c0:=(HR.out wr hB.out).cell hlt;have ik:(0:Int)≤(k:Int):=(by omega)
   have nk:(k:Int)<(t.length:Int):=(by omega)
   have HCG:Hid (Calls Tryz.prog 144 #[.slice (tat t k).ao (tat t k).l.length (tat t k).cap,.pointer (some ⟨Bp,0,none⟩)] wr fun e w'=>e=.returned (.bool (!(eqF (tat t k).l ps)))∧Hid (Bl w w')):=HC.out wr hB.out k hlt;have HD:Hid (eqF (tat t k).l ps=false→decide ((k:Int)≥0)=oddT t ps):=fun h=>by
    show decide ((k:Int)≥0)=oddT t ps;unfold oddT;rw[decide_eq_true (show(k:Int)≥0 by omega),decide_eq_true (show ∃i,i<t.length∧eqF (tat t i).l ps=false from⟨k,hlt,h⟩)]
   have HS2:Hid (eqF (tat t k).l ps=true→∀j,j<k+1→eqF (tat t j).l ps=true):=fun h j hj=>by
    by_cases e:j=k
    ·subst e;exact h
    ·exact hS.out j (by omega)
   clear HR HC hS hB;generalize tat t k=x at *;cases hq:eqF x.l ps with
   | true =>
    have HS3:Hid _:=HS2.out hq;rw[hq,Bool.not_true] at HCG;clear HD HS2 hq;go_wp2_with (go_at_call 144;refine HCG.out.mono ?_;rintro e w2 ⟨rfl,HB2⟩)
    exact⟨⟨k+1,by omega,by go_num,HS3,HB2⟩,by simp[intOf];omega⟩
   | false =>
    have HS3:Hid _:=HD.out hq;rw[hq,Bool.not_false] at HCG;clear HD HS2 hq;go_wp2_with (go_at_call 144;refine HCG.out.mono ?_;rintro e w2 ⟨rfl,HB2⟩)
    go_ret;exact⟨_,rfl,HS3.out,HB2.out⟩
  ·obtain rfl:k=t.length:=by omega
   have HN:¬∃i,i<t.length∧eqF (tat t i).l ps=false:=by
    rintro⟨i,hi,h⟩;rw[hS.out i hi] at h;cases h
   have HD:Hid (decide ((-1:Int)≥0)=oddT t ps):=by
    show decide ((-1:Int)≥0)=oddT t ps;unfold oddT;rw[decide_eq_false (show ¬(-1:Int)≥0 by omega),decide_eq_false HN]
   clear HN;clear HR HC hS;(go_wp2_with fail);go_ret;exact⟨_,rfl,HD.out,hB.out⟩
theorem tcontf_any (ao:Option Addr) (cap:Nat) (t:List Tr) (bo:Option Addr) (bcap:Nat) (ps:List Po) (Bp:Nat) (w:World) (hr:TrRow w ao cap t) (hr2:PoRow w bo bcap ps) (hp:w.cell? ⟨Bp,0,none⟩=some (.slice bo ps.length bcap)) :
  Calls Tryz.prog 147 #[.slice ao t.length cap,.func (.func 144) #[] #[.pointer (some ⟨Bp,0,none⟩)]] w fun e w'=>e=.returned (.bool (oddT t ps))∧Bl w w':=by
 have HC:Hid (Calls Tryz.prog 189 #[.slice ao t.length cap,.func (.func 144) #[] #[.pointer (some ⟨Bp,0,none⟩)]] w fun e w'=>∃r:Int,e=.returned (.int .i64 r)∧Hid (decide (r≥0)=oddT t ps∧Bl w w')):=(tindexf_any ao cap t bo bcap ps Bp w hr hr2 hp).mono (fun e w' ⟨r,h1,h2,h3⟩=>⟨r,h1,h2,h3⟩);clear hr hr2 hp;generalize oddT t ps=d at *;go_enter Tryz.func147,Tryz.ntmps147;go_wp2_with (go_at_call 189;refine HC.out.mono ?_;rintro e w1 ⟨r,rfl,H1⟩)
 go_ret;exact⟨by rw[←H1.out.1];rfl,H1.out.2⟩
end
end Go.Proofs.YtelebnancdjjiaaGreatDoor
