/- TopRing: On behind Play: a link goes down -/
import Derived.Test.YtflghpnpjmodaaaGreatDoorO39
import Derived.Test.YtflghpnpjmodaaaGreatDoorO28
import Derived.BigQuiet
set_option maxRecDepth 100000
set_option maxHeartbeats 6000000
namespace Go.Proofs.YtflghpnpjmodaaaGreatDoor
section
open Go.RowKit
open Pl (Br Net)
open Bk (E at')
open Rl (F O)
structure IsM (n:Net) (t:List Tr) (M:Ln.Sm):Prop where
 vid:1≤M.vid∧M.vid≤4094
 tree:∀i,i<n.K→0≤Ln.tr n M.vid i∧Ln.tr n M.vid i<t.length
 ps:∀i,i<n.K→Ln.ps n i=M.ps i
 op:∀i,i<n.K→∀p∈M.ps i,Ln.op n t M.vid i p=M.op i p
 cr:∀i,i<n.K→∀p∈M.ps i,(crossTo n.ls n.L ((i:Int),p)).map (fun z=>(z.1.toNat,z.2))=M.cr i p
structure Sent (w:World) (n:Net) (oao:Option Addr) (ocap:Nat) (t:List Tr):Prop where
 wf:n.Wf
 net:n.at' w
 right:n.wrong.1=0
 row:TrRow w oao ocap t
 fit:fitT n t=true
 calm:CalmT t
 tabs:Tabs w
 top:2≤w.heap.size
theorem Sent.below {w w':World}{n:Net}{oao:Option Addr}{ocap:Nat}{t:List Tr}(h:Sent w n oao ocap t) (hb:Below w.heap.size w w'):Sent w' n oao ocap t :=
 ⟨h.wf,h.net.below hb,h.right,h.row.below hb,h.fit,h.calm,h.tabs.below hb h.top,Nat.le_trans h.top hb.size⟩
theorem Sent.on {w:World}{n:Net}{oao:Option Addr}{ocap:Nat}{t:List Tr}(h:Sent w n oao ocap t):onErr n t dn0 0=(0,0):=by
 have e:wrT n t 0=(0,0):=by
  unfold wrT;rw[if_neg (fun q=>q h.right),h.fit]
  rfl
 unfold onErr;rw[e];rfl
def frF (dst src:Int):F:=⟨dst,src,false,0,false,0,2048,none,0,0,fun _=>0⟩
theorem send_is {w:World}{n:Net}{oao:Option Addr}{ocap:Nat}{t:List Tr}(h:Sent w n oao ocap t) {M:Ln.Sm}(hM:IsM n t M) (hd:0≤M.dst∧M.dst≤281474976710655) (hs:0≤M.src∧M.src≤281474976710655) (hg:M.src/1099511627776%2≠1)
  {ko:Option Addr}{kcap:Nat}{bks:Nat→List E}{bo:Nat→Option Addr}{bc:Nat→Nat}(hb:BIn w ko n.K kcap bks bo bc) {bl:List (List E)}(hl:bl.length=n.K) (hbl:∀i,i<n.K→bks i=bl.getD i []∧Bk.Book (bks i)) {i:Nat}(hi:i<n.K) {S:Ln.Ss}(hS:S=M.run 41 ⟨[],[(i,0)],bl⟩) (hw:S.wait=[]) :
  Calls Tryz.prog 30 #[.agg #[.slice n.bao n.K n.bcap,.slice n.lao n.L n.lcap],.agg #[.slice oao t.length ocap],.slice ko n.K kcap,.int .i64 (i:Int),.int .i64 M.vid,.agg #[.int .u64 M.dst,.int .u64 M.src,.bool false,.int .i64 0,.bool false,.int .i64 0,.int .i64 2048,.slice none 0 0]] w fun e w'=>∃so sc gk,e=.returned (.tuple #[.slice so S.seen.length sc,.slice (some ⟨gk,0,none⟩) n.K n.K,.bool true,.agg #[.int .i64 0,.int .i64 0]])∧Hid (Below w.heap.size w w'∧∃ss bks' bo' bc',ss.map AV.i=S.seen∧SdIs w w' n.K (frF M.dst M.src) ⟨S.seen.map (fun i=>(i,Ln.lv M.vid 0)),[],bks',0⟩ so sc ss gk bo' bc'∧∀i,i<n.K→bks' i=S.books.getD i []∧Bk.Book (bks' i)):=by
 have hR:=right_of h.wf h.right;have hfw:wrong M.dst M.src false 0 0 2048 0=0:=by
  unfold wrong;rw[if_neg (by omega),if_neg hg,if_neg (by simp),if_neg (by decide),if_neg (by decide)]
 have hH:Ln.Hs n t M.vid (frF M.dst M.src):=⟨hR,(fit_iff.1 h.fit).1.2,hM.vid,hM.tree,hfw⟩;have hrel:=Ln.sent_run hH rfl hl hbl hi;have hrun:(Ln.model n t M.vid (frF M.dst M.src)).run 41 ⟨[],[(i,0)],bl⟩=S:=by
  rw[hS];refine Ln.run_congr (K:=n.K) (M:=Ln.model n t M.vid (frF M.dst M.src)) (N:=M) rfl rfl rfl hM.ps (fun q hq p hp=>hM.op q hq p (by rw[←hM.ps q hq];exact hp)) (fun q hq p hp=>hM.cr q hq p (by rw[←hM.ps q hq];exact hp)) (fun q hq p hp z hz => ?_) 41 _ (fun x hx => ?_)
  ·obtain⟨y,hy,rfl⟩:=Option.map_eq_some_iff.1 hz;obtain⟨c1,c2,c3⟩:=Ln.cross_mem hR hy;exact⟨c1,List.mem_cons_of_mem _ c2⟩
  ·obtain rfl:x=(i,0):=by simpa using hx
   exact⟨hi,List.mem_cons_self⟩
 rw[hrun] at hrel;have hst:stray n M.vid t.length=false:=by
  unfold stray;refine decide_eq_false ?_;rintro⟨q,hq,h1⟩;unfold strayB at h1;have h2:=(hM.tree q hq).2;unfold Ln.tr at h2;have:=of_decide_eq_true h1;omega
 have hse:sErr n t n.K (i:Int) M.vid (frF M.dst M.src)=(0,0):=by
  unfold sErr;rw[h.on,if_neg (fun q=>q rfl)]
  unfold besErr;rw[if_neg (fun q=>q rfl),if_neg (fun q=>q (by omega)),if_neg (fun q=>q hM.vid),if_neg (show ¬(frF M.dst M.src).tagged=true from fun q=>by cases q)]
  have e:wrong (frF M.dst M.src).dst (frF M.dst M.src).src (frF M.dst M.src).tagged (frF M.dst M.src).prio (frF M.dst M.src).vid (frF M.dst M.src).type (frF M.dst M.src).n=0:=hfw;rw[if_neg (fun q=>q e),hst,if_neg (by decide)]
 have hK:=hR.few;refine(jsend_any n oao ocap t ko n.K kcap bks bo bc (i:Int) M.vid (frF M.dst M.src) w h.wf h.net h.row h.calm h.tabs h.top (by omega) hb (⟨Nat.le_refl _,fun q=>absurd q (Nat.lt_irrefl 0)⟩) (fun _=>⟨rfl,rfl⟩) ⟨hd.1,by show M.dst<_;omega⟩ ⟨hs.1,by show M.src<_;omega⟩).mono ?_
 rintro e w' ⟨z1,z2⟩;rw[hse] at z2;have hrel2:Ln.Rel n M.vid (sent n t M.vid (frF M.dst M.src) bks (i:Int).toNat) S:=hrel;generalize sent n t M.vid (frF M.dst M.src) bks (i:Int).toNat=RR at *;have hwt:RR.wait=[]:=by
  have:=hrel2.wait;rw[hw] at this;exact List.map_eq_nil_iff.1 this
 rcases z2 with⟨q,_⟩ | ⟨_,⟨q,_⟩ | ⟨_,_,so,sc,ss,gk,bo',bc',rfl,hI⟩⟩
 ·exact absurd rfl q
 ·exact absurd ⟨hrel2.err,hwt⟩ q
 ·have hm:ss.map AV.i=S.seen:=by
   have h1:=hI.map;rw[hrel2.seen] at h1;have h2:=congrArg (List.map Prod.fst) h1;rw[List.map_map,List.map_map] at h2;have e1:(Prod.fst ∘ AV.p)=AV.i:=rfl;have e2:((Prod.fst:Nat×O→Nat) ∘ fun i=>(i,Ln.lv M.vid 0))=id:=rfl
   rw[e1,e2,List.map_id] at h2;exact h2
  have hlen:ss.length=S.seen.length:=(by rw[←hm,List.length_map]);refine⟨so,sc,gk,by rw[hlen],z1,ss,RR.books,bo',bc',hm,?_,hrel2.books⟩
  exact⟨hI.map.trans hrel2.seen,hI.row,hI.data,hI.books,hI.own⟩
end
section
open Go.RowKit
open Vc (V Of)
open Pl (Br Net Pc Lk En St ringE lineE ringId)
open Tk (Md Mnd Cn Sc Dn ten yes)
def onF (ids:Nat→Int) (F:Nat→List En) (K i j:Nat):Bool :=
 let r:=Pl.roleAt (Pl.sat (Pl.finL ids F K) i) (Pl.offs (F i) (Pl.sat (Pl.finL ids F K))) (EL (F i) j)
 decide (r=1)||decide (r=2)
theorem opens_by {W:World}{n:Net}{T:Nat}{ds:Nat→Dn}{dn:Nat}{tk:Int}{n':Net}{oa:Option Addr}{oc:Nat}{t':List Tr}(h:SnOut W n T ((n.sc (startMs n)).all n.cn (dsT dn ds tk) (dn+1)) n' oa oc t') (hw:n.Wf) (h0:n.wrong.1=0) (he:∀k,k<dn→Tk.errOf n.cn (ds k)=0) (ht:83≤tk.toNat)
  {tree i j K:Nat}(hT:tree<T) (hK:n'.K=K) {F:Nat→List En}{ids:Nat→Int}(hi:i<K) (hE:∀q,q<K→n'.ends q=F q) (hF:∀q,q<K→∀e,e∈F q→e.other.toNat<K) (hids:n'.ids (tree:Int)=ids) (hj:j<(F i).length):opT t' tree i (EL (F i) j).port=onF ids F K i j:=by
 have e1:=(sn_net h).1;have hO:=sn_opens (j:=j) (k:=tree) h hw h0 he ht hT (show i<n.K by omega) (by rw[hE i hi];exact hj)
 rw[hids,hK,hE i hi] at hO;have hf:∀q,q<K→Pl.rounds ids n'.ends K K q=Pl.sat (Pl.finL ids F K) q:=fun q hq=>(Pl.finL_by hE hF hq).symm
 have hoffs:Pl.offs (F i) (Pl.rounds ids n'.ends K K)=Pl.offs (F i) (Pl.sat (Pl.finL ids F K)):=Pl.offs_congr (fun e he _=>by rw[hf _ (hF i hi e he)])
 rw[hf i hi,hoffs] at hO;rw[hO];unfold onF;simp only;rw[Bool.decide_or]
theorem sn_sent {W:World}{n:Net}{T:Nat}{ds:Nat→Dn}{dn:Nat}{n':Net}{oa:Option Addr}{oc:Nat}{t':List Tr}(h:SnOut W n T ((n.sc (startMs n)).all n.cn ds dn) n' oa oc t') (hw:n.Wf) (h0:n.wrong.1=0) (he:∀k,k<dn→Tk.errOf n.cn (ds k)=0) (hT:1≤T∧T≤4) (ht:Tabs W) (hg:2≤W.heap.size):Sent W n' oa oc t':=by
 obtain⟨h1,h2,_⟩:=sn_fit h hT (sn_pts h hw h0 he);exact⟨h.wf,h.net,h.right,h.row,h1,h2,ht,hg⟩
theorem all_at {m:Nat}{P:Nat→Bool}(h:(List.range m).all P=true) {i:Nat}(hi:i<m):P i=true:=List.all_eq_true.1 h i (List.mem_range.2 hi)
section
variable {k:Nat}{a5:Option Addr}{c5:Nat}{a6:Option Addr}{c6:Nat}
end
end
section
open Go.RowKit
open Pl (Br Net)
open Bk (E at')
theorem below_a {X V:World}{o:Obj}(h:Below X.heap.size X V):Below X.heap.size X (V.alloc o):=h.trans ((bA1 V o).mono h.size)
theorem none_bin2 {W:World}{g K:Nat}(h:W.heap[g]?=some (.cells (rowC K 1 (fun _ _=>.slice none 0 0)) 186)):BIn W (some ⟨g,0,none⟩) K K (fun _=>[]) (fun _=>none) (fun _=>0):=by
 refine⟨⟨Nat.le_refl _,fun _=>⟨g,0,rfl,(gSm.1 h).1,fun i hi j hj => ?_⟩⟩,fun i hi=>⟨⟨Nat.le_refl _,fun q=>absurd q (by simp)⟩,fun _=>⟨rfl,rfl⟩,by simp⟩⟩
 have:=rowC_cell h hi hj;rw[Nat.zero_add];exact this
def bare (K:Nat):List (List E):=List.replicate K []
theorem usend_any {w:World}{n:Net}{oao:Option Addr}{ocap:Nat}{t:List Tr}(h:Sent w n oao ocap t) {M:Ln.Sm}(hM:IsM n t M) (hd:M.dst=281474976710655) (hs:M.src=5) {i:Nat}(hi:i<n.K) {S:Ln.Ss}(hS:S=M.run 41 ⟨[],[(i,0)],bare n.K⟩) (hw:S.wait=[]) :
  Calls Tryz.prog 28 #[.agg #[.slice n.bao n.K n.bcap,.slice n.lao n.L n.lcap],.agg #[.slice oao t.length ocap],.int .i64 (i:Int),.int .i64 M.vid] w fun e w'=>∃so sc,e=.returned (.tuple #[.slice so S.seen.length sc,.bool true])∧Hid (Below w.heap.size w w'):=by
 have hK:=(right_of h.wf h.right).few;obtain⟨X,HX⟩:∃X,Hid (X=(w.alloc (.cells #[.slice n.bao n.K n.bcap,.slice n.lao n.L n.lcap] 32)).alloc (.cells #[.slice oao t.length ocap] 43)):=⟨_,rfl⟩;have hXB:Below w.heap.size w X:=(by rw[HX.out];exact bA2 _ _ _);have hX0:X.heap[w.heap.size]?=some (.cells #[.slice n.bao n.K n.bcap,.slice n.lao n.L n.lcap] 32):=(by rw[HX.out];exact heap_alloc2_old _ _ _);have hX1:X.heap[w.heap.size+1]?=some (.cells #[.slice oao t.length ocap] 43):=(by rw[HX.out];exact heap_alloc2_new _ _ _);have hmk:∀W:World,(Instr.makeSlice 93 (.int .i64 (n.K:Int)) (.int .i64 (n.K:Int))).run Tryz.prog W=.ok (.slice (some ⟨W.heap.size,0,none⟩) n.K n.K) (W.alloc (.cells (rowC n.K 1 (fun _ _=>.slice none 0 0)) 186)):=fun W=>make_rowD W 93 186 (.slice none 0 0) 1 24 n.K Tryz.underlying93 (by kernel_rfl) (by omega) rfl (by omega) (by omega) _ (fun _ j hj=>by rw[show j=0 by omega];rfl)
 have HCC:Hid (∀V,Below X.heap.size X V→(V.cell? ⟨w.heap.size,0,none⟩=some (.slice n.bao n.K n.bcap)∧V.cell? ⟨w.heap.size,1,none⟩=some (.slice n.lao n.L n.lcap))∧V.cell? ⟨w.heap.size+1,0,none⟩=some (.slice oao t.length ocap)):=fun V hV=>⟨tC2 (keep hX0 hV),cell_of_row _ _ 0 _ _ _ (keep hX1 hV)⟩
 have HSD:Hid (∀(V:World) (g:Nat) {Q:Ending→World→Prop},Below X.heap.size X V→V.heap[g]?=some (.cells (rowC n.K 1 (fun _ _=>.slice none 0 0)) 186)→(∀e w',(∃so sc gk,e=.returned (.tuple #[.slice so S.seen.length sc,.slice (some ⟨gk,0,none⟩) n.K n.K,.bool true,.agg #[.int .i64 0,.int .i64 0]])∧Below V.heap.size V w'∧Hid (Below X.heap.size X w'))→Q e w')→Calls Tryz.prog 30 #[.agg #[.slice n.bao n.K n.bcap,.slice n.lao n.L n.lcap],.agg #[.slice oao t.length ocap],.slice (some ⟨g,0,none⟩) n.K n.K,.int .i64 (i:Int),.int .i64 M.vid,.agg #[.int .u64 281474976710655,.int .u64 5,.bool false,.int .i64 0,.bool false,.int .i64 0,.int .i64 2048,.slice none 0 0]] V Q):=fun V g Q hV hg hQ=>by
  have hs1:=send_is (h.below (hXB.trans (hV.mono hXB.size))) hM (by rw[hd];decide) (by rw[hs];decide) (by rw[hs];decide) (none_bin2 hg) (bl:=bare n.K) (by simp[bare]) (fun q hq=>⟨by simp[bare,hq],⟨by simp,fun e he=>by simp at he,List.Pairwise.nil⟩⟩) hi hS hw
  rw[hd,hs] at hs1;refine hs1.mono ?_;rintro e w' ⟨so,sc,gk,rfl,H⟩;exact hQ _ _ ⟨so,sc,gk,rfl,H.out.1,hV.trans (H.out.1.mono hV.size)⟩
 have HXB:Hid (Below w.heap.size w X):=hXB;have HFE:Hid (∀V,Below X.heap.size X V→Below w.heap.size w V):=fun V hV=>hXB.trans (hV.mono hXB.size)
 have le0:X.heap.size≤X.heap.size:=Nat.le_refl _;have le1:X.heap.size≤X.heap.size+1:=(by omega);have HB0:Hid (Below X.heap.size X X.drew):=Below.drew (Below.refl _ _);have HBA:Hid (∀V o,Below X.heap.size X V→Below X.heap.size X (V.alloc o)):=fun V o hV=>below_a hV
 have HR1:Hid (Below X.heap.size X (X.alloc (.cells (rowC n.K 1 (fun _ _=>.slice none 0 0)) 186)).drew∧(X.alloc (.cells (rowC n.K 1 (fun _ _=>.slice none 0 0)) 186)).drew.heap[X.heap.size]?=some (.cells (rowC n.K 1 (fun _ _=>.slice none 0 0)) 186)):=⟨Below.drew (below_a (Below.refl _ _)),heap_alloc_last X _⟩
 have HR2:Hid (Below X.heap.size X ((X.alloc (.cells #[.int .i64 0,.int .i64 0] 26)).alloc (.cells (rowC n.K 1 (fun _ _=>.slice none 0 0)) 186)).drew∧((X.alloc (.cells #[.int .i64 0,.int .i64 0] 26)).alloc (.cells (rowC n.K 1 (fun _ _=>.slice none 0 0)) 186)).drew.heap[X.heap.size+1]?=some (.cells (rowC n.K 1 (fun _ _=>.slice none 0 0)) 186)):=⟨Below.drew (below_a (below_a (Below.refl _ _))),heap_alloc2_new X _ _⟩
 have HR3:Hid (Below X.heap.size X ((X.alloc (.cells (rowC n.K 1 (fun _ _=>.slice none 0 0)) 186)).alloc (.cells #[.int .i64 0,.int .i64 0] 26)).drew∧((X.alloc (.cells (rowC n.K 1 (fun _ _=>.slice none 0 0)) 186)).alloc (.cells #[.int .i64 0,.int .i64 0] 26)).drew.heap[X.heap.size]?=some (.cells (rowC n.K 1 (fun _ _=>.slice none 0 0)) 186)):=⟨Below.drew (below_a (below_a (Below.refl _ _))),heap_alloc2_old X _ _⟩
 have HR4:Hid (Below X.heap.size X (X.alloc (.cells #[.int .i64 0,.int .i64 0] 26)).drew):=Below.drew (below_a (Below.refl _ _));have HS1:Hid (Calls Tryz.prog 30 #[.agg #[.slice n.bao n.K n.bcap,.slice n.lao n.L n.lcap],.agg #[.slice oao t.length ocap],.slice (some ⟨X.heap.size,0,none⟩) n.K n.K,.int .i64 (i:Int),.int .i64 M.vid,.agg #[.int .u64 281474976710655,.int .u64 5,.bool false,.int .i64 0,.bool false,.int .i64 0,.int .i64 2048,.slice none 0 0]] ((X.alloc (.cells (rowC n.K 1 (fun _ _=>.slice none 0 0)) 186)).drew) fun e w'=>∃so sc gk,e=.returned (.tuple #[.slice so S.seen.length sc,.slice (some ⟨gk,0,none⟩) n.K n.K,.bool true,.agg #[.int .i64 0,.int .i64 0]])∧Hid (Below X.heap.size X w')):=HSD.out _ _ HR1.out.1 HR1.out.2 (by
  rintro e w' ⟨so,sc,gk,rfl,_,h2⟩;exact⟨so,sc,gk,rfl,h2⟩)
 have HFF:Hid (∀V w' g,Below V.heap.size V w'→V.heap[g]?=some (.cells #[.int .i64 0,.int .i64 0] 26)→w'.cell? ⟨g,0,none⟩=some (.int .i64 0)∧w'.cell? ⟨g,1,none⟩=some (.int .i64 0)∧w'.frozen? ⟨g,0,none⟩=false∧w'.frozen? ⟨g,1,none⟩=false∧g<w'.heap.size):=fun V w' g hV hg=>by
  have h1:=keep hg hV;exact⟨(tC2 h1).1,(tC2 h1).2,lF0 h1 0,lF0 h1 1,(gSm.1 h1).1⟩
 have HS2:Hid (Calls Tryz.prog 30 #[.agg #[.slice n.bao n.K n.bcap,.slice n.lao n.L n.lcap],.agg #[.slice oao t.length ocap],.slice (some ⟨X.heap.size+1,0,none⟩) n.K n.K,.int .i64 (i:Int),.int .i64 M.vid,.agg #[.int .u64 281474976710655,.int .u64 5,.bool false,.int .i64 0,.bool false,.int .i64 0,.int .i64 2048,.slice none 0 0]] (((X.alloc (.cells #[.int .i64 0,.int .i64 0] 26)).alloc (.cells (rowC n.K 1 (fun _ _=>.slice none 0 0)) 186)).drew) fun e w'=>∃so sc gk,e=.returned (.tuple #[.slice so S.seen.length sc,.slice (some ⟨gk,0,none⟩) n.K n.K,.bool true,.agg #[.int .i64 0,.int .i64 0]])∧w'.cell? ⟨X.heap.size,0,none⟩=some (.int .i64 0)∧w'.cell? ⟨X.heap.size,1,none⟩=some (.int .i64 0)∧w'.frozen? ⟨X.heap.size,0,none⟩=false∧w'.frozen? ⟨X.heap.size,1,none⟩=false∧X.heap.size<w'.heap.size∧Hid (Below X.heap.size X w')):=HSD.out _ _ HR2.out.1 HR2.out.2 (by
  rintro e w' ⟨so,sc,gk,rfl,h1,h2⟩;obtain⟨f0,f1,f2,f3,f4⟩:=HFF.out _ w' X.heap.size h1 (heap_alloc2_old X _ _);exact⟨so,sc,gk,rfl,f0,f1,f2,f3,f4,h2⟩)
 have HS3:Hid (Calls Tryz.prog 30 #[.agg #[.slice n.bao n.K n.bcap,.slice n.lao n.L n.lcap],.agg #[.slice oao t.length ocap],.slice (some ⟨X.heap.size,0,none⟩) n.K n.K,.int .i64 (i:Int),.int .i64 M.vid,.agg #[.int .u64 281474976710655,.int .u64 5,.bool false,.int .i64 0,.bool false,.int .i64 0,.int .i64 2048,.slice none 0 0]] (((X.alloc (.cells (rowC n.K 1 (fun _ _=>.slice none 0 0)) 186)).alloc (.cells #[.int .i64 0,.int .i64 0] 26)).drew) fun e w'=>∃so sc gk,e=.returned (.tuple #[.slice so S.seen.length sc,.slice (some ⟨gk,0,none⟩) n.K n.K,.bool true,.agg #[.int .i64 0,.int .i64 0]])∧w'.cell? ⟨X.heap.size+1,0,none⟩=some (.int .i64 0)∧w'.cell? ⟨X.heap.size+1,1,none⟩=some (.int .i64 0)∧w'.frozen? ⟨X.heap.size+1,0,none⟩=false∧w'.frozen? ⟨X.heap.size+1,1,none⟩=false∧X.heap.size+1<w'.heap.size∧Hid (Below X.heap.size X w')):=HSD.out _ _ HR3.out.1 HR3.out.2 (by
  rintro e w' ⟨so,sc,gk,rfl,h1,h2⟩;obtain⟨f0,f1,f2,f3,f4⟩:=HFF.out _ w' (X.heap.size+1) h1 (heap_alloc2_new X _ _);exact⟨so,sc,gk,rfl,f0,f1,f2,f3,f4,h2⟩)
 clear h hM hd hs hi hS hw hX0 hX1 hXB HSD HFF;generalize S.seen.length=sn at *;generalize M.vid=vid at *;go_enter Tryz.func28,Tryz.ntmps28
 go_wp2_with fail
 rw[←HX.out];go_region_held3 (fun V=>(V.cell? ⟨w.heap.size,0,none⟩=some (.slice n.bao n.K n.bcap)∧V.cell? ⟨w.heap.size,1,none⟩=some (.slice n.lao n.L n.lcap))∧V.cell? ⟨w.heap.size+1,0,none⟩=some (.slice oao t.length ocap))
  (first | exact HCC.out _ (Hid.out (by assumption)) | exact HCC.out _ HR1.out.1 | exact HCC.out _ HR2.out.1 | exact HCC.out _ HR3.out.1 | exact HCC.out _ HR4.out | exact HCC.out _ (HBA.out _ _ (Hid.out (by assumption))) | exact HCC.out _ (Below.drew (HBA.out _ _ (Hid.out (by assumption)))) | exact HCC.out _ ((HB5.out.setCell le0 _).setCell le0 _) | exact HCC.out _ ((HB5.out.setCell le1 _).setCell le1 _))
  (first | (go_at_call 30;(with_reducible refine HS1.out.mono ?_);rintro e w5 ⟨so,sc,gk,rfl,HB5⟩) | (go_at_call 30;(with_reducible refine HS2.out.mono ?_);rintro e w5 ⟨so,sc,gk,rfl,f0,f1,f2,f3,f4,HB5⟩) | (go_at_call 30;(with_reducible refine HS3.out.mono ?_);rintro e w5 ⟨so,sc,gk,rfl,f0,f1,f2,f3,f4,HB5⟩))
 all_goals go_wp2_with fail
 all_goals go_quiet (fail)
 all_goals go_wp2_with fail
 all_goals go_ret2
 all_goals refine⟨so,sc,rfl,?_⟩
 all_goals refine HFE.out _ (below_drewN ?_ _)
 all_goals first | exact below_a HB5.out | exact(HB5.out.setCell le0 _).setCell le0 _ | exact(HB5.out.setCell le1 _).setCell le1 _
end
section
open Go.RowKit
open Vc (V Of)
open Pl (Br Net Pc Lk En St ringE lineE ringId)
open Tk (Md Mnd Cn Sc Dn ten yes)
def cut2 (b:Int) (q:Nat):Dn:=if q=0 then⟨3,b,0,0⟩ else tickD 90
def cutA (b:Int) (q:Nat):Dn:=if q=0 then tickD 90 else⟨3,b,0,0⟩
theorem two_do {w:World}{g:Nat}{b:Int}{ty:TypeId}(h:w.heap[g]?=some (.cells #[.int .i64 3,.int .i64 b,.int .i64 0,.int .i64 0,.int .i64 1,.int .i64 90,.int .i64 0,.int .i64 0] ty (0,0))):DRow w (some ⟨g,0,none⟩) 2 2 (cut2 b):=by
 refine⟨Nat.le_refl _,fun _=>⟨g,0,rfl,(gSm.1 h).1,fun i hi j hj => ?_⟩⟩
 rcases(by omega:i=0∨i=1) with e | e<;>subst e<;>rcases(by omega:j=0∨j=1∨j=2∨j=3) with e | e | e | e<;>subst e<;>exact cell_of_row w g _ _ _ _ h
def noB (b j:Nat):Bool:=decide (j≠b)
def ringIs (k i:Nat):Bool:=(onF ringId (ringE k ten yes) k i 0 == Ln.ringOp k i 1)&&(onF ringId (ringE k ten yes) k i 1 == Ln.ringOp k i 2)&&([0,1,2]:List Int).all (fun p=>decide ((crossTo (Pl.lnk k ten yes) k ((i:Int),p)).map (fun z=>(z.1.toNat,z.2))=Ln.ringCr k (fun _=>true) i p))
def brkIs (k b i:Nat):Bool:=(onF ringId (ringE k ten (noB b)) k i 0 == Ln.brkOp k b i 1)&&(onF ringId (ringE k ten (noB b)) k i 1 == Ln.brkOp k b i 2)&&([0,1,2]:List Int).all (fun p=>decide ((crossTo (Pl.lnk k ten (noB b)) k ((i:Int),p)).map (fun z=>(z.1.toNat,z.2))=Ln.ringCr k (fun j=>decide (j≠b)) i p))
theorem ring_is:((List.range 13).drop 3).all (fun k=>(List.range k).all (ringIs k))=true:=by decide +kernel
theorem brk_is:((List.range 13).drop 3).all (fun k=>(List.range k).all (fun b=>(List.range k).all (brkIs k b)))=true:=by decide +kernel
theorem in3 {k:Nat}(hk:3≤k∧k≤12):k∈(List.range 13).drop 3:=by
 have:∀q,q<13→3≤q→q∈(List.range 13).drop 3:=by decide
 exact this k (by omega) hk.1
theorem ringM_is {n:Net}{t:List Tr}{k:Nat}{op:Nat→Int→Bool}{up lv:Nat→Bool}{dst src:Int}(eK:n.K=k) (hlen:t.length=1) (hreg:∀i,(n.bs i).reg.n=0) (hE:∀i,i<k→n.ends i=ringE k ten lv i)
  (ho:∀i j:Nat,i<k→j<2→opT t 0 i ((j:Int)+1)=op i ((j:Int)+1)) (h0:∀i,op i 0=true) (hc:∀i,i<k→∀p∈([0,1,2]:List Int),(crossTo n.ls n.L ((i:Int),p)).map (fun z=>(z.1.toNat,z.2))=Ln.ringCr k up i p):IsM n t (Ln.ringM k op up dst src):=by
 have htr:∀i,Ln.tr n 7 i=0:=fun i=>by
  unfold Ln.tr;rw[hreg i];rfl
 refine⟨⟨show(1:Int)≤7 by decide,show(7:Int)≤4094 by decide⟩,fun i hi => ?_,fun i hi => ?_,fun i hi p hp => ?_,fun i hi p hp=>hc i (by omega) p hp⟩
 ·show 0≤Ln.tr n 7 i∧Ln.tr n 7 i<_
  rw[htr i,hlen];decide
 ·show 0 :: n.pts i=[0,1,2]
  unfold Pl.Net.pts;rw[hE i (by omega)]
  rfl
 ·show gopen t (i:Int) p (Ln.tr n 7 i).toNat=op i p
  rw[htr i];unfold gopen;have hp:p∈([0,1,2]:List Int):=hp;rcases(by simpa using hp:p=0∨p=1∨p=2) with rfl | rfl | rfl
  ·rw[h0];rfl
  ·have:=ho i 0 (by omega) (by omega)
   show(_||opT t ((0:Nat):Int) i 1)=op i 1
   exact this
  ·have:=ho i 1 (by omega) (by omega)
   show(_||opT t ((0:Nat):Int) i 2)=op i 2
   exact this
theorem port_ring {k i j:Nat}{lv:Nat→Bool}(hj:j<2):(EL (ringE k ten lv i) j).port=(j:Int)+1:=by
 rcases(by omega:j=0∨j=1) with e | e<;>subst e<;>rfl
section
variable {k:Nat}{a5:Option Addr}{c5:Nat}{a6:Option Addr}{c6:Nat}
theorem ring_isM {W:World}{n':Net}{oa:Option Addr}{oc:Nat}{t':List Tr}(h:SnOut W (netL k true ten a5 c5 a6 c6) 1 (((netL k true ten a5 c5 a6 c6).sc (startMs (netL k true ten a5 c5 a6 c6))).all (netL k true ten a5 c5 a6 c6).cn (tk1 90) 1) n' oa oc t') (hk:3≤k∧k≤12):n'.K=k∧n'.L=k∧IsM n' t' (Ln.ringM k (Ln.ringOp k) (fun _=>true) 281474976710655 5):=by
 obtain⟨e1,e2,e3,e4⟩:=sn_net h;have e1:n'.K=k:=e1;obtain⟨f1,_,f3⟩:=tick_links h;have f1:n'.ls=Pl.lnk k ten yes:=f1;have f3:n'.L=k:=(by rw[f3];exact lnL_ring hk.1);rw[tk1_all] at e3 e4;have e3:n'.ends=(netL k true ten a5 c5 a6 c6).ends:=by
  rw[e3];show((netL k true ten a5 c5 a6 c6).sc (startMs (netL k true ten a5 c5 a6 c6))).E _=_
  rw[Pl.Net.sc_E]
 have e4:n'.ids ((0:Nat):Int)=ringId:=by
  rw[e4];funext q
  show((netL k true ten a5 c5 a6 c6).sc (startMs (netL k true ten a5 c5 a6 c6))).ids _ _ q=_
  rw[net_ids,netL_ids]
 have hE:∀i,i<k→n'.ends i=ringE k ten yes i:=fun i hi=>by rw[e3];exact netL_ring hk.1 ten_ok hi
 have hall:=fun {i:Nat}(hi:i<k)=>all_at (List.all_eq_true.1 ring_is k (in3 hk)) hi
 refine⟨e1,f3,ringM_is (lv:=yes) e1 h.len (fun i=>(h.regs i).2.2.1) hE (fun i j hi hj => ?_) (fun i => ?_) (fun i hi p hp => ?_)⟩
 ·have ho:=opens_by (tree:=0) h (netL_wf hk.2) (netL_right hk.2 ten_ok) (fun k hk=>absurd hk (by omega)) (by decide) (by omega) e1 hi hE (Pl.ringE_in hk.1 ten yes) e4 (show j<(ringE k ten yes i).length from hj)
  rw[port_ring hj] at ho;have h2:=hall hi;unfold ringIs at h2;simp only[Bool.and_eq_true,beq_iff_eq] at h2;rcases(by omega:j=0∨j=1) with e | e<;>subst e
  ·exact ho.trans h2.1.1
  ·exact ho.trans h2.1.2
 ·unfold Ln.ringOp;by_cases q:k%2=1
  ·rw[if_pos q];simp
  ·rw[if_neg q];simp
 ·rw[f1,f3];have h2:=hall hi;unfold ringIs at h2;simp only[Bool.and_eq_true] at h2;exact of_decide_eq_true (List.all_eq_true.1 h2.2 p hp)
theorem brk_isM {W:World}{n':Net}{oa:Option Addr}{oc:Nat}{t':List Tr}{b:Nat}(h:SnOut W (netL k true ten a5 c5 a6 c6) 1 (((netL k true ten a5 c5 a6 c6).sc (startMs (netL k true ten a5 c5 a6 c6))).all (netL k true ten a5 c5 a6 c6).cn (dsT 2 (cutA (b:Int)) 90) 3) n' oa oc t') (hk:3≤k∧k≤12) (hb:b<k):n'.K=k∧n'.L=k∧IsM n' t' (Ln.ringM k (Ln.brkOp k b) (fun j=>decide (j≠b)) 281474976710655 5):=by
 obtain⟨e1,e2,e3,e4⟩:=sn_net h;have e1:n'.K=k:=e1;have f3:n'.L=k:=(by rw[e2];exact lnL_ring hk.1);have f1:n'.ls=Pl.lnk k ten (noB b):=by
  rw[sn_links h];funext j
  show(if j=(b:Int).toNat then _ else _:Lk)=_
  rw[Int.toNat_natCast];by_cases q:j=b
  ·subst q;rw[if_pos rfl];show(⟨_,_,_,_,_,_⟩:Lk)=⟨_,_,_,_,_,noB j j⟩
   have:noB j j=false:=by simp[noB]
   rw[this];rfl
  ·rw[if_neg q];show Pl.lnk k ten yes j=⟨_,_,_,_,_,noB b j⟩
   have:noB b j=true:=by simp[noB,q]
   rw[this];rfl
 have hsm:∀i j,(netL k true ten a5 c5 a6 c6).cn.sm i j=true:=fun i j=>by
  have e:((netL k true ten a5 c5 a6 c6).bs i).reg=((netL k true ten a5 c5 a6 c6).bs j).reg:=rfl;rw[Net.sc_sm,e];exact decide_eq_true rfl
 have e4:n'.ids ((0:Nat):Int)=ringId:=by
  rw[e4];funext q
  show((netL k true ten a5 c5 a6 c6).sc (startMs (netL k true ten a5 c5 a6 c6))).ids _ _ q=_
  rw[net_ids,netL_ids]
 have hE:∀i,i<k→n'.ends i=ringE k ten (noB b) i:=fun i hi=>by
  rw[e3];unfold Tk.Sc.E;rw[←sn_links h,f1];have hlv:Tk.Sc.lv (((netL k true ten a5 c5 a6 c6).sc (startMs (netL k true ten a5 c5 a6 c6))).all (netL k true ten a5 c5 a6 c6).cn (dsT 2 (cutA (b:Int)) 90) 3) (netL k true ten a5 c5 a6 c6).cn=noB b:=by
   funext j
   unfold Tk.Sc.lv;rw[←sn_links h,f1,hsm,Bool.and_true];rfl
  rw[hlv];show Pl.ends _ _ (lnL k true) i=_
  rw[lnL_ring hk.1];exact Pl.ring_ends hk.1 ten_ok (noB b) (noB b) hi
 have he:∀q,q<2→Tk.errOf (netL k true ten a5 c5 a6 c6).cn (cutA (b:Int) q)=0:=fun q hq=>by
  rcases(by omega:q=0∨q=1) with e | e<;>subst e
  ·exact errTick (by omega)
  ·show(if (0:Int)≤(b:Int)∧(b:Int)≤((lnL k true:Nat):Int)-1 then(if (3:Int)=4∧¬((1:Int)≤0∧(0:Int)≤200000) then(3:Int) else 0) else 6)=0
   rw[lnL_ring hk.1,if_pos (by omega),if_neg (fun z=>absurd z.1 (by decide))]
 have hall:=fun {i:Nat}(hi:i<k)=>all_at (all_at (List.all_eq_true.1 brk_is k (in3 hk)) hb) hi
 refine⟨e1,f3,ringM_is (lv:=noB b) e1 h.len (fun i=>(h.regs i).2.2.1) hE (fun i j hi hj => ?_) (fun i => ?_) (fun i hi p hp => ?_)⟩
 ·have ho:=opens_by (tree:=0) h (netL_wf hk.2) (netL_right hk.2 ten_ok) he (by decide) (by omega) e1 hi hE (Pl.ringE_in hk.1 ten (noB b)) e4 (show j<(ringE k ten (noB b) i).length from hj)
  rw[port_ring hj] at ho;have h2:=hall hi;unfold brkIs at h2;simp only[Bool.and_eq_true,beq_iff_eq] at h2;rcases(by omega:j=0∨j=1) with e | e<;>subst e
  ·exact ho.trans h2.1.1
  ·exact ho.trans h2.1.2
 ·unfold Ln.brkOp;simp
 ·rw[f1,f3];have h2:=hall hi;unfold brkIs at h2;simp only[Bool.and_eq_true] at h2;exact of_decide_eq_true (List.all_eq_true.1 h2.2 p hp)
end
theorem sn_base {W1 W2:World}{n:Net}{T:Nat}{s s2:Sc}{n' n2:Net}{oa oa2:Option Addr}{oc oc2:Nat}{t' t2:List Tr}(h:SnOut W1 n T s n' oa oc t') (h2:SnOut W2 n' T s2 n2 oa2 oc2 t2) (hp:∀i,n.pts i=n'.pts i):SnOut W2 n T s2 n2 oa2 oc2 t2:=by
 have eK:n'.K=n.K:=(sn_net h).1;refine⟨h2.net,h2.wf,h2.right,h2.cn.trans h.cn,h2.sc,h2.row,h2.len,fun k hk => ?_,by rw[←h.cn];exact h2.ok,fun i => ?_⟩
 ·obtain⟨z1,z2⟩:=h2.each k hk;rw[eK] at z1 z2;exact⟨z1,fun i hi=>⟨(z2 i hi).1,(z2 i hi).2.trans (hp i).symm⟩⟩
 ·obtain⟨a1,a2,a3,a4,a5⟩:=h2.regs i;obtain⟨b1,b2,b3,b4,b5⟩:=h.regs i;exact⟨a1.trans b1,a2.trans b2,a3.trans b3,a4.trans b4,a5.trans b5⟩
theorem on_two {V:World}{n:Net}{n':Net}{oa:Option Addr}{oc:Nat}{t':List Tr}(h:SnOut V n 1 ((n.sc (startMs n)).all n.cn (tk1 90) 1) n' oa oc t') (hw:n.Wf) (h0:n.wrong.1=0) {b:Nat}(hb:b<n.L) {g:Nat}(hg:DRow V (some ⟨g,0,none⟩) 2 2 (cut2 (b:Int))) (htb:Tabs V) (hbt:2≤V.heap.size) :
  Calls Tryz.prog 29 #[.agg #[.slice n'.bao n'.K n'.bcap,.slice n'.lao n'.L n'.lcap],.agg #[.slice oa t'.length oc],.slice (some ⟨g,0,none⟩) 2 2] V fun e w'=>∃na nk nc la lk lc oa ol oc f1 f2,e=.returned (.tuple #[.agg #[.slice na nk nc,.slice la lk lc],.agg #[.slice oa ol oc],.agg #[.int .i64 f1,.int .i64 f2]])∧Hid (Below V.heap.size V w'∧OnF V w' n' 1 ((n.sc (startMs n)).all n.cn (dsT 2 (cutA (b:Int)) 90) 3) na nk nc la lk lc oa ol oc f1 f2):=by
 have he:∀q,q<1→Tk.errOf n.cn (tk1 90 q)=0:=fun q _=>by rw[tk1_eq];exact errTick (by omega)
 obtain⟨hf,hc,hm⟩:=sn_fit h (by omega) (sn_pts h hw h0 he)
 have eL:n'.cn.L=n.L:=(by rw[h.cn];rfl);have herr:(onErr n' t' (cut2 (b:Int)) 2).1=0:=by
  rw[on_start h.right hf,if_neg (by omega)]
  have:∀q,q<2→Tk.errOf n'.cn (cut2 (b:Int) q)=0:=fun q hq=>by
   rcases(by omega:q=0∨q=1) with e | e<;>subst e
   ·show(if (0:Int)≤(b:Int)∧(b:Int)≤((n'.cn.L:Nat):Int)-1 then(if (3:Int)=4∧¬((1:Int)≤0∧(0:Int)≤200000) then(3:Int) else 0) else 6)=0
    rw[eL,if_pos (by omega),if_neg (fun z=>absurd z.1 (by decide))]
   ·exact errTick (by omega)
  show(Pl.firstTo (fun q=>Tk.errOf n'.cn (cut2 (b:Int) q)) 2).1=0
  rw[Pl.firstTo_all _ _ this]
 refine(ton_any n' oa oc t' ((n.sc (startMs n)).all n.cn (tk1 90) 1).ms (some ⟨g,0,none⟩) 2 2 (cut2 (b:Int)) V h.wf h.net h.row (by omega) hg hc hm htb hbt).mono ?_
 rintro e w' ⟨h1,⟨h2,_⟩ | ⟨_,n2,oao,ocap,t2,rfl,b',hb',h3⟩⟩
 ·exact absurd herr h2
 ·refine⟨n2.bao,n2.K,n2.bcap,n2.lao,n2.L,n2.lcap,oao,t2.length,ocap,0,0,rfl,h1,⟨rfl,rfl⟩,n2,t2,⟨rfl,rfl,rfl⟩,⟨rfl,rfl,rfl⟩,rfl,b',hb',?_⟩;have e1:(n'.sc ((n.sc (startMs n)).all n.cn (tk1 90) 1).ms).all n'.cn (cut2 (b:Int)) 2=(n.sc (startMs n)).all n.cn (dsT 2 (cutA (b:Int)) 90) 3:=by
   rw[h.sc,h.cn];have a0:tk1 90 0=tickD 90:=tk1_eq 90 0;show(((n.sc (startMs n)).one n.cn (tk1 90 0)).one n.cn (cut2 b 0)).one n.cn (cut2 b 1)=(((n.sc (startMs n)).one n.cn (dsT 2 (cutA (b:Int)) 90 0)).one n.cn (dsT 2 (cutA (b:Int)) 90 1)).one n.cn (dsT 2 (cutA (b:Int)) 90 2)
   rw[a0];rfl
  rw[←h.len,←e1];exact h3
def cntIs (k:Nat):Bool:=decide (cntOn k ten k=k-1)
theorem cnt_is:((List.range 13).drop 3).all cntIs=true:=by decide +kernel
theorem ring_cnt {k:Nat}(hk:3≤k∧k≤12):cntOn k ten k=k-1:=of_decide_eq_true (List.all_eq_true.1 cnt_is k (in3 hk))
theorem ring_run {k i:Nat}(hk:3≤k∧k≤12) (hi:i<k):((Ln.ringM k (Ln.ringOp k) (fun _=>true) 281474976710655 5).run 41 ⟨[],[(i,0)],bare k⟩).wait=[]∧((Ln.ringM k (Ln.ringOp k) (fun _=>true) 281474976710655 5).run 41 ⟨[],[(i,0)],bare k⟩).seen.length=k-1:=by
 have h:=all_at (List.all_eq_true.1 Ln.ring_sees k (in3 hk)) hi;unfold Ln.seesAll at h;simp only[Bool.and_eq_true,decide_eq_true_eq] at h;exact⟨List.isEmpty_iff.1 h.1,h.2⟩
theorem brk_run {k b i:Nat}(hk:3≤k∧k≤12) (hb:b<k) (hi:i<k):((Ln.ringM k (Ln.brkOp k b) (fun j=>decide (j≠b)) 281474976710655 5).run 41 ⟨[],[(i,0)],bare k⟩).wait=[]∧((Ln.ringM k (Ln.brkOp k b) (fun j=>decide (j≠b)) 281474976710655 5).run 41 ⟨[],[(i,0)],bare k⟩).seen.length=k-1:=by
 have h:=all_at (all_at (List.all_eq_true.1 Ln.brk_sees k (in3 hk)) hb) hi;unfold Ln.seesAll at h;simp only[Bool.and_eq_true,decide_eq_true_eq] at h;exact⟨List.isEmpty_iff.1 h.1,h.2⟩
end
end Go.Proofs.YtflghpnpjmodaaaGreatDoor
