/- TopTrees: what Send comes to on both trees -/
import Derived.Test.YtflghpnpjmodaaaGreatDoorT38
import Derived.Test.YtflghpnpjmodaaaGreatDoorT27
import Derived.BigQuiet
set_option maxRecDepth 100000
set_option maxHeartbeats 6000000
namespace Go.Proofs.YtflghpnpjmodaaaGreatDoor
section
open Go.RowKit
open Pl (Br Net)
open Bk (E at')
open Rl (F O)
structure IsM (n:Net) (t:List Tr) (M:Ln.Sm):Prop where
 vid:1≤M.vid∧M.vid≤4094
 tree:∀i,i<n.K→0≤Ln.tr n M.vid i∧Ln.tr n M.vid i<t.length
 ps:∀i,i<n.K→Ln.ps n i=M.ps i
 op:∀i,i<n.K→∀p∈M.ps i,Ln.op n t M.vid i p=M.op i p
 cr:∀i,i<n.K→∀p∈M.ps i,(crossTo n.ls n.L ((i:Int),p)).map (fun z=>(z.1.toNat,z.2))=M.cr i p
structure Sent (w:World) (n:Net) (oao:Option Addr) (ocap:Nat) (t:List Tr):Prop where
 wf:n.Wf
 net:n.at' w
 right:n.wrong.1=0
 row:TrRow w oao ocap t
 fit:fitT n t=true
 calm:CalmT t
 tabs:Tabs w
 top:2≤w.heap.size
theorem Sent.below {w w':World}{n:Net}{oao:Option Addr}{ocap:Nat}{t:List Tr}(h:Sent w n oao ocap t) (hb:Bl w w'):Sent w' n oao ocap t :=
 ⟨h.wf,h.net.below hb,h.right,h.row.below hb,h.fit,h.calm,h.tabs.below hb h.top,Nat.le_trans h.top hb.size⟩
theorem Sent.on {w:World}{n:Net}{oao:Option Addr}{ocap:Nat}{t:List Tr}(h:Sent w n oao ocap t):onErr n t dn0 0=(0,0):=by
 have e:wrT n t 0=(0,0):=by
  unfold wrT;rw[if_neg (fun q=>q h.right),h.fit];rfl
 unfold onErr;rw[e];rfl
def frF (dst src:Int):F:=⟨dst,src,false,0,false,0,2048,none,0,0,fun _=>0⟩
theorem send_is {w:World}{n:Net}{oao:Option Addr}{ocap:Nat}{t:List Tr}(h:Sent w n oao ocap t) {M:Ln.Sm}(hM:IsM n t M) (hd:0≤M.dst∧M.dst≤281474976710655) (hs:0≤M.src∧M.src≤281474976710655) (hg:M.src/1099511627776%2≠1)
  {ko:Option Addr}{kcap:Nat}{bks:Nat→List E}{bo:Nat→Option Addr}{bc:Nat→Nat}(hb:BIn w ko n.K kcap bks bo bc) {bl:List (List E)}(hl:bl.length=n.K) (hbl:∀i,i<n.K→bks i=bl.getD i []∧Bk.Book (bks i)) {i:Nat}(hi:i<n.K) {S:Ln.Ss}(hS:S=M.run 41 ⟨[],[(i,0)],bl⟩) (hw:S.wait=[]) :
  Calls Tryz.prog 30 #[.agg #[.slice n.bao n.K n.bcap,.slice n.lao n.L n.lcap],.agg #[.slice oao t.length ocap],.slice ko n.K kcap,.int .i64 (i:Int),.int .i64 M.vid,.agg #[.int .u64 M.dst,.int .u64 M.src,.bool false,.int .i64 0,.bool false,.int .i64 0,.int .i64 2048,.slice none 0 0]] w fun e w'=>∃so sc gk,e=.returned (.tuple #[.slice so S.seen.length sc,.slice (some ⟨gk,0,none⟩) n.K n.K,.bool true,.agg #[.int .i64 0,.int .i64 0]])∧Hid (Bl w w'∧∃ss bks' bo' bc',ss.map AV.i=S.seen∧SdIs w w' n.K (frF M.dst M.src) ⟨S.seen.map (fun i=>(i,Ln.lv M.vid 0)),[],bks',0⟩ so sc ss gk bo' bc'∧∀i,i<n.K→bks' i=S.books.getD i []∧Bk.Book (bks' i)):=by
 have hR:=right_of h.wf h.right;have hfw:wrong M.dst M.src false 0 0 2048 0=0:=by
  unfold wrong;rw[if_neg (by omega),if_neg hg,if_neg (by simp),if_neg (by decide),if_neg (by decide)]
 have hH:Ln.Hs n t M.vid (frF M.dst M.src):=⟨hR,(fit_iff.1 h.fit).1.2,hM.vid,hM.tree,hfw⟩
 have hrel:=Ln.sent_run hH rfl hl hbl hi;have hrun:(Ln.model n t M.vid (frF M.dst M.src)).run 41 ⟨[],[(i,0)],bl⟩=S:=by
  rw[hS];refine Ln.run_congr (K:=n.K) (M:=Ln.model n t M.vid (frF M.dst M.src)) (N:=M) rfl rfl rfl hM.ps (fun q hq p hp=>hM.op q hq p (by rw[←hM.ps q hq];exact hp)) (fun q hq p hp=>hM.cr q hq p (by rw[←hM.ps q hq];exact hp)) (fun q hq p hp z hz => ?_) 41 _ (fun x hx => ?_)
  ·obtain⟨y,hy,rfl⟩:=Option.map_eq_some_iff.1 hz;obtain⟨c1,c2,c3⟩:=Ln.cross_mem hR hy;exact⟨c1,List.mem_cons_of_mem _ c2⟩
  ·obtain rfl:x=(i,0):=by simpa using hx
   exact⟨hi,List.mem_cons_self⟩
 rw[hrun] at hrel;have hst:stray n M.vid t.length=false:=by
  unfold stray;refine decide_eq_false ?_;rintro⟨q,hq,h1⟩;unfold strayB at h1;have h2:=(hM.tree q hq).2;unfold Ln.tr at h2;have:=of_decide_eq_true h1;omega
 have hse:sErr n t n.K (i:Int) M.vid (frF M.dst M.src)=(0,0):=by
  unfold sErr;rw[h.on,if_neg (fun q=>q rfl)];unfold besErr;rw[if_neg (fun q=>q rfl),if_neg (fun q=>q (by omega)),if_neg (fun q=>q hM.vid),if_neg (show ¬(frF M.dst M.src).tagged=true from fun q=>by cases q)];have e:wrong (frF M.dst M.src).dst (frF M.dst M.src).src (frF M.dst M.src).tagged (frF M.dst M.src).prio (frF M.dst M.src).vid (frF M.dst M.src).type (frF M.dst M.src).n=0:=hfw;rw[if_neg (fun q=>q e),hst,if_neg (by decide)]
 have hK:=hR.few;refine(jsend_any n oao ocap t ko n.K kcap bks bo bc (i:Int) M.vid (frF M.dst M.src) w h.wf h.net h.row h.calm h.tabs h.top (by omega) hb (⟨Nat.le_refl _,fun q=>absurd q (Nat.lt_irrefl 0)⟩) (fun _=>⟨rfl,rfl⟩) ⟨hd.1,by show M.dst<_;omega⟩ ⟨hs.1,by show M.src<_;omega⟩).mono ?_;rintro e w' ⟨z1,z2⟩;rw[hse] at z2;have hrel2:Ln.Rel n M.vid (sent n t M.vid (frF M.dst M.src) bks (i:Int).toNat) S:=hrel;generalize sent n t M.vid (frF M.dst M.src) bks (i:Int).toNat=RR at *;have hwt:RR.wait=[]:=by
  have:=hrel2.wait;rw[hw] at this;exact List.map_eq_nil_iff.1 this
 rcases z2 with⟨q,_⟩ | ⟨_,⟨q,_⟩ | ⟨_,_,so,sc,ss,gk,bo',bc',rfl,hI⟩⟩
 ·exact absurd rfl q
 ·exact absurd ⟨hrel2.err,hwt⟩ q
 ·have hm:ss.map AV.i=S.seen:=by
   have h1:=hI.map;rw[hrel2.seen] at h1;have h2:=congrArg (List.map Prod.fst) h1;rw[List.map_map,List.map_map] at h2;have e1:(Prod.fst ∘ AV.p)=AV.i:=rfl;have e2:((Prod.fst:Nat×O→Nat) ∘ fun i=>(i,Ln.lv M.vid 0))=id:=rfl;rw[e1,e2,List.map_id] at h2;exact h2
  have hlen:ss.length=S.seen.length:=(by rw[←hm,List.length_map])
  refine⟨so,sc,gk,by rw[hlen],z1,ss,RR.books,bo',bc',hm,?_,hrel2.books⟩;exact⟨hI.map.trans hrel2.seen,hI.row,hI.data,hI.books,hI.own⟩
end
section
open Go.RowKit
open Vc (V Of)
open Pl (Br Net Pc Lk En St ringE lineE ringId)
open Tk (Md Mnd Cn Sc Dn ten yes)
def onF (ids:Nat→Int) (F:Nat→List En) (K i j:Nat):Bool :=
 let r:=Pl.roleAt (Pl.sat (Pl.finL ids F K) i) (Pl.offs (F i) (Pl.sat (Pl.finL ids F K))) (EL (F i) j)
 decide (r=1)||decide (r=2)
theorem opens_by {W:World}{n:Net}{T:Nat}{ds:Nat→Dn}{dn:Nat}{tk:Int}{n':Net}{oa:Option Addr}{oc:Nat}{t':List Tr}(h:SnOut W n T ((n.sc (startMs n)).all n.cn (dsT dn ds tk) (dn+1)) n' oa oc t') (hw:n.Wf) (h0:n.wrong.1=0) (he:∀k,k<dn→Tk.errOf n.cn (ds k)=0) (ht:83≤tk.toNat)
  {tree i j K:Nat}(hT:tree<T) (hK:n'.K=K) {F:Nat→List En}{ids:Nat→Int}(hi:i<K) (hE:∀q,q<K→n'.ends q=F q) (hF:∀q,q<K→∀e,e∈F q→e.other.toNat<K) (hids:n'.ids (tree:Int)=ids) (hj:j<(F i).length):opT t' tree i (EL (F i) j).port=onF ids F K i j:=by
 have e1:=(sn_net h).1;have hO:=sn_opens (j:=j) (k:=tree) h hw h0 he ht hT (show i<n.K by omega) (by rw[hE i hi];exact hj);rw[hids,hK,hE i hi] at hO;have hf:∀q,q<K→Pl.rounds ids n'.ends K K q=Pl.sat (Pl.finL ids F K) q:=fun q hq=>(Pl.finL_by hE hF hq).symm;have hoffs:Pl.offs (F i) (Pl.rounds ids n'.ends K K)=Pl.offs (F i) (Pl.sat (Pl.finL ids F K)):=Pl.offs_congr (fun e he _=>by rw[hf _ (hF i hi e he)]);rw[hf i hi,hoffs] at hO;rw[hO];unfold onF;simp only;rw[Bool.decide_or]
theorem sn_sent {W:World}{n:Net}{T:Nat}{ds:Nat→Dn}{dn:Nat}{n':Net}{oa:Option Addr}{oc:Nat}{t':List Tr}(h:SnOut W n T ((n.sc (startMs n)).all n.cn ds dn) n' oa oc t') (hw:n.Wf) (h0:n.wrong.1=0) (he:∀k,k<dn→Tk.errOf n.cn (ds k)=0) (hT:1≤T∧T≤4) (ht:Tabs W) (hg:2≤W.heap.size):Sent W n' oa oc t':=by
 obtain⟨h1,h2,_⟩:=sn_fit h hT (sn_pts h hw h0 he);exact⟨h.wf,h.net,h.right,h.row,h1,h2,ht,hg⟩
theorem all_at {m:Nat}{P:Nat→Bool}(h:(List.range m).all P=true) {i:Nat}(hi:i<m):P i=true:=List.all_eq_true.1 h i (List.mem_range.2 hi)
section
variable {k:Nat}{a5:Option Addr}{c5:Nat}{a6:Option Addr}{c6:Nat}
end
end
section
open Go.RowKit
open Pl (Br Net)
open Bk (E at')
theorem below_a {X V:World}{o:Obj}(h:Bl X V):Bl X (V.alloc o):=h.trans ((bA1 V o).mono h.size)
theorem none_bin2 {W:World}{g K:Nat}(h:W.heap[g]?=some (.cells (rowC K 1 (fun _ _=>.slice none 0 0)) 186)):BIn W (some ⟨g,0,none⟩) K K (fun _=>[]) (fun _=>none) (fun _=>0):=by
 refine⟨⟨Nat.le_refl _,fun _=>⟨g,0,rfl,(gSm.1 h).1,fun i hi j hj => ?_⟩⟩,fun i hi=>⟨⟨Nat.le_refl _,fun q=>absurd q (by simp)⟩,fun _=>⟨rfl,rfl⟩,by simp⟩⟩;have:=rowC_cell h hi hj;rw[Nat.zero_add];exact this
def bare (K:Nat):List (List E):=List.replicate K []
theorem usend_any {w:World}{n:Net}{oao:Option Addr}{ocap:Nat}{t:List Tr}(h:Sent w n oao ocap t) {M:Ln.Sm}(hM:IsM n t M) (hd:M.dst=281474976710655) (hs:M.src=5) {i:Nat}(hi:i<n.K) {S:Ln.Ss}(hS:S=M.run 41 ⟨[],[(i,0)],bare n.K⟩) (hw:S.wait=[]) :
  Calls Tryz.prog 28 #[.agg #[.slice n.bao n.K n.bcap,.slice n.lao n.L n.lcap],.agg #[.slice oao t.length ocap],.int .i64 (i:Int),.int .i64 M.vid] w fun e w'=>∃so sc,e=.returned (.tuple #[.slice so S.seen.length sc,.bool true])∧Hid (Bl w w'):=by
 have hK:=(right_of h.wf h.right).few;obtain⟨X,HX⟩:∃X,Hid (X=(w.alloc (.cells #[.slice n.bao n.K n.bcap,.slice n.lao n.L n.lcap] 32)).alloc (.cells #[.slice oao t.length ocap] 43)):=⟨_,rfl⟩
 have hXB:Bl w X:=(by rw[HX.out];exact bA2 _ _ _)
 have hX0:X.heap[w.heap.size]?=some (.cells #[.slice n.bao n.K n.bcap,.slice n.lao n.L n.lcap] 32):=(by rw[HX.out];exact heap_alloc2_old _ _ _)
 have hX1:X.heap[w.heap.size+1]?=some (.cells #[.slice oao t.length ocap] 43):=(by rw[HX.out];exact heap_alloc2_new _ _ _)
 have hmk:∀W:World,(Instr.makeSlice 93 (.int .i64 (n.K:Int)) (.int .i64 (n.K:Int))).run Tryz.prog W=.ok (.slice (some ⟨W.heap.size,0,none⟩) n.K n.K) (W.alloc (.cells (rowC n.K 1 (fun _ _=>.slice none 0 0)) 186)):=fun W=>make_rowD W 93 186 (.slice none 0 0) 1 24 n.K Tryz.underlying93 (by kernel_rfl) (by omega) rfl (by omega) (by omega) _ (fun _ j hj=>by rw[show j=0 by omega];rfl);have HCC:Hid (∀V,Bl X V→(V.cell? ⟨w.heap.size,0,none⟩=some (.slice n.bao n.K n.bcap)∧V.cell? ⟨w.heap.size,1,none⟩=some (.slice n.lao n.L n.lcap))∧V.cell? ⟨w.heap.size+1,0,none⟩=some (.slice oao t.length ocap)):=fun V hV=>⟨tC2 (keep hX0 hV),cell_of_row _ _ 0 _ _ _ (keep hX1 hV)⟩
 have HSD:Hid (∀(V:World) (g:Nat) {Q:Ending→World→Prop},Bl X V→V.heap[g]?=some (.cells (rowC n.K 1 (fun _ _=>.slice none 0 0)) 186)→(∀e w',(∃so sc gk,e=.returned (.tuple #[.slice so S.seen.length sc,.slice (some ⟨gk,0,none⟩) n.K n.K,.bool true,.agg #[.int .i64 0,.int .i64 0]])∧Bl V w'∧Hid (Bl X w'))→Q e w')→Calls Tryz.prog 30 #[.agg #[.slice n.bao n.K n.bcap,.slice n.lao n.L n.lcap],.agg #[.slice oao t.length ocap],.slice (some ⟨g,0,none⟩) n.K n.K,.int .i64 (i:Int),.int .i64 M.vid,.agg #[.int .u64 281474976710655,.int .u64 5,.bool false,.int .i64 0,.bool false,.int .i64 0,.int .i64 2048,.slice none 0 0]] V Q):=fun V g Q hV hg hQ=>by
  have hs1:=send_is (h.below (hXB.trans (hV.mono hXB.size))) hM (by rw[hd];decide) (by rw[hs];decide) (by rw[hs];decide) (none_bin2 hg) (bl:=bare n.K) (by simp[bare]) (fun q hq=>⟨by simp[bare,hq],⟨by simp,fun e he=>by simp at he,List.Pairwise.nil⟩⟩) hi hS hw;rw[hd,hs] at hs1;refine hs1.mono ?_;rintro e w' ⟨so,sc,gk,rfl,H⟩;exact hQ _ _ ⟨so,sc,gk,rfl,H.out.1,hV.trans (H.out.1.mono hV.size)⟩
 have HXB:Hid (Bl w X):=hXB;have HFE:Hid (∀V,Bl X V→Bl w V):=fun V hV=>hXB.trans (hV.mono hXB.size);have le0:X.heap.size≤X.heap.size:=Nat.le_refl _;have le1:X.heap.size≤X.heap.size+1:=(by omega)
 have HB0:Hid (Bl X X.drew):=Below.drew (Below.refl _ _);have HBA:Hid (∀V o,Bl X V→Bl X (V.alloc o)):=fun V o hV=>below_a hV;have HR1:Hid (Bl X (X.alloc (.cells (rowC n.K 1 (fun _ _=>.slice none 0 0)) 186)).drew∧(X.alloc (.cells (rowC n.K 1 (fun _ _=>.slice none 0 0)) 186)).drew.heap[X.heap.size]?=some (.cells (rowC n.K 1 (fun _ _=>.slice none 0 0)) 186)):=⟨Below.drew (below_a (Below.refl _ _)),heap_alloc_last X _⟩
 have HR2:Hid (Bl X ((X.alloc (.cells #[.int .i64 0,.int .i64 0] 26)).alloc (.cells (rowC n.K 1 (fun _ _=>.slice none 0 0)) 186)).drew∧((X.alloc (.cells #[.int .i64 0,.int .i64 0] 26)).alloc (.cells (rowC n.K 1 (fun _ _=>.slice none 0 0)) 186)).drew.heap[X.heap.size+1]?=some (.cells (rowC n.K 1 (fun _ _=>.slice none 0 0)) 186)):=⟨Below.drew (below_a (below_a (Below.refl _ _))),heap_alloc2_new X _ _⟩
 have HR3:Hid (Bl X ((X.alloc (.cells (rowC n.K 1 (fun _ _=>.slice none 0 0)) 186)).alloc (.cells #[.int .i64 0,.int .i64 0] 26)).drew∧((X.alloc (.cells (rowC n.K 1 (fun _ _=>.slice none 0 0)) 186)).alloc (.cells #[.int .i64 0,.int .i64 0] 26)).drew.heap[X.heap.size]?=some (.cells (rowC n.K 1 (fun _ _=>.slice none 0 0)) 186)):=⟨Below.drew (below_a (below_a (Below.refl _ _))),heap_alloc2_old X _ _⟩
 have HR4:Hid (Bl X (X.alloc (.cells #[.int .i64 0,.int .i64 0] 26)).drew):=Below.drew (below_a (Below.refl _ _));have HS1:Hid (Calls Tryz.prog 30 #[.agg #[.slice n.bao n.K n.bcap,.slice n.lao n.L n.lcap],.agg #[.slice oao t.length ocap],.slice (some ⟨X.heap.size,0,none⟩) n.K n.K,.int .i64 (i:Int),.int .i64 M.vid,.agg #[.int .u64 281474976710655,.int .u64 5,.bool false,.int .i64 0,.bool false,.int .i64 0,.int .i64 2048,.slice none 0 0]] ((X.alloc (.cells (rowC n.K 1 (fun _ _=>.slice none 0 0)) 186)).drew) fun e w'=>∃so sc gk,e=.returned (.tuple #[.slice so S.seen.length sc,.slice (some ⟨gk,0,none⟩) n.K n.K,.bool true,.agg #[.int .i64 0,.int .i64 0]])∧Hid (Bl X w')):=HSD.out _ _ HR1.out.1 HR1.out.2 (by
  rintro e w' ⟨so,sc,gk,rfl,_,h2⟩;exact⟨so,sc,gk,rfl,h2⟩)
 have HFF:Hid (∀V w' g,Bl V w'→V.heap[g]?=some (.cells #[.int .i64 0,.int .i64 0] 26)→w'.cell? ⟨g,0,none⟩=some (.int .i64 0)∧w'.cell? ⟨g,1,none⟩=some (.int .i64 0)∧w'.frozen? ⟨g,0,none⟩=false∧w'.frozen? ⟨g,1,none⟩=false∧g<w'.heap.size):=fun V w' g hV hg=>by
  have h1:=keep hg hV;exact⟨(tC2 h1).1,(tC2 h1).2,lF0 h1 0,lF0 h1 1,(gSm.1 h1).1⟩
 have HS2:Hid (Calls Tryz.prog 30 #[.agg #[.slice n.bao n.K n.bcap,.slice n.lao n.L n.lcap],.agg #[.slice oao t.length ocap],.slice (some ⟨X.heap.size+1,0,none⟩) n.K n.K,.int .i64 (i:Int),.int .i64 M.vid,.agg #[.int .u64 281474976710655,.int .u64 5,.bool false,.int .i64 0,.bool false,.int .i64 0,.int .i64 2048,.slice none 0 0]] (((X.alloc (.cells #[.int .i64 0,.int .i64 0] 26)).alloc (.cells (rowC n.K 1 (fun _ _=>.slice none 0 0)) 186)).drew) fun e w'=>∃so sc gk,e=.returned (.tuple #[.slice so S.seen.length sc,.slice (some ⟨gk,0,none⟩) n.K n.K,.bool true,.agg #[.int .i64 0,.int .i64 0]])∧w'.cell? ⟨X.heap.size,0,none⟩=some (.int .i64 0)∧w'.cell? ⟨X.heap.size,1,none⟩=some (.int .i64 0)∧w'.frozen? ⟨X.heap.size,0,none⟩=false∧w'.frozen? ⟨X.heap.size,1,none⟩=false∧X.heap.size<w'.heap.size∧Hid (Bl X w')):=HSD.out _ _ HR2.out.1 HR2.out.2 (by
  rintro e w' ⟨so,sc,gk,rfl,h1,h2⟩;obtain⟨f0,f1,f2,f3,f4⟩:=HFF.out _ w' X.heap.size h1 (heap_alloc2_old X _ _);exact⟨so,sc,gk,rfl,f0,f1,f2,f3,f4,h2⟩)
 have HS3:Hid (Calls Tryz.prog 30 #[.agg #[.slice n.bao n.K n.bcap,.slice n.lao n.L n.lcap],.agg #[.slice oao t.length ocap],.slice (some ⟨X.heap.size,0,none⟩) n.K n.K,.int .i64 (i:Int),.int .i64 M.vid,.agg #[.int .u64 281474976710655,.int .u64 5,.bool false,.int .i64 0,.bool false,.int .i64 0,.int .i64 2048,.slice none 0 0]] (((X.alloc (.cells (rowC n.K 1 (fun _ _=>.slice none 0 0)) 186)).alloc (.cells #[.int .i64 0,.int .i64 0] 26)).drew) fun e w'=>∃so sc gk,e=.returned (.tuple #[.slice so S.seen.length sc,.slice (some ⟨gk,0,none⟩) n.K n.K,.bool true,.agg #[.int .i64 0,.int .i64 0]])∧w'.cell? ⟨X.heap.size+1,0,none⟩=some (.int .i64 0)∧w'.cell? ⟨X.heap.size+1,1,none⟩=some (.int .i64 0)∧w'.frozen? ⟨X.heap.size+1,0,none⟩=false∧w'.frozen? ⟨X.heap.size+1,1,none⟩=false∧X.heap.size+1<w'.heap.size∧Hid (Bl X w')):=HSD.out _ _ HR3.out.1 HR3.out.2 (by
  rintro e w' ⟨so,sc,gk,rfl,h1,h2⟩;obtain⟨f0,f1,f2,f3,f4⟩:=HFF.out _ w' (X.heap.size+1) h1 (heap_alloc2_new X _ _);exact⟨so,sc,gk,rfl,f0,f1,f2,f3,f4,h2⟩)
 clear h hM hd hs hi hS hw hX0 hX1 hXB HSD HFF;generalize S.seen.length=sn at *;generalize M.vid=vid at *;go_enter Tryz.func28,Tryz.ntmps28;(go_wp2_with fail);rw[←HX.out];go_region_held3 (fun V=>(V.cell? ⟨w.heap.size,0,none⟩=some (.slice n.bao n.K n.bcap)∧V.cell? ⟨w.heap.size,1,none⟩=some (.slice n.lao n.L n.lcap))∧V.cell? ⟨w.heap.size+1,0,none⟩=some (.slice oao t.length ocap))
  (first | exact HCC.out _ (Hid.out (by assumption)) | exact HCC.out _ HR1.out.1 | exact HCC.out _ HR2.out.1 | exact HCC.out _ HR3.out.1 | exact HCC.out _ HR4.out | exact HCC.out _ (HBA.out _ _ (Hid.out (by assumption))) | exact HCC.out _ (Below.drew (HBA.out _ _ (Hid.out (by assumption)))) | exact HCC.out _ ((HB5.out.setCell le0 _).setCell le0 _) | exact HCC.out _ ((HB5.out.setCell le1 _).setCell le1 _))
  (first | (go_at_call 30;(with_reducible refine HS1.out.mono ?_);rintro e w5 ⟨so,sc,gk,rfl,HB5⟩) | (go_at_call 30;(with_reducible refine HS2.out.mono ?_);rintro e w5 ⟨so,sc,gk,rfl,f0,f1,f2,f3,f4,HB5⟩) | (go_at_call 30;(with_reducible refine HS3.out.mono ?_);rintro e w5 ⟨so,sc,gk,rfl,f0,f1,f2,f3,f4,HB5⟩))
 (all_goals go_wp2_with fail);(all_goals go_quiet (fail));(all_goals go_wp2_with fail);(all_goals go_ret2);all_goals refine⟨so,sc,rfl,?_⟩
 all_goals refine HFE.out _ (below_drewN ?_ _)
 all_goals first | exact below_a HB5.out | exact(HB5.out.setCell le0 _).setCell le0 _ | exact(HB5.out.setCell le1 _).setCell le1 _
end
section
open Go.RowKit
open Vc (V Of)
open Pl (Br Net Pc Lk En St ringE lineE ringId)
open Tk (Md Mnd Cn Sc Dn ten yes)
def ringIs (k i:Nat):Bool:=(onF ringId (ringE k ten yes) k i 0 == Ln.ringOp k i 1)&&(onF ringId (ringE k ten yes) k i 1 == Ln.ringOp k i 2)&&([0,1,2]:List Int).all (fun p=>decide ((crossTo (Pl.lnk k ten yes) k ((i:Int),p)).map (fun z=>(z.1.toNat,z.2))=Ln.ringCr k (fun _=>true) i p))
theorem ring_is:((List.range 13).drop 3).all (fun k=>(List.range k).all (ringIs k))=true:=by decide +kernel
theorem in3 {k:Nat}(hk:3≤k∧k≤12):k∈(List.range 13).drop 3:=by
 have:∀q,q<13→3≤q→q∈(List.range 13).drop 3:=by decide
 exact this k (by omega) hk.1
theorem port_ring {k i j:Nat}{lv:Nat→Bool}(hj:j<2):(EL (ringE k ten lv i) j).port=(j:Int)+1:=by
 rcases(by omega:j=0∨j=1) with e | e<;>subst e<;>rfl
section
variable {k:Nat}{a5:Option Addr}{c5:Nat}{a6:Option Addr}{c6:Nat}
end
theorem ring_run {k i:Nat}(hk:3≤k∧k≤12) (hi:i<k):((Ln.ringM k (Ln.ringOp k) (fun _=>true) 281474976710655 5).run 41 ⟨[],[(i,0)],bare k⟩).wait=[]∧((Ln.ringM k (Ln.ringOp k) (fun _=>true) 281474976710655 5).run 41 ⟨[],[(i,0)],bare k⟩).seen.length=k-1:=by
 have h:=all_at (List.all_eq_true.1 Ln.ring_sees k (in3 hk)) hi;unfold Ln.seesAll at h;simp only[Bool.and_eq_true,decide_eq_true_eq] at h;exact⟨List.isEmpty_iff.1 h.1,h.2⟩
end
section
open Bk (E at')
namespace Ln
def Sm.Only (M:Sm) (bs:List (List E)):Prop:=∀b∈bs,∀e∈b,e.addr=M.src
theorem book_only {M:Sm}{b:List E}{p:Int}(h:∀e∈b,e.addr=M.src):∀e∈M.book b p,e.addr=M.src:=by
 intro e he;unfold Sm.book Bk.learn at he;split at he
 ·exact h e he
 ·rw[List.mem_append,List.mem_cons] at he;rcases he with he | rfl | he
  ·exact h e (List.mem_filter.1 he).1
  ·rfl
  ·exact h e (List.mem_filter.1 he).1
def Sm.fl (M:Sm) (i:Nat) (p:Int):List Int:=(M.ps i).filter (fun q=>decide (q≠p)&&M.op i q)
theorem out_fl {M:Sm}(hne:M.src≠M.dst) {m:List E}(h:∀e∈m,e.addr=M.src) (i:Nat) (p:Int):M.out m i p=M.fl i p:=by
 have hk:¬Bk.Known m ⟨M.vid,M.dst,0,0⟩:=fun⟨e,he,hk⟩=>hne ((h e he).symm.trans hk.2);unfold Sm.out Sm.fl;simp[hk]
theorem only_at {M:Sm}{bs:List (List E)}(h:M.Only bs) (i:Nat):∀e∈bs.getD i [],e.addr=M.src:=by
 intro e he;rw[List.getD_eq_getElem?_getD] at he;by_cases hi:i<bs.length
 ·rw[List.getElem?_eq_getElem hi] at he;exact h _ (List.getElem_mem hi) e he
 ·rw[List.getElem?_eq_none (by omega)] at he;cases he
theorem only_set {M:Sm}{bs:List (List E)}(h:M.Only bs) (i:Nat) {m:List E}(hm:∀e∈m,e.addr=M.src):M.Only (bs.set i m):=by
 intro b hb;rcases List.mem_or_eq_of_mem_set hb with hb | rfl
 ·exact h b hb
 ·exact hm
theorem go_only {M:Sm}{s:Ss}(h:M.Only s.books) (i:Nat) (p:Int) (r:List (Nat×Int)):M.Only (M.go s i p r).books:=by
 unfold Sm.go;split
 ·exact only_set h i (book_only (only_at h i))
 ·exact h
theorem go_vid (M:Sm) (v:Int) (hne:M.src≠M.dst) {s s':Ss}(h1:s.seen=s'.seen) (h3:M.Only s.books) (h4:M.Only s'.books) (i:Nat) (p:Int) (r:List (Nat×Int)) :
  (M.go s i p r).seen=(({ M with vid:=v }:Sm).go s' i p r).seen∧(M.go s i p r).wait=(({ M with vid:=v }:Sm).go s' i p r).wait:=by
 unfold Sm.go;by_cases hc:M.op i p=true∧Rl.res M.dst=false
 ·rw[if_pos hc,if_pos (show({ M with vid:=v }:Sm).op i p=true∧Rl.res ({ M with vid:=v }:Sm).dst=false from hc)];rw[out_fl hne (book_only (only_at h3 i)),out_fl (M:={ M with vid:=v }) hne (book_only (only_at (M:={ M with vid:=v }) h4 i))];refine⟨?_,rfl⟩;show s.seen++(if 0∈M.fl i p then [i] else [])=s'.seen++(if 0∈M.fl i p then [i] else [])
  rw[h1]
 ·rw[if_neg hc,if_neg (show ¬(({ M with vid:=v }:Sm).op i p=true∧Rl.res ({ M with vid:=v }:Sm).dst=false) from hc)];exact⟨h1,rfl⟩
theorem run_vid (M:Sm) (v:Int) (hne:M.src≠M.dst):∀(k:Nat) (s s':Ss),s.seen=s'.seen→s.wait=s'.wait→M.Only s.books→M.Only s'.books→(M.run k s).seen=(({ M with vid:=v }:Sm).run k s').seen∧(M.run k s).wait=(({ M with vid:=v }:Sm).run k s').wait
 | 0,_,_,h1,h2,_,_=>⟨h1,h2⟩
 | k+1,s,s',h1,h2,h3,h4=>by
  cases hw:s.wait with
  | nil =>
   have hw':s'.wait=[]:=h2.symm.trans hw;unfold Sm.run;rw[hw,hw'];exact⟨h1,h2⟩
  | cons x r =>
   obtain⟨i,p⟩:=x;have hw':s'.wait=(i,p) :: r:=h2.symm.trans hw;unfold Sm.run;rw[hw,hw'];obtain⟨g1,g2⟩:=go_vid M v hne h1 h3 h4 i p r;exact run_vid M v hne k _ _ g1 g2 (go_only h3 i p r) (go_only (M:={ M with vid:=v }) h4 i p r)
def shutAt (k f:Nat):Nat×Int :=
 if k%2=1 then(if (f+(k-1)/2)%k<nx k ((f+(k-1)/2)%k) then(nx k ((f+(k-1)/2)%k),1) else((f+(k-1)/2)%k,2))
 else if prv k ((f+k/2)%k)<nx k ((f+k/2)%k) then((f+k/2)%k,2) else((f+k/2)%k,1)
def trOp (k f i:Nat) (p:Int):Bool:=!(decide (i=(shutAt k f).1)&&decide (p=(shutAt k f).2))
theorem tr_sees:((List.range 13).drop 4).all (fun k=>((List.range k).drop 1).all (fun f=>seesAll (ringM k (trOp k f) (fun _=>true) 281474976710655 5) k 0))=true:=by decide +kernel
end Ln
end
section
open Go.RowKit
open Vc (V Of)
open Pl (Br Net Pc Lk En St ringE lineE ringId)
open Tk (Md Mnd Cn Sc Dn ten yes)
def firstId (f i:Nat):Int:=(if i=f then 4096 else 32768)*281474976710656+10+(i:Int)
def trIs (k f i:Nat):Bool:=(onF (firstId f) (ringE k ten yes) k i 0 == Ln.trOp k f i 1)&&(onF (firstId f) (ringE k ten yes) k i 1 == Ln.trOp k f i 2)
def rootIs (k f:Nat):Bool:=decide ((Pl.sat (Pl.finL (firstId f) (ringE k ten yes) k) (k-1)).v.root=firstId f f)
theorem tr_is:((List.range 13).drop 4).all (fun k=>((List.range k).drop 1).all (fun f=>(List.range k).all (trIs k f)))=true:=by decide +kernel
theorem root_is:((List.range 13).drop 4).all (fun k=>((List.range k).drop 1).all (rootIs k))=true:=by decide +kernel
theorem root0_is:((List.range 13).drop 4).all (fun k=>decide ((Pl.sat (Pl.finL ringId (ringE k ten yes) k) (k-1)).v.root=ringId 0))=true:=by decide +kernel
theorem in4 {k:Nat}(hk:4≤k∧k≤12):k∈(List.range 13).drop 4:=by
 rcases(by omega:k=4∨k=5∨k=6∨k=7∨k=8∨k=9∨k=10∨k=11∨k=12) with e | e | e | e | e | e | e | e | e<;>subst e<;>decide
theorem in1 {k f:Nat}(h:1≤f∧f<k):f∈(List.range k).drop 1:=by
 rw[List.mem_iff_getElem];refine⟨f-1,by simp;omega,?_⟩;rw[List.getElem_drop,List.getElem_range];omega
theorem tr_at {k f i:Nat}(hk:4≤k∧k≤12) (hf:1≤f∧f<k) (hi:i<k):trIs k f i=true:=List.all_eq_true.1 (List.all_eq_true.1 (List.all_eq_true.1 tr_is k (in4 hk)) f (in1 hf)) i (List.mem_range.2 hi)
theorem root_at {k f:Nat}(hk:4≤k∧k≤12) (hf:1≤f∧f<k):(Pl.sat (Pl.finL (firstId f) (ringE k ten yes) k) (k-1)).v.root=firstId f f:=of_decide_eq_true (List.all_eq_true.1 (List.all_eq_true.1 root_is k (in4 hk)) f (in1 hf))
theorem root0_at {k:Nat}(hk:4≤k∧k≤12):(Pl.sat (Pl.finL ringId (ringE k ten yes) k) (k-1)).v.root=ringId 0:=of_decide_eq_true (List.all_eq_true.1 root0_is k (in4 hk))
theorem tr_run {k f:Nat}(hk:4≤k∧k≤12) (hf:1≤f∧f<k) (v:Int):(({ Ln.ringM k (Ln.trOp k f) (fun _=>true) 281474976710655 5 with vid:=v }:Ln.Sm).run 41 ⟨[],[(0,0)],List.replicate k []⟩).wait=[]∧(({ Ln.ringM k (Ln.trOp k f) (fun _=>true) 281474976710655 5 with vid:=v }:Ln.Sm).run 41 ⟨[],[(0,0)],List.replicate k []⟩).seen.length=k-1:=by
 have h:=List.all_eq_true.1 (List.all_eq_true.1 Ln.tr_sees k (in4 hk)) f (in1 hf);unfold Ln.seesAll at h;rw[Bool.and_eq_true] at h;have hO:(Ln.ringM k (Ln.trOp k f) (fun _=>true) 281474976710655 5).Only (List.replicate k []):=fun b hb e he=>by
  rw[List.eq_of_mem_replicate hb] at he;cases he
 obtain⟨g1,g2⟩:=Ln.run_vid (Ln.ringM k (Ln.trOp k f) (fun _=>true) 281474976710655 5) v (by show(5:Int)≠281474976710655;decide) 41 ⟨[],[(0,0)],List.replicate k []⟩ ⟨[],[(0,0)],List.replicate k []⟩ rfl rfl hO hO;exact⟨g2 ▸ List.isEmpty_iff.1 h.1,g1 ▸ of_decide_eq_true h.2⟩
theorem ringM_is2 {n:Net}{t:List Tr}{k x:Nat}{v:Int}{op:Nat→Int→Bool}{up lv:Nat→Bool}{dst src:Int}(eK:n.K=k) (hv:1≤v∧v≤4094) (hx:x<t.length) (htr:∀i,i<k→Ln.tr n v i=(x:Int)) (hE:∀i,i<k→n.ends i=ringE k ten lv i)
  (ho:∀i j:Nat,i<k→j<2→opT t (x:Int) i ((j:Int)+1)=op i ((j:Int)+1)) (h0:∀i,op i 0=true) (hc:∀i,i<k→∀p∈([0,1,2]:List Int),(crossTo n.ls n.L ((i:Int),p)).map (fun z=>(z.1.toNat,z.2))=Ln.ringCr k up i p):IsM n t { Ln.ringM k op up dst src with vid:=v }:=by
 refine⟨hv,fun i hi => ?_,fun i hi => ?_,fun i hi p hp => ?_,fun i hi p hp=>hc i (by omega) p hp⟩
 ·show 0≤Ln.tr n v i∧Ln.tr n v i<_;rw[htr i (by omega)];omega
 ·show 0 :: n.pts i=[0,1,2]
  unfold Pl.Net.pts;rw[hE i (by omega)];rfl
 ·show gopen t (i:Int) p (Ln.tr n v i).toNat=op i p;rw[htr i (by omega),Int.toNat_natCast];unfold gopen;have hp:p∈([0,1,2]:List Int):=hp;rcases(by simpa using hp:p=0∨p=1∨p=2) with rfl | rfl | rfl
  ·rw[h0];rfl
  ·exact ho i 0 (by omega) (by omega)
  ·exact ho i 1 (by omega) (by omega)
theorem trOp_zero (k f i:Nat):Ln.trOp k f i 0=true:=by
 have h:(Ln.shutAt k f).2=1∨(Ln.shutAt k f).2=2:=by
  unfold Ln.shutAt;split
  ·split
   ·exact Or.inl rfl
   ·exact Or.inr rfl
  ·split
   ·exact Or.inr rfl
   ·exact Or.inl rfl
 unfold Ln.trOp;rcases h with h | h<;>rw[h]<;>simp
def regT (a:Option Addr) (v:Int):Rg.Reg:=⟨⟨#[114]⟩,0,a,1,1,fun _=>v,fun _=>1⟩
def bsT (f:Nat) (v:Int) (ra:Nat→Option Addr) (pa:Option Addr) (i:Nat):Br:=⟨10+(i:Int),if i=f then pa else none,if i=f then 2 else 0,if i=f then 2 else 0,fun j=>if j=0 then 32768 else 4096,regT (ra i) v⟩
def netT (k f:Nat) (v:Int) (ra:Nat→Option Addr) (pa:Option Addr) (a5:Option Addr) (c5:Nat) (a6:Option Addr) (c6:Nat):Net:=⟨a5,k,c5,bsT f v ra pa,a6,lnL k true,c6,Pl.lnk k ten yes⟩
section
variable {k f:Nat}{v:Int}{ra:Nat→Option Addr}{pa:Option Addr}{a5:Option Addr}{c5:Nat}{a6:Option Addr}{c6:Nat}
theorem brT (hv:1≤v∧v≤4094) {i:Nat}(hi:i<12):Pl.brErr (bsT f v ra pa i)=0:=by
 have h3:Vc.someTo (fun j=>Pl.oddP (if j=0 then 32768 else 4096)) (if i=f then 2 else 0)=false:=by
  split<;>decide
 have h4:Rg.wrong ⟨#[114]⟩ 0 (fun _=>v) (fun _=>1) 1=0:=by
  unfold Rg.wrong Rg.wrongTo Rg.wrongTo Rg.wayErr Rg.last;rw[show Rg.isName ⟨#[114]⟩=true by kernel_rfl];simp;omega
 have e1:¬(281474976710655:Int)<(bsT f v ra pa i).addr:=by
  show ¬(281474976710655:Int)<10+(i:Int)
  omega
 have e2:¬16<(bsT f v ra pa i).pn:=by
  show ¬16<(if i=f then 2 else 0);split<;>omega
 have e3:¬Vc.someTo (fun j=>Pl.oddP ((bsT f v ra pa i).pv j)) (bsT f v ra pa i).pn=true:=by
  show ¬Vc.someTo (fun j=>Pl.oddP (if j=0 then 32768 else 4096)) (if i=f then 2 else 0)=true;rw[h3];decide
 unfold Pl.brErr;rw[if_neg e1,if_neg e2,if_neg e3];exact h4
theorem netT_ids0:(netT k f v ra pa a5 c5 a6 c6).ids 0=ringId:=by
 funext i
 show(if (0:Int)≤0∧(0:Int)≤(((if i=f then 2 else 0:Nat)):Int)-1 then(if (0:Int).toNat=0 then(32768:Int) else 4096) else 32768)*281474976710656+(10+(i:Int))=_;unfold ringId;split<;>simp<;>omega
theorem netT_ids1:(netT k f v ra pa a5 c5 a6 c6).ids 1=firstId f:=by
 funext i
 show(if (0:Int)≤1∧(1:Int)≤(((if i=f then 2 else 0:Nat)):Int)-1 then(if (1:Int).toNat=0 then(32768:Int) else 4096) else 32768)*281474976710656+(10+(i:Int))=_;unfold firstId;by_cases q:i=f
 ·rw[if_pos q,if_pos q,if_pos (by decide),if_neg (by decide)];omega
 ·rw[if_neg q,if_neg q,if_neg (by decide)];omega
theorem netT_live:(netT k f v ra pa a5 c5 a6 c6).live=yes:=by
 funext j
 show(true&&decide (strOf 50 (regT none v).id=strOf 50 (regT none v).id))=true;simp
theorem netT_ring (hk:3≤k) {i:Nat}(hi:i<k):(netT k f v ra pa a5 c5 a6 c6).ends i=ringE k ten yes i:=by
 unfold Pl.Net.ends;rw[netT_live];show Pl.ends (Pl.lnk k ten yes) yes (lnL k true) i=_;rw[lnL_ring hk];exact Pl.ring_ends hk ten_ok yes yes hi
theorem netT_wf (hk:k≤12):(netT k f v ra pa a5 c5 a6 c6).Wf:=by
 have h:=netL_wf (k:=k) (ring:=true) (cst:=ten) (a5:=a5) (c5:=c5) (a6:=a6) (c6:=c6) hk;exact⟨fun i hi=>h.1 i hi,fun i hi=>h.2 i hi⟩
theorem bErrT (hv:1≤v∧v≤4094) {i:Nat}(hi:i<12):Pl.bErr (bsT f v ra pa) i=0:=by
 have h:=bErrL i hi;unfold Pl.bErr at h ⊢;rw[if_neg (by rw[brT hv hi];decide)];by_cases c:Pl.brErr (bsL i)≠0
 ·rw[if_pos c] at h;exact absurd h c
 ·rw[if_neg c] at h;exact h
theorem netT_right (hk:k≤12) (hv:1≤v∧v≤4094):(netT k f v ra pa a5 c5 a6 c6).wrong.1=0:=by
 have hl:lnL k true≤12:=(by unfold lnL;split<;>omega)
 have h1:Pl.firstTo (Pl.bErr (bsT f v ra pa)) k=(0,0):=Pl.firstTo_all _ _ (fun i hi=>bErrT hv (by omega));have h2:Pl.firstTo (Pl.lErr k (Pl.lnk k ten yes)) (lnL k true)=(0,0):=Pl.firstTo_all _ _ (fun i hi=>lErr_of (lnL_right ten_ok) hi);show(if 12<k∨40<lnL k true then((5:Int),(0:Int)) else if (Pl.firstTo (Pl.bErr (bsT f v ra pa)) k).1≠0 then Pl.firstTo (Pl.bErr (bsT f v ra pa)) k else Pl.firstTo (Pl.lErr k (Pl.lnk k ten yes)) (lnL k true)).1=0;rw[h1,h2,if_neg (by omega)];rfl
end
section
variable {k f:Nat}{v:Int}{ra:Nat→Option Addr}{pa:Option Addr}{a5:Option Addr}{c5:Nat}{a6:Option Addr}{c6:Nat}
theorem trees_isM {W:World}{n':Net}{oa:Option Addr}{oc:Nat}{t':List Tr}(h:SnOut W (netT k f v ra pa a5 c5 a6 c6) 2 (((netT k f v ra pa a5 c5 a6 c6).sc (startMs (netT k f v ra pa a5 c5 a6 c6))).all (netT k f v ra pa a5 c5 a6 c6).cn (tk1 90) 1) n' oa oc t') (hk:4≤k∧k≤12) (hf:1≤f∧f<k) (hv:1≤v∧v≤4094) (h7:v≠7) :
  n'.K=k∧n'.L=k∧IsM n' t' { Ln.ringM k (Ln.trOp k f) (fun _=>true) 281474976710655 5 with vid:=v }∧IsM n' t' { Ln.ringM k (Ln.ringOp k) (fun _=>true) 281474976710655 5 with vid:=7 }:=by
 have hk3:3≤k∧k≤12:=(by omega)
 obtain⟨e1,e2,e3,e4⟩:=sn_net h;have e1:n'.K=k:=e1;obtain⟨f1,_,f3⟩:=tick_links h;have f1:n'.ls=Pl.lnk k ten yes:=f1;have f3:n'.L=k:=(by rw[f3];exact lnL_ring hk3.1)
 rw[tk1_all] at e3 e4;have e3:n'.ends=(netT k f v ra pa a5 c5 a6 c6).ends:=by
  rw[e3];show((netT k f v ra pa a5 c5 a6 c6).sc (startMs (netT k f v ra pa a5 c5 a6 c6))).E _=_;rw[Pl.Net.sc_E]
 have e40:n'.ids ((0:Nat):Int)=ringId:=by
  rw[e4];funext q
  show((netT k f v ra pa a5 c5 a6 c6).sc (startMs (netT k f v ra pa a5 c5 a6 c6))).ids _ _ q=_;rw[net_ids];exact congrFun netT_ids0 q
 have e41:n'.ids ((1:Nat):Int)=firstId f:=by
  rw[e4];funext q
  show((netT k f v ra pa a5 c5 a6 c6).sc (startMs (netT k f v ra pa a5 c5 a6 c6))).ids _ _ q=_;rw[net_ids];exact congrFun netT_ids1 q
 have hE:∀i,i<k→n'.ends i=ringE k ten yes i:=fun i hi=>by rw[e3];exact netT_ring hk3.1 hi
 have hall:=fun {i:Nat}(hi:i<k)=>all_at (List.all_eq_true.1 ring_is k (in3 hk3)) hi;have htr:∀(x:Int) i,Ln.tr n' x i=if v=x then 1 else 0:=fun x i=>by
  unfold Ln.tr;rw[(h.regs i).2.2.1,(h.regs i).2.2.2.1,(h.regs i).2.2.2.2];rfl
 have hcr:∀i,i<k→∀p∈([0,1,2]:List Int),(crossTo n'.ls n'.L ((i:Int),p)).map (fun z=>(z.1.toNat,z.2))=Ln.ringCr k (fun _=>true) i p:=fun i hi p hp=>by
  rw[f1,f3];have h2:=hall hi;unfold ringIs at h2;simp only[Bool.and_eq_true] at h2;exact of_decide_eq_true (List.all_eq_true.1 h2.2 p hp)
 refine⟨e1,f3,ringM_is2 (x:=1) (lv:=yes) e1 hv (by rw[h.len];omega) (fun i _=>by rw[htr,if_pos rfl];rfl) hE (fun i j hi hj => ?_) (fun i=>trOp_zero k f i) hcr,ringM_is2 (x:=0) (lv:=yes) e1 (by omega) (by rw[h.len];omega) (fun i _=>by rw[htr,if_neg h7];rfl) hE (fun i j hi hj => ?_) (fun i => ?_) hcr⟩
 ·have ho:=opens_by (tree:=1) h (netT_wf hk.2) (netT_right hk.2 hv) (fun k hk=>absurd hk (by omega)) (by decide) (by omega) e1 hi hE (Pl.ringE_in hk3.1 ten yes) e41 (show j<(ringE k ten yes i).length from hj);rw[port_ring hj] at ho;have h2:=tr_at hk hf hi;unfold trIs at h2;simp only[Bool.and_eq_true,beq_iff_eq] at h2;rcases(by omega:j=0∨j=1) with e | e<;>subst e
  ·exact ho.trans h2.1
  ·exact ho.trans h2.2
 ·have ho:=opens_by (tree:=0) h (netT_wf hk.2) (netT_right hk.2 hv) (fun k hk=>absurd hk (by omega)) (by decide) (by omega) e1 hi hE (Pl.ringE_in hk3.1 ten yes) e40 (show j<(ringE k ten yes i).length from hj);rw[port_ring hj] at ho;have h2:=hall hi;unfold ringIs at h2;simp only[Bool.and_eq_true,beq_iff_eq] at h2;rcases(by omega:j=0∨j=1) with e | e<;>subst e
  ·exact ho.trans h2.1.1
  ·exact ho.trans h2.1.2
 ·unfold Ln.ringOp;by_cases q:k%2=1
  ·rw[if_pos q];simp
  ·rw[if_neg q];simp
end
end
end Go.Proofs.YtflghpnpjmodaaaGreatDoor
