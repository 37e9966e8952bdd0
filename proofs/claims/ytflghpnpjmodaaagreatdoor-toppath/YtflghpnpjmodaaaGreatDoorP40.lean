/- 'hedgetop.TopPath' returns true for every three numbers, and leaves it as it was: the row and its tied card. Conditions: none beyond the form's own (the tables lie as the program's text lays them: the card's tie). -/
import Derived.Test.YtflghpnpjmodaaaGreatDoorP39
import Derived.Test.YtflghpnpjmodaaaGreatDoorP28
import Derived.Test.YtflghpnpjmodaaaGreatDoorCards
import Derived.Test.YtflghpnpjmodaaaGreatDoorTie
import Derived.Test.YtflghpnpjmodaaaGreatDoorP01
set_option maxRecDepth 100000
set_option maxHeartbeats 6000000
namespace Go.Proofs.YtflghpnpjmodaaaGreatDoor
section
open Go.RowKit
open Pl (Br Net)
open Bk (E at')
open Rl (F O)
structure IsM (n:Net) (t:List Tr) (M:Ln.Sm):Prop where
 vid:1≤M.vid∧M.vid≤4094
 tree:∀i,i<n.K→0≤Ln.tr n M.vid i∧Ln.tr n M.vid i<t.length
 ps:∀i,i<n.K→Ln.ps n i=M.ps i
 op:∀i,i<n.K→∀p∈M.ps i,Ln.op n t M.vid i p=M.op i p
 cr:∀i,i<n.K→∀p∈M.ps i,(crossTo n.ls n.L ((i:Int),p)).map (fun z=>(z.1.toNat,z.2))=M.cr i p
structure Sent (w:World) (n:Net) (oao:Option Addr) (ocap:Nat) (t:List Tr):Prop where
 wf:n.Wf
 net:n.at' w
 right:n.wrong.1=0
 row:TrRow w oao ocap t
 fit:fitT n t=true
 calm:CalmT t
 tabs:Tabs w
 top:2≤w.heap.size
theorem Sent.below {w w':World}{n:Net}{oao:Option Addr}{ocap:Nat}{t:List Tr}(h:Sent w n oao ocap t) (hb:Below w.heap.size w w'):Sent w' n oao ocap t :=
 ⟨h.wf,h.net.below hb,h.right,h.row.below hb,h.fit,h.calm,h.tabs.below hb h.top,Nat.le_trans h.top hb.size⟩
theorem Sent.on {w:World}{n:Net}{oao:Option Addr}{ocap:Nat}{t:List Tr}(h:Sent w n oao ocap t):onErr n t dn0 0=(0,0):=by
 have e:wrT n t 0=(0,0):=by
  unfold wrT;rw [if_neg (fun q=>q h.right),h.fit]
  rfl
 unfold onErr;rw [e];rfl
def frF (dst src:Int):F:=⟨dst,src,false,0,false,0,2048,none,0,0,fun _=>0⟩
theorem send_is {w:World}{n:Net}{oao:Option Addr}{ocap:Nat}{t:List Tr}(h:Sent w n oao ocap t) {M:Ln.Sm}(hM:IsM n t M) (hd:0≤M.dst∧M.dst≤281474976710655) (hs:0≤M.src∧M.src≤281474976710655) (hg:M.src / 1099511627776 % 2≠1)
  {ko:Option Addr}{kcap:Nat}{bks:Nat→List E}{bo:Nat→Option Addr}{bc:Nat→Nat}(hb:BIn w ko n.K kcap bks bo bc) {bl:List (List E)}(hl:bl.length=n.K) (hbl:∀i,i<n.K→bks i=bl.getD i []∧Bk.Book (bks i)) {i:Nat}(hi:i<n.K) {S:Ln.Ss}(hS:S=M.run 41 ⟨[],[(i,0)],bl⟩) (hw:S.wait=[]) :
  Calls Tryz.prog 30 #[.agg #[.slice n.bao n.K n.bcap,.slice n.lao n.L n.lcap],.agg #[.slice oao t.length ocap],.slice ko n.K kcap,.int .i64 (i:Int),.int .i64 M.vid,.agg #[.int .u64 M.dst,.int .u64 M.src,.bool false,.int .i64 0,.bool false,.int .i64 0,.int .i64 2048,.slice none 0 0]] w fun e w'=>∃so sc gk,e=.returned (.tuple #[.slice so S.seen.length sc,.slice (some ⟨gk,0,none⟩) n.K n.K,.bool true,.agg #[.int .i64 0,.int .i64 0]])∧Hid (Below w.heap.size w w'∧∃ss bks' bo' bc',ss.map AV.i=S.seen∧SdIs w w' n.K (frF M.dst M.src) ⟨S.seen.map (fun i=>(i,Ln.lv M.vid 0)),[],bks',0⟩ so sc ss gk bo' bc'∧∀i,i<n.K→bks' i=S.books.getD i []∧Bk.Book (bks' i)):=by
 have hR:=right_of h.wf h.right;have hfw:wrong M.dst M.src false 0 0 2048 0=0:=by
  unfold wrong;rw [if_neg (by omega),if_neg hg,if_neg (by simp),if_neg (by decide),if_neg (by decide)]
 have hH:Ln.Hs n t M.vid (frF M.dst M.src):=⟨hR,(fit_iff.1 h.fit).1.2,hM.vid,hM.tree,hfw⟩;have hrel:=Ln.sent_run hH rfl hl hbl hi;have hrun:(Ln.model n t M.vid (frF M.dst M.src)).run 41 ⟨[],[(i,0)],bl⟩=S:=by
  rw [hS];refine Ln.run_congr (K:=n.K) (M:=Ln.model n t M.vid (frF M.dst M.src)) (N:=M) rfl rfl rfl hM.ps (fun q hq p hp=>hM.op q hq p (by rw [←hM.ps q hq];exact hp)) (fun q hq p hp=>hM.cr q hq p (by rw [←hM.ps q hq];exact hp)) (fun q hq p hp z hz => ?_) 41 _ (fun x hx => ?_)
  ·obtain⟨y,hy,rfl⟩:=Option.map_eq_some_iff.1 hz;obtain⟨c1,c2,c3⟩:=Ln.cross_mem hR hy;exact⟨c1,List.mem_cons_of_mem _ c2⟩
  ·obtain rfl:x=(i,0):=by simpa using hx
   exact⟨hi,List.mem_cons_self⟩
 rw [hrun] at hrel;have hst:stray n M.vid t.length=false:=by
  unfold stray;refine decide_eq_false ?_;rintro⟨q,hq,h1⟩;unfold strayB at h1;have h2:=(hM.tree q hq).2;unfold Ln.tr at h2;have:=of_decide_eq_true h1;omega
 have hse:sErr n t n.K (i:Int) M.vid (frF M.dst M.src)=(0,0):=by
  unfold sErr;rw [h.on,if_neg (fun q=>q rfl)]
  unfold besErr;rw [if_neg (fun q=>q rfl),if_neg (fun q=>q (by omega)),if_neg (fun q=>q hM.vid),if_neg (show ¬(frF M.dst M.src).tagged=true from fun q=>by cases q)]
  have e:wrong (frF M.dst M.src).dst (frF M.dst M.src).src (frF M.dst M.src).tagged (frF M.dst M.src).prio (frF M.dst M.src).vid (frF M.dst M.src).type (frF M.dst M.src).n=0:=hfw;rw [if_neg (fun q=>q e),hst,if_neg (by decide)]
 have hK:=hR.few;refine(jsend_any n oao ocap t ko n.K kcap bks bo bc (i:Int) M.vid (frF M.dst M.src) w h.wf h.net h.row h.calm h.tabs h.top (by omega) hb (⟨Nat.le_refl _,fun q=>absurd q (Nat.lt_irrefl 0)⟩) (fun _=>⟨rfl,rfl⟩) ⟨hd.1,by show M.dst<_;omega⟩ ⟨hs.1,by show M.src<_;omega⟩).mono ?_
 rintro e w' ⟨z1,z2⟩;rw [hse] at z2;have hrel2:Ln.Rel n M.vid (sent n t M.vid (frF M.dst M.src) bks (i:Int).toNat) S:=hrel;generalize sent n t M.vid (frF M.dst M.src) bks (i:Int).toNat=RR at *;have hwt:RR.wait=[]:=by
  have:=hrel2.wait;rw [hw] at this;exact List.map_eq_nil_iff.1 this
 rcases z2 with⟨q,_⟩ | ⟨_,⟨q,_⟩ | ⟨_,_,so,sc,ss,gk,bo',bc',rfl,hI⟩⟩
 ·exact absurd rfl q
 ·exact absurd ⟨hrel2.err,hwt⟩ q
 ·have hm:ss.map AV.i=S.seen:=by
   have h1:=hI.map;rw [hrel2.seen] at h1;have h2:=congrArg (List.map Prod.fst) h1;rw [List.map_map,List.map_map] at h2;have e1:(Prod.fst ∘ AV.p)=AV.i:=rfl;have e2:((Prod.fst:Nat × O→Nat) ∘ fun i=>(i,Ln.lv M.vid 0))=id:=rfl
   rw [e1,e2,List.map_id] at h2;exact h2
  have hlen:ss.length=S.seen.length:=by rw [←hm,List.length_map]
  refine⟨so,sc,gk,by rw [hlen],z1,ss,RR.books,bo',bc',hm,?_,hrel2.books⟩
  exact⟨hI.map.trans hrel2.seen,hI.row,hI.data,hI.books,hI.own⟩
end
section
open Go.RowKit
open Vc (V Of)
open Pl (Br Net Pc Lk En St ringE lineE ringId)
open Tk (Md Mnd Cn Sc Dn ten yes)
def onF (ids:Nat→Int) (F:Nat→List En) (K i j:Nat):Bool :=
 let r:=Pl.roleAt (Pl.sat (Pl.finL ids F K) i) (Pl.offs (F i) (Pl.sat (Pl.finL ids F K))) (EL (F i) j)
 decide (r=1) || decide (r=2)
theorem opens_by {W:World}{n:Net}{T:Nat}{ds:Nat→Dn}{dn:Nat}{tk:Int}{n':Net}{oa:Option Addr}{oc:Nat}{t':List Tr}(h:SnOut W n T ((n.sc (startMs n)).all n.cn (dsT dn ds tk) (dn+1)) n' oa oc t') (hw:n.Wf) (h0:n.wrong.1=0) (he:∀k,k<dn→Tk.errOf n.cn (ds k)=0) (ht:83≤tk.toNat)
  {tree i j K:Nat}(hT:tree<T) (hK:n'.K=K) {F:Nat→List En}{ids:Nat→Int}(hi:i<K) (hE:∀q,q<K→n'.ends q=F q) (hF:∀q,q<K→∀e,e∈F q→e.other.toNat<K) (hids:n'.ids (tree:Int)=ids) (hj:j<(F i).length):opT t' tree i (EL (F i) j).port=onF ids F K i j:=by
 have e1:=(sn_net h).1;have hO:=sn_opens (j:=j) (k:=tree) h hw h0 he ht hT (show i<n.K by omega) (by rw [hE i hi];exact hj)
 rw [hids,hK,hE i hi] at hO;have hf:∀q,q<K→Pl.rounds ids n'.ends K K q=Pl.sat (Pl.finL ids F K) q:=fun q hq=>(Pl.finL_by hE hF hq).symm
 have hoffs:Pl.offs (F i) (Pl.rounds ids n'.ends K K)=Pl.offs (F i) (Pl.sat (Pl.finL ids F K)):=Pl.offs_congr (fun e he _=>by rw [hf _ (hF i hi e he)])
 rw [hf i hi,hoffs] at hO;rw [hO];unfold onF;simp only;rw [Bool.decide_or]
theorem sn_sent {W:World}{n:Net}{T:Nat}{ds:Nat→Dn}{dn:Nat}{n':Net}{oa:Option Addr}{oc:Nat}{t':List Tr}(h:SnOut W n T ((n.sc (startMs n)).all n.cn ds dn) n' oa oc t') (hw:n.Wf) (h0:n.wrong.1=0) (he:∀k,k<dn→Tk.errOf n.cn (ds k)=0) (hT:1≤T∧T≤4) (ht:Tabs W) (hg:2≤W.heap.size):Sent W n' oa oc t':=by
 obtain⟨h1,h2,_⟩:=sn_fit h hT (sn_pts h hw h0 he);exact⟨h.wf,h.net,h.right,h.row,h1,h2,ht,hg⟩
def lineIs (k i:Nat):Bool:=(List.range (lineE k ten yes i).length).all (fun j=>onF ringId (lineE k ten yes) k i j) && ([0,1,2]:List Int).all (fun p=>decide ((crossTo (Pl.lnk k ten yes) (k-1) ((i:Int),p)).map (fun z=>(z.1.toNat,z.2))=Ln.lineCr k i p))
theorem line_is:(List.range 13).all (fun k=>(List.range k).all (lineIs k))=true:=by decide +kernel
theorem all_at {m:Nat}{P:Nat→Bool}(h:(List.range m).all P=true) {i:Nat}(hi:i<m):P i=true:=List.all_eq_true.1 h i (List.mem_range.2 hi)
theorem pts_end {es:List En}{p:Int}(h:p∈es.map (fun e:En=>e.port)):∃j,j<es.length∧(EL es j).port=p:=by
 obtain⟨j,hj,e⟩:=List.getElem_of_mem h;have hj':j<es.length:=by simpa using hj
 refine⟨j,hj',?_⟩;rw [←e];have:=EL_get hj';rw [List.getElem?_eq_getElem hj'] at this;injection this with this
 rw [List.getElem_map,this]
section
variable {k:Nat}{a5:Option Addr}{c5:Nat}{a6:Option Addr}{c6:Nat}
theorem line_isM {W:World}{n':Net}{oa:Option Addr}{oc:Nat}{t':List Tr}(h:SnOut W (netL k false ten a5 c5 a6 c6) 1 (((netL k false ten a5 c5 a6 c6).sc (startMs (netL k false ten a5 c5 a6 c6))).all (netL k false ten a5 c5 a6 c6).cn (tk1 90) 1) n' oa oc t') (hk:2≤k∧k≤12) (dst src:Int):n'.K=k∧IsM n' t' (Ln.lineM k dst src):=by
 obtain⟨e1,e2,e3,e4⟩:=sn_net h;have e1:n'.K=k:=e1;have hlen:t'.length=1:=h.len;obtain⟨f1,_,f3⟩:=tick_links h;have f1:n'.ls=Pl.lnk k ten yes:=f1;have f3:n'.L=k-1:=by rw [f3];exact lnL_line k
 rw [tk1_all] at e3 e4;have e3:n'.ends=(netL k false ten a5 c5 a6 c6).ends:=by
  rw [e3];show((netL k false ten a5 c5 a6 c6).sc (startMs (netL k false ten a5 c5 a6 c6))).E _=_
  rw [Pl.Net.sc_E]
 have e4:n'.ids ((0:Nat):Int)=ringId:=by
  rw [e4];funext q
  show((netL k false ten a5 c5 a6 c6).sc (startMs (netL k false ten a5 c5 a6 c6))).ids _ _ q=_
  rw [net_ids,netL_ids]
 have hE:∀i,i<k→n'.ends i=lineE k ten yes i:=fun i hi=>by rw [e3];exact netL_line ten_ok hi
 have hps:∀i,i<k→Ln.ps n' i=Ln.linePs k i:=fun i hi=>by
  unfold Ln.ps Pl.Net.pts;rw [hE i hi];unfold lineE Ln.linePs;rw [if_neg (show ¬k<2 by omega)]
  by_cases q1:i=0
  ·subst q1;rw [if_pos rfl,if_pos rfl,if_neg (by omega)]
   rfl
  ·rw [if_neg q1,if_neg q1];by_cases q2:i+1=k
   ·rw [if_pos q2,if_pos q2];rfl
   ·rw [if_neg q2,if_neg q2];rfl
 have htr:∀i,i<n'.K→Ln.tr n' 7 i=0:=fun i _=>by
  unfold Ln.tr;have:=(h.regs i).2.2.1;rw [this];rfl
 have hin:∀i,i<k→∀p∈Ln.linePs k i,p=0∨p∈(lineE k ten yes i).map (fun e:En=>e.port):=fun i hi p hp=>by
  rw [←hps i hi] at hp;unfold Ln.ps Pl.Net.pts at hp;rw [hE i hi] at hp;exact List.mem_cons.1 hp
 have hall:=fun {i:Nat}(hi:i<k)=>all_at (all_at line_is (show k<13 by omega)) hi
 refine⟨e1,⟨⟨show(1:Int)≤7 by decide,show(7:Int)≤4094 by decide⟩,fun i hi => ?_,fun i hi=>hps i (by omega),fun i hi p hp => ?_,fun i hi p hp => ?_⟩⟩
 ·show 0≤Ln.tr n' 7 i∧Ln.tr n' 7 i<_
  rw [htr i hi,hlen];decide
 ·show gopen t' (i:Int) p (Ln.tr n' 7 i).toNat=true
  rw [htr i hi];unfold gopen;rcases hin i (by omega) p hp with rfl | hq
  ·rfl
  ·obtain⟨j,hj,rfl⟩:=pts_end hq;have ho:=opens_by (tree:=0) h (netL_wf hk.2) (netL_right hk.2 ten_ok) (fun k hk=>absurd hk (by omega)) (by decide) (by omega) e1 (show i<k by omega) hE (Pl.lineE_in k ten yes) e4 hj
   have h2:=hall (show i<k by omega)
   unfold lineIs at h2;rw [Bool.and_eq_true] at h2;have h3:=all_at h2.1 hj;rw [h3] at ho;show(_ || opT t' ((0:Nat):Int) i _)=true
   rw [ho,Bool.or_true]
 ·rw [f1,f3];have h2:=hall (show i<k by omega)
  unfold lineIs at h2;rw [Bool.and_eq_true] at h2;have hp3:p∈([0,1,2]:List Int):=by
   have hp:p∈Ln.linePs k i:=hp;unfold Ln.linePs at hp;rw [if_neg (show ¬k<2 by omega)] at hp
   split at hp
   ·simp at hp;rcases hp with rfl | rfl <;> decide
   ·split at hp
    ·simp at hp;rcases hp with rfl | rfl <;> decide
    ·exact hp
  exact of_decide_eq_true (List.all_eq_true.1 h2.2 p hp3)
end
end
section
open Go.RowKit
open Pl (Br Net)
open Bk (E at')
open Rl (F O)
theorem BkO.bin {W:World}{b0 g K:Nat}{bks:Nat→List E}{bo:Nat→Option Addr}{bc:Nat→Nat}(h:BkO W b0 g K bks bo bc) (hb:∀i,i<K→Bk.Book (bks i)):BIn W (some ⟨g,0,none⟩) K K bks bo bc:=by
 refine⟨⟨Nat.le_refl _,fun _=>⟨g,0,rfl,(Array.getElem?_eq_some_iff.1 h.row).1,fun i hi j hj => ?_⟩⟩,fun i hi => ?_⟩
 ·have:=rowC_cell h.row hi hj;rw [Nat.zero_add];exact this
 ·obtain⟨h1,h2,_⟩:=h.bk.each i hi;have:=(hb i hi).many;exact⟨h1,h2,by omega⟩
theorem none_bin {W:World}{g K:Nat}(h:W.heap[g]?=some (.cells (rowC K 1 (fun _ _=>.slice none 0 0)) 186)):BIn W (some ⟨g,0,none⟩) K K (fun _=>[]) (fun _=>none) (fun _=>0):=by
 refine⟨⟨Nat.le_refl _,fun _=>⟨g,0,rfl,(Array.getElem?_eq_some_iff.1 h).1,fun i hi j hj => ?_⟩⟩,fun i hi=>⟨⟨Nat.le_refl _,fun q=>absurd q (by simp)⟩,fun _=>⟨rfl,rfl⟩,by simp⟩⟩
 have:=rowC_cell h hi hj;rw [Nat.zero_add];exact this
theorem none_book:Bk.Book []:=⟨by simp,fun e he=>by simp at he,List.Pairwise.nil⟩
theorem SdIs.first {w w':World}{K:Nat}{f:F}{RR:Ln.Cs}{so:Option Addr}{sc:Nat}{ss:List AV}{gk:Nat}{bo':Nat→Option Addr}{bc':Nat→Nat}(h:SdIs w w' K f RR so sc ss gk bo' bc') (hl:0<ss.length):∃gb off,so=some ⟨gb,off,none⟩∧w.heap.size≤gb∧gb<w'.heap.size∧w'.cell? ⟨gb,off,none⟩=some (.int .i64 ((aat ss 0).i:Int))∧ss.length≤sc:=by
 obtain⟨ao,cap,e,hc,_,hlow⟩:=owns_c (by omega) h.row
 injection e with e1 _ e2
 subst e1 e2;obtain⟨gb,off,rfl,hg,hcell⟩:=hc.2 hl;refine⟨gb,off,rfl,hlow _ rfl,hg,?_,hc.1⟩;have:=hcell 0 hl 0 (by omega)
 rw [Nat.zero_mul,Nat.add_zero] at this;exact this
theorem hear_at {k j:Nat}(hk:2≤k∧k≤12) (hj:j<k):((Ln.lineM k 281474976710655 (100+(j:Int))).run 41 ⟨[],[(j,0)],Ln.heard k j⟩).wait=[]∧((Ln.lineM k 281474976710655 (100+(j:Int))).run 41 ⟨[],[(j,0)],Ln.heard k j⟩).books=Ln.heard k (j+1):=by
 have h1:(List.range k).all (Ln.hearOk k)=true:=List.all_eq_true.1 Ln.hear_all k (by
  have:∀q,q<13→2≤q→q∈(List.range 13).drop 2:=by decide
  exact this k (by omega) hk.1)
 have h2:=all_at h1 hj;unfold Ln.hearOk at h2;simp only [Bool.and_eq_true] at h2;exact⟨List.isEmpty_iff.1 h2.1,Ln.eqL_eq (fun a b q=>Ln.eqL_eq Ln.eqE_eq q) h2.2⟩
theorem path_at {k a b:Nat}(hk:2≤k∧k≤12) (ha:a<k) (hb:b<k) (hab:a≠b):((Ln.lineM k (100+(b:Int)) (100+(a:Int))).run 41 ⟨[],[(a,0)],Ln.heard k k⟩).wait=[]∧((Ln.lineM k (100+(b:Int)) (100+(a:Int))).run 41 ⟨[],[(a,0)],Ln.heard k k⟩).seen=[b]:=by
 have h1:=List.all_eq_true.1 Ln.path_all k (by
  have:∀q,q<13→2≤q→q∈(List.range 13).drop 2:=by decide
  exact this k (by omega) hk.1)
 have h2:=all_at (all_at h1 ha) hb;rw [decide_eq_false hab,Bool.false_or] at h2;unfold Ln.pathOk at h2;simp only [Bool.and_eq_true] at h2;exact⟨List.isEmpty_iff.1 h2.1,Ln.eqL_eq (fun a b q=>of_decide_eq_true q) h2.2⟩
theorem heard_len (k m:Nat):(Ln.heard k m).length=k:=by simp [Ln.heard]
end
section
open Go.RowKit
open Vc (V Of)
open Pl (Br Net Pc Lk En St ringE lineE ringId)
open Bk (E at')
open Tk (Md Mnd Cn Sc Dn ten yes)
def HdB (Z W:World) (k j kb:Nat):Prop:=∃bks bo bc,BIn W (some ⟨kb,0,none⟩) k k bks bo bc∧(∀i,i<k→bks i=(Ln.heard k j).getD i []∧Bk.Book (bks i))∧Below Z.heap.size Z W
theorem utoppath_any (k a b:Int) (w:World) (ht:Tabs w) (hbt:2≤w.heap.size):Calls Tryz.prog 11 #[.int .i64 k,.int .i64 a,.int .i64 b] w fun e w'=>e=.returned (.bool true)∧Below w.heap.size w w':=by
 have HT:Hid (∀V,Below w.heap.size w V→Tabs V∧2≤V.heap.size):=fun V hV=>⟨ht.below hV hbt,Nat.le_trans hbt hV.size⟩
 have HAL:Hid (Calls Tryz.prog 12 #[] w fun e w'=>e=.returned (.bool true)∧Below w.heap.size w w'):=ualive_any w ht hbt
 clear ht hbt;go_enter Tryz.func11,Tryz.ntmps11
 go_wp2_with fail
 refine HAL.out.mono ?_;rintro e w1 ⟨rfl,HB1⟩;have H1:Hid (Below w.heap.size w w1):=HB1;clear HAL HB1;by_cases q1:k<2
 ·clear HT;go_wp2_with fail
  go_ret
  exact⟨rfl,H1.out⟩
 by_cases q2:12<k
 ·clear HT;go_wp2_with fail
  go_ret
  exact⟨rfl,H1.out⟩
 by_cases q3:a<0
 ·clear HT;go_wp2_with fail
  go_ret
  exact⟨rfl,H1.out⟩
 by_cases q4:k≤a
 ·clear HT;go_wp2_with fail
  go_ret
  exact⟨rfl,H1.out⟩
 by_cases q5:b<0
 ·clear HT;go_wp2_with fail
  go_ret
  exact⟨rfl,H1.out⟩
 by_cases q6:k≤b
 ·clear HT;go_wp2_with fail
  go_ret
  exact⟨rfl,H1.out⟩
 by_cases q7:a=b
 ·clear HT;subst q7;go_wp2_with fail
  go_ret
  exact⟨rfl,H1.out⟩
 obtain⟨k,rfl⟩:∃q:Nat,k=(q:Int):=⟨k.toNat,by omega⟩
 obtain⟨a,rfl⟩:∃q:Nat,a=(q:Int):=⟨a.toNat,by omega⟩
 obtain⟨b,rfl⟩:∃q:Nat,b=(q:Int):=⟨b.toNat,by omega⟩
 have HK:Hid ((2≤k∧k≤12)∧a<k∧b<k∧a≠b):=⟨⟨by omega,by omega⟩,by omega,by omega,fun e=>q7 (by rw [e])⟩
 have q8:((a:Int) == (b:Int))=false:=beq_eq_false_iff_ne.2 q7;have HLN:Hid (Calls Tryz.prog 14 #[.int .i64 (k:Int),.bool false] w1 fun e w'=>∃a5 c5 a6 c6,e=.returned (.agg #[.slice a5 k c5,.slice a6 (lnL k false) c6])∧Hid (LineW (w1.heap.size+2) w' (Pl.lnk k ten yes) k (lnL k false) (.slice a5 k c5) (.slice a6 (lnL k false) c6)∧Below w1.heap.size w1 w')):=uline_any k false w1 (by omega)
 go_wp2_with fail
 refine HLN.out.mono ?_;rintro e w2 ⟨a5,c5,a6,c6,rfl,H2⟩;clear HLN q1 q2 q3 q4 q5 q6 q7 q8;obtain⟨L,HL⟩:∃L,Hid (L=lnL k false):=⟨_,rfl⟩;rw [←HL.out] at H2 ⊢;go_wp2_with fail
 refine(uticks_any 90 _).mono ?_;rintro e w3 ⟨rfl,hb3⟩;obtain⟨X,HX⟩:∃X,Hid (X=w3.alloc (.cells #[.int .i64 1,.int .i64 90,.int .i64 0,.int .i64 0] 47)):=⟨_,rfl⟩;have hX2:Below w3.heap.size w3 X:=by rw [HX.out];exact below_alloc1 _ _
 have hXd:DRow X (some ⟨w3.heap.size,0,none⟩) 1 1 (tk1 90):=by
  have:=one_do (w:=X) (g:=w3.heap.size) (d:=tickD 90) (ty:=47) (by rw [HX.out];exact heap_alloc_last _ _)
  rw [show tk1 90=fun _=>tickD 90 from funext (tk1_eq 90)]
  exact this
 have h12:=hb3.trans (hX2.mono hb3.size);have h0w2:=H1.out.trans (H2.out.2.mono H1.out.size);have h0X:=h0w2.trans (h12.mono h0w2.size);have HP:Hid (Calls Tryz.prog 15 #[.agg #[.slice a5 k c5,.slice a6 L c6],.int .i64 1,.slice (some ⟨w3.heap.size,0,none⟩) 1 1] X fun e w'=>∃(n':Net) (ob off oc:Nat) (t':List Tr),e=.returned (.tuple #[.agg #[.slice n'.bao k n'.bcap,.slice n'.lao L n'.lcap],.agg #[.slice (some ⟨ob,off,none⟩) 1 oc],.agg #[.int .i64 0,.int .i64 0]])∧1≤oc∧Hid (Below X.heap.size X w'∧SnOut w' (netL k false ten a5 c5 a6 c6) 1 (((netL k false ten a5 c5 a6 c6).sc (startMs (netL k false ten a5 c5 a6 c6))).all (netL k false ten a5 c5 a6 c6).cn (tk1 90) 1) n' (some ⟨ob,off,none⟩) oc t')):=by
  rw [HL.out];exact uplay_any (k:=k) (ring:=false) (cst:=ten) HK.out.1.2 ten_ok _ 1 1 (tk1 90) X ((H2.out.1.at (ring:=false) HL.out (by have:=HK.out.1.2;omega)).below h12) hXd (by omega) (fun q hq=>by rw [tk1_eq];exact errTick (by omega)) (HT.out X h0X).1 (HT.out X h0X).2
 have H0X:Hid (Below w.heap.size w X):=h0X;clear H1 H2 hb3 hX2 hXd h12 h0X h0w2;go_wp2_with fail
 rw [←HX.out];refine HP.out.mono ?_;rintro e w4 ⟨n',ob,off,oc,t',rfl,hoc,H4⟩;clear HP;obtain⟨Z0,HZ0⟩:∃Z0,Hid (Z0=((w4.alloc (.cells #[.slice n'.bao k n'.bcap,.slice n'.lao L n'.lcap] 32)).alloc (.cells #[.slice (some ⟨ob,off,none⟩) 1 oc] 43)).alloc (.cells #[.int .i64 0,.int .i64 0] 26)):=⟨_,rfl⟩;have h3:=alloc3 w4 (.cells #[.slice n'.bao k n'.bcap,.slice n'.lao L n'.lcap] 32) (.cells #[.slice (some ⟨ob,off,none⟩) 1 oc] 43) (.cells #[.int .i64 0,.int .i64 0] 26);rw [←HZ0.out] at h3;obtain⟨y0,y1,y2,y3⟩:=h3;obtain⟨G,HG⟩:∃G,Hid (G=w4.heap.size):=⟨_,rfl⟩;rw [←HG.out] at y0 y1 y2;obtain⟨Z,HZ⟩:∃Z,Hid (Z=Z0.alloc (.cells (rowC k 1 (fun _ _=>.slice none 0 0)) 186)):=⟨_,rfl⟩
 have hmk:(Instr.makeSlice 93 (.int .i64 (k:Int)) (.int .i64 (k:Int))).run Tryz.prog Z0=.ok (.slice (some ⟨Z0.heap.size,0,none⟩) k k) (Z0.alloc (.cells (rowC k 1 (fun _ _=>.slice none 0 0)) 186)):=make_rowD Z0 93 186 (.slice none 0 0) 1 24 k Tryz.underlying93 (by kernel_rfl) (by omega) rfl (by have:=HK.out.1.2;omega) (by have:=HK.out.1.2;omega) _ (fun _ j hj=>by rw [show j=0 by omega];rfl)
 have hZ0:Below Z0.heap.size Z0 Z:=by rw [HZ.out];exact below_alloc1 _ _
 have hw4Z:Below w4.heap.size w4 Z:=y3.trans (hZ0.mono y3.size);have hwZ:Below w.heap.size w Z:=by
  have:=H0X.out.trans (H4.out.1.mono H0X.out.size);exact this.trans (hw4Z.mono this.size)
 have s0:Z0.heap.size=w4.heap.size+1+1+1:=by rw [HZ0.out];simp
 obtain⟨kb0,HKB⟩:∃kb0,Hid (kb0=w4.heap.size+1+1+1):=⟨_,rfl⟩;have hrow:Z.heap[kb0]?=some (.cells (rowC k 1 (fun _ _=>.slice none 0 0)) 186):=by rw [HKB.out,←s0,HZ.out];exact heap_alloc_last _ _
 have HKn:Hid (n'.K=k∧n'.L=L):=⟨(line_isM H4.out.2 HK.out.1 0 0).1,by rw [HL.out];exact(tick_links H4.out.2).2.2⟩
 have HS:Hid (∀W,Below Z.heap.size Z W→Sent W n' (some ⟨ob,off,none⟩) oc t'∧(W.cell? ⟨G,0,none⟩=some (.slice n'.bao k n'.bcap)∧W.cell? ⟨G,1,none⟩=some (.slice n'.lao L n'.lcap))∧W.cell? ⟨G+1,0,none⟩=some (.slice (some ⟨ob,off,none⟩) 1 oc)∧W.heap[G+1+1]?=some (.cells #[.int .i64 0,.int .i64 0] 26)∧Below w.heap.size w W∧t'.length=1):=fun W hW=>by
  have hb:=hwZ.trans (hW.mono hwZ.size);obtain⟨u1,u2⟩:=HT.out W hb;have hS:=H4.out.2.below (hw4Z.trans (hW.mono hw4Z.size));have hb0:=hZ0.trans (hW.mono hZ0.size);exact⟨sn_sent hS (netL_wf HK.out.1.2) (netL_right HK.out.1.2 ten_ok) (fun q hq=>by rw [tk1_eq];exact errTick (by omega)) (by omega) u1 u2,two_cells2 (keep y0 hb0),cell_of_row _ _ 0 _ _ _ (keep y1 hb0),keep y2 hb0,hb,hS.len⟩
 have H0:Hid (HdB Z Z k 0 kb0):=⟨_,_,_,none_bin hrow,fun i hi=>⟨by simp [Ln.heard,Ln.heardAt,hi],none_book⟩,Below.refl _ _⟩
 have HSD:Hid (∀(W:World) (j kb:Nat) (s:Int),s=100+(j:Int)→j<k→HdB Z W k j kb→Calls Tryz.prog 30 #[.agg #[.slice n'.bao k n'.bcap,.slice n'.lao L n'.lcap],.agg #[.slice (some ⟨ob,off,none⟩) 1 oc],.slice (some ⟨kb,0,none⟩) k k,.int .i64 (j:Int),.int .i64 7,.agg #[.int .u64 281474976710655,.int .u64 s,.bool false,.int .i64 0,.bool false,.int .i64 0,.int .i64 2048,.slice none 0 0]] W fun e w'=>∃so sn sc gk,e=.returned (.tuple #[.slice so sn sc,.slice (some ⟨gk,0,none⟩) k k,.bool true,.agg #[.int .i64 0,.int .i64 0]])∧Hid (∀V,Below w'.heap.size w' V→HdB Z V k (j+1) gk)):=fun W j kb s hs hj hB=>by
  subst hs;obtain⟨bks,bo,bc,hb1,hb2,hb3⟩:=hB;obtain⟨u1,_,_,_,_,u6⟩:=HS.out W hb3;have hM:=(line_isM H4.out.2 HK.out.1 281474976710655 (100+(j:Int))).2;have hh:=hear_at HK.out.1 hj;have hk12:=HK.out.1.2;obtain⟨eK,eL⟩:=HKn.out;have hsend:=send_is u1 hM ⟨show(0:Int)≤281474976710655 by decide,show(281474976710655:Int)≤281474976710655 by decide⟩ ⟨show(0:Int)≤100+(j:Int) by omega,show(100+(j:Int))≤281474976710655 by omega⟩ (show(100+(j:Int)) / 1099511627776 % 2≠1 by omega) (by rw [eK];exact hb1) (bl:=Ln.heard k j) (by rw [eK];exact heard_len k j) (by rw [eK];exact hb2) (i:=j) (by omega) rfl hh.1
  rw [u6,eK,eL] at hsend;refine hsend.mono ?_;rintro e w' ⟨so,sc,gk,rfl,H⟩;obtain⟨v1,ss,bks',bo',bc',_,v3,v4⟩:=H.out;refine⟨so,_,sc,gk,rfl,fun V hV => ?_⟩
  rw [hh.2] at v4;exact⟨bks',bo',bc',(v3.books.bin (fun i hi=>(v4 i hi).2)).below hV,v4,hb3.trans ((v1.trans (hV.mono v1.size)).mono hb3.size)⟩
 have HLS:Hid (∀(W:World) (kb:Nat) (d s:Int),d=100+(b:Int)→s=100+(a:Int)→HdB Z W k k kb→Calls Tryz.prog 30 #[.agg #[.slice n'.bao k n'.bcap,.slice n'.lao L n'.lcap],.agg #[.slice (some ⟨ob,off,none⟩) 1 oc],.slice (some ⟨kb,0,none⟩) k k,.int .i64 (a:Int),.int .i64 7,.agg #[.int .u64 d,.int .u64 s,.bool false,.int .i64 0,.bool false,.int .i64 0,.int .i64 2048,.slice none 0 0]] W fun e w'=>∃gb o1 sc gk,e=.returned (.tuple #[.slice (some ⟨gb,o1,none⟩) 1 sc,.slice (some ⟨gk,0,none⟩) k k,.bool true,.agg #[.int .i64 0,.int .i64 0]])∧1≤sc∧Z.heap.size≤gb∧w'.cell? ⟨gb,o1,none⟩=some (.int .i64 (b:Int))∧Hid (Below Z.heap.size Z w')):=fun W kb d s hd hs hB=>by
  subst hd hs;obtain⟨bks,bo,bc,hb1,hb2,hb3⟩:=hB;obtain⟨u1,_,_,_,_,u6⟩:=HS.out W hb3;have hM:=(line_isM H4.out.2 HK.out.1 (100+(b:Int)) (100+(a:Int))).2;have hh:=path_at HK.out.1 HK.out.2.1 HK.out.2.2.1 HK.out.2.2.2;have hk12:=HK.out.1.2;have hak:=HK.out.2.1;have hbk:=HK.out.2.2.1;obtain⟨eK,eL⟩:=HKn.out;have hsend:=send_is u1 hM ⟨show(0:Int)≤100+(b:Int) by omega,show(100+(b:Int))≤281474976710655 by omega⟩ ⟨show(0:Int)≤100+(a:Int) by omega,show(100+(a:Int))≤281474976710655 by omega⟩ (show(100+(a:Int)) / 1099511627776 % 2≠1 by omega) (by rw [eK];exact hb1) (bl:=Ln.heard k k) (by rw [eK];exact heard_len k k) (by rw [eK];exact hb2) (i:=a) (by omega) rfl hh.1
  rw [u6,eK,eL,hh.2] at hsend;refine hsend.mono ?_;rintro e w' ⟨so,sc,gk,rfl,H⟩;obtain⟨v1,ss,bks',bo',bc',v2,v3,v4⟩:=H.out;have hl1:ss.length=1:=by
   have:=congrArg List.length v2;simpa using this
  obtain⟨gb,o1,rfl,g1,g2,g3,g4⟩:=v3.first (by omega)
  obtain⟨x,rfl⟩:=List.length_eq_one_iff.1 hl1;have hx:x.i=b:=by simpa using v2
  have g3:w'.cell? ⟨gb,o1,none⟩=some (.int .i64 (x.i:Int)):=g3;rw [hx] at g3;refine⟨gb,o1,sc,gk,rfl,by omega,Nat.le_trans hb3.size g1,g3,hb3.trans (v1.mono hb3.size)⟩
 have HGW:Hid (w.heap.size≤G):=by rw [HG.out];exact Nat.le_trans H0X.out.size H4.out.1.size
 have HGZ:Hid (G+1+1<Z.heap.size):=Nat.lt_of_lt_of_le (Array.getElem?_eq_some_iff.1 (keep y2 hZ0)).1 (Nat.le_refl _);obtain⟨z0,z1⟩:=two_cells2 y2;rw [HZ0.out] at z0 z1 hmk;rw [HG.out] at z0 z1;clear HT H0X H4 y0 y1 y2 y3 hZ0 hw4Z hwZ hrow HKn s0;go_upto_region 8 with fail
 clear z0 z1;go_wp2_with fail
 rw [←HZ0.out];rw [←HKB.out,←HZ.out,←HG.out];clear hmk;go_loopw [10,65] (fun s10 s65 wr=>∃j kb:Nat,j≤k∧s65=.int .i64 j∧s10=.slice (some ⟨kb,0,none⟩) k k∧Hid (HdB Z wr k j kb)) (fun _ s65 _=>k-(intOf s65).toNat)
 case atStart=>exact⟨0,kb0,by omega,rfl,rfl,H0⟩
 case round =>
  obtain⟨j,kb,hj,rfl,rfl,hB⟩:=hrel;obtain⟨_,_,_,_,_,hZB⟩:=hB.out;obtain⟨_,⟨c0,c1⟩,c2,_⟩:=HS.out wr hZB;by_cases hlt:j<k
  ·have hi:(j:Int)<(k:Int):=by omega
   have hi0:(0:Int)≤(j:Int):=by omega
   obtain⟨s,hs⟩:∃s:Int,s=100+(j:Int):=⟨_,rfl⟩;have hk12:=HK.out.1.2;have ws:IntKind.i64.wrap (100+(j:Int))=s:=by rw [IntKind.wrap_i64];omega
   have wu:IntKind.u64.wrap s=s:=by rw [IntKind.wrap_u64];omega
   have HC:Hid (Calls Tryz.prog 30 #[.agg #[.slice n'.bao k n'.bcap,.slice n'.lao L n'.lcap],.agg #[.slice (some ⟨ob,off,none⟩) 1 oc],.slice (some ⟨kb,0,none⟩) k k,.int .i64 (j:Int),.int .i64 7,.agg #[.int .u64 281474976710655,.int .u64 s,.bool false,.int .i64 0,.bool false,.int .i64 0,.int .i64 2048,.slice none 0 0]] wr fun e w'=>∃so sn sc gk,e=.returned (.tuple #[.slice so sn sc,.slice (some ⟨gk,0,none⟩) k k,.bool true,.agg #[.int .i64 0,.int .i64 0]])∧Hid (∀V,Below w'.heap.size w' V→HdB Z V k (j+1) gk)):=HSD.out wr j kb s hs hlt hB.out
   clear HSD HLS HS hs hB hZB HK;go_wp2_with fail
   refine HC.out.mono ?_;rintro e w6 ⟨so,sn,sc,gk,rfl,H6⟩;clear HC;go_wp2_with fail
   exact⟨⟨j+1,gk,by omega,by go_num,rfl,H6.out _ (below_alloc1 _ _)⟩,by simp [intOf];omega⟩
  ·obtain rfl:j=k:=by omega
   have hi:¬(j:Int)<(j:Int):=by omega
   obtain⟨s,hs⟩:∃s:Int,s=100+(a:Int):=⟨_,rfl⟩;obtain⟨d,hd⟩:∃d:Int,d=100+(b:Int):=⟨_,rfl⟩;have hk12:=HK.out.1.2;have hak:=HK.out.2.1;have hbk:=HK.out.2.2.1;have ws:IntKind.i64.wrap (100+(a:Int))=s:=by rw [IntKind.wrap_i64];omega
   have wu:IntKind.u64.wrap s=s:=by rw [IntKind.wrap_u64];omega
   have ws2:IntKind.i64.wrap (100+(b:Int))=d:=by rw [IntKind.wrap_i64];omega
   have wu2:IntKind.u64.wrap d=d:=by rw [IntKind.wrap_u64];omega
   have HC:Hid (Calls Tryz.prog 30 #[.agg #[.slice n'.bao j n'.bcap,.slice n'.lao L n'.lcap],.agg #[.slice (some ⟨ob,off,none⟩) 1 oc],.slice (some ⟨kb,0,none⟩) j j,.int .i64 (a:Int),.int .i64 7,.agg #[.int .u64 d,.int .u64 s,.bool false,.int .i64 0,.bool false,.int .i64 0,.int .i64 2048,.slice none 0 0]] wr fun e w'=>∃gb o1 sc gk,e=.returned (.tuple #[.slice (some ⟨gb,o1,none⟩) 1 sc,.slice (some ⟨gk,0,none⟩) j j,.bool true,.agg #[.int .i64 0,.int .i64 0]])∧1≤sc∧Z.heap.size≤gb∧w'.cell? ⟨gb,o1,none⟩=some (.int .i64 (b:Int))∧Hid (Below Z.heap.size Z w')):=HLS.out wr kb d s hd hs hB.out
   clear HSD HLS hs hd hB hZB HK;go_wp2_with fail
   refine HC.out.mono ?_;rintro e w6 ⟨gb,o1,sc,gk,rfl,hsc,hgb,hcell,H6⟩;obtain⟨_,_,_,u4,u5,_⟩:=HS.out w6 H6.out;obtain⟨r0,r1⟩:=two_cells2 u4;have r2:=lk_free0 u4 0;have r3:=lk_free0 u4 1;have HBW:Hid (Below w.heap.size w w6∧w6.heap[G+1+1]?=some (.cells #[.int .i64 0,.int .i64 0] 26)):=⟨u5,u4⟩;have hne:gb≠G+1+1:=by have:=HGZ.out;omega
   clear HC HS u4 u5;go_wp2_with fail
   go_ret
   have hGW2:w.heap.size≤G+1+1:=by have:=HGW.out;omega
   exact⟨rfl,(HBW.out.1.setCell hGW2 _).setCell hGW2 _⟩
end
end Go.Proofs.YtflghpnpjmodaaaGreatDoor
namespace Go.Proofs.YtflghpnpjmodaaaGreatDoor.topPath
open Go.ChangeShapes Go.WideShapes Go.ChangeAt Go.RowKit
theorem contract (H:Type) (enc:TypeId × Value→H) (W:World) (base:Nat) (args:Array Value) (ds gs:List (DataW H)) (before:List MemPlace)
  (hval:∀(j:Nat) t v,Tryz.f11.params[j]?=some t→args[j]?=some v→Value.okWide Tryz.prog W .any base t v)
  (hW:DataW.Whole enc Tryz.prog Tryz.f11.params.toList Rows.topPathSpec.vars false W args.toList ds gs before)
  (hsz:(DataW.weightsEach Tryz.prog (Tryz.f11.params.toList ++ (OpenSpec.ofChange Rows.topPathSpec).bare.plain.varTypes Tryz.prog) (ds ++ gs)).all (·≤reachBytes)=true)
  (hL:laidMetH Tryz.prog Rows.topPathRow.laid W) :
  Calls Tryz.prog 11 args W fun e W'=>∃v,e=.returned v∧Rows.topPathSpec.post enc Tryz.prog Tryz.f11 false true false false W args v W':=by
 have hW':=hW;obtain⟨p,q,hA0,hV,rfl,hfz,hnd⟩:=hW;have hA:DataW.TrodAll enc Tryz.prog W 0 (fun _=>true) true Tryz.f11.params.toList args.toList ds p:=hA0
 rw [Tryz.params11] at hA hval hsz;obtain⟨v0,vs0,d0,ds0,p0,q0,hargs,rfl,rfl,h0,r0⟩:=trodAll_cons hA;obtain⟨v1,vs1,d1,ds1,p1,q1,rfl,rfl,rfl,h1,r1⟩:=trodAll_cons r0;obtain⟨v2,vs2,d2,ds2,p2,q2,rfl,rfl,rfl,h2,r2⟩:=trodAll_cons r1;obtain⟨rfl,rfl,rfl⟩:=trodAll_nil r2;obtain rfl:args=#[v0,v1,v2]:=by cases args;simp_all
 obtain⟨rfl,rfl⟩:=trodVars_none hV;have lt0:∀x∈p0,x.block<W.heap.size:=by obtain⟨m,hm⟩:=h0;exact DataW.trod_lt m _ _ _ hm
 obtain⟨z0,rfl⟩:=okWide_int Tryz.underlying3 (hval 0 3 v0 rfl rfl);have lt1:∀x∈p1,x.block<W.heap.size:=by obtain⟨m,hm⟩:=h1;exact DataW.trod_lt m _ _ _ hm
 obtain⟨z1,rfl⟩:=okWide_int Tryz.underlying3 (hval 1 3 v1 rfl rfl);have lt2:∀x∈p2,x.block<W.heap.size:=by obtain⟨m,hm⟩:=h2;exact DataW.trod_lt m _ _ _ hm
 obtain⟨z2,rfl⟩:=okWide_int Tryz.underlying3 (hval 2 3 v2 rfl rfl);have hT:=tabs_of hL;have hG:2≤W.heap.size:=hT.lt;clear hA0 hsz;refine(utoppath_any z0 z1 z2 W hT hG).mono fun e W' ⟨he,bel⟩ => ?_
 subst he;exact⟨_,rfl,_,_,_,[],_,[],hW',trodAll_mk1 (shut_bool Tryz.underlying4 _),(trodAll_cons_mk (Below.trod laidOut (by kernel_rfl) (of_decide_eq_true (by kernel_rfl)) h0 bel lt0) (trodAll_cons_mk (Below.trod laidOut (by kernel_rfl) (of_decide_eq_true (by kernel_rfl)) h1 bel lt1) (trodAll_cons_mk (Below.trod laidOut (by kernel_rfl) (of_decide_eq_true (by kernel_rfl)) h2 bel lt2) trodAll_mk0))),rfl,bel.frame _,fun h=>by cases h⟩
theorem laid_met (os:Os):laidMet Tryz.prog Rows.topPathRow.laid ((laidW (World.holding Tryz.prog os ⟨#[],#[],[]⟩)).forCall (fun _ _=>0) ⟨#[],#[.int .i64 0,.int .i64 0,.int .i64 0],[]⟩).memory :=
 laidMet_of_run' 8 (by kernel_rfl) (by kernel_rfl)
theorem reads (os:Os) {H:Type}(enc:TypeId × Value→H):∃places,DataW.whole enc Tryz.prog ((laidW (World.holding Tryz.prog os ⟨#[],#[],[]⟩)).forCall (fun _ _=>0) ⟨#[],#[.int .i64 0,.int .i64 0,.int .i64 0],[]⟩).memory Tryz.f11.params.toList Rows.topPathSpec.vars false #[Value.int .i64 0,.int .i64 0,.int .i64 0].toList 8=some ([.lit (.int .i64 0),.lit (.int .i64 0),.lit (.int .i64 0)],[],places) :=
 ⟨[],by kernel_rfl⟩
theorem lifted (os:Os) (started:os.Started) (H:Type) (enc:TypeId × Value→H) (F:Stop.Interp) :
  ReturnsInHanded {} Tryz.checked os 11 .any ((OpenSpec.ofChange Rows.topPathSpec).preRow enc Tryz.prog Tryz.f11 Rows.topPathRow.domain false Rows.topPathRow.laid) (((OpenSpec.ofChange Rows.topPathSpec).at F).post enc Tryz.prog Tryz.f11 false true false false):=by
 obtain⟨places,hx⟩:=reads os enc;refine returnsInHanded_of_row (C:=Tryz.checked) (s:=OpenSpec.ofChange Rows.topPathSpec) own started (by kernel_rfl) Tryz.func11
  (witness_row_at (enc:=enc) (C:=Tryz.checked) false (laidW (World.holding Tryz.prog os ⟨#[],#[],[]⟩)) #[.int .i64 0,.int .i64 0,.int .i64 0] rfl (by kernel_rfl) (by kernel_rfl) (by kernel_rfl)
   (OpenSpec.preRow_of_cond 8 hx (by kernel_rfl) (fun k hk=>by cases hk) (by kernel_rfl) (laid_met os))) ?_
 intro W base args ds gs before hval hW _ _ hsz hL _ _;exact contract H enc W base args ds gs before hval hW hsz hL
theorem said:Rows.TopPathSaid :=
 OpenClaim.holds_of_cond 11 Tryz.f11 rfl rfl rfl rfl rfl rfl rfl ⟨rfl,rfl,rfl,rfl,rfl⟩ rfl rfl rfl rfl rfl (by kernel_rfl) Tryz.func11 (by kernel_rfl)
  (of_decide_eq_true (by kernel_rfl)) (by unfold Func.isWrapper;first | (rw [if_pos (by decide +kernel)];kernel_rfl) | (rw [if_neg (by decide +kernel)];exact⟨rfl,rfl⟩))
  (fun os started H enc _ F=>by rw [OpenClaim.pre_eq_preRow];exact lifted os started H enc F)
theorem plain (f:FuncId) (fn:Func) (hf:Tryz.pinned.checked.prog.funcNamed "hedgerow/hedgetop.TopPath" = some f) (hfn:Tryz.pinned.checked.prog.funcs[f]?=some fn) :
  false=Tryz.pinned.checked.prog.looks []∧∀(j:Nat) t,fn.params[j]?=some t→Tryz.pinned.checked.prog.wantsStandIn t=false:=by
 obtain rfl:f=11:=Option.some.inj ((show Tryz.prog.funcNamed "hedgerow/hedgetop.TopPath" = some 11 by kernel_rfl).symm.trans hf) |>.symm
 obtain rfl:fn=Tryz.f11:=(Option.some.inj (Tryz.func11.symm.trans hfn)).symm;refine⟨by kernel_rfl,fun j t ht => ?_⟩
 rw [Tryz.params11] at ht;have h1:Tryz.prog.wantsStandIn 3=false:=by kernel_rfl
 have ht2:t=3:=by simpa using Array.mem_of_getElem? ht
 subst ht2;exact h1
theorem card:Rows.TopPathCardSaid :=
 Claim7.holds_tied_plain_at .later [] _ _ _ _ said (fun _ h=>by cases h) (by kernel_rfl) (fun _ h=>by cases h) topPath_row_tie rfl ⟨rfl,rfl⟩ (by kernel_rfl) rfl plain (by kernel_rfl)
end Go.Proofs.YtflghpnpjmodaaaGreatDoor.topPath
namespace Go.Proofs.YtflghpnpjmodaaaGreatDoor
theorem topPath_card:Rows.TopPathCardSaid:=topPath.card
#print axioms topPath_card
end Go.Proofs.YtflghpnpjmodaaaGreatDoor
