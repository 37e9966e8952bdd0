/- walks: Same -/
import Derived.Test.YtelebnancdjjiaaGreatDoorM35
import Derived.Test.YtelebnancdjjiaaGreatDoorM37
import Derived.Test.YtelebnancdjjiaaGreatDoorM34
import Derived.Test.YtelebnancdjjiaaGreatDoorM28
import Derived.Test.YtelebnancdjjiaaGreatDoorM25
import Derived.Test.YtelebnancdjjiaaGreatDoorM26
import Derived.Deep.RegionHeld3
import Derived.Deep.QuietTactic
set_option maxRecDepth 100000
set_option maxHeartbeats 6000000
namespace Go.Proofs.YtelebnancdjjiaaGreatDoor
section
open Go.RowKit
open Vc (V Of)
open Pl (Br Net Pc Lk En St)
open Bk (E at')
open Rl (F O)
open Tk (Md Mnd Cn Sc Dn)
theorem l10two_any (w:World):Calls Tryz.prog 38 #[] w fun e w'=>∃b1 b2,e=.returned (netTwo b1 b2).val∧(netTwo b1 b2).at' w'∧Bl w w':=by
 go_enter Tryz.func38,Tryz.ntmps38;(go_wp2_with fail);obtain⟨X,hX⟩:∃X,X=(w.alloc (.cells #[.slice (some ⟨w.heap.size+1+1,0,none⟩) 2 2,.slice (some ⟨w.heap.size+1+1+1,0,none⟩) 1 1] 25)).alloc (.cells #[.string ⟨#[114]⟩,.int .i64 0,.slice none 0 0] 63):=⟨_,rfl⟩
 rw[←hX];have hs:X.heap.size=w.heap.size+1+1:=(by rw[hX];simp)
 have hn:X.heap[w.heap.size]?=some (.cells #[.slice (some ⟨w.heap.size+1+1,0,none⟩) 2 2,.slice (some ⟨w.heap.size+1+1+1,0,none⟩) 1 1] 25):=(by rw[hX];exact heap_alloc2_old w _ _)
 have hb:Bl w X:=(by rw[hX];exact bA2 _ _ _)
 have hb2:=bA2 X (.cells #[.int .u64 1,.slice none 0 0,.string ⟨#[114]⟩,.int .i64 0,.slice none 0 0,.int .u64 2,.slice none 0 0,.string ⟨#[114]⟩,.int .i64 0,.slice none 0 0] 65) (.cells #[.int .i64 0,.int .i64 1,.int .i64 1,.int .i64 2,.int .i64 5,.bool true] 103);have h1:=heap_alloc2_old X (.cells #[.int .u64 1,.slice none 0 0,.string ⟨#[114]⟩,.int .i64 0,.slice none 0 0,.int .u64 2,.slice none 0 0,.string ⟨#[114]⟩,.int .i64 0,.slice none 0 0] 65) (.cells #[.int .i64 0,.int .i64 1,.int .i64 1,.int .i64 2,.int .i64 5,.bool true] 103);have h2:=heap_alloc2_new X (.cells #[.int .u64 1,.slice none 0 0,.string ⟨#[114]⟩,.int .i64 0,.slice none 0 0,.int .u64 2,.slice none 0 0,.string ⟨#[114]⟩,.int .i64 0,.slice none 0 0] 65) (.cells #[.int .i64 0,.int .i64 1,.int .i64 1,.int .i64 2,.int .i64 5,.bool true] 103);rw[hs] at h1 h2;exact bodyPost_ret (v:=.agg #[.slice (some ⟨w.heap.size+1+1,0,none⟩) 2 2,.slice (some ⟨w.heap.size+1+1+1,0,none⟩) 1 1]) (results_row (p:=0) (ty:=25) Tryz.results38 _ _ w.heap.size 25 _ (0,0) _ rfl (keep hn hb2) Tryz.underlying25 rfl (by rw[sizeNet];rfl)) rfl ⟨w.heap.size+1+1,w.heap.size+1+1+1,rfl,two_at h1 h2,hb.trans (hb2.mono hb.size)⟩
theorem l10ticks_any (x:Int) (w:World):Calls Tryz.prog 39 #[.int .i64 x] w fun e w'=>e=.returned (.agg #[.int .i64 1,.int .i64 x,.int .i64 0,.int .i64 0])∧Bl w w':=by
 go_enter Tryz.func39,Tryz.ntmps39;(go_wp2_with fail);exact bodyPost_ret (v:=.agg #[.int .i64 1,.int .i64 x,.int .i64 0,.int .i64 0]) (results_row (p:=2) (ty:=106) Tryz.results39 _ _ w.heap.size 106 _ (0,0) _ rfl (heap_alloc_last _ _) Tryz.underlying106 rfl (by rw[sizeDo];rfl)) rfl ⟨rfl,bA1 _ _⟩
theorem two_ok (b1 b2:Nat) (x:Int) (hx:0≤x∧x≤200):(plErr (netTwo b1 b2) 1 (fun _=>tickD x) 1).1=0:=by
 have h0:=two_right b1 b2;have e:stErr (netTwo b1 b2) 1=(0,0):=by
  unfold stErr;rw[if_neg (fun z=>z h0),if_neg (fun z=>z (by omega))]
 unfold plErr;rw[e,if_neg (fun z=>z rfl),if_neg (by omega)];have:Tk.errOf (netTwo b1 b2).cn (tickD x)=0:=by
  unfold Tk.errOf tickD;simp only[if_pos];rw[if_pos hx]
 show(Pl.firstTo (fun _=>Tk.errOf (netTwo b1 b2).cn (tickD x)) 1).1=0;rw[Pl.firstTo_all _ _ (fun _ _=>this)]
theorem ln_sent {W:World}{n:Net}{T:Nat}{ds:Nat→Dn}{dn:Nat}{n':Net}{oa:Option Addr}{oc:Nat}{t':List Tr}(h:SnOut W n T ((n.sc (startMs n)).all n.cn ds dn) n' oa oc t') (hw:n.Wf) (h0:n.wrong.1=0) (he:∀k,k<dn→Tk.errOf n.cn (ds k)=0) (hT:1≤T∧T≤4) (ht:Tabs W) (hg:2≤W.heap.size):Sent W n' oa oc t':=by
 obtain⟨h1,h2,_⟩:=sn_fit h hT (sn_pts h hw h0 he);exact⟨h.wf,h.net,h.right,h.row,h1,h2,ht,hg⟩
theorem below_a {X V:World}{o:Obj}(h:Bl X V):Bl X (V.alloc o):=h.trans ((bA1 V o).mono h.size)
theorem none_bin {W:World}{g K:Nat}(h:W.heap[g]?=some (.cells (rowC K 1 (fun _ _=>.slice none 0 0)) 67)):BIn W (some ⟨g,0,none⟩) K K (fun _=>[]) (fun _=>none) (fun _=>0):=by
 refine⟨⟨Nat.le_refl _,fun _=>⟨g,0,rfl,(gSm.1 h).1,fun i hi j hj => ?_⟩⟩,fun i hi=>⟨⟨Nat.le_refl _,fun q=>absurd q (by simp)⟩,fun _=>⟨rfl,rfl⟩,by simp⟩⟩;have:=rowC_cell h hi hj;rw[Nat.zero_add];exact this
theorem SdIs.first {w w':World}{K:Nat}{f:F}{RR:Ln.Cs}{so:Option Addr}{sc:Nat}{ss:List AV}{gk:Nat}{bo':Nat→Option Addr}{bc':Nat→Nat}(h:SdIs w w' K f RR so sc ss gk bo' bc') (hl:0<ss.length):∃gb off,so=some ⟨gb,off,none⟩∧w.heap.size≤gb∧gb<w'.heap.size∧w'.cell? ⟨gb,off,none⟩=some (.int .i64 ((aat ss 0).i:Int))∧ss.length≤sc:=by
 obtain⟨ao,cap,e,hc,_,hlow⟩:=owns_c (by omega) h.row;injection e with e1 _ e2;subst e1 e2;obtain⟨gb,off,rfl,hg,hcell⟩:=hc.2 hl;refine⟨gb,off,rfl,hlow _ rfl,hg,?_,hc.1⟩;have:=hcell 0 hl 0 (by omega);rw[Nat.zero_mul,Nat.add_zero] at this;exact this
def twoM:Ln.Sm:=⟨fun i=>if i=0 then [0,1] else [0,2],fun _ _=>true,fun i p=>if i=0∧p=1 then some (1,2) else if i=1∧p=2 then some (0,1) else none,5,9,8⟩
def twoOk:Bool:=let s:=twoM.run 41 ⟨[],[(0,0)],[[],[]]⟩;s.wait.isEmpty&&Ln.eqL (fun x y=>decide (x=y)) s.seen [1]
theorem two_run:(twoM.run 41 ⟨[],[(0,0)],[[],[]]⟩).wait=[]∧(twoM.run 41 ⟨[],[(0,0)],[[],[]]⟩).seen=[1]:=by
 have h:twoOk=true:=by decide +kernel
 unfold twoOk at h;simp only[Bool.and_eq_true] at h;exact⟨List.isEmpty_iff.1 h.1,Ln.eqL_eq (fun a b q=>of_decide_eq_true q) h.2⟩
theorem two_roles:Pl.roleAt (Pl.rounds ids2 E2 2 2 0) (Pl.offs (E2 0) (Pl.rounds ids2 E2 2 2)) e2a=2∧Pl.roleAt (Pl.rounds ids2 E2 2 2 1) (Pl.offs (E2 1) (Pl.rounds ids2 E2 2 2)) e2b=1:=⟨by kernel_rfl,by kernel_rfl⟩
theorem two_isM {W:World}{b1 b2:Nat}{n':Net}{oa:Option Addr}{oc:Nat}{t':List Tr}(h:SnOut W (netTwo b1 b2) 1 (((netTwo b1 b2).sc (startMs (netTwo b1 b2))).all (netTwo b1 b2).cn (fun _=>tickD 100) 1) n' oa oc t'):n'.K=2∧n'.L=1∧IsM n' t' twoM:=by
 have hd:(fun _:Nat=>tickD 100)=dsT 0 (fun _=>tickD 100) 100:=by
  funext q
  unfold dsT;split<;>rfl
 have h':=h;rw[hd] at h';obtain⟨e1,e2,e3,e4⟩:=sn_net h';have e1:n'.K=2:=e1;have e2:n'.L=1:=e2;rw[all_ticks] at e3 e4;have e3:n'.ends=E2:=by
  rw[e3];show((netTwo b1 b2).sc (startMs (netTwo b1 b2))).E _=_;rw[Pl.Net.sc_E,two_ends]
 have e4:n'.ids ((0:Nat):Int)=ids2:=by
  rw[e4];funext q
  show((netTwo b1 b2).sc (startMs (netTwo b1 b2))).ids _ _ q=_;rw[net_ids];exact congrFun (two_ids b1 b2) q
 have hls:n'.ls=lsTwo:=by
  have:=congrArg Sc.ls h'.sc;rw[all_ticks] at this;exact this
 have hO:=fun {i j:Nat}(hi:i<2) hj=>sn_opens (j:=j) (k:=0) (i:=i) h' (two_wf b1 b2) (two_right b1 b2) (fun k hk=>absurd hk (by omega)) (by decide) (by omega) hi hj;rw[e1,e3,e4] at hO;have o0:opT t' 0 0 1=true:=by
  have:=hO (i:=0) (j:=0) (by omega) (by show 0<1;omega);have e:EL (E2 0) 0=e2a:=rfl;rw[e] at this;have t0:opT t' ((0:Nat):Int) ((0:Nat):Int) 1=_:=this;exact t0.trans (decide_eq_true (Or.inr two_roles.1))
 have o1:opT t' 0 1 2=true:=by
  have:=hO (i:=1) (j:=0) (by omega) (by show 0<1;omega);have e:EL (E2 1) 0=e2b:=rfl;rw[e] at this;have t0:opT t' ((0:Nat):Int) ((1:Nat):Int) 2=_:=this;exact t0.trans (decide_eq_true (Or.inl two_roles.2))
 have hlen:t'.length=1:=h.len;have htr:∀i,Ln.tr n' 5 i=0:=fun i=>by
  unfold Ln.tr;rw[(h.regs i).2.2.1];rfl
 refine⟨e1,e2,⟨⟨show(1:Int)≤5 by decide,show(5:Int)≤4094 by decide⟩,fun i hi => ?_,fun i hi => ?_,fun i hi p hp => ?_,fun i hi p hp => ?_⟩⟩
 ·show 0≤Ln.tr n' 5 i∧Ln.tr n' 5 i<_;rw[htr i,hlen];decide
 ·show 0 :: n'.pts i=_;unfold Pl.Net.pts;rw[e3];rcases(by omega:i=0∨i=1) with e | e<;>subst e<;>rfl
 ·show gopen t' (i:Int) p (Ln.tr n' 5 i).toNat=true;rw[htr i];unfold gopen;rcases(by omega:i=0∨i=1) with e | e<;>subst e
  ·have hp:p∈([0,1]:List Int):=hp;rcases(by simpa using hp:p=0∨p=1) with rfl | rfl
   ·rfl
   ·show(_||opT t' 0 0 1)=true;rw[o0,Bool.or_true]
  ·have hp:p∈([0,2]:List Int):=hp;rcases(by simpa using hp:p=0∨p=2) with rfl | rfl
   ·rfl
   ·show(_||opT t' 0 1 2)=true;rw[o1,Bool.or_true]
 ·rw[hls,e2];rcases(by omega:i=0∨i=1) with e | e<;>subst e
  ·have hp:p∈([0,1]:List Int):=hp;rcases(by simpa using hp:p=0∨p=1) with rfl | rfl<;>decide
  ·have hp:p∈([0,2]:List Int):=hp;rcases(by simpa using hp:p=0∨p=2) with rfl | rfl<;>decide
theorem l10alive_any (w:World) (ht:Tabs w) (hbt:2≤w.heap.size):Calls Tryz.prog 14 #[] w fun e w'=>e=.returned (.bool true)∧Bl w w':=by
 have HT:Hid (∀V,Bl w V→Tabs V∧2≤V.heap.size):=fun V hV=>⟨ht.below hV hbt,Nat.le_trans hbt hV.size⟩
 clear ht hbt;go_enter Tryz.func14,Tryz.ntmps14;(go_wp2_with fail);refine(l10two_any _).mono ?_;rintro e w1 ⟨b1,b2,rfl,hat,hb1⟩;unfold Pl.Net.val netTwo;(go_wp2_with fail);refine(l10ticks_any 100 _).mono ?_;rintro e w2 ⟨rfl,hb2⟩;obtain⟨X0,HX0⟩:∃X0,Hid (X0=w2.alloc (.cells #[.int .i64 1,.int .i64 100,.int .i64 0,.int .i64 0] 106)):=⟨_,rfl⟩
 have hX2:Bl w2 X0:=(by rw[HX0.out];exact bA1 _ _)
 have hXd:DRow X0 (some ⟨w2.heap.size,0,none⟩) 1 1 (fun _=>tickD 100):=one_do (by rw[HX0.out];exact heap_alloc_last _ _);have h12:=hb2.trans (hX2.mono hb2.size);have h0X:=hb1.trans (h12.mono hb1.size);have HP:Hid (Calls Tryz.prog 19 #[.agg #[.slice (some ⟨b1,0,none⟩) 2 2,.slice (some ⟨b2,0,none⟩) 1 1],.int .i64 1,.slice (some ⟨w2.heap.size,0,none⟩) 1 1] X0 fun e w'=>∃(n':Net) (ob off oc:Nat) (t':List Tr),e=.returned (.tuple #[.agg #[.slice n'.bao 2 n'.bcap,.slice n'.lao 1 n'.lcap],.agg #[.slice (some ⟨ob,off,none⟩) 1 oc],.agg #[.int .i64 0,.int .i64 0]])∧Hid (Bl w w'∧SnOut w' (netTwo b1 b2) 1 (((netTwo b1 b2).sc (startMs (netTwo b1 b2))).all (netTwo b1 b2).cn (fun _=>tickD 100) 1) n' (some ⟨ob,off,none⟩) oc t')):=by
  refine(tplay_any (netTwo b1 b2) 1 _ 1 1 (fun _=>tickD 100) X0 (two_wf b1 b2) (hat.below h12) (by omega) hXd (HT.out X0 h0X).1 (HT.out X0 h0X).2).mono ?_;rintro e w' ⟨z1,⟨z2,_⟩ | ⟨_,n',oao,ocap,t',rfl,bb,_,z3⟩⟩
  ·exact absurd (two_ok b1 b2 100 (by omega)) z2
  ·have hS:=z3.here;have tl:t'.length=1:=hS.len;obtain⟨ob,off,rfl,_⟩:=hS.row.place (by omega);obtain⟨eK,eL,_⟩:=sn_net hS;have eK:n'.K=2:=eK;have eL:n'.L=1:=eL;refine⟨n',ob,off,ocap,t',?_,h0X.trans (z1.mono h0X.size),hS⟩;unfold Pl.Net.val;rw[eK,eL,tl]
 clear hat hb1 hb2 hX2 hXd h12 h0X;(go_wp2_with fail);rw[←HX0.out];refine HP.out.mono ?_;rintro e w3 ⟨n',ob,off,oc,t',rfl,H3⟩;clear HP;obtain⟨X,HX⟩:∃X,Hid (X=((w3.alloc (.cells #[.slice n'.bao 2 n'.bcap,.slice n'.lao 1 n'.lcap] 25)).alloc (.cells #[.slice (some ⟨ob,off,none⟩) 1 oc] 34)).alloc (.cells #[.int .i64 0,.int .i64 0] 37)):=⟨_,rfl⟩
 have h3:=alloc3 w3 (.cells #[.slice n'.bao 2 n'.bcap,.slice n'.lao 1 n'.lcap] 25) (.cells #[.slice (some ⟨ob,off,none⟩) 1 oc] 34) (.cells #[.int .i64 0,.int .i64 0] 37);rw[←HX.out] at h3;obtain⟨y0,y1,y2,y3⟩:=h3;have hwX:Bl w X:=H3.out.1.trans (y3.mono H3.out.1.size);obtain⟨G,HG⟩:∃G,Hid (G=w3.heap.size):=⟨_,rfl⟩
 rw[←HG.out] at y0 y1 y2;have HCC:Hid (∀V,Bl X V→(V.cell? ⟨G,0,none⟩=some (.slice n'.bao 2 n'.bcap)∧V.cell? ⟨G,1,none⟩=some (.slice n'.lao 1 n'.lcap))∧V.cell? ⟨G+1,0,none⟩=some (.slice (some ⟨ob,off,none⟩) 1 oc)):=fun V hV=>⟨tC2 (keep y0 hV),cell_of_row _ _ 0 _ _ _ (keep y1 hV)⟩
 have HFF:Hid (∀V,Bl X V→V.cell? ⟨G+1+1,0,none⟩=some (.int .i64 0)∧Bl w V∧G+1+1<X.heap.size):=fun V hV=>⟨(tC2 (keep y2 hV)).1,hwX.trans (hV.mono hwX.size),(gSm.1 y2).1⟩
 have hmk:∀W:World,(Instr.makeSlice 27 (.int .i64 2) (.int .i64 2)).run Tryz.prog W=.ok (.slice (some ⟨W.heap.size,0,none⟩) 2 2) (W.alloc (.cells (rowC 2 1 (fun _ _=>.slice none 0 0)) 67)):=fun W=>make_rowD W 27 67 (.slice none 0 0) 1 24 2 Tryz.underlying27 (by kernel_rfl) (by omega) rfl (by omega) (by omega) _ (fun _ j hj=>by rw[show j=0 by omega];rfl);have HSD:Hid (∀(V:World) (g:Nat) {Q:Ending→World→Prop},Bl X V→V.heap[g]?=some (.cells (rowC 2 1 (fun _ _=>.slice none 0 0)) 67)→(∀e w',(∃gb o1 sc gk,e=.returned (.tuple #[.slice (some ⟨gb,o1,none⟩) 1 sc,.slice (some ⟨gk,0,none⟩) 2 2,.bool true,.agg #[.int .i64 0,.int .i64 0]])∧((1≤sc∧gb<w'.heap.size)∧w'.cell? ⟨gb,o1,none⟩=some (.int .i64 1))∧V.heap.size≤gb∧Bl V w'∧Hid (Bl X w'))→Q e w')→Calls Tryz.prog 10 #[.agg #[.slice n'.bao 2 n'.bcap,.slice n'.lao 1 n'.lcap],.agg #[.slice (some ⟨ob,off,none⟩) 1 oc],.slice (some ⟨g,0,none⟩) 2 2,.int .i64 0,.int .i64 5,.agg #[.int .u64 9,.int .u64 8,.bool false,.int .i64 0,.bool false,.int .i64 0,.int .i64 2048,.slice none 0 0]] V Q):=fun V g Q hV hg hQ=>by
  obtain⟨eK,eL,hM⟩:=two_isM H3.out.2;have hb:=hwX.trans (hV.mono hwX.size);have hse:=ln_sent (H3.out.2.below (y3.trans (hV.mono y3.size))) (two_wf b1 b2) (two_right b1 b2) (fun q hq=>(show Tk.errOf (netTwo b1 b2).cn (tickD 100)=0 by
   unfold Tk.errOf tickD;simp only[if_pos];rw[if_pos (by omega)])) (by omega) (HT.out V hb).1 (HT.out V hb).2
  have hs1:=send_is hse hM (show(0:Int)≤9∧(9:Int)≤281474976710655 by decide) (show(0:Int)≤8∧(8:Int)≤281474976710655 by decide) (show(8:Int)/1099511627776%2≠1 by decide) (by rw[eK];exact none_bin hg) (bl:=[[],[]]) (by rw[eK];rfl) (fun q hq=>by
   rw[eK] at hq;refine⟨?_,⟨by simp,fun e he=>by simp at he,List.Pairwise.nil⟩⟩;rcases(by omega:q=0∨q=1) with e | e<;>subst e<;>rfl) (i:=0) (by omega) rfl two_run.1
  rw[H3.out.2.len,eK,eL,two_run.2] at hs1;refine hs1.mono ?_;rintro e w' ⟨so,sc,gk,rfl,H⟩;obtain⟨v1,ss,bks',bo',bc',v2,v3,v4⟩:=H.out;have hl1:ss.length=1:=by
   have:=congrArg List.length v2;simpa using this
  obtain⟨gb,o1,rfl,g1,g2,g3,g4⟩:=v3.first (by omega);obtain⟨x,rfl⟩:=List.length_eq_one_iff.1 hl1;have hx:x.i=1:=(by simpa using v2)
  have g3:w'.cell? ⟨gb,o1,none⟩=some (.int .i64 (x.i:Int)):=g3;rw[hx] at g3;exact hQ _ _ ⟨gb,o1,sc,gk,rfl,⟨⟨by omega,g2⟩,g3⟩,g1,v1,hV.trans (v1.mono hV.size)⟩
 have HBA:Hid (∀V o,Bl X V→Bl X (V.alloc o)):=fun V o hV=>below_a hV;have le0:X.heap.size≤X.heap.size:=Nat.le_refl _;have le1:X.heap.size≤X.heap.size+1:=(by omega)
 have HR1:Hid (Bl X ((X.alloc (.cells (rowC 2 1 (fun _ _=>.slice none 0 0)) 67)).drew)∧((X.alloc (.cells (rowC 2 1 (fun _ _=>.slice none 0 0)) 67)).drew).heap[X.heap.size]?=some (.cells (rowC 2 1 (fun _ _=>.slice none 0 0)) 67)):=⟨Below.drew (below_a (Below.refl _ _)),heap_alloc_last X _⟩
 have HR2:Hid (Bl X (((X.alloc (.cells #[.int .i64 0,.int .i64 0] 37)).alloc (.cells (rowC 2 1 (fun _ _=>.slice none 0 0)) 67)).drew)∧(((X.alloc (.cells #[.int .i64 0,.int .i64 0] 37)).alloc (.cells (rowC 2 1 (fun _ _=>.slice none 0 0)) 67)).drew).heap[X.heap.size+1]?=some (.cells (rowC 2 1 (fun _ _=>.slice none 0 0)) 67)):=⟨Below.drew (below_a (below_a (Below.refl _ _))),heap_alloc2_new X _ _⟩
 have HR3:Hid (Bl X (((X.alloc (.cells (rowC 2 1 (fun _ _=>.slice none 0 0)) 67)).alloc (.cells #[.int .i64 0,.int .i64 0] 37)).drew)∧(((X.alloc (.cells (rowC 2 1 (fun _ _=>.slice none 0 0)) 67)).alloc (.cells #[.int .i64 0,.int .i64 0] 37)).drew).heap[X.heap.size]?=some (.cells (rowC 2 1 (fun _ _=>.slice none 0 0)) 67)):=⟨Below.drew (below_a (below_a (Below.refl _ _))),heap_alloc2_old X _ _⟩
 have HR4:Hid (Bl X (X.alloc (.cells #[.int .i64 0,.int .i64 0] 37)).drew):=Below.drew (below_a (Below.refl _ _));have HB0:Hid (Bl X X.drew):=Below.drew (Below.refl _ _);have HS1:Hid (Calls Tryz.prog 10 #[.agg #[.slice n'.bao 2 n'.bcap,.slice n'.lao 1 n'.lcap],.agg #[.slice (some ⟨ob,off,none⟩) 1 oc],.slice (some ⟨X.heap.size,0,none⟩) 2 2,.int .i64 0,.int .i64 5,.agg #[.int .u64 9,.int .u64 8,.bool false,.int .i64 0,.bool false,.int .i64 0,.int .i64 2048,.slice none 0 0]] ((X.alloc (.cells (rowC 2 1 (fun _ _=>.slice none 0 0)) 67)).drew) fun e w'=>∃gb o1 sc gk,e=.returned (.tuple #[.slice (some ⟨gb,o1,none⟩) 1 sc,.slice (some ⟨gk,0,none⟩) 2 2,.bool true,.agg #[.int .i64 0,.int .i64 0]])∧(1≤sc∧gb<w'.heap.size)∧w'.cell? ⟨gb,o1,none⟩=some (.int .i64 1)∧Hid (Bl X w')):=HSD.out _ _ HR1.out.1 HR1.out.2 (by
  rintro e w' ⟨gb,o1,sc,gk,rfl,⟨h1,h1'⟩,_,_,h2⟩;exact⟨gb,o1,sc,gk,rfl,h1,h1',h2⟩)
 have HKF:Hid (∀V w' g,Bl V w'→V.heap[g]?=some (.cells #[.int .i64 0,.int .i64 0] 37)→w'.cell? ⟨g,0,none⟩=some (.int .i64 0)∧w'.cell? ⟨g,1,none⟩=some (.int .i64 0)∧w'.frozen? ⟨g,0,none⟩=false∧w'.frozen? ⟨g,1,none⟩=false∧g<w'.heap.size∧g<V.heap.size):=fun V w' g hV hg=>by
  have h1:=keep hg hV;exact⟨(tC2 h1).1,(tC2 h1).2,lF0 h1 0,lF0 h1 1,(gSm.1 h1).1,(gSm.1 hg).1⟩
 have HS2:Hid (Calls Tryz.prog 10 #[.agg #[.slice n'.bao 2 n'.bcap,.slice n'.lao 1 n'.lcap],.agg #[.slice (some ⟨ob,off,none⟩) 1 oc],.slice (some ⟨X.heap.size+1,0,none⟩) 2 2,.int .i64 0,.int .i64 5,.agg #[.int .u64 9,.int .u64 8,.bool false,.int .i64 0,.bool false,.int .i64 0,.int .i64 2048,.slice none 0 0]] (((X.alloc (.cells #[.int .i64 0,.int .i64 0] 37)).alloc (.cells (rowC 2 1 (fun _ _=>.slice none 0 0)) 67)).drew) fun e w'=>∃gb o1 sc gk,e=.returned (.tuple #[.slice (some ⟨gb,o1,none⟩) 1 sc,.slice (some ⟨gk,0,none⟩) 2 2,.bool true,.agg #[.int .i64 0,.int .i64 0]])∧w'.cell? ⟨X.heap.size,0,none⟩=some (.int .i64 0)∧w'.cell? ⟨X.heap.size,1,none⟩=some (.int .i64 0)∧w'.frozen? ⟨X.heap.size,0,none⟩=false∧w'.frozen? ⟨X.heap.size,1,none⟩=false∧X.heap.size<w'.heap.size∧gb≠X.heap.size∧(1≤sc∧gb<w'.heap.size)∧w'.cell? ⟨gb,o1,none⟩=some (.int .i64 1)∧Hid (Bl X w')):=HSD.out _ _ HR2.out.1 HR2.out.2 (by
  rintro e w' ⟨gb,o1,sc,gk,rfl,⟨h1,h1'⟩,h0,hb,h2⟩;obtain⟨f0,f1,f2,f3,f4,f5⟩:=HKF.out _ w' X.heap.size hb (heap_alloc2_old X _ _);exact⟨gb,o1,sc,gk,rfl,f0,f1,f2,f3,f4,fun e=>by rw[e] at h0;exact absurd f5 (Nat.not_lt.2 h0),h1,h1',h2⟩)
 have HS3:Hid (Calls Tryz.prog 10 #[.agg #[.slice n'.bao 2 n'.bcap,.slice n'.lao 1 n'.lcap],.agg #[.slice (some ⟨ob,off,none⟩) 1 oc],.slice (some ⟨X.heap.size,0,none⟩) 2 2,.int .i64 0,.int .i64 5,.agg #[.int .u64 9,.int .u64 8,.bool false,.int .i64 0,.bool false,.int .i64 0,.int .i64 2048,.slice none 0 0]] (((X.alloc (.cells (rowC 2 1 (fun _ _=>.slice none 0 0)) 67)).alloc (.cells #[.int .i64 0,.int .i64 0] 37)).drew) fun e w'=>∃gb o1 sc gk,e=.returned (.tuple #[.slice (some ⟨gb,o1,none⟩) 1 sc,.slice (some ⟨gk,0,none⟩) 2 2,.bool true,.agg #[.int .i64 0,.int .i64 0]])∧w'.cell? ⟨X.heap.size+1,0,none⟩=some (.int .i64 0)∧w'.cell? ⟨X.heap.size+1,1,none⟩=some (.int .i64 0)∧w'.frozen? ⟨X.heap.size+1,0,none⟩=false∧w'.frozen? ⟨X.heap.size+1,1,none⟩=false∧X.heap.size+1<w'.heap.size∧gb≠X.heap.size+1∧(1≤sc∧gb<w'.heap.size)∧w'.cell? ⟨gb,o1,none⟩=some (.int .i64 1)∧Hid (Bl X w')):=HSD.out _ _ HR3.out.1 HR3.out.2 (by
  rintro e w' ⟨gb,o1,sc,gk,rfl,⟨h1,h1'⟩,h0,hb,h2⟩;obtain⟨f0,f1,f2,f3,f4,f5⟩:=HKF.out _ w' (X.heap.size+1) hb (heap_alloc2_new X _ _);exact⟨gb,o1,sc,gk,rfl,f0,f1,f2,f3,f4,fun e=>by rw[e] at h0;exact absurd f5 (Nat.not_lt.2 h0),h1,h1',h2⟩)
 clear HT H3 y0 y1 y2 y3 hwX HSD HKF;(go_upto_region 2 with fail);rw[←HX.out,←HG.out];go_region_held3 (fun V=>(V.cell? ⟨G,0,none⟩=some (.slice n'.bao 2 n'.bcap)∧V.cell? ⟨G,1,none⟩=some (.slice n'.lao 1 n'.lcap))∧V.cell? ⟨G+1,0,none⟩=some (.slice (some ⟨ob,off,none⟩) 1 oc))
  (first | exact HCC.out _ (Hid.out (by assumption)) | exact HCC.out _ HR1.out.1 | exact HCC.out _ HR2.out.1 | exact HCC.out _ HR3.out.1 | exact HCC.out _ HR4.out | exact HCC.out _ (HBA.out _ _ (Hid.out (by assumption))) | exact HCC.out _ (Below.drew (HBA.out _ _ (Hid.out (by assumption)))) | exact HCC.out _ ((HB5.out.setCell le0 _).setCell le0 _) | exact HCC.out _ ((HB5.out.setCell le1 _).setCell le1 _))
  (first | (go_at_call 10;(with_reducible refine HS1.out.mono ?_);rintro e w5 ⟨gb,o1,sc,gk,rfl,⟨hsc,hgb⟩,hcl,HB5⟩) | (go_at_call 10;(with_reducible refine HS2.out.mono ?_);rintro e w5 ⟨gb,o1,sc,gk,rfl,f0,f1,f2,f3,f4,hne,⟨hsc,hgb⟩,hcl,HB5⟩) | (go_at_call 10;(with_reducible refine HS3.out.mono ?_);rintro e w5 ⟨gb,o1,sc,gk,rfl,f0,f1,f2,f3,f4,hne,⟨hsc,hgb⟩,hcl,HB5⟩))
 all_goals
  obtain⟨c0,hbw,hgx⟩:=HFF.out w5 HB5.out;have HBW:Hid (Bl w w5∧w.heap.size≤X.heap.size):=⟨hbw,(HFF.out X (Below.refl _ _)).2.1.size⟩
  have hg0:G+1+1≠X.heap.size:=(by omega)
  have hg1:G+1+1≠X.heap.size+1:=(by omega)
  have hgw:G+1+1<w5.heap.size:=block_lt_of_cell c0;clear hbw;(go_wp2_with fail);go_ret;refine⟨rfl,?_⟩;have ha:w.heap.size≤X.heap.size:=HBW.out.2;have hb':w.heap.size≤X.heap.size+1:=(by omega)
  first | exact HBW.out.1.trans ((bA1 _ _).mono HBW.out.1.size) | exact(HBW.out.1.setCell ha _).setCell ha _ | exact(HBW.out.1.setCell hb' _).setCell hb' _
end
section
open Pl (Net Lk)
open Bk (E at')
open Rl (G gat F R O)
namespace Ln
structure Gd (n:Net) (vid:Int) (b0:Nat→List E) (s:Cs):Prop where
 seen:∀x∈s.seen,x.2=lv vid 0
 ok:∀x∈s.wait,x.1<n.K∧x.2.port∈ps n x.1∧Wy vid x.2
 books:∀i,i<n.K→(Bk.Book (b0 i)→Bk.Book (s.books i))∧(¬Bk.Book (b0 i)→s.books i=b0 i)
section
variable {n:Net}{t:List Tr}{vid:Int}{f:F}{b0:Nat→List E}
theorem Gd.step (h:Hs n t vid f) {s:Cs}(g:Gd n vid b0 s) {x:Nat×O}{w:List (Nat×O)}(hw:s.wait=x :: w) (hb:Bk.Book (s.books x.1)):(Ln.step n t vid f s x w).err=0∧Gd n vid b0 (Ln.step n t vid f s x w):=by
 obtain⟨hx,hp,hy⟩:=g.ok x (by rw[hw];simp);have hg:=rl_good h hx hy hp hb;have hw':∀y∈w,y.1<n.K∧y.2.port∈ps n y.1∧Wy vid y.2:=fun y hy=>g.ok y (by rw[hw];simp[hy]);have hb0:Bk.Book (b0 x.1):=by
  by_cases q:Bk.Book (b0 x.1)
  ·exact q
  ·rw[(g.books x.1 hx).2 q] at hb;exact absurd hb q
 unfold Ln.step;rw[hg];by_cases c:op n t vid x.1 x.2.port=true∧Rl.res f.dst=false
 ·rw[if_pos c];refine⟨rfl,fun y hy => ?_,fun y hy => ?_,fun i hi => ?_⟩
  ·rcases List.mem_append.1 hy with q | q
   ·exact g.seen y q
   ·unfold seenOf at q;obtain⟨o,ho,rfl⟩:=List.mem_map.1 q;obtain⟨ho1,ho2⟩:=List.mem_filter.1 ho;obtain⟨z,_,rfl⟩:=List.mem_map.1 ho1;have ho2:=of_decide_eq_true ho2;rw[lv_port] at ho2;rw[ho2]
  ·rcases List.mem_append.1 hy with q | q
   ·exact hw' y q
   ·exact wait_ok h.right q
  ·show(_→Bk.Book (if i=x.1 then _ else s.books i))∧(_→(if i=x.1 then _ else s.books i)=b0 i)
   by_cases e:i=x.1
   ·subst e;rw[if_pos rfl];exact⟨fun _=>Bk.learn_book hb _,fun q=>absurd hb0 q⟩
   ·rw[if_neg e];exact g.books i hi
 ·rw[if_neg c];refine⟨rfl,fun y hy => ?_,fun y hy => ?_,fun i hi => ?_⟩
  ·have:y∈s.seen:=by simpa[seenOf] using hy
   exact g.seen y this
  ·have:y∈w:=by simpa[waitOf] using hy
   exact hw' y this
  ·show(_→Bk.Book (if i=x.1 then s.books x.1 else s.books i))∧(_→(if i=x.1 then s.books x.1 else s.books i)=b0 i)
   by_cases e:i=x.1
   ·subst e;rw[if_pos rfl];exact g.books _ hi
   ·rw[if_neg e];exact g.books i hi
theorem Gd.carry (h:Hs n t vid f):∀(k:Nat) {s:Cs},Gd n vid b0 s→(Ln.carry n t vid f k s).err=0→Gd n vid b0 (Ln.carry n t vid f k s)
 | 0,_,g,_=>g
 | k+1,s,g,he=>by
  cases hw:s.wait with
  | nil=>rw[carry_nil n t vid f _ s hw];exact g
  | cons x w =>
   rw[carry_cons n t vid f k s hw] at he ⊢;by_cases hb:Bk.Book (s.books x.1)
   ·obtain⟨h1,h2⟩:=g.step h hw hb;rw[if_pos h1] at he ⊢;exact Gd.carry h k h2 he
   ·obtain⟨hx,hp,hy⟩:=g.ok x (by rw[hw];simp);have hne:(Ln.step n t vid f s x w).err≠0:=rl_bad h hx hy hb;rw[if_neg hne] at he;exact absurd he hne
theorem sent_good (h:Hs n t vid f) (ht:f.tagged=false) {i:Nat}(hi:i<n.K) (he:(Ln.carry n t vid f 41 ⟨[],[(i,⟨0,f.tagged,f.prio,f.drop,f.vid⟩)],b0,0⟩).err=0):Gd n vid b0 (Ln.carry n t vid f 41 ⟨[],[(i,⟨0,f.tagged,f.prio,f.drop,f.vid⟩)],b0,0⟩) :=
 Gd.carry h 41 ⟨fun x hx=>by simp at hx,fun x hx=>by
  obtain rfl:x=(i,⟨0,f.tagged,f.prio,f.drop,f.vid⟩):=by simpa using hx
  exact⟨hi,List.mem_cons_self,Or.inr ⟨rfl,ht⟩⟩,fun _ _=>⟨fun q=>q,fun _=>rfl⟩⟩ he
end
end Ln
end
section
open Go.RowKit
open Bk (E at')
theorem rahead_any (a b:E) (w:World) :
  Calls Tryz.prog 44 #[.agg #[.int .i64 a.vid,.int .u64 a.addr,.int .i64 a.port,.int .i64 a.age],.agg #[.int .i64 b.vid,.int .u64 b.addr,.int .i64 b.port,.int .i64 b.age]] w fun e w'=>e=.returned (.bool (Bk.ltb a b))∧Bl w w':=by
 have HB:Hid (∀o1 o2,Bl w ((w.alloc o1).alloc o2)):=fun o1 o2=>bA2 w o1 o2;by_cases h1:a.vid<b.vid
 ·have HD:Hid (Bk.ltb a b=true):=decide_eq_true (Or.inl h1);go_enter Tryz.func44,Tryz.ntmps44;(go_wp2_with fail);go_ret;exact⟨by rw[HD.out];rfl,HB.out _ _⟩
 ·by_cases h2:a.vid=b.vid
  ·have HD:Hid (Bk.ltb a b=decide (a.addr<b.addr)):=decide_eq_decide.2 ⟨fun q=>q.elim (fun r=>absurd r h1) (fun r=>r.2),fun q=>Or.inr ⟨h2,q⟩⟩;have e2:(a.vid == b.vid)=true:=(by simp[h2])
   have e1:decide (a.vid<b.vid)=false:=decide_eq_false h1;clear h2 h1;go_enter Tryz.func44,Tryz.ntmps44;(go_wp2_with fail);go_ret;exact⟨by rw[HD.out];rfl,HB.out _ _⟩
  ·have HD:Hid (Bk.ltb a b=false):=decide_eq_false (fun q=>q.elim h1 (fun r=>h2 r.1));have e2:(a.vid == b.vid)=false:=(by simpa using h2)
   go_enter Tryz.func44,Tryz.ntmps44;(go_wp2_with fail);go_ret;exact⟨by rw[HD.out];rfl,HB.out _ _⟩
theorem rwrong8_any (ao:Option Addr) (cap:Nat) (l:List E) (w:World) (hn:l.length≤9223372036854775807) (hr:BEL w ao cap l) :
  Calls Tryz.prog 21 #[.slice ao l.length cap] w fun e w'=>e=.returned (faV (Bk.wrong (at' l) l.length))∧Bl w w':=by
 have HRW:Hid (∀W,Bl w W→BEL W ao cap l):=fun W hW=>BEL.below hr hW;have hcap:l.length≤cap:=hr.1;clear hr;obtain⟨G,HG⟩:∃G,Hid (G=w.heap.size):=⟨_,rfl⟩
 have HI:Hid (∀W,W=w.alloc (.cells #[.int .i64 0,.int .i64 0] 37)→Bl w W∧W.heap[G]?=some (.cells #[.int .i64 0,.int .i64 0] 37)):=by
  intro W hW;rw[hW,HG.out];exact⟨bA1 _ _,heap_alloc_last _ _⟩
 have hGM:w.heap.size≤G:=(by rw[HG.out];exact Nat.le_refl _)
 have HZ:Hid (30<l.length→Bk.wrong (at' l) l.length=(5,0)):=fun h=>if_pos h;have HN:Hid (¬30<l.length→Bk.wrong (at' l) l.length=Bk.firstTo (Bk.errAt (at' l)) l.length):=fun h=>if_neg h;by_cases h30:30<l.length
 ·have HZ1:Hid _:=HZ.out h30;have h30z:(30:Int)<(l.length:Int):=(by omega)
  clear HI HZ HN;go_enter Tryz.func21,Tryz.ntmps21;(go_wp2_with fail);exact bodyPost_ret (v:=.agg #[.int .i64 5,.int .i64 0]) (results_row (p:=2) (ty:=37) Tryz.results21 _ _ w.heap.size 37 #[.int .i64 5,.int .i64 0] (0,0) _ rfl (heap_alloc_last _ _) Tryz.underlying37 rfl (by rw[bsizeFa];rfl)) rfl ⟨by rw[HZ1.out],bA1 _ _⟩
 ·have HN1:Hid _:=HN.out h30;have h30z:¬(30:Int)<(l.length:Int):=(by omega)
  clear HZ HN;go_enter Tryz.func21,Tryz.ntmps21;(go_wp2_with fail);rw[←HG.out];go_loopw [11] (fun i wr=>∃k:Nat,k≤l.length∧i=.int .i64 k∧Hid (∀j,j<k→Bk.errAt (at' l) j=0)∧Hid (Bl w wr∧wr.heap[G]?=some (.cells #[.int .i64 0,.int .i64 0] 37))) (fun i _=>l.length-(intOf i).toNat)
  case atStart=>exact⟨0,by omega,rfl,(fun j hj=>absurd hj (by omega)),HI.out _ rfl⟩
  case round =>
   obtain⟨k,hk,rfl,hS,hX⟩:=hrel;clear HI;by_cases hlt:k<l.length
   ·obtain⟨b,off,rfl,_⟩:=(HRW.out wr hX.out.1).place (by omega);obtain⟨c0,c1,c2,c3⟩:=(HRW.out wr hX.out.1).cells hlt;obtain⟨X,HX⟩:∃X,Hid (X=wr.alloc (.cells #[.int .i64 (at' l k).vid,.int .u64 (at' l k).addr,.int .i64 (at' l k).port,.int .i64 (at' l k).age] 110)):=⟨_,rfl⟩
    have HX9:Hid (Bl w X∧X.heap[G]?=some (.cells #[.int .i64 0,.int .i64 0] 37)∧X.heap[wr.heap.size]?=some (.cells #[.int .i64 (at' l k).vid,.int .u64 (at' l k).addr,.int .i64 (at' l k).port,.int .i64 (at' l k).age] 110)):=by
     have hb:Bl wr X:=(by rw[HX.out];exact bA1 _ _)
     have y1:Bl w X:=hX.out.1.trans (hb.mono hX.out.1.size);exact⟨y1,keep hX.out.2 hb,by rw[HX.out];exact heap_alloc_last _ _⟩
    have HF1:Hid (∀e,e≠0→Bk.errAt (at' l) k=e→Bk.firstTo (Bk.errAt (at' l)) l.length=(e,(k:Int))):=fun e he h=>by
     subst h;exact Bk.firstTo_stay _ k (by rw[Bk.firstTo_none _ _ hS.out]) he _ hlt
    have HS1:Hid (Bk.errAt (at' l) k=0→∀j,j<k+1→Bk.errAt (at' l) j=0):=fun h j hj=>by
     by_cases e:j=k
     ·subst e;exact h
     ·exact hS.out j (by omega)
    have HNR:Hid (¬Bk.rng (at' l k)→Bk.firstTo (Bk.errAt (at' l)) l.length=(3,(k:Int))):=fun h=>HF1.out 3 (by omega) (if_pos h);obtain⟨f0,f1,f2,f3⟩:=bfa_cells hX.out.2;have hGl:G<wr.heap.size:=block_lt_of_cell f0;have HRG:Hid (Bk.rng (at' l k)↔(1≤(at' l k).vid∧(at' l k).vid≤4094)∧(at' l k).addr≤281474976710655∧(0≤(at' l k).port∧(at' l k).port≤30)∧(0≤(at' l k).age∧(at' l k).age≤300)):=Iff.rfl;have HWR:Hid (Bl w wr∧wr.heap[G]?=some (.cells #[.int .i64 0,.int .i64 0] 37)):=hX;clear hX hS;by_cases q1:1≤(at' l k).vid
    ·by_cases q2:(at' l k).vid≤4094
     ·by_cases q3:(at' l k).addr≤281474976710655
      ·by_cases q4:0≤(at' l k).port
       ·by_cases q5:(at' l k).port≤30
        ·by_cases q6:0≤(at' l k).age
         ·by_cases q7:(at' l k).age≤300
          ·have hg:Bk.rng (at' l k):=HRG.out.2 (by omega);clear HNR HRG;by_cases hk0:k=0
           ·have hd0:decide (0<k)=false:=decide_eq_false (by omega);have HS2:Hid _:=HS1.out (Bk.errAt_zero.2 ⟨hg,fun h=>absurd h (by omega)⟩);clear HS1 HF1 HRW HN1 hg hk0;generalize at' l k=x at *;(go_wp2_with fail);rw[←HX.out];clear c0 c1 c2 c3 f0 f1 f2 f3;(go_quiet (fail));(go_wp2_with fail);exact⟨⟨k+1,by omega,by go_num,HS2,⟨below_drewN HX9.out.1 _,HX9.out.2.1⟩⟩,by simp[intOf];omega⟩
           ·obtain⟨p,hp⟩:∃p,p=k-1:=⟨_,rfl⟩
            have wp:IntKind.i64.wrap ((k:Int)-1)=(p:Int):=(by rw[wraps_i64 _ (by omega) (by omega)];omega)
            have k0:decide (0<k)=true:=decide_eq_true (by omega);have ip:(0:Int)≤(p:Int):=(by omega)
            have np:(p:Int)<(l.length:Int):=(by omega)
            have hpl:p<l.length:=(by omega)
            have HE2:Hid (¬Bk.lt (at' l p) (at' l k)→Bk.errAt (at' l) k=2):=fun h=>by
             show(if ¬Bk.rng (at' l k) then(3:Int) else if 0<k∧¬Bk.lt (at' l (k-1)) (at' l k) then 2 else 0)=2;rw[if_neg (by simp[hg]),if_pos ⟨by omega,by rw[←hp];exact h⟩]
            have HE0:Hid (Bk.lt (at' l p) (at' l k)→Bk.errAt (at' l) k=0):=fun h=>Bk.errAt_zero.2 ⟨hg,fun _=>by rw[←hp];exact h⟩;have HXX:Hid (Bl X X):=Below.refl _ _;have HBE:Hid (∀W,Bl X W→Calls Tryz.prog 44 #[.agg #[.int .i64 (at' l p).vid,.int .u64 (at' l p).addr,.int .i64 (at' l p).port,.int .i64 (at' l p).age],.agg #[.int .i64 (at' l k).vid,.int .u64 (at' l k).addr,.int .i64 (at' l k).port,.int .i64 (at' l k).age]] W fun e w'=>e=.returned (.bool (Bk.ltb (at' l p) (at' l k)))∧Hid (Bl X w')):=fun W hW=>(rahead_any (at' l p) (at' l k) W).mono (fun e w' h=>⟨h.1,hW.trans (h.2.mono hW.size)⟩);have HFIN:Hid (∀W,Bl X W→Bl w W∧W.heap[G]?=some (.cells #[.int .i64 0,.int .i64 0] 37)):=fun W hW=>⟨HX9.out.1.trans (hW.mono HX9.out.1.size),keep HX9.out.2.1 hW⟩
            have HJC:Hid (∀W,Bl X W→(W.cell? ⟨b,off+p*4,none⟩=some (.int .i64 (at' l p).vid)∧W.cell? ⟨b,off+p*4+1,none⟩=some (.int .u64 (at' l p).addr)∧W.cell? ⟨b,off+p*4+2,none⟩=some (.int .i64 (at' l p).port)∧W.cell? ⟨b,off+p*4+3,none⟩=some (.int .i64 (at' l p).age))∧W.cell? ⟨wr.heap.size,0,none⟩=some (.int .i64 (at' l k).vid)∧W.cell? ⟨wr.heap.size,1,none⟩=some (.int .u64 (at' l k).addr)∧W.cell? ⟨wr.heap.size,2,none⟩=some (.int .i64 (at' l k).port)∧W.cell? ⟨wr.heap.size,3,none⟩=some (.int .i64 (at' l k).age)):=fun W hW=>⟨(HRW.out W (HFIN.out W hW).1).cells hpl,en_cells (keep HX9.out.2.2 hW)⟩
            obtain⟨⟨t0,t1,t2,t3⟩,u0,u1,u2,u3⟩:=HJC.out X HXX.out;clear hp hg HRW f0 f1 f2 f3;by_cases hl:Bk.lt (at' l p) (at' l k)
            ·have HS2:Hid _:=HS1.out (HE0.out hl);rw[show Bk.ltb (at' l p) (at' l k)=true from decide_eq_true hl] at HBE;clear HS1 HF1 HE0 HE2 hl HN1;generalize at' l p=y at *;generalize at' l k=x at *;(go_wp2_with fail);rw[←HX.out];clear c0 c1 c2 c3;go_region_held3 (fun W=>(W.cell? ⟨b,off+p*4,none⟩=some (.int .i64 y.vid)∧W.cell? ⟨b,off+p*4+1,none⟩=some (.int .u64 y.addr)∧W.cell? ⟨b,off+p*4+2,none⟩=some (.int .i64 y.port)∧W.cell? ⟨b,off+p*4+3,none⟩=some (.int .i64 y.age))∧W.cell? ⟨wr.heap.size,0,none⟩=some (.int .i64 x.vid)∧W.cell? ⟨wr.heap.size,1,none⟩=some (.int .u64 x.addr)∧W.cell? ⟨wr.heap.size,2,none⟩=some (.int .i64 x.port)∧W.cell? ⟨wr.heap.size,3,none⟩=some (.int .i64 x.age))
              (first | (exact HJC.out _ (Below.drew HXX.out)) | (exact HJC.out _ (Hid.out (by assumption))))
              (first | (go_at_call 44;refine(HBE.out _ (Below.drew HXX.out)).mono ?_;rintro e w3 ⟨rfl,HB3⟩))
             clear t0 t1 t2 t3 u0 u1 u2 u3;have HF3:Hid _:=HFIN.out w3 HB3.out;clear HFIN HJC HBE;(go_wp2_with fail);exact⟨⟨k+1,by omega,by go_num,HS2,HF3.out⟩,by simp[intOf];omega⟩
            ·have HF2:Hid _:=HF1.out 2 (by omega) (HE2.out hl);rw[show Bk.ltb (at' l p) (at' l k)=false from decide_eq_false hl] at HBE;clear HS1 HF1 HE0 HE2 hl;generalize at' l p=y at *;generalize at' l k=x at *;(go_wp2_with fail);rw[←HX.out];clear c0 c1 c2 c3;go_region_held3 (fun W=>(W.cell? ⟨b,off+p*4,none⟩=some (.int .i64 y.vid)∧W.cell? ⟨b,off+p*4+1,none⟩=some (.int .u64 y.addr)∧W.cell? ⟨b,off+p*4+2,none⟩=some (.int .i64 y.port)∧W.cell? ⟨b,off+p*4+3,none⟩=some (.int .i64 y.age))∧W.cell? ⟨wr.heap.size,0,none⟩=some (.int .i64 x.vid)∧W.cell? ⟨wr.heap.size,1,none⟩=some (.int .u64 x.addr)∧W.cell? ⟨wr.heap.size,2,none⟩=some (.int .i64 x.port)∧W.cell? ⟨wr.heap.size,3,none⟩=some (.int .i64 x.age))
              (first | (exact HJC.out _ (Below.drew HXX.out)) | (exact HJC.out _ (Hid.out (by assumption))))
              (first | (go_at_call 44;refine(HBE.out _ (Below.drew HXX.out)).mono ?_;rintro e w3 ⟨rfl,HB3⟩))
             clear t0 t1 t2 t3 u0 u1 u2 u3;have HF3:Hid _:=HFIN.out w3 HB3.out;obtain⟨g0,g1,g2,g3⟩:=bfa_cells HF3.out.2;clear HFIN HJC HBE;(go_wp2_with fail);exact bodyPost_ret (v:=.agg #[.int .i64 2,.int .i64 (k:Int)]) (results_row (p:=2) (ty:=37) Tryz.results21 _ _ G 37 #[.int .i64 2,.int .i64 (k:Int)] (0,0) _ rfl (bfa_set HF3.out.2) Tryz.underlying37 rfl (by rw[bsizeFa];rfl)) rfl ⟨by rw[HN1.out,HF2.out],(HF3.out.1.setCell hGM _).setCell hGM _⟩
          ·have HF2:Hid _:=HNR.out (fun h=>by have:=HRG.out.1 h;omega);clear HS1 HF1 HRW HRG HNR;generalize at' l k=x at *;(go_wp2_with fail);exact bodyPost_ret (v:=.agg #[.int .i64 3,.int .i64 (k:Int)]) (results_row (p:=2) (ty:=37) Tryz.results21 _ _ G 37 #[.int .i64 3,.int .i64 (k:Int)] (0,0) _ rfl (keep (bfa_set HWR.out.2) (bA1 _ _)) Tryz.underlying37 rfl (by rw[bsizeFa];rfl)) rfl ⟨by rw[HN1.out,HF2.out],((HWR.out.1.setCell hGM _).setCell hGM _).alloc ((HWR.out.1.setCell hGM _).setCell hGM _).size _⟩
         ·have HF2:Hid _:=HNR.out (fun h=>by have:=HRG.out.1 h;omega);clear HS1 HF1 HRW HRG HNR;generalize at' l k=x at *;(go_wp2_with fail);exact bodyPost_ret (v:=.agg #[.int .i64 3,.int .i64 (k:Int)]) (results_row (p:=2) (ty:=37) Tryz.results21 _ _ G 37 #[.int .i64 3,.int .i64 (k:Int)] (0,0) _ rfl (keep (bfa_set HWR.out.2) (bA1 _ _)) Tryz.underlying37 rfl (by rw[bsizeFa];rfl)) rfl ⟨by rw[HN1.out,HF2.out],((HWR.out.1.setCell hGM _).setCell hGM _).alloc ((HWR.out.1.setCell hGM _).setCell hGM _).size _⟩
        ·have HF2:Hid _:=HNR.out (fun h=>by have:=HRG.out.1 h;omega);clear HS1 HF1 HRW HRG HNR;generalize at' l k=x at *;(go_wp2_with fail);exact bodyPost_ret (v:=.agg #[.int .i64 3,.int .i64 (k:Int)]) (results_row (p:=2) (ty:=37) Tryz.results21 _ _ G 37 #[.int .i64 3,.int .i64 (k:Int)] (0,0) _ rfl (keep (bfa_set HWR.out.2) (bA1 _ _)) Tryz.underlying37 rfl (by rw[bsizeFa];rfl)) rfl ⟨by rw[HN1.out,HF2.out],((HWR.out.1.setCell hGM _).setCell hGM _).alloc ((HWR.out.1.setCell hGM _).setCell hGM _).size _⟩
       ·have HF2:Hid _:=HNR.out (fun h=>by have:=HRG.out.1 h;omega);clear HS1 HF1 HRW HRG HNR;generalize at' l k=x at *;(go_wp2_with fail);exact bodyPost_ret (v:=.agg #[.int .i64 3,.int .i64 (k:Int)]) (results_row (p:=2) (ty:=37) Tryz.results21 _ _ G 37 #[.int .i64 3,.int .i64 (k:Int)] (0,0) _ rfl (keep (bfa_set HWR.out.2) (bA1 _ _)) Tryz.underlying37 rfl (by rw[bsizeFa];rfl)) rfl ⟨by rw[HN1.out,HF2.out],((HWR.out.1.setCell hGM _).setCell hGM _).alloc ((HWR.out.1.setCell hGM _).setCell hGM _).size _⟩
      ·have HF2:Hid _:=HNR.out (fun h=>by have:=HRG.out.1 h;omega);clear HS1 HF1 HRW HRG HNR;generalize at' l k=x at *;(go_wp2_with fail);exact bodyPost_ret (v:=.agg #[.int .i64 3,.int .i64 (k:Int)]) (results_row (p:=2) (ty:=37) Tryz.results21 _ _ G 37 #[.int .i64 3,.int .i64 (k:Int)] (0,0) _ rfl (keep (bfa_set HWR.out.2) (bA1 _ _)) Tryz.underlying37 rfl (by rw[bsizeFa];rfl)) rfl ⟨by rw[HN1.out,HF2.out],((HWR.out.1.setCell hGM _).setCell hGM _).alloc ((HWR.out.1.setCell hGM _).setCell hGM _).size _⟩
     ·have HF2:Hid _:=HNR.out (fun h=>by have:=HRG.out.1 h;omega);clear HS1 HF1 HRW HRG HNR;generalize at' l k=x at *;(go_wp2_with fail);exact bodyPost_ret (v:=.agg #[.int .i64 3,.int .i64 (k:Int)]) (results_row (p:=2) (ty:=37) Tryz.results21 _ _ G 37 #[.int .i64 3,.int .i64 (k:Int)] (0,0) _ rfl (keep (bfa_set HWR.out.2) (bA1 _ _)) Tryz.underlying37 rfl (by rw[bsizeFa];rfl)) rfl ⟨by rw[HN1.out,HF2.out],((HWR.out.1.setCell hGM _).setCell hGM _).alloc ((HWR.out.1.setCell hGM _).setCell hGM _).size _⟩
    ·have HF2:Hid _:=HNR.out (fun h=>by have:=HRG.out.1 h;omega);clear HS1 HF1 HRW HRG HNR;generalize at' l k=x at *;(go_wp2_with fail);exact bodyPost_ret (v:=.agg #[.int .i64 3,.int .i64 (k:Int)]) (results_row (p:=2) (ty:=37) Tryz.results21 _ _ G 37 #[.int .i64 3,.int .i64 (k:Int)] (0,0) _ rfl (keep (bfa_set HWR.out.2) (bA1 _ _)) Tryz.underlying37 rfl (by rw[bsizeFa];rfl)) rfl ⟨by rw[HN1.out,HF2.out],((HWR.out.1.setCell hGM _).setCell hGM _).alloc ((HWR.out.1.setCell hGM _).setCell hGM _).size _⟩
   ·obtain rfl:k=l.length:=by omega
    have HF2:Hid (Bk.firstTo (Bk.errAt (at' l)) l.length=(0,0)):=Bk.firstTo_none _ _ hS.out;obtain⟨f0,f1,f2,f3⟩:=bfa_cells hX.out.2;clear HRW;(go_wp2_with fail);exact bodyPost_ret (v:=.agg #[.int .i64 0,.int .i64 0]) (results_row (p:=2) (ty:=37) Tryz.results21 _ _ G 37 #[.int .i64 0,.int .i64 0] (0,0) _ rfl (bfa_set hX.out.2) Tryz.underlying37 rfl (by rw[bsizeFa];rfl)) rfl ⟨by rw[HN1.out,HF2.out],(hX.out.1.setCell hGM _).setCell hGM _⟩
theorem rsame8_yes (ao:Option Addr) (cap:Nat) (bo:Option Addr) (bcap:Nat) (n m:Nat) (l l2:List E) (w:World) (e1:n=l.length) (e2:m=l2.length) (hl:l=l2) (hn:n≤9223372036854775807) (hr:BEL w ao cap l) (hr2:BEL w bo bcap l2) :
  Calls Tryz.prog 22 #[.slice ao n cap,.slice bo m bcap] w fun e w'=>e=.returned (.bool true)∧Bl w w':=by
 subst hl;obtain rfl:m=n:=by omega
 subst e1;have hcap:l.length≤cap:=hr.1;have hcap2:l.length≤bcap:=hr2.1;have HR:Hid (∀W,Bl w W→BEL W ao cap l):=fun W hW=>BEL.below hr hW;have HR2:Hid (∀W,Bl w W→BEL W bo bcap l):=fun W hW=>BEL.below hr2 hW;clear hr hr2 e2;go_enter Tryz.func22,Tryz.ntmps22;(go_wp2_with fail);go_loopw [13] (fun i wr=>∃k:Nat,k≤l.length∧i=.int .i64 k∧Hid (Bl w wr)) (fun i _=>l.length-(intOf i).toNat)
 case atStart=>exact⟨0,by omega,rfl,Below.refl _ _⟩
 case round =>
  obtain⟨k,hk,rfl,hB⟩:=hrel;by_cases hlt:k<l.length
  ·obtain⟨b,off,rfl,_⟩:=(HR.out wr hB.out).place (by omega);obtain⟨b2,off2,rfl,_⟩:=(HR2.out wr hB.out).place (by omega);obtain⟨c0,c1,c2,c3⟩:=(HR.out wr hB.out).cells hlt;obtain⟨d0,d1,d2,d3⟩:=(HR2.out wr hB.out).cells hlt;have ik:(0:Int)≤(k:Int):=(by omega)
   have nk:(k:Int)<(l.length:Int):=(by omega)
   clear HR HR2;generalize at' l k=x at *;(go_wp2_with fail);(go_quiet (fail));(go_wp2_with fail);exact⟨⟨k+1,by omega,by go_num,below_drewN hB.out _⟩,by simp[intOf];omega⟩
  ·obtain rfl:k=l.length:=by omega
   clear HR HR2;(go_wp2_with fail);go_ret;exact⟨rfl,hB.out⟩
end
section
open Go.RowKit
theorem same_any (d s:Int) (t:Bool) (p:Int) (dr:Bool) (v y:Int) (p2:Int) (dr2:Bool) (v2:Int) (a1 a2:Option Addr) (n c1 c2:Nat) (b1 b2:Nat→Int) (w:World)
  (ht:t=true→p2=p∧dr2=dr∧v2=v) (h1:ByteRow w a1 n c1 b1) (n1:NilOk a1 n c1) (h2:ByteRow w a2 n c2 b2) (n2:NilOk a2 n c2) (hb:∀i,i<n→b1 i=b2 i) :
  Calls Tryz.prog 17 #[.agg #[.int .u64 d,.int .u64 s,.bool t,.int .i64 p,.bool dr,.int .i64 v,.int .i64 y,.slice a1 n c1],.agg #[.int .u64 d,.int .u64 s,.bool t,.int .i64 p2,.bool dr2,.int .i64 v2,.int .i64 y,.slice a2 n c2]] w fun e w'=>e=.returned (.bool true)∧Bl w w':=by
 have q1:∀o1 o2,(convert 29 9 (.slice a1 n c1)).run Tryz.prog ((w.alloc o1).alloc o2)=.ok (.string (strOf n b1)) ((w.alloc o1).alloc o2):=fun o1 o2=>run_str _ a1 n c1 b1 ((h1.below (bA1 w o1)).below (bA1 _ o2)) n1;have q2:∀o1 o2,(convert 29 9 (.slice a2 n c2)).run Tryz.prog ((w.alloc o1).alloc o2)=.ok (.string (strOf n b1)) ((w.alloc o1).alloc o2):=fun o1 o2=>by rw[strOf_congr n b1 b2 hb];exact run_str _ a2 n c2 b2 ((h2.below (bA1 w o1)).below (bA1 _ o2)) n2
 clear h1 h2 n1 n2 hb;generalize strOf n b1=S at *;cases t with
 | false =>
  clear ht;go_enter Tryz.func17,Tryz.ntmps17;go_wp2
  go_ret;exact⟨by simp,((Below.refl _ w).alloc (Nat.le_refl _) _).alloc (by simp) _⟩
 | true =>
  obtain⟨rfl,rfl,rfl⟩:=ht rfl;go_enter Tryz.func17,Tryz.ntmps17;go_wp2
  go_ret;exact⟨by simp,((Below.refl _ w).alloc (Nat.le_refl _) _).alloc (by simp) _⟩
end
end Go.Proofs.YtelebnancdjjiaaGreatDoor
