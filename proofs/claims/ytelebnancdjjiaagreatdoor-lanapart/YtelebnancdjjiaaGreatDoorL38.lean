/- What the document's own Sum comes to: the padded bytes; that both sums are the same. -/
import Derived.Test.YtelebnancdjjiaaGreatDoorL35
import Derived.Test.YtelebnancdjjiaaGreatDoorL37
import Derived.Test.YtelebnancdjjiaaGreatDoorL34
import Derived.Test.YtelebnancdjjiaaGreatDoorL04
import Derived.Deep.RegionHeld3
set_option maxRecDepth 100000
set_option maxHeartbeats 6000000
namespace Go.Proofs.YtelebnancdjjiaaGreatDoor
section
open Go.RowKit
open Vc (V Of)
open Pl (Br Net Pc Lk En St)
open Bk (E at')
open Rl (F O)
open Tk (Md Mnd Cn Sc Dn)
theorem l10two_any (w:World):Calls Tryz.prog 38 #[] w fun e w'=>∃b1 b2,e=.returned (netTwo b1 b2).val∧(netTwo b1 b2).at' w'∧Bl w w':=by
 go_enter Tryz.func38,Tryz.ntmps38;(go_wp2_with fail);obtain⟨X,hX⟩:∃X,X=(w.alloc (.cells #[.slice (some ⟨w.heap.size+1+1,0,none⟩) 2 2,.slice (some ⟨w.heap.size+1+1+1,0,none⟩) 1 1] 25)).alloc (.cells #[.string ⟨#[114]⟩,.int .i64 0,.slice none 0 0] 63):=⟨_,rfl⟩
 rw[←hX];have hs:X.heap.size=w.heap.size+1+1:=(by rw[hX];simp)
 have hn:X.heap[w.heap.size]?=some (.cells #[.slice (some ⟨w.heap.size+1+1,0,none⟩) 2 2,.slice (some ⟨w.heap.size+1+1+1,0,none⟩) 1 1] 25):=(by rw[hX];exact heap_alloc2_old w _ _)
 have hb:Bl w X:=(by rw[hX];exact bA2 _ _ _)
 have hb2:=bA2 X (.cells #[.int .u64 1,.slice none 0 0,.string ⟨#[114]⟩,.int .i64 0,.slice none 0 0,.int .u64 2,.slice none 0 0,.string ⟨#[114]⟩,.int .i64 0,.slice none 0 0] 65) (.cells #[.int .i64 0,.int .i64 1,.int .i64 1,.int .i64 2,.int .i64 5,.bool true] 103);have h1:=heap_alloc2_old X (.cells #[.int .u64 1,.slice none 0 0,.string ⟨#[114]⟩,.int .i64 0,.slice none 0 0,.int .u64 2,.slice none 0 0,.string ⟨#[114]⟩,.int .i64 0,.slice none 0 0] 65) (.cells #[.int .i64 0,.int .i64 1,.int .i64 1,.int .i64 2,.int .i64 5,.bool true] 103);have h2:=heap_alloc2_new X (.cells #[.int .u64 1,.slice none 0 0,.string ⟨#[114]⟩,.int .i64 0,.slice none 0 0,.int .u64 2,.slice none 0 0,.string ⟨#[114]⟩,.int .i64 0,.slice none 0 0] 65) (.cells #[.int .i64 0,.int .i64 1,.int .i64 1,.int .i64 2,.int .i64 5,.bool true] 103);rw[hs] at h1 h2;exact bodyPost_ret (v:=.agg #[.slice (some ⟨w.heap.size+1+1,0,none⟩) 2 2,.slice (some ⟨w.heap.size+1+1+1,0,none⟩) 1 1]) (results_row (p:=0) (ty:=25) Tryz.results38 _ _ w.heap.size 25 _ (0,0) _ rfl (keep hn hb2) Tryz.underlying25 rfl (by rw[sizeNet];rfl)) rfl ⟨w.heap.size+1+1,w.heap.size+1+1+1,rfl,two_at h1 h2,hb.trans (hb2.mono hb.size)⟩
theorem l10ticks_any (x:Int) (w:World):Calls Tryz.prog 39 #[.int .i64 x] w fun e w'=>e=.returned (.agg #[.int .i64 1,.int .i64 x,.int .i64 0,.int .i64 0])∧Bl w w':=by
 go_enter Tryz.func39,Tryz.ntmps39;(go_wp2_with fail);exact bodyPost_ret (v:=.agg #[.int .i64 1,.int .i64 x,.int .i64 0,.int .i64 0]) (results_row (p:=2) (ty:=106) Tryz.results39 _ _ w.heap.size 106 _ (0,0) _ rfl (heap_alloc_last _ _) Tryz.underlying106 rfl (by rw[sizeDo];rfl)) rfl ⟨rfl,bA1 _ _⟩
theorem two_ok (b1 b2:Nat) (x:Int) (hx:0≤x∧x≤200):(plErr (netTwo b1 b2) 1 (fun _=>tickD x) 1).1=0:=by
 have h0:=two_right b1 b2;have e:stErr (netTwo b1 b2) 1=(0,0):=by
  unfold stErr;rw[if_neg (fun z=>z h0),if_neg (fun z=>z (by omega))]
 unfold plErr;rw[e,if_neg (fun z=>z rfl),if_neg (by omega)];have:Tk.errOf (netTwo b1 b2).cn (tickD x)=0:=by
  unfold Tk.errOf tickD;simp only[if_pos];rw[if_pos hx]
 show(Pl.firstTo (fun _=>Tk.errOf (netTwo b1 b2).cn (tickD x)) 1).1=0;rw[Pl.firstTo_all _ _ (fun _ _=>this)]
theorem ln_sent {W:World}{n:Net}{T:Nat}{ds:Nat→Dn}{dn:Nat}{n':Net}{oa:Option Addr}{oc:Nat}{t':List Tr}(h:SnOut W n T ((n.sc (startMs n)).all n.cn ds dn) n' oa oc t') (hw:n.Wf) (h0:n.wrong.1=0) (he:∀k,k<dn→Tk.errOf n.cn (ds k)=0) (hT:1≤T∧T≤4) (ht:Tabs W) (hg:2≤W.heap.size):Sent W n' oa oc t':=by
 obtain⟨h1,h2,_⟩:=sn_fit h hT (sn_pts h hw h0 he);exact⟨h.wf,h.net,h.right,h.row,h1,h2,ht,hg⟩
theorem below_a {X V:World}{o:Obj}(h:Bl X V):Bl X (V.alloc o):=h.trans ((bA1 V o).mono h.size)
theorem none_bin {W:World}{g K:Nat}(h:W.heap[g]?=some (.cells (rowC K 1 (fun _ _=>.slice none 0 0)) 67)):BIn W (some ⟨g,0,none⟩) K K (fun _=>[]) (fun _=>none) (fun _=>0):=by
 refine⟨⟨Nat.le_refl _,fun _=>⟨g,0,rfl,(gSm.1 h).1,fun i hi j hj => ?_⟩⟩,fun i hi=>⟨⟨Nat.le_refl _,fun q=>absurd q (by simp)⟩,fun _=>⟨rfl,rfl⟩,by simp⟩⟩;have:=rowC_cell h hi hj;rw[Nat.zero_add];exact this
theorem SdIs.first {w w':World}{K:Nat}{f:F}{RR:Ln.Cs}{so:Option Addr}{sc:Nat}{ss:List AV}{gk:Nat}{bo':Nat→Option Addr}{bc':Nat→Nat}(h:SdIs w w' K f RR so sc ss gk bo' bc') (hl:0<ss.length):∃gb off,so=some ⟨gb,off,none⟩∧w.heap.size≤gb∧gb<w'.heap.size∧w'.cell? ⟨gb,off,none⟩=some (.int .i64 ((aat ss 0).i:Int))∧ss.length≤sc:=by
 obtain⟨ao,cap,e,hc,_,hlow⟩:=owns_c (by omega) h.row;injection e with e1 _ e2;subst e1 e2;obtain⟨gb,off,rfl,hg,hcell⟩:=hc.2 hl;refine⟨gb,off,rfl,hlow _ rfl,hg,?_,hc.1⟩;have:=hcell 0 hl 0 (by omega);rw[Nat.zero_mul,Nat.add_zero] at this;exact this
def twoM:Ln.Sm:=⟨fun i=>if i=0 then [0,1] else [0,2],fun _ _=>true,fun i p=>if i=0∧p=1 then some (1,2) else if i=1∧p=2 then some (0,1) else none,5,9,8⟩
def twoOk:Bool:=let s:=twoM.run 41 ⟨[],[(0,0)],[[],[]]⟩;s.wait.isEmpty&&Ln.eqL (fun x y=>decide (x=y)) s.seen [1]
theorem two_run:(twoM.run 41 ⟨[],[(0,0)],[[],[]]⟩).wait=[]∧(twoM.run 41 ⟨[],[(0,0)],[[],[]]⟩).seen=[1]:=by
 have h:twoOk=true:=by decide +kernel
 unfold twoOk at h;simp only[Bool.and_eq_true] at h;exact⟨List.isEmpty_iff.1 h.1,Ln.eqL_eq (fun a b q=>of_decide_eq_true q) h.2⟩
theorem two_roles:Pl.roleAt (Pl.rounds ids2 E2 2 2 0) (Pl.offs (E2 0) (Pl.rounds ids2 E2 2 2)) e2a=2∧Pl.roleAt (Pl.rounds ids2 E2 2 2 1) (Pl.offs (E2 1) (Pl.rounds ids2 E2 2 2)) e2b=1:=⟨by kernel_rfl,by kernel_rfl⟩
theorem two_isM {W:World}{b1 b2:Nat}{n':Net}{oa:Option Addr}{oc:Nat}{t':List Tr}(h:SnOut W (netTwo b1 b2) 1 (((netTwo b1 b2).sc (startMs (netTwo b1 b2))).all (netTwo b1 b2).cn (fun _=>tickD 100) 1) n' oa oc t'):n'.K=2∧n'.L=1∧IsM n' t' twoM:=by
 have hd:(fun _:Nat=>tickD 100)=dsT 0 (fun _=>tickD 100) 100:=by
  funext q
  unfold dsT;split<;>rfl
 have h':=h;rw[hd] at h';obtain⟨e1,e2,e3,e4⟩:=sn_net h';have e1:n'.K=2:=e1;have e2:n'.L=1:=e2;rw[all_ticks] at e3 e4;have e3:n'.ends=E2:=by
  rw[e3];show((netTwo b1 b2).sc (startMs (netTwo b1 b2))).E _=_;rw[Pl.Net.sc_E,two_ends]
 have e4:n'.ids ((0:Nat):Int)=ids2:=by
  rw[e4];funext q
  show((netTwo b1 b2).sc (startMs (netTwo b1 b2))).ids _ _ q=_;rw[net_ids];exact congrFun (two_ids b1 b2) q
 have hls:n'.ls=lsTwo:=by
  have:=congrArg Sc.ls h'.sc;rw[all_ticks] at this;exact this
 have hO:=fun {i j:Nat}(hi:i<2) hj=>sn_opens (j:=j) (k:=0) (i:=i) h' (two_wf b1 b2) (two_right b1 b2) (fun k hk=>absurd hk (by omega)) (by decide) (by omega) hi hj;rw[e1,e3,e4] at hO;have o0:opT t' 0 0 1=true:=by
  have:=hO (i:=0) (j:=0) (by omega) (by show 0<1;omega);have e:EL (E2 0) 0=e2a:=rfl;rw[e] at this;have t0:opT t' ((0:Nat):Int) ((0:Nat):Int) 1=_:=this;exact t0.trans (decide_eq_true (Or.inr two_roles.1))
 have o1:opT t' 0 1 2=true:=by
  have:=hO (i:=1) (j:=0) (by omega) (by show 0<1;omega);have e:EL (E2 1) 0=e2b:=rfl;rw[e] at this;have t0:opT t' ((0:Nat):Int) ((1:Nat):Int) 2=_:=this;exact t0.trans (decide_eq_true (Or.inl two_roles.2))
 have hlen:t'.length=1:=h.len;have htr:∀i,Ln.tr n' 5 i=0:=fun i=>by
  unfold Ln.tr;rw[(h.regs i).2.2.1];rfl
 refine⟨e1,e2,⟨⟨show(1:Int)≤5 by decide,show(5:Int)≤4094 by decide⟩,fun i hi => ?_,fun i hi => ?_,fun i hi p hp => ?_,fun i hi p hp => ?_⟩⟩
 ·show 0≤Ln.tr n' 5 i∧Ln.tr n' 5 i<_;rw[htr i,hlen];decide
 ·show 0 :: n'.pts i=_;unfold Pl.Net.pts;rw[e3];rcases(by omega:i=0∨i=1) with e | e<;>subst e<;>rfl
 ·show gopen t' (i:Int) p (Ln.tr n' 5 i).toNat=true;rw[htr i];unfold gopen;rcases(by omega:i=0∨i=1) with e | e<;>subst e
  ·have hp:p∈([0,1]:List Int):=hp;rcases(by simpa using hp:p=0∨p=1) with rfl | rfl
   ·rfl
   ·show(_||opT t' 0 0 1)=true;rw[o0,Bool.or_true]
  ·have hp:p∈([0,2]:List Int):=hp;rcases(by simpa using hp:p=0∨p=2) with rfl | rfl
   ·rfl
   ·show(_||opT t' 0 1 2)=true;rw[o1,Bool.or_true]
 ·rw[hls,e2];rcases(by omega:i=0∨i=1) with e | e<;>subst e
  ·have hp:p∈([0,1]:List Int):=hp;rcases(by simpa using hp:p=0∨p=1) with rfl | rfl<;>decide
  ·have hp:p∈([0,2]:List Int):=hp;rcases(by simpa using hp:p=0∨p=2) with rfl | rfl<;>decide
theorem l10alive_any (w:World) (ht:Tabs w) (hbt:2≤w.heap.size):Calls Tryz.prog 14 #[] w fun e w'=>e=.returned (.bool true)∧Bl w w':=by
 have HT:Hid (∀V,Bl w V→Tabs V∧2≤V.heap.size):=fun V hV=>⟨ht.below hV hbt,Nat.le_trans hbt hV.size⟩
 clear ht hbt;go_enter Tryz.func14,Tryz.ntmps14;(go_wp2_with fail);refine(l10two_any _).mono ?_;rintro e w1 ⟨b1,b2,rfl,hat,hb1⟩;unfold Pl.Net.val netTwo;(go_wp2_with fail);refine(l10ticks_any 100 _).mono ?_;rintro e w2 ⟨rfl,hb2⟩;obtain⟨X0,HX0⟩:∃X0,Hid (X0=w2.alloc (.cells #[.int .i64 1,.int .i64 100,.int .i64 0,.int .i64 0] 106)):=⟨_,rfl⟩
 have hX2:Bl w2 X0:=(by rw[HX0.out];exact bA1 _ _)
 have hXd:DRow X0 (some ⟨w2.heap.size,0,none⟩) 1 1 (fun _=>tickD 100):=one_do (by rw[HX0.out];exact heap_alloc_last _ _);have h12:=hb2.trans (hX2.mono hb2.size);have h0X:=hb1.trans (h12.mono hb1.size);have HP:Hid (Calls Tryz.prog 19 #[.agg #[.slice (some ⟨b1,0,none⟩) 2 2,.slice (some ⟨b2,0,none⟩) 1 1],.int .i64 1,.slice (some ⟨w2.heap.size,0,none⟩) 1 1] X0 fun e w'=>∃(n':Net) (ob off oc:Nat) (t':List Tr),e=.returned (.tuple #[.agg #[.slice n'.bao 2 n'.bcap,.slice n'.lao 1 n'.lcap],.agg #[.slice (some ⟨ob,off,none⟩) 1 oc],.agg #[.int .i64 0,.int .i64 0]])∧Hid (Bl w w'∧SnOut w' (netTwo b1 b2) 1 (((netTwo b1 b2).sc (startMs (netTwo b1 b2))).all (netTwo b1 b2).cn (fun _=>tickD 100) 1) n' (some ⟨ob,off,none⟩) oc t')):=by
  refine(tplay_any (netTwo b1 b2) 1 _ 1 1 (fun _=>tickD 100) X0 (two_wf b1 b2) (hat.below h12) (by omega) hXd (HT.out X0 h0X).1 (HT.out X0 h0X).2).mono ?_;rintro e w' ⟨z1,⟨z2,_⟩ | ⟨_,n',oao,ocap,t',rfl,bb,_,z3⟩⟩
  ·exact absurd (two_ok b1 b2 100 (by omega)) z2
  ·have hS:=z3.here;have tl:t'.length=1:=hS.len;obtain⟨ob,off,rfl,_⟩:=hS.row.place (by omega);obtain⟨eK,eL,_⟩:=sn_net hS;have eK:n'.K=2:=eK;have eL:n'.L=1:=eL;refine⟨n',ob,off,ocap,t',?_,h0X.trans (z1.mono h0X.size),hS⟩;unfold Pl.Net.val;rw[eK,eL,tl]
 clear hat hb1 hb2 hX2 hXd h12 h0X;(go_wp2_with fail);rw[←HX0.out];refine HP.out.mono ?_;rintro e w3 ⟨n',ob,off,oc,t',rfl,H3⟩;clear HP;obtain⟨X,HX⟩:∃X,Hid (X=((w3.alloc (.cells #[.slice n'.bao 2 n'.bcap,.slice n'.lao 1 n'.lcap] 25)).alloc (.cells #[.slice (some ⟨ob,off,none⟩) 1 oc] 34)).alloc (.cells #[.int .i64 0,.int .i64 0] 37)):=⟨_,rfl⟩
 have h3:=alloc3 w3 (.cells #[.slice n'.bao 2 n'.bcap,.slice n'.lao 1 n'.lcap] 25) (.cells #[.slice (some ⟨ob,off,none⟩) 1 oc] 34) (.cells #[.int .i64 0,.int .i64 0] 37);rw[←HX.out] at h3;obtain⟨y0,y1,y2,y3⟩:=h3;have hwX:Bl w X:=H3.out.1.trans (y3.mono H3.out.1.size);obtain⟨G,HG⟩:∃G,Hid (G=w3.heap.size):=⟨_,rfl⟩
 rw[←HG.out] at y0 y1 y2;have HCC:Hid (∀V,Bl X V→(V.cell? ⟨G,0,none⟩=some (.slice n'.bao 2 n'.bcap)∧V.cell? ⟨G,1,none⟩=some (.slice n'.lao 1 n'.lcap))∧V.cell? ⟨G+1,0,none⟩=some (.slice (some ⟨ob,off,none⟩) 1 oc)):=fun V hV=>⟨tC2 (keep y0 hV),cell_of_row _ _ 0 _ _ _ (keep y1 hV)⟩
 have HFF:Hid (∀V,Bl X V→V.cell? ⟨G+1+1,0,none⟩=some (.int .i64 0)∧Bl w V∧G+1+1<X.heap.size):=fun V hV=>⟨(tC2 (keep y2 hV)).1,hwX.trans (hV.mono hwX.size),(gSm.1 y2).1⟩
 have hmk:∀W:World,(Instr.makeSlice 27 (.int .i64 2) (.int .i64 2)).run Tryz.prog W=.ok (.slice (some ⟨W.heap.size,0,none⟩) 2 2) (W.alloc (.cells (rowC 2 1 (fun _ _=>.slice none 0 0)) 67)):=fun W=>make_rowD W 27 67 (.slice none 0 0) 1 24 2 Tryz.underlying27 (by kernel_rfl) (by omega) rfl (by omega) (by omega) _ (fun _ j hj=>by rw[show j=0 by omega];rfl);have HSD:Hid (∀(V:World) (g:Nat) {Q:Ending→World→Prop},Bl X V→V.heap[g]?=some (.cells (rowC 2 1 (fun _ _=>.slice none 0 0)) 67)→(∀e w',(∃gb o1 sc gk,e=.returned (.tuple #[.slice (some ⟨gb,o1,none⟩) 1 sc,.slice (some ⟨gk,0,none⟩) 2 2,.bool true,.agg #[.int .i64 0,.int .i64 0]])∧((1≤sc∧gb<w'.heap.size)∧w'.cell? ⟨gb,o1,none⟩=some (.int .i64 1))∧V.heap.size≤gb∧Bl V w'∧Hid (Bl X w'))→Q e w')→Calls Tryz.prog 10 #[.agg #[.slice n'.bao 2 n'.bcap,.slice n'.lao 1 n'.lcap],.agg #[.slice (some ⟨ob,off,none⟩) 1 oc],.slice (some ⟨g,0,none⟩) 2 2,.int .i64 0,.int .i64 5,.agg #[.int .u64 9,.int .u64 8,.bool false,.int .i64 0,.bool false,.int .i64 0,.int .i64 2048,.slice none 0 0]] V Q):=fun V g Q hV hg hQ=>by
  obtain⟨eK,eL,hM⟩:=two_isM H3.out.2;have hb:=hwX.trans (hV.mono hwX.size);have hse:=ln_sent (H3.out.2.below (y3.trans (hV.mono y3.size))) (two_wf b1 b2) (two_right b1 b2) (fun q hq=>(show Tk.errOf (netTwo b1 b2).cn (tickD 100)=0 by
   unfold Tk.errOf tickD;simp only[if_pos];rw[if_pos (by omega)])) (by omega) (HT.out V hb).1 (HT.out V hb).2
  have hs1:=send_is hse hM (show(0:Int)≤9∧(9:Int)≤281474976710655 by decide) (show(0:Int)≤8∧(8:Int)≤281474976710655 by decide) (show(8:Int)/1099511627776%2≠1 by decide) (by rw[eK];exact none_bin hg) (bl:=[[],[]]) (by rw[eK];rfl) (fun q hq=>by
   rw[eK] at hq;refine⟨?_,⟨by simp,fun e he=>by simp at he,List.Pairwise.nil⟩⟩;rcases(by omega:q=0∨q=1) with e | e<;>subst e<;>rfl) (i:=0) (by omega) rfl two_run.1
  rw[H3.out.2.len,eK,eL,two_run.2] at hs1;refine hs1.mono ?_;rintro e w' ⟨so,sc,gk,rfl,H⟩;obtain⟨v1,ss,bks',bo',bc',v2,v3,v4⟩:=H.out;have hl1:ss.length=1:=by
   have:=congrArg List.length v2;simpa using this
  obtain⟨gb,o1,rfl,g1,g2,g3,g4⟩:=v3.first (by omega);obtain⟨x,rfl⟩:=List.length_eq_one_iff.1 hl1;have hx:x.i=1:=(by simpa using v2)
  have g3:w'.cell? ⟨gb,o1,none⟩=some (.int .i64 (x.i:Int)):=g3;rw[hx] at g3;exact hQ _ _ ⟨gb,o1,sc,gk,rfl,⟨⟨by omega,g2⟩,g3⟩,g1,v1,hV.trans (v1.mono hV.size)⟩
 have HBA:Hid (∀V o,Bl X V→Bl X (V.alloc o)):=fun V o hV=>below_a hV;have le0:X.heap.size≤X.heap.size:=Nat.le_refl _;have le1:X.heap.size≤X.heap.size+1:=(by omega)
 have HR1:Hid (Bl X ((X.alloc (.cells (rowC 2 1 (fun _ _=>.slice none 0 0)) 67)).drew)∧((X.alloc (.cells (rowC 2 1 (fun _ _=>.slice none 0 0)) 67)).drew).heap[X.heap.size]?=some (.cells (rowC 2 1 (fun _ _=>.slice none 0 0)) 67)):=⟨Below.drew (below_a (Below.refl _ _)),heap_alloc_last X _⟩
 have HR2:Hid (Bl X (((X.alloc (.cells #[.int .i64 0,.int .i64 0] 37)).alloc (.cells (rowC 2 1 (fun _ _=>.slice none 0 0)) 67)).drew)∧(((X.alloc (.cells #[.int .i64 0,.int .i64 0] 37)).alloc (.cells (rowC 2 1 (fun _ _=>.slice none 0 0)) 67)).drew).heap[X.heap.size+1]?=some (.cells (rowC 2 1 (fun _ _=>.slice none 0 0)) 67)):=⟨Below.drew (below_a (below_a (Below.refl _ _))),heap_alloc2_new X _ _⟩
 have HR3:Hid (Bl X (((X.alloc (.cells (rowC 2 1 (fun _ _=>.slice none 0 0)) 67)).alloc (.cells #[.int .i64 0,.int .i64 0] 37)).drew)∧(((X.alloc (.cells (rowC 2 1 (fun _ _=>.slice none 0 0)) 67)).alloc (.cells #[.int .i64 0,.int .i64 0] 37)).drew).heap[X.heap.size]?=some (.cells (rowC 2 1 (fun _ _=>.slice none 0 0)) 67)):=⟨Below.drew (below_a (below_a (Below.refl _ _))),heap_alloc2_old X _ _⟩
 have HR4:Hid (Bl X (X.alloc (.cells #[.int .i64 0,.int .i64 0] 37)).drew):=Below.drew (below_a (Below.refl _ _));have HB0:Hid (Bl X X.drew):=Below.drew (Below.refl _ _);have HS1:Hid (Calls Tryz.prog 10 #[.agg #[.slice n'.bao 2 n'.bcap,.slice n'.lao 1 n'.lcap],.agg #[.slice (some ⟨ob,off,none⟩) 1 oc],.slice (some ⟨X.heap.size,0,none⟩) 2 2,.int .i64 0,.int .i64 5,.agg #[.int .u64 9,.int .u64 8,.bool false,.int .i64 0,.bool false,.int .i64 0,.int .i64 2048,.slice none 0 0]] ((X.alloc (.cells (rowC 2 1 (fun _ _=>.slice none 0 0)) 67)).drew) fun e w'=>∃gb o1 sc gk,e=.returned (.tuple #[.slice (some ⟨gb,o1,none⟩) 1 sc,.slice (some ⟨gk,0,none⟩) 2 2,.bool true,.agg #[.int .i64 0,.int .i64 0]])∧(1≤sc∧gb<w'.heap.size)∧w'.cell? ⟨gb,o1,none⟩=some (.int .i64 1)∧Hid (Bl X w')):=HSD.out _ _ HR1.out.1 HR1.out.2 (by
  rintro e w' ⟨gb,o1,sc,gk,rfl,⟨h1,h1'⟩,_,_,h2⟩;exact⟨gb,o1,sc,gk,rfl,h1,h1',h2⟩)
 have HKF:Hid (∀V w' g,Bl V w'→V.heap[g]?=some (.cells #[.int .i64 0,.int .i64 0] 37)→w'.cell? ⟨g,0,none⟩=some (.int .i64 0)∧w'.cell? ⟨g,1,none⟩=some (.int .i64 0)∧w'.frozen? ⟨g,0,none⟩=false∧w'.frozen? ⟨g,1,none⟩=false∧g<w'.heap.size∧g<V.heap.size):=fun V w' g hV hg=>by
  have h1:=keep hg hV;exact⟨(tC2 h1).1,(tC2 h1).2,lF0 h1 0,lF0 h1 1,(gSm.1 h1).1,(gSm.1 hg).1⟩
 have HS2:Hid (Calls Tryz.prog 10 #[.agg #[.slice n'.bao 2 n'.bcap,.slice n'.lao 1 n'.lcap],.agg #[.slice (some ⟨ob,off,none⟩) 1 oc],.slice (some ⟨X.heap.size+1,0,none⟩) 2 2,.int .i64 0,.int .i64 5,.agg #[.int .u64 9,.int .u64 8,.bool false,.int .i64 0,.bool false,.int .i64 0,.int .i64 2048,.slice none 0 0]] (((X.alloc (.cells #[.int .i64 0,.int .i64 0] 37)).alloc (.cells (rowC 2 1 (fun _ _=>.slice none 0 0)) 67)).drew) fun e w'=>∃gb o1 sc gk,e=.returned (.tuple #[.slice (some ⟨gb,o1,none⟩) 1 sc,.slice (some ⟨gk,0,none⟩) 2 2,.bool true,.agg #[.int .i64 0,.int .i64 0]])∧w'.cell? ⟨X.heap.size,0,none⟩=some (.int .i64 0)∧w'.cell? ⟨X.heap.size,1,none⟩=some (.int .i64 0)∧w'.frozen? ⟨X.heap.size,0,none⟩=false∧w'.frozen? ⟨X.heap.size,1,none⟩=false∧X.heap.size<w'.heap.size∧gb≠X.heap.size∧(1≤sc∧gb<w'.heap.size)∧w'.cell? ⟨gb,o1,none⟩=some (.int .i64 1)∧Hid (Bl X w')):=HSD.out _ _ HR2.out.1 HR2.out.2 (by
  rintro e w' ⟨gb,o1,sc,gk,rfl,⟨h1,h1'⟩,h0,hb,h2⟩;obtain⟨f0,f1,f2,f3,f4,f5⟩:=HKF.out _ w' X.heap.size hb (heap_alloc2_old X _ _);exact⟨gb,o1,sc,gk,rfl,f0,f1,f2,f3,f4,fun e=>by rw[e] at h0;exact absurd f5 (Nat.not_lt.2 h0),h1,h1',h2⟩)
 have HS3:Hid (Calls Tryz.prog 10 #[.agg #[.slice n'.bao 2 n'.bcap,.slice n'.lao 1 n'.lcap],.agg #[.slice (some ⟨ob,off,none⟩) 1 oc],.slice (some ⟨X.heap.size,0,none⟩) 2 2,.int .i64 0,.int .i64 5,.agg #[.int .u64 9,.int .u64 8,.bool false,.int .i64 0,.bool false,.int .i64 0,.int .i64 2048,.slice none 0 0]] (((X.alloc (.cells (rowC 2 1 (fun _ _=>.slice none 0 0)) 67)).alloc (.cells #[.int .i64 0,.int .i64 0] 37)).drew) fun e w'=>∃gb o1 sc gk,e=.returned (.tuple #[.slice (some ⟨gb,o1,none⟩) 1 sc,.slice (some ⟨gk,0,none⟩) 2 2,.bool true,.agg #[.int .i64 0,.int .i64 0]])∧w'.cell? ⟨X.heap.size+1,0,none⟩=some (.int .i64 0)∧w'.cell? ⟨X.heap.size+1,1,none⟩=some (.int .i64 0)∧w'.frozen? ⟨X.heap.size+1,0,none⟩=false∧w'.frozen? ⟨X.heap.size+1,1,none⟩=false∧X.heap.size+1<w'.heap.size∧gb≠X.heap.size+1∧(1≤sc∧gb<w'.heap.size)∧w'.cell? ⟨gb,o1,none⟩=some (.int .i64 1)∧Hid (Bl X w')):=HSD.out _ _ HR3.out.1 HR3.out.2 (by
  rintro e w' ⟨gb,o1,sc,gk,rfl,⟨h1,h1'⟩,h0,hb,h2⟩;obtain⟨f0,f1,f2,f3,f4,f5⟩:=HKF.out _ w' (X.heap.size+1) hb (heap_alloc2_new X _ _);exact⟨gb,o1,sc,gk,rfl,f0,f1,f2,f3,f4,fun e=>by rw[e] at h0;exact absurd f5 (Nat.not_lt.2 h0),h1,h1',h2⟩)
 clear HT H3 y0 y1 y2 y3 hwX HSD HKF;(go_upto_region 2 with fail);rw[←HX.out,←HG.out];go_region_held3 (fun V=>(V.cell? ⟨G,0,none⟩=some (.slice n'.bao 2 n'.bcap)∧V.cell? ⟨G,1,none⟩=some (.slice n'.lao 1 n'.lcap))∧V.cell? ⟨G+1,0,none⟩=some (.slice (some ⟨ob,off,none⟩) 1 oc))
  (first | exact HCC.out _ (Hid.out (by assumption)) | exact HCC.out _ HR1.out.1 | exact HCC.out _ HR2.out.1 | exact HCC.out _ HR3.out.1 | exact HCC.out _ HR4.out | exact HCC.out _ (HBA.out _ _ (Hid.out (by assumption))) | exact HCC.out _ (Below.drew (HBA.out _ _ (Hid.out (by assumption)))) | exact HCC.out _ ((HB5.out.setCell le0 _).setCell le0 _) | exact HCC.out _ ((HB5.out.setCell le1 _).setCell le1 _))
  (first | (go_at_call 10;(with_reducible refine HS1.out.mono ?_);rintro e w5 ⟨gb,o1,sc,gk,rfl,⟨hsc,hgb⟩,hcl,HB5⟩) | (go_at_call 10;(with_reducible refine HS2.out.mono ?_);rintro e w5 ⟨gb,o1,sc,gk,rfl,f0,f1,f2,f3,f4,hne,⟨hsc,hgb⟩,hcl,HB5⟩) | (go_at_call 10;(with_reducible refine HS3.out.mono ?_);rintro e w5 ⟨gb,o1,sc,gk,rfl,f0,f1,f2,f3,f4,hne,⟨hsc,hgb⟩,hcl,HB5⟩))
 all_goals
  obtain⟨c0,hbw,hgx⟩:=HFF.out w5 HB5.out;have HBW:Hid (Bl w w5∧w.heap.size≤X.heap.size):=⟨hbw,(HFF.out X (Below.refl _ _)).2.1.size⟩
  have hg0:G+1+1≠X.heap.size:=(by omega)
  have hg1:G+1+1≠X.heap.size+1:=(by omega)
  have hgw:G+1+1<w5.heap.size:=block_lt_of_cell c0;clear hbw;(go_wp2_with fail);go_ret;refine⟨rfl,?_⟩;have ha:w.heap.size≤X.heap.size:=HBW.out.2;have hb':w.heap.size≤X.heap.size+1:=(by omega)
  first | exact HBW.out.1.trans ((bA1 _ _).mono HBW.out.1.size) | exact(HBW.out.1.setCell ha _).setCell ha _ | exact(HBW.out.1.setCell hb' _).setCell hb' _
end
section
open Vc (V Of)
open Pl (Br Net Lk En)
open Bk (E at')
open Rl (G gat F R O)
namespace Tk
def Beyond (c:Cn) (s:Sc) (i:Nat) (p:Int):Prop:=∃k,k<c.L∧(((s.ls k).a=(i:Int)∧(s.ls k).pa=p)∨((s.ls k).b=(i:Int)∧(s.ls k).pb=p))∧c.sm (s.ls k).a.toNat (s.ls k).b.toNat=false
theorem Beyond.same {c:Cn}{s t:Sc}(h:SameEnds c s t) {i:Nat}{p:Int}(hb:Beyond c t i p):Beyond c s i p:=by
 obtain⟨k,hk,h1,h2⟩:=hb;obtain⟨a1,a2,a3,a4⟩:=h k hk;rw[a1,a2] at h2;rw[a1,a2,a3,a4] at h1;exact⟨k,hk,h1,h2⟩
theorem Beyond.dead {c:Cn}{s:Sc}(hf:Fine c s) {i:Nat}{e:En}(he:e∈s.E c i) (hb:Beyond c s i e.port):e.live=false:=by
 obtain⟨k,hk,h1,h2⟩:=hb;have hl:s.lv c k=false:=(by unfold Sc.lv;rw[h2,Bool.and_false])
 rcases h1 with⟨ha,hp⟩ | ⟨ha,hp⟩
 ·have hy:(⟨(s.ls k).pa,(s.ls k).cost,(s.ls k).b,(s.ls k).pb,s.lv c k⟩:En)∈s.E c i:=Pl.ends_mem.2 ⟨k,hk,Or.inl ⟨ha,rfl⟩⟩;have:=Pl.ends_one hf.links (s.lv c) he hy hp.symm;rw[this];exact hl
 ·have hy:(⟨(s.ls k).pb,(s.ls k).cost,(s.ls k).a,(s.ls k).pa,s.lv c k⟩:En)∈s.E c i:=Pl.ends_mem.2 ⟨k,hk,Or.inr ⟨ha,rfl⟩⟩;have:=Pl.ends_one hf.links (s.lv c) he hy hp.symm;rw[this];exact hl
def Shut (c:Cn) (s:Sc) (T:Nat):Prop:=∀k,k<T→∀i,i<c.K→∀j e,(s.E c i)[j]?=some e→Beyond c s i e.port→(s.ms k i).calm.getD j 0=0
theorem Shut.one {c:Cn}{s:Sc}{T:Nat}(ho:Ok c s T) (h:Shut c s T) (d:Dn) (hd:errOf c d=0):Shut c (s.one c d) T:=by
 by_cases k1:d.kind=1
 ·have e:s.one c d=s.ticks c d.n.toNat:=(by unfold Sc.one;rw[if_pos k1])
  rw[e];intro k hk i hi j e he hb;have he:(s.E c i)[j]?=some e:=he;have hb:Beyond c s i e.port:=hb;show(ticksF (s.ids c k) (s.E c) (s.ms k) d.n.toNat i).calm.getD j 0=0;cases hn:d.n.toNat with
  | zero=>exact h k hk i hi j e he hb
  | succ t =>
   refine calm_off (ho.fit k hk) hi (get_lt he) ?_;have hl:=hb.dead ho.fine (List.mem_of_getElem? he);have hr:(ticksF (s.ids c k) (s.E c) (s.ms k) (t+1) i).roles.getD j 0=0:=by
    show((s.E c i).map (roleM _ _)).getD j 0=0;rw[map_getD _ _ he];unfold roleM;rw[hl];rfl
   rw[hr];decide
 ·have e:(s.one c d).ms=s.ms:=by
   unfold Sc.one;rw[if_neg k1];split
   ·rfl
   ·split
    ·rfl
    ·split<;>rfl
  obtain⟨h1,h2⟩:=ho.fine.one d hd;intro k hk i hi j x hx hb;rw[e];have hp:=(h2.len ho.fine h1 i).1;have hj:((s.E c i).map (·.port))[j]?=some x.port:=by rw[←hp,List.getElem?_map,hx];rfl
  rw[List.getElem?_map] at hj;obtain⟨y,hy,ey⟩:=Option.map_eq_some_iff.1 hj;refine h k hk i hi j y hy ?_;have:Beyond c s i x.port:=hb.same h2;rw[←ey] at this;exact this
theorem Shut.all {c:Cn}{s:Sc}{T:Nat}(ho:Ok c s T) (h:Shut c s T) (l:Nat→Dn):∀n,(∀k,k<n→errOf c (l k)=0)→Shut c (s.all c l n) T
 | 0,_=>h
 | n+1,he=>Shut.one (ho.all l n (fun k hk=>he k (by omega))) (Shut.all ho h l n (fun k hk=>he k (by omega))) (l n) (he n (by omega))
end Tk
open Tk (Md Mnd Cn Sc Dn)
theorem zer_getD (n j:Nat):(zer n).getD j 0=0:=by
 unfold zer;rw[List.getD_eq_getElem?_getD];by_cases h:j<n
 ·simp[h]
 ·simp[show n≤j by omega]
theorem start_shut (n:Net) (T:Nat):Tk.Shut n.cn (n.sc (startMs n)) T:=fun _ _ _ _ j _ _ _=>zer_getD _ j
theorem Bk.idx_is {l:List Int}{x:Int}{j:Nat}:∀m,Bk.idx l x m=(j:Int)→j<m∧l.getD j 0=x
 | 0,h=>by
  have h:(-1:Int)=(j:Int):=h;omega
 | m+1,h=>by
  have h:(if 0≤Bk.idx l x m then Bk.idx l x m else if x=l.getD m 0 then(m:Int) else -1)=(j:Int):=h;by_cases q:0≤Bk.idx l x m
  ·rw[if_pos q] at h;obtain⟨h1,h2⟩:=Bk.idx_is m h;exact⟨by omega,h2⟩
  ·rw[if_neg q] at h;by_cases q2:x=l.getD m 0
   ·rw[if_pos q2] at h;obtain rfl:m=j:=by omega
    exact⟨by omega,q2.symm⟩
   ·rw[if_neg q2] at h;omega
theorem sn_shut {W:World}{n:Net}{T:Nat}{ds:Nat→Dn}{dn:Nat}{n':Net}{oa:Option Addr}{oc:Nat}{t':List Tr}(h:SnOut W n T ((n.sc (startMs n)).all n.cn ds dn) n' oa oc t') (hw:n.Wf) (h0:n.wrong.1=0) (he:∀k,k<dn→Tk.errOf n.cn (ds k)=0) {k i:Nat}(hk:k<T) (hi:i<n.K) {p:Int}(ho:opT t' k i p=true):¬Tk.Beyond n.cn ((n.sc (startMs n)).all n.cn ds dn) i p:=by
 intro hb;have hsh:=Tk.Shut.all (start_ok hw h0 T) (start_shut n T) ds dn he;obtain⟨e1,_,e3,_⟩:=sn_net h;obtain⟨hl,hm⟩:=h.each k hk;obtain⟨hm1,hm2⟩:=hm i hi;have hp:=sn_pts h hw h0 he i;unfold opT at ho;split at ho
 ·rw[Int.toNat_natCast,Int.toNat_natCast] at ho;unfold opM at ho;split at ho
  ·rename_i hx;have ho:=of_decide_eq_true ho;obtain⟨j,hj⟩:∃j:Nat,Bk.idx (mat (tat t' k).l i).ports p (mat (tat t' k).l i).ports.length=(j:Int):=⟨_,(Int.toNat_of_nonneg hx.1).symm⟩
   rw[hj,Int.toNat_natCast] at ho;obtain⟨hj1,hj2⟩:=Bk.idx_is _ hj;have hc:(mat (tat t' k).l i).calm=(((n.sc (startMs n)).all n.cn ds dn).ms k i).calm:=congrArg Mnd.calm hm1;rw[hm2,hp] at hj1 hj2;unfold Pl.Net.pts at hj1 hj2;rw[e3] at hj1 hj2;have hlt:j<(((n.sc (startMs n)).all n.cn ds dn).E n.cn i).length:=(by simpa using hj1)
   have hpt:((((n.sc (startMs n)).all n.cn ds dn).E n.cn i)[j]).port=p:=by
    rw[List.getD_eq_getElem?_getD,List.getElem?_map,List.getElem?_eq_getElem hlt] at hj2;exact hj2
   have:=hsh k hk i hi j _ (List.getElem?_eq_getElem hlt) (by rw[hpt];exact hb);rw[hc,this] at ho;omega
  ·cases ho
 ·cases ho
namespace Ln
theorem carry_inv {n:Net}{t:List Tr}{vid:Int}{f:F}(hR:n.Right) (Q:Nat→Prop) (hs:∀(bks:Nat→List E) (i:Nat) (o o':O) (y:Nat×O),i<n.K→Q i→o'∈(rl n t vid f bks i o).out→crs n i o'=some y→Q y.1) :
  ∀(k:Nat) (s:Cs),(∀x∈s.wait,x.1<n.K∧Q x.1)→(∀x∈s.seen,x.1<n.K∧Q x.1)→∀x∈(carry n t vid f k s).seen,x.1<n.K∧Q x.1
 | 0,_,_,h=>h
 | k+1,s,hw,h=>by
  cases e:s.wait with
  | nil=>rw[carry_nil n t vid f _ s e];exact h
  | cons x r =>
   obtain⟨hx,hq⟩:=hw x (by rw[e];simp);have h1:∀y∈(step n t vid f s x r).seen,y.1<n.K∧Q y.1:=fun y hy=>by
    rcases List.mem_append.1 hy with z | z
    ·exact h y z
    ·unfold seenOf at z;obtain⟨o,_,rfl⟩:=List.mem_map.1 z;exact⟨hx,hq⟩
   have h2:∀y∈(step n t vid f s x r).wait,y.1<n.K∧Q y.1:=fun y hy=>by
    rcases List.mem_append.1 hy with z | z
    ·exact hw y (by rw[e];simp[z])
    ·refine⟨wait_range hR y z,?_⟩;unfold waitOf at z;obtain⟨o,ho,hc⟩:=List.mem_filterMap.1 z;exact hs _ x.1 x.2 o y hx hq ho hc
   rw[carry_cons n t vid f k s e];split
   ·exact carry_inv hR Q hs k _ h2 h1
   ·exact h1
theorem out_open {n:Net}(hR:n.Right) {t:List Tr}{vid:Int}{f:F}{bks:Nat→List E}{i:Nat}{o o':O}(h:o'∈(rl n t vid f bks i o).out) (hp:o'.port≠0):∃k,k<t.length∧opT t (k:Int) (i:Int) o'.port=true:=by
 unfold rl at h;rw[gates_eq hR] at h;obtain⟨_,_,g,hg,hl,e⟩:=out_mem h;obtain⟨q,_,rfl⟩:=List.mem_map.1 hg;have ep:o'.port=q:=(by rw[←e,Rl.leave_port];rfl)
 rw[ep] at hp ⊢;unfold Rl.leads at hl;simp only[Bool.and_eq_true] at hl;have hps:=hl.2.1;unfold Rl.passes at hps;simp only[Bool.and_eq_true,decide_eq_true_eq] at hps;obtain⟨_,⟨h1,h2⟩,h3⟩:=hps;have hlen:(gt t i vid q).opens.length=t.length:=(by simp[gt])
 rw[hlen] at h2;generalize Rl.R.tree (rgR (n.bs i)) _=tr at *;have hlt:tr.toNat<t.length:=(by omega)
 refine⟨tr.toNat,hlt,?_⟩;have h4:gopen t (i:Int) q tr.toNat=true:=by
  have:(gt t i vid q).opens.getD tr.toNat false=gopen t (i:Int) q tr.toNat:=by simp[gt,List.getD,hlt]
  rw[this] at h3;exact h3
 unfold gopen at h4;rw[decide_eq_false hp,Bool.false_or] at h4;exact h4
end Ln
theorem sent_apart {W:World}{n:Net}{T:Nat}{ds:Nat→Dn}{dn:Nat}{n':Net}{oa:Option Addr}{oc:Nat}{t':List Tr}(h:SnOut W n T ((n.sc (startMs n)).all n.cn ds dn) n' oa oc t') (hw:n.Wf) (h0:n.wrong.1=0) (he:∀k,k<dn→Tk.errOf n.cn (ds k)=0) {vid:Int}{f:F}{bks:Nat→List E}{i:Nat}(hi:i<n'.K) (o:O) :
  ∀x∈(Ln.carry n' t' vid f 41 ⟨[],[(i,o)],bks,0⟩).seen,x.1<n'.K∧strOf 50 (n'.bs x.1).reg.id=strOf 50 (n'.bs i).reg.id:=by
 have hR:=right_of h.wf h.right;have eK:n'.K=n.K:=(sn_net h).1;refine Ln.carry_inv hR (fun q=>strOf 50 (n'.bs q).reg.id=strOf 50 (n'.bs i).reg.id) (fun bks q o o' y hq hQ ho hc => ?_) 41 _ (fun x hx => ?_) (fun x hx=>by simp at hx)
 ·unfold Ln.crs at hc;split at hc
  ·cases hc
  ·rename_i hp;obtain⟨z,hz,rfl⟩:=Option.map_eq_some_iff.1 hc;obtain⟨k,hk,ho2⟩:=Ln.out_open hR ho hp;have hnb:=sn_shut h hw h0 he (by rw[←h.len];exact hk) (by omega) ho2;obtain⟨j,hj,_,hjj⟩:=Ln.cross_end hz;have els:n'.ls=((n.sc (startMs n)).all n.cn ds dn).ls:=congrArg Sc.ls h.sc;have eL:n.cn.L=n'.L:=(by rw[←h.cn];rfl)
   have hsm:n'.cn.sm (n'.ls j).a.toNat (n'.ls j).b.toNat=true:=by
    by_cases c:n'.cn.sm (n'.ls j).a.toNat (n'.ls j).b.toNat=true
    ·exact c
    ·refine absurd ⟨j,by rw[eL];exact hj,?_,?_⟩ hnb
     ·rw[←els];rcases hjj with⟨a1,a2,_⟩ | ⟨a1,a2,_⟩
      ·exact Or.inl ⟨a1,a2⟩
      ·exact Or.inr ⟨a1,a2⟩
     ·rw[←els,←h.cn];simpa using c
   rw[Net.sc_sm] at hsm;have hsm:=of_decide_eq_true hsm;show strOf 50 (n'.bs z.1.toNat).reg.id=_;rcases hjj with⟨a1,_,rfl⟩ | ⟨a1,_,rfl⟩
   ·have ea:(n'.ls j).a.toNat=q:=(by rw[a1];exact Int.toNat_natCast q)
    rw[ea] at hsm;exact hsm.symm.trans hQ
   ·have ea:(n'.ls j).b.toNat=q:=(by rw[a1];exact Int.toNat_natCast q)
    rw[ea] at hsm;exact hsm.trans hQ
 ·obtain rfl:x=(i,o):=by simpa using hx
  exact⟨hi,rfl⟩
end
section
open Go.RowKit
theorem rtable_any (s:ByteArray) (rev:Int) (ao:Option Addr) (n cap:Nat) (vs ts:Nat→Int) (w:World) (hR:Rg.Right vs ts n) (hr:WayRow w ao n cap vs ts) :
  Calls Tryz.prog 69 #[.agg #[.string s,.int .i64 rev,.slice ao n cap]] w fun e w'=>∃g,e=.returned (.slice (some ⟨g,0,none⟩) 4096 4096)∧w'.heap[g]?=some (.cells (rowF 4096 (fun i=>Rg.tree vs ts (i:Int) n)) 5)∧Bl w w':=by
 have hn:=hR.many;have HRt:Hid (Rg.Right vs ts n):=hR;have HW:Hid (∀W,Bl w W→WayRow W ao n cap vs ts):=fun W hW=>hr.below hW;clear hr hR;have hmk:∀W:World,(Instr.makeSlice 29 (.int .i64 4096) (.int .i64 4096)).run Tryz.prog W=.ok (.slice (some ⟨W.heap.size,0,none⟩) 4096 4096) (W.alloc (.cells (rowF 4096 (fun _=>0)) 5)):=fun W=>make_room W 4096 4096 (by omega) (by omega);go_enter Tryz.func69,Tryz.ntmps69;(go_wp2_with fail);go_loopw [10] (fun i wr=>∃k:Nat,k≤n∧i=.int .i64 k∧Hid (wr.heap[w.heap.size+1]?=some (.cells (rowF 4096 (fun i=>Rg.tree vs ts (i:Int) k)) 5))∧Hid (Bl w wr)) (fun i _=>n-(intOf i).toNat)
 case atStart=>exact⟨0,by omega,rfl,heap_alloc2_new w _ _,bA2 _ _ _⟩
 case round =>
  clear hmk;obtain⟨k,hk,rfl,hX,hB⟩:=hrel;by_cases hlt:k<n
  ·obtain⟨b,off,rfl,hb,hc⟩:=(HW.out _ hB.out).2 (by omega);have hcap:=(HW.out _ hB.out).1;have c0:wr.cell? ⟨b,off+k*2,none⟩=some (.int .i64 (vs k)):=(hc k hlt).1;have c1:wr.cell? ⟨b,off+k*2+1,none⟩=some (.int .i64 (ts k)):=(hc k hlt).2;have hv:=HRt.out.vid k hlt;have ht:=HRt.out.tree k hlt;obtain⟨m,hm⟩:=Int.eq_ofNat_of_zero_le (show 0≤vs k by omega);have hz:w.heap.size+1<wr.heap.size:=block_lt_of_cell ((cell_of_row wr _ 0 _ _ _ hX.out).trans (rowF_get _ _ _ (by omega)));have c4:wr.cell? ⟨w.heap.size+1,m,none⟩=some (.int .u8 (Rg.tree vs ts (m:Int) k)):=(cell_of_row _ _ _ _ _ _ hX.out).trans (rowF_get _ _ _ (by omega));have f4:wr.frozen? ⟨w.heap.size+1,m,none⟩=false:=frozen_of_row _ _ _ _ _ hX.out;have HX:Hid (∀o,((wr.setCell ⟨w.heap.size+1,m,none⟩ (.int .u8 (ts k))).alloc o).heap[w.heap.size+1]?=some (.cells (rowF 4096 (fun i=>Rg.tree vs ts (i:Int) (k+1))) 5)):=by
    intro o;rw[Below.heap_alloc _ _ _ (by simpa[World.setCell] using hz),heap_setCell_same _ _ _ _ _ _ hX.out,rowF_set _ _ _ _ (by omega)];congr 2
    apply rowF_congr
    intro i _;simp only[Rg.tree,hm];by_cases e:i=m
    ·rw[if_pos e,if_pos (by omega)]
    ·rw[if_neg e,if_neg (by omega)]
   have HB:Hid (∀o,Bl w ((wr.setCell ⟨w.heap.size+1,m,none⟩ (.int .u8 (ts k))).alloc o)):=fun o=>(hB.out.setCell (Nat.le_succ _) _).alloc (by have:=hB.out.size;simpa[World.setCell] using this) _;have hm1:(m:Int)<4096:=(by omega)
   have HM:Hid (vs k=(m:Int)):=hm;rw[hm] at c0 hv;clear hm hc HW HRt hX hB;generalize ts k=t at *;go_wp2
   exact⟨⟨k+1,by omega,by go_num,HX.out _,HB.out _⟩,by simp[intOf];omega⟩
  ·obtain rfl:k=n:=by omega
   go_wp2
   go_ret;exact⟨_,rfl,hX.out,hB.out⟩
end
section
namespace Md
def padM (n:Nat):Nat:=n/64+lastN (n%64)
def pad (n:Nat) (bs:Nat→Int) (i:Nat):Int :=
 if i<n then bs i else if i=n then 128 else if i+8<64*padM n then 0 else(8*(n:Int))/2 ^ (8*(i+8-64*padM n))%256
theorem padM_ge (n:Nat):n+9≤64*padM n∧64*padM n<n+9+64:=by
 unfold padM lastN;split<;>omega
theorem wd_congr (f g:Nat→Int) (i:Nat) (h:∀j,j<64→f j=g j) (hi:i<16):wd f i=wd g i:=by
 unfold wd;rw[h (4*i) (by omega),h (4*i+1) (by omega),h (4*i+2) (by omega),h (4*i+3) (by omega)]
theorem runTo_congr (f g:Nat→Int) (h:∀j,j<64→f j=g j) (s:St):∀k,runTo f k s=runTo g k s
 | 0=>rfl
 | k+1=>by
  show stp f k (runTo f k s)=stp g k (runTo g k s);rw[runTo_congr f g h s k];unfold stp;rw[wd_congr f g _ h (ksel_lt k)]
theorem mixS_congr (f g:Nat→Int) (h:∀j,j<64→f j=g j) (s:St):mixS s f=mixS s g:=by
 unfold mixS;rw[runTo_congr f g h s 64]
theorem mixN_congr (f g:Nat→Int) (s:St):∀m,(∀j,j<64*m→f j=g j)→mixN s f m=mixN s g m
 | 0,_=>rfl
 | m+1,h=>by
  show mixS (mixN s f m) _=mixS (mixN s g m) _;rw[mixN_congr f g s m (fun j hj=>h j (by omega))];exact mixS_congr _ _ (fun j hj=>h (64*m+j) (by omega)) _
theorem mixN_add (f:Nat→Int) (s:St) (a:Nat):∀b,mixN s f (a+b)=mixN (mixN s f a) (fun i=>f (64*a+i)) b
 | 0=>rfl
 | b+1=>by
  show mixS (mixN s f (a+b)) (fun i=>f (64*(a+b)+i))=mixS (mixN (mixN s f a) (fun i=>f (64*a+i)) b) (fun i=>f (64*a+(64*b+i)));rw[mixN_add f s a b];exact mixS_congr _ _ (fun j _=>by rw[show 64*(a+b)+j=64*a+(64*b+j) by omega]) _
theorem last_pad (n:Nat) (bs:Nat→Int) (i:Nat) (h:i<64*lastN (n%64)):pad n bs (64*(n/64)+i)=lastB (n%64) (fun i=>bs (64*(n/64)+i)) (((0:Nat):Int)+(n:Int)*1*8) i:=by
 unfold pad lastB lastTo;have e:64*padM n=64*(n/64)+64*lastN (n%64):=(by unfold padM;omega)
 have h9:=(padM_ge n).1;rw[e] at h9 ⊢;by_cases h1:i<n%64
 ·rw[if_pos (by omega),if_pos h1]
 ·rw[if_neg (by omega),if_neg h1];by_cases h2:i=n%64
  ·rw[if_pos (by omega),if_pos h2]
  ·rw[if_neg (by omega),if_neg h2];by_cases h3:i+8<64*lastN (n%64)
   ·rw[if_pos (by omega),if_neg (by omega)]
   ·rw[if_neg (by omega),if_pos (by omega)];have e2:64*(n/64)+i+8-(64*(n/64)+64*lastN (n%64))=i+8-64*lastN (n%64):=(by omega)
    rw[e2];congr 2
    omega
theorem sum_same (n:Nat) (bs:Nat→Int):mixN st0 (pad n bs) (padM n)=fin st0 0 n bs:=by
 unfold padM fin;rw[mixN_add,mixN_congr (pad n bs) bs st0 (n/64) (fun j hj=>by unfold pad;rw[if_pos (by omega)])];apply mixN_congr
 intro j hj;have h:=last_pad n bs j hj;simp only[Int.mul_one] at h;rw[h];congr 1
 simp
end Md
end
end Go.Proofs.YtelebnancdjjiaaGreatDoor
