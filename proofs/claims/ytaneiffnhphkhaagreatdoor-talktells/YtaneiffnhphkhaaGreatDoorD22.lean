/- walks: package talk's On -/
import Derived.Test.YtaneiffnhphkhaaGreatDoorD20
import Derived.Test.YtaneiffnhphkhaaGreatDoorD21
import Derived.Test.YtaneiffnhphkhaaGreatDoorD05
import Derived.Test.YtaneiffnhphkhaaGreatDoorD01
import Derived.Test.YtaneiffnhphkhaaGreatDoorD18
set_option maxRecDepth 100000
set_option maxHeartbeats 40000000
namespace Go.Proofs.YtaneiffnhphkhaaGreatDoor
section
open Go.RowKit
open Vc (V Of)
open Pl (En Lk Br Net)
open Tk (Md Mnd Cn Sc Dn ixM ilist lst3 ilm)
def msT (t:List Tr) (k i:Nat):Mnd:=⟨(mat (tat t k).l i).md,(mat (tat t k).l i).roles,(mat (tat t k).l i).calm⟩
def vtT (t:List Tr) (k:Nat):Value:=.slice (tat t k).ao (tat t k).l.length (tat t k).cap
def ivM (m:Mi) (j:Nat):Value:=if j=0 then .slice m.po m.ports.length m.pc else if j=1 then .slice m.ro m.roles.length m.rc else .slice m.co m.calm.length m.cc
def ivT (t:List Tr) (a:Nat):Value:=ivM (mat (tat t ((a-12)/36)).l ((a-12)%36/3)) ((a-12)%3)
theorem ivT_ix (t:List Tr) {k i j:Nat}(hi:i<12) (hj:j<3):ivT t (ixM k i j)=ivM (mat (tat t k).l i) j:=by
 obtain⟨_,a2,a3,a4⟩:=Tk.ix_parts (k:=k) hi hj;unfold ivT;rw[a2,a3,a4]
def CalmT (t:List Tr):Prop:=∀k,k<t.length→∀i,i<(tat t k).l.length→∀j,0≤(mat (tat t k).l i).calm.getD j 0∧(0<(mat (tat t k).l i).calm.getD j 0→(mat (tat t k).l i).roles.getD j 0=1∨(mat (tat t k).l i).roles.getD j 0=2)
theorem fit_iff {n:Net}{t:List Tr}:fitT n t=true↔(1≤t.length∧t.length≤4)∧∀k,k<t.length→(tat t k).l.length=n.K∧∀i,i<n.K→((mat (tat t k).l i).ports=n.pts i∧(mat (tat t k).l i).roles.length=(n.pts i).length∧(mat (tat t k).l i).calm.length=(n.pts i).length):=by
 unfold fitT;rw[Bool.and_eq_true,decide_eq_true_eq,decide_eq_true_eq];have e:∀(m:Mi) i,m.has (ptsN n i)=true↔(m.ports=n.pts i∧m.roles.length=(n.pts i).length∧m.calm.length=(n.pts i).length):=fun m i=>by
  unfold Mi.has hasP;rw[Bool.and_eq_true,Bool.and_eq_true,decide_eq_true_eq,decide_eq_true_eq,decide_eq_true_eq];exact Iff.rfl
 constructor
 ·rintro⟨h1,h2⟩;exact⟨⟨by omega,by omega⟩,fun k hk=>⟨(h2 k hk).1,fun i hi=>(e _ _).1 ((h2 k hk).2 i hi)⟩⟩
 ·rintro⟨h1,h2⟩;exact⟨⟨by omega,by omega⟩,fun k hk=>⟨(h2 k hk).1,fun i hi=>(e _ _).2 ((h2 k hk).2 i hi)⟩⟩
theorem fit_at {n:Net}{t:List Tr}{ms:Nat→Nat→Mnd}{w:World}{oao:Option Addr}{ocap:Nat}(h:TrRow w oao ocap t) (hf:fitT n t=true) (hK:n.K≤12) (hm:∀k,k<t.length→∀i,i<n.K→ms k i=msT t k i):TkAt w n.K t.length n.pts ms oao ocap (vtT t) (ivT t):=by
 obtain⟨_,h2⟩:=fit_iff.1 hf;refine⟨h.row,fun k hk => ?_,fun k i j hk hi hj => ?_⟩
 ·have hl:=(h2 k hk).1;refine⟨(tat t k).ao,(tat t k).cap,by unfold vtT;rw[hl],?_⟩;have:=(h.each k hk).row;rw[hl] at this;refine this.congr (fun i hi => ?_);rw[ivT_ix t (by omega) (by omega),ivT_ix t (by omega) (by omega),ivT_ix t (by omega) (by omega),hm k hk i hi];rfl
 ·have hms:=hm k hk i hi;have hm:=(h.each k hk).each i (by rw[(h2 k hk).1];exact hi);obtain⟨e1,_,_⟩:=(h2 k hk).2 i hi;rw[ivT_ix t (by omega) hj];rcases(by omega:j=0∨j=1∨j=2) with q | q | q<;>subst q
  ·refine⟨(mat (tat t k).l i).po,(mat (tat t k).l i).pc,?_,?_⟩
   ·show Value.slice _ (mat (tat t k).l i).ports.length _=Value.slice _ (n.pts i).length _;rw[e1]
   ·have:=hm.ports;rw[e1] at this;exact this
  ·have el:lst3 n.pts ms k i 1=(mat (tat t k).l i).roles:=by
    show(ms k i).roles=_;rw[hms];rfl
   rw[el];exact⟨(mat (tat t k).l i).ro,(mat (tat t k).l i).rc,rfl,hm.roles⟩
  ·have el:lst3 n.pts ms k i 2=(mat (tat t k).l i).calm:=by
    show(ms k i).calm=_;rw[hms];rfl
   rw[el];exact⟨(mat (tat t k).l i).co,(mat (tat t k).l i).cc,rfl,hm.calm⟩
theorem prio_mod {n:Net}(h:n.wrong.1=0) {i:Nat}(hi:i<n.K):∀j,j<(n.bs i).pn→(n.bs i).pv j%4096=0:=fun j hj=>by
 have h0:=bErr_zero (((wrong_iff n).1 h).2.1 i hi);unfold Pl.brErr at h0;split at h0
 ·omega
 ·split at h0
  ·omega
  ·split at h0
   ·omega
   ·rename_i q1 q2 q3;have:=Pl.someTo_false (by simpa using q3) j hj;unfold Pl.oddP at this;simp only[Bool.or_eq_false_iff,decide_eq_false_iff_not,Decidable.not_not] at this;exact this.2
theorem reg_zero {n:Net}(h:n.wrong.1=0) {i:Nat}(hi:i<n.K):Rg.wrong (n.bs i).reg.s (n.bs i).reg.rev (n.bs i).reg.vs (n.bs i).reg.ts (n.bs i).reg.n=0:=by
 have h0:=bErr_zero (((wrong_iff n).1 h).2.1 i hi);unfold Pl.brErr at h0;split at h0
 ·omega
 ·split at h0
  ·omega
  ·split at h0
   ·omega
   ·exact h0
theorem net_fine {n:Net}(hw:n.Wf) (h:n.wrong.1=0) (ms:Nat→Nat→Mnd):Tk.Fine n.cn (n.sc ms):=by
 have R:=right_of hw h;refine⟨R.few,R.fewL,R.links,fun i hi=>(R.fine i hi).addr,R.apart,fun i hi=>⟨?_,fun p hp => ?_⟩⟩
 ·show(lsF (n.bs i).pv (n.bs i).pn).length≤16;rw[lsF_len];exact(R.fine i hi).few
 ·obtain⟨j,hj,rfl⟩:=lsF_mem hp;exact⟨((R.fine i hi).prio j hj).1,((R.fine i hi).prio j hj).2,prio_mod h hi j hj⟩
theorem fit_ok {n:Net}{t:List Tr}{ms:Nat→Nat→Mnd}(hw:n.Wf) (h:n.wrong.1=0) (hf:fitT n t=true) (hc:CalmT t) (hm:∀k,k<t.length→∀i,i<n.K→ms k i=msT t k i):Tk.Ok n.cn (n.sc ms) t.length:=by
 obtain⟨_,h2⟩:=fit_iff.1 hf;refine⟨net_fine hw h _,fun k hk i hi => ?_,fun k hk i hi j => ?_⟩
 ·have hi:i<n.K:=hi;obtain⟨_,e2,e3⟩:=(h2 k hk).2 i hi;rw[Pl.Net.sc_E];have e:(n.pts i).length=(n.ends i).length:=(by unfold Pl.Net.pts;simp)
  show(ms k i).roles.length=_∧(ms k i).calm.length=_;rw[hm k hk i hi];exact⟨e2.trans e,e3.trans e⟩
 ·have hi:i<n.K:=hi;show 0≤(ms k i).calm.getD j 0∧(0<(ms k i).calm.getD j 0→(ms k i).roles.getD j 0=1∨(ms k i).roles.getD j 0=2)
  rw[hm k hk i hi];exact hc k hk i (by rw[(h2 k hk).1];exact hi) j
structure SnOut (w:World) (n:Net) (T:Nat) (s:Sc) (n':Net) (oao:Option Addr) (ocap:Nat) (t':List Tr):Prop where
 net:n'.at' w
 wf:n'.Wf
 right:n'.wrong.1=0
 cn:n'.cn=n.cn
 sc:n'.sc s.ms=s
 row:TrRow w oao ocap t'
 len:t'.length=T
 each:∀k,k<T→(tat t' k).l.length=n.K∧∀i,i<n.K→msT t' k i=s.ms k i∧(mat (tat t' k).l i).ports=n.pts i
 ok:Tk.Ok n.cn s T
 regs:∀i,(n'.bs i).reg.s=(n.bs i).reg.s∧(n'.bs i).reg.rev=(n.bs i).reg.rev∧(n'.bs i).reg.n=(n.bs i).reg.n∧(n'.bs i).reg.vs=(n.bs i).reg.vs∧(n'.bs i).reg.ts=(n.bs i).reg.ts
theorem i64_wf {x:Int}(h : -9223372036854775808≤x∧x≤9223372036854775807):(Lit.int .i64 x).wf=true:=by
 have h1:IntKind.i64.min = -9223372036854775808:=(by decide)
 have h2:IntKind.i64.max=9223372036854775807:=(by decide)
 simp only[Lit.wf,Bool.and_eq_true,decide_eq_true_eq];rw[h1,h2];exact h
theorem lErr_of {K L:Nat}{ls:Nat→Lk}(R:Pl.RightL K L ls) {i:Nat}(hi:i<L):Pl.lErr K ls i=0:=by
 obtain⟨a1,a2,a3,a4,a5,a6⟩:=R.ok i hi;have h0:Pl.lkErr K (ls i)=0:=by
  unfold Pl.lkErr;rw[if_neg (by omega),if_neg a3,if_neg (by omega)]
 unfold Pl.lErr;rw[if_neg (fun q=>q h0),if_neg];rw[Bool.not_eq_true];cases hq:Vc.someTo (fun j=>Pl.isEnd (ls j) (ls i).a (ls i).pa||Pl.isEnd (ls j) (ls i).b (ls i).pb) i with
 | false=>rfl
 | true =>
  obtain⟨j,hj,hb⟩:=Pl.someTo_iff.1 hq;obtain⟨b1,b2⟩:=R.one j i hj hi;rw[b1,b2] at hb;cases hb
theorem owns_few {w:World}{base e k n:Nat}{v:Value}{xs:List Value}(h:w.ownsRow base e k v n xs):n≤9223372036854775807:=by
 obtain⟨_,q⟩:=h;rcases q with⟨_,e⟩ | ⟨g,cap,cur,_,_,_,hn,hm,_,_⟩
 ·omega
 ·unfold maxLen at hm;omega
def reNet (n:Net) (s:Sc) (bao:Option Addr) (bcap:Nat) (lao:Option Addr) (lcap:Nat) (f:Nat→Option Addr×Nat×Option Addr×Nat):Net :=
 ⟨bao,n.K,bcap,fun i=>⟨(n.bs i).addr,(f i).1,(s.pr i).length,(f i).2.1,IL (s.pr i),⟨(n.bs i).reg.s,(n.bs i).reg.rev,(f i).2.2.1,(n.bs i).reg.n,(f i).2.2.2,(n.bs i).reg.vs,(n.bs i).reg.ts⟩⟩,lao,n.L,lcap,s.ls⟩
theorem lsF_IL (l:List Int):lsF (IL l) l.length=l:=by
 apply List.ext_getElem
 ·rw[lsF_len]
 ·intro i h1 h2;simp[lsF,IL,h2]
theorem reNet_wrong {n:Net}{s:Sc}{bao:Option Addr}{bcap:Nat}{lao:Option Addr}{lcap:Nat}{f:Nat→Option Addr×Nat×Option Addr×Nat}(hw:n.Wf) (h:n.wrong.1=0) (hf:Tk.Fine n.cn s):(reNet n s bao bcap lao lcap f).wrong.1=0∧(reNet n s bao bcap lao lcap f).Wf:=by
 obtain⟨h1,h2,h3⟩:=(wrong_iff n).1 h;have R:=right_of hw h;refine⟨(wrong_iff _).2 ⟨h1,fun i hi => ?_,fun i hi=>lErr_of hf.links hi⟩,fun i hi=>hw.addr i hi,fun i hi => ?_⟩
 ·have hi:i<n.K:=hi;have h0:=h2 i hi;have hb:Pl.brErr ((reNet n s bao bcap lao lcap f).bs i)=0:=by
   have hz:=reg_zero h hi;obtain⟨p1,p2⟩:=hf.prios i hi;have:=(R.fine i hi).addr;unfold Pl.brErr reNet;simp only;rw[if_neg (by omega),if_neg (by omega),if_neg]
   ·exact hz
   ·rw[Bool.not_eq_true];cases hq:Vc.someTo (fun j=>Pl.oddP (IL (s.pr i) j)) (s.pr i).length with
    | false=>rfl
    | true =>
     obtain⟨j,hj,hb⟩:=Pl.someTo_iff.1 hq;have hm:=p2 (IL (s.pr i) j) (by unfold IL;rw[List.getD_eq_getElem?_getD,List.getElem?_eq_getElem hj];exact List.getElem_mem hj);unfold Pl.oddP at hb;rw[decide_eq_true ⟨hm.1,hm.2.1⟩,decide_eq_false (by rw[Decidable.not_not];exact hm.2.2)] at hb;cases hb
  unfold Pl.bErr at h0 ⊢;rw[if_neg (fun q=>q hb)];rw[if_neg (fun q=>q (bErr_zero (h2 i hi)))] at h0;exact h0
 ·obtain⟨a1,a2,_,a4,a5,_⟩:=hf.links.ok i hi;have hK:n.cn.K≤12:=R.few;show(Lit.int .i64 (s.ls i).a).wf=true∧(Lit.int .i64 (s.ls i).pa).wf=true∧(Lit.int .i64 (s.ls i).b).wf=true∧(Lit.int .i64 (s.ls i).pb).wf=true;exact⟨i64_wf (by omega),i64_wf (by omega),i64_wf (by omega),i64_wf (by omega)⟩
theorem range_getD {α:Type}(g:Nat→α) (d:α) {n i:Nat}(h:i<n):((List.range n).map g).getD i d=g i:=by
 rw[List.getD_eq_getElem?_getD,List.getElem?_map,List.getElem?_range h];rfl
theorem fam_bridge {w:World}{F:Tf}{s:Sc}{M:Tm}(hK:F.c.K≤12) (hints:Fam w F.base 3 1 156 M.iv (fun a=>(F.il s a).length) (fun a i _=>.int .i64 (IL (F.il s a) i)))
  (hways:Fam w F.base 81 2 12 M.we (fun i=>if i<F.c.K then(F.rg i).n else 0) (fun i j=>wyC ((F.rg i).vs j) ((F.rg i).ts j))) {i:Nat}(hi:i<F.c.K) :
  ∃pao pcap wao wcap,M.iv i=.slice pao (s.pr i).length pcap∧IRow w pao (s.pr i).length pcap (IL (s.pr i))∧M.we i=.slice wao (F.rg i).n wcap∧WayRow w wao (F.rg i).n wcap (F.rg i).vs (F.rg i).ts:=by
 have h1:=hints.own i (by omega);have e1:F.il s i=s.pr i:=Tk.ilist_prio hK F.pts s hi;rw[e1] at h1;obtain⟨pao,pcap,ep,hp,_,_⟩:=owns_c (by omega) h1;have h2:=hways.own i (by omega);rw[if_pos hi] at h2;obtain⟨wao,wcap,ew,hw,_,_⟩:=owns_c (by omega) h2;refine⟨pao,pcap,wao,wcap,ep,hp,ew,⟨hw.1,fun hpz => ?_⟩⟩;obtain⟨b,off,e,hb,hc⟩:=hw.2 hpz;exact⟨b,off,e,hb,fun j hj=>⟨hc j hj 0 (by omega),hc j hj 1 (by omega)⟩⟩
theorem owns_cs {w:World}{base e k m n cap:Nat}{ao:Option Addr}{c:Nat→Nat→Value}(hk:0<k) (h:w.ownsRow base e k (.slice ao m cap) n (cellsL n k c)):m=n∧CRow w ao n cap k c:=by
 obtain⟨ao',cap',e1,h1,_⟩:=owns_c hk h;injection e1 with e2 e3 e4;subst e2 e4;exact⟨e3,h1⟩
theorem scene_out {w0:World}{S:Nat}{F:Tf}{s:Sc}{M:Tm}{G:Nat}{ve:Nat→Value}{n:Net}{T:Nat}(h:ScOk w0 S F s M G ve) (hw:n.Wf) (h0:n.wrong.1=0) (hF:F.c=n.cn∧F.T=T∧F.pts=n.pts∧F.rg=fun i=>(n.bs i).reg) :
  ∃(n':Net) (oao:Option Addr) (ocap:Nat) (t':List Tr),(M.vb=.slice n'.bao n'.K n'.bcap∧M.vl=.slice n'.lao n'.L n'.lcap∧M.vo=.slice oao t'.length ocap)∧∀w,(∀q,F.base≤q→q<w0.heap.size→w.heap[q]?=w0.heap[q]?)→SnOut w n T s n' oao ocap t':=by
 obtain⟨c1,c2,c3,c4⟩:=hF;have hK:F.c.K=n.K:=(by rw[c1];rfl)
 have hL:F.c.L=n.L:=(by rw[c1];rfl)
 have R:=right_of hw h0;have hfine:Tk.Fine n.cn s:=(by rw[←c1];exact h.ok.fine)
 have hA:=h.at';obtain⟨bao,bcap,eb,_,_,_⟩:=owns_c (by omega) hA.brs;obtain⟨lao,lcap,el,_,_,_⟩:=owns_c (by omega) hA.lks;obtain⟨oao,ocap,eo,_,_,_⟩:=owns_c (by omega) hA.out;obtain⟨f,hf⟩:=Classical.axiomOfChoice (r:=fun(i:Nat) (p:Option Addr×Nat×Option Addr×Nat)=>i<n.K→M.iv i=.slice p.1 (s.pr i).length p.2.1∧M.we i=.slice p.2.2.1 (F.rg i).n p.2.2.2) (fun i=>by
  by_cases q:i<n.K
  ·obtain⟨a,b,c,d,e1,_,e3,_⟩:=fam_bridge hA.few hA.ints hA.ways (i:=i) (by rw[hK];exact q);exact⟨(a,b,c,d),fun _=>⟨e1,e3⟩⟩
  ·exact⟨(none,0,none,0),fun z=>absurd z q⟩)
 obtain⟨g,hg⟩:=Classical.axiomOfChoice (r:=fun(k:Nat) (p:Option Addr×Nat)=>k<T→M.vt k=.slice p.1 n.K p.2) (fun k=>by
  by_cases q:k<T
  ·obtain⟨a,b,e1,_,_,_⟩:=owns_c (by omega) (hA.mds.own k (by rw[c2];exact q));rw[hK] at e1;exact⟨(a,b),fun _=>e1⟩
  ·exact⟨(none,0),fun z=>absurd z q⟩)
 obtain⟨v,hv⟩:=Classical.axiomOfChoice (r:=fun(a:Nat) (p:Option Addr×Nat)=>a<156→M.iv a=.slice p.1 (F.il s a).length p.2) (fun a=>by
  by_cases q:a<156
  ·obtain⟨x,b,e1,_,_,_⟩:=owns_c (by omega) (hA.ints.own a q);exact⟨(x,b),fun _=>e1⟩
  ·exact⟨(none,0),fun z=>absurd z q⟩)
 obtain⟨mi,hmi⟩:∃mi:Nat→Nat→Mi,mi=fun k i=>⟨(s.ms k i).md,(v (ixM k i 0)).1,(v (ixM k i 0)).2,n.pts i,(v (ixM k i 1)).1,(v (ixM k i 1)).2,(s.ms k i).roles,(v (ixM k i 2)).1,(v (ixM k i 2)).2,(s.ms k i).calm⟩:=⟨_,rfl⟩
 obtain⟨t',ht'⟩:∃t':List Tr,t'=(List.range T).map (fun k=>⟨(g k).1,(g k).2,(List.range n.K).map (mi k)⟩):=⟨_,rfl⟩
 have tlen:t'.length=T:=(by rw[ht'];simp)
 have tk:∀k,k<T→tat t' k=⟨(g k).1,(g k).2,(List.range n.K).map (mi k)⟩:=fun k hk=>by unfold tat;rw[ht'];exact range_getD _ _ hk
 have ti:∀k i,k<T→i<n.K→mat (tat t' k).l i=mi k i:=fun k i hk hi=>by rw[tk k hk];exact range_getD _ _ hi
 have tl:∀k,k<T→(tat t' k).l.length=n.K:=fun k hk=>by rw[tk k hk];simp
 have hT4:T≤4:=(by rw[←c2];exact hA.fewT)
 have il3:∀k i,k<T→i<n.K→F.il s (ixM k i 0)=n.pts i∧F.il s (ixM k i 1)=(s.ms k i).roles∧F.il s (ixM k i 2)=(s.ms k i).calm:=fun k i hk hi=>by
  have:=Tk.ilist_m (T:=F.T) hA.few F.pts s (k:=k) (i:=i) (by rw[c2];exact hk) (by rw[hK];exact hi);unfold Tf.il;rw[←c3];exact this
 have few:=R.few;have lt:∀k i j,k<T→i<n.K→j<3→ixM k i j<156:=fun k i j hk hi hj=>Tk.ix_lt (by omega) (by omega) hj;refine⟨reNet n s bao bcap lao lcap f,oao,ocap,t',⟨by rw[eb,hK];rfl,by rw[el,hL];rfl,by rw[eo,c2,tlen]⟩,fun w hkp => ?_⟩;have hints:=hA.ints.keep (W':=w) (fun a ha q hq=>hkp q (oCb (hA.ints.own a ha) q hq).1 (oCb (hA.ints.own a ha) q hq).2);have hways:=hA.ways.keep (W':=w) (fun a ha q hq=>hkp q (oCb (hA.ways.own a ha) q hq).1 (oCb (hA.ways.own a ha) q hq).2);have hmds:=hA.mds.keep (W':=w) (fun a ha q hq=>hkp q (oCb (hA.mds.own a ha) q hq).1 (oCb (hA.mds.own a ha) q hq).2);have hbrs:=owns_keep (w':=w) hA.brs (fun q hq=>hkp q (oCb hA.brs q hq).1 (oCb hA.brs q hq).2);have hlks:=owns_keep (w':=w) hA.lks (fun q hq=>hkp q (oCb hA.lks q hq).1 (oCb hA.lks q hq).2);have hout:=owns_keep (w':=w) hA.out (fun q hq=>hkp q (oCb hA.out q hq).1 (oCb hA.out q hq).2);rw[eb] at hbrs;rw[el] at hlks;rw[eo] at hout;have hb:=(owns_cs (by omega) hbrs).2;have hl:=(owns_cs (by omega) hlks).2;have ho:=(owns_cs (by omega) hout).2;have hin:∀k i,k<T→i<n.K→MiIn w (mi k i)∧M.iv (ixM k i 0)=.slice (mi k i).po (mi k i).ports.length (mi k i).pc∧M.iv (ixM k i 1)=.slice (mi k i).ro (mi k i).roles.length (mi k i).rc∧M.iv (ixM k i 2)=.slice (mi k i).co (mi k i).calm.length (mi k i).cc:=fun k i hk hi=>by
  obtain⟨i0,i1,i2⟩:=il3 k i hk hi;have f3:∀a,a<156→ILs w (v a).1 (v a).2 (F.il s a)∧(F.il s a).length≤9223372036854775807:=fun a ha=>by
   have:=hints.own a ha;rw[hv a ha] at this;exact⟨(owns_cs (by omega) this).2,owns_few this⟩
  have x1:=hv _ (lt k i 0 hk hi (by omega));have y1:=hv _ (lt k i 1 hk hi (by omega));have z1:=hv _ (lt k i 2 hk hi (by omega));obtain⟨x2,x3⟩:=f3 _ (lt k i 0 hk hi (by omega));obtain⟨y2,y3⟩:=f3 _ (lt k i 1 hk hi (by omega));obtain⟨z2,z3⟩:=f3 _ (lt k i 2 hk hi (by omega));rw[i0] at x1 x2 x3;rw[i1] at y1 y2 y3;rw[i2] at z1 z2 z3;rw[hmi];exact⟨⟨x2,y2,z2,x3,y3,z3⟩,x1,y1,z1⟩
 refine⟨⟨?_,fun i hi => ?_,?_,?_,?_⟩,(reNet_wrong hw h0 hfine).2,(reNet_wrong hw h0 hfine).1,rfl,?_,⟨?_,fun k hk=>⟨?_,fun i hi => ?_,?_⟩,?_⟩,tlen,fun k hk=>⟨tl k hk,fun i hi => ?_⟩,by rw[←c1,←c2];exact h.ok,fun i=>⟨rfl,rfl,rfl,rfl,rfl⟩⟩
 ·rw[hK] at hb;refine hb.congr (fun i hi => ?_);obtain⟨e1,e3⟩:=hf i hi;funext x
  show brX (F.c.addr i) (M.iv i) (F.rg i).s (F.rg i).rev (M.we i) x=brC _ x;rw[e1,e3,c1,c4];rfl
 ·obtain⟨e1,e3⟩:=hf i hi;obtain⟨a,b,c,d,g1,g2,g3,g4⟩:=fam_bridge hA.few hints hways (i:=i) (by rw[hK];exact hi);rw[e1] at g1;rw[e3] at g3;injection g1 with g5 _ g6;injection g3 with g7 _ g8;subst g5 g6 g7 g8;rw[c4] at g4;have hp:=hfine.prios i hi;exact⟨g2,g4,by show(s.pr i).length≤_;have:=hp.1;omega,by show(n.bs i).reg.n≤_;have:=vids_few (R.fine i hi).reg.2.2;omega⟩
 ·rw[hL] at hl;exact hl
 ·show n.K≤_;omega
 ·show n.L≤_;have:=R.fewL;omega
 ·show(⟨fun i=>lsF (IL (s.pr i)) (s.pr i).length,s.ls,s.ms⟩:Sc)=s;have:(fun i=>lsF (IL (s.pr i)) (s.pr i).length)=s.pr:=funext (fun i=>lsF_IL _);rw[this]
 ·rw[tlen];rw[c2] at ho;refine ho.congr (fun k hk => ?_);funext _
  rw[hg k hk,tk k hk];show Value.slice _ n.K _=Value.slice _ ((List.range n.K).map (mi k)).length _;simp
 ·rw[tlen] at hk;rw[tl k hk];have e:(tat t' k).ao=(g k).1∧(tat t' k).cap=(g k).2:=(by rw[tk k hk];exact⟨rfl,rfl⟩)
  rw[e.1,e.2];have hm:=hmds.own k (by rw[c2];exact hk);rw[hg k hk] at hm;have hm2:=(owns_cs (by omega) hm).2;rw[hK] at hm2;refine hm2.congr (fun i hi => ?_);rw[ti k i hk hi];obtain⟨_,x1,x2,x3⟩:=hin k i hk hi;unfold Tm.mc;rw[x1,x2,x3,hmi]
 ·rw[tlen] at hk;rw[tl k hk] at hi;rw[ti k i hk hi];exact(hin k i hk hi).1
 ·rw[tlen] at hk;rw[tl k hk];omega
 ·rw[tlen];omega
 ·have:=ti k i hk hi;unfold msT;rw[this,hmi];exact⟨rfl,rfl⟩
def Kept (w:World) (b:Nat) (P:World→Prop):Prop:=∀V,(∀q,b≤q→q<w.heap.size→V.heap[q]?=w.heap[q]?)→P V
theorem Kept.here {w:World}{b:Nat}{P:World→Prop}(h:Kept w b P):P w:=h w (fun _ _ _=>rfl)
end
section
open Go.RowKit
theorem results_row3 {P:Program}{fn:Func}{p q r:Tmp}{t1 t2 t3:TypeId}(h:fn.results=#[.cell p t1,.cell q t2,.cell r t3]) (tmps:Array Value) (w:World) (g1 g2 g3:Nat) (u1 u2 u3:TypeId) (c1 c2 c3:Array Value) (f1 f2 f3:Nat×Nat) (d1 d2 d3:TypeDesc)
  (hp:tmps.getD p undef=.pointer (some ⟨g1,0,none⟩)) (hq:tmps.getD q undef=.pointer (some ⟨g2,0,none⟩)) (hr:tmps.getD r undef=.pointer (some ⟨g3,0,none⟩))
  (h1:w.heap[g1]?=some (.cells c1 u1 f1)) (h2:w.heap[g2]?=some (.cells c2 u2 f2)) (h3:w.heap[g3]?=some (.cells c3 u3 f3))
  (k1:P.underlying t1=some d1) (k2:P.underlying t2=some d2) (k3:P.underlying t3=some d3)
  (e1:(match d1 with | .struct _ | .array _ _=>true | _=>false)=true) (e2:(match d2 with | .struct _ | .array _ _=>true | _=>false)=true) (e3:(match d3 with | .struct _ | .array _ _=>true | _=>false)=true)
  (i1:(P.info? t1).map (·.size)=some c1.size) (i2:(P.info? t2).map (·.size)=some c2.size) (i3:(P.info? t3).map (·.size)=some c3.size) :
  (results fn tmps).run P w=.ok (.tuple #[.agg c1,.agg c2,.agg c3]) w:=by
 have hp':tmps[p]?.getD undef=.pointer (some ⟨g1,0,none⟩):=(by simpa using hp)
 have hq':tmps[q]?.getD undef=.pointer (some ⟨g2,0,none⟩):=(by simpa using hq)
 have hr':tmps[r]?.getD undef=.pointer (some ⟨g3,0,none⟩):=(by simpa using hr)
 simp[results,h,hp',hq',hr',asAddr,run_loadVar_row w g1 u1 t1 c1 f1 d1 h1 k1 e1 i1,run_loadVar_row w g2 u2 t2 c2 f2 d2 h2 k2 e2 i2,run_loadVar_row w g3 u3 t3 c3 f3 d3 h3 k3 e3 i3]
theorem results_row2 {P:Program}{fn:Func}{p q:Tmp}{t1 t2:TypeId}(h:fn.results=#[.cell p t1,.cell q t2]) (tmps:Array Value) (w:World) (g1 g2:Nat) (u1 u2:TypeId) (c1 c2:Array Value) (f1 f2:Nat×Nat) (d1 d2:TypeDesc)
  (hp:tmps.getD p undef=.pointer (some ⟨g1,0,none⟩)) (hq:tmps.getD q undef=.pointer (some ⟨g2,0,none⟩))
  (h1:w.heap[g1]?=some (.cells c1 u1 f1)) (h2:w.heap[g2]?=some (.cells c2 u2 f2))
  (k1:P.underlying t1=some d1) (k2:P.underlying t2=some d2)
  (e1:(match d1 with | .struct _ | .array _ _=>true | _=>false)=true) (e2:(match d2 with | .struct _ | .array _ _=>true | _=>false)=true)
  (i1:(P.info? t1).map (·.size)=some c1.size) (i2:(P.info? t2).map (·.size)=some c2.size) :
  (results fn tmps).run P w=.ok (.tuple #[.agg c1,.agg c2]) w:=by
 have hp':tmps[p]?.getD undef=.pointer (some ⟨g1,0,none⟩):=(by simpa using hp)
 have hq':tmps[q]?.getD undef=.pointer (some ⟨g2,0,none⟩):=(by simpa using hq)
 simp[results,h,hp',hq',asAddr,run_loadVar_row w g1 u1 t1 c1 f1 d1 h1 k1 e1 i1,run_loadVar_row w g2 u2 t2 c2 f2 d2 h2 k2 e2 i2]
theorem set_keep {w:World}{g j o:Nat}{v:Value}{x:Obj}(h:w.heap[g]?=some x) (hne:g≠j):(w.setCell ⟨j,o,none⟩ v).heap[g]?=some x :=
 (heap_setCell_other _ _ _ _ (by exact hne)).trans h
theorem set_at {w:World}{g i:Nat}{c:Array Value}{ty:TypeId}{v:Value}(h:w.heap[g]?=some (.cells c ty (0,0))):(w.setCell ⟨g,i,none⟩ v).heap[g]?=some (.cells (c.setIfInBounds i v) ty (0,0)) :=
 heap_setCell_same _ _ _ _ _ _ h
theorem set1_same {w:World}{g:Nat}{a0 v0:Value}{ty:TypeId}(h:w.heap[g]?=some (.cells #[a0] ty (0,0))):(w.setCell ⟨g,0,none⟩ v0).heap[g]?=some (.cells #[v0] ty (0,0)):=by
 rw[heap_setCell_same _ _ _ _ _ _ h];rfl
theorem drew_keep {w:World}{g:Nat}{o:Obj}(h:w.heap[g]?=some o):w.drew.heap[g]?=some o:=h
theorem out_set {W V:World}{b g o:Nat}{v:Value}(h:∀q,b≤q→V.heap[q]?=W.heap[q]?) (hg:g<b):∀q,b≤q→(V.setCell ⟨g,o,none⟩ v).heap[q]?=W.heap[q]?:=fun q hq =>
 (heap_setCell_other _ _ _ _ (by show q≠g;omega)).trans (h q hq)
theorem out_drew {W V:World}{b:Nat}(h:∀q,b≤q→V.heap[q]?=W.heap[q]?):∀q,b≤q→V.drew.heap[q]?=W.heap[q]?:=h
end
section
open Go.RowKit
open Vc (V Of)
open Pl (En Lk Br Net)
open Tk (Md Mnd Cn Sc Dn ixM ilist lst3 ilm)
def dnC (d:Dn) (j:Nat):Value:=if j=0 then .int .i64 d.kind else if j=1 then .int .i64 d.n else if j=2 then .int .i64 d.tree else .int .i64 d.value
abbrev DRow (w:World) (ao:Option Addr) (n cap:Nat) (ds:Nat→Dn):Prop:=CRow w ao n cap 4 (fun i=>dnC (ds i))
theorem DRow.cells {w:World}{b off n cap:Nat}{ds:Nat→Dn}(h:DRow w (some ⟨b,off,none⟩) n cap ds) {i:Nat}(hi:i<n) :
  w.cell? ⟨b,off+i*4,none⟩=some (.int .i64 (ds i).kind)∧w.cell? ⟨b,off+i*4+1,none⟩=some (.int .i64 (ds i).n)∧w.cell? ⟨b,off+i*4+2,none⟩=some (.int .i64 (ds i).tree)∧w.cell? ⟨b,off+i*4+3,none⟩=some (.int .i64 (ds i).value):=by
 obtain⟨b',off',e,_,hc⟩:=h.2 (by omega);cases e
 exact⟨hc i hi 0 (by omega),hc i hi 1 (by omega),hc i hi 2 (by omega),hc i hi 3 (by omega)⟩
def onErr (n:Net) (t:List Tr) (ds:Nat→Dn) (dn:Nat):Int×Int:=if (wrT n t dn).1≠0 then wrT n t dn else Tk.errTo n.cn ds dn
theorem onErr_zero {n:Net}{t:List Tr}{ds:Nat→Dn}{dn:Nat}(h:(onErr n t ds dn).1=0):(wrT n t dn).1=0∧(Tk.errTo n.cn ds dn).1=0:=by
 unfold onErr at h;by_cases q:(wrT n t dn).1=0
 ·rw[if_neg (fun z=>z q)] at h;exact⟨q,h⟩
 ·rw[if_pos q] at h;exact absurd h q
theorem wrT_zero {n:Net}{t:List Tr}{dn:Nat}(h:(wrT n t dn).1=0):wrT n t dn=(0,0)∧n.wrong.1=0∧fitT n t=true∧dn≤30:=by
 unfold wrT at h ⊢;by_cases q:n.wrong.1=0
 ·rw[if_neg (fun z=>z q)] at h ⊢;by_cases q2:fitT n t=false
  ·rw[if_pos q2] at h;cases h
  ·rw[if_neg q2] at h ⊢;by_cases q3:30<dn
   ·rw[if_pos q3] at h;cases h
   ·rw[if_neg q3];exact⟨rfl,q,by simpa using q2,by omega⟩
 ·rw[if_pos q] at h;exact absurd h q
theorem sizeTk:(Tryz.prog.info? 29).map (·.size)=some 1:=by kernel_rfl
theorem sizeNt:(Tryz.prog.info? 25).map (·.size)=some 2:=by kernel_rfl
def OnW (w:World) (n:Net) (t:List Tr) (ms:Nat→Nat→Mnd) (ds:Nat→Dn) (dn:Nat) (e:Ending) (w':World):Prop :=
 Bl w w'∧(((onErr n t ds dn).1≠0∧e=.returned (.tuple #[.agg #[.slice none 0 0,.slice none 0 0],.agg #[.slice none 0 0],.agg #[.int .i64 (onErr n t ds dn).1,.int .i64 (onErr n t ds dn).2]])) ∨
  ((onErr n t ds dn).1=0∧∃(n':Net) (oao:Option Addr) (ocap:Nat) (t':List Tr),e=.returned (.tuple #[n'.val,.agg #[.slice oao t'.length ocap],.agg #[.int .i64 0,.int .i64 0]])∧∃b,w.heap.size≤b∧Kept w' b (fun V=>SnOut V n t.length ((n.sc ms).all n.cn ds dn) n' oao ocap t')))
theorem low_below {w w' W0 V:World}{b:Nat}(h1:Bl w w') (h2:Below b W0 w') (h3:Below b W0 V) (hb:w.heap.size≤b) (hb2:b≤W0.heap.size):Bl w V :=
 ⟨(h3.os.trans h2.os.symm).trans h1.os,(h3.tape.trans h2.tape.symm).trans h1.tape,(h3.output.trans h2.output.symm).trans h1.output,by have:=h3.size;omega,fun q hq=>((h3.block q (by omega)).trans (h2.block q (by omega)).symm).trans (h1.block q hq)⟩
theorem ton_any (n:Net) (oao:Option Addr) (ocap:Nat) (t:List Tr) (ms:Nat→Nat→Mnd) (dao:Option Addr) (dn dcap:Nat) (ds:Nat→Dn) (w:World) (hwf:n.Wf) (hat:n.at' w) (htr:TrRow w oao ocap t) (hdn:dn≤9223372036854775807) (hds:DRow w dao dn dcap ds) (hc:CalmT t) (hm:∀k,k<t.length→∀i,i<n.K→ms k i=msT t k i) (htb:Tabs w) (hbt:2≤w.heap.size) :
  Calls Tryz.prog 20 #[n.val,.agg #[.slice oao t.length ocap],.slice dao dn dcap] w fun e w'=>OnW w n t ms ds dn e w':=by
 obtain⟨X2,HX2⟩:∃X2,Hid (X2=(w.alloc (.cells #[.slice n.bao n.K n.bcap,.slice n.lao n.L n.lcap] 25)).alloc (.cells #[.slice oao t.length ocap] 29)):=⟨_,rfl⟩
 obtain⟨X,HX⟩:∃X,Hid (X=((X2.alloc (.cells #[.slice none 0 0,.slice none 0 0] 25)).alloc (.cells #[.slice none 0 0] 29)).alloc (.cells #[.int .i64 0,.int .i64 0] 32)):=⟨_,rfl⟩
 have b1:Bl w X2:=(by rw[HX2.out];exact bA2 _ _ _)
 have s1:X2.heap.size=w.heap.size+1+1:=(by rw[HX2.out];simp)
 have b2:Bl X2 X:=(by rw[HX.out];exact((bA2 _ _ _).alloc (by simp;omega) _))
 have s2:X.heap.size=X2.heap.size+1+1+1:=(by rw[HX.out];simp)
 have hXB:Bl w X:=b1.trans (b2.mono b1.size);have g0:X.heap[w.heap.size]?=some (.cells #[.slice n.bao n.K n.bcap,.slice n.lao n.L n.lcap] 25):=keep (by rw[HX2.out];exact heap_alloc2_old _ _ _) b2;have g1:X.heap[w.heap.size+1]?=some (.cells #[.slice oao t.length ocap] 29):=keep (by rw[HX2.out];exact heap_alloc2_new _ _ _) b2;have g2:X.heap[w.heap.size+1+1]?=some (.cells #[.slice none 0 0,.slice none 0 0] 25):=by
  rw[HX.out,←s1];exact keep (heap_alloc2_old _ _ _) (bA1 _ _)
 have g3:X.heap[w.heap.size+1+1+1]?=some (.cells #[.slice none 0 0] 29):=by
  rw[HX.out,←s1];exact keep (heap_alloc2_new _ _ _) (bA1 _ _)
 have g4:X.heap[w.heap.size+1+1+1+1]?=some (.cells #[.int .i64 0,.int .i64 0] 32):=by
  have:w.heap.size+1+1+1+1=((X2.alloc (.cells #[.slice none 0 0,.slice none 0 0] 25)).alloc (.cells #[.slice none 0 0] 29)).heap.size:=by simp[s1]
  rw[HX.out,this];exact heap_alloc_last _ _
 obtain⟨BN,HBN⟩:∃BN,Hid (BN=w.heap.size):=⟨_,rfl⟩
 obtain⟨BT,HBT⟩:∃BT,Hid (BT=w.heap.size+1):=⟨_,rfl⟩
 obtain⟨RN,HRN⟩:∃RN,Hid (RN=w.heap.size+1+1):=⟨_,rfl⟩
 obtain⟨RT,HRT⟩:∃RT,Hid (RT=w.heap.size+1+1+1):=⟨_,rfl⟩
 obtain⟨RF,HRF⟩:∃RF,Hid (RF=w.heap.size+1+1+1+1):=⟨_,rfl⟩
 rw[←HBN.out] at g0;rw[←HBT.out] at g1;rw[←HRN.out] at g2;rw[←HRT.out] at g3;rw[←HRF.out] at g4;have ne1:RN≠RT:=(by have:=HRN.out;have:=HRT.out;omega)
 have ne2:RN≠RF:=(by have:=HRN.out;have:=HRF.out;omega)
 have ne3:RT≠RF:=(by have:=HRT.out;have:=HRF.out;omega)
 have le1:w.heap.size≤RN:=(by have:=HRN.out;omega)
 have le2:w.heap.size≤RT:=(by have:=HRT.out;omega)
 have le3:w.heap.size≤RF:=(by have:=HRF.out;omega)
 have lt1:RN<X.heap.size:=(by have:=HRN.out;omega)
 have lt2:RT<X.heap.size:=(by have:=HRT.out;omega)
 have lt3:RF<X.heap.size:=(by have:=HRF.out;omega)
 have HC:Hid (∀V,Bl X V→(V.cell? ⟨BN,0,none⟩=some (.slice n.bao n.K n.bcap)∧V.cell? ⟨BN,1,none⟩=some (.slice n.lao n.L n.lcap))∧V.cell? ⟨BT,0,none⟩=some (.slice oao t.length ocap)∧(V.cell? ⟨RN,0,none⟩=some (.slice none 0 0)∧V.cell? ⟨RN,1,none⟩=some (.slice none 0 0))∧V.cell? ⟨RT,0,none⟩=some (.slice none 0 0)∧(V.cell? ⟨RF,0,none⟩=some (.int .i64 0)∧V.cell? ⟨RF,1,none⟩=some (.int .i64 0))∧(V.frozen? ⟨RN,0,none⟩=false∧V.frozen? ⟨RN,1,none⟩=false)∧V.frozen? ⟨RT,0,none⟩=false∧V.frozen? ⟨RF,0,none⟩=false∧V.frozen? ⟨RF,1,none⟩=false):=fun V hV =>
  ⟨tC2 (keep g0 hV),one_cell (keep g1 hV),tC2 (keep g2 hV),one_cell (keep g3 hV),tC2 (keep g4 hV),⟨frozen_of_row _ _ _ _ _ (keep g2 hV),frozen_of_row _ _ _ _ _ (keep g2 hV)⟩,frozen_of_row _ _ _ _ _ (keep g3 hV),frozen_of_row _ _ _ _ _ (keep g4 hV),frozen_of_row _ _ _ _ _ (keep g4 hV)⟩
 have HH:Hid (∀V,Bl X V→V.heap[RN]?=some (.cells #[.slice none 0 0,.slice none 0 0] 25)∧V.heap[RT]?=some (.cells #[.slice none 0 0] 29)∧V.heap[RF]?=some (.cells #[.int .i64 0,.int .i64 0] 32)∧Bl w V):=fun V hV=>⟨keep g2 hV,keep g3 hV,keep g4 hV,hXB.trans (hV.mono hXB.size)⟩
 have HWR:Hid (Calls Tryz.prog 39 #[.agg #[.slice n.bao n.K n.bcap,.slice n.lao n.L n.lcap],.agg #[.slice oao t.length ocap],.slice dao dn dcap] X fun e w'=>e=.returned (.agg #[.int .i64 (wrT n t dn).1,.int .i64 (wrT n t dn).2])∧Hid (Bl X w')):=(twrong_any n oao ocap t dao dn dcap X hwf (hat.below hXB) (htr.below hXB) hdn).mono (fun e w' h=>⟨h.1,h.2⟩);have HNS:Hid ((wrT n t dn).1=0→∀V,Bl X V→Calls Tryz.prog 40 #[.agg #[.slice n.bao n.K n.bcap,.slice n.lao n.L n.lcap],.agg #[.slice oao t.length ocap]] V fun e w'=>NewW V n t.length ms e w'):=fun h0 V hV=>by
  obtain⟨_,z1,z2,_⟩:=wrT_zero h0;have hV2:=hXB.trans (hV.mono hXB.size);obtain⟨f1,_⟩:=fit_iff.1 z2;exact tnewscene_any n t.length ms oao ocap (vtT t) (ivT t) V (right_of hwf z1) f1.2 (hat.below hV2) (fit_at (htr.below hV2) z2 (right_of hwf z1).few hm) (fit_ok hwf z1 z2 hc hm) (htb.below hV2 hbt) (Nat.le_trans hbt hV2.size)
 have HDS:Hid (∀V,Bl X V→DRow V dao dn dcap ds):=fun V hV=>CRow.below hds (hXB.trans (hV.mono hXB.size));have HWF:Hid n.Wf:=hwf;have HWX:Hid (w.heap.size≤X.heap.size):=hXB.size;have hcap:=hds.1;clear hwf hat htr hds hc hm htb hbt b1 b2 s1 s2 hXB g0 g1 g2 g3 g4;simp only[Pl.Net.val];go_enter Tryz.func20,Tryz.ntmps20;obtain⟨⟨x0,x1⟩,x2,_⟩:=HC.out X (Below.refl _ _);rw[HX.out,HX2.out,HBN.out] at x0 x1;rw[HX.out,HX2.out,HBT.out] at x2;(go_wp2_with fail);rw[←HX2.out,←HX.out,←HRF.out,←HRT.out,←HRN.out,←HBT.out,←HBN.out];refine HWR.out.mono ?_;rintro e w1 ⟨rfl,H1⟩;clear x0 x1 x2 HWR;obtain⟨V1,HV1⟩:∃V1,Hid (V1=w1.alloc (.cells #[.int .i64 (wrT n t dn).1,.int .i64 (wrT n t dn).2] 32)):=⟨_,rfl⟩
 have hV1:Bl X V1:=(by rw[HV1.out];exact H1.out.alloc H1.out.size _)
 have f0:V1.cell? ⟨w1.heap.size,0,none⟩=some (.int .i64 (wrT n t dn).1)∧V1.cell? ⟨w1.heap.size,1,none⟩=some (.int .i64 (wrT n t dn).2):=tC2 (by rw[HV1.out];exact heap_alloc_last _ _);obtain⟨f0,f1⟩:=f0;obtain⟨⟨p0,p1⟩,p2,⟨p3,p4⟩,p5,⟨p6,p7⟩,⟨q0,q1⟩,q2,q3,q4⟩:=HC.out V1 hV1;have y0:=f0;rw[HV1.out] at y0;by_cases q:(wrT n t dn).1=0
 ·have HE:Hid (onErr n t ds dn=Tk.errTo n.cn ds dn):=if_neg (fun z=>z q);obtain⟨z0,hw0,hfit,hfew⟩:=wrT_zero q;have HN0:Hid (n.wrong.1=0):=hw0;have HNV:Hid (Calls Tryz.prog 40 #[.agg #[.slice n.bao n.K n.bcap,.slice n.lao n.L n.lcap],.agg #[.slice oao t.length ocap]] V1 fun e w'=>NewW V1 n t.length ms e w'):=HNS.out q V1 hV1;have r0:=p0;have r1:=p1;have r2:=p2;rw[HV1.out] at r0 r1 r2;clear hw0 hfit f0 f1 p0 p1 p2 p3 p4 p5 p6 p7 q0 q1 q2 q3 q4 HNS z0;generalize (wrT n t dn).1=r5 at *;generalize (wrT n t dn).2=r6 at *;subst q;(go_wp2_with fail);rw[←HV1.out];refine HNV.out.mono ?_;rintro e w2 ⟨S,F,M,G,ve,rfl,hSc,hF,hb,hB2⟩;have HSW:Hid (∀V,Below F.base F.W0 V→Bl X V):=fun V hV=>hV1.trans ((low_below hB2 hSc.at'.low hV hb (Nat.le_refl _)).mono hV1.size);have HFB:Hid (X.heap.size≤F.base):=Nat.le_trans hV1.size hb;have HFC:Hid (F.c=n.cn∧F.T=t.length∧F.pts=n.pts∧F.rg=fun i=>(n.bs i).reg):=hF;have HST:Hid (∃M G ve,ScOk w2 S F ((n.sc ms).all n.cn ds 0) M G ve):=⟨M,G,ve,hSc⟩
  clear hSc hF hb hB2 hV1 y0 r0 r1 r2 HNV;(go_wp2_with fail);go_loopw [29] (fun i wr=>∃k:Nat,k≤dn∧i=.int .i64 k∧Hid (∀j,j<k→Tk.errOf n.cn (ds j)=0)∧Hid (∃M G ve,ScOk wr S F ((n.sc ms).all n.cn ds k) M G ve)) (fun i _=>dn-(intOf i).toNat)
  case atStart=>exact⟨0,by omega,rfl,(fun j hj=>absurd hj (by omega)),HST⟩
  case round =>
   obtain⟨k,hk,rfl,hZ,hS⟩:=hrel;obtain⟨M,G,ve,hSc⟩:=hS.out;have hXr:=HSW.out wr hSc.at'.low;clear HST;by_cases hlt:k<dn
   ·have hrow:=HDS.out wr hXr;obtain⟨b,off,rfl,_⟩:=CRow.some hrow (by omega);obtain⟨c0,c1,c2,c3⟩:=DRow.cells hrow hlt;have ik:(0:Int)≤(k:Int):=(by omega)
    have nk:(k:Int)<(dn:Int):=(by omega)
    have HDO:Hid (Calls Tryz.prog 41 #[.pointer (some ⟨S,0,none⟩),.agg #[.int .i64 (ds k).kind,.int .i64 (ds k).n,.int .i64 (ds k).tree,.int .i64 (ds k).value]] (wr.alloc (.cells #[.int .i64 (ds k).kind,.int .i64 (ds k).n,.int .i64 (ds k).tree,.int .i64 (ds k).value] 45)) fun e w'=>∃z,e=.returned (.int .i64 z)∧Hid (z=Tk.errOf n.cn (ds k)∧Bl X w'∧(z=0→∃M G ve,ScOk w' S F ((n.sc ms).all n.cn ds (k+1)) M G ve))):=by
     refine(tdo_any _ S F ((n.sc ms).all n.cn ds k) M G ve (ds k) (hSc.below (bA1 _ _))).mono ?_;rintro e w' ⟨rfl,h1,h2⟩;rw[HFC.out.1] at h2;refine⟨_,rfl,by rw[HFC.out.1],HSW.out _ h1,fun z => ?_⟩;rw[HFC.out.1] at z;exact h2 z
    have HK0:Hid (∀z:Int,z=Tk.errOf n.cn (ds k)→z=0→∀j,j<k+1→Tk.errOf n.cn (ds j)=0):=fun z hz h0 j hj=>by
     by_cases e:j=k
     ·subst e;rw[←hz];exact h0
     ·exact hZ.out j (by omega)
    have HK1:Hid (∀z:Int,z=Tk.errOf n.cn (ds k)→z≠0→onErr n t ds dn=(z,(k:Int))):=fun z hz h0=>by
     rw[HE.out,hz];exact Pl.firstTo_here _ k hZ.out (by rw[←hz];exact h0) dn hlt
    clear hSc hS hZ hrow HFC HSW HDS;generalize ds k=d at *;(go_wp2_with fail);refine HDO.out.mono ?_;rintro e w3 ⟨z,rfl,H3⟩;clear HDO c0 c1 c2 c3;by_cases hz:z=0
    ·have HK2:Hid (∀j,j<k+1→Tk.errOf n.cn (ds j)=0):=HK0.out z H3.out.1 hz;have HK3:Hid (∃M G ve,ScOk w3 S F ((n.sc ms).all n.cn ds (k+1)) M G ve):=H3.out.2.2 hz;subst hz;clear HK0 HK1 H3;(go_wp2_with fail);exact⟨⟨k+1,by omega,by go_num,HK2,HK3⟩,by simp[intOf];omega⟩
    ·have HK2:Hid (onErr n t ds dn=(z,(k:Int))):=HK1.out z H3.out.1 hz;have hz1:(z != 0)=true:=(by simpa using hz)
     obtain⟨_,_,⟨p3,p4⟩,p5,⟨p6,p7⟩,⟨q0,q1⟩,q2,q3,q4⟩:=HC.out w3 H3.out.2.1;clear HK0 HK1;(go_wp2_with fail);refine bodyPost_ret (v:=.tuple #[.agg #[.slice none 0 0,.slice none 0 0],.agg #[.slice none 0 0],.agg #[.int .i64 z,.int .i64 (k:Int)]]) (results_row3 Tryz.results20 _ _ RN RT RF 25 29 32 #[.slice none 0 0,.slice none 0 0] #[.slice none 0 0] #[.int .i64 z,.int .i64 (k:Int)] (0,0) (0,0) (0,0) _ _ _ rfl rfl rfl ?h1 ?h2 ?h3 Tryz.underlying25 Tryz.underlying29 Tryz.underlying32 rfl rfl rfl ?i1 ?i2 ?i3) rfl ?post
     case h1=>repeat(first | (with_reducible refine drew_keep ?_) | (with_reducible exact(HH.out _ H3.out.2.1).1) | (with_reducible refine set2_same (a0:=Value.slice none 0 0) (a1:=Value.slice none 0 0) ?_) | (with_reducible refine set_keep ?_ ne1) | (with_reducible refine set_keep ?_ ne2))
     case h2=>repeat(first | (with_reducible refine drew_keep ?_) | (with_reducible exact(HH.out _ H3.out.2.1).2.1) | (with_reducible refine set1_same (a0:=Value.slice none 0 0) ?_) | (with_reducible refine set_keep ?_ ne1.symm) | (with_reducible refine set_keep ?_ ne3))
     case h3=>repeat(first | (with_reducible refine drew_keep ?_) | (with_reducible exact(HH.out _ H3.out.2.1).2.2.1) | (with_reducible refine set2_same (a0:=Value.int .i64 0) (a1:=Value.int .i64 0) ?_) | (with_reducible refine set_keep ?_ ne2.symm) | (with_reducible refine set_keep ?_ ne3.symm))
     case i1=>rw[sizeNt];try rfl
     case i2=>rw[sizeTk];try rfl
     case i3=>rw[sizeFt];try rfl
     case post =>
      refine⟨?_,Or.inl ⟨by rw[HK2.out];exact hz,by rw[HK2.out]⟩⟩;repeat(first | (with_reducible refine Below.drew ?_) | (with_reducible exact(HH.out _ H3.out.2.1).2.2.2) | (with_reducible refine Below.setCell ?_ le1 _) | (with_reducible refine Below.setCell ?_ le2 _) | (with_reducible refine Below.setCell ?_ le3 _))
   ·obtain rfl:k=dn:=by omega
    have hA:=hSc.at';obtain⟨bao,bcap,eb,_,_,_⟩:=owns_c (by omega) hA.brs;obtain⟨lao,lcap,el,_,_,_⟩:=owns_c (by omega) hA.lks;obtain⟨oa,oc,eo,_,_,_⟩:=owns_c (by omega) hA.out;obtain⟨s0,s1,s2,_,_⟩:=hA.cells;rw[eb] at s0;rw[el] at s1;rw[eo] at s2;have HFIN:Hid (∀V,(∀q,F.base≤q→V.heap[q]?=wr.heap[q]?)→V.heap.size=wr.heap.size→Bl w V→OnW w n t ms ds k (.returned (.tuple #[.agg #[.slice bao F.c.K bcap,.slice lao F.c.L lcap],.agg #[.slice oa F.T oc],.agg #[.int .i64 0,.int .i64 0]])) V):=fun V h1 hs h2=>by
     obtain⟨n',oao',ocap',t',⟨e1,e2,e3⟩,h3⟩:=scene_out hSc HWF.out HN0.out HFC.out;refine⟨h2,Or.inr ⟨?_,n',oao',ocap',t',?_,F.base,Nat.le_trans HWX.out HFB.out,fun V2 hV2=>h3 V2 (fun q q1 q2=>(hV2 q q1 (by rw[hs];exact q2)).trans (h1 q q1))⟩⟩
     ·rw[HE.out];exact(congrArg Prod.fst (Pl.firstTo_all _ _ hZ.out))
     ·rw[←eb,←el,←eo,e1,e2,e3];rfl
    have lo1:RN<F.base:=Nat.lt_of_lt_of_le lt1 HFB.out;have lo2:RT<F.base:=Nat.lt_of_lt_of_le lt2 HFB.out;have lo3:RF<F.base:=Nat.lt_of_lt_of_le lt3 HFB.out;have HXR:Hid (Bl X wr):=hXr;obtain⟨_,_,⟨p3,p4⟩,p5,⟨p6,p7⟩,⟨q0,q1⟩,q2,q3,q4⟩:=HC.out wr hXr;clear hSc hS hZ hA eb el eo hXr HFC HSW HDS HE HC;(go_wp2_with fail);go_region
    (all_goals go_wp2_with fail);all_goals
     refine bodyPost_ret (v:=.tuple #[.agg #[.slice bao F.c.K bcap,.slice lao F.c.L lcap],.agg #[.slice oa F.T oc],.agg #[.int .i64 0,.int .i64 0]]) (results_row3 Tryz.results20 _ _ RN RT RF 25 29 32 #[.slice bao F.c.K bcap,.slice lao F.c.L lcap] #[.slice oa F.T oc] #[.int .i64 0,.int .i64 0] (0,0) (0,0) (0,0) _ _ _ rfl rfl rfl ?h1 ?h2 ?h3 Tryz.underlying25 Tryz.underlying29 Tryz.underlying32 rfl rfl rfl ?i1 ?i2 ?i3) rfl ?post
     case h1=>repeat(first | (with_reducible refine drew_keep ?_) | (with_reducible exact(HH.out _ HXR.out).1) | (with_reducible exact(HH.out _ (below_drewN HXR.out _)).1) | (with_reducible exact(HH.out _ (Below.drew HXR.out)).1) | (with_reducible refine set2_same (a0:=Value.slice none 0 0) (a1:=Value.slice none 0 0) ?_) | (with_reducible refine set_keep ?_ ne1) | (with_reducible refine set_keep ?_ ne2))
     case h2=>repeat(first | (with_reducible refine drew_keep ?_) | (with_reducible exact(HH.out _ HXR.out).2.1) | (with_reducible exact(HH.out _ (below_drewN HXR.out _)).2.1) | (with_reducible exact(HH.out _ (Below.drew HXR.out)).2.1) | (with_reducible refine set1_same (a0:=Value.slice none 0 0) ?_) | (with_reducible refine set_keep ?_ ne1.symm) | (with_reducible refine set_keep ?_ ne3))
     case h3=>repeat(first | (with_reducible refine drew_keep ?_) | (with_reducible exact(HH.out _ HXR.out).2.2.1) | (with_reducible exact(HH.out _ (below_drewN HXR.out _)).2.2.1) | (with_reducible exact(HH.out _ (Below.drew HXR.out)).2.2.1) | (with_reducible refine set2_same (a0:=Value.int .i64 0) (a1:=Value.int .i64 0) ?_) | (with_reducible refine set_keep ?_ ne2.symm) | (with_reducible refine set_keep ?_ ne3.symm))
     case i1=>rw[sizeNt];try rfl
     case i2=>rw[sizeTk];try rfl
     case i3=>rw[sizeFt];try rfl
     case post =>
      refine HFIN.out _ ?_ ?_ ?_
      ·repeat(first | (with_reducible refine out_drew ?_) | (with_reducible refine out_set ?_ lo1) | (with_reducible refine out_set ?_ lo2) | (with_reducible refine out_set ?_ lo3) | (exact(fun _ _=>rfl)))
      ·simp
      ·repeat(first | (with_reducible refine Below.drew ?_) | (with_reducible exact(HH.out _ HXR.out).2.2.2) | (with_reducible exact(HH.out _ (below_drewN HXR.out _)).2.2.2) | (with_reducible exact(HH.out _ (Below.drew HXR.out)).2.2.2) | (with_reducible refine Below.setCell ?_ le1 _) | (with_reducible refine Below.setCell ?_ le2 _) | (with_reducible refine Below.setCell ?_ le3 _))
 ·have HE:Hid ((onErr n t ds dn).1=(wrT n t dn).1∧(onErr n t ds dn).2=(wrT n t dn).2):=by
   have:onErr n t ds dn=wrT n t dn:=if_pos q;exact⟨by rw[this],by rw[this]⟩
  have q1':((wrT n t dn).1 != 0)=true:=(by simpa using q)
  have HV1B:Hid (Bl X V1):=hV1;have HNE:Hid ((wrT n t dn).1≠0):=q;have d1:RN≠w1.heap.size:=(by have:=H1.out.size;omega)
  have d2:RT≠w1.heap.size:=(by have:=H1.out.size;omega)
  have d3:RF≠w1.heap.size:=(by have:=H1.out.size;omega)
  have d4:=d1.symm;have d5:=d2.symm;have d6:=d3.symm;clear p0 p1 p2 hV1 HNS HDS HWF HC;generalize (wrT n t dn).1=E1 at *;generalize (wrT n t dn).2=E2 at *;(go_wp2_with fail);rw[←HV1.out];go_region
  (all_goals go_wp2_with fail);all_goals
   refine bodyPost_ret (v:=.tuple #[.agg #[.slice none 0 0,.slice none 0 0],.agg #[.slice none 0 0],.agg #[.int .i64 E1,.int .i64 E2]]) (results_row3 Tryz.results20 _ _ RN RT RF 25 29 32 #[.slice none 0 0,.slice none 0 0] #[.slice none 0 0] #[.int .i64 E1,.int .i64 E2] (0,0) (0,0) (0,0) _ _ _ rfl rfl rfl ?h1 ?h2 ?h3 Tryz.underlying25 Tryz.underlying29 Tryz.underlying32 rfl rfl rfl ?i1 ?i2 ?i3) rfl ?post
   case h1=>repeat(first | (with_reducible refine drew_keep ?_) | (with_reducible exact(HH.out _ HV1B.out).1) | (with_reducible exact(HH.out _ (below_drewN HV1B.out _)).1) | (with_reducible exact(HH.out _ (Below.drew HV1B.out)).1) | (with_reducible refine set2_same (a0:=Value.slice none 0 0) (a1:=Value.slice none 0 0) ?_) | (with_reducible refine set_keep ?_ ne1) | (with_reducible refine set_keep ?_ ne2))
   case h2=>repeat(first | (with_reducible refine drew_keep ?_) | (with_reducible exact(HH.out _ HV1B.out).2.1) | (with_reducible exact(HH.out _ (below_drewN HV1B.out _)).2.1) | (with_reducible exact(HH.out _ (Below.drew HV1B.out)).2.1) | (with_reducible refine set1_same (a0:=Value.slice none 0 0) ?_) | (with_reducible refine set_keep ?_ ne1.symm) | (with_reducible refine set_keep ?_ ne3))
   case h3=>repeat(first | (with_reducible refine drew_keep ?_) | (with_reducible exact(HH.out _ HV1B.out).2.2.1) | (with_reducible exact(HH.out _ (below_drewN HV1B.out _)).2.2.1) | (with_reducible exact(HH.out _ (Below.drew HV1B.out)).2.2.1) | (with_reducible refine set2_same (a0:=Value.int .i64 0) (a1:=Value.int .i64 0) ?_) | (with_reducible refine set_keep ?_ ne2.symm) | (with_reducible refine set_keep ?_ ne3.symm))
   case i1=>rw[sizeNt];try rfl
   case i2=>rw[sizeTk];try rfl
   case i3=>rw[sizeFt];try rfl
   case post =>
    refine⟨?_,Or.inl ⟨by rw[HE.out.1];exact HNE.out,by rw[HE.out.1,HE.out.2]⟩⟩;repeat(first | (with_reducible refine Below.drew ?_) | (with_reducible exact(HH.out _ HV1B.out).2.2.2) | (with_reducible exact(HH.out _ (below_drewN HV1B.out _)).2.2.2) | (with_reducible exact(HH.out _ (Below.drew HV1B.out)).2.2.2) | (with_reducible refine Below.setCell ?_ le1 _) | (with_reducible refine Below.setCell ?_ le2 _) | (with_reducible refine Below.setCell ?_ le3 _))
end
end Go.Proofs.YtaneiffnhphkhaaGreatDoor
