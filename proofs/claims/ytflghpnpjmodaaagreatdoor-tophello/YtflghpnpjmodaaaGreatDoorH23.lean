/- Two and three results in boxes; boxes that are written -/
import Derived.Test.YtflghpnpjmodaaaGreatDoorH21
import Derived.Test.YtflghpnpjmodaaaGreatDoorH22
import Derived.Test.YtflghpnpjmodaaaGreatDoorH05
import Derived.Test.YtflghpnpjmodaaaGreatDoorH01
set_option maxRecDepth 100000
set_option maxHeartbeats 40000000
namespace Go.Proofs.YtflghpnpjmodaaaGreatDoor
section
open Go.RowKit
open Vc (V Of)
open Pl (En Lk Br Net)
open Tk (Md Mnd Cn Sc Dn ixM ilist lst3 ilm)
def msT (t:List Tr) (k i:Nat):Mnd:=⟨(mat (tat t k).l i).md,(mat (tat t k).l i).roles,(mat (tat t k).l i).calm⟩
def vtT (t:List Tr) (k:Nat):Value:=.slice (tat t k).ao (tat t k).l.length (tat t k).cap
def ivM (m:Mi) (j:Nat):Value:=if j=0 then .slice m.po m.ports.length m.pc else if j=1 then .slice m.ro m.roles.length m.rc else .slice m.co m.calm.length m.cc
def ivT (t:List Tr) (a:Nat):Value:=ivM (mat (tat t ((a-12)/36)).l ((a-12)%36/3)) ((a-12)%3)
theorem ivT_ix (t:List Tr) {k i j:Nat}(hi:i<12) (hj:j<3):ivT t (ixM k i j)=ivM (mat (tat t k).l i) j:=by
 obtain⟨_,a2,a3,a4⟩:=Tk.ix_parts (k:=k) hi hj;unfold ivT;rw[a2,a3,a4]
def CalmT (t:List Tr):Prop:=∀k,k<t.length→∀i,i<(tat t k).l.length→∀j,0≤(mat (tat t k).l i).calm.getD j 0∧(0<(mat (tat t k).l i).calm.getD j 0→(mat (tat t k).l i).roles.getD j 0=1∨(mat (tat t k).l i).roles.getD j 0=2)
theorem fit_iff {n:Net}{t:List Tr}:fitT n t=true↔(1≤t.length∧t.length≤4)∧∀k,k<t.length→(tat t k).l.length=n.K∧∀i,i<n.K→((mat (tat t k).l i).ports=n.pts i∧(mat (tat t k).l i).roles.length=(n.pts i).length∧(mat (tat t k).l i).calm.length=(n.pts i).length):=by
 unfold fitT;rw[Bool.and_eq_true,decide_eq_true_eq,decide_eq_true_eq];have e:∀(m:Mi) i,m.has (ptsN n i)=true↔(m.ports=n.pts i∧m.roles.length=(n.pts i).length∧m.calm.length=(n.pts i).length):=fun m i=>by
  unfold Mi.has hasP;rw[Bool.and_eq_true,Bool.and_eq_true,decide_eq_true_eq,decide_eq_true_eq,decide_eq_true_eq];exact Iff.rfl
 constructor
 ·rintro⟨h1,h2⟩;exact⟨⟨by omega,by omega⟩,fun k hk=>⟨(h2 k hk).1,fun i hi=>(e _ _).1 ((h2 k hk).2 i hi)⟩⟩
 ·rintro⟨h1,h2⟩;exact⟨⟨by omega,by omega⟩,fun k hk=>⟨(h2 k hk).1,fun i hi=>(e _ _).2 ((h2 k hk).2 i hi)⟩⟩
theorem fit_at {n:Net}{t:List Tr}{ms:Nat→Nat→Mnd}{w:World}{oao:Option Addr}{ocap:Nat}(h:TrRow w oao ocap t) (hf:fitT n t=true) (hK:n.K≤12) (hm:∀k,k<t.length→∀i,i<n.K→ms k i=msT t k i):TkAt w n.K t.length n.pts ms oao ocap (vtT t) (ivT t):=by
 obtain⟨_,h2⟩:=fit_iff.1 hf;refine⟨h.row,fun k hk => ?_,fun k i j hk hi hj => ?_⟩
 ·have hl:=(h2 k hk).1;refine⟨(tat t k).ao,(tat t k).cap,by unfold vtT;rw[hl],?_⟩;have:=(h.each k hk).row;rw[hl] at this;refine this.congr (fun i hi => ?_);rw[ivT_ix t (by omega) (by omega),ivT_ix t (by omega) (by omega),ivT_ix t (by omega) (by omega),hm k hk i hi];rfl
 ·have hms:=hm k hk i hi;have hm:=(h.each k hk).each i (by rw[(h2 k hk).1];exact hi);obtain⟨e1,_,_⟩:=(h2 k hk).2 i hi;rw[ivT_ix t (by omega) hj];rcases(by omega:j=0∨j=1∨j=2) with q | q | q<;>subst q
  ·refine⟨(mat (tat t k).l i).po,(mat (tat t k).l i).pc,?_,?_⟩
   ·show Value.slice _ (mat (tat t k).l i).ports.length _=Value.slice _ (n.pts i).length _;rw[e1]
   ·have:=hm.ports;rw[e1] at this;exact this
  ·have el:lst3 n.pts ms k i 1=(mat (tat t k).l i).roles:=by
    show(ms k i).roles=_;rw[hms];rfl
   rw[el];exact⟨(mat (tat t k).l i).ro,(mat (tat t k).l i).rc,rfl,hm.roles⟩
  ·have el:lst3 n.pts ms k i 2=(mat (tat t k).l i).calm:=by
    show(ms k i).calm=_;rw[hms];rfl
   rw[el];exact⟨(mat (tat t k).l i).co,(mat (tat t k).l i).cc,rfl,hm.calm⟩
theorem prio_mod {n:Net}(h:n.wrong.1=0) {i:Nat}(hi:i<n.K):∀j,j<(n.bs i).pn→(n.bs i).pv j%4096=0:=fun j hj=>by
 have h0:=bErr_zero (((wrong_iff n).1 h).2.1 i hi);unfold Pl.brErr at h0;split at h0
 ·omega
 ·split at h0
  ·omega
  ·split at h0
   ·omega
   ·rename_i q1 q2 q3;have:=Pl.someTo_false (by simpa using q3) j hj;unfold Pl.oddP at this;simp only[Bool.or_eq_false_iff,decide_eq_false_iff_not,Decidable.not_not] at this;exact this.2
theorem reg_zero {n:Net}(h:n.wrong.1=0) {i:Nat}(hi:i<n.K):Rg.wrong (n.bs i).reg.s (n.bs i).reg.rev (n.bs i).reg.vs (n.bs i).reg.ts (n.bs i).reg.n=0:=by
 have h0:=bErr_zero (((wrong_iff n).1 h).2.1 i hi);unfold Pl.brErr at h0;split at h0
 ·omega
 ·split at h0
  ·omega
  ·split at h0
   ·omega
   ·exact h0
theorem net_fine {n:Net}(hw:n.Wf) (h:n.wrong.1=0) (ms:Nat→Nat→Mnd):Tk.Fine n.cn (n.sc ms):=by
 have R:=right_of hw h;refine⟨R.few,R.fewL,R.links,fun i hi=>(R.fine i hi).addr,R.apart,fun i hi=>⟨?_,fun p hp => ?_⟩⟩
 ·show(lsF (n.bs i).pv (n.bs i).pn).length≤16;rw[lsF_len];exact(R.fine i hi).few
 ·obtain⟨j,hj,rfl⟩:=lsF_mem hp;exact⟨((R.fine i hi).prio j hj).1,((R.fine i hi).prio j hj).2,prio_mod h hi j hj⟩
theorem fit_ok {n:Net}{t:List Tr}{ms:Nat→Nat→Mnd}(hw:n.Wf) (h:n.wrong.1=0) (hf:fitT n t=true) (hc:CalmT t) (hm:∀k,k<t.length→∀i,i<n.K→ms k i=msT t k i):Tk.Ok n.cn (n.sc ms) t.length:=by
 obtain⟨_,h2⟩:=fit_iff.1 hf;refine⟨net_fine hw h _,fun k hk i hi => ?_,fun k hk i hi j => ?_⟩
 ·have hi:i<n.K:=hi;obtain⟨_,e2,e3⟩:=(h2 k hk).2 i hi;rw[Pl.Net.sc_E];have e:(n.pts i).length=(n.ends i).length:=(by unfold Pl.Net.pts;simp)
  show(ms k i).roles.length=_∧(ms k i).calm.length=_;rw[hm k hk i hi];exact⟨e2.trans e,e3.trans e⟩
 ·have hi:i<n.K:=hi;show 0≤(ms k i).calm.getD j 0∧(0<(ms k i).calm.getD j 0→(ms k i).roles.getD j 0=1∨(ms k i).roles.getD j 0=2)
  rw[hm k hk i hi];exact hc k hk i (by rw[(h2 k hk).1];exact hi) j
structure SnOut (w:World) (n:Net) (T:Nat) (s:Sc) (n':Net) (oao:Option Addr) (ocap:Nat) (t':List Tr):Prop where
 net:n'.at' w
 wf:n'.Wf
 right:n'.wrong.1=0
 cn:n'.cn=n.cn
 sc:n'.sc s.ms=s
 row:TrRow w oao ocap t'
 len:t'.length=T
 each:∀k,k<T→(tat t' k).l.length=n.K∧∀i,i<n.K→msT t' k i=s.ms k i∧(mat (tat t' k).l i).ports=n.pts i
 ok:Tk.Ok n.cn s T
 regs:∀i,(n'.bs i).reg.s=(n.bs i).reg.s∧(n'.bs i).reg.rev=(n.bs i).reg.rev∧(n'.bs i).reg.n=(n.bs i).reg.n∧(n'.bs i).reg.vs=(n.bs i).reg.vs∧(n'.bs i).reg.ts=(n.bs i).reg.ts
theorem SnOut.below {w w':World}{n:Net}{T:Nat}{s:Sc}{n':Net}{oao:Option Addr}{ocap:Nat}{t':List Tr}(h:SnOut w n T s n' oao ocap t') (hb:Bl w w'):SnOut w' n T s n' oao ocap t' :=
 ⟨h.net.below hb,h.wf,h.right,h.cn,h.sc,h.row.below hb,h.len,h.each,h.ok,h.regs⟩
theorem u64_wf {x:Int}(h:0≤x∧x≤18446744073709551615):(Lit.int .u64 x).wf=true:=by
 have h1:IntKind.u64.min=0:=(by decide)
 have h2:IntKind.u64.max=18446744073709551615:=(by decide)
 simp only[Lit.wf,Bool.and_eq_true,decide_eq_true_eq];rw[h1,h2];exact h
theorem i64_wf {x:Int}(h : -9223372036854775808≤x∧x≤9223372036854775807):(Lit.int .i64 x).wf=true:=by
 have h1:IntKind.i64.min = -9223372036854775808:=(by decide)
 have h2:IntKind.i64.max=9223372036854775807:=(by decide)
 simp only[Lit.wf,Bool.and_eq_true,decide_eq_true_eq];rw[h1,h2];exact h
theorem lErr_of {K L:Nat}{ls:Nat→Lk}(R:Pl.RightL K L ls) {i:Nat}(hi:i<L):Pl.lErr K ls i=0:=by
 obtain⟨a1,a2,a3,a4,a5,a6⟩:=R.ok i hi;have h0:Pl.lkErr K (ls i)=0:=by
  unfold Pl.lkErr;rw[if_neg (by omega),if_neg a3,if_neg (by omega)]
 unfold Pl.lErr;rw[if_neg (fun q=>q h0),if_neg];rw[Bool.not_eq_true];cases hq:Vc.someTo (fun j=>Pl.isEnd (ls j) (ls i).a (ls i).pa||Pl.isEnd (ls j) (ls i).b (ls i).pb) i with
 | false=>rfl
 | true =>
  obtain⟨j,hj,hb⟩:=Pl.someTo_iff.1 hq;obtain⟨b1,b2⟩:=R.one j i hj hi;rw[b1,b2] at hb;cases hb
theorem owns_few {w:World}{base e k n:Nat}{v:Value}{xs:List Value}(h:w.ownsRow base e k v n xs):n≤9223372036854775807:=by
 obtain⟨_,q⟩:=h;rcases q with⟨_,e⟩ | ⟨g,cap,cur,_,_,_,hn,hm,_,_⟩
 ·omega
 ·unfold maxLen at hm;omega
def reNet (n:Net) (s:Sc) (bao:Option Addr) (bcap:Nat) (lao:Option Addr) (lcap:Nat) (f:Nat→Option Addr×Nat×Option Addr×Nat):Net :=
 ⟨bao,n.K,bcap,fun i=>⟨(n.bs i).addr,(f i).1,(s.pr i).length,(f i).2.1,IL (s.pr i),⟨(n.bs i).reg.s,(n.bs i).reg.rev,(f i).2.2.1,(n.bs i).reg.n,(f i).2.2.2,(n.bs i).reg.vs,(n.bs i).reg.ts⟩⟩,lao,n.L,lcap,s.ls⟩
theorem lsF_IL (l:List Int):lsF (IL l) l.length=l:=by
 apply List.ext_getElem
 ·rw[lsF_len]
 ·intro i h1 h2;simp[lsF,IL,h2]
theorem reNet_wrong {n:Net}{s:Sc}{bao:Option Addr}{bcap:Nat}{lao:Option Addr}{lcap:Nat}{f:Nat→Option Addr×Nat×Option Addr×Nat}(hw:n.Wf) (h:n.wrong.1=0) (hf:Tk.Fine n.cn s):(reNet n s bao bcap lao lcap f).wrong.1=0∧(reNet n s bao bcap lao lcap f).Wf:=by
 obtain⟨h1,h2,h3⟩:=(wrong_iff n).1 h;have R:=right_of hw h;refine⟨(wrong_iff _).2 ⟨h1,fun i hi => ?_,fun i hi=>lErr_of hf.links hi⟩,fun i hi=>hw.addr i hi,fun i hi => ?_⟩
 ·have hi:i<n.K:=hi;have h0:=h2 i hi;have hb:Pl.brErr ((reNet n s bao bcap lao lcap f).bs i)=0:=by
   have hz:=reg_zero h hi;obtain⟨p1,p2⟩:=hf.prios i hi;have:=(R.fine i hi).addr;unfold Pl.brErr reNet;simp only;rw[if_neg (by omega),if_neg (by omega),if_neg]
   ·exact hz
   ·rw[Bool.not_eq_true];cases hq:Vc.someTo (fun j=>Pl.oddP (IL (s.pr i) j)) (s.pr i).length with
    | false=>rfl
    | true =>
     obtain⟨j,hj,hb⟩:=Pl.someTo_iff.1 hq;have hm:=p2 (IL (s.pr i) j) (by unfold IL;rw[List.getD_eq_getElem?_getD,List.getElem?_eq_getElem hj];exact List.getElem_mem hj);unfold Pl.oddP at hb;rw[decide_eq_true ⟨hm.1,hm.2.1⟩,decide_eq_false (by rw[Decidable.not_not];exact hm.2.2)] at hb;cases hb
  unfold Pl.bErr at h0 ⊢;rw[if_neg (fun q=>q hb)];rw[if_neg (fun q=>q (bErr_zero (h2 i hi)))] at h0;exact h0
 ·obtain⟨a1,a2,_,a4,a5,_⟩:=hf.links.ok i hi;have hK:n.cn.K≤12:=R.few;show(Lit.int .i64 (s.ls i).a).wf=true∧(Lit.int .i64 (s.ls i).pa).wf=true∧(Lit.int .i64 (s.ls i).b).wf=true∧(Lit.int .i64 (s.ls i).pb).wf=true;exact⟨i64_wf (by omega),i64_wf (by omega),i64_wf (by omega),i64_wf (by omega)⟩
theorem range_getD {α:Type}(g:Nat→α) (d:α) {n i:Nat}(h:i<n):((List.range n).map g).getD i d=g i:=by
 rw[List.getD_eq_getElem?_getD,List.getElem?_map,List.getElem?_range h];rfl
theorem fam_bridge {w:World}{F:Tf}{s:Sc}{M:Tm}(hK:F.c.K≤12) (hints:Fam w F.base 3 1 156 M.iv (fun a=>(F.il s a).length) (fun a i _=>.int .i64 (IL (F.il s a) i)))
  (hways:Fam w F.base 92 2 12 M.we (fun i=>if i<F.c.K then(F.rg i).n else 0) (fun i j=>wyC ((F.rg i).vs j) ((F.rg i).ts j))) {i:Nat}(hi:i<F.c.K) :
  ∃pao pcap wao wcap,M.iv i=.slice pao (s.pr i).length pcap∧IRow w pao (s.pr i).length pcap (IL (s.pr i))∧M.we i=.slice wao (F.rg i).n wcap∧WayRow w wao (F.rg i).n wcap (F.rg i).vs (F.rg i).ts:=by
 have h1:=hints.own i (by omega);have e1:F.il s i=s.pr i:=Tk.ilist_prio hK F.pts s hi;rw[e1] at h1;obtain⟨pao,pcap,ep,hp,_,_⟩:=owns_c (by omega) h1;have h2:=hways.own i (by omega);rw[if_pos hi] at h2;obtain⟨wao,wcap,ew,hw,_,_⟩:=owns_c (by omega) h2;refine⟨pao,pcap,wao,wcap,ep,hp,ew,⟨hw.1,fun hpz => ?_⟩⟩;obtain⟨b,off,e,hb,hc⟩:=hw.2 hpz;exact⟨b,off,e,hb,fun j hj=>⟨hc j hj 0 (by omega),hc j hj 1 (by omega)⟩⟩
theorem owns_cs {w:World}{base e k m n cap:Nat}{ao:Option Addr}{c:Nat→Nat→Value}(hk:0<k) (h:w.ownsRow base e k (.slice ao m cap) n (cellsL n k c)):m=n∧CRow w ao n cap k c:=by
 obtain⟨ao',cap',e1,h1,_⟩:=owns_c hk h;injection e1 with e2 e3 e4;subst e2 e4;exact⟨e3,h1⟩
theorem scene_out {w0:World}{S:Nat}{F:Tf}{s:Sc}{M:Tm}{G:Nat}{ve:Nat→Value}{n:Net}{T:Nat}(h:ScOk w0 S F s M G ve) (hw:n.Wf) (h0:n.wrong.1=0) (hF:F.c=n.cn∧F.T=T∧F.pts=n.pts∧F.rg=fun i=>(n.bs i).reg) :
  ∃(n':Net) (oao:Option Addr) (ocap:Nat) (t':List Tr),(M.vb=.slice n'.bao n'.K n'.bcap∧M.vl=.slice n'.lao n'.L n'.lcap∧M.vo=.slice oao t'.length ocap)∧∀w,(∀q,F.base≤q→q<w0.heap.size→w.heap[q]?=w0.heap[q]?)→SnOut w n T s n' oao ocap t':=by
 obtain⟨c1,c2,c3,c4⟩:=hF;have hK:F.c.K=n.K:=(by rw[c1];rfl)
 have hL:F.c.L=n.L:=(by rw[c1];rfl)
 have R:=right_of hw h0;have hfine:Tk.Fine n.cn s:=(by rw[←c1];exact h.ok.fine)
 have hA:=h.at';obtain⟨bao,bcap,eb,_,_,_⟩:=owns_c (by omega) hA.brs;obtain⟨lao,lcap,el,_,_,_⟩:=owns_c (by omega) hA.lks;obtain⟨oao,ocap,eo,_,_,_⟩:=owns_c (by omega) hA.out;obtain⟨f,hf⟩:=Classical.axiomOfChoice (r:=fun(i:Nat) (p:Option Addr×Nat×Option Addr×Nat)=>i<n.K→M.iv i=.slice p.1 (s.pr i).length p.2.1∧M.we i=.slice p.2.2.1 (F.rg i).n p.2.2.2) (fun i=>by
  by_cases q:i<n.K
  ·obtain⟨a,b,c,d,e1,_,e3,_⟩:=fam_bridge hA.few hA.ints hA.ways (i:=i) (by rw[hK];exact q);exact⟨(a,b,c,d),fun _=>⟨e1,e3⟩⟩
  ·exact⟨(none,0,none,0),fun z=>absurd z q⟩)
 obtain⟨g,hg⟩:=Classical.axiomOfChoice (r:=fun(k:Nat) (p:Option Addr×Nat)=>k<T→M.vt k=.slice p.1 n.K p.2) (fun k=>by
  by_cases q:k<T
  ·obtain⟨a,b,e1,_,_,_⟩:=owns_c (by omega) (hA.mds.own k (by rw[c2];exact q));rw[hK] at e1;exact⟨(a,b),fun _=>e1⟩
  ·exact⟨(none,0),fun z=>absurd z q⟩)
 obtain⟨v,hv⟩:=Classical.axiomOfChoice (r:=fun(a:Nat) (p:Option Addr×Nat)=>a<156→M.iv a=.slice p.1 (F.il s a).length p.2) (fun a=>by
  by_cases q:a<156
  ·obtain⟨x,b,e1,_,_,_⟩:=owns_c (by omega) (hA.ints.own a q);exact⟨(x,b),fun _=>e1⟩
  ·exact⟨(none,0),fun z=>absurd z q⟩)
 obtain⟨mi,hmi⟩:∃mi:Nat→Nat→Mi,mi=fun k i=>⟨(s.ms k i).md,(v (ixM k i 0)).1,(v (ixM k i 0)).2,n.pts i,(v (ixM k i 1)).1,(v (ixM k i 1)).2,(s.ms k i).roles,(v (ixM k i 2)).1,(v (ixM k i 2)).2,(s.ms k i).calm⟩:=⟨_,rfl⟩
 obtain⟨t',ht'⟩:∃t':List Tr,t'=(List.range T).map (fun k=>⟨(g k).1,(g k).2,(List.range n.K).map (mi k)⟩):=⟨_,rfl⟩
 have tlen:t'.length=T:=(by rw[ht'];simp)
 have tk:∀k,k<T→tat t' k=⟨(g k).1,(g k).2,(List.range n.K).map (mi k)⟩:=fun k hk=>by unfold tat;rw[ht'];exact range_getD _ _ hk
 have ti:∀k i,k<T→i<n.K→mat (tat t' k).l i=mi k i:=fun k i hk hi=>by rw[tk k hk];exact range_getD _ _ hi
 have tl:∀k,k<T→(tat t' k).l.length=n.K:=fun k hk=>by rw[tk k hk];simp
 have hT4:T≤4:=(by rw[←c2];exact hA.fewT)
 have il3:∀k i,k<T→i<n.K→F.il s (ixM k i 0)=n.pts i∧F.il s (ixM k i 1)=(s.ms k i).roles∧F.il s (ixM k i 2)=(s.ms k i).calm:=fun k i hk hi=>by
  have:=Tk.ilist_m (T:=F.T) hA.few F.pts s (k:=k) (i:=i) (by rw[c2];exact hk) (by rw[hK];exact hi);unfold Tf.il;rw[←c3];exact this
 have few:=R.few;have lt:∀k i j,k<T→i<n.K→j<3→ixM k i j<156:=fun k i j hk hi hj=>Tk.ix_lt (by omega) (by omega) hj;refine⟨reNet n s bao bcap lao lcap f,oao,ocap,t',⟨by rw[eb,hK];rfl,by rw[el,hL];rfl,by rw[eo,c2,tlen]⟩,fun w hkp => ?_⟩;have hints:=hA.ints.keep (W':=w) (fun a ha q hq=>hkp q (oCb (hA.ints.own a ha) q hq).1 (oCb (hA.ints.own a ha) q hq).2);have hways:=hA.ways.keep (W':=w) (fun a ha q hq=>hkp q (oCb (hA.ways.own a ha) q hq).1 (oCb (hA.ways.own a ha) q hq).2);have hmds:=hA.mds.keep (W':=w) (fun a ha q hq=>hkp q (oCb (hA.mds.own a ha) q hq).1 (oCb (hA.mds.own a ha) q hq).2);have hbrs:=owns_keep (w':=w) hA.brs (fun q hq=>hkp q (oCb hA.brs q hq).1 (oCb hA.brs q hq).2);have hlks:=owns_keep (w':=w) hA.lks (fun q hq=>hkp q (oCb hA.lks q hq).1 (oCb hA.lks q hq).2);have hout:=owns_keep (w':=w) hA.out (fun q hq=>hkp q (oCb hA.out q hq).1 (oCb hA.out q hq).2);rw[eb] at hbrs;rw[el] at hlks;rw[eo] at hout;have hb:=(owns_cs (by omega) hbrs).2;have hl:=(owns_cs (by omega) hlks).2;have ho:=(owns_cs (by omega) hout).2;have hin:∀k i,k<T→i<n.K→MiIn w (mi k i)∧M.iv (ixM k i 0)=.slice (mi k i).po (mi k i).ports.length (mi k i).pc∧M.iv (ixM k i 1)=.slice (mi k i).ro (mi k i).roles.length (mi k i).rc∧M.iv (ixM k i 2)=.slice (mi k i).co (mi k i).calm.length (mi k i).cc:=fun k i hk hi=>by
  obtain⟨i0,i1,i2⟩:=il3 k i hk hi;have f3:∀a,a<156→ILs w (v a).1 (v a).2 (F.il s a)∧(F.il s a).length≤9223372036854775807:=fun a ha=>by
   have:=hints.own a ha;rw[hv a ha] at this;exact⟨(owns_cs (by omega) this).2,owns_few this⟩
  have x1:=hv _ (lt k i 0 hk hi (by omega));have y1:=hv _ (lt k i 1 hk hi (by omega));have z1:=hv _ (lt k i 2 hk hi (by omega));obtain⟨x2,x3⟩:=f3 _ (lt k i 0 hk hi (by omega));obtain⟨y2,y3⟩:=f3 _ (lt k i 1 hk hi (by omega));obtain⟨z2,z3⟩:=f3 _ (lt k i 2 hk hi (by omega));rw[i0] at x1 x2 x3;rw[i1] at y1 y2 y3;rw[i2] at z1 z2 z3;rw[hmi];exact⟨⟨x2,y2,z2,x3,y3,z3⟩,x1,y1,z1⟩
 refine⟨⟨?_,fun i hi => ?_,?_,?_,?_⟩,(reNet_wrong hw h0 hfine).2,(reNet_wrong hw h0 hfine).1,rfl,?_,⟨?_,fun k hk=>⟨?_,fun i hi => ?_,?_⟩,?_⟩,tlen,fun k hk=>⟨tl k hk,fun i hi => ?_⟩,by rw[←c1,←c2];exact h.ok,fun i=>⟨rfl,rfl,rfl,rfl,rfl⟩⟩
 ·rw[hK] at hb;refine hb.congr (fun i hi => ?_);obtain⟨e1,e3⟩:=hf i hi;funext x
  show brX (F.c.addr i) (M.iv i) (F.rg i).s (F.rg i).rev (M.we i) x=brC _ x;rw[e1,e3,c1,c4];rfl
 ·obtain⟨e1,e3⟩:=hf i hi;obtain⟨a,b,c,d,g1,g2,g3,g4⟩:=fam_bridge hA.few hints hways (i:=i) (by rw[hK];exact hi);rw[e1] at g1;rw[e3] at g3;injection g1 with g5 _ g6;injection g3 with g7 _ g8;subst g5 g6 g7 g8;rw[c4] at g4;have hp:=hfine.prios i hi;exact⟨g2,g4,by show(s.pr i).length≤_;have:=hp.1;omega,by show(n.bs i).reg.n≤_;have:=vids_few (R.fine i hi).reg.2.2;omega⟩
 ·rw[hL] at hl;exact hl
 ·show n.K≤_;omega
 ·show n.L≤_;have:=R.fewL;omega
 ·show(⟨fun i=>lsF (IL (s.pr i)) (s.pr i).length,s.ls,s.ms⟩:Sc)=s;have:(fun i=>lsF (IL (s.pr i)) (s.pr i).length)=s.pr:=funext (fun i=>lsF_IL _);rw[this]
 ·rw[tlen];rw[c2] at ho;refine ho.congr (fun k hk => ?_);funext _
  rw[hg k hk,tk k hk];show Value.slice _ n.K _=Value.slice _ ((List.range n.K).map (mi k)).length _;simp
 ·rw[tlen] at hk;rw[tl k hk];have e:(tat t' k).ao=(g k).1∧(tat t' k).cap=(g k).2:=(by rw[tk k hk];exact⟨rfl,rfl⟩)
  rw[e.1,e.2];have hm:=hmds.own k (by rw[c2];exact hk);rw[hg k hk] at hm;have hm2:=(owns_cs (by omega) hm).2;rw[hK] at hm2;refine hm2.congr (fun i hi => ?_);rw[ti k i hk hi];obtain⟨_,x1,x2,x3⟩:=hin k i hk hi;unfold Tm.mc;rw[x1,x2,x3,hmi]
 ·rw[tlen] at hk;rw[tl k hk] at hi;rw[ti k i hk hi];exact(hin k i hk hi).1
 ·rw[tlen] at hk;rw[tl k hk];omega
 ·rw[tlen];omega
 ·have:=ti k i hk hi;unfold msT;rw[this,hmi];exact⟨rfl,rfl⟩
def Kept (w:World) (b:Nat) (P:World→Prop):Prop:=∀V,(∀q,b≤q→q<w.heap.size→V.heap[q]?=w.heap[q]?)→P V
theorem Kept.here {w:World}{b:Nat}{P:World→Prop}(h:Kept w b P):P w:=h w (fun _ _ _=>rfl)
end
section
open Go.RowKit
theorem results_row3 {P:Program}{fn:Func}{p q r:Tmp}{t1 t2 t3:TypeId}(h:fn.results=#[.cell p t1,.cell q t2,.cell r t3]) (tmps:Array Value) (w:World) (g1 g2 g3:Nat) (u1 u2 u3:TypeId) (c1 c2 c3:Array Value) (f1 f2 f3:Nat×Nat) (d1 d2 d3:TypeDesc)
  (hp:tmps.getD p undef=.pointer (some ⟨g1,0,none⟩)) (hq:tmps.getD q undef=.pointer (some ⟨g2,0,none⟩)) (hr:tmps.getD r undef=.pointer (some ⟨g3,0,none⟩))
  (h1:w.heap[g1]?=some (.cells c1 u1 f1)) (h2:w.heap[g2]?=some (.cells c2 u2 f2)) (h3:w.heap[g3]?=some (.cells c3 u3 f3))
  (k1:P.underlying t1=some d1) (k2:P.underlying t2=some d2) (k3:P.underlying t3=some d3)
  (e1:(match d1 with | .struct _ | .array _ _=>true | _=>false)=true) (e2:(match d2 with | .struct _ | .array _ _=>true | _=>false)=true) (e3:(match d3 with | .struct _ | .array _ _=>true | _=>false)=true)
  (i1:(P.info? t1).map (·.size)=some c1.size) (i2:(P.info? t2).map (·.size)=some c2.size) (i3:(P.info? t3).map (·.size)=some c3.size) :
  (results fn tmps).run P w=.ok (.tuple #[.agg c1,.agg c2,.agg c3]) w:=by
 have hp':tmps[p]?.getD undef=.pointer (some ⟨g1,0,none⟩):=(by simpa using hp)
 have hq':tmps[q]?.getD undef=.pointer (some ⟨g2,0,none⟩):=(by simpa using hq)
 have hr':tmps[r]?.getD undef=.pointer (some ⟨g3,0,none⟩):=(by simpa using hr)
 simp[results,h,hp',hq',hr',asAddr,run_loadVar_row w g1 u1 t1 c1 f1 d1 h1 k1 e1 i1,run_loadVar_row w g2 u2 t2 c2 f2 d2 h2 k2 e2 i2,run_loadVar_row w g3 u3 t3 c3 f3 d3 h3 k3 e3 i3]
theorem results_row2 {P:Program}{fn:Func}{p q:Tmp}{t1 t2:TypeId}(h:fn.results=#[.cell p t1,.cell q t2]) (tmps:Array Value) (w:World) (g1 g2:Nat) (u1 u2:TypeId) (c1 c2:Array Value) (f1 f2:Nat×Nat) (d1 d2:TypeDesc)
  (hp:tmps.getD p undef=.pointer (some ⟨g1,0,none⟩)) (hq:tmps.getD q undef=.pointer (some ⟨g2,0,none⟩))
  (h1:w.heap[g1]?=some (.cells c1 u1 f1)) (h2:w.heap[g2]?=some (.cells c2 u2 f2))
  (k1:P.underlying t1=some d1) (k2:P.underlying t2=some d2)
  (e1:(match d1 with | .struct _ | .array _ _=>true | _=>false)=true) (e2:(match d2 with | .struct _ | .array _ _=>true | _=>false)=true)
  (i1:(P.info? t1).map (·.size)=some c1.size) (i2:(P.info? t2).map (·.size)=some c2.size) :
  (results fn tmps).run P w=.ok (.tuple #[.agg c1,.agg c2]) w:=by
 have hp':tmps[p]?.getD undef=.pointer (some ⟨g1,0,none⟩):=(by simpa using hp)
 have hq':tmps[q]?.getD undef=.pointer (some ⟨g2,0,none⟩):=(by simpa using hq)
 simp[results,h,hp',hq',asAddr,run_loadVar_row w g1 u1 t1 c1 f1 d1 h1 k1 e1 i1,run_loadVar_row w g2 u2 t2 c2 f2 d2 h2 k2 e2 i2]
theorem set_keep {w:World}{g j o:Nat}{v:Value}{x:Obj}(h:w.heap[g]?=some x) (hne:g≠j):(w.setCell ⟨j,o,none⟩ v).heap[g]?=some x :=
 (heap_setCell_other _ _ _ _ (by exact hne)).trans h
theorem set_at {w:World}{g i:Nat}{c:Array Value}{ty:TypeId}{v:Value}(h:w.heap[g]?=some (.cells c ty (0,0))):(w.setCell ⟨g,i,none⟩ v).heap[g]?=some (.cells (c.setIfInBounds i v) ty (0,0)) :=
 heap_setCell_same _ _ _ _ _ _ h
theorem set1_same {w:World}{g:Nat}{a0 v0:Value}{ty:TypeId}(h:w.heap[g]?=some (.cells #[a0] ty (0,0))):(w.setCell ⟨g,0,none⟩ v0).heap[g]?=some (.cells #[v0] ty (0,0)):=by
 rw[heap_setCell_same _ _ _ _ _ _ h];rfl
theorem drew_keep {w:World}{g:Nat}{o:Obj}(h:w.heap[g]?=some o):w.drew.heap[g]?=some o:=h
theorem out_set {W V:World}{b g o:Nat}{v:Value}(h:∀q,b≤q→V.heap[q]?=W.heap[q]?) (hg:g<b):∀q,b≤q→(V.setCell ⟨g,o,none⟩ v).heap[q]?=W.heap[q]?:=fun q hq =>
 (heap_setCell_other _ _ _ _ (by show q≠g;omega)).trans (h q hq)
theorem out_drew {W V:World}{b:Nat}(h:∀q,b≤q→V.heap[q]?=W.heap[q]?):∀q,b≤q→V.drew.heap[q]?=W.heap[q]?:=h
end
end Go.Proofs.YtflghpnpjmodaaaGreatDoor
