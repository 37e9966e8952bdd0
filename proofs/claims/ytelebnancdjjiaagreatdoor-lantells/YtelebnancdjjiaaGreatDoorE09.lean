/- HZ -/
import Derived.Test.YtelebnancdjjiaaGreatDoorE08
set_option maxRecDepth 100000
set_option maxHeartbeats 40000000
namespace Go.Proofs.YtelebnancdjjiaaGreatDoor
section
open Go.Proofs.Tryz
open Go.RowKit
section
variable {P:Program}{ops:Array Oper}{Q:Exit->Act->World->Prop}{md:Region.Mode}{z:Nat}{C:World->Prop}
def a1n (P:Program) (md:Region.Mode) (ops:Array Oper) (Q:Exit->Act->World->Prop) (z:Nat) (C:World->Prop):Nat->Array Bool->Act->World->Prop
 | 0,listed,a,w=>Region.ready md ops listed=[]/\Q .normal a w
 | fuel+1,listed,a,w =>
  (Region.ready md ops listed=[]->Q .normal a w) /\
  ∀i∈Region.ready md ops listed,wpOp P ops Q i (λa' w'=>((listed.setIfInBounds i true).getD z true=true\/C w')/\a1n P md ops Q z C fuel (listed.setIfInBounds i true) a' w') a w
theorem a4q:∀(ab:Nat) (aa:Array Bool) (a:Act) (w:World),a1n P md ops Q z C ab aa a w->wpAny P md ops Q ab aa a w
 | 0,_,_,_,h=>h
 | ab+1,_,_,_,h=>⟨h.1,λi hi=>wpOp_mono (λa' w' h'=>a4q ab _ a' w' h'.2) (h.2 i hi)⟩
def zwait (md:Region.Mode) (ops:Array Oper) (i:Nat) (D:List Nat) (j:Nat):Bool :=
 match ops[j]? with
 | some o=>o.after.any (λe=>Region.binds md e&&(e.on == i||D.contains e.on))
 | none=>false
def zdesc (md:Region.Mode) (ops:Array Oper) (i:Nat):Nat->List Nat
 | 0=>[]
 | n+1=>(List.range ops.size).filter (zwait md ops i (zdesc md ops i n))
def zok (md:Region.Mode) (ops:Array Oper) (listed:Array Bool) (z i:Nat):Bool :=
 i != z&&(zdesc md ops i ops.size).contains z&&(zdesc md ops i ops.size).all (λd=>zwait md ops i (zdesc md ops i ops.size) d && !listed.getD d true)
theorem a3O {aa:Array Bool}{i:Nat}(h0:aa.getD i true=false):aa.getD i false=false:=by
 rcases Nat.lt_or_ge i aa.size with h' | h'
 ·simp[h'] at h0 ⊢;exact h0
 ·simp[Array.getElem?_eq_none h'] at h0
theorem a5p {i:Nat}{oi:Oper}{v:Value}(hi:ops[i]?=some oi) (ah:∀(j:Nat) (o:Oper) cs b,ops[j]?=some o->o.op≠.select cs b)
  (hQ:∀c a w,Q (.panic c) (a.put oi.dst v) w->Q (.panic c) a w) {D:List Nat}(aq:i≠z) (am:z∈D) (av:∀d,d∈D->zwait md ops i D d=true) :
  ∀(ab:Nat) (aa:Array Bool) (a:Act) (w:World),
   (∀j oj,ops[j]?=some oj->j≠i->aa.getD j true=false->(∀e∈oj.after,Region.binds md e=true->e.on≠i)->oi.apart ops oj=true) ->
   (∀d,d∈D->aa.getD d true=false)->i∈Region.ready md ops aa->YieldsIf P ops C oi v a->C w ->
   a1n P md ops Q z C ab (aa.setIfInBounds i true) (a.put oi.dst v) w->a1n P md ops Q z C (ab+1) aa a w:=by
 intro ab;induction ab with
 | zero =>
  intro aa a w _ _ hr hy hS H;refine⟨λh=>(by rw[h] at hr;cases hr),λj hj => ?_⟩;by_cases hji:j=i
  ·subst hji;exact hy.wpOp hi hS ⟨Or.inr hS,H⟩
  ·have:=ready_mono hj hji;rw[H.1] at this;cases this
 | succ ab ih =>
  intro aa a w ac ae hr hy hS H;refine⟨λh=>(by rw[h] at hr;cases hr),λj hj => ?_⟩;by_cases hji:j=i
  ·subst hji;exact hy.wpOp hi hS ⟨Or.inr hS,H⟩
  ·have h1:=H.2 j (ready_mono hj hji);obtain⟨ag,oj,ai,af⟩:=mem_ready.1 hj;have h0:=a3O (mem_ready.1 hr).1;have ak:∀e∈oj.after,Region.binds md e=true->e.on≠i:=λe he hb ap=>by
    have h1:=af e he hb;rw[ap,h0] at h1;cases h1
   have al:j ∉ D:=λhm=>by
    have hw:=av j hm;unfold zwait at hw;rw[ai] at hw;simp only[Array.any_eq_true,Bool.and_eq_true,Bool.or_eq_true,beq_iff_eq,List.contains_iff_mem] at hw;obtain⟨x,hx,hb,he⟩:=hw;have h1:=af _ (Array.getElem_mem hx) hb;rcases he with he | he
    ·rw[he,h0] at h1;cases h1
    ·rw[a3O (ae _ he)] at h1;cases h1
   have au:j≠z:=λe=>al (e ▸ am);have h2:=wpOp_putIf ai (ac j oj ai hji ag ak) (λcs b=>ah i oi cs b hi) (λcs b=>ah j oj cs b ai) hQ hy h1;have ad:∀k ok,ops[k]?=some ok->k≠i->(aa.setIfInBounds j true).getD k true=false ->
     (∀e∈ok.after,Region.binds md e=true->e.on≠i)->oi.apart ops ok=true:=λk ok hk ao ae ar=>by
    refine ac k ok hk ao ?_ ar;by_cases hjk:j=k
    ·subst hjk;exact ag
    ·rw[getD_set_ne true hjk] at ae;exact ae
   have aj:∀d,d∈D->(aa.setIfInBounds j true).getD d true=false:=λd hd=>by
    have an:j≠d:=λe=>by subst e;exact al hd
    rw[getD_set_ne true an];exact ae d hd
   refine wpOp_mono (λa' w' h3 => ?_) h2;have hC:C w':=by
    rcases h3.2.1 with h4 | h4
    ·rw[getD_set_ne true au,getD_set_ne true aq,ae z am] at h4;cases h4
    ·exact h4
   refine⟨Or.inr hC,ih (aa.setIfInBounds j true) a' w' ad aj (ready_mono hr (Ne.symm hji)) h3.1 hC ?_⟩;rw[Array.setIfInBounds_comm _ _ hji];exact h3.2.2
theorem a2Z {i:Nat}{oi:Oper}{v:Value}(hi:ops[i]?=some oi) (af:∀(j:Nat) (o:Oper) cs b,ops[j]?=some o->o.op≠.select cs b)
  (hQ:∀c a w,Q (.panic c) (a.put oi.dst v) w->Q (.panic c) a w) (ah:i≠z) :
  ∀(ab:Nat) (aa:Array Bool) (a:Act) (w:World),
   (∀j oj,ops[j]?=some oj->j≠i->aa.getD j true=false->(∀e∈oj.after,Region.binds md e=true->e.on≠i)->oi.apart ops oj=true) ->
   i∈Region.ready md ops aa->YieldsIf P ops (λ_=>True) oi v a->(aa.getD z true=true\/C w) ->
   a1n P md ops Q z C ab (aa.setIfInBounds i true) (a.put oi.dst v) w->a1n P md ops Q z C (ab+1) aa a w:=by
 intro ab;induction ab with
 | zero =>
  intro aa a w _ hr hy hS H;refine⟨λh=>(by rw[h] at hr;cases hr),λj hj => ?_⟩;by_cases hji:j=i
  ·subst hji;exact hy.wpOp hi trivial ⟨by rw[getD_set_ne true ah];exact hS,H⟩
  ·have:=ready_mono hj hji;rw[H.1] at this;cases this
 | succ ab ih =>
  intro aa a w ac hr hy hS H;refine⟨λh=>(by rw[h] at hr;cases hr),λj hj => ?_⟩;by_cases hji:j=i
  ·subst hji;exact hy.wpOp hi trivial ⟨by rw[getD_set_ne true ah];exact hS,H⟩
  ·have h1:=H.2 j (ready_mono hj hji);obtain⟨ae,oj,aj,ag⟩:=mem_ready.1 hj;have h0:=a3O (mem_ready.1 hr).1;have ai:∀e∈oj.after,Region.binds md e=true->e.on≠i:=λe he hb an=>by
    have h1:=ag e he hb;rw[an,h0] at h1;cases h1
   have h2:=wpOp_putIf aj (ac j oj aj hji ae ai) (λcs b=>af i oi cs b hi) (λcs b=>af j oj cs b aj) hQ hy h1;have ad:∀k ok,ops[k]?=some ok->k≠i->(aa.setIfInBounds j true).getD k true=false ->
     (∀e∈ok.after,Region.binds md e=true->e.on≠i)->oi.apart ops ok=true:=λk ok hk am al ao=>by
    refine ac k ok hk am ?_ ao;by_cases hjk:j=k
    ·subst hjk;exact ae
    ·rw[getD_set_ne true hjk] at al;exact al
   refine wpOp_mono (λa' w' h3 => ?_) h2;have ak:(aa.setIfInBounds j true).getD z true=true\/C w':=by
    have h4:=h3.2.1;rw[Array.setIfInBounds_comm _ _ (Ne.symm hji),getD_set_ne true ah] at h4;exact h4
   refine⟨ak,ih (aa.setIfInBounds j true) a' w' ad (ready_mono hr (Ne.symm hji)) h3.1 ak ?_⟩;rw[Array.setIfInBounds_comm _ _ hji];exact h3.2.2
theorem z_load {i:Nat}{oi:Oper}{v:Value}(d:Option Tmp) {ab:Nat}{aa:Array Bool}{a:Act}{w:World}(hi:ops[i]?=some oi) (hd:oi.dst=d)
  (hs:Region.noSelect ops=true) (hf:Region.free md ops aa i=true) (hr:(Region.ready md ops aa).contains i=true) (hk:zok md ops aa z i=true)
  (hQ:∀c a w,Q (.panic c) (a.put d v) w->Q (.panic c) a w) (hw:Region.wanted oi (yielded ops a.tmps)=true) (hy:∀w,C w->(execOp a.eval oi).run P w=.ok (.value v) w) (hS:aa.getD z true=true\/C w)
  (h:a1n P md ops Q z C ab (aa.setIfInBounds i true) (a.put d v) w):a1n P md ops Q z C (ab+1) aa a w:=by
 subst hd;unfold zok at hk;simp only[Bool.and_eq_true,bne_iff_ne,ne_eq,List.contains_iff_mem,List.all_eq_true,Bool.not_eq_true'] at hk;obtain⟨⟨k1,k2⟩,k3⟩:=hk;have hC:C w:=by
  rcases hS with h1 | h1
  ·rw[(k3 z k2).2] at h1;cases h1
  ·exact h1
 exact a5p hi (Region.noSelect_spec hs) hQ k1 k2 (λd hd=>(k3 d hd).1) ab aa a w (Region.free_spec hi hf) (λd hd=>(k3 d hd).2) (by simpa using hr) (Or.inl ⟨hw,hy⟩) hC h
theorem z_take {i:Nat}{oi:Oper}{v:Value}(d:Option Tmp) {ab:Nat}{aa:Array Bool}{a:Act}{w:World}(hi:ops[i]?=some oi) (hd:oi.dst=d)
  (hs:Region.noSelect ops=true) (hf:Region.free md ops aa i=true) (hr:(Region.ready md ops aa).contains i=true) (ac:i≠z)
  (hQ:∀c a w,Q (.panic c) (a.put d v) w->Q (.panic c) a w) (hw:Region.wanted oi (yielded ops a.tmps)=true) (hy:∀w,(execOp a.eval oi).run P w=.ok (.value v) w) (hS:aa.getD z true=true\/C w)
  (h:a1n P md ops Q z C ab (aa.setIfInBounds i true) (a.put d v) w):a1n P md ops Q z C (ab+1) aa a w:=by
 subst hd;exact a2Z hi (Region.noSelect_spec hs) hQ ac ab aa a w (Region.free_spec hi hf) (by simpa using hr) (Or.inl ⟨hw,λw _=>hy w⟩) hS h
theorem zTk (i s:Nat) {oi:Oper}{v:Value}{ab:Nat}{aa:Array Bool}{a:Act}{w:World}(hS:aa.getD z true=true\/C w) (h:a1n P md ops Q z C ab (aa.setIfInBounds i true) (a.put (some s) v) w)
  (hi:ops[i]?=some oi:=by rfl) (hd:oi.dst=some s:=by rfl) (hs:Region.noSelect ops=true:=by kernel_rfl) (hf:Region.free md ops aa i=true:=by kernel_rfl) (hr:(Region.ready md ops aa).contains i=true:=by kernel_rfl) (ac:i≠z:=by decide)
  (hw:Region.wanted oi (yielded ops a.tmps)=true:=by rfl) (hy:∀w,(execOp a.eval oi).run P w=.ok (.value v) w:=by(intro wq;go_simp;try with_reducible rfl)) (hQ:∀c a w,Q (.panic c) (a.put (some s) v) w->Q (.panic c) a w:=by exact λ_ _ _ h=>h):a1n P md ops Q z C (ab+1) aa a w :=
 z_take (some s) hi hd hs hf hr ac hQ hw hy hS h
theorem zLd (i s:Nat) {oi:Oper}{v:Value}{ab:Nat}{aa:Array Bool}{a:Act}{w:World}(hS:aa.getD z true=true\/C w) (h:a1n P md ops Q z C ab (aa.setIfInBounds i true) (a.put (some s) v) w)
  (hi:ops[i]?=some oi:=by rfl) (hd:oi.dst=some s:=by rfl) (hs:Region.noSelect ops=true:=by kernel_rfl) (hf:Region.free md ops aa i=true:=by kernel_rfl) (hr:(Region.ready md ops aa).contains i=true:=by kernel_rfl) (hk:zok md ops aa z i=true:=by kernel_rfl)
  (hw:Region.wanted oi (yielded ops a.tmps)=true:=by rfl) (hy:∀w,C w->(execOp a.eval oi).run P w=.ok (.value v) w:=by(intro wq ac;go_simp;try with_reducible rfl)) (hQ:∀c a w,Q (.panic c) (a.put (some s) v) w->Q (.panic c) a w:=by exact λ_ _ _ h=>h):a1n P md ops Q z C (ab+1) aa a w :=
 z_load (some s) hi hd hs hf hr hk hQ hw hy hS h
theorem a2b {i:Nat}{o:Oper}{ab:Nat}{aa:Array Bool}{a:Act}{w:World}(hr:Region.ready md ops aa=[i]) (ho:ops[i]?=some o)
  (h:∀K':Act->World->Prop,Shut (∀a w,((aa.setIfInBounds i true).getD z true=true\/C w)->(((aa.setIfInBounds i true).getD z true=true\/C w)->a1n P md ops Q z C ab (aa.setIfInBounds i true) a w)->K' a w)->if Region.wanted o (yielded ops a.tmps)=true then Oper.wp P o a w K' Q else K' (a.put o.dst undef) w) :
  a1n P md ops Q z C (ab+1) aa a w:=by
 refine⟨λh0=>(by rw[hr] at h0;cases h0),λj hj => ?_⟩;rw[hr] at hj;obtain rfl:j=i:=by simpa using hj
 exact wpOp_step ho (λK' hK=>h K' (λa w hS hW=>hK a w ⟨hS,hW hS⟩))
theorem a5q {aa:Array Bool}{a:Act}{w:World}(hr:Region.ready md ops aa=[]) (h:Q .normal a w) :
  ∀ab,a1n P md ops Q z C ab aa a w
 | 0=>⟨hr,h⟩
 | _+1=>⟨λ_=>h,by rw[hr];simp⟩
theorem a2p {id:Nat}{a:Act}{w:World}(hm:P.follows .mixedOrders=true) (hC:C w.drew)
  (h:(Array.replicate ops.size false).getD z true=true\/C w.drew->a1n P .any ops Q z C ops.size (Array.replicate ops.size false) a w.drew):(Code.region id ops true).wp P Q a w :=
 wp_region_any hm (a4q _ _ _ _ (h (Or.inr hC)))
end
end
section
open Go.Proofs.Tryz
open Go.RowKit
open Vc (V Of)
open Pl (En Lk Br Net)
open Tk (Md Mnd Cn Sc Dn)
def lsF (f:Nat->Int) (n:Nat):List Int:=(List.range n).map f
theorem a4K (f:Nat->Int) (n:Nat):(lsF f n).length=n:=by simp[lsF]
theorem lsF_get (f:Nat->Int) {n j:Nat}(h:j<n):IL (lsF f n) j=f j:=by
 unfold IL lsF;rw[List.getD_eq_getElem?_getD,List.getElem?_map,List.getElem?_range h];rfl
theorem lsF_mem {f:Nat->Int}{n:Nat}{p:Int}(h:p∈lsF f n):∃j,j<n/\f j=p:=by
 unfold lsF at h;rw[List.mem_map] at h;obtain⟨j,hj,e⟩:=h;exact⟨j,List.mem_range.1 hj,e⟩
namespace Pl
def Net.cn (n:Net):Cn:=⟨n.K,n.L,λi=>(n.bs i).addr,λi j=>decide (a1q 50 (n.bs i).reg.id=a1q 50 (n.bs j).reg.id)⟩
def Net.sc (n:Net) (ms:Nat->Nat->Mnd):Sc:=⟨λi=>lsF (n.bs i).pv (n.bs i).pn,n.ls,ms⟩
def Net.pts (n:Net) (i:Nat):List Int:=(n.ends i).map (λe:En=>e.port)
theorem Net.sc_sm (n:Net) (i j:Nat):n.cn.sm i j=decide (a1q 50 (n.bs i).reg.id=a1q 50 (n.bs j).reg.id):=by
 unfold Net.cn;with_reducible rfl
theorem Net.sc_lv (n:Net) (ms:Nat->Nat->Mnd) (k:Nat):(n.sc ms).lv n.cn k=n.live k:=by
 unfold Tk.Sc.lv Net.live;rw[Net.sc_sm];unfold Net.sc;with_reducible rfl
theorem Net.sc_E (n:Net) (ms:Nat->Nat->Mnd):(n.sc ms).E n.cn=n.ends:=by
 have e:(n.sc ms).lv n.cn=n.live:=funext (n.sc_lv ms);funext i
 unfold Tk.Sc.E Net.ends;rw[e];unfold Net.sc Net.cn;with_reducible rfl
end Pl
theorem net_ids {n:Net}(ms:Nat->Nat->Mnd) (tree:Int) (i:Nat):(n.sc ms).ids n.cn tree i=n.ids tree i:=by
 unfold Tk.Sc.ids Pl.Net.sc Pl.Net.cn Pl.Net.ids Pl.Br.id Pl.Br.prio Tk.prioOf;simp only[a4K];by_cases q:0<=tree/\tree<=((n.bs i).pn:Int)-1
 ·rw[iP q,iP q];have:=lsF_get (n.bs i).pv (show tree.toNat<(n.bs i).pn by omega);unfold IL at this;rw[this]
 ·rw[iN q,iN q]
end
section
open Go.Proofs.Tryz
open Go.RowKit
def ILs (w:World) (ao:OA) (cap:Nat) (l:List Int):Prop:=CRow w ao l.length cap 1 (λi _=>Iv (l.getD i 0))
theorem ILs.below {w w':World}{ao:OA}{cap:Nat}{l:List Int}(h:ILs w ao cap l) (hb:Bl w w'):ILs w' ao cap l:=CRow.below h hb
theorem ILs.cell {w:World}{b off cap:Nat}{l:List Int}(h:ILs w (some (Pv b off)) cap l) {i:Nat}(hi:i<l.length):w.cell? (Pv b (off+i))=some (Iv (l.getD i 0)):=by
 obtain⟨b',aa,e,_,hc⟩:=h.2 om;cases e
 have:=hc i hi 0 om;rw[Nat.mul_one,Nat.add_zero] at this;exact this
theorem ILs.place {w:World}{ao:OA}{cap:Nat}{l:List Int}(h:ILs w ao cap l) (hn:0<l.length):∃b off,ao=.some ⟨b,off,.none⟩/\b<w.heap.size:=by
 obtain⟨b,off,e,hb,_⟩:=h.2 hn;exact⟨b,off,e,hb⟩
def Bk.idx (l:List Int) (n:Int):Nat->Int
 | 0 => -1
 | k+1=>if 0<=Bk.idx l n k then Bk.idx l n k else if n=l.getD k 0 then(k:Int) else -1
theorem Bk.idx_contains (l:List Int) (n:Int):decide (Bk.idx l n l.length>=0)=l.contains n:=by
 have H:∀k,k<=l.length->(0<=Bk.idx l n k↔∃i,i<k/\n=l.getD i 0):=by
  intro k;induction k with
  | zero=>intro _;simp[Bk.idx]
  | succ k ih =>
   intro hk;have ih:=ih om;show(0<=if 0<=Bk.idx l n k then Bk.idx l n k else if n=l.getD k 0 then(k:Int) else -1)↔_;by_cases q:0<=Bk.idx l n k
   ·rw[iP q];obtain⟨i,hi,he⟩:=ih.1 q;exact⟨λ_=>⟨i,om,he⟩,λ_=>q⟩
   ·rw[iN q];by_cases q2:n=l.getD k 0
    ·rw[iP q2];exact⟨λ_=>⟨k,om,q2⟩,λ_=>by omega⟩
    ·rw[iN q2];refine⟨λh=>by omega,?_⟩;rintro⟨i,hi,he⟩;by_cases e:i=k
     ·subst e;exact absurd he q2
     ·exact absurd (ih.2 ⟨i,om,he⟩) q
 have h:=H l.length (b0g _);have h2:(∃i,i<l.length/\n=l.getD i 0)↔n∈l:=by
  constructor
  ·rintro⟨i,hi,he⟩;rw[he];simp[hi]
  ·intro hm;obtain⟨i,hi,he⟩:=List.getElem_of_mem hm;exact⟨i,hi,by simp[hi,he]⟩
 by_cases q:n∈l
 ·rw[b0k (show Bk.idx l n l.length>=0 from h.2 (h2.2 q))];simp[q]
 ·rw[b0j (show ¬Bk.idx l n l.length>=0 from λhh=>q (h2.1 (h.1 hh)))];simp[q]
theorem Bk.idx_stay (l:List Int) (n:Int) (k:Nat) (h:0<=Bk.idx l n k):∀m,k<=m->Bk.idx l n m=Bk.idx l n k:=by
 intro m hm;induction m with
 | zero =>
  obtain rfl:k=0:=om
  rfl
 | succ m ih =>
  by_cases e:k=m+1
  ·subst e;rfl
  ·have:=ih om;show(if 0<=Bk.idx l n m then Bk.idx l n m else _)=_;rw[iP om,this]
theorem a4r (ao:OA) (cap:Nat) (l:List Int) (n:Int) (w:World) (hn:l.length<=9223372036854775807) (hr:ILs w ao cap l) :
  Calls prog 119 #[.slice ao l.length cap,Iv n] w λe w'=>e=.returned (Iv (Bk.idx l n l.length))/\w'=w:=by
 have ad:l.length<=cap:=hr.1;have HR:Hid (ILs w ao cap l):=hr;clear hr;go_enter func119,ntmps119;(go_wp2_with fail);go_loopw [8] (λi wr=>∃k:Nat,k<=l.length/\i=Iv k/\Hid (Bk.idx l n k = -1)/\wr=w) (λi _=>l.length-(intOf i).toNat)
 case atStart=>exact⟨0,om,rfl,rfl,rfl⟩
 case round =>
  obtain⟨k,hk,rfl,hS,rfl⟩:=hrel;by_cases hlt:k<l.length
  ·obtain⟨b,off,rfl,_⟩:=HR.o.place om;have c0:=HR.o.cell hlt;have aa:Hid (Bk.idx l n (k+1)=if n=l.getD k 0 then(k:Int) else -1):=by
    show(if 0<=Bk.idx l n k then Bk.idx l n k else if n=l.getD k 0 then(k:Int) else -1)=_;rw[iN (by rw[hS.o];omega)]
   have ab:Hid (n=l.getD k 0->Bk.idx l n l.length=(k:Int)):=λh=>by
    have h1:=aa.o;rw[iP h] at h1;rw[Bk.idx_stay l n (k+1) om l.length om,h1]
   clear HR hS;by_cases q:n=l.getD k 0
   ·have ac:Hid _:=ab.o q;rw[<-q] at c0;clear ab aa q;(go_wp2_with fail);go_ret;exact⟨by rw[ac.o];rfl,rfl⟩
   ·have ac:Hid (Bk.idx l n (k+1) = -1):=(by rw[aa.o,iN q];rfl)
    have dq:(n == l.getD k 0)=false:=(by simpa using q)
    clear ab aa;generalize l.getD k 0=y at *;(go_wp2_with fail);exact⟨⟨k+1,om,gn,ac,trivial⟩,io⟩
  ·obtain rfl:k=l.length:=om
   clear HR;(go_wp2_with fail);go_ret;exact⟨by rw[hS.o];rfl,rfl⟩
theorem a3P (l m:List Int):l=m↔l.length=m.length/\∀i,i<l.length->l.getD i 0=m.getD i 0:=by
 constructor
 ·rintro rfl;exact⟨rfl,λ_ _=>rfl⟩
 ·rintro⟨h1,h2⟩;apply List.ext_getElem h1
  intro i a b;have:=h2 i a;simpa[a,b] using this
theorem a7y (ao:OA) (cap:Nat) (l:List Int) (bo:OA) (bcap:Nat) (m:List Int) (w:World) (hn:l.length<=9223372036854775807) (hr:ILs w ao cap l) (ab:ILs w bo bcap m) :
  Calls prog 188 #[.slice ao l.length cap,.slice bo m.length bcap] w λe w'=>e=.returned (.bool (decide (l=m)))/\Bl w w':=by
 by_cases hl:l.length=m.length
 ·have af:l.length<=cap:=hr.1;have ad:l.length<=bcap:=(by have:=ab.1;omega)
  have HR:Hid (∀W,Bl w W->ILs W ao cap l/\ILs W bo bcap m):=λW hW=>⟨hr.below hW,ab.below hW⟩
  have aa:Hid (l.length=m.length):=hl;rw[<-hl];clear hr ab hl;go_enter func188,ntmps188;(go_wp2_with fail);go_loopw [13] (λi wr=>∃k:Nat,k<=l.length/\i=Iv k/\Hid (∀j,j<k->l.getD j 0=m.getD j 0)/\Hid (Bl w wr)) (λi _=>l.length-(intOf i).toNat)
  case atStart=>exact⟨0,om,rfl,(λj hj=>absurd hj om),b0h _ _⟩
  case round =>
   obtain⟨k,hk,rfl,hS,hB⟩:=hrel;by_cases hlt:k<l.length
   ·obtain⟨b,off,rfl,_⟩:=(HR.o wr hB.o).1.place om;obtain⟨b2,ag,rfl,_⟩:=(HR.o wr hB.o).2.place (by have:=aa.o;omega);have c0:=(HR.o wr hB.o).1.cell hlt;have c1:=(HR.o wr hB.o).2.cell (show k<m.length by have:=aa.o;omega);have ik:(0:Int)<=(k:Int):=om
    have nk:(k:Int)<(l.length:Int):=om
    have HD:Hid (l.getD k 0≠m.getD k 0->decide (l=m)=false):=λh=>b0j (λe=>h (by rw[e]));have ac:Hid (l.getD k 0=m.getD k 0->∀j,j<k+1->l.getD j 0=m.getD j 0):=λh j hj=>by
     by_cases e:j=k
     ·subst e;exact h
     ·exact hS.o j om
    have ae:Hid (∀n,Bl w (wr.drewN n)):=λn=>a0d hB.o n;clear HR aa hS;generalize l.getD k 0=x at *;generalize m.getD k 0=y at *;by_cases q:x=y
    ·have e1:(x != y)=false:=(by simp[q])
     have ah:Hid _:=ac.o q;clear HD ac q;(go_wp2_with fail);(go_quiet (fail));(go_wp2_with fail);exact⟨⟨k+1,om,gn,ah,ae.o _⟩,io⟩
    ·have e1:(x != y)=true:=(by simp[q])
     have ai:Hid _:=HD.o q;clear HD ac q;(go_wp2_with fail);(go_quiet (fail));(go_wp2_with fail);go_ret;exact⟨by rw[ai.o];rfl,ae.o _⟩
   ·obtain rfl:k=l.length:=om
    have HD:Hid (decide (l=m)=true):=b0k ((a3P l m).2 ⟨aa.o,hS.o⟩);clear HR aa hS;(go_wp2_with fail);go_ret;exact⟨by rw[HD.o];rfl,hB.o⟩
 ·have HD:Hid (decide (l=m)=false):=b0j (λe=>hl (by rw[e]));have e1:((l.length:Int) != (m.length:Int))=true:=(by simp;omega)
  have e2:(l.length != m.length)=true:=(by simpa using hl)
  clear hr ab;go_enter func188,ntmps188;(go_wp2_with fail);go_ret;exact⟨by rw[HD.o];rfl,b0h _ _⟩
def hasP (ports roles calm pts:List Int):Bool:=decide (ports=pts)&&(decide (roles.length=pts.length)&&decide (calm.length=pts.length))
theorem a4L (v0 v1 v2 v3 v4 v5:Value) (po:OA) (pc:Nat) (aa:List Int) (ro:OA) (rc:Nat) (roles:List Int) (co:OA) (cc:Nat) (ab:List Int) (bo:OA) (bcap:Nat) (pts:List Int) (w:World) (hn:aa.length<=9223372036854775807) (hr:ILs w po pc aa) (ah:ILs w bo bcap pts) :
  Calls prog 146 #[.agg #[v0,v1,v2,v3,v4,v5,.slice po aa.length pc,.slice ro roles.length rc,.slice co ab.length cc],.slice bo pts.length bcap] w λe w'=>e=.returned (.bool (hasP aa roles ab pts))/\Bl w w':=by
 obtain⟨W0,ag⟩:=nm (w.alloc (.cells #[v0,v1,v2,v3,v4,v5,.slice po aa.length pc,.slice ro roles.length rc,.slice co ab.length cc] 117))
 have ac:Bl w W0:=(by rw[ag.o];exact bA1 _ _)
 have ad:W0.heap[w.heap.size]?=some (.cells #[v0,v1,v2,v3,v4,v5,.slice po aa.length pc,.slice ro roles.length rc,.slice co ab.length cc] 117):=(by rw[ag.o];exact a9Z _ _)
 have HE:Hid (Calls prog 188 #[.slice po aa.length pc,.slice bo pts.length bcap] W0 λe w'=>e=.returned (.bool (decide (aa=pts)))/\(w'.cell? (Pv w.heap.size 7)=some (.slice ro roles.length rc)/\w'.cell? (Pv w.heap.size 8)=some (.slice co ab.length cc))/\Hid (Bl w w')):=(a7y po pc aa bo bcap pts W0 hn (hr.below ac) (ah.below ac)).mono (λe w' h=>⟨h.1,⟨a9Y w' _ 7 _ _ _ (keep ad h.2),a9Y w' _ 8 _ _ _ (keep ad h.2)⟩,ac.trans (h.2.mono ac.size)⟩);have c6:W0.cell? (Pv w.heap.size 6)=some (.slice po aa.length pc):=a9Y W0 _ 6 _ _ _ ad;have HH:Hid (hasP aa roles ab pts=(decide (aa=pts)&&(decide (roles.length=pts.length)&&decide (ab.length=pts.length)))):=rfl;clear hr ah ac ad;generalize decide (aa=pts)=d1 at *;go_enter func146,ntmps146;(go_upto_region 1 with fail);rw[<-ag.o];(go_wp2_with fail);refine HE.o.mono ?_;rintro e w1 ⟨rfl,⟨c7,c8⟩,ae⟩;clear c6 HE;cases d1 with
 | false =>
  have HX:Hid (hasP aa roles ab pts=false):=(by rw[HH.o];rfl)
  (go_wp2_with fail);go_ret;exact⟨by rw[HX.o];rfl,ae.o⟩
 | true =>
  by_cases q:roles.length=pts.length
  ·have e1:(roles.length == pts.length)=true:=(by simp[q])
   have e2:((roles.length:Int) == (pts.length:Int))=true:=(by simp[q])
   have HX:Hid (hasP aa roles ab pts=decide (ab.length=pts.length)):=(by rw[HH.o,b0k q];rfl)
   by_cases q2:ab.length=pts.length
   ·have e3:((ab.length:Int) == (pts.length:Int))=true:=(by simp[q2])
    have af:Hid (hasP aa roles ab pts=true):=(by rw[HX.o,b0k q2];rfl)
    clear q q2 HX HH;(go_wp2_with fail);go_ret;exact⟨by rw[af.o];simp,ae.o⟩
   ·have e3:((ab.length:Int) == (pts.length:Int))=false:=(by simp;omega)
    have af:Hid (hasP aa roles ab pts=false):=(by rw[HX.o,b0j q2];rfl)
    clear q q2 HX HH;(go_wp2_with fail);go_ret;exact⟨by rw[af.o];simp,ae.o⟩
  ·have e1:(roles.length == pts.length)=false:=(by simpa using q)
   have e2:((roles.length:Int) == (pts.length:Int))=false:=(by simp;omega)
   have HX:Hid (hasP aa roles ab pts=false):=(by rw[HH.o,b0j q];rfl)
   clear q HH;(go_wp2_with fail);go_ret;exact⟨by rw[HX.o];rfl,ae.o⟩
end
section
open Go.Proofs.Tryz
open Go.RowKit
open Vc (V Of)
open Tk (Md)
structure Mi where
 md:Md
 po:OA
 pc:Nat
 ports:List Int
 ro:OA
 rc:Nat
 roles:List Int
 co:OA
 cc:Nat
 calm:List Int
def mi0:Mi:=⟨⟨⟨0,0,0,0⟩,0,0⟩,none,0,[],none,0,[],none,0,[]⟩
def mat (l:List Mi) (i:Nat):Mi:=l.getD i mi0
def Mi.val (m:Mi):Value:=.agg #[Uv m.md.v.root,Iv m.md.v.cost,Uv m.md.v.bridge,Iv m.md.v.port,Iv m.md.age,Iv m.md.rp,.slice m.po m.ports.length m.pc,.slice m.ro m.roles.length m.rc,.slice m.co m.calm.length m.cc]
def Mi.has (m:Mi) (pts:List Int):Bool:=hasP m.ports m.roles m.calm pts
structure MiIn (w:World) (m:Mi):Prop where
 ports:ILs w m.po m.pc m.ports
 roles:ILs w m.ro m.rc m.roles
 calm:ILs w m.co m.cc m.calm
 pn:m.ports.length<=9223372036854775807
 rn:m.roles.length<=9223372036854775807
 cn:m.calm.length<=9223372036854775807
theorem MiIn.below {w w':World}{m:Mi}(h:MiIn w m) (hb:Bl w w'):MiIn w' m:=⟨h.ports.below hb,h.roles.below hb,h.calm.below hb,h.pn,h.rn,h.cn⟩
structure MiRow (w:World) (ao:OA) (cap:Nat) (l:List Mi):Prop where
 row:CRow w ao l.length cap 9 (λi=>mdC (mat l i).md (.slice (mat l i).po (mat l i).ports.length (mat l i).pc) (.slice (mat l i).ro (mat l i).roles.length (mat l i).rc) (.slice (mat l i).co (mat l i).calm.length (mat l i).cc))
 each:∀i,i<l.length->MiIn w (mat l i)
 many:l.length<=9223372036854775807
theorem MiRow.below {w w':World}{ao:OA}{cap:Nat}{l:List Mi}(h:MiRow w ao cap l) (hb:Bl w w'):MiRow w' ao cap l:=⟨CRow.below h.row hb,λi hi=>(h.each i hi).below hb,h.many⟩
theorem MiRow.place {w:World}{ao:OA}{cap:Nat}{l:List Mi}(h:MiRow w ao cap l) (hn:0<l.length):∃b off,ao=.some ⟨b,off,.none⟩/\b<w.heap.size:=by
 obtain⟨b,off,e,hb,_⟩:=h.row.2 hn;exact⟨b,off,e,hb⟩
theorem MiRow.cells {w:World}{b off cap:Nat}{l:List Mi}(h:MiRow w (some (Pv b off)) cap l) {i:Nat}(hi:i<l.length) :
  w.cell? (Pv b (off+i*9))=some (Uv (mat l i).md.v.root)/\w.cell? (Pv b (off+i*9+1))=some (Iv (mat l i).md.v.cost)/\w.cell? (Pv b (off+i*9+2))=some (Uv (mat l i).md.v.bridge)/\w.cell? (Pv b (off+i*9+3))=some (Iv (mat l i).md.v.port)/\w.cell? (Pv b (off+i*9+4))=some (Iv (mat l i).md.age)/\w.cell? (Pv b (off+i*9+5))=some (Iv (mat l i).md.rp)/\w.cell? (Pv b (off+i*9+6))=some (.slice (mat l i).po (mat l i).ports.length (mat l i).pc)/\w.cell? (Pv b (off+i*9+7))=some (.slice (mat l i).ro (mat l i).roles.length (mat l i).rc)/\w.cell? (Pv b (off+i*9+8))=some (.slice (mat l i).co (mat l i).calm.length (mat l i).cc):=by
 obtain⟨b',aa,e,_,hc⟩:=h.row.2 om;cases e
 exact⟨hc i hi 0 om,hc i hi 1 om,hc i hi 2 om,hc i hi 3 om,hc i hi 4 om,hc i hi 5 om,hc i hi 6 om,hc i hi 7 om,hc i hi 8 om⟩
structure Po where
 ao:OA
 cap:Nat
 l:List Int
def po0:Po:=⟨none,0,[]⟩
def pat (l:List Po) (i:Nat):Po:=l.getD i po0
structure PoRow (w:World) (ao:OA) (cap:Nat) (l:List Po):Prop where
 row:CRow w ao l.length cap 1 (λi _=>.slice (pat l i).ao (pat l i).l.length (pat l i).cap)
 each:∀i,i<l.length->ILs w (pat l i).ao (pat l i).cap (pat l i).l
theorem PoRow.below {w w':World}{ao:OA}{cap:Nat}{l:List Po}(h:PoRow w ao cap l) (hb:Bl w w'):PoRow w' ao cap l:=⟨CRow.below h.row hb,λi hi=>(h.each i hi).below hb⟩
theorem PoRow.place {w:World}{ao:OA}{cap:Nat}{l:List Po}(h:PoRow w ao cap l) (hn:0<l.length):∃b off,ao=.some ⟨b,off,.none⟩/\b<w.heap.size:=by
 obtain⟨b,off,e,hb,_⟩:=h.row.2 hn;exact⟨b,off,e,hb⟩
theorem PoRow.cell {w:World}{b off cap:Nat}{l:List Po}(h:PoRow w (some (Pv b off)) cap l) {i:Nat}(hi:i<l.length):w.cell? (Pv b (off+i))=some (.slice (pat l i).ao (pat l i).l.length (pat l i).cap):=by
 obtain⟨b',aa,e,_,hc⟩:=h.row.2 om;cases e
 have:=hc i hi 0 om;simpa using this
def eqF (l:List Mi) (ps:List Po):Bool:=decide (l.length=ps.length/\∀i,i<l.length->(mat l i).has (pat ps i).l=true)
theorem teqf_any (ao:OA) (cap:Nat) (l:List Mi) (bo:OA) (bcap:Nat) (ps:List Po) (w:World) (hr:MiRow w ao cap l) (ab:PoRow w bo bcap ps) :
  Calls prog 145 #[.slice ao l.length cap,.slice bo ps.length bcap,.func (.func 146) #[] #[]] w λe w'=>e=.returned (.bool (eqF l ps))/\Bl w w':=by
 by_cases hl:l.length=ps.length
 ·have hn:=hr.many;have ag:l.length<=cap:=hr.row.1;have af:l.length<=bcap:=(by have:=ab.row.1;omega)
  have HR:Hid (∀W,Bl w W->MiRow W ao cap l/\PoRow W bo bcap ps):=λW hW=>⟨hr.below hW,ab.below hW⟩
  have aa:Hid (l.length=ps.length):=hl;rw[<-hl];clear hr ab hl;go_enter func145,ntmps145;(go_wp2_with fail);go_loopw [17] (λi wr=>∃k:Nat,k<=l.length/\i=Iv k/\Hid (∀j,j<k->(mat l j).has (pat ps j).l=true)/\Hid (Bl w wr)) (λi _=>l.length-(intOf i).toNat)
  case atStart=>exact⟨0,om,rfl,(λj hj=>absurd hj om),b0h _ _⟩
  case round =>
   obtain⟨k,hk,rfl,hS,hB⟩:=hrel;by_cases hlt:k<l.length
   ·obtain⟨b,off,rfl,_⟩:=(HR.o wr hB.o).1.place om;obtain⟨b2,ah,rfl,_⟩:=(HR.o wr hB.o).2.place (by have:=aa.o;omega);obtain⟨c0,c1,c2,c3,c4,c5,c6,c7,c8⟩:=(HR.o wr hB.o).1.cells hlt;have d0:=(HR.o wr hB.o).2.cell (show k<ps.length by have:=aa.o;omega);have ik:(0:Int)<=(k:Int):=om
    have nk:(k:Int)<(l.length:Int):=om
    have hm:=(HR.o wr hB.o).1.each k hlt;have hp:=(HR.o wr hB.o).2.each k (by have:=aa.o;omega);have HC:Hid (∀W,Bl wr W->Calls prog 146 #[(mat l k).val,.slice (pat ps k).ao (pat ps k).l.length (pat ps k).cap] W λe w'=>e=.returned (.bool ((mat l k).has (pat ps k).l))/\Hid (Bl w w')):=λW hW=>(a4L _ _ _ _ _ _ _ _ _ _ _ _ _ _ _ _ _ _ W hm.pn (hm.ports.below hW) (hp.below hW)).mono (λe w' h=>⟨h.1,(hB.o.trans (hW.mono hB.o.size)).trans (h.2.mono (hB.o.trans (hW.mono hB.o.size)).size)⟩);have HD:Hid ((mat l k).has (pat ps k).l=false->eqF l ps=false):=λh=>b0j (λe=>by have:=e.2 k hlt;rw[h] at this;cases this);have ae:Hid ((mat l k).has (pat ps k).l=true->∀j,j<k+1->(mat l j).has (pat ps j).l=true):=λh j hj=>by
     by_cases e:j=k
     ·subst e;exact h
     ·exact hS.o j om
    clear HR aa hS hm hp;unfold Mi.val at HC;generalize mat l k=x at *;generalize pat ps k=y at *;cases hq:x.has y.l with
    | true =>
     have ac:Hid _:=ae.o hq;rw[hq] at HC;clear HD ae hq;(go_wp2_with fail);refine(HC.o _ (bA1 _ _)).mono ?_;rintro e w2 ⟨rfl,ad⟩;clear HC c0 c1 c2 c3 c4 c5 c6 c7 c8 d0;(go_wp2_with fail);exact⟨⟨k+1,om,gn,ac,ad⟩,io⟩
    | false =>
     have ac:Hid _:=HD.o hq;rw[hq] at HC;clear HD ae hq;(go_wp2_with fail);refine(HC.o _ (bA1 _ _)).mono ?_;rintro e w2 ⟨rfl,ad⟩;clear HC c0 c1 c2 c3 c4 c5 c6 c7 c8 d0;(go_wp2_with fail);go_ret;exact⟨by rw[ac.o];rfl,ad.o⟩
   ·obtain rfl:k=l.length:=om
    have HD:Hid (eqF l ps=true):=b0k ⟨aa.o,hS.o⟩;clear HR aa hS;(go_wp2_with fail);go_ret;exact⟨by rw[HD.o];rfl,hB.o⟩
 ·have HD:Hid (eqF l ps=false):=b0j (λe=>hl e.1);have e1:((l.length:Int) != (ps.length:Int))=true:=(by simp;omega)
  have e2:(l.length != ps.length)=true:=(by simpa using hl)
  clear hr ab;go_enter func145,ntmps145;(go_wp2_with fail);go_ret;exact⟨by rw[HD.o];rfl,b0h _ _⟩
end
section
open Go.Proofs.Tryz
open Go.RowKit
open Tk (Md)
structure Tr where
 ao:OA
 cap:Nat
 l:List Mi
def tr0:Tr:=⟨none,0,[]⟩
def tat (t:List Tr) (i:Nat):Tr:=t.getD i tr0
structure TrRow (w:World) (ao:OA) (cap:Nat) (t:List Tr):Prop where
 row:CRow w ao t.length cap 1 (λi _=>.slice (tat t i).ao (tat t i).l.length (tat t i).cap)
 each:∀i,i<t.length->MiRow w (tat t i).ao (tat t i).cap (tat t i).l
 many:t.length<=9223372036854775807
theorem TrRow.below {w w':World}{ao:OA}{cap:Nat}{t:List Tr}(h:TrRow w ao cap t) (hb:Bl w w'):TrRow w' ao cap t:=⟨CRow.below h.row hb,λi hi=>(h.each i hi).below hb,h.many⟩
theorem TrRow.place {w:World}{ao:OA}{cap:Nat}{t:List Tr}(h:TrRow w ao cap t) (hn:0<t.length):∃b off,ao=.some ⟨b,off,.none⟩/\b<w.heap.size:=by
 obtain⟨b,off,e,hb,_⟩:=h.row.2 hn;exact⟨b,off,e,hb⟩
theorem TrRow.cell {w:World}{b off cap:Nat}{t:List Tr}(h:TrRow w (some (Pv b off)) cap t) {i:Nat}(hi:i<t.length):w.cell? (Pv b (off+i))=some (.slice (tat t i).ao (tat t i).l.length (tat t i).cap):=by
 obtain⟨b',aa,e,_,hc⟩:=h.row.2 om;cases e
 have:=hc i hi 0 om;simpa using this
def oddT (t:List Tr) (ps:List Po):Bool:=decide (∃i,i<t.length/\eqF (tat t i).l ps=false)
theorem a7z (x:Tr) (bo:OA) (bcap:Nat) (ps:List Po) (Bp:Nat) (w:World) (hr:MiRow w x.ao x.cap x.l) (aa:PoRow w bo bcap ps) (hp:w.cell? (Pv Bp 0)=some (.slice bo ps.length bcap)) :
  Calls prog 144 #[.slice x.ao x.l.length x.cap,.pointer (some (Pv Bp 0))] w λe w'=>e=.returned (.bool (!(eqF x.l ps)))/\Bl w w':=by
 have l1:=b0r hp;have HC:Hid (Calls prog 145 #[.slice x.ao x.l.length x.cap,.slice bo ps.length bcap,.func (.func 146) #[] #[]] w λe w'=>e=.returned (.bool (eqF x.l ps))/\Hid (Bl w w')):=(teqf_any x.ao x.cap x.l bo bcap ps w hr aa).mono (λe w' h=>⟨h.1,h.2⟩);clear hr aa;generalize eqF x.l ps=d at *;go_enter func144,ntmps144;go_wp2_with (go_at_call 145;refine HC.o.mono ?_;rintro e w1 ⟨rfl,ab⟩)
 go_ret;exact⟨rfl,ab.o⟩
theorem a6a (ao:OA) (cap:Nat) (t:List Tr) (bo:OA) (bcap:Nat) (ps:List Po) (Bp:Nat) (w:World) (hr:TrRow w ao cap t) (ae:PoRow w bo bcap ps) (hp:w.cell? (Pv Bp 0)=some (.slice bo ps.length bcap)) :
  Calls prog 189 #[.slice ao t.length cap,.func (.func 144) #[] #[.pointer (some (Pv Bp 0))]] w λe w'=>∃r:Int,e=.returned (Iv r)/\decide (r>=0)=oddT t ps/\Bl w w':=by
 have hn:=hr.many;have af:t.length<=cap:=hr.row.1;have l1:=b0r hp;have HR:Hid (∀W,Bl w W->TrRow W ao cap t):=λW hW=>hr.below hW;have HC:Hid (∀W,Bl w W->∀k,k<t.length->Calls prog 144 #[.slice (tat t k).ao (tat t k).l.length (tat t k).cap,.pointer (some (Pv Bp 0))] W λe w'=>e=.returned (.bool (!(eqF (tat t k).l ps)))/\Hid (Bl w w')):=λW hW k hk=>(a7z (tat t k) bo bcap ps Bp W ((hr.each k hk).below hW) (ae.below hW) ((hW.cell (by exact l1)).trans hp)).mono (λe w' h=>⟨h.1,hW.trans (h.2.mono hW.size)⟩);clear hr ae hp l1;go_enter func189,ntmps189;(go_wp2_with fail);go_loopw [8] (λi wr=>∃k:Nat,k<=t.length/\i=Iv k/\Hid (∀j,j<k->eqF (tat t j).l ps=true)/\Hid (Bl w wr)) (λi _=>t.length-(intOf i).toNat)
 case atStart=>exact⟨0,om,rfl,(λj hj=>absurd hj om),b0h _ _⟩
 case round =>
  obtain⟨k,hk,rfl,hS,hB⟩:=hrel;by_cases hlt:k<t.length
  ·obtain⟨b,off,rfl,_⟩:=(HR.o wr hB.o).place om;have c0:=(HR.o wr hB.o).cell hlt;have ik:(0:Int)<=(k:Int):=om
   have nk:(k:Int)<(t.length:Int):=om
   have aa:Hid (Calls prog 144 #[.slice (tat t k).ao (tat t k).l.length (tat t k).cap,.pointer (some (Pv Bp 0))] wr λe w'=>e=.returned (.bool (!(eqF (tat t k).l ps)))/\Hid (Bl w w')):=HC.o wr hB.o k hlt;have HD:Hid (eqF (tat t k).l ps=false->decide ((k:Int)>=0)=oddT t ps):=λh=>by
    show decide ((k:Int)>=0)=oddT t ps;unfold oddT;rw[b0k (show(k:Int)>=0 by omega),b0k (show ∃i,i<t.length/\eqF (tat t i).l ps=false from⟨k,hlt,h⟩)]
   have ad:Hid (eqF (tat t k).l ps=true->∀j,j<k+1->eqF (tat t j).l ps=true):=λh j hj=>by
    by_cases e:j=k
    ·subst e;exact h
    ·exact hS.o j om
   clear HR HC hS hB;generalize tat t k=x at *;cases hq:eqF x.l ps with
   | true =>
    have ab:Hid _:=ad.o hq;rw[hq,Bool.not_true] at aa;clear HD ad hq;go_wp2_with (go_at_call 144;refine aa.o.mono ?_;rintro e w2 ⟨rfl,ac⟩)
    exact⟨⟨k+1,om,gn,ab,ac⟩,io⟩
   | false =>
    have ab:Hid _:=HD.o hq;rw[hq,Bool.not_false] at aa;clear HD ad hq;go_wp2_with (go_at_call 144;refine aa.o.mono ?_;rintro e w2 ⟨rfl,ac⟩)
    go_ret;exact⟨_,rfl,ab.o,ac.o⟩
  ·obtain rfl:k=t.length:=om
   have HN:¬∃i,i<t.length/\eqF (tat t i).l ps=false:=by
    rintro⟨i,hi,h⟩;rw[hS.o i hi] at h;cases h
   have HD:Hid (decide ((-1:Int)>=0)=oddT t ps):=by
    show decide ((-1:Int)>=0)=oddT t ps;unfold oddT;rw[b0j (show ¬(-1:Int)>=0 by omega),b0j HN]
   clear HN;clear HR HC hS;(go_wp2_with fail);go_ret;exact⟨_,rfl,HD.o,hB.o⟩
theorem a7A (ao:OA) (cap:Nat) (t:List Tr) (bo:OA) (bcap:Nat) (ps:List Po) (Bp:Nat) (w:World) (hr:TrRow w ao cap t) (aa:PoRow w bo bcap ps) (hp:w.cell? (Pv Bp 0)=some (.slice bo ps.length bcap)) :
  Calls prog 147 #[.slice ao t.length cap,.func (.func 144) #[] #[.pointer (some (Pv Bp 0))]] w λe w'=>e=.returned (.bool (oddT t ps))/\Bl w w':=by
 have HC:Hid (Calls prog 189 #[.slice ao t.length cap,.func (.func 144) #[] #[.pointer (some (Pv Bp 0))]] w λe w'=>∃r:Int,e=.returned (Iv r)/\Hid (decide (r>=0)=oddT t ps/\Bl w w')):=(a6a ao cap t bo bcap ps Bp w hr aa hp).mono (λe w' ⟨r,h1,h2,h3⟩=>⟨r,h1,h2,h3⟩);clear hr aa hp;generalize oddT t ps=d at *;go_enter func147,ntmps147;go_wp2_with (go_at_call 189;refine HC.o.mono ?_;rintro e w1 ⟨r,rfl,H1⟩)
 go_ret;exact⟨by rw[<-H1.o.1];rfl,H1.o.2⟩
