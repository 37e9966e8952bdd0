/- J8 -/
import Derived.Test.YtelebnancdjjiaaGreatDoorE17
set_option maxRecDepth 100000
set_option maxHeartbeats 40000000
namespace Go.Proofs.YtelebnancdjjiaaGreatDoor
section
open Go.Proofs.Tryz Go.RowKit
open Pl(Net Br)
open Bk(E at')
open Rl(G gat F R O)
structure CyH (w:World) (n:Net) (t:List Tr) (oao:OA) (ocap:Nat) (vid:Int) (TB NB VB KB b0 gk kcap P M nM:Nat) (f:F):Prop where
 gkl:gk<w.heap.size
 b0l:b0<=w.heap.size
 right:n.Right
 rel:∀W bks bo bc,w.grownBy W (some gk)->BkW W gk n.K bks bo bc->RlH W n t oao ocap vid TB NB VB KB gk kcap bks bo bc
 dat:∀W,w.grownBy W (some gk)->ByteRow W f.ao f.n f.cap f.bs
 nil:a0s f.ao f.n f.cap
 dst:0<=f.dst/\f.dst<18446744073709551616
 src:0<=f.src/\f.src<18446744073709551616
 crs:∀W,w.grownBy W (some gk)->W.cell? (Pv P 0)=some (.map (some M))/\CrW W M nM (a0K n.ls n.L)
structure CI (w W:World) (n:Net) (t:List Tr) (vid:Int) (b0 gk:Nat) (f:F) (s0 s:Ln.Cs) (c:Nat) (bo:Nat->OA) (bc:Nat->Nat) (so:OA) (sc:Nat) (ss:List AV) (g off cap:Nat) (ws:List AV):Prop where
 eq:Ln.carry n t vid f 41 s0=Ln.carry n t vid f (41-c) s
 err:s.err=0
 seen:ss.map AV.p=s.seen
 wait:ws.map AV.p=s.wait
 lenS:ss.length<=31*c
 lenW:ws.length<=1+31*c
 range:∀x∈s.wait,x.1<n.K
 mem:CM w W b0 n.K gk f s.books bo bc so sc ss g off cap ws
structure CJ (w W:World) (n:Net) (b0 gk:Nat) (f:F) (c:Nat) (bks:Nat->List E) (se wa:List (Nat×O)) (i:Nat) (os:List OV) (k:Nat) (bo:Nat->OA) (bc:Nat->Nat) (so:OA) (sc:Nat) (ss:List AV) (g off cap:Nat) (ws:List AV):Prop where
 seen:ss.map AV.p=se++Ln.seenOf i ((os.take k).map OV.o)
 wait:ws.map AV.p=wa++Ln.waitOf n i ((os.take k).map OV.o)
 lenS:ss.length<=31*c+k
 lenW:ws.length<=31*c+k
 mem:CM w W b0 n.K gk f bks bo bc so sc ss g off cap ws
section
variable {w W:World}{n:Net}{t:List Tr}{vid:Int}{b0 gk:Nat}{f:F}{s0 s:Ln.Cs}{c:Nat}{bo:Nat->OA}{bc:Nat->Nat}{so:OA}{sc:Nat}{ss:List AV}{g off cap:Nat}{ws:List AV}
theorem CI.fin (h:CI w W n t vid b0 gk f s0 s c bo bc so sc ss g off cap ws) (he:c=41\/ws=[]) {RR:Ln.Cs}(hR:RR=Ln.carry n t vid f 41 s0) :
  RR.err=0/\BkO W b0 gk n.K RR.books bo bc/\w.grownBy W (some gk)/\decide (ws.length=0)=decide (RR.wait=[])/\ss.map AV.p=RR.seen/\W.ownsRow w.heap.size 54 9 (.slice so ss.length sc) ss.length (a0f ss.length 9 (λi=>sC f (aat ss i)))/\∀x∈ss,Dt W w.heap.size f x.v:=by
 have e:RR=s:=by
  rw[hR,h.eq];rcases he with rfl | rfl
  ·rfl
  ·exact Ln.carry_nil _ _ _ _ _ _ h.wait.symm
 rw[e];refine⟨h.err,h.mem.bk,h.mem.grow,?_,h.seen,h.mem.row,h.mem.dS⟩;rw[<-h.wait];cases ws<;>simp
theorem CI.next {W2:World}{x:AV}{rest:List AV}(h:CI w W n t vid b0 gk f s0 s c bo bc so sc ss g off cap (x :: rest)) (hc:c<=40) (hR:n.Right) {os:List OV}(ai:os.map OV.o=(Ln.rl n t vid f s.books x.i x.v.o).out) (he:(Ln.rl n t vid f s.books x.i x.v.o).err=0) {ag:Nat->OA}{ac:Nat->Nat}{ad:OA}{af:Nat}{ah:List AV}{g' ab aa:Nat}{ae:List AV}{k:Nat}(hk:k=os.length)
  (j:CJ w W2 n b0 gk f c (λj=>if j=x.i then(Ln.rl n t vid f s.books x.i x.v.o).book else s.books j) s.seen (rest.map AV.p) x.i os k ag ac ad af ah g' ab aa ae):CI w W2 n t vid b0 gk f s0 (Ln.step n t vid f s x.p (rest.map AV.p)) (c+1) ag ac ad af ah g' ab aa ae:=by
 subst hk;have hw:s.wait=x.p :: rest.map AV.p:=h.wait.symm;have aj:os.length<=31:=by
  have:=Ln.out_few (r:=rgR (n.bs x.i)) (l:=Ln.gates n t vid x.i) (b:=s.books x.i) (p:=x.v.o.port) (f:=Ln.frO f x.v.o);have e1:os.length=(Ln.rl n t vid f s.books x.i x.v.o).out.length:=(by rw[<-ai,List.length_map])
  rw[e1];exact this
 have j1:=j.seen;have j2:=j.wait;rw[List.take_length,ai] at j1 j2;refine⟨?_,he,j1,j2,by have:=j.lenS;omega,by have:=j.lenW;omega,λy hy => ?_,j.mem⟩
 ·rw[h.eq,show 41-c=(41-(c+1))+1 by omega,Ln.carry_cons n t vid f _ s hw,iP (show(Ln.step n t vid f s x.p (rest.map AV.p)).err=0 from he)]
 ·rcases List.mem_append.1 hy with hy | hy
  ·exact h.range y (by rw[hw];exact b0n _ hy)
  ·exact Ln.wait_range hR y hy
theorem CI.bad {x:AV}{rest:List AV}(h:CI w W n t vid b0 gk f s0 s c bo bc so sc ss g off cap (x :: rest)) (hc:c<=40) (he:(Ln.rl n t vid f s.books x.i x.v.o).err≠0):Ln.carry n t vid f 41 s0=Ln.step n t vid f s x.p (rest.map AV.p):=by
 have hw:s.wait=x.p :: rest.map AV.p:=h.wait.symm;rw[h.eq,show 41-c=(41-(c+1))+1 by omega,Ln.carry_cons n t vid f _ s hw,iN (show ¬(Ln.step n t vid f s x.p (rest.map AV.p)).err=0 from he)]
end
section
variable {w W W2:World}{n:Net}{b0 gk:Nat}{f:F}{c:Nat}{bks:Nat->List E}{se wa:List (Nat×O)}{i:Nat}{os:List OV}{k:Nat}{bo:Nat->OA}{bc:Nat->Nat}{so:OA}{sc:Nat}{ss:List AV}{g off cap:Nat}{ws:List AV}
theorem a4z (hk:k<os.length):(os.take (k+1)).map OV.o=(os.take k).map OV.o++[(oat os k).o]:=by
 rw[a4S os k hk,List.take_succ_eq_append_getElem hk,List.map_append];rfl
theorem CJ.see {aa:OA}{ab:Nat}(j:CJ w W n b0 gk f c bks se wa i os k bo bc so sc ss g off cap ws) (hk:k<os.length) (hp:(oat os k).o.port=0) (hm:CM w W2 b0 n.K gk f bks bo bc aa ab (ss++[⟨i,oat os k⟩]) g off cap ws):CJ w W2 n b0 gk f c bks se wa i os (k+1) bo bc aa ab (ss++[⟨i,oat os k⟩]) g off cap ws:=by
 refine⟨?_,?_,by have:=j.lenS;simp;omega,by have:=j.lenW;omega,hm⟩
 ·rw[a4z hk,Ln.seenOf_snoc,iP hp,List.map_append,j.seen,List.append_assoc];rfl
 ·rw[a4z hk,Ln.waitOf_snoc,j.wait];have:Ln.crs n i (oat os k).o=none:=iP hp;rw[this];simp
theorem CJ.skip (j:CJ w W n b0 gk f c bks se wa i os k bo bc so sc ss g off cap ws) (hk:k<os.length) (hp:(oat os k).o.port≠0) (hc:Ln.crs n i (oat os k).o=none) (hm:CM w W2 b0 n.K gk f bks bo bc so sc ss g off cap ws):CJ w W2 n b0 gk f c bks se wa i os (k+1) bo bc so sc ss g off cap ws:=by
 refine⟨?_,?_,by have:=j.lenS;omega,by have:=j.lenW;omega,hm⟩
 ·rw[a4z hk,Ln.seenOf_snoc,iN hp,List.append_nil,j.seen]
 ·rw[a4z hk,Ln.waitOf_snoc,j.wait,hc];simp
theorem CJ.wai {g' aa ab:Nat}{y:Nat×O}(j:CJ w W n b0 gk f c bks se wa i os k bo bc so sc ss g off cap ws) (hk:k<os.length) (hp:(oat os k).o.port≠0) (hc:Ln.crs n i (oat os k).o=some y) (hm:CM w W2 b0 n.K gk f bks bo bc so sc ss g' aa ab (ws++[⟨y.1,⟨y.2,(oat os k).da,(oat os k).dc⟩⟩])):CJ w W2 n b0 gk f c bks se wa i os (k+1) bo bc so sc ss g' aa ab (ws++[⟨y.1,⟨y.2,(oat os k).da,(oat os k).dc⟩⟩]):=by
 refine⟨?_,?_,by have:=j.lenS;omega,by have:=j.lenW;simp;omega,hm⟩
 ·rw[a4z hk,Ln.seenOf_snoc,iN hp,List.append_nil,j.seen]
 ·rw[a4z hk,Ln.waitOf_snoc,hc,List.map_append,j.wait,List.append_assoc];rfl
end
def CyOut (w:World) (b0 gk K:Nat) (f:F) (RR:Ln.Cs) (e:Ending) (w':World):Prop:=∃so sc ss ended bo' bc',e=.returned (.tuple #[.slice so (ss:List AV).length sc,.bool ended,.int .i64 RR.err])/\Hid (BkO w' b0 gk K RR.books bo' bc'/\w.grownBy w' (some gk)/\((RR.err=0/\ended=decide (RR.wait=[])/\ss.map AV.p=RR.seen/\w'.ownsRow w.heap.size 54 9 (.slice so ss.length sc) ss.length (a0f ss.length 9 (λi=>sC f (aat ss i)))/\∀x∈ss,Dt w' w.heap.size f x.v)\/(RR.err≠0/\ended=false/\ss=[]/\so=none/\sc=0)))
theorem a7S (n:Net) (t:List Tr) (oao:OA) (ocap:Nat) (vid:Int) (TB NB VB KB b0 gk aL P M nM:Nat) (f:F) (i0:Nat) (o0:O) (bks:Nat->List E) (bo:Nat->OA) (bc:Nat->Nat) (w:World) (h:CyH w n t oao ocap vid TB NB VB KB b0 gk aL P M nM f) (hB:BkO w b0 gk n.K bks bo bc) (hi:i0<n.K) (s0:Ln.Cs) (bs:s0=⟨[],[(i0,o0)],bks,0⟩) :
  Calls prog 27 #[.agg #[.int .i64 (i0:Int),.int .i64 o0.port,.int .u64 f.dst,.int .u64 f.src,.bool o0.tagged,.int .i64 o0.prio,.bool o0.drop,.int .i64 o0.vid,.int .i64 f.type,.slice f.ao f.n f.cap],.func (.func 49) #[] #[.pointer (some (Pv TB 0)),.pointer (some (Pv NB 0)),.pointer (some (Pv VB 0)),.pointer (some (Pv KB 0))],.func (.func 53) #[] #[.pointer (some (Pv P 0))]] w λe w'=>CyOut w b0 gk n.K f (Ln.carry n t vid f 41 s0) e w':=by
 obtain⟨Z,HZ⟩:=nm ((w.alloc (.cells (aA f ⟨i0,⟨o0,f.ao,f.cap⟩⟩) 77)).alloc (.cells (aA f ⟨i0,⟨o0,f.ao,f.cap⟩⟩) 77))
 have a8:Bl w Z:=(by rw[HZ.o];exact bA2 _ _ _)
 have bt:Hid (CI w Z n t vid b0 gk f s0 s0 0 bo bc none 0 [] (w.heap.size+1) 0 1 [⟨i0,⟨o0,f.ao,f.cap⟩⟩]):=by
  subst bs;refine⟨rfl,rfl,rfl,rfl,by simp,by simp,λx hx => ?_,?_⟩
  ·obtain rfl:x=(i0,o0):=by simpa using hx
   exact hi
  ·refine⟨a0y _ _ _ _ _,QAt.one (by rw[HZ.o];exact b0c w _ _) om,(λx hx=>by simp at hx),λx hx => ?_,hB.ty (Ty.below _ a8) (Ty.below _ a8),a2B (World.grownBy.refl _ _) a8⟩;obtain rfl:x=⟨i0,⟨o0,f.ao,f.cap⟩⟩:=by simpa using hx
   exact Or.inl ⟨rfl,rfl⟩
 have HH:Hid (CyH w n t oao ocap vid TB NB VB KB b0 gk aL P M nM f):=h;obtain⟨RR,bg⟩:=nn (Ln.carry n t vid f 41 s0)
 rw[<-bg];have a9:Hid (RR=Ln.carry n t vid f 41 s0):=bg;clear h hB hi a8 bs bg;unfold aA at HZ;simp only at HZ;go_enter func27,ntmps27;(go_wp2_with fail);rw[<-HZ.o];go_loopw [9,10,11] (λs9 ba b1 wr=>∃(c:Nat) (so:OA) (sn sc g off qn cap:Nat),c<=41/\s9=.slice so sn sc/\ba=.slice (some (Pv g off)) qn cap/\b1=.int .i64 c/\Hid (∃s ss ws bo bc,CI w wr n t vid b0 gk f s0 s c bo bc so sc ss g off cap ws/\sn=ss.length/\qn=ws.length)) (λ_ _ i _=>41-(intOf i).toNat)
 case atStart=>exact⟨0,none,0,0,w.heap.size+1,0,1,1,om,rfl,rfl,rfl,⟨s0,[],_,bo,bc,bt.o,rfl,rfl⟩⟩
 case round =>
  obtain⟨c,so,sn,sc,g,off,qn,cap,hc,rfl,rfl,rfl,hX⟩:=hrel;clear bt bo bc HZ Z;by_cases hc2:c<=40
  ·by_cases hq:0<qn
   ·obtain⟨s,ss,ws,bo,bc,hI,rfl,rfl⟩:=hX.o;obtain⟨x,rest,rfl⟩:∃x rest,ws=x :: rest:=by
     cases ws with
     | nil=>simp at hq
     | cons x rest=>exact⟨x,rest,rfl⟩
    have HI:Hid (CI w wr n t vid b0 gk f s0 s c bo bc so sc ss g off cap (x :: rest)):=hI;obtain⟨X,aM⟩:=nm (wr.alloc (.cells (aA f x) 77))
    have br:Bl wr X:=(by rw[aM.o];exact bA1 _ _)
    have ah:X.heap[wr.heap.size]?=some (.cells (aA f x) 77):=(by rw[aM.o];exact a9Z _ _)
    have b2:X.heap.size=wr.heap.size+1:=(by rw[aM.o];simp)
    have hm:=hI.mem.below br;have bN:=hI.mem.q.lt;have b5:=hI.mem.grow.size;have bU:=HH.o.gkl;have bQ:x.i<n.K:=hI.range x.p (by rw[<-hI.wait];exact b0m ..);have bI:=hI.lenW;have ci:rest.length+1<=cap:=hI.mem.q.2.1;obtain⟨res,ae⟩:=nn (Ln.rl n t vid f s.books x.i x.v.o)
    obtain⟨nb,a5⟩:∃nb:Nat->List E,nb=λj=>if j=x.i then res.book else s.books j:=⟨_,rfl⟩
    obtain⟨au,bw,aT⟩:∃au,(cap=1->au=off)/\(cap≠1->au=off+10):=⟨if cap=1 then off else off+10,λe=>iP e,λe=>iN e⟩
    have aZ:Hid (Calls prog 49 #[.agg (aA f x),.pointer (some (Pv TB 0)),.pointer (some (Pv NB 0)),.pointer (some (Pv VB 0)),.pointer (some (Pv KB 0))] X λe w'=>∃oo oc os aq ar,e=.returned (.tuple #[.slice oo (os:List OV).length oc,.int .i64 res.err])/\Hid (os.map OV.o=res.out/\OwnO w' X.heap.size (.slice oo os.length oc) f os/\CJ w w' n b0 gk f c nb s.seen (rest.map AV.p) x.i os 0 aq ar so sc ss g au (cap-1) rest/\w'.heap[wr.heap.size]?=some (.cells (aA f x) 77)/\X.heap.size<=w'.heap.size)):=by
     obtain⟨d1,d2⟩:=(hm.dW x (b0m ..)).row (HH.o.dat X hm.grow) HH.o.nil;refine(a7M n t oao ocap vid TB NB VB KB gk aL s.books bo bc x.i x.v.o.port (Ln.frV f x.v) X (HH.o.rel X _ _ _ hm.grow hm.bk.bk) bQ d1 d2 HH.o.dst HH.o.src).mono ?_;rintro e w' ⟨oo,oc,os,fa,fb,aq,ar,rfl,H⟩;have H1:=H.o;rw[Ln.rl_eq n t vid f s.books x.i x.v fa fb,<-ae] at H1;obtain⟨k1,k2,k3,k4,k5⟩:=H1;have bW:OwnO w' X.heap.size (.slice oo os.length oc) f os:=⟨k2.row,k2.data⟩
     refine⟨oo,oc,os,(λj=>if j=x.i then aq else bo j),(λj=>if j=x.i then ar else bc j),by rw[Ln.rl_eq n t vid f s.books x.i x.v fa fb,<-ae],k1,bW,⟨by simp[Ln.seenOf,hI.seen],by simp[Ln.waitOf],by have:=hI.lenS;omega,by simp only[List.length_cons] at bI;omega,?_⟩,(k5.block _ om (by simp;omega)).trans ah,k5.size⟩;rw[a5];exact(hm.tail1 bw aT).book bU (k3.mono (b0p HH.o.b0l hm.grow.size)) k5 k4
    have a6:Hid (∀(W2:World) (os:List OV) (aq:Nat->OA) (ar:Nat->Nat) (ai:OA) (aj:Nat) (ad:List AV) (g' ab aa:Nat) (ac:List AV) (k:Nat),os.map OV.o=res.out->res.err=0->k=os.length->CJ w W2 n b0 gk f c nb s.seen (rest.map AV.p) x.i os k aq ar ai aj ad g' ab aa ac->∃s' am an aB aC,CI w W2 n t vid b0 gk f s0 s' (c+1) aB aC ai aj am g' ab aa an/\ad.length=am.length/\ac.length=an.length):=λW2 os aq ar ai aj ad g' ab aa ac k h1 h2 h3 h4=>by
     rw[a5,ae] at h4;rw[ae] at h1 h2;exact⟨_,ad,ac,aq,ar,HI.o.next hc2 HH.o.right h1 h2 h3 h4,rfl,rfl⟩
    have aW:Hid (res.err≠0->RR.err=res.err/\RR.books=nb):=λhe=>by
     rw[ae] at he;rw[a9.o,HI.o.bad hc2 he,a5,ae];exact⟨rfl,rfl⟩
    have bY:Hid (∀os:List OV,os.map OV.o=res.out->∀o∈os,0<=o.o.port/\o.o.port<=30):=λos h o ho=>by
     have h1:o.o∈res.out:=(by rw[<-h];exact List.mem_map_of_mem ho)
     rw[ae] at h1;exact(Ln.out_port h1).1
    have bC:Hid (∀os:List OV,os.map OV.o=res.out->os.length<=31):=λos h=>by
     have e1:os.length=res.out.length:=(by rw[<-h,List.length_map])
     rw[e1,ae];exact Ln.out_few
    have q0:=hI.mem.q.cell (i:=0) (by simp) (j:=0) om;have q1:=hI.mem.q.cell (i:=0) (by simp) (j:=1) om;have q2:=hI.mem.q.cell (i:=0) (by simp) (j:=2) om;have q3:=hI.mem.q.cell (i:=0) (by simp) (j:=3) om;have q4:=hI.mem.q.cell (i:=0) (by simp) (j:=4) om;have q5:=hI.mem.q.cell (i:=0) (by simp) (j:=5) om;have q6:=hI.mem.q.cell (i:=0) (by simp) (j:=6) om;have q7:=hI.mem.q.cell (i:=0) (by simp) (j:=7) om;have q8:=hI.mem.q.cell (i:=0) (by simp) (j:=8) om;have q9:=hI.mem.q.cell (i:=0) (by simp) (j:=9) om;simp only[Nat.zero_mul,Nat.add_zero] at q0 q1 q2 q3 q4 q5 q6 q7 q8 q9;clear hI HI hX hm br ae a5;obtain⟨xi,⟨⟨xp,xt,xr,xd,xv⟩,xa,xc⟩⟩:=x;have bZ:wr.cell? (Pv g off)=some (.int .i64 (xi:Int)):=q0;have bx:wr.cell? (Pv g (off+1))=some (.int .i64 xp):=q1;have b4:wr.cell? (Pv g (off+2))=some (.int .u64 f.dst):=q2;have bM:wr.cell? (Pv g (off+3))=some (.int .u64 f.src):=q3;have bP:wr.cell? (Pv g (off+4))=some (.bool xt):=q4;have bJ:wr.cell? (Pv g (off+5))=some (.int .i64 xr):=q5;have bA:wr.cell? (Pv g (off+6))=some (.bool xd):=q6;have bF:wr.cell? (Pv g (off+7))=some (.int .i64 xv):=q7;have bR:wr.cell? (Pv g (off+8))=some (.int .i64 f.type):=q8;have bS:wr.cell? (Pv g (off+9))=some (.slice xa f.n xc):=q9;have bu:X.cell? (Pv wr.heap.size 0)=some (.int .i64 (xi:Int)):=a9Y _ _ 0 _ _ _ ah;clear q0 q1 q2 q3 q4 q5 q6 q7 q8 q9;simp only[List.length_cons] at *;unfold aA at aM aZ ah;simp only at aM aZ ah;(go_upto_region 7 with fail);rw[<-aM.o];go_cut [10] (λv wx=>v=.slice (some (Pv g au)) rest.length (cap-1)/\Hid (wx=X))
    case first =>
     by_cases hcp:cap=1
     ·have e1:=bw hcp;subst hcp e1;have bB:rest.length=0:=om
      (go_wp2_with fail);go_meet
      exact⟨by rw[bB],rfl⟩
     ·have e1:=aT hcp;subst e1;have bV:1<cap:=om
      (go_wp2_with fail);go_meet
      exact⟨rfl,rfl⟩
    case rest =>
    obtain⟨rfl,bD⟩:=hcut;obtain rfl:=bD.o;clear bZ bx b4 bM bP bJ bA bF bR bS aM;obtain⟨BX,b7⟩:=nm wr.heap.size
    rw[<-b7.o] at aZ ah bu bN b5 b2 ⊢;have y0:=a9Y _ _ 0 _ _ _ ah;have y1:=a9Y _ _ 1 _ _ _ ah;have y2:=a9Y _ _ 2 _ _ _ ah;have y3:=a9Y _ _ 3 _ _ _ ah;have y4:=a9Y _ _ 4 _ _ _ ah;have y5:=a9Y _ _ 5 _ _ _ ah;have y6:=a9Y _ _ 6 _ _ _ ah;have y7:=a9Y _ _ 7 _ _ _ ah;have y8:=a9Y _ _ 8 _ _ _ ah;have y9:=a9Y _ _ 9 _ _ _ ah;simp only[List.getElem?_toArray,List.getElem?_cons_zero,List.getElem?_cons_succ] at y0 y1 y2 y3 y4 y5 y6 y7 y8 y9;(go_wp2_with fail);refine aZ.o.mono ?_;rintro e w5 ⟨oo,oc,os,aq,ar,rfl,H5⟩;clear y0 y1 y2 y3 y4 y5 y6 y7 y8 y9 aZ ah bu;by_cases her:res.err=0
    ·have cf:=bC.o os H5.o.1;obtain⟨_,aH,_,_,bH⟩:=H5.o;have ck:os.length<=oc:=by
      obtain⟨a,b,e,h1,_⟩:=aH.el;injection e with e1 _ e2;subst e1 e2;exact h1.row.1
     clear aH;(go_wp2_with fail);go_loopw [9,10,46] (λs9 ba bX wq=>∃(k:Nat) (ai:OA) (sn aj g' ab qn aa:Nat),k<=os.length/\s9=.slice ai sn aj/\ba=.slice (some (Pv g' ab)) qn aa/\bX=.int .i64 k/\Hid (∃ad ac aq ar,CJ w wq n b0 gk f c nb s.seen (rest.map AV.p) xi os k aq ar ai aj ad g' ab aa ac/\sn=ad.length/\qn=ac.length/\g'≠BX/\OwnO wq wc.heap.size (.slice oo os.length oc) f os/\wq.heap[BX]?=some (.cells #[.int .i64 (xi:Int),.int .i64 xp,.int .u64 f.dst,.int .u64 f.src,.bool xt,.int .i64 xr,.bool xd,.int .i64 xv,.int .i64 f.type,.slice xa f.n xc] 77))) (λ_ _ i _=>os.length-(intOf i).toNat)
     case atStart =>
      obtain⟨_,k2,k3,k4,_⟩:=H5.o;exact⟨0,so,ss.length,sc,g,au,rest.length,cap-1,om,rfl,rfl,rfl,⟨ss,rest,aq,ar,k3,rfl,rfl,om,k2,k4⟩⟩
     case round =>
      obtain⟨k,ai,sn,aj,g',ab,qn,aa,hk,rfl,rfl,rfl,hJ⟩:=hrel;by_cases hlt:k<os.length
      ·obtain⟨ad,ac,aR,aY,hj,rfl,rfl,a7,ap,aX⟩:=hJ.o;obtain⟨ca,cb,eo,ay,_⟩:=ap.el;injection eo with eo1 _ eo2;subst eo1 eo2;obtain⟨ob,aD,rfl,bG⟩:=ay.place om;obtain⟨p0,p1,p2,p3,p4,p5,p6,p7,p8⟩:=ay.cells hlt;have a4:Dt wr w.heap.size f (oat os k):=Or.inr (a0v (ap.data _ (a4T os k hlt)) (by have:=hj.mem.grow.size;omega));obtain⟨bi,bT⟩:=bY.o os H5.o.1 _ (a4T os k hlt);obtain⟨Y,aI⟩:=nm (wr.alloc (.cells (oA f (oat os k)) 101))
       have aG:Bl wr Y:=(by rw[aI.o];exact bA1 _ _)
       have av:Y.heap[wr.heap.size]?=some (.cells (oA f (oat os k)) 101):=(by rw[aI.o];exact a9Z _ _)
       have aK:=keep aX aG;have aE:=hj.mem.below aG;have ag:=ap.below aG;have ax:=(Ty.below _ aG).dt a4;have cg:=hj.lenS;have b9:=hj.lenW;have b6:=aE.grow.size;have bO:BX<wr.heap.size:=(gSm.1 aX).1;have aO:Hid (∀W2,Ty Y W2 101->Ty Y W2 5->OwnO W2 wc.heap.size (.slice (some (Pv ob aD)) os.length oc) f os):=λW2 t1 t2=>⟨t1.owns ag.row,λx hx=>t2.owns (ag.data x hx)⟩
       have i1:(k:Int)<(os.length:Int):=om
       have x0:Y.cell? (Pv BX 0)=some (.int .i64 (xi:Int)):=a9Y _ _ 0 _ _ _ aK;have z0:Y.cell? (Pv wr.heap.size 0)=some (.int .i64 (oat os k).o.port):=a9Y _ _ 0 _ _ _ av;have z1:Y.cell? (Pv wr.heap.size 1)=some (.int .u64 f.dst):=a9Y _ _ 1 _ _ _ av;have z2:Y.cell? (Pv wr.heap.size 2)=some (.int .u64 f.src):=a9Y _ _ 2 _ _ _ av;have z3:Y.cell? (Pv wr.heap.size 3)=some (.bool (oat os k).o.tagged):=a9Y _ _ 3 _ _ _ av;have z4:Y.cell? (Pv wr.heap.size 4)=some (.int .i64 (oat os k).o.prio):=a9Y _ _ 4 _ _ _ av;have z5:Y.cell? (Pv wr.heap.size 5)=some (.bool (oat os k).o.drop):=a9Y _ _ 5 _ _ _ av;have z6:Y.cell? (Pv wr.heap.size 6)=some (.int .i64 (oat os k).o.vid):=a9Y _ _ 6 _ _ _ av;have z7:Y.cell? (Pv wr.heap.size 7)=some (.int .i64 f.type):=a9Y _ _ 7 _ _ _ av;have z8:Y.cell? (Pv wr.heap.size 8)=some (.slice (oat os k).da f.n (oat os k).dc):=a9Y _ _ 8 _ _ _ av;by_cases hpz:(oat os k).o.port=0
       ·obtain⟨a1,c1,W2,af,aT,a3,az⟩:=more_s w.heap.size Y (.slice ai ad.length aj) f ad ⟨xi,oat os k⟩ aE.row om b6;have aJ:Hid (∃am an aB aC,CJ w W2 n b0 gk f c nb s.seen (rest.map AV.p) xi os (k+1) aB aC a1 c1 am g' ab aa an/\ad.length+1=am.length/\ac.length=an.length/\g'≠BX/\OwnO W2 wc.heap.size (.slice (some (Pv ob aD)) os.length oc) f os/\W2.heap[BX]?=some (.cells #[.int .i64 (xi:Int),.int .i64 xp,.int .u64 f.dst,.int .u64 f.src,.bool xt,.int .i64 xr,.bool xd,.int .i64 xv,.int .i64 f.type,.slice xa f.n xc] 77)):=⟨ad++[⟨xi,oat os k⟩],ac,aR,aY,hj.see hlt hpz (aE.seen ax aT a3 az),by simp,rfl,a7,aO.o W2 (λq aN h=>az q aN _ h dd) (λq aN h=>az q aN _ h dd),az _ _ _ aK dd⟩
        have aV:Hid (a4W (.slice ai ad.length aj) (.slice (some (Pv Y.heap.size 0)) 1 1) (Y.alloc (.cells #[.int .i64 (xi:Int),.int .u64 f.dst,.int .u64 f.src,.bool (oat os k).o.tagged,.int .i64 (oat os k).o.prio,.bool (oat os k).o.drop,.int .i64 (oat os k).o.vid,.int .i64 f.type,.slice (oat os k).da f.n (oat os k).dc] 54)) (.slice a1 (ad.length+1) c1) W2):=af;unfold oA at aI;clear af aT a3 az aO ax ag aE aK av aG a4 ay ap hj hJ aX a6 aW H5;generalize oat os k=o at *;obtain⟨⟨op,ot,oq,od,ov⟩,bm,bb⟩:=o;simp only at *;subst hpz;(go_upto_region 14 with fail);rw[<-aI.o];clear p0 p1 p2 p3 p4 p5 p6 p7 p8;go_wp2_with (at_builtin;refine a0a rfl (.tmp 53) (.tmp 60) 40 rfl _ _ _ rfl rfl aV.o ?_;clear aV)
        exact⟨⟨k+1,a1,ad.length+1,c1,g',ab,ac.length,aa,om,rfl,rfl,rfl,aJ⟩,by simp only[intOf];omega⟩
       ·obtain⟨bf,bh⟩:=HH.o.crs Y aE.grow;have bd:(Lit.int .i64 (xi:Int)).wf=true:=mwf om (by have:=HH.o.right.few;omega);have bj:(Lit.int .i64 (oat os k).o.port).wf=true:=mwf bi om;have aw:=a7N P M nM (a0K n.ls n.L) ((xi:Int),(oat os k).o.port) Y bf bh bd bj;cases hcx:a0K n.ls n.L ((xi:Int),(oat os k).o.port) with
        | none =>
         rw[hcx] at aw;have a0:Hid (Calls prog 53 #[.agg #[.int .i64 (xi:Int),.int .i64 (oat os k).o.port],.pointer (some (Pv P 0))] Y λe w'=>e=.returned (.tuple #[.agg #[.int .i64 0,.int .i64 0],.bool false])/\Hid (Bl Y w')):=aw;have aU:Ln.crs n xi (oat os k).o=none:=(by unfold Ln.crs;rw[iN hpz,hcx];rfl)
         have bK:Hid (∀w6,Bl Y w6->∃am an aB aC,CJ w (w6.alloc (.cells #[.int .i64 0,.int .i64 0] 75)) n b0 gk f c nb s.seen (rest.map AV.p) xi os (k+1) aB aC ai aj am g' ab aa an/\ad.length=am.length/\ac.length=an.length/\g'≠BX/\OwnO (w6.alloc (.cells #[.int .i64 0,.int .i64 0] 75)) wc.heap.size (.slice (some (Pv ob aD)) os.length oc) f os/\(w6.alloc (.cells #[.int .i64 0,.int .i64 0] 75)).heap[BX]?=some (.cells #[.int .i64 (xi:Int),.int .i64 xp,.int .u64 f.dst,.int .u64 f.src,.bool xt,.int .i64 xr,.bool xd,.int .i64 xv,.int .i64 f.type,.slice xa f.n xc] 77)):=λw6 h6=>by
          have h7:Bl Y (w6.alloc (.cells #[.int .i64 0,.int .i64 0] 75)):=h6.trans ((bA1 w6 _).mono h6.size);exact⟨ad,ac,aR,aY,hj.skip hlt hpz aU (aE.below h7),rfl,rfl,a7,aO.o _ (Ty.below _ h7) (Ty.below _ h7),keep aK h7⟩
         unfold oA at aI;clear aU aw bf bh bd bj hcx aO ax ag aE aK av aG a4 ay ap hj hJ aX a6 aW H5;generalize oat os k=o at *;obtain⟨⟨op,ot,oq,od,ov⟩,bm,bb⟩:=o;simp only at *;(go_upto_region 14 with fail);rw[<-aI.o];clear p0 p1 p2 p3 p4 p5 p6 p7 p8;(go_wp2_with fail);refine a0.o.mono ?_;rintro e w6 ⟨rfl,H6⟩;clear a0;(go_wp2_with fail);exact⟨⟨k+1,ai,ad.length,aj,g',ab,ac.length,aa,om,rfl,rfl,rfl,bK.o w6 H6.o⟩,by simp only[intOf];omega⟩
        | some q =>
         obtain⟨⟨bz,ce⟩,cc,ch⟩:=Ln.crossTo_range HH.o.right.links n.L (b0g _) hcx;obtain⟨q1,qp⟩:=q;obtain⟨m,rfl⟩:∃m:Nat,q1=(m:Int):=⟨q1.toNat,by simp only at bz;omega⟩
         rw[hcx] at aw;have a0:Hid (Calls prog 53 #[.agg #[.int .i64 (xi:Int),.int .i64 (oat os k).o.port],.pointer (some (Pv P 0))] Y λe w'=>e=.returned (.tuple #[.agg #[.int .i64 (m:Int),.int .i64 qp],.bool true])/\Hid (Bl Y w')):=aw;have aU:Ln.crs n xi (oat os k).o=some (m,{ (oat os k).o with port:=qp }):=(by unfold Ln.crs;rw[iN hpz,hcx];rfl)
         have bn:Hid (∀w6,Bl Y w6->∃g2 al ak W2,a6g (.slice (some (Pv g' ab)) ac.length aa) (.slice (some (Pv (w6.heap.size+1) 0)) 1 1) ((w6.alloc (.cells #[.int .i64 (m:Int),.int .i64 qp] 75)).alloc (.cells #[.int .i64 (m:Int),.int .i64 qp,.int .u64 f.dst,.int .u64 f.src,.bool (oat os k).o.tagged,.int .i64 (oat os k).o.prio,.bool (oat os k).o.drop,.int .i64 (oat os k).o.vid,.int .i64 f.type,.slice (oat os k).da f.n (oat os k).dc] 77)) (.slice (some (Pv g2 al)) (ac.length+1) ak) W2/\Hid (∃am an aB aC,CJ w W2 n b0 gk f c nb s.seen (rest.map AV.p) xi os (k+1) aB aC ai aj am g2 al ak an/\ad.length=am.length/\ac.length+1=an.length/\g2≠BX/\OwnO W2 wc.heap.size (.slice (some (Pv ob aD)) os.length oc) f os/\W2.heap[BX]?=some (.cells #[.int .i64 (xi:Int),.int .i64 xp,.int .u64 f.dst,.int .u64 f.src,.bool xt,.int .i64 xr,.bool xd,.int .i64 xv,.int .i64 f.type,.slice xa f.n xc] 77))):=λw6 h6=>by
          obtain⟨Z6,be⟩:=nn (w6.alloc (.cells #[.int .i64 (m:Int),.int .i64 qp] 75))
          have bL:Z6.heap.size=w6.heap.size+1:=(by rw[be];simp)
          have h7:Bl Y Z6:=(by rw[be];exact h6.trans ((bA1 w6 _).mono h6.size))
          have a2:=aE.below h7;have cd:=aG.size;have b8:=h7.size;obtain⟨g2,al,ak,W2,af,bl,bE,a3,az⟩:=more_q w.heap.size g' ab aa Z6 f ac ⟨m,⟨{ (oat os k).o with port:=qp },(oat os k).da,(oat os k).dc⟩⟩ a2.q om a2.grow.size;obtain⟨cs,bp⟩:=a2.q.type;rw[bL,be] at af;refine⟨g2,al,ak,W2,af,ad,ac++[⟨m,⟨{ (oat os k).o with port:=qp },(oat os k).da,(oat os k).dc⟩⟩],aR,aY,hj.wai hlt hpz aU (a2.more ((Ty.below _ h7).dt ax) bl a3 az),rfl,by simp,?_,aO.o _ (λq aN hq=>Ty.but bp az _ dd q aN (keep hq h7)) (λq aN hq=>Ty.but bp az _ dd q aN (keep hq h7)),(az BX (λe=>a7 e.symm) om).trans (keep aK h7)⟩;rcases bE with e | e
          ·rw[e];exact a7
          ·omega
         have bv:Hid (∀w6,Bl Y w6->w6.cell? (Pv wr.heap.size 0)=some (.int .i64 (oat os k).o.port)/\w6.cell? (Pv wr.heap.size 1)=some (.int .u64 f.dst)/\w6.cell? (Pv wr.heap.size 2)=some (.int .u64 f.src)/\w6.cell? (Pv wr.heap.size 3)=some (.bool (oat os k).o.tagged)/\w6.cell? (Pv wr.heap.size 4)=some (.int .i64 (oat os k).o.prio)/\w6.cell? (Pv wr.heap.size 5)=some (.bool (oat os k).o.drop)/\w6.cell? (Pv wr.heap.size 6)=some (.int .i64 (oat os k).o.vid)/\w6.cell? (Pv wr.heap.size 7)=some (.int .i64 f.type)/\w6.cell? (Pv wr.heap.size 8)=some (.slice (oat os k).da f.n (oat os k).dc)):=λw6 h6=>by
          have aF:=keep av h6;exact⟨a9Y _ _ 0 _ _ _ aF,a9Y _ _ 1 _ _ _ aF,a9Y _ _ 2 _ _ _ aF,a9Y _ _ 3 _ _ _ aF,a9Y _ _ 4 _ _ _ aF,a9Y _ _ 5 _ _ _ aF,a9Y _ _ 6 _ _ _ aF,a9Y _ _ 7 _ _ _ aF,a9Y _ _ 8 _ _ _ aF⟩
         unfold oA at aI;clear aU aw bf bh bd bj hcx aO ax ag aE aK av aG a4 ay ap hj hJ aX a6 aW H5;generalize oat os k=o at *;obtain⟨⟨op,ot,oq,od,ov⟩,bm,bb⟩:=o;simp only at *;(go_upto_region 14 with fail);rw[<-aI.o];clear p0 p1 p2 p3 p4 p5 p6 p7 p8;(go_wp2_with fail);refine a0.o.mono ?_;rintro e w6 ⟨rfl,H6⟩;obtain⟨g2,al,ak,W2,af,aJ⟩:=bn.o w6 H6.o;obtain⟨t0,t1,t2,t3,t4,t5,t6,t7,t8⟩:=bv.o (w6.alloc (.cells #[.int .i64 (m:Int),.int .i64 qp] 75)) (H6.o.trans ((bA1 w6 _).mono H6.o.size));have aV:Hid (a6g (.slice (some (Pv g' ab)) ac.length aa) (.slice (some (Pv (w6.heap.size+1) 0)) 1 1) ((w6.alloc (.cells #[.int .i64 (m:Int),.int .i64 qp] 75)).alloc (.cells #[.int .i64 (m:Int),.int .i64 qp,.int .u64 f.dst,.int .u64 f.src,.bool ot,.int .i64 oq,.bool od,.int .i64 ov,.int .i64 f.type,.slice bm f.n bb] 77)) (.slice (some (Pv g2 al)) (ac.length+1) ak) W2):=af;clear a0 bn bv af z0 z1 z2 z3 z4 z5 z6 z7 z8 x0;go_wp2_with (at_builtin;refine a0a rfl (.tmp 74) (.tmp 79) 121 rfl _ _ _ rfl rfl aV.o ?_;clear aV)
         exact⟨⟨k+1,ai,ad.length,aj,g2,al,ac.length+1,ak,om,rfl,rfl,rfl,aJ⟩,by simp only[intOf];omega⟩
      ·have b3:Hid (∃s' am an aB aC,CI w wr n t vid b0 gk f s0 s' (c+1) aB aC ai aj am g' ab aa an/\sn=am.length/\qn=an.length):=by
        obtain⟨ad,ac,aR,aY,j,e1,e2,_⟩:=hJ.o;rw[e1,e2];exact a6.o _ os aR aY ai aj ad g' ab aa ac k H5.o.1 her om j
       clear hJ;(go_wp2_with fail);exact⟨⟨c+1,ai,sn,aj,g',ab,qn,aa,om,rfl,rfl,rfl,b3⟩,by simp only[intOf];omega⟩
    ·have HF:Hid (BkO w5 b0 gk n.K RR.books aq ar/\w.grownBy w5 (some gk)/\RR.err=res.err):=by
      obtain⟨e1,e2⟩:=aW.o her;obtain⟨_,_,j5,_⟩:=H5.o;rw[e2];exact⟨j5.mem.bk,j5.mem.grow,e1⟩
     clear aW;(go_wp2_with fail);go_ret3;exact⟨none,0,[],false,aq,ar,by rw[HF.o.2.2];rfl,HF.o.1,HF.o.2.1,Or.inr ⟨by rw[HF.o.2.2];exact her,rfl,rfl,rfl,rfl⟩⟩
   ·obtain⟨s,ss,ws,bo,bc,hI,rfl,rfl⟩:=hX.o;obtain rfl:ws=[]:=List.length_eq_zero_iff.1 om;have HF:=hI.fin (Or.inr rfl) a9.o;have aQ:Hid (RR.err=0/\BkO wr b0 gk n.K RR.books bo bc/\w.grownBy wr (some gk)/\true=decide (RR.wait=[])/\ss.map AV.p=RR.seen/\wr.ownsRow w.heap.size 54 9 (.slice so ss.length sc) ss.length (a0f ss.length 9 (λi=>sC f (aat ss i)))/\∀x∈ss,Dt wr w.heap.size f x.v):=HF;clear hI hX HF;simp only[List.length_nil] at *;(go_wp2_with fail);go_ret3;obtain⟨f1,f2,f3,f4,f5,f6,f7⟩:=aQ.o;exact⟨so,sc,ss,true,bo,bc,by rw[f1];rfl,f2,f3,Or.inl ⟨f1,f4,f5,f6,f7⟩⟩
  ·obtain⟨s,ss,ws,bo,bc,hI,rfl,rfl⟩:=hX.o;have HF:=hI.fin (Or.inl om) a9.o;obtain⟨qn,bq⟩:=nn ws.length
   rw[<-bq] at HF ⊢;clear hI hX bq;by_cases hq:qn=0
   ·subst hq;have aQ:Hid (RR.err=0/\BkO wr b0 gk n.K RR.books bo bc/\w.grownBy wr (some gk)/\true=decide (RR.wait=[])/\ss.map AV.p=RR.seen/\wr.ownsRow w.heap.size 54 9 (.slice so ss.length sc) ss.length (a0f ss.length 9 (λi=>sC f (aat ss i)))/\∀x∈ss,Dt wr w.heap.size f x.v):=HF;clear HF;(go_wp2_with fail);go_ret3;obtain⟨f1,f2,f3,f4,f5,f6,f7⟩:=aQ.o;exact⟨so,sc,ss,true,bo,bc,by rw[f1];rfl,f2,f3,Or.inl ⟨f1,f4,f5,f6,f7⟩⟩
   ·rw[b0j hq] at HF;have aQ:Hid (RR.err=0/\BkO wr b0 gk n.K RR.books bo bc/\w.grownBy wr (some gk)/\false=decide (RR.wait=[])/\ss.map AV.p=RR.seen/\wr.ownsRow w.heap.size 54 9 (.slice so ss.length sc) ss.length (a0f ss.length 9 (λi=>sC f (aat ss i)))/\∀x∈ss,Dt wr w.heap.size f x.v):=HF;have cj:((qn:Int) == 0)=false:=(by simp;omega)
    clear HF;(go_wp2_with fail);go_ret3;obtain⟨f1,f2,f3,f4,f5,f6,f7⟩:=aQ.o;exact⟨so,sc,ss,false,bo,bc,by rw[f1];rfl,f2,f3,Or.inl ⟨f1,f4,f5,f6,f7⟩⟩
def a1z (b:Br) (vid:Int) (T:Nat):Bool:=decide ((T:Int)<=Rg.tree b.reg.vs b.reg.ts vid b.reg.n)
def a1X (n:Net) (vid:Int) (T:Nat):Bool:=decide (∃i,i<n.K/\a1z (n.bs i) vid T=true)
theorem a7T (b:Br) (VB TB:Nat) (vid:Int) (T:Nat) (w:World) (hb:b.at' w) (hf:b.Fine) (hv:w.cell? (Pv VB 0)=some (Iv vid)) (ht:w.cell? (Pv TB 0)=some (Iv T)) :
  Calls prog 75 #[.agg (brA b),.pointer (some (Pv VB 0)),.pointer (some (Pv TB 0))] w λe w'=>e=.returned (.bool (a1z b vid T))/\Bl w w':=by
 have lv:=b0r hv;have lt:=b0r ht;obtain⟨X,HX⟩:=nm (w.alloc (.cells (brA b) 65))
 have aa:Bl w X:=(by rw[HX.o];exact bA1 _ _)
 have ad:X.heap[w.heap.size]?=some (.cells (brA b) 65):=(by rw[HX.o];exact a9Z _ _)
 have ab:Hid (∀V,Bl X V->V.cell? (Pv w.heap.size 2)=some (.string b.reg.s)/\V.cell? (Pv w.heap.size 3)=some (Iv b.reg.rev)/\V.cell? (Pv w.heap.size 4)=some (.slice b.reg.ao b.reg.n b.reg.cap)/\V.cell? (Pv VB 0)=some (Iv vid)/\V.cell? (Pv TB 0)=some (Iv T)):=λV hV=>by
  have ac:=aa.trans (hV.mono aa.size);have h1:=keep ad hV;exact⟨a9Y _ _ 2 _ _ _ h1,a9Y _ _ 3 _ _ _ h1,a9Y _ _ 4 _ _ _ h1,(ac.cell (by exact lv)).trans hv,(ac.cell (by exact lt)).trans ht⟩
 have HC:Hid (∀V,Bl X V->Calls prog 76 #[.agg #[.string b.reg.s,Iv b.reg.rev,.slice b.reg.ao b.reg.n b.reg.cap],Iv vid] V λe w'=>e=.returned (Iv (Rg.tree b.reg.vs b.reg.ts vid b.reg.n))/\Hid (Bl X w')):=λV hV =>
  (a3G b.reg.s b.reg.rev b.reg.ao b.reg.n b.reg.cap b.reg.vs b.reg.ts vid V hf.reg.2.2 ((hb.below (aa.trans (hV.mono aa.size))).2.1)).mono (λe w' h=>⟨h.1,hV.trans (h.2.mono hV.size)⟩)
 have ae:Hid (Bl w X):=aa;unfold a1z;clear hb hf hv ht ad aa;generalize Rg.tree b.reg.vs b.reg.ts vid b.reg.n=tr at *;unfold brA at HX ⊢;go_enter func75,ntmps75;(go_wp2_with fail);rw[<-HX.o];have ag:Hid (Bl X X.drew):=b0i (b0h _ _);go_region_held3 (λW=>W.cell? (Pv w.heap.size 2)=some (.string b.reg.s)/\W.cell? (Pv w.heap.size 3)=some (Iv b.reg.rev)/\W.cell? (Pv w.heap.size 4)=some (.slice b.reg.ao b.reg.n b.reg.cap)/\W.cell? (Pv VB 0)=some (Iv vid)/\W.cell? (Pv TB 0)=some (Iv T))
  (first | (exact ab.o _ (Hid.o aS)) | (exact ab.o _ (b0i (Hid.o aS))))
  (first | (go_at_call 76;(with_reducible refine(HC.o _ (by first | exact(Hid.o aS) | exact b0i (Hid.o aS))).mono ?_);rintro e w5 ⟨rfl,af⟩) | fail)
 (all_goals go_wp2_with fail);(all_goals go_ret);all_goals exact⟨rfl,ae.o.trans (af.o.mono ae.o.size)⟩
theorem a6o (n:Net) (VB TB:Nat) (vid:Int) (T:Nat) (w:World) (hn:n.at' w) (hf:∀i,i<n.K->(n.bs i).Fine) (hv:w.cell? (Pv VB 0)=some (Iv vid)) (ht:w.cell? (Pv TB 0)=some (Iv T)) :
  Calls prog 118 #[.slice n.bao n.K n.bcap,.func (.func 75) #[] #[.pointer (some (Pv VB 0)),.pointer (some (Pv TB 0))]] w λe w'=>∃r:Int,e=.returned (Iv r)/\decide (r>=0)=a1X n vid T/\Bl w w':=by
 have af:=hn.manyB;have ae:n.K<=n.bcap:=hn.brs.1;have lv:=b0r hv;have lt:=b0r ht;have HR:Hid (∀W,Bl w W->BRow W n.bao n.K n.bcap n.bs):=λW hW=>CRow.below hn.brs hW;have HC:Hid (∀W,Bl w W->∀k,k<n.K->Calls prog 75 #[.agg (brA (n.bs k)),.pointer (some (Pv VB 0)),.pointer (some (Pv TB 0))] W λe w'=>e=.returned (.bool (a1z (n.bs k) vid T))/\Hid (Bl w w')):=λW hW k hk=>(a7T (n.bs k) VB TB vid T W ((hn.each k hk).below hW) (hf k hk) ((hW.cell (by exact lv)).trans hv) ((hW.cell (by exact lt)).trans ht)).mono (λe w' h=>⟨h.1,hW.trans (h.2.mono hW.size)⟩);clear hn hf hv ht lv lt;go_enter func118,ntmps118;(go_wp2_with fail);go_loopw [8] (λi wr=>∃k:Nat,k<=n.K/\i=Iv k/\Hid (∀j,j<k->a1z (n.bs j) vid T=false)/\Hid (Bl w wr)) (λi _=>n.K-(intOf i).toNat)
 case atStart=>exact⟨0,om,rfl,(λj hj=>absurd hj om),b0h _ _⟩
 case round =>
  obtain⟨k,hk,rfl,hS,hB⟩:=hrel;by_cases hlt:k<n.K
  ·obtain⟨b,off,eb,_⟩:=CRow.some (HR.o wr hB.o) om;have hr:=HR.o wr hB.o;rw[eb] at hr ⊢;obtain⟨c0,c1,c2,c3,c4⟩:=BRow.cells hr hlt;have ik:(0:Int)<=(k:Int):=om
   have nk:(k:Int)<(n.K:Int):=om
   have aa:Hid (Calls prog 75 #[.agg #[Uv (n.bs k).addr,.slice (n.bs k).pao (n.bs k).pn (n.bs k).pcap,.string (n.bs k).reg.s,Iv (n.bs k).reg.rev,.slice (n.bs k).reg.ao (n.bs k).reg.n (n.bs k).reg.cap],.pointer (some (Pv VB 0)),.pointer (some (Pv TB 0))] wr λe w'=>e=.returned (.bool (a1z (n.bs k) vid T))/\Hid (Bl w w')):=HC.o wr hB.o k hlt;have HD:Hid (a1z (n.bs k) vid T=true->decide ((k:Int)>=0)=a1X n vid T):=λh=>by
    show decide ((k:Int)>=0)=a1X n vid T;unfold a1X;rw[b0k (show(k:Int)>=0 by omega),b0k (show ∃i,i<n.K/\a1z (n.bs i) vid T=true from⟨k,hlt,h⟩)]
   have ad:Hid (a1z (n.bs k) vid T=false->∀j,j<k+1->a1z (n.bs j) vid T=false):=λh j hj=>by
    by_cases e:j=k
    ·subst e;exact h
    ·exact hS.o j om
   clear HR HC hS hB hr;cases hq:a1z (n.bs k) vid T with
   | false =>
    have ab:Hid (∀j,j<k+1->a1z (n.bs j) vid T=false):=ad.o hq;rw[hq] at aa;clear HD ad hq;go_wp2_with (go_at_call 75;refine aa.o.mono ?_;rintro e w2 ⟨rfl,ac⟩)
    exact⟨⟨k+1,om,gn,ab,ac⟩,io⟩
   | true =>
    have ab:Hid (decide ((k:Int)>=0)=a1X n vid T):=HD.o hq;rw[hq] at aa;clear HD ad hq;go_wp2_with (go_at_call 75;refine aa.o.mono ?_;rintro e w2 ⟨rfl,ac⟩)
    go_ret;exact⟨_,rfl,ab.o,ac.o⟩
  ·obtain rfl:k=n.K:=om
   have HN:¬∃i,i<n.K/\a1z (n.bs i) vid T=true:=by
    rintro⟨i,hi,h⟩;rw[hS.o i hi] at h;cases h
   have HD:Hid (decide ((-1:Int)>=0)=a1X n vid T):=by
    show decide ((-1:Int)>=0)=a1X n vid T;unfold a1X;rw[b0j (show ¬(-1:Int)>=0 by omega),b0j HN]
   clear HN HR HC hS;(go_wp2_with fail);go_ret;exact⟨_,rfl,HD.o,hB.o⟩
theorem a7U (n:Net) (VB TB:Nat) (vid:Int) (T:Nat) (w:World) (hn:n.at' w) (hf:∀i,i<n.K->(n.bs i).Fine) (hv:w.cell? (Pv VB 0)=some (Iv vid)) (ht:w.cell? (Pv TB 0)=some (Iv T)) :
  Calls prog 77 #[.slice n.bao n.K n.bcap,.func (.func 75) #[] #[.pointer (some (Pv VB 0)),.pointer (some (Pv TB 0))]] w λe w'=>e=.returned (.bool (a1X n vid T))/\Bl w w':=by
 have HC:Hid (Calls prog 118 #[.slice n.bao n.K n.bcap,.func (.func 75) #[] #[.pointer (some (Pv VB 0)),.pointer (some (Pv TB 0))]] w λe w'=>∃r:Int,e=.returned (Iv r)/\Hid (decide (r>=0)=a1X n vid T/\Bl w w')):=(a6o n VB TB vid T w hn hf hv ht).mono (λe w' ⟨r,h1,h2,h3⟩=>⟨r,h1,h2,h3⟩);clear hn hf hv ht;generalize a1X n vid T=d at *;go_enter func77,ntmps77;go_wp2_with (go_at_call 118;refine HC.o.mono ?_;rintro e w1 ⟨r,rfl,H1⟩)
 go_ret;exact⟨by rw[<-H1.o.1];rfl,H1.o.2⟩
def a1I (n:Net) (T B:Nat) (from' vid:Int) (f:F):Int :=
 if B≠n.K then 8 else if ¬(0<=from'/\from'<=(n.K:Int)-1) then 6 else if ¬(1<=vid/\vid<=4094) then 3 else if f.tagged=true then 1
 else if wrong f.dst f.src f.tagged f.prio f.vid f.type f.n≠0 then wrong f.dst f.src f.tagged f.prio f.vid f.type f.n else if a1X n vid T=true then 5 else 0
def frA (f:F):Array Value:=#[Uv f.dst,Uv f.src,.bool f.tagged,Iv f.prio,.bool f.drop,Iv f.vid,Iv f.type,.slice f.ao f.n f.cap]
theorem a6p (n:Net) (T B:Nat) (aa vid:Int) (f:F) (w:World) (hn:n.at' w) (hf:∀i,i<n.K->(n.bs i).Fine) (hK:n.K<=12) (hB:B<=9223372036854775807) (hs:0<=f.src/\f.src<18446744073709551616) :
  Calls prog 48 #[.slice n.bao n.K n.bcap,Iv T,Iv B,Iv aa,Iv vid,.agg (frA f)] w λe w'=>e=.returned (Iv (a1I n T B aa vid f))/\Bl w w':=by
 obtain⟨X,HX⟩:=nm (((w.alloc (.cells #[Iv T] 3)).alloc (.cells #[Iv vid] 3)).alloc (.cells (frA f) 31))
 have h3:=a1x w (.cells #[Iv T] 3) (.cells #[Iv vid] 3) (.cells (frA f) 31);rw[<-HX.o] at h3;obtain⟨ag,ai,_,ac⟩:=h3;have ad:Hid (Bl w X):=ac;have HW:Hid (Calls prog 74 #[.agg #[Uv f.dst,Uv f.src,.bool f.tagged,Iv f.prio,.bool f.drop,Iv f.vid,Iv f.type,.slice f.ao f.n f.cap]] X λe w'=>e=.returned (Iv (wrong f.dst f.src f.tagged f.prio f.vid f.type f.n))/\Hid (Bl w w')/\Hid (Calls prog 77 #[.slice n.bao n.K n.bcap,.func (.func 75) #[] #[.pointer (some (Pv (w.heap.size+1) 0)),.pointer (some (Pv w.heap.size 0))]] w' λe ah=>e=.returned (.bool (a1X n vid T))/\Hid (Bl w ah))) :=
  (a5v f.dst f.src f.tagged f.prio f.drop f.vid f.type f.ao f.n f.cap X hs.1 hs.2).mono (λe w' h=>by
   have h1:=ac.trans (h.2.mono ac.size);exact⟨h.1,h1,(a7U n (w.heap.size+1) w.heap.size vid T w' (hn.below h1) hf (a9Y _ _ 0 _ _ _ (keep ai h.2)) (a9Y _ _ 0 _ _ _ (keep ag h.2))).mono (λe ah h2=>⟨h2.1,h1.trans (h2.2.mono h1.size)⟩)⟩)
 clear hn hf hs ag ai ac;unfold frA at HX ⊢;unfold a1I;by_cases c1:B≠n.K
 ·rw[iP c1];have aj:(B:Int)≠(n.K:Int):=om
  clear HW;go_enter func48,ntmps48;(go_wp2_with fail);rw[<-HX.o];go_ret;exact⟨rfl,ad.o⟩
 ·rw[iN c1];obtain rfl:B=n.K:=om
  clear c1;have HN:Hid (∀(a l m:Int) (W:World),Calls prog 63 #[Iv a,Iv l,Iv m] W λe w'=>e=.returned (.bool (decide (l<=a/\a<=m)))/\w'=W):=λa l m W=>a3s a l m W;by_cases c2:0<=aa/\aa<=(n.K:Int)-1
  ·rw[iN (λq=>q c2)];have d2:decide (0<=aa/\aa<=(n.K:Int)-1)=true:=b0k c2;by_cases c3:1<=vid/\vid<=4094
   ·rw[iN (λq=>q c3)];have d3:decide (1<=vid/\vid<=4094)=true:=b0k c3;cases ht:f.tagged with
    | true =>
     rw[iP rfl];rw[ht] at HX;clear HW c2 c3;go_enter func48,ntmps48;go_wp2_with (go_at_call 63;refine(HN.o _ _ _ _).mono ?_;rintro e w1 ⟨rfl,rfl⟩;first | rw[d2] | rw[d3])
     rw[<-HX.o];go_ret;exact⟨rfl,ad.o⟩
    | false =>
     rw[iN dd];rw[ht] at HX HW;by_cases c5:wrong f.dst f.src false f.prio f.vid f.type f.n=0
     ·rw[iN (λq=>q c5)];rw[c5] at HW;clear c2 c3 c5 ht;cases hst:a1X n vid T with
      | true =>
       rw[iP rfl];rw[hst] at HW;go_enter func48,ntmps48;go_wp2_with (first | (go_at_call 63;refine(HN.o _ _ _ _).mono ?_;rintro e w1 ⟨rfl,rfl⟩;first | rw[d2] | rw[d3]) | (go_at_call 74;rw[<-HX.o];refine HW.o.mono ?_;rintro e w5 ⟨rfl,af,ab⟩) | (go_at_call 77;refine ab.o.mono ?_;rintro e w6 ⟨rfl,ae⟩))
       go_ret;exact⟨rfl,ae.o⟩
      | false =>
       rw[iN dd];rw[hst] at HW;go_enter func48,ntmps48;go_wp2_with (first | (go_at_call 63;refine(HN.o _ _ _ _).mono ?_;rintro e w1 ⟨rfl,rfl⟩;first | rw[d2] | rw[d3]) | (go_at_call 74;rw[<-HX.o];refine HW.o.mono ?_;rintro e w5 ⟨rfl,af,ab⟩) | (go_at_call 77;refine ab.o.mono ?_;rintro e w6 ⟨rfl,ae⟩))
       go_ret;exact⟨rfl,ae.o⟩
     ·rw[iP c5];generalize wrong f.dst f.src false f.prio f.vid f.type f.n=wr at *;clear c2 c3 ht;go_enter func48,ntmps48;go_wp2_with (first | (go_at_call 63;refine(HN.o _ _ _ _).mono ?_;rintro e w1 ⟨rfl,rfl⟩;first | rw[d2] | rw[d3]) | (go_at_call 74;rw[<-HX.o];refine HW.o.mono ?_;rintro e w5 ⟨rfl,af,ab⟩))
      go_ret;exact⟨rfl,af.o⟩
   ·rw[iP c3];have d3:decide (1<=vid/\vid<=4094)=false:=b0j c3;clear HW c2 c3;go_enter func48,ntmps48;go_wp2_with (go_at_call 63;refine(HN.o _ _ _ _).mono ?_;rintro e w1 ⟨rfl,rfl⟩;first | rw[d2] | rw[d3])
    rw[<-HX.o];go_ret;exact⟨rfl,ad.o⟩
  ·rw[iP c2];have d2:decide (0<=aa/\aa<=(n.K:Int)-1)=false:=b0j c2;clear HW c2;go_enter func48,ntmps48;go_wp2_with (go_at_call 63;refine(HN.o _ _ _ _).mono ?_;rintro e w1 ⟨rfl,rfl⟩;rw[d2])
   rw[<-HX.o];go_ret;exact⟨rfl,ad.o⟩
theorem a5C (n:Net) (oao:OA) (T ocap:Nat) (vid:Int) (gk K aa:Nat) (w:World) :
  Calls prog 28 #[n.val,.agg #[.slice oao T ocap],Iv vid,.slice (some (Pv gk 0)) K aa] w λe w'=>e=.returned (.func (.func 49) #[] #[.pointer (some (Pv (w.heap.size+1) 0)),.pointer (some (Pv w.heap.size 0)),.pointer (some (Pv (w.heap.size+2) 0)),.pointer (some (Pv (w.heap.size+3) 0))])/\Hid (w'.heap.size=w.heap.size+4/\Bl w w'/\w'.heap[w.heap.size+1]?=some (.cells #[.slice oao T ocap] 34)/\w'.heap[w.heap.size]?=some (.cells #[.slice n.bao n.K n.bcap,.slice n.lao n.L n.lcap] 25)/\w'.heap[w.heap.size+2]?=some (.cells #[Iv vid] 3)/\w'.heap[w.heap.size+3]?=some (.cells #[.slice (some (Pv gk 0)) K aa] 27)):=by
 obtain⟨Y,HY⟩:=nm (((w.alloc (.cells #[.slice n.bao n.K n.bcap,.slice n.lao n.L n.lcap] 25)).alloc (.cells #[.slice oao T ocap] 34)).alloc (.cells #[Iv vid] 3))
 have h3:=a1x w (.cells #[.slice n.bao n.K n.bcap,.slice n.lao n.L n.lcap] 25) (.cells #[.slice oao T ocap] 34) (.cells #[Iv vid] 3);rw[<-HY.o] at h3;have hs:Y.heap.size=w.heap.size+3:=(by rw[HY.o];simp)
 have HF:Hid (∀V,V=Y.alloc (.cells #[.slice (some (Pv gk 0)) K aa] 27)->V.heap.size=w.heap.size+4/\Bl w V/\V.heap[w.heap.size+1]?=some (.cells #[.slice oao T ocap] 34)/\V.heap[w.heap.size]?=some (.cells #[.slice n.bao n.K n.bcap,.slice n.lao n.L n.lcap] 25)/\V.heap[w.heap.size+2]?=some (.cells #[Iv vid] 3)/\V.heap[w.heap.size+3]?=some (.cells #[.slice (some (Pv gk 0)) K aa] 27)):=λV hV=>by
  obtain⟨a,b,c,d⟩:=h3;have e1:Bl Y V:=(by rw[hV];exact bA1 _ _)
  refine⟨by rw[hV];simp[hs],d.trans (e1.mono d.size),keep b e1,keep a e1,keep c e1,?_⟩;rw[hV,<-hs];exact a9Z _ _
 clear h3 hs;unfold Pl.Net.val;go_enter func28,ntmps28;(go_wp2_with fail);rw[<-HY.o];go_ret;exact⟨rfl,HF.o _ rfl⟩
