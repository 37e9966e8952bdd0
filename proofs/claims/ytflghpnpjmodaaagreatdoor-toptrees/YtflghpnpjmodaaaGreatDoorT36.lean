/- walks: lan.copied -/
import Derived.Test.YtflghpnpjmodaaaGreatDoorT35
set_option maxRecDepth 100000
set_option maxHeartbeats 6000000
namespace Go.Proofs.YtflghpnpjmodaaaGreatDoor
section
open Go.RowKit
open Pl (Net)
open Bk (E at')
open Rl (G gat F R O)
structure CyH (w:World) (n:Net) (t:List Tr) (oao:Option Addr) (ocap:Nat) (vid:Int) (TB NB VB KB b0 gk kcap P M nM:Nat) (f:F):Prop where
 gkl:gk<w.heap.size
 b0l:b0≤w.heap.size
 right:n.Right
 rel:∀W bks bo bc,w.grownBy W (some gk)→BkW W gk n.K bks bo bc→RlH W n t oao ocap vid TB NB VB KB gk kcap bks bo bc
 dat:∀W,w.grownBy W (some gk)→ByteRow W f.ao f.n f.cap f.bs
 nil:NilOk f.ao f.n f.cap
 dst:0≤f.dst∧f.dst<18446744073709551616
 src:0≤f.src∧f.src<18446744073709551616
 crs:∀W,w.grownBy W (some gk)→W.cell? ⟨P,0,none⟩=some (.map (some M))∧CrW W M nM (crossTo n.ls n.L)
structure CI (w W:World) (n:Net) (t:List Tr) (vid:Int) (b0 gk:Nat) (f:F) (s0 s:Ln.Cs) (c:Nat) (bo:Nat→Option Addr) (bc:Nat→Nat) (so:Option Addr) (sc:Nat) (ss:List AV) (g off cap:Nat) (ws:List AV):Prop where
 eq:Ln.carry n t vid f 41 s0=Ln.carry n t vid f (41-c) s
 err:s.err=0
 seen:ss.map AV.p=s.seen
 wait:ws.map AV.p=s.wait
 lenS:ss.length≤31*c
 lenW:ws.length≤1+31*c
 range:∀x∈s.wait,x.1<n.K
 mem:CM w W b0 n.K gk f s.books bo bc so sc ss g off cap ws
structure CJ (w W:World) (n:Net) (b0 gk:Nat) (f:F) (c:Nat) (bks:Nat→List E) (se wa:List (Nat×O)) (i:Nat) (os:List OV) (k:Nat) (bo:Nat→Option Addr) (bc:Nat→Nat) (so:Option Addr) (sc:Nat) (ss:List AV) (g off cap:Nat) (ws:List AV):Prop where
 seen:ss.map AV.p=se++Ln.seenOf i ((os.take k).map OV.o)
 wait:ws.map AV.p=wa++Ln.waitOf n i ((os.take k).map OV.o)
 lenS:ss.length≤31*c+k
 lenW:ws.length≤31*c+k
 mem:CM w W b0 n.K gk f bks bo bc so sc ss g off cap ws
section
variable {w W:World}{n:Net}{t:List Tr}{vid:Int}{b0 gk:Nat}{f:F}{s0 s:Ln.Cs}{c:Nat}{bo:Nat→Option Addr}{bc:Nat→Nat}{so:Option Addr}{sc:Nat}{ss:List AV}{g off cap:Nat}{ws:List AV}
theorem CI.fin (h:CI w W n t vid b0 gk f s0 s c bo bc so sc ss g off cap ws) (he:c=41∨ws=[]) {RR:Ln.Cs}(hR:RR=Ln.carry n t vid f 41 s0) :
  RR.err=0∧BkO W b0 gk n.K RR.books bo bc∧w.grownBy W (some gk)∧decide (ws.length=0)=decide (RR.wait=[])∧ss.map AV.p=RR.seen∧W.ownsRow w.heap.size 97 9 (.slice so ss.length sc) ss.length (cellsL ss.length 9 (fun i=>sC f (aat ss i)))∧∀x∈ss,Dt W w.heap.size f x.v:=by
 have e:RR=s:=by
  rw[hR,h.eq];rcases he with rfl | rfl
  ·rfl
  ·exact Ln.carry_nil _ _ _ _ _ _ h.wait.symm
 rw[e];refine⟨h.err,h.mem.bk,h.mem.grow,?_,h.seen,h.mem.row,h.mem.dS⟩;rw[←h.wait];cases ws<;>simp
theorem CI.next {W2:World}{x:AV}{rest:List AV}(h:CI w W n t vid b0 gk f s0 s c bo bc so sc ss g off cap (x :: rest)) (hc:c≤40) (hR:n.Right) {os:List OV}(hos:os.map OV.o=(Ln.rl n t vid f s.books x.i x.v.o).out) (he:(Ln.rl n t vid f s.books x.i x.v.o).err=0) {bo':Nat→Option Addr}{bc':Nat→Nat}{so':Option Addr}{sc':Nat}{ss':List AV}{g' off' cap':Nat}{ws':List AV}{k:Nat}(hk:k=os.length)
  (j:CJ w W2 n b0 gk f c (fun j=>if j=x.i then(Ln.rl n t vid f s.books x.i x.v.o).book else s.books j) s.seen (rest.map AV.p) x.i os k bo' bc' so' sc' ss' g' off' cap' ws'):CI w W2 n t vid b0 gk f s0 (Ln.step n t vid f s x.p (rest.map AV.p)) (c+1) bo' bc' so' sc' ss' g' off' cap' ws':=by
 subst hk;have hw:s.wait=x.p :: rest.map AV.p:=h.wait.symm;have hlen:os.length≤31:=by
  have:=Ln.out_few (r:=rgR (n.bs x.i)) (l:=Ln.gates n t vid x.i) (b:=s.books x.i) (p:=x.v.o.port) (f:=Ln.frO f x.v.o);have e1:os.length=(Ln.rl n t vid f s.books x.i x.v.o).out.length:=(by rw[←hos,List.length_map])
  rw[e1];exact this
 have j1:=j.seen;have j2:=j.wait;rw[List.take_length,hos] at j1 j2;refine⟨?_,he,j1,j2,by have:=j.lenS;omega,by have:=j.lenW;omega,fun y hy => ?_,j.mem⟩
 ·rw[h.eq,show 41-c=(41-(c+1))+1 by omega,Ln.carry_cons n t vid f _ s hw,if_pos (show(Ln.step n t vid f s x.p (rest.map AV.p)).err=0 from he)]
 ·rcases List.mem_append.1 hy with hy | hy
  ·exact h.range y (by rw[hw];exact List.mem_cons_of_mem _ hy)
  ·exact Ln.wait_range hR y hy
theorem CI.bad {x:AV}{rest:List AV}(h:CI w W n t vid b0 gk f s0 s c bo bc so sc ss g off cap (x :: rest)) (hc:c≤40) (he:(Ln.rl n t vid f s.books x.i x.v.o).err≠0):Ln.carry n t vid f 41 s0=Ln.step n t vid f s x.p (rest.map AV.p):=by
 have hw:s.wait=x.p :: rest.map AV.p:=h.wait.symm;rw[h.eq,show 41-c=(41-(c+1))+1 by omega,Ln.carry_cons n t vid f _ s hw,if_neg (show ¬(Ln.step n t vid f s x.p (rest.map AV.p)).err=0 from he)]
end
section
variable {w W W2:World}{n:Net}{b0 gk:Nat}{f:F}{c:Nat}{bks:Nat→List E}{se wa:List (Nat×O)}{i:Nat}{os:List OV}{k:Nat}{bo:Nat→Option Addr}{bc:Nat→Nat}{so:Option Addr}{sc:Nat}{ss:List AV}{g off cap:Nat}{ws:List AV}
theorem take_o (hk:k<os.length):(os.take (k+1)).map OV.o=(os.take k).map OV.o++[(oat os k).o]:=by
 rw[oat_get os k hk,List.take_succ_eq_append_getElem hk,List.map_append];rfl
theorem CJ.see {so':Option Addr}{sc':Nat}(j:CJ w W n b0 gk f c bks se wa i os k bo bc so sc ss g off cap ws) (hk:k<os.length) (hp:(oat os k).o.port=0) (hm:CM w W2 b0 n.K gk f bks bo bc so' sc' (ss++[⟨i,oat os k⟩]) g off cap ws):CJ w W2 n b0 gk f c bks se wa i os (k+1) bo bc so' sc' (ss++[⟨i,oat os k⟩]) g off cap ws:=by
 refine⟨?_,?_,by have:=j.lenS;simp;omega,by have:=j.lenW;omega,hm⟩
 ·rw[take_o hk,Ln.seenOf_snoc,if_pos hp,List.map_append,j.seen,List.append_assoc];rfl
 ·rw[take_o hk,Ln.waitOf_snoc,j.wait];have:Ln.crs n i (oat os k).o=none:=if_pos hp;rw[this];simp
theorem CJ.skip (j:CJ w W n b0 gk f c bks se wa i os k bo bc so sc ss g off cap ws) (hk:k<os.length) (hp:(oat os k).o.port≠0) (hc:Ln.crs n i (oat os k).o=none) (hm:CM w W2 b0 n.K gk f bks bo bc so sc ss g off cap ws):CJ w W2 n b0 gk f c bks se wa i os (k+1) bo bc so sc ss g off cap ws:=by
 refine⟨?_,?_,by have:=j.lenS;omega,by have:=j.lenW;omega,hm⟩
 ·rw[take_o hk,Ln.seenOf_snoc,if_neg hp,List.append_nil,j.seen]
 ·rw[take_o hk,Ln.waitOf_snoc,j.wait,hc];simp
theorem CJ.wai {g' off' cap':Nat}{y:Nat×O}(j:CJ w W n b0 gk f c bks se wa i os k bo bc so sc ss g off cap ws) (hk:k<os.length) (hp:(oat os k).o.port≠0) (hc:Ln.crs n i (oat os k).o=some y) (hm:CM w W2 b0 n.K gk f bks bo bc so sc ss g' off' cap' (ws++[⟨y.1,⟨y.2,(oat os k).da,(oat os k).dc⟩⟩])):CJ w W2 n b0 gk f c bks se wa i os (k+1) bo bc so sc ss g' off' cap' (ws++[⟨y.1,⟨y.2,(oat os k).da,(oat os k).dc⟩⟩]):=by
 refine⟨?_,?_,by have:=j.lenS;omega,by have:=j.lenW;simp;omega,hm⟩
 ·rw[take_o hk,Ln.seenOf_snoc,if_neg hp,List.append_nil,j.seen]
 ·rw[take_o hk,Ln.waitOf_snoc,hc,List.map_append,j.wait,List.append_assoc];rfl
end
def CyOut (w:World) (b0 gk K:Nat) (f:F) (RR:Ln.Cs) (e:Ending) (w':World):Prop:=∃so sc ss ended bo' bc',e=.returned (.tuple #[.slice so (ss:List AV).length sc,.bool ended,.int .i64 RR.err])∧Hid (BkO w' b0 gk K RR.books bo' bc'∧w.grownBy w' (some gk)∧((RR.err=0∧ended=decide (RR.wait=[])∧ss.map AV.p=RR.seen∧w'.ownsRow w.heap.size 97 9 (.slice so ss.length sc) ss.length (cellsL ss.length 9 (fun i=>sC f (aat ss i)))∧∀x∈ss,Dt w' w.heap.size f x.v)∨(RR.err≠0∧ended=false∧ss=[]∧so=none∧sc=0)))
theorem jcarry_any (n:Net) (t:List Tr) (oao:Option Addr) (ocap:Nat) (vid:Int) (TB NB VB KB b0 gk kcap P M nM:Nat) (f:F) (i0:Nat) (o0:O) (bks:Nat→List E) (bo:Nat→Option Addr) (bc:Nat→Nat) (w:World) (h:CyH w n t oao ocap vid TB NB VB KB b0 gk kcap P M nM f) (hB:BkO w b0 gk n.K bks bo bc) (hi:i0<n.K) (s0:Ln.Cs) (hs0:s0=⟨[],[(i0,o0)],bks,0⟩) :
  Calls Tryz.prog 61 #[.agg #[.int .i64 (i0:Int),.int .i64 o0.port,.int .u64 f.dst,.int .u64 f.src,.bool o0.tagged,.int .i64 o0.prio,.bool o0.drop,.int .i64 o0.vid,.int .i64 f.type,.slice f.ao f.n f.cap],.func (.func 100) #[] #[.pointer (some ⟨TB,0,none⟩),.pointer (some ⟨NB,0,none⟩),.pointer (some ⟨VB,0,none⟩),.pointer (some ⟨KB,0,none⟩)],.func (.func 103) #[] #[.pointer (some ⟨P,0,none⟩)]] w fun e w'=>CyOut w b0 gk n.K f (Ln.carry n t vid f 41 s0) e w':=by
 obtain⟨Z,HZ⟩:∃Z,Hid (Z=(w.alloc (.cells (aA f ⟨i0,⟨o0,f.ao,f.cap⟩⟩) 141)).alloc (.cells (aA f ⟨i0,⟨o0,f.ao,f.cap⟩⟩) 141)):=⟨_,rfl⟩
 have hZB:Bl w Z:=(by rw[HZ.out];exact bA2 _ _ _)
 have HI0:Hid (CI w Z n t vid b0 gk f s0 s0 0 bo bc none 0 [] (w.heap.size+1) 0 1 [⟨i0,⟨o0,f.ao,f.cap⟩⟩]):=by
  subst hs0;refine⟨rfl,rfl,rfl,rfl,by simp,by simp,fun x hx => ?_,?_⟩
  ·obtain rfl:x=(i0,o0):=by simpa using hx
   exact hi
  ·refine⟨ownsC_nil _ _ _ _ _,QAt.one (by rw[HZ.out];exact heap_alloc2_new w _ _) (by omega),(fun x hx=>by simp at hx),fun x hx => ?_,hB.ty (Ty.below _ hZB) (Ty.below _ hZB),grown_low (World.grownBy.refl _ _) hZB⟩;obtain rfl:x=⟨i0,⟨o0,f.ao,f.cap⟩⟩:=by simpa using hx
   exact Or.inl ⟨rfl,rfl⟩
 have HH:Hid (CyH w n t oao ocap vid TB NB VB KB b0 gk kcap P M nM f):=h;obtain⟨RR,hRR⟩:∃RR,RR=Ln.carry n t vid f 41 s0:=⟨_,rfl⟩
 rw[←hRR];have HRR:Hid (RR=Ln.carry n t vid f 41 s0):=hRR;clear h hB hi hZB hs0 hRR;unfold aA at HZ;simp only at HZ;go_enter Tryz.func61,Tryz.ntmps61;(go_wp2_with fail);rw[←HZ.out];go_loopw [9,10,11] (fun s9 s10 s11 wr=>∃(c:Nat) (so:Option Addr) (sn sc g off qn cap:Nat),c≤41∧s9=.slice so sn sc∧s10=.slice (some ⟨g,off,none⟩) qn cap∧s11=.int .i64 c∧Hid (∃s ss ws bo bc,CI w wr n t vid b0 gk f s0 s c bo bc so sc ss g off cap ws∧sn=ss.length∧qn=ws.length)) (fun _ _ i _=>41-(intOf i).toNat)
 case atStart=>exact⟨0,none,0,0,w.heap.size+1,0,1,1,by omega,rfl,rfl,rfl,⟨s0,[],_,bo,bc,HI0.out,rfl,rfl⟩⟩
 case round =>
  obtain⟨c,so,sn,sc,g,off,qn,cap,hc,rfl,rfl,rfl,hX⟩:=hrel;clear HI0 bo bc HZ Z;by_cases hc2:c≤40
  ·by_cases hq:0<qn
   ·obtain⟨s,ss,ws,bo,bc,hI,rfl,rfl⟩:=hX.out;obtain⟨x,rest,rfl⟩:∃x rest,ws=x :: rest:=by
     cases ws with
     | nil=>simp at hq
     | cons x rest=>exact⟨x,rest,rfl⟩
    have HI:Hid (CI w wr n t vid b0 gk f s0 s c bo bc so sc ss g off cap (x :: rest)):=hI;obtain⟨X,HXX⟩:∃X,Hid (X=wr.alloc (.cells (aA f x) 141)):=⟨_,rfl⟩
    have hXB:Bl wr X:=(by rw[HXX.out];exact bA1 _ _)
    have hXa:X.heap[wr.heap.size]?=some (.cells (aA f x) 141):=(by rw[HXX.out];exact heap_alloc_last _ _)
    have hXc:X.heap.size=wr.heap.size+1:=(by rw[HXX.out];simp)
    have hm:=hI.mem.below hXB;have hgl:=hI.mem.q.lt;have hgw:=hI.mem.grow.size;have hgk:=HH.out.gkl;have hxi:x.i<n.K:=hI.range x.p (by rw[←hI.wait];exact List.mem_cons_self ..);have hql:=hI.lenW;have hqc:rest.length+1≤cap:=hI.mem.q.2.1;obtain⟨res,hres⟩:∃res,res=Ln.rl n t vid f s.books x.i x.v.o:=⟨_,rfl⟩
    obtain⟨nb,hnb⟩:∃nb:Nat→List E,nb=fun j=>if j=x.i then res.book else s.books j:=⟨_,rfl⟩
    obtain⟨off1,ho1,ho2⟩:∃off1,(cap=1→off1=off)∧(cap≠1→off1=off+10):=⟨if cap=1 then off else off+10,fun e=>if_pos e,fun e=>if_neg e⟩
    have HRL:Hid (Calls Tryz.prog 100 #[.agg (aA f x),.pointer (some ⟨TB,0,none⟩),.pointer (some ⟨NB,0,none⟩),.pointer (some ⟨VB,0,none⟩),.pointer (some ⟨KB,0,none⟩)] X fun e w'=>∃oo oc os bo' bc',e=.returned (.tuple #[.slice oo (os:List OV).length oc,.int .i64 res.err])∧Hid (os.map OV.o=res.out∧OwnO w' X.heap.size (.slice oo os.length oc) f os∧CJ w w' n b0 gk f c nb s.seen (rest.map AV.p) x.i os 0 bo' bc' so sc ss g off1 (cap-1) rest∧w'.heap[wr.heap.size]?=some (.cells (aA f x) 141)∧X.heap.size≤w'.heap.size)):=by
     obtain⟨d1,d2⟩:=(hm.dW x (List.mem_cons_self ..)).row (HH.out.dat X hm.grow) HH.out.nil;refine(jrelay_any n t oao ocap vid TB NB VB KB gk kcap s.books bo bc x.i x.v.o.port (Ln.frV f x.v) X (HH.out.rel X _ _ _ hm.grow hm.bk.bk) hxi d1 d2 HH.out.dst HH.out.src).mono ?_;rintro e w' ⟨oo,oc,os,fa,fb,bo',bc',rfl,H⟩;have H1:=H.out;rw[Ln.rl_eq n t vid f s.books x.i x.v fa fb,←hres] at H1;obtain⟨k1,k2,k3,k4,k5⟩:=H1;have k2':OwnO w' X.heap.size (.slice oo os.length oc) f os:=⟨k2.row,k2.data⟩
     refine⟨oo,oc,os,(fun j=>if j=x.i then bo' else bo j),(fun j=>if j=x.i then bc' else bc j),by rw[Ln.rl_eq n t vid f s.books x.i x.v fa fb,←hres],k1,k2',⟨by simp[Ln.seenOf,hI.seen],by simp[Ln.waitOf],by have:=hI.lenS;omega,by simp only[List.length_cons] at hql;omega,?_⟩,(k5.block _ (by omega) (by simp;omega)).trans hXa,k5.size⟩;rw[hnb];exact(hm.tail1 ho1 ho2).book hgk (k3.mono (Nat.le_trans HH.out.b0l hm.grow.size)) k5 k4
    have HNX:Hid (∀(W2:World) (os:List OV) (bo':Nat→Option Addr) (bc':Nat→Nat) (so':Option Addr) (sc':Nat) (ss':List AV) (g' off' cap':Nat) (ws':List AV) (k:Nat),os.map OV.o=res.out→res.err=0→k=os.length→CJ w W2 n b0 gk f c nb s.seen (rest.map AV.p) x.i os k bo' bc' so' sc' ss' g' off' cap' ws'→∃s' ss2 ws2 bo2 bc2,CI w W2 n t vid b0 gk f s0 s' (c+1) bo2 bc2 so' sc' ss2 g' off' cap' ws2∧ss'.length=ss2.length∧ws'.length=ws2.length):=fun W2 os bo' bc' so' sc' ss' g' off' cap' ws' k h1 h2 h3 h4=>by
     rw[hnb,hres] at h4;rw[hres] at h1 h2;exact⟨_,ss',ws',bo',bc',HI.out.next hc2 HH.out.right h1 h2 h3 h4,rfl,rfl⟩
    have HBD:Hid (res.err≠0→RR.err=res.err∧RR.books=nb):=fun he=>by
     rw[hres] at he;rw[HRR.out,HI.out.bad hc2 he,hnb,hres];exact⟨rfl,rfl⟩
    have HPT:Hid (∀os:List OV,os.map OV.o=res.out→∀o∈os,0≤o.o.port∧o.o.port≤30):=fun os h o ho=>by
     have h1:o.o∈res.out:=(by rw[←h];exact List.mem_map_of_mem ho)
     rw[hres] at h1;exact(Ln.out_port h1).1
    have HLN:Hid (∀os:List OV,os.map OV.o=res.out→os.length≤31):=fun os h=>by
     have e1:os.length=res.out.length:=(by rw[←h,List.length_map])
     rw[e1,hres];exact Ln.out_few
    have q0:=hI.mem.q.cell (i:=0) (by simp) (j:=0) (by omega);have q1:=hI.mem.q.cell (i:=0) (by simp) (j:=1) (by omega);have q2:=hI.mem.q.cell (i:=0) (by simp) (j:=2) (by omega);have q3:=hI.mem.q.cell (i:=0) (by simp) (j:=3) (by omega);have q4:=hI.mem.q.cell (i:=0) (by simp) (j:=4) (by omega);have q5:=hI.mem.q.cell (i:=0) (by simp) (j:=5) (by omega);have q6:=hI.mem.q.cell (i:=0) (by simp) (j:=6) (by omega);have q7:=hI.mem.q.cell (i:=0) (by simp) (j:=7) (by omega);have q8:=hI.mem.q.cell (i:=0) (by simp) (j:=8) (by omega);have q9:=hI.mem.q.cell (i:=0) (by simp) (j:=9) (by omega);simp only[Nat.zero_mul,Nat.add_zero] at q0 q1 q2 q3 q4 q5 q6 q7 q8 q9;clear hI HI hX hm hXB hres hnb;obtain⟨xi,⟨⟨xp,xt,xr,xd,xv⟩,xa,xc⟩⟩:=x;have q0':wr.cell? ⟨g,off,none⟩=some (.int .i64 (xi:Int)):=q0;have q1':wr.cell? ⟨g,off+1,none⟩=some (.int .i64 xp):=q1;have q2':wr.cell? ⟨g,off+2,none⟩=some (.int .u64 f.dst):=q2;have q3':wr.cell? ⟨g,off+3,none⟩=some (.int .u64 f.src):=q3;have q4':wr.cell? ⟨g,off+4,none⟩=some (.bool xt):=q4;have q5':wr.cell? ⟨g,off+5,none⟩=some (.int .i64 xr):=q5;have q6':wr.cell? ⟨g,off+6,none⟩=some (.bool xd):=q6;have q7':wr.cell? ⟨g,off+7,none⟩=some (.int .i64 xv):=q7;have q8':wr.cell? ⟨g,off+8,none⟩=some (.int .i64 f.type):=q8;have q9':wr.cell? ⟨g,off+9,none⟩=some (.slice xa f.n xc):=q9;have xx0:X.cell? ⟨wr.heap.size,0,none⟩=some (.int .i64 (xi:Int)):=cell_of_row _ _ 0 _ _ _ hXa;clear q0 q1 q2 q3 q4 q5 q6 q7 q8 q9;simp only[List.length_cons] at *;unfold aA at HXX HRL hXa;simp only at HXX HRL hXa;(go_upto_region 7 with fail);rw[←HXX.out];go_cut [10] (fun v wx=>v=.slice (some ⟨g,off1,none⟩) rest.length (cap-1)∧Hid (wx=X))
    case first =>
     by_cases hcp:cap=1
     ·have e1:=ho1 hcp;subst hcp e1;have hr0:rest.length=0:=(by omega)
      (go_wp2_with fail);go_meet
      exact⟨by rw[hr0],rfl⟩
     ·have e1:=ho2 hcp;subst e1;have hcp2:1<cap:=(by omega)
      (go_wp2_with fail);go_meet
      exact⟨rfl,rfl⟩
    case rest =>
    obtain⟨rfl,HWC⟩:=hcut;obtain rfl:=HWC.out;clear q0' q1' q2' q3' q4' q5' q6' q7' q8' q9' HXX;obtain⟨BX,HBX⟩:∃BX,Hid (BX=wr.heap.size):=⟨_,rfl⟩
    rw[←HBX.out] at HRL hXa xx0 hgl hgw hXc ⊢;have y0:=cell_of_row _ _ 0 _ _ _ hXa;have y1:=cell_of_row _ _ 1 _ _ _ hXa;have y2:=cell_of_row _ _ 2 _ _ _ hXa;have y3:=cell_of_row _ _ 3 _ _ _ hXa;have y4:=cell_of_row _ _ 4 _ _ _ hXa;have y5:=cell_of_row _ _ 5 _ _ _ hXa;have y6:=cell_of_row _ _ 6 _ _ _ hXa;have y7:=cell_of_row _ _ 7 _ _ _ hXa;have y8:=cell_of_row _ _ 8 _ _ _ hXa;have y9:=cell_of_row _ _ 9 _ _ _ hXa;simp only[List.getElem?_toArray,List.getElem?_cons_zero,List.getElem?_cons_succ] at y0 y1 y2 y3 y4 y5 y6 y7 y8 y9;(go_wp2_with fail);refine HRL.out.mono ?_;rintro e w5 ⟨oo,oc,os,bo',bc',rfl,H5⟩;clear y0 y1 y2 y3 y4 y5 y6 y7 y8 y9 HRL hXa xx0;by_cases her:res.err=0
    ·have hol:=HLN.out os H5.out.1;obtain⟨_,hown5,_,_,hXs5⟩:=H5.out;have hoc:os.length≤oc:=by
      obtain⟨a,b,e,h1,_⟩:=hown5.el;injection e with e1 _ e2;subst e1 e2;exact h1.row.1
     clear hown5;(go_wp2_with fail);go_loopw [9,10,46] (fun s9 s10 s46 wq=>∃(k:Nat) (so':Option Addr) (sn sc' g' off' qn cap':Nat),k≤os.length∧s9=.slice so' sn sc'∧s10=.slice (some ⟨g',off',none⟩) qn cap'∧s46=.int .i64 k∧Hid (∃ss' ws' bo' bc',CJ w wq n b0 gk f c nb s.seen (rest.map AV.p) xi os k bo' bc' so' sc' ss' g' off' cap' ws'∧sn=ss'.length∧qn=ws'.length∧g'≠BX∧OwnO wq wc.heap.size (.slice oo os.length oc) f os∧wq.heap[BX]?=some (.cells #[.int .i64 (xi:Int),.int .i64 xp,.int .u64 f.dst,.int .u64 f.src,.bool xt,.int .i64 xr,.bool xd,.int .i64 xv,.int .i64 f.type,.slice xa f.n xc] 141))) (fun _ _ i _=>os.length-(intOf i).toNat)
     case atStart =>
      obtain⟨_,k2,k3,k4,_⟩:=H5.out;exact⟨0,so,ss.length,sc,g,off1,rest.length,cap-1,by omega,rfl,rfl,rfl,⟨ss,rest,bo',bc',k3,rfl,rfl,by omega,k2,k4⟩⟩
     case round =>
      obtain⟨k,so',sn,sc',g',off',qn,cap',hk,rfl,rfl,rfl,hJ⟩:=hrel;by_cases hlt:k<os.length
      ·obtain⟨ss',ws',bo1,bc1,hj,rfl,rfl,hgn,hown,hbx⟩:=hJ.out;obtain⟨oa1,oc1,eo,horw,_⟩:=hown.el;injection eo with eo1 _ eo2;subst eo1 eo2;obtain⟨ob,ooff,rfl,hobl⟩:=horw.place (by omega);obtain⟨p0,p1,p2,p3,p4,p5,p6,p7,p8⟩:=horw.cells hlt;have hdt:Dt wr w.heap.size f (oat os k):=Or.inr (owns_mono (hown.data _ (oat_mem os k hlt)) (by have:=hj.mem.grow.size;omega));obtain⟨hpt1,hpt2⟩:=HPT.out os H5.out.1 _ (oat_mem os k hlt);obtain⟨Y,HYY⟩:∃Y,Hid (Y=wr.alloc (.cells (oA f (oat os k)) 191)):=⟨_,rfl⟩
       have hYB:Bl wr Y:=(by rw[HYY.out];exact bA1 _ _)
       have hYa:Y.heap[wr.heap.size]?=some (.cells (oA f (oat os k)) 191):=(by rw[HYY.out];exact heap_alloc_last _ _)
       have hYx:=keep hbx hYB;have hmY:=hj.mem.below hYB;have hownY:=hown.below hYB;have hdtY:=(Ty.below _ hYB).dt hdt;have hl1:=hj.lenS;have hl2:=hj.lenW;have hbs:=hmY.grow.size;have hbxl:BX<wr.heap.size:=(gSm.1 hbx).1;have HOT:Hid (∀W2,Ty Y W2 191→Ty Y W2 5→OwnO W2 wc.heap.size (.slice (some ⟨ob,ooff,none⟩) os.length oc) f os):=fun W2 t1 t2=>⟨t1.owns hownY.row,fun x hx=>t2.owns (hownY.data x hx)⟩
       have i1:(k:Int)<(os.length:Int):=(by omega)
       have x0:Y.cell? ⟨BX,0,none⟩=some (.int .i64 (xi:Int)):=cell_of_row _ _ 0 _ _ _ hYx;have z0:Y.cell? ⟨wr.heap.size,0,none⟩=some (.int .i64 (oat os k).o.port):=cell_of_row _ _ 0 _ _ _ hYa;have z1:Y.cell? ⟨wr.heap.size,1,none⟩=some (.int .u64 f.dst):=cell_of_row _ _ 1 _ _ _ hYa;have z2:Y.cell? ⟨wr.heap.size,2,none⟩=some (.int .u64 f.src):=cell_of_row _ _ 2 _ _ _ hYa;have z3:Y.cell? ⟨wr.heap.size,3,none⟩=some (.bool (oat os k).o.tagged):=cell_of_row _ _ 3 _ _ _ hYa;have z4:Y.cell? ⟨wr.heap.size,4,none⟩=some (.int .i64 (oat os k).o.prio):=cell_of_row _ _ 4 _ _ _ hYa;have z5:Y.cell? ⟨wr.heap.size,5,none⟩=some (.bool (oat os k).o.drop):=cell_of_row _ _ 5 _ _ _ hYa;have z6:Y.cell? ⟨wr.heap.size,6,none⟩=some (.int .i64 (oat os k).o.vid):=cell_of_row _ _ 6 _ _ _ hYa;have z7:Y.cell? ⟨wr.heap.size,7,none⟩=some (.int .i64 f.type):=cell_of_row _ _ 7 _ _ _ hYa;have z8:Y.cell? ⟨wr.heap.size,8,none⟩=some (.slice (oat os k).da f.n (oat os k).dc):=cell_of_row _ _ 8 _ _ _ hYa;by_cases hpz:(oat os k).o.port=0
       ·obtain⟨a1,c1,W2,hrun,ho2,hb2,ht2⟩:=more_s w.heap.size Y (.slice so' ss'.length sc') f ss' ⟨xi,oat os k⟩ hmY.row (by omega) hbs;have HEND:Hid (∃ss2 ws2 bo2 bc2,CJ w W2 n b0 gk f c nb s.seen (rest.map AV.p) xi os (k+1) bo2 bc2 a1 c1 ss2 g' off' cap' ws2∧ss'.length+1=ss2.length∧ws'.length=ws2.length∧g'≠BX∧OwnO W2 wc.heap.size (.slice (some ⟨ob,ooff,none⟩) os.length oc) f os∧W2.heap[BX]?=some (.cells #[.int .i64 (xi:Int),.int .i64 xp,.int .u64 f.dst,.int .u64 f.src,.bool xt,.int .i64 xr,.bool xd,.int .i64 xv,.int .i64 f.type,.slice xa f.n xc] 141)):=⟨ss'++[⟨xi,oat os k⟩],ws',bo1,bc1,hj.see hlt hpz (hmY.seen hdtY ho2 hb2 ht2),by simp,rfl,hgn,HOT.out W2 (fun q cur h=>ht2 q cur _ h (by decide)) (fun q cur h=>ht2 q cur _ h (by decide)),ht2 _ _ _ hYx (by decide)⟩
        have HRN:Hid (runAppS (.slice so' ss'.length sc') (.slice (some ⟨Y.heap.size,0,none⟩) 1 1) (Y.alloc (.cells #[.int .i64 (xi:Int),.int .u64 f.dst,.int .u64 f.src,.bool (oat os k).o.tagged,.int .i64 (oat os k).o.prio,.bool (oat os k).o.drop,.int .i64 (oat os k).o.vid,.int .i64 f.type,.slice (oat os k).da f.n (oat os k).dc] 97)) (.slice a1 (ss'.length+1) c1) W2):=hrun;unfold oA at HYY;clear hrun ho2 hb2 ht2 HOT hdtY hownY hmY hYx hYa hYB hdt horw hown hj hJ hbx HNX HBD H5;generalize oat os k=o at *;obtain⟨⟨op,ot,oq,od,ov⟩,oda,odc⟩:=o;simp only at *;subst hpz;(go_upto_region 14 with fail);rw[←HYY.out];clear p0 p1 p2 p3 p4 p5 p6 p7 p8;go_wp2_with (at_builtin;refine wpList_append_run rfl (.tmp 53) (.tmp 60) 86 rfl _ _ _ rfl rfl HRN.out ?_;clear HRN)
        exact⟨⟨k+1,a1,ss'.length+1,c1,g',off',ws'.length,cap',by omega,rfl,rfl,rfl,HEND⟩,by simp only[intOf];omega⟩
       ·obtain⟨cr1,cr2⟩:=HH.out.crs Y hmY.grow;have hxw:(Lit.int .i64 (xi:Int)).wf=true:=mwf (by omega) (by have:=HH.out.right.few;omega);have hpw:(Lit.int .i64 (oat os k).o.port).wf=true:=mwf hpt1 (by omega);have HCR0:=jcross_any P M nM (crossTo n.ls n.L) ((xi:Int),(oat os k).o.port) Y cr1 cr2 hxw hpw;cases hcx:crossTo n.ls n.L ((xi:Int),(oat os k).o.port) with
        | none =>
         rw[hcx] at HCR0;have HCR:Hid (Calls Tryz.prog 103 #[.agg #[.int .i64 (xi:Int),.int .i64 (oat os k).o.port],.pointer (some ⟨P,0,none⟩)] Y fun e w'=>e=.returned (.tuple #[.agg #[.int .i64 0,.int .i64 0],.bool false])∧Hid (Bl Y w')):=HCR0;have hcs:Ln.crs n xi (oat os k).o=none:=(by unfold Ln.crs;rw[if_neg hpz,hcx];rfl)
         have HEN:Hid (∀w6,Bl Y w6→∃ss2 ws2 bo2 bc2,CJ w (w6.alloc (.cells #[.int .i64 0,.int .i64 0] 139)) n b0 gk f c nb s.seen (rest.map AV.p) xi os (k+1) bo2 bc2 so' sc' ss2 g' off' cap' ws2∧ss'.length=ss2.length∧ws'.length=ws2.length∧g'≠BX∧OwnO (w6.alloc (.cells #[.int .i64 0,.int .i64 0] 139)) wc.heap.size (.slice (some ⟨ob,ooff,none⟩) os.length oc) f os∧(w6.alloc (.cells #[.int .i64 0,.int .i64 0] 139)).heap[BX]?=some (.cells #[.int .i64 (xi:Int),.int .i64 xp,.int .u64 f.dst,.int .u64 f.src,.bool xt,.int .i64 xr,.bool xd,.int .i64 xv,.int .i64 f.type,.slice xa f.n xc] 141)):=fun w6 h6=>by
          have h7:Bl Y (w6.alloc (.cells #[.int .i64 0,.int .i64 0] 139)):=h6.trans ((bA1 w6 _).mono h6.size);exact⟨ss',ws',bo1,bc1,hj.skip hlt hpz hcs (hmY.below h7),rfl,rfl,hgn,HOT.out _ (Ty.below _ h7) (Ty.below _ h7),keep hYx h7⟩
         unfold oA at HYY;clear hcs HCR0 cr1 cr2 hxw hpw hcx HOT hdtY hownY hmY hYx hYa hYB hdt horw hown hj hJ hbx HNX HBD H5;generalize oat os k=o at *;obtain⟨⟨op,ot,oq,od,ov⟩,oda,odc⟩:=o;simp only at *;(go_upto_region 14 with fail);rw[←HYY.out];clear p0 p1 p2 p3 p4 p5 p6 p7 p8;(go_wp2_with fail);refine HCR.out.mono ?_;rintro e w6 ⟨rfl,H6⟩;clear HCR;(go_wp2_with fail);exact⟨⟨k+1,so',ss'.length,sc',g',off',ws'.length,cap',by omega,rfl,rfl,rfl,HEN.out w6 H6.out⟩,by simp only[intOf];omega⟩
        | some q =>
         obtain⟨⟨hq1,hq2⟩,hq3,hq4⟩:=Ln.crossTo_range HH.out.right.links n.L (Nat.le_refl _) hcx;obtain⟨q1,qp⟩:=q;obtain⟨m,rfl⟩:∃m:Nat,q1=(m:Int):=⟨q1.toNat,by simp only at hq1;omega⟩
         rw[hcx] at HCR0;have HCR:Hid (Calls Tryz.prog 103 #[.agg #[.int .i64 (xi:Int),.int .i64 (oat os k).o.port],.pointer (some ⟨P,0,none⟩)] Y fun e w'=>e=.returned (.tuple #[.agg #[.int .i64 (m:Int),.int .i64 qp],.bool true])∧Hid (Bl Y w')):=HCR0;have hcs:Ln.crs n xi (oat os k).o=some (m,{ (oat os k).o with port:=qp }):=(by unfold Ln.crs;rw[if_neg hpz,hcx];rfl)
         have HES:Hid (∀w6,Bl Y w6→∃g2 off2 cap2 W2,runAppQ (.slice (some ⟨g',off',none⟩) ws'.length cap') (.slice (some ⟨w6.heap.size+1,0,none⟩) 1 1) ((w6.alloc (.cells #[.int .i64 (m:Int),.int .i64 qp] 139)).alloc (.cells #[.int .i64 (m:Int),.int .i64 qp,.int .u64 f.dst,.int .u64 f.src,.bool (oat os k).o.tagged,.int .i64 (oat os k).o.prio,.bool (oat os k).o.drop,.int .i64 (oat os k).o.vid,.int .i64 f.type,.slice (oat os k).da f.n (oat os k).dc] 141)) (.slice (some ⟨g2,off2,none⟩) (ws'.length+1) cap2) W2∧Hid (∃ss2 ws2 bo2 bc2,CJ w W2 n b0 gk f c nb s.seen (rest.map AV.p) xi os (k+1) bo2 bc2 so' sc' ss2 g2 off2 cap2 ws2∧ss'.length=ss2.length∧ws'.length+1=ws2.length∧g2≠BX∧OwnO W2 wc.heap.size (.slice (some ⟨ob,ooff,none⟩) os.length oc) f os∧W2.heap[BX]?=some (.cells #[.int .i64 (xi:Int),.int .i64 xp,.int .u64 f.dst,.int .u64 f.src,.bool xt,.int .i64 xr,.bool xd,.int .i64 xv,.int .i64 f.type,.slice xa f.n xc] 141))):=fun w6 h6=>by
          obtain⟨Z6,hZ6⟩:∃Z6,Z6=w6.alloc (.cells #[.int .i64 (m:Int),.int .i64 qp] 139):=⟨_,rfl⟩
          have hzs:Z6.heap.size=w6.heap.size+1:=(by rw[hZ6];simp)
          have h7:Bl Y Z6:=(by rw[hZ6];exact h6.trans ((bA1 w6 _).mono h6.size))
          have hmZ:=hmY.below h7;have hys:=hYB.size;have h7s:=h7.size;obtain⟨g2,off2,cap2,W2,hrun,hq2',hg2,hb2,ht2⟩:=more_q w.heap.size g' off' cap' Z6 f ws' ⟨m,⟨{ (oat os k).o with port:=qp },(oat os k).da,(oat os k).dc⟩⟩ hmZ.q (by omega) hmZ.grow.size;obtain⟨cs,hgt⟩:=hmZ.q.type;rw[hzs,hZ6] at hrun;refine⟨g2,off2,cap2,W2,hrun,ss',ws'++[⟨m,⟨{ (oat os k).o with port:=qp },(oat os k).da,(oat os k).dc⟩⟩],bo1,bc1,hj.wai hlt hpz hcs (hmZ.more ((Ty.below _ h7).dt hdtY) hq2' hb2 ht2),rfl,by simp,?_,HOT.out _ (fun q cur hq=>Ty.but hgt ht2 _ (by decide) q cur (keep hq h7)) (fun q cur hq=>Ty.but hgt ht2 _ (by decide) q cur (keep hq h7)),(ht2 BX (fun e=>hgn e.symm) (by omega)).trans (keep hYx h7)⟩;rcases hg2 with e | e
          ·rw[e];exact hgn
          ·omega
         have HZC:Hid (∀w6,Bl Y w6→w6.cell? ⟨wr.heap.size,0,none⟩=some (.int .i64 (oat os k).o.port)∧w6.cell? ⟨wr.heap.size,1,none⟩=some (.int .u64 f.dst)∧w6.cell? ⟨wr.heap.size,2,none⟩=some (.int .u64 f.src)∧w6.cell? ⟨wr.heap.size,3,none⟩=some (.bool (oat os k).o.tagged)∧w6.cell? ⟨wr.heap.size,4,none⟩=some (.int .i64 (oat os k).o.prio)∧w6.cell? ⟨wr.heap.size,5,none⟩=some (.bool (oat os k).o.drop)∧w6.cell? ⟨wr.heap.size,6,none⟩=some (.int .i64 (oat os k).o.vid)∧w6.cell? ⟨wr.heap.size,7,none⟩=some (.int .i64 f.type)∧w6.cell? ⟨wr.heap.size,8,none⟩=some (.slice (oat os k).da f.n (oat os k).dc)):=fun w6 h6=>by
          have hk6:=keep hYa h6;exact⟨cell_of_row _ _ 0 _ _ _ hk6,cell_of_row _ _ 1 _ _ _ hk6,cell_of_row _ _ 2 _ _ _ hk6,cell_of_row _ _ 3 _ _ _ hk6,cell_of_row _ _ 4 _ _ _ hk6,cell_of_row _ _ 5 _ _ _ hk6,cell_of_row _ _ 6 _ _ _ hk6,cell_of_row _ _ 7 _ _ _ hk6,cell_of_row _ _ 8 _ _ _ hk6⟩
         unfold oA at HYY;clear hcs HCR0 cr1 cr2 hxw hpw hcx HOT hdtY hownY hmY hYx hYa hYB hdt horw hown hj hJ hbx HNX HBD H5;generalize oat os k=o at *;obtain⟨⟨op,ot,oq,od,ov⟩,oda,odc⟩:=o;simp only at *;(go_upto_region 14 with fail);rw[←HYY.out];clear p0 p1 p2 p3 p4 p5 p6 p7 p8;(go_wp2_with fail);refine HCR.out.mono ?_;rintro e w6 ⟨rfl,H6⟩;obtain⟨g2,off2,cap2,W2,hrun,HEND⟩:=HES.out w6 H6.out;obtain⟨t0,t1,t2,t3,t4,t5,t6,t7,t8⟩:=HZC.out (w6.alloc (.cells #[.int .i64 (m:Int),.int .i64 qp] 139)) (H6.out.trans ((bA1 w6 _).mono H6.out.size));have HRN:Hid (runAppQ (.slice (some ⟨g',off',none⟩) ws'.length cap') (.slice (some ⟨w6.heap.size+1,0,none⟩) 1 1) ((w6.alloc (.cells #[.int .i64 (m:Int),.int .i64 qp] 139)).alloc (.cells #[.int .i64 (m:Int),.int .i64 qp,.int .u64 f.dst,.int .u64 f.src,.bool ot,.int .i64 oq,.bool od,.int .i64 ov,.int .i64 f.type,.slice oda f.n odc] 141)) (.slice (some ⟨g2,off2,none⟩) (ws'.length+1) cap2) W2):=hrun;clear HCR HES HZC hrun z0 z1 z2 z3 z4 z5 z6 z7 z8 x0;go_wp2_with (at_builtin;refine wpList_append_run rfl (.tmp 74) (.tmp 79) 187 rfl _ _ _ rfl rfl HRN.out ?_;clear HRN)
         exact⟨⟨k+1,so',ss'.length,sc',g2,off2,ws'.length+1,cap2,by omega,rfl,rfl,rfl,HEND⟩,by simp only[intOf];omega⟩
      ·have HNN:Hid (∃s' ss2 ws2 bo2 bc2,CI w wr n t vid b0 gk f s0 s' (c+1) bo2 bc2 so' sc' ss2 g' off' cap' ws2∧sn=ss2.length∧qn=ws2.length):=by
        obtain⟨ss',ws',bo1,bc1,j,e1,e2,_⟩:=hJ.out;rw[e1,e2];exact HNX.out _ os bo1 bc1 so' sc' ss' g' off' cap' ws' k H5.out.1 her (by omega) j
       clear hJ;(go_wp2_with fail);exact⟨⟨c+1,so',sn,sc',g',off',qn,cap',by omega,rfl,rfl,rfl,HNN⟩,by simp only[intOf];omega⟩
    ·have HF:Hid (BkO w5 b0 gk n.K RR.books bo' bc'∧w.grownBy w5 (some gk)∧RR.err=res.err):=by
      obtain⟨e1,e2⟩:=HBD.out her;obtain⟨_,_,j5,_⟩:=H5.out;rw[e2];exact⟨j5.mem.bk,j5.mem.grow,e1⟩
     clear HBD;(go_wp2_with fail);go_ret3;exact⟨none,0,[],false,bo',bc',by rw[HF.out.2.2];rfl,HF.out.1,HF.out.2.1,Or.inr ⟨by rw[HF.out.2.2];exact her,rfl,rfl,rfl,rfl⟩⟩
   ·obtain⟨s,ss,ws,bo,bc,hI,rfl,rfl⟩:=hX.out;obtain rfl:ws=[]:=List.length_eq_zero_iff.1 (by omega);have HF:=hI.fin (Or.inr rfl) HRR.out;have HFF:Hid (RR.err=0∧BkO wr b0 gk n.K RR.books bo bc∧w.grownBy wr (some gk)∧true=decide (RR.wait=[])∧ss.map AV.p=RR.seen∧wr.ownsRow w.heap.size 97 9 (.slice so ss.length sc) ss.length (cellsL ss.length 9 (fun i=>sC f (aat ss i)))∧∀x∈ss,Dt wr w.heap.size f x.v):=HF;clear hI hX HF;simp only[List.length_nil] at *;(go_wp2_with fail);go_ret3;obtain⟨f1,f2,f3,f4,f5,f6,f7⟩:=HFF.out;exact⟨so,sc,ss,true,bo,bc,by rw[f1];rfl,f2,f3,Or.inl ⟨f1,f4,f5,f6,f7⟩⟩
  ·obtain⟨s,ss,ws,bo,bc,hI,rfl,rfl⟩:=hX.out;have HF:=hI.fin (Or.inl (by omega)) HRR.out;obtain⟨qn,hqn⟩:∃qn,qn=ws.length:=⟨_,rfl⟩
   rw[←hqn] at HF ⊢;clear hI hX hqn;by_cases hq:qn=0
   ·subst hq;have HFF:Hid (RR.err=0∧BkO wr b0 gk n.K RR.books bo bc∧w.grownBy wr (some gk)∧true=decide (RR.wait=[])∧ss.map AV.p=RR.seen∧wr.ownsRow w.heap.size 97 9 (.slice so ss.length sc) ss.length (cellsL ss.length 9 (fun i=>sC f (aat ss i)))∧∀x∈ss,Dt wr w.heap.size f x.v):=HF;clear HF;(go_wp2_with fail);go_ret3;obtain⟨f1,f2,f3,f4,f5,f6,f7⟩:=HFF.out;exact⟨so,sc,ss,true,bo,bc,by rw[f1];rfl,f2,f3,Or.inl ⟨f1,f4,f5,f6,f7⟩⟩
   ·rw[decide_eq_false hq] at HF;have HFF:Hid (RR.err=0∧BkO wr b0 gk n.K RR.books bo bc∧w.grownBy wr (some gk)∧false=decide (RR.wait=[])∧ss.map AV.p=RR.seen∧wr.ownsRow w.heap.size 97 9 (.slice so ss.length sc) ss.length (cellsL ss.length 9 (fun i=>sC f (aat ss i)))∧∀x∈ss,Dt wr w.heap.size f x.v):=HF;have hqi:((qn:Int) == 0)=false:=(by simp;omega)
    clear HF;(go_wp2_with fail);go_ret3;obtain⟨f1,f2,f3,f4,f5,f6,f7⟩:=HFF.out;exact⟨so,sc,ss,false,bo,bc,by rw[f1];rfl,f2,f3,Or.inl ⟨f1,f4,f5,f6,f7⟩⟩
end
section
open Go.RowKit
open Bk (E at')
structure BIn (w:World) (ko:Option Addr) (K kcap:Nat) (bks:Nat→List E) (bo:Nat→Option Addr) (bc:Nat→Nat):Prop where
 row:CRow w ko K kcap 1 (fun i _=>.slice (bo i) (bks i).length (bc i))
 each:∀i,i<K→BEL w (bo i) (bc i) (bks i)∧NilOk (bo i) (bks i).length (bc i)∧(bks i).length*32≤140737488355328
theorem BIn.below {w W:World}{ko:Option Addr}{K kcap:Nat}{bks:Nat→List E}{bo:Nat→Option Addr}{bc:Nat→Nat}(h:BIn w ko K kcap bks bo bc) (hb:Bl w W):BIn W ko K kcap bks bo bc:=⟨CRow.below h.row hb,fun i hi=>⟨(h.each i hi).1.below hb,(h.each i hi).2⟩⟩
theorem append_e0 (w:World) (base:Nat) (ao:Option Addr) (cp:Nat) (m:List E) (hr:BEL w ao cp m) (hnil:NilOk ao m.length cp) (hb:m.length*32≤140737488355328) (hbase:base≤w.heap.size) :
  ∃a1 c1 w',(Builtin.append_ #[186,186] 186 #[.slice none 0 0,.slice ao m.length cp]).run Tryz.prog w=.ok (.slice a1 m.length c1) w'∧OwnE w' base (.slice a1 m.length c1) m∧Below base w w'∧(∀q,q<w.heap.size→w'.heap[q]?=w.heap[q]?):=by
 obtain⟨a1,c1,w',r,o,b,q⟩:=append_c w 186 291 _ 4 32 Tryz.underlying186 infoEy rfl (by omega) base (.slice none 0 0) 0 (fun i=>eC (at' m i)) (ownsC_nil w base _ _ _) ao m.length cp (fun i=>eC (at' m i)) (fun _ _=>eC_one _ _) hr hnil (by unfold maxLen;omega) (by omega) hbase;rw[Nat.zero_add] at r o;refine⟨a1,c1,w',r,?_,b,fun x hx=>q x hx (by simp[Value.ownBlock])⟩;unfold OwnE;rw[cellsL_congr _ 4 _ (fun i=>eC (at' m i))] at o
 ·exact o
 ·intro i hi;unfold catC;rw[if_neg (by omega),Nat.sub_zero]
structure CpA (w W:World) (K:Nat) (bks:Nat→List E) (k:Nat) (bo:Nat→Option Addr) (bc:Nat→Nat):Prop where
 row:W.heap[w.heap.size]?=some (.cells (rowC K 1 (fun i _=>if i<k then .slice (bo i) (bks i).length (bc i) else .slice none 0 0)) 186)
 each:∀i,i<k→OwnE W w.heap.size (.slice (bo i) (bks i).length (bc i)) (bks i)
 low:Bl w W
theorem CpA.step {w W W':World}{K:Nat}{bks:Nat→List E}{k:Nat}{bo:Nat→Option Addr}{bc:Nat→Nat}(h:CpA w W K bks k bo bc) (hk:k<K) {a:Option Addr}{c:Nat}(ho:OwnE W' w.heap.size (.slice a (bks k).length c) (bks k)) (hb:Below w.heap.size W W') (hq:∀q,q<W.heap.size→W'.heap[q]?=W.heap[q]?) :
  CpA w (W'.setCell ⟨w.heap.size,k,none⟩ (.slice a (bks k).length c)) K bks (k+1) (fun i=>if i=k then a else bo i) (fun i=>if i=k then c else bc i):=by
 have hl:w.heap.size<W.heap.size:=(gSm.1 h.row).1;have hr:W'.heap[w.heap.size]?=_:=(hq _ hl).trans h.row;have hst:=rowC_set hr hk (show 0<1 by omega) (.slice a (bks k).length c);rw[show k*1+0=k by omega] at hst;have ty:Ty W' (W'.setCell ⟨w.heap.size,k,none⟩ (.slice a (bks k).length c)) 291:=Ty.but hr (fun q hne _=>heap_setCell_other _ _ _ _ (fun e=>hne e)) _ (by decide);refine⟨?_,fun i hi => ?_,?_⟩
 ·rw[hst];congr 2
  apply rC2
  intro i hi j hj;unfold updC;obtain rfl:j=0:=by omega
  by_cases e:i=k
  ·subst e;rw[if_pos ⟨rfl,rfl⟩,if_pos (by omega),if_pos rfl,if_pos rfl]
  ·rw[if_neg (fun q=>e q.1)];show(if i<k then _ else _)=_;by_cases e2:i<k
   ·rw[if_pos e2,if_pos (by omega),if_neg e,if_neg e]
   ·rw[if_neg e2,if_neg (by omega)]
 ·by_cases e:i=k
  ·subst e;simp only[if_true];exact ty.owns ho
  ·simp only[if_neg e];refine ty.owns ?_;have h1:=h.each i (by omega);exact(show Ty W W' 291 from fun q cur hc=>(hq q (gSm.1 hc).1).trans hc).owns h1
 ·exact(h.low.trans hb).setCell (Nat.le_refl _) _
theorem jcopied_any (ko:Option Addr) (K kcap:Nat) (bks:Nat→List E) (bo:Nat→Option Addr) (bc:Nat→Nat) (w:World) (h:BIn w ko K kcap bks bo bc) (hK:K≤12) :
  Calls Tryz.prog 60 #[.slice ko K kcap] w fun e w'=>e=.returned (.slice (some ⟨w.heap.size,0,none⟩) K K)∧Hid (∃bo' bc',BkO w' w.heap.size w.heap.size K bks bo' bc'∧Bl w w'):=by
 have hmk:∀W:World,(Instr.makeSlice 93 (.int .i64 (K:Int)) (.int .i64 (K:Int))).run Tryz.prog W=.ok (.slice (some ⟨W.heap.size,0,none⟩) K K) (W.alloc (.cells (rowC K 1 (fun _ _=>.slice none 0 0)) 186)):=fun W=>make_rowD W 93 186 (.slice none 0 0) 1 24 K Tryz.underlying93 (by kernel_rfl) (by omega) rfl (by omega) (by omega) _ (fun _ j hj=>by rw[show j=0 by omega];rfl);obtain⟨X,HX⟩:∃X,Hid (X=w.alloc (.cells (rowC K 1 (fun _ _=>.slice none 0 0)) 186)):=⟨_,rfl⟩
 have H0:Hid (∃bo' bc',CpA w X K bks 0 bo' bc'):=⟨bo,bc,by
  refine⟨?_,fun i hi=>absurd hi (by omega),?_⟩
  ·rw[HX.out,heap_alloc_last];congr 2
  ·rw[HX.out];exact bA1 _ _⟩
 have hc:K≤kcap:=h.row.1;have HI:Hid (∀W,Bl w W→BIn W ko K kcap bks bo bc):=fun W hW=>h.below hW;have HLN:Hid (∀i,i<K→(bks i).length≤9223372036854775807):=fun i hi=>by
  have:=(h.each i hi).2.2;omega
 clear h;go_enter Tryz.func60,Tryz.ntmps60;(go_wp2_with fail);rw[←HX.out];go_loopw [11] (fun i wr=>∃k:Nat,k≤K∧i=.int .i64 k∧Hid (∃bo' bc',CpA w wr K bks k bo' bc')) (fun i _=>K-(intOf i).toNat)
 case atStart=>exact⟨0,by omega,rfl,H0⟩
 case round =>
  obtain⟨k,hk,rfl,hX⟩:=hrel;clear H0;obtain⟨bo',bc',hI⟩:=hX.out;by_cases hlt:k<K
  ·have hin:=HI.out wr hI.low;obtain⟨b,off,eb,_⟩:=CRow.some hin.row (by omega);have hrow:=hin.row;rw[eb] at hrow ⊢;obtain⟨b',off',e',_,hcc⟩:=hrow.2 (by omega);cases e'
   have c0:=hcc k hlt 0 (by omega);rw[show off+k*1+0=off+k by omega] at c0;have hls:=hI.low.size;obtain⟨a1,c1,W1,hrun,ho,hb1,hq1⟩:=append_e0 wr w.heap.size (bo k) (bc k) (bks k) (hin.each k hlt).1 (hin.each k hlt).2.1 (hin.each k hlt).2.2 hls;have hl:w.heap.size<wr.heap.size:=(gSm.1 hI.row).1;have hr1:W1.heap[w.heap.size]?=_:=(hq1 _ hl).trans hI.row;have s0:=rowC_cell hr1 hlt (show 0<1 by omega);rw[show k*1+0=k by omega,if_neg (by omega)] at s0;have s1:W1.frozen? ⟨w.heap.size,k,none⟩=false:=frozen_of_row _ _ _ _ _ hr1;have HEND:Hid (∃bo' bc',CpA w (W1.setCell ⟨w.heap.size,k,none⟩ (.slice a1 (bks k).length c1)) K bks (k+1) bo' bc'):=⟨_,_,hI.step hlt ho hb1 hq1⟩
   have HRN:Hid ((Builtin.append_ #[186,186] 186 #[.slice none 0 0,.slice (bo k) (bks k).length (bc k)]).run Tryz.prog wr=.ok (.slice a1 (bks k).length c1) W1):=hrun;have ik:(0:Int)≤(k:Int):=(by omega)
   have nk:(k:Int)<(K:Int):=(by omega)
   clear hrun ho hb1 hq1 hr1 hcc hrow hin hI hX eb;go_wp2_with (at_builtin;refine wpList_append_run rfl (.const (.slice none 0 0)) (.tmp 18) 186 rfl _ _ _ rfl rfl HRN.out ?_;clear HRN)
   exact⟨⟨k+1,by omega,by go_num,HEND⟩,by simp[intOf];omega⟩
  ·obtain rfl:k=K:=by omega
   have HF:Hid (∃bo' bc',BkO wr w.heap.size w.heap.size k bks bo' bc'∧Bl w wr):=⟨bo',bc',⟨by
    rw[hI.row];congr 2
    apply rC2
    intro i hi j hj;rw[if_pos hi],fun i hi=>⟨hI.each i hi,HLN.out i hi⟩⟩,hI.low⟩
   clear hI hX;(go_wp2_with fail);go_ret;exact⟨rfl,HF⟩
end
end Go.Proofs.YtflghpnpjmodaaaGreatDoor
