/- GW4 -/
import Derived.Test.YtelebnancdjjiaaGreatDoorE03
import Derived.Lib.BufferWrite
import Derived.Deep.RegionHeld3
set_option maxRecDepth 100000
set_option maxHeartbeats 40000000
namespace Go.Proofs.YtelebnancdjjiaaGreatDoor
section
open Go.Proofs.Tryz
open Go.RowKit
theorem a3H (w:World) (m c:Nat) (hm:m<=c) (hc:c<=100000):(Instr.makeSlice 29 (Iv m) (Iv c)).run prog w=.ok (.slice (some (Pv w.heap.size 0)) m c) (w.alloc (.cells (rowF c (λ_=>0)) 5)):=by
 obtain⟨i0,hi,ac,ab,aa⟩:=info_parts a8q;have h:=run_make (P:=prog) w 29 5 i0 (.int .u8 0) underlying29 hi ac .i64 .i64 (m:Int) (c:Int) om om (by rw[aa];omega) om;rw[ab,Nat.mul_one,Int.toNat_natCast,Int.toNat_natCast,a7e] at h;exact h
theorem a5g {w:World}{g n c base:Nat}{f:Nat->Int}(h:w.heap[g]?=some (.cells (rowF c f) 5)) (hb:base<=g) (hn:n<=c) (hc:c<=100000):w.ownsRow base 5 1 (.slice (some (Pv g 0)) n c) n (a0e n f):=by
 refine⟨by rw[a0g,Nat.mul_one],Or.inr ⟨g,c,rowF c f,rfl,hb,h,hn,by unfold maxLen;omega,by rw[a0H,Nat.mul_one],?_⟩⟩;rw[Nat.mul_one];apply List.ext_getElem?
 intro i;show((a0e c f).take n)[i]?=_;by_cases hi:i<n
 ·rw[List.getElem?_take_of_lt hi];simp[a0e,hi,show i<c by omega]
 ·rw[List.getElem?_eq_none (by simp[a0g];omega),List.getElem?_eq_none (by rw[a0g];omega)]
theorem a2e {w:World}{ad:Array Oper}{rest:List Oper}{o:Oper}{a:Act}{Q:Exit->Act->World->Prop}(ae:o.guard=none) (s x:Operand)
  (ho:o.op=.call { callee:=.builtin .append,args:=#[s,x],argTypes:=#[29,29] }) (base:Nat)
  (v:Value) (n:Nat) (P:Nat->Int) (hs:a.eval s=v) (y z:Int) (ab:w.ownsRow base 5 1 v n (a0e n P)) (aa:base<=w.heap.size)
  (hx:a.eval x=.slice (some (Pv w.heap.size 0)) 2 2) (hy:y=P n) (hz:z=P (n+1)) (hb:n+2<=1000000)
  (h:∀v' w',w'.ownsRow base 5 1 v' (n+2) (a0e (n+2) P)->Below base w w'->wpList prog ad Q rest (a.put o.dst v') w'):wpList prog ad Q (o :: rest) a (w.alloc (.cells #[.int .u8 y,.int .u8 z] 5)):=by
 have hl:(w.alloc (.cells #[.int .u8 y,.int .u8 z] 5)).heap[w.heap.size]?=some (.cells (rowF 2 (λi=>if i=0 then y else z)) 5):=a9Z _ _;have hr:ByteRow (w.alloc (.cells #[.int .u8 y,.int .u8 z] 5)) (some (Pv w.heap.size 0)) 2 2 (λi=>if i=0 then y else z) :=
  (ByteRow.of_row (off:=0) (n:=2) (cap:=2) hl om (b0g _)).congr (λi _=>by rw[Nat.zero_add])
 have ac:=ab.alloc (.cells #[.int .u8 y,.int .u8 z] 5);refine a0N ae s x ho base v n _ hs ac _ 2 2 _ hx hr (λh=>by cases h) om (by simp;omega) ?_;intro v' w' h1 h2;refine h v' w' ?_ (a3F ((b0h _ _).alloc aa _) ac (by simp;omega) h2);rw[a2m] at h1;rw[a2x (n+2) P (λi=>if i<n then P i else if i-n=0 then y else z)]
 ·exact h1
 ·intro i hi;by_cases e:i<n
  ·rw[iP e]
  ·rw[iN e];by_cases e2:i-n=0
   ·rw[iP e2,hy,show i=n by omega]
   ·rw[iN e2,hz,show i=n+1 by omega]
theorem a5h (base n:Nat) (v:Value) (P:Nat->Int) (N:Int) (w:World) (ab:w.ownsRow base 5 1 v n (a0e n P)) (aa:base<=w.heap.size) (h0:0<=N/\N<=65535) (hy:N/256=P n) (hz:N%256=P (n+1)) (hn:n+2<=1000000) :
  Calls prog 205 #[v,Iv N] w λe w'=>∃v',e=.returned v'/\w'.ownsRow base 5 1 v' (n+2) (a0e (n+2) P)/\Below base w w':=by
 have HO:Hid (w.ownsRow base 5 1 v n (a0e n P)):=ab;have HY:Hid (N/256=P n):=hy;have HZ:Hid (N%256=P (n+1)):=hz;clear ab hy hz;obtain⟨h1,h2⟩:=h0;go_enter func205,ntmps205;go_wp2_with (at_builtin;refine a2e rfl (.tmp 5) (.tmp 11) rfl base _ n P rfl _ _ HO.o aa rfl HY.o HZ.o hn ?_;intro v' w' ho hb;have ac:Hid (w'.ownsRow base 5 1 v' (n+2) (a0e (n+2) P)):=ho;have HB:Hid (Below base w w'):=hb;clear ho hb)
 go_ret;exact⟨_,rfl,ac.o,HB.o⟩
namespace Rg
def keyL:List Int:=[19,172,6,166,46,71,253,81,249,93,43,162,67,205,3,70]
def key (i:Nat):Int:=keyL.getD i 0
def dig (vs ts:Nat->Int) (n:Nat):Md.St:=Md.mac 16 key 8192 (pairs vs ts n)
end Rg
theorem gkey_any (w:World) :
  Calls prog 213 #[] w λe w'=>e=.returned (.slice (some (Pv w.heap.size 0)) 16 16)/\w'.heap[w.heap.size]?=some (.cells (rowF 16 Rg.key) 5)/\Bl w w':=by
 go_enter func213,ntmps213;go_wp2
 go_ret;exact⟨rfl,a9Z _ _,bA1 _ _⟩
theorem a5Q (s:ByteArray) (ac:Int) (ao:OA) (n cap:Nat) (vs ts:Nat->Int) (w:World) (hR:Rg.Right vs ts n) (hr:WayRow w ao n cap vs ts) (ht:Tabs w) :
  Calls prog 206 #[.agg #[.string s,Iv ac,.slice ao n cap]] w (Sumd w (Rg.dig vs ts n)):=by
 have HT:Hid (Tabs w):=ht;have av:=ht.lt;have aj:Hid (Rg.Right vs ts n):=hR;have HR:Hid (WayRow w ao n cap vs ts):=hr;clear ht hr hR;have am:∀W:World,(Instr.makeSlice 29 (Iv 0) (Iv 8192)).run prog W=.ok (.slice (some (Pv W.heap.size 0)) 0 8192) (W.alloc (.cells (rowF 8192 (λ_=>0)) 5)):=λW=>a3H W 0 8192 om om;go_enter func206,ntmps206;(go_wp2_with fail);go_loopw [3,6] (λv i wr=>∃k:Nat,(k:Int)<=4096/\i=Iv k/\Hid (wr.ownsRow (w.heap.size+1) 5 1 v (2*k) (a0e (2*k) (Rg.pairs vs ts n)))/\Hid (Below (w.heap.size+1) (w.alloc (.cells #[.string s,Iv ac,.slice ao n cap] 63)) wr)) (λ_ i _=>4096-(intOf i).toNat)
 case atStart =>
  refine⟨0,om,rfl,?_,(b0h _ _).alloc (by simp) _⟩;rw[show a0e (2*0) (Rg.pairs vs ts n)=a0e 0 (λ_=>0) from rfl];exact a5g (g:=w.heap.size+1) (b0c w _ _) (b0g _) om om
 case round =>
  clear am;obtain⟨k,hk,rfl,hX,hB⟩:=hrel;have ag:Bl w wr:=(bA1 w _).trans (hB.o.mono om);have ak:w.heap.size+1<=wr.heap.size:=(by have:=hB.o.size;simp at this;omega)
  obtain⟨c0,c1,c2⟩:=a2d ((hB.o.block w.heap.size om).trans (a9Z w _));have al:Hid (WayRow wr ao n cap vs ts):=HR.o.below ag;have af:Hid (Bl w wr):=ag;clear ag;by_cases hlt:(k:Int)<4096
  ·have hT:=Rg.tree_range aj.o (k:Int) n (b0g _);have HY:Hid (Rg.tree vs ts (k:Int) n/256=Rg.pairs vs ts n (2*k)):=(by rw[Rg.pairs_even];show _/256=(0:Int);omega)
   have HZ:Hid (Rg.tree vs ts (k:Int) n%256=Rg.pairs vs ts n (2*k+1)):=(by rw[Rg.pairs_odd];show _%256=_;omega)
   have HC:Hid (∀W,Bl wr W->∀v,wr.ownsRow (w.heap.size+1) 5 1 v (2*k) (a0e (2*k) (Rg.pairs vs ts n))->Calls prog 205 #[v,Iv (Rg.tree vs ts (k:Int) n)] W λe w'=>∃v',e=.returned v'/\Hid (w'.ownsRow (w.heap.size+1) 5 1 v' (2*(k+1)) (a0e (2*(k+1)) (Rg.pairs vs ts n)))/\Hid (Below (w.heap.size+1) (w.alloc (.cells #[.string s,Iv ac,.slice ao n cap] 63)) w')):=by
    intro W hW v hv;refine(a5h (w.heap.size+1) (2*k) v _ _ W (a3j hv hW) (b0p ak hW.size) om HY.o HZ.o om).mono ?_;rintro e w' ⟨v',rfl,h1,h2⟩;exact⟨v',rfl,h1,(hB.o.trans (hW.mono ak)).trans h2⟩
   clear HY HZ hT hB;go_wp2_with (first | (go_at_call 76;refine(a3G s ac ao n cap vs ts _ _ aj.o al.o).mono ?_;rintro e w2 ⟨rfl,ab⟩;have ae:Hid (Bl wr w2):=ab;clear ab) | (go_at_call 205;refine(HC.o _ ae.o _ hX.o).mono ?_;rintro e w3 ⟨v3,rfl,aq,an⟩))
   exact⟨⟨k+1,om,gn,aq,an⟩,io⟩
  ·obtain rfl:k=4096:=om
   obtain⟨bo,bc,rfl,ah,_,_,_⟩:=a2n (n:=8192) (f:=Rg.pairs vs ts n) (by exact hX.o);have ar:Hid (ByteRow wr bo 8192 bc (Rg.pairs vs ts n)):=ah;have ai:Hid (Tabs wr):=HT.o.below af.o om;have aw:=ai.o.lt;have HM:Hid (∀W,Bl wr W->W.heap[wr.heap.size]?=some (.cells (rowF 16 Rg.key) 5)->Calls prog 212 #[.slice (some (Pv wr.heap.size 0)) 16 16,.slice bo 8192 bc] W (Sumd w (Rg.dig vs ts n))):=by
    intro W hW ad;refine(mac_any _ _ 16 16 8192 bc Rg.key (Rg.pairs vs ts n) W (ai.o.below hW om) om om ((ByteRow.of_row (off:=0) (n:=16) (cap:=16) ad om (b0g _)).congr (λi _=>by rw[Nat.zero_add])) (ar.o.below hW)).mono ?_;rintro e w' ⟨g,rfl,hg,h1,h2⟩;have hs:=af.o.size;have au:=hW.size;exact⟨g,rfl,om,h1,(af.o.trans (hW.mono hs)).trans (h2.mono om)⟩
   clear hX hB ah;go_wp2_with (first | (go_at_call 213;refine(gkey_any _).mono ?_;rintro e w2 ⟨rfl,aa,ab⟩;have ae:Hid (Bl wr w2):=ab;have ap:Hid (w2.heap[wr.heap.size]?=some (.cells (rowF 16 Rg.key) 5)):=aa;clear ab aa) | (go_at_call 212;refine(HM.o _ ae.o ap.o).mono ?_;rintro e w3 ⟨g,rfl,hh⟩;have HH:Hid _:=hh;clear hh))
   go_ret;exact⟨g,rfl,HH.o⟩
theorem a5R (N:Nat) (f:Nat->Int) (s:ByteArray) (h:s.size<=N):((rowF N f).toList.take 0++Lib.byteCells s.data.toList++(rowF N f).toList.drop (0+s.size)).toArray=rowF N (λi=>if i<s.size then Rg.nb s i else f i):=by
 apply Array.ext_getElem?
 intro i;have hl:(Lib.byteCells s.data.toList).length=s.size:=(by simp[Lib.byteCells])
 rw[List.getElem?_toArray,List.take_zero,List.nil_append,Nat.zero_add];by_cases hi:i<s.size
 ·have aa:i<s.data.size:=hi;rw[List.getElem?_append_left (by rw[hl];exact hi),a0Q _ _ _ om,iP hi];simp[Lib.byteCells,Rg.nb,List.getD,Array.getElem?_eq_getElem aa]
 ·rw[List.getElem?_append_right (by rw[hl];omega),hl,List.getElem?_drop,show s.size+(i-s.size)=i by omega,Array.getElem?_toList];by_cases hN:i<N
  ·rw[a0Q _ _ _ hN,a0Q _ _ _ hN,iN hi]
  ·rw[Array.getElem?_eq_none (by rw[a0H];omega),Array.getElem?_eq_none (by rw[a0H];omega)]
theorem a3I {w:World}{ae:Array Oper}{rest:List Oper}{o:Oper}{a:Act}{Q:Exit->Act->World->Prop}(ag:o.guard=none) (d x:Operand)
  (ho:o.op=.call { callee:=.builtin .copy,args:=#[d,x],argTypes:=#[29,9] }) (g N aa ac:Nat) (f:Nat->Int) (s:ByteArray)
  (hd:a.eval d=.slice (some (Pv g 0)) aa ac) (hx:a.eval x=.string s) (af:s.size<=aa) (hN:s.size<=N) (ab:w.heap[g]?=some (.cells (rowF N f) 5))
  (h:∀w',w'.heap[g]?=some (.cells (rowF N (λi=>if i<s.size then Rg.nb s i else f i)) 5)->w'.heap.size=w.heap.size->Below g w w'->wpList prog ae Q rest (a.put o.dst (goInt s.size)) w'):wpList prog ae Q (o :: rest) a w:=by
 refine wpList_plain ag λK hK => ?_;have ad:=Lib.run_copy_row_string (P:=prog) w 29 9 o.type 5 g 0 aa ac s _ _ underlying29 a8p ab af (by rw[a0H];omega);rw[a5R N f s hN] at ad;unfold Oper.wp;simp[execOp,ho,resolve,invoke,builtin,hd,hx,ad,Result.andThen];exact hK _ _ (h _ (setRow_heap w g _ _ _ _ ab) (by simp) (below_setRow (b0h _ _) (b0g _) _))
theorem a7l (a1 a2:OA) (n1 c1 n2 c2:Nat) (b1 b2:Nat->Int) (w:World) (h1:ByteRow w a1 n1 c1 b1) (k1:a0s a1 n1 c1) (h2:ByteRow w a2 n2 c2 b2) (k2:a0s a2 n2 c2) :
  Calls prog 151 #[.slice a1 n1 c1,.slice a2 n2 c2] w λe w'=>e=.returned (.bool (decide (a1q n1 b1=a1q n2 b2)))/\w'=w:=by
 have q1:=a3k w a1 n1 c1 b1 h1 k1;have q2:=a3k w a2 n2 c2 b2 h2 k2;clear h1 k1 h2 k2;generalize a1q n1 b1=S at *;generalize a1q n2 b2=T at *;go_enter func151,ntmps151;go_wp2
 go_ret;refine⟨?_,rfl⟩;by_cases e:S=T
 ·subst e;simp
 ·have aa:¬S.toList=T.toList:=λh=>e (ByteArray.ext (Array.toList_inj.mp (by rw[<-ByteArray.toList_eq,<-ByteArray.toList_eq];exact h)));simp[e,aa]
theorem a7m (s:ByteArray) (aa:Int) (ao:OA) (n cap:Nat) (vs ts:Nat->Int) (w:World) (hs:s.size<=32) (hv:0<=aa/\aa<=65535) (hR:Rg.Right vs ts n) (hr:WayRow w ao n cap vs ts) (ht:Tabs w) :
  Calls prog 190 #[.agg #[.string s,Iv aa,.slice ao n cap]] w λe w'=>∃ro rc,e=.returned (.slice ro 50 rc)/\ByteRow w' ro 50 rc (Rg.ident s aa (Md.dg (Rg.dig vs ts n)))/\Bl w w'/\∀ad,ro=some ad->w.heap.size<ad.block:=by
 have HT:Hid (Tabs w):=ht;have aE:=ht.lt;have az:Hid (Rg.Right vs ts n):=hR;have HR:Hid (WayRow w ao n cap vs ts):=hr;clear ht hr hR;obtain⟨P,HP⟩:=nm (Rg.ident s aa (Md.dg (Rg.dig vs ts n)))
 have HY:Hid (aa/256=P 32):=(by rw[HP.o];show _=_;simp[Rg.ident])
 have HZ:Hid (aa%256=P (32+1)):=(by rw[HP.o];show _=_;simp[Rg.ident])
 have HH:Hid (∀i,i<32->(if i<s.size then Rg.nb s i else 0)=P i):=by
  intro i hi;rw[HP.o];unfold Rg.ident;rw[iP hi]
 have HD:Hid (a0e 34 P++a0e 16 (Md.dg (Rg.dig vs ts n))=a0e (34+16) P):=by
  show _=_;rw[a2m];apply a2x
  intro i hi;by_cases e:i<34
  ·rw[iP e]
  ·rw[iN e,HP.o];unfold Rg.ident;rw[iN om,iN om,iN om]
 have aF:∀W:World,(Instr.makeSlice 29 (Iv 32) (Iv 50)).run prog W=.ok (.slice (some (Pv W.heap.size 0)) 32 50) (W.alloc (.cells (rowF 50 (λ_=>0)) 5)):=λW=>a3H W 32 50 om om;have HW:Hid (∀w2:World,Below (w.heap.size+1) ((w.alloc (.cells #[.string s,Iv aa,.slice ao n cap] 63)).alloc (.cells (rowF 50 (λ_=>0)) 5)) w2->w2.cell? (Pv w.heap.size 0)=some (.string s)/\w2.cell? (Pv w.heap.size 1)=some (Iv aa)/\w2.cell? (Pv w.heap.size 2)=some (.slice ao n cap)/\Hid (Bl w w2)/\w.heap.size+1<w2.heap.size):=by
  intro w2 hb;have h:=a2d ((hb.block w.heap.size om).trans (b0d w (.cells #[.string s,Iv aa,.slice ao n cap] 63) _));have h2:=hb.size;simp at h2;exact⟨h.1,h.2.1,h.2.2,(bA2 w _ _).trans (hb.mono om),om⟩
 have HO:Hid (∀w2:World,w2.heap[w.heap.size+1]?=some (.cells (rowF 50 (λi=>if i<s.size then Rg.nb s i else 0)) 5)->w2.ownsRow (w.heap.size+1) 5 1 (.slice (some (Pv (w.heap.size+1) 0)) 32 50) 32 (a0e 32 P)):=by
  intro w2 h;have:=a5g (base:=w.heap.size+1) (n:=32) h (b0g _) om om;rw[a2x 32 _ P HH.o] at this;exact this
 go_enter func190,ntmps190;go_wp2_with (refine a3I rfl (.tmp 5) (.tmp 7) rfl (w.heap.size+1) 50 32 50 (λ_=>0) s rfl rfl hs om (b0c w _ _) ?_;intro w2 ab _ ai;obtain⟨q0,q1,q2,av,z2⟩:=HW.o w2 ai;have ak:Hid _:=HO.o w2 ab;have aj:Hid _:=ai;clear ab ai)
 refine(a5h (w.heap.size+1) 32 _ P aa w2 ak.o om hv HY.o HZ.o om).mono ?_;rintro e w3 ⟨v3,rfl,an,al⟩;obtain⟨r0,r1,r2,af,z3⟩:=HW.o w3 (aj.o.trans al);have aD:Hid (w3.ownsRow (w.heap.size+1) 5 1 v3 34 (a0e 34 P)):=an;clear an al q0 q1 q2 ak aj av z2 HW HO HY HZ HH;(go_wp2_with fail);refine(a5Q s aa ao n cap vs ts _ az.o (HR.o.below af.o) (HT.o.below af.o om)).mono ?_;rintro e w4 ⟨g4,rfl,ax,ac,ag⟩;have am:Hid (w4.ownsRow (w.heap.size+1) 5 1 v3 34 (a0e 34 P)):=a3j aD.o ag;have au:Hid (ByteRow w4 (some (Pv g4 0)) 16 16 (Md.dg (Rg.dig vs ts n))):=a8v ac;have aB:Hid (Bl w w4):=af.o.trans (ag.mono af.o.size);have z4:w.heap.size+1<=w4.heap.size:=(by have:=ag.size;omega)
 clear ax ac ag;have HA:Hid (∀v5 w5,w5.ownsRow (w.heap.size+1) 5 1 v5 (34+16) (a0e 34 P++a0e 16 (Md.dg (Rg.dig vs ts n)))->w4.grownBy w5 v3.ownBlock->∃ro rc,v5=.slice ro 50 rc/\Hid (ByteRow w5 ro 50 rc P)/\Hid (Bl w w5)/\Hid (∀ad,ro=some ad->w.heap.size<ad.block)):=by
  intro v5 w5 ae ah;rw[HD.o] at ae;have ar:Bl w w5:=aB.o.trans ((a3F (b0h _ _) am.o z4 ah).mono om);obtain⟨ro,rc,rfl,aq,_,_,ay⟩:=a2n ae;exact⟨ro,rc,rfl,aq,ar,λad e=>by have:=ay ad e;omega⟩
 go_wp2_with (at_builtin;refine a0N rfl (.tmp 13) (.tmp 15) rfl (w.heap.size+1) _ 34 _ rfl am.o _ 16 16 _ rfl au.o (λh=>by cases h) om z4 ?_;intro v5 w5 ae ah;obtain⟨ro,rc,rfl,aC,aw,ap⟩:=HA.o v5 w5 ae ah;clear ae ah)
 go_ret;exact⟨ro,rc,rfl,by rw[<-HP.o];exact aC.o,aw.o,ap.o⟩
namespace Rg
structure Reg where
 s:ByteArray
 rev:Int
 ao:OA
 n:Nat
 cap:Nat
 vs:Nat->Int
 ts:Nat->Int
def Reg.id (r:Reg):Nat->Int:=ident r.s r.rev (Md.dg (dig r.vs r.ts r.n))
def Reg.ok (r:Reg):Prop:=isName r.s=true/\(0<=r.rev/\r.rev<=65535)/\Right r.vs r.ts r.n
def Reg.at' (r:Reg) (w:World):Prop:=WayRow w r.ao r.n r.cap r.vs r.ts
theorem Reg.at'.below {r:Reg}{w w':World}(h:r.at' w) (hb:Bl w w'):r.at' w':=WayRow.below h hb
end Rg
theorem a4c (r:Rg.Reg) (w:World) (hk:r.ok) (ha:r.at' w) (ht:Tabs w) :
  Calls prog 190 #[.agg #[.string r.s,Iv r.rev,.slice r.ao r.n r.cap]] w λe w'=>∃ro rc,e=.returned (.slice ro 50 rc)/\ByteRow w' ro 50 rc r.id/\Bl w w'/\∀ad,ro=some ad->w.heap.size<ad.block :=
 a7m r.s r.rev r.ao r.n r.cap r.vs r.ts w (Rg.isName_parts hk.1).2.1 hk.2.1 hk.2.2 ha ht
end
section
open Go.Proofs.Tryz
open Go.RowKit
open Vc (V Of)
open Pl (Lk En)
abbrev IRow (w:World) (ao:OA) (n cap:Nat) (f:Nat->Int):Prop:=CRow w ao n cap 1 (λi _=>Iv (f i))
theorem IRow.cells {w:World}{b off n cap:Nat}{f:Nat->Int}(h:IRow w (some (Pv b off)) n cap f) {i:Nat}(hi:i<n):w.cell? (Pv b (off+i))=some (Iv (f i)):=by
 obtain⟨b',aa,e,_,hc⟩:=h.2 om;cases e
 have:=hc i hi 0 om;rw[Nat.mul_one,Nat.add_zero] at this;exact this
namespace Pl
structure Br where
 addr:Int
 pao:OA
 pn:Nat
 pcap:Nat
 pv:Nat->Int
 reg:Rg.Reg
structure Net where
 bao:OA
 K:Nat
 bcap:Nat
 bs:Nat->Br
 lao:OA
 L:Nat
 lcap:Nat
 ls:Nat->Lk
structure Pc where
 v:V
 rp:Int
 pao:OA
 pn:Nat
 pcap:Nat
 ports:Nat->Int
 rao:OA
 rn:Nat
 rcap:Nat
 roles:Nat->Int
end Pl
open Pl (Br Net Pc)
def brC (b:Br) (j:Nat):Value:=if j=0 then Uv b.addr else if j=1 then .slice b.pao b.pn b.pcap else if j=2 then .string b.reg.s else if j=3 then Iv b.reg.rev else .slice b.reg.ao b.reg.n b.reg.cap
def lkC (l:Lk) (j:Nat):Value:=if j=0 then Iv l.a else if j=1 then Iv l.pa else if j=2 then Iv l.b else if j=3 then Iv l.pb else if j=4 then Iv l.cost else .bool l.up
def enC (e:En) (j:Nat):Value:=if j=0 then Iv e.port else if j=1 then Iv e.cost else if j=2 then Iv e.other else if j=3 then Iv e.oport else .bool e.live
theorem a8y (b:Br) (j:Nat):(brC b j).oneCell'=true:=by
 unfold brC;repeat' split
 all_goals rfl
theorem a5S (l:Lk) (j:Nat):(lkC l j).oneCell'=true:=by
 unfold lkC;repeat' split
 all_goals rfl
abbrev BRow (w:World) (ao:OA) (n cap:Nat) (bs:Nat->Br):Prop:=CRow w ao n cap 5 (λi=>brC (bs i))
abbrev LRow (w:World) (ao:OA) (n cap:Nat) (ls:Nat->Lk):Prop:=CRow w ao n cap 6 (λi=>lkC (ls i))
theorem BRow.cells {w:World}{b off n cap:Nat}{bs:Nat->Br}(h:BRow w (some (Pv b off)) n cap bs) {i:Nat}(hi:i<n) :
  w.cell? (Pv b (off+i*5))=some (Uv (bs i).addr)/\w.cell? (Pv b (off+i*5+1))=some (.slice (bs i).pao (bs i).pn (bs i).pcap)/\w.cell? (Pv b (off+i*5+2))=some (.string (bs i).reg.s)/\w.cell? (Pv b (off+i*5+3))=some (Iv (bs i).reg.rev)/\w.cell? (Pv b (off+i*5+4))=some (.slice (bs i).reg.ao (bs i).reg.n (bs i).reg.cap):=by
 obtain⟨b',aa,e,_,hc⟩:=h.2 om;cases e
 exact⟨hc i hi 0 om,hc i hi 1 om,hc i hi 2 om,hc i hi 3 om,hc i hi 4 om⟩
theorem LRow.cells {w:World}{b off n cap:Nat}{ls:Nat->Lk}(h:LRow w (some (Pv b off)) n cap ls) {i:Nat}(hi:i<n) :
  w.cell? (Pv b (off+i*6))=some (Iv (ls i).a)/\w.cell? (Pv b (off+i*6+1))=some (Iv (ls i).pa)/\w.cell? (Pv b (off+i*6+2))=some (Iv (ls i).b)/\w.cell? (Pv b (off+i*6+3))=some (Iv (ls i).pb)/\w.cell? (Pv b (off+i*6+4))=some (Iv (ls i).cost)/\w.cell? (Pv b (off+i*6+5))=some (.bool (ls i).up):=by
 obtain⟨b',aa,e,_,hc⟩:=h.2 om;cases e
 exact⟨hc i hi 0 om,hc i hi 1 om,hc i hi 2 om,hc i hi 3 om,hc i hi 4 om,hc i hi 5 om⟩
namespace Pl
def Br.at' (b:Br) (w:World):Prop:=IRow w b.pao b.pn b.pcap b.pv/\b.reg.at' w/\b.pn<=9223372036854775807/\b.reg.n<=9223372036854775807
theorem Br.at'.below {b:Br}{w w':World}(h:b.at' w) (hb:Bl w w'):b.at' w':=⟨CRow.below h.1 hb,h.2.1.below hb,h.2.2⟩
structure Net.at' (n:Net) (w:World):Prop where
 brs:BRow w n.bao n.K n.bcap n.bs
 each:∀i,i<n.K->(n.bs i).at' w
 lks:LRow w n.lao n.L n.lcap n.ls
 manyB:n.K<=9223372036854775807
 manyL:n.L<=9223372036854775807
theorem Net.at'.below {n:Net}{w w':World}(h:n.at' w) (hb:Bl w w'):n.at' w':=⟨CRow.below h.brs hb,λi hi=>(h.each i hi).below hb,CRow.below h.lks hb,h.manyB,h.manyL⟩
def Net.val (n:Net):Value:=.agg #[.slice n.bao n.K n.bcap,.slice n.lao n.L n.lcap]
def brErr (b:Br):Int:=if 281474976710655<b.addr then 3 else if 16<b.pn then 5 else if Vc.someTo (λi=>oddP (b.pv i)) b.pn=true then 3 else Rg.wrong b.reg.s b.reg.rev b.reg.vs b.reg.ts b.reg.n
def bErr (bs:Nat->Br) (i:Nat):Int:=if brErr (bs i)≠0 then brErr (bs i) else if Vc.someTo (λj=>decide ((bs j).addr=(bs i).addr)) i=true then 7 else 0
def Net.wrong (n:Net):Int×Int:=if 12<n.K\/40<n.L then(5,0) else if (firstTo (bErr n.bs) n.K).1≠0 then firstTo (bErr n.bs) n.K else firstTo (lErr n.K n.ls) n.L
def Br.prio (b:Br) (tree:Int):Int:=if 0<=tree/\tree<=(b.pn:Int)-1 then b.pv tree.toNat else 32768
def Br.id (b:Br) (tree:Int):Int:=b.prio tree*281474976710656+b.addr
def Net.live (n:Net) (k:Nat):Bool:=(n.ls k).up&&decide (a1q 50 (n.bs (n.ls k).a.toNat).reg.id=a1q 50 (n.bs (n.ls k).b.toNat).reg.id)
def Net.ids (n:Net) (tree:Int) (i:Nat):Int:=(n.bs i).id tree
def Net.ends (n:Net) (i:Nat):List En:=Pl.ends n.ls n.live n.L i
end Pl
end
section
open Go.Proofs.Tryz
open Go.RowKit
open Pl (Br Net Pc Lk En)
theorem a5T (p:Int) (w:World) :
  Calls prog 162 #[Iv p] w λe w'=>e=.returned (.bool (!Pl.oddP p))/\w'=w:=by
 have HW:Hid (∀W,Calls prog 63 #[Iv p,Iv 0,Iv 61440] W λe w'=>e=.returned (.bool (decide (0<=p/\p<=61440)))/\w'=W):=λW=>a0G p 0 61440 W;unfold Pl.oddP;by_cases h1:0<=p/\p<=61440
 ·rw[b0k h1] at HW ⊢;have hr:p.tmod 4096=p%4096:=Int.tmod_eq_emod_of_nonneg h1.1;have hw:IntKind.i64.wrap (p%4096)=p%4096:=a0t _ om om;by_cases h2:p%4096=0
  ·have hd:(p.tmod 4096 == 0)=true:=(by rw[hr];simp[h2])
   go_enter func162,ntmps162;go_wp2_with (go_at_call 63;refine(HW.o _).mono ?_;rintro e w1 ⟨rfl,rfl⟩)
   go_ret;exact⟨by simp[h2],rfl⟩
  ·have hd:(p.tmod 4096 == 0)=false:=(by rw[hr];simp[h2])
   go_enter func162,ntmps162;go_wp2_with (go_at_call 63;refine(HW.o _).mono ?_;rintro e w1 ⟨rfl,rfl⟩)
   go_ret;exact⟨by simp[h2],rfl⟩
 ·rw[b0j h1] at HW ⊢;go_enter func162,ntmps162;go_wp2_with (go_at_call 63;refine(HW.o _).mono ?_;rintro e w1 ⟨rfl,rfl⟩)
  go_ret;exact⟨rfl,rfl⟩
theorem a6E (p:Int) (w:World) :
  Calls prog 183 #[Iv p] w λe w'=>e=.returned (.bool (Pl.oddP p))/\w'=w:=by
 have HW:Hid (∀W,Calls prog 162 #[Iv p] W λe w'=>e=.returned (.bool (!Pl.oddP p))/\w'=W):=λW=>a5T p W;generalize Pl.oddP p=b at *;go_enter func183,ntmps183;go_wp2_with (go_at_call 162;refine(HW.o _).mono ?_;rintro e w1 ⟨rfl,rfl⟩)
 go_ret;exact⟨by simp,rfl⟩
theorem a7n (ao:OA) (n cap:Nat) (f:Nat->Int) (w:World) (hn:n<=16) (hr:IRow w ao n cap f) :
  Calls prog 203 #[.slice ao n cap,.func (.func 183) #[] #[]] w λe w'=>∃r:Int,e=.returned (Iv r)/\decide (0<=r)=Vc.someTo (λi=>Pl.oddP (f i)) n/\w'=w:=by
 have HR:Hid (IRow w ao n cap f):=hr;clear hr;go_enter func203,ntmps203;(go_wp2_with fail);go_loopw [8] (λi wr=>∃k:Nat,k<=n/\i=Iv k/\Hid (Vc.someTo (λi=>Pl.oddP (f i)) k=false)/\wr=w) (λi _=>n-(intOf i).toNat)
 case atStart=>exact⟨0,om,rfl,rfl,rfl⟩
 case round =>
  obtain⟨k,hk,rfl,hX,rfl⟩:=hrel;by_cases hlt:k<n
  ·obtain⟨b,off,rfl,hb⟩:=CRow.some HR.o om;have aa:=HR.o.1;have c4:wr.cell? (Pv b (off+k))=some (Iv (f k)):=IRow.cells HR.o hlt;have ac:Hid (Pl.oddP (f k)=true->Vc.someTo (λi=>Pl.oddP (f i)) n=true):=λh=>a3E _ k h n hlt;have ab:Hid (Pl.oddP (f k)=false->Vc.someTo (λi=>Pl.oddP (f i)) (k+1)=false):=λh=>by
    show(Vc.someTo _ k||Pl.oddP (f k))=false;rw[h,hX.o];rfl
   clear HR hX;generalize f k=c at *;cases ho:Pl.oddP c with
   | true =>
    have HO:Hid (Pl.oddP c=true):=ho;clear ho;go_wp2_with (go_at_call 183;refine(a6E _ _).mono ?_;rintro e w1 ⟨rfl,rfl⟩;rw[HO.o])
    go_ret;exact⟨_,rfl,by rw[ac.o HO.o];simp,rfl⟩
   | false =>
    have HO:Hid (Pl.oddP c=false):=ho;clear ho;go_wp2_with (go_at_call 183;refine(a6E _ _).mono ?_;rintro e w1 ⟨rfl,rfl⟩;rw[HO.o])
    exact⟨⟨k+1,om,gn,ab.o HO.o,trivial⟩,io⟩
  ·obtain rfl:k=n:=om
   go_wp2
   go_ret;exact⟨_,rfl,by rw[hX.o];decide,rfl⟩
theorem a4G (ao:OA) (n cap:Nat) (f:Nat->Int) (w:World) (hn:n<=16) (hr:IRow w ao n cap f) :
  Calls prog 184 #[.slice ao n cap,.func (.func 183) #[] #[]] w λe w'=>e=.returned (.bool (Vc.someTo (λi=>Pl.oddP (f i)) n))/\w'=w:=by
 have HR:Hid (IRow w ao n cap f):=hr;clear hr;go_enter func184,ntmps184;go_wp2_with (go_at_call 203;refine(a7n _ _ _ f _ hn HR.o).mono ?_;rintro e w1 ⟨r,rfl,hq,rfl⟩;have HQ:Hid (decide (0<=r)=Vc.someTo (λi=>Pl.oddP (f i)) n):=hq;clear hq)
 go_ret;exact⟨by rw[HQ.o];rfl,rfl⟩
theorem a1L {w:World}{g:Nat}{a0 a1 a2 a3 a4:Value}{ty:TypeId}(h:w.heap[g]?=some (.cells #[a0,a1,a2,a3,a4] ty (0,0))) :
  w.cell? (Pv g 0)=some a0/\w.cell? (Pv g 1)=some a1/\w.cell? (Pv g 2)=some a2/\w.cell? (Pv g 3)=some a3/\w.cell? (Pv g 4)=some a4 :=
 ⟨a9Y w g 0 _ _ _ h,a9Y w g 1 _ _ _ h,a9Y w g 2 _ _ _ h,a9Y w g 3 _ _ _ h,a9Y w g 4 _ _ _ h⟩
def brA (b:Br):Array Value:=#[Uv b.addr,.slice b.pao b.pn b.pcap,.string b.reg.s,Iv b.reg.rev,.slice b.reg.ao b.reg.n b.reg.cap]
theorem a3z (b:Br) (w:World) (hb:b.at' w) :
  Calls prog 138 #[.agg (brA b)] w λe w'=>e=.returned (Iv (Pl.brErr b))/\Bl w w':=by
 obtain⟨hp,aa,ah,ad⟩:=hb;have HX:Hid (∀W,W=w.alloc (.cells (brA b) 65)->b.pn<=16->Calls prog 184 #[.slice b.pao b.pn b.pcap,.func (.func 183) #[] #[]] W λe w'=>e=.returned (.bool (Vc.someTo (λi=>Pl.oddP (b.pv i)) b.pn))/\w'=W):=λW hW h=>a4G _ _ _ _ W h (hp.below (by rw[hW];exact bA1 _ _));have HG:Hid (∀W,W=w.alloc (.cells (brA b) 65)->Calls prog 82 #[.agg #[.string b.reg.s,Iv b.reg.rev,.slice b.reg.ao b.reg.n b.reg.cap]] W λe w'=>e=.returned (Iv (Rg.wrong b.reg.s b.reg.rev b.reg.vs b.reg.ts b.reg.n))/\Bl w w'):=λW hW=>by
  have ac:Bl w W:=(by rw[hW];exact bA1 _ _)
  refine(a4l b.reg.s b.reg.rev b.reg.ao b.reg.n b.reg.cap b.reg.vs b.reg.ts W ad (aa.below ac)).mono ?_;rintro e w' ⟨rfl,h2⟩;exact⟨rfl,ac.trans (h2.mono ac.size)⟩
 have HA:Hid ((w.alloc (.cells (brA b) 65)).heap[w.heap.size]?=some (.cells (brA b) 65)):=a9Z _ _;obtain⟨R,HR⟩:=nm (Rg.wrong b.reg.s b.reg.rev b.reg.vs b.reg.ts b.reg.n)
 obtain⟨S,HS⟩:=nm (Vc.someTo (λi=>Pl.oddP (b.pv i)) b.pn)
 have HE:Hid (Pl.brErr b=if 281474976710655<b.addr then 3 else if 16<b.pn then 5 else if S=true then 3 else R):=(by rw[HR.o,HS.o];rfl)
 rw[<-HR.o] at HG;rw[<-HS.o] at HX;clear HR HS hp aa ad;obtain⟨ab,ag,pn,af,pv,⟨s,ai,ao,n,cap,vs,ts⟩⟩:=b;simp only[brA] at *;rw[HE.o];obtain⟨q0,q1,q2,q3,q4⟩:=a1L HA.o;clear HA HE;by_cases h1:281474976710655<ab
 ·rw[iP h1];go_enter func138,ntmps138;(go_wp2_with fail);go_ret;exact⟨rfl,bA1 _ _⟩
 ·rw[iN h1];by_cases h2:16<pn
  ·rw[iP h2];go_enter func138,ntmps138;(go_wp2_with fail);go_ret;exact⟨rfl,bA1 _ _⟩
  ·rw[iN h2];cases S with
   | true =>
    rw[iP rfl];go_enter func138,ntmps138;go_wp2_with (go_at_call 184;refine(HX.o _ rfl om).mono ?_;rintro e w1 ⟨rfl,rfl⟩)
    go_ret;exact⟨rfl,bA1 _ _⟩
   | false =>
    rw[iN dd];go_enter func138,ntmps138;go_wp2_with (first | (go_at_call 184;refine(HX.o _ rfl om).mono ?_;rintro e w1 ⟨rfl,rfl⟩) | (go_at_call 82;refine(HG.o _ rfl).mono ?_;rintro e w1 ⟨rfl,ae⟩))
    go_ret;exact⟨rfl,ae⟩
end
section
open Go.Proofs.Tryz
open Go.RowKit
def rowC (n k:Nat) (c:Nat->Nat->Value):Array Value:=(a0f n k c).toArray
theorem a1l (n k:Nat) (c:Nat->Nat->Value):(rowC n k c).size=n*k:=by simp[rowC,a0f]
theorem a1Q {n k i j:Nat}(hi:i<n) (hj:j<k):i*k+j<n*k:=by
 have:(i+1)*k<=n*k:=Nat.mul_le_mul_right k om;rw[Nat.add_mul] at this;omega
theorem div_of {k i j:Nat}(hj:j<k):(i*k+j)/k=i/\(i*k+j)%k=j:=by
 have hk:0<k:=om
 refine⟨?_,?_⟩
 ·rw[Nat.add_comm,Nat.add_mul_div_right _ _ hk,Nat.div_eq_of_lt hj,Nat.zero_add]
 ·rw[Nat.add_comm,Nat.add_mul_mod_self_right,Nat.mod_eq_of_lt hj]
theorem a2K {n k i j:Nat}(c:Nat->Nat->Value) (hi:i<n) (hj:j<k):(rowC n k c)[i*k+j]?=some (c i j):=by
 have h:=a1Q hi hj;simp[rowC,a0f,h];obtain⟨e1,e2⟩:=div_of (i:=i) hj;first | rw[e1,e2] | rw[e1,Nat.mod_eq_of_lt hj]
def updC (c:Nat->Nat->Value) (i j:Nat) (v:Value):Nat->Nat->Value:=λi' j'=>if i'=i/\j'=j then v else c i' j'
theorem a4H {n k i j:Nat}(c:Nat->Nat->Value) (hi:i<n) (hj:j<k) (v:Value):(rowC n k c).setIfInBounds (i*k+j) v=rowC n k (updC c i j v):=by
 have hk:0<k:=om
 apply Array.ext_getElem?
 intro x;rw[Array.getElem?_setIfInBounds];by_cases hx:x<n*k
 ·have ex:x=(x/k)*k+x%k:=(by rw[Nat.mul_comm];exact(Nat.div_add_mod x k).symm)
  have h4:x%k<k:=Nat.mod_lt _ hk;have hq:x/k<n:=a2h hk hx;have e1:=a2K (updC c i j v) hq h4;have e2:=a2K c hq h4;rw[<-ex] at e1 e2;rw[e1,e2];by_cases q:i*k+j=x
  ·obtain⟨d1,d2⟩:=div_of (i:=i) hj;rw[iP q,iP (by rw[a1l];omega)];unfold updC;rw[iP ⟨by rw[<-q];exact d1,by rw[<-q];exact d2⟩]
  ·rw[iN q];unfold updC;rw[iN (λp=>q (by rw[<-p.1,<-p.2];exact ex.symm))]
 ·have hs:=a1l n k c;have aa:=a1l n k (updC c i j v);have hl:=a1Q hi hj;rw[iN om,Array.getElem?_eq_none om,Array.getElem?_eq_none om]
theorem a7o {n k:Nat}{c d:Nat->Nat->Value}(h:∀i,i<n->c i=d i):rowC n k c=rowC n k d:=by
 unfold rowC;rw[a0k n k c d h]
theorem rC2 {n k:Nat}{c d:Nat->Nat->Value}(h:∀i,i<n->∀j,j<k->c i j=d i j):rowC n k c=rowC n k d:=by
 unfold rowC a0f;congr 1
 apply List.map_congr_left
 intro x hx;have hx:x<n*k:=(by simpa using hx)
 have hk:0<k:=by
  rcases Nat.eq_zero_or_pos k with e | e
  ·subst e;omega
  ·exact e
 exact h _ (a2h hk hx) _ (Nat.mod_lt _ hk)
section
variable {w:World}{g n k:Nat}{c:Nat->Nat->Value}{ty:TypeId}
theorem a0C (h:w.heap[g]?=some (.cells (rowC n k c) ty (0,0))) {i j:Nat}(hi:i<n) (hj:j<k):w.cell? (Pv g (i*k+j))=some (c i j):=by
 have:=a2K c hi hj;simp only[World.cell?,h];simpa using this
theorem a8z (h:w.heap[g]?=some (.cells (rowC n k c) ty (0,0))):CRow w (some (Pv g 0)) n n k c :=
 ⟨b0g _,λ_=>⟨g,0,rfl,(gSm.1 h).1,λi hi j hj=>by rw[Nat.zero_add];exact a0C h hi hj⟩⟩
theorem a1r (h:w.heap[g]?=some (.cells (rowC n k c) ty (0,0))) {i j:Nat}(hi:i<n) (hj:j<k) (v:Value):(w.setCell (Pv g (i*k+j)) v).heap[g]?=some (.cells (rowC n k (updC c i j v)) ty (0,0)):=by
 rw[b0e _ _ _ _ _ _ h,a4H c hi hj]
end
theorem a8A (z:Array Value) (k n:Nat) (hk:0<k) (hz:z.size=k):madeCells z (n*k)=rowC n k (λ_ j=>z.getD j undef):=by
 apply Array.ext_getElem?
 intro i;by_cases h:i<n*k
 ·have ei:i=(i/k)*k+i%k:=(by rw[Nat.mul_comm];exact(Nat.div_add_mod i k).symm)
  have h4:i%k<k:=Nat.mod_lt _ hk;have e:=a2K (λ_ j=>z.getD j undef) (a2h hk h) h4;rw[<-ei] at e;rw[e];have aa:i%k<z.size:=om
  simp[madeCells,h,hz];rw[getElem!_pos z (i%k) aa];simp[aa]
 ·rw[Array.getElem?_eq_none (by simp[madeCells];omega),Array.getElem?_eq_none (by rw[a1l];omega)]
theorem a8B (w:World) (t e:TypeId) (z:Value) (k bytes n:Nat) (ht:prog.underlying t=some (.slice e)) (aa:(prog.info? e).map (λi=>(i.zero,i.size,i.bytes))=some (some z,k,bytes)) (hk:0<k) (hz:z.cells.size=k) (hn:n<=1000) (hb:bytes<=1000) :
  (Instr.makeSlice t (Iv n) (Iv n)).run prog w=.ok (.slice (some (Pv w.heap.size 0)) n n) (w.alloc (.cells (rowC n k (λ_ j=>z.cells.getD j undef)) e)):=by
 obtain⟨i0,hi,ad,ac,ab⟩:=info_parts aa;have hm:(bytes:Int)*(n:Int)<=281474976710656:=by
  have h1:bytes*n<=1000*1000:=Nat.mul_le_mul hb hn;have h2:((bytes*n:Nat):Int)<=1000000:=om
  rw[Int.natCast_mul] at h2;omega
 have h:=run_make (P:=prog) w t e i0 z ht hi ad .i64 .i64 (n:Int) (n:Int) om (Int.le_refl _) (by rw[ab];exact hm) om;rw[ac,Int.toNat_natCast,a8A _ k n hk hz] at h;exact h
theorem a1E (w:World) (t e:TypeId) (z:Value) (k bytes n:Nat) (ht:prog.underlying t=some (.slice e)) (aa:(prog.info? e).map (λi=>(i.zero,i.size,i.bytes))=some (some z,k,bytes)) (hk:0<k) (hz:z.cells.size=k) (hn:n<=1000) (hb:bytes<=1000) (d:Nat->Nat->Value) (hd:∀i j,j<k->z.cells.getD j undef=d i j) :
  (Instr.makeSlice t (Iv n) (Iv n)).run prog w=.ok (.slice (some (Pv w.heap.size 0)) n n) (w.alloc (.cells (rowC n k d) e)):=by
 have:=a8B w t e z k bytes n ht aa hk hz hn hb;rw[rC2 (d:=d) (λi _ j hj=>hd i j hj)] at this;exact this
end
section
open Go.Proofs.Tryz
open Go.RowKit
open Pl (Br Net Pc Lk En)
theorem lF0 {w:World}{g:Nat}{A:Array Value}{ty:TypeId}(h:w.heap[g]?=some (.cells A ty (0,0))) (j:Nat):w.frozen? ⟨g,j,none⟩=false:=b0a _ _ _ _ _ h
structure Pl.Br.Fine (b:Br):Prop where
 addr:0<=b.addr/\b.addr<=281474976710655
 few:b.pn<=16
 prio:∀i,i<b.pn->0<=b.pv i/\b.pv i<=61440
 reg:b.reg.ok
theorem a5i:(prog.info? 29).map (λi=>(i.zero,i.size,i.bytes))=some (some sN,1,24):=by kernel_rfl
def IdsAt (w:World) (g K:Nat) (bs:Nat->Br) (v:Nat->Value) (k:Nat):Prop :=
 w.heap[g]?=some (.cells (rowC K 1 (λi _=>v i)) 29)/\∀i,i<k->∃b off rc,v i=.slice (some ⟨b,off,none⟩) 50 rc/\ByteRow w (some ⟨b,off,none⟩) 50 rc (bs i).reg.id/\b≠g
theorem IdsAt.below {w w':World}{g K:Nat}{bs:Nat->Br}{v:Nat->Value}{k:Nat}(h:IdsAt w g K bs v k) (hb:Bl w w'):IdsAt w' g K bs v k :=
 ⟨keep h.1 hb,λi hi=>by
  obtain⟨b,off,rc,e,h1,h2⟩:=h.2 i hi;exact⟨b,off,rc,e,h1.below hb,h2⟩⟩
theorem a1M {w w':World}{ao:OA}{n cap:Nat}{f:Nat->Int}(h:ByteRow w ao n cap f) (e:∀b off,ao=some ⟨b,off,none⟩->b<w.heap.size->w'.heap[b]?=w.heap[b]?) (hs:w.heap.size<=w'.heap.size):ByteRow w' ao n cap f:=by
 refine⟨h.1,λhp => ?_⟩;obtain⟨b,off,e1,aa,hc⟩:=h.2 hp;exact⟨b,off,e1,b0q aa hs,λi hi=>(World.cell?_of_block (w:=w) (e b off e1 aa)).trans (hc i hi)⟩
theorem a5U (ao:OA) (K cap:Nat) (bs:Nat->Br) (w:World) (hK:K<=12) (hr:BRow w ao K cap bs) (hb:∀i,i<K->(bs i).at' w) (hf:∀i,i<K->(bs i).Fine) (ht:Tabs w) (am:2<=w.heap.size) :
  Calls prog 148 #[.slice ao K cap] w λe w'=>∃v,e=.returned (.slice (some ⟨w.heap.size,0,none⟩) K K)/\IdsAt w' w.heap.size K bs v K/\Bl w w':=by
 have ab:Hid (∀W,Bl w W->BRow W ao K cap bs/\(∀i,i<K->(bs i).at' W)/\Tabs W):=λW hW=>⟨CRow.below hr hW,λi hi=>(hb i hi).below hW,ht.below hW am⟩
 have ak:Hid (∀i,i<K->(bs i).Fine):=hf;have al:=hr.1;have ar:∀W:World,(Instr.makeSlice 137 (Iv K) (Iv K)).run prog W=.ok (.slice (some ⟨W.heap.size,0,none⟩) K K) (W.alloc (.cells (rowC K 1 (λ_ _=>sN)) 29)):=λW=>a1E W 137 29 sN 1 24 K underlying137 a5i om rfl om om _ (λ_ j hj=>by rw[show j=0 by omega];rfl);clear hr hb hf ht;obtain⟨G,HG⟩:=nm w.heap.size
 have H0:Hid (∃v,IdsAt (w.alloc (.cells (rowC K 1 (λ_ _=>sN)) 29)) G K bs v 0/\Bl w (w.alloc (.cells (rowC K 1 (λ_ _=>sN)) 29))):=⟨λ_=>sN,⟨by rw[HG.o];exact a9Z _ _,λi hi=>absurd hi om⟩,bA1 _ _⟩
 rw[<-HG.o];go_enter func148,ntmps148;(go_wp2_with fail);rw[<-HG.o];go_loopw [11] (λi wr=>∃k:Nat,k<=K/\i=Iv k/\Hid (∃v,IdsAt wr G K bs v k/\Bl w wr)) (λi _=>K-(intOf i).toNat)
 case atStart=>exact⟨0,om,rfl,H0⟩
 case round =>
  obtain⟨k,hk,rfl,hX⟩:=hrel;clear H0;obtain⟨v,hI,hB⟩:=hX.o;by_cases hlt:k<K
  ·obtain⟨b,off,rfl,_⟩:=CRow.some (ab.o wr hB).1 om;obtain⟨c0,c1,c2,c3,c4⟩:=BRow.cells (ab.o wr hB).1 hlt;obtain⟨X,HX⟩:=nm (wr.alloc (.cells (brA (bs k)) 65))
   have ad:Bl wr X:=(by rw[HX.o];exact bA1 _ _)
   have ai:X.heap[wr.heap.size]?=some (.cells (brA (bs k)) 65):=(by rw[HX.o];exact a9Z _ _)
   have af:=hI.below ad;have ac:Bl w X:=hB.trans (ad.mono hB.size);obtain⟨d0,d1,d2,d3,d4⟩:=a1L ai;have ag:Hid (Calls prog 190 #[.agg #[.string (bs k).reg.s,Iv (bs k).reg.rev,.slice (bs k).reg.ao (bs k).reg.n (bs k).reg.cap]] X λe w'=>∃ro rc,e=.returned (.slice ro 50 rc)/\w'.cell? ⟨G,k,none⟩=some (v k)/\w'.frozen? ⟨G,k,none⟩=false/\Hid (∃v,IdsAt (w'.setCell ⟨G,k,none⟩ (.slice ro 50 rc)) G K bs v (k+1)/\Bl w (w'.setCell ⟨G,k,none⟩ (.slice ro 50 rc)))):=by
    obtain⟨_,x2,x3⟩:=ab.o X ac;refine(a4c (bs k).reg X (ak.o k hlt).reg (x2 k hlt).2.1 x3).mono ?_;rintro e w' ⟨ro,rc,rfl,y1,y2,y3⟩;have z1:=af.below y2;have aq:Bl w w':=ac.trans (y2.mono ac.size);have e1:(⟨G,k,none⟩:Addr)=⟨G,k*1+0,none⟩:=(by simp)
    have ap:G<X.heap.size:=(by have:=(gSm.1 af.1).1;exact this)
    obtain⟨rb,aa,er,au,_⟩:=y1.2 om;subst er;have ah:rb≠G:=(by have:=y3 _ rfl;simp only at this;omega)
    refine⟨_,rc,rfl,?_,?_,λi=>if i=k then .slice (some ⟨rb,aa,none⟩) 50 rc else v i,⟨?_,λi hi => ?_⟩,aq.setCell (by rw[HG.o];exact b0g _) _⟩
    ·rw[e1];exact a0C z1.1 hlt om
    ·exact lF0 z1.1 _
    ·rw[e1,a1r z1.1 hlt om,rC2 (d:=λi _=>if i=k then .slice (some ⟨rb,aa,none⟩) 50 rc else v i) (λi _ j hj=>by
      unfold updC;by_cases q:i=k
      ·rw[iP ⟨q,om⟩,iP q]
      ·rw[iN (λp=>q p.1),iN q])]
    ·have aj:∀b,b≠G->(w'.setCell ⟨G,k,none⟩ (.slice (some ⟨rb,aa,none⟩) 50 rc)).heap[b]?=w'.heap[b]?:=λb hb=>b0f _ _ _ _ (by exact hb);by_cases q:i=k
     ·subst q;exact⟨rb,aa,rc,iP rfl,a1M y1 (λb off e _=>by cases e;exact aj _ ah) (by simp),ah⟩
     ·obtain⟨b1,ae,an,q1,q2,q3⟩:=z1.2 i om;exact⟨b1,ae,an,by simp only;rw[iN q];exact q1,a1M q2 (λb off e _=>by cases e;exact aj _ q3) (by simp),q3⟩
   clear hX hI hB af ac ad ai ab ak;simp only[brA] at *;generalize (bs k).reg.s=s at *;have i0:(0:Int)<=(k:Int):=om
   have i1:(k:Int)<(K:Int):=om
   (go_wp2_with fail);rw[<-HX.o];refine ag.o.mono ?_;rintro e w1 ⟨ro,rc,rfl,k1,k2,HN⟩;clear ag;(go_wp2_with fail);exact⟨⟨k+1,om,gn,HN⟩,io⟩
  ·obtain rfl:k=K:=om
   (go_wp2_with fail);go_ret;exact⟨v,rfl,hI,hB⟩
end
section
open Go.Proofs.Tryz
open Go.RowKit
section
variable {P:Program}{ops:Array Oper}{Q:Exit->Act->World->Prop}{md:Region.Mode}{S:World->Prop}
theorem a2X {i:Nat}{oi:Oper}{v:Value}(d:Option Tmp) {ab:Nat}{aa:Array Bool}{a:Act}{w:World}(hi:ops[i]?=some oi) (hd:oi.dst=d)
  (hs:Region.noSelect ops=true) (hf:Region.free md ops aa i=true) (hr:(Region.ready md ops aa).contains i=true)
  (hQ:∀c a w,Q (.panic c) (a.put d v) w->Q (.panic c) a w) (hw:Region.wanted oi (yielded ops a.tmps)=true) (hy:∀w,S w->(execOp a.eval oi).run P w=.ok (.value v) w) (hS:S w)
  (h:wpAnyH P md ops Q S ab (aa.setIfInBounds i true) (a.put d v) w):wpAnyH P md ops Q S (ab+1) aa a w:=by
 subst hd;exact wpAnyH_take hi hs hf hr hQ (Or.inl ⟨hw,hy⟩) hS h
theorem a0l (i s:Nat) {oi:Oper}{v:Value}{ab:Nat}{aa:Array Bool}{a:Act}{w:World}(hS:S w) (h:wpAnyH P md ops Q S ab (aa.setIfInBounds i true) (a.put (some s) v) w)
  (hi:ops[i]?=some oi:=by rfl) (hd:oi.dst=some s:=by rfl) (hs:Region.noSelect ops=true:=by kernel_rfl) (hf:Region.free md ops aa i=true:=by kernel_rfl) (hr:(Region.ready md ops aa).contains i=true:=by kernel_rfl)
  (hw:Region.wanted oi (yielded ops a.tmps)=true:=by rfl) (hy:∀w,S w->(execOp a.eval oi).run P w=.ok (.value v) w:=by(intro wq ac;go_simp;try with_reducible rfl)) (hQ:∀c a w,Q (.panic c) (a.put (some s) v) w->Q (.panic c) a w:=by exact λ_ _ _ h=>h):wpAnyH P md ops Q S (ab+1) aa a w :=
 a2X (some s) hi hd hs hf hr hQ hw hy hS h
theorem a1F {i:Nat}{oi:Oper}(d:Option Tmp) {ab:Nat}{aa:Array Bool}{a:Act}{w:World}(hi:ops[i]?=some oi) (hd:oi.dst=d)
  (hs:Region.noSelect ops=true) (hf:Region.free md ops aa i=true) (hr:(Region.ready md ops aa).contains i=true)
  (hQ:∀c a w,Q (.panic c) (a.put d undef) w->Q (.panic c) a w) (hw:Region.wanted oi (yielded ops a.tmps)=false) (hS:S w)
  (h:wpAnyH P md ops Q S ab (aa.setIfInBounds i true) (a.put d undef) w):wpAnyH P md ops Q S (ab+1) aa a w:=by
 subst hd;exact wpAnyH_take hi hs hf hr hQ (Or.inr ⟨hw,rfl⟩) hS h
end
section
variable {P:Program}{ops:Array Oper}{Q:Exit->Act->World->Prop}{md:Region.Mode}{S:World->Prop}
theorem a1N (i:Nat) {o:Oper}{ab:Nat}{aa:Array Bool}{a:Act}{w:World}(h:∀K':Act->World->Prop,Shut (∀a w,S w->(S w->wpAnyH P md ops Q S ab (aa.setIfInBounds i true) a w)->K' a w)->if Region.wanted o (yielded ops a.tmps)=true then Oper.wp P o a w K' Q else K' (a.put o.dst undef) w) (hr:Region.ready md ops aa=[i]:=by kernel_rfl) (ho:ops[i]?=some o:=by rfl):wpAnyH P md ops Q S (ab+1) aa a w:=wpAnyH_ready hr (by simp) (AllReadyH.cons ho h AllReadyH.nil)
theorem heldR {id:Nat}{a:Act}{X:World}(H:Hid (∀W,Bl X W->S W)) (h:S X.drew->wpAnyH P .any ops Q S ops.size (Array.replicate ops.size false) a X.drew) (hm:P.follows .mixedOrders=true:=by kernel_rfl):(Code.region id ops true).wp P Q a X:=wp_region_held_drew hm (H.o _ (b0i (b0h _ _))) h
end
def sg (a b:Int):Int:=if a<b then -1 else if b<a then 1 else 0
theorem a8C (a b:Int) (w:World):Calls prog 180 #[Uv a,Uv b] w λe w'=>e=.returned (Iv (sg a b))/\w'=w:=by
 unfold sg;by_cases h1:a<b
 ·rw[iP h1];go_enter func180,ntmps180;go_wp2
  go_ret;exact⟨rfl,rfl⟩
 ·rw[iN h1];by_cases h2:b<a
  ·rw[iP h2];go_enter func180,ntmps180;go_wp2
   go_ret;exact⟨rfl,rfl⟩
  ·rw[iN h2];go_enter func180,ntmps180;go_wp2
   go_ret;exact⟨rfl,rfl⟩
theorem a5j (a b:Int) (w:World):Calls prog 154 #[Iv a,Iv b] w λe w'=>e=.returned (Iv (sg a b))/\w'=w:=by
 unfold sg;by_cases h1:a<b
 ·rw[iP h1];go_enter func154,ntmps154;go_wp2
  go_ret;exact⟨rfl,rfl⟩
 ·rw[iN h1];by_cases h2:b<a
  ·rw[iP h2];go_enter func154,ntmps154;go_wp2
   go_ret;exact⟨rfl,rfl⟩
  ·rw[iN h2];go_enter func154,ntmps154;go_wp2
   go_ret;exact⟨rfl,rfl⟩
theorem a0u (n l m:Int) (w:World) :
  Calls prog 63 #[Iv n,Iv l,Iv m] w λe w'=>e=.returned (.bool (decide (l<=n/\n<=m)))/\w'=w:=by
 by_cases h1:l<=n<;>by_cases h2:n<=m
 all_goals
  go_enter func63,ntmps63;go_wp2
  go_ret;exact⟨by simp[h1,h2],rfl⟩
def orTo (f:Nat->Int):Nat->Int
 | 0=>0
 | k+1=>if orTo f k=0 then f k else orTo f k
theorem a2Y (f:Nat->Int) (k:Nat) (h0:orTo f k=0) (h:f k≠0):∀n,k<n->orTo f n=f k
 | 0,hn=>by omega
 | n+1,hn=>by
  simp only[orTo];by_cases e:k=n
  ·subst e;rw[iP h0]
  ·rw[a2Y f k h0 h n om,iN h]
theorem cor_any (b off n cap:Nat) (f:Nat->Int) (w:World) (hn:n<=9223372036854775807) (ab:n<=cap) (hf:∀i,i<n->w.cell? (Pv b (off+i))=some (Iv (f i))) :
  Calls prog 179 #[.slice (some (Pv b off)) n cap] w λe w'=>e=.returned (Iv (orTo f n))/\w'=w:=by
 have HF:Hid (∀i,i<n->w.cell? (Pv b (off+i))=some (Iv (f i))):=hf;clear hf;go_enter func179,ntmps179;(go_wp2_with fail);go_loopw [8] (λi wr=>∃k:Nat,k<=n/\i=Iv k/\Hid (orTo f k=0)/\wr=w) (λi _=>n-(intOf i).toNat)
 case atStart=>exact⟨0,om,rfl,rfl,rfl⟩
 case round =>
  obtain⟨k,hk,rfl,hS,rfl⟩:=hrel;by_cases hlt:k<n
  ·have c0:=HF.o k hlt;by_cases h0:f k=0
   ·have d0:(f k != 0)=false:=(by simp[h0])
    have aa:Hid (orTo f (k+1)=0):=by show(if orTo f k=0 then f k else orTo f k)=0;rw[iP hS.o,h0]
    clear HF hS;(go_wp2_with fail);exact⟨⟨k+1,om,gn,aa,trivial⟩,io⟩
   ·have d0:(f k != 0)=true:=(by simp[h0])
    have aa:Hid (orTo f n=f k):=a2Y f k hS.o h0 n hlt;clear HF hS h0;(go_wp2_with fail);go_ret;exact⟨by rw[aa.o];rfl,rfl⟩
  ·obtain rfl:k=n:=om
   clear HF;(go_wp2_with fail);go_ret;exact⟨by rw[hS.o];rfl,rfl⟩
theorem sg_zero {a b:Int}:sg a b=0↔a=b:=by
 unfold sg;by_cases h:a<b
 ·rw[iP h];omega
 ·rw[iN h];by_cases k:b<a
  ·rw[iP k];omega
  ·rw[iN k];omega
end
section
open Go.Proofs.Tryz
open Go.RowKit
open Vc (V Of)
end
section
open Go.Proofs.Tryz
namespace Ec
open Pl (En)
def swp (f:Nat->En) (i j:Nat) (x:Nat):En:=if x=i then f j else if x=j then f i else f x
end Ec
