/- DR1 -/
import Derived.Test.YtelebnancdjjiaaGreatDoorE30
set_option maxRecDepth 100000
set_option maxHeartbeats 40000000
namespace Go.Proofs.YtelebnancdjjiaaGreatDoor
section
open Go.Proofs.Tryz Go.RowKit
theorem turn_any (x k:Int) (w:World) (h0:0<=k) (h1:k<32) :
  Calls prog 165 #[Tv x,Iv k] w λe w'=>e=.returned (Tv (Md.rotl x k))/\∃n,w'=w.drewN n:=by
 have hw:IntKind.i64.wrap (32-k)=32-k:=(by simp[IntKind.wrap,IntKind.bits,IntKind.signed];omega)
 have h2:0<=32-k:=om
 go_enter func165,ntmps165;(go_wp2_with fail);(go_quiet (fail));go_wp2
 go_ret;exact⟨rfl,nq,rfl⟩
theorem a9F (w:World) :
  Calls prog 163 #[] w λe w'=>e=.returned (.slice (some (Pv w.heap.size 0)) 64 64)/\(∀i,i<64->w'.cell? (Pv w.heap.size i)=some (Tv (Md.tabAt i)))/\w.heap.size<w'.heap.size/\Bl w w':=by
 go_enter func163,ntmps163;go_wp2
 go_ret;refine⟨rfl,λi hi => ?_,by simp,(b0h _ _).alloc (b0g _) _⟩;rw[World.cell?_alloc_at _ _ _ _ rfl];have h:∀i,i<64->Md.tab[i]?=some (Md.tabAt i):=dd
 have e:=h i hi;show((Md.tab.map (Value.int .u32)).toArray)[i]?=_;simp[e]
theorem round0 (k:Nat) (b c d:Int) (w:World) (hk:k<16) :
  Calls prog 164 #[Iv 0,Iv k,Tv b,Tv c,Tv d] w λe w'=>e=.returned (.tuple #[Tv (Md.fsel (16*0+k) b c d),Iv (Md.ksel (16*0+k)),Iv (Md.trnAt ((16*0+k)/16*4+(16*0+k)%4))])/\Bl w w':=by
 obtain⟨j,hj⟩:=nn (k%4)
 have k2:Int.tmod (k:Int) 4=(j:Int):=(by rw[Int.tmod_eq_emod_of_nonneg om];omega)
 have k3:(k:Int)%4=(j:Int):=om
 have k4:(j:Int)<4:=om
 have k5:j<4:=om
 have HF:Hid (Md.fsel (16*0+k) b c d=bits BinOp.or IntKind.u32 (bits BinOp.and IntKind.u32 b c) (bits BinOp.and IntKind.u32 (bits BinOp.xor IntKind.u32 IntKind.u32.max b) d)):=by
  show _=_;simp[Md.fsel,hk]
 have HT:Hid (Iv (Md.trnAt ((16*0+k)/16*4+(16*0+k)%4))=[Iv 7,Iv 12,Iv 17,Iv 22][j]'(by simpa using k5)):=by
  show _=_;have e:(16*0+k)/16*4+(16*0+k)%4=0+j:=om
  rw[e];rcases(show j=0\/j=1\/j=2\/j=3 by omega) with rfl | rfl | rfl | rfl<;>rfl
 have HK:Hid (((Md.ksel (16*0+k):Nat):Int)=(k:Int)):=by
  show _=_;simp[Md.ksel,hk]
 clear hj;rw[HF.o,HK.o,HT.o];clear HF HK HT;go_enter func164,ntmps164;(go_wp2_with fail);go_region
 all_goals go_wp2
 (all_goals go_ret3);all_goals exact⟨rfl,((b0h _ _).alloc (b0g _) _).drew⟩
theorem round1 (k:Nat) (b c d:Int) (w:World) (hk:k<16) :
  Calls prog 164 #[Iv 1,Iv k,Tv b,Tv c,Tv d] w λe w'=>e=.returned (.tuple #[Tv (Md.fsel (16*1+k) b c d),Iv (Md.ksel (16*1+k)),Iv (Md.trnAt ((16*1+k)/16*4+(16*1+k)%4))])/\Bl w w':=by
 obtain⟨j,hj⟩:=nn (k%4)
 have k2:Int.tmod (k:Int) 4=(j:Int):=(by rw[Int.tmod_eq_emod_of_nonneg om];omega)
 have k3:(k:Int)%4=(j:Int):=om
 have k4:(j:Int)<4:=om
 have k5:j<4:=om
 have HF:Hid (Md.fsel (16*1+k) b c d=bits BinOp.or IntKind.u32 (bits BinOp.and IntKind.u32 b d) (bits BinOp.andNot IntKind.u32 c d)):=by
  show _=_;simp[Md.fsel,show 16+k<32 by omega,show ¬16+k<16 by omega]
 have HT:Hid (Iv (Md.trnAt ((16*1+k)/16*4+(16*1+k)%4))=[Iv 5,Iv 9,Iv 14,Iv 20][j]'(by simpa using k5)):=by
  show _=_;have e:(16*1+k)/16*4+(16*1+k)%4=4+j:=om
  rw[e];rcases(show j=0\/j=1\/j=2\/j=3 by omega) with rfl | rfl | rfl | rfl<;>rfl
 obtain⟨q,hq⟩:=nn ((1+5*k)%16)
 have m1:IntKind.i64.wrap (5*(k:Int))=5*(k:Int):=(by simp[IntKind.wrap,IntKind.bits,IntKind.signed];omega)
 have m2:IntKind.i64.wrap (1+5*(k:Int))=1+5*(k:Int):=(by simp[IntKind.wrap,IntKind.bits,IntKind.signed];omega)
 have m3:Int.tmod (1+5*(k:Int)) 16=(q:Int):=(by rw[Int.tmod_eq_emod_of_nonneg om];omega)
 have m4:(1+5*(k:Int))%16=(q:Int):=om
 have HK:Hid (((Md.ksel (16*1+k):Nat):Int)=(q:Int)):=by
  show _=_;have e:Md.ksel (16*1+k)=q:=by
   simp[Md.ksel,show 16+k<32 by omega,show ¬16+k<16 by omega];omega
  rw[e]
 clear hj hq;go_enter func164,ntmps164;(go_wp2_with fail);go_region
 all_goals go_wp2
 (all_goals go_ret3);all_goals exact⟨by rw[HF.o,HK.o,HT.o];rfl,((b0h _ _).alloc (b0g _) _).drew⟩
theorem round2 (k:Nat) (b c d:Int) (w:World) (hk:k<16) :
  Calls prog 164 #[Iv 2,Iv k,Tv b,Tv c,Tv d] w λe w'=>e=.returned (.tuple #[Tv (Md.fsel (16*2+k) b c d),Iv (Md.ksel (16*2+k)),Iv (Md.trnAt ((16*2+k)/16*4+(16*2+k)%4))])/\Bl w w':=by
 obtain⟨j,hj⟩:=nn (k%4)
 have k2:Int.tmod (k:Int) 4=(j:Int):=(by rw[Int.tmod_eq_emod_of_nonneg om];omega)
 have k3:(k:Int)%4=(j:Int):=om
 have k4:(j:Int)<4:=om
 have k5:j<4:=om
 have HF:Hid (Md.fsel (16*2+k) b c d=bits BinOp.xor IntKind.u32 (bits BinOp.xor IntKind.u32 b c) d):=by
  show _=_;simp[Md.fsel,show 32+k<48 by omega,show ¬32+k<16 by omega,show ¬32+k<32 by omega]
 have HT:Hid (Iv (Md.trnAt ((16*2+k)/16*4+(16*2+k)%4))=[Iv 4,Iv 11,Iv 16,Iv 23][j]'(by simpa using k5)):=by
  show _=_;have e:(16*2+k)/16*4+(16*2+k)%4=8+j:=om
  rw[e];rcases(show j=0\/j=1\/j=2\/j=3 by omega) with rfl | rfl | rfl | rfl<;>rfl
 obtain⟨q,hq⟩:=nn ((5+3*k)%16)
 have m1:IntKind.i64.wrap (3*(k:Int))=3*(k:Int):=(by simp[IntKind.wrap,IntKind.bits,IntKind.signed];omega)
 have m2:IntKind.i64.wrap (5+3*(k:Int))=5+3*(k:Int):=(by simp[IntKind.wrap,IntKind.bits,IntKind.signed];omega)
 have m3:Int.tmod (5+3*(k:Int)) 16=(q:Int):=(by rw[Int.tmod_eq_emod_of_nonneg om];omega)
 have m4:(5+3*(k:Int))%16=(q:Int):=om
 have HK:Hid (((Md.ksel (16*2+k):Nat):Int)=(q:Int)):=by
  show _=_;have e:Md.ksel (16*2+k)=q:=by
   simp[Md.ksel,show 32+k<48 by omega,show ¬32+k<16 by omega,show ¬32+k<32 by omega];omega
  rw[e]
 clear hj hq;go_enter func164,ntmps164;(go_wp2_with fail);go_region
 all_goals go_wp2
 (all_goals go_ret3);all_goals exact⟨by rw[HF.o,HK.o,HT.o];rfl,((b0h _ _).alloc (b0g _) _).drew⟩
theorem round3 (k:Nat) (b c d:Int) (w:World) (hk:k<16) :
  Calls prog 164 #[Iv 3,Iv k,Tv b,Tv c,Tv d] w λe w'=>e=.returned (.tuple #[Tv (Md.fsel (16*3+k) b c d),Iv (Md.ksel (16*3+k)),Iv (Md.trnAt ((16*3+k)/16*4+(16*3+k)%4))])/\Bl w w':=by
 obtain⟨j,hj⟩:=nn (k%4)
 have k2:Int.tmod (k:Int) 4=(j:Int):=(by rw[Int.tmod_eq_emod_of_nonneg om];omega)
 have k3:(k:Int)%4=(j:Int):=om
 have k4:(j:Int)<4:=om
 have k5:j<4:=om
 have HF:Hid (Md.fsel (16*3+k) b c d=bits BinOp.xor IntKind.u32 c (bits BinOp.or IntKind.u32 b (bits BinOp.xor IntKind.u32 IntKind.u32.max d))):=by
  show _=_;simp[Md.fsel,show ¬48+k<16 by omega,show ¬48+k<32 by omega,show ¬48+k<48 by omega]
 have HT:Hid (Iv (Md.trnAt ((16*3+k)/16*4+(16*3+k)%4))=[Iv 6,Iv 10,Iv 15,Iv 21][j]'(by simpa using k5)):=by
  show _=_;have e:(16*3+k)/16*4+(16*3+k)%4=12+j:=om
  rw[e];rcases(show j=0\/j=1\/j=2\/j=3 by omega) with rfl | rfl | rfl | rfl<;>rfl
 obtain⟨q,hq⟩:=nn ((7*k)%16)
 have m1:IntKind.i64.wrap (7*(k:Int))=7*(k:Int):=(by simp[IntKind.wrap,IntKind.bits,IntKind.signed];omega)
 have m3:Int.tmod (7*(k:Int)) 16=(q:Int):=(by rw[Int.tmod_eq_emod_of_nonneg om];omega)
 have m4:(7*(k:Int))%16=(q:Int):=om
 have HK:Hid (((Md.ksel (16*3+k):Nat):Int)=(q:Int)):=by
  show _=_;have e:Md.ksel (16*3+k)=q:=by
   simp[Md.ksel,show ¬48+k<16 by omega,show ¬48+k<32 by omega,show ¬48+k<48 by omega];omega
  rw[e]
 clear hj hq;go_enter func164,ntmps164;(go_wp2_with fail);go_region
 all_goals go_wp2
 (all_goals go_ret3);all_goals exact⟨by rw[HF.o,HK.o,HT.o];rfl,((b0h _ _).alloc (b0g _) _).drew⟩
theorem a9G (r k:Nat) (b c d:Int) (w:World) (hr:r<4) (hk:k<16) :
  Calls prog 164 #[Iv r,Iv k,Tv b,Tv c,Tv d] w λe w'=>e=.returned (.tuple #[Tv (Md.fsel (16*r+k) b c d),Iv (Md.ksel (16*r+k)),Iv (Md.trnAt ((16*r+k)/16*4+(16*r+k)%4))])/\Bl w w':=by
 rcases(show r=0\/r=1\/r=2\/r=3 by omega) with rfl | rfl | rfl | rfl
 ·exact round0 k b c d w hk
 ·exact round1 k b c d w hk
 ·exact round2 k b c d w hk
 ·exact round3 k b c d w hk
theorem a6u {w w':World}(h:(w.alloc (.cells #[] 5)).grownBy w' (Value.ownBlock (.slice (some (Pv w.heap.size 0)) 0 0))):Bl w w' :=
 ((b0h _ w).alloc (b0g _) _).grown h (by simp) (λk hk=>by simp[Value.ownBlock] at hk;omega)
theorem ByteRow.cast {w:World}{ao:OA}{n n' cap:Nat}{f:Nat->Int}(h:ByteRow w ao n cap f) (e:n=n'):ByteRow w ao n' cap f:=e ▸ h
theorem a9H {w:World}{base n:Nat}{v:Value}{xs:List Value}(h:w.ownsRow base 5 1 v (0+n) ([]++xs)):w.ownsRow base 5 1 v n xs:=by
 rw[Nat.zero_add,List.nil_append] at h;exact h
theorem a1k {w:World}{ac:Array Oper}{rest:List Oper}{o:Oper}{a:Act}{Q:Exit->Act->World->Prop}(af:o.guard=none) (s x:Operand)
  (ho:o.op=.call { callee:=.builtin .append,args:=#[s,x],argTypes:=#[29,29] }) (base:Nat)
  (v:Value) (n:Nat) (P:Nat->Int) (hs:a.eval s=v) (y:Int) (ab:w.ownsRow base 5 1 v n (a0e n P)) (aa:base<=w.heap.size)
  (hx:a.eval x=.slice (some (Pv w.heap.size 0)) 1 1) (hy:y=P n) (hb:n+1<=140737488355328)
  (h:∀v' w',w'.ownsRow base 5 1 v' (n+1) (a0e (n+1) P)->Below base w w'->wpList prog ac Q rest (a.put o.dst v') w'):wpList prog ac Q (o :: rest) a (w.alloc (.cells #[.int .u8 y] 5)):=by
 obtain⟨i0,hi,ag,ae,ad⟩:=info_parts a8q;refine wpList_append_own _ af s x 29 ho base 5 i0 (.int .u8 0) 1 1 underlying29 hi ag ae ad rfl dd v n _ hs (ab.alloc _) ⟨w.heap.size,0,none⟩ 1 1 [.int .u8 y] hx rfl (cell_one_new _ _ _) (by simp[Value.oneCell']) (by unfold maxLen;omega) om (by simp;omega) ?_;intro v' w' h1 h2 _;refine h v' w' ?_ (((b0h _ w).alloc aa _).grown h2 (by simp;omega) (a4j ab));rw[show a0e (n+1) P=a0e n P++[.int .u8 y] by rw[hy];simp[a0e,List.range_succ]];exact h1
def lenV:Value->Nat
 | .slice _ n _=>n
 | _=>0
theorem a1U {w:World}{base n:Nat}{v:Value}{P:Nat->Int}(h:w.ownsRow base 5 1 v n (a0e n P)):∃ao c,v=.slice ao n c/\ByteRow w ao n c P:=by
 obtain⟨ao,c,h1,h2,_⟩:=a2n (f:=P) h;exact⟨ao,c,h1,h2⟩
theorem four32 {w2:World}{g:Nat}{q:Md.St}(h2:w2.heap[g]?=some (.cells (Md.stA q) 236)) :
  w2.cell? (Pv g 0)=some (Tv q.a)/\w2.cell? (Pv g 1)=some (Tv q.b)/\w2.cell? (Pv g 2)=some (Tv q.c)/\w2.cell? (Pv g 3)=some (Tv q.d) /\
  w2.frozen? (Pv g 0)=false/\w2.frozen? (Pv g 1)=false/\w2.frozen? (Pv g 2)=false/\w2.frozen? (Pv g 3)=false :=
 ⟨a9Y w2 g 0 _ _ _ h2,a9Y w2 g 1 _ _ _ h2,a9Y w2 g 2 _ _ _ h2,a9Y w2 g 3 _ _ _ h2,b0a _ _ _ _ _ h2,b0a _ _ _ _ _ h2,b0a _ _ _ _ _ h2,b0a _ _ _ _ _ h2⟩
theorem set32 {w:World}{g:Nat}{q s':Md.St}(hA:w.heap[g]?=some (.cells (Md.stA q) 236)) :
  ((((w.setCell (Pv g 0) (Tv s'.a)).setCell (Pv g 1) (Tv s'.b)).setCell (Pv g 2) (Tv s'.c)).setCell (Pv g 3) (Tv s'.d)).heap[g]?=some (.cells (Md.stA s') 236) /\
  (∀B a,B<=g->Below B a w->Below B a ((((w.setCell (Pv g 0) (Tv s'.a)).setCell (Pv g 1) (Tv s'.b)).setCell (Pv g 2) (Tv s'.c)).setCell (Pv g 3) (Tv s'.d))):=by
 refine⟨?_,λB a hB hb=>(((hb.setCell hB _).setCell hB _).setCell hB _).setCell hB _⟩;rw[b0e _ _ _ _ _ _ (b0e _ _ _ _ _ _ (b0e _ _ _ _ _ _ (b0e _ _ _ _ _ _ hA)))];rfl
def wdTo (B:Nat->Int) (kk:Nat):Nat->Int
 | 0=>0
 | t+1=>(256*wdTo B kk t%4294967296+B (4*kk+(3-t))%4294967296)%4294967296
theorem a6v (n:Int) (h0:0<=n) (h1:n<2 ^ 32):IntKind.u32.wrap n=n:=by
 simp[IntKind.wrap,IntKind.bits,IntKind.signed];omega
theorem a9I (x y:Int):bits .or .u32 x y=bits .or .u32 y x:=by
 unfold bits;simp only[BitVec.or_comm]
theorem wdTo_wd (B:Nat->Int) (kk:Nat) (h:∀i,i<64->0<=B i/\B i<=255) (hk:kk<16):wdTo B kk 4=Md.wd B kk:=by
 have h0:=h (4*kk) om;have h1:=h (4*kk+1) om;have h2:=h (4*kk+2) om;have h3:=h (4*kk+3) om;simp only[wdTo,Md.wd,Nat.sub_zero,Nat.reduceSub,Nat.add_zero];generalize B (4*kk)=x0 at *;generalize B (4*kk+1)=x1 at *;generalize B (4*kk+2)=x2 at *;generalize B (4*kk+3)=x3 at *;have e1:x0%4294967296=x0:=om
 have e2:x1%4294967296*256%4294967296=x1*256:=om
 have e3:x2%4294967296*65536%4294967296=x2*65536:=om
 have e4:x3%4294967296*16777216%4294967296=x3*16777216:=om
 rw[e1,e2,e3,e4];have c (x y:Int):bits .or .u32 x y=bits .or .u32 y x:=a9I x y;have j1:bits .or .u32 x0 (x1*256)=x1*256+x0:=by
  rw[c];exact bits_join .u32 32 dd a6v 8 _ _ om om om om om om
 rw[j1];have j2:bits .or .u32 (x1*256+x0) (x2*65536)=x2*65536+(x1*256+x0):=by
  rw[c];exact bits_join .u32 32 dd a6v 16 _ _ om om om om om om
 rw[j2];have j3:bits .or .u32 (x2*65536+(x1*256+x0)) (x3*16777216)=x3*16777216+(x2*65536+(x1*256+x0)):=by
  rw[c];exact bits_join .u32 32 dd a6v 24 _ _ om om om om om om
 rw[j3];omega
theorem a9J (n:Nat) (bs:Nat->Int) (h:∀i,i<n->0<=bs i/\bs i<=255) (i:Nat) (_:i<64*Md.padM n):0<=Md.pad n bs i/\Md.pad n bs i<=255:=by
 unfold Md.pad;split
 ·exact h i aS
 ·split
  ·omega
  ·split
   ·omega
   ·have:=Int.emod_nonneg (8*(n:Int)/2 ^ (8*(i+8-64*Md.padM n))) (show(256:Int)≠0 by decide);have:=Int.emod_lt_of_pos (8*(n:Int)/2 ^ (8*(i+8-64*Md.padM n))) (show(0:Int)<256 by decide);omega
theorem pad_head (n:Nat) (bs:Nat->Int):a0e n bs=a0e n (Md.pad n bs):=by
 unfold a0e;apply List.map_congr_left
 intro i hi;have:i<n:=by simpa using hi
 simp[Md.pad,this]
theorem a6W (ao:OA) (n cap:Nat) (bs:Nat->Int) (w:World) (hr:ByteRow w ao n cap bs) (ag:ao=none->n=0/\cap=0) (hn:n<=140737488351300) (aa:∀i,i<n->0<=bs i/\bs i<=255) :
  Calls prog 108 #[.slice ao n cap] w λe w'=>∃ro ab,e=.returned (.slice ro 16 ab)/\ByteRow w' ro 16 ab (Md.dg (Md.mixN Md.st0 (Md.pad n bs) (Md.padM n)))/\Bl w w':=by
 have HR:Hid (ByteRow (w.alloc (.cells #[] 5)) ao n cap bs):=hr.below ((b0h _ w).alloc (b0g _) _);have HN:Hid _:=ag;have HP:Hid _:=Md.padM_ge n;have aW:Hid (Md.pad n bs n=128):=by show _=_;simp[Md.pad]
 have ar:Hid (∀i,n<i->i+8<64*Md.padM n->Md.pad n bs i=0):=λi h1 h2=>by simp[Md.pad,h2,show ¬i<n by omega,show ¬i=n by omega]
 have au:Hid (∀j,j<8->Md.pad n bs (64*Md.padM n-8+j)=8*(n:Int)/2 ^ (8*j)%256):=λj h1=>by
  have h9:=HP.o.1;simp only[Md.pad];rw[iN om,iN om,iN om,show 64*Md.padM n-8+j+8-64*Md.padM n=j by omega]
 have HE:Hid (a0e n bs=a0e n (Md.pad n bs)):=pad_head n bs;have aQ:Hid (∀i,i<64*Md.padM n->0<=Md.pad n bs i/\Md.pad n bs i<=255):=a9J n bs aa;clear hr ag aa;generalize Md.pad n bs=P at *;obtain⟨M,HM⟩:=nm (Md.padM n)
 rw[<-HM.o] at HP ar au aQ ⊢;have bo:n+9<=64*M:=HP.o.1;have bw:64*M<n+9+64:=HP.o.2;clear HP;go_enter func108,ntmps108;go_wp2_with (first | (at_builtin;refine a0N rfl (.tmp 25) (.tmp 26) rfl w.heap.size _ 0 [] rfl (a4k w) ao n cap bs rfl HR.o HN.o om (by simp) ?_;intro v1 w1 a4 aX;have aT:Hid (w1.ownsRow w.heap.size 5 1 v1 n (a0e n P)):=(by rw[<-HE.o];exact a9H a4);have aC:Hid (Bl w w1):=a6u aX;clear a4 aX) | (at_builtin;refine a1k rfl (.tmp 28) (.tmp 29) rfl w.heap.size _ n P rfl 128 aT.o aC.o.size rfl aW.o.symm om ?_;intro v2 w2 aK aD;have aE:Hid _:=aK;have aI:Hid (Bl w w2):=aC.o.trans aD;clear aK aD))
 go_loopw [3] (λv wr=>∃L:Nat,n+1<=L/\L+8<=64*M/\Hid (wr.ownsRow w.heap.size 5 1 v L (a0e L P)/\Bl w wr)) (λv _=>64*M-lenV v)
 case atStart=>exact⟨n+1,om,om,aE.o,aI.o⟩
 case round =>
  obtain⟨L,bv,br,hX⟩:=hrel;obtain⟨lo,lc,rfl,_⟩:=a1U hX.o.1;clear aT aC aE aI;by_cases hL:L%64=56
  ·have hd:((L:Int)%64 != 56)=false:=(by simp;omega)
   obtain rfl:L=64*M-8:=om
   (go_wp2_with fail);rename World=>wc
   go_loopw [3,5] (λv i wr=>∃j:Nat,j<=8/\i=Iv j/\Hid (wr.ownsRow w.heap.size 5 1 v (64*M-8+j) (a0e (64*M-8+j) P)/\Bl w wr)) (λ_ i _=>8-(intOf i).toNat)
   case atStart=>exact⟨0,om,rfl,hX.o.1,hX.o.2⟩
   case round =>
    clear hX;obtain⟨j,hj,rfl,hX⟩:=hrel;obtain⟨lo,lc,rfl,aL⟩:=a1U hX.o.1;have a5:Hid (ByteRow wr lo (64*M-8+j) lc P):=aL;clear aL;by_cases hlt:j<8
    ·have HZ:Hid (8*(n:Int)/2 ^ (8*j)%256=P (64*M-8+j)):=(au.o j hlt).symm;go_wp2_with (at_builtin;refine a1k rfl (.tmp 46) (.tmp 52) rfl w.heap.size _ (64*M-8+j) P rfl _ hX.o.1 hX.o.2.size rfl HZ.o om ?_;intro v3 w3 ad ae;have aj:Hid _:=ad;have ah:Hid (Bl w w3):=hX.o.2.trans ae;clear ad ae)
     exact⟨⟨j+1,om,gn,aj.o,ah.o⟩,io⟩
    ·obtain rfl:j=8:=om
     have av:64*M-8+8=64*M:=om
     rw[av];rename World=>wd
     have aN:Hid (ByteRow wd lo (64*M) lc P):=a5.o.cast av;have aH:Hid (Bl w wd):=hX.o.2;clear hX av ar au aW HN HR HE;(go_wp2_with fail);refine(a9F _).mono ?_;rintro e w6 ⟨rfl,aZ,bn,aB⟩;have am:Hid (∀i,i<64->w6.cell? (Pv wd.heap.size i)=some (Tv (Md.tabAt i))):=aZ;have an:Hid (ByteRow w6 lo (64*M) lc P):=aN.o.below aB;have aF:Hid (Bl w w6):=aH.o.trans (aB.mono aH.o.size);clear aZ aB a5 aN;obtain⟨lb,ak,rfl,bf,aJ⟩:=an.o.2 om;have ay:Hid _:=aJ;have aR:64*M<=lc:=an.o.1;clear aJ an;(go_wp2_with fail);go_loopw [8] (λi wr=>∃q:Nat,q<=M/\i=Iv (64*q)/\Hid (wr.heap[w6.heap.size]?=some (.cells (Md.stA (Md.mixN Md.st0 P q)) 236)/\Bl w6 wr)) (λi _=>64*M-(intOf i).toNat)
     case atStart=>exact⟨0,om,rfl,a9Z _ _,(b0h _ w6).alloc (b0g _) _⟩
     case round =>
      obtain⟨q,hq,rfl,hX⟩:=hrel;rename World=>w8
      by_cases hlt:q<M
      ·obtain⟨B,al⟩:∃B:Nat->Int,Hid (B=λi=>P (64*q+i)):=⟨_,rfl⟩
       have HQ:Hid (Md.mixN Md.st0 P (q+1)=Md.mixS (Md.mixN Md.st0 P q) B):=(by rw[al.o];rfl)
       have ac:Hid (w8.heap[w6.heap.size]?=some (.cells (Md.stA (Md.mixN Md.st0 P q)) 236)):=hX.o.1;have af:Hid (Bl w6 w8):=hX.o.2;have aq:w6.heap.size<w8.heap.size:=b0r (a9Y w8 _ 0 _ _ _ ac.o);have a0:w8.cell? (Pv w6.heap.size 0)=some (Tv (Md.mixN Md.st0 P q).a):=a9Y w8 _ 0 _ _ _ ac.o;have a1:w8.cell? (Pv w6.heap.size 1)=some (Tv (Md.mixN Md.st0 P q).b):=a9Y w8 _ 1 _ _ _ ac.o;have a2:w8.cell? (Pv w6.heap.size 2)=some (Tv (Md.mixN Md.st0 P q).c):=a9Y w8 _ 2 _ _ _ ac.o;have a3:w8.cell? (Pv w6.heap.size 3)=some (Tv (Md.mixN Md.st0 P q).d):=a9Y w8 _ 3 _ _ _ ac.o;have bc:Hid (∀i,i<64->w8.cell? (Pv wd.heap.size i)=some (Tv (Md.tabAt i))):=λi hi=>(af.o.cell (by exact bn)).trans (am.o i hi);have bd:Hid (∀i,i<64->w8.cell? (Pv lb (ak+(64*q+i)))=some (.int .u8 (B i))):=λi hi=>by rw[al.o];exact(af.o.cell (by exact bf)).trans (ay.o _ om)
       have a7:Hid (∀i,i<64->0<=B i/\B i<=255):=λi hi=>by rw[al.o];exact aQ.o _ om
       clear hX;generalize Md.mixN Md.st0 P q=s0 at *;clear al ay am;have a6:decide (64*(q:Int)<64*(M:Int))=true:=(by simp;omega)
       (go_wp2_with fail);(go_quiet (fail));(go_wp2_with fail);go_loopw [9,10,11,12,13] (λra rb rc rd i wr=>∃r:Nat,r<=4/\i=Iv r/\ra=Tv (Md.runTo B (16*r) s0).a/\rb=Tv (Md.runTo B (16*r) s0).b/\rc=Tv (Md.runTo B (16*r) s0).c/\rd=Tv (Md.runTo B (16*r) s0).d/\Hid (Bl w8 wr)) (λ_ _ _ _ i _=>4-(intOf i).toNat)
       case atStart=>exact⟨0,om,rfl,rfl,rfl,rfl,rfl,a0d (b0h _ _) _⟩
       case round =>
        obtain⟨r,hr,rfl,rfl,rfl,rfl,rfl,hX⟩:=hrel;rename World=>w9
        by_cases hrlt:r<4
        ·have bz:decide ((r:Int)<4)=true:=(by simp;omega)
         (go_wp2_with fail);go_loopw [9,10,11,12,14] (λra rb rc rd i wr=>∃k:Nat,k<=16/\i=Iv k/\ra=Tv (Md.runTo B (16*r+k) s0).a/\rb=Tv (Md.runTo B (16*r+k) s0).b/\rc=Tv (Md.runTo B (16*r+k) s0).c/\rd=Tv (Md.runTo B (16*r+k) s0).d/\Hid (Bl w8 wr)) (λ_ _ _ _ i _=>16-(intOf i).toNat)
         case atStart=>exact⟨0,om,rfl,rfl,rfl,rfl,rfl,hX.o⟩
         case round =>
          clear hX;obtain⟨k,hk,rfl,rfl,rfl,rfl,rfl,hX⟩:=hrel;rename World=>wa
          by_cases hklt:k<16
          ·have aM:Hid (Md.runTo B (16*r+(k+1)) s0=Md.stp B (16*r+k) (Md.runTo B (16*r+k) s0)):=rfl;generalize Md.runTo B (16*r+k) s0=s1 at *;(go_wp2_with fail);refine(a9G r k _ _ _ _ hrlt hklt).mono ?_;rintro e wb ⟨rfl,aG⟩;have ax:Hid (Bl w8 wb):=hX.o.trans (aG.mono hX.o.size);have bl:Md.ksel (16*r+k)<16:=Md.ksel_lt _;have bq:Hid (16*r+k<64):=by show _<_;omega
           have aw:=Md.trnAt_range ((16*r+k)/16*4+(16*r+k)%4) om;have ap:=aw.1;have az:=aw.2;have c6:wb.cell? (Pv wd.heap.size (16*r+k))=some (Tv (Md.tabAt (16*r+k))):=(ax.o.cell (by show wd.heap.size<w8.heap.size;omega)).trans (bc.o _ om);clear aG aw hX;have bh:Hid (Md.runTo B (16*r+(k+1)) s0=⟨s1.d,(s1.b+Md.rotl ((s1.a+Md.fsel (16*r+k) s1.b s1.c s1.d+Md.tabAt (16*r+k)+wdTo B (Md.ksel (16*r+k)) 4)%4294967296) (Md.trnAt ((16*r+k)/16*4+(16*r+k)%4)))%4294967296,s1.b,s1.c⟩):=by
            rw[aM.o,wdTo_wd B _ a7.o bl];rfl
           clear aM;generalize Md.trnAt ((16*r+k)/16*4+(16*r+k)%4)=tn at *;generalize Md.fsel (16*r+k) s1.b s1.c s1.d=fs at *;generalize Md.tabAt (16*r+k)=ta at *;generalize Md.ksel (16*r+k)=kk at *;(go_wp2_with fail);go_loop [18,19] (λx i=>∃t u:Nat,t+u=4/\i=Iv ((u:Int)-1)/\x=Tv (wdTo B kk t)) (λ_ i=>((intOf i)+1).toNat)
           case atStart=>exact⟨0,4,om,rfl,rfl⟩
           case round =>
            obtain⟨t,u,bj,rfl,rfl⟩:=hrel;cases u with
            | zero =>
             obtain rfl:t=4:=om
             rw[show(((0:Nat):Int)-1)=(-1:Int) by omega];(go_wp2_with fail);refine(turn_any _ _ _ ap az).mono ?_;rintro e wt ⟨rfl,nt,a9⟩;subst a9;go_wp2
             refine⟨⟨k+1,om,gn,?_⟩,io⟩;rw[bh.o];exact⟨rfl,rfl,rfl,rfl,a0d ax.o _⟩
            | succ u =>
             rw[show(((u+1:Nat):Int)-1)=(u:Int) by omega];have cu:wb.cell? (Pv lb (ak+(64*q+4*kk+u)))=some (.int .u8 (B (4*kk+u))):=by
              rw[show 64*q+4*kk+u=64*q+(4*kk+u) by omega];exact(ax.o.cell (by show lb<w8.heap.size;omega)).trans (bd.o _ om)
             have hu:64*q+4*kk+u<64*M:=om
             have bt:u<4:=om
             have aO:t=3-u:=om
             have aU:Hid (t=3-u):=aO;clear aO bj;have bb:Hid (wdTo B kk (t+1)=(256*wdTo B kk t%4294967296+B (4*kk+u)%4294967296)%4294967296):=by
              show _=_;rw[wdTo,show 3-t=u by have:=aU.o;omega]
             go_wp2
             exact⟨⟨t+1,u,by have:=aU.o;omega,rfl,by rw[bb.o]⟩,by simp[intOf]⟩
          ·obtain rfl:k=16:=om
           go_wp2
           exact⟨⟨r+1,om,gn,by rw[show 16*(r+1)=16*r+16 by omega];exact⟨rfl,rfl,rfl,rfl,hX.o⟩⟩,io⟩
        ·obtain rfl:r=4:=om
         have aY:Hid (w9.heap[w6.heap.size]?=some (.cells (Md.stA s0) 236)):=(hX.o.block _ aq).trans ac.o;have be:Hid (Bl w6 w9):=af.o.trans (hX.o.mono om);obtain⟨b0,b1,b2,b3,f0,f1,f2,f3⟩:=four32 aY.o;clear hX a0 a1 a2 a3;have ba:Hid (Md.mixN Md.st0 P (q+1)=⟨(s0.a+(Md.runTo B (16*4) s0).a)%4294967296,(s0.b+(Md.runTo B (16*4) s0).b)%4294967296,(s0.c+(Md.runTo B (16*4) s0).c)%4294967296,(s0.d+(Md.runTo B (16*4) s0).d)%4294967296⟩):=(by rw[HQ.o];rfl)
         generalize Md.runTo B (16*4) s0=s4 at *;(go_wp2_with fail);go_region
         all_goals go_wp2
         all_goals
          have ai:=set32 (s':=⟨(s0.a+s4.a)%4294967296,(s0.b+s4.b)%4294967296,(s0.c+s4.c)%4294967296,(s0.d+s4.d)%4294967296⟩) aY.o;exact⟨⟨q+1,om,gn,by rw[ba.o];exact ai.1,(ai.2 _ _ (b0g _) be.o).drew⟩,io⟩
      ·obtain rfl:q=M:=om
       have a6:decide (64*(q:Int)<64*(q:Int))=false:=(by simp)
       have ac:Hid (w8.heap[w6.heap.size]?=some (.cells (Md.stA (Md.mixN Md.st0 P q)) 236)):=hX.o.1;have af:Hid (Bl w w8):=aF.o.trans (hX.o.2.mono aF.o.size);have aq:w6.heap.size<w8.heap.size:=b0r (a9Y w8 _ 0 _ _ _ ac.o);clear hX ay am;generalize hsF:Md.mixN Md.st0 P q=sF at *;have bm:Hid (Md.mixN Md.st0 P q=sF):=hsF;clear hsF;(go_wp2_with fail);go_loopw [21,160] (λv i wr=>∃j:Nat,j<=4/\i=Iv j/\Hid (wr.ownsRow w8.heap.size 5 1 v (4*j) (a0e (4*j) (Md.dg sF))/\Bl w8 wr)) (λ_ i _=>4-(intOf i).toNat)
       case atStart=>exact⟨0,om,rfl,World.ownsRow_nil _ _ _ _,b0h _ _⟩
       case round =>
        obtain⟨j,hj,rfl,hX⟩:=hrel;rename World=>w9
        by_cases hjlt:j<4
        ·have bx:decide ((j:Int)<4)=true:=(by simp;omega)
         have cj:w9.cell? (Pv w6.heap.size j)=some (Tv (Md.wordOf sF j)):=by
          rw[hX.o.2.cell (by exact aq),a9Y w8 _ j _ _ _ ac.o];rcases(show j=0\/j=1\/j=2\/j=3 by omega) with rfl | rfl | rfl | rfl<;>rfl
         have bg:Hid (∀t,t<4->Md.wordOf sF j/2 ^ (8*t)%256=Md.dg sF (4*j+t)):=λt ht=>by
          unfold Md.dg;rw[show(4*j+t)/4=j by omega,show(4*j+t)%4=t by omega]
         generalize Md.wordOf sF j=x at *;(go_wp2_with fail);go_loopw [21,24] (λv i wr=>∃t:Nat,t<=4/\i=Iv t/\Hid (wr.ownsRow w8.heap.size 5 1 v (4*j+t) (a0e (4*j+t) (Md.dg sF))/\Bl w8 wr)) (λ_ i _=>4-(intOf i).toNat)
         case atStart=>exact⟨0,om,rfl,hX.o.1,hX.o.2⟩
         case round =>
          clear hX;obtain⟨t,ht,rfl,hX⟩:=hrel;by_cases htlt:t<4
          ·have HZ:Hid (x/2 ^ (8*t)%256=Md.dg sF (4*j+t)):=bg.o t htlt;go_wp2_with (at_builtin;refine a1k rfl (.tmp 168) (.tmp 174) rfl w8.heap.size _ (4*j+t) (Md.dg sF) rfl _ hX.o.1 hX.o.2.size rfl HZ.o om ?_;intro v3 w3 ad ae;have aj:Hid _:=ad;have ah:Hid (Bl w8 w3):=hX.o.2.trans ae;clear ad ae)
           exact⟨⟨t+1,om,gn,aj.o,ah.o⟩,io⟩
          ·obtain rfl:t=4:=om
           go_wp2
           exact⟨⟨j+1,om,gn,by rw[show 4*(j+1)=4*j+4 by omega];exact hX.o.1,hX.o.2⟩,io⟩
        ·obtain rfl:j=4:=om
         obtain⟨ro,ab,rfl,aV⟩:=a1U hX.o.1;have a8:Hid (ByteRow w9 ro 16 ab (Md.dg sF)):=aV;clear aV;go_wp2
         go_ret;exact⟨ro,ab,rfl,by rw[bm.o];exact a8.o,af.o.trans (hX.o.2.mono af.o.size)⟩
  ·have hd:((L:Int)%64 != 56)=true:=(by simp;omega)
   have HZ:Hid (0=P L):=(ar.o L om om).symm;go_wp2_with (at_builtin;refine a1k rfl (.tmp 35) (.tmp 36) rfl w.heap.size _ L P rfl 0 hX.o.1 hX.o.2.size rfl HZ.o om ?_;intro v3 w3 ad ae;obtain⟨bp,bu,rfl,bi⟩:=a1U ad;have aj:Hid _:=ad;have ah:Hid (Bl w w3):=hX.o.2.trans ae;clear ad ae bi)
   exact⟨⟨L+1,om,om,aj.o,ah.o⟩,by simp[lenV];omega⟩
def a3h (f g:Nat->Int) (i:Nat):Int:=if i<64 then f i else g (i-64)
theorem a9K (f bs:Nat->Int) (n:Nat):Md.fin Md.st0 0 (64+n) (a3h f bs)=Md.fin (Md.mixS Md.st0 f) 64 n bs:=by
 unfold Md.fin;have e1:(64+n)/64=1+n/64:=om
 have e2:(64+n)%64=n%64:=om
 rw[e1,e2,Md.mixN_add];have e3:Md.mixN Md.st0 (a3h f bs) 1=Md.mixS Md.st0 f:=Md.mixS_congr _ _ (λj hj=>by simp[a3h,hj]) _;have e4:(λi=>a3h f bs (64*1+i))=bs:=by
  funext i
  unfold a3h;rw[iN om,show 64*1+i-64=i by omega]
 have e5:(λi=>a3h f bs (64*(1+n/64)+i))=(λi=>bs (64*(n/64)+i)):=by
  funext i
  unfold a3h;rw[iN om,show 64*(1+n/64)+i-64=64*(n/64)+i by omega]
 rw[e3,e4,e5];have e6:(((0:Nat):Int)+((64+n:Nat):Int))*8=(((64:Nat):Int)+(n:Int))*8:=om
 rw[e6]
theorem xk_range (K:Nat->Int) (m:Int) (i:Nat):0<=Md.xk K m i/\Md.xk K m i<=255:=⟨bits_lo_u8 _ _ _,bits_hi_u8 _ _ _⟩
theorem dg_range (s:Md.St) (i:Nat):0<=Md.dg s i/\Md.dg s i<=255:=by
 unfold Md.dg;have h1:=Int.emod_nonneg (Md.wordOf s (i/4)/2 ^ (8*(i%4))) (show(256:Int)≠0 by decide);have h2:=Int.emod_lt_of_pos (Md.wordOf s (i/4)/2 ^ (8*(i%4))) (show(0:Int)<256 by decide);omega
theorem a6X (f bs:Nat->Int) (n:Nat):a0e 64 f++a0e n bs=a0e (64+n) (a3h f bs):=by
 apply List.ext_getElem?
 intro i;by_cases h1:i<64
 ·rw[List.getElem?_append_left (by simpa[a0g] using h1)];simp[a0e,a3h,h1,show i<64+n by omega]
 ·rw[List.getElem?_append_right (by simp[a0g];omega),a0g];by_cases h2:i<64+n
  ·simp[a0e,a3h,h1,h2,show i-64<n by omega]
  ·simp[a0e,h2,show ¬i-64<n by omega]
theorem a1h {w:World}{ai:Array Oper}{rest:List Oper}{o:Oper}{a:Act}{Q:Exit->Act->World->Prop}(al:o.guard=none) (s x:Operand)
  (ho:o.op=.call { callee:=.builtin .append,args:=#[s,x],argTypes:=#[29,29] }) (base:Nat)
  (v:Value) (n:Nat) (P:Nat->Int) (hs:a.eval s=v) (y:Int) (ad:w.ownsRow base 5 1 v n (a0e n P)) (ah:base<=w.heap.size)
  (hx:a.eval x=.slice (some (Pv w.heap.size 0)) 1 1) (hy:y=P n) (hb:n+1<=1000)
  (h:∀v' w',w'.ownsRow base 5 1 v' (n+1) (a0e (n+1) P)->w.grownBy w' v.ownBlock->(v'.ownBlock=v.ownBlock\/∃g,v'.ownBlock=some g/\w.heap.size<=g)->wpList prog ai Q rest (a.put o.dst v') w'):wpList prog ai Q (o :: rest) a (w.alloc (.cells #[.int .u8 y] 5)):=by
 obtain⟨i0,hi,ag,ac,ae⟩:=info_parts a8q;refine wpList_plain al λK hK => ?_;have aa:∀j u,([Value.int .u8 y]:List Value)[j]?=some u->(w.alloc (.cells #[.int .u8 y] 5)).cell? ((⟨w.heap.size,0,none⟩:Addr).add j)=some u:=cell_one_new _ _ _;obtain⟨v',w',hr,h2,h3,_⟩:=run_append_own (P:=prog) (w.alloc (.cells #[.int .u8 y] 5)) base 29 o.type 5 i0 (.int .u8 0) 1 1 underlying29 hi ag ac ae rfl dd v n _ (ad.alloc _) ⟨w.heap.size,0,none⟩ 1 1 [.int .u8 y] rfl aa (by simp[Value.oneCell']) (by unfold maxLen;omega) om (by simp;omega);have af:v'.ownBlock=v.ownBlock\/∃g,v'.ownBlock=some g/\w.heap.size<=g:=by
  have ab:=ad.alloc (.cells #[.int .u8 y] 5);rcases ab.2 with⟨rfl,rfl⟩ | ⟨g,cap,am,rfl,ao,hg,ap,aq,an,aj⟩
  ·have e:=run_append_nil (P:=prog) (w.alloc (.cells #[.int .u8 y] 5)) 29 o.type 5 i0 (.int .u8 0) underlying29 hi ag ⟨w.heap.size,0,none⟩ 1 1 [.int .u8 y] (by rw[ac];rfl) aa om om (by rw[ae];omega);rw[hr] at e;injection e with e1 e2;right
   rw[e1];exact⟨_,rfl,by simp⟩
  ·by_cases hroom:n+1<=cap
   ·have e:=run_append_room (P:=prog) (w.alloc (.cells #[.int .u8 y] 5)) 29 o.type 5 i0 underlying29 hi g n cap am hg ⟨w.heap.size,0,none⟩ 1 1 [.int .u8 y] (by rw[ac];rfl) aa (by simp[Value.oneCell']) hroom (by rw[ac];simp;omega);rw[hr] at e;injection e with e1 e2;left
    rw[e1];rfl
   ·have e:=run_append_grow (P:=prog) (w.alloc (.cells #[.int .u8 y] 5)) 29 o.type 5 i0 (.int .u8 0) underlying29 hi ag ⟨g,0,none⟩ n cap (a0e n P) (by rw[ac,a0g];omega) (ab.cells (g:=g) rfl) ⟨w.heap.size,0,none⟩ 1 1 [.int .u8 y] (by rw[ac];rfl) aa om om (growslice_fits om (by rw[ae];omega));rw[hr] at e;injection e with e1 e2;right
    rw[e1];exact⟨_,rfl,by simp⟩
 unfold Oper.wp;simp[execOp,ho,resolve,invoke,builtin,hs,hx,hr,Result.andThen];refine hK _ _ (h v' w' ?_ ?_ af)
 ·rw[show a0e (n+1) P=a0e n P++[.int .u8 y] by rw[hy];simp[a0e,List.range_succ]];exact h2
 ·exact⟨h3.os,h3.tape,h3.output,b0p (by simp) h3.size,λk hk ak=>(h3.block k (by simp;omega) ak).trans (Below.heap_alloc w _ k hk)⟩
structure Two (base:Nat) (K:Nat->Int) (WB w:World) (vi vo:Value) (j:Nat):Prop where
 inn:w.ownsRow base 5 1 vi j (a0e j (Md.xk K 54))
 out:w.ownsRow base 5 1 vo j (a0e j (Md.xk K 92))
 apart:∀g,vi.ownBlock=some g->vo.ownBlock≠some g
 low:Below base WB w
abbrev Two.o:=@Two.out
theorem a4A {w:World}{base n:Nat}{v:Value}{xs:List Value}(h:w.ownsRow base 5 1 v n xs) (g:Nat) (hg:v.ownBlock=some g):base<=g/\g<w.heap.size:=h.lt g hg
theorem a9L {base:Nat}{K:Nat->Int}{WB w w':World}{vi vo aa:Value}{j:Nat}(h:Two base K WB w vi vo j) (hb:base<=w.heap.size) (h1:w'.ownsRow base 5 1 aa (j+1) (a0e (j+1) (Md.xk K 54))) (hg:w.grownBy w' vi.ownBlock) (hk:aa.ownBlock=vi.ownBlock\/∃g,aa.ownBlock=some g/\w.heap.size<=g) :
  w'.ownsRow base 5 1 aa (j+1) (a0e (j+1) (Md.xk K 54))/\w'.ownsRow base 5 1 vo j (a0e j (Md.xk K 92))/\(∀g,aa.ownBlock=some g->vo.ownBlock≠some g)/\Below base WB w'/\base<=w'.heap.size:=by
 refine⟨h1,h.o.kept hg ?_,?_,h.low.grown hg hb (λk hk=>(a4A h.inn k hk).1),b0p hb hg.size⟩
 ·cases hv:vo.ownBlock with
  | none=>exact Or.inl rfl
  | some g=>exact Or.inr (λe=>h.apart g e.symm hv)
 ·intro g h2 h3;rcases hk with e | ⟨g',e,ab⟩
  ·exact h.apart g (e ▸ h2) h3
  ·rw[e] at h2;cases h2
   have:=(a4A h.o g h3).2;omega
theorem a9M {base:Nat}{K:Nat->Int}{WB w w':World}{vi vo aa:Value}{j:Nat}(hi:w.ownsRow base 5 1 vi (j+1) (a0e (j+1) (Md.xk K 54))) (ab:∀g,vi.ownBlock=some g->vo.ownBlock≠some g) (ho:w.ownsRow base 5 1 vo j (a0e j (Md.xk K 92))) (hl:Below base WB w) (hb:base<=w.heap.size) (h1:w'.ownsRow base 5 1 aa (j+1) (a0e (j+1) (Md.xk K 92))) (hg:w.grownBy w' vo.ownBlock) (hk:aa.ownBlock=vo.ownBlock\/∃g,aa.ownBlock=some g/\w.heap.size<=g) :
  Two base K WB w' vi aa (j+1):=by
 refine⟨hi.kept hg ?_,h1,?_,hl.grown hg hb (λk hk=>(a4A ho k hk).1)⟩
 ·cases hv:vi.ownBlock with
  | none=>exact Or.inl rfl
  | some g=>exact Or.inr (λe=>ab g hv e.symm)
 ·intro g h2 h3;rcases hk with e | ⟨g',e,ac⟩
  ·exact ab g h2 (e ▸ h3)
  ·rw[e] at h3;cases h3
   have:=(a4A hi g h2).2;omega
theorem a5J {bs:Nat->Int}{K:Nat->Int}{m:Int}{n:Nat}(hf:∀i,i<n->0<=bs i/\bs i<=255) (i:Nat) (hi:i<64+n):0<=a3h (Md.xk K m) bs i/\a3h (Md.xk K m) bs i<=255:=by
 unfold a3h;by_cases h:i<64
 ·rw[iP h];exact xk_range K m i
 ·rw[iN h];exact hf _ om
theorem apart_or {vi vo:Value}(h:∀g,vi.ownBlock=some g->vo.ownBlock≠some g):vo.ownBlock=none\/vo.ownBlock≠vi.ownBlock:=by
 cases hv:vo.ownBlock with
 | none=>exact Or.inl rfl
 | some g=>exact Or.inr (λe=>h g e.symm hv)
theorem a8h (ko ao:OA) (kn ah n cap:Nat) (ak bs:Nat->Int) (w:World) (hk:ByteRow w ko kn ah ak) (hr:ByteRow w ao n cap bs) (au:ao=none->n=0/\cap=0) (hn:n<=140737488351232) (ac:∀i,i<n->0<=bs i/\bs i<=255) (hs:kn<=64) :
  Calls prog 70 #[.slice ko kn ah,.slice ao n cap] w λe w'=>∃ro ae,e=.returned (.slice ro 16 ae)/\ByteRow w' ro 16 ae (Md.dg (Md.mac kn ak n bs))/\Bl w w':=by
 have ba:Hid (ByteRow w ko kn ah ak):=hk;have a6:Hid (ByteRow w ao n cap bs):=hr;have aM:Hid _:=au;have bd:Hid _:=ac;have aX:Hid (Bl w w):=b0h _ _;obtain⟨K,HK⟩:=nm (Md.kb kn ak)
 have bb:Hid (∀i,(if i<kn then ak i else 0)=K i):=λi=>by rw[HK.o];unfold Md.kb;rw[iP hs]
 have aF:Hid (Md.mac kn ak n bs=Md.fin (Md.mixS Md.st0 (Md.xk K 92)) 64 16 (Md.dg (Md.fin (Md.mixS Md.st0 (Md.xk K 54)) 64 n bs))):=(by rw[HK.o];rfl)
 clear hk hr au ac HK;go_enter func70,ntmps70;(go_wp2_with fail);go_loopw [5,6,7] (λvi vo i wr=>∃j:Nat,j<=64/\i=Iv j/\Hid (Two w.heap.size K w wr vi vo j)) (λ_ _ i _=>64-(intOf i).toNat)
 case atStart=>exact⟨0,om,rfl,World.ownsRow_nil _ _ _ _,World.ownsRow_nil _ _ _ _,λg h=>by simp[Value.ownBlock] at h,b0h _ _⟩
 case round =>
   obtain⟨j,hj,rfl,hX⟩:=hrel;rename World=>w3
   by_cases hlt:j<64
   ·have az:Hid (bits BinOp.xor IntKind.u8 (K j) 54=Md.xk K 54 j):=rfl;have aD:Hid (bits BinOp.xor IntKind.u8 (K j) 92=Md.xk K 92 j):=rfl;have ax:Hid ((if j<kn then ak j else 0)=K j):=bb.o j;by_cases hin:j<kn
    ·obtain⟨kb,aK,rfl,a9,a5⟩:=ba.o.2 om;have cj:w3.cell? (Pv kb (aK+j))=some (.int .u8 (K j)):=by
      rw[hX.o.low.cell (by exact a9),a5 j hin];have h1:=ax.o;rw[iP hin] at h1;rw[h1]
     clear ax a5;generalize K j=kj at *;go_wp2_with (first | (at_builtin;refine a1h rfl (.tmp 26) (.tmp 29) rfl w.heap.size _ j (Md.xk K 54) rfl _ hX.o.inn hX.o.low.size rfl az.o om ?_;intro v4 w4 an av al;obtain⟨ap,af,ag,ab,aj⟩:=a9L hX.o hX.o.low.size an av al;have aI:Hid _:=ap;have ad:Hid _:=af;have ai:Hid _:=ag;have aa:Hid (Bl w w4):=ab;clear an av al ap af ag ab aj) | (at_builtin;refine a1h rfl (.tmp 31) (.tmp 34) rfl w.heap.size _ j (Md.xk K 92) rfl _ ad.o aa.o.size rfl aD.o om ?_;intro v5 w5 am aw aq;have h5:=a9M aI.o ai.o ad.o aa.o aa.o.size am aw aq;have H5:Hid (Two w.heap.size K w w5 v4 v5 (j+1)):=h5;clear am aw aq h5))
     exact⟨⟨j+1,om,gn,H5.o⟩,io⟩
    ·have a1:K j=0:=by
      have h1:=ax.o;rw[iN hin] at h1;exact h1.symm
     rw[a1] at az aD;clear ax a1;go_wp2_with (first | (at_builtin;refine a1h rfl (.tmp 26) (.tmp 29) rfl w.heap.size _ j (Md.xk K 54) rfl _ hX.o.inn hX.o.low.size rfl az.o om ?_;intro v4 w4 an av al;obtain⟨ap,af,ag,ab,aj⟩:=a9L hX.o hX.o.low.size an av al;have aI:Hid _:=ap;have ad:Hid _:=af;have ai:Hid _:=ag;have aa:Hid (Bl w w4):=ab;clear an av al ap af ag ab aj) | (at_builtin;refine a1h rfl (.tmp 31) (.tmp 34) rfl w.heap.size _ j (Md.xk K 92) rfl _ ad.o aa.o.size rfl aD.o om ?_;intro v5 w5 am aw aq;have h5:=a9M aI.o ai.o ad.o aa.o aa.o.size am aw aq;have H5:Hid (Two w.heap.size K w w5 v4 v5 (j+1)):=h5;clear am aw aq h5))
     exact⟨⟨j+1,om,gn,H5.o⟩,io⟩
   ·obtain rfl:j=64:=om
    have aT:Hid (w3.ownsRow w.heap.size 5 1 _ 64 (a0e 64 (Md.xk K 54))):=hX.o.inn;have bc:Hid (w3.ownsRow w.heap.size 5 1 _ 64 (a0e 64 (Md.xk K 92))):=hX.o.out;have be:Hid _:=hX.o.apart;have ay:Hid (Bl w w3):=hX.o.low;have a7:Hid (ByteRow w3 ao n cap bs):=a6.o.below ay.o;clear hX;go_wp2_with (at_builtin;refine a0N rfl (.tmp 37) (.tmp 38) rfl w.heap.size _ 64 _ rfl aT.o ao n cap bs rfl a7.o aM.o om ay.o.size ?_;intro v6 w6 aE aC;have a2:Hid _:=bc.o.kept aC (apart_or be.o);have aY:Bl w w6:=ay.o.grown aC ay.o.size (λk hk=>(a4A aT.o k hk).1);rw[a6X] at aE;obtain⟨io,ic,rfl,aR⟩:=a1U aE;have aG:Hid (ByteRow w6 io (64+n) ic (a3h (Md.xk K 54) bs)):=aR;have aN:Hid (Bl w w6):=aY;clear aE aC aR aY)
    refine(a6W io (64+n) ic _ _ aG.o (λh=>absurd (aG.o.2 om) (by subst h;rintro⟨b,off,h2,_⟩;cases h2)) om (λi _=>a5J bd.o i aS)).mono ?_;rintro e w7 ⟨ro,ae,rfl,aB,aH⟩;rw[Md.sum_same,a9K] at aB;have aZ:Hid (ByteRow w7 ro 16 ae _):=aB;have aU:Hid _:=a3j a2.o aH;have aL:Hid (Bl w w7):=aN.o.trans (aH.mono aN.o.size);clear aB aH aG a2 aN;go_wp2_with (at_builtin;refine a0N rfl (.tmp 36) (.tmp 40) rfl w.heap.size _ 64 _ rfl aU.o ro 16 ae _ rfl aZ.o (λh=>absurd (aZ.o.2 om) (by subst h;rintro⟨b,off,h2,_⟩;cases h2)) om aL.o.size ?_;intro v8 w8 aO aV;have a4:Bl w w8:=aL.o.grown aV aL.o.size (λk hk=>(a4A aU.o k hk).1);rw[a6X] at aO;obtain⟨oo,oc,rfl,aW⟩:=a1U aO;have a3:Hid (ByteRow w8 oo (64+16) oc _):=aW;have a0:Hid (Bl w w8):=a4;clear aO aV aW a4)
    refine(a6W oo (64+16) oc _ _ a3.o (λh=>absurd (a3.o.2 om) (by subst h;rintro⟨b,off,h2,_⟩;cases h2)) om (λi _=>a5J (λi _=>dg_range _ i) i aS)).mono ?_;rintro e w9 ⟨po,ar,rfl,aJ,aQ⟩;rw[Md.sum_same,a9K] at aJ;have a8:Hid (ByteRow w9 po 16 ar _):=aJ;have bf:Hid (Bl w w9):=a0.o.trans (aQ.mono a0.o.size);clear aJ aQ;go_wp2
    go_ret;exact⟨po,ar,rfl,by rw[aF.o];exact a8.o,aX.o.trans (bf.o.mono aX.o.size)⟩
def OwnC (w:World) (base:Nat) (v:Value) (n:Nat) (f:Nat->Int):Prop :=
 ∃g cap,v=.slice (some (Pv g 0)) n cap/\base<=g/\g<w.heap.size/\n<=cap/\(∀i,i<n->w.cell? (Pv g i)=some (.int .u8 (f i)))/\(∀i,i<cap->(w.cell? (Pv g i)).isSome=true)/\(∀i,i<cap->w.frozen? (Pv g i)=false)
theorem OwnC.below {w w':World}{base n:Nat}{v:Value}{f:Nat->Int}(h:OwnC w base v n f) (hb:Bl w w'):OwnC w' base v n f:=by
 obtain⟨g,cap,e,h1,h2,h3,h4,h5,h6⟩:=h;exact⟨g,cap,e,h1,b0q h2 hb.size,h3,λi hi=>(hb.cell (by exact h2)).trans (h4 i hi),λi hi=>by rw[hb.cell (by exact h2)];exact h5 i hi,λi hi=>by rw[hb.frozen (by exact h2)];exact h6 i hi⟩
theorem OwnC.congr {w:World}{base n:Nat}{v:Value}{f g:Nat->Int}(h:OwnC w base v n f) (e:∀i,i<n->f i=g i):OwnC w base v n g:=by
 obtain⟨g,cap,e1,h1,h2,h3,h4,h5⟩:=h;exact⟨g,cap,e1,h1,h2,h3,λi hi=>by rw[<-e i hi];exact h4 i hi,h5⟩
theorem OwnC.bytes {w:World}{base n:Nat}{v:Value}{f:Nat->Int}(h:OwnC w base v n f):∃g cap,v=.slice (some (Pv g 0)) n cap/\ByteRow w (some (Pv g 0)) n cap f:=by
 obtain⟨g,cap,e1,h1,h2,h3,h4,h5⟩:=h;exact⟨g,cap,e1,h3,λ_=>⟨g,0,rfl,h2,λi hi=>by rw[Nat.zero_add];exact h4 i hi⟩⟩
theorem a4a {w:World}{g cap n base:Nat}{ab:Array Value}{f:Nat->Int}{fr:Nat×Nat}(h:w.heap[g]?=some (.cells ab 5 fr)) (ac:fr=(0,0)\/ab.size<=fr.1) (ad:ab.size=cap) (hn:n<=cap) (hb:base<=g) (hc:∀i,i<n->ab[i]?=some (.int .u8 (f i))) :
  OwnC w base (.slice (some (Pv g 0)) n cap) n f:=by
 have aa:∀i,w.cell? (Pv g i)=ab[i]?:=λi=>a9Y w g i _ _ _ h;refine⟨g,cap,rfl,hb,(gSm.1 h).1,hn,λi hi=>(aa i).trans (hc i hi),λi hi => ?_,λi hi => ?_⟩
 ·rw[aa i,Array.getElem?_eq_getElem om];rfl
 ·rcases ac with rfl | ac
  ·exact b0a _ _ _ _ _ h
  ·unfold World.frozen?;rw[h];simp;omega
theorem a5K {w:World}{base n:Nat}{v:Value}{f:Nat->Int}(h:w.ownsRow base 5 1 v n (a0e n f)) (hn:0<n):OwnC w base v n f:=by
 obtain⟨_,h2⟩:=h;rcases h2 with⟨rfl,rfl⟩ | ⟨g,cap,ab,rfl,hg,hh,aa,hm,hs,ht⟩
 ·omega
 ·refine a4a hh (Or.inl rfl) om aa hg (λi hi => ?_);have h3:(ab.toList.take (n*1))[i]?=(a0e n f)[i]?:=(by rw[ht])
  rw[Nat.mul_one,List.getElem?_take_of_lt hi,Array.getElem?_toList] at h3;rw[h3];simp[a0e,hi]
theorem a2a {w:World}{ai:Array Oper}{rest:List Oper}{o:Oper}{a:Act}{Q:Exit->Act->World->Prop}(ao:o.guard=none) (s x:Operand)
  (ho:o.op=.call { callee:=.builtin .append,args:=#[s,x],argTypes:=#[29,29] }) (base:Nat)
  (v:Value) (n:Nat) (f:Nat->Int) (hs:a.eval s=v) (ah:OwnC w base v n f)
  (xg xo m c:Nat) (bs:Nat->Int) (hx:a.eval x=.slice (some (Pv xg xo)) m c) (hr:ByteRow w (some (Pv xg xo)) m c bs) (hm:0<m) (hb:n+m<=1000000) (ae:base<=w.heap.size)
  (h:∀v' w',OwnC w' base v' (n+m) (cat n f bs)->Below base w w'->wpList prog ai Q rest (a.put o.dst v') w'):wpList prog ai Q (o :: rest) a w:=by
 obtain⟨i0,hi,ap,an,ak⟩:=info_parts a8q;obtain⟨g,cap,rfl,h1,h2,h3,h4,h5,h6⟩:=ah;have af:∀(k:Nat) (q:Nat->Int),(a0e k q).length=k*1:=λk q=>by rw[a0g,Nat.mul_one]
 refine wpList_append_arg w ao s x 29 ho 5 i0 (.int .u8 0) 1 1 underlying29 hi ap an ak rfl dd g 0 n cap (a0e n f) hs (af n f) (λj u hj => ?_) ⟨xg,xo,none⟩ m c (a0e m bs) hx (af m bs) (a8o hr rfl) (a1P _ _) (λac j hj => ?_) (by unfold maxLen;omega) om (λac => ?_) (λ_ v' w' ab al => ?_)
 ·obtain⟨aj,rfl⟩:=a2G _ _ _ _ hj;rw[Nat.zero_add];exact h4 j aj
 ·rw[a0g] at hj;rw[Nat.zero_add,Nat.mul_one];exact⟨h5 _ om,h6 _ om⟩
 ·have am:=World.cell?_setCells_in g (a0e m bs) (0+n*1) w (λj hj=>by rw[a0g] at hj;rw[Nat.zero_add,Nat.mul_one];exact h5 _ om);have ad:=World.cell?_setCells_out g (a0e m bs) (0+n*1) w;have aa:∀i,i<n+m->(w.setCells g (0+n*1) (a0e m bs)).cell? (Pv g i)=some (.int .u8 (cat n f bs i)):=by
   intro i hi;unfold cat;by_cases e:i<n
   ·rw[iP e,ad ⟨g,i,none⟩ (λ_ _=>Or.inl (by show i<0+n*1;omega))];exact h4 i e
   ·rw[iN e];have h7:=am (i-n) (by rw[a0g];omega);rw[show 0+n*1+(i-n)=i by omega] at h7;rw[h7];simp[a0e]
  refine h _ _ ⟨g,cap,rfl,h1,?_,ac,aa,λi hi => ?_,λi hi => ?_⟩ (below_setCells h1 _ _ _ (b0h _ _))
  ·exact b0r (aa 0 om)
  ·by_cases e:i<n+m
   ·rw[aa i e];rfl
   ·rw[ad ⟨g,i,none⟩ (λ_ _=>Or.inr (by rw[a0g];show 0+n*1+m<=i;omega))];exact h5 i hi
  ·rw[World.frozen?_setCells];exact h6 i hi
 ·rw[a7f] at ab;have h7:=a5K ab om;obtain⟨g',ag,e1,q1,q2⟩:=h7;exact h v' w' ⟨g',ag,e1,om,q2⟩ ((b0h _ _).grown al ae (λk hk=>by cases hk))
