/- walks: bytes.Clone -/
import Derived.Test.YtflghpnpjmodaaaGreatDoorT29
import Derived.Test.YtflghpnpjmodaaaGreatDoorT06
import Derived.Test.YtflghpnpjmodaaaGreatDoorT28
import Derived.Test.YtflghpnpjmodaaaGreatDoorT01
import Derived.Laws.AppendOwnNone
import Derived.OwnWalk
set_option maxRecDepth 100000
set_option maxHeartbeats 6000000
namespace Go.Proofs.YtflghpnpjmodaaaGreatDoor
section
open Go.RowKit
open Bk (E at')
open Rl (G gat)
theorem corey_any (b off n cap:Nat) (f:Nat→Int) (w:World) (hn:n≤9223372036854775807) (hcap:n≤cap) (hf:∀i,i<n→w.cell? ⟨b,off+i,none⟩=some (.int .i64 (f i))) :
  Calls Tryz.prog 112 #[.slice (some ⟨b,off,none⟩) n cap] w fun e w'=>e=.returned (.int .i64 (orTo f n))∧w'=w:=by
 have HF:Hid (∀i,i<n→w.cell? ⟨b,off+i,none⟩=some (.int .i64 (f i))):=hf;clear hf;go_enter Tryz.func112,Tryz.ntmps112;(go_wp2_with fail);go_loopw [8] (fun i wr=>∃k:Nat,k≤n∧i=.int .i64 k∧Hid (orTo f k=0)∧wr=w) (fun i _=>n-(intOf i).toNat)
 case atStart=>exact⟨0,by omega,rfl,rfl,rfl⟩
 case round =>
  obtain⟨k,hk,rfl,hS,rfl⟩:=hrel;by_cases hlt:k<n
  ·have c0:=HF.out k hlt;by_cases h0:f k=0
   ·have d0:(f k != 0)=false:=(by simp[h0])
    have HS2:Hid (orTo f (k+1)=0):=by show(if orTo f k=0 then f k else orTo f k)=0;rw[if_pos hS.out,h0]
    clear HF hS;(go_wp2_with fail);exact⟨⟨k+1,by omega,by go_num,HS2,trivial⟩,by simp[intOf];omega⟩
   ·have d0:(f k != 0)=true:=(by simp[h0])
    have HS2:Hid (orTo f n=f k):=orTo_stay f k hS.out h0 n hlt;clear HF hS h0;(go_wp2_with fail);go_ret;exact⟨by rw[HS2.out];rfl,rfl⟩
  ·obtain rfl:k=n:=by omega
   clear HF;(go_wp2_with fail);go_ret;exact⟨by rw[hS.out];rfl,rfl⟩
theorem rises_any (a n:Int) (w:World):Calls Tryz.prog 190 #[.int .i64 a,.int .i64 n] w fun e w'=>e=.returned (.int .i64 (Rl.rise a n))∧w'=w:=by
 unfold Rl.rise;by_cases h:n≤a
 ·rw[if_pos h];go_enter Tryz.func190,Tryz.ntmps190;go_wp2
  go_ret;exact⟨rfl,rfl⟩
 ·rw[if_neg h];go_enter Tryz.func190,Tryz.ntmps190;go_wp2
  go_ret;exact⟨rfl,rfl⟩
theorem isRes_any (d:Int) (w:World):Calls Tryz.prog 151 #[.int .u64 d] w fun e w'=>e=.returned (.bool (Rl.res d))∧w'=w:=by
 unfold Rl.res;by_cases h1:1652522221568≤d<;>by_cases h2:d≤1652522221583
 all_goals
  go_enter Tryz.func151,Tryz.ntmps151;go_wp2
  go_ret;exact⟨by simp[h1,h2],rfl⟩
theorem wrongGate_any (g:G) (w:World):Calls Tryz.prog 188 #[.agg #[.int .i64 g.port,.slice g.wo g.ways.length g.wcap,.int .i64 g.plain,.slice g.oo g.opens.length g.ocap]] w fun e w'=>e=.returned (.int .i64 (Rl.gateErr g))∧Bl w w':=by
 unfold Rl.gateErr;have HB:Hid (∀o,Bl w (w.alloc o)):=fun o=>bA1 w o;by_cases h1:0≤g.port∧g.port≤30
 ·have e1:decide (0≤g.port∧g.port≤30)=true:=decide_eq_true h1;by_cases h2:0≤g.plain∧g.plain≤4094
  ·have e2:decide (0≤g.plain∧g.plain≤4094)=true:=decide_eq_true h2;rw[if_pos ⟨h1,h2⟩];by_cases h3:(16:Int)<g.opens.length
   ·rw[if_pos h3];clear h1 h2;go_enter Tryz.func188,Tryz.ntmps188;go_wp2_with (go_at_call 32;refine(vwithin_any _ _ _ _).mono ?_;rintro e w1 ⟨rfl,rfl⟩;(first | rw[e1] | rw[e2]))
    go_ret;exact⟨rfl,HB.out _⟩
   ·rw[if_neg h3];clear h1 h2;go_enter Tryz.func188,Tryz.ntmps188;go_wp2_with (go_at_call 32;refine(vwithin_any _ _ _ _).mono ?_;rintro e w1 ⟨rfl,rfl⟩;(first | rw[e1] | rw[e2]))
    go_ret;exact⟨rfl,HB.out _⟩
  ·have e2:decide (0≤g.plain∧g.plain≤4094)=false:=decide_eq_false h2;rw[if_neg (fun h=>h2 h.2)];clear h1 h2;go_enter Tryz.func188,Tryz.ntmps188;go_wp2_with (go_at_call 32;refine(vwithin_any _ _ _ _).mono ?_;rintro e w1 ⟨rfl,rfl⟩;(first | rw[e1] | rw[e2]))
   go_ret;exact⟨rfl,HB.out _⟩
 ·have e1:decide (0≤g.port∧g.port≤30)=false:=decide_eq_false h1;rw[if_neg (fun h=>h1 h.1)];clear h1;go_enter Tryz.func188,Tryz.ntmps188;go_wp2_with (go_at_call 32;refine(vwithin_any _ _ _ _).mono ?_;rintro e w1 ⟨rfl,rfl⟩;rw[e1])
  go_ret;exact⟨rfl,HB.out _⟩
theorem wrongWays9_any (ao:Option Addr) (cap:Nat) (l:List Int) (w:World) (hn:l.length≤9223372036854775807) (hr:ILs w ao cap l) :
  Calls Tryz.prog 189 #[.slice ao l.length cap] w fun e w'=>e=.returned (.int .i64 (Rl.waysErr l))∧w'=w:=by
 unfold Rl.waysErr;have hcap:l.length≤cap:=hr.1;have HR:Hid (ILs w ao cap l):=hr;clear hr;go_enter Tryz.func189,Tryz.ntmps189;(go_wp2_with fail);go_loopw [3,9] (fun a i wr=>∃k:Nat,k≤l.length∧i=.int .i64 k∧a=.int .i64 (Rg.last (Rl.wv l) k)∧Hid (Rg.wrongTo (Rl.wv l) (fun _=>1) k=0)∧wr=w) (fun _ i _=>l.length-(intOf i).toNat)
 case atStart=>exact⟨0,by omega,rfl,rfl,rfl,rfl⟩
 case round =>
  obtain⟨k,hk,rfl,rfl,hX,rfl⟩:=hrel;by_cases hlt:k<l.length
  ·obtain⟨b,off,rfl,_⟩:=HR.out.place (by omega);have c0:wr.cell? ⟨b,off+k,none⟩=some (.int .i64 (Rl.wv l k)):=HR.out.cell hlt;have HE2:Hid (Rg.wayErr (Rg.last (Rl.wv l) k) (Rl.wv l k) 1≠0→Rg.wrongTo (Rl.wv l) (fun _=>1) l.length=Rg.wayErr (Rg.last (Rl.wv l) k) (Rl.wv l k) 1):=fun h=>Rg.wrongTo_here (Rl.wv l) (fun _=>1) k l.length hlt hX.out h;have HZ:Hid (Rg.wayErr (Rg.last (Rl.wv l) k) (Rl.wv l k) 1=0→Rg.wrongTo (Rl.wv l) (fun _=>1) (k+1)=0):=fun h=>Rg.wrongTo_succ (Rl.wv l) (fun _=>1) k hX.out h;have HL:Hid (Rg.last (Rl.wv l) (k+1)=Rl.wv l k):=by show Rg.last (Rl.wv l) (k+1)=Rl.wv l k;unfold Rg.last;rw[if_neg (by omega)];rfl
   clear HR hX;generalize Rg.last (Rl.wv l) k=a at *;generalize Rl.wv l k=v at *;by_cases g1:1≤v∧v≤4094
   ·have e1:decide (1≤v∧v≤4094)=true:=decide_eq_true g1;by_cases g2:v≤a
    ·have HW:Hid (Rg.wayErr a v 1=2):=by show Rg.wayErr a v 1=2;unfold Rg.wayErr;rw[if_pos (by omega),if_pos g2]
     have HV:Hid (Rl.rise a v=2):=by show Rl.rise a v=2;unfold Rl.rise;rw[if_pos g2]
     clear g1 g2 HZ;go_wp2_with (first | (go_at_call 32;refine(vwithin_any _ _ _ _).mono ?_;rintro e w1 ⟨rfl,rfl⟩;rw[e1]) | (go_at_call 190;refine(rises_any _ _ _).mono ?_;rintro e w1 ⟨rfl,rfl⟩;rw[HV.out]))
     go_ret;exact⟨by rw[HE2.out (by rw[HW.out];decide),HW.out];rfl,rfl⟩
    ·have HW:Hid (Rg.wayErr a v 1=0):=by show Rg.wayErr a v 1=0;unfold Rg.wayErr;rw[if_pos (by omega),if_neg g2]
     have HV:Hid (Rl.rise a v=0):=by show Rl.rise a v=0;unfold Rl.rise;rw[if_neg g2]
     clear g1 g2 HE2;go_wp2_with (first | (go_at_call 32;refine(vwithin_any _ _ _ _).mono ?_;rintro e w1 ⟨rfl,rfl⟩;rw[e1]) | (go_at_call 190;refine(rises_any _ _ _).mono ?_;rintro e w1 ⟨rfl,rfl⟩;rw[HV.out]))
     exact⟨⟨k+1,by omega,by go_num,by rw[HL.out],HZ.out HW.out,trivial⟩,by simp[intOf];omega⟩
   ·have e1:decide (1≤v∧v≤4094)=false:=decide_eq_false g1;have HW:Hid (Rg.wayErr a v 1=3):=by show Rg.wayErr a v 1=3;unfold Rg.wayErr;rw[if_neg (by omega)]
    clear g1 HZ;go_wp2_with (go_at_call 32;refine(vwithin_any _ _ _ _).mono ?_;rintro e w1 ⟨rfl,rfl⟩;rw[e1])
    go_ret;exact⟨by rw[HE2.out (by rw[HW.out];decide),HW.out];rfl,rfl⟩
  ·obtain rfl:k=l.length:=by omega
   clear HR;(go_wp2_with fail);go_ret;exact⟨by rw[hX.out];rfl,rfl⟩
theorem wayOf_any (f:Rl.F) (g:G) (w:World):Calls Tryz.prog 149 #[.agg #[.int .u64 f.dst,.int .u64 f.src,.bool f.tagged,.int .i64 f.prio,.bool f.drop,.int .i64 f.vid,.int .i64 f.type,.slice f.ao f.n f.cap],.agg #[.int .i64 g.port,.slice g.wo g.ways.length g.wcap,.int .i64 g.plain,.slice g.oo g.opens.length g.ocap]] w fun e w'=>e=.returned (.int .i64 (Rl.wayOf f g))∧Bl w w':=by
 unfold Rl.wayOf;have HB:Hid (∀o1 o2,Bl w ((w.alloc o1).alloc o2)):=fun o1 o2=>bA2 w o1 o2;by_cases h1:f.tagged=true
 ·by_cases h2:f.vid=0
  ·have e2:(f.vid != 0)=false:=(by simp[h2])
   rw[if_neg (fun h=>h.2 h2)];clear h2;go_enter Tryz.func149,Tryz.ntmps149;rw[h1];go_wp2
   go_ret;exact⟨rfl,HB.out _ _⟩
  ·have e2:(f.vid != 0)=true:=(by simp[h2])
   rw[if_pos ⟨h1,h2⟩];clear h2;go_enter Tryz.func149,Tryz.ntmps149;rw[h1];go_wp2
   go_ret;exact⟨rfl,HB.out _ _⟩
 ·rw[if_neg (fun h=>h1 h.1)];have e1:f.tagged=false:=(by simpa using h1)
  clear h1;go_enter Tryz.func149,Tryz.ntmps149;rw[e1];go_wp2
  go_ret;exact⟨rfl,HB.out _ _⟩
theorem orTo3 (f:Nat→Int):orTo f 3=Rl.or3 (f 0) (f 1) (f 2):=by
 by_cases h1:f 0=0<;>by_cases h2:f 1=0<;>simp[orTo,Rl.or3,h1,h2]
theorem below_al {a b:World}(h:Bl a b) (o:Obj):Bl a (b.alloc o):=h.alloc h.size o
theorem core3 (a b c:Int) (g:Nat) (ty:TypeId) (w:World) (h:w.heap[g]?=some (.cells #[.int .i64 a,.int .i64 b,.int .i64 c] ty (0,0))) :
  Calls Tryz.prog 112 #[.slice (some ⟨g,0,none⟩) 3 3] w fun e w'=>e=.returned (.int .i64 (Rl.or3 a b c))∧w'=w:=by
 have:=corey_any g 0 3 3 (fun i=>if i=0 then a else if i=1 then b else c) w (by omega) (by omega) (fun i hi=>by
  rcases(by omega:i=0∨i=1∨i=2) with e | e | e<;>subst e
  ·exact cell_of_row w g 0 _ _ _ h
  ·exact cell_of_row w g 1 _ _ _ h
  ·exact cell_of_row w g 2 _ _ _ h)
 rw[orTo3] at this;exact this
theorem gwrong9_any (ao:Option Addr) (cap:Nat) (l:List G) (w:World) (hr:GRow w ao cap l) :
  Calls Tryz.prog 145 #[.slice ao l.length cap] w fun e w'=>e=.returned (faV (Rl.wrong l))∧Bl w w':=by
 have hn:=hr.many;have HRW:Hid (∀W,Bl w W→GRow W ao cap l):=fun W hW=>hr.below hW;have hcap:l.length≤cap:=hr.row.1;clear hr;obtain⟨G,HG⟩:∃G,Hid (G=w.heap.size):=⟨_,rfl⟩
 have HI:Hid (∀W,W=w.alloc (.cells #[.int .i64 0,.int .i64 0] 26)→Bl w W∧W.heap[G]?=some (.cells #[.int .i64 0,.int .i64 0] 26)):=by
  intro W hW;rw[hW,HG.out];exact⟨bA1 _ _,heap_alloc_last _ _⟩
 have hGM:w.heap.size≤G:=(by rw[HG.out];exact Nat.le_refl _)
 have HN1:Hid (Rl.wrong l=Bk.firstTo (Rl.gErr l) l.length):=rfl;go_enter Tryz.func145,Tryz.ntmps145;(go_wp2_with fail);rw[←HG.out];go_loopw [3,9] (fun a i wr=>∃k:Nat,k≤l.length∧i=.int .i64 k∧a=.int .i64 (Rl.aheadP l k)∧Hid (∀j,j<k→Rl.gErr l j=0)∧Hid (Bl w wr∧wr.heap[G]?=some (.cells #[.int .i64 0,.int .i64 0] 26))) (fun _ i _=>l.length-(intOf i).toNat)
 case atStart=>exact⟨0,by omega,rfl,rfl,(fun j hj=>absurd hj (by omega)),HI.out _ rfl⟩
 case round =>
  obtain⟨k,hk,rfl,rfl,hS,hX⟩:=hrel;clear HI;by_cases hlt:k<l.length
  ·obtain⟨b,off,rfl,_⟩:=(HRW.out wr hX.out.1).place (by omega);obtain⟨c0,c1,c2,c3⟩:=(HRW.out wr hX.out.1).cells hlt;have hgi:=(HRW.out wr hX.out.1).at hlt;obtain⟨X,HX⟩:∃X,Hid (X=wr.alloc (.cells #[.int .i64 (gat l k).port,.slice (gat l k).wo (gat l k).ways.length (gat l k).wcap,.int .i64 (gat l k).plain,.slice (gat l k).oo (gat l k).opens.length (gat l k).ocap] 238)):=⟨_,rfl⟩
   have HXB:Hid (Bl wr X):=(by rw[HX.out];exact bA1 _ _)
   have HX5:Hid (X.heap[wr.heap.size]?=some (.cells #[.int .i64 (gat l k).port,.slice (gat l k).wo (gat l k).ways.length (gat l k).wcap,.int .i64 (gat l k).plain,.slice (gat l k).oo (gat l k).opens.length (gat l k).ocap] 238)):=(by rw[HX.out];exact heap_alloc_last _ _)
   have HXX:Hid (Bl X X):=Below.refl _ _;have HC1:Hid (∀W,Bl X W→Calls Tryz.prog 188 #[.agg #[.int .i64 (gat l k).port,.slice (gat l k).wo (gat l k).ways.length (gat l k).wcap,.int .i64 (gat l k).plain,.slice (gat l k).oo (gat l k).opens.length (gat l k).ocap]] W fun e w'=>e=.returned (.int .i64 (Rl.gateErr (gat l k)))∧Hid (Bl X w')):=fun W hW=>(wrongGate_any (gat l k) W).mono (fun e w' h=>⟨h.1,hW.trans (h.2.mono hW.size)⟩);have HC2:Hid (∀W,Bl X W→Calls Tryz.prog 189 #[.slice (gat l k).wo (gat l k).ways.length (gat l k).wcap] W fun e w'=>e=.returned (.int .i64 (Rl.waysErr (gat l k).ways))∧Hid (Bl X w')):=fun W hW=>(wrongWays9_any _ _ _ W hgi.wn ((hgi.ways.below HXB.out).below hW)).mono (fun e w' h=>⟨h.1,by rw[h.2];exact hW⟩);have HC3:Hid (∀W,Bl X W→Calls Tryz.prog 190 #[.int .i64 (Rl.aheadP l k),.int .i64 (gat l k).port] W fun e w'=>e=.returned (.int .i64 (Rl.rise (Rl.aheadP l k) (gat l k).port))∧Hid (Bl X w')):=fun W hW=>(rises_any _ _ W).mono (fun e w' h=>⟨h.1,by rw[h.2];exact hW⟩);have HC4:Hid (∀W,Bl X W→Calls Tryz.prog 112 #[.slice (some ⟨W.heap.size,0,none⟩) 3 3] (W.alloc (.cells #[.int .i64 (Rl.gateErr (gat l k)),.int .i64 (Rl.waysErr (gat l k).ways),.int .i64 (Rl.rise (Rl.aheadP l k) (gat l k).port)] 24)) fun e w'=>e=.returned (.int .i64 (Rl.gErr l k))∧Hid (Bl X w')):=fun W hW=>(core3 _ _ _ W.heap.size _ _ (heap_alloc_last _ _)).mono (fun e w' h=>⟨h.1,by rw[h.2];exact hW.alloc hW.size _⟩);have HF1:Hid (Rl.gErr l k≠0→Bk.firstTo (Rl.gErr l) l.length=(Rl.gErr l k,(k:Int))):=fun he=>Bk.firstTo_stay _ k (by rw[Bk.firstTo_none _ _ hS.out]) he _ hlt;have HS1:Hid (Rl.gErr l k=0→∀j,j<k+1→Rl.gErr l j=0):=fun h j hj=>by
    by_cases e:j=k
    ·subst e;exact h
    ·exact hS.out j (by omega)
   have HA:Hid (Rl.aheadP l (k+1)=(gat l k).port):=by show Rl.aheadP l (k+1)=_;unfold Rl.aheadP;rw[if_neg (by omega)];rfl
   have HCC:Hid (∀W,Bl X W→W.cell? ⟨wr.heap.size,0,none⟩=some (.int .i64 (gat l k).port)∧W.cell? ⟨wr.heap.size,1,none⟩=some (.slice (gat l k).wo (gat l k).ways.length (gat l k).wcap)∧W.cell? ⟨wr.heap.size,2,none⟩=some (.int .i64 (gat l k).plain)∧W.cell? ⟨wr.heap.size,3,none⟩=some (.slice (gat l k).oo (gat l k).opens.length (gat l k).ocap)):=fun W hW=>gt_cells (keep HX5.out hW);have HFIN:Hid (∀W,Bl X W→Bl w W∧W.heap[G]?=some (.cells #[.int .i64 0,.int .i64 0] 26)):=fun W hW=>⟨(hX.out.1.trans (HXB.out.mono hX.out.1.size)).trans (hW.mono (by have:=hX.out.1.size;have:=HXB.out.size;omega)),keep (keep hX.out.2 HXB.out) hW⟩
   obtain⟨d0,d1,d2,d3⟩:=HCC.out X HXX.out;clear hX hS HX5 HXB hgi HRW;generalize Rl.gErr l k=er at *;generalize Rl.gateErr (gat l k)=e1 at *;generalize Rl.waysErr (gat l k).ways=e2 at *;generalize Rl.rise (Rl.aheadP l k) (gat l k).port=e3 at *;generalize Rl.aheadP l k=ah at *;generalize gat l k=x at *;(go_wp2_with fail);rw[←HX.out];clear c0 c1 c2 c3;by_cases he:er=0
   ·have dq:(er != 0)=false:=(by simp[he])
    have HS2:Hid _:=HS1.out he;clear HS1 HF1 he;go_region_held3 (fun W=>W.cell? ⟨wr.heap.size,0,none⟩=some (.int .i64 x.port)∧W.cell? ⟨wr.heap.size,1,none⟩=some (.slice x.wo x.ways.length x.wcap)∧W.cell? ⟨wr.heap.size,2,none⟩=some (.int .i64 x.plain)∧W.cell? ⟨wr.heap.size,3,none⟩=some (.slice x.oo x.opens.length x.ocap))
     (first | (exact HCC.out _ (Hid.out (by assumption))) | (exact HCC.out _ (Below.drew (Hid.out (by assumption)))) | (exact HCC.out _ (below_al (Hid.out (by assumption)) _)))
     (first | (go_at_call 188;refine(HC1.out _ (by first | exact(Hid.out (by assumption)) | exact Below.drew (Hid.out (by assumption)))).mono ?_;rintro e w1 ⟨rfl,HB⟩) | (go_at_call 189;refine(HC2.out _ (by first | exact(Hid.out (by assumption)) | exact Below.drew (Hid.out (by assumption)))).mono ?_;rintro e w1 ⟨rfl,HB⟩) | (go_at_call 190;refine(HC3.out _ (by first | exact(Hid.out (by assumption)) | exact Below.drew (Hid.out (by assumption)))).mono ?_;rintro e w1 ⟨rfl,HB⟩) | (go_at_call 112;refine(HC4.out _ (by first | exact(Hid.out (by assumption)) | exact Below.drew (Hid.out (by assumption)))).mono ?_;rintro e w1 ⟨rfl,HB⟩))
    all_goals
     have HF3:Hid _:=HFIN.out _ HB.out;obtain⟨u0,u1,u2,u3⟩:=HCC.out _ HB.out;clear HFIN HCC HC1 HC2 HC3 HC4 d0 d1 d2 d3;(go_wp2_with fail);exact⟨⟨k+1,by omega,by go_num,by rw[HA.out],HS2,HF3.out⟩,by simp[intOf];omega⟩
   ·have dq:(er != 0)=true:=(by simp[he])
    have HF2:Hid _:=HF1.out he;clear HS1 HF1 he;go_region_held3 (fun W=>W.cell? ⟨wr.heap.size,0,none⟩=some (.int .i64 x.port)∧W.cell? ⟨wr.heap.size,1,none⟩=some (.slice x.wo x.ways.length x.wcap)∧W.cell? ⟨wr.heap.size,2,none⟩=some (.int .i64 x.plain)∧W.cell? ⟨wr.heap.size,3,none⟩=some (.slice x.oo x.opens.length x.ocap))
     (first | (exact HCC.out _ (Hid.out (by assumption))) | (exact HCC.out _ (Below.drew (Hid.out (by assumption)))) | (exact HCC.out _ (below_al (Hid.out (by assumption)) _)))
     (first | (go_at_call 188;refine(HC1.out _ (by first | exact(Hid.out (by assumption)) | exact Below.drew (Hid.out (by assumption)))).mono ?_;rintro e w1 ⟨rfl,HB⟩) | (go_at_call 189;refine(HC2.out _ (by first | exact(Hid.out (by assumption)) | exact Below.drew (Hid.out (by assumption)))).mono ?_;rintro e w1 ⟨rfl,HB⟩) | (go_at_call 190;refine(HC3.out _ (by first | exact(Hid.out (by assumption)) | exact Below.drew (Hid.out (by assumption)))).mono ?_;rintro e w1 ⟨rfl,HB⟩) | (go_at_call 112;refine(HC4.out _ (by first | exact(Hid.out (by assumption)) | exact Below.drew (Hid.out (by assumption)))).mono ?_;rintro e w1 ⟨rfl,HB⟩))
    all_goals
     have HF3:Hid _:=HFIN.out _ HB.out;obtain⟨f0,f1,f2,f3⟩:=bfa_cells HF3.out.2;clear HFIN HCC HC1 HC2 HC3 HC4 d0 d1 d2 d3;(go_wp2_with fail);exact bodyPost_ret (v:=.agg #[.int .i64 er,.int .i64 (k:Int)]) (results_row (p:=2) (ty:=26) Tryz.results145 _ _ G 26 #[.int .i64 er,.int .i64 (k:Int)] (0,0) _ rfl (bfa_set HF3.out.2) Tryz.underlying26 rfl (by rw[bsizeFa];rfl)) rfl ⟨by rw[HN1.out,HF2.out],(HF3.out.1.setCell hGM _).setCell hGM _⟩
  ·obtain rfl:k=l.length:=by omega
   have HF2:Hid (Bk.firstTo (Rl.gErr l) l.length=(0,0)):=Bk.firstTo_none _ _ hS.out;obtain⟨f0,f1,f2,f3⟩:=bfa_cells hX.out.2;clear HRW;(go_wp2_with fail);exact bodyPost_ret (v:=.agg #[.int .i64 0,.int .i64 0]) (results_row (p:=2) (ty:=26) Tryz.results145 _ _ G 26 #[.int .i64 0,.int .i64 0] (0,0) _ rfl (bfa_set hX.out.2) Tryz.underlying26 rfl (by rw[bsizeFa];rfl)) rfl ⟨by rw[HN1.out,HF2.out],(hX.out.1.setCell hGM _).setCell hGM _⟩
theorem pass1_any (g:G) (Bw Bt:Nat) (way tree:Int) (w:World) (hg:GIn w g) (hw:w.cell? ⟨Bw,0,none⟩=some (.int .i64 way)) (ht:w.cell? ⟨Bt,0,none⟩=some (.int .i64 tree)) :
  Calls Tryz.prog 193 #[.agg #[.int .i64 g.port,.slice g.wo g.ways.length g.wcap,.int .i64 g.plain,.slice g.oo g.opens.length g.ocap],.pointer (some ⟨Bw,0,none⟩),.pointer (some ⟨Bt,0,none⟩)] w fun e w'=>e=.returned (.bool (Rl.passes g tree way))∧Bl w w':=by
 have l1:=block_lt_of_cell hw;have l2:=block_lt_of_cell ht;have HC:Hid (∀W,Bl w W→Calls Tryz.prog 194 #[.slice g.wo g.ways.length g.wcap,.int .i64 way] W fun e w'=>e=.returned (.bool (g.ways.contains way))∧w'=W):=fun W hW=>bcontains_any g.wo g.wcap g.ways way W hg.wn (hg.ways.below hW);have HB:Hid (∀o,Bl w (w.alloc o)):=fun o=>bA1 w o;have HP:Hid (Rl.passes g tree way=(g.ways.contains way&&(decide (0≤tree∧tree≤(g.opens.length:Int)-1)&&g.opens.getD tree.toNat false))):=rfl;have hon:=hg.on;have hwr:IntKind.i64.wrap ((g.opens.length:Int)-1)=(g.opens.length:Int)-1:=by
  simp[IntKind.wrap,IntKind.bits,IntKind.signed];omega
 have hoc:g.opens.length≤g.ocap:=hg.opens.1;have HO:Hid (BLs w g.oo g.ocap g.opens):=hg.opens;clear hg;cases hc:g.ways.contains way with
 | false =>
  rw[hc] at HC HP;have HP2:Hid (Rl.passes g tree way=false):=HP.out;clear HP hc HO;go_enter Tryz.func193,Tryz.ntmps193;go_wp2_with (go_at_call 194;refine(HC.out _ (HB.out _)).mono ?_;rintro e w1 ⟨rfl,rfl⟩)
  go_ret;exact⟨by rw[HP2.out];rfl,HB.out _⟩
 | true =>
  rw[hc,Bool.true_and] at HP;rw[hc] at HC;clear hc;by_cases hd:0≤tree∧tree≤(g.opens.length:Int)-1
  ·have e1:decide (0≤tree∧tree≤(g.opens.length:Int)-1)=true:=decide_eq_true hd;rw[e1,Bool.true_and] at HP;obtain⟨k,rfl⟩:=Int.eq_ofNat_of_zero_le hd.1;rw[Int.toNat_natCast] at HP;have hk:k<g.opens.length:=(by omega)
   obtain⟨b,off,hoo,hb⟩:=HO.out.place (by omega);have hcl:w.cell? ⟨b,off+k,none⟩=some (.bool (g.opens.getD k false)):=BLs.cell (cap:=g.ocap) (by rw[←hoo];exact HO.out) hk;have ik:(0:Int)≤(k:Int):=(by omega)
   have nk:(k:Int)<(g.opens.length:Int):=(by omega)
   clear hd HO;generalize g.opens.getD k false=bo at *;generalize hon':g.opens.length=on at *;clear hon';rw[hoo];go_enter Tryz.func193,Tryz.ntmps193;go_wp2_with (first | (go_at_call 194;refine(HC.out _ (HB.out _)).mono ?_;rintro e w1 ⟨rfl,rfl⟩) | (go_at_call 32;refine(vwithin_any _ _ _ _).mono ?_;rintro e w1 ⟨rfl,rfl⟩;(try rw[hwr]);rw[e1]))
   go_ret;exact⟨by rw[HP.out];rfl,HB.out _⟩
  ·have e1:decide (0≤tree∧tree≤(g.opens.length:Int)-1)=false:=decide_eq_false hd;rw[e1,Bool.false_and] at HP;clear hd HO;go_enter Tryz.func193,Tryz.ntmps193;go_wp2_with (first | (go_at_call 194;refine(HC.out _ (HB.out _)).mono ?_;rintro e w1 ⟨rfl,rfl⟩) | (go_at_call 32;refine(vwithin_any _ _ _ _).mono ?_;rintro e w1 ⟨rfl,rfl⟩;(try rw[hwr]);rw[e1]))
   go_ret;exact⟨by rw[HP.out];rfl,HB.out _⟩
theorem passer_any (way tree:Int) (w:World) :
  Calls Tryz.prog 150 #[.int .i64 way,.int .i64 tree] w fun e w'=>e=.returned (.func (.func 193) #[] #[.pointer (some ⟨w.heap.size,0,none⟩),.pointer (some ⟨w.heap.size+1,0,none⟩)])∧w'.heap[w.heap.size]?=some (.cells #[.int .i64 way] 3)∧w'.heap[w.heap.size+1]?=some (.cells #[.int .i64 tree] 3)∧Bl w w':=by
 have H1:Hid (∀o1 o2,((w.alloc o1).alloc o2).heap[w.heap.size]?=some o1):=fun o1 o2=>heap_alloc2_old w o1 o2;have H2:Hid (∀o1 o2,((w.alloc o1).alloc o2).heap[w.heap.size+1]?=some o2):=fun o1 o2=>heap_alloc2_new w o1 o2;have HB:Hid (∀o1 o2,Bl w ((w.alloc o1).alloc o2)):=fun o1 o2=>bA2 w o1 o2;go_enter Tryz.func150,Tryz.ntmps150;go_wp2
 go_ret;exact⟨rfl,H1.out _ _,H2.out _ _,HB.out _ _⟩
theorem isport_any (g:G) (Bp:Nat) (p:Int) (w:World) (hp:w.cell? ⟨Bp,0,none⟩=some (.int .i64 p)) :
  Calls Tryz.prog 148 #[.agg #[.int .i64 g.port,.slice g.wo g.ways.length g.wcap,.int .i64 g.plain,.slice g.oo g.opens.length g.ocap],.pointer (some ⟨Bp,0,none⟩)] w fun e w'=>e=.returned (.bool (decide (g.port=p)))∧Bl w w':=by
 have l1:=block_lt_of_cell hp;have HB:Hid (∀o,Bl w (w.alloc o)):=fun o=>bA1 w o;go_enter Tryz.func148,Tryz.ntmps148;go_wp2
 go_ret;exact⟨rfl,HB.out _⟩
theorem gindex9_any (ao:Option Addr) (cap:Nat) (l:List G) (Bp:Nat) (p:Int) (w:World) (hr:GRow w ao cap l) (hp:w.cell? ⟨Bp,0,none⟩=some (.int .i64 p)) :
  Calls Tryz.prog 147 #[.slice ao l.length cap,.func (.func 148) #[] #[.pointer (some ⟨Bp,0,none⟩)]] w fun e w'=>e=.returned (.int .i64 (Rl.idx l p l.length))∧Bl w w':=by
 have hn:=hr.many;have hcap:l.length≤cap:=hr.row.1;have HR:Hid (∀W,Bl w W→GRow W ao cap l):=fun W hW=>hr.below hW;have l1:=block_lt_of_cell hp;have HC:Hid (∀W,Bl w W→∀g:G,Calls Tryz.prog 148 #[.agg #[.int .i64 g.port,.slice g.wo g.ways.length g.wcap,.int .i64 g.plain,.slice g.oo g.opens.length g.ocap],.pointer (some ⟨Bp,0,none⟩)] W fun e w'=>e=.returned (.bool (decide (g.port=p)))∧Hid (Bl w w')):=fun W hW g=>(isport_any g Bp p W ((hW.cell (by exact l1)).trans hp)).mono (fun e w' h=>⟨h.1,hW.trans (h.2.mono hW.size)⟩);clear hr hp l1;go_enter Tryz.func147,Tryz.ntmps147;(go_wp2_with fail);go_loopw [8] (fun i wr=>∃k:Nat,k≤l.length∧i=.int .i64 k∧Hid (Rl.idx l p k = -1)∧Hid (Bl w wr)) (fun i _=>l.length-(intOf i).toNat)
 case atStart=>exact⟨0,by omega,rfl,rfl,Below.refl _ _⟩
 case round =>
  obtain⟨k,hk,rfl,hS,hB⟩:=hrel;by_cases hlt:k<l.length
  ·obtain⟨b,off,rfl,_⟩:=(HR.out wr hB.out).place (by omega);obtain⟨c0,c1,c2,c3⟩:=(HR.out wr hB.out).cells hlt;have HS2:Hid (Rl.idx l p (k+1)=if (gat l k).port=p then(k:Int) else -1):=by
    show(if 0≤Rl.idx l p k then Rl.idx l p k else if (gat l k).port=p then(k:Int) else -1)=_;rw[if_neg (by rw[hS.out];omega)]
   have HSS:Hid ((gat l k).port=p→Rl.idx l p l.length=(k:Int)):=fun h=>by
    have h1:=HS2.out;rw[if_pos h] at h1;rw[Rl.idx_stay l p (k+1) (by omega) l.length (by omega),h1]
   have HCG:Hid (Calls Tryz.prog 148 #[.agg #[.int .i64 (gat l k).port,.slice (gat l k).wo (gat l k).ways.length (gat l k).wcap,.int .i64 (gat l k).plain,.slice (gat l k).oo (gat l k).opens.length (gat l k).ocap],.pointer (some ⟨Bp,0,none⟩)] wr fun e w'=>e=.returned (.bool (decide ((gat l k).port=p)))∧Hid (Bl w w')):=HC.out wr hB.out (gat l k);clear HR hS HC hB;by_cases q:(gat l k).port=p
   ·have HS3:Hid _:=HSS.out q;rw[decide_eq_true q] at HCG;clear HSS HS2 q;generalize gat l k=x at *;go_wp2_with (go_at_call 148;refine HCG.out.mono ?_;rintro e w2 ⟨rfl,HB2⟩)
    go_ret;exact⟨by rw[HS3.out];rfl,HB2.out⟩
   ·have HS3:Hid (Rl.idx l p (k+1) = -1):=(by rw[HS2.out,if_neg q];rfl)
    rw[decide_eq_false q] at HCG;clear HSS HS2 q;generalize gat l k=x at *;go_wp2_with (go_at_call 148;refine HCG.out.mono ?_;rintro e w2 ⟨rfl,HB2⟩)
    exact⟨⟨k+1,by omega,by go_num,HS3,HB2⟩,by simp[intOf];omega⟩
  ·obtain rfl:k=l.length:=by omega
   clear HR HC;(go_wp2_with fail);go_ret;exact⟨by rw[hS.out];rfl,hB.out⟩
theorem leads_any (g:G) (Bp Bf Bk Bs Bw Bt:Nat) (p way tree s:Int) (kn:Bool) (w:World) (hg:GIn w g) (hp:w.cell? ⟨Bp,0,none⟩=some (.int .i64 p)) (hf:w.cell? ⟨Bf,0,none⟩=some (.func (.func 193) #[] #[.pointer (some ⟨Bw,0,none⟩),.pointer (some ⟨Bt,0,none⟩)])) (hk:w.cell? ⟨Bk,0,none⟩=some (.bool kn)) (hs:w.cell? ⟨Bs,0,none⟩=some (.int .i64 s)) (hw:w.cell? ⟨Bw,0,none⟩=some (.int .i64 way)) (ht:w.cell? ⟨Bt,0,none⟩=some (.int .i64 tree)) :
  Calls Tryz.prog 154 #[.agg #[.int .i64 g.port,.slice g.wo g.ways.length g.wcap,.int .i64 g.plain,.slice g.oo g.opens.length g.ocap],.pointer (some ⟨Bp,0,none⟩),.pointer (some ⟨Bf,0,none⟩),.pointer (some ⟨Bk,0,none⟩),.pointer (some ⟨Bs,0,none⟩)] w fun e w'=>e=.returned (.bool (decide (g.port≠p)&&(Rl.passes g tree way&&(!kn||decide (g.port=s)))))∧Bl w w':=by
 have l1:=block_lt_of_cell hp;have l2:=block_lt_of_cell hf;have l3:=block_lt_of_cell hk;have l4:=block_lt_of_cell hs;have l5:=block_lt_of_cell hw;have l6:=block_lt_of_cell ht;obtain⟨W0,HW0⟩:∃W0,Hid (W0=w.alloc (.cells #[.int .i64 g.port,.slice g.wo g.ways.length g.wcap,.int .i64 g.plain,.slice g.oo g.opens.length g.ocap] 238)):=⟨_,rfl⟩
 have hb0:Bl w W0:=(by rw[HW0.out];exact bA1 _ _)
 have hX5:W0.heap[w.heap.size]?=some (.cells #[.int .i64 g.port,.slice g.wo g.ways.length g.wcap,.int .i64 g.plain,.slice g.oo g.opens.length g.ocap] 238):=(by rw[HW0.out];exact heap_alloc_last _ _)
 have HB0:Hid (Bl w W0):=hb0;have HC:Hid (Calls Tryz.prog 193 #[.agg #[.int .i64 g.port,.slice g.wo g.ways.length g.wcap,.int .i64 g.plain,.slice g.oo g.opens.length g.ocap],.pointer (some ⟨Bw,0,none⟩),.pointer (some ⟨Bt,0,none⟩)] W0 fun e w'=>e=.returned (.bool (Rl.passes g tree way))∧Hid (Bl w w')∧w'.cell? ⟨w.heap.size,0,none⟩=some (.int .i64 g.port)∧w'.cell? ⟨Bk,0,none⟩=some (.bool kn)∧w'.cell? ⟨Bs,0,none⟩=some (.int .i64 s)) :=
  (pass1_any g Bw Bt way tree W0 (hg.below hb0) ((hb0.cell (by exact l5)).trans hw) ((hb0.cell (by exact l6)).trans ht)).mono (fun e w' h=>by
   have hb:=hb0.trans (h.2.mono hb0.size);exact⟨h.1,hb,(gt_cells (keep hX5 h.2)).1,(hb.cell (by exact l3)).trans hk,(hb.cell (by exact l4)).trans hs⟩)
 clear hg hw ht hb0 hX5 l5 l6;generalize Rl.passes g tree way=ps at *;by_cases q1:g.port=p
 ·have n1:(g.port != p)=false:=(by simp[q1])
  have n2:decide (g.port≠p)=false:=(by simp[q1])
  rw[n2,Bool.false_and];clear q1 n2 HC;go_enter Tryz.func154,Tryz.ntmps154;(go_wp2_with fail);go_ret;exact⟨rfl,by rw[←HW0.out];exact HB0.out⟩
 ·have n1:(g.port != p)=true:=(by simp[q1])
  have n2:decide (g.port≠p)=true:=(by simp[q1])
  rw[n2,Bool.true_and];clear q1 n2;cases ps with
  | false =>
   go_enter Tryz.func154,Tryz.ntmps154;go_wp2_with (go_at_call 193;rw[←HW0.out];refine HC.out.mono ?_;rintro e w1 ⟨rfl,HB1,f0,f1,f2⟩)
   go_ret;exact⟨rfl,HB1.out⟩
  | true =>
   rw[Bool.true_and];cases kn with
   | false =>
    go_enter Tryz.func154,Tryz.ntmps154;go_wp2_with (go_at_call 193;rw[←HW0.out];refine HC.out.mono ?_;rintro e w1 ⟨rfl,HB1,f0,f1,f2⟩;clear hp hf hk hs)
    go_ret;exact⟨rfl,HB1.out⟩
   | true =>
    go_enter Tryz.func154,Tryz.ntmps154;go_wp2_with (go_at_call 193;rw[←HW0.out];refine HC.out.mono ?_;rintro e w1 ⟨rfl,HB1,f0,f1,f2⟩;clear hp hf hk hs)
    go_ret;exact⟨rfl,HB1.out⟩
end
section
open Go.RowKit
theorem within_any (n l m:Int) (w:World) :
  Calls Tryz.prog 32 #[.int .i64 n,.int .i64 l,.int .i64 m] w fun e w'=>e=.returned (.bool (decide (l≤n∧n≤m)))∧w'=w:=by
 by_cases h1:l≤n<;>by_cases h2:n≤m
 all_goals
  go_enter Tryz.func32,Tryz.ntmps32;go_wp2
  go_ret;exact⟨by simp[h1,h2],rfl⟩
theorem tagFits_any (d s:Int) (t:Bool) (p:Int) (dr:Bool) (v y:Int) (ao:Option Addr) (n c:Nat) (w:World) :
  Calls Tryz.prog 87 #[.agg #[.int .u64 d,.int .u64 s,.bool t,.int .i64 p,.bool dr,.int .i64 v,.int .i64 y,.slice ao n c]] w fun e w'=>e=.returned (.bool (decide ((0≤v∧v≤4094)∧0≤p∧p≤7)))∧Bl w w':=by
 by_cases h1:0≤v∧v≤4094
 all_goals
  go_enter Tryz.func87,Tryz.ntmps87;go_wp2_with (go_at_call 32;refine(within_any _ _ _ _).mono ?_;rintro e w1 ⟨rfl,rfl⟩)
  go_ret;exact⟨by simp[h1],(Below.refl _ _).alloc (Nat.le_refl _) _⟩
theorem isType_any (y:Int) (w:World) :
  Calls Tryz.prog 88 #[.int .i64 y] w fun e w'=>e=.returned (.bool (decide ((1536≤y∧y≤65535)∧y≠33024)))∧w'=w:=by
 by_cases h1:1536≤y∧y≤65535
 all_goals
  go_enter Tryz.func88,Tryz.ntmps88;go_wp2_with (go_at_call 32;refine(within_any _ _ _ _).mono ?_;rintro e w1 ⟨rfl,rfl⟩)
  go_ret;exact⟨by by_cases e:y=33024<;>simp[h1,e],rfl⟩
theorem fr_cells {w:World}{g:Nat}{a0 a1 a2 a3 a4 a5 a6 a7:Value}{ty:TypeId}(h:w.heap[g]?=some (.cells #[a0,a1,a2,a3,a4,a5,a6,a7] ty (0,0))) :
  w.cell? ⟨g,0,none⟩=some a0∧w.cell? ⟨g,1,none⟩=some a1∧w.cell? ⟨g,2,none⟩=some a2∧w.cell? ⟨g,3,none⟩=some a3∧w.cell? ⟨g,4,none⟩=some a4∧w.cell? ⟨g,5,none⟩=some a5∧w.cell? ⟨g,6,none⟩=some a6∧w.cell? ⟨g,7,none⟩=some a7 :=
 ⟨cell_of_row w g 0 _ _ _ h,cell_of_row w g 1 _ _ _ h,cell_of_row w g 2 _ _ _ h,cell_of_row w g 3 _ _ _ h,cell_of_row w g 4 _ _ _ h,cell_of_row w g 5 _ _ _ h,cell_of_row w g 6 _ _ _ h,cell_of_row w g 7 _ _ _ h⟩
theorem fr_free {w:World}{g:Nat}{A:Array Value}{ty:TypeId}(h:w.heap[g]?=some (.cells A ty (0,0))) :
  w.frozen? ⟨g,0,none⟩=false∧w.frozen? ⟨g,1,none⟩=false∧w.frozen? ⟨g,2,none⟩=false∧w.frozen? ⟨g,3,none⟩=false∧w.frozen? ⟨g,4,none⟩=false∧w.frozen? ⟨g,5,none⟩=false∧w.frozen? ⟨g,6,none⟩=false∧w.frozen? ⟨g,7,none⟩=false :=
 ⟨frozen_of_row _ _ _ _ _ h,frozen_of_row _ _ _ _ _ h,frozen_of_row _ _ _ _ _ h,frozen_of_row _ _ _ _ _ h,frozen_of_row _ _ _ _ _ h,frozen_of_row _ _ _ _ _ h,frozen_of_row _ _ _ _ _ h,frozen_of_row _ _ _ _ _ h⟩
theorem wrong_any (d s:Int) (t:Bool) (p:Int) (dr:Bool) (v y:Int) (ao:Option Addr) (n c:Nat) (w:World) (h0:0≤s) (h1:s<18446744073709551616) :
  Calls Tryz.prog 49 #[.agg #[.int .u64 d,.int .u64 s,.bool t,.int .i64 p,.bool dr,.int .i64 v,.int .i64 y,.slice ao n c]] w fun e w'=>e=.returned (.int .i64 (wrong d s t p v y n))∧Bl w w':=by
 unfold wrong;have HM:Hid (∀w,Calls Tryz.prog 86 #[.int .u64 s] w fun e w'=>e=.returned (.bool (decide (s/1099511627776%2=1)))∧w'=w):=fun w=>ofMany_any s w h0 h1;clear h0 h1;by_cases c1:281474976710655<d∨281474976710655<s
 ·rw[if_pos c1];by_cases c2:281474976710655<d
  ·go_enter Tryz.func49,Tryz.ntmps49;(go_wp2_with fail);go_ret;exact⟨rfl,(Below.refl _ _).alloc (Nat.le_refl _) _⟩
  ·have c3:281474976710655<s:=(by omega)
   clear c1;go_enter Tryz.func49,Tryz.ntmps49;(go_wp2_with fail);go_ret;exact⟨rfl,(Below.refl _ _).alloc (Nat.le_refl _) _⟩
 ·rw[if_neg c1];have c2:¬281474976710655<d:=(by omega)
  have c3:¬281474976710655<s:=(by omega)
  clear c1;by_cases c4:s/1099511627776%2=1
  ·rw[if_pos c4];go_enter Tryz.func49,Tryz.ntmps49;go_wp2_with (go_at_call 86;refine(HM.out _).mono ?_;rintro e w1 ⟨rfl,rfl⟩)
   go_ret;exact⟨rfl,(Below.refl _ _).alloc (Nat.le_refl _) _⟩
  ·rw[if_neg c4];by_cases c5:t=true∧¬((0≤v∧v≤4094)∧0≤p∧p≤7)
   ·rw[if_pos c5];obtain⟨rfl,c6⟩:=c5;go_enter Tryz.func49,Tryz.ntmps49;go_wp2_with (first | (go_at_call 86;refine(HM.out _).mono ?_;rintro e w1 ⟨rfl,rfl⟩) | (go_at_call 87;refine(tagFits_any _ _ _ _ _ _ _ _ _ _ _).mono ?_;rintro e w1 ⟨rfl,hb⟩))
    go_ret;exact⟨rfl,(bA1 _ _).trans (hb.mono (by simp))⟩
   ·rw[if_neg c5];have HB:Hid (∀w1:World,∀a0 a1 a2 a3 a4 a5 a6 a7:Value,Below (w.alloc (.cells #[a0,a1,a2,a3,a4,a5,a6,a7] 74)).heap.size (w.alloc (.cells #[a0,a1,a2,a3,a4,a5,a6,a7] 74)) w1→w1.cell? ⟨w.heap.size,6,none⟩=some a6∧w1.cell? ⟨w.heap.size,7,none⟩=some a7∧Hid (Bl w w1)):=by
     intro w1 a0 a1 a2 a3 a4 a5 a6 a7 hb;have h:=fr_cells ((hb.block _ (by simp)).trans (heap_alloc_last w (.cells #[a0,a1,a2,a3,a4,a5,a6,a7] 74)));exact⟨h.2.2.2.2.2.2.1,h.2.2.2.2.2.2.2,(bA1 w _).trans (hb.mono (by simp))⟩
    by_cases c6:(1536≤y∧y≤65535)∧y≠33024
    ·rw[if_neg (fun h=>h c6)];have c7:decide ((1536≤y∧y≤65535)∧y≠33024)=true:=decide_eq_true c6;clear c6;cases t with
     | false =>
      clear c5;by_cases c8:(1500:Int)<n
      ·have c9:1500<n:=(by omega)
       rw[if_pos c9];clear c9;go_enter Tryz.func49,Tryz.ntmps49;go_wp2_with (first | (go_at_call 86;refine(HM.out _).mono ?_;rintro e w1 ⟨rfl,rfl⟩) | (go_at_call 88;refine(isType_any _ _).mono ?_;rintro e w1 ⟨rfl,rfl⟩))
       go_ret;exact⟨rfl,(bA1 _ _)⟩
      ·have c9:¬1500<n:=(by omega)
       rw[if_neg c9];clear c9;go_enter Tryz.func49,Tryz.ntmps49;go_wp2_with (first | (go_at_call 86;refine(HM.out _).mono ?_;rintro e w1 ⟨rfl,rfl⟩) | (go_at_call 88;refine(isType_any _ _).mono ?_;rintro e w1 ⟨rfl,rfl⟩))
       go_ret;exact⟨rfl,(bA1 _ _)⟩
     | true =>
      have c10:decide ((0≤v∧v≤4094)∧0≤p∧p≤7)=true:=decide_eq_true (by by_cases q:(0≤v∧v≤4094)∧0≤p∧p≤7;exact q;exact absurd ⟨rfl,q⟩ c5);clear c5;by_cases c8:(1500:Int)<n
      ·have c9:1500<n:=(by omega)
       rw[if_pos c9];clear c9;go_enter Tryz.func49,Tryz.ntmps49;go_wp2_with (first | (go_at_call 86;refine(HM.out _).mono ?_;rintro e w1 ⟨rfl,rfl⟩) | (go_at_call 87;refine(tagFits_any _ _ _ _ _ _ _ _ _ _ _).mono ?_;rintro e w1 ⟨rfl,hb⟩;rw[c10];obtain⟨q6,q7,HBB⟩:=HB.out _ _ _ _ _ _ _ _ _ hb;clear hb) | (go_at_call 88;refine(isType_any _ _).mono ?_;rintro e w1 ⟨rfl,rfl⟩))
       go_ret;exact⟨rfl,HBB.out⟩
      ·have c9:¬1500<n:=(by omega)
       rw[if_neg c9];clear c9;go_enter Tryz.func49,Tryz.ntmps49;go_wp2_with (first | (go_at_call 86;refine(HM.out _).mono ?_;rintro e w1 ⟨rfl,rfl⟩) | (go_at_call 87;refine(tagFits_any _ _ _ _ _ _ _ _ _ _ _).mono ?_;rintro e w1 ⟨rfl,hb⟩;rw[c10];obtain⟨q6,q7,HBB⟩:=HB.out _ _ _ _ _ _ _ _ _ hb;clear hb) | (go_at_call 88;refine(isType_any _ _).mono ?_;rintro e w1 ⟨rfl,rfl⟩))
       go_ret;exact⟨rfl,HBB.out⟩
    ·rw[if_pos c6];have c7:decide ((1536≤y∧y≤65535)∧y≠33024)=false:=decide_eq_false c6;clear c6;cases t with
     | false =>
      clear c5;go_enter Tryz.func49,Tryz.ntmps49;go_wp2_with (first | (go_at_call 86;refine(HM.out _).mono ?_;rintro e w1 ⟨rfl,rfl⟩) | (go_at_call 88;refine(isType_any _ _).mono ?_;rintro e w1 ⟨rfl,rfl⟩;rw[c7]))
      go_ret;exact⟨rfl,(bA1 _ _)⟩
     | true =>
      have c10:decide ((0≤v∧v≤4094)∧0≤p∧p≤7)=true:=decide_eq_true (by by_cases q:(0≤v∧v≤4094)∧0≤p∧p≤7;exact q;exact absurd ⟨rfl,q⟩ c5);clear c5;go_enter Tryz.func49,Tryz.ntmps49;go_wp2_with (first | (go_at_call 86;refine(HM.out _).mono ?_;rintro e w1 ⟨rfl,rfl⟩) | (go_at_call 87;refine(tagFits_any _ _ _ _ _ _ _ _ _ _ _).mono ?_;rintro e w1 ⟨rfl,hb⟩;rw[c10];obtain⟨q6,q7,HBB⟩:=HB.out _ _ _ _ _ _ _ _ _ hb;clear hb) | (go_at_call 88;refine(isType_any _ _).mono ?_;rintro e w1 ⟨rfl,rfl⟩;rw[c7]))
      go_ret;exact⟨rfl,HBB.out⟩
end
section
open Go.RowKit
open Bk (E at')
open Rl (G gat F)
structure Snd (W:World) (f:F) (way:Int) (Bt Bw Bp Bf:Nat):Prop where
 t:W.heap[Bt]?=some (.cells #[.int .u64 f.dst,.int .u64 f.src,.bool true,.int .i64 (if f.tagged=true then f.prio else 0),.bool (f.tagged&&f.drop),.int .i64 way,.int .i64 f.type,.slice none 0 0] 74)
 w:W.heap[Bw]?=some (.cells #[.int .i64 way] 3)
 p:W.heap[Bp]?=some (.cells #[.int .u64 f.dst,.int .u64 f.src,.bool false,.int .i64 0,.bool false,.int .i64 0,.int .i64 f.type,.slice none 0 0] 74)
 f:W.heap[Bf]?=some (.cells #[.int .u64 f.dst,.int .u64 f.src,.bool f.tagged,.int .i64 f.prio,.bool f.drop,.int .i64 f.vid,.int .i64 f.type,.slice f.ao f.n f.cap] 74)
theorem Snd.below {W W':World}{f:F}{way:Int}{Bt Bw Bp Bf:Nat}(h:Snd W f way Bt Bw Bp Bf) (hb:Bl W W'):Snd W' f way Bt Bw Bp Bf:=⟨keep h.t hb,keep h.w hb,keep h.p hb,keep h.f hb⟩
theorem alloc4y (w:World) (A B C D:Obj):((((w.alloc A).alloc B).alloc C).alloc D).heap[w.heap.size]?=some A∧((((w.alloc A).alloc B).alloc C).alloc D).heap[w.heap.size+1]?=some B∧((((w.alloc A).alloc B).alloc C).alloc D).heap[w.heap.size+1+1]?=some C∧((((w.alloc A).alloc B).alloc C).alloc D).heap[w.heap.size+1+1+1]?=some D∧Bl w ((((w.alloc A).alloc B).alloc C).alloc D):=by
 obtain⟨h1,h2,h3,h4⟩:=alloc3 w A B C;have hb:=bA1 (((w.alloc A).alloc B).alloc C) D;refine⟨keep h1 hb,keep h2 hb,keep h3 hb,?_,h4.trans (hb.mono h4.size)⟩;have:=heap_alloc_last (((w.alloc A).alloc B).alloc C) D;simpa using this
theorem sender_any (f:F) (way:Int) (w:World) :
  Calls Tryz.prog 156 #[.agg #[.int .u64 f.dst,.int .u64 f.src,.bool f.tagged,.int .i64 f.prio,.bool f.drop,.int .i64 f.vid,.int .i64 f.type,.slice f.ao f.n f.cap],.int .i64 way] w fun e w'=>e=.returned (.func (.func 197) #[] #[.pointer (some ⟨w.heap.size+1+1+1,0,none⟩),.pointer (some ⟨w.heap.size+1,0,none⟩),.pointer (some ⟨w.heap.size+1+1,0,none⟩),.pointer (some ⟨w.heap.size,0,none⟩)])∧Snd w' f way (w.heap.size+1+1+1) (w.heap.size+1) (w.heap.size+1+1) w.heap.size∧Bl w w':=by
 have H4:Hid (∀A B C D:Obj,_):=alloc4y w;by_cases ht:f.tagged=true
 ·have HS:Hid (∀W:World,W.heap[w.heap.size+1+1+1]?=some (.cells #[.int .u64 f.dst,.int .u64 f.src,.bool true,.int .i64 f.prio,.bool f.drop,.int .i64 way,.int .i64 f.type,.slice none 0 0] 74)→W.heap[w.heap.size+1]?=some (.cells #[.int .i64 way] 3)→W.heap[w.heap.size+1+1]?=some (.cells #[.int .u64 f.dst,.int .u64 f.src,.bool false,.int .i64 0,.bool false,.int .i64 0,.int .i64 f.type,.slice none 0 0] 74)→W.heap[w.heap.size]?=some (.cells #[.int .u64 f.dst,.int .u64 f.src,.bool f.tagged,.int .i64 f.prio,.bool f.drop,.int .i64 f.vid,.int .i64 f.type,.slice f.ao f.n f.cap] 74)→Snd W f way (w.heap.size+1+1+1) (w.heap.size+1) (w.heap.size+1+1) w.heap.size):=fun W h1 h2 h3 h4=>⟨by rw[if_pos ht,ht,Bool.true_and];exact h1,h2,h3,h4⟩
  go_enter Tryz.func156,Tryz.ntmps156;(go_wp2_with fail);go_region
  (all_goals go_wp2_with fail);all_goals go_region
  (all_goals go_wp2_with fail);(all_goals go_ret);all_goals obtain⟨h1,h2,h3,h4,h5⟩:=H4.out _ _ _ _
  all_goals exact⟨rfl,HS.out _ (by first | exact h4 | (rw[ht] at h4;exact h4)) h2 h3 (by first | exact h1 | (rw[ht];exact h1)),by first | exact h5.drew.drew | exact below_drewN h5 _⟩
 ·have hf:f.tagged=false:=(by simpa using ht)
  have HS:Hid (∀W:World,W.heap[w.heap.size+1+1+1]?=some (.cells #[.int .u64 f.dst,.int .u64 f.src,.bool true,.int .i64 0,.bool false,.int .i64 way,.int .i64 f.type,.slice none 0 0] 74)→W.heap[w.heap.size+1]?=some (.cells #[.int .i64 way] 3)→W.heap[w.heap.size+1+1]?=some (.cells #[.int .u64 f.dst,.int .u64 f.src,.bool false,.int .i64 0,.bool false,.int .i64 0,.int .i64 f.type,.slice none 0 0] 74)→W.heap[w.heap.size]?=some (.cells #[.int .u64 f.dst,.int .u64 f.src,.bool f.tagged,.int .i64 f.prio,.bool f.drop,.int .i64 f.vid,.int .i64 f.type,.slice f.ao f.n f.cap] 74)→Snd W f way (w.heap.size+1+1+1) (w.heap.size+1) (w.heap.size+1+1) w.heap.size):=fun W h1 h2 h3 h4=>⟨by rw[if_neg ht,hf,Bool.false_and];exact h1,h2,h3,h4⟩
  clear ht;go_enter Tryz.func156,Tryz.ntmps156;(go_wp2_with fail);go_region
  (all_goals go_wp2_with fail);(all_goals go_ret);all_goals obtain⟨h1,h2,h3,h4,h5⟩:=H4.out _ _ _ _
  all_goals exact⟨rfl,HS.out _ h4 h2 h3 (by first | exact h1 | (rw[hf];exact h1)),by first | exact h5.drew | exact below_drewN h5 _⟩
end
section
open Go.RowKit
end
end Go.Proofs.YtflghpnpjmodaaaGreatDoor
