/- When nothing is wrong with a net -/
import Derived.Test.YtaneiffnhphkhaaGreatDoorD01
import Derived.Test.YtaneiffnhphkhaaGreatDoorD10
import Derived.Test.YtaneiffnhphkhaaGreatDoorD15
import Derived.Deep.QuietTactic
set_option maxRecDepth 100000
set_option maxHeartbeats 40000000
namespace Go.Proofs.YtaneiffnhphkhaaGreatDoor
section
open Go.RowKit
def ILs (w:World) (ao:Option Addr) (cap:Nat) (l:List Int):Prop:=CRow w ao l.length cap 1 (fun i _=>.int .i64 (l.getD i 0))
theorem ILs.below {w w':World}{ao:Option Addr}{cap:Nat}{l:List Int}(h:ILs w ao cap l) (hb:Bl w w'):ILs w' ao cap l:=CRow.below h hb
theorem ILs.cell {w:World}{b off cap:Nat}{l:List Int}(h:ILs w (some ⟨b,off,none⟩) cap l) {i:Nat}(hi:i<l.length):w.cell? ⟨b,off+i,none⟩=some (.int .i64 (l.getD i 0)):=by
 obtain⟨b',off',e,_,hc⟩:=h.2 (by omega);cases e
 have:=hc i hi 0 (by omega);rw[Nat.mul_one,Nat.add_zero] at this;exact this
theorem ILs.place {w:World}{ao:Option Addr}{cap:Nat}{l:List Int}(h:ILs w ao cap l) (hn:0<l.length):∃b off,ao=.some ⟨b,off,.none⟩∧b<w.heap.size:=by
 obtain⟨b,off,e,hb,_⟩:=h.2 hn;exact⟨b,off,e,hb⟩
def Bk.idx (l:List Int) (n:Int):Nat→Int
 | 0 => -1
 | k+1=>if 0≤Bk.idx l n k then Bk.idx l n k else if n=l.getD k 0 then(k:Int) else -1
theorem Bk.idx_stay (l:List Int) (n:Int) (k:Nat) (h:0≤Bk.idx l n k):∀m,k≤m→Bk.idx l n m=Bk.idx l n k:=by
 intro m hm;induction m with
 | zero =>
  obtain rfl:k=0:=by omega
  rfl
 | succ m ih =>
  by_cases e:k=m+1
  ·subst e;rfl
  ·have:=ih (by omega);show(if 0≤Bk.idx l n m then Bk.idx l n m else _)=_;rw[if_pos (by omega),this]
theorem bindex_any (ao:Option Addr) (cap:Nat) (l:List Int) (n:Int) (w:World) (hn:l.length≤9223372036854775807) (hr:ILs w ao cap l) :
  Calls Tryz.prog 38 #[.slice ao l.length cap,.int .i64 n] w fun e w'=>e=.returned (.int .i64 (Bk.idx l n l.length))∧w'=w:=by
 have hcap:l.length≤cap:=hr.1;have HR:Hid (ILs w ao cap l):=hr;clear hr;go_enter Tryz.func38,Tryz.ntmps38;(go_wp2_with fail);go_loopw [8] (fun i wr=>∃k:Nat,k≤l.length∧i=.int .i64 k∧Hid (Bk.idx l n k = -1)∧wr=w) (fun i _=>l.length-(intOf i).toNat)
 case atStart=>exact⟨0,by omega,rfl,rfl,rfl⟩
 case round =>
  obtain⟨k,hk,rfl,hS,rfl⟩:=hrel;by_cases hlt:k<l.length
  ·obtain⟨b,off,rfl,_⟩:=HR.out.place (by omega);have c0:=HR.out.cell hlt;have HS2:Hid (Bk.idx l n (k+1)=if n=l.getD k 0 then(k:Int) else -1):=by
    show(if 0≤Bk.idx l n k then Bk.idx l n k else if n=l.getD k 0 then(k:Int) else -1)=_;rw[if_neg (by rw[hS.out];omega)]
   have HSS:Hid (n=l.getD k 0→Bk.idx l n l.length=(k:Int)):=fun h=>by
    have h1:=HS2.out;rw[if_pos h] at h1;rw[Bk.idx_stay l n (k+1) (by omega) l.length (by omega),h1]
   clear HR hS;by_cases q:n=l.getD k 0
   ·have HS3:Hid _:=HSS.out q;rw[←q] at c0;clear HSS HS2 q;(go_wp2_with fail);go_ret;exact⟨by rw[HS3.out];rfl,rfl⟩
   ·have HS3:Hid (Bk.idx l n (k+1) = -1):=(by rw[HS2.out,if_neg q];rfl)
    have dq:(n == l.getD k 0)=false:=(by simpa using q)
    clear HSS HS2;generalize l.getD k 0=y at *;(go_wp2_with fail);exact⟨⟨k+1,by omega,by go_num,HS3,trivial⟩,by simp[intOf];omega⟩
  ·obtain rfl:k=l.length:=by omega
   clear HR;(go_wp2_with fail);go_ret;exact⟨by rw[hS.out];rfl,rfl⟩
theorem list_eq_iff (l m:List Int):l=m↔l.length=m.length∧∀i,i<l.length→l.getD i 0=m.getD i 0:=by
 constructor
 ·rintro rfl;exact⟨rfl,fun _ _=>rfl⟩
 ·rintro⟨h1,h2⟩;apply List.ext_getElem h1
  intro i a b;have:=h2 i a;simpa[a,b] using this
theorem tequal_any (ao:Option Addr) (cap:Nat) (l:List Int) (bo:Option Addr) (bcap:Nat) (m:List Int) (w:World) (hn:l.length≤9223372036854775807) (hr:ILs w ao cap l) (hr2:ILs w bo bcap m) :
  Calls Tryz.prog 132 #[.slice ao l.length cap,.slice bo m.length bcap] w fun e w'=>e=.returned (.bool (decide (l=m)))∧Bl w w':=by
 by_cases hl:l.length=m.length
 ·have hcap:l.length≤cap:=hr.1;have hcap2:l.length≤bcap:=(by have:=hr2.1;omega)
  have HR:Hid (∀W,Bl w W→ILs W ao cap l∧ILs W bo bcap m):=fun W hW=>⟨hr.below hW,hr2.below hW⟩
  have HLM:Hid (l.length=m.length):=hl;rw[←hl];clear hr hr2 hl;go_enter Tryz.func132,Tryz.ntmps132;(go_wp2_with fail);go_loopw [13] (fun i wr=>∃k:Nat,k≤l.length∧i=.int .i64 k∧Hid (∀j,j<k→l.getD j 0=m.getD j 0)∧Hid (Bl w wr)) (fun i _=>l.length-(intOf i).toNat)
  case atStart=>exact⟨0,by omega,rfl,(fun j hj=>absurd hj (by omega)),Below.refl _ _⟩
  case round =>
   obtain⟨k,hk,rfl,hS,hB⟩:=hrel;by_cases hlt:k<l.length
   ·obtain⟨b,off,rfl,_⟩:=(HR.out wr hB.out).1.place (by omega);obtain⟨b2,off2,rfl,_⟩:=(HR.out wr hB.out).2.place (by have:=HLM.out;omega);have c0:=(HR.out wr hB.out).1.cell hlt;have c1:=(HR.out wr hB.out).2.cell (show k<m.length by have:=HLM.out;omega);have ik:(0:Int)≤(k:Int):=(by omega)
    have nk:(k:Int)<(l.length:Int):=(by omega)
    have HD:Hid (l.getD k 0≠m.getD k 0→decide (l=m)=false):=fun h=>decide_eq_false (fun e=>h (by rw[e]));have HS2:Hid (l.getD k 0=m.getD k 0→∀j,j<k+1→l.getD j 0=m.getD j 0):=fun h j hj=>by
     by_cases e:j=k
     ·subst e;exact h
     ·exact hS.out j (by omega)
    have HBN:Hid (∀n,Bl w (wr.drewN n)):=fun n=>below_drewN hB.out n;clear HR HLM hS;generalize l.getD k 0=x at *;generalize m.getD k 0=y at *;by_cases q:x=y
    ·have e1:(x != y)=false:=(by simp[q])
     have HS3:Hid _:=HS2.out q;clear HD HS2 q;(go_wp2_with fail);(go_quiet (fail));(go_wp2_with fail);exact⟨⟨k+1,by omega,by go_num,HS3,HBN.out _⟩,by simp[intOf];omega⟩
    ·have e1:(x != y)=true:=(by simp[q])
     have HD2:Hid _:=HD.out q;clear HD HS2 q;(go_wp2_with fail);(go_quiet (fail));(go_wp2_with fail);go_ret;exact⟨by rw[HD2.out];rfl,HBN.out _⟩
   ·obtain rfl:k=l.length:=by omega
    have HD:Hid (decide (l=m)=true):=decide_eq_true ((list_eq_iff l m).2 ⟨HLM.out,hS.out⟩);clear HR HLM hS;(go_wp2_with fail);go_ret;exact⟨by rw[HD.out];rfl,hB.out⟩
 ·have HD:Hid (decide (l=m)=false):=decide_eq_false (fun e=>hl (by rw[e]));have e1:((l.length:Int) != (m.length:Int))=true:=(by simp;omega)
  have e2:(l.length != m.length)=true:=(by simpa using hl)
  clear hr hr2;go_enter Tryz.func132,Tryz.ntmps132;(go_wp2_with fail);go_ret;exact⟨by rw[HD.out];rfl,Below.refl _ _⟩
def hasP (ports roles calm pts:List Int):Bool:=decide (ports=pts)&&(decide (roles.length=pts.length)&&decide (calm.length=pts.length))
theorem thasports_any (v0 v1 v2 v3 v4 v5:Value) (po:Option Addr) (pc:Nat) (ports:List Int) (ro:Option Addr) (rc:Nat) (roles:List Int) (co:Option Addr) (cc:Nat) (calm:List Int) (bo:Option Addr) (bcap:Nat) (pts:List Int) (w:World) (hn:ports.length≤9223372036854775807) (hr:ILs w po pc ports) (hr2:ILs w bo bcap pts) :
  Calls Tryz.prog 94 #[.agg #[v0,v1,v2,v3,v4,v5,.slice po ports.length pc,.slice ro roles.length rc,.slice co calm.length cc],.slice bo pts.length bcap] w fun e w'=>e=.returned (.bool (hasP ports roles calm pts))∧Bl w w':=by
 obtain⟨W0,HW0⟩:∃W0,Hid (W0=w.alloc (.cells #[v0,v1,v2,v3,v4,v5,.slice po ports.length pc,.slice ro roles.length rc,.slice co calm.length cc] 66)):=⟨_,rfl⟩
 have hb0:Bl w W0:=(by rw[HW0.out];exact bA1 _ _)
 have hm0:W0.heap[w.heap.size]?=some (.cells #[v0,v1,v2,v3,v4,v5,.slice po ports.length pc,.slice ro roles.length rc,.slice co calm.length cc] 66):=(by rw[HW0.out];exact heap_alloc_last _ _)
 have HE:Hid (Calls Tryz.prog 132 #[.slice po ports.length pc,.slice bo pts.length bcap] W0 fun e w'=>e=.returned (.bool (decide (ports=pts)))∧(w'.cell? ⟨w.heap.size,7,none⟩=some (.slice ro roles.length rc)∧w'.cell? ⟨w.heap.size,8,none⟩=some (.slice co calm.length cc))∧Hid (Bl w w')):=(tequal_any po pc ports bo bcap pts W0 hn (hr.below hb0) (hr2.below hb0)).mono (fun e w' h=>⟨h.1,⟨cell_of_row w' _ 7 _ _ _ (keep hm0 h.2),cell_of_row w' _ 8 _ _ _ (keep hm0 h.2)⟩,hb0.trans (h.2.mono hb0.size)⟩);have c6:W0.cell? ⟨w.heap.size,6,none⟩=some (.slice po ports.length pc):=cell_of_row W0 _ 6 _ _ _ hm0;have HH:Hid (hasP ports roles calm pts=(decide (ports=pts)&&(decide (roles.length=pts.length)&&decide (calm.length=pts.length)))):=rfl;clear hr hr2 hb0 hm0;generalize decide (ports=pts)=d1 at *;go_enter Tryz.func94,Tryz.ntmps94;(go_upto_region 1 with fail);rw[←HW0.out];(go_wp2_with fail);refine HE.out.mono ?_;rintro e w1 ⟨rfl,⟨c7,c8⟩,HB1⟩;clear c6 HE;cases d1 with
 | false =>
  have HX:Hid (hasP ports roles calm pts=false):=(by rw[HH.out];rfl)
  (go_wp2_with fail);go_ret;exact⟨by rw[HX.out];rfl,HB1.out⟩
 | true =>
  by_cases q:roles.length=pts.length
  ·have e1:(roles.length == pts.length)=true:=(by simp[q])
   have e2:((roles.length:Int) == (pts.length:Int))=true:=(by simp[q])
   have HX:Hid (hasP ports roles calm pts=decide (calm.length=pts.length)):=(by rw[HH.out,decide_eq_true q];rfl)
   by_cases q2:calm.length=pts.length
   ·have e3:((calm.length:Int) == (pts.length:Int))=true:=(by simp[q2])
    have HX2:Hid (hasP ports roles calm pts=true):=(by rw[HX.out,decide_eq_true q2];rfl)
    clear q q2 HX HH;(go_wp2_with fail);go_ret;exact⟨by rw[HX2.out];simp,HB1.out⟩
   ·have e3:((calm.length:Int) == (pts.length:Int))=false:=(by simp;omega)
    have HX2:Hid (hasP ports roles calm pts=false):=(by rw[HX.out,decide_eq_false q2];rfl)
    clear q q2 HX HH;(go_wp2_with fail);go_ret;exact⟨by rw[HX2.out];simp,HB1.out⟩
  ·have e1:(roles.length == pts.length)=false:=(by simpa using q)
   have e2:((roles.length:Int) == (pts.length:Int))=false:=(by simp;omega)
   have HX:Hid (hasP ports roles calm pts=false):=(by rw[HH.out,decide_eq_false q];rfl)
   clear q HH;(go_wp2_with fail);go_ret;exact⟨by rw[HX.out];rfl,HB1.out⟩
end
section
open Go.RowKit
open Vc (V Of)
open Tk (Md)
structure Mi where
 md:Md
 po:Option Addr
 pc:Nat
 ports:List Int
 ro:Option Addr
 rc:Nat
 roles:List Int
 co:Option Addr
 cc:Nat
 calm:List Int
def mi0:Mi:=⟨⟨⟨0,0,0,0⟩,0,0⟩,none,0,[],none,0,[],none,0,[]⟩
def mat (l:List Mi) (i:Nat):Mi:=l.getD i mi0
def Mi.val (m:Mi):Value:=.agg #[.int .u64 m.md.v.root,.int .i64 m.md.v.cost,.int .u64 m.md.v.bridge,.int .i64 m.md.v.port,.int .i64 m.md.age,.int .i64 m.md.rp,.slice m.po m.ports.length m.pc,.slice m.ro m.roles.length m.rc,.slice m.co m.calm.length m.cc]
def Mi.has (m:Mi) (pts:List Int):Bool:=hasP m.ports m.roles m.calm pts
structure MiIn (w:World) (m:Mi):Prop where
 ports:ILs w m.po m.pc m.ports
 roles:ILs w m.ro m.rc m.roles
 calm:ILs w m.co m.cc m.calm
 pn:m.ports.length≤9223372036854775807
 rn:m.roles.length≤9223372036854775807
 cn:m.calm.length≤9223372036854775807
theorem MiIn.below {w w':World}{m:Mi}(h:MiIn w m) (hb:Bl w w'):MiIn w' m:=⟨h.ports.below hb,h.roles.below hb,h.calm.below hb,h.pn,h.rn,h.cn⟩
structure MiRow (w:World) (ao:Option Addr) (cap:Nat) (l:List Mi):Prop where
 row:CRow w ao l.length cap 9 (fun i=>mdC (mat l i).md (.slice (mat l i).po (mat l i).ports.length (mat l i).pc) (.slice (mat l i).ro (mat l i).roles.length (mat l i).rc) (.slice (mat l i).co (mat l i).calm.length (mat l i).cc))
 each:∀i,i<l.length→MiIn w (mat l i)
 many:l.length≤9223372036854775807
theorem MiRow.below {w w':World}{ao:Option Addr}{cap:Nat}{l:List Mi}(h:MiRow w ao cap l) (hb:Bl w w'):MiRow w' ao cap l:=⟨CRow.below h.row hb,fun i hi=>(h.each i hi).below hb,h.many⟩
theorem MiRow.place {w:World}{ao:Option Addr}{cap:Nat}{l:List Mi}(h:MiRow w ao cap l) (hn:0<l.length):∃b off,ao=.some ⟨b,off,.none⟩∧b<w.heap.size:=by
 obtain⟨b,off,e,hb,_⟩:=h.row.2 hn;exact⟨b,off,e,hb⟩
theorem MiRow.cells {w:World}{b off cap:Nat}{l:List Mi}(h:MiRow w (some ⟨b,off,none⟩) cap l) {i:Nat}(hi:i<l.length) :
  w.cell? ⟨b,off+i*9,none⟩=some (.int .u64 (mat l i).md.v.root)∧w.cell? ⟨b,off+i*9+1,none⟩=some (.int .i64 (mat l i).md.v.cost)∧w.cell? ⟨b,off+i*9+2,none⟩=some (.int .u64 (mat l i).md.v.bridge)∧w.cell? ⟨b,off+i*9+3,none⟩=some (.int .i64 (mat l i).md.v.port)∧w.cell? ⟨b,off+i*9+4,none⟩=some (.int .i64 (mat l i).md.age)∧w.cell? ⟨b,off+i*9+5,none⟩=some (.int .i64 (mat l i).md.rp)∧w.cell? ⟨b,off+i*9+6,none⟩=some (.slice (mat l i).po (mat l i).ports.length (mat l i).pc)∧w.cell? ⟨b,off+i*9+7,none⟩=some (.slice (mat l i).ro (mat l i).roles.length (mat l i).rc)∧w.cell? ⟨b,off+i*9+8,none⟩=some (.slice (mat l i).co (mat l i).calm.length (mat l i).cc):=by
 obtain⟨b',off',e,_,hc⟩:=h.row.2 (by omega);cases e
 exact⟨hc i hi 0 (by omega),hc i hi 1 (by omega),hc i hi 2 (by omega),hc i hi 3 (by omega),hc i hi 4 (by omega),hc i hi 5 (by omega),hc i hi 6 (by omega),hc i hi 7 (by omega),hc i hi 8 (by omega)⟩
structure Po where
 ao:Option Addr
 cap:Nat
 l:List Int
def po0:Po:=⟨none,0,[]⟩
def pat (l:List Po) (i:Nat):Po:=l.getD i po0
structure PoRow (w:World) (ao:Option Addr) (cap:Nat) (l:List Po):Prop where
 row:CRow w ao l.length cap 1 (fun i _=>.slice (pat l i).ao (pat l i).l.length (pat l i).cap)
 each:∀i,i<l.length→ILs w (pat l i).ao (pat l i).cap (pat l i).l
theorem PoRow.below {w w':World}{ao:Option Addr}{cap:Nat}{l:List Po}(h:PoRow w ao cap l) (hb:Bl w w'):PoRow w' ao cap l:=⟨CRow.below h.row hb,fun i hi=>(h.each i hi).below hb⟩
theorem PoRow.place {w:World}{ao:Option Addr}{cap:Nat}{l:List Po}(h:PoRow w ao cap l) (hn:0<l.length):∃b off,ao=.some ⟨b,off,.none⟩∧b<w.heap.size:=by
 obtain⟨b,off,e,hb,_⟩:=h.row.2 hn;exact⟨b,off,e,hb⟩
theorem PoRow.cell {w:World}{b off cap:Nat}{l:List Po}(h:PoRow w (some ⟨b,off,none⟩) cap l) {i:Nat}(hi:i<l.length):w.cell? ⟨b,off+i,none⟩=some (.slice (pat l i).ao (pat l i).l.length (pat l i).cap):=by
 obtain⟨b',off',e,_,hc⟩:=h.row.2 (by omega);cases e
 have:=hc i hi 0 (by omega);simpa using this
def eqF (l:List Mi) (ps:List Po):Bool:=decide (l.length=ps.length∧∀i,i<l.length→(mat l i).has (pat ps i).l=true)
theorem teqf_any (ao:Option Addr) (cap:Nat) (l:List Mi) (bo:Option Addr) (bcap:Nat) (ps:List Po) (w:World) (hr:MiRow w ao cap l) (hr2:PoRow w bo bcap ps) :
  Calls Tryz.prog 93 #[.slice ao l.length cap,.slice bo ps.length bcap,.func (.func 94) #[] #[]] w fun e w'=>e=.returned (.bool (eqF l ps))∧Bl w w':=by
 by_cases hl:l.length=ps.length
 ·have hn:=hr.many;have hcap:l.length≤cap:=hr.row.1;have hcap2:l.length≤bcap:=(by have:=hr2.row.1;omega)
  have HR:Hid (∀W,Bl w W→MiRow W ao cap l∧PoRow W bo bcap ps):=fun W hW=>⟨hr.below hW,hr2.below hW⟩
  have HLM:Hid (l.length=ps.length):=hl;rw[←hl];clear hr hr2 hl;go_enter Tryz.func93,Tryz.ntmps93;(go_wp2_with fail);go_loopw [17] (fun i wr=>∃k:Nat,k≤l.length∧i=.int .i64 k∧Hid (∀j,j<k→(mat l j).has (pat ps j).l=true)∧Hid (Bl w wr)) (fun i _=>l.length-(intOf i).toNat)
  case atStart=>exact⟨0,by omega,rfl,(fun j hj=>absurd hj (by omega)),Below.refl _ _⟩
  case round =>
   obtain⟨k,hk,rfl,hS,hB⟩:=hrel;by_cases hlt:k<l.length
   ·obtain⟨b,off,rfl,_⟩:=(HR.out wr hB.out).1.place (by omega);obtain⟨b2,off2,rfl,_⟩:=(HR.out wr hB.out).2.place (by have:=HLM.out;omega);obtain⟨c0,c1,c2,c3,c4,c5,c6,c7,c8⟩:=(HR.out wr hB.out).1.cells hlt;have d0:=(HR.out wr hB.out).2.cell (show k<ps.length by have:=HLM.out;omega);have ik:(0:Int)≤(k:Int):=(by omega)
    have nk:(k:Int)<(l.length:Int):=(by omega)
    have hm:=(HR.out wr hB.out).1.each k hlt;have hp:=(HR.out wr hB.out).2.each k (by have:=HLM.out;omega);have HC:Hid (∀W,Bl wr W→Calls Tryz.prog 94 #[(mat l k).val,.slice (pat ps k).ao (pat ps k).l.length (pat ps k).cap] W fun e w'=>e=.returned (.bool ((mat l k).has (pat ps k).l))∧Hid (Bl w w')):=fun W hW=>(thasports_any _ _ _ _ _ _ _ _ _ _ _ _ _ _ _ _ _ _ W hm.pn (hm.ports.below hW) (hp.below hW)).mono (fun e w' h=>⟨h.1,(hB.out.trans (hW.mono hB.out.size)).trans (h.2.mono (hB.out.trans (hW.mono hB.out.size)).size)⟩);have HD:Hid ((mat l k).has (pat ps k).l=false→eqF l ps=false):=fun h=>decide_eq_false (fun e=>by have:=e.2 k hlt;rw[h] at this;cases this);have HS2:Hid ((mat l k).has (pat ps k).l=true→∀j,j<k+1→(mat l j).has (pat ps j).l=true):=fun h j hj=>by
     by_cases e:j=k
     ·subst e;exact h
     ·exact hS.out j (by omega)
    clear HR HLM hS hm hp;unfold Mi.val at HC;generalize mat l k=x at *;generalize pat ps k=y at *;cases hq:x.has y.l with
    | true =>
     have HS3:Hid _:=HS2.out hq;rw[hq] at HC;clear HD HS2 hq;(go_wp2_with fail);refine(HC.out _ (bA1 _ _)).mono ?_;rintro e w2 ⟨rfl,HB2⟩;clear HC c0 c1 c2 c3 c4 c5 c6 c7 c8 d0;(go_wp2_with fail);exact⟨⟨k+1,by omega,by go_num,HS3,HB2⟩,by simp[intOf];omega⟩
    | false =>
     have HS3:Hid _:=HD.out hq;rw[hq] at HC;clear HD HS2 hq;(go_wp2_with fail);refine(HC.out _ (bA1 _ _)).mono ?_;rintro e w2 ⟨rfl,HB2⟩;clear HC c0 c1 c2 c3 c4 c5 c6 c7 c8 d0;(go_wp2_with fail);go_ret;exact⟨by rw[HS3.out];rfl,HB2.out⟩
   ·obtain rfl:k=l.length:=by omega
    have HD:Hid (eqF l ps=true):=decide_eq_true ⟨HLM.out,hS.out⟩;clear HR HLM hS;(go_wp2_with fail);go_ret;exact⟨by rw[HD.out];rfl,hB.out⟩
 ·have HD:Hid (eqF l ps=false):=decide_eq_false (fun e=>hl e.1);have e1:((l.length:Int) != (ps.length:Int))=true:=(by simp;omega)
  have e2:(l.length != ps.length)=true:=(by simpa using hl)
  clear hr hr2;go_enter Tryz.func93,Tryz.ntmps93;(go_wp2_with fail);go_ret;exact⟨by rw[HD.out];rfl,Below.refl _ _⟩
end
section
open Go.RowKit
open Tk (Md)
structure Tr where
 ao:Option Addr
 cap:Nat
 l:List Mi
def tr0:Tr:=⟨none,0,[]⟩
def tat (t:List Tr) (i:Nat):Tr:=t.getD i tr0
structure TrRow (w:World) (ao:Option Addr) (cap:Nat) (t:List Tr):Prop where
 row:CRow w ao t.length cap 1 (fun i _=>.slice (tat t i).ao (tat t i).l.length (tat t i).cap)
 each:∀i,i<t.length→MiRow w (tat t i).ao (tat t i).cap (tat t i).l
 many:t.length≤9223372036854775807
theorem TrRow.below {w w':World}{ao:Option Addr}{cap:Nat}{t:List Tr}(h:TrRow w ao cap t) (hb:Bl w w'):TrRow w' ao cap t:=⟨CRow.below h.row hb,fun i hi=>(h.each i hi).below hb,h.many⟩
theorem TrRow.place {w:World}{ao:Option Addr}{cap:Nat}{t:List Tr}(h:TrRow w ao cap t) (hn:0<t.length):∃b off,ao=.some ⟨b,off,.none⟩∧b<w.heap.size:=by
 obtain⟨b,off,e,hb,_⟩:=h.row.2 hn;exact⟨b,off,e,hb⟩
theorem TrRow.cell {w:World}{b off cap:Nat}{t:List Tr}(h:TrRow w (some ⟨b,off,none⟩) cap t) {i:Nat}(hi:i<t.length):w.cell? ⟨b,off+i,none⟩=some (.slice (tat t i).ao (tat t i).l.length (tat t i).cap):=by
 obtain⟨b',off',e,_,hc⟩:=h.row.2 (by omega);cases e
 have:=hc i hi 0 (by omega);simpa using this
def oddT (t:List Tr) (ps:List Po):Bool:=decide (∃i,i<t.length∧eqF (tat t i).l ps=false)
theorem tfits1_any (x:Tr) (bo:Option Addr) (bcap:Nat) (ps:List Po) (Bp:Nat) (w:World) (hr:MiRow w x.ao x.cap x.l) (hr2:PoRow w bo bcap ps) (hp:w.cell? ⟨Bp,0,none⟩=some (.slice bo ps.length bcap)) :
  Calls Tryz.prog 92 #[.slice x.ao x.l.length x.cap,.pointer (some ⟨Bp,0,none⟩)] w fun e w'=>e=.returned (.bool (!(eqF x.l ps)))∧Bl w w':=by
 have l1:=block_lt_of_cell hp;have HC:Hid (Calls Tryz.prog 93 #[.slice x.ao x.l.length x.cap,.slice bo ps.length bcap,.func (.func 94) #[] #[]] w fun e w'=>e=.returned (.bool (eqF x.l ps))∧Hid (Bl w w')):=(teqf_any x.ao x.cap x.l bo bcap ps w hr hr2).mono (fun e w' h=>⟨h.1,h.2⟩);clear hr hr2;generalize eqF x.l ps=d at *;go_enter Tryz.func92,Tryz.ntmps92;go_wp2_with (go_at_call 93;refine HC.out.mono ?_;rintro e w1 ⟨rfl,HB1⟩)
 go_ret;exact⟨rfl,HB1.out⟩
theorem tindexf_any (ao:Option Addr) (cap:Nat) (t:List Tr) (bo:Option Addr) (bcap:Nat) (ps:List Po) (Bp:Nat) (w:World) (hr:TrRow w ao cap t) (hr2:PoRow w bo bcap ps) (hp:w.cell? ⟨Bp,0,none⟩=some (.slice bo ps.length bcap)) :
  Calls Tryz.prog 133 #[.slice ao t.length cap,.func (.func 92) #[] #[.pointer (some ⟨Bp,0,none⟩)]] w fun e w'=>∃r:Int,e=.returned (.int .i64 r)∧decide (r≥0)=oddT t ps∧Bl w w':=by
 have hn:=hr.many;have hcap:t.length≤cap:=hr.row.1;have l1:=block_lt_of_cell hp;have HR:Hid (∀W,Bl w W→TrRow W ao cap t):=fun W hW=>hr.below hW;have HC:Hid (∀W,Bl w W→∀k,k<t.length→Calls Tryz.prog 92 #[.slice (tat t k).ao (tat t k).l.length (tat t k).cap,.pointer (some ⟨Bp,0,none⟩)] W fun e w'=>e=.returned (.bool (!(eqF (tat t k).l ps)))∧Hid (Bl w w')):=fun W hW k hk=>(tfits1_any (tat t k) bo bcap ps Bp W ((hr.each k hk).below hW) (hr2.below hW) ((hW.cell (by exact l1)).trans hp)).mono (fun e w' h=>⟨h.1,hW.trans (h.2.mono hW.size)⟩);clear hr hr2 hp l1;go_enter Tryz.func133,Tryz.ntmps133;(go_wp2_with fail);go_loopw [8] (fun i wr=>∃k:Nat,k≤t.length∧i=.int .i64 k∧Hid (∀j,j<k→eqF (tat t j).l ps=true)∧Hid (Bl w wr)) (fun i _=>t.length-(intOf i).toNat)
 case atStart=>exact⟨0,by omega,rfl,(fun j hj=>absurd hj (by omega)),Below.refl _ _⟩
 case round =>
  obtain⟨k,hk,rfl,hS,hB⟩:=hrel;by_cases hlt:k<t.length
  ·obtain⟨b,off,rfl,_⟩:=(HR.out wr hB.out).place (by omega);have c0:=(HR.out wr hB.out).cell hlt;have ik:(0:Int)≤(k:Int):=(by omega)
   have nk:(k:Int)<(t.length:Int):=(by omega)
   have HCG:Hid (Calls Tryz.prog 92 #[.slice (tat t k).ao (tat t k).l.length (tat t k).cap,.pointer (some ⟨Bp,0,none⟩)] wr fun e w'=>e=.returned (.bool (!(eqF (tat t k).l ps)))∧Hid (Bl w w')):=HC.out wr hB.out k hlt;have HD:Hid (eqF (tat t k).l ps=false→decide ((k:Int)≥0)=oddT t ps):=fun h=>by
    show decide ((k:Int)≥0)=oddT t ps;unfold oddT;rw[decide_eq_true (show(k:Int)≥0 by omega),decide_eq_true (show ∃i,i<t.length∧eqF (tat t i).l ps=false from⟨k,hlt,h⟩)]
   have HS2:Hid (eqF (tat t k).l ps=true→∀j,j<k+1→eqF (tat t j).l ps=true):=fun h j hj=>by
    by_cases e:j=k
    ·subst e;exact h
    ·exact hS.out j (by omega)
   clear HR HC hS hB;generalize tat t k=x at *;cases hq:eqF x.l ps with
   | true =>
    have HS3:Hid _:=HS2.out hq;rw[hq,Bool.not_true] at HCG;clear HD HS2 hq;go_wp2_with (go_at_call 92;refine HCG.out.mono ?_;rintro e w2 ⟨rfl,HB2⟩)
    exact⟨⟨k+1,by omega,by go_num,HS3,HB2⟩,by simp[intOf];omega⟩
   | false =>
    have HS3:Hid _:=HD.out hq;rw[hq,Bool.not_false] at HCG;clear HD HS2 hq;go_wp2_with (go_at_call 92;refine HCG.out.mono ?_;rintro e w2 ⟨rfl,HB2⟩)
    go_ret;exact⟨_,rfl,HS3.out,HB2.out⟩
  ·obtain rfl:k=t.length:=by omega
   have HN:¬∃i,i<t.length∧eqF (tat t i).l ps=false:=by
    rintro⟨i,hi,h⟩;rw[hS.out i hi] at h;cases h
   have HD:Hid (decide ((-1:Int)≥0)=oddT t ps):=by
    show decide ((-1:Int)≥0)=oddT t ps;unfold oddT;rw[decide_eq_false (show ¬(-1:Int)≥0 by omega),decide_eq_false HN]
   clear HN;clear HR HC hS;(go_wp2_with fail);go_ret;exact⟨_,rfl,HD.out,hB.out⟩
theorem tcontf_any (ao:Option Addr) (cap:Nat) (t:List Tr) (bo:Option Addr) (bcap:Nat) (ps:List Po) (Bp:Nat) (w:World) (hr:TrRow w ao cap t) (hr2:PoRow w bo bcap ps) (hp:w.cell? ⟨Bp,0,none⟩=some (.slice bo ps.length bcap)) :
  Calls Tryz.prog 95 #[.slice ao t.length cap,.func (.func 92) #[] #[.pointer (some ⟨Bp,0,none⟩)]] w fun e w'=>e=.returned (.bool (oddT t ps))∧Bl w w':=by
 have HC:Hid (Calls Tryz.prog 133 #[.slice ao t.length cap,.func (.func 92) #[] #[.pointer (some ⟨Bp,0,none⟩)]] w fun e w'=>∃r:Int,e=.returned (.int .i64 r)∧Hid (decide (r≥0)=oddT t ps∧Bl w w')):=(tindexf_any ao cap t bo bcap ps Bp w hr hr2 hp).mono (fun e w' ⟨r,h1,h2,h3⟩=>⟨r,h1,h2,h3⟩);clear hr hr2 hp;generalize oddT t ps=d at *;go_enter Tryz.func95,Tryz.ntmps95;go_wp2_with (go_at_call 133;refine HC.out.mono ?_;rintro e w1 ⟨r,rfl,H1⟩)
 go_ret;exact⟨by rw[←H1.out.1];rfl,H1.out.2⟩
end
section
open Go.RowKit
open Tk (Md)
open Pl (Br Net Lk)
theorem infoInts:(Tryz.prog.info? 59).map (fun i=>(i.zero,i.size,i.bytes))=some (some (.slice none 0 0),1,24):=by kernel_rfl
def ptsN (n:Net) (i:Nat):List Int:=(Pl.ends n.ls n.live n.L i).map (·.port)
def fitT (n:Net) (t:List Tr):Bool:=decide ((1:Int)≤(t.length:Int)∧(t.length:Int)≤4)&&decide (∀k,k<t.length→(tat t k).l.length=n.K∧∀i,i<n.K→(mat (tat t k).l i).has (ptsN n i)=true)
structure PsAt (w:World) (n:Net) (G Bp:Nat) (ps:Nat→Po) (k:Nat):Prop where
 blk:w.heap[G]?=some (.cells (rowC n.K 1 (fun i _=>.slice (ps i).ao (ps i).l.length (ps i).cap)) 59)
 box:w.heap[Bp]?=some (.cells #[.slice (some ⟨G,0,none⟩) n.K n.K] 157)
 done:∀i,i<k→(ps i).l=ptsN n i∧ILs w (ps i).ao (ps i).cap (ps i).l∧∀ad,(ps i).ao=some ad→ad.block≠G
theorem PsAt.below {w w':World}{n:Net}{G Bp:Nat}{ps:Nat→Po}{k:Nat}(h:PsAt w n G Bp ps k) (hb:Bl w w'):PsAt w' n G Bp ps k:=⟨keep h.blk hb,keep h.box hb,fun i hi=>⟨(h.done i hi).1,(h.done i hi).2.1.below hb,(h.done i hi).2.2⟩⟩
theorem PsAt.set {w:World}{n:Net}{G Bp:Nat}{ps:Nat→Po}{k:Nat}(h:PsAt w n G Bp ps k) (hne:Bp≠G) (hk:k<n.K) (p:Po) (hl:p.l=ptsN n k) (hI:ILs w p.ao p.cap p.l) (ha:∀ad,p.ao=some ad→ad.block≠G) :
  PsAt (w.setCell ⟨G,k,none⟩ (.slice p.ao p.l.length p.cap)) n G Bp (fun i=>if i=k then p else ps i) (k+1):=by
 have oth:∀b,b≠G→(w.setCell ⟨G,k,none⟩ (.slice p.ao p.l.length p.cap)).heap[b]?=w.heap[b]?:=fun b hb=>heap_setCell_other _ _ _ _ (by exact hb);have e1:(⟨G,k,none⟩:Addr)=⟨G,k*1+0,none⟩:=(by simp)
 have keepI:∀q:Po,ILs w q.ao q.cap q.l→(∀ad,q.ao=some ad→ad.block≠G)→ILs (w.setCell ⟨G,k,none⟩ (.slice p.ao p.l.length p.cap)) q.ao q.cap q.l:=fun q h1 h2=>CRow.other h1 (fun b off e _=>oth b (by have:=h2 _ e;exact this)) (by simp);refine⟨?_,(oth Bp hne).trans h.box,fun i hi => ?_⟩
 ·rw[e1,rowC_set h.blk hk (by omega),rC2 (d:=fun i _=>.slice (if i=k then p else ps i).ao (if i=k then p else ps i).l.length (if i=k then p else ps i).cap) (fun i _ j hj=>by
   unfold updC;by_cases q:i=k
   ·rw[if_pos ⟨q,by omega⟩,if_pos q]
   ·rw[if_neg (fun p=>q p.1),if_neg q])]
 ·by_cases q:i=k
  ·subst q;simp only[if_pos];exact⟨hl,keepI p hI ha,ha⟩
  ·simp only[if_neg q];have:=h.done i (by omega);exact⟨this.1,keepI _ this.2.1 this.2.2,this.2.2⟩
def psL (n:Net) (ps:Nat→Po):List Po:=(List.range n.K).map ps
theorem psL_len (n:Net) (ps:Nat→Po):(psL n ps).length=n.K:=by simp[psL]
theorem psL_at (n:Net) (ps:Nat→Po) {i:Nat}(h:i<n.K):pat (psL n ps) i=ps i:=by
 unfold pat psL;rw[List.getD_eq_getElem?_getD,List.getElem?_map,List.getElem?_range h];rfl
theorem PsAt.row {w:World}{n:Net}{G Bp:Nat}{ps:Nat→Po}(h:PsAt w n G Bp ps n.K):PoRow w (some ⟨G,0,none⟩) n.K (psL n ps):=by
 refine⟨?_,fun i hi => ?_⟩
 ·rw[psL_len];exact CRow.congr (rowC_crow h.blk) (fun i hi=>by rw[psL_at n ps hi])
 ·rw[psL_len] at hi;rw[psL_at n ps hi];exact(h.done i hi).2.1
theorem fitT_odd {w:World}{n:Net}{G Bp:Nat}{ps:Nat→Po}(h:PsAt w n G Bp ps n.K) (t:List Tr):fitT n t=(decide ((1:Int)≤(t.length:Int)∧(t.length:Int)≤4) && !(oddT t (psL n ps))):=by
 unfold fitT;congr 1
 have e:∀k,eqF (tat t k).l (psL n ps)=decide ((tat t k).l.length=n.K∧∀i,i<n.K→(mat (tat t k).l i).has (ptsN n i)=true):=fun k=>by
  unfold eqF;rw[decide_eq_decide,psL_len];constructor
  ·rintro⟨h1,h2⟩;refine⟨h1,fun i hi => ?_⟩;have:=h2 i (by omega);rw[psL_at n ps hi,(h.done i hi).1] at this;exact this
  ·rintro⟨h1,h2⟩;refine⟨h1,fun i hi => ?_⟩;have hi':i<n.K:=(by omega)
   rw[psL_at n ps hi',(h.done i hi').1];exact h2 i hi'
 unfold oddT;rw[←decide_not,decide_eq_decide];constructor
 ·rintro h1 ⟨k,hk,h2⟩;rw[e k,decide_eq_true (h1 k hk)] at h2;cases h2
 ·intro h1 k hk;have:=fun q=>h1 ⟨k,hk,q⟩;rw[e k] at this;simpa using this
theorem tfits_any (n:Net) (oao:Option Addr) (ocap:Nat) (t:List Tr) (w:World) (hK:n.K≤12) (hL:n.L≤40) (R:Pl.RightL n.K n.L n.ls) (hat:n.at' w) (ht:TrRow w oao ocap t) :
  Calls Tryz.prog 60 #[.agg #[.slice oao t.length ocap],n.val] w fun e w'=>e=.returned (.bool (fitT n t))∧Bl w w':=by
 have hmk:∀W:World,(Instr.makeSlice 157 (.int .i64 (n.K:Int)) (.int .i64 (n.K:Int))).run Tryz.prog W=.ok (.slice (some ⟨W.heap.size,0,none⟩) n.K n.K) (W.alloc (.cells (rowC n.K 1 (fun _ _=>.slice none 0 0)) 59)):=fun W=>make_rowD W 157 59 (.slice none 0 0) 1 24 n.K Tryz.underlying157 infoInts (by omega) rfl (by omega) (by omega) _ (fun _ j hj=>by rw[show j=0 by omega];rfl);obtain⟨X,HX⟩:∃X,Hid (X=(w.alloc (.cells #[.slice oao t.length ocap] 29)).alloc (.cells #[.slice n.bao n.K n.bcap,.slice n.lao n.L n.lcap] 25)):=⟨_,rfl⟩
 have hXB:Bl w X:=(by rw[HX.out];exact bA2 _ _ _)
 have hX0:X.heap[w.heap.size]?=some (.cells #[.slice oao t.length ocap] 29):=(by rw[HX.out];exact heap_alloc2_old _ _ _)
 have hX1:X.heap[w.heap.size+1]?=some (.cells #[.slice n.bao n.K n.bcap,.slice n.lao n.L n.lcap] 25):=(by rw[HX.out];exact heap_alloc2_new _ _ _)
 have hXs:X.heap.size=w.heap.size+2:=(by rw[HX.out];simp only[World.alloc,Array.size_push])
 obtain⟨G,HG⟩:∃G,Hid (G=w.heap.size+1+1):=⟨_,rfl⟩
 obtain⟨Bp,HP⟩:∃Bp,Hid (Bp=w.heap.size+1+1+1):=⟨_,rfl⟩
 obtain⟨Y,HY⟩:∃Y,Hid (Y=(X.alloc (.cells (rowC n.K 1 (fun _ _=>.slice none 0 0)) 59)).alloc (.cells #[.slice (some ⟨G,0,none⟩) n.K n.K] 157)):=⟨_,rfl⟩
 have hGX:G=X.heap.size:=(by rw[HG.out,hXs])
 have hPX:Bp=X.heap.size+1:=(by rw[HP.out,hXs])
 have HNE:Hid (Bp≠G∧X.heap.size≤G):=⟨by omega,by omega⟩
 have hYB:Bl X Y:=(by rw[HY.out];exact bA2 _ _ _)
 have H0:Hid (∃ps,PsAt Y n G Bp ps 0∧Bl X Y):=⟨fun _=>po0,⟨by rw[HY.out,hGX];exact heap_alloc2_old _ _ _,by rw[HY.out,hPX];exact heap_alloc2_new _ _ _,fun i hi=>absurd hi (by omega)⟩,hYB⟩
 have HC:Hid (∀W,Bl X W→W.cell? ⟨w.heap.size,0,none⟩=some (.slice oao t.length ocap)∧(W.cell? ⟨w.heap.size+1,0,none⟩=some (.slice n.bao n.K n.bcap)∧W.cell? ⟨w.heap.size+1,1,none⟩=some (.slice n.lao n.L n.lcap))∧n.at' W∧TrRow W oao ocap t∧Bl w W):=fun W hW=>by
  have h1:Bl w W:=hXB.trans (hW.mono hXB.size);exact⟨cell_of_row W _ 0 _ _ _ (keep hX0 hW),tC2 (keep hX1 hW),hat.below h1,ht.below h1,h1⟩
 have HR:Hid (Pl.RightL n.K n.L n.ls):=R;have HX2:=HX.out;obtain⟨_,⟨n0,n1⟩,_⟩:=HC.out X (Below.refl _ _);rw[HX2] at n0 n1;have htc:t.length≤ocap:=ht.row.1;have htn:=ht.many;clear HX2 hat ht R hXB hX0 hX1 hXs hGX hPX hYB;simp only[Pl.Net.val];go_enter Tryz.func60,Tryz.ntmps60;(go_wp2_with fail);rw[←HX.out,←HP.out,←HG.out,←HY.out];clear n0 n1;go_loopw [14] (fun i wr=>∃k:Nat,k≤n.K∧i=.int .i64 k∧Hid (∃ps,PsAt wr n G Bp ps k∧Bl X wr)) (fun i _=>n.K-(intOf i).toNat)
 case atStart=>exact⟨0,by omega,rfl,H0⟩
 case round =>
  obtain⟨k,hk,rfl,hX⟩:=hrel;clear H0;obtain⟨ps,hI,hB⟩:=hX.out;by_cases hlt:k<n.K
  ·obtain⟨_,⟨n0,n1⟩,hatW,_,_⟩:=HC.out wr hB;have b0:=cell_of_row wr Bp 0 _ _ _ hI.box;have HCF:Hid (∀V,Bl wr V→V.cell? ⟨G,k,none⟩=some (.slice (ps k).ao (ps k).l.length (ps k).cap)∧V.frozen? ⟨G,k,none⟩=false∧V.cell? ⟨Bp,0,none⟩=some (.slice (some ⟨G,0,none⟩) n.K n.K)∧V.cell? ⟨w.heap.size+1,1,none⟩=some (.slice n.lao n.L n.lcap)):=fun V hV=>by
    have hI2:=hI.below hV;have q:=rowC_cell hI2.blk hlt (show 0<1 by omega);rw[show k*1+0=k by omega] at q;exact⟨q,lF0 hI2.blk _,cell_of_row V Bp 0 _ _ _ hI2.box,(HC.out V (hB.trans (hV.mono hB.size))).2.1.2⟩
   have HCL:Hid (∀V,Bl wr V→Calls Tryz.prog 33 #[.slice n.lao n.L n.lcap,.int .i64 k] V fun e w'=>∃ao cap,e=.returned (.slice ao (ptsN n k).length cap)∧Hid (Bl wr w')∧Hid (∃ps,PsAt (w'.setCell ⟨G,k,none⟩ (.slice ao (ptsN n k).length cap)) n G Bp ps (k+1)∧Bl X (w'.setCell ⟨G,k,none⟩ (.slice ao (ptsN n k).length cap)))):=fun V hV=>by
    refine(pports_any n.lao n.K n.L n.lcap n.ls n.live k V hL (CRow.below hatW.lks hV) HR.out).mono ?_;rintro e w' ⟨ao,cap,rfl,z1,z2,z3⟩;have hVw:Bl wr w':=hV.trans (z2.mono hV.size);have hI2:=hI.below hVw;have hB2:Bl X w':=hB.trans (hVw.mono hB.size);have hGl:G<wr.heap.size:=(gSm.1 hI.blk).1;refine⟨ao,cap,rfl,hVw,fun i=>if i=k then⟨ao,cap,ptsN n k⟩ else ps i,hI2.set HNE.out.1 hlt ⟨ao,cap,ptsN n k⟩ rfl z1 (fun ad e => ?_),hB2.setCell HNE.out.2 _⟩;have h1:=z3 ad e;have h2:=hV.size;omega
   have HB0:Hid (∀m,Bl wr (wr.drewN m)):=fun m=>below_drewN (Below.refl _ _) m;have HB1:Hid (Bl wr wr.drew):=Below.drew (Below.refl _ _);obtain⟨x1,x2,x3,x4⟩:=HCF.out wr (Below.refl _ _);have i0:(0:Int)≤(k:Int):=(by omega)
   have i1:(k:Int)<(n.K:Int):=(by omega)
   clear hX hI hB hatW HC n0 n1 b0;generalize (ptsN n k).length=m at *;(go_wp2_with fail);go_region_with (go_at_call 33;refine(HCL.out _ (by first | exact HB0.out _ | exact HB1.out)).mono ?_;rintro e w2 ⟨a1,p1,rfl,HQ,H2⟩;obtain⟨y1,y2,y3,y4⟩:=HCF.out w2 HQ.out)
   (all_goals go_wp2_with fail);all_goals exact⟨⟨k+1,by omega,by go_num,H2⟩,by simp[intOf];omega⟩
  ·obtain hkK:k=n.K:=by omega
   rw[hkK] at hI;have hnk:¬(k:Int)<(n.K:Int):=(by omega)
   have HFT:=fitT_odd hI t;obtain⟨m0,_,_,htW,hwW⟩:=HC.out wr hB;have HCC:Hid (Calls Tryz.prog 95 #[.slice oao t.length ocap,.func (.func 92) #[] #[.pointer (some ⟨Bp,0,none⟩)]] wr fun e w'=>e=.returned (.bool (oddT t (psL n ps)))∧Hid (Bl w w')):=(tcontf_any oao ocap t (some ⟨G,0,none⟩) n.K (psL n ps) Bp wr htW hI.row (by rw[psL_len];exact cell_of_row wr Bp 0 _ _ _ hI.box)).mono (fun e w' h=>⟨h.1,hwW.trans (h.2.mono hwW.size)⟩);have HWW:Hid (Bl w wr):=hwW;clear hX hI hB htW hwW HC;generalize oddT t (psL n ps)=od at *;by_cases q:(1:Int)≤(t.length:Int)∧(t.length:Int)≤4
   ·have HF2:Hid (fitT n t=!od):=(by rw[HFT,decide_eq_true q,Bool.true_and];exact rfl)
    clear HFT;go_wp2_with (first | (go_at_call 30;refine(vwithin_any _ _ _ _).mono ?_;rintro e w1 ⟨rfl,rfl⟩;rw[decide_eq_true q]) | (go_at_call 95;refine HCC.out.mono ?_;rintro e w1 ⟨rfl,HB1⟩))
    go_ret;exact⟨by rw[HF2.out];rfl,HB1.out⟩
   ·have HF2:Hid (fitT n t=false):=(by rw[HFT,decide_eq_false q,Bool.false_and];exact rfl)
    clear HFT;go_wp2_with (go_at_call 30;refine(vwithin_any _ _ _ _).mono ?_;rintro e w1 ⟨rfl,rfl⟩;rw[decide_eq_false q])
    go_ret;exact⟨by rw[HF2.out];rfl,HWW.out⟩
def wrT (n:Net) (t:List Tr) (dn:Nat):Int×Int:=if n.wrong.1≠0 then n.wrong else if fitT n t=false then(8,0) else if 30<dn then(5,0) else(0,0)
theorem twrong_any (n:Net) (oao:Option Addr) (ocap:Nat) (t:List Tr) (dao:Option Addr) (dn dcap:Nat) (w:World) (hwf:n.Wf) (hat:n.at' w) (ht:TrRow w oao ocap t) (hdn:dn≤9223372036854775807) :
  Calls Tryz.prog 39 #[n.val,.agg #[.slice oao t.length ocap],.slice dao dn dcap] w fun e w'=>e=.returned (.agg (ftA (wrT n t dn)))∧Bl w w':=by
 obtain⟨X,HX⟩:∃X,Hid (X=(w.alloc (.cells #[.slice n.bao n.K n.bcap,.slice n.lao n.L n.lcap] 25)).alloc (.cells #[.slice oao t.length ocap] 29)):=⟨_,rfl⟩
 obtain⟨Y,HY⟩:∃Y,Hid (Y=X.alloc (.cells #[.int .i64 0,.int .i64 0] 32)):=⟨_,rfl⟩
 have hXB:Bl w X:=(by rw[HX.out];exact bA2 _ _ _)
 have hX0:X.heap[w.heap.size]?=some (.cells #[.slice n.bao n.K n.bcap,.slice n.lao n.L n.lcap] 25):=(by rw[HX.out];exact heap_alloc2_old _ _ _)
 have hX1:X.heap[w.heap.size+1]?=some (.cells #[.slice oao t.length ocap] 29):=(by rw[HX.out];exact heap_alloc2_new _ _ _)
 have hXs:X.heap.size=w.heap.size+2:=(by rw[HX.out];simp only[World.alloc,Array.size_push])
 obtain⟨F,HF⟩:∃F,Hid (F=w.heap.size+1+1):=⟨_,rfl⟩
 have hFX:F=X.heap.size:=(by rw[HF.out,hXs])
 have hXY:Bl X Y:=(by rw[HY.out];exact bA1 _ _)
 have hYF:Y.heap[F]?=some (.cells #[.int .i64 0,.int .i64 0] 32):=(by rw[HY.out,hFX];exact heap_alloc_last _ _)
 have hYB:Bl w Y:=hXB.trans (hXY.mono hXB.size);have n1:=tC2 hX0;have n2:=cell_of_row X _ 0 _ _ _ hX1;rw[HX.out] at n1 n2;obtain⟨n0,n1⟩:=n1;have m1:=tC2 (keep hX0 hXY);have m2:=cell_of_row Y _ 0 _ _ _ (keep hX1 hXY);rw[HY.out,HX.out] at m1 m2;obtain⟨m0,m1⟩:=m1;have HC:Hid (∀V,Bl Y V→(V.cell? ⟨w.heap.size,0,none⟩=some (.slice n.bao n.K n.bcap)∧V.cell? ⟨w.heap.size,1,none⟩=some (.slice n.lao n.L n.lcap))∧V.cell? ⟨w.heap.size+1,0,none⟩=some (.slice oao t.length ocap)∧(V.cell? ⟨F,0,none⟩=some (.int .i64 0)∧V.cell? ⟨F,1,none⟩=some (.int .i64 0))∧V.frozen? ⟨F,0,none⟩=false∧V.frozen? ⟨F,1,none⟩=false):=fun V hV =>
  ⟨tC2 (keep (keep hX0 hXY) hV),cell_of_row _ _ 0 _ _ _ (keep (keep hX1 hXY) hV),tC2 (keep hYF hV),frozen_of_row _ _ _ _ _ (keep hYF hV),frozen_of_row _ _ _ _ _ (keep hYF hV)⟩
 have HH:Hid (∀V,Bl Y V→V.heap[F]?=some (.cells #[.int .i64 0,.int .i64 0] 32)∧Bl w V∧w.heap.size≤F):=fun V hV=>⟨keep hYF hV,hYB.trans (hV.mono hYB.size),by omega⟩
 have HW:Hid (Calls Tryz.prog 29 #[.agg #[.slice n.bao n.K n.bcap,.slice n.lao n.L n.lcap]] Y fun e w'=>e=.returned (.agg #[.int .i64 n.wrong.1,.int .i64 n.wrong.2])∧Hid (Bl Y w')):=(pwrong_any n Y (hat.below hYB) hwf).mono (fun e w' h=>⟨h.1,h.2⟩);have HFT:Hid (n.wrong.1=0→∀W,Bl Y W→Calls Tryz.prog 60 #[.agg #[.slice oao t.length ocap],.agg #[.slice n.bao n.K n.bcap,.slice n.lao n.L n.lcap]] W fun e w'=>e=.returned (.bool (fitT n t))∧Hid (Bl Y w')):=fun h0 W hW=>by
  have R:=right_of hwf h0;have hW2:=hYB.trans (hW.mono hYB.size);exact(tfits_any n oao ocap t W R.few R.fewL R.links (hat.below hW2) (ht.below hW2)).mono (fun e w' h=>⟨h.1,hW.trans (h.2.mono hW.size)⟩)
 have HBA:Hid (∀V o,Bl Y V→Bl Y (V.alloc o)):=fun V o hV=>hV.trans ((bA1 V o).mono hV.size);clear hat ht hwf hXB hX0 hX1 hXs hFX hXY hYF hYB;simp only[Pl.Net.val];go_enter Tryz.func39,Tryz.ntmps39;(go_wp2_with fail);rw[←HX.out,←HY.out,←HF.out];refine HW.out.mono ?_;rintro e w1 ⟨rfl,H1⟩;obtain⟨V1,HV1⟩:∃V1,Hid (V1=w1.alloc (.cells #[.int .i64 n.wrong.1,.int .i64 n.wrong.2] 32)):=⟨_,rfl⟩
 have H2:Hid (Bl Y V1):=(by rw[HV1.out];exact HBA.out _ _ H1.out)
 obtain⟨⟨p0,p1⟩,p2,⟨p3,p4⟩,p5,p6⟩:=HC.out V1 H2.out;have p7:V1.cell? ⟨w1.heap.size,0,none⟩=some (.int .i64 n.wrong.1)∧V1.cell? ⟨w1.heap.size,1,none⟩=some (.int .i64 n.wrong.2):=tC2 (by rw[HV1.out];exact heap_alloc_last _ _);obtain⟨p7,p8⟩:=p7;clear n0 n1 n2 m0 m1 m2 HW;by_cases q:n.wrong.1=0
 ·have HF2:Hid (Calls Tryz.prog 60 #[.agg #[.slice oao t.length ocap],.agg #[.slice n.bao n.K n.bcap,.slice n.lao n.L n.lcap]] V1 fun e w'=>e=.returned (.bool (fitT n t))∧Hid (Bl Y w')):=HFT.out q V1 H2.out;have HR:Hid (wrT n t dn=if fitT n t=false then(8,0) else if 30<dn then(5,0) else(0,0)):=if_neg (fun h=>h q);rw[HV1.out] at p0 p1 p2 p3 p4 p5 p6 p7 p8;clear HFT;generalize n.wrong.1=r1 at *;generalize n.wrong.2=r2 at *;subst q;(go_wp2_with fail);rw[←HV1.out];refine HF2.out.mono ?_;rintro e w3 ⟨rfl,H3⟩;clear p0 p1 p2 p3 p4 p5 p6 p7 p8 HF2;obtain⟨_,_,⟨p3,p4⟩,p5,p6⟩:=HC.out w3 H3.out;cases hf:fitT n t with
  | false =>
   have HR2:Hid (ftA (wrT n t dn)=#[.int .i64 8,.int .i64 0]):=(by rw[HR.out,if_pos hf];exact rfl)
   clear HR hf;(go_wp2_with fail);exact bodyPost_ret (v:=.agg #[.int .i64 8,.int .i64 0]) (results_row (p:=6) (ty:=32) Tryz.results39 _ _ F 32 #[.int .i64 8,.int .i64 0] (0,0) _ rfl (set2_same (HH.out _ H3.out).1) Tryz.underlying32 rfl (by rw[sizeFt];rfl)) rfl ⟨by rw[HR2.out],((HH.out _ H3.out).2.1.setCell (HH.out _ H3.out).2.2 _).setCell (HH.out _ H3.out).2.2 _⟩
  | true =>
   by_cases hd:30<dn
   ·have HR2:Hid (ftA (wrT n t dn)=#[.int .i64 5,.int .i64 0]):=(by rw[HR.out,if_neg (by rw[hf];exact Bool.noConfusion),if_pos hd];exact rfl)
    have hd1:(30:Int)<(dn:Int):=(by omega)
    clear HR hf hd;(go_wp2_with fail);exact bodyPost_ret (v:=.agg #[.int .i64 5,.int .i64 0]) (results_row (p:=6) (ty:=32) Tryz.results39 _ _ F 32 #[.int .i64 5,.int .i64 0] (0,0) _ rfl (set2_same (HH.out _ H3.out).1) Tryz.underlying32 rfl (by rw[sizeFt];rfl)) rfl ⟨by rw[HR2.out],((HH.out _ H3.out).2.1.setCell (HH.out _ H3.out).2.2 _).setCell (HH.out _ H3.out).2.2 _⟩
   ·have HR2:Hid (ftA (wrT n t dn)=#[.int .i64 0,.int .i64 0]):=(by rw[HR.out,if_neg (by rw[hf];exact Bool.noConfusion),if_neg hd];exact rfl)
    have hd1:¬(30:Int)<(dn:Int):=(by omega)
    clear HR hf hd;(go_wp2_with fail);exact bodyPost_ret (v:=.agg #[.int .i64 0,.int .i64 0]) (results_row (p:=6) (ty:=32) Tryz.results39 _ _ F 32 #[.int .i64 0,.int .i64 0] (0,0) _ rfl (set2_same (HH.out _ H3.out).1) Tryz.underlying32 rfl (by rw[sizeFt];rfl)) rfl ⟨by rw[HR2.out],((HH.out _ H3.out).2.1.setCell (HH.out _ H3.out).2.2 _).setCell (HH.out _ H3.out).2.2 _⟩
 ·have HR:Hid (wrT n t dn=n.wrong):=if_pos q;have q1:(n.wrong.1 != 0)=true:=(by simpa using q)
  rw[HV1.out] at p0 p1 p2 p3 p4 p5 p6 p7 p8;clear HFT;have HR2:Hid (ftA (wrT n t dn)=#[.int .i64 n.wrong.1,.int .i64 n.wrong.2]):=(by rw[HR.out];exact rfl)
  (go_wp2_with fail);rw[←HV1.out];exact bodyPost_ret (v:=.agg #[.int .i64 n.wrong.1,.int .i64 n.wrong.2]) (results_row (p:=6) (ty:=32) Tryz.results39 _ _ F 32 #[.int .i64 n.wrong.1,.int .i64 n.wrong.2] (0,0) _ rfl (set2_same (HH.out _ H2.out).1) Tryz.underlying32 rfl (by rw[sizeFt];rfl)) rfl ⟨by rw[HR2.out],((HH.out _ H2.out).2.1.setCell (HH.out _ H2.out).2.2 _).setCell (HH.out _ H2.out).2.2 _⟩
end
section
open Go.RowKit
open Pl (Br Net Pc Lk En)
theorem wrong_iff (n:Net):n.wrong.1=0↔¬(12<n.K∨40<n.L)∧(∀i,i<n.K→Pl.bErr n.bs i=0)∧∀i,i<n.L→Pl.lErr n.K n.ls i=0:=by
 unfold Pl.Net.wrong;by_cases c1:12<n.K∨40<n.L
 ·rw[if_pos c1];exact⟨fun h=>(by cases h),fun h=>absurd c1 h.1⟩
 ·rw[if_neg c1];by_cases c2:(Pl.firstTo (Pl.bErr n.bs) n.K).1=0
  ·rw[if_neg (fun q=>q c2)];have hb:=(Pl.firstTo_zero _ _ c2).2;exact⟨fun h=>⟨c1,hb,(Pl.firstTo_zero _ _ h).2⟩,fun h=>by rw[Pl.firstTo_all _ _ h.2.2]⟩
  ·rw[if_pos c2];exact⟨fun h=>absurd h c2,fun h=>absurd (by rw[Pl.firstTo_all _ _ h.2.1]) c2⟩
end
end Go.Proofs.YtaneiffnhphkhaaGreatDoor
