/- walks: package plan's Roles -/
import Derived.Test.YtflghpnpjmodaaaGreatDoorT12
import Derived.Test.YtflghpnpjmodaaaGreatDoorT06
import Derived.Test.YtflghpnpjmodaaaGreatDoorT07
import Derived.Deep.RegionHeld3
set_option maxRecDepth 100000
set_option maxHeartbeats 6000000
namespace Go.Proofs.YtflghpnpjmodaaaGreatDoor
section
open Go.RowKit
open Vc (V Of)
open Pl (Br Net Pc Lk En St)
def ptsRaw (ls:Nat→Lk) (i:Nat):Nat→List Int
 | 0=>[]
 | k+1=>ptsRaw ls i k++((if (ls k).a=(i:Int) then [(ls k).pa] else [])++if (ls k).b=(i:Int) then [(ls k).pb] else [])
theorem ptsRaw_ends (ls:Nat→Lk) (lv:Nat→Bool) (i:Nat):∀k,ptsRaw ls i k=(Pl.endsTo ls lv i k).map (·.port)
 | 0=>rfl
 | k+1=>by
  simp only[ptsRaw,Pl.endsTo,List.map_append];rw[ptsRaw_ends ls lv i k];congr 1
  unfold Pl.endsAt;rw[List.map_append];congr 1
  ·split<;>rfl
  ·split<;>rfl
theorem ptsRaw_few (ls:Nat→Lk) (i:Nat):∀k,(ptsRaw ls i k).length≤2*k
 | 0=>by simp[ptsRaw]
 | k+1=>by
  have:=ptsRaw_few ls i k;simp only[ptsRaw,List.length_append];split<;>split<;>simp<;>omega
theorem ports_sorted {K L:Nat}{ls:Nat→Lk}(R:Pl.RightL K L ls) (lv:Nat→Bool) (i:Nat):(ptsRaw ls i L).mergeSort (fun x y=>decide (x≤y))=(Pl.ends ls lv L i).map (·.port):=by
 have p1:((ptsRaw ls i L).mergeSort (fun x y=>decide (x≤y))).Perm (ptsRaw ls i L):=List.mergeSort_perm _ _;have p2:=(Pl.ends_perm ls lv L i).map (fun e:En=>e.port);rw[←ptsRaw_ends ls lv i L] at p2;refine(p1.trans p2.symm).eq_of_pairwise (le:=fun a b:Int=>a≤b) (fun a b _ _ h1 h2=>by omega) ?_ ?_
 ·have:=List.pairwise_mergeSort (le:=fun x y:Int=>decide (x≤y)) (fun a b c h1 h2=>by simp at *;omega) (fun a b=>by simp;omega) (ptsRaw ls i L);exact this.imp (fun {a b} h=>by simpa using h)
 ·exact(List.pairwise_map.2 (Pl.ends_sorted R lv i)).imp (fun {a b} h=>by omega)
theorem pports_own (lao:Option Addr) (K L lcap:Nat) (ls:Nat→Lk) (lv:Nat→Bool) (i:Nat) (w:World) (hL:L≤40) (hlk:LRow w lao L lcap ls) (R:Pl.RightL K L ls) :
  Calls Tryz.prog 35 #[.slice lao L lcap,.int .i64 i] w fun e w'=>∃ao cap,e=.returned (.slice ao ((Pl.ends ls lv L i).map (·.port)).length cap)∧IRow w' ao ((Pl.ends ls lv L i).map (·.port)).length cap (IL ((Pl.ends ls lv L i).map (·.port)))∧Bl w w'∧(∀ad,ao=some ad→w.heap.size≤ad.block)∧w'.ownsRow w.heap.size 3 1 (.slice ao ((Pl.ends ls lv L i).map (·.port)).length cap) ((Pl.ends ls lv L i).map (·.port)).length (intCells ((Pl.ends ls lv L i).map (·.port))):=by
 rw[←ports_sorted R lv i];have HRW:Hid (∀W,Bl w W→LRow W lao L lcap ls):=fun W hW=>CRow.below hlk hW;have hcap:=hlk.1;have HNE:Hid (∀k,k<L→¬((ls k).a=(i:Int)∧(ls k).b=(i:Int))):=fun k hk h=>(R.ok k hk).2.2.1 (h.1.trans h.2.symm);clear hlk R;have H0:Hid (w.ownsRow w.heap.size 3 1 (.slice none (ptsRaw ls i 0).length 0) (ptsRaw ls i 0).length (intCells (ptsRaw ls i 0))∧Bl w w):=⟨ownsC_nil _ _ _ _ _,Below.refl _ _⟩
 go_enter Tryz.func35,Tryz.ntmps35;(go_wp2_with fail);go_loopw [5,10] (fun s5 q wr=>∃(k:Nat) (ao:Option Addr) (cap:Nat),k≤L∧q=.int .i64 k∧s5=.slice ao (ptsRaw ls i k).length cap∧Hid (wr.ownsRow w.heap.size 3 1 (.slice ao (ptsRaw ls i k).length cap) (ptsRaw ls i k).length (intCells (ptsRaw ls i k))∧Bl w wr)) (fun _ q _=>L-(intOf q).toNat)
 case atStart=>exact⟨0,none,0,by omega,rfl,rfl,H0⟩
 case round =>
  obtain⟨k,ao,cap,hk,rfl,rfl,hX⟩:=hrel;clear H0;by_cases hlt:k<L
  ·obtain⟨hO,hB⟩:=hX.out;have f1:=HRW.out wr hB;obtain⟨lb,loff,rfl,_⟩:=CRow.some f1 (by omega);obtain⟨c0,c1,c2,c3,c4,c5⟩:=LRow.cells f1 hlt;have hfew:=ptsRaw_few ls i k;have hnext:ptsRaw ls i (k+1)=ptsRaw ls i k++((if (ls k).a=(i:Int) then [(ls k).pa] else [])++if (ls k).b=(i:Int) then [(ls k).pb] else []):=rfl;have hne:=HNE.out k hlt;have i0:(0:Int)≤(k:Int):=(by omega)
   have i1:(k:Int)<(L:Int):=(by omega)
   generalize ls k=l at *;obtain⟨a,pa,b,pb,c,up⟩:=l;simp only at c0 c1 c2 c3 c4 c5 hnext hne;obtain⟨X,HX⟩:∃X,Hid (X=wr.alloc (.cells #[.int .i64 a,.int .i64 pa,.int .i64 b,.int .i64 pb,.int .i64 c,.bool up] 83)):=⟨_,rfl⟩
   have hXB:Bl wr X:=(by rw[HX.out];exact bA1 _ _)
   have hXs2:X.heap.size=wr.heap.size+1:=(by rw[HX.out];simp)
   have hXs:w.heap.size≤X.heap.size:=Nat.le_trans hB.size hXB.size;have HOX:Hid (X.ownsRow w.heap.size 3 1 (.slice ao (ptsRaw ls i k).length cap) (ptsRaw ls i k).length (intCells (ptsRaw ls i k))):=ownsC_below hO hXB;have HBX:Hid (Bl w X):=hB.trans (hXB.mono hB.size);have hXe:X.heap[wr.heap.size]?=some (.cells #[.int .i64 a,.int .i64 pa,.int .i64 b,.int .i64 pb,.int .i64 c,.bool up] 83):=(by rw[HX.out];exact heap_alloc_last _ _)
   obtain⟨q0,q1,q2,q3,_,_⟩:=lk_cells hXe;by_cases ha:a=(i:Int)
   ·have hb:¬b=(i:Int):=fun h=>hne ⟨ha,h⟩;rw[if_pos ha,if_neg hb,List.append_nil] at hnext;obtain⟨a1,c1',w2,r,ho2,hk2,_,hb2,_⟩:=int_more2 HOX.out hXs (by omega) pa (Below.refl _ _) rfl;have hw2:w2.heap[wr.heap.size]?=some (.cells #[.int .i64 a,.int .i64 pa,.int .i64 b,.int .i64 pb,.int .i64 c,.bool up] 83):=(hk2 _ (by rw[hXs2];omega) (fun p=>by have:=(oCb hO _ p).2;omega)).trans hXe;obtain⟨_,_,p2,_,_,_⟩:=lk_cells hw2;have HN:Hid (w2.ownsRow w.heap.size 3 1 (.slice a1 (ptsRaw ls i (k+1)).length c1') (ptsRaw ls i (k+1)).length (intCells (ptsRaw ls i (k+1)))∧Bl w w2):=by
     rw[hnext];exact⟨ho2,HBX.out.trans hb2⟩
    have HR2:Hid _:=r;have HLE:Hid ((ptsRaw ls i (k+1)).length=(ptsRaw ls i k++[pa]).length):=by show _=_;rw[hnext]
    rw[hXs2] at HR2;have e2:(b == (i:Int))=false:=(by simp[hb])
    clear hne;subst ha;clear r ho2 hk2 hb2 hw2 hO hB hX f1 hnext HRW HNE HOX HBX hXe hXB hXs q0 q1 q2 q3 hXs2;go_wp2_with (at_builtin;(try rw[←HX.out]);refine wpList_append_run rfl (.tmp 18) (.tmp 21) 37 rfl _ _ _ rfl rfl HR2.out ?_)
    exact⟨⟨k+1,a1,c1',by omega,by go_num,by rw[HLE.out,List.length_append];rfl,HN⟩,by simp[intOf];omega⟩
   ·rw[if_neg ha,List.nil_append] at hnext;have e1:(a == (i:Int))=false:=(by simp[ha])
    by_cases hb:b=(i:Int)
    ·rw[if_pos hb] at hnext;obtain⟨a1,c1',w2,r,ho2,hk2,_,hb2,_⟩:=int_more2 HOX.out hXs (by omega) pb (Below.refl _ _) rfl;have HN:Hid (w2.ownsRow w.heap.size 3 1 (.slice a1 (ptsRaw ls i (k+1)).length c1') (ptsRaw ls i (k+1)).length (intCells (ptsRaw ls i (k+1)))∧Bl w w2):=by
      rw[hnext];exact⟨ho2,HBX.out.trans hb2⟩
     have HR2:Hid _:=r;have HLE:Hid ((ptsRaw ls i (k+1)).length=(ptsRaw ls i k++[pb]).length):=by show _=_;rw[hnext]
     rw[hXs2] at HR2;clear hne;subst hb;clear r ho2 hk2 hb2 hO hB hX f1 hnext HRW HNE HOX HBX hXe hXB hXs q0 q1 q2 q3 hXs2;go_wp2_with (at_builtin;(try rw[←HX.out]);refine wpList_append_run rfl (.tmp 27) (.tmp 30) 37 rfl _ _ _ rfl rfl HR2.out ?_)
     exact⟨⟨k+1,a1,c1',by omega,by go_num,by rw[HLE.out,List.length_append];rfl,HN⟩,by simp[intOf];omega⟩
    ·rw[if_neg hb,List.append_nil] at hnext;have e2:(b == (i:Int))=false:=(by simp[hb])
     have HN:Hid (X.ownsRow w.heap.size 3 1 (.slice ao (ptsRaw ls i (k+1)).length cap) (ptsRaw ls i (k+1)).length (intCells (ptsRaw ls i (k+1)))∧Bl w X):=by
      rw[hnext];exact⟨HOX.out,HBX.out⟩
     have HLE:Hid ((ptsRaw ls i (k+1)).length=(ptsRaw ls i k).length):=by show _=_;rw[hnext]
     rw[HX.out] at HN;clear hO hB hX f1 hnext hne HRW HNE HOX HBX hXe hXB hXs q0 q1 q2 q3 hXs2;(go_wp2_with fail);exact⟨⟨k+1,ao,cap,by omega,by go_num,by rw[HLE.out],HN⟩,by simp[intOf];omega⟩
  ·obtain rfl:k=L:=by omega
   obtain⟨hO,hB⟩:=hX.out;have hfew:=ptsRaw_few ls i k;have HSO:Hid (Calls Tryz.prog 75 #[.slice ao (ptsRaw ls i k).length cap] wr fun e w'=>e=.returned (.tuple #[])∧Hid (w'.ownsRow w.heap.size 3 1 (.slice ao (ptsRaw ls i k).length cap) ((ptsRaw ls i k).mergeSort fun x y=>decide (x≤y)).length (intCells ((ptsRaw ls i k).mergeSort fun x y=>decide (x≤y)))∧Bl w w')):=by
    refine(isort_any w.heap.size _ (ptsRaw ls i k) wr (by omega) hO).mono ?_;rintro e w' ⟨rfl,z1,z2⟩;exact⟨rfl,z1,hB.grown z2 hB.size (fun q hq=>(oCb hO q hq).1)⟩
   clear hX hO hB HRW HNE;(go_wp2_with fail);refine HSO.out.mono ?_;rintro e w2 ⟨rfl,HN⟩;clear HSO;obtain⟨ao',cap',ev,z1,z3⟩:=IL_row HN.out.1;injection ev with ev1 ev2 ev3;subst ev1;subst ev3;have HZ1:Hid (IRow w2 ao ((ptsRaw ls i k).mergeSort fun x y=>decide (x≤y)).length cap (IL ((ptsRaw ls i k).mergeSort fun x y=>decide (x≤y)))):=z1;have HZ3:Hid (∀ad,ao=some ad→w.heap.size≤ad.block):=z3;have HOW:Hid (w2.ownsRow w.heap.size 3 1 (.slice ao ((ptsRaw ls i k).mergeSort fun x y=>decide (x≤y)).length cap) ((ptsRaw ls i k).mergeSort fun x y=>decide (x≤y)).length (intCells ((ptsRaw ls i k).mergeSort fun x y=>decide (x≤y)))):=by
    have:=HN.out.1;rw[ev2] at this;exact this
   have HEV:Hid ((ptsRaw ls i k).length=((ptsRaw ls i k).mergeSort fun x y=>decide (x≤y)).length):=ev2;clear z1 z3 ev2;(go_wp2_with fail);go_ret;exact⟨ao,cap,congrArg (fun n=>Ending.returned (Value.slice ao n cap)) HEV.out,HZ1.out,HN.out.2,HZ3.out,HOW.out⟩
theorem pports_any (lao:Option Addr) (K L lcap:Nat) (ls:Nat→Lk) (lv:Nat→Bool) (i:Nat) (w:World) (hL:L≤40) (hlk:LRow w lao L lcap ls) (R:Pl.RightL K L ls) :
  Calls Tryz.prog 35 #[.slice lao L lcap,.int .i64 i] w fun e w'=>∃ao cap,e=.returned (.slice ao ((Pl.ends ls lv L i).map (·.port)).length cap)∧IRow w' ao ((Pl.ends ls lv L i).map (·.port)).length cap (IL ((Pl.ends ls lv L i).map (·.port)))∧Bl w w'∧∀ad,ao=some ad→w.heap.size≤ad.block:=by
 exact(pports_own lao K L lcap ls lv i w hL hlk R).mono (fun e w' ⟨ao,cap,h1,h2,h3,h4,_⟩=>⟨ao,cap,h1,h2,h3,h4⟩)
end
section
open Go.RowKit
open Vc (V Of)
theorem vrole_any (s:V) (root port:Int) (ao:Option Addr) (n cap:Nat) (os:Nat→Of) (w:World) (hn:n≤9223372036854775807) (hr:ORow w ao n cap os) :
  Calls Tryz.prog 76 #[.agg #[.int .u64 s.root,.int .i64 s.cost,.int .u64 s.bridge,.int .i64 s.port],.int .i64 root,.int .i64 port,.slice ao n cap] w fun e w'=>e=.returned (.int .i64 (Vc.role s root port os n))∧Bl w w':=by
 have HR:Hid (ORow w ao n cap os):=hr;clear hr;unfold Vc.role;by_cases h0:port=root
 ·rw[if_pos h0];subst h0;go_enter Tryz.func76,Tryz.ntmps76;(go_wp2_with fail);go_ret;exact⟨rfl,bA1 _ _⟩
 ·rw[if_neg h0];obtain⟨R,hR⟩:∃R:Int,(if Vc.someTo (fun i=>decide (Vc.hears s port (os i))) n=true then(3:Int) else 2)=R:=⟨_,rfl⟩
  rw[hR];have HR3:Hid (Vc.someTo (fun i=>decide (Vc.hears s port (os i))) n=true→R=3):=fun h=>by rw[←hR,if_pos h]
  have HR2:Hid (Vc.someTo (fun i=>decide (Vc.hears s port (os i))) n=false→R=2):=fun h=>by rw[←hR,h];rfl
  clear hR;have d0:(port == root)=false:=(by simp[h0])
  have HBT:Hid (∀(a b:V) (W:World),Calls Tryz.prog 119 #[.agg #[.int .u64 a.root,.int .i64 a.cost,.int .u64 a.bridge,.int .i64 a.port],.agg #[.int .u64 b.root,.int .i64 b.cost,.int .u64 b.bridge,.int .i64 b.port]] W fun e w'=>e=.returned (.bool (decide (Vc.lt a b)))∧Bl W w'):=fun a b W=>vbetter_any a b W;have HH:Hid (∀o,decide (Vc.hears s port o)=decide (o.port=port∧(0≤o.age∧o.age≤20)∧Vc.lt o.vec ⟨s.root,s.cost,s.bridge,port⟩)):=fun o=>rfl;go_enter Tryz.func76,Tryz.ntmps76;(go_wp2_with fail);go_loopw [18] (fun i wr=>∃k:Nat,k≤n∧i=.int .i64 k∧Hid (Vc.someTo (fun i=>decide (Vc.hears s port (os i))) k=false)∧Hid (wr.heap[w.heap.size]?=some (.cells #[.int .u64 s.root,.int .i64 s.cost,.int .u64 s.bridge,.int .i64 port] 36)∧Bl w wr)) (fun i _=>n-(intOf i).toNat)
  case atStart=>exact⟨0,by omega,rfl,rfl,heap_alloc_last w _,bA1 _ _⟩
  case round =>
   obtain⟨k,hk,rfl,hS,hX⟩:=hrel;by_cases hlt:k<n
   ·obtain⟨b,off,rfl,hb⟩:=CRow.some HR.out (by omega);have hcap:=HR.out.1;obtain⟨c0,c1,c2,c3,c4,c5,c6⟩:=ORow.cells (CRow.other HR.out (w':=wr) (fun q _ _ hq=>hX.out.2.block q hq) hX.out.2.size) hlt;obtain⟨v0,v1,v2,v3⟩:=vc_cells hX.out.1;have HNO:Hid (decide (Vc.hears s port (os k))=false→Vc.someTo (fun i=>decide (Vc.hears s port (os i))) (k+1)=false):=fun h=>by
     show(Vc.someTo _ k||decide (Vc.hears s port (os k)))=false;rw[h,hS.out];rfl
    have HYES:Hid (decide (Vc.hears s port (os k))=true→Vc.someTo (fun i=>decide (Vc.hears s port (os i))) n=true):=fun h=>someTo_stay _ k h n hlt;rw[HH.out] at HNO HYES;have HX2:Hid (∀o,(wr.alloc o).heap[w.heap.size]?=some (.cells #[.int .u64 s.root,.int .i64 s.cost,.int .u64 s.bridge,.int .i64 port] 36)∧Bl w (wr.alloc o)):=fun o=>⟨keep hX.out.1 (bA1 _ _),hX.out.2.alloc hX.out.2.size _⟩
    have u0:∀o,(wr.alloc o).cell? ⟨w.heap.size,0,none⟩=some (.int .u64 s.root):=fun o=>(vc_cells (HX2.out o).1).1;have u1:∀o,(wr.alloc o).cell? ⟨w.heap.size,1,none⟩=some (.int .i64 s.cost):=fun o=>(vc_cells (HX2.out o).1).2.1;have u2:∀o,(wr.alloc o).cell? ⟨w.heap.size,2,none⟩=some (.int .u64 s.bridge):=fun o=>(vc_cells (HX2.out o).1).2.2.1;have u3:∀o,(wr.alloc o).cell? ⟨w.heap.size,3,none⟩=some (.int .i64 port):=fun o=>(vc_cells (HX2.out o).1).2.2.2;clear hX hS hb HH HR;generalize os k=o at *;obtain⟨op,oc,oa,⟨vr,vc,vb,vp⟩⟩:=o;simp only at c0 c1 c2 c3 c4 c5 c6 HNO HYES;have HWI:Hid (∀W,Calls Tryz.prog 32 #[.int .i64 oa,.int .i64 0,.int .i64 20] W fun e w'=>e=.returned (.bool (decide (0≤oa∧oa≤20)))∧w'=W):=fun W=>vwithin_any oa 0 20 W;by_cases p1:op=port
    ·have e1:(op == port)=true:=(by simp[p1])
     by_cases p2:0≤oa∧oa≤20
     ·rw[decide_eq_true p2] at HWI;have HB1:Hid (∀W,Calls Tryz.prog 119 #[.agg #[.int .u64 vr,.int .i64 vc,.int .u64 vb,.int .i64 vp],.agg #[.int .u64 s.root,.int .i64 s.cost,.int .u64 s.bridge,.int .i64 port]] W fun e w'=>e=.returned (.bool (decide (Vc.lt ⟨vr,vc,vb,vp⟩ ⟨s.root,s.cost,s.bridge,port⟩)))∧Bl W w'):=fun W=>HBT.out ⟨vr,vc,vb,vp⟩ ⟨s.root,s.cost,s.bridge,port⟩ W;by_cases p4:Vc.lt ⟨vr,vc,vb,vp⟩ ⟨s.root,s.cost,s.bridge,port⟩
      ·have HF:Hid (Vc.someTo (fun i=>decide (Vc.hears s port (os i))) n=true):=HYES.out (decide_eq_true ⟨p1,p2,p4⟩);rw[decide_eq_true p4] at HB1;clear p4 HNO HYES p1 p2;(go_wp2_with fail);refine(HWI.out _).mono ?_;rintro e w2 ⟨rfl,rfl⟩;(go_wp2_with fail);refine(HB1.out _).mono ?_;rintro e w2 ⟨rfl,hb2⟩;have HB2:Hid (Bl w w2):=(HX2.out _).2.trans (hb2.mono (HX2.out _).2.size);clear hb2;(go_wp2_with fail);go_ret;exact⟨by rw[HR3.out HF.out];rfl,HB2.out⟩
      ·have HF:Hid (Vc.someTo (fun i=>decide (Vc.hears s port (os i))) (k+1)=false):=HNO.out (decide_eq_false (fun q=>p4 q.2.2));rw[decide_eq_false p4] at HB1;clear p4 HNO HYES p1 p2;(go_wp2_with fail);refine(HWI.out _).mono ?_;rintro e w2 ⟨rfl,rfl⟩;(go_wp2_with fail);refine(HB1.out _).mono ?_;rintro e w2 ⟨rfl,hb2⟩;have HB2:Hid (w2.heap[w.heap.size]?=some (.cells #[.int .u64 s.root,.int .i64 s.cost,.int .u64 s.bridge,.int .i64 port] 36)∧Bl w w2):=⟨keep (HX2.out _).1 hb2,(HX2.out _).2.trans (hb2.mono (HX2.out _).2.size)⟩
       clear hb2;(go_wp2_with fail);exact⟨⟨k+1,by omega,by go_num,HF,HB2⟩,by simp[intOf];omega⟩
     ·have HF:Hid (Vc.someTo (fun i=>decide (Vc.hears s port (os i))) (k+1)=false):=HNO.out (decide_eq_false (fun q=>p2 q.2.1));rw[decide_eq_false p2] at HWI;clear HNO HYES p1 p2;(go_wp2_with fail);refine(HWI.out _).mono ?_;rintro e w2 ⟨rfl,rfl⟩;(go_wp2_with fail);exact⟨⟨k+1,by omega,by go_num,HF,HX2.out _⟩,by simp[intOf];omega⟩
    ·have e1:(op == port)=false:=(by simp[p1])
     have HF:Hid (Vc.someTo (fun i=>decide (Vc.hears s port (os i))) (k+1)=false):=HNO.out (decide_eq_false (fun q=>p1 q.1));clear HNO HYES p1;(go_wp2_with fail);exact⟨⟨k+1,by omega,by go_num,HF,HX2.out _⟩,by simp[intOf];omega⟩
   ·obtain rfl:k=n:=by omega
    (go_wp2_with fail);go_ret;exact⟨by rw[HR2.out hS.out];rfl,hX.out.2⟩
end
section
open Go.RowKit
open Vc (V Of)
open Pl (Br Net Pc Lk En St)
def enA (e:En):Array Value:=#[.int .i64 e.port,.int .i64 e.cost,.int .i64 e.other,.int .i64 e.oport,.bool e.live]
def rlF (m:Tk.Md) (os:List Of) (es:List En) (k j:Nat):Int:=if j<k then Tk.roleM m os (EL es j) else 0
def RlAt (W:World) (g n:Nat) (f:Nat→Int):Prop:=W.heap[g]?=some (.cells (rowC n 1 (fun j _=>.int .i64 (f j))) 3)
theorem RlAt.set {W:World}{g n:Nat}{f:Nat→Int}(h:RlAt W g n f) {i:Nat}(hi:i<n) (z:Int):RlAt (W.setCell ⟨g,i,none⟩ (.int .i64 z)) g n (fun j=>if j=i then z else f j):=by
 have h0:=rowC_set h hi (show 0<1 by omega) (.int .i64 z);rw[show i*1+0=i by omega] at h0;unfold RlAt;rw[h0,rC2 (d:=fun j _=>.int .i64 (if j=i then z else f j)) (fun j _ m hm => ?_)];unfold updC;by_cases q:j=i
 ·subst q;simp;omega
 ·simp[q]
theorem RlAt.congr {W:World}{g n:Nat}{f h:Nat→Int}(hr:RlAt W g n f) (e:∀i,i<n→f i=h i):RlAt W g n h:=by
 unfold RlAt at hr ⊢;rw[hr,rowC_congr (d:=fun j _=>.int .i64 (h j)) (fun i hi=>by rw[e i hi])]
theorem RlAt.cell {W:World}{g n:Nat}{f:Nat→Int}(h:RlAt W g n f) {i:Nat}(hi:i<n):W.cell? ⟨g,i,none⟩=some (.int .i64 (f i))∧W.frozen? ⟨g,i,none⟩=false:=by
 have e:(⟨g,i,none⟩:Addr)=⟨g,i*1+0,none⟩:=(by simp)
 refine⟨?_,frozen_of_row _ _ _ _ _ h⟩;rw[e];exact rowC_cell h hi (show 0<1 by omega)
theorem proles_any (m:Tk.Md) (es:List En) (eao:Option Addr) (ecap:Nat) (os:List Of) (oao:Option Addr) (ocap:Nat) (w:World) (hlen:es.length≤1000) (hol:os.length≤1000) (hr:ERow w eao es.length ecap (EL es)) (ho:ORow w oao os.length ocap (Pl.lf os)) :
  Calls Tryz.prog 36 #[.slice eao es.length ecap,.agg #[.int .u64 m.v.root,.int .i64 m.v.cost,.int .u64 m.v.bridge,.int .i64 m.v.port],.int .i64 m.rp,.slice oao os.length ocap] w fun e w'=>∃G,e=.returned (.slice (some ⟨G,0,none⟩) es.length es.length)∧RlAt w' G es.length (fun j=>Tk.roleM m os (EL es j))∧Bl w w'∧w.heap.size≤G:=by
 obtain⟨X,HX⟩:∃X,Hid (X=w.alloc (.cells #[.int .u64 m.v.root,.int .i64 m.v.cost,.int .u64 m.v.bridge,.int .i64 m.v.port] 36)):=⟨_,rfl⟩
 have hXB:Bl w X:=(by rw[HX.out];exact bA1 _ _)
 have hXv:X.heap[w.heap.size]?=some (.cells #[.int .u64 m.v.root,.int .i64 m.v.cost,.int .u64 m.v.bridge,.int .i64 m.v.port] 36):=(by rw[HX.out];exact heap_alloc_last _ _)
 have hXs:X.heap.size=w.heap.size+1:=(by rw[HX.out];simp)
 have hcap:=hr.1;have hmk:∀W:World,(Instr.makeSlice 37 (.int .i64 (es.length:Int)) (.int .i64 (es.length:Int))).run Tryz.prog W=.ok (.slice (some ⟨W.heap.size,0,none⟩) es.length es.length) (W.alloc (.cells (rowC es.length 1 (fun j _=>.int .i64 (rlF m os es 0 j))) 3)):=fun W=>make_rowD W 37 3 _ 1 8 es.length Tryz.underlying37 infoI (by omega) rfl (by omega) (by omega) _ (fun _ j hj=>by rw[show j=0 by omega];rfl);have HRW:Hid (∀W,Bl X W→ERow W eao es.length ecap (EL es)∧ORow W oao os.length ocap (Pl.lf os)∧W.heap[w.heap.size]?=some (.cells #[.int .u64 m.v.root,.int .i64 m.v.cost,.int .u64 m.v.bridge,.int .i64 m.v.port] 36)∧Bl w W):=fun W hW=>by
  have h1:=hXB.trans (hW.mono hXB.size);exact⟨CRow.below hr h1,CRow.below ho h1,keep hXv hW,h1⟩
 obtain⟨G,HG⟩:∃G,Hid (G=X.heap.size):=⟨_,rfl⟩
 have H0:Hid (RlAt (X.alloc (.cells (rowC es.length 1 (fun j _=>.int .i64 (rlF m os es 0 j))) 3)) G es.length (rlF m os es 0)∧Bl X (X.alloc (.cells (rowC es.length 1 (fun j _=>.int .i64 (rlF m os es 0 j))) 3))):=by
  rw[HG.out];exact⟨heap_alloc_last _ _,bA1 _ _⟩
 have HXS:Hid (w.heap.size+1=G):=(by rw[HG.out];exact hXs.symm)
 have HGX:Hid (X.heap.size≤G):=(by rw[HG.out];exact Nat.le_refl _)
 clear hr ho hXv hXB hXs;go_enter Tryz.func36,Tryz.ntmps36;(go_wp2_with fail);rw[←HX.out];rw[HXS.out];obtain⟨S,HS⟩:∃S,Hid (S=w.heap.size):=⟨_,rfl⟩
 rw[←HS.out];go_loopw [17] (fun q wr=>∃k:Nat,k≤es.length∧q=.int .i64 k∧Hid (RlAt wr G es.length (rlF m os es k)∧Bl X wr)) (fun q _=>es.length-(intOf q).toNat)
 case atStart=>exact⟨0,by omega,rfl,H0⟩
 case round =>
  obtain⟨k,hk,rfl,hX⟩:=hrel;clear H0;by_cases hlt:k<es.length
  ·obtain⟨hR,hB⟩:=hX.out;obtain⟨f1,f2,f3,_⟩:=HRW.out wr hB;obtain⟨eb,eoff,rfl,_⟩:=CRow.some f1 (by omega);obtain⟨c0,c1,c2,c3,c4⟩:=ERow.cells f1 hlt;obtain⟨Y,HY⟩:∃Y,Hid (Y=wr.alloc (.cells (enA (EL es k)) 153)):=⟨_,rfl⟩
   have hYB:Bl wr Y:=(by rw[HY.out];exact bA1 _ _)
   have hYe:Y.heap[wr.heap.size]?=some (.cells (enA (EL es k)) 153):=(by rw[HY.out];exact heap_alloc_last _ _)
   have hRY:RlAt Y G es.length (rlF m os es k):=keep hR hYB;have hBY:Bl X Y:=hB.trans (hYB.mono hB.size);have hGl:G<wr.heap.size:=(gSm.1 hR).1;have hSG:S≠G:=(by rw[HS.out,←HXS.out];omega)
   obtain⟨g0,g1⟩:=hRY.cell hlt;have hk0:rlF m os es k k=0:=(by unfold rlF;rw[if_neg (Nat.lt_irrefl _)])
   rw[hk0] at g0;have hR0:RlAt (Y.setCell ⟨G,k,none⟩ (.int .i64 0)) G es.length (rlF m os es k):=(hRY.set hlt 0).congr (fun j _=>by
    by_cases q:j=k
    ·rw[if_pos q,q,hk0]
    ·rw[if_neg q])
   have hBW:Bl Y (Y.setCell ⟨G,k,none⟩ (.int .i64 0))∨True:=Or.inr trivial;have hB0:Bl X (Y.setCell ⟨G,k,none⟩ (.int .i64 0)):=hBY.setCell HGX.out _;obtain⟨Z,HZ⟩:∃Z,Hid (Z=Y.setCell ⟨G,k,none⟩ (.int .i64 0)):=⟨_,rfl⟩
   have hZe:Z.heap[wr.heap.size]?=some (.cells (enA (EL es k)) 153):=by
    rw[HZ.out];exact(heap_setCell_other _ _ _ _ (by show wr.heap.size≠G;omega)).trans hYe
   rw[←HZ.out] at hR0 hB0;have HNX:Hid (∀(W:World) (z:Int),Bl Z W→z=Tk.roleM m os (EL es k)→RlAt (W.setCell ⟨G,k,none⟩ (.int .i64 z)) G es.length (rlF m os es (k+1))∧Bl X (W.setCell ⟨G,k,none⟩ (.int .i64 z))):=fun W z hW hz=>by
    have h1:RlAt W G es.length (rlF m os es k):=keep hR0 hW;refine⟨(h1.set hlt z).congr (fun j _ => ?_),(hB0.trans (hW.mono hB0.size)).setCell HGX.out _⟩;unfold rlF;by_cases q:j=k
    ·rw[if_pos q,if_pos (by omega),q,hz]
    ·rw[if_neg q];by_cases q2:j<k
     ·rw[if_pos q2,if_pos (by omega)]
     ·rw[if_neg q2,if_neg (by omega)]
   have HNS:Hid (Tk.roleM m os (EL es k)=0→RlAt Z G es.length (rlF m os es (k+1))∧Bl X Z):=fun hz=>by
    refine⟨hR0.congr (fun j _ => ?_),hB0⟩;unfold rlF;by_cases q:j<k
    ·rw[if_pos q,if_pos (by omega)]
    ·rw[if_neg q];by_cases q2:j=k
     ·rw[if_pos (by omega),q2,hz]
     ·rw[if_neg (by omega)]
   have i0:(0:Int)≤(k:Int):=(by omega)
   have i1:(k:Int)<(es.length:Int):=(by omega)
   have hRV:Tk.roleM m os (EL es k)=if (EL es k).live=true then Vc.role m.v m.rp (EL es k).port (Pl.lf os) os.length else 0:=rfl
   have HRO:Hid (∀W,Bl X W→Calls Tryz.prog 76 #[.agg #[.int .u64 m.v.root,.int .i64 m.v.cost,.int .u64 m.v.bridge,.int .i64 m.v.port],.int .i64 m.rp,.int .i64 (EL es k).port,.slice oao os.length ocap] W fun e w'=>e=.returned (.int .i64 (Vc.role m.v m.rp (EL es k).port (Pl.lf os) os.length))∧Bl W w'):=fun W hW=>vrole_any m.v m.rp (EL es k).port oao os.length ocap (Pl.lf os) W (by omega) (HRW.out W hW).2.1;have HZV:Hid (∀W,Bl Z W→W.heap[S]?=some (.cells #[.int .u64 m.v.root,.int .i64 m.v.cost,.int .u64 m.v.bridge,.int .i64 m.v.port] 36)):=fun W hW=>by rw[HS.out];exact(HRW.out W (hB0.trans (hW.mono hB0.size))).2.2.1
   obtain⟨v0,v1,v2,v3⟩:=vc_cells (HZV.out Z (Below.refl _ _));obtain⟨y0,y1,y2,y3,y4⟩:=br_cells hZe;have HBZ:Hid (Bl X Z):=hB0;have HRC:Hid (∀W,Bl Z W→W.cell? ⟨G,k,none⟩=some (.int .i64 0)∧W.frozen? ⟨G,k,none⟩=false):=fun W hW=>by
    have h1:RlAt W G es.length (rlF m os es k):=keep hR0 hW;obtain⟨z0,z1⟩:=h1.cell hlt;rw[hk0] at z0;exact⟨z0,z1⟩
   clear hX hR hB f1 f2 f3 hYB hYe hRY hBY hGl hR0 hB0 hBW hZe hk0 HRW;generalize EL es k=e at *;obtain⟨port,cost,other,oport,live⟩:=e;simp only[enA] at *;rw[HY.out] at g0 g1;cases live with
   | false =>
    rw[if_neg (by decide)] at hRV;have HN:=HNS.out hRV;have HN2:Hid (RlAt Z G es.length (rlF m os es (k+1))∧Bl X Z):=HN;clear HN HNS HNX HRO HRC HZV;rw[HZ.out,HY.out] at y4;(go_wp2_with fail);rw[←HY.out,←HZ.out];exact⟨⟨k+1,by omega,by go_num,HN2⟩,by simp[intOf];omega⟩
   | true =>
    rw[if_pos rfl] at hRV;have HRO2:Hid (Calls Tryz.prog 76 #[.agg #[.int .u64 m.v.root,.int .i64 m.v.cost,.int .u64 m.v.bridge,.int .i64 m.v.port],.int .i64 m.rp,.int .i64 port,.slice oao os.length ocap] Z fun e w'=>e=.returned (.int .i64 (Vc.role m.v m.rp port (Pl.lf os) os.length))∧Hid (Bl Z w')):=HRO.out Z HBZ.out;have HRV:Hid (Vc.role m.v m.rp port (Pl.lf os) os.length=Tk.roleM m os ⟨port,cost,other,oport,true⟩):=hRV.symm;clear hRV HNS HRO;rw[HZ.out,HY.out] at y0 y4 v0 v1 v2 v3;(go_wp2_with fail);rw[←HY.out,←HZ.out];refine HRO2.out.mono ?_;rintro e w2 ⟨rfl,HB2⟩;obtain⟨z0,z1⟩:=HRC.out w2 HB2.out;have HN2:Hid _:=HNX.out w2 _ HB2.out HRV.out;clear HRO2 HNX HRC HZV y0 y4 v0 v1 v2 v3;(go_wp2_with fail);exact⟨⟨k+1,by omega,by go_num,HN2⟩,by simp[intOf];omega⟩
  ·obtain rfl:k=es.length:=by omega
   obtain⟨hR,hB⟩:=hX.out;have HF:Hid (RlAt wr G es.length (fun j=>Tk.roleM m os (EL es j))∧Bl w wr∧w.heap.size≤G):=⟨hR.congr (fun j hj=>by unfold rlF;rw[if_pos hj]),(HRW.out wr hB).2.2.2,by rw[←HXS.out];omega⟩
   clear hX hR hB HRW;(go_wp2_with fail);go_ret;exact⟨G,rfl,HF.out.1,HF.out.2⟩
end
end Go.Proofs.YtflghpnpjmodaaaGreatDoor
