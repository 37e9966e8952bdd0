/- Minds in rows of the call's own: one more; regions in which two calls may come in either order -/
import Derived.Test.YtflghpnpjmodaaaGreatDoorH16
import Derived.Test.YtflghpnpjmodaaaGreatDoorH23
import Derived.Test.YtflghpnpjmodaaaGreatDoorH10
import Derived.Test.YtflghpnpjmodaaaGreatDoorH11
import Derived.Test.YtflghpnpjmodaaaGreatDoorH20
import Derived.Test.YtflghpnpjmodaaaGreatDoorH19
set_option maxRecDepth 100000
set_option maxHeartbeats 40000000
namespace Go.Proofs.YtflghpnpjmodaaaGreatDoor
section
open Go.RowKit
open Vc (V Of)
open Pl (En Lk Br Net)
open Tk (Md Mnd Cn Sc Dn)
theorem sizeMd:(Tryz.prog.info? 52).map (·.size)=some 9:=by kernel_rfl
def fmA (id:Int) (p r c:Value):Array Value:=#[.int .u64 id,.int .i64 0,.int .u64 id,.int .i64 0,.int .i64 0,.int .i64 (-1),p,r,c]
abbrev ZeroAt (w:World) (g n:Nat):Prop:=RlAt w g n (fun _=>0)
theorem choose_none (id:Int):Vc.chV id (fun _=>⟨0,0,0,⟨0,0,0,0⟩⟩) 0=⟨id,0,id,0⟩∧Vc.chA id (fun _=>⟨0,0,0,⟨0,0,0,0⟩⟩) 0=0∧Vc.chP id (fun _=>⟨0,0,0,⟨0,0,0,0⟩⟩) 0 = -1:=⟨rfl,rfl,rfl⟩
def FmW (w:World) (id:Int) (ao:Option Addr) (n cap:Nat) (e:Ending) (w':World):Prop :=
 ∃R C,e=.returned (.agg (fmA id (.slice ao n cap) (.slice (some ⟨R,0,none⟩) n n) (.slice (some ⟨C,0,none⟩) n n)))∧ZeroAt w' R n∧ZeroAt w' C n∧(w.heap.size≤R∧w.heap.size≤C)∧Bl w w'
structure FmC (w wx:World) (RB mb R C n:Nat) (ao:Option Addr) (cap:Nat):Prop where
 res:wx.heap[RB]?=some (.cells #[.int .u64 0,.int .i64 0,.int .u64 0,.int .i64 0,.int .i64 0,.int .i64 0,.slice none 0 0,.slice none 0 0,.slice none 0 0] 52)
 mnd:wx.heap[mb]?=some (.cells #[.int .u64 0,.int .i64 0,.int .u64 0,.int .i64 0,.int .i64 0,.int .i64 0,.slice ao n cap,.slice (some ⟨R,0,none⟩) n n,.slice (some ⟨C,0,none⟩) n n] 52)
 r:ZeroAt wx R n
 c:ZeroAt wx C n
 ne:mb≠RB∧R≠mb∧C≠mb∧R≠RB∧C≠RB
 le:w.heap.size≤RB∧w.heap.size≤mb∧w.heap.size≤R∧w.heap.size≤C
 low:Bl w wx
theorem alloc4 (w:World) (c0 c1 c2 c3:Array Value) (t0 t1 t2 t3:TypeId):((((w.alloc (.cells c0 t0)).alloc (.cells c1 t1)).alloc (.cells c2 t2)).alloc (.cells c3 t3)).heap[w.heap.size]?=some (.cells c0 t0)∧((((w.alloc (.cells c0 t0)).alloc (.cells c1 t1)).alloc (.cells c2 t2)).alloc (.cells c3 t3)).heap[w.heap.size+1]?=some (.cells c1 t1)∧((((w.alloc (.cells c0 t0)).alloc (.cells c1 t1)).alloc (.cells c2 t2)).alloc (.cells c3 t3)).heap[w.heap.size+1+1]?=some (.cells c2 t2)∧((((w.alloc (.cells c0 t0)).alloc (.cells c1 t1)).alloc (.cells c2 t2)).alloc (.cells c3 t3)).heap[w.heap.size+1+1+1]?=some (.cells c3 t3)∧Bl w ((((w.alloc (.cells c0 t0)).alloc (.cells c1 t1)).alloc (.cells c2 t2)).alloc (.cells c3 t3)):=by
 obtain⟨X,hX⟩:∃X,X=(w.alloc (.cells c0 t0)).alloc (.cells c1 t1):=⟨_,rfl⟩
 have hb:Bl w X:=(by rw[hX];exact bA2 _ _ _)
 have hs:X.heap.size=w.heap.size+1+1:=(by rw[hX];simp)
 have h0:X.heap[w.heap.size]?=some (.cells c0 t0):=(by rw[hX];exact heap_alloc2_old _ _ _)
 have h1:X.heap[w.heap.size+1]?=some (.cells c1 t1):=(by rw[hX];exact heap_alloc2_new _ _ _)
 have hb2:=bA2 X (.cells c2 t2) (.cells c3 t3);rw[←hX,←hs];exact⟨keep h0 hb2,keep h1 hb2,heap_alloc2_old _ _ _,heap_alloc2_new _ _ _,hb.trans (hb2.mono hb.size)⟩
theorem tfirst_any (id:Int) (ao:Option Addr) (n cap:Nat) (w:World) (hn:n≤1000) :
  Calls Tryz.prog 77 #[.int .u64 id,.slice ao n cap] w fun e w'=>FmW w id ao n cap e w':=by
 have hmk:∀W:World,(Instr.makeSlice 37 (.int .i64 (n:Int)) (.int .i64 (n:Int))).run Tryz.prog W=.ok (.slice (some ⟨W.heap.size,0,none⟩) n n) (W.alloc (.cells (rowC n 1 (fun _ _=>.int .i64 0)) 3)):=fun W=>make_rowD W 37 3 _ 1 8 n Tryz.underlying37 infoI (by omega) rfl hn (by omega) _ (fun _ j hj=>by rw[show j=0 by omega];rfl);have HCH:Hid (∀W,Calls Tryz.prog 74 #[.int .u64 id,.slice none 0 0] W fun e w'=>e=.returned (.tuple #[.agg #[.int .u64 id,.int .i64 0,.int .u64 id,.int .i64 0],.int .i64 0,.int .i64 (-1)])∧Hid (Bl W w')):=fun W=>by
  refine(vchoose_any id none 0 0 (fun _=>⟨0,0,0,⟨0,0,0,0⟩⟩) W (by omega) (CRow.none _ _ _ _ _)).mono ?_;rintro e w' ⟨rfl,h⟩;obtain⟨e1,e2,e3⟩:=choose_none id;rw[e1,e2,e3];exact⟨rfl,h⟩
 go_enter Tryz.func77,Tryz.ntmps77;obtain⟨RB,HRB⟩:∃RB,Hid (RB=w.heap.size):=⟨_,rfl⟩
 (go_wp2_with fail);go_cut [5] (fun s5 wx=>∃mb R C,s5=.pointer (some ⟨mb,0,none⟩)∧Hid (FmC w wx w.heap.size mb R C n ao cap))
 case first =>
  go_region
  (all_goals go_wp2_with fail);all_goals go_meet
  all_goals first | (exact⟨_,_,_,rfl,FmC.mk (alloc4 w _ _ _ _ _ _ _ _).1 (alloc4 w _ _ _ _ _ _ _ _).2.1 (alloc4 w _ _ _ _ _ _ _ _).2.2.1 (alloc4 w _ _ _ _ _ _ _ _).2.2.2.1 (by omega) (by omega) (Below.drew (alloc4 w _ _ _ _ _ _ _ _).2.2.2.2)⟩) | (exact⟨_,_,_,rfl,FmC.mk (alloc4 w _ _ _ _ _ _ _ _).1 (alloc4 w _ _ _ _ _ _ _ _).2.1 (alloc4 w _ _ _ _ _ _ _ _).2.2.2.1 (alloc4 w _ _ _ _ _ _ _ _).2.2.1 (by omega) (by omega) (Below.drew (alloc4 w _ _ _ _ _ _ _ _).2.2.2.2)⟩) | (exact⟨_,_,_,rfl,FmC.mk (alloc4 w _ _ _ _ _ _ _ _).1 (alloc4 w _ _ _ _ _ _ _ _).2.2.1 (alloc4 w _ _ _ _ _ _ _ _).2.1 (alloc4 w _ _ _ _ _ _ _ _).2.2.2.1 (by omega) (by omega) (Below.drew (alloc4 w _ _ _ _ _ _ _ _).2.2.2.2)⟩) | (exact⟨_,_,_,rfl,FmC.mk (alloc4 w _ _ _ _ _ _ _ _).1 (alloc4 w _ _ _ _ _ _ _ _).2.2.1 (alloc4 w _ _ _ _ _ _ _ _).2.2.2.1 (alloc4 w _ _ _ _ _ _ _ _).2.1 (by omega) (by omega) (Below.drew (alloc4 w _ _ _ _ _ _ _ _).2.2.2.2)⟩) | (exact⟨_,_,_,rfl,FmC.mk (alloc4 w _ _ _ _ _ _ _ _).1 (alloc4 w _ _ _ _ _ _ _ _).2.2.2.1 (alloc4 w _ _ _ _ _ _ _ _).2.1 (alloc4 w _ _ _ _ _ _ _ _).2.2.1 (by omega) (by omega) (Below.drew (alloc4 w _ _ _ _ _ _ _ _).2.2.2.2)⟩) | (exact⟨_,_,_,rfl,FmC.mk (alloc4 w _ _ _ _ _ _ _ _).1 (alloc4 w _ _ _ _ _ _ _ _).2.2.2.1 (alloc4 w _ _ _ _ _ _ _ _).2.2.1 (alloc4 w _ _ _ _ _ _ _ _).2.1 (by omega) (by omega) (Below.drew (alloc4 w _ _ _ _ _ _ _ _).2.2.2.2)⟩)
 case rest =>
 obtain⟨mb,R,C,rfl,HF⟩:=hcut;have HMN:Hid (∀V,Bl wc V→FmC w V w.heap.size mb R C n ao cap):=fun V hV=>⟨keep HF.out.res hV,keep HF.out.mnd hV,keep HF.out.r hV,keep HF.out.c hV,HF.out.ne,HF.out.le,HF.out.low.trans (hV.mono HF.out.low.size)⟩
 clear hmk;(go_wp2_with fail);refine(HCH.out _).mono ?_;rintro e w2 ⟨rfl,H2⟩;have HV2:Hid (FmC w w2 w.heap.size mb R C n ao cap):=HMN.out w2 H2.out;clear HCH HMN;obtain⟨W3,HW3⟩:∃W3,Hid (W3=(((((w2.setCell ⟨mb,0,none⟩ (.int .u64 id)).setCell ⟨mb,1,none⟩ (.int .i64 0)).setCell ⟨mb,2,none⟩ (.int .u64 id)).setCell ⟨mb,3,none⟩ (.int .i64 0)).setCell ⟨mb,4,none⟩ (.int .i64 0)).setCell ⟨mb,5,none⟩ (.int .i64 (-1))):=⟨_,rfl⟩
 obtain⟨m1,m2,m3,m4,⟨n1,n2,n3,n4,n5⟩,⟨l1,l2,l3,l4⟩,m5⟩:=HV2.out;have k2:W3.heap[mb]?=some (.cells #[.int .u64 id,.int .i64 0,.int .u64 id,.int .i64 0,.int .i64 0,.int .i64 (-1),.slice ao n cap,.slice (some ⟨R,0,none⟩) n n,.slice (some ⟨C,0,none⟩) n n] 52):=by
  rw[HW3.out];exact set_at (set_at (set_at (set_at (set_at (set_at m2)))))
 have kk:∀{g:Nat}{o:Obj},w2.heap[g]?=some o→g≠mb→W3.heap[g]?=some o:=fun {g o} h hne=>by
  rw[HW3.out];exact set_keep (set_keep (set_keep (set_keep (set_keep (set_keep h hne) hne) hne) hne) hne) hne
 have k1:=kk m1 n1.symm;have HK1:Hid (W3.heap[w.heap.size]?=some (.cells #[.int .u64 0,.int .i64 0,.int .u64 0,.int .i64 0,.int .i64 0,.int .i64 0,.slice none 0 0,.slice none 0 0,.slice none 0 0] 52)):=k1;have HK3:Hid (ZeroAt W3 R n∧ZeroAt W3 C n∧Bl w W3):=⟨kk m3 n2,kk m4 n3,by
  rw[HW3.out];exact(((((m5.setCell l2 _).setCell l2 _).setCell l2 _).setCell l2 _).setCell l2 _).setCell l2 _⟩
 have HNE:Hid (R≠w.heap.size∧C≠w.heap.size∧w.heap.size≤R∧w.heap.size≤C):=⟨n4,n5,l3,l4⟩
 have a0:=cell_of_row w2 mb 0 _ _ _ m2;have a1:=cell_of_row w2 mb 1 _ _ _ m2;have a2:=cell_of_row w2 mb 2 _ _ _ m2;have a3:=cell_of_row w2 mb 3 _ _ _ m2;have a4:=cell_of_row w2 mb 4 _ _ _ m2;have a5:=cell_of_row w2 mb 5 _ _ _ m2;have fz:∀x,w2.frozen? ⟨mb,x,none⟩=false:=fun x=>frozen_of_row _ _ _ _ _ m2;have z0:=fz 0;have z1:=fz 1;have z2:=fz 2;have z3:=fz 3;have z4:=fz 4;have z5:=fz 5;clear fz m1 m2 m3 m4 m5 kk HV2 HF;(go_upto_region 3 with fail);rw[←HW3.out];clear a0 a1 a2 a3 a4 a5 z0 z1 z2 z3 z4 z5;have a0:=cell_of_row W3 mb 0 _ _ _ k2;have a1:=cell_of_row W3 mb 1 _ _ _ k2;have a2:=cell_of_row W3 mb 2 _ _ _ k2;have a3:=cell_of_row W3 mb 3 _ _ _ k2;have a4:=cell_of_row W3 mb 4 _ _ _ k2;have a5:=cell_of_row W3 mb 5 _ _ _ k2;have a6:=cell_of_row W3 mb 6 _ _ _ k2;have a7:=cell_of_row W3 mb 7 _ _ _ k2;have a8:=cell_of_row W3 mb 8 _ _ _ k2;clear k2 HW3;obtain⟨RB,HRB⟩:∃RB,Hid (RB=w.heap.size):=⟨_,rfl⟩
 rw[←HRB.out] at k1 n1 HK1 HNE ⊢;have fz:∀x,W3.frozen? ⟨RB,x,none⟩=false:=fun x=>frozen_of_row _ _ _ _ _ k1;have b0:=cell_of_row W3 RB 0 _ _ _ k1;have b1:=cell_of_row W3 RB 1 _ _ _ k1;have b2:=cell_of_row W3 RB 2 _ _ _ k1;have b3:=cell_of_row W3 RB 3 _ _ _ k1;have b4:=cell_of_row W3 RB 4 _ _ _ k1;have b5:=cell_of_row W3 RB 5 _ _ _ k1;have b6:=cell_of_row W3 RB 6 _ _ _ k1;have b7:=cell_of_row W3 RB 7 _ _ _ k1;have b8:=cell_of_row W3 RB 8 _ _ _ k1;have z0:=fz 0;have z1:=fz 1;have z2:=fz 2;have z3:=fz 3;have z4:=fz 4;have z5:=fz 5;have z6:=fz 6;have z7:=fz 7;have z8:=fz 8;clear fz k1 n1 n2 n3 n4 n5 l1 l2 l3 l4;(go_wp2_with fail);refine bodyPost_ret (results_row (p:=4) (ty:=52) Tryz.results77 _ _ RB 52 _ (0,0) _ rfl (set_at (set_at (set_at (set_at (set_at (set_at (set_at (set_at (set_at HK1.out))))))))) Tryz.underlying52 rfl (by rw[sizeMd];rfl)) rfl ?_;obtain⟨h1,h2,h3⟩:=HK3.out;obtain⟨e1,e2,e3,e4⟩:=HNE.out;have hle:w.heap.size≤RB:=(by rw[HRB.out];exact Nat.le_refl _)
 refine⟨R,C,rfl,?_,?_,by rw[←HRB.out];exact⟨e3,e4⟩,?_⟩
 ·exact set_keep (set_keep (set_keep (set_keep (set_keep (set_keep (set_keep (set_keep (set_keep h1 e1) e1) e1) e1) e1) e1) e1) e1) e1
 ·exact set_keep (set_keep (set_keep (set_keep (set_keep (set_keep (set_keep (set_keep (set_keep h2 e2) e2) e2) e2) e2) e2) e2) e2) e2
 ·exact((((((((h3.setCell hle _).setCell hle _).setCell hle _).setCell hle _).setCell hle _).setCell hle _).setCell hle _).setCell hle _).setCell hle _
end
section
open Go.RowKit
open Vc (V Of)
open Pl (En Lk Br Net)
open Tk (Md Mnd Cn Sc Dn ixM ilist lst3 ilm)
section
variable {P:Program}{ops:Array Oper}{Q:Exit→Act→World→Prop}{md:Region.Mode}{z:Nat}{C:World→Prop}
end
def miC (m:Mi):Nat→Value:=mdC m.md (.slice m.po m.ports.length m.pc) (.slice m.ro m.roles.length m.rc) (.slice m.co m.calm.length m.cc)
def miA (m:Mi):Array Value:=#[.int .u64 m.md.v.root,.int .i64 m.md.v.cost,.int .u64 m.md.v.bridge,.int .i64 m.md.v.port,.int .i64 m.md.age,.int .i64 m.md.rp,.slice m.po m.ports.length m.pc,.slice m.ro m.roles.length m.rc,.slice m.co m.calm.length m.cc]
structure OwnI (W:World) (base:Nat) (m:Mi):Prop where
 ports:W.ownsRow base 3 1 (.slice m.po m.ports.length m.pc) m.ports.length (intCells m.ports)
 roles:W.ownsRow base 3 1 (.slice m.ro m.roles.length m.rc) m.roles.length (intCells m.roles)
 calm:W.ownsRow base 3 1 (.slice m.co m.calm.length m.cc) m.calm.length (intCells m.calm)
structure OwnM (W:World) (base:Nat) (v:Value) (l:List Mi):Prop where
 row:W.ownsRow base 52 9 v l.length (cellsL l.length 9 (fun i=>miC (mat l i)))
 each:∀m∈l,OwnI W base m
theorem OwnI.keep {W W':World}{base:Nat}{m:Mi}(h:OwnI W base m) (hk:∀(q:Nat) (cur:Array Value),W.heap[q]?=some (Obj.cells cur 3)→W'.heap[q]?=W.heap[q]?):OwnI W' base m :=
 ⟨owns_keep h.ports (fun q hq=>by obtain⟨cur,hc⟩:=owns_type h.ports hq;exact hk q cur hc),owns_keep h.roles (fun q hq=>by obtain⟨cur,hc⟩:=owns_type h.roles hq;exact hk q cur hc),owns_keep h.calm (fun q hq=>by obtain⟨cur,hc⟩:=owns_type h.calm hq;exact hk q cur hc)⟩
theorem lt_some {W:World}{q:Nat}{o:Obj}(h:W.heap[q]?=some o):q<W.heap.size:=(gSm.1 h).1
theorem OwnI.below {W W':World}{base:Nat}{m:Mi}(h:OwnI W base m) (hb:Bl W W'):OwnI W' base m:=h.keep (fun q _ hc=>hb.block q (lt_some hc))
theorem OwnI.mono {W:World}{base base':Nat}{m:Mi}(h:OwnI W base m) (hb:base'≤base):OwnI W base' m:=⟨owns_mono h.ports hb,owns_mono h.roles hb,owns_mono h.calm hb⟩
theorem OwnM.keep {W W':World}{base:Nat}{v:Value}{l:List Mi}(h:OwnM W base v l) (hk:∀(q:Nat) (cur:Array Value) (ty:TypeId),W.heap[q]?=some (Obj.cells cur ty (0,0))→ty=3∨ty=52→W'.heap[q]?=W.heap[q]?):OwnM W' base v l :=
 ⟨owns_keep h.row (fun q hq=>by obtain⟨cur,hc⟩:=owns_type h.row hq;exact hk q cur _ hc (Or.inr rfl)),fun m hm=>(h.each m hm).keep (fun q cur hc=>hk q cur _ hc (Or.inl rfl))⟩
theorem OwnM.below {W W':World}{base:Nat}{v:Value}{l:List Mi}(h:OwnM W base v l) (hb:Bl W W'):OwnM W' base v l:=h.keep (fun q _ _ hc _=>hb.block q (lt_some hc))
theorem OwnM.mono {W:World}{base base':Nat}{v:Value}{l:List Mi}(h:OwnM W base v l) (hb:base'≤base):OwnM W base' v l:=⟨owns_mono h.row hb,fun m hm=>(h.each m hm).mono hb⟩
theorem OwnM.nil (W:World) (base:Nat):OwnM W base (.slice none 0 0) []:=⟨ownsC_nil _ _ _ _ _,fun m h=>by simp at h⟩
theorem mat_mem {l:List Mi}{i:Nat}(h:i<l.length):mat l i∈l:=by
 have:mat l i=l[i]:=by simp[mat,h]
 rw[this];exact List.getElem_mem h
theorem OwnM.row' {W:World}{base:Nat}{v:Value}{l:List Mi}(h:OwnM W base v l) (hl:l.length≤1000):∃ao cap,v=.slice ao l.length cap∧MiRow W ao cap l:=by
 obtain⟨ao,cap,e,h1,_,_⟩:=owns_c (by omega) h.row;refine⟨ao,cap,e,h1,fun i hi => ?_,by omega⟩;have hm:=h.each _ (mat_mem hi);have f:∀{a:Option Addr}{c:Nat}{x:List Int},W.ownsRow base 3 1 (.slice a x.length c) x.length (intCells x)→ILs W a c x∧x.length≤9223372036854775807:=fun {a c x} h=>by
  obtain⟨ao',cap',e',h1,_,_⟩:=owns_c (by omega) h;injection e' with e1 _ e2;subst e1 e2;exact⟨h1,owns_few h⟩
 exact⟨(f hm.ports).1,(f hm.roles).1,(f hm.calm).1,(f hm.ports).2,(f hm.roles).2,(f hm.calm).2⟩
theorem one_mind {w:World}{g:Nat}{x:Mi}{ty:TypeId}(h:w.heap[g]?=some (.cells (miA x) ty (0,0))):CRow w (some ⟨g,0,none⟩) 1 1 9 (fun _=>miC x):=by
 refine⟨Nat.le_refl _,fun _=>⟨g,0,rfl,(gSm.1 h).1,fun i hi j hj => ?_⟩⟩;obtain rfl:i=0:=by omega
 rcases(by omega:j=0∨j=1∨j=2∨j=3∨j=4∨j=5∨j=6∨j=7∨j=8) with e | e | e | e | e | e | e | e | e<;>subst e
 ·exact cell_of_row w g 0 _ _ _ h
 ·exact cell_of_row w g 1 _ _ _ h
 ·exact cell_of_row w g 2 _ _ _ h
 ·exact cell_of_row w g 3 _ _ _ h
 ·exact cell_of_row w g 4 _ _ _ h
 ·exact cell_of_row w g 5 _ _ _ h
 ·exact cell_of_row w g 6 _ _ _ h
 ·exact cell_of_row w g 7 _ _ _ h
 ·exact cell_of_row w g 8 _ _ _ h
theorem infoMn:(Tryz.prog.info? 52).map (fun i=>(i.zero,i.size,i.bytes))=some (some (.agg #[.int .u64 0,.int .i64 0,.int .u64 0,.int .i64 0,.int .i64 0,.int .i64 0,.slice none 0 0,.slice none 0 0,.slice none 0 0]),9,120):=by kernel_rfl
theorem miC_one (m:Mi) (x:Nat):(miC m x).oneCell'=true:=mdC_one _ rfl rfl rfl x
theorem mat_left (l m:List Mi) (i:Nat) (h:i<l.length):mat (l++m) i=mat l i:=by
 simp[mat,h,List.getElem?_append_left]
theorem mat_right (l m:List Mi) (i:Nat) (h:l.length≤i):mat (l++m) i=mat m (i-l.length):=by
 simp[mat,h,List.getElem?_append_right]
abbrev runAppM (v x:Value) (w:World) (v':Value) (w':World):Prop:=(Builtin.append_ #[50,50] 50 #[v,x]).run Tryz.prog w=.ok v' w'
theorem more_m (base:Nat) (W:World) (v:Value) (l:List Mi) (x:Mi) (ho:OwnM W base v l) (hx:OwnI W base x) (hl:l.length≤1000) (hbase:base≤W.heap.size) :
  ∃a m c W2,runAppM v (.slice (some ⟨W.heap.size,0,none⟩) 1 1) (W.alloc (.cells (miA x) 52)) (.slice a m c) W2∧m=(l++[x]).length∧OwnM W2 base (.slice a m c) (l++[x])∧Below base W W2∧(∀(q:Nat) (cur:Array Value) (ty:TypeId),W.heap[q]?=some (Obj.cells cur ty (0,0))→ty≠52→W2.heap[q]?=some (Obj.cells cur ty (0,0))):=by
 have hb1:=bA1 W (.cells (miA x) 52);have ho1:=ho.below hb1;have hx1:=hx.below hb1;obtain⟨a1,c1,w',r,o,b,q⟩:=append_c (W.alloc (.cells (miA x) 52)) 50 52 _ 9 120 Tryz.underlying50 infoMn rfl (by omega) base v l.length _ ho1.row (some ⟨W.heap.size,0,none⟩) 1 1 (fun _=>miC x) (fun _ _=>miC_one _ _) (one_mind (heap_alloc_last W _)) (fun h=>by cases h) (by unfold maxLen;omega) (by omega) (by have:=hb1.size;omega);have e:l.length+1=(l++[x]).length:=(by simp)
 refine⟨a1,_,c1,w',r,e,⟨?_,?_⟩,(hb1.mono hbase).trans b,fun g cur ty hg hty => ?_⟩;rotate_left 2
 ·have hg1:=keep hg hb1;refine(q g (lt_some hg1) (fun hv => ?_)).trans hg1;obtain⟨c2,h2⟩:=owns_type ho1.row hv.symm;exact hty (cells_type hg1 h2)
 ·rw[e] at o ⊢;rw[cellsL_congr _ 9 _ (fun i=>miC (mat (l++[x]) i))] at o
  ·exact o
  ·intro i hi;unfold catC;by_cases h:i<l.length
   ·rw[if_pos h,mat_left l _ i h]
   ·have hi':i=l.length:=(by simp at hi;omega)
    subst hi';rw[if_neg (by omega),mat_right l _ _ (Nat.le_refl _),Nat.sub_self];rfl
 ·have hk:∀(g:Nat) (cur:Array Value),(W.alloc (.cells (miA x) 52)).heap[g]?=some (Obj.cells cur 3)→w'.heap[g]?=(W.alloc (.cells (miA x) 52)).heap[g]?:=fun g cur hg=>by
   refine q g (lt_some hg) (fun hv => ?_);obtain⟨c2,h2⟩:=owns_type ho1.row hv.symm;exact absurd (cells_type hg h2) (by decide)
  intro y hy;rcases List.mem_append.1 hy with h | h
  ·exact(ho1.each y h).keep hk
  ·have:y=x:=by simpa using h
   subst this;exact hx1.keep hk
def zer (n:Nat):List Int:=List.replicate n 0
theorem zer_len (n:Nat):(zer n).length=n:=by simp[zer]
theorem zer_get (n j:Nat):(zer n).getD j 0=0:=by
 simp[zer,List.getElem?_replicate];split<;>rfl
theorem ZeroAt.owns {W:World}{g n base:Nat}(h:ZeroAt W g n) (hn:n≤1000) (hb:base≤g):W.ownsRow base 3 1 (.slice (some ⟨g,0,none⟩) (zer n).length n) (zer n).length (intCells (zer n)):=by
 have:=owns_mono (RlAt.owns h (by omega)) hb;unfold intCells;rw[zer_len,cellsL_congr n 1 _ (fun _ _=>.int .i64 0)]
 ·exact this
 ·intro i _;funext _
  rw[show IL (zer n) i=0 from zer_get n i]
def startMs (n:Net) (k i:Nat):Mnd:=⟨⟨⟨n.ids k i,0,n.ids k i,0⟩,0,-1⟩,zer (n.pts i).length,zer (n.pts i).length⟩
def isFirst (n:Net) (k i:Nat) (m:Mi):Prop:=m.md=⟨⟨n.ids k i,0,n.ids k i,0⟩,0,-1⟩∧m.ports=n.pts i∧m.roles=zer (n.pts i).length∧m.calm=zer (n.pts i).length
def stErr (n:Net) (trees:Int):Int×Int:=if n.wrong.1≠0 then n.wrong else if ¬(1≤trees∧trees≤4) then(3,0) else(0,0)
structure StA (W Y:World) (n:Net) (T G:Nat) (vs:Nat→Value) (ls:Nat→List Mi) (k:Nat):Prop where
 out:W.heap[G]?=some (.cells (rowC T 1 (fun j _=>vs j)) 50)
 each:∀j,j<k→OwnM W Y.heap.size (vs j) (ls j)∧(ls j).length=n.K∧∀x,x<n.K→isFirst n j x (mat (ls j) x)
 rest:∀j,k≤j→vs j=.slice none 0 0
 bt:Bt (fun q=>q=G) Y W
structure StI (W Z:World) (n:Net) (T G k i:Nat) (vs:Nat→Value) (v:Value) (l:List Mi):Prop where
 out:W.heap[G]?=some (.cells (rowC T 1 (fun j _=>upF vs k v j)) 50)
 own:OwnM W Z.heap.size v l
 len:l.length=i
 first:∀x,x<i→isFirst n k x (mat l x)
 bt:Bt (fun q=>q=G) Z W
theorem StI.done {W Z Y:World}{n:Net}{T G k:Nat}{vs:Nat→Value}{ls:Nat→List Mi}{v:Value}{l:List Mi}(hA:StA Z Y n T G vs ls k) (h:StI W Z n T G k n.K vs v l):StA W Y n T G (upF vs k v) (upF ls k l) (k+1):=by
 refine⟨h.out,fun j hj => ?_,fun j hj => ?_,hA.bt.trans h.bt⟩
 ·by_cases q:j=k
  ·subst q;rw[upF_same,upF_same];exact⟨h.own.mono hA.bt.size,h.len,h.first⟩
  ·rw[upF_other _ _ q,upF_other _ _ q];obtain⟨a1,a2,a3⟩:=hA.each j (by omega);refine⟨a1.keep (fun q cur ty hc ht=>h.bt.block q (lt_some hc) (fun e => ?_)),a2,a3⟩;subst e;have:=cells_type hc hA.out;rcases ht with ht | ht
   ·exact absurd (ht.symm.trans this) (by decide)
   ·exact absurd (ht.symm.trans this) (by decide)
 ·rw[upF_other _ _ (by omega)];exact hA.rest j (by omega)
theorem below_an {a b:World}(h:Bl a b) (o:Obj):Bl a (b.alloc o):=h.alloc h.size o
structure StT (w:World) (n:Net) (trees:Int) (oao:Option Addr) (ocap:Nat) (t0:List Tr):Prop where
 row:TrRow w oao ocap t0
 len:(t0.length:Int)=trees
 fit:fitT n t0=true
 calm:CalmT t0
 ms:∀k,k<t0.length→∀i,i<n.K→startMs n k i=msT t0 k i
theorem StT.below {w w':World}{n:Net}{trees:Int}{oao:Option Addr}{ocap:Nat}{t0:List Tr}(h:StT w n trees oao ocap t0) (hb:Bl w w'):StT w' n trees oao ocap t0:=⟨h.row.below hb,h.len,h.fit,h.calm,h.ms⟩
theorem start_all {W:World}{n:Net}{T G b:Nat}{vs:Nat→Value}{ls:Nat→List Mi}(hT:1≤T∧T≤4) (hK:n.K≤12) (hout:W.heap[G]?=some (.cells (rowC T 1 (fun j _=>vs j)) 50))
  (heach:∀j,j<T→OwnM W b (vs j) (ls j)∧(ls j).length=n.K∧∀x,x<n.K→isFirst n j x (mat (ls j) x)):∃t0:List Tr,t0.length=T∧StT W n T (some ⟨G,0,none⟩) T t0:=by
 obtain⟨f,hf⟩:=Classical.axiomOfChoice (r:=fun(j:Nat) (p:Option Addr×Nat)=>j<T→vs j=.slice p.1 (ls j).length p.2∧MiRow W p.1 p.2 (ls j)) (fun j=>by
  by_cases q:j<T
  ·obtain⟨h1,h2,_⟩:=heach j q;obtain⟨a,c,e1,e2⟩:=h1.row' (by omega);exact⟨(a,c),fun _=>⟨e1,e2⟩⟩
  ·exact⟨(none,0),fun z=>absurd z q⟩)
 obtain⟨t0,ht0⟩:∃t0:List Tr,t0=(List.range T).map (fun j=>⟨(f j).1,(f j).2,ls j⟩):=⟨_,rfl⟩
 have tl:t0.length=T:=(by rw[ht0];simp)
 have tk:∀j,j<T→tat t0 j=⟨(f j).1,(f j).2,ls j⟩:=fun j hj=>by unfold tat;rw[ht0];exact range_getD _ _ hj
 have hF:∀j,j<T→∀x,x<n.K→isFirst n j x (mat (tat t0 j).l x):=fun j hj x hx=>by rw[tk j hj];exact(heach j hj).2.2 x hx
 have hL:∀j,j<T→(tat t0 j).l.length=n.K:=fun j hj=>by rw[tk j hj];exact(heach j hj).2.1
 refine⟨t0,tl,⟨⟨?_,fun j hj => ?_,by omega⟩,by rw[tl],?_,fun j hj x hx y => ?_,fun j hj x hx => ?_⟩⟩
 ·rw[tl];refine(rowC_crow hout).congr (fun j hj => ?_);funext _
  rw[(hf j hj).1,tk j hj]
 ·rw[tl] at hj;rw[tk j hj];exact(hf j hj).2
 ·refine fit_iff.2 ⟨by rw[tl];exact hT,fun j hj => ?_⟩;rw[tl] at hj;refine⟨hL j hj,fun x hx => ?_⟩;obtain⟨_,e1,e2,e3⟩:=hF j hj x hx;rw[e1,e2,e3,zer_len];exact⟨rfl,rfl,rfl⟩
 ·rw[tl] at hj;rw[hL j hj] at hx;obtain⟨_,_,_,e3⟩:=hF j hj x hx;rw[e3,zer_get];exact⟨Int.le_refl _,fun h=>absurd h (Int.lt_irrefl _)⟩
 ·rw[tl] at hj;obtain⟨e0,_,e2,e3⟩:=hF j hj x hx;unfold msT startMs;rw[e0,e2,e3]
def StartW (w:World) (n:Net) (trees:Int) (e:Ending) (w':World):Prop :=
 Bl w w'∧(((stErr n trees).1≠0∧e=.returned (.tuple #[.agg #[.slice none 0 0],.agg #[.int .i64 (stErr n trees).1,.int .i64 (stErr n trees).2]])) ∨
  ((stErr n trees).1=0∧∃(oao:Option Addr) (ocap:Nat) (t0:List Tr),e=.returned (.tuple #[.agg #[.slice oao t0.length ocap],.agg #[.int .i64 0,.int .i64 0]])∧StT w' n trees oao ocap t0))
end
end Go.Proofs.YtflghpnpjmodaaaGreatDoor
