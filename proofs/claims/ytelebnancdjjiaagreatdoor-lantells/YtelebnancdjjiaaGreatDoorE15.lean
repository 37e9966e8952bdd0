/- BW5 -/
import Derived.Test.YtelebnancdjjiaaGreatDoorE14
set_option maxRecDepth 100000
set_option maxHeartbeats 40000000
namespace Go.Proofs.YtelebnancdjjiaaGreatDoor
section
open Go.Proofs.Tryz Go.RowKit
open Bk(E at')
open Rl(G gat F O R)
open Vc(V Of)
open Pl(Br Net Pc Lk En)
theorem a7L (ao:OA) (cap:Nat) (l:List E) (vid aa ac:Int) (w:World) (av:Bk.Book l) (hr:BEL w ao cap l) (au:a0s ao l.length cap) (h0:0<=aa) (h1:aa<18446744073709551616) :
  Calls prog 90 #[.slice ao l.length cap,Iv vid,Uv aa,Iv ac] w λe w'=>∃v,e=.returned v/\OwnE w' w.heap.size v (Bk.learn l ⟨vid,aa,ac,0⟩)/\Bl w w':=by
 have hn:=av.many;have aK:l.length<=cap:=hr.1;have an:Hid (∀W,Bl w W->BEL W ao cap l):=λW hW=>BEL.below hr hW;have aL:Hid (Bk.Book l):=av;have aD:Hid (a0s ao l.length cap):=au;obtain⟨s,hs⟩:∃s:E,s=⟨vid,aa,ac,0⟩:=⟨_,rfl⟩
 obtain⟨X,HX⟩:=nm (w.alloc (.cells #[Iv vid,Uv aa,Iv ac,Iv 0] 110))
 have ax:Hid (Bl w X):=(by rw[HX.o];exact bA1 _ _)
 have aH:Hid (X.heap[w.heap.size]?=some (.cells #[Iv vid,Uv aa,Iv ac,Iv 0] 110)):=(by rw[HX.o];exact a9Z _ _)
 have HF:Hid (Calls prog 131 #[.slice ao l.length cap,Iv vid,Uv aa] X λe w'=>∃(k:Nat) (kn:Bool),e=.returned (.tuple #[Iv k,.bool kn])/\k<=l.length/\(kn=true->k<l.length)/\Hid (decide (Bk.Known l s)=kn/\Bk.Spot l s k)/\w'.heap[w.heap.size]?=some (.cells #[Iv vid,Uv aa,Iv ac,Iv 0] 110)/\Hid (Bl w w')):=by
  refine(a5s ao cap l vid aa X av (an.o X ax.o)).mono ?_;rintro e w' ⟨k,rfl,aB,hb⟩;have aJ:Bk.Spot l s k:=by subst hs;exact aB
  have aM:decide (Bk.Known l s)=decide (Bk.Known l (a0L vid aa)):=by subst hs;rfl
  refine⟨k,_,rfl,aB.1,λh=>((aB.known av).1 (b0o h)).1,⟨aM,aJ⟩,keep aH.o hb,ax.o.trans (hb.mono ax.o.size)⟩
 have aG:Hid (∀W,W.heap[w.heap.size]?=some (.cells #[Iv vid,Uv aa,Iv ac,Iv 0] 110)->Bl w W->Calls prog 132 #[.agg #[Iv vid,Uv aa,Iv ac,Iv 0]] W λe w'=>e=.returned (.bool (decide (Bk.may s)))/\w'.heap[w.heap.size]?=some (.cells #[Iv vid,Uv aa,Iv ac,Iv 0] 110)/\Hid (Bl w w')):=λW hW hB=>by
  have:=bmay_any ⟨vid,aa,ac,0⟩ W h0 h1;rw[hs];refine this.mono ?_;rintro e w' ⟨rfl,hb⟩;exact⟨rfl,keep hW hb,hB.trans (hb.mono hB.size)⟩
 rw[<-hs];have ab:Hid (∀W,Bl w W->∃a1 c1 w',(Builtin.append_ #[67,67] 67 #[sN,.slice ao l.length cap]).run prog W=.ok (.slice a1 l.length c1) w'/\Hid (OwnE w' w.heap.size (.slice a1 l.length c1) l/\Bl w w')):=λW hW=>by
  obtain⟨a1,c1,w',r,o,b,_⟩:=a2q W w.heap.size sN [] (OwnE.nil W _) ao cap l l.length rfl (an.o W hW) aD.o (by simp;omega) hW.size;exact⟨a1,c1,w',r,o,hW.trans b⟩
 have ap:Hid ((¬Bk.may s\/(¬Bk.Known l s/\30<=l.length))->Bk.learn l s=l):=λh=>iP h;clear av hr au h0 h1;go_enter func90,ntmps90;(go_wp2_with fail);rw[<-HX.o];refine HF.o.mono ?_;rintro e w1 ⟨k,kn,rfl,az,hK,al,aE,aN⟩;clear HF HX ax aH;have ar:=aG.o w1 aE aN.o;obtain⟨c0,c1,c2,c3⟩:=a0F aE;clear aG aE;by_cases hm:Bk.may s
 ·rw[b0k hm] at ar;by_cases aq:kn=false/\30<=l.length
  ·obtain⟨rfl,aq⟩:=aq;have HL:Hid _:=ap.o (Or.inr ⟨of_decide_eq_false al.o.1,aq⟩);have aC:(30:Int)<=(l.length:Int):=om
   clear ap al hK hm;(go_wp2_with fail);refine ar.mono ?_;rintro e w2 ⟨rfl,ae,ak⟩;obtain⟨a1,aw,w3,r,HO⟩:=ab.o w2 ak.o;have HR:Hid _:=r;clear r ab;go_wp2_with (at_builtin;refine a0a rfl (.const sN) (.tmp 37) 67 rfl _ _ _ rfl rfl HR.o ?_)
   go_ret;exact⟨_,rfl,by rw[HL.o];exact HO.o.1,HO.o.2⟩
  ·cases kn with
   | false =>
    have aO:l.length<30:=by
     rcases Nat.lt_or_ge l.length 30 with q | q
     ·exact q
     ·exact absurd ⟨rfl,q⟩ aq
    have aC:(l.length:Int)<30:=om
    have HL:Hid (Bk.learn l s=l.take k++s :: l.drop k):=by
     have hu:¬Bk.Known l s:=of_decide_eq_false al.o.1;show(if ¬Bk.may s\/(¬Bk.Known l s/\30<=l.length) then l else Bk.lo l s++s :: Bk.hi l s)=_;rw[iN (λh=>h.elim (λh=>h hm) (λh=>by omega)),al.o.2.lo,al.o.2.hi_new hu]
    clear ap hK aq;(go_wp2_with fail);refine ar.mono ?_;rintro e w2 ⟨rfl,ae,ak⟩;cases ao with
    | none =>
     obtain⟨aI,rfl⟩:=aD.o rfl;obtain rfl:k=0:=om
     obtain rfl:l=[]:=List.eq_nil_of_length_eq_zero aI;obtain⟨cs,a2,ay,Y,am,r2,r3,ai,HO⟩:=a7K w w2 ak.o _ s (by rw[hs];rfl) ae;have ag:Hid _:=r2;have af:Hid _:=r3;have ah:Hid _:=HO;obtain⟨x0,x1,x2,x3⟩:=a0F ai;obtain⟨y0,y1,y2,y3⟩:=a0F ae;have aQ:=b0r y0;clear r2 r3 HO ai c0 c1 c2 c3 ae ab;go_wp2_with (at_builtin;first | (refine a0a rfl (.tmp 58) (.tmp 60) 67 rfl _ _ _ rfl rfl ag.o ?_;clear ag) | (refine a0a rfl (.tmp 62) (.tmp 63) 67 rfl _ _ _ rfl rfl af.o ?_;clear af))
     go_ret;exact⟨_,rfl,by rw[HL.o];exact ah.o.1,ah.o.2⟩
    | some ad =>
     by_cases hkc:k=cap
     ·subst hkc;obtain⟨cs,a1,aw,X',a2,ay,Y,a3,aF,Z,am,r1,r2,r3,ai,HO⟩:=a3c w w2 ak.o _ s (by rw[hs];rfl) ae (some ad) k (l.take k) k (by simp;omega) ((an.o w (b0h _ _)).take k az) (λh=>by cases h) (some ad) 0 (l.drop k) 0 (by simp;omega) (BEL.dropZ om) (λh=>by cases h) om (k+1) om;rw[show((k+1:Nat):Int)=(k:Int)+1 by omega] at am;have aj:Hid _:=r1;have ag:Hid _:=r2;have af:Hid _:=r3;have ah:Hid _:=HO;have i0:(0:Int)<=(k:Int):=om
      have i1:(k:Int)<=(k:Int):=om
      obtain⟨x0,x1,x2,x3⟩:=a0F ai;clear r1 r2 r3 HO ai c0 c1 c2 c3 ae ab;go_wp2_with (at_builtin;first | (refine a0a rfl (.tmp 53) (.tmp 56) 67 rfl _ _ _ rfl rfl aj.o ?_;clear aj) | (refine a0a rfl (.tmp 58) (.tmp 60) 67 rfl _ _ _ rfl rfl ag.o ?_;clear ag) | (refine a0a rfl (.tmp 62) (.tmp 63) 67 rfl _ _ _ rfl rfl af.o ?_;clear af))
      go_ret;exact⟨_,rfl,by rw[HL.o];exact ah.o.1,ah.o.2⟩
     ·obtain⟨cs,a1,aw,X',a2,ay,Y,a3,aF,Z,am,r1,r2,r3,ai,HO⟩:=a3c w w2 ak.o _ s (by rw[hs];rfl) ae (some ad) cap (l.take k) k (by simp;omega) ((an.o w (b0h _ _)).take k az) (λh=>by cases h) (some (ad.add (k*4))) (cap-k) (l.drop k) (l.length-k) (by simp) ((an.o w (b0h _ _)).dropA k om) (λh=>by cases h) om (k+1+(l.length-k)) om;rw[show((k+1+(l.length-k):Nat):Int)=(k:Int)+1+((l.length-k:Nat):Int) by omega] at am;have aj:Hid _:=r1;have ag:Hid _:=r2;have af:Hid _:=r3;have ah:Hid _:=HO;have i0:(0:Int)<=(k:Int):=om
      have i1:(k:Int)<=(cap:Int):=om
      obtain⟨x0,x1,x2,x3⟩:=a0F ai;clear r1 r2 r3 HO ai c0 c1 c2 c3 ae ab;go_wp2_with (at_builtin;first | (refine a0a rfl (.tmp 53) (.tmp 56) 67 rfl _ _ _ rfl rfl aj.o ?_;clear aj) | (refine a0a rfl (.tmp 58) (.tmp 60) 67 rfl _ _ _ rfl rfl ag.o ?_;clear ag) | (refine a0a rfl (.tmp 62) (.tmp 63) 67 rfl _ _ _ rfl rfl af.o ?_;clear af))
      go_ret;exact⟨_,rfl,by rw[HL.o];exact ah.o.1,ah.o.2⟩
   | true =>
    have aO:k<l.length:=hK rfl;have HL:Hid (Bk.learn l s=l.take k++s :: l.drop (k+1)):=by
     have hu:Bk.Known l s:=b0o al.o.1;show(if ¬Bk.may s\/(¬Bk.Known l s/\30<=l.length) then l else Bk.lo l s++s :: Bk.hi l s)=_;rw[iN (λh=>h.elim (λh=>h hm) (λh=>h.1 hu)),al.o.2.lo,al.o.2.hi_old aL.o hu]
    clear ap hK aq;(go_wp2_with fail);refine ar.mono ?_;rintro e w2 ⟨rfl,ae,ak⟩;cases ao with
    | none =>
     have:=aD.o rfl;omega
    | some ad =>
     by_cases hkc:k+1=cap
     ·subst hkc;obtain⟨cs,a1,aw,X',a2,ay,Y,a3,aF,Z,am,r1,r2,r3,ai,HO⟩:=a3c w w2 ak.o _ s (by rw[hs];rfl) ae (some ad) (k+1) (l.take k) k (by simp;omega) ((an.o w (b0h _ _)).take k az) (λh=>by cases h) (some ad) 0 (l.drop (k+1)) 0 (by simp;omega) (BEL.dropZ om) (λh=>by cases h) om (k+1) om;rw[show((k+1:Nat):Int)=(k:Int)+1 by omega] at am;have aj:Hid _:=r1;have ag:Hid _:=r2;have af:Hid _:=r3;have ah:Hid _:=HO;have i0:(0:Int)<=(k:Int):=om
      have i1:(k:Int)<=((k+1):Int):=om
      obtain⟨x0,x1,x2,x3⟩:=a0F ai;clear r1 r2 r3 HO ai c0 c1 c2 c3 ae ab;go_wp2_with (at_builtin;first | (refine a0a rfl (.tmp 53) (.tmp 56) 67 rfl _ _ _ rfl rfl aj.o ?_;clear aj) | (refine a0a rfl (.tmp 58) (.tmp 60) 67 rfl _ _ _ rfl rfl ag.o ?_;clear ag) | (refine a0a rfl (.tmp 62) (.tmp 63) 67 rfl _ _ _ rfl rfl af.o ?_;clear af))
      go_ret;exact⟨_,rfl,by rw[HL.o];exact ah.o.1,ah.o.2⟩
     ·obtain⟨cs,a1,aw,X',a2,ay,Y,a3,aF,Z,am,r1,r2,r3,ai,HO⟩:=a3c w w2 ak.o _ s (by rw[hs];rfl) ae (some ad) cap (l.take k) k (by simp;omega) ((an.o w (b0h _ _)).take k az) (λh=>by cases h) (some (ad.add ((k+1)*4))) (cap-(k+1)) (l.drop (k+1)) (l.length-(k+1)) (by simp) ((an.o w (b0h _ _)).dropA (k+1) om) (λh=>by cases h) om (k+1+(l.length-(k+1))) om;rw[show((k+1+(l.length-(k+1)):Nat):Int)=(k:Int)+1+((l.length-(k+1):Nat):Int) by omega] at am;have aj:Hid _:=r1;have ag:Hid _:=r2;have af:Hid _:=r3;have ah:Hid _:=HO;have i0:(0:Int)<=(k:Int):=om
      have i1:(k:Int)<=(cap:Int):=om
      obtain⟨x0,x1,x2,x3⟩:=a0F ai;clear r1 r2 r3 HO ai c0 c1 c2 c3 ae ab;go_wp2_with (at_builtin;first | (refine a0a rfl (.tmp 53) (.tmp 56) 67 rfl _ _ _ rfl rfl aj.o ?_;clear aj) | (refine a0a rfl (.tmp 58) (.tmp 60) 67 rfl _ _ _ rfl rfl ag.o ?_;clear ag) | (refine a0a rfl (.tmp 62) (.tmp 63) 67 rfl _ _ _ rfl rfl af.o ?_;clear af))
      go_ret;exact⟨_,rfl,by rw[HL.o];exact ah.o.1,ah.o.2⟩
 ·rw[b0j hm] at ar;have HL:Hid _:=ap.o (Or.inl hm);clear ap al hK hm;(go_wp2_with fail);refine ar.mono ?_;rintro e w2 ⟨rfl,ae,ak⟩;obtain⟨a1,aw,w3,r,HO⟩:=ab.o w2 ak.o;have HR:Hid _:=r;clear r ab;go_wp2_with (at_builtin;refine a0a rfl (.const sN) (.tmp 37) 67 rfl _ _ _ rfl rfl HR.o ?_)
  go_ret;exact⟨_,rfl,by rw[HL.o];exact HO.o.1,HO.o.2⟩
theorem a9f (ao:OA) (cap:Nat) (l:List E) (n:Nat) (en:n=l.length) (vid aa ab:Int) (w:World) (m:List E) (hm:Bk.learn l ⟨vid,aa,ab,0⟩=m) (ad:Bk.Book l) (hr:BEL w ao cap l) (ac:a0s ao n cap) (h0:0<=aa) (h1:aa<18446744073709551616) :
  Calls prog 90 #[.slice ao n cap,Iv vid,Uv aa,Iv ab] w λe w'=>∃a c,e=.returned (.slice a m.length c)/\Hid (BEL w' a c m/\a0s a m.length c/\Bl w w'/\OwnE w' w.heap.size (.slice a m.length c) m):=by
 subst hm en;refine(a7L ao cap l vid aa ab w ad hr ac h0 h1).mono ?_;rintro e w' ⟨v,rfl,ho,hb⟩;obtain⟨a,c,rfl,h1,h2,_⟩:=ho.el;exact⟨a,c,rfl,h1,h2,hb,ho⟩
theorem fa_err (a b:Int) (w:World):(Instr.field 37 (.agg #[Iv a,Iv b]) 0).run prog w=.ok (Iv a) w:=by kernel_rfl
structure RelIn (w:World) (r:R) (ao:OA) (cap:Nat) (l:List G) (bo:OA) (bcap:Nat) (b:List E) (f:F):Prop where
 ways:WayRow w r.ao r.n r.cap r.vs r.ts
 rn:r.n<=9223372036854775807
 gates:GRow w ao cap l
 book:BEL w bo bcap b
 bn:b.length<=9223372036854775807
 bnil:a0s bo b.length bcap
 data:ByteRow w f.ao f.n f.cap f.bs
 dnil:a0s f.ao f.n f.cap
 dst:0<=f.dst/\f.dst<18446744073709551616
 src:0<=f.src/\f.src<18446744073709551616
theorem RelIn.below {w w':World}{r:R}{ao:OA}{cap:Nat}{l:List G}{bo:OA}{bcap:Nat}{b:List E}{f:F}(h:RelIn w r ao cap l bo bcap b f) (hb:Bl w w'):RelIn w' r ao cap l bo bcap b f :=
 ⟨h.ways.below hb,h.rn,h.gates.below hb,BEL.below h.book hb,h.bn,h.bnil,h.data.below hb,h.dnil,h.dst,h.src⟩
structure RelOut (w w':World) (f:F) (res:Rl.Res) (oo:OA) (oc:Nat) (os:List OV) (bo:OA) (bc:Nat):Prop where
 out:os.map OV.o=res.out
 row:ORw w' oo oc f os
 nil:a0s oo os.length oc
 book:BEL w' bo bc res.book
 bnil:a0s bo res.book.length bc
 low:Bl w w'
 own:OwnO w' w.heap.size (.slice oo os.length oc) f os
 bown:OwnE w' w.heap.size (.slice bo res.book.length bc) res.book
abbrev RelOut.o:=@RelOut.out
theorem orTo4 (f:Nat->Int):orTo f 4=Rl.or4 (f 0) (f 1) (f 2) (f 3):=by
 by_cases h1:f 0=0<;>by_cases h2:f 1=0<;>by_cases h3:f 2=0<;>simp[orTo,Rl.or4,Rl.or3,h1,h2,h3]
theorem core4 (a b c d:Int) (g:Nat) (ty:TypeId) (w:World) (h:w.heap[g]?=some (.cells #[Iv a,Iv b,Iv c,Iv d] ty (0,0))) :
  Calls prog 81 #[.slice (some (Pv g 0)) 4 4] w λe w'=>e=.returned (Iv (Rl.or4 a b c d))/\w'=w:=by
 have:=a5t g 0 4 4 (λi=>if i=0 then a else if i=1 then b else if i=2 then c else d) w om om (λi hi=>by
  rcases(by omega:i=0\/i=1\/i=2\/i=3) with e | e | e | e<;>subst e
  ·exact a9Y w g 0 _ _ _ h
  ·exact a9Y w g 1 _ _ _ h
  ·exact a9Y w g 2 _ _ _ h
  ·exact a9Y w g 3 _ _ _ h)
 rw[orTo4] at this;exact this
theorem a4U {a b c d:Int}(h:Rl.or4 a b c d=0):a=0/\b=0/\c=0/\d=0:=by
 unfold Rl.or4 at h;by_cases h1:a=0
 ·rw[iP h1] at h;exact⟨h1,Rl.or3_zero h⟩
 ·rw[iN h1] at h;exact absurd h h1
theorem fwrong_n {f:F}(h:f.wrong=0):f.n<=1500:=by
 unfold F.wrong wrong at h;repeat' split at h
 all_goals first | omega | (exact absurd h dd)
theorem a0c {w W W':World}(h:Bl w W) (k:Bl W W'):Bl w W':=h.trans (k.mono h.size)
theorem a9g (r:R) (ao:OA) (cap:Nat) (l:List G) (bo:OA) (bcap:Nat) (bk:List E) (p:Int) (f:F) (w:World) (al:RelIn w r ao cap l bo bcap bk f) :
  Calls prog 52 #[.agg #[.string r.name,Iv r.rev,.slice r.ao r.n r.cap],.slice ao l.length cap,.slice bo bk.length bcap,Iv p,.agg #[Uv f.dst,Uv f.src,.bool f.tagged,Iv f.prio,.bool f.drop,Iv f.vid,Iv f.type,.slice f.ao f.n f.cap]] w λe w'=>∃oo oc os bm bv,e=.returned (.tuple #[.slice oo os.length oc,.slice bm (Rl.relay r l bk p f).book.length bv,Iv (Rl.relay r l bk p f).err])/\RelOut w w' f (Rl.relay r l bk p f) oo oc os bm bv:=by
 obtain⟨W0,bE⟩:=nm (((w.alloc (.cells #[.string r.name,Iv r.rev,.slice r.ao r.n r.cap] 63)).alloc (.cells #[Iv p] 3)).alloc (.cells #[Uv f.dst,Uv f.src,.bool f.tagged,Iv f.prio,.bool f.drop,Iv f.vid,Iv f.type,.slice f.ao f.n f.cap] 31))
 obtain⟨b1,b2,b3,b4⟩:=a1x w (.cells #[.string r.name,Iv r.rev,.slice r.ao r.n r.cap] 63) (.cells #[Iv p] 3) (.cells #[Uv f.dst,Uv f.src,.bool f.tagged,Iv f.prio,.bool f.drop,Iv f.vid,Iv f.type,.slice f.ao f.n f.cap] 31);rw[<-bE.o] at b1 b2 b3 b4;have bN:Hid (Bl W0 W0):=b0h _ _;have an:Hid (∀W,Bl W0 W->Bl w W):=λW hW=>a0c b4 hW;have HC:Hid (∀W,Bl W0 W->((W.cell? (Pv w.heap.size 0)=some (.string r.name)/\W.cell? (Pv w.heap.size 1)=some (Iv r.rev)/\W.cell? (Pv w.heap.size 2)=some (.slice r.ao r.n r.cap))/\W.cell? (Pv (w.heap.size+1) 0)=some (Iv p)/\(W.cell? (Pv (w.heap.size+1+1) 0)=some (Uv f.dst)/\W.cell? (Pv (w.heap.size+1+1) 1)=some (Uv f.src)/\W.cell? (Pv (w.heap.size+1+1) 2)=some (.bool f.tagged)/\W.cell? (Pv (w.heap.size+1+1) 3)=some (Iv f.prio)/\W.cell? (Pv (w.heap.size+1+1) 4)=some (.bool f.drop)/\W.cell? (Pv (w.heap.size+1+1) 5)=some (Iv f.vid)/\W.cell? (Pv (w.heap.size+1+1) 6)=some (Iv f.type)/\W.cell? (Pv (w.heap.size+1+1) 7)=some (.slice f.ao f.n f.cap)))):=λW hW=>⟨a2d (keep b1 hW),a9Y W _ 0 _ _ _ (keep b2 hW),a0U (keep b3 hW)⟩
 have HH:Hid (∀W,Bl W0 W->W.heap[w.heap.size+1]?=some (.cells #[Iv p] 3)):=λW hW=>keep b2 hW;have ac:Hid (∀W,Bl W0 W->RelIn W r ao cap l bo bcap bk f):=λW hW=>(al.below b4).below hW;have br:Hid (∀W,Bl W0 W->Calls prog 82 #[.agg #[.string r.name,Iv r.rev,.slice r.ao r.n r.cap]] W λe w'=>e=.returned (Iv r.wrong)/\Hid (Bl W0 w')):=λW hW=>(a4l r.name r.rev r.ao r.n r.cap r.vs r.ts W (ac.o W hW).rn (ac.o W hW).ways).mono (λe w' h=>⟨h.1,a0c hW h.2⟩);have bF:Hid (∀W,Bl W0 W->Calls prog 83 #[.slice ao l.length cap] W λe w'=>e=.returned (.agg #[Iv (Rl.wrong l).1,Iv (Rl.wrong l).2])/\Hid (Bl W0 w')):=λW hW=>(a6d ao cap l W (ac.o W hW).gates).mono (λe w' h=>⟨h.1,a0c hW h.2⟩);have bt:Hid (∀W,Bl W0 W->Calls prog 84 #[.slice bo bk.length bcap] W λe w'=>e=.returned (.agg #[Iv (Bk.wrong (at' bk) bk.length).1,Iv (Bk.wrong (at' bk) bk.length).2])/\Hid (Bl W0 w')):=λW hW=>(a7E bo bcap bk W (ac.o W hW).bn (ac.o W hW).book).mono (λe w' h=>⟨h.1,a0c hW h.2⟩);have bf:Hid (∀W,Bl W0 W->Calls prog 74 #[.agg #[Uv f.dst,Uv f.src,.bool f.tagged,Iv f.prio,.bool f.drop,Iv f.vid,Iv f.type,.slice f.ao f.n f.cap]] W λe w'=>e=.returned (Iv f.wrong)/\Hid (Bl W0 w')):=λW hW=>(a5v f.dst f.src f.tagged f.prio f.drop f.vid f.type f.ao f.n f.cap W (ac.o W hW).src.1 (ac.o W hW).src.2).mono (λe w' h=>⟨h.1,a0c hW h.2⟩);have bz:Hid (∀W,Bl W0 W->Calls prog 81 #[.slice (some (Pv W.heap.size 0)) 4 4] (W.alloc (.cells #[Iv r.wrong,Iv (Rl.wrong l).1,Iv (Bk.wrong (at' bk) bk.length).1,Iv f.wrong] 35)) λe w'=>e=.returned (Iv (Rl.errR r l bk f))/\Hid (Bl W0 w')):=λW hW=>(core4 _ _ _ _ W.heap.size _ _ (a9Z _ _)).mono (λe w' h=>⟨h.1,by rw[h.2];exact hW.alloc hW.size _⟩);have bI:∀(a b:Int) (W:World),(Instr.field 37 (.agg #[Iv a,Iv b]) 0).run prog W=.ok (Iv a) W:=fa_err;have aX:Hid (Rl.errR r l bk f=0->Rg.Right r.vs r.ts r.n/\Rl.Right l/\Bk.Book bk/\f.n<=1500):=λh=>by
  obtain⟨h1,h2,h3,h4⟩:=a4U h;exact⟨(Rg.wrong_zero h1).2.2,Rl.right_of h2,Bk.wrong_book.1 h3,fwrong_n h4⟩
 have a9:Hid (Rl.errR r l bk f≠0->Rl.relay r l bk p f=⟨[],[],Rl.errR r l bk f⟩):=λh=>iN h;have ba:Hid (Rl.errR r l bk f=0->Rl.relay r l bk p f=(if Rl.idx l p l.length<0 then⟨[],[],6⟩ else if Rl.stays r l p f=true then⟨[],bk,0⟩ else⟨Rl.outs r l bk p f,Rl.learnt bk l p f,0⟩)):=λh=>iP h;have aj:Hid (∀W bB,Bl W0 W->RelOut w W f ⟨[],[],bB⟩ none 0 [] none 0):=λW bB hW=>⟨rfl,⟨CRow.none _ _ _ _ _,λx h=>by simp at h⟩,λ_=>⟨rfl,rfl⟩,CRow.none _ _ _ _ _,λ_=>⟨rfl,rfl⟩,an.o W hW,OwnO.nil _ _ _,OwnE.nil _ _⟩
 obtain⟨⟨c0,c1,c2⟩,c3,c4,c5,c6,c7,c8,c9,af,ae⟩:=HC.o W0 bN.o;clear b1 b2 b3 b4 al;generalize hrw:r.wrong=e1 at *;generalize hgw:(Rl.wrong l).1=e2 at *;generalize hgw2:(Rl.wrong l).2=e2' at *;generalize hbw:(Bk.wrong (at' bk) bk.length).1=e3 at *;generalize hbw2:(Bk.wrong (at' bk) bk.length).2=e3' at *;generalize hfw:f.wrong=e4 at *;clear hrw hgw hgw2 hbw hbw2 hfw;go_enter func52,ntmps52;(go_wp2_with fail);rw[<-bE.o];go_cut [13] (λv W=>v=Iv (Rl.errR r l bk f)/\Hid (Bl W0 W))
 case first =>
  go_region_held3 (λW=>((W.cell? (Pv w.heap.size 0)=some (.string r.name)/\W.cell? (Pv w.heap.size 1)=some (Iv r.rev)/\W.cell? (Pv w.heap.size 2)=some (.slice r.ao r.n r.cap))/\W.cell? (Pv (w.heap.size+1) 0)=some (Iv p)/\(W.cell? (Pv (w.heap.size+1+1) 0)=some (Uv f.dst)/\W.cell? (Pv (w.heap.size+1+1) 1)=some (Uv f.src)/\W.cell? (Pv (w.heap.size+1+1) 2)=some (.bool f.tagged)/\W.cell? (Pv (w.heap.size+1+1) 3)=some (Iv f.prio)/\W.cell? (Pv (w.heap.size+1+1) 4)=some (.bool f.drop)/\W.cell? (Pv (w.heap.size+1+1) 5)=some (Iv f.vid)/\W.cell? (Pv (w.heap.size+1+1) 6)=some (Iv f.type)/\W.cell? (Pv (w.heap.size+1+1) 7)=some (.slice f.ao f.n f.cap))))
   (first | (exact HC.o _ (Hid.o aS)) | (exact HC.o _ (b0i (Hid.o aS))) | (exact HC.o _ (a1u (Hid.o aS) _)))
   (first | (go_at_call 82;refine(br.o _ (by first | exact(Hid.o aS) | exact b0i (Hid.o aS))).mono ?_;rintro e w1 ⟨rfl,HB⟩) | (go_at_call 83;refine(bF.o _ (by first | exact(Hid.o aS) | exact b0i (Hid.o aS))).mono ?_;rintro e w1 ⟨rfl,HB⟩) | (go_at_call 84;refine(bt.o _ (by first | exact(Hid.o aS) | exact b0i (Hid.o aS))).mono ?_;rintro e w1 ⟨rfl,HB⟩) | (go_at_call 74;refine(bf.o _ (by first | exact(Hid.o aS) | exact b0i (Hid.o aS))).mono ?_;rintro e w1 ⟨rfl,HB⟩) | (go_at_call 81;refine(bz.o _ (by first | exact(Hid.o aS) | exact b0i (Hid.o aS))).mono ?_;rintro e w1 ⟨rfl,HB⟩))
  (all_goals go_wp2_with fail);all_goals go_meet
  all_goals exact⟨rfl,HB⟩
 case rest =>
 obtain⟨rfl,aq⟩:=hcut;clear br bF bt bf bz bI c0 c1 c2 c3 c4 c5 c6 c7 c8 c9 af ae;obtain⟨⟨c0,c1,c2⟩,c3,c4,c5,c6,c7,c8,c9,af,ae⟩:=HC.o wc aq.o;by_cases he:Rl.errR r l bk f=0
 ·have HX:Hid _:=ba.o he;obtain⟨hR,hG,aG,hN⟩:=aX.o he;have av:=hG.many;rw[he];clear ba a9 aX he;have au:Hid (Calls prog 85 #[.slice ao l.length cap,.func (.func 86) #[] #[.pointer (some (Pv (w.heap.size+1) 0))]] wc λe w'=>e=.returned (Iv (Rl.idx l p l.length))/\Hid (Bl W0 w')):=(a6e ao cap l (w.heap.size+1) p wc (ac.o wc aq.o).gates c3).mono (λe w' h=>⟨h.1,a0c aq.o h.2⟩);rcases Rl.idx_cases l p l.length with⟨h1,_⟩ | ⟨k,hk,h1,h2,_⟩
  ·rw[h1] at HX au;have ag:Hid (Rl.relay r l bk p f=⟨[],[],6⟩):=HX.o;clear HX ac hR hG aG hN h1;go_wp2_with (go_at_call 85;refine au.o.mono ?_;rintro e w2 ⟨rfl,aI⟩)
   go_ret3;exact⟨none,0,[],none,0,by rw[ag.o];rfl,by rw[ag.o];exact aj.o _ 6 aI.o⟩
  ·have al:Rl.inG l p=gat l k:=(by unfold Rl.inG;rw[h1,Int.toNat_natCast])
   obtain⟨b,off,rfl,_⟩:=(ac.o wc aq.o).gates.place om;have bK:l.length<=cap:=(ac.o wc aq.o).gates.row.1;obtain⟨x,hx⟩:=nn (gat l k)
   obtain⟨ab,ah⟩:=nn (Rl.wayOf f x)
   obtain⟨tr,aT⟩:=nn (r.tree ab)
   have aL:Hid (∀W,Bl W0 W->W.cell? (Pv b (off+k*4))=some (Iv x.port)/\W.cell? (Pv b (off+k*4+1))=some (.slice x.wo x.ways.length x.wcap)/\W.cell? (Pv b (off+k*4+2))=some (Iv x.plain)/\W.cell? (Pv b (off+k*4+3))=some (.slice x.oo x.opens.length x.ocap)):=λW hW=>by rw[hx];exact(ac.o W hW).gates.cells hk
   have be:Hid (∀W,Bl W0 W->GIn W x):=λW hW=>by rw[hx];exact(ac.o W hW).gates.at hk
   have am:Hid (Rl.stays r l p f=(!Rl.passes x tr ab||Rl.res f.dst)):=by
    show Rl.stays r l p f=_;unfold Rl.stays;rw[al,<-hx,<-ah,<-aT]
   have ax:Hid (Rl.stays r l p f=true->Rl.relay r l bk p f=⟨[],bk,0⟩):=λh=>by
    rw[HX.o,h1,iN om,iP h]
   have ag:Hid (Rl.stays r l p f=false->Rl.relay r l bk p f=⟨Rl.outs r l bk p f,Rl.learnt bk l p f,0⟩):=λh=>by
    rw[HX.o,h1,iN om,iN (by simp[h])]
   have ar:Hid (Rl.learnt bk l p f=Bk.learn bk ⟨ab,f.src,p,0⟩):=by
    show Rl.learnt bk l p f=_;unfold Rl.learnt;rw[al,<-hx,<-ah]
   have aC:Hid (Rl.outs r l bk p f=(l.filter (λg=>decide (g.port≠p)&&(Rl.passes g tr ab&&(!decide (Bk.Known (Rl.learnt bk l p f) (a0L ab f.dst))||decide (g.port=Bk.lookP (Rl.learnt bk l p f) (a0L ab f.dst)))))).map (Rl.leave f ab)):=by
    show Rl.outs r l bk p f=_;unfold Rl.outs;rw[al,<-hx,<-ah];unfold Rl.leads;rw[<-aT]
   have bg:Hid (∀W,Bl W0 W->Calls prog 87 #[.agg #[Uv f.dst,Uv f.src,.bool f.tagged,Iv f.prio,.bool f.drop,Iv f.vid,Iv f.type,.slice f.ao f.n f.cap],.agg #[Iv x.port,.slice x.wo x.ways.length x.wcap,Iv x.plain,.slice x.oo x.opens.length x.ocap]] W λe w'=>e=.returned (Iv ab)/\Hid (Bl W0 w')):=λW hW=>by rw[ah];exact(a9a f x W).mono (λe w' h=>⟨h.1,a0c hW h.2⟩)
   have bs:Hid (∀W,Bl W0 W->Calls prog 76 #[.agg #[.string r.name,Iv r.rev,.slice r.ao r.n r.cap],Iv ab] W λe w'=>e=.returned (Iv tr)/\Hid (Bl W0 w')):=λW hW=>by rw[aT];exact(a3G r.name r.rev r.ao r.n r.cap r.vs r.ts ab W hR (ac.o W hW).ways).mono (λe w' h=>⟨h.1,a0c hW h.2⟩)
   have ik:(0:Int)<=(k:Int):=om
   have nk:(k:Int)<(l.length:Int):=om
   rw[h1] at au;clear h1 h2 al HX ah aT hx hR;(go_wp2_with fail);refine au.o.mono ?_;rintro e w2 ⟨rfl,aI⟩;clear au c0 c1 c2 c3 c4 c5 c6 c7 c8 c9 af ae;obtain⟨⟨c0,c1,c2⟩,c3,c4,c5,c6,c7,c8,c9,af,ae⟩:=HC.o w2 aI.o;obtain⟨g0,g1,g2,g3⟩:=aL.o w2 aI.o;have aW:Hid (∀W,Bl W0 W->((W.cell? (Pv w.heap.size 0)=some (.string r.name)/\W.cell? (Pv w.heap.size 1)=some (Iv r.rev)/\W.cell? (Pv w.heap.size 2)=some (.slice r.ao r.n r.cap))/\W.cell? (Pv (w.heap.size+1) 0)=some (Iv p)/\(W.cell? (Pv (w.heap.size+1+1) 0)=some (Uv f.dst)/\W.cell? (Pv (w.heap.size+1+1) 1)=some (Uv f.src)/\W.cell? (Pv (w.heap.size+1+1) 2)=some (.bool f.tagged)/\W.cell? (Pv (w.heap.size+1+1) 3)=some (Iv f.prio)/\W.cell? (Pv (w.heap.size+1+1) 4)=some (.bool f.drop)/\W.cell? (Pv (w.heap.size+1+1) 5)=some (Iv f.vid)/\W.cell? (Pv (w.heap.size+1+1) 6)=some (Iv f.type)/\W.cell? (Pv (w.heap.size+1+1) 7)=some (.slice f.ao f.n f.cap)))/\(W.cell? (Pv b (off+k*4))=some (Iv x.port)/\W.cell? (Pv b (off+k*4+1))=some (.slice x.wo x.ways.length x.wcap)/\W.cell? (Pv b (off+k*4+2))=some (Iv x.plain)/\W.cell? (Pv b (off+k*4+3))=some (.slice x.oo x.opens.length x.ocap))):=λW hW=>⟨HC.o W hW,aL.o W hW⟩
   (go_wp2_with fail);go_cut [15] (λv W=>v=Iv ab/\Hid (Bl W0 W))
   case first =>
    go_region_held3 (λW=>((W.cell? (Pv w.heap.size 0)=some (.string r.name)/\W.cell? (Pv w.heap.size 1)=some (Iv r.rev)/\W.cell? (Pv w.heap.size 2)=some (.slice r.ao r.n r.cap))/\W.cell? (Pv (w.heap.size+1) 0)=some (Iv p)/\(W.cell? (Pv (w.heap.size+1+1) 0)=some (Uv f.dst)/\W.cell? (Pv (w.heap.size+1+1) 1)=some (Uv f.src)/\W.cell? (Pv (w.heap.size+1+1) 2)=some (.bool f.tagged)/\W.cell? (Pv (w.heap.size+1+1) 3)=some (Iv f.prio)/\W.cell? (Pv (w.heap.size+1+1) 4)=some (.bool f.drop)/\W.cell? (Pv (w.heap.size+1+1) 5)=some (Iv f.vid)/\W.cell? (Pv (w.heap.size+1+1) 6)=some (Iv f.type)/\W.cell? (Pv (w.heap.size+1+1) 7)=some (.slice f.ao f.n f.cap)))/\(W.cell? (Pv b (off+k*4))=some (Iv x.port)/\W.cell? (Pv b (off+k*4+1))=some (.slice x.wo x.ways.length x.wcap)/\W.cell? (Pv b (off+k*4+2))=some (Iv x.plain)/\W.cell? (Pv b (off+k*4+3))=some (.slice x.oo x.opens.length x.ocap)))
     (first | (exact aW.o _ (Hid.o aS)) | (exact aW.o _ (b0i (Hid.o aS))))
     (first | (go_at_call 87;refine(bg.o _ (by first | exact(Hid.o aS) | exact b0i (Hid.o aS))).mono ?_;rintro e w3 ⟨rfl,aJ⟩))
    (all_goals go_wp2_with fail);all_goals go_meet
    all_goals exact⟨rfl,aJ⟩
   case rest =>
   rename World=>w3
   obtain⟨rfl,aJ⟩:=hcut;clear aW bg c0 c1 c2 c3 c4 c5 c6 c7 c8 c9 af ae g0 g1 g2 g3;obtain⟨⟨c0,c1,c2⟩,c3,c4,c5,c6,c7,c8,c9,af,ae⟩:=HC.o w3 aJ.o;(go_wp2_with fail);refine(bs.o w3 aJ.o).mono ?_;rintro e w4 ⟨rfl,bM⟩;(go_wp2_with fail);refine(a7G ab tr w4).mono ?_;rintro e w5 ⟨rfl,aV,a0,bl⟩;obtain⟨Bw,bu⟩:=nm w4.heap.size
   obtain⟨Bq,bH⟩:=nm (w4.heap.size+1)
   obtain⟨Bf,bj⟩:=nm w5.heap.size
   rw[<-bH.o,<-bu.o];rw[<-bH.o] at a0;rw[<-bu.o] at aV;obtain⟨W6,a7⟩:=nm (w5.alloc (.cells #[.func (.func 129) #[] #[.pointer (some (Pv Bw 0)),.pointer (some (Pv Bq 0))]] 162))
   have aM:Bl w5 W6:=(by rw[a7.o];exact bA1 _ _)
   have aY:W6.heap[Bf]?=some (.cells #[.func (.func 129) #[] #[.pointer (some (Pv Bw 0)),.pointer (some (Pv Bq 0))]] 162):=(by rw[a7.o,bj.o];exact a9Z _ _)
   have aD:Bl W0 W6:=a0c (a0c bM.o bl) aM;have ad:Hid (∀W,Bl W6 W->Bl W0 W):=λW hW=>a0c aD hW;have ai:Hid (∀W,Bl W6 W->((W.cell? (Pv w.heap.size 0)=some (.string r.name)/\W.cell? (Pv w.heap.size 1)=some (Iv r.rev)/\W.cell? (Pv w.heap.size 2)=some (.slice r.ao r.n r.cap))/\W.cell? (Pv (w.heap.size+1) 0)=some (Iv p)/\(W.cell? (Pv (w.heap.size+1+1) 0)=some (Uv f.dst)/\W.cell? (Pv (w.heap.size+1+1) 1)=some (Uv f.src)/\W.cell? (Pv (w.heap.size+1+1) 2)=some (.bool f.tagged)/\W.cell? (Pv (w.heap.size+1+1) 3)=some (Iv f.prio)/\W.cell? (Pv (w.heap.size+1+1) 4)=some (.bool f.drop)/\W.cell? (Pv (w.heap.size+1+1) 5)=some (Iv f.vid)/\W.cell? (Pv (w.heap.size+1+1) 6)=some (Iv f.type)/\W.cell? (Pv (w.heap.size+1+1) 7)=some (.slice f.ao f.n f.cap))/\W.cell? (Pv Bf 0)=some (.func (.func 129) #[] #[.pointer (some (Pv Bw 0)),.pointer (some (Pv Bq 0))])/\(W.cell? (Pv b (off+k*4))=some (Iv x.port)/\W.cell? (Pv b (off+k*4+1))=some (.slice x.wo x.ways.length x.wcap)/\W.cell? (Pv b (off+k*4+2))=some (Iv x.plain)/\W.cell? (Pv b (off+k*4+3))=some (.slice x.oo x.opens.length x.ocap)))):=λW hW=>⟨(HC.o W (ad.o W hW)).1,(HC.o W (ad.o W hW)).2.1,(HC.o W (ad.o W hW)).2.2,a9Y W _ 0 _ _ _ (keep aY hW),aL.o W (ad.o W hW)⟩
   have ap:Hid (∀W,Bl W6 W->W.cell? (Pv Bw 0)=some (Iv ab)/\W.cell? (Pv Bq 0)=some (Iv tr)/\W.cell? (Pv Bf 0)=some (.func (.func 129) #[] #[.pointer (some (Pv Bw 0)),.pointer (some (Pv Bq 0))])/\W.cell? (Pv (w.heap.size+1) 0)=some (Iv p)):=λW hW=>⟨a9Y W _ 0 _ _ _ (keep (keep aV aM) hW),a9Y W _ 0 _ _ _ (keep (keep a0 aM) hW),a9Y W _ 0 _ _ _ (keep aY hW),(HC.o W (ad.o W hW)).2.1⟩
   have az:Hid (∀W,Bl W6 W->Calls prog 129 #[.agg #[Iv x.port,.slice x.wo x.ways.length x.wcap,Iv x.plain,.slice x.oo x.opens.length x.ocap],.pointer (some (Pv Bw 0)),.pointer (some (Pv Bq 0))] W λe w'=>e=.returned (.bool (Rl.passes x tr ab))/\Hid (Bl W6 w')):=λW hW=>(a5u x Bw Bq ab tr W (be.o W (ad.o W hW)) (ap.o W hW).1 (ap.o W hW).2.1).mono (λe w' h=>⟨h.1,a0c hW h.2⟩);have bc:Hid (∀W,Bl W6 W->Calls prog 89 #[Uv f.dst] W λe w'=>e=.returned (.bool (Rl.res f.dst))/\Hid (Bl W6 w')):=λW hW=>(a8Z f.dst W).mono (λe w' h=>⟨h.1,by rw[h.2];exact hW⟩);have a5:Hid (Bl W6 W6):=b0h _ _;have bR:=aG.many;have aB:Hid (∀W,Bl W6 W->∃a1 c1 W2,(Builtin.append_ #[67,67] 67 #[sN,.slice bo bk.length bcap]).run prog W=.ok (.slice a1 bk.length c1) W2/\Hid (RelOut w W2 f ⟨[],bk,0⟩ none 0 [] a1 c1)):=λW hW=>by
    obtain⟨a1,c1,W2,r2,o2,b2,_⟩:=a2q W W.heap.size sN [] (OwnE.nil _ _) bo bcap bk bk.length rfl (ac.o W (ad.o W hW)).book (ac.o W (ad.o W hW)).bnil (by simp;omega) (b0g _);obtain⟨a2,c2,e2,q1,q2,_⟩:=o2.el;injection e2 with e3 _ e4;subst e3 e4;exact⟨a1,c1,W2,r2,rfl,⟨CRow.none _ _ _ _ _,λx h=>by simp at h⟩,λ_=>⟨rfl,rfl⟩,q1,q2,an.o _ (a0c (ad.o W hW) b2),OwnO.nil _ _ _,o2.mono (an.o _ (ad.o W hW)).size⟩
   clear aV a0 bl aM aY aD bs aL be c0 c1 c2 c3 c4 c5 c6 c7 c8 c9 af ae;(go_wp2_with fail);rw[<-bj.o,<-a7.o];go_cut [63] (λv W=>v=.bool (Rl.stays r l p f)/\Hid (Bl W6 W))
   case first =>
    obtain⟨⟨c0,c1,c2⟩,c3,⟨c4,c5,c6,c7,c8,c9,af,ae⟩,aN,g0,g1,g2,g3⟩:=ai.o W6 a5.o;cases hps:Rl.passes x tr ab with
    | false =>
     rw[hps] at az am;have a3:Hid (Rl.stays r l p f=true):=am.o;clear hps am ax ag ar aC aB ap ac;refine wp_region_held_drew (S:=λW=>((W.cell? (Pv w.heap.size 0)=some (.string r.name)/\W.cell? (Pv w.heap.size 1)=some (Iv r.rev)/\W.cell? (Pv w.heap.size 2)=some (.slice r.ao r.n r.cap))/\W.cell? (Pv (w.heap.size+1) 0)=some (Iv p)/\(W.cell? (Pv (w.heap.size+1+1) 0)=some (Uv f.dst)/\W.cell? (Pv (w.heap.size+1+1) 1)=some (Uv f.src)/\W.cell? (Pv (w.heap.size+1+1) 2)=some (.bool f.tagged)/\W.cell? (Pv (w.heap.size+1+1) 3)=some (Iv f.prio)/\W.cell? (Pv (w.heap.size+1+1) 4)=some (.bool f.drop)/\W.cell? (Pv (w.heap.size+1+1) 5)=some (Iv f.vid)/\W.cell? (Pv (w.heap.size+1+1) 6)=some (Iv f.type)/\W.cell? (Pv (w.heap.size+1+1) 7)=some (.slice f.ao f.n f.cap))/\W.cell? (Pv Bf 0)=some (.func (.func 129) #[] #[.pointer (some (Pv Bw 0)),.pointer (some (Pv Bq 0))])/\(W.cell? (Pv b (off+k*4))=some (Iv x.port)/\W.cell? (Pv b (off+k*4+1))=some (.slice x.wo x.ways.length x.wcap)/\W.cell? (Pv b (off+k*4+2))=some (Iv x.plain)/\W.cell? (Pv b (off+k*4+3))=some (.slice x.oo x.opens.length x.ocap)))) kr (ai.o _ (b0i a5.o)) (λaa => ?_);refine a0l 0 52 aa ?_;simp only[aP];refine a0l 1 53 aa ?_;simp only[aP];refine a0l 2 54 aa ?_;simp only[aP];refine a0l 3 55 aa ?_;simp only[aP];refine a0l 4 56 aa ?_;simp only[aP];refine a1N 5 (λK hK=>?_);go_simp;refine(az.o _ (b0i a5.o)).mono ?_;rintro e wA ⟨rfl,aE⟩;refine hK.out _ _ (ai.o _ aE.o) (λaa => ?_);clear hK K;refine a0l 6 58 aa ?_;simp only[aP];refine a0l 7 59 aa ?_;simp only[aP];refine a1F (i:=8) (some 60) rfl rfl kr kr kr ii (by rfl) aa ?_;simp only[aP];refine a1F (i:=9) (some 61) rfl rfl kr kr kr ii (by rfl) aa ?_;simp only[aP];refine a1F (i:=10) (some 62) rfl rfl kr kr kr ii (by rfl) aa ?_;simp only[aP];refine a0l 11 63 aa ?_;simp only[aP];refine wpAnyH_done kr ?_ _;(all_goals go_wp2_with fail);all_goals go_meet
     all_goals exact⟨by rw[a3.o],aE⟩
    | true =>
     rw[hps] at az am;have a3:Hid (Rl.stays r l p f=Rl.res f.dst):=am.o;clear hps am ax ag ar aC aB ap ac;go_region_held3 (λW=>((W.cell? (Pv w.heap.size 0)=some (.string r.name)/\W.cell? (Pv w.heap.size 1)=some (Iv r.rev)/\W.cell? (Pv w.heap.size 2)=some (.slice r.ao r.n r.cap))/\W.cell? (Pv (w.heap.size+1) 0)=some (Iv p)/\(W.cell? (Pv (w.heap.size+1+1) 0)=some (Uv f.dst)/\W.cell? (Pv (w.heap.size+1+1) 1)=some (Uv f.src)/\W.cell? (Pv (w.heap.size+1+1) 2)=some (.bool f.tagged)/\W.cell? (Pv (w.heap.size+1+1) 3)=some (Iv f.prio)/\W.cell? (Pv (w.heap.size+1+1) 4)=some (.bool f.drop)/\W.cell? (Pv (w.heap.size+1+1) 5)=some (Iv f.vid)/\W.cell? (Pv (w.heap.size+1+1) 6)=some (Iv f.type)/\W.cell? (Pv (w.heap.size+1+1) 7)=some (.slice f.ao f.n f.cap))/\W.cell? (Pv Bf 0)=some (.func (.func 129) #[] #[.pointer (some (Pv Bw 0)),.pointer (some (Pv Bq 0))])/\(W.cell? (Pv b (off+k*4))=some (Iv x.port)/\W.cell? (Pv b (off+k*4+1))=some (.slice x.wo x.ways.length x.wcap)/\W.cell? (Pv b (off+k*4+2))=some (Iv x.plain)/\W.cell? (Pv b (off+k*4+3))=some (.slice x.oo x.opens.length x.ocap))))
      (first | (exact ai.o _ (Hid.o aS)) | (exact ai.o _ (b0i (Hid.o aS))))
      (first | (go_at_call 129;refine(az.o _ (by first | exact(Hid.o aS) | exact b0i (Hid.o aS))).mono ?_;rintro e wA ⟨rfl,aE⟩) | (go_at_call 89;refine(bc.o _ (by first | exact(Hid.o aS) | exact b0i (Hid.o aS))).mono ?_;rintro e wA ⟨rfl,aE⟩))
     (all_goals go_wp2_with fail);all_goals go_meet
     all_goals exact⟨by rw[a3.o],aE⟩
   case rest =>
   rename World=>w7
   obtain⟨rfl,aw⟩:=hcut;clear az bc am;obtain⟨⟨c0,c1,c2⟩,c3,⟨c4,c5,c6,c7,c8,c9,af,ae⟩,aN,g0,g1,g2,g3⟩:=ai.o w7 aw.o;cases hst:Rl.stays r l p f with
   | true =>
    obtain⟨a1,bL,W2,r2,HO⟩:=aB.o w7 aw.o;have bq:Hid _:=r2;have aF:Hid _:=ax.o hst;clear aB r2 ax ag ar aC ac hst;go_wp2_with (at_builtin;refine a0a rfl (.const sN) (.tmp 64) 67 rfl _ _ _ rfl rfl bq.o ?_;clear bq)
    go_ret3;exact⟨none,0,[],a1,bL,by rw[aF.o];rfl,by rw[aF.o];exact HO.o⟩
   | false =>
    have aF:Hid _:=ag.o hst;obtain⟨m,hm⟩:=nn (Rl.learnt bk l p f)
    have a6:Bk.learn bk ⟨ab,f.src,p,0⟩=m:=(by rw[hm];exact ar.o.symm)
    have bD:Bk.Book m:=(by rw[<-a6];exact Bk.learn_book aG _)
    have aU:=aC.o;rw[<-hm] at aU;obtain⟨sn,bb⟩:=nn (Bk.lookP m (a0L ab f.dst))
    obtain⟨kn,aZ⟩:=nn (decide (Bk.Known m (a0L ab f.dst)))
    have bP:Hid (Rl.outs r l bk p f=(l.filter (λg=>decide (g.port≠p)&&(Rl.passes g tr ab&&(!kn||decide (g.port=sn))))).map (Rl.leave f ab)):=(by rw[bb,aZ];exact aU)
    have bw:Hid (Rl.relay r l bk p f=⟨Rl.outs r l bk p f,m,0⟩):=(by rw[aF.o,hm];rfl)
    have h7:=ad.o w7 aw.o;have bi:Hid (Calls prog 90 #[.slice bo bk.length bcap,Iv ab,Uv f.src,Iv p] w7 λe w'=>∃y c,e=.returned (.slice y m.length c)/\Hid (BEL w' y c m/\a0s y m.length c/\Bl w7 w'/\OwnE w' w7.heap.size (.slice y m.length c) m)):=a9f bo bcap bk _ rfl ab f.src p w7 m a6 aG (ac.o w7 h7).book (ac.o w7 h7).bnil (ac.o w7 h7).src.1 (ac.o w7 h7).src.2;have bG:Hid (∀(W:World) (y:OA) (c:Nat),BEL W y c m->Calls prog 91 #[.slice y m.length c,Iv ab,Uv f.dst] W λe w'=>e=.returned (.tuple #[Iv sn,.bool kn])/\Hid (Bl W w')):=λW y c h=>by rw[bb,aZ];exact(a8Y y c m ab f.dst W bD h).mono (λe w' h=>⟨h.1,h.2⟩)
    clear ax ag aB hst aU hm a6 bb aZ aF aC ar h7;(go_wp2_with fail);refine bi.o.mono ?_;rintro e w8 ⟨y,c,rfl,H8⟩;have bd:Hid (Bl W6 w8):=a0c aw.o H8.o.2.2.1;clear bi c0 c1 c2 c3 c4 c5 c6 c7 c8 c9 af ae aN g0 g1 g2 g3;obtain⟨⟨c0,c1,c2⟩,c3,⟨c4,c5,c6,c7,c8,c9,af,ae⟩,aN,g0,g1,g2,g3⟩:=ai.o w8 bd.o;(go_wp2_with fail);refine(bG.o w8 y c H8.o.1).mono ?_;rintro e w9 ⟨rfl,H9⟩;clear bG c0 c1 c2 c3 c4 c5 c6 c7 c8 c9 af ae aN g0 g1 g2 g3;obtain⟨WX,aR⟩:=nm ((w9.alloc (.cells #[Iv sn] 3)).alloc (.cells #[.bool kn] 4))
    have aQ:Bl w9 WX:=(by rw[aR.o];exact bA2 _ _ _)
    have a8:WX.heap[w9.heap.size]?=some (.cells #[Iv sn] 3):=(by rw[aR.o];exact b0d _ _ _)
    have a4:WX.heap[w9.heap.size+1]?=some (.cells #[.bool kn] 4):=(by rw[aR.o];exact b0c _ _ _)
    obtain⟨Bs,bh⟩:=nm w9.heap.size
    obtain⟨aH,bp⟩:∃aH,Hid (aH=w9.heap.size+1):=⟨_,rfl⟩
    have ay:Hid (Bl W6 WX):=a0c (a0c bd.o H9.o) aQ;have bJ:Hid (OwnE WX w.heap.size (.slice y m.length c) m):=OwnE.below (OwnE.below (OwnE.mono H8.o.2.2.2 (an.o _ (ad.o _ aw.o)).size) H9.o) aQ;have bA:Hid (BEL WX y c m/\a0s y m.length c):=⟨(BEL.below (BEL.below H8.o.1 H9.o) aQ),H8.o.2.1⟩
    rw[<-bh.o] at a8;rw[<-bp.o] at a4;have bx:Hid (Calls prog 94 #[.agg #[Uv f.dst,Uv f.src,.bool f.tagged,Iv f.prio,.bool f.drop,Iv f.vid,Iv f.type,.slice f.ao f.n f.cap],Iv ab] WX λe w'=>e=.returned (.func (.func 133) #[] #[.pointer (some (Pv (WX.heap.size+1+1+1) 0)),.pointer (some (Pv (WX.heap.size+1) 0)),.pointer (some (Pv (WX.heap.size+1+1) 0)),.pointer (some (Pv WX.heap.size 0))])/\Hid (Snd w' f ab (WX.heap.size+1+1+1) (WX.heap.size+1) (WX.heap.size+1+1) WX.heap.size/\Bl WX w')):=(a7I f ab WX).mono (λe w' h=>⟨h.1,h.2⟩);have bC:Hid (∀W,(Snd W f ab (WX.heap.size+1+1+1) (WX.heap.size+1) (WX.heap.size+1+1) WX.heap.size/\Bl WX W)->Calls prog 93 #[.slice (some (Pv b off)) l.length cap,.func (.func 92) #[] #[.pointer (some (Pv (w.heap.size+1) 0)),.pointer (some (Pv Bf 0)),.pointer (some (Pv aH 0)),.pointer (some (Pv Bs 0))],.func (.func 133) #[] #[.pointer (some (Pv (WX.heap.size+1+1+1) 0)),.pointer (some (Pv (WX.heap.size+1) 0)),.pointer (some (Pv (WX.heap.size+1+1) 0)),.pointer (some (Pv WX.heap.size 0))]] W λe w'=>∃oo oc os,e=.returned (.slice oo os.length oc)/\Hid (RelOut w w' f ⟨Rl.outs r l bk p f,m,0⟩ oo oc os y c)):=λW hW=>by
     have aO:Bl W6 W:=a0c ay.o hW.2;have hi:=ac.o W (ad.o W aO);refine(sent_any (some (Pv b off)) cap l (w.heap.size+1) Bf aH Bs _ _ _ _ (λg=>decide (g.port≠p)&&(Rl.passes g tr ab&&(!kn||decide (g.port=sn)))) f ab W av hi.gates (λW' ak g hg => ?_) (λW' ak g => ?_)).mono ?_
     ·have aK:=ap.o W' (a0c aO ak);exact a9b g (w.heap.size+1) Bf aH Bs Bw Bq p ab tr sn kn W' ((hi.gates.below ak).each g hg) aK.2.2.2 aK.2.2.1 (a9Y W' _ 0 _ _ _ (keep (keep a4 hW.2) ak)) (a9Y W' _ 0 _ _ _ (keep (keep a8 hW.2) ak)) aK.1 aK.2.1
     ·exact a6f f ab g _ _ _ _ W' (hW.1.below ak) (hi.data.below ak) hi.dnil hN
     ·rintro e w' ⟨v,os,rfl,h1,h2,h3⟩;obtain⟨oo,oc,rfl,h4,h5⟩:=h2.el;exact⟨oo,oc,os,rfl,by rw[h1,bP.o],h4,h5,BEL.below (BEL.below bA.o.1 hW.2) h3,bA.o.2,an.o _ (ad.o _ (a0c aO h3)),h2.mono (an.o _ (ad.o _ aO)).size,OwnE.below (OwnE.below bJ.o hW.2) h3⟩
    obtain⟨⟨c0,c1,c2⟩,c3,⟨c4,c5,c6,c7,c8,c9,af,ae⟩,_⟩:=ai.o WX ay.o;clear aQ a8 a4 ai ap ad ac aG hG bD;(go_upto_region 14 with fail);rw[<-bp.o,<-bh.o,<-aR.o];(go_wp2_with fail);refine bx.o.mono ?_;rintro e bO ⟨rfl,HT⟩;clear bx c0 c1 c2 c3 c4 c5 c6 c7 c8 c9 af ae;(go_wp2_with fail);refine(bC.o bO HT.o).mono ?_;rintro e bQ ⟨oo,oc,os,rfl,HO⟩;clear bC;(go_wp2_with fail);go_ret3;exact⟨oo,oc,os,y,c,by rw[bw.o];rfl,by rw[bw.o];exact HO.o⟩
 ·have dq:(Rl.errR r l bk f != 0)=true:=(by simp[he])
  have ag:Hid _:=a9.o he;clear ba a9 aX he ac;(go_wp2_with fail);go_ret3;exact⟨none,0,[],none,0,by rw[ag.o];rfl,by rw[ag.o];exact aj.o _ _ aq.o⟩
structure BkW (W:World) (g K:Nat) (bks:Nat->List E) (bo:Nat->OA) (bc:Nat->Nat):Prop where
 row:W.heap[g]?=some (.cells (rowC K 1 (λi _=>.slice (bo i) (bks i).length (bc i))) 67)
 each:∀i,i<K->BEL W (bo i) (bc i) (bks i)/\a0s (bo i) (bks i).length (bc i)/\(bks i).length<=9223372036854775807
theorem BkW.below {W W':World}{g K:Nat}{aa:Nat->List E}{bo:Nat->OA}{bc:Nat->Nat}(h:BkW W g K aa bo bc) (hb:Bl W W'):BkW W' g K aa bo bc:=⟨keep h.row hb,λi hi=>⟨(h.each i hi).1.below hb,(h.each i hi).2⟩⟩
theorem BkW.cell {W:World}{g K:Nat}{aa:Nat->List E}{bo:Nat->OA}{bc:Nat->Nat}(h:BkW W g K aa bo bc) {i:Nat}(hi:i<K):W.cell? (Pv g i)=some (.slice (bo i) (aa i).length (bc i))/\W.frozen? (Pv g i)=false:=by
 have h1:=a0C h.row hi (show 0<1 by omega);rw[show i*1+0=i by omega] at h1;exact⟨h1,b0a _ _ _ _ _ h.row⟩
theorem no_slice {W:World}{g K b o:Nat}{c:Nat->Value}{v:Value}(hg:W.heap[g]?=some (.cells (rowC K 1 (λi _=>c i)) 67)) (hc:∀i,∃a n k,c i=.slice a n k) (hv:W.cell? (Pv b o)=some v) (hn:∀a n k,v≠.slice a n k):b≠g:=by
 rintro rfl;rcases(by omega:o<K\/K<=o) with hk | hk
 ·have h1:=a0C hg hk (show 0<1 by omega);rw[show o*1+0=o by omega,hv] at h1;obtain⟨a,n,k,e⟩:=hc o;rw[e] at h1;injection h1 with h1;exact hn a n k h1
 ·have h2:W.cell? (Pv b o)=(rowC K 1 (λi _=>c i))[o]?:=by
   unfold World.cell?;rw[hg];rfl
  rw[h2] at hv;have hs:(rowC K 1 (λi _=>c i)).size=K:=(by rw[a1l];omega)
  rw[Array.getElem?_eq_none om] at hv;cases hv
theorem bel_far {W:World}{g K:Nat}{c:Nat->Value}{ao:OA}{cap:Nat}{l:List E}(hg:W.heap[g]?=some (.cells (rowC K 1 (λi _=>c i)) 67)) (hc:∀i,∃a n k,c i=.slice a n k) (h:BEL W ao cap l) (hl:0<l.length):∀b off,ao=some (Pv b off)->b≠g:=by
 rintro b off rfl;obtain⟨h0,_⟩:=BEL.cells h hl;exact no_slice hg hc h0 (λ_ _ _ e=>by cases e)
theorem BkW.put {W:World}{g K:Nat}{aa:Nat->List E}{bo:Nat->OA}{bc:Nat->Nat}(h:BkW W g K aa bo bc) {i:Nat}(hi:i<K) {a:OA}{c:Nat}{l:List E}(hb:BEL W a c l) (hn:a0s a l.length c) (hm:l.length<=9223372036854775807) :
  BkW (W.setCell (Pv g i) (.slice a l.length c)) g K (λj=>if j=i then l else aa j) (λj=>if j=i then a else bo j) (λj=>if j=i then c else bc j):=by
 have ab:∀{ao:OA}{cap:Nat}{x:List E},BEL W ao cap x->BEL (W.setCell (Pv g i) (.slice a l.length c)) ao cap x:=λ{ao cap x} hx=>by
  by_cases e:x.length=0
  ·exact⟨hx.1,λq=>absurd q om⟩
  ·have far:=bel_far h.row (λ_=>⟨_,_,_,rfl⟩) hx om;exact CRow.other hx (λb off e1 ad=>b0f _ _ _ _ (by exact far b off e1)) (by simp)
 refine⟨?_,λj hj => ?_⟩
 ·have h0:=a1r h.row hi (show 0<1 by omega) (.slice a l.length c);rw[show i*1+0=i by omega] at h0;rw[h0,rC2 (d:=λj _=>.slice (if j=i then a else bo j) (if j=i then l else aa j).length (if j=i then c else bc j)) (λj _ m ac => ?_)];unfold updC;obtain rfl:m=0:=om
  by_cases e:j=i
  ·rw[iP ⟨e,rfl⟩,iP e,iP e,iP e]
  ·rw[iN (λq=>e q.1),iN e,iN e,iN e]
 ·by_cases e:j=i
  ·simp only[iP e];exact⟨ab hb,hn,hm⟩
  ·simp only[iN e];exact⟨ab (h.each j hj).1,(h.each j hj).2⟩
def rgR (b:Br):R:=⟨b.reg.s,b.reg.rev,b.reg.ao,b.reg.n,b.reg.cap,b.reg.vs,b.reg.ts⟩
structure RlH (w:World) (n:Net) (t:List Tr) (oao:OA) (ocap:Nat) (vid:Int) (TB NB VB KB gk kcap:Nat) (bks:Nat->List E) (bo:Nat->OA) (bc:Nat->Nat):Prop where
 tb:w.heap[TB]?=some (.cells #[.slice oao t.length ocap] 34)
 nb:w.heap[NB]?=some (.cells #[.slice n.bao n.K n.bcap,.slice n.lao n.L n.lcap] 25)
 vb:w.heap[VB]?=some (.cells #[Iv vid] 3)
 kb:w.heap[KB]?=some (.cells #[.slice (some (Pv gk 0)) n.K kcap] 27)
 net:n.at' w
 right:n.Right
 talk:TrRow w oao ocap t
 few:t.length<=4
 books:BkW w gk n.K bks bo bc
 cap:n.K<=kcap
theorem RlH.below {w W:World}{n:Net}{t:List Tr}{oao:OA}{ocap:Nat}{vid:Int}{TB NB VB KB gk aa:Nat}{ab:Nat->List E}{bo:Nat->OA}{bc:Nat->Nat}(h:RlH w n t oao ocap vid TB NB VB KB gk aa ab bo bc) (hb:Bl w W):RlH W n t oao ocap vid TB NB VB KB gk aa ab bo bc :=
 ⟨keep h.tb hb,keep h.nb hb,keep h.vb hb,keep h.kb hb,h.net.below hb,h.right,h.talk.below hb,h.few,h.books.below hb,h.cap⟩
