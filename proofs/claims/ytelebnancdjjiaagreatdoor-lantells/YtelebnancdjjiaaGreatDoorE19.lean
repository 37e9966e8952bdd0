/- R1w -/
import Derived.Test.YtelebnancdjjiaaGreatDoorE18
set_option maxRecDepth 100000
set_option maxHeartbeats 40000000
namespace Go.Proofs.YtelebnancdjjiaaGreatDoor
section
open Go.Proofs.Tryz Go.RowKit
open Bk(E at')
open Rl(G gat F O R)
theorem a3U (d s:Int) (t:Bool) (p:Int) (dr:Bool) (v y:Int) (ao:OA) (n c:Nat) (w:World) (h0:0<=s) :
  Calls prog 33 #[.agg #[Uv d,Uv s,.bool t,Iv p,.bool dr,Iv v,Iv y,.slice ao n c]] w λe w'=>e=.returned (Iv (wrong d s t p v y n))/\Bl w w':=by
 unfold wrong;by_cases c1:281474976710655<d\/281474976710655<s
 ·rw[iP c1];by_cases c2:(281474976710656:Int)<=d
  ·clear c1;go_enter func33,ntmps33;go_wp2
   go_ret;exact⟨rfl,bA1 _ _⟩
  ·have c3:(281474976710656:Int)<=s:=om
   clear c1;go_enter func33,ntmps33;go_wp2
   go_ret;exact⟨rfl,bA1 _ _⟩
 ·rw[iN c1];have c2:¬(281474976710656:Int)<=d:=om
  have c3:¬(281474976710656:Int)<=s:=om
  clear c1;by_cases c4:s/1099511627776%2=1
  ·rw[iP c4];go_enter func33,ntmps33;go_wp2
   go_ret;exact⟨rfl,bA1 _ _⟩
  ·rw[iN c4];have aa:(s/1099511627776%2 == 1)=false:=(by simp[c4])
   by_cases c5:t=true/\¬((0<=v/\v<=4094)/\0<=p/\p<=7)
   ·rw[iP c5];obtain⟨rfl,c6⟩:=c5;by_cases v1:v<0
    ·go_enter func33,ntmps33;go_wp2
     go_ret;exact⟨rfl,bA1 _ _⟩
    ·by_cases v2:4094<v
     ·go_enter func33,ntmps33;go_wp2
      go_ret;exact⟨rfl,bA1 _ _⟩
     ·by_cases v3:p<0
      ·go_enter func33,ntmps33;go_wp2
       go_ret;exact⟨rfl,bA1 _ _⟩
      ·have v4:7<p:=om
       go_enter func33,ntmps33;go_wp2
       go_ret;exact⟨rfl,bA1 _ _⟩
   ·rw[iN c5];have ct:t=true->(¬v<0)/\(¬4094<v)/\(¬p<0)/\(¬7<p):=λe=>by
     by_cases q:(0<=v/\v<=4094)/\0<=p/\p<=7
     ·omega
     ·exact absurd ⟨e,q⟩ c5
    clear c5;by_cases c6:(1536<=y/\y<=65535)/\y≠33024
    ·rw[iN (λh=>h c6)];have y1:¬y<1536:=om
     have y2:¬65535<y:=om
     have y3:¬y=33024:=om
     have y4:(y == 33024)=false:=(by simp[y3])
     clear c6;by_cases c8:(1500:Int)<n
     ·have c9:1500<n:=om
      rw[iP c9];clear c9;cases t with
      | false =>
       go_enter func33,ntmps33;go_wp2
       go_ret;exact⟨rfl,bA1 _ _⟩
      | true =>
       obtain⟨t1,t2,t3,t4⟩:=ct rfl;go_enter func33,ntmps33;go_wp2
       go_ret;exact⟨rfl,bA1 _ _⟩
     ·have c9:¬1500<n:=om
      rw[iN c9];clear c9;cases t with
      | false =>
       go_enter func33,ntmps33;go_wp2
       go_ret;exact⟨rfl,bA1 _ _⟩
      | true =>
       obtain⟨t1,t2,t3,t4⟩:=ct rfl;go_enter func33,ntmps33;go_wp2
       go_ret;exact⟨rfl,bA1 _ _⟩
    ·rw[iP c6];cases t with
     | false =>
      by_cases y1:y<1536
      ·go_enter func33,ntmps33;go_wp2
       go_ret;exact⟨rfl,bA1 _ _⟩
      ·by_cases y2:65535<y
       ·go_enter func33,ntmps33;go_wp2
        go_ret;exact⟨rfl,bA1 _ _⟩
       ·obtain rfl:y=33024:=om
        go_enter func33,ntmps33;go_wp2
        go_ret;exact⟨rfl,bA1 _ _⟩
     | true =>
      obtain⟨t1,t2,t3,t4⟩:=ct rfl;by_cases y1:y<1536
      ·go_enter func33,ntmps33;go_wp2
       go_ret;exact⟨rfl,bA1 _ _⟩
      ·by_cases y2:65535<y
       ·go_enter func33,ntmps33;go_wp2
        go_ret;exact⟨rfl,bA1 _ _⟩
       ·obtain rfl:y=33024:=om
        go_enter func33,ntmps33;go_wp2
        go_ret;exact⟨rfl,bA1 _ _⟩
structure RelDoc (w w':World) (f:F) (res:Rl.Res) (oo:OA) (oc:Nat) (os:List OV) (bo:OA) (bc:Nat):Prop where
 out:os.map OV.o=res.out
 row:ORw w' oo oc f os
 book:BEL w' bo bc res.book
 low:Bl w w'
abbrev RelDoc.o:=@RelDoc.out
def OwnR (w:World) (base:Nat) (v:Value) (f:F) (l:List O):Prop:=w.ownsRow base 101 9 v l.length (a0f l.length 9 (λi=>oC f ⟨l.getD i ⟨0,false,0,false,0⟩,f.ao,f.cap⟩))
theorem OwnR.below {w w':World}{base:Nat}{v:Value}{f:F}{l:List O}(h:OwnR w base v f l) (hb:Bl w w'):OwnR w' base v f l:=a0h h hb
theorem OwnR.nil (w:World) (base:Nat) (f:F):OwnR w base sN f []:=a0y w base _ _ _
theorem OwnR.mono {w:World}{base aa:Nat}{v:Value}{f:F}{l:List O}(h:OwnR w base v f l) (hb:aa<=base):OwnR w aa v f l:=by
 obtain⟨h1,h2⟩:=h;refine⟨h1,?_⟩;rcases h2 with h2 | ⟨g,cap,ab,hv,hg,r⟩
 ·exact Or.inl h2
 ·exact Or.inr ⟨g,cap,ab,hv,b0p hb hg,r⟩
def ovs (f:F) (l:List O):List OV:=l.map (λo=>⟨o,f.ao,f.cap⟩)
theorem OwnR.el {w:World}{base:Nat}{v:Value}{f:F}{l:List O}(h:OwnR w base v f l) (hd:ByteRow w f.ao f.n f.cap f.bs) (hn:a0s f.ao f.n f.cap):∃ao cap,v=.slice ao l.length cap/\ORw w ao cap f (ovs f l):=by
 obtain⟨ao,cap,rfl,h1,_⟩:=a0W om h;refine⟨ao,cap,rfl,⟨?_,λx hx => ?_⟩⟩
 ·rw[show(ovs f l).length=l.length by simp[ovs]];exact h1.congr (λi hi=>by
   have:oat (ovs f l) i=⟨l.getD i ⟨0,false,0,false,0⟩,f.ao,f.cap⟩:=by simp[oat,ovs,hi]
   rw[this])
 ·obtain⟨o,_,rfl⟩:=List.mem_map.1 hx;exact⟨hd,hn⟩
theorem more_ro (base:Nat) (W:World) (v:Value) (f:F) (l:List O) (x:O) (ho:OwnR W base v f l) (hl:l.length<=1000) (aa:base<=W.heap.size) :
  ∃a m c W2,a2s v (.slice (some (Pv W.heap.size 0)) 1 1) (W.alloc (.cells (oA f ⟨x,f.ao,f.cap⟩) 101)) (.slice a m c) W2/\m=(l++[x]).length/\OwnR W2 base (.slice a m c) f (l++[x])/\Below base W W2:=by
 have ab:=bA1 W (.cells (oA f ⟨x,f.ao,f.cap⟩) 101);obtain⟨a1,c1,w',r,o,b,_⟩:=a0E (W.alloc (.cells (oA f ⟨x,f.ao,f.cap⟩) 101)) 97 101 _ 9 88 underlying97 infoO rfl om base v l.length _ (ho.below ab) (some (Pv W.heap.size 0)) 1 1 (λ_=>oC f ⟨x,f.ao,f.cap⟩) (λ_ _=>oC_one _ _ _) (a9e (a9Z W _)) (λh=>by cases h) (by unfold maxLen;omega) om (by have:=ab.size;omega);have e:l.length+1=(l++[x]).length:=(by simp)
 refine⟨a1,_,c1,w',r,e,?_,(ab.mono aa).trans b⟩;unfold OwnR;rw[e] at o ⊢;rw[a0k _ 9 _ (λi=>oC f ⟨(l++[x]).getD i ⟨0,false,0,false,0⟩,f.ao,f.cap⟩)] at o
 ·exact o
 ·intro i hi;unfold catC;by_cases h:i<l.length
  ·have e9:(l++[x]).getD i ⟨0,false,0,false,0⟩=l.getD i ⟨0,false,0,false,0⟩:=(by simp[List.getElem?_append_left h])
   rw[iP h,e9]
  ·have ac:i=l.length:=(by simp at hi;omega)
   subst ac;rw[iN om];simp
theorem idx_step {l:List G}(h:Rl.Right l) (p:Int) {k:Nat}(hk:k<l.length):Rl.idx l p (k+1)=if (gat l k).port=p then(k:Int) else Rl.idx l p k:=by
 show(if 0<=Rl.idx l p k then Rl.idx l p k else if (gat l k).port=p then(k:Int) else -1)=_;rcases Rl.idx_cases l p k with⟨h1,h2⟩ | ⟨i,hi,h1,h2,_⟩
 ·rw[h1,iN om]
 ·rw[h1,iP om];by_cases e:(gat l k).port=p
  ·have:=h.one (show i<l.length by omega) hk (by rw[h2,e]);omega
  ·rw[iN e]
theorem a7P {f:F}(h:f.wrong=0) (ht:f.tagged=true):0<=f.vid:=by
 unfold Rl.F.wrong wrong at h;by_cases c1:281474976710655<f.dst\/281474976710655<f.src
 ·rw[iP c1] at h;cases h
 ·rw[iN c1] at h;by_cases c2:f.src/1099511627776%2=1
  ·rw[iP c2] at h;cases h
  ·rw[iN c2] at h;by_cases c3:(0<=f.vid/\f.vid<=4094)/\0<=f.prio/\f.prio<=7
   ·exact c3.1.1
   ·rw[iP ⟨ht,c3⟩] at h;cases h
theorem a9l (P:G->Bool) (Q:G->O) (l:List G) (k:Nat) (hk:k<l.length):((l.take (k+1)).filter P).map Q=((l.take k).filter P).map Q++(if P (gat l k)=true then [Q (gat l k)] else []):=by
 rw[Rl.take_succ l k hk,List.filter_append,List.map_append];congr 1
 by_cases q:P (gat l k)=true
 ·simp[q]
 ·simp[q]
def RelOwn (w w':World) (f:F) (oo:OA) (oc:Nat) (os:List OV) (bo:OA) (bcap:Nat) (bk:List E) (bo':OA) (bc':Nat) (m:List E):Prop:=OwnR w' w.heap.size (.slice oo os.length oc) f (os.map OV.o)/\(∀x∈os,x.da=f.ao/\x.dc=f.cap)/\BkD w' w.heap.size bo bcap bk bo' bc' m
theorem RelOwn.none (w W:World) (f:F) (bo:OA) (bcap:Nat) (bk:List E):RelOwn w W f none 0 [] bo bcap bk none 0 []:=⟨OwnR.nil _ _ _,(λ_ h=>absurd h (by simp)),Or.inr (OwnE.nil _ _)⟩
theorem a7Q (r:R) (ao:OA) (cap:Nat) (l:List G) (bo:OA) (bcap:Nat) (bk:List E) (p:Int) (f:F) (w:World) (bJ:RelIn w r ao cap l bo bcap bk f) :
  Calls prog 37 #[.agg #[.string r.name,Iv r.rev,.slice r.ao r.n r.cap],.slice ao l.length cap,.slice bo bk.length bcap,Iv p,.agg #[Uv f.dst,Uv f.src,.bool f.tagged,Iv f.prio,.bool f.drop,Iv f.vid,Iv f.type,.slice f.ao f.n f.cap]] w λe w'=>∃oo oc os bc bi,e=.returned (.tuple #[.slice oo os.length oc,.slice bc (Rl.relay r l bk p f).book.length bi,Iv (Rl.relay r l bk p f).err])/\RelDoc w w' f (Rl.relay r l bk p f) oo oc os bc bi/\RelOwn w w' f oo oc os bo bcap bk bc bi (Rl.relay r l bk p f).book:=by
 obtain⟨W0,a0⟩:=nm ((w.alloc (.cells #[.string r.name,Iv r.rev,.slice r.ao r.n r.cap] 63)).alloc (.cells #[Uv f.dst,Uv f.src,.bool f.tagged,Iv f.prio,.bool f.drop,Iv f.vid,Iv f.type,.slice f.ao f.n f.cap] 31))
 have bp:Bl w W0:=(by rw[a0.o];exact bA2 _ _ _)
 have bx:W0.heap[w.heap.size]?=some (.cells #[.string r.name,Iv r.rev,.slice r.ao r.n r.cap] 63):=(by rw[a0.o];exact b0d _ _ _)
 have bK:W0.heap[w.heap.size+1]?=some (.cells #[Uv f.dst,Uv f.src,.bool f.tagged,Iv f.prio,.bool f.drop,Iv f.vid,Iv f.type,.slice f.ao f.n f.cap] 31):=(by rw[a0.o];exact b0c _ _ _)
 have bP:Hid (Bl W0 W0):=b0h _ _;have ai:Hid (∀W,Bl W0 W->Bl w W):=λW hW=>a0c bp hW;have au:Hid (∀W,Bl W0 W->(W.cell? (Pv w.heap.size 0)=some (.string r.name)/\W.cell? (Pv w.heap.size 1)=some (Iv r.rev)/\W.cell? (Pv w.heap.size 2)=some (.slice r.ao r.n r.cap))/\(W.cell? (Pv (w.heap.size+1) 0)=some (Uv f.dst)/\W.cell? (Pv (w.heap.size+1) 1)=some (Uv f.src)/\W.cell? (Pv (w.heap.size+1) 2)=some (.bool f.tagged)/\W.cell? (Pv (w.heap.size+1) 3)=some (Iv f.prio)/\W.cell? (Pv (w.heap.size+1) 4)=some (.bool f.drop)/\W.cell? (Pv (w.heap.size+1) 5)=some (Iv f.vid)/\W.cell? (Pv (w.heap.size+1) 6)=some (Iv f.type)/\W.cell? (Pv (w.heap.size+1) 7)=some (.slice f.ao f.n f.cap))):=λW hW=>⟨a2d (keep bx hW),a0U (keep bK hW)⟩
 have ac:Hid (∀W,Bl W0 W->RelIn W r ao cap l bo bcap bk f):=λW hW=>(bJ.below bp).below hW;have ae:Hid (∀W bR,Bl W0 W->RelDoc w W f ⟨[],[],bR⟩ none 0 [] none 0/\RelOwn w W f none 0 [] bo bcap bk none 0 []):=λW bR hW=>⟨⟨rfl,⟨CRow.none _ _ _ _ _,λx h=>by simp at h⟩,CRow.none _ _ _ _ _,ai.o W hW⟩,RelOwn.none _ _ _ _ _ _⟩
 have bH:Hid (∀W,Bl W0 W->Calls prog 55 #[.agg #[.string r.name,Iv r.rev,.slice r.ao r.n r.cap]] W λe w'=>e=.returned (Iv r.wrong)/\Hid (Bl W0 w')):=λW hW=>(a4w r.name r.rev r.ao r.n r.cap r.vs r.ts W (ac.o W hW).rn (ac.o W hW).ways).mono (λe w' h=>⟨h.1,a0c hW h.2⟩);have bV:Hid (∀W,Bl W0 W->Calls prog 57 #[.slice ao l.length cap] W λe w'=>e=.returned (.agg #[Iv (Rl.wrong l).1,Iv (Rl.wrong l).2])/\Hid (Bl W0 w')):=λW hW=>(a6j ao cap l W (ac.o W hW).gates).mono (λe w' h=>⟨h.1,a0c hW h.2⟩);have bL:Hid (∀W,Bl W0 W->Calls prog 21 #[.slice bo bk.length bcap] W λe w'=>e=.returned (.agg #[Iv (Bk.wrong (at' bk) bk.length).1,Iv (Bk.wrong (at' bk) bk.length).2])/\Hid (Bl W0 w')):=λW hW=>(a6l bo bcap bk W (ac.o W hW).bn (ac.o W hW).book).mono (λe w' h=>⟨h.1,a0c hW h.2⟩);have ba:Hid (∀W,Bl W0 W->Calls prog 33 #[.agg #[Uv f.dst,Uv f.src,.bool f.tagged,Iv f.prio,.bool f.drop,Iv f.vid,Iv f.type,.slice f.ao f.n f.cap]] W λe w'=>e=.returned (Iv f.wrong)/\Hid (Bl W0 w')):=λW hW=>(a3U f.dst f.src f.tagged f.prio f.drop f.vid f.type f.ao f.n f.cap W (ac.o W hW).src.1).mono (λe w' h=>⟨h.1,a0c hW h.2⟩);have bE:Hid (Rl.errR r l bk f=0->Rg.Right r.vs r.ts r.n/\Rl.Right l/\Bk.Book bk/\(f.tagged=true->0<=f.vid)):=λh=>by
  obtain⟨h1,h2,h3,h4⟩:=a4U h;exact⟨(Rg.wrong_zero h1).2.2,Rl.right_of h2,Bk.wrong_book.1 h3,λht=>a7P h4 ht⟩
 have b5:Hid (Rl.errR r l bk f=0->f.wrong=0):=λh=>(a4U h).2.2.2;have bT:Hid (Rl.errR r l bk f=0->Rl.relay r l bk p f=(if Rl.idx l p l.length<0 then⟨[],[],6⟩ else if Rl.stays r l p f=true then⟨[],bk,0⟩ else⟨Rl.outs r l bk p f,Rl.learnt bk l p f,0⟩)):=λh=>iP h;have ab:Hid (Rl.errR r l bk f=Rl.or4 r.wrong (Rl.wrong l).1 (Bk.wrong (at' bk) bk.length).1 f.wrong):=rfl;have al:Hid (Rl.errR r l bk f≠0->Rl.relay r l bk p f=⟨[],[],Rl.errR r l bk f⟩):=λh=>iN h;obtain⟨⟨c0,c1,c2⟩,d0,d1,d2,d3,d4,d5,d6,d7⟩:=au.o W0 bP.o;clear bp bx bK bJ;generalize r.wrong=e1 at *;generalize hgw:(Rl.wrong l).1=e2 at *;generalize hgw2:(Rl.wrong l).2=e2' at *;generalize hbw:(Bk.wrong (at' bk) bk.length).1=e3 at *;generalize hbw2:(Bk.wrong (at' bk) bk.length).2=e3' at *;obtain⟨e4,bN⟩:=nn f.wrong
 rw[<-bN] at ba ab;clear bN;clear hgw hgw2 hbw hbw2;go_enter func37,ntmps37;(go_wp2_with fail);rw[<-a0.o];refine(bH.o W0 bP.o).mono ?_;rintro e w1 ⟨rfl,bY⟩;clear c0 c1 c2 d0 d1 d2 d3 d4 d5 d6 d7;by_cases k1:e1=0
 ·rw[k1];(go_wp2_with fail);refine(bV.o w1 bY.o).mono ?_;rintro e w2 ⟨rfl,bz⟩;by_cases k2:e2=0
  ·rw[k2];have aI:Hid (∀o,Bl W0 (w2.alloc o)):=λo=>a1u bz.o o;(go_wp2_with fail);refine(bL.o _ (aI.o _)).mono ?_;rintro e w3 ⟨rfl,bA⟩;by_cases k3:e3=0
   ·rw[k3];have bl:Hid (Bl W0 (w3.alloc (.cells #[Iv 0,Iv e3'] 37))):=a1u bA.o _;obtain⟨V3,a9⟩:=nm (w3.alloc (.cells #[Iv 0,Iv e3'] 37))
    have bI:Hid (Bl W0 V3):=(by rw[a9.o];exact bl.o)
    obtain⟨⟨c0,c1,c2⟩,d0,d1,d2,d3,d4,d5,d6,d7⟩:=au.o V3 bI.o;(go_upto_region 10 with fail);rw[<-a9.o];(go_wp2_with fail);refine(ba.o V3 bI.o).mono ?_;rintro e w4 ⟨rfl,bj⟩;clear c0 c1 c2 d0 d1 d2 d3 d4 d5 d6 d7;by_cases k4:e4=0
    ·have hE:Rl.errR r l bk f=0:=(by rw[ab.o,k1,k2,k3,k4];rfl)
     rw[k4];obtain⟨hR,hG,bs,aR⟩:=bE.o hE;have bC:=hG.many;have a3:Hid _:=bT.o hE;have HG:Hid (Rl.Right l):=hG;have b2:l.length<=cap:=(ac.o w4 bj.o).gates.row.1;clear bE bT ab al k1 k2 k3 k4 bH bV bL ba a9;(go_wp2_with fail);go_loopw [17,53] (λa i wr=>∃k:Nat,k<=l.length/\i=Iv k/\a=Iv (Rl.idx l p k)/\Hid (Bl W0 wr)) (λ_ i _=>l.length-(intOf i).toNat)
     case atStart=>exact⟨0,om,rfl,rfl,bj⟩
     case round =>
      obtain⟨k,hk,rfl,rfl,hB⟩:=hrel;by_cases hlt:k<l.length
      ·obtain⟨b,off,rfl,_⟩:=(ac.o wr hB.o).gates.place om;obtain⟨g0,g1,g2,g3⟩:=(ac.o wr hB.o).gates.cells hlt;have aY:Hid (Rl.idx l p (k+1)=if (gat l k).port=p then(k:Int) else Rl.idx l p k):=idx_step HG.o p hlt;have bu:Hid (∀o,Bl W0 (wr.alloc o)):=λo=>a1u hB.o o;generalize gat l k=x at *;generalize Rl.idx l p k=ix at *;by_cases q:x.port=p
       ·have e1:(x.port == p)=true:=(by simp[q])
        rw[iP q] at aY;clear q;(go_wp2_with fail);exact⟨⟨k+1,om,gn,by rw[aY.o],bu.o _⟩,io⟩
       ·have e1:(x.port == p)=false:=(by simpa using q)
        rw[iN q] at aY;clear q;(go_wp2_with fail);exact⟨⟨k+1,om,gn,by rw[aY.o],bu.o _⟩,io⟩
      ·obtain rfl:k=l.length:=om
       rcases Rl.idx_cases l p l.length with⟨h1,_⟩ | ⟨k,hk,h1,h2,_⟩
       ·have HX:Hid (Rl.relay r l bk p f=⟨[],[],6⟩):=(by rw[a3.o,h1];rfl)
        rw[h1];clear a3 h1 ac au HG;(go_wp2_with fail);go_ret3;exact⟨none,0,[],none,0,by rw[HX.o];rfl,by rw[HX.o];exact ae.o _ _ hB.o⟩
       ·rw[h1];have bg:Rl.relay r l bk p f=(if Rl.stays r l p f=true then⟨[],bk,0⟩ else⟨Rl.outs r l bk p f,Rl.learnt bk l p f,0⟩):=(by rw[a3.o,h1,iN om])
        have be:Rl.Ok r l bk p f:=⟨⟨k,hk,h1⟩,HG.o,hR,bs,b5.o hE,hE⟩
        have aw:Rl.atG l p=gat l k:=Rl.atG_at h1;have a4:=Rl.flood_stays be;have bb:=be.vid;rw[aw] at a4;obtain⟨x,hx⟩:=nn (gat l k)
        obtain⟨vi,aG⟩:=nn (Rl.vid l p f)
        have bm:vi=Rl.wayOf f x:=(by rw[aG,hx,<-aw];rfl)
        rw[<-hx,<-aG] at a4;have aK:Hid (Rl.stays r l p f=(decide (vi=0)||(!Rl.passes x (r.tree vi) vi||decide (f.dst/16=103282638848)))):=a4;have aB:Hid (Rl.stays r l p f=true->Rl.relay r l bk p f=⟨[],bk,0⟩):=λh=>by rw[bg,iP h]
        have aC:Hid (Rl.stays r l p f=false->Rl.relay r l bk p f=⟨Rl.outs r l bk p f,Rl.learnt bk l p f,0⟩):=λh=>by rw[bg,iN (by simp[h])]
        have ay:Hid (Rl.learnt bk l p f=Bk.learn bk ⟨vi,f.src,p,0⟩):=by
         show Rl.learnt bk l p f=_;unfold Rl.learnt;rw[bb,<-aG]
        have aE:Hid (Rl.outs r l bk p f=(l.filter (Rl.leads r (Rl.learnt bk l p f) vi f p)).map (Rl.leave f vi)):=by
         show Rl.outs r l bk p f=_;unfold Rl.outs;rw[bb,<-aG]
        have aV:Hid (∀i,i<l.length->((gat l i).port=p↔i=k)):=λi hi=>⟨λh=>HG.o.one hi hk (by rw[h,h2]),λh=>by rw[h];exact h2⟩
        obtain⟨b,off,rfl,_⟩:=(ac.o wr hB.o).gates.place om;have aL:Hid (∀W,Bl W0 W->((W.cell? (Pv w.heap.size 0)=some (.string r.name)/\W.cell? (Pv w.heap.size 1)=some (Iv r.rev)/\W.cell? (Pv w.heap.size 2)=some (.slice r.ao r.n r.cap))/\(W.cell? (Pv (w.heap.size+1) 0)=some (Uv f.dst)/\W.cell? (Pv (w.heap.size+1) 1)=some (Uv f.src)/\W.cell? (Pv (w.heap.size+1) 2)=some (.bool f.tagged)/\W.cell? (Pv (w.heap.size+1) 3)=some (Iv f.prio)/\W.cell? (Pv (w.heap.size+1) 4)=some (.bool f.drop)/\W.cell? (Pv (w.heap.size+1) 5)=some (Iv f.vid)/\W.cell? (Pv (w.heap.size+1) 6)=some (Iv f.type)/\W.cell? (Pv (w.heap.size+1) 7)=some (.slice f.ao f.n f.cap)))/\(W.cell? (Pv b (off+k*4))=some (Iv x.port)/\W.cell? (Pv b (off+k*4+1))=some (.slice x.wo x.ways.length x.wcap)/\W.cell? (Pv b (off+k*4+2))=some (Iv x.plain)/\W.cell? (Pv b (off+k*4+3))=some (.slice x.oo x.opens.length x.ocap))):=λW hW=>⟨au.o W hW,by rw[hx];exact(ac.o W hW).gates.cells hk⟩
        have bM:Hid (∀W,Bl W0 W->GIn W x):=λW hW=>by rw[hx];exact(ac.o W hW).gates.at hk
        have az:Hid (∀(g:G) (V W:World),Bl W0 W->Bl V W->GIn W g->Calls prog 58 #[.agg #[Iv g.port,.slice g.wo g.ways.length g.wcap,Iv g.plain,.slice g.oo g.opens.length g.ocap],.agg #[.string r.name,Iv r.rev,.slice r.ao r.n r.cap],Iv vi] W λe w'=>e=.returned (.bool (Rl.passes g (r.tree vi) vi))/\Hid (Bl V w')):=λg V W h0 hW hg=>(a6k g r vi W hg hR (ac.o W h0).ways).mono (λ_ _ h=>⟨h.1,a0c hW h.2⟩);have ik:(0:Int)<=(k:Int):=om
        have nk:(k:Int)<(l.length:Int):=om
        have b0:=(ac.o wr hB.o).dst;have b7:Hid (IntKind.u64.wrap (f.dst.tdiv 16)=f.dst/16):=by
         show IntKind.u64.wrap (f.dst.tdiv 16)=f.dst/16;rw[Int.tdiv_eq_ediv_of_nonneg b0.1,a2w _ om om]
        obtain⟨⟨⟨c0,c1,c2⟩,d0,d1,d2,d3,d4,d5,d6,d7⟩,g0,g1,g2,g3⟩:=aL.o wr hB.o;clear bg be aw a4 bb aG h1 h2 a3 hx hE;rename World=>wr
        (go_upto_region 23 with fail);go_cut [77] (λv W=>v=.bool (f.tagged&&decide (0<f.vid))/\W=wr)
        case first =>
         clear aK aB aC ay aE aV az bm;by_cases t1:f.tagged=true
         ·rw[t1] at d2;(go_wp2_with fail);go_meet
          exact⟨by rw[t1,Bool.true_and],rfl⟩
         ·have t2:f.tagged=false:=(by simpa using t1)
          rw[t2] at d2;(go_wp2_with fail);go_meet
          exact⟨by rw[t2,Bool.false_and],rfl⟩
        case rest =>
        obtain⟨rfl,rfl⟩:=hcut;rename World=>wr
        obtain⟨cc,bh⟩:=nn (f.tagged&&decide (0<f.vid))
        rw[<-bh];have bf:Hid (vi=if cc=true then f.vid else x.plain):=by
         show vi=_;rw[bm,bh];unfold Rl.wayOf;by_cases t1:f.tagged=true
         ·by_cases t2:0<f.vid
          ·rw[iP ⟨t1,om⟩,t1,b0k t2];rfl
          ·have t3:f.vid=0:=(by have:=aR t1;omega)
           rw[iN (λq=>q.2 t3),t1,b0j t2];rfl
         ·have t2:f.tagged=false:=(by simpa using t1)
          rw[iN (λq=>t1 q.1),t2];rfl
        clear bh bm aR;go_upto_if 77 with fail
        go_cut [20] (λv W=>v=Iv vi/\W=wr)
        case first =>
         clear aK aB aC ay aE aV az;cases cc with
         | true =>
          (go_wp2_with fail);go_meet
          exact⟨by rw[bf.o];rfl,rfl⟩
         | false =>
          (go_wp2_with fail);go_meet
          exact⟨by rw[bf.o];rfl,rfl⟩
        case rest =>
        obtain⟨rfl,rfl⟩:=hcut;clear bf;rename World=>wr
        have a7:Hid (Bl W0 wr):=hB;have ag:Hid (∀W,Bl W0 W->Calls prog 58 #[.agg #[Iv x.port,.slice x.wo x.ways.length x.wcap,Iv x.plain,.slice x.oo x.opens.length x.ocap],.agg #[.string r.name,Iv r.rev,.slice r.ao r.n r.cap],Iv vi] W λe w'=>e=.returned (.bool (Rl.passes x (r.tree vi) vi))/\Hid (Bl W0 w')):=λW hW=>az.o x W0 W hW hW (bM.o W hW);(go_upto_region 25 with fail);go_cut [97] (λv W=>v=.bool (Rl.stays r l p f)/\Hid (Bl W0 W))
        case first =>
         have hs:=aK.o;clear aB aC ay aE aV az aK;by_cases hv:vi=0
         ·rw[b0k hv,Bool.true_or] at hs;have aH:Hid (Rl.stays r l p f=true):=hs;have ev:(vi == 0)=true:=(by simp[hv])
          clear hs hv ag;(go_quiet (fail));(go_wp2_with fail);go_meet
          exact⟨by rw[aH.o],a0d a7.o _⟩
         ·rw[b0j hv,Bool.false_or] at hs;have ev:(vi == 0)=false:=(by simpa using hv)
          cases hp:Rl.passes x (r.tree vi) vi with
          | false =>
           rw[hp] at hs ag;have aH:Hid (Rl.stays r l p f=true):=hs;clear hs hv hp;refine wp_region_held_drew (S:=λW=>((W.cell? (Pv w.heap.size 0)=some (.string r.name)/\W.cell? (Pv w.heap.size 1)=some (Iv r.rev)/\W.cell? (Pv w.heap.size 2)=some (.slice r.ao r.n r.cap))/\(W.cell? (Pv (w.heap.size+1) 0)=some (Uv f.dst)/\W.cell? (Pv (w.heap.size+1) 1)=some (Uv f.src)/\W.cell? (Pv (w.heap.size+1) 2)=some (.bool f.tagged)/\W.cell? (Pv (w.heap.size+1) 3)=some (Iv f.prio)/\W.cell? (Pv (w.heap.size+1) 4)=some (.bool f.drop)/\W.cell? (Pv (w.heap.size+1) 5)=some (Iv f.vid)/\W.cell? (Pv (w.heap.size+1) 6)=some (Iv f.type)/\W.cell? (Pv (w.heap.size+1) 7)=some (.slice f.ao f.n f.cap)))/\(W.cell? (Pv b (off+k*4))=some (Iv x.port)/\W.cell? (Pv b (off+k*4+1))=some (.slice x.wo x.ways.length x.wcap)/\W.cell? (Pv b (off+k*4+2))=some (Iv x.plain)/\W.cell? (Pv b (off+k*4+3))=some (.slice x.oo x.opens.length x.ocap))) kr (aL.o _ (b0i a7.o)) (λaa => ?_);refine a0l 0 80 aa ?_;simp only[aP];refine a0l 1 81 aa ?_;simp only[aP];refine a0l 2 82 aa ?_;simp only[aP];refine a0l 3 83 aa ?_;simp only[aP];refine a0l 4 84 aa ?_;simp only[aP];refine a0l 5 85 aa ?_;simp only[aP];refine a0l 6 86 aa ?_;simp only[aP];refine a0l 7 87 aa ?_;simp only[aP];refine a0l 8 88 aa ?_;simp only[aP];refine a1N 9 (λK hK=>?_);go_simp;refine(ag.o _ (b0i a7.o)).mono ?_;rintro e wA ⟨rfl,av⟩;refine hK.out _ _ (aL.o _ av.o) (λaa => ?_);clear hK K;refine a0l 10 90 aa ?_;simp only[aP];refine a0l 11 91 aa ?_;simp only[aP];refine a0l 12 92 aa ?_;simp only[aP];refine a1F (i:=13) (some 93) rfl rfl kr kr kr ii (by rfl) aa ?_;simp only[aP];refine a1F (i:=14) (some 94) rfl rfl kr kr kr ii (by rfl) aa ?_;simp only[aP];refine a1F (i:=15) (some 95) rfl rfl kr kr kr ii (by rfl) aa ?_;simp only[aP];refine a1F (i:=16) (some 96) rfl rfl kr kr kr ii (by rfl) aa ?_;simp only[aP];refine a0l 17 97 aa ?_;simp only[aP];refine wpAnyH_done kr ?_ _;(go_wp2_with fail);go_meet
           exact⟨by rw[aH.o],av⟩
          | true =>
           rw[hp] at hs ag;have aH:Hid (Rl.stays r l p f=decide (f.dst/16=103282638848)):=hs;clear hs hv hp;go_region_held3 (λW=>((W.cell? (Pv w.heap.size 0)=some (.string r.name)/\W.cell? (Pv w.heap.size 1)=some (Iv r.rev)/\W.cell? (Pv w.heap.size 2)=some (.slice r.ao r.n r.cap))/\(W.cell? (Pv (w.heap.size+1) 0)=some (Uv f.dst)/\W.cell? (Pv (w.heap.size+1) 1)=some (Uv f.src)/\W.cell? (Pv (w.heap.size+1) 2)=some (.bool f.tagged)/\W.cell? (Pv (w.heap.size+1) 3)=some (Iv f.prio)/\W.cell? (Pv (w.heap.size+1) 4)=some (.bool f.drop)/\W.cell? (Pv (w.heap.size+1) 5)=some (Iv f.vid)/\W.cell? (Pv (w.heap.size+1) 6)=some (Iv f.type)/\W.cell? (Pv (w.heap.size+1) 7)=some (.slice f.ao f.n f.cap)))/\(W.cell? (Pv b (off+k*4))=some (Iv x.port)/\W.cell? (Pv b (off+k*4+1))=some (.slice x.wo x.ways.length x.wcap)/\W.cell? (Pv b (off+k*4+2))=some (Iv x.plain)/\W.cell? (Pv b (off+k*4+3))=some (.slice x.oo x.opens.length x.ocap)))
            (first | (exact aL.o _ (Hid.o aS)) | (exact aL.o _ (b0i (Hid.o aS))))
            (first | (go_at_call 58;(with_reducible refine(ag.o _ (by first | exact(Hid.o aS) | exact b0i (Hid.o aS))).mono ?_);rintro e wA ⟨rfl,av⟩))
           (all_goals go_wp2_with fail);all_goals go_meet
           all_goals exact⟨by rw[aH.o];first | rfl | exact congrArg Value.bool (Bool.eq_iff_iff.2 (by simp[b7.o])),av⟩
        case rest =>
        rename World=>w5
        obtain⟨rfl,am⟩:=hcut;clear aK ag bM c0 c1 c2 d0 d1 d2 d3 d4 d5 d6 d7 g0 g1 g2 g3;cases an:Rl.stays r l p f with
        | true =>
         have aT:Hid _:=aB.o an;clear aB aC ay aE aV az an;(go_wp2_with fail);go_ret3;exact⟨none,0,[],bo,bcap,by rw[aT.o];rfl,by rw[aT.o];exact⟨⟨rfl,⟨CRow.none _ _ _ _ _,λx h=>by simp at h⟩,(ac.o w5 am.o).book,ai.o _ am.o⟩,OwnR.nil _ _ _,(λ_ h=>absurd h (by simp)),Or.inl ⟨rfl,rfl,rfl⟩⟩⟩
        | false =>
         have aT:Hid _:=aC.o an;obtain⟨mm,aX⟩:=nn (Rl.learnt bk l p f)
         have bq:Bk.learn bk ⟨vi,f.src,p,0⟩=mm:=(by rw[aX];exact ay.o.symm)
         have bS:Bk.Book mm:=(by rw[<-bq];exact Bk.learn_book bs _)
         have a8:=aE.o;rw[<-aX] at a8;obtain⟨sn,ak⟩:=nn (Bk.lookP mm (a0L vi f.dst))
         obtain⟨kn,bd⟩:=nn (decide (Bk.Known mm (a0L vi f.dst)))
         have bU:Hid (Rl.outs r l bk p f=(l.filter (λg=>decide (g.port≠p)&&(Rl.passes g (r.tree vi) vi&&(!kn||decide (g.port=sn))))).map (Rl.leave f vi)):=(by rw[ak,bd];exact a8)
         have bO:Hid (Rl.relay r l bk p f=⟨Rl.outs r l bk p f,mm,0⟩):=(by rw[aT.o,aX];rfl)
         have bD:Hid (Calls prog 59 #[.slice bo bk.length bcap,Iv vi,Uv f.src,Iv p] w5 λe w'=>∃y c,e=.returned (.slice y mm.length c)/\Hid (BEL w' y c mm/\Bl w5 w'/\BkD w' w5.heap.size bo bcap bk y c mm)):=by
          have:=a6m bo bcap bk vi f.src p w5 bs (ac.o w5 am.o).book (ac.o w5 am.o).src.1 (ac.o w5 am.o).src.2;rw[bq] at this;refine this.mono ?_;rintro e w' ⟨y,c,rfl,h1,h2,h3⟩;exact⟨y,c,rfl,h1,h2,h3⟩
         have bW:Hid (∀(W:World) (y:OA) (c:Nat),BEL W y c mm->Calls prog 60 #[.slice y mm.length c,Iv vi,Uv f.dst] W λe w'=>e=.returned (.tuple #[Iv sn,.bool kn])/\Hid (Bl W w')):=λW y c h=>by rw[ak,bd];exact(a7O y c mm vi f.dst W bS h).mono (λe w' h=>⟨h.1,h.2⟩)
         clear aB aC an a8 aX bq ak bd aT aE ay bS;obtain⟨⟨c0,c1,c2⟩,d0,d1,d2,d3,d4,d5,d6,d7⟩:=au.o w5 am.o;(go_wp2_with fail);refine bD.o.mono ?_;rintro e w6 ⟨yb,cb,rfl,H6⟩;have bv:Hid (Bl W0 w6):=a0c am.o H6.o.2.1;clear bD c0 c1 c2 d0 d1 d2 d3 d4 d5 d6 d7;obtain⟨⟨c0,c1,c2⟩,d0,d1,d2,d3,d4,d5,d6,d7⟩:=au.o w6 bv.o;(go_wp2_with fail);refine(bW.o w6 yb cb H6.o.1).mono ?_;rintro e w7 ⟨rfl,H7⟩;have bQ:Hid (Bl W0 w7):=a0c bv.o H7.o;have b6:Hid (∀W,Bl w7 W->BEL W yb cb mm):=λW hW=>BEL.below (BEL.below H6.o.1 H7.o) hW;have b3:Hid (∀W,Bl w7 W->BkD W w.heap.size bo bcap bk yb cb mm):=λW hW=>by
          rcases H6.o.2.2 with h | h
          ·exact Or.inl h
          ·exact Or.inr (((h.below H7.o).below hW).mono (ai.o w5 am.o).size)
         clear bW c0 c1 c2 d0 d1 d2 d3 d4 d5 d6 d7 H6 H7;obtain⟨P,hP⟩:∃P:G->Bool,P=λg=>decide (g.port≠p)&&(Rl.passes g (r.tree vi) vi&&(!kn||decide (g.port=sn))):=⟨_,rfl⟩
         rw[<-hP] at bU;have b8:Hid (∀g,P g=(decide (g.port≠p)&&(Rl.passes g (r.tree vi) vi&&(!kn||decide (g.port=sn))))):=λg=>by rw[hP]
         clear hP;rename World=>w7
         (go_wp2_with fail);go_loopw [23,115] (λo i ws=>∃(i':Nat) (a:OA) (m' c:Nat),i'<=l.length/\i=Iv i'/\o=.slice a m' c/\Hid (m'=(((l.take i').filter P).map (Rl.leave f vi)).length/\OwnR ws w7.heap.size (.slice a m' c) f (((l.take i').filter P).map (Rl.leave f vi))/\Bl w7 ws)) (λ_ i _=>l.length-(intOf i).toNat)
         case atStart=>exact⟨0,none,0,0,om,rfl,rfl,⟨rfl,OwnR.nil _ _ _,b0h _ _⟩⟩
         case round =>
          obtain⟨i,a,m',c,hi,rfl,rfl,hX⟩:=hrel;rename World=>ws
          have aQ:Bl W0 ws:=a0c bQ.o hX.o.2.2;by_cases hlt:i<l.length
          ·obtain⟨g0,g1,g2,g3⟩:=(ac.o ws aQ).gates.cells hlt;have bB:=(ac.o ws aQ).gates.at hlt;obtain⟨X,HX⟩:=nm (ws.alloc (.cells #[Iv (gat l i).port,.slice (gat l i).wo (gat l i).ways.length (gat l i).wcap,Iv (gat l i).plain,.slice (gat l i).oo (gat l i).opens.length (gat l i).ocap] 95))
           have aD:Bl ws X:=(by rw[HX.o];exact bA1 _ _)
           have bG:X.heap[ws.heap.size]?=some (.cells #[Iv (gat l i).port,.slice (gat l i).wo (gat l i).ways.length (gat l i).wcap,Iv (gat l i).plain,.slice (gat l i).oo (gat l i).opens.length (gat l i).ocap] 95):=(by rw[HX.o];exact a9Z _ _)
           have aZ:Bl W0 X:=a0c aQ aD;have br:Bl w7 X:=a0c hX.o.2.2 aD;have an:=a9l P (Rl.leave f vi) l i hlt;have a2:Hid (Bl X X):=b0h _ _;have b4:Hid (∀W,Bl X W->Bl W0 W):=λW hW=>a0c aZ hW;have aW:Hid (∀W,Bl X W->W.cell? (Pv ws.heap.size 0)=some (Iv (gat l i).port)/\W.cell? (Pv ws.heap.size 1)=some (.slice (gat l i).wo (gat l i).ways.length (gat l i).wcap)/\W.cell? (Pv ws.heap.size 2)=some (Iv (gat l i).plain)/\W.cell? (Pv ws.heap.size 3)=some (.slice (gat l i).oo (gat l i).opens.length (gat l i).ocap)):=λW hW=>a1O (keep bG hW);have aO:Hid (P (gat l i)=false->∀W,Bl X W->m'=(((l.take (i+1)).filter P).map (Rl.leave f vi)).length/\OwnR W w7.heap.size (.slice a m' c) f (((l.take (i+1)).filter P).map (Rl.leave f vi))/\Bl w7 W):=λhp W hW=>by
            rw[an,iN (by simp[hp]),List.append_nil];exact⟨hX.o.1,(hX.o.2.1.below aD).below hW,a0c br hW⟩
           have aN:(((l.take i).filter P).map (Rl.leave f vi)).length<=1000:=by
            rw[List.length_map];exact b0p (List.length_filter_le _ _) (by simp;omega)
           have aJ:Hid (P (gat l i)=true->∀W,Bl X W->∃a1 m1 c1 W2,a2s (.slice a m' c) (.slice (some (Pv W.heap.size 0)) 1 1) (W.alloc (.cells (oA f ⟨Rl.leave f vi (gat l i),f.ao,f.cap⟩) 101)) (.slice a1 m1 c1) W2/\Hid (m1=(((l.take (i+1)).filter P).map (Rl.leave f vi)).length/\OwnR W2 w7.heap.size (.slice a1 m1 c1) f (((l.take (i+1)).filter P).map (Rl.leave f vi))/\Bl w7 W2)):=λhp W hW=>by
            have bw:Bl w7 W:=a0c br hW;obtain⟨a1,m1,c1,W2,r1,e1,o1,b1⟩:=more_ro w7.heap.size W (.slice a m' c) f _ (Rl.leave f vi (gat l i)) ((hX.o.2.1.below aD).below hW) aN bw.size;refine⟨a1,m1,c1,W2,r1,?_⟩;rw[an,iP hp];exact⟨e1,o1,bw.trans b1⟩
           have ag:Hid (Calls prog 58 #[.agg #[Iv (gat l i).port,.slice (gat l i).wo (gat l i).ways.length (gat l i).wcap,Iv (gat l i).plain,.slice (gat l i).oo (gat l i).opens.length (gat l i).ocap],.agg #[.string r.name,Iv r.rev,.slice r.ao r.n r.cap],Iv vi] X λe w'=>e=.returned (.bool (Rl.passes (gat l i) (r.tree vi) vi))/\Hid (Bl X w')):=az.o (gat l i) X X aZ a2.o (bB.below aD);have aM:=aV.o i hlt;have aj:=b8.o (gat l i);obtain⟨⟨c0,c1,c2⟩,d0,d1,d2,d3,d4,d5,d6,d7⟩:=au.o X aZ;obtain⟨v0,v1,v2,v3⟩:=aW.o X a2.o;clear hX aD bG aZ br an bB aN;generalize gat l i=y at *;obtain⟨pv,bF⟩:=nn (P y)
           rw[<-bF] at aO aJ aj;clear bF;(go_upto_region 33 with fail);rw[<-HX.o];clear g0 g1 g2 g3;go_cut [138] (λv W=>v=.bool (!pv)/\Hid (Bl X W))
           case first =>
            clear aO aJ;by_cases hik:i=k
            ·have e1:((i:Int) == (k:Int))=true:=(by simp[hik])
             have ax:Hid (pv=false):=(by rw[aj,b0j (show ¬y.port≠p by simp[aM.2 hik])];rfl)
             clear hik aj aM ag;(go_wp2_with fail);go_meet
             exact⟨by rw[ax.o];rfl,a2⟩
            ·have e1:((i:Int) == (k:Int))=false:=(by simp;omega)
             have ca:(i == k)=false:=(by simpa using hik)
             rw[b0k (show y.port≠p from λh=>hik (aM.1 h)),Bool.true_and] at aj;clear aM hik;cases kn with
             | false =>
              have ax:Hid (pv=Rl.passes y (r.tree vi) vi):=by show pv=Rl.passes y (r.tree vi) vi;rw[aj];simp
              generalize Rl.passes y (r.tree vi) vi=ps at *;clear aj;go_wp2_with (go_at_call 58;refine ag.o.mono ?_;rintro e wA ⟨rfl,av⟩)
              go_meet
              exact⟨by rw[ax.o],av⟩
             | true =>
              by_cases ak:y.port=sn
              ·have e2:(y.port != sn)=false:=(by simp[ak])
               have ax:Hid (pv=Rl.passes y (r.tree vi) vi):=by show pv=Rl.passes y (r.tree vi) vi;rw[aj,b0k ak];simp
               generalize Rl.passes y (r.tree vi) vi=ps at *;clear aj ak;go_wp2_with (go_at_call 58;refine ag.o.mono ?_;rintro e wA ⟨rfl,av⟩)
               go_meet
               exact⟨by rw[ax.o],av⟩
              ·have e2:(y.port != sn)=true:=(by simp[ak])
               have ax:Hid (pv=false):=by show pv=false;rw[aj,b0j ak];simp
               clear aj ak ag;(go_wp2_with fail);go_meet
               exact⟨by rw[ax.o];rfl,a2⟩
           case rest =>
           rename World=>wz
           obtain⟨rfl,aF⟩:=hcut;clear aj aM ag c0 c1 c2 d0 d1 d2 d3 d4 d5 d6 d7 v0 v1 v2 v3;cases pv with
           | false =>
            have HZ:Hid _:=aO.o rfl wz aF.o;clear aO aJ;(go_wp2_with fail);exact⟨⟨i+1,a,m',c,om,gn,rfl,HZ.o⟩,io⟩
           | true =>
            have af:Hid (∀W,Bl X W->∃a1 m1 c1 W2,a2s (.slice a m' c) (.slice (some (Pv W.heap.size 0)) 1 1) (W.alloc (.cells (oA f ⟨Rl.leave f vi y,f.ao,f.cap⟩) 101)) (.slice a1 m1 c1) W2/\Hid (m1=(((l.take (i+1)).filter P).map (Rl.leave f vi)).length/\OwnR W2 w7.heap.size (.slice a1 m1 c1) f (((l.take (i+1)).filter P).map (Rl.leave f vi))/\Bl w7 W2)):=aJ.o rfl;obtain⟨⟨c0,c1,c2⟩,d0,d1,d2,d3,d4,d5,d6,d7⟩:=au.o wz (b4.o _ aF.o);obtain⟨v0,v1,v2,v3⟩:=aW.o wz aF.o;have lz:ws.heap.size<wz.heap.size:=b0r v0;have lf:w.heap.size+1<wz.heap.size:=b0r d0;clear aO aJ;by_cases hpl:y.plain=vi
            ·have e1:(y.plain != vi)=false:=(by simp[hpl])
             have hl:Rl.leave f vi y=⟨y.port,false,0,false,0⟩:=iP hpl;clear hpl;obtain⟨Y,HY⟩:=nm (wz.alloc (.cells #[Uv f.dst,Uv f.src,.bool false,Iv 0,.bool false,Iv 0,Iv f.type,.slice f.ao f.n f.cap] 31))
             have ah:Bl X Y:=(by rw[HY.o];exact a1u aF.o _)
             have aq:Y.heap[wz.heap.size]?=some (.cells #[Uv f.dst,Uv f.src,.bool false,Iv 0,.bool false,Iv 0,Iv f.type,.slice f.ao f.n f.cap] 31):=(by rw[HY.o];exact a9Z _ _)
             obtain⟨a1,m1,ap,W2,r1,HZ⟩:=af.o Y ah;rw[hl] at r1;have ar:Hid (a2s (.slice a m' c) (.slice (some (Pv Y.heap.size 0)) 1 1) (Y.alloc (.cells #[Iv y.port,Uv f.dst,Uv f.src,.bool false,Iv 0,.bool false,Iv 0,Iv f.type,.slice f.ao f.n f.cap] 101)) (.slice a1 m1 ap) W2):=r1;obtain⟨y0,y1,y2,y3,y4,y5,y6,y7⟩:=a0U aq;obtain⟨u0,u1,u2,u3⟩:=aW.o Y ah;clear ah aq r1 af hl;(go_upto_region 39 with fail);rw[<-HY.o];clear c0 c1 c2 d0 d1 d2 d3 d4 d5 d6 d7 v0 v1 v2 v3;go_wp2_with (at_builtin;refine a0a rfl (.tmp 163) (.tmp 168) 97 rfl _ _ _ rfl rfl ar.o ?_;clear ar)
             exact⟨⟨i+1,a1,m1,ap,om,gn,rfl,HZ.o⟩,io⟩
            ·have e1:(y.plain != vi)=true:=(by simp[hpl])
             by_cases ht:f.tagged=true
             ·rw[ht] at d2;have hl:Rl.leave f vi y=⟨y.port,true,f.prio,f.drop,vi⟩:=(by unfold Rl.leave;rw[iN hpl,iP ht,ht];rfl)
              clear hpl ht;obtain⟨Y,HY⟩:=nm ((wz.alloc (.cells #[Uv f.dst,Uv f.src,.bool true,Iv f.prio,.bool f.drop,Iv vi,Iv f.type,.slice f.ao f.n f.cap] 31)).drew)
              have ah:Bl X Y:=(by rw[HY.o];exact(a1u aF.o _).drew)
              have aq:Y.heap[wz.heap.size]?=some (.cells #[Uv f.dst,Uv f.src,.bool true,Iv f.prio,.bool f.drop,Iv vi,Iv f.type,.slice f.ao f.n f.cap] 31):=(by rw[HY.o];exact a9Z _ _)
              obtain⟨a1,m1,ap,W2,r1,HZ⟩:=af.o Y ah;rw[hl] at r1;have ar:Hid (a2s (.slice a m' c) (.slice (some (Pv Y.heap.size 0)) 1 1) (Y.alloc (.cells #[Iv y.port,Uv f.dst,Uv f.src,.bool true,Iv f.prio,.bool f.drop,Iv vi,Iv f.type,.slice f.ao f.n f.cap] 101)) (.slice a1 m1 ap) W2):=r1;obtain⟨y0,y1,y2,y3,y4,y5,y6,y7⟩:=a0U aq;obtain⟨u0,u1,u2,u3⟩:=aW.o Y ah;clear ah aq r1 af hl;(go_upto_region 38 with fail);go_region
              all_goals go_upto_region 39 with fail
              all_goals rw[<-HY.o]
              all_goals clear c0 c1 c2 d0 d1 d2 d3 d4 d5 d6 d7 v0 v1 v2 v3
              all_goals go_wp2_with (at_builtin;refine a0a rfl (.tmp 163) (.tmp 168) 97 rfl _ _ _ rfl rfl ar.o ?_;clear ar)
              all_goals exact⟨⟨i+1,a1,m1,ap,om,gn,rfl,HZ.o⟩,io⟩
             ·have a5:f.tagged=false:=(by simpa using ht)
              rw[a5] at d2;have hl:Rl.leave f vi y=⟨y.port,true,0,false,vi⟩:=(by unfold Rl.leave;rw[iN hpl,iN ht,a5];rfl)
              clear hpl ht a5;obtain⟨Y,HY⟩:=nm (wz.alloc (.cells #[Uv f.dst,Uv f.src,.bool true,Iv 0,.bool false,Iv vi,Iv f.type,.slice f.ao f.n f.cap] 31))
              have ah:Bl X Y:=(by rw[HY.o];exact a1u aF.o _)
              have aq:Y.heap[wz.heap.size]?=some (.cells #[Uv f.dst,Uv f.src,.bool true,Iv 0,.bool false,Iv vi,Iv f.type,.slice f.ao f.n f.cap] 31):=(by rw[HY.o];exact a9Z _ _)
              obtain⟨a1,m1,ap,W2,r1,HZ⟩:=af.o Y ah;rw[hl] at r1;have ar:Hid (a2s (.slice a m' c) (.slice (some (Pv Y.heap.size 0)) 1 1) (Y.alloc (.cells #[Iv y.port,Uv f.dst,Uv f.src,.bool true,Iv 0,.bool false,Iv vi,Iv f.type,.slice f.ao f.n f.cap] 101)) (.slice a1 m1 ap) W2):=r1;obtain⟨y0,y1,y2,y3,y4,y5,y6,y7⟩:=a0U aq;obtain⟨u0,u1,u2,u3⟩:=aW.o Y ah;clear ah aq r1 af hl;(go_upto_region 39 with fail);rw[<-HY.o];clear c0 c1 c2 d0 d1 d2 d3 d4 d5 d6 d7 v0 v1 v2 v3;go_wp2_with (at_builtin;refine a0a rfl (.tmp 163) (.tmp 168) 97 rfl _ _ _ rfl rfl ar.o ?_;clear ar)
              exact⟨⟨i+1,a1,m1,ap,om,gn,rfl,HZ.o⟩,io⟩
          ·obtain rfl:i=l.length:=om
           have ad:=hX.o;rw[List.take_length] at ad;have a6:=ac.o ws aQ;obtain⟨b9,bZ,e2,aU⟩:=ad.2.1.el a6.data a6.dnil;injection e2 with e3 e4 e5;have bX:Hid ((RelDoc w ws f ⟨Rl.outs r l bk p f,mm,0⟩ a c (ovs f ((l.filter P).map (Rl.leave f vi))) yb cb/\RelOwn w ws f a c (ovs f ((l.filter P).map (Rl.leave f vi))) bo bcap bk yb cb mm)/\m'=(ovs f ((l.filter P).map (Rl.leave f vi))).length):=by
            refine⟨⟨⟨?_,?_,b6.o ws ad.2.2,ai.o ws aQ⟩,?_,?_,b3.o ws ad.2.2⟩,?_⟩
            ·rw[bU.o];simp[ovs]
            ·rw[e3,e5];exact aU
            ·have e6:∀L:List O,(ovs f L).map OV.o=L:=λL=>by
              induction L with
              | nil=>rfl
              | cons a l ih=>exact congrArg (a :: ·) ih
             have e7:∀L:List O,(ovs f L).length=L.length:=λL=>by simp[ovs]
             rw[e6,e7,<-ad.1];exact ad.2.1.mono (ai.o w7 bQ.o).size
            ·intro x hx;obtain⟨o,_,rfl⟩:=List.mem_map.1 hx;exact⟨rfl,rfl⟩
            ·rw[ad.1];simp[ovs]
           clear hX ad a6 e3 e4 e5 aU;(go_wp2_with fail);go_ret3;refine⟨a,c,ovs f ((l.filter P).map (Rl.leave f vi)),yb,cb,?_,by rw[bO.o];exact bX.o.1⟩;rw[bO.o,<-bX.o.2];rfl
    ·have hE:Rl.errR r l bk f=e4:=(by rw[ab.o,k1,k2,k3];rfl)
     have HX:Hid (Rl.relay r l bk p f=⟨[],[],e4⟩):=(by rw[al.o (by rw[hE];exact k4),hE];rfl)
     have dq:(e4 != 0)=true:=(by simp[k4])
     clear hE k4 ab al;(go_wp2_with fail);go_ret3;exact⟨none,0,[],none,0,by rw[HX.o];rfl,by rw[HX.o];exact ae.o _ _ bj.o⟩
   ·have hE:Rl.errR r l bk f=e3:=(by rw[ab.o,k1,k2];unfold Rl.or4 Rl.or3;rw[iP rfl,iP rfl,iN k3])
    have HX:Hid (Rl.relay r l bk p f=⟨[],[],e3⟩):=(by rw[al.o (by rw[hE];exact k3),hE];rfl)
    have dq:(e3 != 0)=true:=(by simp[k3])
    have bt:Hid (∀o,Bl W0 (w3.alloc o)):=λo=>a1u bA.o o;clear hE k3 ab al;(go_wp2_with fail);(go_quiet (fail));(go_wp2_with fail);go_ret3;exact⟨none,0,[],none,0,by rw[HX.o];rfl,by rw[HX.o];exact ae.o _ _ (by first | exact a0d (bt.o _) _ | exact(bt.o _).drew | exact bt.o _)⟩
  ·have hE:Rl.errR r l bk f=e2:=(by rw[ab.o,k1];unfold Rl.or4 Rl.or3;rw[iP rfl,iN k2])
   have HX:Hid (Rl.relay r l bk p f=⟨[],[],e2⟩):=(by rw[al.o (by rw[hE];exact k2),hE];rfl)
   have dq:(e2 != 0)=true:=(by simp[k2])
   have aI:Hid (∀o,Bl W0 (w2.alloc o)):=λo=>a1u bz.o o;clear hE k2 ab al;(go_wp2_with fail);(go_quiet (fail));(go_wp2_with fail);go_ret3;exact⟨none,0,[],none,0,by rw[HX.o];rfl,by rw[HX.o];exact ae.o _ _ (by first | exact a0d (aI.o _) _ | exact(aI.o _).drew | exact aI.o _)⟩
 ·have hE:Rl.errR r l bk f=e1:=(by rw[ab.o];unfold Rl.or4;rw[iN k1])
  have HX:Hid (Rl.relay r l bk p f=⟨[],[],e1⟩):=(by rw[al.o (by rw[hE];exact k1),hE];rfl)
  have dq:(e1 != 0)=true:=(by simp[k1])
  clear hE k1 ab al;(go_wp2_with fail);go_ret3;exact⟨none,0,[],none,0,by rw[HX.o];rfl,by rw[HX.o];exact ae.o _ _ bY.o⟩
namespace Pl
open Vc (V Of)
section
variable {ids:Nat->Int}{ls:Nat->Lk}{lv:Nat->Bool}{K L m:Nat}{on:Nat->Nat}
structure Lives (ls:Nat->Lk) (lv:Nat->Bool) (L m:Nat) (on:Nat->Nat):Prop where
 mem:∀j,j<m->on j<L/\lv (on j)=true
 all:∀k,k<L->lv k=true->∃j,j<m/\on j=k
end
end Pl
