import Derived.Test.YthccoinonjoleaaGreatDoorZP4
import Derived.Test.YthccoinonjoleaaGreatDoorZR3
import Derived.Test.YthccoinonjoleaaGreatDoorZDkRead
import Derived.Laws.MakeOwn
import Derived.OwnWalk
namespace Go.Proofs.YthccoinonjoleaaGreatDoor
open Go.RowKit
set_option maxRecDepth 100000
set_option maxHeartbeats 16000000
section
abbrev CIx:=Nat × Nat × Nat
abbrev iB:CIx:=(0,0,0)
abbrev iN (j:Nat):CIx:=(1,j,0)
abbrev iS (k:Nat):CIx:=(2,k,0)
abbrev iR (k j:Nat):CIx:=(3,k,j)
abbrev iQ (k j:Nat):CIx:=(4,k,j)
structure CMap where
 X:List Nat
 cb:Nat
 ccap:Nat
 sa:Option Addr
 scap:Nat
 nb:Nat
 ncap:Nat
 la:Option Addr
 lb:Nat
 lcap:Nat
 P:Nat→Nat
 S:Nat→Nat
 E:Nat→Nat
 D:Nat→Nat→Nat
 R:Nat→Nat→Nat
 Q:Nat→Nat→Nat
structure CBase (w:World) (C:Nat) (p:PlanN) (fa:Int) (cs:List Int) (rd:Int) (m:CMap):Prop where
 c0:w.cell? ⟨C,0,none⟩=some (.int .i64 p.nodes)
 c1:w.cell? ⟨C,1,none⟩=some (.int .i64 p.faulty)
 c3:w.cell? ⟨C,3,none⟩=some (.int .i64 p.jitter)
 c4:w.cell? ⟨C,4,none⟩=some (.int .i64 p.drift)
 c5:w.cell? ⟨C,5,none⟩=some (.int .i64 p.round)
 c6:w.cell? ⟨C,6,none⟩=some (.slice m.sa p.ns m.scap)
 c10:w.cell? ⟨C,10,none⟩=some (.int .i64 fa)
 c11:w.cell? ⟨C,11,none⟩=some (.slice (some ⟨m.cb,0,none⟩) cs.length m.ccap)
 c12:w.cell? ⟨C,12,none⟩=some (.int .i64 rd)
 c13:w.cell? ⟨C,13,none⟩=some (.slice (some ⟨m.nb,0,none⟩) p.n m.ncap)
 c14:w.cell? ⟨C,14,none⟩=some (.slice m.la p.nl m.lcap)
 z:∀ i,w.frozen? ⟨C,i,none⟩=false
 lc:C<w.heap.size
 nC:C∉m.X
 lx:∀ c,c∈m.X→c<w.heap.size
 ck:∀ j,j<cs.length→w.cell? ⟨m.cb,j,none⟩=some (.int .i64 (cs.getD j 0))
 ckX:m.cb∈m.X
 sl:0<p.ns→∃ b off,m.sa=some ⟨b,off,none⟩∧b∈m.X∧∀ i,i<p.ns→w.cell? ⟨b,off+i*3,none⟩=some (.int .i64 (p.nd i))∧w.cell? ⟨b,off+i*3+1,none⟩=some (.int .i64 (p.fr i))∧w.cell? ⟨b,off+i*3+2,none⟩=some (.int .i64 (p.td i))
 nd:∀ j,j<p.n→w.cell? ⟨m.nb,j,none⟩=some (.pointer (some ⟨m.P j,0,none⟩))
 ndX:m.nb∈m.X
 la:0<p.nl→m.la=some ⟨m.lb,0,none⟩∧m.lb∈m.X
 lk:∀ k,k<p.nl→w.cell? ⟨m.lb,k*3,none⟩=some (.int .i64 (p.lf k))∧w.cell? ⟨m.lb,k*3+1,none⟩=some (.pointer (some ⟨m.S k,0,none⟩))∧w.cell? ⟨m.lb,k*3+2,none⟩=some (.slice (some ⟨m.E k,0,none⟩) p.n p.n)
 en:∀ k,k<p.nl→m.E k∈m.X∧∀ j,j<p.n→w.cell? ⟨m.E k,j,none⟩=some (.pointer (if bitI (p.lt k) j=true then some ⟨m.D k j,0,none⟩ else none))
 dn:∀ k j,k<p.nl→j<p.n→bitI (p.lt k) j=true→m.D k j∈m.X∧w.cell? ⟨m.D k j,0,none⟩=some (.pointer (some ⟨m.R k j,0,none⟩))∧w.cell? ⟨m.D k j,1,none⟩=some (.pointer (some ⟨m.Q k j,0,none⟩))
theorem CBase.keep {w w':World} {C:Nat} {p:PlanN} {fa:Int} {cs:List Int} {rd:Int} {m:CMap} (h:CBase w C p fa cs rd m) (k:Same (C::m.X) w w'):CBase w' C p fa cs rd m:=by
 have cc:∀ i,w'.cell? ⟨C,i,none⟩=w.cell? ⟨C,i,none⟩:=fun i=>k.cell (p:=⟨C,i,none⟩) List.mem_cons_self
 have cx:∀ b i,b∈m.X→w'.cell? ⟨b,i,none⟩=w.cell? ⟨b,i,none⟩:=fun b i hb=>k.cell (p:=⟨b,i,none⟩) (List.mem_cons_of_mem _ hb)
 refine ⟨(cc 0).trans h.c0,(cc 1).trans h.c1,(cc 3).trans h.c3,(cc 4).trans h.c4,(cc 5).trans h.c5,(cc 6).trans h.c6,(cc 10).trans h.c10,(cc 11).trans h.c11,(cc 12).trans h.c12,(cc 13).trans h.c13,(cc 14).trans h.c14,fun i=>(k.frozen (p:=⟨C,i,none⟩) List.mem_cons_self).trans (h.z i),Nat.lt_of_lt_of_le h.lc k.1,h.nC,fun c hc=>Nat.lt_of_lt_of_le (h.lx c hc) k.1,fun j hj=>(cx _ _ h.ckX).trans (h.ck j hj),h.ckX,fun h0=>?_,fun j hj=>(cx _ _ h.ndX).trans (h.nd j hj),h.ndX,h.la,fun i hi=>?_,fun i hi=>⟨(h.en i hi).1,fun j hj=>(cx _ _ (h.en i hi).1).trans ((h.en i hi).2 j hj)⟩,fun i j hi hj hb=>?_⟩
 ·obtain ⟨b,off,e,hb,hc⟩:=h.sl h0
  exact ⟨b,off,e,hb,fun i hi=>⟨(cx _ _ hb).trans (hc i hi).1,(cx _ _ hb).trans (hc i hi).2.1,(cx _ _ hb).trans (hc i hi).2.2⟩⟩
 ·have hl:=(h.la (by omega)).2
  obtain ⟨a,b,c⟩:=h.lk i hi
  exact ⟨(cx _ _ hl).trans a,(cx _ _ hl).trans b,(cx _ _ hl).trans c⟩
 ·obtain ⟨a,b,c⟩:=h.dn i j hi hj hb
  exact ⟨a,(cx _ _ a).trans b,(cx _ _ a).trans c⟩
def NodeIn (B:Nat) (N:NodeS):Prop:=(0≤N.g∧N.g≤B)∧0≤N.b∧N.b≤B
def SendIn (B:Nat) (S:SendS):Prop:=S.all.length≤B∧(0≤S.last∧S.last≤1099511627776)∧∀ d∈S.all,d.size≤40
structure CM (w:World) (O:List Nat) (Of:CIx→List Nat) (C:Nat) (p:PlanN) (fa:Int) (cs:List Int) (s:ClS) (rd:Int) (B:Nat) (m:CMap):Prop where
 base:CBase w C p fa cs rd m
 ob:Of iB=C::m.X
 fam:Fam w Of
 sub:∀ i c,c∈Of i→c∈O
 lo:∀ c,c∈O→c<w.heap.size
 node:∀ j,j<p.n→(ProgNode w (m.P j) j p.n (bitsV (s.nodes j).t p.n) (s.nodes j).g (s.nodes j).b (s.nodes j).fz∧Of (iN j) = [m.P j])∧NodeIn B (s.nodes j)
 snd:∀ k,k<p.nl→Sdr w (Of (iS k)) (m.S k) (p.lb k) (p.lq k) (s.links k).all (s.links k).went (s.links k).last (s.links k).now∧SendIn B (s.links k)
 rcv:∀ k j,k<p.nl→j<p.n→bitI (p.lt k) j=true→∃ a b,Rcv w (Of (iR k j)) (m.R k j) (s.newest k j) a b∧((0≤a∧a≤B)∧0≤b∧b≤B)∧s.newest k j≤255
 que:∀ k j,k<p.nl→j<p.n→bitI (p.lt k) j=true→∃ lost,Que w (Of (iQ k j)) (m.Q k j) 16 (s.ports k j) lost∧(0≤lost∧lost≤B)∧(s.ports k j).length≤16
def Cl (w:World) (O:List Nat) (C:Nat) (p:PlanN) (fa:Int) (cs:List Int) (s:ClS) (rd:Int) (B:Nat) (m:CMap):Prop:=∃ Of,CM w O Of C p fa cs s rd B m
section
variable {w w':World} {O:List Nat} {Of:CIx→List Nat} {C:Nat} {p:PlanN} {fa:Int} {cs:List Int} {s:ClS} {rd:Int} {B:Nat} {m:CMap}
theorem ProgNode.same {P:Nat} {id:Int} {n:Nat} {mm g b:Int} {fz:Bool} (h:ProgNode w P id n mm g b fz) (k:Same [P] w w'):ProgNode w' P id n mm g b fz :=
 have c:∀ i,w'.cell? ⟨P,i,none⟩=w.cell? ⟨P,i,none⟩:=fun i=>k.cell (p:=⟨P,i,none⟩) List.mem_cons_self
 ⟨(c 0).trans h.c0,(c 1).trans h.c1,(c 2).trans h.c2,(c 3).trans h.c3,(c 4).trans h.c4,(c 5).trans h.c5,fun i=>(k.frozen (p:=⟨P,i,none⟩) List.mem_cons_self).trans (h.z i),Nat.lt_of_lt_of_le h.lp k.1⟩
theorem Cl.base (h:Cl w O C p fa cs s rd B m):CBase w C p fa cs rd m:=by obtain ⟨_,h⟩:=h;exact h.base
theorem Cl.lt (h:Cl w O C p fa cs s rd B m):∀ c,c∈O→c<w.heap.size:=by obtain ⟨_,h⟩:=h;exact h.lo
theorem Cl.mem (h:Cl w O C p fa cs s rd B m):C∈O:=by
 obtain ⟨_,h⟩:=h
 exact h.sub iB C (by rw [h.ob];exact List.mem_cons_self)
theorem Cl.keep (h:Cl w O C p fa cs s rd B m) (k:Same O w w'):Cl w' O C p fa cs s rd B m:=by
 obtain ⟨Of,h⟩:=h
 have hs:∀ i,Same (Of i) w w':=fun i=>k.part (h.sub i)
 refine ⟨Of,h.base.keep (h.ob▸hs iB),h.ob,⟨fun i c hc=>Nat.lt_of_lt_of_le (h.fam.lt i c hc) k.1,h.fam.ap⟩,h.sub,fun c hc=>Nat.lt_of_lt_of_le (h.lo c hc) k.1,fun j hj=>?_,fun i hi=>⟨(h.snd i hi).1.keep (hs _),(h.snd i hi).2⟩,fun i j hi hj hb=>?_,fun i j hi hj hb=>?_⟩
 ·obtain ⟨⟨a,b⟩,c⟩:=h.node j hj
  exact ⟨⟨a.same (b▸hs (iN j)),b⟩,c⟩
 ·obtain ⟨a,b,q,r⟩:=h.rcv i j hi hj hb
  exact ⟨a,b,q.keep (hs _),r⟩
 ·obtain ⟨l,q,r⟩:=h.que i j hi hj hb
  exact ⟨l,q.keep (hs _),r⟩
theorem Cl.below (h:Cl w O C p fa cs s rd B m) (k:Below w.heap.size w w'):Cl w' O C p fa cs s rd B m:=h.keep (Same.of_below k h.lt)
theorem Cl.more {B':Nat} (h:Cl w O C p fa cs s rd B m) (hB:B≤B'):Cl w O C p fa cs s rd B' m:=by
 obtain ⟨Of,h⟩:=h
 refine ⟨Of,h.base,h.ob,h.fam,h.sub,h.lo,fun j hj=>⟨(h.node j hj).1,?_⟩,fun i hi=>⟨(h.snd i hi).1,?_⟩,fun i j hi hj hb=>?_,fun i j hi hj hb=>?_⟩
 ·obtain ⟨⟨a,b⟩,c,d⟩:=(h.node j hj).2
  exact ⟨⟨a,by omega⟩,c,by omega⟩
 ·obtain ⟨a,b⟩:=(h.snd i hi).2
  exact ⟨by omega,b⟩
 ·obtain ⟨a,b,q,⟨⟨r1,r2⟩,r3,r4⟩,t⟩:=h.rcv i j hi hj hb
  exact ⟨a,b,q,⟨⟨r1,by omega⟩,r3,by omega⟩,t⟩
 ·obtain ⟨l,q,⟨r1,r2⟩,t⟩:=h.que i j hi hj hb
  exact ⟨l,q,⟨r1,by omega⟩,t⟩
theorem Cl.agree {s':ClS} (h:Cl w O C p fa cs s rd B m) (h1:∀ j,j<p.n→s'.nodes j=s.nodes j) (h2:∀ k,k<p.nl→s'.links k=s.links k) (h3:∀ k j,k<p.nl→j<p.n→bitI (p.lt k) j=true→s'.newest k j=s.newest k j∧s'.ports k j=s.ports k j):Cl w O C p fa cs s' rd B m:=by
 obtain ⟨Of,h⟩:=h
 refine ⟨Of,h.base,h.ob,h.fam,h.sub,h.lo,fun j hj=>?_,fun i hi=>?_,fun i j hi hj hb=>?_,fun i j hi hj hb=>?_⟩
 ·rw [h1 j hj];exact h.node j hj
 ·rw [h2 i hi];exact h.snd i hi
 ·rw [(h3 i j hi hj hb).1];exact h.rcv i j hi hj hb
 ·rw [(h3 i j hi hj hb).2];exact h.que i j hi hj hb
theorem CM.turn (h:CM w O Of C p fa cs s rd B m) {i:CIx} {Y:List Nat} (hi:i≠iB) (k:Foot (Of i) Y w w') (hY:∀ c,c∈Y→c<w'.heap.size) :
  (Foot O (O ++ Y) w w'∧CBase w' C p fa cs rd m∧setO Of i Y iB=C::m.X)∧Fam w' (setO Of i Y)∧(∀ i' c,c∈setO Of i Y i'→c∈O ++ Y)∧(∀ c,c∈O ++ Y→c<w'.heap.size)∧∀ i',i'≠i→Same (Of i') w w'∧setO Of i Y i'=Of i':=by
 have hs:∀ i',i'≠i→Same (Of i') w w':=fun i' h'=>h.fam.same k h'
 refine ⟨⟨⟨k.os,k.tape,k.output,k.size,fun c hc hn=>k.block c hc (fun y=>hn (h.sub i c y)),fun c hc=>?_⟩,h.base.keep (h.ob▸hs iB (Ne.symm hi)),by rw [setO_not _ _ (Ne.symm hi)];exact h.ob⟩,h.fam.step k hY,fun i' c hc=>?_,fun c hc=>?_,fun i' h'=>⟨hs i' h',setO_not _ _ h'⟩⟩
 ·rcases List.mem_append.1 hc with q | q
  ·exact .inl q
  ·rcases k.fresh c q with r | r
   ·exact .inl (h.sub i c r)
   ·exact .inr r
 ·by_cases e:i'=i
  ·subst e;rw [setO_at] at hc;exact List.mem_append.2 (.inr hc)
  ·rw [setO_not _ _ e] at hc;exact List.mem_append.2 (.inl (h.sub i' c hc))
 ·rcases List.mem_append.1 hc with q | q
  ·exact Nat.lt_of_lt_of_le (h.lo c q) k.size
  ·exact hY c q
def ClS.setNode (s:ClS) (j:Nat) (N:NodeS):ClS:=⟨fun x=>if x=j then N else s.nodes x,s.links,s.newest,s.ports⟩
def ClS.setSend (s:ClS) (k:Nat) (S:SendS):ClS:=⟨s.nodes,fun x=>if x=k then S else s.links x,s.newest,s.ports⟩
def ClS.setNew (s:ClS) (k j:Nat) (v:Int):ClS:=⟨s.nodes,s.links,fun x y=>if x=k∧y=j then v else s.newest x y,s.ports⟩
def ClS.setPort (s:ClS) (k j:Nat) (v:List ByteArray):ClS:=⟨s.nodes,s.links,s.newest,fun x y=>if x=k∧y=j then v else s.ports x y⟩
theorem Cl.nod (h:Cl w O C p fa cs s rd B m) {j:Nat} (hj:j<p.n):ProgNode w (m.P j) j p.n (bitsV (s.nodes j).t p.n) (s.nodes j).g (s.nodes j).b (s.nodes j).fz∧NodeIn B (s.nodes j) ∧
  ∀ (w':World) (B':Nat) (N:NodeS),ProgNode w' (m.P j) j p.n (bitsV N.t p.n) N.g N.b N.fz→Turns (m.P j) (m.P j) w w'→NodeIn B' N→B≤B'→∃ O',Foot O O' w w'∧Cl w' O' C p fa cs (s.setNode j N) rd B' m:=by
 have h0:=h
 obtain ⟨Of,h⟩:=h
 obtain ⟨⟨a,b⟩,c⟩:=h.node j hj
 refine ⟨a,c,fun w' B' N hN hT hB hBB=>?_⟩
 obtain ⟨Of,h⟩:=h0.more hBB
 obtain ⟨⟨a,b⟩,_⟩:=h.node j hj
 have kf:Foot (Of (iN j)) [m.P j] w w':=by rw [b];exact Foot.of_turns hT List.mem_cons_self List.mem_cons_self
 obtain ⟨⟨t1,t2,t3⟩,t4,t5,t6,t7⟩:=h.turn (by intro e;cases e) kf (by intro c hc;simp only [List.mem_cons,List.not_mem_nil,or_false] at hc;subst hc;exact hN.lp)
 refine ⟨_,t1,_,t2,t3,t4,t5,t6,fun x hx=>?_,fun i hi=>?_,fun i x hi hx hb=>?_,fun i x hi hx hb=>?_⟩
 ·by_cases e:x=j
  ·subst e
   show (ProgNode w' (m.P x) x p.n (bitsV (if x=x then N else s.nodes x).t p.n) (if x=x then N else s.nodes x).g (if x=x then N else s.nodes x).b (if x=x then N else s.nodes x).fz∧setO Of (iN x) [m.P x] (iN x) = [m.P x])∧NodeIn B' (if x=x then N else s.nodes x)
   rw [if_pos rfl,setO_at]
   exact ⟨⟨hN,rfl⟩,hB⟩
  ·show (ProgNode w' (m.P x) x p.n (bitsV (if x=j then N else s.nodes x).t p.n) (if x=j then N else s.nodes x).g (if x=j then N else s.nodes x).b (if x=j then N else s.nodes x).fz∧setO Of (iN j) [m.P j] (iN x) = [m.P x])∧NodeIn B' (if x=j then N else s.nodes x)
   obtain ⟨u1,u2⟩:=t7 (iN x) (by intro y;cases y;exact e rfl)
   rw [if_neg e,u2]
   obtain ⟨⟨v1,v2⟩,v3⟩:=h.node x hx
   exact ⟨⟨v1.same (v2▸u1),v2⟩,v3⟩
 ·obtain ⟨u1,u2⟩:=t7 (iS i) (by intro y;cases y)
  rw [u2]
  exact ⟨(h.snd i hi).1.keep u1,(h.snd i hi).2⟩
 ·obtain ⟨u1,u2⟩:=t7 (iR i x) (by intro y;cases y)
  rw [u2]
  obtain ⟨a,b,q,r⟩:=h.rcv i x hi hx hb
  exact ⟨a,b,q.keep u1,r⟩
 ·obtain ⟨u1,u2⟩:=t7 (iQ i x) (by intro y;cases y)
  rw [u2]
  obtain ⟨l,q,r⟩:=h.que i x hi hx hb
  exact ⟨l,q.keep u1,r⟩
theorem Cl.sdr (h:Cl w O C p fa cs s rd B m) {k:Nat} (hk:k<p.nl):∃ OS,Sdr w OS (m.S k) (p.lb k) (p.lq k) (s.links k).all (s.links k).went (s.links k).last (s.links k).now∧SendIn B (s.links k) ∧
  ∀ (w':World) (OS':List Nat) (B':Nat) (S:SendS),Sdr w' OS' (m.S k) (p.lb k) (p.lq k) S.all S.went S.last S.now→Foot OS OS' w w'→SendIn B' S→B≤B'→∃ O',Foot O O' w w'∧Cl w' O' C p fa cs (s.setSend k S) rd B' m:=by
 obtain ⟨Of,h⟩:=h
 refine ⟨Of (iS k),(h.snd k hk).1,(h.snd k hk).2,fun w' OS' B' S hS hF hB hBB=>?_⟩
 obtain ⟨⟨t1,t2,t3⟩,t4,t5,t6,t7⟩:=h.turn (by intro e;cases e) hF hS.lt
 refine ⟨_,t1,_,t2,t3,t4,t5,t6,fun x hx=>?_,fun i hi=>?_,fun i x hi hx hb=>?_,fun i x hi hx hb=>?_⟩
 ·obtain ⟨u1,u2⟩:=t7 (iN x) (by intro y;cases y)
  rw [u2]
  obtain ⟨⟨v1,v2⟩,⟨v3,v4⟩,v5,v6⟩:=h.node x hx
  exact ⟨⟨v1.same (v2▸u1),v2⟩,⟨v3,Int.le_trans v4 (by omega)⟩,v5,Int.le_trans v6 (by omega)⟩
 ·by_cases e:i=k
  ·subst e
   show Sdr w' (setO Of (iS i) OS' (iS i)) (m.S i) (p.lb i) (p.lq i) (if i=i then S else s.links i).all (if i=i then S else s.links i).went (if i=i then S else s.links i).last (if i=i then S else s.links i).now∧SendIn B' (if i=i then S else s.links i)
   rw [if_pos rfl,setO_at]
   exact ⟨hS,hB⟩
  ·show Sdr w' (setO Of (iS k) OS' (iS i)) (m.S i) (p.lb i) (p.lq i) (if i=k then S else s.links i).all (if i=k then S else s.links i).went (if i=k then S else s.links i).last (if i=k then S else s.links i).now∧SendIn B' (if i=k then S else s.links i)
   obtain ⟨u1,u2⟩:=t7 (iS i) (by intro y;cases y;exact e rfl)
   rw [if_neg e,u2]
   obtain ⟨v1,v2,v3⟩:=h.snd i hi
   exact ⟨v1.keep u1,Nat.le_trans v2 hBB,v3⟩
 ·obtain ⟨u1,u2⟩:=t7 (iR i x) (by intro y;cases y)
  rw [u2]
  obtain ⟨a,b,q,⟨⟨r1,r2⟩,r3,r4⟩,r5⟩:=h.rcv i x hi hx hb
  exact ⟨a,b,q.keep u1,⟨⟨r1,by omega⟩,r3,by omega⟩,r5⟩
 ·obtain ⟨u1,u2⟩:=t7 (iQ i x) (by intro y;cases y)
  rw [u2]
  obtain ⟨l,q,⟨r1,r2⟩,r3⟩:=h.que i x hi hx hb
  exact ⟨l,q.keep u1,⟨r1,by omega⟩,r3⟩
theorem Cl.rcv (h:Cl w O C p fa cs s rd B m) {k j:Nat} (hk:k<p.nl) (hj:j<p.n) (hb:bitI (p.lt k) j=true):∃ OR a b,Rcv w OR (m.R k j) (s.newest k j) a b∧((0≤a∧a≤B)∧0≤b∧b≤B)∧s.newest k j≤255 ∧
  ∀ (w':World) (OR':List Nat) (B':Nat) (v a' b':Int),Rcv w' OR' (m.R k j) v a' b'→Foot OR OR' w w'→((0≤a'∧a'≤B')∧0≤b'∧b'≤B')→v≤255→B≤B'→∃ O',Foot O O' w w'∧Cl w' O' C p fa cs (s.setNew k j v) rd B' m:=by
 obtain ⟨Of,h⟩:=h
 obtain ⟨a,b,q,r,t⟩:=h.rcv k j hk hj hb
 refine ⟨Of (iR k j),a,b,q,r,t,fun w' OR' B' v a' b' hS hF hB hv hBB=>?_⟩
 obtain ⟨⟨t1,t2,t3⟩,t4,t5,t6,t7⟩:=h.turn (by intro e;cases e) hF hS.lt
 refine ⟨_,t1,_,t2,t3,t4,t5,t6,fun x hx=>?_,fun i hi=>?_,fun i x hi hx hb=>?_,fun i x hi hx hb=>?_⟩
 ·obtain ⟨u1,u2⟩:=t7 (iN x) (by intro y;cases y)
  rw [u2]
  obtain ⟨⟨v1,v2⟩,⟨v3,v4⟩,v5,v6⟩:=h.node x hx
  exact ⟨⟨v1.same (v2▸u1),v2⟩,⟨v3,Int.le_trans v4 (by omega)⟩,v5,Int.le_trans v6 (by omega)⟩
 ·obtain ⟨u1,u2⟩:=t7 (iS i) (by intro y;cases y)
  rw [u2]
  obtain ⟨v1,v2,v3⟩:=h.snd i hi
  exact ⟨v1.keep u1,Nat.le_trans v2 hBB,v3⟩
 ·by_cases e:i=k∧x=j
  ·obtain ⟨rfl,rfl⟩:=e
   show ∃ a b,Rcv w' (setO Of (iR i x) OR' (iR i x)) (m.R i x) (if i=i∧x=x then v else s.newest i x) a b∧_∧(if i=i∧x=x then v else s.newest i x)≤255
   rw [if_pos ⟨rfl,rfl⟩,setO_at]
   exact ⟨a',b',hS,hB,hv⟩
  ·show ∃ a b,Rcv w' (setO Of (iR k j) OR' (iR i x)) (m.R i x) (if i=k∧x=j then v else s.newest i x) a b∧_∧(if i=k∧x=j then v else s.newest i x)≤255
   obtain ⟨u1,u2⟩:=t7 (iR i x) (by intro y;cases y;exact e ⟨rfl,rfl⟩)
   rw [if_neg e,u2]
   obtain ⟨a,b,q,⟨⟨r1,r2⟩,r3,r4⟩,r5⟩:=h.rcv i x hi hx hb
   exact ⟨a,b,q.keep u1,⟨⟨r1,by omega⟩,r3,by omega⟩,r5⟩
 ·obtain ⟨u1,u2⟩:=t7 (iQ i x) (by intro y;cases y)
  rw [u2]
  obtain ⟨l,q,⟨r1,r2⟩,r3⟩:=h.que i x hi hx hb
  exact ⟨l,q.keep u1,⟨r1,by omega⟩,r3⟩
theorem Cl.que (h:Cl w O C p fa cs s rd B m) {k j:Nat} (hk:k<p.nl) (hj:j<p.n) (hb:bitI (p.lt k) j=true):∃ OQ lost,Que w OQ (m.Q k j) 16 (s.ports k j) lost∧(0≤lost∧lost≤B)∧(s.ports k j).length≤16 ∧
  ∀ (w':World) (OQ':List Nat) (B':Nat) (v:List ByteArray) (lost':Int),Que w' OQ' (m.Q k j) 16 v lost'→Foot OQ OQ' w w'→(0≤lost'∧lost'≤B')→v.length≤16→B≤B'→∃ O',Foot O O' w w'∧Cl w' O' C p fa cs (s.setPort k j v) rd B' m:=by
 obtain ⟨Of,h⟩:=h
 obtain ⟨l,q,r,t⟩:=h.que k j hk hj hb
 refine ⟨Of (iQ k j),l,q,r,t,fun w' OQ' B' v l' hS hF hB hv hBB=>?_⟩
 obtain ⟨⟨t1,t2,t3⟩,t4,t5,t6,t7⟩:=h.turn (by intro e;cases e) hF hS.lt
 refine ⟨_,t1,_,t2,t3,t4,t5,t6,fun x hx=>?_,fun i hi=>?_,fun i x hi hx hb=>?_,fun i x hi hx hb=>?_⟩
 ·obtain ⟨u1,u2⟩:=t7 (iN x) (by intro y;cases y)
  rw [u2]
  obtain ⟨⟨v1,v2⟩,⟨v3,v4⟩,v5,v6⟩:=h.node x hx
  exact ⟨⟨v1.same (v2▸u1),v2⟩,⟨v3,Int.le_trans v4 (by omega)⟩,v5,Int.le_trans v6 (by omega)⟩
 ·obtain ⟨u1,u2⟩:=t7 (iS i) (by intro y;cases y)
  rw [u2]
  obtain ⟨v1,v2,v3⟩:=h.snd i hi
  exact ⟨v1.keep u1,Nat.le_trans v2 hBB,v3⟩
 ·obtain ⟨u1,u2⟩:=t7 (iR i x) (by intro y;cases y)
  rw [u2]
  obtain ⟨a,b,q,⟨⟨r1,r2⟩,r3,r4⟩,r5⟩:=h.rcv i x hi hx hb
  exact ⟨a,b,q.keep u1,⟨⟨r1,by omega⟩,r3,by omega⟩,r5⟩
 ·by_cases e:i=k∧x=j
  ·obtain ⟨rfl,rfl⟩:=e
   show ∃ l,Que w' (setO Of (iQ i x) OQ' (iQ i x)) (m.Q i x) 16 (if i=i∧x=x then v else s.ports i x) l∧_∧(if i=i∧x=x then v else s.ports i x).length≤16
   rw [if_pos ⟨rfl,rfl⟩,setO_at]
   exact ⟨l',hS,hB,hv⟩
  ·show ∃ l,Que w' (setO Of (iQ k j) OQ' (iQ i x)) (m.Q i x) 16 (if i=k∧x=j then v else s.ports i x) l∧_∧(if i=k∧x=j then v else s.ports i x).length≤16
   obtain ⟨u1,u2⟩:=t7 (iQ i x) (by intro y;cases y;exact e ⟨rfl,rfl⟩)
   rw [if_neg e,u2]
   obtain ⟨l,q,⟨r1,r2⟩,r3⟩:=h.que i x hi hx hb
   exact ⟨l,q.keep u1,⟨r1,by omega⟩,r3⟩
end
end
section
structure Kd where
 i:Fin 20
def Kd.plan_:Kd:=⟨⟨0,by decide⟩⟩
def Kd.slot_:Kd:=⟨⟨1,by decide⟩⟩
def Kd.link_:Kd:=⟨⟨2,by decide⟩⟩
def Kd.bytes_:Kd:=⟨⟨3,by decide⟩⟩
def Kd.start_:Kd:=⟨⟨4,by decide⟩⟩
def Kd.put_:Kd:=⟨⟨5,by decide⟩⟩
def Kd.receive_:Kd:=⟨⟨6,by decide⟩⟩
def Kd.lose_:Kd:=⟨⟨7,by decide⟩⟩
def Kd.read_:Kd:=⟨⟨8,by decide⟩⟩
def Kd.drift_:Kd:=⟨⟨9,by decide⟩⟩
def Kd.mode_:Kd:=⟨⟨10,by decide⟩⟩
def Kd.round_:Kd:=⟨⟨11,by decide⟩⟩
def Kd.clocks_:Kd:=⟨⟨12,by decide⟩⟩
def Kd.spread_:Kd:=⟨⟨13,by decide⟩⟩
def Kd.members_:Kd:=⟨⟨14,by decide⟩⟩
def Kd.midpoint_:Kd:=⟨⟨15,by decide⟩⟩
def Kd.local_:Kd:=⟨⟨16,by decide⟩⟩
def Kd.real_:Kd:=⟨⟨17,by decide⟩⟩
def Kd.clear_:Kd:=⟨⟨18,by decide⟩⟩
def Kd.help_:Kd:=⟨⟨19,by decide⟩⟩
theorem Kd.each {P:Kd→Prop} (plan_:P Kd.plan_) (slot_:P Kd.slot_) (link_:P Kd.link_) (bytes_:P Kd.bytes_) (start_:P Kd.start_) (put_:P Kd.put_) (receive_:P Kd.receive_) (lose_:P Kd.lose_) (read_:P Kd.read_) (drift_:P Kd.drift_) (mode_:P Kd.mode_) (round_:P Kd.round_) (clocks_:P Kd.clocks_) (spread_:P Kd.spread_) (members_:P Kd.members_) (midpoint_:P Kd.midpoint_) (local_:P Kd.local_) (real_:P Kd.real_) (clear_:P Kd.clear_) (help_:P Kd.help_):∀ k,P k
 | ⟨⟨0,_⟩⟩=>plan_
 | ⟨⟨1,_⟩⟩=>slot_
 | ⟨⟨2,_⟩⟩=>link_
 | ⟨⟨3,_⟩⟩=>bytes_
 | ⟨⟨4,_⟩⟩=>start_
 | ⟨⟨5,_⟩⟩=>put_
 | ⟨⟨6,_⟩⟩=>receive_
 | ⟨⟨7,_⟩⟩=>lose_
 | ⟨⟨8,_⟩⟩=>read_
 | ⟨⟨9,_⟩⟩=>drift_
 | ⟨⟨10,_⟩⟩=>mode_
 | ⟨⟨11,_⟩⟩=>round_
 | ⟨⟨12,_⟩⟩=>clocks_
 | ⟨⟨13,_⟩⟩=>spread_
 | ⟨⟨14,_⟩⟩=>members_
 | ⟨⟨15,_⟩⟩=>midpoint_
 | ⟨⟨16,_⟩⟩=>local_
 | ⟨⟨17,_⟩⟩=>real_
 | ⟨⟨18,_⟩⟩=>clear_
 | ⟨⟨19,_⟩⟩=>help_
 | ⟨⟨n+20,h⟩⟩=>absurd h (by omega)
def Kd.name (k:Kd):ByteArray:=[⟨#[112,108,97,110]⟩,⟨#[115,108,111,116]⟩,⟨#[108,105,110,107]⟩,⟨#[98,121,116,101,115]⟩,⟨#[115,116,97,114,116]⟩,⟨#[112,117,116]⟩,⟨#[114,101,99,101,105,118,101]⟩,⟨#[108,111,115,101]⟩,⟨#[114,101,97,100]⟩,⟨#[100,114,105,102,116]⟩,⟨#[109,111,100,101]⟩,⟨#[114,111,117,110,100]⟩,⟨#[99,108,111,99,107,115]⟩,⟨#[115,112,114,101,97,100]⟩,⟨#[109,101,109,98,101,114,115]⟩,⟨#[109,105,100,112,111,105,110,116]⟩,⟨#[108,111,99,97,108]⟩,⟨#[114,101,97,108]⟩,⟨#[99,108,101,97,114]⟩,⟨#[104,101,108,112]⟩].getD k.i.1 ByteArray.empty
def Kd.m (k:Kd):Nat:=([6,3,4,0,1,1,2,3,3,1,1,0,0,0,1,1,5,5,0,0]:List Nat).getD k.i.1 0
def Kd.more (k:Kd):Bool:=([false,false,false,false,true,false,false,false,false,true,true,false,false,false,false,true,false,false,false,false]:List Bool).getD k.i.1 false
def Kd.text (k:Kd):Bool:=([false,false,false,false,false,true,false,false,false,false,false,false,false,false,false,false,false,false,false,false]:List Bool).getD k.i.1 false
def Kd.when (k:Kd):Int:=([1,1,1,0,1,2,2,2,2,2,2,2,2,2,2,0,0,0,0,0]:List Int).getD k.i.1 0
def Kd.fn (k:Kd):Nat:=[13,14,15,16,17,18,19,20,21,22,23,24,25,26,27,28,29,30,31,32].getD k.i.1 0
def allKd:List Kd:=[.plan_,.slot_,.link_,.bytes_,.start_,.put_,.receive_,.lose_,.read_,.drift_,.mode_,.round_,.clocks_,.spread_,.members_,.midpoint_,.local_,.real_,.clear_,.help_]
def kdOf (x:ByteArray):Option Kd:=allKd.find? fun k=>decide (k.name=x)
theorem kdOf_name {x:ByteArray} {k:Kd} (h:kdOf x=some k):k.name=x:=by
 have:=List.find?_some h
 simpa using this
theorem kdOf_none {x:ByteArray} (h:kdOf x=none) (k:Kd):k.name≠x:=by
 intro e
 have h2:k∈allKd:=by cases k using Kd.each <;> simp [allKd]
 have:=List.find?_eq_none.1 h k h2
 simp [e] at this
structure DkS where
 plan:PlanN
 clu:Option (Int × List Int × ClS × Int × Nat)
 next:RoundN
def planZ:PlanN:=⟨0,0,0,0,0,0,1,0,0,0,fun _=>0,fun _=>0,fun _=>0,fun _=>0,fun _=>0,fun _=>0,fun _=>0,fun _=>0,fun _=>0,fun _=>0⟩
def DkS.start:DkS:=⟨planZ,none,RoundN.none⟩
def updI (f:Nat→Int) (n:Nat) (x:Int):Nat→Int:=fun i=>if i=n then x else f i
def PlanN.head (p:PlanN) (n:List Int):PlanN:={ p with nodes:=n.getD 0 0,faulty:=n.getD 1 0,skew:=n.getD 2 0,jitter:=n.getD 3 0,drift:=n.getD 4 0,round:=n.getD 5 0 }
def PlanN.slot (p:PlanN) (n:List Int):PlanN:={ p with ns:=p.ns+1,nd:=updI p.nd p.ns (n.getD 0 0),fr:=updI p.fr p.ns (n.getD 1 0),td:=updI p.td p.ns (n.getD 2 0) }
def PlanN.link (p:PlanN) (n:List Int):PlanN:={ p with nl:=p.nl+1,lf:=updI p.lf p.nl (n.getD 0 0),lt:=updI p.lt p.nl (n.getD 1 0),lb:=updI p.lb p.nl (n.getD 2 0),lq:=updI p.lq p.nl (n.getD 3 0) }
def RoundN.lose (r:RoundN) (n:List Int):RoundN:={ r with nL:=r.nL+1,ls:=updI r.ls r.nL (n.getD 0 0),lc:=updI r.lc r.nL (n.getD 1 0),lt:=updI r.lt r.nL (n.getD 2 0) }
def RoundN.read (r:RoundN) (n:List Int):RoundN:={ r with nR:=r.nR+1,rn:=updI r.rn r.nR (n.getD 0 0),ro:=updI r.ro r.nR (n.getD 1 0),ri:=updI r.ri r.nR (n.getD 2 0) }
def itoaB (x:Int):ByteArray:=⟨(Lib.itoa x).toArray⟩
def planLen (p:PlanN):Nat:=(bytesOf (planNums p.nodes p.faulty p.skew p.jitter p.drift p.round p.frame p.ns p.nl p.nw p.nd p.fr p.td p.lf p.lt p.lb p.lq p.wp p.wf p.wt)).length
abbrev Res:=Sum Int ByteArray
abbrev Res.err (k:Int):Res:=.inl k
abbrev Res.ok (s:ByteArray):Res:=.inr s
def Res.ending:Res→Ending
 | .inl k=>thrown k
 | .inr s=>.returned (.string s)
def wrongB (k:Int):ByteArray:=⟨#[101,114,114,111,114,32]⟩ ++ itoaB k
def Res.out:Res→ByteArray
 | .inl k=>wrongB k
 | .inr s=>s
def numRes (k x:Int):Res:=if k=0 then .ok (itoaB x) else .err k
def localQ (f s n d r:Int):Int:=if rightB f s n d=false then 1 else if r<f∨1099511627776<r∨1099511627776<s+(r - f)*n / d then 2 else 0
def realX (f s n d l:Int):Int:=if l≤s then f else f+((l - s)*d+n - 1) / n
def realQ (f s n d l:Int):Int:=if rightB f s n d=false then 1 else if l < -1099511627776∨1099511627776<l∨1099511627776<realX f s n d l then 2 else 0
def numsB (l:List Int):ByteArray:=⟨(Lib.join (l.map fun x=>(itoaB x).data.toList) [32]).toArray⟩
def helpB:ByteArray:=⟨#[98,121,116,101,115,32,99,108,101,97,114,32,99,108,111,99,107,115,32,100,114,105,102,116,32,104,101,108,112,32,108,105,110,107,32,108,111,99,97,108,32,108,111,115,101,32,109,101,109,98,101,114,115,32,109,105,100,112,111,105,110,116,32,109,111,100,101,32,112,108,97,110,32,112,117,116,32,114,101,97,100,32,114,101,97,108,32,114,101,99,101,105,118,101,32,114,111,117,110,100,32,115,108,111,116,32,115,112,114,101,97,100,32,115,116,97,114,116]⟩
def doesL:List (DkS→List Int→ByteArray→DkS→Res→Prop):=[
 fun s n _ s' r=>s' = { s with plan:=s.plan.head n }∧r=.ok Kd.plan_.name,
 fun s n _ s' r=>(s.plan.ns<32∧s' = { s with plan:=s.plan.slot n }∧r=.ok (itoaB s.plan.ns))∨(¬ s.plan.ns<32∧s'=s∧r=.err 4),
 fun s n _ s' r=>(s.plan.nl<8∧s' = { s with plan:=s.plan.link n }∧r=.ok (itoaB s.plan.nl))∨(¬ s.plan.nl<8∧s'=s∧r=.err 4),
 fun s _ _ s' r=>∃ E I,s.plan.Is E I∧s'=s∧r=numRes E (planLen s.plan),
 fun s n _ s' r=>∃ E I,NewIs s.plan (n.getD 0 0) n.tail E I∧((E≠0∧s'=s∧r=.err E)∨(E=0∧s' = { s with clu:=some (n.getD 0 0,n.tail,ClS.start,0,0) }∧r=.ok Kd.start_.name)),
 fun s n tx s' r=>∃ fa cs c rd T,s.clu=some (fa,cs,c,rd,T)∧((∃ j:Nat,n.getD 0 0=j∧j<s.plan.nl∧s' = { s with clu:=some (fa,cs,c.put s.plan j tx,rd,T+1) }∧r=(if c.putK s.plan j tx=0 then .ok Kd.put_.name else .err (c.putK s.plan j tx)))∨(¬ (0≤n.getD 0 0∧n.getD 0 0<s.plan.nl)∧s'=s∧r=.err 2)),
 fun s n _ s' r=>∃ fa cs c rd T,s.clu=some (fa,cs,c,rd,T)∧((∃ j i:Nat,n.getD 0 0=j∧n.getD 1 0=i∧(j<s.plan.n∧i<s.plan.nl∧bitI (s.plan.lt i) j=true)∧s' = { s with clu:=some (fa,cs,c.recv i j,rd,T) }∧r=(if recvK (c.ports i j)=0 then .ok (⟨#[105,115,32]⟩ ++ recvD (c.ports i j)) else .err (recvK (c.ports i j))))∨(¬ ((0≤n.getD 0 0∧n.getD 0 0<s.plan.nodes)∧(0≤n.getD 1 0∧n.getD 1 0<s.plan.nl)∧bitI (s.plan.lt (n.getD 1 0).toNat) (n.getD 0 0).toNat=true)∧s'=s∧r=.err 2)),
 fun s n _ s' r=>s' = { s with next:=s.next.lose n }∧r=.ok Kd.lose_.name,
 fun s n _ s' r=>s' = { s with next:=s.next.read n }∧r=.ok Kd.read_.name,
 fun s n _ s' r=>s' = { s with next:={ s.next with drifts:=n } }∧r=.ok Kd.drift_.name,
 fun s n _ s' r=>s' = { s with next:={ s.next with modes:=n } }∧r=.ok Kd.mode_.name,
 fun s _ _ s' r=>∃ fa cs c rd T,s.clu=some (fa,cs,c,rd,T)∧((cluFar s.plan fa cs s.next=true∧s'=s∧r=.err 6)∨(cluFar s.plan fa cs s.next=false∧s' = { s with clu:=some (fa,cluTo s.plan fa cs s.next,cluOn s.plan fa c rd s.next,rd+1,T+1),next:=RoundN.none }∧r=.ok (itoaB (rd+1)))),
 fun s _ _ s' r=>∃ fa cs c rd T,s.clu=some (fa,cs,c,rd,T)∧s'=s∧r=.ok (numsB cs),
 fun s _ _ s' r=>∃ fa cs c rd T,s.clu=some (fa,cs,c,rd,T)∧s'=s∧r=.ok (itoaB (spreadL (rightOf fa cs))),
 fun s n _ s' r=>∃ fa cs c rd T,s.clu=some (fa,cs,c,rd,T)∧s'=s∧((∃ j:Nat,n.getD 0 0=j∧j<s.plan.n∧r=.ok (if (c.nodes j).fz=true then itoaB (bitsV (c.nodes j).t s.plan.n) ++ ⟨#[32,102,114,111,122,101,110]⟩ else itoaB (bitsV (c.nodes j).t s.plan.n)))∨(¬ (0≤n.getD 0 0∧n.getD 0 0<s.plan.nodes)∧r=.err 2)),
 fun s n _ s' r=>s'=s∧r=numRes (midErr n.tail (n.getD 0 0)) (midVal n.tail (n.getD 0 0)),
 fun s n _ s' r=>s'=s∧r=numRes (localQ (n.getD 0 0) (n.getD 1 0) (n.getD 2 0) (n.getD 3 0) (n.getD 4 0)) (n.getD 1 0+(n.getD 4 0 - n.getD 0 0)*n.getD 2 0 / n.getD 3 0),
 fun s n _ s' r=>s'=s∧r=numRes (realQ (n.getD 0 0) (n.getD 1 0) (n.getD 2 0) (n.getD 3 0) (n.getD 4 0)) (realX (n.getD 0 0) (n.getD 1 0) (n.getD 2 0) (n.getD 3 0) (n.getD 4 0)),
 fun _ _ _ s' r=>s'=DkS.start∧r=.ok Kd.clear_.name,
 fun s _ _ s' r=>s'=s∧r=.ok helpB]
def DoesIs (k:Kd) (s:DkS) (n:List Int) (tx:ByteArray) (s':DkS) (r:Res):Prop:=doesL.getD k.i.1 (fun _ _ _ _ _=>False) s n tx s' r
def wordsOf (line:ByteArray):List ByteArray:=Lib.goFieldsP (fun x=>decide (x=32)) line
def allowB (s:DkS) (k:Kd):Bool:=k.when == 0 || (s.clu.isSome == (k.when == 2))
def LineIs (s:DkS) (line:ByteArray) (s':DkS) (out:ByteArray):Prop :=
 match wordsOf line with
 | []=>s'=s∧out=⟨#[111,107]⟩
 | x::ws=>match kdOf x with
  | none=>s'=s∧out=wrongB 3
  | some k=>match readP k.m k.more k.text ws with
   | none=>s'=s∧out=wrongB 3
   | some y=>if allowB s k=true then ∃ r,DoesIs k s y.1 y.2 s' r∧out=r.out else s'=s∧out=wrongB 6
def RunsIs:DkS→List ByteArray→List ByteArray→DkS→Prop
 | s,[],os,s2=>os = []∧s2=s
 | s,l::ls,os,s2=>∃ s1 o os',os=o::os'∧LineIs s l s1 o∧RunsIs s1 ls os' s2
theorem RunsIs.nil (s:DkS):RunsIs s [] [] s:=⟨rfl,rfl⟩
theorem RunsIs.cons {s s1 s2:DkS} {l o:ByteArray} {ls os:List ByteArray} (h:LineIs s l s1 o) (t:RunsIs s1 ls os s2):RunsIs s (l::ls) (o::os) s2:=⟨s1,o,os,rfl,h,t⟩
theorem DoesIs.one {k:Kd} {s s1 s2:DkS} {n:List Int} {tx:ByteArray} {r1 r2:Res} (h:DoesIs k s n tx s1 r1) (g:DoesIs k s n tx s2 r2):s1=s2∧r1=r2:=by
 cases k using Kd.each
 case plan_=>exact ⟨h.1.trans g.1.symm,h.2.trans g.2.symm⟩
 case slot_ =>
  rcases h with ⟨a,h1,h2⟩ | ⟨a,h1,h2⟩ <;> rcases g with ⟨b,g1,g2⟩ | ⟨b,g1,g2⟩
  ·exact ⟨h1.trans g1.symm,h2.trans g2.symm⟩
  ·exact absurd a b
  ·exact absurd b a
  ·exact ⟨h1.trans g1.symm,h2.trans g2.symm⟩
 case link_ =>
  rcases h with ⟨a,h1,h2⟩ | ⟨a,h1,h2⟩ <;> rcases g with ⟨b,g1,g2⟩ | ⟨b,g1,g2⟩
  ·exact ⟨h1.trans g1.symm,h2.trans g2.symm⟩
  ·exact absurd a b
  ·exact absurd b a
  ·exact ⟨h1.trans g1.symm,h2.trans g2.symm⟩
 case bytes_ =>
  obtain ⟨E,I,h0,h1,h2⟩:=h
  obtain ⟨E',I',g0,g1,g2⟩:=g
  obtain ⟨rfl,rfl⟩:=h0.one g0
  exact ⟨h1.trans g1.symm,h2.trans g2.symm⟩
 case start_ =>
  obtain ⟨E,I,h0,h⟩:=h
  obtain ⟨E',I',g0,g⟩:=g
  obtain ⟨rfl,rfl⟩:=h0.one g0
  rcases h with ⟨a,h1,h2⟩ | ⟨a,h1,h2⟩ <;> rcases g with ⟨b,g1,g2⟩ | ⟨b,g1,g2⟩
  ·exact ⟨h1.trans g1.symm,h2.trans g2.symm⟩
  ·exact absurd b a
  ·exact absurd a b
  ·exact ⟨h1.trans g1.symm,h2.trans g2.symm⟩
 case put_ =>
  obtain ⟨fa,cs,c,rd,T,e,h⟩:=h
  obtain ⟨fa',cs',c',rd',T',e',g⟩:=g
  rw [e] at e'
  cases e'
  rcases h with ⟨j,a,a2,h1,h2⟩ | ⟨a,h1,h2⟩ <;> rcases g with ⟨i,b,b2,g1,g2⟩ | ⟨b,g1,g2⟩
  ·have:j=i:=by rw [a] at b;exact_mod_cast b
   subst this
   exact ⟨h1.trans g1.symm,h2.trans g2.symm⟩
  ·exact absurd ⟨by omega,by omega⟩ b
  ·exact absurd ⟨by omega,by omega⟩ a
  ·exact ⟨h1.trans g1.symm,h2.trans g2.symm⟩
 case receive_ =>
  obtain ⟨fa,cs,c,rd,T,e,h⟩:=h
  obtain ⟨fa',cs',c',rd',T',e',g⟩:=g
  rw [e] at e'
  cases e'
  have key:∀ j i:Nat,n.getD 0 0=j→n.getD 1 0=i→(j<s.plan.n∧i<s.plan.nl∧bitI (s.plan.lt i) j=true)→((0≤n.getD 0 0∧n.getD 0 0<s.plan.nodes)∧(0≤n.getD 1 0∧n.getD 1 0<s.plan.nl)∧bitI (s.plan.lt (n.getD 1 0).toNat) (n.getD 0 0).toNat=true):=by
   intro j i a b ⟨q1,q2,q3⟩
   have hn:(s.plan.n:Int)=(s.plan.nodes.toNat:Int):=rfl
   rw [a,b]
   exact ⟨⟨by omega,by omega⟩,⟨by omega,by omega⟩,by simpa using q3⟩
  rcases h with ⟨j,i,a,a2,a3,h1,h2⟩ | ⟨a,h1,h2⟩ <;> rcases g with ⟨j',i',b,b2,b3,g1,g2⟩ | ⟨b,g1,g2⟩
  ·have e1:j=j':=by rw [a] at b;exact_mod_cast b
   have e2:i=i':=by rw [a2] at b2;exact_mod_cast b2
   subst e1 e2
   exact ⟨h1.trans g1.symm,h2.trans g2.symm⟩
  ·exact absurd (key j i a a2 a3) b
  ·exact absurd (key j' i' b b2 b3) a
  ·exact ⟨h1.trans g1.symm,h2.trans g2.symm⟩
 case lose_=>exact ⟨h.1.trans g.1.symm,h.2.trans g.2.symm⟩
 case read_=>exact ⟨h.1.trans g.1.symm,h.2.trans g.2.symm⟩
 case drift_=>exact ⟨h.1.trans g.1.symm,h.2.trans g.2.symm⟩
 case mode_=>exact ⟨h.1.trans g.1.symm,h.2.trans g.2.symm⟩
 case round_ =>
  obtain ⟨fa,cs,c,rd,T,e,h⟩:=h
  obtain ⟨fa',cs',c',rd',T',e',g⟩:=g
  rw [e] at e'
  cases e'
  rcases h with ⟨a,h1,h2⟩ | ⟨a,h1,h2⟩ <;> rcases g with ⟨b,g1,g2⟩ | ⟨b,g1,g2⟩
  ·exact ⟨h1.trans g1.symm,h2.trans g2.symm⟩
  ·rw [a] at b;cases b
  ·rw [a] at b;cases b
  ·exact ⟨h1.trans g1.symm,h2.trans g2.symm⟩
 case clocks_ =>
  obtain ⟨fa,cs,c,rd,T,e,h1,h2⟩:=h
  obtain ⟨fa',cs',c',rd',T',e',g1,g2⟩:=g
  rw [e] at e'
  cases e'
  exact ⟨h1.trans g1.symm,h2.trans g2.symm⟩
 case spread_ =>
  obtain ⟨fa,cs,c,rd,T,e,h1,h2⟩:=h
  obtain ⟨fa',cs',c',rd',T',e',g1,g2⟩:=g
  rw [e] at e'
  cases e'
  exact ⟨h1.trans g1.symm,h2.trans g2.symm⟩
 case members_ =>
  obtain ⟨fa,cs,c,rd,T,e,h1,h⟩:=h
  obtain ⟨fa',cs',c',rd',T',e',g1,g⟩:=g
  rw [e] at e'
  cases e'
  refine ⟨h1.trans g1.symm,?_⟩
  have hn:(s.plan.n:Int)=(s.plan.nodes.toNat:Int):=rfl
  rcases h with ⟨j,a,a2,h2⟩ | ⟨a,h2⟩ <;> rcases g with ⟨i,b,b2,g2⟩ | ⟨b,g2⟩
  ·have:j=i:=by rw [a] at b;exact_mod_cast b
   subst this
   exact h2.trans g2.symm
  ·exact absurd ⟨by omega,by omega⟩ b
  ·exact absurd ⟨by omega,by omega⟩ a
  ·exact h2.trans g2.symm
 case midpoint_=>exact ⟨h.1.trans g.1.symm,h.2.trans g.2.symm⟩
 case local_=>exact ⟨h.1.trans g.1.symm,h.2.trans g.2.symm⟩
 case real_=>exact ⟨h.1.trans g.1.symm,h.2.trans g.2.symm⟩
 case clear_=>exact ⟨h.1.trans g.1.symm,h.2.trans g.2.symm⟩
 case help_=>exact ⟨h.1.trans g.1.symm,h.2.trans g.2.symm⟩
theorem LineIs.one {s s1 s2:DkS} {l o1 o2:ByteArray} (h:LineIs s l s1 o1) (g:LineIs s l s2 o2):s1=s2∧o1=o2:=by
 unfold LineIs at h g
 cases e:wordsOf l with
 | nil =>
  simp only [e] at h g
  exact ⟨h.1.trans g.1.symm,h.2.trans g.2.symm⟩
 | cons x ws =>
  simp only [e] at h g
  cases e2:kdOf x with
  | none =>
   simp only [e2] at h g
   exact ⟨h.1.trans g.1.symm,h.2.trans g.2.symm⟩
  | some k =>
   simp only [e2] at h g
   cases e3:readP k.m k.more k.text ws with
   | none =>
    simp only [e3] at h g
    exact ⟨h.1.trans g.1.symm,h.2.trans g.2.symm⟩
   | some y =>
    simp only [e3] at h g
    by_cases q:allowB s k=true
    ·rw [if_pos q] at h g
     obtain ⟨r,h1,h2⟩:=h
     obtain ⟨r',g1,g2⟩:=g
     obtain ⟨rfl,rfl⟩:=h1.one g1
     exact ⟨rfl,h2.trans g2.symm⟩
    ·rw [if_neg q] at h g
     exact ⟨h.1.trans g.1.symm,h.2.trans g.2.symm⟩
theorem RunsIs.one {s s1 s2:DkS} {ls o1 o2:List ByteArray} (h:RunsIs s ls o1 s1) (g:RunsIs s ls o2 s2):s1=s2∧o1=o2:=by
 induction ls generalizing s o1 o2 with
 | nil =>
  obtain ⟨rfl,rfl⟩:=h
  obtain ⟨rfl,rfl⟩:=g
  exact ⟨rfl,rfl⟩
 | cons l ls ih =>
  obtain ⟨a,o,os,rfl,h1,h2⟩:=h
  obtain ⟨a',o',os',rfl,g1,g2⟩:=g
  obtain ⟨rfl,rfl⟩:=h1.one g1
  obtain ⟨rfl,rfl⟩:=ih h2 g2
  exact ⟨rfl,rfl⟩
theorem RunsIs.split {ls ks:List ByteArray} : ∀ {s s2:DkS} {os:List ByteArray},RunsIs s (ls ++ ks) os s2→∃ o1 o2 s1,RunsIs s ls o1 s1∧RunsIs s1 ks o2 s2∧os=o1 ++ o2:=by
 induction ls with
 | nil=>intro s s2 os h;exact ⟨[],os,s,.nil s,h,rfl⟩
 | cons l ls ih =>
  intro s s2 os h
  obtain ⟨a,o,os',rfl,h1,h2⟩:=h
  obtain ⟨o1,o2,s1,q1,q2,rfl⟩:=ih h2
  exact ⟨o::o1,o2,s1,.cons h1 q1,q2,rfl⟩
theorem RunsIs.snoc {s s1 s2:DkS} {ls os:List ByteArray} {l o:ByteArray} (h:RunsIs s ls os s1) (g:LineIs s1 l s2 o):RunsIs s (ls ++ [l]) (os ++ [o]) s2:=by
 induction ls generalizing s os with
 | nil =>
  obtain ⟨rfl,rfl⟩:=h
  exact .cons g (.nil _)
 | cons l' ls ih =>
  obtain ⟨a,o',os',rfl,h1,h2⟩:=h
  exact .cons h1 (ih h2)
end
section
abbrev iX:CIx:=(5,0,0)
def upd (f:Nat→Nat) (j v:Nat):Nat→Nat:=fun i=>if i=j then v else f i
theorem upd_at (f:Nat→Nat) (j v:Nat):upd f j v j=v:=if_pos rfl
theorem upd_not (f:Nat→Nat) {i j:Nat} (v:Nat) (h:i≠j):upd f j v i=f i:=if_neg h
structure LinkNew (b0:Nat) (w:World) (N:CIx→List Nat) (k n J:Nat) (tq bag queue:Int) (S E:Nat) (D R Q:Nat→Nat):Prop where
 fam:Fam w N
 lo:∀ i c,c∈N i→b0≤c
 only:∀ i,N i≠[]→i=iX∨i=iS k∨∃ j,j<J∧(i=iR k j∨i=iQ k j)
 sdr:Sdr w (N (iS k)) S bag queue [] 0 0 0
 eX:E∈N iX
 zE:∀ i,w.frozen? ⟨E,i,none⟩=false
 en:∀ j,j<n→w.cell? ⟨E,j,none⟩=some (.pointer (if j<J∧bitI tq j=true then some ⟨D j,0,none⟩ else none))
 dn:∀ j,j<J→bitI tq j=true→(D j∈N iX∧D j≠E∧w.cell? ⟨D j,0,none⟩=some (.pointer (some ⟨R j,0,none⟩))∧w.cell? ⟨D j,1,none⟩=some (.pointer (some ⟨Q j,0,none⟩)))∧Rcv w (N (iR k j)) (R j) (-1) 0 0∧Que w (N (iQ k j)) (Q j) 16 [] 0
section
variable {b0:Nat} {w:World} {N:CIx→List Nat} {k n J:Nat} {tq bag queue:Int} {S E:Nat} {D R Q:Nat→Nat}
theorem LinkNew.skip (h:LinkNew b0 w N k n J tq bag queue S E D R Q) (hb:bitI tq J=false):LinkNew b0 w N k n (J+1) tq bag queue S E D R Q:=by
 refine ⟨h.fam,h.lo,fun i hi=>?_,h.sdr,h.eX,h.zE,fun j hj=>?_,fun j hj hbj=>?_⟩
 ·rcases h.only i hi with y | y | ⟨j,y,z⟩
  ·exact .inl y
  ·exact .inr (.inl y)
  ·exact .inr (.inr ⟨j,by omega,z⟩)
 ·rw [h.en j hj]
  by_cases e:j=J
  ·subst e
   rw [if_neg (fun y=>by have:=y.1;omega),if_neg (fun y=>by rw [hb] at y;cases y.2)]
  ·have:(j<J∧bitI tq j=true)↔(j<J+1∧bitI tq j=true):=⟨fun y=>⟨by have:=y.1;omega,y.2⟩,fun y=>⟨by have:=y.1;omega,y.2⟩⟩
   simp only [this]
 ·by_cases e:j=J
  ·subst e;rw [hb] at hbj;cases hbj
  ·exact h.dn j (by omega) hbj
theorem LinkNew.empty (h:LinkNew b0 w N k n J tq bag queue S E D R Q) {j:Nat} (hj:J≤j):N (iR k j) = []∧N (iQ k j) = []:=by
 constructor
 ·by_cases e:N (iR k j) = []
  ·exact e
  ·rcases h.only _ e with y | y | ⟨j',y,z | z⟩
   ·simp at y
   ·simp at y
   ·simp at z;omega
   ·simp at z
 ·by_cases e:N (iQ k j) = []
  ·exact e
  ·rcases h.only _ e with y | y | ⟨j',y,z | z⟩
   ·simp at y
   ·simp at y
   ·simp at z
   ·simp at z;omega
theorem LinkNew.step (h:LinkNew b0 w N k n J tq bag queue S E D R Q) (hb:bitI tq J=true) (hb0:b0≤w.heap.size) {w1 w2 w3 w4 V0:World} {OQ OR:List Nat} {PQ PR:Nat} {t:TypeId} (hV:Below b0 V0 w) (k1:Below w.heap.size w w1) (hq:Que w1 OQ PQ 16 [] 0) (lq:∀ c,c∈OQ→w.heap.size≤c) (k2:Below w1.heap.size w1 w2) (hr:Rcv w2 OR PR (-1) 0 0) (lr:∀ c,c∈OR→w1.heap.size≤c) (hw3:w2.alloc (.cells #[.pointer (some ⟨PR,0,none⟩),.pointer (some ⟨PQ,0,none⟩)] t)=w3) (hw4:w3.setCell ⟨E,J,none⟩ (.pointer (some ⟨w2.heap.size,0,none⟩))=w4) :
  (∃ N',LinkNew b0 w4 N' k n (J+1) tq bag queue S E (upd D J w2.heap.size) (upd R J PR) (upd Q J PQ))∧Below b0 V0 w4:=by
 have hE:=h.fam.lt _ _ h.eX
 have hE0:=h.lo _ _ h.eX
 have s1:=k1.size
 have s2:=k2.size
 have k3:Below w2.heap.size w2 w3:=by rw [← hw3];exact (Below.refl _ _).alloc (Nat.le_refl _) _
 have s3:w3.heap.size=w2.heap.size+1:=by rw [← hw3];simp
 have s4:w4.heap.size=w3.heap.size:=by rw [← hw4];simp
 have d0:w3.cell? ⟨w2.heap.size,0,none⟩=some (.pointer (some ⟨PR,0,none⟩)):=by rw [← hw3];simp
 have d1:w3.cell? ⟨w2.heap.size,1,none⟩=some (.pointer (some ⟨PQ,0,none⟩)):=by rw [← hw3];simp
 have b4:∀ c,c≠E→w4.heap[c]? = w3.heap[c]?:=fun c hc=>by rw [← hw4];exact Below.heap_setCell _ _ _ _ hc
 have t3:Below w.heap.size w w3:=k1.trans ((k2.mono s1).trans (k3.mono (by omega)))
 have keep:∀ c,c<w.heap.size→c≠E→w4.heap[c]? = w.heap[c]?:=fun c hc hn=>(b4 c hn).trans (t3.block c hc)
 have hsame:∀ i,i≠iX→Same (N i) w w4:=fun i hi=>⟨by omega,fun c hc=>keep c (h.fam.lt i c hc) (fun e=>h.fam.ap iX i (Ne.symm hi) E h.eX (e▸hc))⟩
 have sQ:Same OQ w1 w4:=⟨by omega,fun c hc=>by
  have g1:=lq c hc
  have g2:=hq.lt c hc
  rw [b4 c (by omega),k3.block c (by omega),k2.block c g2]⟩
 have sR:Same OR w2 w4:=⟨by omega,fun c hc=>by
  have g1:=lr c hc
  have g2:=hr.lt c hc
  rw [b4 c (by omega),k3.block c g2]⟩
 obtain ⟨e1,e2⟩:=h.empty (Nat.le_refl J)
 have F1:Fam w1 (setO N (iQ k J) OQ):=h.fam.add k1 e2 (fun c hc=>⟨lq c hc,hq.lt c hc⟩)
 have F2:Fam w2 (setO (setO N (iQ k J) OQ) (iR k J) OR):=F1.add k2 (by rw [setO_not _ _ (by simp)];exact e1) (fun c hc=>⟨lr c hc,hr.lt c hc⟩)
 have eXX:setO (setO N (iQ k J) OQ) (iR k J) OR iX=N iX:=by rw [setO_not _ _ (by simp),setO_not _ _ (by simp)]
 have F3:Fam w4 (setO (setO (setO N (iQ k J) OQ) (iR k J) OR) iX (w2.heap.size::N iX)):=by
  refine F2.step (i:=iX) ?_ (fun c hc=>?_)
  ·rw [eXX]
   have z4:Below 0 w2 w4:=by rw [← hw4];exact (k3.mono (Nat.zero_le _)).setCell (Nat.zero_le _) _
   refine ⟨z4.os,z4.tape,z4.output,by omega,fun c hc hn=>(b4 c (fun e=>hn (e▸h.eX))).trans (k3.block c hc),fun c hc=>?_⟩
   ·rcases List.mem_cons.1 hc with y | y
    ·exact .inr (by omega)
    ·exact .inl y
  ·rcases List.mem_cons.1 hc with y | y
   ·omega
   ·have:=h.fam.lt _ _ y;omega
 obtain ⟨N',hN'⟩:∃ N',setO (setO (setO N (iQ k J) OQ) (iR k J) OR) iX (w2.heap.size::N iX)=N':=⟨_,rfl⟩
 have nX:N' iX=w2.heap.size::N iX:=by rw [← hN'];exact setO_at _ _ _
 have nR:N' (iR k J)=OR:=by rw [← hN',setO_not _ _ (by simp)];exact setO_at _ _ _
 have nQ:N' (iQ k J)=OQ:=by rw [← hN',setO_not _ _ (by simp),setO_not _ _ (by simp)];exact setO_at _ _ _
 have nO:∀ i,i≠iX→i≠iR k J→i≠iQ k J→N' i=N i:=fun i h1 h2 h3=>by rw [← hN',setO_not _ _ h1,setO_not _ _ h2,setO_not _ _ h3]
 rw [hN'] at F3
 clear hN' F1 F2 eXX
 have cE:∀ i,w3.cell? ⟨E,i,none⟩=w.cell? ⟨E,i,none⟩:=fun i=>t3.cell (p:=⟨E,i,none⟩) hE
 refine ⟨⟨N',F3,fun i c hc=>?_,fun i hi=>?_,?_,?_,fun i=>?_,fun j hj=>?_,fun j hj hbj=>?_⟩,?_⟩
 ·by_cases i1:i=iX
  ·subst i1;rw [nX] at hc
   rcases List.mem_cons.1 hc with y | y
   ·omega
   ·exact h.lo _ _ y
  by_cases i2:i=iR k J
  ·subst i2;rw [nR] at hc;have:=lr c hc;omega
  by_cases i3:i=iQ k J
  ·subst i3;rw [nQ] at hc;have:=lq c hc;omega
  rw [nO i i1 i2 i3] at hc
  exact h.lo _ _ hc
 ·by_cases i1:i=iX
  ·exact .inl i1
  by_cases i2:i=iR k J
  ·exact .inr (.inr ⟨J,by omega,.inl i2⟩)
  by_cases i3:i=iQ k J
  ·exact .inr (.inr ⟨J,by omega,.inr i3⟩)
  rw [nO i i1 i2 i3] at hi
  rcases h.only i hi with y | y | ⟨j,y,z⟩
  ·exact .inl y
  ·exact .inr (.inl y)
  ·exact .inr (.inr ⟨j,by omega,z⟩)
 ·rw [nO (iS k) (by simp) (by simp) (by simp)]
  exact h.sdr.keep (hsame _ (by simp))
 ·rw [nX];exact List.mem_cons_of_mem _ h.eX
 ·rw [← hw4];exact soft_set.trans ((t3.frozen (p:=⟨E,i,none⟩) hE).trans (h.zE i))
 ·by_cases e:j=J
  ·subst e
   rw [if_pos ⟨by omega,hb⟩,upd_at,← hw4]
   exact cell_set ((cE j).trans (h.en j hj))
  ·rw [← hw4,cell_other (.inr e),cE j,h.en j hj,upd_not _ _ e]
   have:(j<J∧bitI tq j=true)↔(j<J+1∧bitI tq j=true):=⟨fun y=>⟨by have:=y.1;omega,y.2⟩,fun y=>⟨by have:=y.1;omega,y.2⟩⟩
   simp only [this]
 ·by_cases e:j=J
  ·subst e
   rw [upd_at,upd_at,upd_at,nX,nR,nQ]
   refine ⟨⟨List.mem_cons_self,by omega,?_,?_⟩,hr.keep sR,hq.keep sQ⟩
   ·rw [← hw4,cell_other (.inl (by omega))];exact d0
   ·rw [← hw4,cell_other (.inl (by omega))];exact d1
  ·obtain ⟨⟨a1,a2,a3,a4⟩,a5,a6⟩:=h.dn j (by omega) hbj
   rw [upd_not _ _ e,upd_not _ _ e,upd_not _ _ e,nX,nO (iR k j) (by simp) (by simpa using e) (by simp),nO (iQ k j) (by simp) (by simp) (by simpa using e)]
   have aD:=h.fam.lt _ _ a1
   refine ⟨⟨List.mem_cons_of_mem _ a1,a2,?_,?_⟩,a5.keep (hsame _ (by simp)),a6.keep (hsame _ (by simp))⟩
   ·rw [← hw4,cell_other (.inl a2)];exact (t3.cell (p:=⟨D j,0,none⟩) aD).trans a3
   ·rw [← hw4,cell_other (.inl a2)];exact (t3.cell (p:=⟨D j,1,none⟩) aD).trans a4
 ·rw [← hw4]
  exact (hV.trans (t3.mono hb0)).setCell (p:=⟨E,J,none⟩) hE0 _
theorem LinkNew.same (h:LinkNew b0 w N k n J tq bag queue S E D R Q) {w':World} (hs:w.heap.size≤w'.heap.size) (hk:∀ c,b0≤c→c<w.heap.size→w'.heap[c]? = w.heap[c]?):LinkNew b0 w' N k n J tq bag queue S E D R Q:=by
 have sm:∀ i,Same (N i) w w':=fun i=>⟨hs,fun c hc=>hk c (h.lo i c hc) (h.fam.lt i c hc)⟩
 refine ⟨⟨fun i c hc=>Nat.lt_of_lt_of_le (h.fam.lt i c hc) hs,h.fam.ap⟩,h.lo,h.only,h.sdr.keep (sm _),h.eX,fun i=>((sm iX).frozen (p:=⟨E,i,none⟩) h.eX).trans (h.zE i),fun j hj=>((sm iX).cell (p:=⟨E,j,none⟩) h.eX).trans (h.en j hj),fun j hj hb=>?_⟩
 obtain ⟨⟨a1,a2,a3,a4⟩,a5,a6⟩:=h.dn j hj hb
 exact ⟨⟨a1,a2,((sm iX).cell (p:=⟨D j,0,none⟩) a1).trans a3,((sm iX).cell (p:=⟨D j,1,none⟩) a1).trans a4⟩,a5.keep (sm _),a6.keep (sm _)⟩
theorem LinkNew.low (h:LinkNew b0 w N k n J tq bag queue S E D R Q) {b1:Nat} (hb:b1≤b0):LinkNew b1 w N k n J tq bag queue S E D R Q :=
 ⟨h.fam,fun i c hc=>Nat.le_trans hb (h.lo i c hc),h.only,h.sdr,h.eX,h.zE,h.en,h.dn⟩
theorem LinkNew.first {V0 w1 w2:World} {OS:List Nat} (hs:Sdr w1 OS S bag queue [] 0 0 0) (lo:∀ c,c∈OS→V0.heap.size≤c) (hb:Below V0.heap.size V0 w1) {t:TypeId} (hw2:w1.alloc (.cells (madeCells #[.pointer none] n) t)=w2) (kk:Nat) (tq:Int) (D R Q:Nat→Nat) :
  (∃ N,LinkNew V0.heap.size w2 N kk n 0 tq bag queue S w1.heap.size D R Q)∧Below V0.heap.size V0 w2:=by
 have k2:Below w1.heap.size w1 w2:=by rw [← hw2];exact (Below.refl _ _).alloc (Nat.le_refl _) _
 have s2:w2.heap.size=w1.heap.size+1:=by rw [← hw2];simp
 have s1:=hb.size
 have F0:Fam V0 (fun _:CIx=>([]:List Nat)):=⟨fun i c hc=>by simp at hc,fun i j _ c hc=>by simp at hc⟩
 have F1:Fam w1 (setO (fun _:CIx=>([]:List Nat)) (iS kk) OS):=F0.add hb rfl (fun c hc=>⟨lo c hc,hs.lt c hc⟩)
 have F2:Fam w2 (setO (setO (fun _:CIx=>([]:List Nat)) (iS kk) OS) iX [w1.heap.size]):=F1.add k2 (by rw [setO_not _ _ (by simp)]) (fun c hc=>by
  have:c=w1.heap.size:=by simpa using hc
  omega)
 obtain ⟨N,hN⟩:∃ N,setO (setO (fun _:CIx=>([]:List Nat)) (iS kk) OS) iX [w1.heap.size]=N:=⟨_,rfl⟩
 have nX:N iX = [w1.heap.size]:=by rw [← hN];exact setO_at _ _ _
 have nS:N (iS kk)=OS:=by rw [← hN,setO_not _ _ (by simp)];exact setO_at _ _ _
 have nO:∀ i,i≠iX→i≠iS kk→N i = []:=fun i h1 h2=>by rw [← hN,setO_not _ _ h1,setO_not _ _ h2]
 rw [hN] at F2
 clear hN F1 F0
 refine ⟨⟨N,F2,fun i c hc=>?_,fun i hi=>?_,?_,?_,fun i=>?_,fun j hj=>?_,fun j hj=>absurd hj (Nat.not_lt_zero _)⟩,hb.trans (k2.mono s1)⟩
 ·by_cases i1:i=iX
  ·subst i1
   rw [nX] at hc
   have:c=w1.heap.size:=by simpa using hc
   omega
  by_cases i2:i=iS kk
  ·subst i2
   rw [nS] at hc
   exact lo c hc
  rw [nO i i1 i2] at hc
  simp at hc
 ·by_cases i1:i=iX
  ·exact .inl i1
  by_cases i2:i=iS kk
  ·exact .inr (.inl i2)
  exact absurd (nO i i1 i2) hi
 ·rw [nS];exact hs.keep (Same.of_below k2 hs.lt)
 ·rw [nX];exact List.mem_singleton.2 rfl
 ·rw [← hw2];simp
 ·rw [if_neg (fun y=>absurd y.1 (Nat.not_lt_zero _)),← hw2]
  simp [madeCells,hj,Nat.mod_one]
end
end
section
theorem fold_in:∀ (l:List Int) (y lo hi:Int),(lo≤y∧y≤hi)→(∀ x∈l,lo≤x∧x≤hi)→(lo≤l.foldl max y∧l.foldl max y≤hi)∧lo≤l.foldl min y∧l.foldl min y≤hi:=by
 intro l
 induction l with
 | nil=>intro y lo hi hy _;exact ⟨hy,hy⟩
 | cons a l ih =>
  intro y lo hi hy h
  have ha:=h a List.mem_cons_self
  exact ⟨(ih (max y a) lo hi (by omega) (fun x hx=>h x (List.mem_cons_of_mem _ hx))).1,(ih (min y a) lo hi (by omega) (fun x hx=>h x (List.mem_cons_of_mem _ hx))).2⟩
theorem pspread_any (a:Option Addr) (cap:Nat) (l:List Int) (w:World) (hr:IntRow w a l) (hn:l.length≤1000) (hin:∀ x∈l,-2199023255552≤x∧x≤2199023255552) :
  Calls Tryz.prog 91 #[.slice a l.length cap] w fun e w'=>e=.returned (.int .i64 (spreadL l))∧w'=w:=by
 rcases Nat.eq_zero_or_pos l.length with h0 | h0
 ·have:l = []:=List.length_eq_zero_iff.1 h0
  subst this
  clear hr hin hn h0
  go_enter Tryz.func91,Tryz.ntmps91
  go_wp2
  go_ret
  exact ⟨rfl,rfl⟩
 obtain ⟨b,off,rfl,hb,hc⟩:=hr h0
 have hne:l≠[]:=by rintro rfl;simp at h0
 have hm0:∃ y,l.headD 0=y∧-2199023255552≤y∧y≤2199023255552:=by
  cases l with
  | nil=>exact absurd rfl hne
  | cons y l=>exact ⟨y,rfl,hin y List.mem_cons_self⟩
 obtain ⟨y0,hy0,hyb⟩:=hm0
 obtain ⟨⟨m1,m2⟩,m3,m4⟩:=fold_in l y0 (-2199023255552) 2199023255552 hyb hin
 have hM:=Tryz.slices_Max_int b off l.length cap l w h0 (Nat.le_refl _) (by omega) hc
 have hm:=Tryz.slices_Min_int b off l.length cap l w h0 (Nat.le_refl _) (by omega) hc
 rw [List.take_length] at hM hm
 have eM:Lib.maxOf l=l.foldl max y0:=by rw [← hy0];rfl
 have em:Lib.minOf l=l.foldl min y0:=by rw [← hy0];rfl
 rw [eM] at hM
 rw [em] at hm
 have HS:Hid (spreadL l=l.foldl max y0 - l.foldl min y0):=by show _=_;rw [← hy0];rfl
 rw [HS.out]
 have k1:((l.length:Int) == 0)=false:=by simp;intro e;exact hne e
 generalize l.foldl max y0=x at *
 generalize l.foldl min y0=y at *
 generalize l.length=n at *
 clear hc hin hr hne eM em HS hy0
 go_enter Tryz.func91,Tryz.ntmps91
 go_wp2_with fail
 refine hM.mono ?_
 rintro e w1 ⟨rfl,rfl⟩
 go_wp2_with fail
 refine hm.mono ?_
 rintro e w1 ⟨rfl,rfl⟩
 go_wp2
 go_ret
 exact ⟨rfl,rfl⟩
def rightTo (fa:Int) (cs:List Int) (k:Nat):List Int:=((List.range k).filter fun i=>!bitI fa i).map fun i=>cs.getD i 0
theorem rightTo_succ (fa:Int) (cs:List Int) (k:Nat):rightTo fa cs (k+1)=rightTo fa cs k ++ (if bitI fa k=true then [] else [cs.getD k 0]):=by
 unfold rightTo
 rw [List.range_succ,List.filter_append,List.map_append]
 congr 1
 cases h:bitI fa k <;> simp [h]
theorem rightTo_len (fa:Int) (cs:List Int) (k:Nat):(rightTo fa cs k).length≤k:=by
 unfold rightTo
 rw [List.length_map]
 exact Nat.le_trans (List.length_filter_le _ _) (by simp)
theorem getD_mem9 {l:List Int} {a:Nat} (h:a<l.length):l.getD a 0∈l:=by
 simp [List.getD,List.getElem?_eq_getElem h]
theorem rightTo_mem {fa:Int} {cs:List Int} {k:Nat} (hk:k≤cs.length) {x:Int} (h:x∈rightTo fa cs k):x∈cs:=by
 obtain ⟨i,hi,rfl⟩:=List.mem_map.1 h
 have:=List.mem_range.1 (List.mem_filter.1 hi).1
 exact getD_mem9 (by omega)
theorem owns_introw9 {w:World} {base n:Nat} {v:Value} {l:List Int} (h:w.ownsRow base 3 1 v n (l.map (Value.int .i64))):∃ a cap,v=.slice a l.length cap∧IntRow w a l∧l.length=n:=by
 have hl:l.length=n:=by have:=h.1;simpa using this
 rcases h.2 with ⟨rfl,h0⟩ | ⟨g,cap,cur,rfl,hg,hh,_⟩
 ·refine ⟨none,0,by rw [hl,h0],fun q=>absurd q (by omega),hl⟩
 ·have hlt:g<w.heap.size:=by
   rcases Nat.lt_or_ge g w.heap.size with q | q
   ·exact q
   ·rw [Array.getElem?_eq_none q] at hh;cases hh
  refine ⟨_,cap,by rw [hl],fun _=>⟨g,0,rfl,hlt,fun j hj=>?_⟩,hl⟩
  have:=h.cells (g:=g) rfl j (.int .i64 (l.getD j 0)) (by simp [List.getD,List.getElem?_eq_getElem hj])
  rw [add_at] at this
  exact this
theorem cspread_any (C:Nat) (fa:Int) (a:Option Addr) (cap:Nat) (cs:List Int) (w:World) (c10:w.cell? ⟨C,10,none⟩=some (.int .i64 fa)) (c11:w.cell? ⟨C,11,none⟩=some (.slice a cs.length cap)) (hr:IntRow w a cs) (hn:cs.length≤16) (hin:∀ x∈cs,-274877906944≤x∧x≤274877906944) :
  Calls Tryz.prog 58 #[.pointer (some ⟨C,0,none⟩)] w fun e w'=>e=.returned (.int .i64 (spreadL (rightOf fa cs)))∧Below w.heap.size w w':=by
 obtain ⟨n,hln⟩:∃ n,cs.length=n:=⟨_,rfl⟩
 have HL:Hid (cs.length=n):=hln
 have HIn:Hid (∀ x∈cs,-274877906944≤x∧x≤274877906944):=hin
 have HR:Hid (IntRow w a cs):=hr
 have hlC:C<w.heap.size:=lt_of_cell9 c10
 obtain ⟨i0,hi,hz0,hz1,hz2⟩:=info_parts Tryz.infoInt
 rw [hln] at hn c11
 clear hin hr hln
 go_enter Tryz.func58,Tryz.ntmps58
 go_wp2_with fail
 go_loopw [3,11] (fun lv t wr=>∃ k:Nat,k≤n∧t=.int .i64 k∧Hid (wr.ownsRow w.heap.size 3 1 lv (rightTo fa cs k).length ((rightTo fa cs k).map (Value.int .i64)))∧Hid (Below w.heap.size w wr)) (fun _ t _=>n - (intOf t).toNat)
 case atStart=>exact ⟨0,Nat.zero_le _,rfl,World.ownsRow_nil _ _ _ _,Below.refl _ _⟩
 case round =>
  obtain ⟨k,hk,rfl,hown,hbe⟩:=hrel
  have y10:=(hbe.out.cell (p:=⟨C,10,none⟩) hlC).trans c10
  have hlC2:C<wr.heap.size:=Nat.lt_of_lt_of_le hlC hbe.out.size
  by_cases hlt:k<n
  ·have kk:(k:Int)<(n:Int):=by omega
   obtain ⟨b,off,rfl,hb,hc⟩:=HR.out (by rw [HL.out];omega)
   have y0:=(hbe.out.cell (p:=⟨b,off+k,none⟩) hb).trans (hc k (by rw [HL.out];exact hlt))
   have hbw:b<wr.heap.size:=Nat.lt_of_lt_of_le hb hbe.out.size
   have HS:Hid (rightTo fa cs (k+1)=rightTo fa cs k ++ (if bitI fa k=true then [] else [cs.getD k 0])):=rightTo_succ fa cs k
   have hrl:=rightTo_len fa cs k
   have hli:=chas_any fa k (by omega) wr
   have hs0:=hbe.out.size
   generalize cs.getD k 0=CK at *
   generalize hRT:rightTo fa cs k=RT at *
   clear hc hRT
   cases hb2:bitI fa k
   ·rw [hb2] at hli
    rw [hb2,if_neg (by decide)] at HS
    go_wp2_with fail
    refine hli.mono ?_
    rintro ev w2 ⟨rfl,h⟩
    replace h:=h.symm
    subst h
    have hOq:wr.ownsRow w.heap.size 3 1 u3 RT.length (RT.map (Value.int .i64)):=hown.out
    clear hli
    go_wp2_with (at_builtin;refine wpList_append_own _ rfl _ _ 52 rfl w.heap.size 3 i0 (.int .i64 0) 1 8 Tryz.underlying52 hi hz0 hz1 hz2 rfl (by decide) u3 _ _ rfl (hOq.alloc _) ⟨wr.heap.size,0,none⟩ 1 1 [.int .i64 CK] rfl rfl (cell_one_new _ _ _) (ints_one [CK]) (by unfold maxLen;omega) (by omega) (by simp;omega) ?_;intro v' w3 hown' hgrow hnil)
    have hb3:Below w.heap.size w w3:=(hbe.out.alloc hs0 _).grown hgrow (by simp;omega) (fun g hg=>(hown.out.lt g hg).1)
    refine ⟨⟨k+1,by omega,by go_num,?_,hb3⟩,?_⟩
    ·rw [HS.out,List.map_append,List.length_append]
     exact hown'
    ·simp [intOf];omega
   ·rw [hb2] at hli
    rw [hb2,if_pos rfl,List.append_nil] at HS
    go_wp2_with fail
    refine hli.mono ?_
    rintro ev w2 ⟨rfl,h⟩
    replace h:=h.symm
    subst h
    clear hli
    go_wp2_with fail
    refine ⟨⟨k+1,by omega,by go_num,?_,hbe⟩,?_⟩
    ·rw [HS.out]
     exact hown.out
    ·simp [intOf];omega
  ·have hkn:k=n:=by omega
   obtain ⟨va,vcap,rfl,hir,hlen2⟩:=owns_introw9 hown.out
   have hsp:=pspread_any va vcap (rightTo fa cs k) wr hir (Nat.le_trans (rightTo_len fa cs k) (by omega)) (fun x hx=>by have:=HIn.out x (rightTo_mem (by rw [HL.out];exact hk) hx);omega)
   have HE:Hid (rightTo fa cs k=rightOf fa cs):=by show _=_;rw [hkn,← HL.out];rfl
   have kk:decide (k<n)=false:=decide_eq_false hlt
   clear hkn hlt hown hir hlen2
   go_wp2_with fail
   refine hsp.mono ?_
   rintro ev w2 ⟨rfl,h⟩
   replace h:=h.symm
   subst h
   clear hsp
   go_wp2
   go_ret
   exact ⟨congrArg (fun x=>Ending.returned (Value.int .i64 (spreadL x))) HE.out,hbe.out⟩
theorem crounds_any (C:Nat) (rd:Int) (w:World) (c12:w.cell? ⟨C,12,none⟩=some (.int .i64 rd)) :
  Calls Tryz.prog 55 #[.pointer (some ⟨C,0,none⟩)] w fun e w'=>e=.returned (.int .i64 rd)∧w'=w:=by
 have hlC:C<w.heap.size:=lt_of_cell9 c12
 go_enter Tryz.func55,Tryz.ntmps55
 go_wp2
 go_ret
 exact ⟨rfl,rfl⟩
theorem cisNode_any (C:Nat) (nodes x:Int) (w:World) (c0:w.cell? ⟨C,0,none⟩=some (.int .i64 nodes)) :
  Calls Tryz.prog 82 #[.pointer (some ⟨C,0,none⟩),.int .i64 x] w fun e w'=>e=.returned (.bool (decide (0≤x∧x<nodes)))∧w'=w:=by
 have hlC:C<w.heap.size:=lt_of_cell9 c0
 by_cases k1:0≤x
 ·by_cases k2:x<nodes
  ·rw [decide_eq_true (show 0≤x∧x<nodes from ⟨k1,k2⟩)]
   go_enter Tryz.func82,Tryz.ntmps82
   go_wp2
   go_ret
   exact ⟨rfl,rfl⟩
  ·rw [decide_eq_false (show ¬ (0≤x∧x<nodes) by omega)]
   have k2':decide (x<nodes)=false:=decide_eq_false k2
   clear k2
   go_enter Tryz.func82,Tryz.ntmps82
   go_wp2
   go_ret
   exact ⟨rfl,rfl⟩
 ·rw [decide_eq_false (show ¬ (0≤x∧x<nodes) by omega)]
  have k2':decide (0≤x)=false:=decide_eq_false k1
  clear k1
  go_enter Tryz.func82,Tryz.ntmps82
  go_wp2
  go_ret
  exact ⟨rfl,rfl⟩
theorem cisLink_any (C:Nat) (la:Option Addr) (nl cap:Nat) (x:Int) (w:World) (c14:w.cell? ⟨C,14,none⟩=some (.slice la nl cap)) :
  Calls Tryz.prog 80 #[.pointer (some ⟨C,0,none⟩),.int .i64 x] w fun e w'=>e=.returned (.bool (decide (0≤x∧x<nl)))∧w'=w:=by
 have hlC:C<w.heap.size:=lt_of_cell9 c14
 by_cases k1:0≤x
 ·by_cases k2:x<(nl:Int)
  ·rw [decide_eq_true (show 0≤x∧x<(nl:Int) from ⟨k1,k2⟩)]
   go_enter Tryz.func80,Tryz.ntmps80
   go_wp2
   go_ret
   exact ⟨rfl,rfl⟩
  ·rw [decide_eq_false (show ¬ (0≤x∧x<(nl:Int)) by omega)]
   have k2':decide (x<(nl:Int))=false:=decide_eq_false k2
   clear k2
   go_enter Tryz.func80,Tryz.ntmps80
   go_wp2
   go_ret
   exact ⟨rfl,rfl⟩
 ·rw [decide_eq_false (show ¬ (0≤x∧x<(nl:Int)) by omega)]
  have k2':decide (0≤x)=false:=decide_eq_false k1
  clear k1
  go_enter Tryz.func80,Tryz.ntmps80
  go_wp2
  go_ret
  exact ⟨rfl,rfl⟩
end
end Go.Proofs.YthccoinonjoleaaGreatDoor
