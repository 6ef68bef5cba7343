import Derived.Test.YtooadfgibdjdeaaGreatDoorZPCluM
namespace Go.Proofs.YtooadfgibdjdeaaGreatDoor
open Go.RowKit
set_option maxRecDepth 100000
set_option maxHeartbeats 16000000
section
abbrev iP:CIx:=(5,0,0)
abbrev iZ:CIx:=(6,0,0)
structure RMap where
 X:List Nat
 sa:Option Addr
 scap:Nat
 la:Option Addr
 lcap:Nat
 ca:Option Addr
 ccap:Nat
 nb:Nat
 ncap:Nat
 ka:Option Addr
 kb:Nat
 kcap:Nat
 tb:Nat
 pb:Nat
 P:Nat→Nat
 Q:Nat→Nat
 S:Nat→Nat
 R:Nat→Nat→Nat
structure RBase (w:World) (C:Nat) (p:PlanN) (fa:Int) (cs:List Int) (rd:Int) (m:RMap):Prop where
 c0:w.cell? ⟨C,0,none⟩=some (.int .i64 p.nodes)
 c1:w.cell? ⟨C,1,none⟩=some (.int .i64 p.faulty)
 c3:w.cell? ⟨C,3,none⟩=some (.int .i64 p.jitter)
 c4:w.cell? ⟨C,4,none⟩=some (.int .i64 p.drift)
 c5:w.cell? ⟨C,5,none⟩=some (.int .i64 p.round)
 c6:w.cell? ⟨C,6,none⟩=some (.slice m.sa p.ns m.scap)
 c7:w.cell? ⟨C,7,none⟩=some (.slice m.la p.nl m.lcap)
 c10:w.cell? ⟨C,10,none⟩=some (.int .i64 fa)
 c11:w.cell? ⟨C,11,none⟩=some (.slice m.ca cs.length m.ccap)
 c12:w.cell? ⟨C,12,none⟩=some (.slice (some ⟨m.nb,0,none⟩) p.n m.ncap)
 c13:w.cell? ⟨C,13,none⟩=some (.slice m.ka p.nl m.kcap)
 c14:w.cell? ⟨C,14,none⟩=some (.map (some m.tb))
 c15:w.cell? ⟨C,15,none⟩=some (.map (some m.pb))
 c16:w.cell? ⟨C,16,none⟩=some (.int .i64 rd)
 z:∀ i,w.frozen? ⟨C,i,none⟩=false
 lc:C<w.heap.size
 nC:C∉m.X
 lx:∀ c,c∈m.X→c<w.heap.size
 ck:0<cs.length→∃ b off,m.ca=some ⟨b,off,none⟩∧b∈m.X∧∀ j,j<cs.length→w.cell? ⟨b,off+j,none⟩=some (.int .i64 (cs.getD j 0))
 nd:∀ j,j<p.n→w.cell? ⟨m.nb,j,none⟩=some (.pointer (some ⟨m.P j,0,none⟩))
 ndX:m.nb∈m.X
 ka:0<p.nl→m.ka=some ⟨m.kb,0,none⟩∧m.kb∈m.X
 kk:∀ k,k<p.nl→w.cell? ⟨m.kb,k,none⟩=some (.pointer (some ⟨m.S k,0,none⟩))
 tk:∃ g,MapII w m.tb g∧∀ k j,k<p.nl→j<p.n→g k j=some (.pointer (some ⟨m.R k j,0,none⟩))
 tbX:m.tb∈m.X
structure RRows (w:World) (Z:List Nat) (p:PlanN) (m:RMap):Prop where
 sl:0<p.ns→∃ b off,m.sa=some ⟨b,off,none⟩∧b∈Z∧∀ i,i<p.ns→w.cell? ⟨b,off+i*3,none⟩=some (.int .i64 (p.nd i))∧w.cell? ⟨b,off+i*3+1,none⟩=some (.int .i64 (p.fr i))∧w.cell? ⟨b,off+i*3+2,none⟩=some (.int .i64 (p.td i))
 lk:0<p.nl→∃ b off,m.la=some ⟨b,off,none⟩∧b∈Z∧∀ i,i<p.nl→w.cell? ⟨b,off+i*4,none⟩=some (.int .i64 (p.lf i))∧w.cell? ⟨b,off+i*4+1,none⟩=some (.int .i64 (p.lt i))∧w.cell? ⟨b,off+i*4+2,none⟩=some (.int .i64 (p.lb i))∧w.cell? ⟨b,off+i*4+3,none⟩=some (.int .i64 (p.lq i))
 zl:∀ c,c∈Z→c<w.heap.size
theorem RBase.keep {w w':World} {C:Nat} {p:PlanN} {fa:Int} {cs:List Int} {rd:Int} {m:RMap} (h:RBase w C p fa cs rd m) (k:Same (C::m.X) w w'):RBase w' C p fa cs rd m:=by
 have cc:∀ i,w'.cell? ⟨C,i,none⟩=w.cell? ⟨C,i,none⟩:=fun i=>k.cell (p:=⟨C,i,none⟩) List.mem_cons_self
 have cx:∀ b i,b∈m.X→w'.cell? ⟨b,i,none⟩=w.cell? ⟨b,i,none⟩:=fun b i hb=>k.cell (p:=⟨b,i,none⟩) (List.mem_cons_of_mem _ hb)
 refine ⟨(cc 0).trans h.c0,(cc 1).trans h.c1,(cc 3).trans h.c3,(cc 4).trans h.c4,(cc 5).trans h.c5,(cc 6).trans h.c6,(cc 7).trans h.c7,(cc 10).trans h.c10,(cc 11).trans h.c11,(cc 12).trans h.c12,(cc 13).trans h.c13,(cc 14).trans h.c14,(cc 15).trans h.c15,(cc 16).trans h.c16,fun i=>(k.frozen (p:=⟨C,i,none⟩) List.mem_cons_self).trans (h.z i),Nat.lt_of_lt_of_le h.lc k.1,h.nC,fun c hc=>Nat.lt_of_lt_of_le (h.lx c hc) k.1,fun h0=>?_,fun j hj=>(cx _ _ h.ndX).trans (h.nd j hj),h.ndX,h.ka,fun i hi=>?_,?_,h.tbX⟩
 ·obtain ⟨b,off,e,hb,hc⟩:=h.ck h0
  exact ⟨b,off,e,hb,fun j hj=>(cx _ _ hb).trans (hc j hj)⟩
 ·exact (cx _ _ (h.ka (by omega)).2).trans (h.kk i hi)
 ·obtain ⟨g,hg,hr⟩:=h.tk
  exact ⟨g,hg.keep (k.2 _ (List.mem_cons_of_mem _ h.tbX)),hr⟩
theorem RRows.keep {w w':World} {Z:List Nat} {p:PlanN} {m:RMap} (h:RRows w Z p m) (k:Same Z w w'):RRows w' Z p m:=by
 have cx:∀ b i,b∈Z→w'.cell? ⟨b,i,none⟩=w.cell? ⟨b,i,none⟩:=fun b i hb=>k.cell (p:=⟨b,i,none⟩) hb
 refine ⟨fun h0=>?_,fun h0=>?_,fun c hc=>Nat.lt_of_lt_of_le (h.zl c hc) k.1⟩
 ·obtain ⟨b,off,e,hb,hc⟩:=h.sl h0
  exact ⟨b,off,e,hb,fun i hi=>⟨(cx _ _ hb).trans (hc i hi).1,(cx _ _ hb).trans (hc i hi).2.1,(cx _ _ hb).trans (hc i hi).2.2⟩⟩
 ·obtain ⟨b,off,e,hb,hc⟩:=h.lk h0
  exact ⟨b,off,e,hb,fun i hi=>⟨(cx _ _ hb).trans (hc i hi).1,(cx _ _ hb).trans (hc i hi).2.1,(cx _ _ hb).trans (hc i hi).2.2.1,(cx _ _ hb).trans (hc i hi).2.2.2⟩⟩
theorem PortsIs.keep {w w':World} {X:List Nat} {b:Nat} {ports:Nat→Nat→List ByteArray} (h:PortsIs w X b ports) (k:Same (b::X) w w'):PortsIs w' X b ports:=by
 obtain ⟨g,hg,hr⟩:=h
 refine ⟨g,hg.keep (k.2 b List.mem_cons_self),fun i j hi hj=>?_⟩
 rcases hr i j hi hj with q | ⟨v,q1,q2⟩
 ·exact .inl q
 ·exact .inr ⟨v,q1,q2.keep (k.part (fun c hc=>List.mem_cons_of_mem _ hc)) (fun c hc=>hc)⟩
theorem RefNode.keepS {w w':World} {P Q:Nat} {id:Int} {n:Nat} {t:Nat→Bool} {g b:Int} {fz:Bool} (h:RefNode w P Q id n t g b fz) (k:Same [P,Q] w w'):RefNode w' P Q id n t g b fz :=
 have hp:P∈[P,Q]:=List.mem_cons_self
 have hq:Q∈[P,Q]:=List.mem_cons_of_mem _ List.mem_cons_self
 ⟨(k.cell (p:=⟨P,0,none⟩) hp).trans h.c0,(k.cell (p:=⟨P,1,none⟩) hp).trans h.c1,(k.cell (p:=⟨P,2,none⟩) hp).trans h.c2,(k.cell (p:=⟨P,3,none⟩) hp).trans h.c3,(k.cell (p:=⟨P,4,none⟩) hp).trans h.c4,(k.cell (p:=⟨P,5,none⟩) hp).trans h.c5,fun i=>(k.frozen (p:=⟨P,i,none⟩) hp).trans (h.z i),fun j hj=>(k.cell (p:=⟨Q,j,none⟩) hq).trans (h.row j hj),fun j=>(k.frozen (p:=⟨Q,j,none⟩) hq).trans (h.zr j),h.ne,Nat.lt_of_lt_of_le h.lp k.1,Nat.lt_of_lt_of_le h.lq k.1⟩
structure RM (w:World) (O:List Nat) (Z:List Nat) (Of:CIx→List Nat) (C:Nat) (p:PlanN) (fa:Int) (cs:List Int) (s:ClS) (rd:Int) (B:Nat) (m:RMap):Prop where
 base:RBase w C p fa cs rd m
 rows:RRows w Z p m
 ob:Of iB=C::m.X
 oz:Of iZ=Z
 fam:Fam w Of
 sub:∀ i c,i≠iZ→c∈Of i→c∈O
 az:Apart O Z
 lo:∀ c,c∈O→c<w.heap.size
 node:∀ j,j<p.n→(RefNode w (m.P j) (m.Q j) j p.n (s.nodes j).t (s.nodes j).g (s.nodes j).b (s.nodes j).fz∧Of (iN j) = [m.P j,m.Q j])∧NodeIn B (s.nodes j)
 snd:∀ k,k<p.nl→RefSdr w (Of (iS k)) (m.S k) (p.lb k) (p.lq k) (s.links k).all (s.links k).went (s.links k).last (s.links k).now∧SendIn B (s.links k)
 rcv:∀ k j,k<p.nl→j<p.n→∃ a b,(RefRecv w (m.R k j) (s.newest k j) a b∧Of (iR k j) = [m.R k j])∧((0≤a∧a≤B)∧0≤b∧b≤B)∧s.newest k j≤255
 prt:∃ PX,Of iP=m.pb::PX∧m.pb∉PX∧PortsIs w PX m.pb s.ports
 pln:∀ k j,(s.ports k j).length≤16
def RCl (w:World) (O:List Nat) (Z:List Nat) (C:Nat) (p:PlanN) (fa:Int) (cs:List Int) (s:ClS) (rd:Int) (B:Nat) (m:RMap):Prop:=∃ Of,RM w O Z Of C p fa cs s rd B m
section
variable {w w':World} {O Z:List Nat} {Of:CIx→List Nat} {C:Nat} {p:PlanN} {fa:Int} {cs:List Int} {s:ClS} {rd:Int} {B:Nat} {m:RMap}
theorem RCl.base (h:RCl w O Z C p fa cs s rd B m):RBase w C p fa cs rd m:=by obtain ⟨_,h⟩:=h;exact h.base
theorem RCl.rows (h:RCl w O Z C p fa cs s rd B m):RRows w Z p m:=by obtain ⟨_,h⟩:=h;exact h.rows
theorem RCl.lt (h:RCl w O Z C p fa cs s rd B m):∀ c,c∈O→c<w.heap.size:=by obtain ⟨_,h⟩:=h;exact h.lo
theorem RCl.mem (h:RCl w O Z C p fa cs s rd B m):C∈O:=by
 obtain ⟨_,h⟩:=h
 exact h.sub iB C (by decide) (by rw [h.ob];exact List.mem_cons_self)
theorem RCl.keep (h:RCl w O Z C p fa cs s rd B m) (k:Same O w w') (kz:Same Z w w'):RCl w' O Z C p fa cs s rd B m:=by
 obtain ⟨Of,h⟩:=h
 have hs:∀ i,i≠iZ→Same (Of i) w w':=fun i hi=>k.part (fun c hc=>h.sub i c hi hc)
 refine ⟨Of,h.base.keep (h.ob▸hs iB (by decide)),h.rows.keep kz,h.ob,h.oz,⟨fun i c hc=>Nat.lt_of_lt_of_le (h.fam.lt i c hc) k.1,h.fam.ap⟩,h.sub,h.az,fun c hc=>Nat.lt_of_lt_of_le (h.lo c hc) k.1,fun j hj=>?_,fun i hi=>⟨(h.snd i hi).1.keep (hs _ (by intro e;cases e)),(h.snd i hi).2⟩,fun i j hi hj=>?_,?_,h.pln⟩
 ·obtain ⟨⟨a,b⟩,c⟩:=h.node j hj
  exact ⟨⟨a.keepS (b▸hs (iN j) (by intro e;cases e)),b⟩,c⟩
 ·obtain ⟨a,b,⟨q,e⟩,r⟩:=h.rcv i j hi hj
  exact ⟨a,b,⟨q.keep (e▸hs (iR i j) (by intro e;cases e)),e⟩,r⟩
 ·obtain ⟨PX,e,hn,q⟩:=h.prt
  exact ⟨PX,e,hn,q.keep (e▸hs iP (by decide))⟩
theorem RCl.below (h:RCl w O Z C p fa cs s rd B m) (k:Below w.heap.size w w'):RCl w' O Z C p fa cs s rd B m:=h.keep (Same.of_below k h.lt) (Same.of_below k h.rows.zl)
theorem RCl.more {B':Nat} (h:RCl w O Z C p fa cs s rd B m) (hB:B≤B'):RCl w O Z C p fa cs s rd B' m:=by
 obtain ⟨Of,h⟩:=h
 refine ⟨Of,h.base,h.rows,h.ob,h.oz,h.fam,h.sub,h.az,h.lo,fun j hj=>⟨(h.node j hj).1,?_⟩,fun i hi=>⟨(h.snd i hi).1,?_⟩,fun i j hi hj=>?_,h.prt,h.pln⟩
 ·obtain ⟨⟨a,b⟩,c,d⟩:=(h.node j hj).2
  exact ⟨⟨a,by omega⟩,c,by omega⟩
 ·obtain ⟨a,b⟩:=(h.snd i hi).2
  exact ⟨by omega,b⟩
 ·obtain ⟨a,b,q,⟨⟨r1,r2⟩,r3,r4⟩,t⟩:=h.rcv i j hi hj
  exact ⟨a,b,q,⟨⟨r1,by omega⟩,r3,by omega⟩,t⟩
theorem RCl.agree {s':ClS} (h:RCl w O Z C p fa cs s rd B m) (h1:∀ j,j<p.n→s'.nodes j=s.nodes j) (h2:∀ k,k<p.nl→s'.links k=s.links k) (h3:∀ k j,k<p.nl→j<p.n→s'.newest k j=s.newest k j) (h4:∀ k j,s'.ports k j=s.ports k j):RCl w O Z C p fa cs s' rd B m:=by
 obtain ⟨Of,h⟩:=h
 have e:s'.ports=s.ports:=by funext k j;exact h4 k j
 refine ⟨Of,h.base,h.rows,h.ob,h.oz,h.fam,h.sub,h.az,h.lo,fun j hj=>?_,fun i hi=>?_,fun i j hi hj=>?_,by rw [e];exact h.prt,by rw [e];exact h.pln⟩
 ·rw [h1 j hj];exact h.node j hj
 ·rw [h2 i hi];exact h.snd i hi
 ·rw [h3 i j hi hj];exact h.rcv i j hi hj
theorem RM.turn (h:RM w O Z Of C p fa cs s rd B m) {i:CIx} {Y:List Nat} (hi:i≠iB) (hiz:i≠iZ) (k:Foot (Of i) Y w w') (hY:∀ c,c∈Y→c<w'.heap.size) :
  ((Foot O (O ++ Y) w w'∧RBase w' C p fa cs rd m∧RRows w' Z p m)∧setO Of i Y iB=C::m.X∧setO Of i Y iZ=Z)∧Fam w' (setO Of i Y)∧(∀ i' c,i'≠iZ→c∈setO Of i Y i'→c∈O ++ Y)∧Apart (O ++ Y) Z∧(∀ c,c∈O ++ Y→c<w'.heap.size)∧∀ i',i'≠i→Same (Of i') w w'∧setO Of i Y i'=Of i':=by
 have hs:∀ i',i'≠i→Same (Of i') w w':=fun i' h'=>h.fam.same k h'
 have hF:Foot O (O ++ Y) w w':=⟨k.os,k.tape,k.output,k.size,fun c hc hn=>k.block c hc (fun y=>hn (h.sub i c hiz y)),fun c hc=>by
  rcases List.mem_append.1 hc with q | q
  ·exact .inl q
  ·rcases k.fresh c q with r | r
   ·exact .inl (h.sub i c hiz r)
   ·exact .inr r⟩
 refine ⟨⟨⟨hF,h.base.keep (h.ob▸hs iB (Ne.symm hi)),h.rows.keep (h.oz▸hs iZ (Ne.symm hiz))⟩,by rw [setO_not _ _ (Ne.symm hi)];exact h.ob,by rw [setO_not _ _ (Ne.symm hiz)];exact h.oz⟩,h.fam.step k hY,fun i' c hz hc=>?_,hF.apart h.az h.rows.zl,fun c hc=>?_,fun i' h'=>⟨hs i' h',setO_not _ _ h'⟩⟩
 ·by_cases e:i'=i
  ·subst e;rw [setO_at] at hc;exact List.mem_append.2 (.inr hc)
  ·rw [setO_not _ _ e] at hc;exact List.mem_append.2 (.inl (h.sub i' c hz hc))
 ·rcases List.mem_append.1 hc with q | q
  ·exact Nat.lt_of_lt_of_le (h.lo c q) k.size
  ·exact hY c q
theorem RCl.nod (h:RCl w O Z C p fa cs s rd B m) {j:Nat} (hj:j<p.n):RefNode w (m.P j) (m.Q j) j p.n (s.nodes j).t (s.nodes j).g (s.nodes j).b (s.nodes j).fz∧NodeIn B (s.nodes j) ∧
  ∀ (w':World) (B':Nat) (N:NodeS),RefNode w' (m.P j) (m.Q j) j p.n N.t N.g N.b N.fz→Turns (m.P j) (m.Q j) w w'→NodeIn B' N→B≤B'→∃ O',Foot O O' w w'∧RCl w' O' Z C p fa cs (s.setNode j N) rd B' m:=by
 have h0:=h
 obtain ⟨Of,h⟩:=h
 obtain ⟨⟨a,b⟩,c⟩:=h.node j hj
 refine ⟨a,c,fun w' B' N hN hT hB hBB=>?_⟩
 obtain ⟨Of,h⟩:=h0.more hBB
 obtain ⟨⟨a,b⟩,_⟩:=h.node j hj
 have kf:Foot (Of (iN j)) [m.P j,m.Q j] w w':=by rw [b];exact Foot.of_turns hT List.mem_cons_self (List.mem_cons_of_mem _ List.mem_cons_self)
 obtain ⟨⟨⟨t1,t2,tr⟩,t3,tz⟩,t4,t5,ta,t6,t7⟩:=h.turn (by intro e;cases e) (by intro e;cases e) kf (by
  intro c hc
  simp only [List.mem_cons,List.not_mem_nil,or_false] at hc
  rcases hc with rfl | rfl
  ·exact hN.lp
  ·exact hN.lq)
 refine ⟨_,t1,_,t2,tr,t3,tz,t4,t5,ta,t6,fun x hx=>?_,fun i hi=>?_,fun i x hi hx=>?_,?_,h.pln⟩
 ·by_cases e:x=j
  ·subst e
   show (RefNode w' (m.P x) (m.Q x) x p.n (if x=x then N else s.nodes x).t (if x=x then N else s.nodes x).g (if x=x then N else s.nodes x).b (if x=x then N else s.nodes x).fz∧setO Of (iN x) [m.P x,m.Q x] (iN x) = [m.P x,m.Q x])∧NodeIn B' (if x=x then N else s.nodes x)
   rw [if_pos rfl,setO_at]
   exact ⟨⟨hN,rfl⟩,hB⟩
  ·show (RefNode w' (m.P x) (m.Q x) x p.n (if x=j then N else s.nodes x).t (if x=j then N else s.nodes x).g (if x=j then N else s.nodes x).b (if x=j then N else s.nodes x).fz∧setO Of (iN j) [m.P j,m.Q j] (iN x) = [m.P x,m.Q x])∧NodeIn B' (if x=j then N else s.nodes x)
   obtain ⟨u1,u2⟩:=t7 (iN x) (by intro y;cases y;exact e rfl)
   rw [if_neg e,u2]
   obtain ⟨⟨v1,v2⟩,v3⟩:=h.node x hx
   exact ⟨⟨v1.keepS (v2▸u1),v2⟩,v3⟩
 ·obtain ⟨u1,u2⟩:=t7 (iS i) (by intro y;cases y)
  rw [u2]
  exact ⟨(h.snd i hi).1.keep u1,(h.snd i hi).2⟩
 ·obtain ⟨u1,u2⟩:=t7 (iR i x) (by intro y;cases y)
  rw [u2]
  obtain ⟨a,b,⟨q,e⟩,r⟩:=h.rcv i x hi hx
  exact ⟨a,b,⟨q.keep (e▸u1),e⟩,r⟩
 ·obtain ⟨u1,u2⟩:=t7 iP (by intro y;cases y)
  obtain ⟨PX,e,hn,q⟩:=h.prt
  exact ⟨PX,by rw [u2];exact e,hn,q.keep (e▸u1)⟩
theorem RCl.sdr (h:RCl w O Z C p fa cs s rd B m) {k:Nat} (hk:k<p.nl):∃ OS,RefSdr w OS (m.S k) (p.lb k) (p.lq k) (s.links k).all (s.links k).went (s.links k).last (s.links k).now∧SendIn B (s.links k) ∧
  ∀ (w':World) (OS':List Nat) (B':Nat) (S:SendS),RefSdr w' OS' (m.S k) (p.lb k) (p.lq k) S.all S.went S.last S.now→Foot OS OS' w w'→SendIn B' S→B≤B'→∃ O',Foot O O' w w'∧RCl w' O' Z C p fa cs (s.setSend k S) rd B' m:=by
 have h0:=h
 obtain ⟨Of,h⟩:=h
 refine ⟨Of (iS k),(h.snd k hk).1,(h.snd k hk).2,fun w' OS' B' S hS hF hB hBB=>?_⟩
 obtain ⟨⟨⟨t1,t2,tr⟩,t3,tz⟩,t4,t5,ta,t6,t7⟩:=h.turn (by intro e;cases e) (by intro e;cases e) hF hS.lt
 refine ⟨_,t1,_,t2,tr,t3,tz,t4,t5,ta,t6,fun x hx=>?_,fun i hi=>?_,fun i x hi hx=>?_,?_,h.pln⟩
 ·obtain ⟨u1,u2⟩:=t7 (iN x) (by intro y;cases y)
  rw [u2]
  obtain ⟨⟨v1,v2⟩,⟨v3,v4⟩,v5,v6⟩:=h.node x hx
  exact ⟨⟨v1.keepS (v2▸u1),v2⟩,⟨v3,Int.le_trans v4 (by omega)⟩,v5,Int.le_trans v6 (by omega)⟩
 ·by_cases e:i=k
  ·subst e
   show RefSdr w' (setO Of (iS i) OS' (iS i)) (m.S i) (p.lb i) (p.lq i) (if i=i then S else s.links i).all (if i=i then S else s.links i).went (if i=i then S else s.links i).last (if i=i then S else s.links i).now∧SendIn B' (if i=i then S else s.links i)
   rw [if_pos rfl,setO_at]
   exact ⟨hS,hB⟩
  ·show RefSdr w' (setO Of (iS k) OS' (iS i)) (m.S i) (p.lb i) (p.lq i) (if i=k then S else s.links i).all (if i=k then S else s.links i).went (if i=k then S else s.links i).last (if i=k then S else s.links i).now∧SendIn B' (if i=k then S else s.links i)
   obtain ⟨u1,u2⟩:=t7 (iS i) (by intro y;cases y;exact e rfl)
   rw [if_neg e,u2]
   obtain ⟨v1,v2,v3⟩:=h.snd i hi
   exact ⟨v1.keep u1,Nat.le_trans v2 hBB,v3⟩
 ·obtain ⟨u1,u2⟩:=t7 (iR i x) (by intro y;cases y)
  rw [u2]
  obtain ⟨a,b,⟨q,e⟩,⟨⟨r1,r2⟩,r3,r4⟩,r5⟩:=h.rcv i x hi hx
  exact ⟨a,b,⟨q.keep (e▸u1),e⟩,⟨⟨r1,by omega⟩,r3,by omega⟩,r5⟩
 ·obtain ⟨u1,u2⟩:=t7 iP (by intro y;cases y)
  obtain ⟨PX,e,hn,q⟩:=h.prt
  exact ⟨PX,by rw [u2];exact e,hn,q.keep (e▸u1)⟩
theorem RCl.rcv (h:RCl w O Z C p fa cs s rd B m) {k j:Nat} (hk:k<p.nl) (hj:j<p.n):∃ a b,RefRecv w (m.R k j) (s.newest k j) a b∧((0≤a∧a≤B)∧0≤b∧b≤B)∧s.newest k j≤255 ∧
  ∀ (w':World) (B':Nat) (v a' b':Int),RefRecv w' (m.R k j) v a' b'→Foot [m.R k j] [m.R k j] w w'→((0≤a'∧a'≤B')∧0≤b'∧b'≤B')→v≤255→B≤B'→∃ O',Foot O O' w w'∧RCl w' O' Z C p fa cs (s.setNew k j v) rd B' m:=by
 obtain ⟨Of,h⟩:=h
 obtain ⟨a,b,⟨q,e0⟩,r,t⟩:=h.rcv k j hk hj
 refine ⟨a,b,q,r,t,fun w' B' v a' b' hS hF hB hv hBB=>?_⟩
 rw [← e0] at hF
 obtain ⟨⟨⟨t1,t2,tr⟩,t3,tz⟩,t4,t5,ta,t6,t7⟩:=h.turn (by intro e;cases e) (by intro e;cases e) hF (e0▸hS.lt)
 refine ⟨_,t1,_,t2,tr,t3,tz,t4,t5,ta,t6,fun x hx=>?_,fun i hi=>?_,fun i x hi hx=>?_,?_,h.pln⟩
 ·obtain ⟨u1,u2⟩:=t7 (iN x) (by intro y;cases y)
  rw [u2]
  obtain ⟨⟨v1,v2⟩,⟨v3,v4⟩,v5,v6⟩:=h.node x hx
  exact ⟨⟨v1.keepS (v2▸u1),v2⟩,⟨v3,Int.le_trans v4 (by omega)⟩,v5,Int.le_trans v6 (by omega)⟩
 ·obtain ⟨u1,u2⟩:=t7 (iS i) (by intro y;cases y)
  rw [u2]
  obtain ⟨v1,v2,v3⟩:=h.snd i hi
  exact ⟨v1.keep u1,Nat.le_trans v2 hBB,v3⟩
 ·by_cases e:i=k∧x=j
  ·obtain ⟨rfl,rfl⟩:=e
   show ∃ a b,(RefRecv w' (m.R i x) (if i=i∧x=x then v else s.newest i x) a b∧setO Of (iR i x) (Of (iR i x)) (iR i x) = [m.R i x])∧_∧(if i=i∧x=x then v else s.newest i x)≤255
   rw [if_pos ⟨rfl,rfl⟩,setO_at]
   exact ⟨a',b',⟨hS,e0⟩,hB,hv⟩
  ·show ∃ a b,(RefRecv w' (m.R i x) (if i=k∧x=j then v else s.newest i x) a b∧setO Of (iR k j) (Of (iR k j)) (iR i x) = [m.R i x])∧_∧(if i=k∧x=j then v else s.newest i x)≤255
   obtain ⟨u1,u2⟩:=t7 (iR i x) (by intro y;cases y;exact e ⟨rfl,rfl⟩)
   rw [if_neg e,u2]
   obtain ⟨a,b,⟨q,e⟩,⟨⟨r1,r2⟩,r3,r4⟩,r5⟩:=h.rcv i x hi hx
   exact ⟨a,b,⟨q.keep (e▸u1),e⟩,⟨⟨r1,by omega⟩,r3,by omega⟩,r5⟩
 ·obtain ⟨u1,u2⟩:=t7 iP (by intro y;cases y)
  obtain ⟨PX,e,hn,q⟩:=h.prt
  exact ⟨PX,by rw [u2];exact e,hn,q.keep (e▸u1)⟩
theorem RCl.prt (h:RCl w O Z C p fa cs s rd B m):∃ PX,PortsIs w PX m.pb s.ports∧m.pb∉PX∧(∀ c,c∈PX→c<w.heap.size)∧(∀ k j,(s.ports k j).length≤16) ∧
  ∀ (w':World) (PX':List Nat) (k j:Nat) (v:List ByteArray),PortsIs w' PX' m.pb (s.setPort k j v).ports→m.pb∉PX'→Foot (m.pb::PX) (m.pb::PX') w w'→(∀ c,c∈PX'→c<w'.heap.size)→v.length≤16→∃ O',Foot O O' w w'∧RCl w' O' Z C p fa cs (s.setPort k j v) rd B m:=by
 obtain ⟨Of,h⟩:=h
 obtain ⟨PX,e0,hn,q⟩:=h.prt
 refine ⟨PX,q,hn,fun c hc=>h.fam.lt iP c (by rw [e0];exact List.mem_cons_of_mem _ hc),h.pln,fun w' PX' k j v hS hn' hF hl hv=>?_⟩
 rw [← e0] at hF
 have hpb:m.pb<w'.heap.size:=Nat.lt_of_lt_of_le (h.fam.lt iP m.pb (by rw [e0];exact List.mem_cons_self)) hF.size
 obtain ⟨⟨⟨t1,t2,tr⟩,t3,tz⟩,t4,t5,ta,t6,t7⟩:=h.turn (by decide) (by decide) hF (fun c hc=>by
  rcases List.mem_cons.1 hc with rfl | y
  ·exact hpb
  ·exact hl c y)
 refine ⟨_,t1,_,t2,tr,t3,tz,t4,t5,ta,t6,fun x hx=>?_,fun i hi=>?_,fun i x hi hx=>?_,⟨PX',setO_at _ _ _,hn',hS⟩,fun i x=>?_⟩
 ·obtain ⟨u1,u2⟩:=t7 (iN x) (by intro y;cases y)
  rw [u2]
  obtain ⟨⟨v1,v2⟩,v3⟩:=h.node x hx
  exact ⟨⟨v1.keepS (v2▸u1),v2⟩,v3⟩
 ·obtain ⟨u1,u2⟩:=t7 (iS i) (by intro y;cases y)
  rw [u2]
  exact ⟨(h.snd i hi).1.keep u1,(h.snd i hi).2⟩
 ·obtain ⟨u1,u2⟩:=t7 (iR i x) (by intro y;cases y)
  rw [u2]
  obtain ⟨a,b,⟨q,e⟩,r⟩:=h.rcv i x hi hx
  exact ⟨a,b,⟨q.keep (e▸u1),e⟩,r⟩
 ·show (if i=k∧x=j then v else s.ports i x).length≤16
  split
  ·exact hv
  ·exact h.pln i x
end
def InRC (O:List Nat) (V wr:World) (Z:List Nat) (C:Nat) (p:PlanN) (fa:Int) (cs:List Int) (s:ClS) (rd:Int) (B:Nat) (m:RMap):Prop:=∃ O',Foot O O' V wr∧RCl wr O' Z C p fa cs s rd B m
section
variable {V wr:World} {O Z:List Nat} {C:Nat} {p:PlanN} {fa:Int} {cs:List Int} {s:ClS} {rd:Int} {B:Nat} {m:RMap}
theorem InRC.box (h:InRC O V wr Z C p fa cs s rd B m) {b:Nat} (hb:b<V.heap.size) (hn:b∉O) (i:Nat):wr.cell? ⟨b,i,none⟩=V.cell? ⟨b,i,none⟩:=by
 obtain ⟨_,h,_⟩:=h
 exact h.cell (p:=⟨b,i,none⟩) hb hn
theorem InRC.size (h:InRC O V wr Z C p fa cs s rd B m):V.heap.size≤wr.heap.size:=by
 obtain ⟨_,h,_⟩:=h
 exact h.size
theorem InRC.base (h:InRC O V wr Z C p fa cs s rd B m):RBase wr C p fa cs rd m:=by
 obtain ⟨_,_,h⟩:=h
 exact h.base
theorem InRC.rows (h:InRC O V wr Z C p fa cs s rd B m):RRows wr Z p m:=by
 obtain ⟨_,_,h⟩:=h
 exact h.rows
theorem InRC.below {w':World} (h:InRC O V wr Z C p fa cs s rd B m) (k:Below wr.heap.size wr w'):InRC O V w' Z C p fa cs s rd B m:=by
 obtain ⟨O',h,c⟩:=h
 exact ⟨O',h.trans (Foot.of_below k),c.below k⟩
theorem InRC.drawn (h:InRC O V wr Z C p fa cs s rd B m) (u:Nat):InRC O V (wr.drewN u) Z C p fa cs s rd B m:=h.below ⟨rfl,rfl,rfl,Nat.le_refl _,fun _ _=>rfl⟩
theorem InRC.more {B':Nat} (h:InRC O V wr Z C p fa cs s rd B m) (hB:B≤B'):InRC O V wr Z C p fa cs s rd B' m:=by
 obtain ⟨O',h,c⟩:=h
 exact ⟨O',h,c.more hB⟩
end
end
end Go.Proofs.YtooadfgibdjdeaaGreatDoor
