import Derived.Test.YtnbomhedoelklaaGreatDoorZMwTrace
import Derived.Test.YtnbomhedoelklaaGreatDoorZT7
namespace Go.Proofs.YtnbomhedoelklaaGreatDoor
set_option maxRecDepth 99999
set_option maxHeartbeats 0
open Go.Conc Go.ConcN
open Go.ConcR (KK wgBlock WgAt stA smA rd wr mk Payload Aside2 DC0 Bk)
section
variable{w w1:WA}
structure Qm where
 Y:Sy
 w0:WA
 ba:Nat
 bt:Nat
 Wg:Nat
 row:Nat
 ch:Nat
 n:Nat
 tb:Nat
 tx:Obj
 L:Nat
 tA:WI
 tC:WI
 tW:WI
 tS:WI
 tN:WI
structure Cg(q:Qm)(w:WA):Prop where
 ba:w.1[q.ba]?=some (.cells #[sL q.row q.n q.n] q.tA)
 bt:w.1[q.bt]?=some (.cells #[.chan (some q.ch)] q.tC)
 wg:WgLive q.tW q.Wg w
 row:∃cs,w.1[q.row]?=some (.cells cs q.tS)/\cs.size=q.n
 ch:∃cl s r,w.1[q.ch]?=some (.chan 0 #[] cl s r false)
 held:aRm q.Y q.w0 w
 size:q.Y.G<=w.1.size
 os:w.os=q.w0.os
 tx:w.1[q.tb]?=some q.tx
 out:w.output=q.w0.output
 tp:w.tape=q.w0.tape
structure Rg(q:Qm)(M:Nat->Prop)(w w1:WA):Prop where
 cm:Cg q w1
 size:w.1.size<=w1.1.size
 own:∀b,M b->w1.1[b]?=w.1[b]?
 bt:w1.1[q.bt]?=w.1[q.bt]?
theorem Rg.trans{q:Qm}{M:Nat->Prop}(a b c:WA)(h:Rg q M a b)(k:Rg q M b c):Rg q M a c:=⟨k.cm,kH h.size k.size,λx hx=>(k.own x hx).trans (h.own x hx),k.bt.trans h.bt⟩
theorem Rg.refl{q:Qm}{M:Nat->Prop}(h:Cg q w):Rg q M w w:=⟨h,kG _,λ_ _=>rfl,rfl⟩
def fR:Nat->Prop:=λ_=>False
def aFw(bx:Nat):Nat->Prop:=λb=>b=bx
def ErG(q:Qm)(M:Nat->Prop)(e:Event):Prop:=∃a,e=⟨.cell a,false,false⟩/\(a.block=q.ba\/a.block=q.bt\/M a.block\/a.block=q.tb)
def Dg(q:Qm)(M:Nat->Prop)(w w':WA)(es:Array Event):Prop:=(∃d,w'=w.at d)/\∀e∈es,ErG q M e
def Eq3(w w1:WA):Prop:=w1.os=w.os/\w1.output=w.output/\w1.tape=w.tape
theorem Eq3.refl(w:WA):Eq3 w w:=⟨rfl,rfl,rfl⟩
structure Sf(q:Qm)(M:Nat->Prop)(w w1:WA):Prop where
 cm:Cg q w1
 size:w.1.size<=w1.1.size
 own:∀b,M b->w1.1[b]?=w.1[b]?
 bt:w1.1[q.bt]?=w.1[q.bt]?
 ro:∀b,b<q.Y.G->w1.1[b]?=w.1[b]?
 os:w1.os=w.os
theorem Sf.rg{q:Qm}{M M':Nat->Prop}(h:Sf q M w w1)(hm:∀b,M' b->M b):Rg q M' w w1:=⟨h.cm,h.size,λb hb=>h.own b (hm b hb),h.bt⟩
theorem Cg.at{q:Qm}(h:Cg q w)(d:Nat):Cg q (w.at d):=⟨h.ba,h.bt,h.wg,h.row,h.ch,⟨h.held.k,h.held.o⟩,h.size,h.os,h.tx,h.out,h.tp⟩
theorem Sf.at{q:Qm}{M:Nat->Prop}(h:Cg q w)(d:Nat):Sf q M w (w.at d):=⟨h.at d,kG _,λ_ _=>rfl,rfl,λ_ _=>rfl,rfl⟩
structure FRG(q:Qm)(bx:Nat)(cs:Array WB)(w:WA):Prop where
 cm:Cg q w
 job:w.1[bx]?=some (.cells cs q.tN)
theorem FRG.sf{q:Qm}{bx:Nat}{cs:Array WB}{M:Nat->Prop}(h:FRG q bx cs w)(s:Sf q M w w1)(hm:M bx):FRG q bx cs w1:=⟨s.cm,(s.own bx hm).trans h.job⟩
structure Sp where
 q:Qm
 F:FuncId->Prop
 E:Nat->WK->WA->Prop
 ses:Nat->WK
 bot:WK
 Rv:WC->Prop
 msg:Nat->WB
 mc:Nat->Array WB
 z:WB
 zc:Array WB
 Told:Nat->WG->Prop
 nw:Nat
 j0:Nat
 cI:Loc->Prop
 SpH:Nat->WC->WA->Prop
 SdH:Nat->WC->WA->Prop
 W6:WC->WA->Prop
 Fin:WC->WA->Prop
 wi:WA
abbrev Sp.P(X:Sp):WJ:=X.q.Y.P
section
variable(X:Sp)
def GW(M:Nat->Prop)(Stop:WC->WA->Prop)(m:Nat)(g:WC)(w:WA):Prop:=Goes X.P false (Rg X.q M) (Dg X.q M) Stop m g w
def aNr(g:WC)(w:WA):Prop:=X.Rv g/\Cg X.q w
def aDa(k:Nat)(v:WB)(g:WC)(w:WA):Prop:=
 g.status=.running/\(Cg X.q w->∃g',stepG X.P false g w=.go g' (w.setCell (aA X.q.row k) v) #[⟨.cell (aA X.q.row k),true,false⟩]/\∀w',Cg X.q w'->GW X fR (aNr X) 8 g' w')
def aD6(bx k:Nat)(g:WC)(w:WA):Prop:=
 g.status=.running/\FRG X.q bx (X.mc k) w/\∃fr,stepG X.P false g w=.go (gr (X.ses k) (fr::[X.bot])) w #[]/\
  ∀out w',FRG X.q bx (X.mc k) w'->GW X (aFw bx) (aDa X k (sT out)) 8 (gr (fr.finish (sT out)) [X.bot]) w'
def aD8(bx k:Nat)(g:WC)(w:WA):Prop:=
 g.status=.running/\FRG X.q bx X.zc w/\∃g' w2 es,stepG X.P false g w=.go g' w2 es/\w2.1.size=w.1.size/\Eq3 w w2/\(∀b,b≠bx->w2.1[b]?=w.1[b]?)/\w2.1[bx]?=some (.cells (X.mc k) X.q.tN)/\
  (∀e∈es,∃a,e=⟨.cell a,true,false⟩/\a.block=bx)/\∀w',FRG X.q bx (X.mc k) w'->GW X (aFw bx) (aD6 X bx k) 12 g' w'
def aD9(k:Nat)(g:WC)(w:WA):Prop:=
 g.status=.running/\Cg X.q w/\∃g',stepG X.P false g w=.go g' (w.alloc (.cells X.zc X.q.tN)) #[]/\∀w',FRG X.q w.1.size X.zc w'->GW X (aFw w.1.size) (aD8 X w.1.size k) 1 g' w'
abbrev pay:Payload:=⟨X.q.tC⟩
def R0G:WC->WA->Prop:=@Go.ConcN.AtR0 (pay X) X.P X.q.tW X.q.Wg X.q.bt 1 0 1 (.chan (some X.q.ch))
abbrev RWq:WA->WA->Prop:=@RW (pay X) X.q.tW X.q.Wg X.q.bt 1 0 0
def GL(Stop:WC->WA->Prop)(m:Nat)(g:WC)(w:WA):Prop:=Goes X.P false (RWq X) DC0 Stop m g w
abbrev K1:=@Go.ConcN.AtK1 (pay X) X.P X.q.tW X.q.Wg X.q.bt 1 0 1
abbrev D1:=@Go.ConcN.AtD1 (pay X) X.P X.q.tW X.q.Wg X.q.bt 1 0 1
abbrev D2:=@Go.ConcN.AtD2 (pay X) X.P X.q.tW X.q.Wg X.q.bt 1 0 1
abbrev D3:=@Go.ConcN.AtD3 (pay X) X.P X.q.tW X.q.Wg X.q.bt 1 0 1
abbrev D4:=AtD4 X.P X.q.tW X.q.Wg
def waits(g:WC):WC:=parked g #[rcase X.q.ch X.z] (.recv true)
structure gP where
 stage:Nat
 fuel:Nat
 deaf:Nat
 own:Nat->Prop
 job:Option Nat
 ls:WL X.P
def bDp(k:Nat)(own:Nat->Prop)(ls:WL X.P)(g:WC)(w:WA):Prop:=
 ∃bx ρ fr,own bx/\zP X.q.Y X.F (X.E k) (fr::[X.bot]) ls.1 ρ g w/\(∀c,X.q.Y.G<=c->bx<ρ c)/\(∀c,X.q.Y.G<=c->c<ls.1.2.2.1.size->own (ρ c))/\FRG X.q bx (X.mc k) w/\
  ∀out w',FRG X.q bx (X.mc k) w'->GW X (aFw bx) (aDa X k (sT out)) 8 (gr (fr.finish (sT out)) [X.bot]) w'
def AtRecv(m:Nat)(g:WC)(w:WA):Prop:=
 (∃m',m=m'+1/\GW X fR (aNr X) m' g w)\/(∃g0,X.Rv g0/\((m=0/\g=waits X g0)\/(m=1/\g={ waits X g0 with status:=.running })))
def WS(d:gP X)(g:WC)(w:WA):Prop:=
 (d.stage=14/\d.deaf=0/\∃k,d.job=some k/\k<X.q.n/\GW X fR (aD9 X k) d.fuel g w)\/
 (d.stage=13/\d.deaf=0/\∃k bx,d.job=some k/\k<X.q.n/\d.own bx/\GW X (aFw bx) (aD8 X bx k) d.fuel g w)\/
 (d.stage=12/\d.deaf=0/\∃k bx,d.job=some k/\k<X.q.n/\d.own bx/\GW X (aFw bx) (aD6 X bx k) d.fuel g w)\/
 (d.stage=11/\d.deaf=0/\d.fuel=0/\∃k,d.job=some k/\k<X.q.n/\bDp X k d.own d.ls g w)\/
 (d.stage=10/\d.deaf=0/\∃k bx out,d.job=some k/\k<X.q.n/\d.own bx/\X.Told k out/\GW X (aFw bx) (aDa X k (sT out)) d.fuel g w)\/
 (d.stage=8/\d.deaf=0/\d.job=none/\AtRecv X d.fuel g w)\/
 (d.stage=7/\d.deaf=0/\d.job=none/\GW X fR (R0G X) d.fuel g w)\/
 (d.stage=6/\d.deaf=0/\d.job=none/\GL X (K1 X) d.fuel g w)\/
 (d.stage=5/\d.deaf=1/\d.job=none/\GL X (D1 X) d.fuel g w)\/
 (d.stage=4/\d.deaf=1/\d.job=none/\GL X (D2 X) d.fuel g w)\/
 (d.stage=3/\d.deaf=1/\d.job=none/\GL X (D3 X) d.fuel g w)\/
 (d.stage=2/\d.deaf=1/\d.job=none/\GL X (D4 X) d.fuel g w)\/
 (d.stage=1/\d.job=none/\QuitsD X.P d.fuel d.deaf g)
def lK(Stop:WC->WA->Prop)(m:Nat)(g:WC)(w:WA):Prop:=Goes X.P true (Rg X.q fR) (Dg X.q fR) Stop m g w
def uW(e:Event)(Next:WC->WA->Prop)(g:WC)(w:WA):Prop:=g.status=.running/\∃g',stepG X.P true g w=.go g' w #[e]/\∃m,lK X Next m g' w
def aM4(j:Nat)(g:WC)(w:WA):Prop:=g.status=.running/\∃g' child,stepG X.P true g w=.spawn g' child w #[]/\(∀w',Cg X.q w'->∃m,GW X fR (aNr X) m child w')/\∃m,lK X (X.SpH (j+1)) m g' w
def aFq(j:Nat):WC->WA->Prop:=uW X (mk .enable) (aM4 X j)
def T0(j:Nat)(g:WC)(w:WA):Prop:=uW X ⟨.mark (.read (aA X.q.Wg 1)),false,true⟩ (aFq X j) g w\/aFq X j g w
def aIz(j:Nat)(g:WC)(w:WA):Prop:=
 g.status=.running/\∀v:Nat,v<2147483647->WgAt X.q.tW X.q.Wg w (v*KK) 0->
  ∃g',stepG X.P true g w=.go g' (w.setCell (stA X.q.Wg) (.int .u64 ((v+1)*KK))) #[rd (stA X.q.Wg),wr (stA X.q.Wg)]/\(Cg X.q (w.setCell (stA X.q.Wg) (.int .u64 ((v+1)*KK)))->∃m,lK X (T0 X j) m g' (w.setCell (stA X.q.Wg) (.int .u64 ((v+1)*KK))))
def aD7(j:Nat):WC->WA->Prop:=uW X (mk .disable) (aIz X j)
def zL(i:Nat)(g:WC)(w:WA):Prop:=
 g.status=.running/\∃z,stepG X.P true g w=.comm g #[scase X.q.ch (X.msg i) z] true .send w #[]/\∀w',Rg X.q fR w w'->∃m,lK X (X.SdH (i+1)) m (Go.Conc.served g undef) w'
def sends(i:Nat)(z:WB)(g:WC):WC:=parked g #[scase X.q.ch (X.msg i) z] .send
def aIy:WC->WA->Prop:=uW X (mk (.acquire (stA X.q.Wg))) X.Fin
def aFr:WC->WA->Prop:=uW X (mk .enable) (aIy X)
def aM7(g:WC)(w:WA):Prop:=g.status=.running/\(WgAt X.q.tW X.q.Wg w 0 0->∃g',stepG X.P true g w=.go g' w #[rd (stA X.q.Wg)]/\∃m,lK X (aFr X) m g' w)
def aBz(g:WC)(w:WA):Prop:=g.status=.running/\g.offers=none/\
 ((∃st,WgAt X.q.tW X.q.Wg w st 0)->stepG X.P true g w=.go { g with status:=.blocked } w #[])/\
 (WgAt X.q.tW X.q.Wg w 0 1->∃g',stepG X.P true g w=.go g' (w.setCell (smA X.q.Wg) (.int .u32 0)) (semEvents (smA X.q.Wg))/\(Cg X.q (w.setCell (smA X.q.Wg) (.int .u32 0))->∃m,lK X (aM7 X) m g' (w.setCell (smA X.q.Wg) (.int .u32 0))))
def aRi:WC->WA->Prop:=uW X ⟨.mark (.write (aA X.q.Wg 1)),false,true⟩ (aBz X)
def aM6(vs:Nat)(g:WC)(w:WA):Prop:=g.status=.running/\∀v:Nat,v<2147483648->WgAt X.q.tW X.q.Wg w (v*KK) 0->
 (v=vs->∃g',stepG X.P true g w=.go g' (w.setCell (stA X.q.Wg) (.int .u64 (v*KK+1))) #[rd (stA X.q.Wg),wr (stA X.q.Wg)]/\(Cg X.q (w.setCell (stA X.q.Wg) (.int .u64 (v*KK+1)))->∃m,lK X (aRi X) m g' (w.setCell (stA X.q.Wg) (.int .u64 (v*KK+1)))))/\
 (v≠vs->∃g',stepG X.P true g w=.go g' w #[rd (stA X.q.Wg)]/\∃m,lK X X.W6 m g' w)
def aFs(g:WC)(w:WA):Prop:=g.status=.running/\∀v:Nat,v<2147483648->WgAt X.q.tW X.q.Wg w (v*KK) 0->∃g',stepG X.P true g w=.go g' w #[rd (stA X.q.Wg)]/\
 (v=0->∃m,lK X (aFr X) m g' w)/\(v≠0->∃m,lK X (aM6 X v) m g' w)
def aM5:WC->WA->Prop:=uW X (mk .disable) X.W6
def zK(g:WC)(w:WA):Prop:=
 g.status=.running/\mayWake X.P g=true/\∀s r,w.1[X.q.ch]?=some (.chan 0 #[] false s r false)->
  ∃g',g'.status=.running/\stepG X.P true g w=.go g' (w.setChan X.q.ch 0 #[] true s r false) #[⟨.obj X.q.ch,false,true⟩,⟨.obj X.q.ch,true,true⟩]/\(Rg X.q fR w (w.setChan X.q.ch 0 #[] true s r false)->∃m,lK X (aM5 X) m g' (w.setChan X.q.ch 0 #[] true s r false))
end
end
section
variable{b m:Nat}
structure Geo(X:Sp):Prop where
 gba:X.q.Y.G<=X.q.ba
 gbt:X.q.Y.G<=X.q.bt
 gWg:X.q.Y.G<=X.q.Wg
 grow:X.q.Y.G<=X.q.row
 gch:X.q.Y.G<=X.q.ch
 lba:X.q.ba<X.q.L
 lbt:X.q.bt<X.q.L
 lWg:X.q.Wg<X.q.L
 aKd:X.q.row<X.q.L
 lch:X.q.ch<X.q.L
 Wba:X.q.Wg≠X.q.ba
 Wbt:X.q.Wg≠X.q.bt
 aJ8:X.q.Wg≠X.q.row
 Wch:X.q.Wg≠X.q.ch
 rba:X.q.row≠X.q.ba
 rbt:X.q.row≠X.q.bt
 rch:X.q.row≠X.q.ch
 cba:X.q.ch≠X.q.ba
 cbt:X.q.ch≠X.q.bt
 gtb:X.q.tb<X.q.Y.G
 ktb:¬X.q.Y.K X.q.tb
 fz:aWf X.q.Y X.q.w0
 aIj:∀l,X.cI l->∃a:WT,l=.cell a/\a.block<X.q.Y.G/\¬X.q.Y.K a.block/\a.block≠X.q.tb
def Mk(b:Nat)(w w':WA):Prop:=w'.1[b]?=w.1[b]?
structure Tn(X:Sp)(M:Nat->Prop)(c:Option Nat)(w w':WA):Prop where
 size:w.1.size<=w'.1.size
 out:∀b,b<w.1.size->¬M b->b≠X.q.Wg->b≠X.q.row->b≠X.q.ch->Mk b w w'
 os:Eq3 w w'
 cm:Cg X.q w'
 row:∀k,some k≠c->w'.cell? (aA X.q.row k)=w.cell? (aA X.q.row k)
section
variable{X:Sp}{M M':Nat->Prop}{c:Option Nat}{w w':WA}
theorem lt_of_heap{w:WA}{o:Obj}(h:w.1[b]?=some o):b<w.1.size:=(kZ h).1
theorem Tn.of(G:Geo X)(h:Cg X.q w)(hM:∀b,M b->X.q.L<=b)(size:w.1.size<=w'.1.size)(out:∀b,b<w.1.size->¬M b->b≠X.q.Wg->b≠X.q.row->b≠X.q.ch->Mk b w w')(os:Eq3 w w')
  (wg:WgLive X.q.tW X.q.Wg w')(rw1:∃cs,w'.1[X.q.row]?=some (.cells cs X.q.tS)/\cs.size=X.q.n)(hch:∃cl s r,w'.1[X.q.ch]?=some (.chan 0 #[] cl s r false))(row:∀k,some k≠c->w'.cell? (aA X.q.row k)=w.cell? (aA X.q.row k)):Tn X M c w w':=by
 have nM:∀b,b<X.q.L->¬M b:=λb hb hm=>by have:=hM b hm;omega
 refine⟨size,out,os,⟨?_,?_,wg,rw1,hch,?_,kH h.size size,os.1.trans h.os,?_,os.2.1.trans h.out,os.2.2.trans h.tp⟩,row⟩
 .exact(out X.q.ba (lt_of_heap h.ba) (nM _ G.lba) G.Wba.symm G.rba.symm G.cba.symm).trans h.ba
 .exact(out X.q.bt (lt_of_heap h.bt) (nM _ G.lbt) G.Wbt.symm G.rbt.symm G.cbt.symm).trans h.bt
 .have g1:=G.gba;have g2:=G.lba;have g3:=G.gWg;have g4:=G.grow;have g5:=G.gch;refine⟨λb hb hk=>?_,λb ho=>?_⟩
  .obtain⟨c1,e,hi,f,k1,k2,k3⟩:=h.held.k b hb hk;have lt:=lt_of_heap k2;exact⟨c1,e,hi,f,k1,(out b lt (nM b od) od od od).trans k2,k3⟩
  .obtain⟨c1,e,c0,e0,k1,k2,k3⟩:=h.held.o b ho;have lt:=lt_of_heap k2;have hb:=(G.fz.pend b ho).1;exact⟨c1,e,c0,e0,k1,(out b lt (nM b od) od od od).trans k2,k3⟩
 .have g1:=G.gtb;have g2:=G.gWg;have g3:=G.grow;have g4:=G.gch;have g5:=G.lWg;exact(out X.q.tb (lt_of_heap h.tx) (nM _ od) od od od).trans h.tx
theorem Tn.sf(G:Geo X)(h:Tn X M c w w')(hc:Cg X.q w)(hM:∀b,M b->X.q.L<=b)(hM':∀b,M' b->X.q.L<=b/\b<w.1.size)(hd:∀b,M b->¬M' b):Sf X.q M' w w':=by
 have g1:=G.gba;have g2:=G.lba;have g3:=G.gWg;have g4:=G.grow;have g5:=G.gch;have l1:=G.lWg;have l2:=G.aKd;have l3:=G.lch;refine⟨h.cm,h.size,λb hb=>?_,?_,λb hb=>?_,h.os.1⟩
 .obtain⟨p1,p2⟩:=hM' b hb;exact h.out b p2 (λx=>hd b x hb) od od od
 .exact h.out X.q.bt (lt_of_heap hc.bt) (λx=>by have:=hM _ x;have:=G.lbt;omega) G.Wbt.symm G.rbt.symm G.cbt.symm
 .rcases jB b w.1.size with hlt|hge
  .exact h.out b hlt (λx=>by have:=hM _ x;omega) od od od
  .have:=hc.size;omega
theorem Tn.at(G:Geo X)(h:Cg X.q w)(hM:∀b,M b->X.q.L<=b)(d:Nat):Tn X M none w (w.at d):=.of G h hM (kG _) (λ_ _ _ _ _ _=>rfl) ⟨rfl,rfl,rfl⟩ h.wg h.row h.ch (λ_ _=>rfl)
theorem Tn.refl(G:Geo X)(h:Cg X.q w)(hM:∀b,M b->X.q.L<=b):Tn X M none w w:=.of G h hM (kG _) (λ_ _ _ _ _ _=>rfl) ⟨rfl,rfl,rfl⟩ h.wg h.row h.ch (λ_ _=>rfl)
theorem F6{w w':WA}(e:w'.1[b]?=w.1[b]?)(o:Nat):w'.cell? (aA b o)=w.cell? (aA b o):=by simp[World.cell?,e]
theorem Tn.wg(G:Geo X)(h:Cg X.q w)(hM:∀b,M b->X.q.L<=b)(a:Conc.Aside X.q.Wg w w')(hl:WgLive X.q.tW X.q.Wg w'):Tn X M none w w':=by obtain⟨cs,h1,h2⟩:=h.row;obtain⟨cl,s,r,h3⟩:=h.ch;exact .of G h hM (by rw[a.size];exact kG _) (λb _ _ hb _ _=>a.block b hb) ⟨a.os,a.output,a.tape⟩ hl ⟨cs,(a.block _ G.aJ8.symm).trans h1,h2⟩ ⟨cl,s,r,(a.block _ G.Wch.symm).trans h3⟩ (λk _=>F6 (a.block _ G.aJ8.symm) k)
theorem Tn.ch(G:Geo X)(h:Cg X.q w)(hM:∀b,M b->X.q.L<=b)(hs:w'.1.size=w.1.size)(ho:Eq3 w w')(hb:∀b,b≠X.q.ch->w'.1[b]?=w.1[b]?)(hch:∃cl s r,w'.1[X.q.ch]?=some (.chan 0 #[] cl s r false)):Tn X M none w w':=by obtain⟨cs,h1,h2⟩:=h.row;obtain⟨st,sm,hl⟩:=h.wg;exact .of G h hM (by rw[hs];exact kG _) (λb _ _ _ _ hc=>hb b hc) ho ⟨st,sm,hl.of_block (hb _ G.Wch)⟩ ⟨cs,(hb _ G.rch).trans h1,h2⟩ hch (λk _=>F6 (hb _ G.rch) k)
theorem Tn.own(G:Geo X)(h:Cg X.q w)(hM:∀b,M b->X.q.L<=b)(hs:w.1.size<=w'.1.size)(ho:Eq3 w w')(hb:∀b,b<w.1.size->¬M b->Mk b w w'):Tn X M none w w':=by
 have nM:∀b,b<X.q.L->¬M b:=λb hb hm=>by have:=hM b hm;omega
 obtain⟨cs,h1,h2⟩:=h.row;obtain⟨cl,s,r,h3⟩:=h.ch;obtain⟨st,sm,hl⟩:=h.wg;have e1:=hb X.q.row (lt_of_heap h1) (nM _ G.aKd);have e2:=hb X.q.ch (lt_of_heap h3) (nM _ G.lch);have e3:=hb X.q.Wg (lt_of_heap hl) (nM _ G.lWg);exact .of G h hM hs (λb cV hm _ _ _=>hb b cV hm) ho ⟨st,sm,hl.of_block e3⟩ ⟨cs,e1.trans h1,h2⟩ ⟨cl,s,r,e2.trans h3⟩ (λk _=>F6 e1 k)
theorem Tn.cell(G:Geo X)(h:Cg X.q w)(hM:∀b,M b->X.q.L<=b)(k:Nat)(v:WB):Tn X M (some k) w (w.setCell (aA X.q.row k) v):=by obtain⟨cs,h1,h2⟩:=h.row;obtain⟨cl,s,r,h3⟩:=h.ch;obtain⟨st,sm,hl⟩:=h.wg;have a:=aside_setCell w (aA X.q.row k) v;have hb:∀b,b≠X.q.row->(w.setCell (aA X.q.row k) v).1[b]?=w.1[b]?:=λb hb=>a.block b hb;have e1:(w.setCell (aA X.q.row k) v).1[X.q.row]?=some (.cells (cs.setIfInBounds k v) X.q.tS):=ju;refine .of G h hM (by rw[a.size];exact kG _) (λb _ _ _ hr _=>hb b hr) ⟨a.os,a.output,a.tape⟩ ⟨st,sm,hl.of_block (hb _ G.aJ8)⟩ ⟨_,e1,by simpa using h2⟩ ⟨cl,s,r,(hb _ G.rch.symm).trans h3⟩ (λk' hk=>?_);have:k≠k':=λe=>hk (by rw[e]);simp[World.cell?,e1,h1,AN this]
theorem aO2(h:Cg X.q w){k:Nat}(hk:k<X.q.n)(v:WB):(w.setCell (aA X.q.row k) v).cell? (aA X.q.row k)=some v:=by obtain⟨cs,h1,h2⟩:=h.row;have e1:(w.setCell (aA X.q.row k) v).1[X.q.row]?=some (.cells (cs.setIfInBounds k v) X.q.tS):=ju;simp[World.cell?,e1,h2,hk]
end
section
variable{X:Sp}{d:gP X}{g:WC}{w w':WA}
theorem Sf.rw{M:Nat->Prop}(s:Sf X.q M w w'):RWq X w w':=by refine @RW.mk (pay X) _ _ _ _ _ _ _ _ (λb hb=>absurd hb od) (λ_=>s.cm.wg) (λ_=>⟨_,s.cm.bt,rfl⟩) ?_;simp only[World.cell?,s.bt]
theorem RWq.trans(a b c:WA)(h:RWq X a b)(k:RWq X b c):RWq X a c:=@RW.trans (pay X) _ _ _ _ _ _ _ _ _ h k
theorem GW.sf{M M':Nat->Prop}{Stop:WC->WA->Prop}(h:GW X M Stop m g w)(s:Sf X.q M' w w')(hm:∀b,M b->M' b):GW X M Stop m g w':=Goes.rely Rg.trans h (s.rg hm)
theorem GL.sf{M':Nat->Prop}{Stop:WC->WA->Prop}(h:GL X Stop m g w)(s:Sf X.q M' w w'):GL X Stop m g w':=Goes.rely RWq.trans h s.rw
theorem noB{M:Nat->Prop}:∀b,fR b->M b:=λ_ h=>h.elim
theorem onB{M:Nat->Prop}{bx:Nat}(h:M bx):∀b,aFw bx b->M b:=λ_ e=>e▸h
theorem WS.rely(h:WS X d g w)(s:Sf X.q d.own w w'):WS X d g w':=by
 rcases h with⟨h1,h2,k,h3,h4,h⟩|⟨h1,h2,k,bx,h3,h4,h5,h⟩|⟨h1,h2,k,bx,h3,h4,h5,h⟩|⟨h1,h2,h3,k,h4,h5,bx,ρ,fr,h6,h7,h8,h9,h10,h11⟩|⟨h1,h2,k,bx,out,h3,h4,h5,h6,h⟩|⟨h1,h2,h3,h⟩|⟨h1,h2,h3,h⟩|⟨h1,h2,h3,h⟩|⟨h1,h2,h3,h⟩|⟨h1,h2,h3,h⟩|⟨h1,h2,h3,h⟩|⟨h1,h2,h3,h⟩|h
 .exact .inl ⟨h1,h2,k,h3,h4,h.sf s noB⟩
 .exact .inr (.inl ⟨h1,h2,k,bx,h3,h4,h5,h.sf s (onB h5)⟩)
 .exact .inr (.inr (.inl ⟨h1,h2,k,bx,h3,h4,h5,h.sf s (onB h5)⟩))
 .refine dA3 ⟨h1,h2,h3,k,h4,h5,bx,rC ρ d.ls.1.2.2.1.size w'.1.size,fr,h6,h7.others ⟨s.size,λc hc hl=>s.own _ (h9 c hc hl),λb hb=>s.ro b hb,s.os⟩,λc hc=>?_,λc hc hl=>?_,h10.sf s h6,h11⟩
  .unfold rC;split
   .exact h8 c hc
   .have:=lt_of_heap h10.job;have:=s.size;omega
  .unfold rC;rw[kK hl];exact h9 c hc hl
 .exact dA4 ⟨h1,h2,k,bx,out,h3,h4,h5,h6,h.sf s (onB h5)⟩
 .refine dA5 ⟨h1,h2,h3,?_⟩;rcases h with⟨m',e,h⟩|h
  .exact .inl ⟨m',e,h.sf s noB⟩
  .exact .inr h
 .exact dA6 ⟨h1,h2,h3,h.sf s noB⟩
 .exact dA7 ⟨h1,h2,h3,h.sf s⟩
 .exact dA8 ⟨h1,h2,h3,h.sf s⟩
 .exact rA8 (.inr (.inl ⟨h1,h2,h3,h.sf s⟩))
 .exact rA8 (.inr (.inr (.inl ⟨h1,h2,h3,h.sf s⟩)))
 .exact rA8 (dA3 ⟨h1,h2,h3,h.sf s⟩)
 .exact rA8 (rA3 (.inr h))
theorem GW.running{M:Nat->Prop}{Stop:WC->WA->Prop}(hc:Cg X.q w)(fM:∀g w,Stop g w->g.status=.running)(h:GW X M Stop m g w):g.status=.running:=Goes.running fM w (Rg.refl hc) h
theorem GL.running{Stop:WC->WA->Prop}(fM:∀g w,Stop g w->g.status=.running)(h:GL X Stop m g w):g.status=.running:=Goes.running fM w (@RW.refl (pay X) _ _ _ _ _ _ _) h
theorem WS.status(hrv:∀g,X.Rv g->g.status=.running)(hc:Cg X.q w)(h:WS X d g w):(g.status=.running/\(d.stage=8->d.fuel≠0))\/(d.stage=8/\d.fuel=0/\∃g0,X.Rv g0/\g=waits X g0)\/(d.stage=1/\g.status=.finished):=by
 rcases h with⟨h1,h2,k,h3,h4,h⟩|⟨h1,h2,k,bx,h3,h4,h5,h⟩|⟨h1,h2,k,bx,h3,h4,h5,h⟩|⟨h1,h2,h3,k,h4,h5,bx,ρ,fr,h6,h7,h8,h9,h10,h11⟩|⟨h1,h2,k,bx,out,h3,h4,h5,h6,h⟩|⟨h1,h2,h3,h⟩|⟨h1,h2,h3,h⟩|⟨h1,h2,h3,h⟩|⟨h1,h2,h3,h⟩|⟨h1,h2,h3,h⟩|⟨h1,h2,h3,h⟩|⟨h1,h2,h3,h⟩|⟨h1,h2,h⟩
 .exact zCg
 .exact zCg
 .exact zCg
 .exact .inl ⟨by rw[h7.1.eq];rfl,od⟩
 .exact zCg
 .rcases h with⟨m',e,h⟩|⟨g0,hr,⟨e,rfl⟩|⟨e,rfl⟩⟩
  .exact .inl ⟨h.running hc λ_ _ x=>hrv _ x.1,od⟩
  .exact .inr (.inl ⟨h1,e,g0,hr,rfl⟩)
  .exact .inl ⟨rfl,od⟩
 .exact zCg
 .exact zCm
 .exact zCm
 .exact zCm
 .exact zCm
 .exact zCm
 .rcases h.status with e|e
  .exact .inl ⟨e,od⟩
  .exact .inr (.inr ⟨h1,e⟩)
theorem WS.woken(hrv:∀g,X.Rv g->g.status=.running)(hc:Cg X.q w)(h:WS X d g w){v:WA}(cK:d.stage=8->d.fuel=0->∃s r,v.1[X.q.ch]?=some (.chan 0 #[] false s r false))(a a':WC):woken X.P a a' v g=g:=by
 rcases h.status hrv hc with⟨e,_⟩|⟨e1,e2,g0,_,rfl⟩|⟨_,e⟩
 .unfold Go.Conc.woken;split
  .exact again_running _ (.inl e)
  .rfl
 .obtain⟨s,r,ho⟩:=cK e1 e2;exact woken_recv_open a a' ho
 .unfold Go.Conc.woken;split
  .exact again_running _ (.inr e)
  .rfl
end
end
