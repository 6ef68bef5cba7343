import Derived.Test.YtnbomhedoelklaaGreatDoorZT14
namespace Go.Proofs.YtnbomhedoelklaaGreatDoor
set_option maxRecDepth 99999
set_option maxHeartbeats 0
open Go.Conc Go.ConcN
open Go.ConcR (KK wgBlock WgAt stA smA rd wr mk Payload Aside2 DC0 Bk g_of_ofEvents ofEvent_loc_mark ofEvent_cell ofEvent_mk)
section
section
variable(X:Sp)
def RdL(l:Loc):Prop:=∃a:WT,l=.cell a/\(a.block=X.q.ba\/a.block=X.q.bt\/a.block=X.q.tb\/(a.block<X.q.Y.G/\X.q.Y.K a.block))
def D6(j aI:Nat)(AE:WN)(own:Nat->Nat->Prop)(kk:Nat)(l:Loc):Prop:=
 ∃i,i<j/\kk=X.j0+1+i/\((∃a:WT,l=.cell a/\own i a.block)\/(∃r,l=.obj r/\own i r)\/∃k,k<aI/\AE k=i/\l=.cell (aA X.q.row k))
def EvO(M:Nat->Prop)(c:Option Nat)(e:Event):Prop:=
 ErG X.q M e\/(∃a wr,e=⟨.cell a,wr,false⟩/\M a.block)\/(∃r wr,e=⟨.obj r,wr,false⟩/\M r)\/(∃a:WT,e=⟨.cell a,false,false⟩/\a.block<X.q.Y.G/\X.q.Y.K a.block)\/
 (∃k,c=some k/\e=⟨.cell (aA X.q.row k),true,false⟩)\/Bk X.q.Wg e\/e=mk (.releaseMerge (stA X.q.Wg))\/e.mute=true\/e.loc=.output\/(∃f,e.loc=.mark (.extern f))\/e.loc=.mark .noRoom
end
section
variable{X:Sp}{j aI:Nat}{AE:WN}{own:Nat->Nat->Prop}{B:Nat}
theorem bDx(G:Geo X)(ho:∀i,i<j->∀b,own i b->X.q.L<=b)(hd:∀i i',i<j->i'<j->i≠i'->∀b,own i b->¬own i' b):Ap X.cI (ShN X.q.Wg) (RdL X) (D6 X j aI AE own):=by
 have g1:=G.gba;have g2:=G.gbt;have g3:=G.gWg;have g4:=G.grow;have l0:=G.lba;have l1:=G.lbt;have l2:=G.lWg;have l3:=G.aKd;have g5:=G.gtb;have n1:=G.Wba;have n2:=G.Wbt;have n3:=G.aJ8;have n4:=G.rba;have n5:=G.rbt;refine⟨?_,?_,?_,?_,?_,?_,?_,?_⟩
 .rintro k k' l ⟨i,hi,rfl,h⟩ ⟨i',dN,rfl,h'⟩;by_cases e:i=i'
  .rw[e]
  exfalso;rcases h with⟨a,rfl,h⟩|⟨r,rfl,h⟩|⟨x,hx,hw,rfl⟩<;>rcases h' with⟨a',e',h'⟩|⟨r',e',h'⟩|⟨x',i7,hw',e'⟩<;>cases e'
  .exact hd i i' hi dN e _ h h'
  .have:=ho i hi _ h;simp only at this;omega
  .exact hd i i' hi dN e _ h h'
  .have:=ho i' dN _ h';simp only at this;omega
  .exact e (hw.symm.trans hw')
 .exact zIf
 .have m84:=0;exact zIf
 .rintro k l ⟨i,hi,rfl,h⟩;rcases h with⟨a,rfl,h⟩|⟨r,rfl,h⟩|⟨x,hx,hw,rfl⟩<;>rfl
 .rintro l ⟨a,rfl,h⟩ ⟨a0,e0,h0⟩;cases e0;omega
 .rintro l ⟨a,rfl,h⟩;rfl
 .rintro l ⟨a,rfl,h⟩ hs;obtain⟨a',e,h1,h2,h3⟩:=G.aIj _ hs;cases e;rcases h with h|h|h|h
  .omega
  .omega
  .exact h3 h
  .exact h2 h.2
 .rintro l ⟨a,rfl,h⟩;rfl
theorem vX(r:Nat)(wr:Bool):MemAct.ofEvent ⟨.obj r,wr,false⟩=.access ⟨.obj r,wr,false⟩:=by cases wr<;>rfl
theorem bB2(G:Geo X){i:Nat}(hi:i<j){M:Nat->Prop}(hM:∀b,M b->own i b/\b<B)(hB:X.q.L<=B){c:Option Nat}(hc:∀k,c=some k->k<aI/\AE k=i){e:Event}(h:EvO X M c e)(fn:FuncId)(pos:String):
  OkK (ShN X.q.Wg) (RdL X) (D6 X j aI AE own) (X.j0+1+i) { g:=X.j0+1+i,fn,pos,act:=.ofEvent e }/\(MemAct.ofEvent e).low B/\e.loc≠.mark (.release (stA X.q.Wg)):=by
 have l0:=G.lba;have l1:=G.lbt;have l2:=G.lWg;have l3:=G.aKd;have g5:=G.gtb;have g6:=G.gba;rcases h with⟨a,rfl,ha⟩|⟨a,wr,rfl,ha⟩|⟨r,wr,rfl,hr⟩|⟨a,rfl,h1,h2⟩|⟨k,hk,rfl⟩|hb|rfl|hm|ho|⟨f,hf⟩|hn
 .exact zMa
 .exact zJq
 .refine⟨⟨rfl,λx hx=>?_⟩,?_,oe⟩
  .simp only[vX,MemAct.touch?,AI]at hx;subst hx;exact .inr (.inl ⟨⟨i,hi,rfl,.inr (.inl ⟨r,rfl,(hM _ hr).1⟩)⟩,rfl⟩)
  .rw[vX];exact(hM _ hr).2
 .exact zLf
 .have bGc:=0;exact zJq
 .rcases hb with h1|h1|⟨a,wr,rfl,ha⟩
  .exact zDw
  .exact zDw
  .have bK5:=0;exact zLf
 .refine⟨⟨rfl,λx hx=>by cases hx⟩,?_,jl⟩;show X.q.Wg<B;omega
 .refine⟨⟨rfl,λx hx=>by simp only[touch_mute hm]at hx;cases hx⟩,low_mute hm B,λhl=>?_⟩;obtain⟨loc,w,s⟩:=e;simp only at hl;subst hl;simp[Event.mute]at hm
 .have bGg:=0;exact zJ0
 .rw[ofEvent_loc_mark hf];exact⟨⟨rfl,λx hx=>by cases hx⟩,trivial,by rw[hf];simp⟩
 .rw[ofEvent_loc_mark hn];exact⟨⟨rfl,λx hx=>by cases hx⟩,trivial,by rw[hn];simp⟩
theorem Mk.trans{b:Nat}{u v w:WA}(h:Mk b u v)(k:Mk b v w):Mk b u w:=Eq.trans k h
structure Com(X:Sp)(j aI:Nat)(AE:WN)(gs:Array WC)(w:WA)(t:WO)(D:Nat->gP X)(qf:WN)(d0:Nat)(cl:Bool):Prop where
 size:gs.size=X.j0+1+j
 wk:∀i,i<j->∃g,gs[X.j0+1+i]?=some g/\WS X (D i) g w
 old:∀i g,0<i->i<=X.j0->gs[i]?=some g->QuitsD X.P (qf i) (Deaf t i) g
 ti:TI X.cI (ShN X.q.Wg) (RdL X) (D6 X j aI AE λi=>(D i).own) X.j0 (X.j0+j) w.1.size t
 norel:NoRelease (stA X.q.Wg) t
 deaf0:Deaf t 0=d0
 deafW:∀i,i<j->Deaf t (X.j0+1+i)=(D i).deaf
 rel:∀i,i<j->(D i).stage<=6->∃r,RelBy (stA X.q.Wg) t (X.j0+1+i) r
 cm:Cg X.q w
 lo:X.q.L<=w.1.size
 own:∀i,i<j->∀b,(D i).own b->X.q.L<=b/\b<w.1.size
 dis:∀i i',i<j->i'<j->i≠i'->∀b,(D i).own b->¬(D i').own b
 job:∀i k,i<j->(D i).job=some k->k<aI/\AE k=i
 row:∀k,k<X.q.n->(aI<=k/\∀i a,touchAt t i=some a->a.loc≠.cell (aA X.q.row k))\/(k<aI/\AE k<j/\((D (AE k)).job=some k\/∃out,X.Told k out/\w.cell? (aA X.q.row k)=some (sT out)))
 aI:aI<=X.q.n
 chs:∃s r,w.1[X.q.ch]?=some (.chan 0 #[] cl s r false)
 lv:∀i,i<j->(D i).stage<=7->cl=true
 pk:∀i,i<j->(D i).stage=8->(D i).fuel=0->cl=false
 kp:∀b,b<X.q.L->b≠X.q.Wg->b≠X.q.row->b≠X.q.ch->Mk b X.wi w
end
end
section
variable{B i j0 jj:Nat}
section
variable{X:Sp}{j aI:Nat}{AE:WN}{gs:Array WC}{w w':WA}{t:WO}{D:Nat->gP X}{qf:WN}{d0:Nat}{cl:Bool}
theorem D6.mono{own aQ5:Nat->Nat->Prop}{yB:Nat}{aFo:WN}{j':Nat}(hj:j<=j')(h:∀i,i<j->∀b,own i b->aQ5 i b)(hs:∀k,k<aI->k<yB/\aFo k=AE k){kk:Nat}{l:Loc}(x:D6 X j aI AE own kk l):D6 X j' yB aFo aQ5 kk l:=by
 obtain⟨i,hi,rfl,⟨a,rfl,ha⟩|⟨r,rfl,ha⟩|⟨k,hk,hw,rfl⟩⟩:=x
 .exact⟨i,od,rfl,.inl ⟨a,rfl,h i hi _ ha⟩⟩
 .exact⟨i,od,rfl,.inr (.inl ⟨r,rfl,h i hi _ ha⟩)⟩
 .exact⟨i,od,rfl,.inr (.inr ⟨k,(hs k hk).1,(hs k hk).2.trans hw,rfl⟩)⟩
theorem aJz{Sh Rd:Loc->Prop}{O:Nat->Loc->Prop}(h:TI X.cI Sh Rd O j0 jj B t){a:WT}(ha:B<=a.block):∀i x,touchAt t i=some x->x.loc≠.cell a:=h.fresh (λhl=>by have hl:a.block<B:=hl;omega)
theorem aOr{Sh Rd:Loc->Prop}{O:Nat->Loc->Prop}(h:TI X.cI Sh Rd O j0 jj B t){r:Nat}(ha:B<=r):∀i x,touchAt t i=some x->x.loc≠.obj r:=h.fresh (λhl=>by have hl:r<B:=hl;omega)
theorem grown{own aQ5:Nat->Nat->Prop}(h:TI X.cI (ShN X.q.Wg) (RdL X) (D6 X j aI AE own) X.j0 (X.j0+j) B t)(h1:∀i,i<j->∀b,own i b->aQ5 i b)(h2:∀i,i<j->∀b,aQ5 i b->own i b\/B<=b):TI X.cI (ShN X.q.Wg) (RdL X) (D6 X j aI AE aQ5) X.j0 (X.j0+j) B t:=by
 refine h.grow (λk l x=>x.mono (kG _) h1 λk hk=>⟨hk,rfl⟩) ?_;rintro k l ⟨i,hi,rfl,⟨a,rfl,ha⟩|⟨r,rfl,ha⟩|⟨k,hk,hw,rfl⟩⟩
 .rcases h2 i hi _ ha with ha|ha
  .exact .inl ⟨i,hi,rfl,.inl ⟨a,rfl,ha⟩⟩
  .exact .inr (aJz h ha)
 .rcases h2 i hi _ ha with ha|ha
  .exact .inl ⟨i,hi,rfl,.inr (.inl ⟨r,rfl,ha⟩)⟩
  .exact .inr (aOr h ha)
 .exact .inl ⟨i,hi,rfl,.inr (.inr ⟨k,hk,hw,rfl⟩)⟩
theorem wY{t u:WO}{a:Touch}(h:touchAt (t++u) i=some a):touchAt t i=some a\/∃op∈u,op.act.touch?=some a:=by
 obtain⟨x,hx,hxa⟩:=touch_of h;rcases getElem?_append_cases hx with⟨_,i7⟩|⟨_,hxu⟩
 .exact .inl E6
 .exact .inr ⟨x,hxu,hxa⟩
theorem aX3(G:Geo X){M:Nat->Prop}(hM:∀b,M b->X.q.L<=b){c:Option Nat}{e:Event}(h:EvO X M c e){k:Nat}(hk:c≠some k){x:Touch}(hx:(MemAct.ofEvent e).touch?=some x):x.loc≠.cell (aA X.q.row k):=by
 have l3:=G.aKd;have g4:=G.grow;have g5:=G.gtb;intro hl;have aT3:∀ad w s,e=⟨.cell ad,w,s⟩->ad=(aA X.q.row k):=by rintro ad w s rfl;simp only[ofEvent_cell,MemAct.touch?,AI]at hx;subst hx;simpa using hl
 have aGp:∀m,e.loc=.mark m->(∀a,m≠.read a)->(∀a,m≠.write a)->False:=by
  intro m hm h1 h2;rw[ofEvent_loc_mark hm]at hx;cases m<;>simp[MemAct.touch?]at hx
  .exact h1 _ rfl
  .exact h2 _ rfl
 rcases h with⟨a,rfl,ha⟩|⟨a,wr,rfl,ha⟩|⟨r,wr,rfl,hr⟩|⟨a,rfl,h1,h2⟩|⟨k',hk',rfl⟩|hb|rfl|hm|ho|⟨f,hf⟩|hn
 .have:=aT3 _ _ _ rfl;subst this;rcases ha with ha|ha|ha|ha
  .exact G.rba ha
  .exact G.rbt ha
  .have:=hM _ ha;simp only at this;omega
  .simp only at ha;omega
 .have:=aT3 _ _ _ rfl;subst this;have:=hM _ ha;simp only at this;omega
 .simp only[vX,MemAct.touch?,AI]at hx;subst hx;cases hl
 .have:=aT3 _ _ _ rfl;subst this;simp only at h1;omega
 .have:=aT3 _ _ _ rfl;simp only[Addr.mk.injEq]at this;exact hk (by rw[hk',this.2.1])
 .rcases hb with h1|h1|⟨a,wr,rfl,ha⟩
  .exact aGp _ h1 oe oe
  .exact aGp _ h1 oe oe
  .have:=aT3 _ _ _ rfl;subst this;exact G.aJ8 ha.symm
 .exact aGp _ rfl oe oe
 .rw[touch_mute hm]at hx;cases hx
 .exact zJ0
 .exact aGp _ hf oe oe
 .exact aGp _ hn oe oe
theorem Com.ap(G:Geo X)(h:Com X j aI AE gs w t D qf d0 cl):Ap X.cI (ShN X.q.Wg) (RdL X) (D6 X j aI AE λi=>(D i).own):=bDx G (λi hi b hb=>(h.own i hi b hb).1) h.dis
theorem Com.stepW(G:Geo X)(hrv:∀g,X.Rv g->g.status=.running)(h:Com X j aI AE gs w t D qf d0 cl)(hi:i<j){g g':WC}{es:Array Event}{fn:FuncId}{pos:String}{d':gP X}{c:Option Nat}
  (hg:gs[X.j0+1+i]?=some g)(hT:Tn X (D i).own c w w')(cP:∀b,d'.own b↔(D i).own b\/(w.1.size<=b/\b<w'.1.size))(C5:WS X d' g' w')(hev:∀e∈es,EvO X d'.own c e)
  (hc:∀k,c=some k->(D i).job=some k)(aSy:deafBehind (D i).deaf es=d'.deaf)
  (hrel:d'.stage<=6->∃r,RelBy (stA X.q.Wg) (t++MemOp.ofEvents (X.j0+1+i) fn pos es) (X.j0+1+i) r)
  (aEd:d'.job=(D i).job\/(d'.job=none/\∃k out,(D i).job=some k/\X.Told k out/\w'.cell? (aA X.q.row k)=some (sT out)))
  (hch:w'.1[X.q.ch]?=w.1[X.q.ch]?)(hlv:d'.stage<=7->cl=true)(hpk:d'.stage=8->d'.fuel=0->cl=false):
  Com X j aI AE ((gs.map (woken X.P g g' w')).setIfInBounds (X.j0+1+i) g') w' (t++MemOp.ofEvents (X.j0+1+i) fn pos es) (upd D i d') qf d0 cl:=by
 have hoi:∀i',i'<j->∀b,(upd D i d' i').own b->X.q.L<=b/\b<w'.1.size:=λi' dN b hb=>by
  by_cases e:i'=i
  .subst e;rw[upd_same]at hb;rcases(cP b).1 hb with hb|hb
   .have:=h.own i' dN b hb;have:=hT.size;omega
   .have:=h.lo;omega
  .rw[upd_ne D _ e]at hb;have:=h.own i' dN b hb;have:=hT.size;omega
 have hdd:∀i1 i2,i1<j->i2<j->i1≠i2->∀b,(upd D i d' i1).own b->¬(upd D i d' i2).own b:=λi1 i2 h1 h2 eH b cV iT=>by
  by_cases e1:i1=i
  .have e2:i2≠i:=λe=>eH (e1.trans e.symm);rw[e1,upd_same]at cV;rw[upd_ne D _ e2]at iT;rcases(cP b).1 cV with hb|hb
   .exact h.dis i i2 hi h2 (λe=>e2 e.symm) b hb iT
   .have:=h.own i2 h2 b iT;omega
  .rw[upd_ne D _ e1]at cV;by_cases e2:i2=i
   .rw[e2,upd_same]at iT;rcases(cP b).1 iT with hb|hb
    .exact h.dis i1 i h1 hi e1 b cV hb
    .have:=h.own i1 h1 b cV;omega
   .rw[upd_ne D _ e2]at iT;exact h.dis i1 i2 h1 h2 eH b cV iT
 have hM:∀b,(D i).own b->X.q.L<=b:=λb hb=>(h.own i hi b hb).1;have hsf:∀i',i'<j->i'≠i->Sf X.q (D i').own w w':=λi' dN e=>hT.sf G h.cm hM (h.own i' dN) λb hb hb'=>h.dis i i' hi dN (λx=>e x.symm) b hb hb';have A:=bDx (X:=X) (aI:=aI) (AE:=AE) (own:=λi'=>(upd D i d' i').own) G (λi' dN b hb=>(hoi i' dN b hb).1) hdd;have ti1:TI X.cI (ShN X.q.Wg) (RdL X) (D6 X j aI AE λi'=>(upd D i d' i').own) X.j0 (X.j0+j) w'.1.size t:=by
  refine(grown h.ti (λi' dN b hb=>?_) (λi' dN b hb=>?_)).mono hT.size
  .by_cases e:i'=i
   .subst e;simp only[upd_same];exact(cP b).2 (.inl hb)
   .simp only[upd_ne D _ e];exact hb
  .by_cases e:i'=i
   .subst e;simp only[upd_same]at hb;exact((cP b).1 hb).imp id λx=>x.1
   .simp only[upd_ne D _ e]at hb;exact .inl hb
 have fO:∀k,c=some k->k<aI/\AE k=i:=λk hk=>h.job i k hi (hc k hk);have hdo:∀b,d'.own b->(upd D i d' i).own b/\b<w'.1.size:=λb hb=>by
  have:(upd D i d' i).own b:=by rw[upd_same];exact hb
  exact⟨this,(hoi i hi b this).2⟩
 have jM:=λe (he:e∈es)=>bB2 (X:=X) (aI:=aI) (AE:=AE) (own:=λi'=>(upd D i d' i').own) G hi (M:=d'.own) hdo (kH h.lo hT.size) fO (hev e he) fn pos;have hlt:X.j0+1+i<gs.size:=(kZ hg).1;have bJe:∀b,d'.own b->X.q.L<=b:=λb hb=>(hoi i hi b (hdo b hb).1).1;refine⟨by simp[h.size],λi' dN=>?_,λi' g₁ h0 hj0 hg₁=>?_,?_,?_,?_,λi' dN=>?_,λi' dN fM=>?_,hT.cm,kH h.lo hT.size,hoi,hdd,λi' k dN hk=>?_,λk hk=>?_,h.aI,?_,λi' dN fM=>?_,λi' dN fM hf=>?_,λb hb h1 h2 h3=>?_⟩
 .by_cases e:i'=i
  .subst e;exact⟨g',get_map_set_same _ _ _ hlt,by rw[upd_same];exact C5⟩
  .obtain⟨x,hx,hsx⟩:=h.wk i' dN;have hr:=hsx.rely (hsf i' dN e);refine⟨x,?_,by rw[upd_ne D _ e];exact hr⟩;rw[get_map_set _ _ _ _ od,hx,AH,hr.woken hrv hT.cm];intro e1 e2;have:=h.pk i' dN e1 e2;subst this;obtain⟨s,r,hs⟩:=h.chs;exact⟨s,r,hch.trans hs⟩
 .rw[get_map_set _ _ _ _ od]at hg₁;obtain⟨y,hy,rfl⟩:=AQ hg₁;have hq:=h.old i' y h0 hj0 hy;rw[woken_quitsD hq,Deaf_other t (g':=X.j0+1+i) od _ g_of_ofEvents];exact hq
 .refine ti1.appW A (k:=X.j0+1+i) od od (λop cK=>?_) (λop cK=>?_)
  .exact zEu
  .exact zEs
 .exact h.norel.app (norel_of λe he=>(jM e he).2.2)
 .rw[Deaf_other t od _ g_of_ofEvents,h.deaf0]
 .by_cases e:i'=i
  .subst e;rw[Deaf_own,h.deafW i' dN,upd_same];exact aSy
  .rw[Deaf_other t od _ g_of_ofEvents,h.deafW i' dN,upd_ne D _ e]
 .by_cases e:i'=i
  .subst e;rw[upd_same]at fM;exact hrel fM
  .rw[upd_ne D _ e]at fM;obtain⟨r,hr⟩:=h.rel i' dN fM;exact⟨r,hr.appOther g_of_ofEvents od⟩
 .by_cases e:i'=i
  .subst e;rw[upd_same]at hk;rcases aEd with hj|⟨hj,_⟩
   .exact h.job i' k dN (hj▸hk)
   .rw[hj]at hk;cases hk
  .rw[upd_ne D _ e]at hk;exact h.job i' k dN hk
 .rcases h.row k hk with⟨h1,h2⟩|⟨h1,h2,h3⟩
  .refine .inl ⟨h1,λq a ha=>?_⟩;rcases wY ha with ha|⟨op,cK,hx⟩
   .exact h2 q a ha
   .obtain⟨e,he,rfl⟩:=Go.Conc.mem_ofEvents cK;exact aX3 G bJe (hev e he) (λhk'=>by have:=(fO k hk').1;omega) hx
  .refine .inr ⟨h1,h2,?_⟩;by_cases e:AE k=i
   .rw[e,upd_same];rw[e]at h3;rcases aEd with hj|⟨hj,k',out,hk',ht,vI⟩
    .rcases h3 with h3|⟨out,h4,h5⟩
     .exact .inl (hj.trans h3)
     .by_cases hck:c=some k
      .exact .inl (hj.trans (hc k hck))
      .exact .inr ⟨out,h4,(hT.row k λx=>hck x.symm).trans h5⟩
    .by_cases hkk:k'=k
     .subst hkk;exact .inr ⟨out,ht,vI⟩
     .rcases h3 with h3|⟨out,h4,h5⟩
      .rw[hk']at h3;cases h3;exact absurd rfl hkk
      .have hck:c≠some k:=λx=>by have:=hc k x;rw[hk']at this;cases this;exact hkk rfl
       exact .inr ⟨out,h4,(hT.row k λx=>hck x.symm).trans h5⟩
   .rw[upd_ne D _ e];refine h3.imp id λ⟨out,h4,h5⟩=>⟨out,h4,(hT.row k λx=>e (fO k x.symm).2).trans h5⟩
 .obtain⟨s,r,hs⟩:=h.chs;exact⟨s,r,hch.trans hs⟩
 .by_cases e:i'=i
  .subst e;rw[upd_same]at fM;exact hlv fM
  .rw[upd_ne D _ e]at fM;exact h.lv i' dN fM
 .by_cases e:i'=i
  .subst e;rw[upd_same]at fM hf;exact hpk fM hf
  .rw[upd_ne D _ e]at fM hf;exact h.pk i' dN fM hf
 .refine(h.kp b hb h1 h2 h3).trans (hT.out b (by have:=h.lo;omega) (λhm=>by have:=hM b hm;omega) h1 h2 h3)
end
end
section
def EvM(X:Sp)(e:Event):Prop:=ErG X.q fR e\/Bk X.q.Wg e\/e=⟨.mark (.read (aA X.q.Wg 1)),false,true⟩\/e=⟨.mark (.write (aA X.q.Wg 1)),false,true⟩\/e=mk (.acquire (stA X.q.Wg))\/∃wr,e=⟨.obj X.q.ch,wr,true⟩
section
variable{X:Sp}{j aI:Nat}{AE:WN}{own:Nat->Nat->Prop}{gs:Array WC}{w w':WA}{t:WO}{D:Nat->gP X}{qf:WN}{d0:Nat}{cl:Bool}
theorem xV(r:Nat):MemAct.ofEvent ⟨.obj r,false,true⟩=.access ⟨.obj r,false,true⟩:=rfl
theorem aBs(r:Nat):MemAct.ofEvent ⟨.obj r,true,true⟩=.close r:=rfl
theorem bB1(G:Geo X)(ho:∀i,i<j->∀b,own i b->X.q.L<=b){B:Nat}(hB:X.q.L<=B){e:Event}(h:EvM X e)(fn:FuncId)(pos:String):
  OkM X.cI (ShN X.q.Wg) (RdL X) (D6 X j aI AE own) { g:=0,fn,pos,act:=.ofEvent e }/\(MemAct.ofEvent e).low B/\e.loc≠.mark (.release (stA X.q.Wg))/\(∀x k,(MemAct.ofEvent e).touch?=some x->x.loc≠.cell (aA X.q.row k)):=by
 have l0:=G.lba;have l1:=G.lbt;have l2:=G.lWg;have l3:=G.aKd;have l4:=G.lch;have g5:=G.gtb;have g1:=G.gba;have g2:=G.gbt;have g3:=G.gWg;have g4:=G.grow;have g6:=G.gch;have n1:=G.Wba;have n2:=G.Wbt;have n3:=G.aJ8;have n4:=G.rba;have n5:=G.rbt;have n6:=G.Wch;rcases h with⟨a,rfl,ha⟩|hb|rfl|rfl|rfl|⟨wr,rfl⟩
 .have hab:a.block=X.q.ba\/a.block=X.q.bt\/a.block=X.q.tb:=ha.imp id (Or.imp id λh=>h.elim (λx=>x.elim) id);exact zHq
 .rcases hb with h1|h1|⟨a,wr,rfl,ha⟩
  .exact zDb
  .exact zDb
  .have m59:=0;exact zHq
 .exact zI4
 .have bK4:=0;exact zI4
 .refine⟨⟨rfl,λx hx=>by cases hx⟩,by show X.q.Wg<B;omega,jl,λx k hx=>by cases hx⟩
 .cases wr
  .refine⟨⟨rfl,λx hx=>?_⟩,by show X.q.ch<B;omega,oe,λx k hx hl=>?_⟩
   .simp only[xV,MemAct.touch?,AI]at hx;subst hx;refine .inr (.inl ⟨?_,?_,?_,λ_=>by simp⟩)
    .rintro⟨a',e',h'⟩;cases e'
    .rintro k ⟨i,hi,_,⟨a',e',h'⟩|⟨r,e',h'⟩|⟨x,_,_,e'⟩⟩<;>cases e';have:=ho i hi _ h';omega
    .rintro⟨a',e',h'⟩;cases e'
   .simp only[xV,MemAct.touch?,AI]at hx;subst hx;cases hl
  .rw[aBs];exact⟨⟨rfl,λx hx=>by cases hx⟩,by show X.q.ch<B;omega,oe,λx k hx=>by cases hx⟩
theorem Com.step0(G:Geo X)(h:Com X j aI AE gs w t D qf d0 cl){a a':WC}{es:Array Event}{fn:FuncId}{pos:String}{D':Nat->gP X}{cl':Bool}
  (hT:Tn X fR none w w')(hev:∀e∈es,EvM X e)(hD:∀i,(D' i).stage=(D i).stage/\(D' i).deaf=(D i).deaf/\(D' i).own=(D i).own/\(D' i).job=(D i).job)
  (hwk:∀i,i<j->∃g,((gs.map (woken X.P a a' w')).setIfInBounds 0 a')[X.j0+1+i]?=some g/\WS X (D' i) g w')(bBg:∃s r,w'.1[X.q.ch]?=some (.chan 0 #[] cl' s r false))(fN:cl=true->cl'=true)
  (hpk:∀i,i<j->(D' i).stage=8->(D' i).fuel=0->cl'=false):
  Com X j aI AE ((gs.map (woken X.P a a' w')).setIfInBounds 0 a') w' (t++MemOp.ofEvents 0 fn pos es) D' qf (deafBehind d0 es) cl':=by have ho:∀i,(D' i).own=(D i).own:=λi=>(hD i).2.2.1;have jM:=λe (he:e∈es)=>bB1 (X:=X) (j:=j) (aI:=aI) (AE:=AE) (own:=λi=>(D i).own) G (λi hi b hb=>(h.own i hi b hb).1) (kH h.lo hT.size) (hev e he) fn pos;exact zH0
theorem Com.wk0(G:Geo X)(hrv:∀g,X.Rv g->g.status=.running)(h:Com X j aI AE gs w t D qf d0 cl)(hT:Tn X fR none w w')(hch:cl=false->∃s r,w'.1[X.q.ch]?=some (.chan 0 #[] false s r false))(a a':WC):
  ∀i,i<j->∃g,((gs.map (woken X.P a a' w')).setIfInBounds 0 a')[X.j0+1+i]?=some g/\WS X (D i) g w':=by intro i hi;obtain⟨x,hx,hsx⟩:=h.wk i hi;have hr:=hsx.rely (hT.sf G h.cm (λ_ hb=>hb.elim) (h.own i hi) λ_ hb=>hb.elim);refine⟨x,?_,hr⟩;rw[get_map_set _ _ _ _ od,hx,AH,hr.woken hrv hT.cm];intro e1 e2;exact hch (h.pk i hi e1 e2)
theorem TI.mutes{cI Sh Rd:Loc->Prop}{O:Nat->Loc->Prop}{j0 j B:Nat}:∀(l:List MemOp){t:WO},TI cI Sh Rd O j0 j B t->(∀op∈l,op.g<=j/\op.act.touch?=none/\op.act.low B)->TI cI Sh Rd O j0 j B (t++l.toArray)
 |[],t,h,_=>by simpa using h
 |x::l,t,h,hu=>by
  have h1:=h.appMute (u:=#[x]) (hu x oe).1 (λop cK=>by simp at cK;rw[cK]) (λop cK=>by simp at cK;rw[cK];exact(hu x oe).2.1) (λop cK=>by simp at cK;rw[cK];exact(hu x oe).2.2);have:=TI.mutes l h1 λop cK=>hu op (by simp[cK]);have e:t++(x::l).toArray=t++ #[x]++l.toArray:=by apply Array.ext';simp
  rw[e];exact this
theorem Com.quiet(h:Com X j aI AE gs w t D qf d0 cl){rX:Array WC}{u:WO}{D':Nat->gP X}{yB:Nat}{aFo:WN}
  (hsz:rX.size=gs.size)(hold:∀k,0<k->k<=X.j0->rX[k]?=gs[k]?)(hT:Tn X fR none w w')(hwk:∀i,i<j->∃g,rX[X.j0+1+i]?=some g/\WS X (D' i) g w')
  (hu:∀op∈u,op.g<=X.j0+j/\op.act.touch?=none/\(∀m,op.act≠.mark m)/\op.act.low w.1.size)(hD:∀i,(D' i).deaf=(D i).deaf/\(D' i).own=(D i).own/\((D' i).stage<=6->(D i).stage<=6))
  (hs1:aI<=yB)(hs2:yB<=X.q.n)(hw:∀k,k<aI->aFo k=AE k)(aEf:∀k,aI<=k->k<yB->aFo k<j/\(D' (aFo k)).job=some k)
  (aEd:∀i,i<j->(D' i).job=(D i).job\/((D i).job=none/\∃k,(D' i).job=some k/\k<yB/\aFo k=i))
  (bBg:∃s r,w'.1[X.q.ch]?=some (.chan 0 #[] cl s r false))(hlv:∀i,i<j->(D' i).stage<=7->cl=true)(hpk:∀i,i<j->(D' i).stage=8->(D' i).fuel=0->cl=false):
  Com X j yB aFo rX w' (t++u) D' qf d0 cl:=by have ho:∀i,(D' i).own=(D i).own:=λi=>(hD i).2.1;have m69:=0;exact zH0
theorem Com.spawn(h:Com X j 0 AE gs w t D qf 0 cl){a' child:WC}{x y:MemOp}{m:Nat}(hx:x.g=0/\x.act=.go (X.j0+j+1))(hy:y.g=X.j0+j+1/\y.act=.start)(hc:GW X fR (aNr X) m child w):
  Com X (j+1) 0 AE ((gs.setIfInBounds 0 a').push child) w (t++ #[x,y]) (upd D j { stage:=8,fuel:=m+1,deaf:=0,own:=fR,job:=none,ls:=(D j).ls }) qf 0 cl:=by
 have hm:∀op∈#[x,y],op=x\/op=y:=by intro op cK;simpa using cK
 have fM:∀op∈#[x,y],op.act≠.mark .disable/\op.act≠.mark .enable:=by
  intro op cK;rcases hm op cK with rfl|rfl
  .rw[hx.2];exact⟨oe,oe⟩
  .rw[hy.2];exact⟨oe,oe⟩
 have hnt:∀op∈#[x,y],op.act.touch?=none:=by
  intro op cK;rcases hm op cK with rfl|rfl
  .rw[hx.2];rfl
  .rw[hy.2];rfl
 have eH:∀i,i<j->i≠j:=λi hi=>by omega
 refine⟨by simp[h.size];omega,λi hi=>?_,λi g₁ h0 hj0 hg₁=>?_,?_,h.norel.app λop cK=>?_,by rw[Deaf_still t 0 _ fM,h.deaf0],λi hi=>?_,λi hi hs=>?_,h.cm,h.lo,λi hi b hb=>?_,λi i' hi dN hii b hb hb'=>?_,λi k hi hk=>?_,λk hk=>?_,h.aI,h.chs,λi hi hs=>?_,λi hi hs hf=>?_,h.kp⟩
 .rcases jB i j with hlt|hge
  .obtain⟨g,hg,hsg⟩:=h.wk i hlt;refine⟨g,?_,by rw[upd_ne D _ (eH i hlt)];exact hsg⟩;rw[Array.getElem?_push_lt (by simp[h.size];omega),<-Array.getElem?_eq_getElem,AN od];exact hg
  .obtain rfl:i=j:=by omega
   refine⟨child,?_,by rw[upd_same];exact dA5 ⟨rfl,rfl,rfl,.inl ⟨m,rfl,hc⟩⟩⟩;rw[show X.j0+1+i=(gs.setIfInBounds 0 a').size by simp[h.size],Array.getElem?_push_size]
 .rw[Array.getElem?_push_lt (by simp[h.size];omega),<-Array.getElem?_eq_getElem,AN od]at hg₁;rw[Deaf_still t i _ fM];exact h.old i g₁ h0 hj0 hg₁
 .have h1:=h.ti.fork (x:=x) (y:=y) hx hy h.deaf0;refine h1.grow (λk l z=>z.mono od (λi hi b hb=>by simp only[upd_ne D _ (eH i hi)];exact hb) λk hk=>by omega) ?_;rintro k l ⟨i,hi,rfl,⟨a,rfl,ha⟩|⟨r,rfl,ha⟩|⟨k,hk,_⟩⟩
  .exact zIp
  .have m94:=0;exact zIp
  .omega
 .rcases hm op cK with rfl|rfl
  .rw[hx.2];simp
  .rw[hy.2];simp
 .rw[Deaf_still t _ _ fM];rcases jB i j with hlt|hge
  .rw[h.deafW i hlt,upd_ne D _ (eH i hlt)]
  .obtain rfl:i=j:=by omega
   rw[upd_same];exact Deaf_absent λa op ha e=>by have:=h.ti.gs a op ha;omega
 .rcases jB i j with hlt|hge
  .rw[upd_ne D _ (eH i hlt)]at hs;obtain⟨r,hr⟩:=h.rel i hlt hs;refine⟨r,hr.appNot λop cK=>?_⟩;rcases hm op cK with rfl|rfl
   .rw[hx.1];omega
   .rw[hy.1];omega
  .obtain rfl:i=j:=by omega
   rw[upd_same]at hs;simp at hs
 .exact zJh
 .have bK8:=0;exact zJh
 .rcases jB i j with hlt|hge
  .rw[upd_ne D _ (eH i hlt)]at hk;exact h.job i k hlt hk
  .obtain rfl:i=j:=by omega
   rw[upd_same]at hk;cases hk
 .rcases h.row k hk with⟨h1,h2⟩|⟨h1,_⟩
  .exact zLb
  .omega
 .rcases jB i j with hlt|hge
  .rw[upd_ne D _ (eH i hlt)]at hs;exact h.lv i hlt hs
  .obtain rfl:i=j:=by omega
   rw[upd_same]at hs;simp at hs
 .rcases jB i j with hlt|hge
  .rw[upd_ne D _ (eH i hlt)]at hs hf;exact h.pk i hlt hs hf
  .obtain rfl:i=j:=by omega
   rw[upd_same]at hf;simp at hf
end
end
