import Derived.Test.YtnbomhedoelklaaGreatDoorZT18
namespace Go.Proofs.YtnbomhedoelklaaGreatDoor
set_option maxRecDepth 99999
set_option maxHeartbeats 0
open Go.Conc Go.ConcN
open Go.ConcR (KK wgBlock WgAt stA smA rd wr mk Payload Aside2 DC0 Bk g_of_ofEvents)
section
structure Bs(P:WJ)(cI:Loc->Prop)(B J:Nat)(Pr:MemAct->Prop)(gs:Array WC)(t:WO)(q:WN):Prop where
 lv:Leavers P t gs q
 past:Past cI B t
 size:gs.size=J+1
 g:∀op∈t,op.g<=J
 pr:∀op∈t,Pr op.act
section
variable{P:WJ}{cI:Loc->Prop}{B J:Nat}{Pr:MemAct->Prop}{gs:Array WC}{t:WO}{q:WN}{a:WC}{w:WA}{sl:Option (Nat×Nat)}
theorem Bs.mono{B':Nat}{Pr':MemAct->Prop}(h:Bs P cI B J Pr gs t q)(hB:B<=B')(hP:∀x,x.low B->Pr x->Pr' x):Bs P cI B' J Pr' gs t q:=⟨h.lv,h.past.mono hB,h.size,h.g,λop ho=>hP _ (h.past.seen op ho) (h.pr op ho)⟩
theorem Bs.aRa(h:Bs P cI B J Pr gs t q)(hM:∀e:Event,e.mute=true->Pr (MemAct.ofEvent e))(h0:gs[0]?=some a)(dY:a.status=.running)(w:WA)(sl:Option (Nat×Nat)):
  ∃d N4,stepT P (crowd gs w sl)=runT P (crowd gs (w.at d) N4) 0\/
   ∃rX cZ q',stepT P (crowd gs w sl)=(.next (crowd rX (w.at d) N4),cZ)/\rX[0]?=some a/\sumTo (J+1) q'<sumTo (J+1) q/\Bs P cI B J Pr rX (t++cZ) q':=by
 have haw:∀g∈gs,awake g:=by
  intro g hg;obtain⟨i,hi,rfl⟩:=Array.mem_iff_getElem.1 hg;rcases Nat.eq_zero_or_pos i with rfl|aA4
  .have:gs[0]=a:=by simpa[Array.getElem?_eq_getElem hi]using h0
   rw[this];exact awake_of (.inl dY)
  .exact awake_of ((h.lv.old i _ aA4 (Array.getElem?_eq_getElem hi)).status.elim .inl λx=>.inr (.inr x))
 obtain⟨i,g,d,N4,hi,hg,fM⟩:=crowd_pick (P:=P) (w:=w) (sl:=sl) haw ⟨0,a,h0,dY⟩;refine⟨d,N4,?_⟩;rcases Nat.eq_zero_or_pos i with rfl|aA4
 .exact .inl fM
 .refine .inr ?_;have hq:=h.lv.old i g aA4 hi;have hi0:(i==0)=false:=ol;have hlt:i<gs.size:=(kZ hi).1
  cases hqi:q i with
  |zero=>rw[hqi]at hq;rw[hq.1]at hg;cases hg
  |succ k=>
   rw[hqi]at hq
   rcases hq with⟨hf,_⟩|⟨_,g',es,hm,bJw,hq'⟩
   .rw[hf]at hg;cases hg
   have aT8:=runT_crowd_go (P:=P) (sl:=N4) (i:=i) hi (by rw[hi0];exact bJw (w.at d))
   have bJx:sumTo gs.size (upd q i k)+(k+1)=sumTo gs.size q+k:=by
    have:=sumTo_upd q k id hlt
    simpa[hqi]using this
   rw[h.size]at bJx
   refine⟨_,_,upd q i k,fM.trans aT8,?_,od,⟨⟨λj x hj hx=>?_,λj hj=>?_⟩,h.past.mute od hm,by simp[h.size],λop cK=>?_,λop cK=>?_⟩⟩
   .have eH:i≠0:=by omega
    rw[AN eH,Array.getElem?_map,h0]
    simp[woken_run dY]
   .by_cases hji:i=j
    .subst hji
     rw[AO (by simpa using hlt)]at hx
     obtain rfl:=kY hx
     rw[upd_same,Deaf_own]
     exact hq'
    .rw[AN hji,Array.getElem?_map]at hx
     obtain⟨y,hy,rfl⟩:=AQ hx
     have hqj:=h.lv.old j y hj hy
     rw[woken_quitsD hqj,upd_ne q k (Ne.symm hji),Deaf_other t hji _ (λop cK=>by obtain⟨e,_,rfl⟩:=Go.Conc.mem_ofEvents cK;rfl)]
     exact hqj
   .rw[Deaf_other t (g':=i) (by simp at hj;omega) _ (λop cK=>by obtain⟨e,_,rfl⟩:=Go.Conc.mem_ofEvents cK;rfl)]
    exact h.lv.above j O7
   .rcases Array.mem_append.1 cK with x|x
    .exact h.g op x
    .obtain⟨e,_,rfl⟩:=Go.Conc.mem_ofEvents x
     show i<=J
     have:=h.size;omega
   .rcases Array.mem_append.1 cK with x|x
    .exact h.pr op x
    .obtain⟨e,he,rfl⟩:=Go.Conc.mem_ofEvents x
     exact hM e (hm e he)
theorem Bs.own{B':Nat}{a':WC}{w':WA}{es:Array Event}(h:Bs P cI B J Pr gs t q)(hB:B<=B')(h0:gs[0]?=some a)(dH:stepG P true a w=.go a' w' es)(hes:∀e∈es,EvL cI B' e/\Pr (MemAct.ofEvent e))(sl:Option (Nat×Nat)):
  ∃rX cZ,runT P (crowd gs w sl) 0=(.next (crowd rX w' sl),cZ)/\rX[0]?=some a'/\Bs P cI B' J Pr rX (t++cZ) q:=by
 have aT8:=runT_crowd_go (P:=P) (sl:=sl) (i:=0) h0 (show stepG P (0==0) a w=_ from dH);have hlt:0<gs.size:=(kZ h0).1;refine⟨_,_,aT8,by simp[hlt],⟨⟨λj x hj hx=>?_,λj hj=>?_⟩,(h.past.mono hB).own λe he=>(hes e he).1,by simp[h.size],λop cK=>?_,λop cK=>?_⟩⟩
 .have eH:0≠j:=by omega
  rw[AN eH,Array.getElem?_map]at hx;obtain⟨y,hy,rfl⟩:=AQ hx;have hq:=h.lv.old j y hj hy;rw[woken_quitsD hq,Deaf_other t od _ (λop cK=>by obtain⟨e,_,rfl⟩:=Go.Conc.mem_ofEvents cK;rfl)];exact hq
 .rw[Deaf_other t (g':=0) (by simp at hj;omega) _ (λop cK=>by obtain⟨e,_,rfl⟩:=Go.Conc.mem_ofEvents cK;rfl)];exact h.lv.above j O7
 .rcases Array.mem_append.1 cK with x|x
  .exact h.g op x
  .obtain⟨e,_,rfl⟩:=Go.Conc.mem_ofEvents x;exact kI _
 .rcases Array.mem_append.1 cK with x|x
  .exact h.pr op x
  .obtain⟨e,he,rfl⟩:=Go.Conc.mem_ofEvents x;exact(hes e he).2
def To(P:WJ)(cI:Loc->Prop)(J:Nat)(Pr:MemAct->Prop)(K:WC->WA->Nat->Prop)(m:Machine)(t:WO):Prop:=
 ∃N rX a' w' N4 t' q' B',runNT P N m t=(.next (crowd rX w' N4),t')/\rX[0]?=some a'/\Bs P cI B' J Pr rX t' q'/\K a' w' B'
theorem To.step{K:WC->WA->Nat->Prop}{m m1:Machine}{cZ:Array MemOp}(e:stepT P m=(.next m1,cZ))(h:To P cI J Pr K m1 (t++cZ)):To P cI J Pr K m t:=by obtain⟨N,rX,a',w',N4,t',q',B',h1,h2⟩:=h;exact⟨N+1,rX,a',w',N4,t',q',B',by rw[runNT_succ_next e];exact h1,h2⟩
theorem Bs.walk{D:WA->WA->Array Event->Prop}{Stop:WC->WA->Prop}(hM:∀e:Event,e.mute=true->Pr (MemAct.ofEvent e))(hD:∀w w' es,D w w' es->∀e∈es,EvL cI B e/\Pr (MemAct.ofEvent e)):
  ∀(M n:Nat)(gs:Array WC)(a:WC)(w:WA)(sl:Option (Nat×Nat))(t:WO)(q:WN),n+sumTo (J+1) q<=M->gs[0]?=some a->Bs P cI B J Pr gs t q->Goes P true AtRel D Stop n a w->To P cI J Pr (λa w B'=>Stop a w/\B'=B) (crowd gs w sl) t:=by
 intro M
 induction M with
 |zero=>
  intro n gs a w sl t q hM0 h0 hB hG
  obtain rfl:n=0:=od
  exact⟨0,gs,a,w,sl,t,q,B,rfl,h0,hB,hG w (atRel_refl w),rfl⟩
 |succ M ih=>
  intro n gs a w sl t q hM0 h0 hB hG
  cases n with
  |zero=>exact⟨0,gs,a,w,sl,t,q,B,rfl,h0,hB,hG w (atRel_refl w),rfl⟩
  |succ n=>
   rcases hG with dO|⟨dY,dL⟩
   .exact⟨0,gs,a,w,sl,t,q,B,rfl,h0,hB,dO w (atRel_refl w),rfl⟩
   obtain⟨d,N4,he|⟨rX,cZ,q',he,h0',hs,hB'⟩⟩:=hB.aRa hM h0 dY w sl
   .obtain⟨a',w',es,dH,hd,hG'⟩:=goes_elim (dL (w.at d) ⟨d,rfl⟩)
    obtain⟨rX,cZ,hr,h0',hB'⟩:=hB.own (kG _) h0 dH (hD _ _ _ hd) N4
    exact To.step (he.trans hr) (ih n rX a' w' N4 _ q od h0' hB' hG')
   .exact To.step he (ih (n+1) rX a (w.at d) N4 _ q' od h0' hB' (Goes.rely atRel_trans (.inr ⟨dY,dL⟩) ⟨d,rfl⟩))
end
end
section
structure Kp(w w':WA):Prop where
 size:w.1.size<=w'.1.size
 old:∀b,b<w.1.size->w'.1[b]?=w.1[b]?
 eq:Eq3 w w'
theorem Kp.refl(w:WA):Kp w w:=⟨kG _,λ_ _=>rfl,.refl w⟩
theorem Kp.trans{w w1 w2:WA}(h:Kp w w1)(k:Kp w1 w2):Kp w w2:=⟨kH h.size k.size,λb hb=>(k.old b (kC hb h.size)).trans (h.old b hb),⟨k.eq.1.trans h.eq.1,k.eq.2.1.trans h.eq.2.1,k.eq.2.2.trans h.eq.2.2⟩⟩
theorem Kp.at{w w':WA}(h:Kp w w')(d:Nat):Kp w (w'.at d):=⟨h.size,h.old,h.eq⟩
section
variable{J:Nat}{cI:Loc->Prop}{Y:Sy}{F:FuncId->Prop}{E:WK->WA->Prop}{C:List WK}
theorem bB0{ρ:WN}{N B:Nat}(hSh:∀l,cI l->∃a:WT,l=.cell a/\a.block<Y.G/\¬Y.K a.block)(hG:Y.G<=B)(hlt:∀b,(Y.at ρ N).C8 b->Y.G<=b/\b<B){e:Event}(h:(Y.at ρ N).Ok e):EvL cI B e:=by
 obtain⟨loc,wr,sy⟩:=e
 cases loc with
 |cell ad=>
  obtain⟨rfl,h⟩:=h
  rcases h with h|⟨h1,h2,h3⟩
  .exact evL_cell ad wr (λhs=>by
    obtain⟨a',e,h1,_⟩:=hSh _ hs
    cases e
    have:=(hlt _ h).1;omega) (hlt _ h).2
  .exact evL_cell ad wr (λhs=>by
    obtain⟨a',e,_,h4⟩:=hSh _ hs
    cases e
    exact h4 h2) (kC h1 hG)
 |obj r=>
  obtain⟨rfl,h⟩:=h
  refine⟨λx hx hs=>?_,oe,oe,?_⟩
  .obtain⟨a',e,_⟩:=hSh _ hs
   simp[MemAct.ofEvent,MemAct.touch?]at hx
   subst hx
   simp at e
  .simp only[MemAct.ofEvent,MemAct.low,Loc.low];exact(hlt _ h).2
 |output=>
  refine⟨λx hx hs=>?_,oe,oe,trivial⟩
  obtain⟨a',e,_⟩:=hSh _ hs
  simp[MemAct.ofEvent,MemAct.touch?]at hx
  subst hx
  simp at e
 |goroutines=>exact absurd h (by simp[Sy.Ok])
 |mark m=>
  cases m with
  |extern s=>exact⟨λx hx=>by simp[MemAct.ofEvent,MemAct.touch?]at hx,oe,oe,trivial⟩
  |noRoom=>exact⟨λx hx=>by simp[MemAct.ofEvent,MemAct.touch?]at hx,oe,oe,trivial⟩
  |_=>exact absurd h (by simp[Sy.Ok])
theorem Bs.ses(pc:∀ρ N,(∀b,b<Y.G->ρ b=b)->(∀b c,ρ b=ρ c->b=c)->Y.G<=N->Pc (Y.at ρ N) F)(hSh:∀l,cI l->∃a:WT,l=.cell a/\a.block<Y.G/\¬Y.K a.block)(w1:WA)(hG1:Y.G<=w1.1.size)
  (ls:LS)(bJ9:Acc (LLt Y.P [dX Y.P]) ls):
  ∀(M:Nat)(gs:Array WC)(a:WC)(w:WA)(sl:Option (Nat×Nat))(t:WO)(q:WN)(ρ:WN),sumTo (J+1) q<M->gs[0]?=some a->Bs Y.P cI w.1.size J (λ_=>True) gs t q->zP Y F E C ls ρ a w->Kp w1 w->(∀c,Y.G<=c->c<ls.2.2.1.size->w1.1.size<=ρ c)->
   To Y.P cI J (λ_=>True) (λa w B'=>B'=w.1.size/\Kp w1 w/\∃fr w0' ρ,a=gr (bC ρ fr) C/\E fr w0') (crowd gs w sl) t:=by
 induction bJ9 with
 |intro ls _ ih=>
  intro M
  induction M with
  |zero=>exact λgs a w sl t q ρ hM=>absurd hM (kV _)
  |succ M ihM=>
   intro gs a w sl t q ρ hM h0 hB hS hK hρ
   by_cases ho:Out ls.1 ls.2.1
   .exact⟨0,gs,a,w,sl,t,q,_,rfl,h0,hB,rfl,hK,ls.1,ls.2.2,ρ,by rw[hS.1.eq,ho.1];rfl,hS.2.open.1 ho⟩
   have dY:a.status=.running:=by rw[hS.1.eq];rfl
   obtain⟨d,N4,he|⟨rX,cZ,q',he,h0',hs,hB'⟩⟩:=hB.aRa (λ_ _=>trivial) h0 dY w sl
   .have hS1:=hS.others (w2:=w.at d) ⟨kG _,λ_ _ _=>rfl,λ_ _=>rfl,rfl⟩
    generalize hρ1:rC ρ ls.2.2.1.size (w.at d).1.size=ρ1 at hS1
    have bJk:∀c,Y.G<=c->c<ls.2.2.1.size->w1.1.size<=ρ1 c:=λc c1 c2=>by
     rw[<-hρ1];unfold rC;rw[kK c2];exact hρ c c1 c2
    obtain⟨g1,w2,es,s1,dH,hlt,aEg,hsz,hk,hes⟩:=hS1.step pc ho true
    have wr:=hS1.1.wr
    have wr1:=aEg.1.wr
    have hup:∀c,ls.2.2.1.size<=c->w.1.size<=ρ1 c:=λc hc=>by
     have:=wr.up (c-ls.2.2.1.size)
     have e:(Y.at ρ1 ls.2.2.1.size).ρ (ls.2.2.1.size+(c-ls.2.2.1.size))=w.1.size+(c-ls.2.2.1.size):=this
     rw[show ls.2.2.1.size+(c-ls.2.2.1.size)=c by omega]at e
     have e:ρ1 c=w.1.size+(c-ls.2.2.1.size):=e
     omega
    have aT4:∀c,c<s1.2.2.1.size->ρ1 c<w2.1.size:=λc hc=>wr1.lt c hc
    have hge:∀c,Y.G<=c->c<s1.2.2.1.size->w1.1.size<=ρ1 c:=λc c1 c2=>by
     rcases jB c ls.2.2.1.size with h'|h'
     .exact bJk c c1 h'
     .exact kH hK.size (hup c h')
    have xT:∀b,(Y.at ρ1 s1.2.2.1.size).C8 b->w1.1.size<=b/\b<w2.1.size:=by
     rintro b ⟨c,c1,c2,rfl⟩
     exact⟨hge c c1 c2,aT4 c c2⟩
    have bBp:w.1.size<=w2.1.size:=hk.size
    obtain⟨rX,cZ,hr,h0',hB'⟩:=hB.own (B':=w2.1.size) bBp h0 dH (λe he=>⟨bB0 hSh (kH hG1 (kH hK.size bBp)) (λb hb=>⟨kH hG1 (xT b hb).1,(xT b hb).2⟩) (hes e he),trivial⟩) N4
    refine To.step (he.trans hr) (ih s1 hlt _ rX g1 w2 N4 _ q ρ1 (Nat.lt_succ_self _) h0' hB' aEg ⟨kH hK.size bBp,λb hb=>?_,⟨hk.os.trans hK.eq.1,hk.out.trans hK.eq.2.1,hk.tape.trans hK.eq.2.2⟩⟩ hge)
    rw[<-hK.old b hb]
    rcases jB b Y.G with h'|h'
    .exact hk.ro b h'
    .exact hk.oth b h' (kC hb hK.size) λx=>by have:=(xT b x).1;omega
   .have hS1:=hS.others (w2:=w.at d) ⟨kG _,λ_ _ _=>rfl,λ_ _=>rfl,rfl⟩
    refine To.step he (ihM rX a (w.at d) N4 _ q' _ od h0' hB' hS1 (hK.at d) λc c1 c2=>?_)
    unfold rC;rw[kK c2];exact hρ c c1 c2
end
end
