import Derived.Test.YtnbomhedoelklaaGreatDoorZMwOrd
import Derived.Conc.CompanyDraw
namespace Go.Proofs.YtnbomhedoelklaaGreatDoor
open Go.RowKit Go.Proofs.Tryz
set_option maxRecDepth 99999
set_option maxHeartbeats 0
open Go.Conc Go.ConcN Go.Conc.Lib Go.ConcR.Gen
section
def msg(k:Nat)(text:WG):WB:=.agg #[iI k,sT text]
def aM2:WB:=.agg #[iI 0,sT ⟨#[]⟩]
def pC(k:Nat)(text:WG):Array WB:=#[iI k,sT text]
structure FR(p:Pm)(bx k:Nat)(text:WG)(w:WA):Prop where
 cm:Cm p w
 job:w.1[bx]?=some (.cells (pC k text) 44)
def OnB(bx:Nat):Nat->Prop:=λb=>b=bx
section
variable{p:Pm}{bx k:Nat}{text:WG}{w w1:WA}
theorem FR.rx(h:FR p bx k text w)(r:Rx p (OnB bx) w w1):FR p bx k text w1:=⟨r.cm,(r.own bx rfl).trans h.job⟩
theorem FR.cba(h:FR p bx k text w):w.cell? (aA p.ba 0)=some (sL p.row p.n p.n):=h.cm.cba
theorem FR.c0(h:FR p bx k text w):w.cell? (aA bx 0)=some (iI k):=by simp[World.cell?,h.job,pC]
theorem FR.c1(h:FR p bx k text w):w.cell? (aA bx 1)=some (sT text):=by simp[World.cell?,h.job,pC]
theorem FR.at(h:FR p bx k text w)(d:Nat):FR p bx k text (w.at d):=⟨⟨h.cm.ba,h.cm.bt,h.cm.wg,h.cm.row,h.cm.ch,⟨h.cm.held.k,h.cm.held.o⟩,h.cm.size,h.cm.os,h.cm.tx,h.cm.out,h.cm.tp⟩,h.job⟩
end
def aRg(p:Pm)(k:Nat)(out:WG)(g:WC)(w:WA):Prop:=
 g.status=.running/\(Cm p w->∃g',stepG prog false g w=.go g' (w.setCell (aA p.row k) (sT out)) #[⟨.cell (aA p.row k),true,false⟩]/\
  ∀w',Cm p w'->Goes prog false (Rx p rU) (Dx p rU) (λg w=>J9 p g/\Cm p w) 8 g' w')
def aD5(p:Pm)(bx k:Nat)(text:WG)(g:WC)(w:WA):Prop:=
 g.status=.running/\FR p bx k text w/\∃fr,stepG prog false g w=.go (gr ((yC prog) text) (fr::[(bot prog)])) w #[]/\
  ∀out w',FR p bx k text w'->Goes prog false (Rx p (OnB bx)) (Dx p (OnB bx)) (aRg p k out) 8 (gr (fr.finish (sT out)) [(bot prog)]) w'
theorem bE5(p:Pm)(v3 v5 v6 v7 v8 v9 P6 P7 P8 P9 Q5:WB)(w:WA)(hF:Cm p w):Goes prog false (Rx p rU) (Dx p rU) (λg w=>J9 p g/\Cm p w) 8 (G (b8.at ⟨T8 p [v3,.chan (some p.ch),v5,v6,v7,v8,v9,P6,P7,P8,P9,Q5],[qR p]⟩ (.inRegion (gS f8) []::(k4 f8))) [(bot prog)]) w:=by
 refine rN ?_;clear hF;intro _ hF;simp only[k4];iterate 2 (refine rN ?_;clear hF;intro _ hF)
 simp only[qC,pT,f8,AJ];iterate 2 (refine rN ?_;clear hF;intro _ hF)
 refine Goes.stop (λ_ h₁=>?_);exact⟨⟨_,_,_,_,_,_,_,_,_,_,_,rfl⟩,hF.rx h₁⟩
end
section
theorem I0{a b c d e f g i:Bool}{j:Nat}(h:j∈Region.ready .any (gS f8) #[a,b,c,d,e,f,g,i]):(j=0/\a=false)\/(j=1/\b=false)\/(j=2/\b=true/\c=false)\/(j=3/\d=false)\/(j=4/\d=true/\e=false)\/(j=5/\e=true/\f=false)\/(j=6/\a=true/\b=true/\c=true/\d=true/\e=true/\f=true/\g=false)\/(j=7/\a=true/\b=true/\c=true/\d=true/\e=true/\f=true/\g=true/\i=false):=by have:=List.all_eq_true.1 (bCx a b c d e f g i) j h;simpa[or_assoc,and_assoc]using this
theorem bG1:(Tryz.prog.funcs[b8.fn]?).any (·.norace)=false:=oh
section
variable{main:Bool}{b:WK}{a:Act}{kk:List Item}{cs:List WK}{w:WA}{cZ:Array WQ}{i:Nat}{rest:List Nat}{o:WQ}
theorem aFf{x y:Operand}(ho:cZ[i]?=some o)(hw:Region.wanted o (yielded cZ a.tmps)=true)(hk:b.kind≠.early)(cK:o.op=.store 9 x y)
  {ad:WT}{v:WG}{u:WB}(hx:a.eval x=.pointer (some ad))(hy:a.eval y=sT v)(hc:w.cell? ad=some u)(hz:w.frozen? ad=false)(hq:(Tryz.prog.funcs[b.fn]?).any (·.norace)=false):
  stepG prog main (G (b.at a (.inRegion cZ (i::rest)::kk)) cs) w=.go (G (b.at (a.put o.dst undef) (.inRegion cZ rest::kk)) cs) (w.setCell ad (sT v)) #[⟨.cell ad,true,false⟩]:=by
 have hr:(execOp a.eval o).run prog w=.ok .skip (w.setCell ad (sT v)):=by unfold execOp;simp only[cK,hx,hy];simp[go_sem,stored,hc,hz]
 have he:(execOp a.eval o).events prog w #[]=#[⟨.cell ad,true,false⟩]:=by unfold execOp;simp only[cK,hx,hy];simp[go_sem,events_store prog w #[] ad (sT v) .plain rfl,hc,hz]
 rw[stepG_none ho hw hk hr];unfold listed;rw[he,seen_eq hq oe]
end
theorem aZ2{r:List Nat}(h:Sq #[true,true,true,true,true,true,true,true] r):r=[]:=by
 cases r with
 |nil=>rfl
 |cons j r=>
  have:=I0 h.1
  simp at this
theorem aN5:(f6.name== "runtime.NumGoroutine")=false:=oh
theorem U5:f6.body.isNone=false:=oh
theorem aVm:∀{r:List Nat}{l:Array Bool},Sq l r->l.size=8->r.length<=8:=by
 have key:∀(r:List Nat)(l:Array Bool),Sq l r->l.size=8->cn l.toList+r.length=8:=by
  intro r
  induction r with
  |nil=>intro l h _;rw[show l=_ from h];rfl
  |cons j r ih=>
   intro l h h8
   have h1:=ih _ h.2 (by simpa using h8)
   have:=aJj l.toList j (by have:=aV0 h.1;simpa[Array.getD_eq_getD_getElem?]using this)
   simp only[Array.toList_setIfInBounds]at h1
   simp only[List.length_cons]
   omega
 intro r l h h8;have:=key r l h h8;omega
theorem jS{P:WJ}{main:Bool}{R:WA->WA->Prop}{D:WA->WA->Array Event->Prop}{Stop:WC->WA->Prop}:∀{n m:Nat}{g:WC}{w:WA},Goes P main R D Stop n g w->n<=m->Goes P main R D Stop m g w
 |0,0,_,_,h,_=>h
 |0,_+1,_,_,h,_=>.inl h
 |n+1,0,_,_,_,hl=>absurd hl od
 |n+1,m+1,g,w,h,hl=>by
  rcases h with hs|⟨hr,fM⟩
  .exact .inl hs
  .refine .inr ⟨hr,λw₁ r=>?_⟩;obtain⟨g',w',es,e,hd,hn⟩:=goes_elim (fM w₁ r);rw[e];exact⟨hd,jS hn od⟩
theorem Cm.bE3{p:Pm}{w:WA}(h:Cm p w){k:Nat}(hk:k<p.n):∃u,w.cell? (aA p.row k)=some u/\w.frozen? (aA p.row k)=false:=by obtain⟨cs,h1,h2⟩:=h.row;exact⟨cs[k]' od,by simp[World.cell?,h1,h2,hk],by simp[World.frozen?,h1]⟩
theorem r4b(p:Pm)(bx k:Nat)(text out:WG)(hk:k<p.n):∀(r:List Nat)(a b c g:Bool)(v5 v6 v7 t8 t9 uV S8 J4 t13 t14:WB)(w:WA),Sq #[a,b,c,true,true,true,g,false] r->(a=true->t8=sL p.row p.n p.n)->(b=true->t9=pP bx)->(c=true->uV=iI k)->t13=sT out->(g=true->t14=.pointer (some (aA p.row k)))->FR p bx k text w->
  Goes prog false (Rx p (OnB bx)) (Dx p (OnB bx)) (aRg p k out) (r.length+0) (G (b8.at ⟨T8 p [pP bx,.chan (some p.ch),v5,v6,v7,t8,t9,uV,S8,J4,t13,t14],[qR p]⟩ (.inRegion (gS f8) r::(k4 f8))) [(bot prog)]) w:=by
 intro r
 induction r with
 |nil=>
  intro a b c g v5 v6 v7 t8 t9 uV S8 J4 t13 t14 w hs ha hb hc hf hg hF
  exact absurd hs (by simp[Sq])
 |cons j r ih=>
  intro a b c g v5 v6 v7 t8 t9 uV S8 J4 t13 t14 w hs ha hb hc hf hg hF
  obtain⟨hm,hr⟩:=hs
  rcases I0 hm with⟨rfl,x1⟩|⟨rfl,x1⟩|⟨rfl,x1,x2⟩|⟨rfl,x1⟩|⟨rfl,x1,x2⟩|⟨rfl,x1,x2⟩|⟨rfl,x1,x2,x3,x4,x5,x6,x7⟩|⟨rfl,x1,x2,x3,x4,x5,x6,x7,x8⟩
  .simp only[gS,Y6,uI,qC,pT,f8,AJ,T8]
   refine Goes.step rfl (λ_ h₁=>?_)
   replace hF:=hF.rx h₁
   clear h₁
   refine goes_oper_k rfl rfl ov (λK hK=>?_)
   have q0:=hF.cba
   go_simp
   refine hK _ _ ⟨.ev λe he=>?_,?_⟩
   .have hm:=mem_listed he
    simp[go_sem, *]at hm
    subst hm
    exact⟨_,rfl,.inl rfl⟩
   clear hK K q0
   try walk_nrm
   exact ih true b c g _ _ _ _ _ _ _ _ _ _  _ hr (λ_=>rfl) (by first|exact hb|exact λ_=>hb|exact rfl|exact λ_=>rfl) (by first|exact hc|exact λ_=>hc|exact rfl|exact λ_=>rfl) (by first|exact hf|exact λ_=>hf|exact rfl|exact λ_=>rfl) (by first|exact hg|exact λ_=>hg|exact rfl|exact λ_=>rfl) hF
  .simp only[gS,Y6,uI,qC,pT,f8,AJ,T8]
   refine rN ?_;clear hF;intro _ hF
   exact ih a true c g _ _ _ _ _ _ _ _ _ _  _ hr (by first|exact ha|exact λ_=>ha|exact rfl|exact λ_=>rfl) (λ_=>rfl) (by first|exact hc|exact λ_=>hc|exact rfl|exact λ_=>rfl) (by first|exact hf|exact λ_=>hf|exact rfl|exact λ_=>rfl) (by first|exact hg|exact λ_=>hg|exact rfl|exact λ_=>rfl) hF
  .have x3:=hb x1
   subst x3
   simp only[gS,Y6,uI,qC,pT,f8,AJ,T8]
   refine Goes.step rfl (λ_ h₁=>?_)
   replace hF:=hF.rx h₁
   clear h₁
   refine goes_oper_k rfl rfl ov (λK hK=>?_)
   have q0:=hF.c0
   go_simp
   refine hK _ _ ⟨.ev λe he=>?_,?_⟩
   .have hm:=mem_listed he
    simp[go_sem, *]at hm
    subst hm
    exact⟨_,rfl,.inr (.inr (.inl rfl))⟩
   clear hK K q0
   try walk_nrm
   exact ih a b true g _ _ _ _ _ _ _ _ _ _  _ hr (by first|exact ha|exact λ_=>ha|exact rfl|exact λ_=>rfl) (λ_=>rfl) (λ_=>rfl) (by first|exact hf|exact λ_=>hf|exact rfl|exact λ_=>rfl) (by first|exact hg|exact λ_=>hg|exact rfl|exact λ_=>rfl) hF
  .simp at x1
  .simp at x2
  .simp at x2
  .have y1:=ha x1
   subst y1
   have y2:=hc x3
   subst y2
   have hlt:(k:Int)<(p.n:Int):=od
   have hj0:(0:Int)<=(k:Int):=od
   simp only[gS,Y6,uI,qC,pT,f8,AJ,T8]
   refine rN ?_;clear hF;intro _ hF
   exact ih a b c true _ _ _ _ _ _ _ _ _ _  _ hr (λ_=>rfl) (by first|exact hb|exact λ_=>hb|exact rfl|exact λ_=>rfl) (λ_=>rfl) (by first|exact hf|exact λ_=>hf|exact rfl|exact λ_=>rfl) (λ_=>rfl) hF
  .have y1:=hg x7
   subst y1
   subst hf
   subst x1 x2 x3 x7
   have hr0:r=[]:=aZ2 hr
   subst hr0
   refine Goes.stop (λw1 h1=>⟨rfl,λuP=>?_⟩)
   obtain⟨u,i6,dS⟩:=uP.bE3 hk
   refine⟨_,aFf (o:=((gS f8)[7]?).getD default) oh rfl ov oh (x:=.tmp 14) (y:=.tmp 13) rfl rfl i6 dS bG1,λw' aOv=>?_⟩
   exact bE5 p _ _ _ _ _ _ _ _ _ _ _ w' aOv
theorem r4a(p:Pm)(bx k:Nat)(text:WG)(hk:k<p.n):∀(r:List Nat)(a b c d e:Bool)(v5 v6 v7 t8 t9 uV S8 J4 t13 t14:WB)(w:WA),Sq #[a,b,c,d,e,false,false,false] r->(a=true->t8=sL p.row p.n p.n)->(b=true->t9=pP bx)->(c=true->uV=iI k)->(d=true->S8=.pointer (some (aA bx 1)))->(e=true->J4=sT text)->(e=true->d=true)->FR p bx k text w->
  Goes prog false (Rx p (OnB bx)) (Dx p (OnB bx)) (aD5 p bx k text) (r.length+0) (G (b8.at ⟨T8 p [pP bx,.chan (some p.ch),v5,v6,v7,t8,t9,uV,S8,J4,t13,t14],[qR p]⟩ (.inRegion (gS f8) r::(k4 f8))) [(bot prog)]) w:=by
 intro r
 induction r with
 |nil=>
  intro a b c d e v5 v6 v7 t8 t9 uV S8 J4 t13 t14 w hs ha hb hc hd he hx hF
  exact absurd hs (by simp[Sq])
 |cons j r ih=>
  intro a b c d e v5 v6 v7 t8 t9 uV S8 J4 t13 t14 w hs ha hb hc hd he hx hF
  obtain⟨hm,hr⟩:=hs
  rcases I0 hm with⟨rfl,x1⟩|⟨rfl,x1⟩|⟨rfl,x1,x2⟩|⟨rfl,x1⟩|⟨rfl,x1,x2⟩|⟨rfl,x1,x2⟩|⟨rfl,x1,x2,x3,x4,x5,x6,x7⟩|⟨rfl,x1,x2,x3,x4,x5,x6,x7,x8⟩
  .simp only[gS,Y6,uI,qC,pT,f8,AJ,T8]
   refine Goes.step rfl (λ_ h₁=>?_)
   replace hF:=hF.rx h₁
   clear h₁
   refine goes_oper_k rfl rfl ov (λK hK=>?_)
   have q0:=hF.cba
   go_simp
   refine hK _ _ ⟨.ev λe he=>?_,?_⟩
   .have hm:=mem_listed he
    simp[go_sem, *]at hm
    subst hm
    exact⟨_,rfl,.inl rfl⟩
   clear hK K q0
   try walk_nrm
   exact ih true b c d e _ _ _ _ _ _ _ _ _ _  _ hr (λ_=>rfl) (by first|exact hb|exact λ_=>hb|exact rfl|exact λ_=>rfl) (by first|exact hc|exact λ_=>hc|exact rfl|exact λ_=>rfl) (by first|exact hd|exact λ_=>hd|exact rfl|exact λ_=>rfl) (by first|exact he|exact λ_=>he|exact rfl|exact λ_=>rfl) (by first|exact hx|exact λ_=>hx|exact rfl|exact λ_=>rfl) hF
  .simp only[gS,Y6,uI,qC,pT,f8,AJ,T8]
   refine rN ?_;clear hF;intro _ hF
   exact ih a true c d e _ _ _ _ _ _ _ _ _ _  _ hr (by first|exact ha|exact λ_=>ha|exact rfl|exact λ_=>rfl) (λ_=>rfl) (by first|exact hc|exact λ_=>hc|exact rfl|exact λ_=>rfl) (by first|exact hd|exact λ_=>hd|exact rfl|exact λ_=>rfl) (by first|exact he|exact λ_=>he|exact rfl|exact λ_=>rfl) (by first|exact hx|exact λ_=>hx|exact rfl|exact λ_=>rfl) hF
  .have x3:=hb x1
   subst x3
   simp only[gS,Y6,uI,qC,pT,f8,AJ,T8]
   refine Goes.step rfl (λ_ h₁=>?_)
   replace hF:=hF.rx h₁
   clear h₁
   refine goes_oper_k rfl rfl ov (λK hK=>?_)
   have q0:=hF.c0
   go_simp
   refine hK _ _ ⟨.ev λe he=>?_,?_⟩
   .have hm:=mem_listed he
    simp[go_sem, *]at hm
    subst hm
    exact⟨_,rfl,.inr (.inr (.inl rfl))⟩
   clear hK K q0
   try walk_nrm
   exact ih a b true d e _ _ _ _ _ _ _ _ _ _  _ hr (by first|exact ha|exact λ_=>ha|exact rfl|exact λ_=>rfl) (λ_=>rfl) (λ_=>rfl) (by first|exact hd|exact λ_=>hd|exact rfl|exact λ_=>rfl) (by first|exact he|exact λ_=>he|exact rfl|exact λ_=>rfl) (by first|exact hx|exact λ_=>hx|exact rfl|exact λ_=>rfl) hF
  .simp only[gS,Y6,uI,qC,pT,f8,AJ,T8]
   refine rN ?_;clear hF;intro _ hF
   exact ih a b c true e _ _ _ _ _ _ _ _ _ _  _ hr (by first|exact ha|exact λ_=>ha|exact rfl|exact λ_=>rfl) (by first|exact hb|exact λ_=>hb|exact rfl|exact λ_=>rfl) (by first|exact hc|exact λ_=>hc|exact rfl|exact λ_=>rfl) (λ_=>rfl) (by first|exact he|exact λ_=>he|exact rfl|exact λ_=>rfl) (λ_=>rfl) hF
  .have x3:=hd x1
   subst x3
   simp only[gS,Y6,uI,qC,pT,f8,AJ,T8]
   refine Goes.step rfl (λ_ h₁=>?_)
   replace hF:=hF.rx h₁
   clear h₁
   refine goes_oper_k rfl rfl ov (λK hK=>?_)
   have q0:=hF.c1
   go_simp
   refine hK _ _ ⟨.ev λe he=>?_,?_⟩
   .have hm:=mem_listed he
    simp[go_sem, *]at hm
    subst hm
    exact⟨_,rfl,.inr (.inr (.inl rfl))⟩
   clear hK K q0
   try walk_nrm
   exact ih a b c d true _ _ _ _ _ _ _ _ _ _  _ hr (by first|exact ha|exact λ_=>ha|exact rfl|exact λ_=>rfl) (by first|exact hb|exact λ_=>hb|exact rfl|exact λ_=>rfl) (by first|exact hc|exact λ_=>hc|exact rfl|exact λ_=>rfl) (λ_=>rfl) (λ_=>rfl) (by first|exact x1|exact λ_=>x1|exact rfl|exact λ_=>rfl) hF
  .have y1:=he x1
   subst y1
   refine Goes.stop (λw1 h1=>⟨rfl,hF.rx h1,b8.at ⟨T8 p [pP bx,.chan (some p.ch),v5,v6,v7,t8,t9,uV,S8,sT text,t13,t14],[qR p]⟩ (.inRegion (gS f8) (5::r)::(k4 f8)),?_,λout w' hF'=>?_⟩)
   .rw[stepG_enter (o:=((gS f8)[5]?).getD default) (f:=6) (args:=#[sT text]) (w':=w1) oh rfl ov (by rw[run_call_body (o:=((gS f8)[5]?).getD default) (args:=#[.tmp 12]) (ats:=#[9]) oh func6 aN5 U5];simp[Act.eval,T8])]
    have hl:listed prog b8.fn ⟨T8 p [pP bx,.chan (some p.ch),v5,v6,v7,t8,t9,uV,S8,sT text,t13,t14],[qR p]⟩ (((gS f8)[5]?).getD default) w1=#[]:=by
     unfold listed
     rw[events_call_body (o:=((gS f8)[5]?).getD default) (args:=#[.tmp 12]) (ats:=#[9]) oh func6 aN5 U5]
     exact seen_none _ _
    rw[hl]
    rfl
   .show Goes _ _ _ _ _ _ (G (Frame.finish (b8.at _ (.inRegion (gS f8) (5::r)::(k4 f8))) (sT out)) [(bot prog)]) w'
    rw[Frame.finish_at,show((gS f8)[5]?).bind (·.dst)=some 13 by kernel_rfl]
    have hl:r.length<=8:=aVm hr rfl
    refine jS ?_ hl
    have G5:d=true:=hx x1
    subst x1
    subst G5
    exact r4b p bx k text out hk r a b c false v5 v6 v7 _ _ _ _ _ _ _ w' hr ha hb hc rfl oe hF'
  .simp at x6
  .simp at x6
end
theorem wS{P:WJ}{fn:FuncId}{a:Act}{o:WQ}{w:WA}(he:(execOp a.eval o).events P w #[]=#[]):listed P fn a o w=#[]:=by unfold listed;rw[he,seen_none]
def aJ0(p:Pm)(bx k:Nat)(text:WG)(g:WC)(w:WA):Prop:=
 g.status=.running/\FR p bx 0 ⟨#[]⟩ w/\∃g' es,stepG prog false g w=.go g' ((w.setCell (aA bx 0) (iI k)).setCell (aA bx 1) (sT text)) es/\(∀e∈es,∃a,e=⟨.cell a,true,false⟩/\a.block=bx)/\
  ∀w',FR p bx k text w'->Goes prog false (Rx p (OnB bx)) (Dx p (OnB bx)) (aD5 p bx k text) 12 g' w'
def aJ1(p:Pm)(k:Nat)(text:WG)(g:WC)(w:WA):Prop:=
 g.status=.running/\Cm p w/\∃g',stepG prog false g w=.go g' (w.alloc (.cells (pC 0 ⟨#[]⟩) 44)) #[]/\
  ∀w',FR p w.1.size 0 ⟨#[]⟩ w'->Goes prog false (Rx p (OnB w.1.size)) (Dx p (OnB w.1.size)) (aJ0 p w.1.size k text) 1 g' w'
theorem bEi(p:Pm)(bx k:Nat)(text:WG)(hk:k<p.n)(v5 v6 v7 v8 v9 P6 P7 P8 P9 Q5:WB)(w:WA)(hF:FR p bx k text w):
  Goes prog false (Rx p (OnB bx)) (Dx p (OnB bx)) (aD5 p bx k text) 11 (G (b8.at ⟨T8 p [pP bx,.chan (some p.ch),v5,v6,v7,v8,v9,P6,P7,P8,P9,Q5],[qR p]⟩ (.inRegion (aAe f8) []::.code (.region 4 (gS f8) true)::(k4 f8))) [(bot prog)]) w:=by refine rN ?_;clear hF;intro _ hF;refine Goes.step rfl (λ_ h₁=>?_);replace hF:=hF.rx h₁;clear h₁;rw[stepG_region_draw];simp only[goes_go];refine⟨Dx.draw,?_⟩;refine jS ?_ (show 8<=9 by omega);exact jS (r4a p bx k text hk _ false false false false false _ _ _ _ _ _ _ _ _ _ _ (aNm _ _) oe oe oe oe oe oe (hF.at _)) (aVm (aNm _ _) rfl)
theorem bEn(p:Pm)(bx k:Nat)(text:WG)(hk:k<p.n)(v5 v6 v8 v9 P6 P7 P8 P9 Q5:WB)(w:WA)(hF:FR p bx 0 ⟨#[]⟩ w):
  Goes prog false (Rx p (OnB bx)) (Dx p (OnB bx)) (aJ0 p bx k text) 1 (G (b8.at ⟨T8 p [pP bx,.chan (some p.ch),v5,v6,msg k text,v8,v9,P6,P7,P8,P9,Q5],[qR p]⟩ (.inRegion (aAe f8) [2]::.code (.region 4 (gS f8) true)::(k4 f8))) [(bot prog)]) w:=by
 refine Goes.stop (λw₁ h₁=>?_);replace hF:=hF.rx h₁;clear h₁;refine⟨rfl,hF,_,_,stepG_none (o:=((aAe f8)[2]?).getD default) oh rfl ov ?_,?_,λw' hF'=>?_⟩
 .unfold execOp;simp only[show(((aAe f8)[2]?).getD default).op=.store 44 (.tmp 3) (.tmp 7)by kernel_rfl];have q0:=hF.c0;have q1:=hF.c1;have q2:w₁.frozen? (aA bx 0)=false:=by simp[World.frozen?,hF.job]
  have q3:w₁.frozen? (aA bx 1)=false:=by simp[World.frozen?,hF.job]
  simp[go_sem,Act.eval,T8,msg,stored,q0,q1,q2,q3]
 .intro e he;have hm:=mem_listed he;unfold execOp at hm;simp only[show(((aAe f8)[2]?).getD default).op=.store 44 (.tmp 3) (.tmp 7)by kernel_rfl]at hm;have q0:=hF.c0;have q2:w₁.frozen? (aA bx 0)=false:=by simp[World.frozen?,hF.job]
  have hb:(w₁.setCell (aA bx 0) (iI k)).1[bx]?=some (.cells ((pC 0 ⟨#[]⟩).setIfInBounds 0 (iI k)) 44):=by rw[setCell_eq_setRow w₁ bx 0 _ _ (0,0) _ hF.job,setRow_heap w₁ bx _ _ _ _ hF.job]
  have q3:(w₁.setCell (aA bx 0) (iI k)).cell? (aA bx 1)=some (sT ⟨#[]⟩):=by simp[World.cell?,hb,pC]
  have q4:(w₁.setCell (aA bx 0) (iI k)).frozen? (aA bx 1)=false:=by simp[World.frozen?,hb]
  simp[go_sem,Act.eval,T8,msg,stored,q0,q2,events_store prog _ _ (aA bx 1) (sT text) .plain rfl,q3,q4]at hm;rcases hm with rfl|rfl
  .exact⟨(aA bx 0),rfl,rfl⟩
  .exact⟨(aA bx 1),rfl,rfl⟩
 .exact jS (bEi p bx k text hk _ _ _ _ _ _ _ _ _ _ w' hF') od
theorem bH9(p:Pm)(k:Nat)(text:WG)(hk:k<p.n)(v3 v5 v6 v8 v9 P6 P7 P8 P9 Q5:WB)(w:WA)(hF:Cm p w):
  Goes prog false (Rx p rU) (Dx p rU) (aJ1 p k text) 1 (G (b8.at ⟨T8 p [v3,.chan (some p.ch),v5,v6,msg k text,v8,v9,P6,P7,P8,P9,Q5],[qR p]⟩ (.inRegion (aAe f8) [1,2]::.code (.region 4 (gS f8) true)::(k4 f8))) [(bot prog)]) w:=by
 refine Goes.stop (λw₁ h₁=>?_);replace hF:=hF.rx h₁;clear h₁;have hd:(((aAe f8)[1]?).getD default).dst=some 3:=oh;have cK:(((aAe f8)[1]?).getD default).op=.alloc 44:=oh;refine⟨rfl,hF,G (b8.at (Act.put ⟨T8 p [v3,.chan (some p.ch),v5,v6,msg k text,v8,v9,P6,P7,P8,P9,Q5],[qR p]⟩ (((aAe f8)[1]?).getD default).dst (pP w₁.1.size)) (.inRegion (aAe f8) [2]::.code (.region 4 (gS f8) true)::(k4 f8))) [(bot prog)],?_,λw' hF'=>?_⟩
 .rw[stepG_value (o:=((aAe f8)[1]?).getD default) (v:=pP w₁.1.size) (w':=w₁.alloc (.cells (pC 0 ⟨#[]⟩) 44)) oh rfl ov ?_]
  .rw[wS ?_];unfold execOp;simp only[cK];simp[go_sem]
  .unfold execOp;simp only[cK];simp[go_sem,pC];try rfl
 .rw[hd];exact bEn p _ k text hk _ _ _ _ _ _ _ _ _ w' hF'
theorem aYz(p:Pm)(k:Nat)(text:WG)(hk:k<p.n)(g:WC)(hg:J9 p g)(w:WA)(hF:Cm p w):
  Goes prog false (Rx p rU) (Dx p rU) (aJ1 p k text) 12 (Go.Conc.served g (tU #[msg k text,.bool true])) w:=zJz
