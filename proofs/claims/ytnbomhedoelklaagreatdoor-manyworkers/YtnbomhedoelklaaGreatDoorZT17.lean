import Derived.Test.YtnbomhedoelklaaGreatDoorZT15
namespace Go.Proofs.YtnbomhedoelklaaGreatDoor
set_option maxRecDepth 99999
set_option maxHeartbeats 0
open Go.Conc Go.ConcN
open Go.ConcR (KK wgBlock WgAt stA smA rd wr mk Payload Aside2 DC0 Bk g_of_ofEvents ofEvent_loc_mark ofEvent_cell ofEvent_mk again_blocked)
section
structure mG(X:Sp):Prop where
 rv:∀g,X.Rv g->g.status=.running/\∀w,stepG X.P false g w=.comm g #[rcase X.q.ch X.z] true (.recv true) w #[]
 serve:∀k g w,k<X.q.n->X.Rv g->Cg X.q w->∃m,GW X fR (aD9 X k) m (Go.Conc.served g (tU #[X.msg k,.bool true])) w
 leave:∀g w,X.Rv g->Cg X.q w->∃m,GW X fR (R0G X) m (Go.Conc.served g (tU #[X.z,.bool false])) w
 start:∀k C w,k<X.q.n->Cg X.q w->zP X.q.Y X.F (X.E k) C (X.ses k,[],X.q.w0) (rC id X.q.Y.G w.1.size) (gr (X.ses k) C) w
 pc:∀ρ N,(∀b,b<X.q.Y.G->ρ b=b)->(∀b c,ρ b=ρ c->b=c)->X.q.Y.G<=N->Pc (X.q.Y.at ρ N) X.F
 done:∀k fr w' ρ,X.E k fr w'->∃out,X.Told k out/\∀c l w,stepG X.P false (gr (bC ρ fr) (c::l)) w=.go (gr (c.finish (sT out)) l) w #[]
 spH:∀j g w,j<X.nw->X.SpH j g w->∃m,lK X (aD7 X j) m g w
 spN:∀g w,X.SpH X.nw g w->∃m,lK X (X.SdH 0) m g w
 sdH:∀i g w,i<X.q.n->X.SdH i g w->∃m,lK X (zL X i) m g w
 sdN:∀g w,X.SdH X.q.n g w->∃m,lK X (zK X) m g w
 anch:∀g w,X.W6 g w->∃m,lK X (aFs X) m g w
 rSp:∀j g w,X.SpH j g w->g.status=.running
 rSd:∀i g w,X.SdH i g w->g.status=.running
 rAn:∀g w,X.W6 g w->g.status=.running
 nw:1<=X.nw/\X.nw<=16
def CS(X:Sp)(tag:CTag)(sub j aI f d:Nat)(cl:Bool)(a:WC)(w:WA):Prop:=
 (tag=.sp j 6/\sub=0/\j<=X.nw/\aI=0/\d=0/\cl=false/\lK X (X.SpH j) f a w)\/
 (tag=.sp j 5/\sub=0/\j<X.nw/\aI=0/\d=0/\cl=false/\lK X (aD7 X j) f a w)\/
 (tag=.sp j 4/\sub=0/\j<X.nw/\aI=0/\d=1/\cl=false/\lK X (aIz X j) f a w)\/
 (tag=.sp j 3/\sub=0/\j<X.nw/\aI=0/\d=1/\cl=false/\lK X (T0 X j) f a w)\/
 (tag=.sp j 2/\sub=0/\j<X.nw/\aI=0/\d=1/\cl=false/\lK X (aFq X j) f a w)\/
 (tag=.sp j 1/\sub=0/\j<X.nw/\aI=0/\d=0/\cl=false/\lK X (aM4 X j) f a w)\/
 (tag=.sp aI 7/\sub=0/\j=X.nw/\aI<=X.q.n/\d=0/\cl=false/\lK X (X.SdH aI) f a w)\/
 (tag=.sp aI 8/\sub=0/\j=X.nw/\aI<X.q.n/\d=0/\cl=false/\((∃m,f=m+1/\lK X (zL X aI) m a w)\/(f=0/\∃z g0,a=sends X aI z g0/\∀w1,Rg X.q fR w w1->zL X aI g0 w1)))\/
 (tag=.sp 0 9/\sub=0/\j=X.nw/\aI=X.q.n/\d=0/\cl=false/\lK X (zK X) f a w)\/
 (tag=.kd/\sub=0/\j=X.nw/\aI=X.q.n/\d=0/\cl=true/\lK X (aM5 X) f a w)\/
 (tag=.anch/\sub=0/\j=X.nw/\aI=X.q.n/\d=1/\cl=true/\lK X X.W6 f a w)\/
 (tag=.w1/\sub=0/\j=X.nw/\aI=X.q.n/\d=1/\cl=true/\lK X (aFs X) f a w)\/
 (∃vs,tag=.w2 vs/\sub=0/\j=X.nw/\aI=X.q.n/\d=1/\cl=true/\lK X (aM6 X vs) f a w)\/
 (tag=.w3/\sub=1/\j=X.nw/\aI=X.q.n/\d=1/\cl=true/\lK X (aRi X) f a w)\/
 (tag=.w3/\sub=0/\j=X.nw/\aI=X.q.n/\d=1/\cl=true/\∃m,f=m+1/\lK X (aBz X) m a w)\/
 (tag=.blk/\sub=0/\j=X.nw/\aI=X.q.n/\d=1/\cl=true/\f=0/\∃g0,a={ g0 with status:=.blocked }/\∀w1,Rg X.q fR w w1->aBz X g0 w1)\/
 (tag=.w4/\sub=0/\j=X.nw/\aI=X.q.n/\d=1/\cl=true/\lK X (aM7 X) f a w)\/
 (tag=.ke/\sub=0/\j=X.nw/\aI=X.q.n/\d=1/\cl=true/\lK X (aFr X) f a w)\/
 (tag=.acq/\sub=0/\j=X.nw/\aI=X.q.n/\d=0/\cl=true/\lK X (aIy X) f a w)
section
variable{X:Sp}{tag:CTag}{sub j aI f d:Nat}{cl:Bool}{a:WC}{w w':WA}
theorem lK.sf{M':Nat->Prop}{Stop:WC->WA->Prop}{m:Nat}{g:WC}(h:lK X Stop m g w)(s:Sf X.q M' w w'):lK X Stop m g w':=Goes.rely Rg.trans h (s.rg noB)
theorem lK.running{Stop:WC->WA->Prop}{m:Nat}{g:WC}(hc:Cg X.q w)(fM:∀g w,Stop g w->g.status=.running)(h:lK X Stop m g w):g.status=.running:=Goes.running fM w (Rg.refl hc) h
theorem CS.rely(h:CS X tag sub j aI f d cl a w)(s:Sf X.q fR w w'):CS X tag sub j aI f d cl a w':=zGx
theorem CS.status(L:mG X)(hc:Cg X.q w)(h:CS X tag sub j aI f d cl a w):(a.status=.running/\tag≠.blk/\(tag=.sp aI 8->f≠0))\/(tag=.sp aI 8/\f=0/\j=X.nw/\cl=false/\aI<X.q.n/\∃z g0,a=sends X aI z g0/\∀w1,Rg X.q fR w w1->zL X aI g0 w1)\/(tag=.blk/\f=0/\∃g0,a={ g0 with status:=.blocked }/\aBz X g0 w):=have m30:=0;zGx
theorem CS.wokenBy(L:mG X)(h:CS X tag sub j aI f d cl a w)(s:Sf X.q fR w w')(cK:cl=false->∃s r,w'.1[X.q.ch]?=some (.chan 0 #[] false s r false))(g g':WC):
  ∃tag' f',CS X tag' sub j aI f' d cl (woken X.P g g' w' a) w'/\f'<=f+1/\(tag'=tag\/(tag=.blk/\tag'=.w3))/\(mayWake X.P g=true->g'.status=.running->tag'≠.blk)/\(tag=.sp aI 8->f'=f):=by
 have h':=h.rely s;unfold Go.Conc.woken;split
 .rcases h'.status L s.cm with⟨hs,eH,_⟩|⟨e1,e2,e3,e4,e5,z,g0,rfl,hg⟩|⟨rfl,e2,g0,rfl,hg⟩
  .exact⟨tag,f,by rw[again_running _ (.inl hs)];exact h',od,.inl rfl,λ_ _=>eH,λ_=>rfl⟩
  .obtain⟨s1,r1,ho⟩:=cK e4;refine⟨tag,f,?_,od,.inl rfl,λ_ _=>by simp[e1],λ_=>rfl⟩;rw[show(sends X aI z g0).again w'=sends X aI z g0 from again_send_open ho];exact h'
  .rcases h' with⟨h1,_⟩|⟨h1,_⟩|⟨h1,_⟩|⟨h1,_⟩|⟨h1,_⟩|⟨h1,_⟩|⟨h1,_⟩|⟨h1,_⟩|⟨h1,_⟩|⟨h1,_⟩|⟨h1,_⟩|⟨h1,_⟩|⟨vs,h1,_⟩|⟨h1,_⟩|⟨h1,_⟩|⟨h1,h2,h3,h4,h5,h6,h7,g1,h8,h⟩|⟨h1,_⟩|⟨h1,_⟩|⟨h1,_⟩<;>cases h1;have hg1:=h w' (Rg.refl s.cm);refine⟨.w3,1,?_,od,.inr ⟨rfl,rfl⟩,λ_ _=>by simp,oe⟩;rw[h8,again_blocked hg1.1 hg1.2.1];exact rA8 (dA6 ⟨rfl,h2,h3,h4,h5,h6,0,rfl,Goes.stop h⟩)
 .rename_i hc;exact⟨tag,f,h',od,.inl rfl,λh1 h2=>absurd (by simp[h1,h2]) hc,λ_=>rfl⟩
end
def wd{X:Sp}(d:gP X):WD:=⟨min d.stage 7,d.fuel,d.deaf⟩
def D7{X:Sp}(D:Nat->gP X)(i:Nat):WD:=wd (D i)
theorem W8{X:Sp}(D:Nat->gP X)(i:Nat)(d:gP X):D7 (upd D i d)=upd (D7 D) i (wd d):=by
 funext a;by_cases e:a=i
 .subst e;simp[D7,upd_same]
 .simp[D7,upd_ne _ _ e]
def cQ(nw n v:Nat)(sub:Nat):CTag->Nat
 |.sp r s=>if s=9 then 8*nw+20 else if s=8 then 8*nw+34+20*(n-r)else if s=7 then 8*nw+35+20*(n-r)else 8*nw+60+20*n+60*(nw-r)+s
 |tag=>phi nw v tag+sub
theorem aL8(nw n sub:Nat){v v':Nat}(h:v'<=v)(tag:CTag):cQ nw n v' sub tag<=cQ nw n v sub tag:=by cases tag<;>simp only[cQ,phi]<;>(try exact kG _)<;>omega
theorem yV(nw n v sub:Nat){tag tag':CTag}(e:tag'=tag\/(tag=.blk/\tag'=.w3)):cQ nw n v sub tag'=cQ nw n v sub tag:=by rcases e with rfl|⟨rfl,rfl⟩<;>rfl
def mu(X:Sp)(tag:CTag)(sub j f0:Nat)(D:Nat->gP X)(qf:WN):Nat×(Nat->WL X.P)×Nat:=
 (cQ X.nw X.q.n (Vc j (D7 D)) sub tag+sumTo j (λi=>(D i).stage),(λi=>(D i).ls),f0+2*sumTo j (λi=>(D i).fuel)+2*sumTo (X.j0+1) qf)
def Xcl{X:Sp}(tag:CTag)(aI f0 j:Nat)(D:Nat->gP X):Prop:=tag=.sp aI 8->f0=0->∀i,i<j->(D i).stage=8->(D i).fuel≠0
def Inv(X:Sp)(μ:Nat×(Nat->WL X.P)×Nat)(m:Machine)(t:WO):Prop:=
 ∃(gs:Array WC)(w:WA)(sl:Option (Nat×Nat))(j aI:Nat)(AE:WN)(D:Nat->gP X)(qf:WN)(tag:CTag)(sub f0 d0:Nat)(cl:Bool)(a:WC)(st sm:Int),
  m=crowd gs w sl/\gs[0]?=some a/\CS X tag sub j aI f0 d0 cl a w/\Com X j aI AE gs w t D qf d0 cl/\WgAt X.q.tW X.q.Wg w st sm/\Go.ConcN.Mode j (D7 D) tag st sm/\Xcl tag aI f0 j D/\j<=X.nw/\μ=mu X tag sub j f0 D qf
end
section
variable{i j:Nat}{pO sm':Int}
section
variable{X:Sp}{gs:Array WC}{w w':WA}{sl:Option (Nat×Nat)}{j aI:Nat}{AE:WN}{D:Nat->gP X}{qf:WN}{tag:CTag}{sub f0 d0:Nat}{cl:Bool}{a:WC}{t:WO}{st sm:Int}
def gY(X:Sp)(r:Stepped×Array MemOp)(μ:Nat×(Nat->WL X.P)×Nat)(t:WO):Prop:=∃m₁ cZ μ',r=(.next m₁,cZ)/\MLt X.nw μ' μ/\Inv X μ' m₁ (t++cZ)
theorem wF(D:Nat->gP X)(d':gP X)(hi:i<j):sumTo j (λi'=>(upd D i d' i').stage)+(D i).stage=sumTo j (λi'=>(D i').stage)+d'.stage/\sumTo j (λi'=>(upd D i d' i').fuel)+(D i).fuel=sumTo j (λi'=>(D i').fuel)+d'.fuel:=⟨sumTo_upd D d' gP.stage hi,sumTo_upd D d' gP.fuel hi⟩
theorem aFm(D:Nat->gP X)(d':gP X)(hi:i<j):Vc j (D7 (upd D i d'))+cnt (wd (D i))=Vc j (D7 D)+cnt (wd d'):=by rw[W8];exact Vc_upd (D7 D) (wd d') hi
theorem workerStep(G:Geo X)(L:mG X)(ha:gs[0]?=some a)(fO:CS X tag sub j aI f0 d0 cl a w)(aL:Com X j aI AE gs w t D qf d0 cl)(hx:Xcl tag aI f0 j D)(hj:j<=X.nw)
  (hi:i<j){g g':WC}{es:Array Event}{d':gP X}{c:Option Nat}(hg:gs[X.j0+1+i]?=some g)(dH:stepG X.P false g w=.go g' w' es)
  (hT:Tn X (D i).own c w w')(cP:∀b,d'.own b↔(D i).own b\/(w.1.size<=b/\b<w'.1.size))(C5:WS X d' g' w')(hev:∀e∈es,EvO X d'.own c e)
  (hc:∀k,c=some k->(D i).job=some k)(aSy:deafBehind (D i).deaf es=d'.deaf)
  (hrel:d'.stage<=6->∃r,RelBy (stA X.q.Wg) (t++MemOp.ofEvents (X.j0+1+i) g.frame.fn g.frame.place es) (X.j0+1+i) r)
  (aEd:d'.job=(D i).job\/(d'.job=none/\∃k out,(D i).job=some k/\X.Told k out/\w'.cell? (aA X.q.row k)=some (sT out)))
  (hch:w'.1[X.q.ch]?=w.1[X.q.ch]?)(hlv:d'.stage<=7->cl=true)(h8:d'.stage=8->d'.fuel≠0)
  (dK:WgAt X.q.tW X.q.Wg w' pO sm')(aA2:∀tag',(tag'=tag\/(tag=.blk/\tag'=.w3))->(mayWake X.P g=true->g'.status=.running->tag'≠.blk)->Go.ConcN.Mode j (D7 (upd D i d')) tag' pO sm')
  (hlt:(d'.stage<(D i).stage/\cnt (wd d')<=cnt (wd (D i)))\/(d'.stage=(D i).stage/\((d'.ls=(D i).ls/\d'.fuel<(D i).fuel)\/(WLt d'.ls (D i).ls/\d'.fuel=(D i).fuel)))):
  gY X (runT X.P (crowd gs w sl) (X.j0+1+i)) (mu X tag sub j f0 D qf) t:=by
 have hM:∀b,(D i).own b->X.q.L<=b:=λb hb=>(aL.own i hi b hb).1;have hs0:Sf X.q fR w w':=hT.sf G aL.cm hM (λ_ hb=>hb.elim) λ_ _ hb=>hb;have cK:cl=false->∃s r,w'.1[X.q.ch]?=some (.chan 0 #[] false s r false):=λe=>by subst e;obtain⟨s,r,h⟩:=aL.chs;exact⟨s,r,hch.trans h⟩
 obtain⟨tag',f',xE,hf',R8,hwk,h8f⟩:=fO.wokenBy L hs0 cK g g';have hi0:(X.j0+1+i==0)=false:=oe;have dY:=runT_crowd_go (P:=X.P) (sl:=sl) (i:=X.j0+1+i) hg (by rw[hi0];exact dH);have fF:=aL.stepW G (λg hg=>(L.rv g hg).1) hi (fn:=g.frame.fn) (pos:=g.frame.place) (g':=g') hg hT cP C5 hev hc aSy hrel aEd hch hlv (λe1 e2=>absurd e2 (h8 e1));obtain⟨e1,e2⟩:=wF D d' hi;have e3:=aFm D d' hi;refine⟨_,_,mu X tag' sub j f' (upd D i d') qf,dY,?_,_,w',sl,j,aI,AE,upd D i d',qf,tag',sub,f',d0,cl,_,pO,sm',rfl,by rw[get_map_set _ _ _ _ od,ha];rfl,xE,fF,dK,aA2 tag' R8 hwk,?_,hj,rfl⟩
 .unfold mu;rcases hlt with⟨h1,h2⟩|⟨h1,h2⟩
  .refine .inl ?_;show cQ _ _ _ _ _+_<cQ _ _ _ _ _+_;rw[yV _ _ _ _ R8];have:=aL8 X.nw X.q.n sub (v':=Vc j (D7 (upd D i d'))) (v:=Vc j (D7 D)) od tag;omega
  .have ec:cnt (wd d')=cnt (wd (D i)):=by show(if 5<=min d'.stage 7 then 1 else 0)=(if 5<=min (D i).stage 7 then 1 else 0);rw[h1]
   have ev:Vc j (D7 (upd D i d'))=Vc j (D7 D):=od;refine .inr ⟨?_,?_⟩
   .show cQ _ _ _ _ _+_=cQ _ _ _ _ _+_;rw[yV _ _ _ _ R8,ev];omega
   .rcases h2 with⟨h2,h3⟩|⟨h2,h3⟩
    .refine .inr ⟨?_,?_⟩
     .funext i';show(upd D i d' i').ls=(D i').ls;by_cases e:i'=i
      .rw[e,upd_same,h2]
      .rw[upd_ne D _ e]
     .show f'+2*_+_<f0+2*_+_;omega
    .refine .inl ⟨i,od,?_,λi' dN=>?_⟩
     .show WLt (upd D i d' i).ls (D i).ls;rw[upd_same];exact h2
     .show(upd D i d' i').ls=(D i').ls;rw[upd_ne D _ dN]
 .intro e1 e2 i' dN e3;by_cases e:i'=i
  .subst e;rw[upd_same]at e3⊢;exact h8 e3
  .rw[upd_ne D _ e]at e3⊢;rcases R8 with rfl|⟨_,rfl⟩
   .exact hx e1 (by rw[<-h8f e1];exact e2) i' dN e3
   .cases e1
theorem nY{g:WC}(aL:Com X j aI AE gs w t D qf d0 cl)(hi:i<j)(hg:gs[X.j0+1+i]?=some g):WS X (D i) g w:=by obtain⟨g₁,hg₁,hs⟩:=aL.wk i hi;rw[hg]at hg₁;cases hg₁;exact hs
theorem callerStep(G:Geo X)(L:mG X)(ha:gs[0]?=some a)(aL:Com X j aI AE gs w t D qf d0 cl)(hj:j<=X.nw)
  {a':WC}{es:Array Event}{tag':CTag}{sub' f':Nat}(dH:stepG X.P true a w=.go a' w' es)(hT:Tn X fR none w w')(hch:w'.1[X.q.ch]?=w.1[X.q.ch]?)(hev:∀e∈es,EvM X e)
  (xE:CS X tag' sub' j aI f' (deafBehind d0 es) cl a' w')(dK:WgAt X.q.tW X.q.Wg w' pO sm')(aA2:Go.ConcN.Mode j (D7 D) tag' pO sm')(hx:Xcl tag' aI f' j D)
  (hlt:cQ X.nw X.q.n (Vc j (D7 D)) sub' tag'<cQ X.nw X.q.n (Vc j (D7 D)) sub tag\/(cQ X.nw X.q.n (Vc j (D7 D)) sub' tag'=cQ X.nw X.q.n (Vc j (D7 D)) sub tag/\f'<f0)):
  gY X (runT X.P (crowd gs w sl) 0) (mu X tag sub j f0 D qf) t:=by
 have dY:=runT_crowd_go (P:=X.P) (sl:=sl) (i:=0) ha jc;obtain⟨s,r,hs⟩:=aL.chs;have cK:cl=false->∃s r,w'.1[X.q.ch]?=some (.chan 0 #[] false s r false):=λe=>by subst e;exact⟨s,r,hch.trans hs⟩
 have fF:=aL.step0 G (fn:=a.frame.fn) (pos:=a.frame.place) (a:=a) (a':=a') hT hev (λi=>⟨rfl,rfl,rfl,rfl⟩) (aL.wk0 G (λg hg=>(L.rv g hg).1) hT cK a a') ⟨s,r,hch.trans hs⟩ id aL.pk;refine⟨_,_,mu X tag' sub' j f' D qf,dY,?_,_,w',sl,j,aI,AE,D,qf,tag',sub',f',deafBehind d0 es,cl,a',pO,sm',rfl,get_map_set_same _ _ _ jv,xE,fF,dK,aA2,hx,hj,rfl⟩;unfold mu;rcases hlt with h|⟨h1,h2⟩
 .refine .inl ?_;show cQ _ _ _ _ _+_<cQ _ _ _ _ _+_;omega
 .refine .inr ⟨?_,.inr ⟨rfl,?_⟩⟩
  .show cQ _ _ _ _ _+_=cQ _ _ _ _ _+_;omega
  .show f'+2*_+_<f0+2*_+_;omega
end
end
