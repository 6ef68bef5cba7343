import Derived.Test.YtnbomhedoelklaaGreatDoorZT17
namespace Go.Proofs.YtnbomhedoelklaaGreatDoor
set_option maxRecDepth 99999
set_option maxHeartbeats 0
open Go.Conc Go.ConcN
open Go.ConcR (KK wgBlock WgAt stA smA rd wr mk Payload Aside2 DC0 Bk g_of_ofEvents ofEvent_loc_mark ofEvent_cell ofEvent_mk again_blocked bk_of_mute)
section
section
variable{X:Sp}{gs:Array WC}{w w':WA}{sl:Option (Nat×Nat)}{j aI:Nat}{AE:WN}{D:Nat->gP X}{qf:WN}{tag:CTag}{sub f0 d0:Nat}{cl:Bool}{a:WC}{t:WO}{st sm:Int}
 {i:Nat}{g g':WC}{es:Array Event}{d':gP X}{c:Option Nat}
theorem aKi(hm:Go.ConcN.Mode j (D7 D) tag st sm)(h:min d'.stage 7=min (D i).stage 7):∀tag',(tag'=tag\/(tag=.blk/\tag'=.w3))->(mayWake X.P g=true->g'.status=.running->tag'≠.blk)->Go.ConcN.Mode j (D7 (upd D i d')) tag' st sm:=λtag' ht _=>by
 refine Mode.retag (hm.congr λa _=>?_) ht;rw[W8];by_cases e:a=i
 .subst e;rw[upd_same];exact h
 .rw[upd_ne _ _ e]
theorem aA1(G:Geo X)(L:mG X)(ha:gs[0]?=some a)(fO:CS X tag sub j aI f0 d0 cl a w)(aL:Com X j aI AE gs w t D qf d0 cl)(hx:Xcl tag aI f0 j D)(hj:j<=X.nw)(dK:WgAt X.q.tW X.q.Wg w st sm)(hm:Go.ConcN.Mode j (D7 D) tag st sm)
  (hi:i<j)(hg:gs[X.j0+1+i]?=some g)(dH:stepG X.P false g w=.go g' w' es)
  (hT:Tn X (D i).own c w w')(cP:∀b,d'.own b↔(D i).own b\/(w.1.size<=b/\b<w'.1.size))(C5:WS X d' g' w')(hev:∀e∈es,EvO X d'.own c e)(hnm:∀e∈es,e.loc≠.mark .disable/\e.loc≠.mark .enable)
  (hc:∀k,c=some k->(D i).job=some k)(hdd:d'.deaf=(D i).deaf)(h7:7<=(D i).stage)(h7':7<=d'.stage)
  (aEd:d'.job=(D i).job\/(d'.job=none/\∃k out,(D i).job=some k/\X.Told k out/\w'.cell? (aA X.q.row k)=some (sT out)))
  (hch:w'.1[X.q.ch]?=w.1[X.q.ch]?)(hwb:w'.1[X.q.Wg]?=w.1[X.q.Wg]?)(hlv:d'.stage=7->cl=true)(h8:d'.stage=8->d'.fuel≠0)
  (hlt:d'.stage<(D i).stage\/(d'.stage=(D i).stage/\((d'.ls=(D i).ls/\d'.fuel<(D i).fuel)\/(WLt d'.ls (D i).ls/\d'.fuel=(D i).fuel)))):
  gY X (runT X.P (crowd gs w sl) (X.j0+1+i)) (mu X tag sub j f0 D qf) t:=by
 refine workerStep G L ha fO aL hx hj hi hg dH hT cP C5 hev hc (by rw[hdd];exact deafBehind_still hnm _) (λh=>absurd h od) aEd hch (λh=>hlv od) h8 (dK.of_block hwb) (aKi hm od) ?_;rcases hlt with h|h
 .refine .inl ⟨h,?_⟩;have e1:cnt (wd d')=1:=by show(if 5<=min d'.stage 7 then 1 else 0)=1;rw[kK od]
  have e2:cnt (wd (D i))=1:=by show(if 5<=min (D i).stage 7 then 1 else 0)=1;rw[kK od]
  omega
 .exact .inr h
theorem aZf{M M':Nat->Prop}(hM:∀b,M b->M' b){e:Event}(h:ErG X.q M e):EvO X M' c e/\e.loc≠.mark .disable/\e.loc≠.mark .enable:=by obtain⟨ad,rfl,h⟩:=h;exact⟨.inl ⟨ad,rfl,h.imp id (Or.imp id (Or.imp (hM _) id))⟩,oe,oe⟩
theorem aCh(G:Geo X)(L:mG X)(ha:gs[0]?=some a)(fO:CS X tag sub j aI f0 d0 cl a w)(aL:Com X j aI AE gs w t D qf d0 cl)(hx:Xcl tag aI f0 j D)(hj:j<=X.nw)(dK:WgAt X.q.tW X.q.Wg w st sm)(hm:Go.ConcN.Mode j (D7 D) tag st sm)
  (hi:i<j)(hg:gs[X.j0+1+i]?=some g)(dH:stepG X.P false g w=.go g' w' es){M:Nat->Prop}(hd:Dg X.q M w w' es)(hM:∀b,M b->(D i).own b)(nf:Nat)(C5:WS X { D i with fuel:=nf } g' w')(hnf:nf<(D i).fuel)(h7:7<=(D i).stage)(h8:(D i).stage=8->nf≠0):
  gY X (runT X.P (crowd gs w sl) (X.j0+1+i)) (mu X tag sub j f0 D qf) t:=by obtain⟨⟨d,rfl⟩,he⟩:=hd;have hL:∀b,(D i).own b->X.q.L<=b:=λb hb=>(aL.own i hi b hb).1;exact aA1 (c:=none) (d':={ D i with fuel:=nf }) G L ha fO aL hx hj dK hm hi hg dH (.at G aL.cm hL d) (λb=>⟨.inl,λh=>h.elim id λx=>by have:b<w.1.size:=x.2;omega⟩) C5 (λe h=>(aZf hM (he e h)).1) (λe h=>(aZf (c:=none) hM (he e h)).2) oe rfl h7 h7 (.inl rfl) rfl rfl (λh=>aL.lv i hi (by simp only at h;omega)) h8 (.inr ⟨rfl,.inl ⟨rfl,hnf⟩⟩)
theorem yK(w:WA)(o:Obj):(w.alloc o).1=w.1.push o:=rfl
theorem X7(w:WA)(o:Obj):(w.alloc o).1.size=w.1.size+1:=by rw[yK,Array.size_push]
theorem alloc_old(w:WA)(o:Obj){b:Nat}(h:b<w.1.size):(w.alloc o).1[b]?=w.1[b]?:=by rw[yK,Array.getElem?_push_lt h,Array.getElem?_eq_getElem h]
theorem aNx(w:WA)(o:Obj):(w.alloc o).1[w.1.size]?=some o:=by rw[yK,Array.getElem?_push_size]
theorem aNa{M:Nat->Prop}{n n':Nat}:∀b,(λb=>M b\/(n<=b/\b<n')) b↔M b\/(n<=b/\b<n'):=λ_=>Iff.rfl
theorem sW{M:Nat->Prop}{n n':Nat}(h:n'=n):∀b,M b↔M b\/(n<=b/\b<n'):=λb=>⟨.inl,λx=>x.elim id λy=>by omega⟩
theorem bEc(G:Geo X)(L:mG X)(ha:gs[0]?=some a)(fO:CS X tag sub j aI f0 d0 cl a w)(aL:Com X j aI AE gs w t D qf d0 cl)(hx:Xcl tag aI f0 j D)(hj:j<=X.nw)(dK:WgAt X.q.tW X.q.Wg w st sm)(hm:Go.ConcN.Mode j (D7 D) tag st sm)
  (hi:i<j)(hg:gs[X.j0+1+i]?=some g)(h10:10<=(D i).stage):gY X (runT X.P (crowd gs w sl) (X.j0+1+i)) (mu X tag sub j f0 D qf) t:=have m57:=0;zHo
end
end
section
section
variable{X:Sp}{gs:Array WC}{w w':WA}{sl:Option (Nat×Nat)}{j aI:Nat}{AE:WN}{D:Nat->gP X}{qf:WN}{tag:CTag}{sub f0 d0:Nat}{cl:Bool}{a:WC}{t:WO}{st sm:Int}
 {i:Nat}{g g':WC}{es:Array Event}
def lv(d:gP X)(s m dd:Nat):gP X:={ d with stage:=s,fuel:=m,deaf:=dd }
theorem aZe{D:Nat->gP X}{i s m dd:Nat}(hs:s<=7):D7 (upd D i (lv (D i) s m dd))=upd (D7 D) i ⟨s,m,dd⟩:=by rw[W8];congr 1;show(⟨min s 7,m,dd⟩:WD)=_;rw[Nat.min_eq_left hs]
theorem zT(G:Geo X)(L:mG X)(ha:gs[0]?=some a)(fO:CS X tag sub j aI f0 d0 cl a w)(aL:Com X j aI AE gs w t D qf d0 cl)(hx:Xcl tag aI f0 j D)(hj:j<=X.nw)
  (hi:i<j)(hg:gs[X.j0+1+i]?=some g){s' m' dd':Nat}{pO sm':Int}(dH:stepG X.P false g w=.go g' w' es)(hA:Conc.Aside X.q.Wg w w')(sU:WgAt X.q.tW X.q.Wg w' pO sm')(hev:∀e∈es,Bk X.q.Wg e\/e.mute=true)
  (hd:∀jx e,es[jx]?=some e->(MemAct.ofEvent e).touch?=none\/0<deafBehind (D i).deaf (es.extract 0 jx))(C5:WS X (lv (D i) s' m' dd') g' w')(hdd:deafBehind (D i).deaf es=dd')(h6:(D i).stage<=6)(hs6:s'<=6)
  (aA2:∀tag',(tag'=tag\/(tag=.blk/\tag'=.w3))->(mayWake X.P g=true->g'.status=.running->tag'≠.blk)->Go.ConcN.Mode j (upd (D7 D) i ⟨s',m',dd'⟩) tag' pO sm')
  (hlt:(s'<(D i).stage/\cnt ⟨s',m',dd'⟩<=cnt (wd (D i)))\/(s'=(D i).stage/\m'<(D i).fuel)):
  gY X (runT X.P (crowd gs w sl) (X.j0+1+i)) (mu X tag sub j f0 D qf) t:=by
 have hL:∀b,(D i).own b->X.q.L<=b:=λb hb=>(aL.own i hi b hb).1;have hbk:∀e∈es,Bk X.q.Wg e:=λe he=>(hev e he).elim id bk_of_mute;refine workerStep (c:=none) (d':=lv (D i) s' m' dd') G L ha fO aL hx hj hi hg dH (.wg G aL.cm hL hA ⟨_,_,sU⟩) (sW hA.size) C5 (λe he=>(hev e he).elim (λh=>dA5 h) λh=>dA7 h) oe hdd (λ_=>?_) (.inl rfl) (hA.block _ G.Wch.symm) (λ_=>aL.lv i hi od) (λh=>absurd h (by show s'≠8;omega)) sU (λtag' ht hw=>by rw[aZe od];exact aA2 tag' ht hw) ?_
 .obtain⟨r,hr⟩:=aL.rel i hi h6;exact⟨r,hr.book (aL.deafW i hi) _ _ hbk hd⟩
 .rcases hlt with⟨h1,h2⟩|⟨h1,h2⟩
  .refine .inl ⟨h1,?_⟩;have:cnt (wd (lv (D i) s' m' dd'))=cnt ⟨s',m',dd'⟩:=by show(if 5<=min s' 7 then 1 else 0)=(if 5<=s' then 1 else 0);rw[Nat.min_eq_left od]
   omega
  .exact .inr ⟨h1,.inl ⟨rfl,h2⟩⟩
theorem d7s{D:Nat->gP X}{i s:Nat}(h:(D i).stage=s)(hs:s<=7):(D7 D i).stage=s:=by show min (D i).stage 7=s;omega
theorem bBx(G:Geo X)(L:mG X)(ha:gs[0]?=some a)(fO:CS X tag sub j aI f0 d0 cl a w)(aL:Com X j aI AE gs w t D qf d0 cl)(hx:Xcl tag aI f0 j D)(hj:j<=X.nw)(dK:WgAt X.q.tW X.q.Wg w st sm)(hm:Go.ConcN.Mode j (D7 D) tag st sm)
  (hi:i<j)(hg:gs[X.j0+1+i]?=some g)(h7:(D i).stage<=7)(dY:g.status=.running):gY X (runT X.P (crowd gs w sl) (X.j0+1+i)) (mu X tag sub j f0 D qf) t:=zHo
end
end
section
section
variable{X:Sp}{gs:Array WC}{w w':WA}{sl:Option (Nat×Nat)}{j aI:Nat}{AE:WN}{D:Nat->gP X}{qf:WN}{tag:CTag}{sub f0 d0:Nat}{cl:Bool}{a:WC}{t:WO}{st sm:Int}
 {i:Nat}{g g':WC}{es:Array Event}
theorem bHh(L:mG X)(ha:gs[0]?=some a)(fO:CS X tag sub j aI f0 d0 cl a w)(aL:Com X j aI AE gs w t D qf d0 cl){k:Nat}{x:WC}(hk:gs[k]?=some x)(ho:offersAt x X.q.ch false≠[]):∃i,i<j/\k=X.j0+1+i/\(D i).stage=8/\(D i).fuel=0/\∃g0,X.Rv g0/\x=waits X g0:=zHb
theorem bHi(L:mG X)(aL:Com X j aI AE gs w t D qf d0 cl){k:Nat}{x:WC}(hk:gs[k]?=some x)(ho:offersAt x X.q.ch true≠[]):k=0:=have m44:=0;zHb
theorem F7{w:WA}{c:Nat}{o:Obj}(h:w.1[c]?=some o)(cap:Nat)(buf:Array WB)(cl:Bool)(s r:Nat)(tm:Bool):(w.setChan c cap buf cl s r tm).1[c]?=some (.chan cap buf cl s r tm):=by have:=lt_of_heap h;simp[World.setChan,this]
theorem aO6(w:WA)(c cap:Nat)(buf:Array WB)(cl:Bool)(s r:Nat):(w.setChan c cap buf cl s r false).1.size=w.1.size:=by simp[World.setChan]
theorem aMj{w:WA}{c b:Nat}(h:b≠c)(cap:Nat)(buf:Array WB)(cl:Bool)(s r:Nat)(tm:Bool):(w.setChan c cap buf cl s r tm).1[b]?=w.1[b]?:=by simp[World.setChan,AN (Ne.symm h)]
theorem Tn.setChan(G:Geo X)(h:Cg X.q w)(d:Nat)(cl:Bool)(s r:Nat):Tn X fR none w ((w.at d).setChan X.q.ch 0 #[] cl s r false):=by obtain⟨cl0,s0,r0,hc⟩:=h.ch;exact .ch G h (λ_ x=>x.elim) (aO6 _ _ _ _ _ _ _) ⟨rfl,rfl,rfl⟩ (λb hb=>aMj (w:=w.at d) hb _ _ _ _ _ _) ⟨cl,s,r,F7 (w:=w.at d) hc _ _ _ _ _ _⟩
theorem aAu(G:Geo X)(dK:WgAt X.q.tW X.q.Wg w st sm)(d:Nat)(cl:Bool)(s r:Nat):WgAt X.q.tW X.q.Wg ((w.at d).setChan X.q.ch 0 #[] cl s r false) st sm:=
 dK.of_block (aMj (w:=w.at d) G.Wch _ _ _ _ _ _)
theorem aZo(G:Geo X)(L:mG X)(aL:Com X j aI AE gs w t D qf d0 false)(hm:Go.ConcN.Mode j (D7 D) tag st sm)(dK:WgAt X.q.tW X.q.Wg w st sm)(hj:j=X.nw)(hsn:aI<X.q.n)(hd0:d0=0)(R8:tag=.sp aI 8)
  (hi:i<j)(h8:(D i).stage=8)(hdf:(D i).deaf=0)(hjn:(D i).job=none){g0 a0:WC}{d s r:Nat}{rX:Array WC}{u:WO}(hrv:X.Rv g0)
  (bFn:∀w',Rg X.q fR w w'->∃m,lK X (X.SdH (aI+1)) m (Go.Conc.served a0 undef) w')
  (hsz:rX.size=gs.size)(h0:rX[0]?=some (Go.Conc.served a0 undef))(hwi:rX[X.j0+1+i]?=some (Go.Conc.served g0 (tU #[X.msg aI,.bool true])))(uR:∀k,k≠0->k≠X.j0+1+i->rX[k]?=gs[k]?)
  (hu:∀op∈u,op.g<=X.j0+j/\op.act.touch?=none/\(∀m,op.act≠.mark m)/\op.act.low w.1.size){rr:Stepped×Array MemOp}(hr:rr=(.next (crowd rX ((w.at d).setChan X.q.ch 0 #[] false s r false) sl),u)):
  gY X rr (mu X tag sub j f0 D qf) t:=by
 have hT:=Tn.setChan (w:=w) G aL.cm d false s r;obtain⟨m',hgm⟩:=bFn _ ⟨hT.cm,hT.size,λ_ hb=>hb.elim,(hT.out _ (lt_of_heap aL.cm.bt) (λx=>x) G.Wbt.symm G.rbt.symm G.cbt.symm)⟩;obtain⟨mw,hgw⟩:=L.serve aI g0 _ hsn hrv hT.cm;have fF:Com X j (aI+1) (upd AE aI i) rX ((w.at d).setChan X.q.ch 0 #[] false s r false) (t++u) (upd D i { D i with stage:=14,fuel:=mw,job:=some aI }) qf d0 false:=by
  refine aL.quiet hsz (λk hk hkj=>uR k od od) hT (λi' dN=>?_) hu (λi'=>?_) od od (λk hk=>upd_ne _ _ od) (λk h1 h2=>?_) (λi' dN=>?_) ?_ (λi' dN fM=>?_) (λi' dN fM hf=>rfl)
  .by_cases e:i'=i
   .subst e;exact⟨_,hwi,by rw[upd_same];exact .inl ⟨rfl,hdf,aI,rfl,hsn,hgw⟩⟩
   .obtain⟨x,hx,hsx⟩:=aL.wk i' dN;exact⟨x,by rw[uR _ od od];exact hx,by rw[upd_ne D _ e];exact hsx.rely (hT.sf G aL.cm (λ_ hb=>hb.elim) (aL.own i' dN) λ_ hb=>hb.elim)⟩
  .by_cases e:i'=i
   .subst e;rw[upd_same];exact⟨rfl,rfl,λx=>by simp only at x;omega⟩
   .rw[upd_ne D _ e];exact⟨rfl,rfl,id⟩
  .obtain rfl:k=aI:=by omega
   rw[upd_same,upd_same];exact⟨hi,rfl⟩
  .by_cases e:i'=i
   .subst e;rw[upd_same];exact .inr ⟨hjn,aI,rfl,od,upd_same _ _ _⟩
   .rw[upd_ne D _ e];exact .inl rfl
  .obtain⟨cl0,s0,r0,hc⟩:=aL.cm.ch;exact⟨s,r,F7 (w:=w.at d) hc _ _ _ _ _ _⟩
  .by_cases e:i'=i
   .subst e;rw[upd_same]at fM;simp only at fM;omega
   .rw[upd_ne D _ e]at fM;exact aL.lv i' dN fM
 have e1:=(wF D { D i with stage:=14,fuel:=mw,job:=some aI } hi).1;have e3:=aFm D { D i with stage:=14,fuel:=mw,job:=some aI } hi;have ec:cnt (wd (D i))=cnt (wd ({ D i with stage:=14,fuel:=mw,job:=some aI }:gP X)):=by show(if 5<=min (D i).stage 7 then 1 else 0)=(if 5<=min 14 7 then 1 else 0);rw[h8];rfl
 have aA2:Go.ConcN.Mode j (D7 (upd D i { D i with stage:=14,fuel:=mw,job:=some aI })) (.sp (aI+1) 7) st sm:=by have:=aKi (g:=g0) (g':=g0) (i:=i) (d':={ D i with stage:=14,fuel:=mw,job:=some aI }) hm (by show min 14 7=min (D i).stage 7;rw[h8];rfl) tag (.inl rfl) (λ_ _=>by rw[R8];simp);subst R8;exact this.reopen trivial trivial rfl oe
 refine⟨_,_,mu X (.sp (aI+1) 7) 0 j m' (upd D i { D i with stage:=14,fuel:=mw,job:=some aI }) qf,hr,?_,rX,_,sl,j,aI+1,upd AE aI i,_,qf,.sp (aI+1) 7,0,m',d0,false,_,st,sm,rfl,h0,dA6 ⟨rfl,rfl,hj,od,hd0,rfl,hgm⟩,fF,aAu G dK d false s r,aA2,λe=>by simp at e,od,rfl⟩;refine .inl ?_;show cQ _ _ _ _ _+_<cQ _ _ _ _ _+_;subst R8;simp only[cQ,show ¬(7=9)by omega,show ¬(7=8)by omega,show ¬(8=9)by omega,if_true,if_false]at *;omega
theorem wA(P:WJ)(g:WC)(cs:Array CommCase)(k:Int)(v:WB)(ok:Bool):g.finishComm P cs (.recv true) k v ok=Go.Conc.served g (tU #[v,.bool ok]):=rfl
theorem aCm(i:Nat)(fn:FuncId)(pos:String):MemOp.ofEvents i fn pos #[]=#[]:=rfl
theorem bI5(G:Geo X)(L:mG X)(ha:gs[0]?=some a)(fO:CS X tag sub j aI f0 d0 cl a w)(aL:Com X j aI AE gs w t D qf d0 cl)(hx:Xcl tag aI f0 j D)(hj:j<=X.nw)(dK:WgAt X.q.tW X.q.Wg w st sm)(hm:Go.ConcN.Mode j (D7 D) tag st sm)
  (hi:i<j)(hg:gs[X.j0+1+i]?=some g)(h8:(D i).stage=8)(dY:g.status=.running):gY X (runT X.P (crowd gs w sl) (X.j0+1+i)) (mu X tag sub j f0 D qf) t:=by
 have hs:=nY aL hi hg;have hi0:(X.j0+1+i==0)=false:=oe;have hlt:X.j0+1+i<gs.size:=(kZ hg).1;obtain⟨h2,h3,h⟩:(D i).deaf=0/\(D i).job=none/\AtRecv X (D i).fuel g w:=by
  rcases hs with⟨h1,_⟩|⟨h1,_⟩|⟨h1,_⟩|⟨h1,_⟩|⟨h1,_⟩|⟨_,h2,h3,h⟩|⟨h1,_⟩|⟨h1,_⟩|⟨h1,_⟩|⟨h1,_⟩|⟨h1,_⟩|⟨h1,_⟩|⟨h1,_⟩;iterate 5 omega
  .exact⟨h2,h3,h⟩
  all_goals omega
 have key:(∃m' g' w' es,(D i).fuel=m'+2/\stepG X.P false g w=.go g' w' es/\Dg X.q fR w w' es/\GW X fR (aNr X) m' g' w')\/((D i).fuel≠0/\∃g0,X.Rv g0/\stepG X.P false g w=.comm g0 #[rcase X.q.ch X.z] true (.recv true) w #[]):=by
  rcases h with⟨m,e,h⟩|⟨g0,hr,⟨e,rfl⟩|⟨e,rfl⟩⟩
  .rcases Goes.cases h with dO|⟨m',e',dL⟩
   .exact .inr ⟨od,g,(dO w (Rg.refl aL.cm)).1,(L.rv g (dO w (Rg.refl aL.cm)).1).2 w⟩
   .obtain⟨g',w',es,dH,hd,oH⟩:=dL w (Rg.refl aL.cm);exact .inl ⟨m',g',w',es,od,dH,hd,oH⟩
  .cases dY
  .refine .inr ⟨od,g0,hr,?_⟩;have e1:({ g0 with status:=.running }:WC)=g0:=by obtain⟨h1,_⟩:=L.rv g0 hr;cases g0;simp only at h1;subst h1;rfl
   have:=stepG_tries (P:=X.P) (g:=g0) (sh:=.recv true) false #[rcase X.q.ch X.z] w;rw[e1]at this;exact this.trans ((L.rv g0 hr).2 w)
 rcases key with⟨m',g',w',es,e,dH,hd,oH⟩|⟨hf,g0,hrv,dH⟩
 .exact aCh G L ha fO aL hx hj dK hm hi hg dH hd noB (m'+1) (dA5 ⟨h8,h2,h3,.inl ⟨m',rfl,oH⟩⟩) od od od
 have bBh:stepG X.P (X.j0+1+i==0) g w=.comm g0 #[rcase X.q.ch X.z] true (.recv true) w #[]:=by rw[hi0];exact dH
 by_cases hpk:tag=.sp aI 8/\f0=0
 .rcases fO.status L aL.cm with⟨_,_,h⟩|⟨_,_,q3,q4,q5,z,a0,rfl,oX⟩|⟨h,_⟩
  .exact absurd hpk.2 (h hpk.1)
  .subst q4;obtain⟨s,r,hc⟩:=aL.chs;have hd0:d0=0:=by rcases fO with⟨h,_⟩|⟨h,_⟩|⟨h,_⟩|⟨h,_⟩|⟨h,_⟩|⟨h,_⟩|⟨h,_⟩|⟨_,_,_,_,h,_⟩|⟨h,_⟩|⟨h,_⟩|⟨h,_⟩|⟨h,_⟩|⟨_,h,_⟩|⟨h,_⟩|⟨h,_⟩|⟨h,_⟩|⟨h,_⟩|⟨h,_⟩|⟨h,_⟩;all_goals first|exact h|(rw[hpk.1]at h;simp at h)
   have hp0:partners (gs.setIfInBounds (X.j0+1+i) ph) X.q.ch true=[(0,0)]:=by
    have:=partners_one (gs:=gs.setIfInBounds (X.j0+1+i) ph) (r:=X.q.ch) (send:=true) (j:=0) (stand_get (i:=X.j0+1+i) od ha) λk x hk hx=>?_
    .rw[this,show offersAt (sends X aI z a0) X.q.ch true=[0]by rw[sends,offersAt_parked_send,kK rfl]];rfl
    .exact zIr
   have hr:=crowd_recv_meets (sl:=sl) (j:=0) (gj:=a0) (zj:=z) (v:=X.msg aI) (shj:=.send) hg bBh hc od ha hp0;rw[wA,finishComm_send]at hr;refine aZo (d:=w.drawn) (s:=s+1) (r:=r+1) (g0:=g0) (a0:=a0) G L aL hm dK q3 q5 hd0 hpk.1 hi h8 h2 h3 hrv (λw' r=>(oX w (Rg.refl aL.cm)).2.choose_spec.2 w' r) oe ?_ ?_ (λk h1 h2=>?_) ?_ hr
   .rw[AN od,AO od]
   .rw[AO (by simpa using hlt)]
   .exact zEi
   .exact zBi
  .rw[hpk.1]at h;cases h
 have hp0:partners (gs.setIfInBounds (X.j0+1+i) ph) X.q.ch true=[]:=partners_nil λk x hx=>by have m96:=0;exact zIr
 obtain⟨s,r,hc⟩:=aL.chs;have hcw:=aL.cm;have hTr:Tn X fR none w w:=.refl G aL.cm λ_ x=>x.elim;have oth:∀(x:WC) k,k≠X.j0+1+i->(gs.setIfInBounds (X.j0+1+i) x)[k]?=gs[k]?:=λx k hk=>AN (Ne.symm hk);have eD:∀d:gP X,d.stage=8\/d.stage=7->cnt (wd d)=cnt (wd (D i)):=λd hd=>by show(if 5<=min d.stage 7 then 1 else 0)=(if 5<=min (D i).stage 7 then 1 else 0);rw[kK od,kK od]
 cases cl with
 |false=>
  have hr:=crowd_waits (sl:=sl) hg bBh (λcc wR=>by rw[Array.mem_singleton.1 wR];exact ways_recv_none hc hp0)
  have fF:Com X j aI AE (gs.setIfInBounds (X.j0+1+i) (waits X g0)) w (t++ #[]) (upd D i { D i with fuel:=0 }) qf d0 false:=by
   refine aL.quiet oe (λk hk hkj=>oth _ k od) hTr (λi' dN=>?_) oe (λi'=>?_) (kG _) aL.aI (λ_ _=>rfl) (λk h1 h2=>by omega) (λi' dN=>.inl ?_) ⟨s,r,hc⟩ (λi' dN fM=>?_) (λ_ _ _ _=>rfl)
   .by_cases e:i'=i
    .subst e
     exact⟨waits X g0,by rw[AO hlt],by rw[upd_same];exact dA5 ⟨h8,h2,h3,.inr ⟨g0,hrv,.inl ⟨rfl,rfl⟩⟩⟩⟩
    .obtain⟨x,hx,hsx⟩:=aL.wk i' dN
     exact⟨x,by rw[oth _ _ od];exact hx,by rw[upd_ne D _ e];exact hsx⟩
   .by_cases e:i'=i
    .subst e;rw[upd_same];exact⟨rfl,rfl,id⟩
    .rw[upd_ne D _ e];exact⟨rfl,rfl,id⟩
   .by_cases e:i'=i
    .subst e;rw[upd_same]
    .rw[upd_ne D _ e]
   .by_cases e:i'=i
    .subst e;rw[upd_same]at fM;exact aL.lv i' dN fM
    .rw[upd_ne D _ e]at fM;exact aL.lv i' dN fM
  refine⟨_,_,mu X tag sub j f0 (upd D i { D i with fuel:=0 }) qf,hr,?_,_,w,sl,j,aI,AE,_,qf,tag,sub,f0,d0,false,a,st,sm,rfl,by rw[oth _ 0 od];exact ha,fO,fF,dK,aKi (g:=g) (g':=g0) (i:=i) (d':={ D i with fuel:=0 }) hm rfl tag (.inl rfl) ?_,λe1 e2=>absurd ⟨e1,e2⟩ hpk,hj,rfl⟩
  .have e1:sumTo j (λi'=>(upd D i { D i with fuel:=0 } i').stage)+(D i).stage=sumTo j (λi'=>(D i').stage)+(D i).stage:=(wF D { D i with fuel:=0 } hi).1
   have e2:sumTo j (λi'=>(upd D i { D i with fuel:=0 } i').fuel)+(D i).fuel=sumTo j (λi'=>(D i').fuel)+0:=(wF D { D i with fuel:=0 } hi).2
   have e3:=aFm D { D i with fuel:=0 } hi
   have e4:=eD { D i with fuel:=0 } (.inl h8)
   have ev:Vc j (D7 (upd D i { D i with fuel:=0 }))=Vc j (D7 D):=od
   refine .inr ⟨?_,.inr ⟨?_,?_⟩⟩
   .show cQ _ _ _ _ _+_=cQ _ _ _ _ _+_
    rw[ev];omega
   .funext i'
    show(upd D i { D i with fuel:=0 } i').ls=(D i').ls
    by_cases e:i'=i
    .rw[e,upd_same]
    .rw[upd_ne D _ e]
   .show f0+2*_+_<f0+2*_+_
    omega
  .intro _ _ e
   subst e
   rcases fO with⟨h,_⟩|⟨h,_⟩|⟨h,_⟩|⟨h,_⟩|⟨h,_⟩|⟨h,_⟩|⟨h,_⟩|⟨h,_⟩|⟨h,_⟩|⟨h,_⟩|⟨h,_⟩|⟨h,_⟩|⟨_,h,_⟩|⟨h,_⟩|⟨h,_⟩|⟨_,_,_,_,_,h,_⟩|⟨h,_⟩|⟨h,_⟩|⟨h,_⟩<;>cases h
 |true=>
  have hr:=crowd_recv_closed (sl:=sl) hg bBh hc hp0
  rw[wA]at hr
  obtain⟨mw,hgw⟩:=L.leave g0 w hrv aL.cm
  have fF:Com X j aI AE (gs.setIfInBounds (X.j0+1+i) (Go.Conc.served g0 (tU #[X.z,.bool false]))) w (t++(MemOp.ofEvents (X.j0+1+i) g.frame.fn g.frame.place #[]++ #[{ g:=X.j0+1+i,fn:=g0.frame.fn,pos:=g0.frame.place,act:=.recvClosed X.q.ch }])) (upd D i { D i with stage:=7,fuel:=mw }) qf d0 true:=by
   refine aL.quiet oe (λk hk hkj=>oth _ k od) hTr (λi' dN=>?_) (λop cK=>?_) (λi'=>?_) (kG _) aL.aI (λ_ _=>rfl) (λk h1 h2=>by omega) (λi' dN=>.inl ?_) ⟨s,r,hc⟩ (λ_ _ _=>rfl) (λi' dN fM hf'=>?_)
   .by_cases e:i'=i
    .subst e
     exact⟨_,by rw[AO hlt],by rw[upd_same];exact dA6 ⟨rfl,h2,h3,hgw⟩⟩
    .obtain⟨x,hx,hsx⟩:=aL.wk i' dN
     exact⟨x,by rw[oth _ _ od];exact hx,by rw[upd_ne D _ e];exact hsx⟩
   .rw[aCm,Array.empty_append]at cK
    rw[Array.mem_singleton.1 cK]
    exact⟨Ol,rfl,oe,lt_of_heap hc⟩
   .by_cases e:i'=i
    .subst e;rw[upd_same];exact⟨rfl,rfl,λx=>by simp only at x;omega⟩
    .rw[upd_ne D _ e];exact⟨rfl,rfl,id⟩
   .by_cases e:i'=i
    .subst e;rw[upd_same]
    .rw[upd_ne D _ e]
   .by_cases e:i'=i
    .subst e;rw[upd_same]at fM;simp only at fM;omega
    .rw[upd_ne D _ e]at fM hf';exact absurd (aL.pk i' dN fM hf') oe
  refine⟨_,_,mu X tag sub j f0 (upd D i { D i with stage:=7,fuel:=mw }) qf,hr,?_,_,w,sl,j,aI,AE,_,qf,tag,sub,f0,d0,true,a,st,sm,rfl,by rw[oth _ 0 od];exact ha,fO,fF,dK,?_,λe1 e2=>absurd ⟨e1,e2⟩ hpk,hj,rfl⟩
  .have e1:sumTo j (λi'=>(upd D i { D i with stage:=7,fuel:=mw } i').stage)+(D i).stage=sumTo j (λi'=>(D i').stage)+7:=(wF D { D i with stage:=7,fuel:=mw } hi).1
   have e3:=aFm D { D i with stage:=7,fuel:=mw } hi
   have e4:=eD { D i with stage:=7,fuel:=mw } (.inr rfl)
   have ev:Vc j (D7 (upd D i { D i with stage:=7,fuel:=mw }))=Vc j (D7 D):=od
   refine .inl ?_
   show cQ _ _ _ _ _+_<cQ _ _ _ _ _+_
   rw[ev];omega
  .refine hm.congr λb _=>?_
   rw[W8]
   by_cases e:b=i
   .subst e;rw[upd_same];show min 7 7=min (D b).stage 7;rw[h8];rfl
   .rw[upd_ne _ _ e]
end
end
section
section
variable{X:Sp}{gs:Array WC}{w w':WA}{sl:Option (Nat×Nat)}{j aI:Nat}{AE:WN}{D:Nat->gP X}{qf:WN}{tag tag':CTag}{sub sub' f0 f' d0:Nat}{cl:Bool}{a a':WC}{t:WO}{st sm pO sm':Int}
 {es:Array Event}
theorem lF(h:∀s,tag≠.sp s 8):Xcl tag aI f0 j D:=λe=>absurd e (h _)
theorem nT(G:Geo X)(L:mG X)(ha:gs[0]?=some a)(aL:Com X j aI AE gs w t D qf d0 cl)(hj:j<=X.nw)(dK:WgAt X.q.tW X.q.Wg w st sm)(hm:Go.ConcN.Mode j (D7 D) tag st sm)
  (dH:stepG X.P true a w=.go a' w' es)(hd:Dg X.q fR w w' es)(xE:CS X tag sub j aI f' d0 cl a' w')(hx:Xcl tag aI f' j D)(hf:f'<f0):gY X (runT X.P (crowd gs w sl) 0) (mu X tag sub j f0 D qf) t:=by obtain⟨⟨d,rfl⟩,he⟩:=hd;have hdd:deafBehind d0 es=d0:=deafBehind_still (λe h=>by obtain⟨ad,rfl,_⟩:=he e h;exact⟨oe,oe⟩) d0;exact callerStep G L ha aL hj dH (.at G aL.cm (λ_ x=>x.elim) d) rfl (λe h=>.inl (he e h)) (by rw[hdd];exact xE) dK hm hx (.inr ⟨rfl,hf⟩)
theorem aAs(G:Geo X)(L:mG X)(ha:gs[0]?=some a)(aL:Com X j aI AE gs w t D qf d0 cl)(hj:j<=X.nw)(dK:WgAt X.q.tW X.q.Wg w st sm)
  (dH:stepG X.P true a w=.go a' w es)(hev:∀e∈es,EvM X e)(xE:CS X tag' sub' j aI f' (deafBehind d0 es) cl a' w)(hm:Go.ConcN.Mode j (D7 D) tag' st sm)(hx:Xcl tag' aI f' j D)
  (hlt:cQ X.nw X.q.n (Vc j (D7 D)) sub' tag'<cQ X.nw X.q.n (Vc j (D7 D)) sub tag):gY X (runT X.P (crowd gs w sl) 0) (mu X tag sub j f0 D qf) t:=
 callerStep G L ha aL hj dH (.refl G aL.cm λ_ x=>x.elim) rfl hev xE dK hm hx (.inl hlt)
theorem aVu(G:Geo X)(L:mG X)(ha:gs[0]?=some a)(aL:Com X j aI AE gs w t D qf d0 cl)(hj:j<=X.nw)(hA:Conc.Aside X.q.Wg w w')(sU:WgAt X.q.tW X.q.Wg w' pO sm')
  (dH:stepG X.P true a w=.go a' w' es)(hev:∀e∈es,Bk X.q.Wg e)(xE:CS X tag' sub' j aI f' (deafBehind d0 es) cl a' w')(hm:Go.ConcN.Mode j (D7 D) tag' pO sm')(hx:Xcl tag' aI f' j D)
  (hlt:cQ X.nw X.q.n (Vc j (D7 D)) sub' tag'<cQ X.nw X.q.n (Vc j (D7 D)) sub tag):gY X (runT X.P (crowd gs w sl) 0) (mu X tag sub j f0 D qf) t:=
 callerStep G L ha aL hj dH (.wg G aL.cm (λ_ x=>x.elim) hA ⟨_,_,sU⟩) (hA.block _ G.Wch.symm) (λe h=>.inr (.inl (hev e h))) xE sU hm hx (.inl hlt)
theorem aDp(G:Geo X)(h:Cg X.q w)(hA:Conc.Aside X.q.Wg w w')(sU:WgAt X.q.tW X.q.Wg w' pO sm'):Cg X.q w':=(Tn.wg (M:=fR) G h (λ_ x=>x.elim) hA ⟨_,_,sU⟩).cm
theorem gY.lower{r:Stepped×Array MemOp}{μ μ0:Nat×(Nat->WL X.P)×Nat}(h:gY X r μ0 t)(hl:μ0.1<μ.1):gY X r μ t:=by obtain⟨m1,cZ,μ',e,h1,h2⟩:=h;refine⟨m1,cZ,μ',e,.inl ?_,h2⟩;rcases h1 with h1|⟨h1,_⟩<;>omega
theorem ev1{e0:Event}(h:EvM X e0):∀e∈#[e0],EvM X e:=λe he=>by rw[Array.mem_singleton.1 he];exact h
theorem aMp:EvM X (mk .disable):=.inr (.inl (.inl rfl))
theorem aJu:EvM X (mk .enable):=.inr (.inl (.inr (.inl rfl)))
theorem aE2:EvM X (rd (stA X.q.Wg)):=.inr (.inl (bk_cell _ _ rfl))
theorem pL{nw n v sub j s:Nat}(h:s<=6):cQ nw n v sub (.sp j s)=8*nw+60+20*n+60*(nw-j)+s:=by simp only[cQ];rw[kJ od,kJ od,kJ od]
theorem I9(G:Geo X)(L:mG X)(ha:gs[0]?=some a)(aL:Com X j 0 AE gs w t D qf d0 false)(hj:j<X.nw)(dK:WgAt X.q.tW X.q.Wg w st sm){s:Nat}(hs:s<=5)(hs1:1<=s)(hm:Go.ConcN.Mode j (D7 D) (.sp j s) st sm)
  (h:(s=5/\d0=0/\lK X (aD7 X j) f0 a w)\/(s=4/\d0=1/\lK X (aIz X j) f0 a w)\/(s=3/\d0=1/\lK X (T0 X j) f0 a w)\/(s=2/\d0=1/\lK X (aFq X j) f0 a w)\/(s=1/\d0=0/\lK X (aM4 X j) f0 a w)):
  gY X (runT X.P (crowd gs w sl) 0) (mu X (.sp j s) 0 j f0 D qf) t:=by
 have nx:∀{s' f:Nat},s'<=6->Xcl (.sp j s') 0 f j D:=λC5 e=>absurd e ol;have bCy:∀s',(s'<=3↔s<=3)->Go.ConcN.Mode j (D7 D) (.sp j s') st sm:=λs' C5=>hm.reopen trivial trivial (by simp only[pend];by_cases h:s<=3<;>simp[h,C5.2,C5]) oe;have lt:∀{s':Nat},s'<s->cQ X.nw X.q.n (Vc j (D7 D)) 0 (.sp j s')<cQ X.nw X.q.n (Vc j (D7 D)) 0 (.sp j s):=λC5=>by rw[pL od,pL od];omega
 exact zHa
end
end
section
variable{i n nw sub v:Nat}
section
variable{X:Sp}{gs:Array WC}{w w':WA}{sl:Option (Nat×Nat)}{j aI:Nat}{AE:WN}{D:Nat->gP X}{qf:WN}{tag tag':CTag}{sub sub' f0 f' d0:Nat}{cl:Bool}{a a':WC}{t:WO}{st sm pO sm':Int}
 {es:Array Event}
theorem bI4:cQ nw n v sub (.sp i 8)=8*nw+34+20*(n-i):=by simp[cQ]
theorem aUy:cQ nw n v sub (.sp i 7)=8*nw+35+20*(n-i):=by simp[cQ]
theorem aZx:cQ nw n v sub (.sp i 9)=8*nw+20:=by simp[cQ]
theorem vU(h:cQ X.nw X.q.n (Vc j (D7 D)) sub' tag'<cQ X.nw X.q.n (Vc j (D7 D)) sub tag):(mu X tag' sub' j f' D qf).1<(mu X tag sub j f0 D qf).1:=by show cQ _ _ _ _ _+_<cQ _ _ _ _ _+_;omega
theorem bA4(G:Geo X)(L:mG X)(ha:gs[0]?=some a)(aL:Com X j aI AE gs w t D qf d0 false)(hj:j=X.nw)(hsn:aI<X.q.n)(hd0:d0=0)(dK:WgAt X.q.tW X.q.Wg w st sm)(hm:Go.ConcN.Mode j (D7 D) (.sp aI 8) st sm){m:Nat}(h:lK X (zL X aI) m a w):
  gY X (runT X.P (crowd gs w sl) 0) (mu X (.sp aI 8) 0 j (m+1) D qf) t:=by
 have rf:=Rg.refl (M:=fR) aL.cm;have fO:CS X (.sp aI 8) 0 j aI (m+1) d0 false a w:=dA7 ⟨rfl,rfl,hj,hsn,hd0,rfl,.inl ⟨m,rfl,h⟩⟩;have hlt:0<gs.size:=(kZ ha).1;rcases Goes.cases h with dO|⟨m',rfl,dL⟩
 .obtain⟨dY,z,dH,aT5⟩:=dO w rf;obtain⟨s,r,hc⟩:=aL.chs;by_cases hp:partners (gs.setIfInBounds 0 ph) X.q.ch false=[]
  .have hr:=crowd_waits (sl:=sl) (i:=0) ha jc (λcc wR=>by rw[Array.mem_singleton.1 wR];exact ways_send_none hc oe hp);have oth:∀k,k≠0->(gs.setIfInBounds 0 (sends X aI z a))[k]?=gs[k]?:=λk hk=>AN (Ne.symm hk);have fF:Com X j aI AE (gs.setIfInBounds 0 (sends X aI z a)) w (t++ #[]) D qf d0 false:=by refine aL.quiet oe (λk hk _=>oth k od) (.refl G aL.cm λ_ x=>x.elim) (λi hi=>?_) oe (λi=>⟨rfl,rfl,id⟩) (kG _) aL.aI (λ_ _=>rfl) (λk h1 h2=>by omega) (λi hi=>.inl rfl) ⟨s,r,hc⟩ aL.lv aL.pk;obtain⟨x,hx,hsx⟩:=aL.wk i hi;exact⟨x,by rw[oth _ od];exact hx,hsx⟩
   refine⟨_,_,mu X (.sp aI 8) 0 j 0 D qf,hr,.inr ⟨rfl,.inr ⟨rfl,?_⟩⟩,_,w,sl,j,aI,AE,D,qf,.sp aI 8,0,0,d0,false,sends X aI z a,st,sm,rfl,by rw[AO hlt];rfl,dA7 ⟨rfl,rfl,hj,hsn,hd0,rfl,.inr ⟨rfl,z,a,rfl,dO⟩⟩,fF,dK,hm,λ_ _ i hi h8 hf=>?_,od,rfl⟩
   .show 0+2*_+_<m+1+2*_+_;omega
   .obtain⟨x,hx,hsx⟩:=aL.wk i hi;rcases hsx.status (λg hg=>(L.rv g hg).1) aL.cm with⟨_,q⟩|⟨_,_,g0,_,rfl⟩|⟨q,_⟩
    .exact q h8 hf
    .have:(X.j0+1+i,0)∈partners (gs.setIfInBounds 0 ph) X.q.ch false:=mem_partners.2 ⟨waits X g0,stand_get od hx,by rw[waits,offersAt_parked_recv,kK rfl];simp⟩;rw[hp]at this;cases this
    .omega
  .obtain⟨k,gj,zj,shj,d,hk0,hgk,hr⟩:=crowd_send_meets_some (sl:=sl) (i:=0) ha jc hc hp (λk1 k2 hk=>by
    obtain⟨x,hx,uQ⟩:=mem_partners.1 hk
    rcases getElem?_stand gs _ k1 x hx with⟨_,rfl⟩|⟨eH,hx⟩
    .rw[offersAt_ph]at uQ;cases uQ
    .obtain⟨i,hi,rfl,_,_,g0,_,rfl⟩:=bHh L ha fO aL hx (λe=>by rw[e]at uQ;cases uQ)
     rw[waits,offersAt_parked_recv,kK rfl]at uQ
     exact⟨by simpa using uQ,eH,g0,X.z,.recv true,hx⟩)
   obtain⟨i,hi,rfl,h8,hf,g0,hrv,he⟩:=bHh L ha fO aL hgk (λe=>by
    have h1:=aL.wk
    obtain⟨q1,q2⟩:gj=gj/\True:=⟨rfl,trivial⟩
    by_cases hcz:offersAt (parked gj #[rcase X.q.ch zj] shj) X.q.ch false=[0]
    .rw[hcz]at e;cases e
    .exact hcz (by rw[offersAt_parked_recv,kK rfl]))
   have sB:gj.finishComm X.P #[rcase X.q.ch zj] shj 0 (X.msg aI) true=Go.Conc.served g0 (tU #[X.msg aI,.bool true]):=by
    have e1:(parked gj #[rcase X.q.ch zj] shj).offers=(waits X g0).offers:=by rw[he]
    simp only[parked,waits,AI,Prod.mk.injEq]at e1;obtain⟨e1,e2⟩:=e1;have e3:=finishComm_parked X.P gj #[rcase X.q.ch zj] #[rcase X.q.ch zj] shj shj 0 (X.msg aI) true;rw[<-e3,he,waits,finishComm_parked,e2,wA]
   rw[finishComm_send,sB]at hr;have hsi:=nY aL hi hgk;obtain⟨h2,h3⟩:(D i).deaf=0/\(D i).job=none:=by
    rcases hsi with⟨h1,_⟩|⟨h1,_⟩|⟨h1,_⟩|⟨h1,_⟩|⟨h1,_⟩|⟨_,h2,h3,h⟩|⟨h1,_⟩|⟨h1,_⟩|⟨h1,_⟩|⟨h1,_⟩|⟨h1,_⟩|⟨h1,_⟩|⟨h1,_⟩;iterate 5 omega
    .exact⟨h2,h3⟩
    all_goals omega
   have uU:=(kZ hgk).1;refine aZo (d:=d) (s:=s+1) (r:=r+1) (g0:=g0) (a0:=a) G L aL hm dK hj hsn hd0 rfl hi h8 h2 h3 hrv aT5 oe ?_ ?_ (λk h1 h2=>?_) ?_ hr
   .rw[AO (by simpa using hlt)]
   .rw[AN od,AO uU]
   .exact zEi
   .exact zBi
 .obtain⟨a',w',es,dH,hd,oH⟩:=dL w rf;exact nT (f':=m'+1) G L ha aL od dK hm dH hd (dA7 ⟨rfl,rfl,hj,hsn,hd0,rfl,.inl ⟨m',rfl,oH⟩⟩) (λ_ e=>absurd e od) od
theorem aS4(G:Geo X)(L:mG X)(ha:gs[0]?=some a)(aL:Com X j X.q.n AE gs w t D qf d0 false)(hj:j=X.nw)(hd0:d0=0)(dK:WgAt X.q.tW X.q.Wg w st sm)(hm:Go.ConcN.Mode j (D7 D) (.sp 0 9) st sm)(h:lK X (zK X) f0 a w):
  gY X (runT X.P (crowd gs w sl) 0) (mu X (.sp 0 9) 0 j f0 D qf) t:=by
 have rf:=Rg.refl (M:=fR) aL.cm;have nx:∀f,Xcl (.sp 0 9) X.q.n f j D:=λf e=>absurd e oe;rcases Goes.cases h with dO|⟨m',rfl,dL⟩
 .obtain⟨dY,hmw,fN⟩:=dO w rf;obtain⟨s,r,hc⟩:=aL.chs;obtain⟨a',hr',dH,aT5⟩:=fN s r hc;have hT:=Tn.setChan (w:=w) G aL.cm w.drawn true s r;have hT:Tn X fR none w (w.setChan X.q.ch 0 #[] true s r false):=hT;obtain⟨m2,hk⟩:=aT5 ⟨hT.cm,hT.size,λ_ hb=>hb.elim,(hT.out _ (lt_of_heap aL.cm.bt) (λx=>x) G.Wbt.symm G.rbt.symm G.cbt.symm)⟩;have bF1:(w.setChan X.q.ch 0 #[] true s r false).1[X.q.ch]?=some (.chan 0 #[] true s r false):=F7 hc _ _ _ _ _ _;have aGt:=runT_crowd_go (P:=X.P) (sl:=sl) (i:=0) ha jc;have hdd:deafBehind d0 #[⟨.obj X.q.ch,false,true⟩,⟨.obj X.q.ch,true,true⟩]=d0:=deafBehind_still (λe h=>by
   simp only[List.mem_toArray,List.mem_cons,List.not_mem_nil,or_false]at h
   rcases h with rfl|rfl<;>exact⟨oe,oe⟩) d0
  have fF:=aL.step0 (D':=λi=>if(D i).stage=8/\(D i).fuel=0 then { D i with fuel:=1 }else D i) (cl':=true) G (fn:=a.frame.fn) (pos:=a.frame.place) (a:=a) (a':=a') (es:=#[⟨.obj X.q.ch,false,true⟩,⟨.obj X.q.ch,true,true⟩]) hT
   (λe h=>by
    simp only[List.mem_toArray,List.mem_cons,List.not_mem_nil,or_false]at h
    rcases h with rfl|rfl<;>exact rA4 (.inr ⟨_,rfl⟩))
   (λi=>by simp only;split<;>exact⟨rfl,rfl,rfl,rfl⟩)
   (λi hi=>by
    obtain⟨x,hx,hsx⟩:=aL.wk i hi
    have hr:=hsx.rely (hT.sf G aL.cm (λ_ hb=>hb.elim) (aL.own i hi) λ_ hb=>hb.elim)
    refine⟨_,by rw[get_map_set _ _ _ _ od,hx];rfl,?_⟩
    simp only
    split
    .rename_i hp
     rcases hsx.status (λg hg=>(L.rv g hg).1) aL.cm with⟨_,q⟩|⟨_,_,g0,hrv,rfl⟩|⟨q,_⟩
     .exact absurd hp.2 (q hp.1)
     .have e:woken X.P a a' (w.setChan X.q.ch 0 #[] true s r false) (waits X g0)={ waits X g0 with status:=.running }:=by
       unfold Go.Conc.woken
       rw[kK (by simp[hmw,hr']),waits,again_recv_closed bF1]
      rw[e]
      rcases hsx with⟨h1,_⟩|⟨h1,_⟩|⟨h1,_⟩|⟨h1,_⟩|⟨h1,_⟩|⟨h1,h2,h3,h⟩|⟨h1,_⟩|⟨h1,_⟩|⟨h1,_⟩|⟨h1,_⟩|⟨h1,_⟩|⟨h1,_⟩|⟨h1,_⟩
      iterate 5 omega
      .exact dA5 ⟨h1,h2,h3,.inr ⟨g0,hrv,.inr ⟨rfl,rfl⟩⟩⟩
      all_goals omega
     .omega
    .rename_i hp
     rw[hr.woken (λg hg=>(L.rv g hg).1) hT.cm λe1 e2=>absurd ⟨e1,e2⟩ hp]
     exact hr)
   ⟨s,r,bF1⟩ (λ_=>rfl) (λi hi h1 h2=>by
    simp only at h1 h2
    split at h2
    .simp at h2
    .rename_i hp
     rw[kJ hp]at h1
     exact absurd ⟨h1,h2⟩ hp)
  have e7:∀i,(D7 (λi=>if(D i).stage=8/\(D i).fuel=0 then { D i with fuel:=1 }else D i) i).stage=(D7 D i).stage:=λi=>by show min (if(D i).stage=8/\(D i).fuel=0 then { D i with fuel:=1 }else D i:gP X).stage 7=min (D i).stage 7;split<;>rfl
  refine⟨_,_,mu X .kd 0 j m2 _ qf,aGt,?_,_,_,sl,j,X.q.n,AE,_,qf,.kd,0,m2,deafBehind d0 #[⟨.obj X.q.ch,false,true⟩,⟨.obj X.q.ch,true,true⟩],true,a',st,sm,rfl,get_map_set_same _ _ _ jv,rA8 (.inr (.inl ⟨rfl,rfl,hj,rfl,hdd.trans hd0,rfl,hk⟩)),fF,aAu (w:=w) G dK w.drawn true s r,?_,λe=>absurd e oe,od,rfl⟩
  .refine .inl ?_;show cQ _ _ _ _ _+_<cQ _ _ _ _ _+_;have e8:sumTo j (λi=>(if(D i).stage=8/\(D i).fuel=0 then { D i with fuel:=1 }else D i:gP X).stage)=sumTo j (λi=>(D i).stage):=sumTo_congr λi _=>by simp only;split<;>rfl
   rw[e8,aZx];simp only[cQ,phi];omega
  .have:=hm.reopen (tag':=.kd) trivial trivial rfl oe;exact this.congr λi _=>e7 i
 .obtain⟨a',w',es,dH,hd,oH⟩:=dL w rf;exact nT G L ha aL od dK hm dH hd (dA8 ⟨rfl,rfl,hj,rfl,hd0,rfl,oH⟩) (nx _) od
end
end
section
def Won(X:Sp)(m:Machine)(t:WO):Prop:=∃(gs:Array WC)(w:WA)(sl:Option (Nat×Nat))(a:WC)(mm:Nat)(qf:WN),m=crowd gs w sl/\gs.size=X.j0+1+X.nw/\gs[0]?=some a/\lK X X.Fin mm a w/\Leavers X.P t gs qf/\
 Past (λl=>X.cI l\/ShN X.q.Wg l) w.1.size t/\Cg X.q w/\X.q.L<=w.1.size/\(∀k,k<X.q.n->∃out,X.Told k out/\w.cell? (aA X.q.row k)=some (sT out))/\(∀b,b<X.q.L->b≠X.q.Wg->b≠X.q.row->b≠X.q.ch->Mk b X.wi w)/\∀op∈t,op.g<=X.j0+X.nw
section
variable{X:Sp}{gs:Array WC}{w w':WA}{sl:Option (Nat×Nat)}{j aI:Nat}{AE:WN}{D:Nat->gP X}{qf:WN}{tag tag':CTag}{sub sub' f0 f' d0:Nat}{cl:Bool}{a a':WC}{t:WO}{st sm pO sm':Int}
 {es:Array Event}
def Go2(X:Sp)(r:Stepped×Array MemOp)(μ:Nat×(Nat->WL X.P)×Nat)(t:WO):Prop:=gY X r μ t\/∃m₁ cZ,r=(.next m₁,cZ)/\Won X m₁ (t++cZ)
theorem w1M(G:Geo X)(L:mG X)(ha:gs[0]?=some a)(aL:Com X X.nw X.q.n AE gs w t D qf 1 true)(dK:WgAt X.q.tW X.q.Wg w st sm)(hm:Go.ConcN.Mode X.nw (D7 D) .w1 st sm)(h:lK X (aFs X) f0 a w):
  gY X (runT X.P (crowd gs w sl) 0) (mu X .w1 0 X.nw f0 D qf) t:=by have rf:=Rg.refl (M:=fR) aL.cm;have hV:=Vc_le X.nw (D7 D);have hn:=L.nw.2;exact zLg
theorem B0(G:Geo X)(L:mG X)(ha:gs[0]?=some a)(aL:Com X X.nw X.q.n AE gs w t D qf d0 true)(dK:WgAt X.q.tW X.q.Wg w st sm)(hm:Go.ConcN.Mode X.nw (D7 D) tag st sm)
  (h:(tag=.kd/\sub=0/\d0=0/\lK X (aM5 X) f0 a w)\/(tag=.anch/\sub=0/\d0=1/\lK X X.W6 f0 a w)\/(tag=.w1/\sub=0/\d0=1/\lK X (aFs X) f0 a w)\/(∃vs,tag=.w2 vs/\sub=0/\d0=1/\lK X (aM6 X vs) f0 a w)\/(tag=.w3/\sub=1/\d0=1/\lK X (aRi X) f0 a w)\/
   (tag=.w3/\sub=0/\d0=1/\∃m,f0=m+1/\lK X (aBz X) m a w)\/(tag=.w4/\sub=0/\d0=1/\lK X (aM7 X) f0 a w)\/(tag=.ke/\sub=0/\d0=1/\lK X (aFr X) f0 a w)\/(tag=.acq/\sub=0/\d0=0/\lK X (aIy X) f0 a w)):
  Go2 X (runT X.P (crowd gs w sl) 0) (mu X tag sub X.nw f0 D qf) t:=have m43:=0;zHa
end
end
section
section
variable{X:Sp}{gs:Array WC}{w w':WA}{sl:Option (Nat×Nat)}{j aI:Nat}{AE:WN}{D:Nat->gP X}{qf:WN}{tag:CTag}{sub f0 d0:Nat}{cl:Bool}{a:WC}{t:WO}{st sm:Int}
theorem aZi(G:Geo X)(L:mG X)(ha:gs[0]?=some a)(aL:Com X j aI AE gs w t D qf d0 false)(hj:j=X.nw)(hsn:aI<=X.q.n)(hd0:d0=0)(dK:WgAt X.q.tW X.q.Wg w st sm)(hm:Go.ConcN.Mode j (D7 D) (.sp aI 7) st sm)(h:lK X (X.SdH aI) f0 a w):
  gY X (runT X.P (crowd gs w sl) 0) (mu X (.sp aI 7) 0 j f0 D qf) t:=zI6
theorem stepCaller(G:Geo X)(L:mG X)(ha:gs[0]?=some a)(fO:CS X tag sub j aI f0 d0 cl a w)(aL:Com X j aI AE gs w t D qf d0 cl)(dK:WgAt X.q.tW X.q.Wg w st sm)(hm:Go.ConcN.Mode j (D7 D) tag st sm)(dY:a.status=.running):
  Go2 X (runT X.P (crowd gs w sl) 0) (mu X tag sub j f0 D qf) t:=by
 rcases fO with⟨rfl,rfl,h3,rfl,rfl,rfl,h⟩|⟨rfl,rfl,h3,rfl,rfl,rfl,h⟩|⟨rfl,rfl,h3,rfl,rfl,rfl,h⟩|⟨rfl,rfl,h3,rfl,rfl,rfl,h⟩|⟨rfl,rfl,h3,rfl,rfl,rfl,h⟩|⟨rfl,rfl,h3,rfl,rfl,rfl,h⟩|⟨rfl,rfl,h3,h4,rfl,rfl,h⟩|⟨rfl,rfl,h3,h4,rfl,rfl,h⟩|⟨rfl,rfl,h3,rfl,rfl,rfl,h⟩|⟨rfl,rfl,rfl,rfl,rfl,rfl,h⟩|⟨rfl,rfl,rfl,rfl,rfl,rfl,h⟩|⟨rfl,rfl,rfl,rfl,rfl,rfl,h⟩|⟨vs,rfl,rfl,rfl,rfl,rfl,rfl,h⟩|⟨rfl,rfl,rfl,rfl,rfl,rfl,h⟩|⟨rfl,rfl,rfl,rfl,rfl,rfl,m,xF,h⟩|⟨_,_,_,_,_,_,_,g0,rfl,_⟩|⟨rfl,rfl,rfl,rfl,rfl,rfl,h⟩|⟨rfl,rfl,rfl,rfl,rfl,rfl,h⟩|⟨rfl,rfl,rfl,rfl,rfl,rfl,h⟩
 .refine .inl ?_;have aXp:=0;exact zI6
 .exact .inl (I9 G L ha aL h3 dK od od hm (.inl ⟨rfl,rfl,h⟩))
 .exact .inl (I9 G L ha aL h3 dK od od hm (.inr (.inl ⟨rfl,rfl,h⟩)))
 .exact .inl (I9 G L ha aL h3 dK od od hm (.inr (.inr (.inl ⟨rfl,rfl,h⟩))))
 .exact .inl (I9 G L ha aL h3 dK od od hm (dA3 ⟨rfl,rfl,h⟩))
 .exact .inl (I9 G L ha aL h3 dK od od hm (rA3 (.inr ⟨rfl,rfl,h⟩)))
 .exact .inl (aZi G L ha aL h3 h4 rfl dK hm h)
 .rcases h with⟨m,rfl,h⟩|⟨_,z,g0,rfl,_⟩
  .exact .inl (bA4 G L ha aL h3 h4 rfl dK hm h)
  .cases dY
 .exact .inl (aS4 G L ha aL h3 rfl dK hm h)
 .exact B0 G L ha aL dK hm (.inl ⟨rfl,rfl,rfl,h⟩)
 .exact B0 G L ha aL dK hm (.inr (.inl ⟨rfl,rfl,rfl,h⟩))
 .exact B0 G L ha aL dK hm (.inr (.inr (.inl ⟨rfl,rfl,rfl,h⟩)))
 .exact B0 G L ha aL dK hm (dA3 ⟨vs,rfl,rfl,rfl,h⟩)
 .exact B0 G L ha aL dK hm (dA4 ⟨rfl,rfl,rfl,h⟩)
 .exact B0 G L ha aL dK hm (dA5 ⟨rfl,rfl,rfl,m,xF,h⟩)
 .cases dY
 .exact B0 G L ha aL dK hm (dA6 ⟨rfl,rfl,rfl,h⟩)
 .exact B0 G L ha aL dK hm (dA7 ⟨rfl,rfl,rfl,h⟩)
 .exact B0 G L ha aL dK hm (rA7 (.inr ⟨rfl,rfl,rfl,h⟩))
theorem stepWorker(G:Geo X)(L:mG X)(ha:gs[0]?=some a)(fO:CS X tag sub j aI f0 d0 cl a w)(aL:Com X j aI AE gs w t D qf d0 cl)(hx:Xcl tag aI f0 j D)(hj:j<=X.nw)(dK:WgAt X.q.tW X.q.Wg w st sm)(hm:Go.ConcN.Mode j (D7 D) tag st sm)
  {i:Nat}{g:WC}(hi:i<j)(hg:gs[X.j0+1+i]?=some g)(dY:g.status=.running):gY X (runT X.P (crowd gs w sl) (X.j0+1+i)) (mu X tag sub j f0 D qf) t:=by
 have hs:=nY aL hi hg;rcases jB (D i).stage 8 with h1|h1
 .exact bBx G L ha fO aL hx hj dK hm hi hg od dY
 .rcases jB (D i).stage 10 with h2|h2
  .refine bI5 G L ha fO aL hx hj dK hm hi hg ?_ dY;rcases hs with⟨h,_⟩|⟨h,_⟩|⟨h,_⟩|⟨h,_⟩|⟨h,_⟩|⟨h,_⟩|⟨h,_⟩|⟨h,_⟩|⟨h,_⟩|⟨h,_⟩|⟨h,_⟩|⟨h,_⟩|⟨h,_⟩<;>omega
  .exact bEc G L ha fO aL hx hj dK hm hi hg h2
theorem aZ3(L:mG X)(ha:gs[0]?=some a)(fO:CS X tag sub j aI f0 d0 cl a w)(aL:Com X j aI AE gs w t D qf d0 cl)(hx:Xcl tag aI f0 j D)(hj:j<=X.nw)(dK:WgAt X.q.tW X.q.Wg w st sm)(hm:Go.ConcN.Mode j (D7 D) tag st sm)
  {i:Nat}{g:WC}(hi0:0<i)(hi:i<=X.j0)(hg:gs[i]?=some g)(dY:g.status=.running):gY X (runT X.P (crowd gs w sl) i) (mu X tag sub j f0 D qf) t:=by
 have hq:=aL.old i g hi0 hi hg;have hlt:=(kZ hg).1
 cases hf:qf i with
 |zero=>rw[hf]at hq;rw[hq.1]at dY;cases dY
 |succ k=>
  rw[hf]at hq
  rcases hq with⟨hff,_⟩|⟨_,g',es,aCf,dL,hq⟩
  .rw[hff]at dY;cases dY
  have cK:cl=false->∃s r,w.1[X.q.ch]?=some (.chan 0 #[] false s r false):=λe=>by subst e;exact aL.chs
  obtain⟨tag',f',xE,hf',R8,hwk,h8f⟩:=fO.wokenBy L (w':=w) ⟨aL.cm,kG _,λ_ hb=>hb.elim,rfl,λ_ _=>rfl,rfl⟩ cK g g'
  have aGt:=runT_crowd_go (P:=X.P) (sl:=sl) (i:=i) hg (by rw[show(i==0)=false by simp;omega];exact dL w)
  have hu:∀op∈MemOp.ofEvents i g.frame.fn g.frame.place es,op.g=i/\op.act.touch?=none/\op.act.low w.1.size/\op.act≠.mark (.release (stA X.q.Wg)):=λop cK=>by
   obtain⟨e,he,rfl⟩:=Go.Conc.mem_ofEvents cK
   refine⟨rfl,touch_mute (aCf e he),low_mute (aCf e he) _,λe2=>?_⟩
   have hm1:=aCf e he
   have hl:=Go.ConcR.loc_of_ofEvent (show MemAct.ofEvent e=_ from e2)
   obtain⟨loc,w1,s1⟩:=e
   simp only at hl
   subst hl
   simp[Event.mute]at hm1
  have fF:Com X j aI AE ((gs.map (woken X.P g g' w)).setIfInBounds i g') w (t++MemOp.ofEvents i g.frame.fn g.frame.place es) D (upd qf i k) d0 cl:=by
   refine⟨by simp[aL.size],λi' dN=>?_,λi' g₁ h0 hj0 hg₁=>?_,aL.ti.appMute (g:=i) od (λop cK=>(hu op cK).1) (λop cK=>(hu op cK).2.1) (λop cK=>(hu op cK).2.2.1),aL.norel.app λop cK=>(hu op cK).2.2.2,by rw[Deaf_other t od _ g_of_ofEvents,aL.deaf0],λi' dN=>by rw[Deaf_other t od _ g_of_ofEvents,aL.deafW i' dN],λi' dN fM=>?_,aL.cm,aL.lo,aL.own,aL.dis,aL.job,λk' hk=>?_,aL.aI,aL.chs,aL.lv,aL.pk,aL.kp⟩
   .obtain⟨x,hx,hsx⟩:=aL.wk i' dN
    refine⟨x,?_,hsx⟩
    rw[get_map_set _ _ _ _ od,hx,AH,hsx.woken (λg hg=>(L.rv g hg).1) aL.cm λe1 e2=>cK (aL.pk i' dN e1 e2)]
   .by_cases e:i=i'
    .subst e
     rw[get_map_set_same _ _ _ hlt]at hg₁
     cases hg₁
     rw[upd_same,Deaf_own]
     exact hq
    .rw[get_map_set _ _ _ _ e]at hg₁
     obtain⟨y,hy,rfl⟩:=AQ hg₁
     have hq:=aL.old i' y h0 hj0 hy
     rw[woken_quitsD hq,upd_ne _ _ (Ne.symm e),Deaf_other t e _ g_of_ofEvents]
     exact hq
   .obtain⟨r,hr⟩:=aL.rel i' dN fM
    exact⟨r,hr.appOther g_of_ofEvents od⟩
   .rcases aL.row k' hk with⟨h1,h2⟩|h
    .refine .inl ⟨h1,λq x hx=>?_⟩
     rcases wY hx with hx|⟨op,cK,hx⟩
     .exact h2 q x hx
     .rw[(hu op cK).2.1]at hx;cases hx
    .exact .inr h
  refine⟨_,_,mu X tag' sub j f' D (upd qf i k),aGt,?_,_,w,sl,j,aI,AE,D,_,tag',sub,f',d0,cl,_,st,sm,rfl,by rw[get_map_set _ _ _ _ od,ha];rfl,xE,fF,dK,?_,?_,hj,rfl⟩
  .refine .inr ⟨?_,.inr ⟨rfl,?_⟩⟩
   .show cQ _ _ _ _ _+_=cQ _ _ _ _ _+_
    rw[yV _ _ _ _ R8]
   .have hs:=sumTo_upd qf k id (show i<X.j0+1 by omega)
    have hs:sumTo (X.j0+1) (upd qf i k)+qf i=sumTo (X.j0+1) qf+k:=hs
    show f'+2*_+2*_<f0+2*_+2*_
    omega
  .exact hm.retag R8
  .intro e1 e2
   rcases R8 with rfl|⟨_,rfl⟩
   .exact hx e1 (by rw[<-h8f e1];exact e2)
   .cases e1
theorem counted{D:Nat->WD}:∀{j:Nat},1<=Vc j D->∃i,i<j/\5<=(D i).stage
 |0,h=>by simp[Vc,sumTo]at h
 |j+1,h=>by
  by_cases hc:5<=(D j).stage
  .exact⟨j,od,hc⟩
  .have:1<=Vc j D:=by simp only[Vc,sumTo,cnt,kJ hc]at h⊢;simpa using h
   obtain⟨i,hi,h5⟩:=counted this;exact⟨i,od,h5⟩
theorem aZ1(L:mG X)(ha:gs[0]?=some a)(fO:CS X tag sub j aI f0 d0 cl a w)(aL:Com X j aI AE gs w t D qf d0 cl)(hx:Xcl tag aI f0 j D)(hm:Go.ConcN.Mode j (D7 D) tag st sm):∃(i:Nat)(g:WC),gs[i]?=some g/\g.status=.running:=by
 have bDh:∀i,i<j->(D i).stage≠1->¬((D i).stage=8/\(D i).fuel=0)->∃(i:Nat)(g:WC),gs[i]?=some g/\g.status=.running:=λi hi h1 h2=>by
  obtain⟨g,hg,hs⟩:=aL.wk i hi;rcases hs.status (λg hg=>(L.rv g hg).1) aL.cm with⟨e,_⟩|⟨e1,e2,_⟩|⟨e,_⟩
  .exact⟨_,g,hg,e⟩
  .exact absurd ⟨e1,e2⟩ h2
  .exact absurd e h1
 rcases fO.status L aL.cm with⟨hs,_⟩|⟨e1,e2,e3,e4,_⟩|⟨rfl,_,_⟩
 .exact⟨0,a,ha,hs⟩
 .have:=L.nw;exact bDh 0 od (λh=>by have:=aL.lv 0 od od;rw[e4]at this;cases this) λh=>hx e1 e2 0 od h.1 h.2
 .have fN:cl=true:=by rcases fO with⟨h,_⟩|⟨h,_⟩|⟨h,_⟩|⟨h,_⟩|⟨h,_⟩|⟨h,_⟩|⟨h,_⟩|⟨h,_⟩|⟨h,_⟩|⟨h,_⟩|⟨h,_⟩|⟨h,_⟩|⟨_,h,_⟩|⟨h,_⟩|⟨h,_⟩|⟨h,_,_,_,_,h6,_⟩|⟨h,_⟩|⟨h,_⟩|⟨h,_⟩<;>cases h;exact h6
  have np:∀i,i<j->¬((D i).stage=8/\(D i).fuel=0):=λi hi h=>by have:=aL.pk i hi h.1 h.2;rw[fN]at this;cases this
  cases hm with
  |opn h1 _ _=>exact h1.elim
  |reg _ _ h3=>
   obtain⟨i,hi,h5⟩:=counted h3
   have h5:5<=min (D i).stage 7:=h5
   exact bDh i hi od (np i hi)
  |last N _ h2 h3 _=>
   have h3:min (D N).stage 7=4\/min (D N).stage 7=3\/min (D N).stage 7=2:=h3
   exact bDh N h2 od (np N h2)
  |fin h1 _=>exact h1.elim
theorem bAm(L:mG X)(ha:gs[0]?=some a)(fO:CS X tag sub j aI f0 d0 cl a w)(aL:Com X j aI AE gs w t D qf d0 cl):∀g∈gs,awake g:=by
 intro g hg;obtain⟨i,hi⟩:=Array.mem_iff_getElem?.1 hg;have hlt:=(kZ hi).1;rcases Nat.eq_zero_or_pos i with rfl|aA4
 .rw[ha]at hi;cases hi;rcases fO.status L aL.cm with⟨hs,_⟩|⟨_,_,_,_,_,z,g0,rfl,_⟩|⟨_,_,g0,rfl,_⟩
  .exact awake_of (.inl hs)
  .exact awake_of (.inr (.inl rfl))
  .exact awake_of (.inr (.inl rfl))
 .rcases jB X.j0 i with h1|h1
  .have dN:i-(X.j0+1)<j:=by have:=aL.size;omega
   have ei:i=X.j0+1+(i-(X.j0+1)):=od;rw[ei]at hi;rcases(nY aL dN hi).status (λg hg=>(L.rv g hg).1) aL.cm with⟨hs,_⟩|⟨_,_,g0,_,rfl⟩|⟨_,hs⟩
   .exact awake_of (.inl hs)
   .exact awake_of (.inr (.inl rfl))
   .exact awake_of (.inr (.inr hs))
  .rcases(aL.old i g aA4 h1 hi).status with hs|hs
   .exact awake_of (.inl hs)
   .exact awake_of (.inr (.inr hs))
theorem Com.at(h:Com X j aI AE gs w t D qf d0 cl)(d:Nat):Com X j aI AE gs (w.at d) t D qf d0 cl:=
 ⟨h.size,λi hi=>let⟨g,hg,hs⟩:=h.wk i hi;⟨g,hg,hs.rely (Sf.at h.cm d)⟩,h.old,h.ti,h.norel,h.deaf0,h.deafW,h.rel,h.cm.at d,h.lo,h.own,h.dis,h.job,h.row,h.aI,h.chs,h.lv,h.pk,h.kp⟩
end
section
variable{X:Sp}
theorem aOk(G:Geo X)(L:mG X)(μ:Nat×(Nat->WL X.P)×Nat)(m:Machine)(t:WO)(h:Inv X μ m t):Go2 X (stepT X.P m) μ t:=by
 obtain⟨gs,w,sl,j,aI,AE,D,qf,tag,sub,f0,d0,cl,a,st,sm,rfl,ha,fO,aL,dK,hm,hx,hj,rfl⟩:=h;obtain⟨i,g,d,N4,hg,dY,dL⟩:=crowd_pick (P:=X.P) (w:=w) (sl:=sl) (bAm L ha fO aL) (aZ1 L ha fO aL hx hm);rw[dL];have xE:=fO.rely (Sf.at aL.cm d);have fF:=aL.at d;have sU:WgAt X.q.tW X.q.Wg (w.at d) st sm:=dK;rcases Nat.eq_zero_or_pos i with rfl|aA4
 .rw[ha]at hg;cases hg;exact stepCaller G L ha xE fF sU hm dY
 .rcases jB X.j0 i with h1|h1
  .have dN:i-(X.j0+1)<j:=by have:=(kZ hg).1;rw[aL.size]at this;omega
   have ei:i=X.j0+1+(i-(X.j0+1)):=od;rw[ei]at hg⊢;exact .inl (stepWorker G L ha xE fF hx hj sU hm dN hg dY)
  .exact .inl (aZ3 L ha xE fF hx hj sU hm aA4 h1 hg dY)
theorem aOj(G:Geo X)(L:mG X)(μ:Nat×(Nat->WL X.P)×Nat):∀(m:Machine)(t:WO),Inv X μ m t->∃N m' t',runNT X.P N m t=(.next m',t')/\Won X m' t':=by
 induction μ using(MLt.wf (P:=X.P) X.nw).induction with
 |_ μ ih=>
  intro m t h
  rcases aOk G L μ m t h with⟨m1,cZ,μ',e,h1,h2⟩|⟨m1,cZ,e,h1⟩
  .obtain⟨N,m',t',e',hw⟩:=ih μ' h1 m1 _ h2
   exact⟨N+1,m',t',by rw[runNT_succ_next e];exact e',hw⟩
  .exact⟨1,m1,t++cZ,by rw[runNT_succ_next e];rfl,h1⟩
theorem aSc(G:Geo X)(L:mG X){gs:Array WC}{w:WA}{sl:Option (Nat×Nat)}{t:WO}{a:WC}{qf:WN}{m:Nat}(hsz:gs.size=X.j0+1)(h0:gs[0]?=some a)(hg:lK X (X.SpH 0) m a w)(hL:Leavers X.P t gs qf)(hP:Past X.cI w.1.size t)
  (hgs:∀(i:Nat) (op:MemOp),t[i]?=some op->op.g<=X.j0)(uP:Cg X.q w)(hwi:X.wi=w)(hl:X.q.L<=w.1.size)(hch:∃s r,w.1[X.q.ch]?=some (.chan 0 #[] false s r false))(dK:WgAt X.q.tW X.q.Wg w 0 0)
  (hfw:∀i x,touchAt t i=some x->¬∃a:WT,x.loc=.cell a/\(a.block=X.q.Wg\/a.block=X.q.row))(hnr:NoRelease (stA X.q.Wg) t)(ls:WL X.P):∃N m' t',runNT X.P N (crowd gs w sl) t=(.next m',t')/\Won X m' t':=by
 have hti:TI X.cI (ShN X.q.Wg) (RdL X) (D6 X 0 0 (λ_=>0) λi=>((λ_=>{ stage:=0,fuel:=0,deaf:=0,own:=fR,job:=none,ls:=ls }:Nat->gP X) i).own) X.j0 (X.j0+0) w.1.size t:=
  TI.begin hP hgs (λl ⟨a,e,hl⟩ i x hx he=>absurd ⟨a,he.trans e,.inl hl⟩ (hfw i x hx)) (λk l ⟨i,hi,_⟩=>by omega) (λl ⟨a,e,hl⟩=>⟨λhs=>by
   obtain⟨a',e',h1,h2,h3⟩:=G.aIj l hs
   rw[e]at e';cases e'
   have g1:=G.gba;have g2:=G.gbt
   rcases hl with hl|hl|hl|hl
   .omega
   .omega
   .exact h3 hl
   .exact h2 hl.2,by rw[e];rfl⟩)
 refine aOj G L _ _ t ⟨gs,w,sl,0,0,λ_=>0,λ_=>{ stage:=0,fuel:=0,deaf:=0,own:=fR,job:=none,ls:=ls },qf,.sp 0 6,0,m,0,false,a,0,0,rfl,h0,.inl ⟨rfl,rfl,kI _,rfl,rfl,rfl,hg⟩,⟨hsz,λi hi=>by omega,λi g hi _ hgi=>hL.old i g hi hgi,hti,hnr,hP.hears,λi hi=>by omega,λi hi=>by omega,uP,hl,λi hi=>by omega,λi i' hi=>by omega,λi k hi=>by omega,λk hk=>.inl ⟨kI _,λi x hx e=>hfw i x hx ⟨_,e,.inr rfl⟩⟩,kI _,hch,λi hi=>by omega,λi hi=>by omega,λb _ _ _ _=>by rw[hwi];exact rfl⟩,dK,?_,lF oe,kI _,rfl⟩;have:=Mode.opn (j:=0) (D:=D7 (X:=X) λ_=>{ stage:=0,fuel:=0,deaf:=0,own:=fR,job:=none,ls:=ls }) (tag:=.sp 0 6) trivial (λi hi=>by omega) oe;simpa[Vc,sumTo,pend]using this
end
end
