import Derived.Test.YtnbomhedoelklaaGreatDoorZT21
namespace Go.Proofs.YtnbomhedoelklaaGreatDoor
open Go.RowKit Go.Proofs.Tryz
set_option maxRecDepth 99999
set_option maxHeartbeats 0
open Go.Conc Go.ConcN Go.Conc.Lib Go.ConcR.Gen Go.ConcN.Gen
open Go.ConcR (KK wgBlock WgAt stA smA rd wr mk Payload Aside2 DC0)
theorem bFu(tb off:Nat)(sa:Option WT)(AB:List WG)(c:Nat)(a b:Int)(hn:AB.length<=5)(M:Nat->Prop)(w:WA)(hF:Tx tb off AB w):
  Goes prog true AtRel (Dm M) (λg _=>C7 (sV sa AB.length c) a b 0 g) 30 (G (b3.at ⟨(sV sa AB.length c::iI a::iI b::List.replicate 91 undef).toArray,[]⟩ [.code (f3.body.getD .skip)]) []) w:=by
 have h1:decide ((AB.length:Int)>5)=false:=kD od;have h1':decide ((5:Int)<(AB.length:Int))=false:=kD od;simp only[f3,AJ,List.replicate_succ,List.replicate_zero];iterate 20 (refine rN ?_;clear hF;intro _ hF)
 refine Goes.stop (λ_ h₁=>?_);exact⟨_,rfl,⟨oe,oe,oe,oe⟩,oe⟩
theorem aXm(tb off:Nat)(sa:Option WT)(AB:List WG)(c:Nat)(a b:Int)(hn:5<AB.length)(M:Nat->Prop)(w:WA)(hF:Tx tb off AB w):
  Goes prog true AtRel (Dm M) (λg _=>aJ6 g) 30 (G (b3.at ⟨(sV sa AB.length c::iI a::iI b::List.replicate 91 undef).toArray,[]⟩ [.code (f3.body.getD .skip)]) []) w:=by
 have h1:decide ((AB.length:Int)>5)=true:=kF od;have h1':decide ((5:Int)<(AB.length:Int))=true:=kF od;simp only[f3,AJ,List.replicate_succ,List.replicate_zero];iterate 17 (refine rN ?_;clear hF;intro _ hF)
 refine Goes.stop (λ_ h₁=>?_);exact⟨_,_,rfl,rfl⟩
theorem bBs(tb off:Nat)(AB:List WG)(c:Nat)(a b:Int)(hn:AB.length<=5)(i:Nat)(hi:i<AB.length)(hs2:AB[i].size<=2000)(M:Nat->Prop)(hM:M tb)(g:WC)(h:C7 (sV (some (aA tb off)) AB.length c) a b i g)(w:WA)(hF:Tx tb off AB w):
  Goes prog true AtRel (Dm M) (λg _=>C7 (sV (some (aA tb off)) AB.length c) a b (i+1) g) 40 g w:=zGg
theorem bBr(tb off:Nat)(AB:List WG)(c:Nat)(a b:Int)(i:Nat)(hi:i<AB.length)(hs2:2000<AB[i].size)(M:Nat->Prop)(hM:M tb)(g:WC)(h:C7 (sV (some (aA tb off)) AB.length c) a b i g)(w:WA)(hF:Tx tb off AB w):
  Goes prog true AtRel (Dm M) (λg _=>aJ6 g) 40 g w:=have m13:=0;zGg
section
theorem bEh{text:WG}(ρ:WN)(fr:WK)(w':WA)(h:ES text fr w'):∃out,xM text out/\∀(main:Bool)(c:WK)(l:List WK)(w:WA),stepG prog main (gr (bC ρ fr) (c::l)) w=.go (gr (c.finish (sT out)) l) w #[]:=by
 obtain⟨h1,h2,h3,h4,out,h5,h6⟩:=h;refine⟨out,h5,λmain c l w=>?_⟩;have e:=aHi (P:=prog) (fr:=bC ρ fr) (c:=c) (l:=l) (fn:=f6) (k:=(sG f6)) (by show rM ρ fr.mode=_;rw[h1];rfl) (by simp[bC,h2]) h3 j8 aLl main w;have e2:(bC ρ fr).tmps.getD (sG f6) undef=sT out:=by
  simp only[Array.getD_eq_getD_getElem?]at h6
  cases hx:fr.tmps[(sG f6)]? with
  |none=>rw[hx]at h6;simp[undef]at h6
  |some v=>
   rw[hx]at h6
   have h6:v=sT out:=h6
   simp[bC,Array.getD_eq_getD_getElem?,hx,h6,rV]
 rw[e2]at e;exact e
structure aB7(W:WA)(Xk:Nat->Prop)(rs:WN) where
 lw:Nat->WA
 size:∀G,W.1.size<=G->(lw G).1.size=G
 fz:∀G,W.1.size<=G->aWf ((YS prog) G Xk rs) (lw G)
 dw:∀G,W.1.size<=G->∀t,cU (lw G).1.size (on (lw G) t)
 held:∀G w,W.1.size<=G->(∀b,b<W.1.size->w.1[b]?=W.1[b]?)->aRm ((YS prog) G Xk rs) (lw G) w
 os:∀G,(lw G).os=W.os
 out:∀G,(lw G).output=W.output
 tp:∀G,(lw G).tape=W.tape
 nv:7<W.1.size
abbrev TT:MemAct->Prop:=λ_=>True
section
variable{S:Loc->Prop}{J B:Nat}{gs:Array WC}{t:WO}{q:WN}{a:WC}{w:WA}
theorem wJ{M:Nat->Prop}{Q:WC->Prop}{n:Nat}(hM:∀b,M b->b<B/\∀ad:WT,S (.cell ad)->ad.block≠b)(hB:Bs prog S B J TT gs t q)(h0:gs[0]?=some a)(hg:Goes prog true AtRel (Dm M) (λg _=>Q g) n a w)(sl:Option (Nat×Nat)):
  To prog S J TT (λg w' B'=>Q g/\AtRel w w'/\B'=B) (crowd gs w sl) t:=by
 refine To.mono (Bs.walk (P:=prog) (Pr:=TT) (B:=B) (J:=J) (D:=Dm M) (λ_ _=>trivial) (λw2 w3 es hd e he=>⟨?_,trivial⟩) _ n gs a w sl t q (kG _) h0 hB (pY (λw2 w3 es hd=>hd.1) w (atRel_refl w) hg)) ?_
 .obtain⟨ad,rfl,hb⟩:=hd.2 e he;exact evL_cell ad false (λhs=>(hM _ hb).2 ad hs rfl) (hM _ hb).1
 .rintro g w' B' ⟨⟨h1,h2⟩,h3⟩;exact⟨h1,h2,h3⟩
theorem bIa{W:WA}{Xk:Nat->Prop}{rs:WN}(L:aB7 W Xk rs)(hW:Kp W w)(hS:∀l,S l->∃a:WT,l=.cell a/\W.1.size<=a.block/\a.block<w.1.size){text:WG}(ht:text.size<=3000){c:WK}(hB:Bs prog S w.1.size J TT gs t q)(h0:gs[0]?=some (gr ((yC prog) text) [c]))(sl:Option (Nat×Nat)):
  To prog S J TT (λg w' B'=>∃out,xM text out/\g=gr (c.finish (sT out)) []/\Kp w w'/\B'=w'.1.size) (crowd gs w sl) t:=by
 have hG:=L.size w.1.size hW.size;have wl:=aW5 (w0:=L.lw w.1.size) ht (L.dw _ hW.size);have pc:∀ρ N,(∀b,b<w.1.size->ρ b=b)->(∀b c,ρ b=ρ c->b=c)->w.1.size<=N->Pc (((YS prog) w.1.size Xk rs).at ρ N) FS:=λ ρ N h1 h2 h3=>pcS (kC L.nv hW.size) ρ N h1 h2 h3;have hs:zP ((YS prog) w.1.size Xk rs) FS (ES text) [c] ((yC prog) text,[],L.lw w.1.size) (rC id w.1.size w.1.size) (gr ((yC prog) text) [c]) w:=
  zP.start pc (L.fz _ hW.size) (L.held _ w hW.size hW.old) (kG _) (hW.eq.1.trans (L.os _).symm) bA5 (λv hv=>by simp at hv;subst hv;simp[Sc]) wl
 have h1:=Bs.ses (Y:=(YS prog) w.1.size Xk rs) (F:=FS) (E:=ES text) (C:=[c]) (J:=J) (cI:=S) pc (λl hl=>by
  obtain⟨ad,e,h1,h2⟩:=hS l hl
  refine⟨ad,e,h2,λhk=>?_⟩
  have hk:kS ad.block:=hk
  have:=aMx hk
  have:=L.nv
  omega) w (kG _) _ wl.acc _ gs _ w sl t q _ (Nat.lt_succ_self _) h0 hB hs (.refl w) (λcc c1 c2=>by
   have c1:w.1.size<=cc:=c1
   have c2:cc<(L.lw w.1.size).1.size:=c2
   omega)
 refine To.bind h1 ?_;rintro gs2 a2 w2 sl2 t2 q2 B2 h02 uO ⟨rfl,hK,fr,w0',ρ,rfl,hE⟩;obtain⟨out,ho,fM⟩:=bEh ρ fr w0' hE;refine To.mono (Bs.walk (P:=prog) (Pr:=TT) (B:=w2.1.size) (J:=J) (D:=Dm λ_=>False) (Stop:=λg w3=>g=gr (c.finish (sT out)) []/\AtRel w2 w3) (λ_ _=>trivial) (λw3 w4 es hd e he=>⟨?_,trivial⟩) _ 1 gs2 _ w2 sl2 t2 q2 (kG _) h02 uO (pY (λw3 w4 es hd=>hd.1) w2 (atRel_refl w2) (Goes.step rfl λw3 h3=>?_))) ?_
 .obtain⟨ad,rfl,hb⟩:=hd.2 e he;exact hb.elim
 .rw[fM true c [] w3];simp only[goes_go];exact⟨Dm.idle,Goes.stop λw4 _=>rfl⟩
 .rintro g w3 B3 ⟨⟨rfl,d,rfl⟩,rfl⟩;exact⟨out,ho,rfl,hK.at d,rfl⟩
end
end
theorem bBv(tb off:Nat)(sa s1 s2:Option WT)(n c:Nat)(AB:List WG)(a b:Int)(M:Nat->Prop)(T Ta:Array WB)(td:List Item)(h:St3 (sV sa n c) a b T)(h8:T[8]?=some (sV s1 n n))(h9:T[9]?=some .nilIface)(hr4:Ta.getD 4 undef=sV s2 n n)(hr5:Ta.getD 5 undef=.nilIface)(w:WA)(hF:Tx tb off AB w):
  Goes prog true AtRel (Dm M) (λg _=>∃T,g=gr ((yC prog) xn) [(c10 f3) T]/\St5 (sV sa n c) (sV s1 n n) (sV s2 n n) a b T/\T[65]?=some (.bool false)) 60 (G { b4.at ⟨Ta,[]⟩ td with mode:=.returning } [(c9 f3) T]) w:=by obtain⟨hs,t0,t1,t2⟩:=h;have hls:=bB5;have m37:=0;exact zG4
theorem aXn(tb off:Nat)(sl r1 r2:WB)(AB:List WG)(a b:Int)(M:Nat->Prop)(T:Array WB)(h:St5 sl r1 r2 a b T)(h65:T[65]?=some (.bool false))(w:WA)(hF:Tx tb off AB w):
  Goes prog true AtRel (Dm M) (λg _=>X1 sl r1 r2 a b 0 g) 30 (gr (((c10 f3) T).finish (sT aX2)) []) w:=by obtain⟨⟨hs,t0,t1,t2⟩,t8,uV⟩:=h;exact zMd
theorem bFy(tb off:Nat)(r1 r2:WB)(AB:List WG)(c:Nat)(a b:Int)(i:Nat)(hi:i<AB.length)(M:Nat->Prop)(hM:M tb)(g:WC)(h:X1 (sV (some (aA tb off)) AB.length c) r1 r2 a b i g)(w:WA)(hF:Tx tb off AB w):
  Goes prog true AtRel (Dm M) (λg _=>∃T,g=gr ((yC prog) AB[i]) [(c15 f3) T]/\St5 (sV (some (aA tb off)) AB.length c) r1 r2 a b T/\T[12]?=some (iI i)) 40 g w:=by obtain⟨T,rfl,⟨⟨hs,t0,t1,t2⟩,t8,uV⟩,J4⟩:=h;have m25:=0;exact zGs
theorem bFw(r1 r2 n:Nat)(sl:WB)(a b:Int)(hn:n<=5)(i:Nat)(hi:i<n)(out:WG)(M:Nat->Prop)(hM1:M r1)(hM2:M r2)(T:Array WB)(h:St5 sl (sL r1 n n) (sL r2 n n) a b T)(J4:T[12]?=some (iI i))(w:WA)(hF:Ro r1 r2 i out w):
  Goes prog true AtRel (Dm M) (λg _=>X1 sl (sL r1 n n) (sL r2 n n) a b (i+1) g) 50 (gr (((c15 f3) T).finish (sT out)) []) w:=by obtain⟨⟨hs,t0,t1,t2⟩,t8,uV⟩:=h;exact zGs
section
variable{W w w1:WA}
theorem aIt{text o1 o2:WG}(h:xM text o1)(g:xM text o2):o1=o2:=by obtain⟨l1,s1,h1,_,rfl⟩:=h;obtain⟨l2,s2,h2,_,rfl⟩:=g;rw[(h1.one h2).2]
theorem aW9:nE xn=[⟨#[120]⟩]:=oh
theorem aWa:fH ⟨#[120]⟩=[⟨#[120]⟩]:=oh
theorem aZa:(⟨(nV [dJ 3]).toArray⟩:WG)=aX2:=oh
theorem aZb{out:WG}(h:xM xn out):out=aX2:=by obtain⟨os,s,h1,_,rfl⟩:=h;rw[aW9]at h1;obtain⟨_,rfl⟩:=h1.one (.cons (.unknown aWa oh) (.nil _));exact aZa
structure Lw(W:WA)(Xk:Nat->Prop)(tb:Nat)(tx:Obj)(sa:Option WT)(off:Nat)(AB:List WG):Prop where
 htx:W.1[tb]?=some tx
 hct:∀i (h:i<AB.length),aAy tx (off+i)=some (sT AB[i])
 hsa:0<AB.length->sa=some (aA tb off)
 htb:tb<W.1.size
 hk:¬kS tb
theorem Lw.tx'{Xk:Nat->Prop}{tb:Nat}{tx:Obj}{sa:Option WT}{off:Nat}{AB:List WG}(h:Lw W Xk tb tx sa off AB)(ho:∀b,b<W.1.size->w.1[b]?=W.1[b]?):Tx tb off AB w:=by
 refine⟨λi hi=>?_⟩;have h1:=(ho _ h.htb).trans h.htx;have h2:=h.hct i hi
 cases tx with
 |cells c e f=>simpa[World.cell?,h1,aAy]using h2
 |_=>simp[aAy]at h2
theorem Kp.rel(h:Kp W w)(r:AtRel w w1):Kp W w1:=by obtain⟨d,rfl⟩:=r;exact h.at d
structure aFy(AB:List WG)(r1 r2:Nat)(w:WA):Prop where
 lt1:r1<w.1.size
 lt2:r2<w.1.size
 c1:∀i (h:i<AB.length),∃out,xM AB[i] out/\w.cell? (aA r1 i)=some (sT out)
 c2:∀i (h:i<AB.length),∃out,xM AB[i] out/\w.cell? (aA r2 i)=some (sT out)
theorem aFy.kp{AB:List WG}{r1 r2:Nat}(h:aFy AB r1 r2 w)(k:Kp w w1):aFy AB r1 r2 w1:=by
 refine⟨kC h.lt1 k.size,kC h.lt2 k.size,λi hi=>?_,λi hi=>?_⟩
 .obtain⟨out,h1,h2⟩:=h.c1 i hi;exact⟨out,h1,by simpa[World.cell?,k.old _ h.lt1]using h2⟩
 .obtain⟨out,h1,h2⟩:=h.c2 i hi;exact⟨out,h1,by simpa[World.cell?,k.old _ h.lt2]using h2⟩
theorem sD(r:AtRel w w1):Kp w w1:=by obtain⟨d,rfl⟩:=r;exact(Kp.refl w).at d
section
variable{W:WA}{Xk:Nat->Prop}{rs:WN}{tb:Nat}{tx:Obj}{sa:Option WT}{off c:Nat}{AB:List WG}{S:Loc->Prop}{J:Nat}{r1 r2:Nat}{a b:Int}
theorem bAt(L:aB7 W Xk rs)(H:Lw W Xk tb tx sa off AB)(hn5:AB.length<=5)(hl:∀i (h:i<AB.length),AB[i].size<=2000):∀(j i:Nat),i+j=AB.length->∀(gs:Array WC)(g:WC)(w:WA)(sl:Option (Nat×Nat))(t:WO)(q:WN),gs[0]?=some g->Bs prog S w.1.size J TT gs t q->X1 (sV sa AB.length c) (sL r1 AB.length AB.length) (sL r2 AB.length AB.length) a b i g->Kp W w->aFy AB r1 r2 w->
  (∀l,S l->∃a:WT,l=.cell a/\W.1.size<=a.block/\a.block<w.1.size/\a.block≠r1/\a.block≠r2)->
  To prog S J TT (λg w' B=>aJ6 g/\Kp W w'/\B=w'.1.size) (crowd gs w sl) t:=by
 intro j
 induction j with
 |zero=>
  intro i hi gs g w sl t q h0 hB hg hK hR hS
  obtain rfl:i=AB.length:=od
  refine To.mono (wJ (M:=λ_=>False) (λb hb=>hb.elim) hB h0 (bFx tb off sa _ _ AB c a b _ g hg w (H.tx' hK.old)) sl) ?_
  rintro g w' B ⟨h1,h2,rfl⟩
  exact⟨h1,Kp.rel hK h2,by obtain⟨d,rfl⟩:=h2;rfl⟩
 |succ j ih=>
  intro i hi gs g w sl t q h0 hB hg hK hR hS
  have dN:i<AB.length:=od
  have e:=H.hsa od
  subst e
  have hno:∀b,b<w.1.size->(b=tb\/b=r1\/b=r2)->b<w.1.size/\∀ad:WT,S (.cell ad)->ad.block≠b:=λb hb h=>⟨hb,λad hs e=>by
   obtain⟨a2,e2,h1,h2,h3,h4⟩:=hS _ hs
   cases e2
   have:=H.htb
   omega⟩
  have hw:=hK.size
  have htb:=H.htb
  refine To.bind (wJ (M:=λb=>b=tb) (λb hb=>hno b od (.inl hb)) hB h0 (bFy tb off _ _ AB c a b i dN (λb=>b=tb) rfl g hg w (H.tx' hK.old)) sl) ?_
  rintro gs2 g2 w2 sl2 t2 q2 B2 h02 uO ⟨⟨T,rfl,hT,h12⟩,hr,rfl⟩
  have hz:w2.1.size=w.1.size:=by obtain⟨d,rfl⟩:=hr;rfl
  have hK2:=Kp.rel hK hr
  have hR2:=hR.kp (sD hr)
  refine To.bind (bIa L hK2 (λl hs=>by obtain⟨a2,e2,h1,h2,_⟩:=hS l hs;exact⟨a2,e2,h1,by rw[hz];exact h2⟩) (text:=AB[i]) (kH (hl i dN) od) (by rw[hz];exact uO) h02 sl2) ?_
  rintro gs3 g3 w3 sl3 t3 q3 B3 h03 qT ⟨out,ho,rfl,hK3,rfl⟩
  have hR3:=hR2.kp hK3
  obtain⟨o1,ho1,L6⟩:=hR3.c1 i dN
  obtain⟨o2,ho2,hc2⟩:=hR3.c2 i dN
  have e1:=aIt ho1 ho
  have e2:=aIt ho2 ho
  subst e1 e2
  have hz3:=hK3.size
  refine To.bind (wJ (M:=λb=>b=r1\/b=r2) (λb hb=>⟨by have:=hR3.lt1;have:=hR3.lt2;omega,λad hs e=>by
   obtain⟨a2,e2,h1,h2,h3,h4⟩:=hS _ hs
   cases e2
   omega⟩) qT h03 (bFw r1 r2 AB.length _ a b hn5 i dN _ (λb=>b=r1\/b=r2) (.inl rfl) (.inr rfl) T hT h12 w3 ⟨L6,hc2⟩) sl3) ?_
  rintro gs4 g4 w4 sl4 t4 q4 B4 h04 hB4 ⟨hg4,hr4,rfl⟩
  have hz4:w4.1.size=w3.1.size:=by obtain⟨d,rfl⟩:=hr4;rfl
  refine ih (i+1) od gs4 g4 w4 sl4 t4 q4 h04 (by rw[hz4];exact hB4) hg4 (Kp.rel (hK2.trans hK3) hr4) (hR3.kp (sD hr4)) λl hs=>?_
  obtain⟨a2,e2,h1,h2,h3⟩:=hS l hs
  exact⟨a2,e2,h1,od,h3⟩
end
end
section
def ToE(K:WC->WA->Nat->Prop)(m:Machine)(t:WO):Prop:=∃S J,To prog S J TT K m t
theorem ToE.bind{S1:Loc->Prop}{J1:Nat}{K1 K2:WC->WA->Nat->Prop}{m:Machine}{t:WO}(h:To prog S1 J1 TT K1 m t)
  (hk:∀gs a w sl t q B,gs[0]?=some a->Bs prog S1 B J1 TT gs t q->K1 a w B->ToE K2 (crowd gs w sl) t):ToE K2 m t:=by obtain⟨N,gs,a,w,sl,t1,q,B,e,h0,hB,h1⟩:=h;obtain⟨S,J,N',rX,a',w',N4,t',q',B',e',h2⟩:=hk gs a w sl t1 q B h0 hB h1;exact⟨S,J,N+N',rX,a',w',N4,t',q',B',by rw[runNT_add,e];exact e',h2⟩
section
variable{W:WA}{Xk:Nat->Prop}{rs:WN}{tb:Nat}{tx:Obj}{sa:Option WT}{off c:Nat}{AB:List WG}{S:Loc->Prop}{J:Nat}{a b:Int}
def aGz(L:aB7 W Xk rs)(tb:Nat)(tx:Obj)(sa:Option WT)(off c:Nat)(AB:List WG)(m:Nat)(cs:List WK)(S:Loc->Prop)(J:Nat)(w:WA):Ix:=
 { G:=w.1.size,Xk,rs,w0:=L.lw w.1.size,tb,tx,sa,c,off,m,AB,cs,cI:=S,j0:=J,wi:=w }
theorem ho(L:aB7 W Xk rs)(H:Lw W Xk tb tx sa off AB)(hn5:AB.length<=5)(hl:∀i (h:i<AB.length),AB[i].size<=2000){w:WA}(hK:Kp W w)(k:Nat)(hk:k<16)(cs:List WK):Ho (aGz L tb tx sa off c AB (1+k) cs S J w):=by
 refine⟨kC L.nv hK.size,L.fz _ hK.size,L.dw _ hK.size,kH hn5 od,λi=>?_,Nat.le_add_right 1 k,(show 1+k<=16 by omega),H.hct,H.hsa⟩;show(AB.getD i ⟨#[]⟩).size<=3000;rcases jB i AB.length with h|h
 .have:=hl i h;simp[h];omega
 .simp[h];exact kI _
theorem wi(L:aB7 W Xk rs)(H:Lw W Xk tb tx sa off AB){w:WA}(hK:Kp W w)(m:Nat)(cs:List WK)(hS:∀l,S l->∃a:WT,l=.cell a/\W.1.size<=a.block/\a.block<w.1.size):Wi (aGz L tb tx sa off c AB m cs S J w) w:=by
 refine⟨rfl,L.held _ w hK.size hK.old,hK.eq.1.trans (L.os _).symm,hK.eq.2.1.trans (L.out _).symm,hK.eq.2.2.trans (L.tp _).symm,(hK.old _ H.htb).trans H.htx,kC H.htb hK.size,H.hk,λl hl=>?_⟩;obtain⟨ad,e,h1,h2⟩:=hS l hl;refine⟨ad,e,h2,λhk=>?_,λe2=>?_⟩
 .have hk:kS ad.block:=hk;have:=aMx hk;have:=L.nv;omega
 .have:=H.htb;have e2:ad.block=tb:=e2;omega
theorem bA3{I:Ix}{s w:WA}(hz:s.1.size=I.G)(h:Rt I s w):Kp s w:=⟨by have:=h.size;omega,λb hb=>h.old b od,h.eq⟩
theorem bBt(L:aB7 W Xk rs)(H:Lw W Xk tb tx sa off AB)(hn5:AB.length<=5)(hl:∀i (h:i<AB.length),AB[i].size<=2000){gs:Array WC}{g:WC}{w:WA}{t:WO}{q:WN}(k:Nat)(hk:k<16)(T:Array WB)(h0:gs[0]?=some g)(hB:Bs prog (λ_=>False) w.1.size 0 TT gs t q)(hr:AtRel W w)
  (hg:aFv (sV sa AB.length c) (1+k) [(c8 f3) T] g)(hT:St3 (sV sa AB.length c) a b T)(sl:Option (Nat×Nat)):ToE (λg w' B=>aJ6 g/\Kp W w'/\B=w'.1.size) (crowd gs w sl) t:=by
 have hK:=sD hr;have htb:=H.htb;obtain⟨k2,hk2,hp2⟩:=aNb b;refine ToE.bind (aMd (I:=aGz L tb tx sa off c AB (1+k) [(c8 f3) T] (λ_=>False) 0 w) (ho L H hn5 hl hK k hk _) (wi L H hK _ _ (λl h=>h.elim)) rfl hn5 rfl h0 hg hB sl) ?_;rintro gs1 g1 w1 sl1 t1 q1 B1 h01 rY ⟨⟨hR1,Ta,td,rfl,hr4,hr5⟩,rfl⟩;have hK1:=hK.trans (bA3 rfl hR1);have iM:w.1.size+5<=w1.1.size:=hR1.size;have hwz:=hK.size;refine ToE.bind (wJ (M:=λ_=>False) (λb hb=>hb.elim) rY h01 (bBu tb off _ _ AB a b k2 hk2 hp2 _ T Ta td hT hr4 hr5 w1 (H.tx' hK1.old)) sl1) ?_;rintro gs2 g2 w2 sl2 t2 q2 B2 h02 uO ⟨⟨T2,hg2,hT2,h8,h9⟩,pF,rfl⟩;have qP:w2.1.size=w1.1.size:=Ew;have hK2:=Kp.rel hK1 pF;have hS2:∀l,(False\/ShN (w.1.size+4) l)->∃a:WT,l=.cell a/\W.1.size<=a.block/\a.block<w2.1.size:=by
  rintro l (h|⟨ad,e,h⟩)
  .exact h.elim
  .exact⟨ad,e,od,od⟩
 refine ToE.bind (aMd (I:=aGz L tb tx sa off c AB (1+k2) [(c9 f3) T2] (λl=>False\/ShN (w.1.size+4) l) (0+(1+k)) w2) (ho L H hn5 hl hK2 k2 hk2 _) (wi L H hK2 _ _ hS2) rfl hn5 rfl h02 hg2 (by rw[<-qP]at uO;exact uO) sl2) ?_;rintro gs3 g3 w3 sl3 t3 q3 B3 h03 qT ⟨⟨hR3,Tb,td3,rfl,hs4,hs5⟩,rfl⟩;have hK3:=hK2.trans (bA3 rfl hR3);have hw3:w2.1.size+5<=w3.1.size:=hR3.size;have nJ:aFy AB w.1.size w2.1.size w3:=by
  refine⟨od,od,λi hi=>?_,λi hi=>?_⟩
  .obtain⟨cs,h1,h2,h3⟩:=hR1.row;obtain⟨out,h4,h5⟩:=h3 i hi;have e:(aGz L tb tx sa off c AB (1+k) [(c8 f3) T] (λ_=>False) 0 w).tk i=AB[i]:=by simp[Ix.tk,aGz,hi]
   rw[e]at h4;refine⟨out,h4,?_⟩;have e1:w3.1[w.1.size]?=some (.cells cs 9):=(hR3.old _ (show w.1.size<w2.1.size by omega)).trans ((by obtain⟨d,rfl⟩:=pF;rfl:w2.1[w.1.size]?=w1.1[w.1.size]?).trans h1);simp[World.cell?,e1,h5]
  .obtain⟨cs,h1,h2,h3⟩:=hR3.row;obtain⟨out,h4,h5⟩:=h3 i hi;have e:(aGz L tb tx sa off c AB (1+k2) [(c9 f3) T2] (λl=>False\/ShN (w.1.size+4) l) (0+(1+k)) w2).tk i=AB[i]:=by simp[Ix.tk,aGz,hi]
   rw[e]at h4;have h1:w3.1[w2.1.size]?=some (.cells cs 9):=h1;exact⟨out,h4,by simp[World.cell?,h1,h5]⟩
 refine ToE.bind (wJ (M:=λ_=>False) (λb hb=>hb.elim) qT h03 (bBv tb off sa _ _ AB.length c AB a b _ T2 Tb td3 hT2 h8 h9 hs4 hs5 w3 (H.tx' hK3.old)) sl3) ?_;rintro gs4 g4 w4 sl4 t4 q4 B4 h04 hB4 ⟨⟨T4,rfl,hT4,h65⟩,bBn,rfl⟩;have hz4:w4.1.size=w3.1.size:=by obtain⟨d,rfl⟩:=bBn;rfl
 have hK4:=Kp.rel hK3 bBn;have hS4:∀l,((False\/ShN (w.1.size+4) l)\/ShN (w2.1.size+4) l)->∃a:WT,l=.cell a/\W.1.size<=a.block/\a.block<w4.1.size/\a.block≠w.1.size/\a.block≠w2.1.size:=by
  rintro l ((h|⟨ad,e,h⟩)|⟨ad,e,h⟩)
  .exact h.elim
  .exact⟨ad,e,od,od,od,od⟩
  .exact⟨ad,e,od,od,od,od⟩
 refine ToE.bind (bIa L hK4 (λl hs=>by obtain⟨a2,e2,h1,h2,_⟩:=hS4 l hs;exact⟨a2,e2,h1,h2⟩) (text:=xn) og (by rw[hz4];exact hB4) h04 sl4) ?_;rintro gs5 g5 w5 sl5 t5 q5 B5 h05 hB5 ⟨out,ho5,rfl,hK5,rfl⟩;obtain rfl:=aZb ho5;have bEv:=hK4.trans hK5;have hz5:=hK5.size;refine ToE.bind (wJ (M:=λ_=>False) (λb hb=>hb.elim) hB5 h05 (aXn tb off _ _ _ AB a b _ T4 hT4 h65 w5 (H.tx' bEv.old)) sl5) ?_;rintro gs6 g6 w6 sl6 t6 q6 B6 h06 hB6 ⟨hg6,hr6,rfl⟩;have hz6:w6.1.size=w5.1.size:=by obtain⟨d,rfl⟩:=hr6;rfl
 refine⟨_,_,bAt (c:=c) L H hn5 hl AB.length 0 od gs6 g6 w6 sl6 t6 q6 h06 (by rw[hz6];exact hB6) hg6 (Kp.rel bEv hr6) (((nJ.kp (sD bBn)).kp hK5).kp (sD hr6)) λl hs=>?_⟩;obtain⟨a2,e2,h1,h2,h3⟩:=hS4 l hs;exact⟨a2,e2,h1,od,h3⟩
end
end
section
section
variable{W:WA}{Xk:Nat->Prop}{rs:WN}{tb:Nat}{tx:Obj}{sa:Option WT}{off c:Nat}{AB:List WG}{a b:Int}
abbrev bDq(W:WA)(g:WC)(w':WA)(B:Nat):Prop:=aJ6 g/\Kp W w'/\B=w'.1.size
theorem bBy(L:aB7 W Xk rs)(H:Lw W Xk tb tx sa off AB)(hn5:AB.length<=5):∀(j i:Nat),i+j=AB.length->∀(gs:Array WC)(g:WC)(w:WA)(sl:Option (Nat×Nat))(t:WO)(q:WN),gs[0]?=some g->Bs prog (λ_=>False) w.1.size 0 TT gs t q->C7 (sV sa AB.length c) a b i g->AtRel W w->(∀i' (h:i'<AB.length),i'<i->AB[i'].size<=2000)->
  ToE (bDq W) (crowd gs w sl) t:=by
 intro j
 induction j with
 |zero=>
  intro i hi gs g w sl t q h0 hB hg hr hl
  obtain rfl:i=AB.length:=od
  obtain⟨k,hk,hp⟩:=aNb a
  refine ToE.bind (wJ (M:=λ_=>False) (λb hb=>hb.elim) hB h0 (bFs tb off sa AB c a b k hk hp _ g hg w (H.tx' (sD hr).old)) sl) ?_
  rintro gs2 g2 w2 sl2 t2 q2 B2 h02 uO ⟨⟨T,hg2,hT⟩,pF,rfl⟩
  have hz:w2.1.size=w.1.size:=Ew
  exact bBt L H hn5 (λi h=>hl i h h) k hk T h02 (by rw[hz];exact uO) (atRel_trans _ _ _ hr pF) hg2 hT sl2
 |succ j ih=>
  intro i hi gs g w sl t q h0 hB hg hr hl
  have dN:i<AB.length:=od
  have e:=H.hsa od
  subst e
  have qV:w.1.size=W.1.size:=by obtain⟨d,rfl⟩:=hr;rfl
  have htb:=H.htb
  rcases jB 2000 AB[i].size with h2|h2
  .refine⟨_,_,To.mono (wJ (M:=λb=>b=tb) (λb hb=>⟨od,λ_ h=>h.elim⟩) hB h0 (bBr tb off AB c a b i dN h2 (λb=>b=tb) rfl g hg w (H.tx' (sD hr).old)) sl) ?_⟩
   rintro g2 w2 B2 ⟨h1,pF,rfl⟩
   exact⟨h1,sD (atRel_trans _ _ _ hr pF),Ew⟩
  .refine ToE.bind (wJ (M:=λb=>b=tb) (λb hb=>⟨od,λ_ h=>h.elim⟩) hB h0 (bBs tb off AB c a b hn5 i dN h2 (λb=>b=tb) rfl g hg w (H.tx' (sD hr).old)) sl) ?_
   rintro gs2 g2 w2 sl2 t2 q2 B2 h02 uO ⟨hg2,pF,rfl⟩
   have hz:w2.1.size=w.1.size:=Ew
   refine ih (i+1) od gs2 g2 w2 sl2 t2 q2 h02 (by rw[hz];exact uO) hg2 (atRel_trans _ _ _ hr pF) λi' h3 h4=>?_
   rcases jB i' i with h5|h5
   .exact hl i' h3 h5
   .obtain rfl:i'=i:=by omega
    exact h2
def aBm(f:Func)(sl:WB)(a b:Int):WC:=G (b3.at ⟨(sl::iI a::iI b::List.replicate 91 undef).toArray,[]⟩ [.code (f.body.getD .skip)]) []
theorem bFv(L:aB7 W Xk rs)(H:Lw W Xk tb tx sa off AB)(sl:Option (Nat×Nat)):ToE (bDq W) (crowd #[(aBm f3) (sV sa AB.length c) a b] W sl) #[]:=by
 have hB:Bs prog (λ_=>False) W.1.size 0 TT #[(aBm f3) (sV sa AB.length c) a b] #[] (λ_=>0):=⟨leavers_one _ _,past_nil.mono (kI _),rfl,oe,oe⟩;rcases jB 5 AB.length with h5|h5
 .refine⟨_,_,To.mono (wJ (M:=λ_=>False) (λb hb=>hb.elim) hB rfl (aXm tb off sa AB c a b h5 _ W (H.tx' λ_ _=>rfl)) sl) ?_⟩;rintro g2 w2 B2 ⟨h1,pF,rfl⟩;exact⟨h1,sD pF,Ew⟩
 .refine ToE.bind (wJ (M:=λ_=>False) (λb hb=>hb.elim) hB rfl (bFu tb off sa AB c a b h5 _ W (H.tx' λ_ _=>rfl)) sl) ?_;rintro gs2 g2 w2 sl2 t2 q2 B2 h02 uO ⟨hg2,pF,rfl⟩;have hz:w2.1.size=W.1.size:=Ew;exact bBy L H h5 AB.length 0 od gs2 g2 w2 sl2 t2 q2 h02 (by rw[hz];exact uO) hg2 pF λi' _ h=>absurd h (kV _)
end
theorem bCz(g:WC)(h:aJ6 g)(w:WA):stepG prog true g w=.ended (.done (.bool true)) w #[]:=by
 obtain⟨T,td,rfl,h6⟩:=h;have hr:f3.results=#[.tmp 6]:=oh;have e1:(results f3 T).run prog w=.ok (.bool true) w:=by rw[results_tmp hr,h6]
 have e2:(results f3 T).events prog w #[]=#[]:=events_results_tmp hr _ _;simp[G,stepG,unwind,Frame.at,b3,base,func3,e1,e2,doReturn,seen,GStep.after]
theorem aMy{W:WA}{Xk:Nat->Prop}{rs:WN}{tb:Nat}{tx:Obj}{sa:Option WT}{off c:Nat}{AB:List WG}{a b:Int}(L:aB7 W Xk rs)(H:Lw W Xk tb tx sa off AB)(sl:Option (Nat×Nat)):
  ∃M last o w' t',runNT prog (M+1) (crowd #[(aBm f3) (sV sa AB.length c) a b] W sl) #[]=(.ended o w',t')/\runN prog M (crowd #[(aBm f3) (sV sa AB.length c) a b] W sl)=.next last/\step prog last=.ended o w'/\Go.Conc.Good prog (λv w'=>v=.bool true/\Kp W w') last o w' t':=by
 obtain⟨S,J,N,gs,g,w,sl2,t,q,B,e,h0,hB,hR,hK,rfl⟩:=bFv (a:=a) (b:=b) (c:=c) L H sl;obtain⟨N2,last,o,w',t',e1,e2,e3,e4⟩:=beside_ends (P:=prog) (Shun:=S) (B:=w.1.size) (D:=Dm λ_=>False) (Post:=λv w'=>v=.bool true/\Kp W w') (n:=0) (λw2 w3 es hd e he=>by
  obtain⟨ad,rfl,hb⟩:=hd.2 e he
  exact hb.elim) (sl:=sl2) h0 hB.lv hB.past (λw1 h1=>⟨by obtain⟨T,td,rfl,_⟩:=hR;rfl,_,_,bCz g hR w1,oe,rfl,Kp.rel hK h1⟩)
 refine⟨N+N2,last,o,w',t',?_,?_,e3,e4⟩
 .rw[show N+N2+1=N+(N2+1)by omega,runNT_add,e];exact e1
 .have e5:runN prog N (crowd #[(aBm f3) (sV sa AB.length c) a b] W sl)=.next (crowd gs w sl2):=by rw[<-runNT_fst prog N _ #[],e]
  rw[runN_add,e5];exact e2
end
