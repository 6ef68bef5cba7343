import Derived.Test.YtnbomhedoelklaaGreatDoorZT19
import Derived.Test.YtnbomhedoelklaaGreatDoorZT20
import Derived.Test.YtnbomhedoelklaaGreatDoorZT8
import Derived.Test.YtnbomhedoelklaaGreatDoorZW9
import Derived.Conc.CrowdMono
import Derived.Conc.TokenWalk
namespace Go.Proofs.YtnbomhedoelklaaGreatDoor
open Go.RowKit Go.Proofs.Tryz
set_option maxRecDepth 99999
set_option maxHeartbeats 0
open Go.Conc Go.ConcN Go.Conc.Lib Go.ConcR.Gen Go.ConcN.Gen
open Go.ConcR (KK wgBlock WgAt stA smA rd wr mk Payload Aside2 DC0)
section
variable{p:Pm}
theorem aQk(p:Pm)(g:WC)(hg:J9 p g)(w:WA):stepG prog false g w=.comm g #[rcase p.ch aM2] true (.recv true) w #[]:=by
 obtain⟨v3,v5,v6,v7,v8,v9,P6,P7,P8,P9,Q5,rfl⟩:=hg;have cK:(((aBt f8)[0]?).getD default).op=.recv 31 (.tmp 4) true:=oh;rw[stepG_comm (o:=((aBt f8)[0]?).getD default) (cases:=#[rcase p.ch aM2]) (blocking:=true) (shape:=.recv true) (w':=w) oh rfl ov ?_]
 .rw[wS ?_];unfold execOp;simp only[cK];simp[go_sem,Act.eval,T8]
 .unfold execOp;simp only[cK];simp[go_sem,Act.eval,T8,rcase,aM2];try rfl
theorem aQb(T:Array WB):QuitsD prog 2 0 (G { b8.at ⟨T,[]⟩ []with mode:=.returning } [(bot prog)]):=by
 refine QuitsD.ctl (g':=G (bot prog) []) rfl (λw=>?_) ?_
 .simp[G,stepG,unwind,doReturn,results,Frame.at,b8,baseD,bot,func8,f8,seen,GStep.after,goexitEntry]
 refine QuitsD.ctl (g':={ G (bot prog) []with status:=.finished }) rfl (λw=>?_) ⟨rfl,rfl⟩;simp[G,stepG,unwind,bot,goexitEntry,Frame.catches];rfl
abbrev aBu:Payload:=⟨31⟩
abbrev RWp(p:Pm):WA->WA->Prop:=@RW aBu 41 p.Wg p.bt 1 0 0
def R0(p:Pm):WC->WA->Prop:=@Go.ConcN.AtR0 aBu prog 41 p.Wg p.bt 1 0 1 (.chan (some p.ch))
theorem Rx.rw{M:Nat->Prop}{w w1:WA}(h:Rx p M w w1):RWp p w w1:=by refine @RW.mk aBu _ _ _ _ _ _ _ _ (λb hb=>absurd hb od) (λ_=>h.cm.wg) (λ_=>⟨_,h.cm.bt,rfl⟩) ?_;simp only[World.cell?,h.bt]
abbrev DWp(p:Pm):WA->WA->Array Event->Prop:=@DWs aBu p.Wg (λ_ _=>False) (λ_ _=>False) p.bt 1 1
theorem A0(g:WC)(w:WA)(h:R0 p g w):∃g' w',stepG prog false g w=.go g' w' #[mk (.releaseMerge (stA p.Wg))]:=by obtain⟨_,_,g',h,_⟩:=h;exact⟨g',w,h⟩
def S1(p:Pm)(g:WC)(w:WA):Prop:=∃g1 g2 g3 g4 g5,stepG prog false g w=.go g1 w #[mk (.releaseMerge (stA p.Wg))]/\stepG prog false g1 w=.go g2 w #[]/\stepG prog false g2 w=.go g3 w #[]/\stepG prog false g3 w=.go g4 w #[]/\stepG prog false g4 w=.go g5 w #[mk .disable]
theorem bI8(g:WC)(w:WA)(h:S1 p g w)(m:Nat)(k:Goes prog false (RWp p) (DWp p) (R0 p) m g w):R0 p g w:=by
 obtain⟨g1,g2,g3,g4,g5,e0,e1,e2,e3,e4⟩:=h;rcases Goes.cases k with hs|⟨n,rfl,hs⟩
 .exact hs w (@RW.refl aBu _ _ _ _ _ _ _)
 .exfalso;obtain⟨a,b,c,e,_,k1⟩:=hs w (@RW.refl aBu _ _ _ _ _ _ _);rw[e0]at e;cases e;have rf:∀w,RWp p w w:=λw=>@RW.refl aBu _ _ _ _ _ _ _;obtain⟨_,_,_,k2⟩:=aUl A0 k1 (rf _) e1 oe;obtain⟨_,_,_,k3⟩:=aUl A0 k2 (rf _) e2 oe;obtain⟨_,_,_,k4⟩:=aUl A0 k3 (rf _) e3 oe;obtain⟨d,_⟩:=aUl A0 k4 (rf _) e4 jl;exact(d.2 (mk .disable) oe).2.1 jl
def jG(p:Pm)(w:WA):Prop:=Cm p w/\WgLive 41 p.Wg w
theorem jG.rx{w w1:WA}(_:jG p w)(r:Rx p rU w w1):jG p w1:=⟨r.cm,r.cm.wg⟩
theorem aSi(p:Pm)(c:WK)(w:WA)(hF:jG p w):Goes prog false (Rx p rU) DC0 (S1 p) 23 (G ((baseD lk.done).at ⟨#[pP p.Wg,undef,undef,undef],[]⟩ [.code (body_done lk)]) [c,(bot prog)]) w:=by have H:=Q6;simp only[body_done,doneFn,AJ];u_reg jG.rx hF;u_op jG.rx hF;u_in jG.rx hF;refine goes_call rfl rfl ov rfl H.f_add (nm_add lk) rfl ⟨by u_nil,?_⟩;walk_nrmf addFn;u_c stepG_seq jG.rx hF;u_cond true jG.rx hF;u_c stepG_seq jG.rx hF;u_c stepG_seq jG.rx hF;u_reg jG.rx hF;u_op jG.rx hF;u_op jG.rx hF;u_c stepG_region_end jG.rx hF;u_cond true jG.rx hF;u_reg jG.rx hF;u_op jG.rx hF;u_in jG.rx hF;exact zKj
theorem aSh(p:Pm)(c:WK)(uP:c.mode=.returning){qt:Nat}(hT:QuitsD prog qt 0 (G c [(bot prog)]))(w:WA)(hF:Cm p w):Goes prog false (Rx p rU) DC0 (R0 p) 23 (G ((baseD lk.done).at ⟨#[pP p.Wg,undef,undef,undef],[]⟩ [.code (body_done lk)]) [c,(bot prog)]) w:=
 aCd (R2:=RWp p) (D2:=DWp p) (λ_ _ r=>r.rw) (λ_=>@RW.refl aBu _ _ _ _ _ _ _) (λ_ _ _ a b=>@RW.trans aBu _ _ _ _ _ _ _ _ _ a b) A0 oe (λ_ _ _ d=>d.2) bI8 23 23 _ _ (aSi p c w ⟨hF,hF.wg⟩) (@doneN aBu lk prog Q6 (λ_ _=>False) (λ_ _=>False) p.Wg p.bt 1 0 1 (.chan (some p.ch)) c [(bot prog)] qt uP hT w ⟨hF.wg,hF.cbt⟩)
theorem tR{P:WJ}{main:Bool}{R:WA->WA->Prop}{D D':WA->WA->Array Event->Prop}{Stop:WC->WA->Prop}(h:∀w w' es,D w w' es->D' w w' es):∀{n:Nat}{g:WC}{w:WA},Goes P main R D Stop n g w->Goes P main R D' Stop n g w
 |0,_,_,hg=>hg
 |n+1,g,w,hg=>by have bG7:=0;exact zI8
theorem Dx.of0{M:Nat->Prop}(w w':WA)(es:Array Event)(h:DC0 w w' es):Dx p M w w' es:=by obtain⟨rfl,rfl⟩:=h;exact Dx.idle
theorem bBw(p:Pm)(g:WC)(hg:J9 p g)(w:WA)(hF:Cm p w):Goes prog false (Rx p rU) (Dx p rU) (R0 p) 40 (Go.Conc.served g (tU #[aM2,.bool false])) w:=have bGf:=0;zJz
end
section
theorem jG.rxm{p:Pm}{M:Nat->Prop}{w w1:WA}(_:jG p w)(r:Rx p M w w1):jG p w1:=⟨r.cm,r.cm.wg⟩
section
variable(p:Pm)(M:Nat->Prop)
def GM(Stop:WC->WA->Prop)(g:WC)(w:WA):Prop:=∃m,Goes prog true (Rx p M) DC0 Stop m g w
def xH(e:Event)(Next:WC->WA->Prop)(g:WC)(w:WA):Prop:=
 g.status=.running/\∃g',stepG prog true g w=.go g' w #[e]/\GM p M Next g' w
def bDi(Next:WC->WA->Prop)(g:WC)(w:WA):Prop:=
 g.status=.running/\∀v:Nat,v<2147483647->WgAt 41 p.Wg w (v*KK) 0->
  ∃g',stepG prog true g w=.go g' (w.setCell (stA p.Wg) (.int .u64 ((v+1)*KK))) #[rd (stA p.Wg),wr (stA p.Wg)]/\(jG p (w.setCell (stA p.Wg) (.int .u64 ((v+1)*KK)))->GM p M Next g' (w.setCell (stA p.Wg) (.int .u64 ((v+1)*KK))))
def bDj(Next:WC->WA->Prop):WC->WA->Prop:=xH p M (mk .enable) Next
def aRh(Next:WC->WA->Prop)(g:WC)(w:WA):Prop:=xH p M ⟨.mark (.read (aA p.Wg 1)),false,true⟩ (bDj p M Next) g w\/bDj p M Next g w
def aRf(Next:WC->WA->Prop):WC->WA->Prop:=xH p M (mk .disable) (bDi p M (aRh p M Next))
end
section
variable{p:Pm}{M:Nat->Prop}{Next:WC->WA->Prop}{b₀:WK}{a₀:Act}{aKv:Array WQ}{i₀:Nat}{aCw:List Nat}{k₀:List Item}{cs:List WK}
theorem bIt(hT:∀w,jG p w->GM p M Next (G (b₀.at (a₀.put ((aKv[i₀]?).bind (·.dst)) (tU #[])) (.inRegion aKv aCw::k₀)) cs) w)(w:WA)(hF:jG p w):Goes prog true (Rx p M) DC0 (aRf p M Next) 60 (G ((base lk.add).at ⟨(pP p.Wg::iI 1::List.replicate 115 undef).toArray,[]⟩ [.code (body_add lk)]) (b₀.at a₀ (.inRegion aKv (i₀::aCw)::k₀)::cs)) w:=by
 have H:=Q6;simp only[body_add,addFn,AJ,List.replicate_succ,List.replicate_zero];iterate 12 (refine uN ?_;clear hF;intro _ hF)
 refine Goes.stop (λw₁ h₁=>?_);replace hF:=hF.rxm h₁;clear h₁;refine⟨rfl,_,stepG_mark0 .disable oe rfl rfl ov rfl H.f_disable (x_disable_n lk) (x_disable_b lk) (x_disable_x lk) (x_disable_f lk),100,?_⟩;walk_nrm;iterate 2 (refine uN ?_;clear hF;intro _ hF)
 u_defer jG.rxm hF;iterate 8 (refine uN ?_;clear hF;intro _ hF)
 u_in jG.rxm hF;rw[stepG_entry_pure (.bool false) rfl rfl ov rfl H.f_inBubble (x_inBubble_n lk) (x_inBubble_b lk) (x_inBubble_x lk) (x_inBubble_f lk)];simp only[goes_go];refine⟨by u_nil,?_⟩;walk_nrm;exact zKe
end
end
section
section
variable(p:Pm)(M:Nat->Prop)(Next W6:WC->WA->Prop)
def AtAcq:WC->WA->Prop:=xH p M (mk (.acquire (stA p.Wg))) Next
def AtKe:WC->WA->Prop:=xH p M (mk .enable) (AtAcq p M Next)
def AtW4(g:WC)(w:WA):Prop:=g.status=.running/\(WgAt 41 p.Wg w 0 0->∃g',stepG prog true g w=.go g' w #[rd (stA p.Wg)]/\GM p M (AtKe p M Next) g' w)
def AtW3(g:WC)(w:WA):Prop:=g.status=.running/\g.offers=none/\
 ((∃st,WgAt 41 p.Wg w st 0)->stepG prog true g w=.go { g with status:=.blocked } w #[])/\
 (WgAt 41 p.Wg w 0 1->∃g',stepG prog true g w=.go g' (w.setCell (smA p.Wg) (.int .u32 0)) (semEvents (smA p.Wg))/\(jG p (w.setCell (smA p.Wg) (.int .u32 0))->GM p M (AtW4 p M Next) g' (w.setCell (smA p.Wg) (.int .u32 0))))
def bIi:WC->WA->Prop:=xH p M ⟨.mark (.write (aA p.Wg 1)),false,true⟩ (AtW3 p M Next)
def AtW2(vs:Nat)(g:WC)(w:WA):Prop:=g.status=.running/\∀v:Nat,v<2147483648->WgAt 41 p.Wg w (v*KK) 0->
 (v=vs->∃g',stepG prog true g w=.go g' (w.setCell (stA p.Wg) (.int .u64 (v*KK+1))) #[rd (stA p.Wg),wr (stA p.Wg)]/\(jG p (w.setCell (stA p.Wg) (.int .u64 (v*KK+1)))->GM p M (bIi p M Next) g' (w.setCell (stA p.Wg) (.int .u64 (v*KK+1)))))/\
 (v≠vs->∃g',stepG prog true g w=.go g' w #[rd (stA p.Wg)]/\GM p M W6 g' w)
def AtW1(g:WC)(w:WA):Prop:=g.status=.running/\∀v:Nat,v<2147483648->WgAt 41 p.Wg w (v*KK) 0->∃g',stepG prog true g w=.go g' w #[rd (stA p.Wg)]/\
 (v=0->GM p M (AtKe p M Next) g' w)/\(v≠0->GM p M (AtW2 p M Next W6 v) g' w)
def AtKd:WC->WA->Prop:=xH p M (mk .disable) W6
end
def aM3(p:Pm)(c:WK)(cs:List WK)(g:WC)(w:WA):Prop:=
 ∃T:Array WB,g=G ((base lk.wait).at ⟨T,[]⟩ [.code (L7 lk),.inLoop (L7 lk),.inBlock 0]) (c::cs)/\T.size=84/\T[0]?=some (pP p.Wg)/\jG p w
section
variable{p:Pm}{M:Nat->Prop}{Next:WC->WA->Prop}{b₀:WK}{a₀:Act}{aKv:Array WQ}{i₀:Nat}{aCw:List Nat}{k₀:List Item}{cs:List WK}
theorem bIh(c:WK)(w:WA)(hF:jG p w):Goes prog true (Rx p M) DC0 (AtKd p M (aM3 p c cs)) 8 (G ((base lk.wait).at ⟨(pP p.Wg::List.replicate 83 undef).toArray,[]⟩ [.code (body_wait lk)]) (c::cs)) w:=by have H:=Q6;simp only[body_wait,waitFn,AJ,List.replicate_succ,List.replicate_zero];exact zMp
theorem bD1(bJ5:∀(T:Array WB) (td:List Item) (w:WA),jG p w->Next (G { (base lk.wait).at ⟨T,[]⟩ td with mode:=.returning } (b₀.at a₀ (.inRegion aKv (i₀::aCw)::k₀)::cs)) w)
  (g:WC)(w:WA)(h:aM3 p (b₀.at a₀ (.inRegion aKv (i₀::aCw)::k₀)) cs g w):GM p M (AtW1 p M Next (aM3 p (b₀.at a₀ (.inRegion aKv (i₀::aCw)::k₀)) cs)) g w:=by
 have H:=Q6;obtain⟨T,rfl,bJ7,t0,hF⟩:=h;obtain⟨v0,v1,v2,v3,v4,v5,v6,v7,v8,v9,P6,P7,P8,P9,Q5,v15,v16,v17,v18,v19,v20,v21,v22,v23,v24,v25,v26,v27,v28,v29,v30,v31,v32,v33,v34,v35,v36,v37,v38,v39,v40,v41,v42,v43,v44,v45,v46,v47,v48,v49,v50,v51,v52,v53,v54,v55,v56,v57,v58,v59,v60,v61,v62,v63,v64,v65,v66,v67,v68,v69,v70,v71,v72,v73,v74,v75,v76,v77,v78,v79,v80,v81,v82,v83,rfl⟩:=array84 T bJ7;simp only[List.getElem?_toArray,List.getElem?_cons_zero,AI]at t0;subst t0;refine⟨40,?_⟩;simp only[L7,body_wait,waitFn,AJ];iterate 6 (refine uN ?_;clear hF;intro _ hF)
 u_call H.f_uLoad (nm_uLoad lk) uLoadFn jG.rxm hF;iterate 9 (refine uN ?_;clear hF;intro _ hF)
 refine Goes.stop (λw₁ h₁=>?_);replace hF:=hF.rxm h₁;clear h₁;refine⟨rfl,λv hv hw=>?_⟩;rcases Nat.eq_zero_or_pos v with rfl|hvp
 .replace hw:WgAt 41 p.Wg w₁ 0 0:=by simpa using hw
  refine⟨_,stepG_load_atomic (v:=0) rfl rfl ov rfl H.f_loadU64 (x_loadU64_n lk) (x_loadU64_b lk) (x_loadU64_x lk) .u64 (x_loadU64_f lk) rfl hw.cellSt,λ_=>⟨60,?_⟩,λh=>absurd rfl h⟩;exact zGh
 .obtain⟨S,hS⟩:∃S:Int,(v:Int)*KK=S:=⟨_,rfl⟩;have a1:S/4294967296=(v:Int):=by rw[<-hS];simp only[KK];omega
  have b1:bits .and .u64 S 2147483648=0:=by rw[<-hS];have:=st_flag v 0 od od;simpa[KK]using this
  have b2:bits .and .u64 S 2147483647=0:=by rw[<-hS];have:=st_waiters v 0 od od;simpa[KK]using this
  have c1:IntKind.i32.wrap (v:Int)=(v:Int):=by rw[IntKind.wrap_i32];omega
  have w1:IntKind.u64.wrap (S+1)=S+1:=by rw[IntKind.wrap_u64,<-hS];simp only[KK];omega
  have q3:decide ((v:Int)<0)=false:=kD od;have q4:decide (0<(v:Int))=true:=kF od;have q5:((v:Int)==0)=false:=ol;have q6:decide ((v:Int)=0)=false:=kD od;rw[hS]at hw;refine⟨_,stepG_load_atomic (v:=S) rfl rfl ov rfl H.f_loadU64 (x_loadU64_n lk) (x_loadU64_b lk) (x_loadU64_x lk) .u64 (x_loadU64_f lk) rfl hw.cellSt,λh0=>absurd h0 od,λ_=>⟨80,?_⟩⟩;clear hw;walk_nrm;iterate 3 (refine uN ?_;clear hF;intro _ hF)
  u_leave1 H.f_uLoad jG.rxm hF;iterate 22 (refine uN ?_;clear hF;intro _ hF)
  u_cnd false jG.rxm hF;iterate 9 (refine uN ?_;clear hF;intro _ hF)
  u_call H.f_uCas (nm_uCas lk) uCasFn jG.rxm hF;have aEn:=0;exact zKe
end
end
theorem aWl{α:Type}(l:Array α)(h:l.size=48):∃v0 v1 v2 v3 v4 v5 v6 v7 v8 v9 P6 P7 P8 P9 Q5 v15 v16 v17 v18 v19 v20 v21 v22 v23 v24 v25 v26 v27 v28 v29 v30 v31 v32 v33 v34 v35 v36 v37 v38 v39 v40 v41 v42 v43 v44 v45 v46 v47,l=(v0::v1::v2::v3::v4::v5::v6::v7::v8::v9::P6::P7::P8::P9::Q5::v15::v16::v17::v18::v19::v20::v21::v22::v23::v24::v25::v26::v27::v28::v29::v30::v31::v32::v33::v34::v35::v36::v37::v38::v39::v40::v41::v42::v43::v44::v45::v46::v47::[]).toArray:=by
 obtain⟨l⟩:=l
 match l,h with
 |v0::v1::v2::v3::v4::v5::v6::v7::v8::v9::P6::P7::P8::P9::Q5::v15::v16::v17::v18::v19::v20::v21::v22::v23::v24::v25::v26::v27::v28::v29::v30::v31::v32::v33::v34::v35::v36::v37::v38::v39::v40::v41::v42::v43::v44::v45::v46::v47::[],_=>exact⟨v0,v1,v2,v3,v4,v5,v6,v7,v8,v9,P6,P7,P8,P9,Q5,v15,v16,v17,v18,v19,v20,v21,v22,v23,v24,v25,v26,v27,v28,v29,v30,v31,v32,v33,v34,v35,v36,v37,v38,v39,v40,v41,v42,v43,v44,v45,v46,v47,rfl⟩
def b4:WK:=base 4
def spine:Nat->Code->Code
 |0,c=>c
 |k+1,.seq _ r=>spine k r
 |_+1,_=>.skip
def X5(f:Func):Code:=spine 5 (f.body.getD .skip)
def Ls(f:Func):Code:=match (X5 f)with|.seq (.seq _ (.block _ (.loop l))) _=>l|_=>.skip
def B4(f:Func):Code:=match (X5 f)with|.seq _ b=>b|_=>.skip
def Ld(f:Func):Code:=match (B4 f)with|.seq (.seq _ (.block _ (.loop l))) _=>l|_=>.skip
def B16(f:Func):Code:=match (B4 f)with|.seq _ b=>b|_=>.skip
structure St4(p:Pm)(tx:WB)(m:Nat)(T:Array WB):Prop where
 size:T.size=48
 tx:T[0]?=some tx
 m:T[1]?=some (iI m)
 ba:T[6]?=some (pP p.ba)
 bt:T[7]?=some (pP p.bt)
 wg:T[8]?=some (pP p.Wg)
def vB(p:Pm)(tx:WB)(m:Nat)(cs:List WK)(j:Nat)(g:WC)(w:WA):Prop:=
 ∃T,g=G (b4.at ⟨T,[]⟩ [.code (Ls f4),.inLoop (Ls f4),.inBlock 0,.code (B4 f4)]) cs/\St4 p tx m T/\T[27]?=some (iI m)/\T[28]?=some (iI j)/\jG p w
def AtGo(p:Pm)(M:Nat->Prop)(Next:WC->WA->Prop)(g:WC)(w:WA):Prop:=
 g.status=.running/\∃g',stepG prog true g w=.spawn g' (born prog (aC4 p)) w #[]/\GM p M Next g' w
theorem sp8(p:Pm)(M:Nat->Prop)(tx:WB)(m:Nat)(hm:m<=16)(cs:List WK)(j:Nat)(hj:j<m)(g:WC)(w:WA)(h:vB p tx m cs j g w):GM p M (aRf p M (AtGo p M (vB p tx m cs (j+1)))) g w:=by have H:=Q6;obtain⟨T,rfl,⟨hs,t0,t1,t6,t7,t8⟩,t27,t28,hF⟩:=h;exact zG7
def aAy(o:Obj)(k:Nat):Option WB:=match o with
 |.cells c _ _=>c[k]?
 |_=>none
structure FT(p:Pm)(off:Nat)(AB:List WG)(w:WA):Prop where
 cm:Cm p w
 ct:∀i (h:i<AB.length),aAy p.tx (off+i)=some (sT AB[i])
theorem FT.rx{p:Pm}{M:Nat->Prop}{off:Nat}{AB:List WG}{w w1:WA}(h:FT p off AB w)(r:Rx p M w w1):FT p off AB w1:=⟨r.cm,h.ct⟩
theorem FT.tx{p:Pm}{off:Nat}{AB:List WG}{w:WA}(h:FT p off AB w)(i:Nat)(hi:i<AB.length):w.cell? (aA p.tb (off+i))=some (sT AB[i]):=by
 have h1:=h.cm.tx;have h2:=h.ct i hi
 cases hx:p.tx with
 |cells c e f=>rw[hx]at h1 h2;simpa[World.cell?,h1,aAy]using h2
 |_=>rw[hx]at h2;simp[aAy]at h2
def GX(p:Pm)(Next:WC->WA->Prop)(g:WC)(w:WA):Prop:=∃m,Goes prog true (Rx p rU) (Dx p rU) Next m g w
def yI(p:Pm)(tx:WB)(m off:Nat)(AB:List WG)(cs:List WK)(i:Nat)(g:WC)(w:WA):Prop:=
 ∃T,g=G (b4.at ⟨T,[]⟩ [.code (Ld f4),.inLoop (Ld f4),.inBlock 2,.code (B16 f4)]) cs/\St4 p tx m T/\T[33]?=some tx/\T[34]?=some (iI AB.length)/\T[35]?=some (iI i)/\FT p off AB w
def AtSend(p:Pm)(v:WB)(Next:WC->WA->Prop)(g:WC)(w:WA):Prop:=
 g.status=.running/\∃z,stepG prog true g w=.comm g #[scase p.ch v z] true .send w #[]/\∀w',Rx p rU w w'->GX p Next (Go.Conc.served g undef) w'
theorem aLt{P:WJ}{main:Bool}{b:WK}{a:Act}{k:List Item}{cs:List WK}{w:WA}{cZ:Array WQ}{i:Nat}{rest:List Nat}{o:WQ}{x y:Operand}{c:Nat}{v:WB}(ho:cZ[i]?=some o)(hw:Region.wanted o (yielded cZ a.tmps)=true)(hk:b.kind≠.early)(cK:o.op=.send x y)(hx:a.eval x=.chan (some c))(hy:a.eval y=v):
  stepG P main (G (b.at a (.inRegion cZ (i::rest)::k)) cs) w=.comm (G (b.at a (.inRegion cZ (i::rest)::k)) cs) #[scase c v (tU #[])] true .send w #[]:=by
 rw[stepG_comm (o:=o) (cases:=#[scase c v (tU #[])]) (blocking:=true) (shape:=.send) (w':=w) ho hw hk ?_]
 .rw[wS ?_];unfold execOp;simp only[cK];simp[go_sem]
 .unfold execOp;simp only[cK,hx,hy];simp[go_sem,scase];try rfl
theorem aR2{b:WK}{a:Act}{cZ:Array WQ}{i:Nat}{rest:List Nat}{k:List Item}{cs:List WK}{v:WB}:Go.Conc.served (G (b.at a (.inRegion cZ (i::rest)::k)) cs) v=G (b.at (a.put ((cZ[i]?).bind (·.dst)) v) (.inRegion cZ rest::k)) cs:=by simp[Go.Conc.served,G,Frame.finish_at]
theorem bIe(p:Pm)(a:Option WT)(c m off:Nat)(AB:List WG)(cs:List WK)(g:WC)(w:WA)(h:vB p (sV a AB.length c) m cs m g w)(hF:FT p off AB w):GX p (yI p (sV a AB.length c) m off AB cs 0) g w:=by obtain⟨T,rfl,⟨hs,t0,t1,t6,t7,t8⟩,t27,t28,_⟩:=h;have m40:=0;exact zG7
theorem sd8(p:Pm)(b c m off:Nat)(AB:List WG)(hb:b=p.tb)(hl:AB.length<=1000)(cs:List WK)(i:Nat)(hi:i<AB.length)(g:WC)(w:WA)(h:yI p (sV (some (aA b off)) AB.length c) m off AB cs i g w):GX p (AtSend p (msg i AB[i]) (yI p (sV (some (aA b off)) AB.length c) m off AB cs (i+1))) g w:=by subst hb;exact zGu
def B17(f:Func):Code:=match (B16 f)with|.seq _ b=>b|_=>.skip
def B18(f:Func):Code:=match (B17 f)with|.seq _ b=>b|_=>.skip
def aZq(f:Func):Array WQ:=match (B17 f)with|.seq (.region _ cZ _) _=>cZ|_=>#[]
def fw(f:Func)(T:Array WB):WK:=b4.at ⟨T,[]⟩ (.inRegion (aZq f) [0]::[.code (B18 f)])
def AtClose(p:Pm)(Next:WC->WA->Prop)(g:WC)(w:WA):Prop:=
 g.status=.running/\mayWake prog g=true/\∀s r,w.1[p.ch]?=some (.chan 0 #[] false s r false)->
  ∃g',g'.status=.running/\stepG prog true g w=.go g' (w.setChan p.ch 0 #[] true s r false) #[⟨.obj p.ch,false,true⟩,⟨.obj p.ch,true,true⟩]/\(Rx p rU w (w.setChan p.ch 0 #[] true s r false)->∃m,Goes prog true (Rx p rU) DC0 Next m g' (w.setChan p.ch 0 #[] true s r false))
def An4(p:Pm)(tx:WB)(m:Nat)(cs:List WK)(g:WC)(w:WA):Prop:=∃T,St4 p tx m T/\aM3 p ((fw f4) T) cs g w
theorem aJb{p:Pm}{M:Nat->Prop}{e:Event}{N N':WC->WA->Prop}(h:∀g w,N g w->N' g w)(g:WC)(w:WA)(k:xH p M e N g w):xH p M e N' g w:=by obtain⟨h1,g',h2,m,h3⟩:=k;exact⟨h1,g',h2,m,goes_mono h h3⟩
theorem bI9(p:Pm)(tx:WB)(m off:Nat)(AB:List WG)(cs:List WK)(g:WC)(w:WA)(h:yI p tx m off AB cs AB.length g w):GX p (AtClose p (AtKd p rU (An4 p tx m cs))) g w:=by have H:=Q6;have m27:=0;exact zGu
section
variable{bx j k m:Nat}{w:WA}
structure Ix where
 G:Nat
 Xk:Nat->Prop
 rs:WN
 w0:WA
 tb:Nat
 tx:Obj
 sa:Option WT
 c:Nat
 off:Nat
 m:Nat
 AB:List WG
 cs:List WK
 cI:Loc->Prop
 j0:Nat
 wi:WA
section
variable(I:Ix)
def Ix.p(P:WJ):Pm:={ Y:=YS P I.G I.Xk I.rs,w0:=I.w0,row:=I.G,ba:=I.G+1,ch:=I.G+2,bt:=I.G+3,Wg:=I.G+4,n:=I.AB.length,tb:=I.tb,tx:=I.tx }
def Ix.q(P:WJ):Qm:={ Y:=YS P I.G I.Xk I.rs,w0:=I.w0,row:=I.G,ba:=I.G+1,ch:=I.G+2,bt:=I.G+3,Wg:=I.G+4,n:=I.AB.length,tb:=I.tb,tx:=I.tx,L:=I.G+5,tA:=22,tC:=31,tW:=41,tS:=9,tN:=44 }
def Ix.sl:WB:=sV I.sa I.AB.length I.c
def Ix.tk(k:Nat):WG:=I.AB.getD k ⟨#[]⟩
def aDc(g:WC)(w:WA):Prop:=∃T T' td,St4 (I.p prog) I.sl I.m T/\g=G { (base lk.wait).at ⟨T',[]⟩ td with mode:=.returning } ((fw f4) T::I.cs)/\jG (I.p prog) w
def Ix.X(P:WJ):Sp where
 q:=I.q P
 F:=FS
 E:=λk=>ES (I.tk k)
 ses:=λk=>yC P (I.tk k)
 bot:=bot P
 Rv:=J9 (I.p prog)
 msg:=λk=>msg k (I.tk k)
 mc:=λk=>pC k (I.tk k)
 z:=aM2
 zc:=pC 0 ⟨#[]⟩
 Told:=λk=>xM (I.tk k)
 nw:=I.m
 j0:=I.j0
 cI:=I.cI
 SpH:=λj=>vB (I.p prog) I.sl I.m I.cs j
 SdH:=λi=>yI (I.p prog) I.sl I.m I.off I.AB I.cs i
 W6:=An4 (I.p prog) I.sl I.m I.cs
 Fin:=aDc I
 wi:=I.wi
end
section
variable{I:Ix}{M:Nat->Prop}
theorem cg(w:WA):Cg (I.q prog) w↔Cm (I.p prog) w:=
 ⟨λh=>⟨h.ba,h.bt,h.wg,h.row,h.ch,h.held,h.size,h.os,h.tx,h.out,h.tp⟩,λh=>⟨h.ba,h.bt,h.wg,h.row,h.ch,h.held,h.size,h.os,h.tx,h.out,h.tp⟩⟩
theorem rg1(w w1:WA):Rg (I.q prog) M w w1↔Rx (I.p prog) M w w1:=⟨λh=>⟨(cg _).1 h.cm,h.size,h.own,h.bt⟩,λh=>⟨(cg _).2 h.cm,h.size,h.own,h.bt⟩⟩
theorem rg:Rg (I.q prog) M=Rx (I.p prog) M:=by funext w w1;exact propext (rg1 w w1)
theorem dg:Dg (I.q prog) M=Dx (I.p prog) M:=rfl
theorem gw{Stop:WC->WA->Prop}{g:WC}(h:Goes prog false (Rx (I.p prog) M) (Dx (I.p prog) M) Stop m g w):GW (I.X prog) M Stop m g w:=by show Goes prog false (Rg (I.q prog) M) (Dg (I.q prog) M) Stop m g w;rw[rg,dg];exact h
theorem gm{Stop:WC->WA->Prop}{g:WC}(h:Goes prog true (Rx (I.p prog) rU) (Dx (I.p prog) rU) Stop m g w):lK (I.X prog) Stop m g w:=by show Goes prog true (Rg (I.q prog) rU) (Dg (I.q prog) rU) Stop m g w;rw[rg,dg];exact h
theorem gm0{Stop:WC->WA->Prop}{g:WC}(h:GM (I.p prog) rU Stop g w):∃m,lK (I.X prog) Stop m g w:=by obtain⟨m,h⟩:=h;exact⟨m,gm (tR Dx.of0 h)⟩
theorem gm1{Stop aG0:WC->WA->Prop}{g:WC}(hs:∀g w,Stop g w->aG0 g w)(h:GM (I.p prog) rU Stop g w):∃m,lK (I.X prog) aG0 m g w:=by obtain⟨m,h⟩:=h;exact⟨m,gm (tR Dx.of0 (goes_mono hs h))⟩
theorem gx1{Stop aG0:WC->WA->Prop}{g:WC}(hs:∀g w,Stop g w->aG0 g w)(h:GX (I.p prog) Stop g w):∃m,lK (I.X prog) aG0 m g w:=by obtain⟨m,h⟩:=h;exact⟨m,gm (goes_mono hs h)⟩
theorem fr{text:WG}:FRG (I.q prog) bx (pC k text) w↔FR (I.p prog) bx k text w:=⟨λh=>⟨(cg _).1 h.cm,h.job⟩,λh=>⟨(cg _).2 h.cm,h.job⟩⟩
theorem bE4{g:WC}(h:J9 (I.p prog) g/\Cm (I.p prog) w):aNr (I.X prog) g w:=⟨h.1,(cg _).2 h.2⟩
theorem bE2{out:WG}(g:WC)(w:WA)(h:aRg (I.p prog) k out g w):aDa (I.X prog) k (sT out) g w:=by refine⟨h.1,λhc=>?_⟩;obtain⟨g',h1,h2⟩:=h.2 ((cg _).1 hc);exact⟨g',h1,λw' hc'=>gw (goes_mono (λg w h=>bE4 h) (h2 w' ((cg _).1 hc')))⟩
theorem bAh(g:WC)(w:WA)(h:aD5 (I.p prog) bx k (I.tk k) g w):aD6 (I.X prog) bx k g w:=by obtain⟨h1,h2,fr',h3,h4⟩:=h;exact⟨h1,fr.2 h2,fr',h3,λout w' hf=>gw (M:=OnB bx) (goes_mono bE2 (h4 out w' (fr.1 hf)))⟩
theorem aFd{b:Nat}{cs:Array WB}{t:WI}(h:w.1[b]?=some (.cells cs t))(v:WB):(w.setCell (aA b k) v).1[b]?=some (.cells (cs.setIfInBounds k v) t):=by rw[setCell_eq_setRow w b k _ _ (0,0) _ h,setRow_heap w b _ _ _ _ h]
theorem bAi(g:WC)(w:WA)(h:aJ0 (I.p prog) bx k (I.tk k) g w):aD8 (I.X prog) bx k g w:=by
 obtain⟨h1,h2,g',es,h3,h4,h5⟩:=h;have a1:=aside_setCell w (aA bx 0) (iI k);have a2:=aside_setCell (w.setCell (aA bx 0) (iI k)) (aA bx 1) (sT (I.tk k));refine⟨h1,fr.2 h2,g',_,es,h3,?_,⟨?_,?_,?_⟩,λb hb=>(a2.block b hb).trans (a1.block b hb),?_,h4,λw' hf=>gw (M:=OnB bx) (goes_mono bAh (h5 w' (fr.1 hf)))⟩
 .simp[World.setCell]
 .simp[World.setCell]
 .simp[World.setCell]
 .simp[World.setCell]
 .exact(aFd (aFd h2.job _) _).trans (by simp[pC];exact⟨rfl,rfl⟩)
theorem bAj(g:WC)(w:WA)(h:aJ1 (I.p prog) k (I.tk k) g w):aD9 (I.X prog) k g w:=by obtain⟨h1,h2,g',h3,h4⟩:=h;exact⟨h1,(cg _).2 h2,g',h3,λw' hf=>gw (M:=OnB w.1.size) (goes_mono bAi (h4 w' (fr.1 hf)))⟩
theorem say{e:Event}{N:WC->WA->Prop}{N':WC->WA->Prop}(hs:∀g w,N g w->N' g w)(g:WC)(w:WA)(h:xH (I.p prog) rU e N g w):uW (I.X prog) e N' g w:=by obtain⟨h1,g',h2,h3⟩:=h;exact⟨h1,g',h2,gm1 hs h3⟩
theorem cml(h:Cg (I.q prog) w):jG (I.p prog) w:=⟨(cg _).1 h,((cg _).1 h).wg⟩
theorem bE0(g:WC)(w:WA)(h:AtGo (I.p prog) rU (vB (I.p prog) I.sl I.m I.cs (j+1)) g w):aM4 (I.X prog) j g w:=by obtain⟨h1,g',h2,h3⟩:=h;exact⟨h1,g',_,h2,λw' hc=>⟨14,gw (goes_mono (λg w h=>bE4 h) (bDc (I.p prog) w' ((cg _).1 hc)))⟩,gm0 h3⟩
theorem bAk(g:WC)(w:WA)(h:aRh (I.p prog) rU (AtGo (I.p prog) rU (vB (I.p prog) I.sl I.m I.cs (j+1))) g w):T0 (I.X prog) j g w:=by
 rcases h with h|h
 .exact .inl (say (λg w h=>say bE0 g w h) g w h)
 .exact .inr (say bE0 g w h)
theorem bDz(g:WC)(w:WA)(h:aRf (I.p prog) rU (AtGo (I.p prog) rU (vB (I.p prog) I.sl I.m I.cs (j+1))) g w):aD7 (I.X prog) j g w:=by refine say (λg w h=>?_) g w h;refine⟨h.1,λv hv hw=>?_⟩;obtain⟨g',h2,h3⟩:=h.2 v hv hw;exact⟨g',h2,λhc=>gm1 bAk (h3 (cml hc))⟩
theorem bIu(g:WC)(w:WA)(h:AtKd (I.p prog) rU (An4 (I.p prog) I.sl I.m I.cs) g w):aM5 (I.X prog) g w:=say (λ_ _ h=>h) g w h
theorem aWn(g:WC)(w:WA)(h:AtClose (I.p prog) (AtKd (I.p prog) rU (An4 (I.p prog) I.sl I.m I.cs)) g w):zK (I.X prog) g w:=by refine⟨h.1,h.2.1,λs r hc=>?_⟩;obtain⟨g',h1,h2,h3⟩:=h.2.2 s r hc;refine⟨g',h1,h2,λhr=>gm1 bIu (h3 ((rg1 _ _).1 hr))⟩
section
variable{N An An':WC->WA->Prop}
theorem bE1(hs:∀g w,N g w->aDc I g w)(g:WC)(w:WA)(h:AtKe (I.p prog) rU N g w):aFr (I.X prog) g w:=say (λg w h=>say hs g w h) g w h
theorem bIy(hs:∀g w,N g w->aDc I g w)(g:WC)(w:WA)(h:AtW4 (I.p prog) rU N g w):aM7 (I.X prog) g w:=by refine⟨h.1,λhw=>?_⟩;obtain⟨g',h2,h3⟩:=h.2 hw;exact⟨g',h2,gm1 (bE1 hs) h3⟩
theorem bIx(hs:∀g w,N g w->aDc I g w)(g:WC)(w:WA)(h:AtW3 (I.p prog) rU N g w):aBz (I.X prog) g w:=by refine⟨h.1,h.2.1,h.2.2.1,λhw=>?_⟩;obtain⟨g',h2,h3⟩:=h.2.2.2 hw;exact⟨g',h2,λhc=>gm1 (bIy hs) (h3 (cml hc))⟩
theorem bIw(hs:∀g w,N g w->aDc I g w)(ha:∀g w,An g w->An4 (I.p prog) I.sl I.m I.cs g w){v:Nat}(g:WC)(w:WA)(h:AtW2 (I.p prog) rU N An v g w):aM6 (I.X prog) v g w:=by
 refine⟨h.1,λv' hv hw=>⟨λe=>?_,λe=>?_⟩⟩
 .obtain⟨g',h2,h3⟩:=(h.2 v' hv hw).1 e;exact⟨g',h2,λhc=>gm1 (λg w h=>say (bIx hs) g w h) (h3 (cml hc))⟩
 .obtain⟨g',h2,h3⟩:=(h.2 v' hv hw).2 e;exact⟨g',h2,gm1 ha h3⟩
theorem bIv(hs:∀g w,N g w->aDc I g w)(ha:∀g w,An g w->An4 (I.p prog) I.sl I.m I.cs g w)(g:WC)(w:WA)(h:AtW1 (I.p prog) rU N An g w):aFs (I.X prog) g w:=by refine⟨h.1,λv' hv hw=>?_⟩;obtain⟨g',h2,h3,h4⟩:=h.2 v' hv hw;exact⟨g',h2,λe=>gm1 (bE1 hs) (h3 e),λe=>gm1 (bIw hs ha) (h4 e)⟩
end
structure Ho(I:Ix):Prop where
 hG:7<I.G
 fz:aWf ((YS prog) I.G I.Xk I.rs) I.w0
 dw:∀t,cU I.w0.1.size (on I.w0 t)
 n:I.AB.length<=1000
 len:∀k,(I.tk k).size<=3000
 m1:1<=I.m
 m2:I.m<=16
 ct:∀i (h:i<I.AB.length),aAy I.tx (I.off+i)=some (sT I.AB[i])
 sa:0<I.AB.length->I.sa=some (aA I.tb I.off)
theorem bK2(H:Ho I):mG (I.X prog) where
 rv g h:=by
  refine⟨?_,λw=>aQk (I.p prog) g h w⟩
  obtain⟨v3,v5,v6,v7,v8,v9,P6,P7,P8,P9,Q5,rfl⟩:=h
  rfl
 serve k g w hk h hc:=⟨12,gw (goes_mono bAj (aYz (I.p prog) k (I.tk k) hk g h w ((cg _).1 hc)))⟩
 leave g w h hc:=⟨40,gw (bBw (I.p prog) g h w ((cg _).1 hc))⟩
 start k C w hk hc:=zP.start (λ ρ N h1 h2 h3=>pcS H.hG ρ N h1 h2 h3) H.fz hc.held hc.size hc.os bA5 (λv hv=>by simp at hv;subst hv;simp[Sc]) (aW5 (H.len k) H.dw)
 pc ρ N h1 h2 h3:=pcS H.hG ρ N h1 h2 h3
 done k fr w' ρ h:=by
  obtain⟨h1,h2,h3,h4,out,h5,h6⟩:=h
  refine⟨out,h5,λc l w=>?_⟩
  have e:=aHi (P:=prog) (fr:=bC ρ fr) (c:=c) (l:=l) (fn:=f6) (k:=(sG f6)) (by show rM ρ fr.mode=_;rw[h1];rfl) (by simp[bC,h2]) h3 j8 aLl false w
  have e2:(bC ρ fr).tmps.getD (sG f6) undef=sT out:=by
   simp only[Array.getD_eq_getD_getElem?]at h6
   cases hx:fr.tmps[(sG f6)]? with
   |none=>rw[hx]at h6;simp[undef]at h6
   |some v=>
    rw[hx]at h6
    have h6:v=sT out:=h6
    simp[bC,Array.getD_eq_getD_getElem?,hx,h6,rV]
  rw[e2]at e
  exact e
 spH j g w hj h:=gm1 bDz (sp8 (I.p prog) rU I.sl I.m H.m2 I.cs j hj g w h)
 spN g w h:=by
  obtain⟨T,h1,h2,h3,h4,h5⟩:=h
  exact gx1 (λ_ _ h=>h) (bIe (I.p prog) I.sa I.c I.m I.off I.AB I.cs g w ⟨T,h1,h2,h3,h4,h5⟩ ⟨h5.1,H.ct⟩)
 sdH i g w hi h:=by
  have hi:i<I.AB.length:=hi
  have e:=H.sa od
  have h:yI (I.p prog) (sV I.sa I.AB.length I.c) I.m I.off I.AB I.cs i g w:=h
  rw[e]at h
  refine gx1 (λg w h=>?_) (sd8 (I.p prog) I.tb I.c I.m I.off I.AB rfl H.n I.cs i hi g w h)
  obtain⟨h1,z,h2,h3⟩:=h
  refine⟨h1,z,?_,λw' hr=>gx1 (λg w h=>?_) (h3 w' ((rg1 _ _).1 hr))⟩
  .show _=GStep.comm g #[scase (I.G+2) (msg i (I.tk i)) z] true .send w #[]
   rw[show I.tk i=I.AB[i]by simp[Ix.tk,hi]];exact h2
  .show yI (I.p prog) (sV I.sa I.AB.length I.c) I.m I.off I.AB I.cs (i+1) g w
   rw[e];exact h
 sdN g w h:=gx1 aWn (bI9 (I.p prog) I.sl I.m I.off I.AB I.cs g w h)
 anch g w h:=by
  obtain⟨T,h1,h2⟩:=h
  exact gm1 (bIv (λ_ _ h=>h) (λg w h=>⟨T,h1,h⟩)) (bD1 (λT' td w hc=>⟨T,T',td,h1,rfl,hc⟩) g w h2)
 rSp j g w h:=by obtain⟨T,rfl,_⟩:=h;rfl
 rSd i g w h:=by obtain⟨T,rfl,_⟩:=h;rfl
 rAn g w h:=by obtain⟨T,_,T',rfl,_⟩:=h;rfl
 nw:=⟨H.m1,H.m2⟩
end
end
section
variable{s w w':WA}
structure En(s:WA)(l:List Obj)(w:WA):Prop where
 size:w.1.size=s.1.size+l.length
 old:∀b,b<s.1.size->w.1[b]?=s.1[b]?
 new:∀k,k<l.length->w.1[s.1.size+k]?=l[k]?
 eq:Eq3 s w
theorem En.rx{w1:WA}{l:List Obj}(h:En s l w)(r:AtRel w w1):En s l w1:=by obtain⟨d,rfl⟩:=r;exact⟨h.size,h.old,h.new,h.eq⟩
theorem En.alloc{l:List Obj}(h:En s l w)(o:Obj):En s (l++[o]) (w.alloc o):=by
 have e:(w.alloc o).1=w.1.push o:=rfl;refine⟨by rw[e];simp[h.size];omega,λb hb=>?_,λk hk=>?_,h.eq⟩
 .rw[e,Array.getElem?_push_lt (by rw[h.size];omega),<-h.old b hb,Array.getElem?_eq_getElem (by rw[h.size];omega)]
 .rcases jB k l.length with h1|h1
  .rw[e,Array.getElem?_push_lt (by rw[h.size];omega),List.getElem?_append_left h1,<-h.new k h1,Array.getElem?_eq_getElem (by rw[h.size];omega)]
  .obtain rfl:k=l.length:=by simp at hk;omega
   rw[e,<-h.size];simp
theorem En.set{l:List Obj}(h:En s l w)(k i:Nat)(hk:k<l.length){cs:Array WB}{t:WI}(hl:l[k]?=some (.cells cs t))(v:WB):En s (l.set k (.cells (cs.setIfInBounds i v) t)) (w.setCell (aA (s.1.size+k) i) v):=by
 have a:=aside_setCell w (aA (s.1.size+k) i) v;have hx:w.1[s.1.size+k]?=some (.cells cs t):=(h.new k hk).trans hl;have hz:(w.setCell (aA (s.1.size+k) i) v).1.size=w.1.size:=by simp[World.setCell]
 refine⟨by rw[hz,h.size];simp,λb hb=>(a.block b (by show b≠s.1.size+k;omega)).trans (h.old b hb),λj hj=>?_,⟨by simpa[World.setCell]using h.eq.1,by simpa[World.setCell]using h.eq.2.1,by simpa[World.setCell]using h.eq.2.2⟩⟩;rcases Nat.decEq j k with eH|rfl
 .rw[a.block _ (show s.1.size+j≠s.1.size+k by omega),List.getElem?_set_ne (Ne.symm eH)];exact h.new j O7
 .rw[aFd hx,List.getElem?_set_self hk]
def De(B:Nat)(_ _:WA)(es:Array Event):Prop:=∀e∈es,∃(a:WT)(wr:Bool),e=⟨.cell a,wr,false⟩/\(a.block=B+1\/a.block=B+3)
theorem De.idle{B:Nat}:De B w w' #[]:=λe he=>by simp at he
theorem De.ev{B:Nat}{es:Array Event}(h:∀e∈es,∃(a:WT) (wr:Bool),e=⟨.cell a,wr,false⟩/\(a.block=B+1\/a.block=B+3)):De B w w' es:=h
def five(B n:Nat):List Obj:=[.cells (madeCells #[sT ⟨#[]⟩] n) 9,.cells #[sL B n n] 22,.chan 0 #[] false 0 0 false,.cells #[.chan (some (B+2))] 31,wgBlock 41 0 0]
theorem Tryz.infoNum8:(Tryz.prog.info? 44).map (λi=>(i.zero,i.size,i.bytes))=some (some (.agg #[iI 0,sT ⟨#[]⟩]),2,24):=oh
theorem Tryz.undCh8:Tryz.prog.underlying 31=some (.chan .both 44):=oh
theorem bAz(s:WA)(B:Nat)(hB:s.1.size=B)(sa:Option WT)(n c m:Nat)(hn:n<=5)(hm1:1<=m)(hm2:m<=16)(cs:List WK)(w:WA)(hF:En s [] w):
  Goes prog true AtRel (De B) (λg w=>En s (five B n) w/\∃T,g=G (b4.at ⟨T,[]⟩ [.code (Ls f4),.inLoop (Ls f4),.inBlock 0,.code (B4 f4)]) cs/\St4 ⟨(YS prog) 0 (λ_=>False) (λ_=>0),s,B+1,B+3,B+4,B,B+2,n,0,.cells #[] 0⟩ (sV sa n c) m T/\T[27]?=some (iI m)/\T[28]?=some (iI 0)) 90
   (G (b4.at ⟨(sV sa n c::iI m::List.replicate 46 undef).toArray,[]⟩ [.code (f4.body.getD .skip)]) cs) w:=by
 subst hB;have h1:decide ((n:Int)>50)=false:=kD od;have h2:decide ((m:Int)<1)=false:=kD od;have h3:decide ((m:Int)>16)=false:=kD od;have h1':decide ((50:Int)<(n:Int))=false:=kD od;have h3':decide ((16:Int)<(m:Int))=false:=kD od;obtain⟨i0,hi,qV,qO,qP⟩:=info_parts Tryz.infoStr8;obtain⟨i4,hi4,bMy,bMz,bN0⟩:=info_parts Tryz.infoNum8;have hu4:=Tryz.undCh8;simp only[f4,AJ,List.replicate_succ,List.replicate_zero];iterate 26 (refine rN ?_;clear hF;intro _ hF)
 refine Goes.step rfl (λw₁ h₁=>?_);replace hF:=hF.rx h₁;clear h₁;have hz:w₁.1.size=s.1.size:=hF.size;have q0:=run_make (P:=prog) w₁ 22 9 i0 (sT ⟨#[]⟩) rfl hi qV .i64 .i64 n n od od O8 od;have q1:=λes=>events_make (P:=prog) w₁ 22 9 i0 (sT ⟨#[]⟩) rfl hi qV .i64 .i64 n n od od O8 od O8 es;simp only[qO,Int.toNat_natCast,Nat.mul_one,hz]at q0;refine goes_oper_k rfl rfl ov (λK hK=>?_);go_simp;refine hK _ _ ⟨.ev λe he=>?_,?_⟩
 .exact zCj
 clear hK K q0 q1;try walk_nrm
 replace hF:=hF.alloc (.cells (madeCells (Value.string ⟨#[]⟩).cells n) 9);clear hz;refine Goes.step rfl (λw₁ h₁=>?_);replace hF:=hF.rx h₁;clear h₁;have hz:w₁.1.size=s.1.size+1:=hF.size;refine goes_oper_k rfl rfl ov (λK hK=>?_);go_simp;refine hK _ _ ⟨.ev λe he=>?_,?_⟩
 .exact zCj
 clear hK K;try walk_nrm
 replace hF:=hF.alloc (.cells #[sV none 0 0] 22);clear hz;refine Goes.step rfl (λw₁ h₁=>?_);replace hF:=hF.rx h₁;clear h₁;have hz:w₁.1.size=s.1.size+2:=hF.size;have hx:w₁.1[s.1.size+1]?=some (.cells #[sV none 0 0] 22):=hF.new 1 oe;have qc:w₁.cell? (aA (s.1.size+1) 0)=some (sV none 0 0):=by simp[World.cell?,hx]
 have qf:w₁.frozen? (aA (s.1.size+1) 0)=false:=by simp[World.frozen?,hx]
 refine goes_oper_k rfl rfl ov (λK hK=>?_);go_simp;refine hK _ _ ⟨.ev λe he=>?_,?_⟩
 .have hm:=mem_listed he;simp[go_sem,events_store prog _ _ (aA (s.1.size+1) 0) (sL s.1.size n n) .plain rfl, *]at hm;subst hm;exact⟨_,_,rfl,.inl rfl⟩
 clear hK K qc qf hx;try walk_nrm
 replace hF:=hF.set 1 0 oe rfl (sL s.1.size n n);clear hz;iterate 3 (refine rN ?_;clear hF;intro _ hF)
 refine Goes.step rfl (λw₁ h₁=>?_);replace hF:=hF.rx h₁;clear h₁;have hz:w₁.1.size=s.1.size+2:=hF.size;have q0:(Instr.makeChan 31 (iI 0)).run prog w₁=.ok (.chan (some w₁.1.size)) (w₁.alloc (.chan 0 #[] false 0 0 false)):=run_makeChan (n:=0) hu4 hi4 .i64 od od;have q1:∀es,(Instr.makeChan 31 (iI 0)).events prog w₁ es=es:=λes=>events_makeChan (n:=0) hu4 hi4 .i64 od od es;simp only[hz]at q0;refine goes_oper_k rfl rfl ov (λK hK=>?_);go_simp;refine hK _ _ ⟨.ev λe he=>?_,?_⟩
 .exact zCj
 clear hK K q0 q1;try walk_nrm
 replace hF:=hF.alloc (.chan 0 #[] false 0 0 false);clear hz;refine Goes.step rfl (λw₁ h₁=>?_);replace hF:=hF.rx h₁;clear h₁;have hz:w₁.1.size=s.1.size+3:=hF.size;refine goes_oper_k rfl rfl ov (λK hK=>?_);go_simp;refine hK _ _ ⟨.ev λe he=>?_,?_⟩
 .exact zCj
 clear hK K;try walk_nrm
 replace hF:=hF.alloc (.cells #[.chan none] 31);clear hz;refine Goes.step rfl (λw₁ h₁=>?_);replace hF:=hF.rx h₁;clear h₁;have hz:w₁.1.size=s.1.size+4:=hF.size;have hx:w₁.1[s.1.size+3]?=some (.cells #[.chan none] 31):=hF.new 3 oe;have qc:w₁.cell? (aA (s.1.size+3) 0)=some (.chan none):=by simp[World.cell?,hx]
 have qf:w₁.frozen? (aA (s.1.size+3) 0)=false:=by simp[World.frozen?,hx]
 refine goes_oper_k rfl rfl ov (λK hK=>?_);go_simp;refine hK _ _ ⟨.ev λe he=>?_,?_⟩
 .have hm:=mem_listed he;simp[go_sem,events_store prog _ _ (aA (s.1.size+3) 0) (.chan (some (s.1.size+2))) .plain rfl, *]at hm;subst hm;exact⟨_,_,rfl,.inr rfl⟩
 clear hK K qc qf hx;try walk_nrm
 replace hF:=hF.set 3 0 oe rfl (.chan (some (s.1.size+2)));clear hz;iterate 3 (refine rN ?_;clear hF;intro _ hF)
 refine Goes.step rfl (λw₁ h₁=>?_);replace hF:=hF.rx h₁;clear h₁;have hz:w₁.1.size=s.1.size+4:=hF.size;refine goes_oper_k rfl rfl ov (λK hK=>?_);go_simp;refine hK _ _ ⟨.ev λe he=>?_,?_⟩
 .exact zCj
 clear hK K;try walk_nrm
 replace hF:=hF.alloc (wgBlock 41 0 0);clear hz;iterate 9 (refine rN ?_;clear hF;intro _ hF)
 refine Goes.stop (λw₁ h₁=>?_);exact⟨hF.rx h₁,_,rfl,⟨oe,oe,oe,oe,oe,oe⟩,oe,oe⟩
end
structure Hb(b:Nat)(v:WB)(t:WI)(w:WA):Prop where
 at_:w.1[b]?=some (.cells #[v] t)
theorem Hb.rx{b:Nat}{v:WB}{t:WI}{w w1:WA}(h:Hb b v t w)(r:AtRel w w1):Hb b v t w1:=by obtain⟨d,rfl⟩:=r;exact⟨h.at_⟩
theorem Hb.cell{b:Nat}{v:WB}{t:WI}{w:WA}(h:Hb b v t w):w.cell? (aA b 0)=some v:=by simp[World.cell?,h.at_]
def Dr(b:Nat)(w w':WA)(es:Array Event):Prop:=(∃d,w'=w.at d)/\∀e∈es,∃a:WT,e=⟨.cell a,false,false⟩/\a.block=b
theorem Dr.ev{b:Nat}{w:WA}{es:Array Event}(h:∀e∈es,∃a:WT,e=⟨.cell a,false,false⟩/\a.block=b):Dr b w w es:=⟨⟨w.drawn,rfl⟩,h⟩
theorem Dr.idle{b:Nat}{w:WA}:Dr b w w #[]:=.ev oe
theorem bEm(I:Ix)(g:WC)(w:WA)(h:aDc I g w):Goes prog true AtRel (Dr (I.p prog).ba) (λg _=>∃T td,g=G { b4.at ⟨T,[]⟩ td with mode:=.returning } I.cs/\T.getD 4 undef=sL I.G I.AB.length I.AB.length/\T.getD 5 undef=.nilIface) 20 g w:=by have H:=Q6;obtain⟨T,T',td,⟨hs,t0,t1,t6,t7,t8⟩,rfl,hC⟩:=h;have hF:Hb (I.p prog).ba (.slice (some ⟨(I.p prog).row,0,none⟩) (I.p prog).n (I.p prog).n) 22 w:=⟨hC.1.ba⟩;clear hC;exact zKr
theorem To.bind{P:WJ}{S1 S2:Loc->Prop}{J1 J2:Nat}{P1 P2:MemAct->Prop}{K1 K2:WC->WA->Nat->Prop}{m:Machine}{t:WO}(h:To P S1 J1 P1 K1 m t)
  (hk:∀gs a w sl t q B,gs[0]?=some a->Bs P S1 B J1 P1 gs t q->K1 a w B->To P S2 J2 P2 K2 (crowd gs w sl) t):To P S2 J2 P2 K2 m t:=by obtain⟨N,gs,a,w,sl,t1,q,B,e,h0,hB,h1⟩:=h;obtain⟨N',rX,a',w',N4,t',q',B',e',h2⟩:=hk gs a w sl t1 q B h0 hB h1;exact⟨N+N',rX,a',w',N4,t',q',B',by rw[runNT_add,e];exact e',h2⟩
theorem To.mono{P:WJ}{S1:Loc->Prop}{J1:Nat}{P1:MemAct->Prop}{K1 K2:WC->WA->Nat->Prop}{m:Machine}{t:WO}(h:To P S1 J1 P1 K1 m t)(hk:∀a w B,K1 a w B->K2 a w B):To P S1 J1 P1 K2 m t:=by obtain⟨N,gs,a,w,sl,t1,q,B,e,h0,hB,h1⟩:=h;exact⟨N,gs,a,w,sl,t1,q,B,e,h0,hB,hk _ _ _ h1⟩
theorem pY{P:WJ}{main:Bool}{D:WA->WA->Array Event->Prop}{Stop:WC->WA->Prop}(hD:∀w w' es,D w w' es->AtRel w w')(w0:WA):∀{n:Nat}{g:WC}{w:WA},AtRel w0 w->Goes P main AtRel D Stop n g w->Goes P main AtRel D (λg w=>Stop g w/\AtRel w0 w) n g w
 |0,_,_,h0,hg=>λw1 r=>⟨hg w1 r,atRel_trans _ _ _ h0 r⟩
 |n+1,g,w,h0,hg=>by exact zI8
theorem aMr{q:Qm}{M:Nat->Prop}{P:WJ}{main:Bool}{Stop:WC->WA->Prop}:∀{n:Nat}{g:WC}{w:WA},Cg q w->Goes P main (Rg q M) (Dg q M) Stop n g w->Goes P main AtRel (Dg q M) Stop n g w
 |0,_,_,hc,hg=>λw1 r=>by obtain⟨d,rfl⟩:=r;exact hg _ ⟨hc.at d,kG _,λ_ _=>rfl,rfl⟩
 |n+1,g,w,hc,hg=>by
  rcases hg with hs|⟨hr,fM⟩
  .exact .inl λw1 r=>by obtain⟨d,rfl⟩:=r;exact hs _ ⟨hc.at d,kG _,λ_ _=>rfl,rfl⟩
  .refine .inr ⟨hr,λw₁ r=>?_⟩;obtain⟨d,rfl⟩:=r;obtain⟨g',w',es,e,hd,hn⟩:=goes_elim (fM (w.at d) ⟨hc.at d,kG _,λ_ _=>rfl,rfl⟩);rw[e];obtain⟨d',rfl⟩:=hd.1;exact⟨hd,aMr ((hc.at d).at d') hn⟩
def Pr5(G:Nat)(x:MemAct):Prop:=(∀y,x.touch?=some y->¬∃a:WT,y.loc=.cell a/\(a.block=G+4\/a.block=G))/\x≠.mark (.release (stA (G+4)))
theorem aR9{x:MemAct}{B:Nat}(h:x.low B){y:Touch}(hy:x.touch?=some y){a:WT}(ha:y.loc=.cell a):a.block<B:=by
 cases x with
 |access e=>
  simp only[MemAct.touch?,AI]at hy
  subst hy
  simp only[MemAct.low]at h
  rw[show e.loc=.cell a from ha]at h
  exact h
 |mark m=>
  cases m<;>simp[MemAct.touch?]at hy
  all_goals(subst hy;simp only[Loc.cell.injEq]at ha;subst ha;exact h)
 |_=>simp[MemAct.touch?]at hy
theorem aYk{G:Nat}{x:MemAct}(h:x.low G):Pr5 G x:=⟨λy hy ⟨a,ha,hb⟩=>by have:=aR9 h hy ha;omega,λe=>by subst e;simp only[MemAct.low,stA]at h;omega⟩
theorem aUp{G:Nat}{e:Event}(h:e.mute=true):Pr5 G (MemAct.ofEvent e):=by refine⟨λy hy=>(by rw[touch_mute h]at hy;cases hy),λe2=>?_⟩;have hl:=Go.ConcR.loc_of_ofEvent e2;obtain⟨loc,w1,s1⟩:=e;simp only at hl;subst hl;simp[Event.mute]at h
structure Wi(I:Ix)(s:WA):Prop where
 size:s.1.size=I.G
 held:aRm ((YS prog) I.G I.Xk I.rs) I.w0 s
 os:s.os=I.w0.os
 out:s.output=I.w0.output
 tp:s.tape=I.w0.tape
 tx:s.1[I.tb]?=some I.tx
 tb:I.tb<I.G
 ktb:¬((YS prog) I.G I.Xk I.rs).K I.tb
 aIj:∀l,I.cI l->∃a:WT,l=.cell a/\a.block<I.G/\¬((YS prog) I.G I.Xk I.rs).K a.block/\a.block≠I.tb
theorem geo{I:Ix}{s:WA}(H:Ho I)(W:Wi I s):Geo (I.X prog):=by
 constructor;iterate 5 (show I.G<=_;first|exact kG _|(show I.G<=I.G+_;omega))
 iterate 5 (show _<I.G+5;first|(show I.G<I.G+5;omega)|(show I.G+_<I.G+5;omega))
 .show I.G+4≠I.G+1;omega
 .show I.G+4≠I.G+3;omega
 .show I.G+4≠I.G;omega
 .show I.G+4≠I.G+2;omega
 .show I.G≠I.G+1;omega
 .show I.G≠I.G+3;omega
 .show I.G≠I.G+2;omega
 .show I.G+2≠I.G+1;omega
 .show I.G+2≠I.G+3;omega
 .exact W.tb
 .exact W.ktb
 .exact H.fz
 .exact W.aIj
theorem aWk{I:Ix}{t:WO}{J:Nat}{Pr:MemAct->Prop}{gs:Array WC}{q:WN}{a:WC}{s:WA}{n:Nat}(H:Ho I)(W:Wi I s)(hn:I.AB.length=n)(hn5:n<=5)(hJ:I.j0=J)(h0:gs[0]?=some a)
  (ha:a=G (b4.at ⟨(I.sl::iI I.m::List.replicate 46 undef).toArray,[]⟩ [.code (f4.body.getD .skip)]) I.cs)(hB:Bs prog I.cI I.G J Pr gs t q)(sl:Option (Nat×Nat)):
  ∃w N m' t',runNT prog N (crowd gs s sl) t=(.next m',t')/\En s (five I.G n) w/\Won (Ix.X { I with wi:=w } prog) m' t':=by
 subst hn hJ ha;obtain⟨N,rX,a',w,N4,t',q',B',e,h0',hB',⟨hE,T,rfl,h1,h2,h3⟩,rfl⟩:=Bs.walk (P:=prog) (Pr:=Pr5 I.G) (B:=I.G+5) (J:=I.j0) (D:=De I.G) (λe he=>aUp he) (λw w' es hd e he=>by
  obtain⟨ad,wr,rfl,hb⟩:=hd e he
  refine⟨evL_cell ad wr (λhs=>?_) od,λy hy ⟨a',ha',hb'⟩=>?_,by rw[ofEvent_cell0];simp⟩
  .obtain⟨a',e,h1,_⟩:=W.aIj _ hs
   cases e
   omega
  .rw[ofEvent_cell0]at hy
   simp only[MemAct.touch?,AI]at hy
   subst hy
   simp only[Loc.cell.injEq]at ha'
   subst ha'
   omega) _ 90 gs _ s sl t q (kG _) h0 (hB.mono od λx hx _=>aYk hx)
  (bAz s I.G W.size I.sa I.AB.length I.c I.m hn5 H.m1 H.m2 I.cs s ⟨oe,λ_ _=>rfl,λk hk=>by simp at hk,.refl s⟩)
 have hz:w.1.size=I.G+5:=by rw[hE.size,W.size];rfl
 have hn:∀k,k<5->w.1[I.G+k]?=(five I.G I.AB.length)[k]?:=λk hk=>by rw[<-W.size];rw[W.size];have:=hE.new k hk;rw[W.size]at this;exact this
 have ho:∀b,b<I.G->w.1[b]?=s.1[b]?:=λb hb=>hE.old b (by rw[W.size];exact hb);have uP:Cm (I.p prog) w:=by
  refine⟨hn 1 od,hn 3 od,⟨0,0,hn 4 od⟩,⟨_,hn 0 od,size_madeCells _ _⟩,⟨false,0,0,hn 2 od⟩,⟨λb hb hk=>?_,λb hb=>?_⟩,by show I.G<=_;omega,hE.eq.1.trans W.os,(ho _ W.tb).trans W.tx,hE.eq.2.1.trans W.out,hE.eq.2.2.trans W.tp⟩
  .obtain⟨c,e,hi,f,h1,h2,h3⟩:=W.held.k b hb hk;exact⟨c,e,hi,f,h1,(ho b hb).trans h2,h3⟩
  .obtain⟨c,e,c0,e0,h1,h2,h3⟩:=W.held.o b hb;exact⟨c,e,c0,e0,h1,(ho b (H.fz.pend b hb).1).trans h2,h3⟩
 have H':Ho { I with wi:=w }:=⟨H.hG,H.fz,H.dw,H.n,H.len,H.m1,H.m2,H.ct,H.sa⟩;have W':Wi { I with wi:=w } s:=⟨W.size,W.held,W.os,W.out,W.tp,W.tx,W.tb,W.ktb,W.aIj⟩;have hsp:lK (Ix.X { I with wi:=w } prog) ((Ix.X { I with wi:=w } prog).SpH 0) 0 (G (b4.at ⟨T,[]⟩ [.code (Ls f4),.inLoop (Ls f4),.inBlock 0,.code (B4 f4)]) I.cs) w:=λw1 r=>(⟨T,rfl,⟨h1.size,h1.tx,h1.m,h1.ba,h1.bt,h1.wg⟩,h2,h3,cml (I:=I) ⟨r.cm.ba,r.cm.bt,r.cm.wg,r.cm.row,r.cm.ch,r.cm.held,r.cm.size,r.cm.os,r.cm.tx,r.cm.out,r.cm.tp⟩⟩:vB (I.p prog) I.sl I.m I.cs 0 _ w1);have d9:∀i x,touchAt t' i=some x->¬∃a:WT,x.loc=.cell a/\(a.block=I.G+4\/a.block=I.G):=λi x hx=>by obtain⟨op,ho,hox⟩:=touch_of hx;exact(hB'.pr op (AS ho)).1 x hox
 have hf2:NoRelease (stA (I.G+4)) t':=λi hi=>by obtain⟨op,ho,hox⟩:=AQ hi;exact(hB'.pr op (AS ho)).2 hox
 obtain⟨N2,m2,t2,e2,hW⟩:=aSc (X:=Ix.X { I with wi:=w } prog) (geo H' W') (bK2 H') (gs:=rX) (w:=w) (sl:=N4) (t:=t') (qf:=q') (m:=0) hB'.size h0' hsp hB'.lv (by rw[hz];exact hB'.past)
  (λi op hi=>hB'.g op (AS hi)) ((cg _).2 uP) rfl (by rw[hz];exact kG _) ⟨0,0,hn 2 od⟩ (hn 4 od) d9 hf2 ⟨((yC prog) (I.tk 0),[],I.w0),(aW5 (H.len 0) H.dw).acc⟩
 exact⟨w,N+N2,m2,t2,by rw[runNT_add,e];exact e2,hE,hW⟩
structure Rt(I:Ix)(s w:WA):Prop where
 size:I.G+5<=w.1.size
 old:∀b,b<I.G->w.1[b]?=s.1[b]?
 eq:Eq3 s w
 row:∃cs:Array WB,w.1[I.G]?=some (.cells cs 9)/\cs.size=I.AB.length/\∀k,k<I.AB.length->∃out,xM (I.tk k) out/\cs[k]?=some (sT out)
theorem Rt.at{I:Ix}{s w:WA}(h:Rt I s w)(d:Nat):Rt I s (w.at d):=⟨h.size,h.old,h.eq,h.row⟩
theorem Rt.rel{I:Ix}{s w w1:WA}(h:Rt I s w)(r:AtRel w w1):Rt I s w1:=by obtain⟨d,rfl⟩:=r;exact h.at d
def bIp(I:Ix)(s:WA)(g:WC)(w:WA):Prop:=Rt I s w/\∃T td,g=G { b4.at ⟨T,[]⟩ td with mode:=.returning } I.cs/\T.getD 4 undef=sL I.G I.AB.length I.AB.length/\T.getD 5 undef=.nilIface
theorem aMd{I:Ix}{t:WO}{J:Nat}{Pr:MemAct->Prop}{gs:Array WC}{q:WN}{a:WC}{s:WA}{n:Nat}(H:Ho I)(W:Wi I s)(hn:I.AB.length=n)(hn5:n<=5)(hJ:I.j0=J)(h0:gs[0]?=some a)
  (ha:a=G (b4.at ⟨(I.sl::iI I.m::List.replicate 46 undef).toArray,[]⟩ [.code (f4.body.getD .skip)]) I.cs)(hB:Bs prog I.cI I.G J Pr gs t q)(sl:Option (Nat×Nat)):
  To prog (λl=>I.cI l\/ShN (I.G+4) l) (J+I.m) (λ_=>True) (λg w B=>bIp I s g w/\B=w.1.size) (crowd gs s sl) t:=by
 obtain⟨w1,N,m',t',e,hE,rX,w,N4,a',mm,qf,rfl,hz,h0',hg,hlv,hP,uP,hL,nJ,hkp,hgs⟩:=aWk H W hn hn5 hJ h0 ha hB sl;subst hJ;have hL:I.G+5<=w.1.size:=hL;have aOv:Cm (I.p prog) w:=⟨uP.ba,uP.bt,uP.wg,uP.row,uP.ch,uP.held,uP.size,uP.os,uP.tx,uP.out,uP.tp⟩;have hR:Rt I s w:=by
  refine⟨hL,λb hb=>?_,⟨aOv.os.trans W.os.symm,aOv.out.trans W.out.symm,aOv.tp.trans W.tp.symm⟩,?_⟩
  .have h1:w.1[b]?=w1.1[b]?:=hkp b (by show b<I.G+5;omega) (by show b≠I.G+4;omega) (by show b≠I.G;omega) (by show b≠I.G+2;omega);exact h1.trans (hE.old b (by rw[W.size];exact hb))
  .obtain⟨cs,h1,h2⟩:=aOv.row;refine⟨cs,h1,h2,λk hk=>?_⟩;obtain⟨out,h3,h4⟩:=nJ k hk;refine⟨out,h3,?_⟩;have h4:w.cell? ⟨(I.p prog).row,k,none⟩=some (sT out):=h4;simpa[World.cell?,h1]using h4
 have rY:Bs prog (λl=>I.cI l\/ShN (I.G+4) l) w.1.size (I.j0+I.m) (λ_=>True) rX t' qf:=⟨hlv,hP,by rw[hz];show I.j0+1+I.m=_;omega,hgs,λ_ _=>trivial⟩;have hsh:∀(ad:WT),(ad.block=I.G+1\/ad.block=I.G+3\/ad.block=I.tb)->EvL (λl=>I.cI l\/ShN (I.G+4) l) w.1.size ⟨.cell ad,false,false⟩:=λad hb=>by
  have:=W.tb;refine evL_cell ad false (λhs=>?_) od;rcases hs with hs|⟨a2,e2,h2⟩
  .obtain⟨a2,e2,h2,h3,h4⟩:=W.aIj _ hs;cases e2;omega
  .cases e2;omega
 have sB:=aMr uP hg;have h1:=Bs.walk (P:=prog) (Pr:=λ_=>True) (B:=w.1.size) (J:=I.j0+I.m) (D:=Dg (I.q prog) rU) (Stop:=λg w2=>aDc I g w2/\AtRel w w2) (λ_ _=>trivial) (λw2 w3 es hd e he=>⟨by
  obtain⟨ad,rfl,hb⟩:=hd.2 e he
  refine hsh ad ?_
  rcases hb with hb|hb|hb|hb
  .exact .inl hb
  .exact .inr (.inl hb)
  .exact hb.elim
  .exact .inr (.inr hb),trivial⟩) _ mm rX a' w N4 t' qf (kG _) h0' rY (pY (λw2 w3 es hd=>hd.1) w (atRel_refl w) sB)
 refine To.bind (J1:=I.j0+I.m) (P1:=λ_=>True) (K1:=λg w2 B=>(aDc I g w2/\AtRel w w2)/\B=w.1.size) (S1:=λl=>I.cI l\/ShN (I.G+4) l) ?_ ?_
 .obtain⟨N2,x⟩:=h1;obtain⟨gs2,a2,w2,sl2,t2,q2,B2,e2,x⟩:=x;exact⟨N+N2,gs2,a2,w2,sl2,t2,q2,B2,by rw[runNT_add,e];exact e2,x⟩
 .rintro gs2 a2 w2 sl2 t2 q2 B2 h02 uO ⟨⟨hf,hr⟩,rfl⟩;have h2:=Bs.walk (P:=prog) (Pr:=λ_=>True) (B:=w.1.size) (J:=I.j0+I.m) (D:=Dr (I.p prog).ba) (λ_ _=>trivial) (λw2 w3 es hd e he=>⟨by
   obtain⟨ad,rfl,hb⟩:=hd.2 e he
   exact hsh ad (.inl hb),trivial⟩) _ 20 gs2 a2 w2 sl2 t2 q2 (kG _) h02 uO (pY (λw2 w3 es hd=>hd.1) w2 (atRel_refl w2) (bEm I a2 w2 hf))
  refine To.mono h2 ?_;rintro a3 w3 B3 ⟨⟨⟨T,td,rfl,q4,q5⟩,hr3⟩,rfl⟩;have hr4:=atRel_trans _ _ _ hr hr3;refine⟨⟨hR.rel hr4,T,td,rfl,q4,q5⟩,?_⟩;obtain⟨d,rfl⟩:=hr4;rfl
theorem aWu{α:Type}{n:Nat}{l:List α}(h:l.length=n+1):∃a t,l=a::t/\t.length=n:=by
 cases l with
 |nil=>cases h
 |cons a t=>exact⟨a,t,rfl,Nat.succ.inj h⟩
theorem aWm{α:Type}(l:Array α)(h:l.size=94):∃v0 v1 v2 v3 v4 v5 v6 v7 v8 v9 P6 P7 P8 P9 Q5 v15 v16 v17 v18 v19 v20 v21 v22 v23 v24 v25 v26 v27 v28 v29 v30 v31 v32 v33 v34 v35 v36 v37 v38 v39 v40 v41 v42 v43 v44 v45 v46 v47 v48 v49 v50 v51 v52 v53 v54 v55 v56 v57 v58 v59 v60 v61 v62 v63 v64 v65 v66 v67 v68 v69 v70 v71 v72 v73 v74 v75 v76 v77 v78 v79 v80 v81 v82 v83 v84 v85 v86 v87 v88 v89 v90 v91 v92 v93,l=(v0::v1::v2::v3::v4::v5::v6::v7::v8::v9::P6::P7::P8::P9::Q5::v15::v16::v17::v18::v19::v20::v21::v22::v23::v24::v25::v26::v27::v28::v29::v30::v31::v32::v33::v34::v35::v36::v37::v38::v39::v40::v41::v42::v43::v44::v45::v46::v47::v48::v49::v50::v51::v52::v53::v54::v55::v56::v57::v58::v59::v60::v61::v62::v63::v64::v65::v66::v67::v68::v69::v70::v71::v72::v73::v74::v75::v76::v77::v78::v79::v80::v81::v82::v83::v84::v85::v86::v87::v88::v89::v90::v91::v92::v93::[]).toArray:=by
 obtain⟨l⟩:=l;have h:l.length=94:=h;iterate 94
  obtain⟨_,_,e,k⟩:=aWu h;clear h;subst e;have h:=k;clear k
 obtain rfl:=List.length_eq_zero_iff.1 h;iterate 94 apply Exists.intro
 rfl
theorem aJt(s:WG)(w:WA)(es:Array Event):(Builtin.len_ #[9] 3 #[sT s]).events prog w es=es:=by have hu:Tryz.prog.underlying 9=some .string:=oh;simp[Builtin.len_,run_underlying hu]
structure Tx(b off:Nat)(AB:List WG)(w:WA):Prop where
 ct:∀i (h:i<AB.length),w.cell? (aA b (off+i))=some (sT AB[i])
theorem Tx.rx{b off:Nat}{AB:List WG}{w w1:WA}(h:Tx b off AB w)(r:AtRel w w1):Tx b off AB w1:=by obtain⟨d,rfl⟩:=r;exact⟨h.ct⟩
def Dm(M:Nat->Prop)(w w':WA)(es:Array Event):Prop:=(∃d,w'=w.at d)/\∀e∈es,∃a:WT,e=⟨.cell a,false,false⟩/\M a.block
theorem Dm.ev{M:Nat->Prop}{w:WA}{es:Array Event}(h:∀e∈es,∃a:WT,e=⟨.cell a,false,false⟩/\M a.block):Dm M w w es:=⟨⟨w.drawn,rfl⟩,h⟩
theorem Dm.idle{M:Nat->Prop}{w:WA}:Dm M w w #[]:=.ev oe
def b3:WK:=base 3
def Y2(f:Func):Code:=spine 2 (f.body.getD .skip)
def La(f:Func):Code:=match (Y2 f)with|.seq (.seq _ (.block _ (.loop l))) _=>l|_=>.skip
def B8(f:Func):Code:=match (Y2 f)with|.seq _ b=>b|_=>.skip
def B9(f:Func):Code:=match (B8 f)with|.seq _ b=>b|_=>.skip
def aZr(f:Func):Array WQ:=match (B8 f)with|.seq (.region _ o _) _=>o|_=>#[]
structure St3(sl:WB)(a b:Int)(T:Array WB):Prop where
 size:T.size=94
 sl:T[0]?=some sl
 a:T[1]?=some (iI a)
 b:T[2]?=some (iI b)
def C7(sl:WB)(a b:Int)(i:Nat)(g:WC):Prop:=∃T,g=G (b3.at ⟨T,[]⟩ [.code (La f3),.inLoop (La f3),.inBlock 0,.code (B8 f3)]) []/\St3 sl a b T/\T[7]?=some (iI i)
def aJ6(g:WC):Prop:=∃T td,g=G { b3.at ⟨T,[]⟩ td with mode:=.returning } []/\T.getD 6 undef=.bool true
def aFv(sl:WB)(m:Nat)(cs:List WK)(g:WC):Prop:=g=G (b4.at ⟨(sl::iI m::List.replicate 46 undef).toArray,[]⟩ [.code (f4.body.getD .skip)]) cs
def c8(f:Func)(T:Array WB):WK:=b3.at ⟨T,[]⟩ (.inRegion (aZr f) [4,5,6,7,8,9]::[.code (B9 f)])
theorem bCl:(f5.name== "runtime.NumGoroutine")=false:=oh
theorem bCk:(f4.name== "runtime.NumGoroutine")=false:=oh
theorem aNb(a:Int):∃k:Nat,k<16/\IntKind.i64.wrap ((IntKind.u64.wrap a).tmod 16)=(k:Int):=by
 have h1:0<=IntKind.u64.wrap a/\IntKind.u64.wrap a<18446744073709551616:=by rw[IntKind.wrap_u64];omega
 generalize IntKind.u64.wrap a=x at h1;have h2:=Int.tmod_eq_emod_of_nonneg h1.1 (b:=16);have h3:0<=x%16/\x%16<16:=od;refine⟨(x%16).toNat,od,?_⟩;rw[h2,IntKind.wrap_i64];omega
theorem aZm{sl:WB}{k:Nat}{cs:List WK}{g:WC}(h:g=G (b4.at ⟨(sl::iI (1+(k:Int))::List.replicate 46 undef).toArray,[]⟩ [.code (f4.body.getD .skip)]) cs):aFv sl (1+k) cs g:=by unfold aFv;rw[show((1+k:Nat):Int)=1+(k:Int)by omega];exact h
theorem bFs(tb off:Nat)(sa:Option WT)(AB:List WG)(c:Nat)(a b:Int)(k:Nat)(hk:k<16)(hp:IntKind.i64.wrap ((IntKind.u64.wrap a).tmod 16)=(k:Int))(M:Nat->Prop)(g:WC)(h:C7 (sV sa AB.length c) a b AB.length g)(w:WA)(hF:Tx tb off AB w):
  Goes prog true AtRel (Dm M) (λg _=>∃T,aFv (sV sa AB.length c) (1+k) [(c8 f3) T] g/\St3 (sV sa AB.length c) a b T) 60 g w:=by obtain⟨T,rfl,⟨hs,t0,t1,t2⟩,t7⟩:=h;exact zKf
def B10(f:Func):Code:=match (B9 f)with|.seq _ b=>b|_=>.skip
def aZs(f:Func):Array WQ:=match (B9 f)with|.seq (.region _ o _) _=>o|_=>#[]
def c9(f:Func)(T:Array WB):WK:=b3.at ⟨T,[]⟩ (.inRegion (aZs f) [4,5,6,7,8,9]::[.code (B10 f)])
theorem bBu(tb off:Nat)(sl r1:WB)(AB:List WG)(a b:Int)(k:Nat)(hk:k<16)(hp:IntKind.i64.wrap ((IntKind.u64.wrap b).tmod 16)=(k:Int))(M:Nat->Prop)(T Ta:Array WB)(td:List Item)(h:St3 sl a b T)(hr4:Ta.getD 4 undef=r1)(hr5:Ta.getD 5 undef=.nilIface)(w:WA)(hF:Tx tb off AB w):
  Goes prog true AtRel (Dm M) (λg _=>∃T,aFv sl (1+k) [(c9 f3) T] g/\St3 sl a b T/\T[8]?=some r1/\T[9]?=some .nilIface) 60 (G { b4.at ⟨Ta,[]⟩ td with mode:=.returning } [(c8 f3) T]) w:=by obtain⟨hs,t0,t1,t2⟩:=h;have m12:=0;exact zKf
theorem aD0{b:WK}{a:Act}{cZ:Array WQ}{i:Nat}{rest:List Nat}{k:List Item}{cs:List WK}{w:WA}{o:WQ}{x:Operand}{ats:Array WI}{text:WG}(ho:cZ[i]?=some o)(hw:Region.wanted o (yielded cZ a.tmps)=true)(hk:b.kind≠.early)(cK:o.op=.call { callee:=.value (.func 6),args:=#[x],argTypes:=ats })(hx:a.eval x=sT text):
  stepG prog true (G (b.at a (.inRegion cZ (i::rest)::k)) cs) w=.go (gr ((yC prog) text) (b.at a (.inRegion cZ (i::rest)::k)::cs)) w #[]:=by
 rw[stepG_enter (f:=6) (args:=#[sT text]) (w':=w) ho hw hk (by rw[run_call_body cK func6 aN5 U5];simp[hx])];have hl:listed prog b.fn a o w=#[]:=by unfold listed;rw[events_call_body cK func6 aN5 U5];exact seen_none _ _
 rw[hl];rfl
theorem bEl(P:WJ)(t:WI)(m:Array (String×WI))(n:Nat)(hu:P.underlying t=some (.interface m))(w:WA)(es:Array Event):(Op.equalIn (n+1) t .nilIface .nilIface).events P w es=es:=by unfold Op.equalIn;simp[run_underlying hu]
theorem bB3(P:WJ)(t:WI)(m:Array (String×WI))(n:Nat)(hu:P.underlying t=some (.interface m))(w:WA):(Op.equalIn (n+1) t .nilIface .nilIface).run P w=.ok true w:=by unfold Op.equalIn;simp[run_underlying hu]
theorem bB4(P:WJ)(t:WI)(m:Array (String×WI))(hu:P.underlying t=some (.interface m))(w:WA)(es:Array Event):(binOp .neq t .nilIface .nilIface).events P w es=es:=by have e:binOp .neq t .nilIface .nilIface=(do pure (.bool (!(<-Op.equalIn (9999+1) t .nilIface .nilIface)))):=rfl;rw[e,Sem.events_bind,bEl P t m 9999 hu,bB3 P t m 9999 hu];simp
theorem aVz:∃m,Tryz.prog.underlying 24=some (.interface m):=by
 have h:(match Tryz.prog.underlying 24 with|some (.interface _)=>true|_=>false)=true:=oh;generalize Tryz.prog.underlying 24=u at h⊢;split at h
 .rename_i m;exact⟨m,rfl⟩
 .cases h
theorem bB5(w:WA)(es:Array Event):(binOp .neq 24 .nilIface .nilIface).events prog w es=es:=bB4 prog _ aVz.choose aVz.choose_spec w es
def B12(f:Func):Code:=match (B10 f)with|.seq _ b=>b|_=>.skip
def C10(f:Func):Code:=match (B10 f)with|.seq (.seq _ c) _=>c|_=>.skip
def aUe(f:Func):Array WQ:=match (B10 f)with|.seq (.seq (.region _ o _) _) _=>o|_=>#[]
def c10(f:Func)(T:Array WB):WK:=b3.at ⟨T,[]⟩ (.inRegion (aUe f) [21,22,23]::[.code (C10 f),.code (B12 f)])
def Lb(f:Func):Code:=match (B12 f)with|.seq (.seq _ (.block _ (.loop l))) _=>l|_=>.skip
def aRj(f:Func):Code:=match (B12 f)with|.seq _ b=>b|_=>.skip
def L3(f:Func):Code:=match (Lb f)with|.seq _ (.seq (.block _ b) _)=>b|_=>.skip
def L14(f:Func):Code:=match (Lb f)with|.seq _ (.seq _ b)=>b|_=>.skip
def aUf(f:Func):Array WQ:=match (L3 f)with|.seq (.region _ o _) _=>o|_=>#[]
def bDl(f:Func):Code:=match (L3 f)with|.seq _ b=>b|_=>.skip
def c15(f:Func)(T:Array WB):WK:=b3.at ⟨T,[]⟩ (.inRegion (aUf f) [4,5]::[.code (bDl f),.inBlock 3,.code (L14 f),.inLoop (Lb f),.inBlock 2,.code (aRj f)])
structure St5(sl r1 r2:WB)(a b:Int)(T:Array WB):Prop extends St3 sl a b T where
 r1:T[8]?=some r1
 r2:T[10]?=some r2
def X1(sl r1 r2:WB)(a b:Int)(i:Nat)(g:WC):Prop:=∃T,g=G (b3.at ⟨T,[]⟩ [.code (Lb f3),.inLoop (Lb f3),.inBlock 2,.code (aRj f3)]) []/\St5 sl r1 r2 a b T/\T[12]?=some (iI i)
def xn:WG:=⟨#[120,10]⟩
def aX2:WG:=⟨#[101,114,114,111,114,32,51,10]⟩
structure Ro(r1 r2 i:Nat)(out:WG)(w:WA):Prop where
 c1:w.cell? (aA r1 i)=some (sT out)
 c2:w.cell? (aA r2 i)=some (sT out)
theorem Ro.rx{r1 r2 i:Nat}{out:WG}{w w1:WA}(h:Ro r1 r2 i out w)(r:AtRel w w1):Ro r1 r2 i out w1:=by obtain⟨d,rfl⟩:=r;exact⟨h.c1,h.c2⟩
theorem bFx(tb off:Nat)(sa:Option WT)(r1 r2:WB)(AB:List WG)(c:Nat)(a b:Int)(M:Nat->Prop)(g:WC)(h:X1 (sV sa AB.length c) r1 r2 a b AB.length g)(w:WA)(hF:Tx tb off AB w):
  Goes prog true AtRel (Dm M) (λg _=>aJ6 g) 30 g w:=by obtain⟨T,rfl,⟨⟨hs,t0,t1,t2⟩,t8,uV⟩,J4⟩:=h;exact zG4
