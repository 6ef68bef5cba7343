import Derived.Test.YtnbomhedoelklaaGreatDoorZA
set_option maxRecDepth 100000
namespace Go.Proofs.YtnbomhedoelklaaGreatDoor
variable {p:Prop}
theorem od(h:p:=by omega):p:=h
theorem oe(h:p:=by simp):p:=h
theorem og(h:p:=by decide):p:=h
theorem ol(h:p:=by simp;omega):p:=h
theorem om(h:p:=by rw[<-hV];simp[go_sem]):p:=h
theorem oq(h:p:=by simp[Op.operands]):p:=h
theorem ot(h:p:=by unfold maxLen;omega):p:=h
theorem ou(h:p:=by rfl):p:=h
theorem ow(h:p:=by unfold maxLen;decide):p:=h
theorem oy(h:p:=by show w.1.size<=w.1.size+1;omega):p:=h
theorem Oa(h:p:=by cases h):p:=h
theorem Ob(h:p:=by show w.1.size<=w.1.size+1+1;omega):p:=h
theorem Oc(h:p:=by intro y;cases y):p:=h
theorem Oe(h:p:=by simp[h1]):p:=h
theorem Og(h:p:=by have:=HX.out.2;omega):p:=h
theorem Oh(h:p:=by simp[results,results115,go_sem,w0,w1,w2,w3,w4,w5];rfl):p:=h
theorem Oi(h:p:=by simp[Value.oneCell']):p:=h
theorem Oj(h:p:=by simp[results,results153,go_sem]):p:=h
theorem Ol(h:p:=by simp only;omega):p:=h
theorem Om(h:p:=by simp only[cQ,phi];omega):p:=h
theorem On(h:p:=by have:=xD.out.size;simp;omega):p:=h
theorem Oo(h:p:=by rw[G7 (hs.r.bM b off e h0).2 (hs.r.bM b off e h0).1];exact(hs.r.bM b off e h0).2):p:=h
theorem Oq(h:p:=by rw[G7 (hs.r.bD b off e h0).2 (hs.r.bD b off e h0).1];exact(hs.r.bD b off e h0).2):p:=h
theorem Ot(h:p:=by have:=lQ.out.lt;simp;omega):p:=h
theorem Ou(h:p:=by rw[h.1];rfl):p:=h
theorem Ov(h:p:=by rw[<-hV];simp):p:=h
theorem Ow(h:p:=by show w.1.size≠_;omega):p:=h
theorem Ox(h:p:=by show w.1.size+1+1<_;have:=HX.out.2;omega):p:=h
theorem Oy(h:p:=by simp only[rV]):p:=h
theorem Oz(h:p:=by simp;try omega):p:=h
theorem jA0(h:p:=by show w.1.size<_;have:=HX.out.2;omega):p:=h
theorem ep(h:p:=by rw[HTK.out,aKr,hnu.out,hnp];rfl):p:=h
theorem eu(h:p:=by simp[gr,stepG,stepG.exec,xF,oY,rI]):p:=h
theorem ew(h:p:=by have:=hc 0 oe;simpa using this):p:=h
theorem ey(h:p:=by have:=HX.out.2;have:=HI1.out.size;omega):p:=h
theorem ez(h:p:=by rw[ht];simp):p:=h
theorem Ea(h:p:=by have:=HLO.out;simp;omega):p:=h
theorem Eb(h:p:=by simp[stepG.apply,e' t' oY,gr,ek,GStep.after]):p:=h
theorem Ec(h:p:=by simp[go_sem]):p:=h
theorem Ed(h:p:=by simp[gr,stepG,stepG.exec,xF,oY]):p:=h
theorem Ee(h:p:=by show Ending.returned (iI (min (max x (-most)) most))=Ending.returned (iI _);congr 2;omega):p:=h
theorem Ef(h:p:=by cases q):p:=h
theorem Eg(h:p:=by rintro _ _ rfl;exact RR.AG rfl):p:=h
theorem Eh(h:p:=by simp[bC,ht,rI]):p:=h
theorem Ei(h:p:=by rw[World.frozen?_alloc_old _ _ t ol,World.frozen?_alloc_old _ _ t ol,World.frozen?_alloc_old _ _ t ol,World.frozen?_alloc_old _ _ t (Nat.ne_of_lt htl)];exact hf0):p:=h
theorem Ej(h:p:=by have:=HX.out.2.2.2;omega):p:=h
theorem Ek(h:p:=by simp[results,results191,go_sem]):p:=h
theorem El(h:p:=by simpa using hc):p:=h
theorem Em(h:p:=by have:=HLQ.out;omega):p:=h
theorem Eo(h:p:=by simp only[Op.operands];simpa using⟨p.1,hp⟩):p:=h
theorem Ep(h:p:=by simpa using y):p:=h
theorem Es(h:p:=by obtain⟨_,_,q⟩:=q;exact F5 q hs.blk og):p:=h
theorem Et(h:p:=by have:=HN.out;omega):p:=h
theorem Eu(h:p:=by rw[World.cell?_alloc_lt _ _ t ol,World.cell?_alloc_lt _ _ t ol,World.cell?_alloc_lt _ _ t ol,World.cell?_alloc_lt _ _ t htl];exact ht0):p:=h
theorem Ev(h:p:=by rw[IntKind.wrap_i64];omega):p:=h
theorem Ew(h:p:=by obtain⟨d,rfl⟩:=pF;rfl):p:=h
theorem Ex(h:p:=by rw[cH (HNE.out b off e h0)];obtain⟨_,cs,fr,q⟩:=HR.out.2 b off e h0;exact⟨cs,fr,(HB.out.block b (bQ q)).trans q⟩):p:=h
theorem Ey(h:p:=by simp[bC,hm,rM]):p:=h
theorem Ez(h:p:=by rw[aN ((cV.block _ (bQ hbp)).trans hbp) rfl];rfl):p:=h
theorem o4(h:p:=by simp[results,results152,go_sem]):p:=h
theorem o5(h:p:=by simp[results,results150,go_sem]):p:=h
theorem o6(h:p:=by simp[hx]):p:=h
theorem o7(h:p:=by rw[ht];simp[hi]):p:=h
theorem o8(h:p:=by simp[Op.operands,Call.operands,h]):p:=h
theorem o9(h:p:=by rw[h.ob];exact kT):p:=h
theorem O0(h:p:=by rw[qS];omega):p:=h
theorem O4(h:p:=by simp[IntKind.wrap,IntKind.bits,IntKind.signed];omega):p:=h
theorem O5(h:p:=by have:=hnu.out;rwa [List.take_of_length_le Em]at this):p:=h
theorem O6(h:p:=by rw[hs];simp):p:=h
theorem O7(h:p:=by simpa using hj):p:=h
theorem O8(h:p:=by rw[qP];omega):p:=h
theorem E4(h:p:=by simp[stepG.apply,e' t' oY,gr,ek,GStep.after,ht]):p:=h
theorem E5(h:p:=by have:=hg.size;simp at this;omega):p:=h
theorem E6(h:p:=by rw[touchAt_of i7];exact hxa):p:=h
theorem E7(h:p:=by rw[HNO.out];rfl):p:=h
theorem E8(h:p:=by simp[results,results65,go_sem,a0',a1']):p:=h
theorem E9(h:p:=by rw[hj];exact aDr.wT j (eK.keep hcu (Same.of_below (bdN V 1) (eK.lt hcu))) hjn):p:=h
theorem ja(h:p:=by rw[List.length_map,List.length_range];omega):p:=h
theorem jb(h:p:=by rw[h.1];simp[rV]):p:=h
theorem jc(h:p:=by simpa using dH):p:=h
theorem jd(h:p:=by simp[Sc]):p:=h
theorem je(h:p:=by rw[mM,kK hme];rfl):p:=h
theorem jf(h:p:=by rw[mM,kJ hme];rfl):p:=h
theorem jg(h:p:=by rw[xG];exact⟨HOW.out,⟨rfl,rfl,rfl,kG _,λ_ _=>rfl⟩,HTB.out.lB⟩):p:=h
theorem jh(h:p:=by rw[h.1];simp):p:=h
theorem ji(h:p:=by show w.1.size<_;omega):p:=h
theorem jk(h:p:=by simpa using e):p:=h
theorem jl(h:p:=by simp[mk]):p:=h
theorem jm(h:p:=by rw[aN ((cV.block _ (bQ uY.out)).trans uY.out) rfl];rfl):p:=h
theorem jn(h:p:=by simp[oW,yQ];omega):p:=h
theorem jo(h:p:=by simp only[Sc];exact h.2):p:=h
theorem jp(h:p:=by rw[<-hV];exact heap_alloc_new w _):p:=h
theorem jq(h:p:=by simp only[List.mem_cons];exact rA4 (.inr hc)):p:=h
theorem jr(h:p:=by simp[tryRecover,hk,hm]):p:=h
theorem js(h:p:=by simp[Op.operands,Call.operands]):p:=h
theorem jt(h:p:=by simp[Op.operands,e]):p:=h
theorem ju(h:p:=by rw[setCell_eq_setRow w _ k _ _ (0,0) _ h1,setRow_heap w _ _ _ _ _ h1]):p:=h
theorem jv(h:p:=by rw[aL.size];omega):p:=h
theorem jw(h:p:=by simpa using dK):p:=h
theorem jy(h:p:=by rw[<-hV];exact(jD w.1.size w).alloc (kG _) _):p:=h
theorem jz(h:p:=by rw[hnt op cK]at hb;cases hb):p:=h
theorem j4(h:p:=by rw[aN ((cV.block _ (bQ ht7)).trans ht7) rfl];rfl):p:=h
theorem j5(h:p:=by rw[hn op cK]at hb;cases hb):p:=h
theorem j6(h:p:=by have:=HL.out;omega):p:=h
theorem j7(h:p:=by cases hx;exact hgS):p:=h
theorem j8(h:p:=by rw[show(bC ρ fr).fn=fr.fn from rfl,h4];exact func6):p:=h
theorem j9(h:p:=by rintro(q|q);cases q;exact absurd q.1 (kV _)):p:=h
theorem Ja(h:p:=by have:=HF2.out.2.2;simp;omega):p:=h
theorem zAa(h:p:=by have m11:=0;exact zGe):p:=h
theorem zAb(h:p:=by have m0:=0;exact zF3):p:=h
theorem zAe(h:p:=by refine dn ?_;exact zE4):p:=h
theorem zAg(h:p:=by have m17:=0;exact zKh):p:=h
theorem zAi(h:p:=by have m18:=0;exact zGl):p:=h
theorem zAj(h:p:=by
 have HI:Hid (jN (bA (c.AA j).t st.aO.n)):=by
  have h1:=mV (c.AA j).t st.aO.n;have h2:=jM.aO.bounds.n2;have h3:st.aO.n<=16:=by show st.aO.AA.toNat<=16;omega
  have h4:(2:Int)^st.aO.n<=2^16:=by exact_mod_cast Nat.pow_le_pow_right (by decide:0<2) h3
  have h5:(2:Int)^16=65536:=og;exact zFt
 generalize bA (c.AA j).t st.aO.n=bv at *;clear hj hjn hfz fN;have m22:=0;exact zGp):p:=h
theorem zAm(h:p:=by have m23:=0;exact zMc):p:=h
theorem zAs(h:p:=by have m89:=0;exact zIk):p:=h
theorem zAu(h:p:=by have:V.cell? (aA S 10)=some (.pointer (st.clu.map λ_=>(aA A.C 0))):=aN hs.blk (i:=10) rfl;rw[fN]at this;exact this):p:=h
theorem zAx(h:p:=by have m73:=0;exact zH4):p:=h
theorem zAy(h:p:=by refine .inr ⟨Frame.enter Z.P f a' .normal,fr::cs,fQ,gr (bC Z.ρ (Frame.enter Z.P f a' .normal)) ((fr::cs).map (bC Z.ρ)++C),w1,seen Z.P fr.fn new,hD,λt' oY=>⟨seen Z.P fr.fn (m'.events Z.P (on u t') #[]),E4⟩,?_,⟨iU,iM,rfl,dD.enter G hf ha1 (.inl rfl),aXo,last.push _⟩,qU,hev⟩;rw[aEb];simp[stepG.apply,e1,e2,gr,ek',GStep.after,oY];rfl):p:=h
theorem zAz(h:p:=by
 unfold aX;obtain⟨q,hqx⟩:∃q:Int,x=X+18446744073709551616*q:=⟨x/18446744073709551616,od⟩;have aA4:(0:Int)<2^j:=by rw[gT];exact_mod_cast Nat.two_pow_pos j
 have h64:(18446744073709551616:Int)=2^j*(2*2^(63-j)):=by
  have:(2:Int)^j*(2*2^(63-j))=2^(j+(1+(63-j))):=by rw[Int.pow_add,Int.pow_add];rfl
  rw[this,show j+(1+(63-j))=64 by omega];decide
 have h2:x/2^j=(X:Int)/2^j+2*2^(63-j)*q:=by rw[hqx,h64,Int.mul_assoc,Int.add_mul_ediv_left _ _ od]
 have h3:x/2^j%2=(X:Int)/2^j%2:=by rw[h2,Int.mul_assoc,Int.add_mul_emod_self_left]
 rw[h3,gT];congr 1;apply propext;constructor
 .intro h;exact_mod_cast h
 .intro h;exact_mod_cast h):p:=h
theorem zA0(h:p:=by
 rintro e w' ⟨rfl,v',h',ht,oX⟩;refine⟨rfl,_,⟨v',h',rfl⟩,?_⟩;refine⟨ht.os,ht.tape,ht.output,ht.size,λc hc hn=>?_,λc hc=>?_⟩
 .have hP:c≠P:=λy=>hn (kO (.inl y));refine ht.block c hc hP ?_
  cases e:v.ownBlock with
  |none=>exact hP
  |some g=>
   intro y
   refine hn (kO (.inr ?_))
   rw[e,y]
   exact List.mem_singleton.2 rfl
 .have bGh:=0;exact zJ4):p:=h
theorem zA1(h:p:=by
 intro x hx;simp only[List.cons_append,List.mem_cons]at hx;rcases hx with rfl|hx
 .rcases hgM with q|q
  .exact .inl (kL (.inl q))
  .exact .inr od
 .exact .inl hx):p:=h
theorem zA2(h:p:=by exact⟨h1.trans g1.symm,h2.trans g2.symm⟩):p:=h
theorem zA3(h:p:=by exact .inl ⟨h.running hc λ_ _ x=>x.1,Oe,Oe⟩):p:=h
theorem zA4(h:p:=by
 rcases l with _|⟨a,_|⟨b,l⟩⟩
 .exact J7
 .exact absurd rfl hz
 .exact J7):p:=h
theorem zA5(h:p:=by
 unfold bZ at h;by_cases h1:AA<1\/16<AA\/aG<0\/AA<aG*3+1
 .simp[h1]at h
 .rw[kJ h1]at h;by_cases h2:aM<0\/137438953472<aM\/aC<0\/137438953472<aC\/aJ<0\/137438953472<aJ
  .simp[h2]at h
  .rw[kJ h2]at h;by_cases h3:round<1\/137438953472<round\/frame<1\/137438953472<frame
   .simp[h3]at h
   .rw[kJ h3]at h;by_cases h4:32<ns\/8<nl\/32<nw
    .simp[h4]at h
    .omega):p:=h
theorem zA6(h:p:=by
 obtain⟨l⟩:=dV;rcases l with _|⟨a,_|⟨b,_|⟨c,l⟩⟩⟩
 .exact J7
 .exact J7
 .exact absurd rfl hz
 .exact J7):p:=h
theorem zA8(h:p:=by
 rintro⟨b,l,e⟩ ⟨b',_,_⟩ ⟨hb,⟨⟩⟩;refine RR.AF (RR.underlying t) ?_;rintro d2 _ ⟨rfl,_⟩;obtain⟨rfl,hb⟩:=hb
 cases b' with
 |none=>exact E.bounds _ _ _ _
 |some a'=>
  dsimp only[AH]
  split
  .refine RR.AF (RR.sizeOf _) ?_
   rintro n n' rfl
   exact RR.AG (AR.add ⟨rfl,hb a' rfl⟩ _).ptr
  ·(repeat' split)<;>first|exact RR.dE _|exact E.bounds _ _ _ _):p:=h
theorem zBa(h:p:=by have hh:=(HX.out.below h7).hd;have hlt:=((HX.out.below h7).lX _ hh.ckX).1.2;have hsp:=L4 C fa (some (aA cb 0)) fK cs (v7.drewN q) hh.c10 hh.c11 (λ_=>⟨cb,0,rfl,hlt,λj hj=>by rw[Nat.zero_add];exact hh.ck j hj⟩) (by rw[aRl.out];omega) aZc.out;rw[HSP.out]at hsp;refine hsp.mono ?_;rintro e w' ⟨h1,h2⟩;exact⟨h1,h2.os,h2.tape,h2.output,h2.size,h2.block⟩):p:=h
theorem zBb(h:p:=by obtain⟨u1,u2⟩:=t7 (iN x) Oc;rw[u2];obtain⟨⟨v1,v2⟩,⟨v3,v4⟩,v5,v6⟩:=h.node x hx;exact⟨⟨v1.same (v2▸u1),v2⟩,⟨v3,Int.le_trans v4 od⟩,v5,Int.le_trans v6 od⟩):p:=h
theorem zBd(h:p:=by rcases this with rfl|rfl|rfl|rfl|rfl|rfl|rfl|rfl|rfl|rfl|rfl|rfl|rfl|rfl|rfl|rfl<;>decide):p:=h
theorem zBf(h:p:=by exact⟨{ fr with defers:=ds },cs,_,_,λu v e'=>aDn s1 hn e' ⟨rfl,rfl⟩,rfl,λ_ q=>q,⟨iU,iM,rfl,aFi N hN,aEk (Y:=Y) (n:=Y.N) h.low hN,last2⟩⟩):p:=h
theorem zBh(h:p:=by
 refine RR.blind2 h (λhS s=>?_) rfl λc c0 e e0 _=>RR.AG (.inl ⟨rfl,rfl⟩);split
 .exact RR.AG (.inl ⟨rfl,rfl⟩)
 .refine RR.AF (RR.getObj ⟨Ou,hS⟩) ?_;rintro o o' ⟨rfl,hs,_⟩
  cases o'<;>first
   |exact RR.AG (.inl ⟨rfl,rfl⟩)
   |exact hs.elim
   |exact RR.AG (.inr ⟨_,_,_,rfl,rfl,rfl,hs⟩)):p:=h
theorem zBi(h:p:=by
 rw[aCm,Array.empty_append];intro op cK;have fN:X.q.ch<w.1.size:=lt_of_heap hc;simp only[List.mem_toArray,List.mem_cons,List.not_mem_nil,or_false]at cK;rcases cK with rfl|rfl|rfl|rfl
 .exact⟨Ol,rfl,oe,fN⟩
 .exact⟨Ol,rfl,oe,fN⟩
 .exact⟨Ol,rfl,oe,fN⟩
 .exact⟨Ol,rfl,oe,fN⟩):p:=h
theorem zBm(h:p:=by have hA:bW w ((w.drewN nq).alloc (.cells #[.string d] 9)):=(hD w.1.size).alloc (kG _) _;refine⟨qT.os,qT.tape,qT.output,qT.size,λc hc h1 h2=>?_⟩;refine(bT.block c (by have:=hA.size;omega) (λe=>?_)).trans (hA.block c hc);rw[<-e]at h2;exact h2 rfl):p:=h
theorem zBo(h:p:=by
 rintro z z' ⟨rfl,hz⟩;rcases zZ (λi=>some (i*n,n)) l'.toList (dF.fill hz (len*n)) C5 with⟨h1,h2⟩|⟨d,d',h1,h2,h3⟩
 .rw[h1];exact RR.stuck _
 .simp only[Array.toList_map];rw[h1,h2];exact RR.AF (RR.newRow _ h3) λa a' ha=>RR.AG ha.row):p:=h
theorem zBq(h:p:=by
 by_cases h:k=0
 .rw[kK h];constructor
  .rintro(⟨_,g⟩|⟨g,_⟩)
   .exact g
   .omega
  .intro g;exact .inl ⟨h,g⟩
 .rw[kJ h];constructor
  .rintro(⟨g,_⟩|⟨_,g⟩)
   .exact absurd g h
   .omega
  .intro g;exact .inr ⟨od,od⟩):p:=h
theorem zBt(h:p:=by have bLd:=0;exact zL4):p:=h
theorem zBv(h:p:=by
 congr 1;apply Array.ext_getElem?;intro i;rw[Array.getElem?_modify,Array.getElem?_setIfInBounds];by_cases e:a.block=i
 .subst e;have hl:=(kZ h).1;rw[kK rfl,kK rfl,kK hl,h];rfl
 .rw[kJ e,kJ e]):p:=h
theorem zBw(h:p:=by obtain⟨a,b,q,⟨⟨r1,r2⟩,r3,r4⟩,r5⟩:=h.rcv i x hi hx hb;exact⟨a,b,q.keep u1,⟨⟨r1,od⟩,r3,od⟩,r5⟩):p:=h
theorem zBy(h:p:=by have bG3:=0;exact zIz):p:=h
theorem zBz(h:p:=by have hA:=λu=>pS 3 u;exact zLk):p:=h
theorem zB3(h:p:=by have m93:=0;exact zIo):p:=h
theorem zB5(h:p:=by simp[IntKind.wrap,IntKind.bits,IntKind.signed];omega):p:=h
theorem zB7(h:p:=by show G (Frame.finish (b8.at _ (.inRegion (aBt Tryz.f8) [0,1]::(k2 Tryz.f8))) _) [(bot prog)]=_;have hd:((aBt Tryz.f8)[0]?).bind (·.dst)=some 5:=oh;rw[Frame.finish_at,hd];rfl):p:=h
theorem zCa(h:p:=by obtain⟨l,q,⟨r1,r2⟩,r3⟩:=h.que i x hi hx hb;exact⟨l,q.keep u1,⟨r1,od⟩,r3⟩):p:=h
theorem zCb(h:p:=by
 repeat' split
 all_goals omega):p:=h
theorem zCc(h:p:=by obtain⟨b,off,e,hl,hc⟩:=HR.out.1.below HB.out h0;have eH:=HNE.out b off e h0;exact⟨b,off,e,by simpa using hl,λj hj=>(aB (.inl eH)).trans (hc j hj)⟩):p:=h
theorem zCe(h:p:=by have hm:=mem_listed he;simp[go_sem, *]at hm;subst hm;exact⟨_,rfl,.inr (.inl rfl)⟩):p:=h
theorem zCf(h:p:=by refine iU.mono ?_;rintro e v7 ⟨rfl,hv7⟩;replace hv7:=hv7.symm;subst hv7;clear iU;exact zFs):p:=h
theorem zCg(h:p:=by exact .inl ⟨h.running hc λ_ _ x=>x.1,od⟩):p:=h
theorem zCh(h:p:=by exact .inr ⟨fr1,qQ,fQ,g1,w1,_,d2,λt' ht=>q1 _ _ (dY t' ht),q2,q4,qU,U4 (Y:=Y) (Z:=Y.wN N) fr.fn λe he=>ho1 e (by rw[<-e2];exact q3 e he)⟩):p:=h
theorem zCi(h:p:=by cases op<;>first|exact RR.AG VR.int|exact RR.stuck _):p:=h
theorem zCj(h:p:=by have hm:=mem_listed he;simp[go_sem, *]at hm):p:=h
theorem zCk(h:p:=by simpa using this):p:=h
theorem zCl(h:p:=by obtain⟨a1,a2,a3,a4,a5,a6,a7,a8,a9,a10⟩:=oU h1';have:=aAi (x:=r-f) (n:=n) (d:=d) (M:=1099511627776) od od a5 a7 a9;exact zFt):p:=h
theorem zCm(h:p:=by exact .inl ⟨h.running λ_ _ x=>x.1,od⟩):p:=h
theorem zCn(h:p:=by have:(j<J/\aX tq j=true)↔(j<J+1/\aX tq j=true):=⟨λy=>⟨by have:=y.1;omega,y.2⟩,λy=>⟨by have:=y.1;omega,y.2⟩⟩;simp only[this]):p:=h
theorem zCo(h:p:=by obtain⟨v1,v2,v3⟩:=h.snd i hi;exact⟨v1.keep u1,kH v2 Z9,v3⟩):p:=h
theorem zCp(h:p:=by
 cases v'<;>try exact RR.stuck _
 cases u'<;>simp only[rV]<;>first|exact RR.stuck _|(split<;>first|exact RR.AG rfl|exact RR.stuck _)):p:=h
theorem zCt(h:p:=by exact⟨q1.1.trans q2.1.symm,q1.2.trans q2.2.symm⟩):p:=h
theorem zCu(h:p:=by have hm:=mem_listed he;simp[go_sem, *]at hm;subst hm;exact⟨_,rfl,hM⟩):p:=h
theorem zCv(h:p:=by have bKg:=0;exact zJt):p:=h
theorem zCx(h:p:=by exact⟨_,rfl,⟨⟨oe,oe,oe,oe⟩,oe,oe⟩,oe⟩):p:=h
theorem zCz(h:p:=by show _<=_;have l1:=K8 L k od;have l2:=jA List.length hdn.out;have l3:=r9 5 m;have l4:=HN.out;simp at l2⊢;omega):p:=h
theorem zC0(h:p:=by exact RR.AG rfl):p:=h
theorem zC1(h:p:=by exact h.to (k:=k) hk (λu=>by simp[gr,stepG,stepG.exec,hm,ht]) Ed):p:=h
theorem zC2(h:p:=by
 rintro⟨i,e,he,qU,hv⟩;rcases(hp i e).1 he with⟨_,rfl⟩|⟨_,h⟩
 .exact absurd qU.symm q
 .exact⟨i,e,h,qU,hv⟩):p:=h
theorem zC3(h:p:=by
 obtain⟨v,h,rfl⟩:=h;intro c hc;rcases kQ hc with y|y
 .have:=h.lp;have:=h.lb;omega
 .exact(h.own.lt c Ep).2):p:=h
theorem zC4(h:p:=by refine RR.AF (RR.getObj hl) ?_;rintro o o' ⟨rfl,ho,_⟩;cases o'<;>first|exact RR.stuck _|exact RR.AG ⟨rfl,ho⟩):p:=h
theorem zC5(h:p:=by simp[stepG.apply,e1,e2,gr,ek',GStep.after];rfl):p:=h
theorem zC7(h:p:=by rw[World.cell?_alloc_lt _ _ (aA 2 0) (by first|(simp;omega)|simp),World.cell?_alloc_lt _ _ (aA 2 0) hlt];exact hg):p:=h
theorem zC8(h:p:=by
 rcases oX with q|q
 .exact aSu g q
 .omega):p:=h
theorem zC9(h:p:=by rintro r r' ⟨rfl,hr⟩;exact RR.AG (AR.ptr ⟨rfl,.inl hr⟩)):p:=h
theorem zDa(h:p:=by rw[Array.map_map];refine AP λp hp=>?_;show(p.1,ev p.2)=(p.1,rV Y.ρ (ev' p.2));rw[(he p.2 Eo).1]):p:=h
theorem zDb(h:p:=by rw[ofEvent_loc_mark h1];exact⟨⟨rfl,λx hx=>by cases hx⟩,trivial,by rw[h1];simp,λx k hx=>by cases hx⟩):p:=h
theorem zDc(h:p:=by refine RR.AF (dB.stringOp _ _ _) ?_;intro b b' hb;refine RR.AF (RR.asBool hb) ?_;rintro c _ rfl;exact RR.AG VR.str):p:=h
theorem zDd(h:p:=by
 refine RR.AF RR.program ?_;rintro p p' ⟨rfl,rfl⟩;split
 .exact RR.AG ⟨rfl,by assumption⟩
 .exact J7):p:=h
theorem zDe(h:p:=by
 rcases jB t.block w.1.size with h|h
 .exact h
 .simp[World.cell?,Array.getElem?_eq_none h]at ht0):p:=h
theorem zDf(h:p:=by
 rcases jB a.block w.1.size with h|h
 .exact h
 .simp[World.cell?,Array.getElem?_eq_none h]at hk):p:=h
theorem zDg(h:p:=by
 rcases h.only i hi with y|y|⟨j,y,z⟩
 .exact .inl y
 .exact .inr (.inl y)
 .exact .inr (.inr ⟨j,od,z⟩)):p:=h
theorem zDh(h:p:=by
 cases v'<;>try exact RR.stuck _
 cases u'<;>simp only[rV]<;>first|exact RR.AG rfl|exact RR.stuck _):p:=h
theorem zDi(h:p:=by
 rcases h with⟨a,h1,h2⟩|⟨a,h1,h2⟩
 .rw[h2];exact yO ⟨od,od⟩
 .rw[h2];exact e1 4 od od):p:=h
theorem zDj(h:p:=by
 split<;>first|exact RR.AG VR.lit|skip
 refine RR.AF (RR.choose _) ?_;rintro n _ rfl;exact RR.AG VR.lit):p:=h
theorem zDk(h:p:=by
 rcases jB 2 w.1.size with h|h
 .exact h
 .simp[World.cell?,Array.getElem?_eq_none h]at hg):p:=h
theorem zDl(h:p:=by rintro r _ rfl;split<;>exact RR.AG rfl):p:=h
theorem zDm(h:p:=by have h:=Lib.parseIntB_bounds hp;have e:((2^(64-1):Nat):Int)=9223372036854775808:=og;rw[e]at h;omega):p:=h
theorem zDn(h:p:=by exact RR.oC _ _):p:=h
theorem zDp(h:p:=by refine kp hK λaF=>?_;clear hK K;refine tk 7 aF ?_;refine dn ?_;exact aS7 _ _ _ _ _ _ _ _ hW):p:=h
theorem zDq(h:p:=by
 rcases h.2 with⟨e0,rfl⟩|⟨g,cap,cur,hv,_⟩
 .exact⟨none,0,e0⟩
 .exact⟨_,cap,hv⟩):p:=h
theorem zDr(h:p:=by show World.ownsRow _ _ _ _ _ _ _;rw[A4,<-List.append_assoc,jK];exact ho3):p:=h
theorem zDs(h:p:=by exact(h.old0 i op x dN hg hx hm).imp (·.app u) id):p:=h
theorem zDt(h:p:=by exact RR.dE _):p:=h
theorem zDu(h:p:=by rintro z z' ⟨rfl,hz⟩;exact RR.AF (RR.newRow _ (dF.fill hz _)) λa a' ha=>RR.AG ha.row):p:=h
theorem zDv(h:p:=by have:=aD2 (x:=l-s) (n:=n) (d:=d) (M:=2199023255552) od od a5 a7 a10;exact zFt):p:=h
theorem zDw(h:p:=by rw[ofEvent_loc_mark h1];exact⟨⟨rfl,λx hx=>by cases hx⟩,trivial,by rw[h1];simp⟩):p:=h
theorem zDx(h:p:=by exact Pl.AF (Q:=λ_=>True) (λn _=>Pl.AG ⟨_,rfl⟩) _ (Pl.choose _ λ_=>trivial)):p:=h
theorem zDy(h:p:=by rintro e w' ⟨rfl,hB⟩;exact⟨rfl,_,hS.keep (Same.of_below hB hlt),aR.of_below hB⟩):p:=h
theorem zDz(h:p:=by
 rcases hu with rfl|⟨t,rfl⟩
 .exact jD _ _
 .exact Lib.bytesWorld_below _ _ _):p:=h
theorem zD1(h:p:=by have:=RR.storeCells h v'.cells.toList 0 (by simpa using hc.2);rw[hc.1];simpa using this):p:=h
theorem zD2(h:p:=by exact h.atom i op x dN hg hx hm hk):p:=h
theorem zD4(h:p:=by exact F5 q2 q (Ne.symm h2) rfl):p:=h
theorem zD5(h:p:=by
 rcases(hp i e).1 he with⟨_,rfl⟩|⟨_,h⟩
 .exact⟨lx,hx⟩
 .exact hk i e h):p:=h
theorem zD6(h:p:=by
 rw[h2]
 match jx,he with
 |0,_=>exact .inr (by simp[deafBehind])
 |jx+1,he=>simp at he):p:=h
theorem zD7(h:p:=by
 split
 .exact E.panics _
 .exact zCi):p:=h
theorem zD9(h:p:=by rintro e w' ⟨rfl,h',ht⟩;exact⟨rfl,_,⟨v,h',rfl⟩,aR.qF ht hP hP⟩):p:=h
theorem zEa(h:p:=by rwa [mJ,Nat.zero_add]at this):p:=h
theorem zEb(h:p:=by
 refine RR.AF hg ?_;rintro b _ rfl;split
 .exact zDt
 .exact RR.AG trivial):p:=h
theorem zEc(h:p:=by refine RR.AF (A:=λ_ _=>False) (jW _ _) ?_;exact λ_ _ h=>h.elim):p:=h
theorem zEd(h:p:=by rw[<-e,hm]at this;cases this):p:=h
theorem zEe(h:p:=by exact⟨he,O'',h.trans h2,c2⟩):p:=h
theorem zEg(h:p:=by exact hg.output.trans hB.output):p:=h
theorem zEh(h:p:=by
 split at h
 .split at h<;>cases h;trivial
 .cases h;exact WR.aWp w' a _):p:=h
theorem zEi(h:p:=by rw[AN od,AN od]):p:=h
theorem zEj(h:p:=by obtain⟨z,_,rfl⟩:=hv;exact⟨λn h=>(by simp at h),λs h=>Oa,jd⟩):p:=h
theorem zEk(h:p:=by exact ho (offersAt_of_not_blocked O6 _ _)):p:=h
theorem zEl(h:p:=by
 show _≠_;rcases hblk with h|h
 .rw[h];exact hbk.out
 .rw[h];simp;omega):p:=h
theorem zEm(h:p:=by exact .inr (.inl ⟨⟨i,hi,rfl,.inl ⟨a,rfl,(hM _ ha).1⟩⟩,rfl⟩)):p:=h
theorem zEn(h:p:=by intro y hy;obtain⟨p,hp,rfl⟩:=Array.mem_map.1 hy;exact(he p.2 Eo).2):p:=h
theorem zEo(h:p:=by rintro e w' ⟨rfl,rfl⟩;exact⟨rfl,_,⟨v,h,rfl⟩,aR.refl _ _⟩):p:=h
theorem zEp(h:p:=by exact(aCq hs.r.oL).elim λa q=>q.elim λc r=>⟨a,c,r.1⟩):p:=h
theorem zEq(h:p:=by exact E.y8 _ _ _):p:=h
theorem zEr(h:p:=by exact(w9 hs.r.oS).elim λa q=>q.elim λc r=>⟨a,c,r.1⟩):p:=h
theorem zEs(h:p:=by obtain⟨e,he,rfl⟩:=Go.Conc.mem_ofEvents cK;exact(jM e he).2.1):p:=h
theorem zEu(h:p:=by obtain⟨e,he,rfl⟩:=Go.Conc.mem_ofEvents cK;exact(jM e he).1):p:=h
theorem zEv(h:p:=by obtain⟨_,_,_,_,_,_,hu,_⟩:=hw.roO ho;unfold World.shape?;rw[hu]):p:=h
theorem zEw(h:p:=by
 rcases kQ hc with rfl|hc
 .exact top
 .exact low c hc):p:=h
theorem zEx(h:p:=by have m4:=0;exact zLn):p:=h
theorem zEy(h:p:=by have bGd:=0;exact zJw):p:=h
theorem zEz(h:p:=by
 rcases jB g w.1.size with q|q
 .exact q
 .exact zF1):p:=h
theorem zE3(h:p:=by refine kp hK λaF=>?_;clear hK K;refine tk 5 aF ?_;refine tk 6 aF ?_;refine jZ (fuel:=1) oh (λ_ _ _ _ h=>h) aF [(7,10),(8,11),(9,12),(10,13),(11,14),(12,15),(13,16),(14,17),(15,18),(16,19)] oh ?_;exact zF0):p:=h
theorem zE5(h:p:=by refine kp hK λaF=>?_;clear hK K;refine tk 9 aF ?_;refine tk 10 aF ?_;refine jZ (fuel:=1) oh (λ_ _ _ _ h=>h) aF [(11,32),(12,33),(13,34),(14,35),(15,36),(16,37),(17,38),(18,39)] oh ?_;simp only[aIk,List.foldl_cons,List.foldl_nil,Act.put,zA,zB,zC];refine tk 19 aF ?_;exact zAe):p:=h
theorem zE6(h:p:=by refine kp hK λaF=>?_;clear hK K;refine tk 8 aF ?_;refine tk 9 aF ?_;refine jZ (fuel:=1) oh (λ_ _ _ _ h=>h) aF [(10,23),(11,24),(12,25),(13,26),(14,27),(15,28),(16,29)] oh ?_;exact zF0):p:=h
theorem zE7(h:p:=by refine kp hK λaF=>?_;clear hK K;refine tk 5 aF ?_;refine tk 6 aF ?_;refine jZ (fuel:=1) oh (λ_ _ _ _ h=>h) aF [(7,38),(8,39),(9,40),(10,41),(11,42),(12,43)] oh ?_;simp only[aIk,List.foldl_cons,List.foldl_nil,Act.put,zA,zB,zC];refine tk 13 aF ?_;exact zAe):p:=h
theorem zE8(h:p:=by have m58:=0;exact zHp):p:=h
theorem zE9(h:p:=by refine kp hK λaF=>?_;clear hK K;refine tk 12 aF ?_;refine tk 13 aF ?_;exact zAe):p:=h
theorem zFa(h:p:=by obtain⟨O1,q1,_⟩:=HI1.out;exact(q1.frozen (p:=(aA (w.1.size+1+1) j)) Ox HX.out.1.2.2).trans (HZ.out.2 j)):p:=h
theorem J7(h:p:=by exact RR.stuck _):p:=h
theorem zFc(h:p:=by obtain⟨O1,q1,_⟩:=HI1.out;exact(q1.frozen (p:=(aA w.1.size j)) jA0 HX.out.1.1).trans (HZ.out.1 j)):p:=h
theorem zFe(h:p:=by have:AA=1\/AA=2\/AA=3\/AA=4\/AA=5\/AA=6\/AA=7\/AA=8\/AA=9\/AA=10\/AA=11\/AA=12\/AA=13\/AA=14\/AA=15\/AA=16:=od;exact zBd):p:=h
theorem zFf(h:p:=by refine kp hK λaF=>?_;clear hK K;refine tk 18 aF ?_;refine tk 19 aF ?_;refine dn ?_;exact aS8 _ _ _ _ _ _ _ _ _ _ _ _ _ _ _ _ _ _ _ _ _ _ _ _ _ _ _ _ _ _ _ _ _ _ _ _ _ _ hW):p:=h
theorem zFg(h:p:=by obtain⟨o1,o2⟩:=aHk cP;exact⟨av,cv,rfl,aUh fM.out.own,o1,λb off q=>by obtain⟨q1,q2,q3⟩:=o2 b off q;exact⟨od,q2,q3⟩⟩):p:=h
theorem zFh(h:p:=by refine kp hK λaF=>?_;clear hK K;refine tk 16 aF ?_;refine tk 17 aF ?_;refine dn ?_;exact aS7 _ _ _ _ _ _ _ _ _ _ _ _ _ _ _ _ _ _ hW):p:=h
theorem zFk(h:p:=by obtain⟨fa,cs,c,rd,T,e,h1,h2⟩:=h;obtain⟨fa',cs',c',rd',T',e',g1,g2⟩:=g;rw[e]at e';cases e';exact zA2):p:=h
theorem zFl(h:p:=by
 repeat(refine Below.alloc ?_ Oz _)
 exact jD _ _):p:=h
theorem zFm(h:p:=by obtain⟨l⟩:=dV;exact zA4):p:=h
theorem zFn(h:p:=by
 repeat(refine Below.alloc ?_ (by first|omega|(simp;omega)|simp) _)
 exact aC3 hb):p:=h
theorem zFo(h:p:=by refine kp hK λaF=>?_;clear hK K;refine tk 18 aF ?_;refine tk 19 aF ?_;exact zAe):p:=h
theorem zFp(h:p:=by refine kp hK λaF=>?_;clear hK K;refine tk 16 aF ?_;refine tk 17 aF ?_;exact zAe):p:=h
theorem zFr(h:p:=by simp only[goes_go];refine⟨Dm.idle,?_⟩;refine Goes.stop (λ_ h₁=>?_);exact zCx):p:=h
theorem zFt(h:p:=by exact⟨od,od⟩):p:=h
theorem zFu(h:p:=by refine kp hK (λaF=>?_) trivial;clear hK K;refine fJ 10 λK hK=>?_;exact zAd):p:=h
theorem zF0(h:p:=by simp only[aIk,List.foldl_cons,List.foldl_nil,Act.put,zA,zB,zC];refine tk 17 aF ?_;exact zAe):p:=h
theorem zF1(h:p:=by rw[Array.getElem?_eq_none q]at hh;cases hh):p:=h
theorem zF3(h:p:=by have bKn:=0;exact zJ7):p:=h
theorem zF5(h:p:=by have bKm:=0;exact zJ6):p:=h
theorem zF8(h:p:=by clear hF;have aKf:=0;exact zKm):p:=h
theorem zGb(h:p:=by
 have hA:=λu=>pH 4 u
 first|let _:=m8;obtain⟨i0,hi0,qV,qO,qP⟩:=info_parts Tryz.aP6;have HI:Hid (∀v:WA,Calls prog 36 #[iI st.aO.nl] v λe w'=>e=rT (sT (dW st.aO.nl))/\w'=v):=λv=>Tryz.strconv_Itoa_small st.aO.nl od v;generalize hV:u.alloc (.cells #[iI (n.getD 0 0),iI (n.getD 1 0),iI (n.getD 2 0),iI (n.getD 3 0)] 124)=V|obtain⟨i0,hi0,qV,qO,qP⟩:=info_parts Tryz.aP9;have HI:Hid (∀v:WA,Calls prog 36 #[iI st.aO.ns] v λe w'=>e=rT (sT (dW st.aO.ns))/\w'=v):=λv=>Tryz.strconv_Itoa_small st.aO.ns od v;generalize hV:u.alloc (.cells #[iI (n.getD 0 0),iI (n.getD 1 0),iI (n.getD 2 0)] 120)=V
 exact zL2):p:=h
theorem zGc(h:p:=by have bGi:=0;exact zJ8):p:=h
theorem zGd(h:p:=by
 obtain⟨b,off,rfl,oF,hc⟩:=hr.1 oe;have hbo:=hr.2 b off rfl oe
 first|let _:=m10;generalize hV:w.alloc (.cells #[sV (some (aA b off)) 2 cap,sT tx] 105)=V|generalize hV:w.alloc (.cells #[sV (some (aA b off)) 1 cap,sT tx] 105)=V
 have hB:bW w V:=hV▸(jD _ w).alloc (kG _) _;have hs:=h.below hB;exact zJ9):p:=h
theorem zGg(h:p:=by obtain⟨T,rfl,⟨hs,t0,t1,t2⟩,t7⟩:=h;exact zLo):p:=h
theorem zGi(h:p:=by
 have hE:Hid (bZ AA aG aM aC aJ round frame ns nl nw=1):=aOx od
 first|let _:=m15;clear n4|clear n1
 have bLc:=0;exact zL3):p:=h
theorem zGj(h:p:=by
 have hE:Hid (cN (λ_=>lf) (λ_=>lt) (λ_=>lb) (λ_=>lq) (λ_=>hit) AA pw 0=2):=aPh a2 a3 w1.out od
 first|let _:=m16;clear e1 e2|clear e1
 have bLe:=0;exact zL5):p:=h
theorem zGl(h:p:=by have aPp:=0;exact zKh):p:=h
theorem zGm(h:p:=by have bGj:=0;exact zKa):p:=h
theorem zGn(h:p:=by have aKe:=0;exact zKc):p:=h
theorem zGo(h:p:=by have bKo:=0;exact zKb):p:=h
theorem zGr(h:p:=by have aPo:=0;exact zKg):p:=h
theorem zGs(h:p:=by have aTu:=0;exact zLo):p:=h
theorem zGu(h:p:=by obtain⟨T,rfl,⟨hs,t0,t1,t6,t7,t8⟩,t33,t34,t35,hF⟩:=h;exact zLu):p:=h
theorem zGv(h:p:=by have bKq:=0;exact zKn):p:=h
theorem zGx(h:p:=by
 rcases h with⟨h1,h2,h3,h4,h5,h6,h⟩|⟨h1,h2,h3,h4,h5,h6,h⟩|⟨h1,h2,h3,h4,h5,h6,h⟩|⟨h1,h2,h3,h4,h5,h6,h⟩|⟨h1,h2,h3,h4,h5,h6,h⟩|⟨h1,h2,h3,h4,h5,h6,h⟩|⟨h1,h2,h3,h4,h5,h6,h⟩|⟨h1,h2,h3,h4,h5,h6,h⟩|⟨h1,h2,h3,h4,h5,h6,h⟩|⟨h1,h2,h3,h4,h5,h6,h⟩|⟨h1,h2,h3,h4,h5,h6,h⟩|⟨h1,h2,h3,h4,h5,h6,h⟩|⟨vs,h1,h2,h3,h4,h5,h6,h⟩|⟨h1,h2,h3,h4,h5,h6,h⟩|⟨h1,h2,h3,h4,h5,h6,m,hm,h⟩|⟨h1,h2,h3,h4,h5,h6,h7,g0,h8,h⟩|⟨h1,h2,h3,h4,h5,h6,h⟩|⟨h1,h2,h3,h4,h5,h6,h⟩|⟨h1,h2,h3,h4,h5,h6,h⟩
 .first|let _:=m30;exact .inl ⟨h.running hc (L.rSp _),Oe,Oe⟩|exact .inl ⟨h1,h2,h3,h4,h5,h6,h.sf s⟩
 .first|let _:=m30;exact zA3|exact .inr (.inl ⟨h1,h2,h3,h4,h5,h6,h.sf s⟩)
 .first|let _:=m30;exact zA3|exact .inr (.inr (.inl ⟨h1,h2,h3,h4,h5,h6,h.sf s⟩))
 .first|let _:=m30;exact .inl ⟨h.running hc λ_ _ x=>x.elim (·.1) (·.1),Oe,Oe⟩|exact dA3 ⟨h1,h2,h3,h4,h5,h6,h.sf s⟩
 .first|let _:=m30;exact zA3|exact dA4 ⟨h1,h2,h3,h4,h5,h6,h.sf s⟩
 .first|let _:=m30;exact zA3|exact dA5 ⟨h1,h2,h3,h4,h5,h6,h.sf s⟩
 .first|let _:=m30;exact .inl ⟨h.running hc (L.rSd _),Oe,Oe⟩|exact dA6 ⟨h1,h2,h3,h4,h5,h6,h.sf s⟩
 .first|let _:=m30|refine dA7 ⟨h1,h2,h3,h4,h5,h6,?_⟩
  rcases h with⟨m,e,h⟩|⟨e,z,g0,e2,h⟩
  .first|let _:=m30;exact .inl ⟨h.running hc λ_ _ x=>x.1,Oe,λ_=>by omega⟩|exact .inl ⟨m,e,h.sf s⟩
  .first|let _:=m30;exact .inr (.inl ⟨h1,e,h3,h6,h4,z,g0,e2,h⟩)|exact .inr ⟨e,z,g0,e2,λw1 r=>h w1 (Rg.trans _ _ _ (s.rg noB) r)⟩
 .first|let _:=m30;exact zA3|exact dA8 ⟨h1,h2,h3,h4,h5,h6,h.sf s⟩
 .first|let _:=m30;exact zA3|exact rA8 (.inr (.inl ⟨h1,h2,h3,h4,h5,h6,h.sf s⟩))
 .first|let _:=m30;exact .inl ⟨h.running hc L.rAn,Oe,Oe⟩|exact rA8 (.inr (.inr (.inl ⟨h1,h2,h3,h4,h5,h6,h.sf s⟩)))
 .first|let _:=m30;exact zA3|exact rA8 (dA3 ⟨h1,h2,h3,h4,h5,h6,h.sf s⟩)
 .first|let _:=m30;exact zA3|exact rA8 (dA4 ⟨vs,h1,h2,h3,h4,h5,h6,h.sf s⟩)
 .first|let _:=m30;exact zA3|exact rA8 (dA5 ⟨h1,h2,h3,h4,h5,h6,h.sf s⟩)
 .first|let _:=m30;exact zA3|exact rA8 (dA6 ⟨h1,h2,h3,h4,h5,h6,m,hm,h.sf s⟩)
 .first|let _:=m30;exact .inr (.inr ⟨h1,h7,g0,h8,h w (Rg.refl hc)⟩)|exact rA8 (dA7 ⟨h1,h2,h3,h4,h5,h6,h7,g0,h8,λw1 r=>h w1 (Rg.trans _ _ _ (s.rg noB) r)⟩)
 .first|let _:=m30;exact zA3|exact rA8 (dA8 ⟨h1,h2,h3,h4,h5,h6,h.sf s⟩)
 .first|let _:=m30;exact zA3|exact rA8 (rA8 (.inr (.inl ⟨h1,h2,h3,h4,h5,h6,h.sf s⟩)))
 .first|let _:=m30;exact zA3|exact rA8 (rA8 (.inr (.inr ⟨h1,h2,h3,h4,h5,h6,h.sf s⟩)))):p:=h
theorem zG0(h:p:=by have bC6:=0;exact zKi):p:=h
theorem zG1(h:p:=by
 have hA:=λu=>pS 3 u;unfold mO
 first|let _:=m34;subst h4|skip
 obtain⟨b,off,rfl,hb,hc⟩:=hr od;have q1:((ws.length:Int)-1)=(q:Int):=od;have q2:q<ws.length:=od;have q3:(q:Int)<(ws.length:Int):=od;have q4:ws.length<=cap:=hcap;have y3:∀o1 o2 o3:Obj,(((w.alloc o1).alloc o2).alloc o3).cell? (aA b (off+q))=some (sT tx):=λo1 o2 o3=>(((((jD _ w).alloc (kG _) o1).alloc oe o2).alloc ol o3).cell (p:=(aA b (off+q))) hb).trans (hc q tx hx);have k1:(((q:Int):Int)==(m:Int))=false:=by simpa using(show ¬((q:Int):Int)=m by omega)
 first|let _:=m34;have k2:(m:Int)<((q:Int):Int):=od|have k2:decide ((m:Int)<((q:Int):Int))=false:=kD od
 exact zBs):p:=h
theorem zG2(h:p:=by rw[hn];generalize hV:w.alloc (.cells #[sV a 5 cap,sT tx] 105)=V;have bGs:=0;exact zLd):p:=h
theorem zG4(h:p:=by have bGk:=0;exact zKf):p:=h
theorem zG5(h:p:=by
 have hP:=Tryz.strconv_ParseInt_10_at64_ok word od v hp w
 first|let _:=m38;have hA:=λu=>pS 3 u|have hA:=λu=>pH 3 u
 have bGv:=0;exact zLk):p:=h
theorem zG7(h:p:=by have bKs:=0;exact zKr):p:=h
theorem zHa(h:p:=by
 have rf:=Rg.refl (M:=fR) aL.cm
 first
 |let _:=m43;have hV:=Vc_le X.nw (D7 D);have hn:=L.nw.2;rcases h with⟨rfl,rfl,rfl,h⟩|⟨rfl,rfl,rfl,h⟩|⟨rfl,rfl,rfl,h⟩|⟨vs,rfl,rfl,rfl,h⟩|⟨rfl,rfl,rfl,h⟩|⟨rfl,rfl,rfl,m,rfl,h⟩|⟨rfl,rfl,rfl,h⟩|⟨rfl,rfl,rfl,h⟩|⟨rfl,rfl,rfl,h⟩
  .exact zLh
  .have bGu:=0;exact zLh
  .exact .inl (w1M G L ha aL dK hm h)
  .refine .inl ?_;have aXw:=0;exact zLg
 |rcases h with⟨rfl,rfl,h⟩|⟨rfl,rfl,h⟩|⟨rfl,rfl,h⟩|⟨rfl,rfl,h⟩|⟨rfl,rfl,h⟩;skip
 .exact zKx
 .exact zL6
 .first|let _:=m43;refine .inl ?_|have enS:∀{sA:Nat},sA<=5->2<sA+1->aFq X j a w->Go.ConcN.Mode j (D7 D) (.sp j sA) st sm->sA<=3->2<=sA->gY X (runT X.P (crowd gs w sl) 0) (mu X (.sp j sA) 0 j f0 D qf) t:=λh5 _ ⟨_,a',dH,m2,hk⟩ hmA h3 h2=>aAs (tag':=.sp j 1) (sub':=0) G L ha aL od dK dH (ev1 aJu) (dA5 ⟨rfl,rfl,hj,rfl,rfl,rfl,hk⟩) (hmA.reopen trivial trivial (by simp[pend,h3]) oe) (nx od) (by rw[pL od,pL od];omega)
  rcases Goes.cases h with dO|⟨m',rfl,dL⟩
  .first
   |let _:=m43;obtain⟨_,hx⟩:=dO w rf;obtain⟨hq,rfl,rfl⟩:=hm.fin_inv trivial;obtain⟨a',dH,m2,hk⟩:=hx dK;exact aAs (tag':=.ke) (sub':=0) (f':=m2) G L ha aL (kG _) dK dH (ev1 aE2) (rA8 (rA8 (.inr (.inl ⟨rfl,rfl,rfl,rfl,rfl,rfl,hk⟩)))) (.fin trivial hq) (lF oe) Om
   |rcases dO w rf with⟨_,a',dH,m2,hk⟩|he
    .exact aAs (tag':=.sp j 2) (sub':=0) G L ha aL od dK dH (ev1 (.inr (.inr (.inl rfl)))) (dA4 ⟨rfl,rfl,hj,rfl,rfl,rfl,hk⟩) (bCy 2 od) (nx od) (lt od)
    .exact enS od od he hm od od
  .obtain⟨a',w',es,dH,hd,oH⟩:=dL w rf
   first|let _:=m43;exact nT G L ha aL (kG _) dK hm dH hd (rA8 (dA8 ⟨rfl,rfl,rfl,rfl,rfl,rfl,oH⟩)) (lF oe) od|exact nT G L ha aL od dK hm dH hd (dA3 ⟨rfl,rfl,hj,rfl,rfl,rfl,oH⟩) (nx od) od
 .have bGn:=0;exact zKx
 .rcases Goes.cases h with dO|⟨m',rfl,dL⟩
  first
  |let _:=m43
   .obtain⟨_,a',dH,m2,hk⟩:=dO w rf;obtain⟨hq,rfl,rfl⟩:=hm.fin_inv trivial;have lQ:∀i,i<X.nw->(D i).stage=1:=λi hi=>by have h1:min (D i).stage 7=1:=hq i hi;omega
    have dY:=runT_crowd_go (P:=X.P) (sl:=sl) (i:=0) ha jc;have hT:Tn X fR none w w:=.refl G aL.cm λ_ x=>x.elim;have fF:=aL.step0 (D':=D) (cl':=true) G (fn:=a.frame.fn) (pos:=a.frame.place) (a:=a) (a':=a') hT (ev1 (dA4 rfl)) (λi=>⟨rfl,rfl,rfl,rfl⟩) (aL.wk0 G (λg hg=>(L.rv g hg).1) hT oe a a') aL.chs id aL.pk;have e1:MemOp.ofEvents 0 a.frame.fn a.frame.place #[mk (.acquire (stA X.q.Wg))]=#[{ g:=0,fn:=a.frame.fn,pos:=a.frame.place,act:=.mark (.acquire (stA X.q.Wg)) }]:=by rw[ofEvents_eq];simp[ofEvent_mk]
    have hy:(t++ #[({ g:=0,fn:=a.frame.fn,pos:=a.frame.place,act:=.mark (.acquire (stA X.q.Wg)) }:MemOp)])[t.size]?=some { g:=0,fn:=a.frame.fn,pos:=a.frame.place,act:=.mark (.acquire (stA X.q.Wg)) }:=oe;refine .inr ⟨_,_,dY,_,w,sl,a',m2,λi=>if i<=X.j0 then qf i else(D (i-(X.j0+1))).fuel,rfl,fF.size,get_map_set_same _ _ _ jv,hk,⟨λi g h0 hg=>?_,λi hi=>Deaf_absent λq op ho e=>?_⟩,?_,aL.cm,aL.lo,λk hk=>?_,aL.kp,λop ho=>(by obtain⟨i,hi⟩:=Array.mem_iff_getElem?.1 ho;exact fF.ti.gs i op hi)⟩
    .rcases jB X.j0 i with hl|hl
     .have hi:i-(X.j0+1)<X.nw:=by have:=(kZ hg).1;rw[fF.size]at this;omega
      have ei:i=X.j0+1+(i-(X.j0+1)):=od;simp only[kJ (show ¬i<=X.j0 by omega)];rw[ei]at hg;have hs:=nY fF hi hg;have hd:=fF.deafW _ hi;rw[<-ei]at hd;rw[hd];have h1:=lQ _ hi;rcases hs with⟨h,_⟩|⟨h,_⟩|⟨h,_⟩|⟨h,_⟩|⟨h,_⟩|⟨h,_⟩|⟨h,_⟩|⟨h,_⟩|⟨h,_⟩|⟨h,_⟩|⟨h,_⟩|⟨h,_⟩|⟨_,_,h⟩;iterate 12 omega
      exact h
     .simp only[kK hl];exact fF.old i g h0 hl hg
    .have:=fF.ti.gs q op ho;rw[fF.size]at hi;omega
    .refine fF.ti.join (q:=t.size) fF.deaf0 fF.norel (by rw[e1,act?_of hy]) (by rw[e1];simp[Trace.g?]) (by rw[e1];exact⟨0,by simp[Trace.g?],by rw[deaf_old (kG _)];exact aL.deaf0⟩) λi g hg hlt=>?_;obtain⟨op,ho,rfl⟩:=AQ hg;have:=fF.ti.gs i op ho;have hi:op.g-(X.j0+1)<X.nw:=od;obtain⟨r,hr⟩:=aL.rel _ hi (by rw[lQ _ hi];omega);rw[show X.j0+1+(op.g-(X.j0+1))=op.g by omega]at hr;exact⟨r,hr.appOther g_of_ofEvents od,lt_of_act? hr.act⟩
    .rcases aL.row k hk with⟨h1,_⟩|⟨_,h2,h3|h3⟩
     .omega
     .obtain⟨x,hx,hsx⟩:=aL.wk _ h2;have h1:=lQ _ h2;rcases hsx with⟨h,_⟩|⟨h,_⟩|⟨h,_⟩|⟨h,_⟩|⟨h,_⟩|⟨h,_⟩|⟨h,_⟩|⟨h,_⟩|⟨h,_⟩|⟨h,_⟩|⟨h,_⟩|⟨h,_⟩|⟨_,h,_⟩;iterate 12 omega
      rw[h]at h3;cases h3
     .exact h3
  |.obtain⟨_,a',child,dH,hch,m2,hk⟩:=dO w rf;obtain⟨mc,hc⟩:=hch w aL.cm;obtain⟨ho,rfl,rfl,_⟩:=hm.open_inv trivial;have dY:=runT_crowd_spawn (P:=X.P) (sl:=sl) (i:=0) ha jc;rw[aL.size]at dY;have hsz:X.j0+1+j=X.j0+j+1:=od;have fF:=aL.spawn (a':=a') (x:={ g:=0,fn:=a.frame.fn,pos:=a.frame.place,act:=.go (X.j0+j+1) }) (y:={ g:=X.j0+j+1,fn:=child.frame.fn,pos:=a.frame.place,act:=.start }) ⟨rfl,rfl⟩ ⟨rfl,rfl⟩ hc;have e0:(λi=>D7 (upd D j { stage:=8,fuel:=mc+1,deaf:=0,own:=fR,job:=none,ls:=(D j).ls }) i)=upd (D7 D) j (⟨7,mc+1,0⟩:WD):=W8 D j _;have e0:D7 (upd D j { stage:=8,fuel:=mc+1,deaf:=0,own:=fR,job:=none,ls:=(D j).ls })=upd (D7 D) j (⟨7,mc+1,0⟩:WD):=e0;have eV:Vc (j+1) (D7 (upd D j { stage:=8,fuel:=mc+1,deaf:=0,own:=fR,job:=none,ls:=(D j).ls }))=Vc j (D7 D)+1:=by rw[e0];simp only[Vc,sumTo,upd_same];rw[sumTo_upd_out (D7 D) _ cnt (kG _)];rfl
    have eS:sumTo (j+1) (λi=>(upd D j { stage:=8,fuel:=mc+1,deaf:=0,own:=fR,job:=none,ls:=(D j).ls } i).stage)=sumTo j (λi=>(D i).stage)+8:=by simp only[sumTo,upd_same];rw[sumTo_upd_out D _ gP.stage (kG _)]
    have ho':OpenSt (j+1) (D7 (upd D j { stage:=8,fuel:=mc+1,deaf:=0,own:=fR,job:=none,ls:=(D j).ls })):=λi hi=>by
     rw[e0];by_cases e:i=j
     .subst e;rw[upd_same];simp
     .rw[upd_ne _ _ e];exact ho i od
    have ha':((gs.setIfInBounds 0 a').push child)[0]?=some a':=by
     have:0<(gs.setIfInBounds 0 a').size:=by rw[Array.size_setIfInBounds,aL.size];omega
     rw[Array.getElem?_push_lt this,<-Array.getElem?_eq_getElem,AO jv]
    refine⟨_,_,mu X (.sp (j+1) 6) 0 (j+1) m2 _ qf,dY,?_,_,w,sl,j+1,0,AE,upd D j { stage:=8,fuel:=mc+1,deaf:=0,own:=fR,job:=none,ls:=(D j).ls },qf,.sp (j+1) 6,0,m2,0,false,a',_,0,rfl,ha',.inl ⟨rfl,rfl,od,rfl,rfl,rfl,hk⟩,?_,dK,?_,λe=>absurd e oe,od,rfl⟩
    .refine .inl ?_;show cQ _ _ _ _ _+_<cQ _ _ _ _ _+_;rw[eS,pL od,pL od];omega
    .have:MemOp.ofEvents 0 a.frame.fn a.frame.place #[]=#[]:=rfl;rw[this,hsz];exact fF
    .have e:((Vc j (D7 D)+pend (.sp j 1):Nat):Int)*KK=((Vc (j+1) (D7 (upd D j { stage:=8,fuel:=mc+1,deaf:=0,own:=fR,job:=none,ls:=(D j).ls }))+pend (.sp (j+1) 6):Nat):Int)*KK:=by rw[eV];simp[pend]
     rw[e];exact .opn trivial ho' oe
  .obtain⟨a',w',es,dH,hd,oH⟩:=dL w rf
   first|let _:=m43;exact .inl (nT G L ha aL (kG _) dK hm dH hd (rA8 (rA8 (.inr (.inr ⟨rfl,rfl,rfl,rfl,rfl,rfl,oH⟩)))) (lF oe) od)|exact nT G L ha aL od dK hm dH hd (dA5 ⟨rfl,rfl,hj,rfl,rfl,rfl,oH⟩) (nx od) od):p:=h
theorem zHb(h:p:=by
 have hlt:=(kZ hk).1;rcases Nat.eq_zero_or_pos k with rfl|aA4
 .first
  |let _:=m44;rfl
  |exfalso;rw[ha]at hk;cases hk;rcases fO.status L aL.cm with⟨hs,_⟩|⟨_,_,_,_,_,z,g0,rfl,_⟩|⟨_,_,g0,rfl,hg⟩
   .exact zEk
   .exact ho (offersAt_parked_send' _ _ _ _ _ _)
   .exact ho (by unfold offersAt;simp[hg.2.1])
 .first|let _:=m44;exfalso|skip
  rcases jB X.j0 k with h1|h1
  .have hi:k-(X.j0+1)<j:=by have:=aL.size;omega
   have ek:k=X.j0+1+(k-(X.j0+1)):=od;rw[ek]at hk;rcases(nY aL hi hk).status (λg hg=>(L.rv g hg).1) aL.cm with⟨hs,_⟩|⟨e1,e2,g0,hr,rfl⟩|⟨_,hs⟩
   .first|let _:=m44;exact zEk|exact absurd (offersAt_of_not_blocked O6 _ _) ho
   .first|let _:=m44;exact ho (offersAt_parked_recv' _ _ _ _ _)|exact⟨_,hi,ek,e1,e2,g0,hr,rfl⟩
   .first|let _:=m44;exact zEk|exact absurd (offersAt_of_not_blocked O6 _ _) ho
  .first|(let _:=m44;rcases(aL.old k x aA4 h1 hk).status with hs|hs<;>exact ho (offersAt_of_not_blocked O6 _ _);skip)|(rcases(aL.old k x aA4 h1 hk).status with hs|hs<;>exact absurd (offersAt_of_not_blocked O6 _ _) ho;skip)):p:=h
theorem zHd(h:p:=by
 obtain⟨HF0,HT0⟩:=h.asked t
 first
 |let _:=m46;obtain⟨V,hV⟩:∃V,(w.setCell ⟨P,3,none⟩ (.int .i64 t)).alloc (.cells #[.int .i64 0,.string ⟨#[]⟩] 270)=V:=⟨_,rfl⟩;have hVs:V.1.size=w.1.size+1:=Ov;obtain⟨V0,h0⟩:∃V0,w.setCell ⟨P,3,none⟩ (.int .i64 t)=V0:=⟨_,rfl⟩;have e0:V0.1.size=w.1.size:=by rw[<-h0];simp
  have r0:V.cell? ⟨w.1.size,0,none⟩=some (.int .i64 0):=by rw[<-hV,h0,<-e0];simp
  have r1:V.cell? ⟨w.1.size,1,none⟩=some (.string ⟨#[]⟩):=by rw[<-hV,h0,<-e0];simp
  have rz:∀i,V.frozen? ⟨w.1.size,i,none⟩=false:=λi=>by rw[<-hV,h0,<-e0];simp
  clear e0 h0;rw[hV]at HF0 HT0;have hR:=aHz HF0 t h1.1 h1.2 hb0 hb hw ha;have HV:Hid (aW P P w V):=HT0;obtain⟨d0,d1,d2,d3,d4,d5,_,bM0,_,_,_⟩:=HF0;skip
 |have HF:Hid (eT ((w.setCell (aA P 3) (iI t)).alloc (.cells #[iI 0,sT ⟨#[]⟩] 270)) B P bag queue all v aQ last t):=HF0;have HT:Hid (aW P P w ((w.setCell (aA P 3) (iI t)).alloc (.cells #[iI 0,sT ⟨#[]⟩] 270))):=HT0;clear HF0 HT0
 have bGo:=0;exact zKy):p:=h
theorem zHf(h:p:=by generalize hV:w.alloc (.cells #[v,sT tx] 105)=V;exact zLp):p:=h
theorem zHh(h:p:=by have aTv:=0;exact zKk):p:=h
theorem zHm(h:p:=by have aXt:=0;exact zKq):p:=h
theorem zHn(h:p:=by obtain⟨⟨t1,t2,t3⟩,t4,t5,t6,t7⟩:=h.aRa (by intro e;cases e) hF hS.lt;exact zK3):p:=h
theorem zHo(h:p:=by
 have hs:=nY aL hi hg;have hL:∀b,(D i).own b->X.q.L<=b:=λb hb=>(aL.own i hi b hb).1
 first
 |let _:=m57;have l1:=G.lWg;have l2:=G.aKd;have l3:=G.lch;have g2:=G.gch;have lo:=aL.lo;rcases hs with⟨h1,h2,k,h3,h4,h⟩|⟨h1,h2,k,bx,h3,h4,h5,h⟩|⟨h1,h2,k,bx,h3,h4,h5,h⟩|⟨h1,h2,h3,k,h4,h5,bx,ρ,fr,h6,h7,h8,h9,bB9,h11⟩|⟨h1,h2,k,bx,out,h3,h4,h5,h6,h⟩|⟨h1,_⟩|⟨h1,_⟩|⟨h1,_⟩|⟨h1,_⟩|⟨h1,_⟩|⟨h1,_⟩|⟨h1,_⟩|⟨h1,_⟩;skip
 |have rf:RWq X w w:=@RW.refl (pay X) _ _ _ _ _ _ _;have fN:=aL.lv i hi h7;have bMu:=L.nw.2;have hVj:=Vc_le j (D7 D);have hdk:Deaf t (X.j0+1+i)=(D i).deaf:=aL.deafW i hi;have idle:∀{g':WC} {m':Nat},stepG X.P false g w=.go g' w #[]->WS X (lv (D i) (D i).stage m' (D i).deaf) g' w->m'<(D i).fuel->(D i).stage<=6->
    gY X (runT X.P (crowd gs w sl) (X.j0+1+i)) (mu X tag sub j f0 D qf) t:=by
   intro g' m' dH C5 xF h6
   refine zT G L ha fO aL hx hj hi hg dH (.refl _ w) dK oe oe C5 rfl h6 h6 (λtag' ht _=>?_) (.inr ⟨rfl,xF⟩)
   have:=hm.same (i:=i) m' (D i).deaf
   rw[d7s rfl h7]at this
   exact this.retag ht
  rcases hs with⟨h1,_⟩|⟨h1,_⟩|⟨h1,_⟩|⟨h1,_⟩|⟨h1,_⟩|⟨h1,_⟩|⟨h1,h2,h3,h⟩|⟨h1,h2,h3,h⟩|⟨h1,h2,h3,h⟩|⟨h1,h2,h3,h⟩|⟨h1,h2,h3,h⟩|⟨h1,h2,h3,h⟩|⟨h1,h3,h⟩;iterate 6 omega
 .rcases Goes.cases h with dO|⟨m',e,dL⟩
  first
  |let _:=m57
   .obtain⟨_,_,g',dH,hn⟩:=dO w (Rg.refl aL.cm);have hT:Tn X (D i).own none w (w.alloc (.cells X.zc X.q.tN)):=.own G aL.cm hL (by rw[X7];omega) ⟨rfl,rfl,rfl⟩ λb hb _=>alloc_old w _ hb;have hfr:FRG X.q w.1.size X.zc (w.alloc (.cells X.zc X.q.tN)):=⟨hT.cm,aNx w _⟩;refine aA1 (c:=none) (d':={ D i with stage:=13,fuel:=1,own:=λb=>(D i).own b\/(w.1.size<=b/\b<(w.alloc (.cells X.zc X.q.tN)).1.size) }) G L ha fO aL hx hj dK hm hi hg dH hT aNa (.inr (.inl ⟨rfl,h2,k,w.1.size,h3,h4,.inr ⟨kG _,by rw[X7];omega⟩,hn _ hfr⟩)) oe oe oe rfl od oe (.inl rfl) ?_ ?_ oe oe (.inl Ol)
    .exact alloc_old w _ od
    .exact alloc_old w _ od
  |.obtain⟨_,_,g',dH,m2,hk⟩:=dO w (Rg.refl aL.cm);refine workerStep (c:=none) (d':=lv (D i) 6 m2 0) G L ha fO aL hx hj hi hg dH (.refl G aL.cm hL) (sW rfl) (dA7 ⟨rfl,rfl,h3,hk⟩) (λe he=>?_) oe ?_ (λ_=>⟨t.size,?_⟩) (.inl rfl) rfl (λ_=>fN) (λh=>absurd h (by simp[lv])) dK (λtag' ht _=>?_) (.inl ⟨by show 6<_;omega,?_⟩)
    .rw[Array.mem_singleton.1 he];exact dA6 rfl
    .rw[h2];rfl
    .exact RelBy.new (by rw[hdk,h2]) _ _
    .rw[aZe od];exact(hm.counted hi (by rw[d7s h1 od];omega) (.inl rfl) _ _).retag ht
    .show(if 5<=min 6 7 then 1 else 0)<=(if 5<=min (D i).stage 7 then 1 else 0);rw[h1];simp
  .obtain⟨g',w',es,dH,hd,oH⟩:=dL w (Rg.refl aL.cm)
   first|let _:=m57;exact aCh G L ha fO aL hx hj dK hm hi hg dH hd noB m' (.inl ⟨h1,h2,k,h3,h4,oH⟩) od od od|exact aCh G L ha fO aL hx hj dK hm hi hg dH hd noB m' (dA6 ⟨h1,h2,h3,oH⟩) od od od
 .rcases Goes.cases h with dO|⟨m',e,dL⟩
  first
  |let _:=m57
   .obtain⟨_,hf,g',w2,es,dH,q1,q2,q3,q4,q5,hn⟩:=dO w (Rg.refl aL.cm);have hb:=hL bx h5;have hT:Tn X (D i).own none w w2:=.own G aL.cm hL od q2 λb hb hn'=>q3 b λe=>hn' (e▸h5);refine aA1 (c:=none) (d':={ D i with stage:=12,fuel:=12 }) G L ha fO aL hx hj dK hm hi hg dH hT (sW q1) (.inr (.inr (.inl ⟨rfl,h2,k,bx,h3,h4,h5,hn w2 ⟨hT.cm,q4⟩⟩))) (λe he=>?_) (λe he=>?_) oe rfl od oe (.inl rfl) (q3 _ od) (q3 _ od) oe oe (.inl Ol)
    .obtain⟨ad,rfl,had⟩:=q5 e he;exact .inr (.inl ⟨ad,true,rfl,had▸h5⟩)
    .obtain⟨ad,rfl,had⟩:=q5 e he;exact⟨oe,oe⟩
  |.obtain⟨_,g',dH,m2,hk⟩:=dO w rf;refine zT (s':=5) (m':=m2) (dd':=1) G L ha fO aL hx hj hi hg dH (.refl _ w) dK (λe he=>?_) (λjx e he=>?_) (dA8 ⟨rfl,rfl,h3,hk⟩) ?_ od od (λtag' ht _=>?_) (.inl ⟨od,?_⟩)
    .rw[Array.mem_singleton.1 he];exact .inl (.inl rfl)
    .have:=AS he;rw[Array.mem_singleton.1 this];exact .inl rfl
    .rw[h2];rfl
    .exact(hm.counted hi (by rw[d7s h1 od];omega) (.inr rfl) _ _).retag ht
    .show(if 5<=5 then 1 else 0)<=(if 5<=min (D i).stage 7 then 1 else 0);rw[h1];simp
  .first|let _:=m57;obtain⟨g',w',es,dH,hd,oH⟩:=dL w (Rg.refl aL.cm);exact aCh G L ha fO aL hx hj dK hm hi hg dH hd (onB h5) m' (.inr (.inl ⟨h1,h2,k,bx,h3,h4,h5,oH⟩)) od od od|obtain⟨g',w',es,dH,⟨rfl,rfl⟩,oH⟩:=dL w rf;exact idle (m':=m') dH (dA7 ⟨h1,h2,h3,oH⟩) od od
 .rcases Goes.cases h with dO|⟨m',e,dL⟩
  .first
   |let _:=m57;obtain⟨_,hf,fr,dH,hn⟩:=dO w (Rg.refl aL.cm);have aEg:=L.start k (fr::[X.bot]) w h4 aL.cm;have hbs:=lt_of_heap hf.job;refine aA1 (c:=none) (d':={ D i with stage:=11,fuel:=0,ls:=⟨(X.ses k,[],X.q.w0),aEg.2.acc⟩ }) G L ha fO aL hx hj dK hm hi hg dH (.refl G aL.cm hL) (sW rfl) (dA3 ⟨rfl,h2,rfl,k,h3,h4,bx,_,fr,h5,aEg,λc hc=>?_,λc hc hl=>?_,hf,hn⟩) oe oe oe rfl od oe (.inl rfl) rfl rfl oe oe (.inl Ol)
    .unfold rC;rw[kJ od];omega
    .have hl:c<X.q.w0.1.size:=hl;rw[G.fz.size]at hl;omega
   |obtain⟨_,aK1⟩:=dO w rf;have s5:=d7s (D:=D) h1 od;have L6:cnt (D7 D i)=1:=by show(if 5<=(D7 D i).stage then 1 else 0)=1;rw[s5];rfl
    have hV1:1<=Vc j (D7 D):=by have:=le_sumTo (f:=λx=>cnt (D7 D x)) hi;simp only[Vc];omega
    have bk2:∀e∈#[rd (stA X.q.Wg),wr (stA X.q.Wg)],Bk X.q.Wg e\/e.mute=true:=by intro e he;simp at he;rcases he with rfl|rfl<;>exact .inl (bk_cell _ _ rfl)
    have df2:∀jx e,(#[rd (stA X.q.Wg),wr (stA X.q.Wg)]:Array Event)[jx]?=some e->(MemAct.ofEvent e).touch?=none\/0<deafBehind (D i).deaf ((#[rd (stA X.q.Wg),wr (stA X.q.Wg)]:Array Event).extract 0 jx):=by
     intro jx e he;rw[h2]
     match jx,he with
     |0,_=>exact .inr (by simp[deafBehind])
     |1,_=>exact .inr (by simp[deafBehind,rd])
     |jx+2,he=>simp at he
    have hq0:∀q,cnt (⟨1,q,1⟩:WD)=0:=λ_=>rfl;have dd2:deafBehind (D i).deaf #[rd (stA X.q.Wg),wr (stA X.q.Wg)]=1:=by rw[h2];rfl
    have opq:∀q,OpenSt j (D7 D)->OpenSt j (upd (D7 D) i ⟨1,q,1⟩):=λq h a ha=>by
     by_cases e:a=i
     .subst e;rw[upd_same];simp
     .rw[upd_ne _ _ e];exact h a ha
    have hqw:∀{q:Nat} {g':WC} {w':WA},QuitsD X.P q 1 g'->WS X (lv (D i) 1 q 1) g' w':=λhq=>rA8 (rA3 (.inr ⟨rfl,h3,hq⟩))
    cases hm with
    |opn p1 p2 p3=>
     obtain⟨v,hv⟩:∃v,Vc j (D7 D)+pend tag=v+1:=⟨Vc j (D7 D)+pend tag-1,od⟩
     have hpd:pend tag<=1:=by cases tag<;>simp only[pend]<;>(try split)<;>omega
     rw[hv]at dK
     have iM:WgAt X.q.tW X.q.Wg w (((v:Nat)+1)*KK+((0:Nat):Int)) 0:=jw
     obtain⟨g',dH,_,hq⟩:=aK1 v 0 od od iM
     obtain⟨q,hq⟩:=hq od
     have hv':Vc j (upd (D7 D) i ⟨1,q,1⟩)+pend tag=v:=by have:=Vc_upd (D7 D) (⟨1,q,1⟩:WD) hi;have:=hq0 q;omega
     refine zT (s':=1) (m':=q) (dd':=1) G L ha fO aL hx hj hi hg dH (aside_setCell w (stA X.q.Wg) _) (dK.setSt _) bk2 df2 (hqw hq) dd2 od od (λtag' ht _=>Mode.retag ?_ ht) (.inl ⟨od,by rw[hq0];omega⟩)
     have e:((v:Nat):Int)*KK+((0:Nat):Int)=((Vc j (upd (D7 D) i ⟨1,q,1⟩)+pend tag:Nat):Int)*KK:=by rw[hv'];simp
     rw[e]
     exact .opn p1 (opq q p2) (λvs ev=>by have:=p3 vs ev;omega)
    |reg p1 p2 p3=>
     obtain⟨v,hv⟩:∃v,Vc j (D7 D)=v+1:=⟨Vc j (D7 D)-1,od⟩
     rw[hv]at dK
     have iM:WgAt X.q.tW X.q.Wg w (((v:Nat)+1)*KK+((1:Nat):Int)) 0:=jw
     obtain⟨g',dH,hl,hq⟩:=aK1 v 1 od od iM
     by_cases hv0:v=0
     .subst hv0
      obtain⟨m2,hk⟩:=hl ⟨rfl,rfl⟩
      refine zT (s':=4) (m':=m2) (dd':=1) G L ha fO aL hx hj hi hg dH (aside_setCell w (stA X.q.Wg) _) (dK.setSt _) bk2 df2 (rA8 (.inr (.inl ⟨rfl,rfl,h3,hk⟩))) dd2 od od (λtag' ht _=>Mode.retag ?_ ht) (.inl ⟨od,by show(if 5<=4 then 1 else 0)<=_;simp⟩)
      have uR:∀a,a<j->a≠i->(D7 D a).stage=1:=λa ha e=>by
       have c0:=others_uncounted hi hv L6 a ha e
       have:=p2 a ha
       simp only[cnt]at c0
       split at c0<;>omega
      have:=Mode.last (j:=j) (D:=upd (D7 D) i ⟨4,m2,1⟩) (tag:=tag) i p1 hi (by rw[upd_same];simp) (λa ha e=>by rw[upd_ne _ _ e];exact uR a ha e)
      rw[upd_same]at this
      simpa using this
     .obtain⟨q,hq⟩:=hq od
      have hv':Vc j (upd (D7 D) i ⟨1,q,1⟩)=v:=by have:=Vc_upd (D7 D) (⟨1,q,1⟩:WD) hi;have:=hq0 q;omega
      refine zT (s':=1) (m':=q) (dd':=1) G L ha fO aL hx hj hi hg dH (aside_setCell w (stA X.q.Wg) _) (dK.setSt _) bk2 df2 (hqw hq) dd2 od od (λtag' ht _=>Mode.retag ?_ ht) (.inl ⟨od,by rw[hq0];omega⟩)
      have e:((v:Nat):Int)*KK+((1:Nat):Int)=((Vc j (upd (D7 D) i ⟨1,q,1⟩):Nat):Int)*KK+1:=by rw[hv'];simp
      rw[e]
      exact .reg p1 (opq q p2) od
    |last N _ p2 p3 p4=>
     by_cases e:i=N
     .subst e;omega
     .have:=p4 i hi e;omega
    |sema p2=>have:=p2 i hi;omega
    |fin _ p2=>have:=p2 i hi;omega
    skip
  .first|let _:=m57;obtain⟨g',w',es,dH,hd,oH⟩:=dL w (Rg.refl aL.cm);exact aCh G L ha fO aL hx hj dK hm hi hg dH hd (onB h5) m' (.inr (.inr (.inl ⟨h1,h2,k,bx,h3,h4,h5,oH⟩))) od od od|obtain⟨g',w',es,dH,⟨rfl,rfl⟩,oH⟩:=dL w rf;exact idle (m':=m') dH (dA8 ⟨h1,h2,h3,oH⟩) od od
 first
 |let _:=m57
  .by_cases ho:Out (D i).ls.1.1 (D i).ls.1.2.1
   .obtain⟨out,ht,fM⟩:=L.done k _ _ ρ (h7.2.open.1 ho);have dH:stepG X.P false g w=.go (gr (fr.finish (sT out)) [X.bot]) w #[]:=by rw[h7.1.eq,ho.1];exact fM fr [X.bot] w
    exact aA1 (c:=none) (d':={ D i with stage:=10,fuel:=8 }) G L ha fO aL hx hj dK hm hi hg dH (.refl G aL.cm hL) (sW rfl) (dA4 ⟨rfl,h2,k,bx,out,h4,h5,h6,ht,h11 out w bB9⟩) oe oe oe rfl od oe (.inl rfl) rfl rfl oe oe (.inl Ol)
   .obtain⟨g1,w1,es,s1,dH,hlt,aEg,hsz,hk,hes⟩:=h7.step L.pc ho false;have wr:=h7.1.wr;have wr1:=aEg.1.wr;have hup:∀c,(D i).ls.1.2.2.1.size<=c->w.1.size<=ρ c:=λc hc=>by have:=wr.up (c-(D i).ls.1.2.2.1.size);have e:(X.q.Y.at ρ (D i).ls.1.2.2.1.size).ρ ((D i).ls.1.2.2.1.size+(c-(D i).ls.1.2.2.1.size))=w.1.size+(c-(D i).ls.1.2.2.1.size):=this;rw[show(D i).ls.1.2.2.1.size+(c-(D i).ls.1.2.2.1.size)=c by omega]at e;have e:ρ c=w.1.size+(c-(D i).ls.1.2.2.1.size):=e;omega
    have aT4:∀c,c<s1.2.2.1.size->ρ c<w1.1.size:=λc hc=>wr1.lt c hc;have xT:∀b,(X.q.Y.at ρ s1.2.2.1.size).C8 b->(D i).own b\/(w.1.size<=b/\b<w1.1.size):=by
     rintro b ⟨c,c1,c2,rfl⟩;have c1:X.q.Y.G<=c:=c1;have c2:c<s1.2.2.1.size:=c2;rcases jB c (D i).ls.1.2.2.1.size with h'|h'
     .exact .inl (h9 c c1 h')
     .exact .inr ⟨hup c h',aT4 c c2⟩
    have uE:∀b,X.q.Y.G<=b->b<w.1.size->¬(X.q.Y.at ρ s1.2.2.1.size).C8 b->w1.1[b]?=w.1[b]?:=hk.oth;have hT:Tn X (D i).own none w w1:=.own G aL.cm hL hk.size ⟨hk.os,hk.out,hk.tape⟩ λb hb hn=>by
     rcases jB b X.q.Y.G with h'|h'
     .exact hk.ro b h'
     .exact(uE b h' hb λx=>(xT b x).elim hn λy=>by omega)
    have hbs:=lt_of_heap bB9.job;have hbx:w1.1[bx]?=w.1[bx]?:=uE bx (by have:=hL bx h6;omega) hbs λ⟨c,c1,_,c3⟩=>by have:=h8 c c1;have c3:ρ c=bx:=c3;omega
    have hn:∀b,b<X.q.L->¬(D i).own b:=λb hb h=>by have:=hL b h;omega
    refine aA1 (c:=none) (d':={ D i with own:=λb=>(D i).own b\/(w.1.size<=b/\b<w1.1.size),ls:=⟨s1,aEg.2.acc⟩ }) G L ha fO aL hx hj dK hm hi hg dH hT aNa (dA3 ⟨h1,h2,h3,k,h4,h5,bx,ρ,fr,.inl h6,aEg,h8,λc c1 c2=>?_,⟨hT.cm,hbx.trans bB9.job⟩,h11⟩) (λe he=>?_) (λe he=>?_) oe rfl od Ol (.inl rfl) ?_ ?_ Ol Ol (.inr ⟨rfl,.inr ⟨hlt,rfl⟩⟩)
    .exact xT _ ⟨c,c1,c2,rfl⟩
    .have jM:=hes e he;obtain⟨loc,wr,sy⟩:=e
     cases loc with
     |cell ad=>
      obtain⟨rfl,jM⟩:=jM
      rcases jM with jM|⟨q1,q2,q3⟩
      .exact .inr (.inl ⟨ad,wr,rfl,xT _ jM⟩)
      .simp only at q3;subst q3
       exact dA3 ⟨ad,rfl,q1,q2⟩
     |obj r=>
      obtain⟨rfl,jM⟩:=jM
      exact .inr (.inr (.inl ⟨r,wr,rfl,xT _ jM⟩))
     |output=>exact dA8 rfl
     |goroutines=>exact jM.elim
     |mark m=>
      cases m<;>first|exact rA8 (.inr (.inl ⟨_,rfl⟩))|exact rA8 (.inr (.inr rfl))|exact jM.elim
    .have jM:=hes e he;obtain⟨loc,wr,sy⟩:=e
     cases loc with
     |mark m=>
      cases m<;>first|exact jM.elim|exact⟨λh=>Oa,λh=>Oa⟩
     |_=>exact⟨λh=>Oa,λh=>Oa⟩
    .exact uE X.q.ch g2 od λx=>(xT _ x).elim (hn _ l3) λy=>by omega
    .exact uE X.q.Wg G.gWg od λx=>(xT _ x).elim (hn _ l1) λy=>by omega
 |.exact zKp
  .have aTw:=0;exact zKp
 .rcases Goes.cases h with dO|⟨m',e,dL⟩
  first
  |let _:=m57
   .obtain⟨_,hp⟩:=dO w (Rg.refl aL.cm);obtain⟨g',dH,hn⟩:=hp aL.cm;have hT:=Tn.cell (M:=(D i).own) G aL.cm hL k (sT out);have a1:=aside_setCell w (aA X.q.row k) (sT out);refine aA1 (c:=some k) (d':={ D i with stage:=8,fuel:=9,job:=none }) G L ha fO aL hx hj dK hm hi hg dH hT (sW a1.size) (dA5 ⟨rfl,h2,rfl,.inl ⟨8,rfl,hn _ hT.cm⟩⟩) (λe he=>?_) (λe he=>?_) (λk' hk=>by cases hk;exact h3) rfl od oe (.inr ⟨rfl,k,out,h3,h6,aO2 aL.cm h4 _⟩) (a1.block _ G.rch.symm) (a1.block _ G.aJ8) oe oe (.inl Ol)
    .rw[Array.mem_singleton.1 he];exact dA4 ⟨k,rfl,rfl⟩
    .rw[Array.mem_singleton.1 he];exact⟨oe,oe⟩
  |.obtain⟨_,hmw,i7⟩:=dO w rf;have s2:=d7s (D:=D) h1 od;obtain⟨T7,uR,rfl,rfl⟩:=hm.isLast hi od;rw[s2]at dK;obtain⟨g',dH,q,hq⟩:=i7 jw;have aGt:g'.status=.running:=by
     cases q with
     |zero=>exact absurd hq.2 og
     |succ q=>exact hq.elim (λx=>absurd x.2 og) (λx=>x.1)
    refine zT (s':=1) (m':=q) (dd':=1) G L ha fO aL hx hj hi hg dH (aside_setCell w (smA X.q.Wg) _) (dK.setSm 1) (λe he=>.inl (bk_sem e he)) (λjx e he=>?_) (rA8 (rA3 (.inr ⟨rfl,h3,hq⟩))) (by rw[h2];simp[deafBehind,semEvents]) od od (λtag' ht hw=>?_) (.inl ⟨od,by show(if 5<=1 then 1 else 0)<=_;simp⟩)
    .rw[h2]
     match jx,he with
     |0,he=>simp[semEvents]at he;subst he;exact .inl rfl
     |1,_=>exact .inr (by simp[deafBehind,semEvents])
     |2,_=>exact .inr (by simp[deafBehind,semEvents])
     |3,he=>simp[semEvents]at he;subst he;exact .inl rfl
     |jx+4,he=>simp[semEvents]at he
    .have hnb:=hw hmw aGt;have e3:tag'=.w3:=by
      rcases ht with rfl|⟨_,rfl⟩
      .cases tag'<;>first|rfl|exact T7.elim|exact absurd rfl hnb
      .rfl
     subst e3;simp only[if_true];exact .sema λa ha=>by
      by_cases e:a=i
      .subst e;rw[upd_same]
      .rw[upd_ne _ _ e];exact uR a ha e
  .first|let _:=m57;obtain⟨g',w',es,dH,hd,oH⟩:=dL w (Rg.refl aL.cm);exact aCh G L ha fO aL hx hj dK hm hi hg dH hd (onB h5) m' (dA4 ⟨h1,h2,k,bx,out,h3,h4,h5,h6,oH⟩) od od od|obtain⟨g',w',es,dH,⟨rfl,rfl⟩,oH⟩:=dL w rf;exact idle (m':=m') dH (rA8 (dA3 ⟨h1,h2,h3,oH⟩)) od od
 first
 |let _:=m57;all_goals omega
 |.cases hf:(D i).fuel with
   |zero=>rw[hf]at h;rw[h.1]at dY;cases dY
   |succ q=>
    rw[hf]at h
    rcases h with⟨hff,_⟩|⟨_,g',es,aCf,dL,hq⟩
    .rw[hff]at dY;cases dY
    .have hno:∀jx e,es[jx]?=some e->(MemAct.ofEvent e).touch?=none\/0<deafBehind (D i).deaf (es.extract 0 jx):=λjx e he=>.inl (touch_mute (aCf e (AS he)))
     refine zT (s':=1) (m':=q) (dd':=deafBehind (D i).deaf es) G L ha fO aL hx hj hi hg (dL w) (.refl _ w) dK (λe he=>.inr (aCf e he)) hno (rA8 (rA3 (.inr ⟨rfl,h3,hq⟩))) rfl od od (λtag' ht _=>Mode.retag ?_ ht) (.inr ⟨h1.symm,od⟩)
     have:=hm.same (i:=i) q (deafBehind (D i).deaf es)
     rw[d7s h1 od]at this
     exact this):p:=h
theorem zHp(h:p:=by refine kp hK λaF=>?_;clear hK K;exact zMr):p:=h
theorem zHq(h:p:=by
 refine⟨⟨rfl,λx hx=>?_⟩,?_,oe,λx k hx hl=>?_⟩
 .simp only[ofEvent_cell,MemAct.touch?,AI]at hx;subst hx
  first
  |let _:=m59;exact .inl ⟨⟨a,rfl,ha⟩,oe⟩
  |refine .inr (.inl ⟨?_,?_,λ_=>rfl,λhs=>?_⟩)
   .rintro⟨a',e',h'⟩;cases e';omega
   .rintro k ⟨i,hi,_,⟨a',e',h'⟩|⟨r,e',_⟩|⟨x,_,_,e'⟩⟩<;>cases e'
    .have:=ho i hi _ h';omega
    .simp only at hab;omega
   .obtain⟨a',e',h1,h2,h3⟩:=G.aIj _ hs;cases e';rcases hab with hab|hab|hab
    .omega
    .omega
    .exact absurd hab h3
 .show a.block<B;omega
 .simp only[ofEvent_cell,MemAct.touch?,AI]at hx;subst hx;simp only[Loc.cell.injEq]at hl;subst hl
  first|let _:=m59;exact n3 ha.symm|simp only at hab;omega):p:=h
theorem zHr(h:p:=by obtain⟨N,hN,t,D,r',d1,d2,dY,hU⟩:=RR.use (Y:=Y) (n:=Y.N) (A:=A) hrr h.wr h.tight;have aTx:=0;exact zK2):p:=h
theorem zHs(h:p:=by
 refine RR.AF (RR.underlying t) ?_
 first|let _:=m61;rintro d d' ⟨rfl,hu⟩;skip|rintro d d' ⟨rfl,_⟩;skip
 split
 .first|let _:=m61;refine RR.AF (RR.asInt hl) ?_;rintro l _ rfl;refine RR.AF (RR.asInt hc) ?_;rintro c _ rfl;refine RR.AF (RR.typeInfo _) ?_;rintro i _ ⟨rfl,_⟩;skip|refine RR.AF (RR.sizeOf _) ?_;rintro n n' rfl;skip
  dsimp only;split
  .first
   |let _:=m61;split
    .exact zEq
    .split
     .exact zEq
     .refine RR.AF (RR.choose _) ?_;rintro _ _ rfl;exact zEq
   |exact zDn
  .first|let _:=m61;refine RR.AF (I3 _) ?_;rintro _ _ _;refine RR.AF (RR.sizeOf _) ?_;rintro n _ rfl;skip|skip
   split
   .refine RR.AF (A:=λz z'=>z=z'/\∀v∈z',Sc Z0 Q0 v) (RR.AG ⟨rfl,oe⟩) ?_
    first|let _:=m61;exact zDu|exact zBo
   .refine RR.AF (RR.zeroValue E.hz _) ?_;rintro z z' ⟨rfl,hz⟩;refine RR.AF (A:=λz z'=>z=z'/\∀v∈z',Sc Z0 Q0 v) (RR.AG ⟨rfl,tP hz⟩) ?_
    first|let _:=m61;exact zDu|exact zBo
 .exact J7):p:=h
theorem zHu(h:p:=by
 obtain⟨xs,h1,h2⟩:=AQ h;have hd:∃l,d=.agg l:=by cases h2;exact⟨_,rfl⟩
 obtain⟨l,rfl⟩:=hd;rcases l with _|⟨d,_|⟨d2,l⟩⟩<;>first|trivial|skip
 obtain⟨f,_,q,h3⟩:=aWj h
 first|let _:=m63;exact⟨_,_,_,q,h3⟩|exact⟨f.type,f.offset,_,q,h3⟩):p:=h
theorem zHx(h:p:=by have bGl:=0;exact zKs):p:=h
theorem zHy(h:p:=by
 obtain⟨es,clock,hb,hk,hd,hf⟩:=h
 first
 |let _:=m67;have aXh:∀o:Obj,aW b b w { w with heap:=w.1.setIfInBounds b o }/\({ w with heap:=w.1.setIfInBounds b o }:WA).1[b]?=some o:=λo=>by
   refine⟨⟨rfl,rfl,rfl,oe,λc hc h1 _=>?_⟩,?_⟩
   .show(w.1.setIfInBounds b o)[c]?=_;rw[AN (Ne.symm h1)]
   .show(w.1.setIfInBounds b o)[b]?=_;rw[AO hlt]
 |skip
 rcases K.find w hx es.toList (λe he=>by obtain⟨i,hi⟩:=List.getElem?_of_mem he;exact hk i e (by simpa using hi))with⟨h1,h2⟩|⟨j,e0,h1,h2,h3⟩
 .first
  |let _:=m67;have hno:∀(i:Nat) (e:MapEntry),es[i]?=some e->e.key≠x:=λi e he=>h2 e (List.mem_of_getElem? (by simpa using he:es.toList[i]?=some e));have hp:∀(i:Nat) (e:MapEntry),(es.push ⟨x,v,clock⟩)[i]?=some e↔(i=es.size/\e=⟨x,v,clock⟩)\/(i≠es.size/\es[i]?=some e):=λi e=>by
    rw[Array.getElem?_push];by_cases q:i=es.size
    .rw[kK q];constructor
     .intro h;exact .inl ⟨q,(kY h).symm⟩
     .rintro(⟨_,rfl⟩|⟨h,_⟩)
      .rfl
      .exact absurd q h
    .rw[kJ q];constructor
     .intro h;exact .inr ⟨q,h⟩
     .rintro(⟨h,_⟩|⟨_,h⟩)
      .exact absurd h q
      .exact h
   refine⟨_,f',?_,⟨es.push ⟨x,v,clock⟩,clock+1,(aXh _).2,λi e he=>?_,λi j a c ha hc hac=>?_,λy u=>?_⟩,hpf,(aXh _).1⟩
   .simp[Instr.mapUpdate,run_underlying ht,MapKept.run_getObj_map hb,K.check w false hx,h1,MapKept.run_setObj_map _ hb,Result.andThen]
   .exact zD5
   .rcases(hp i a).1 ha with⟨q1,rfl⟩|⟨q1,h1⟩
    .rcases(hp j c).1 hc with⟨q2,rfl⟩|⟨q2,h2⟩
     .omega
     .exact absurd hac.symm (hno j c h2)
    .rcases(hp j c).1 hc with⟨q2,rfl⟩|⟨q2,h2⟩
     .exact absurd hac (hno i a h1)
     .exact hd i j a c h1 h2 hac
   .by_cases q:y=x
    .subst q;rw[hpf.1];constructor
     .intro h;exact⟨es.size,⟨y,v,clock⟩,(hp _ _).2 (.inl ⟨rfl,rfl⟩),rfl,kY h⟩
     .rintro⟨i,e,he,qU,hv⟩;rcases(hp i e).1 he with⟨_,rfl⟩|⟨_,h⟩
      .exact jA some hv
      .exact absurd qU (hno i e h)
    .rw[hpf.2 y q,hf];constructor
     .rintro⟨i,e,he,r⟩;have:i<es.size:=(kZ he).1;exact⟨i,e,(hp i e).2 (.inr ⟨od,he⟩),r⟩
     .exact zC2
  |have hn:f x=none:=by
    cases e:f x with
    |none=>rfl
    |some v=>
     obtain⟨i,e0,he,hk0,_⟩:=(hf x v).1 e
     exact absurd hk0 (h2 e0 (List.mem_of_getElem? (by simpa using he:es.toList[i]?=some e0)))
   rw[hn];cases c<;>simp[Instr.lookup,run_underlying ht,MapKept.run_getObj_map hb,K.check w _ hx,h1,hz,Result.andThen];skip
 .first
  |let _:=m67;have hj:es[j]?=some e0:=by simpa using h2
   have hp:∀(i:Nat) (e:MapEntry),(es.modify j (λe'=>{ e' with key:=x,val:=v }))[i]?=some e↔(i=j/\e={ e0 with key:=x,val:=v })\/(i≠j/\es[i]?=some e):=λi e=>by
    rw[Array.getElem?_modify];by_cases q:j=i
    .subst q;rw[kK rfl,hj];constructor
     .intro h;exact .inl ⟨rfl,(kY h).symm⟩
     .rintro(⟨_,rfl⟩|⟨h,_⟩)
      .rfl
      .exact absurd rfl h
    .rw[kJ q];constructor
     .intro h;exact .inr ⟨Ne.symm q,h⟩
     .rintro(⟨h,_⟩|⟨_,h⟩)
      .exact absurd h.symm q
      .exact h
   have hno:∀(i:Nat) (e:MapEntry),i≠j->es[i]?=some e->e.key≠x:=λi e hi he q=>hi (hd i j e e0 he hj (q.trans h3.symm));refine⟨_,f',?_,⟨es.modify j (λe'=>{ e' with key:=x,val:=v }),clock,(aXh _).2,λi e he=>?_,λi i' a c ha hc hac=>?_,λy u=>?_⟩,hpf,(aXh _).1⟩
   .simp[Instr.mapUpdate,run_underlying ht,MapKept.run_getObj_map hb,K.check w false hx,h1,hj,h3,K.stays w hx,MapKept.run_setObj_map _ hb,Result.andThen]
   .exact zD5
   .rcases(hp i a).1 ha with⟨q1,rfl⟩|⟨q1,h1⟩
    .rcases(hp i' c).1 hc with⟨q2,rfl⟩|⟨q2,h2⟩
     .omega
     .exact absurd hac.symm (hno i' c q2 h2)
    .rcases(hp i' c).1 hc with⟨q2,rfl⟩|⟨q2,h2⟩
     .exact absurd hac (hno i a q1 h1)
     .exact hd i i' a c h1 h2 hac
   .by_cases q:y=x
    .subst q;rw[hpf.1];constructor
     .intro h;exact⟨j,{ e0 with key:=y,val:=v },(hp _ _).2 (.inl ⟨rfl,rfl⟩),rfl,kY h⟩
     .rintro⟨i,e,he,qU,hv⟩;rcases(hp i e).1 he with⟨_,rfl⟩|⟨q1,h⟩
      .exact jA some hv
      .exact absurd qU (hno i e q1 h)
    .rw[hpf.2 y q,hf];constructor
     .rintro⟨i,e,he,qU,hv⟩;have:i≠j:=by rintro rfl;rw[hj]at he;cases he;exact q (qU.symm.trans h3)
      exact⟨i,e,(hp i e).2 (.inr ⟨this,he⟩),qU,hv⟩
     .exact zC2
  |have hv:f x=some e0.val:=(hf x e0.val).2 ⟨j,e0,by simpa using h2,h3,rfl⟩;rw[hv];cases c<;>simp[Instr.lookup,run_underlying ht,MapKept.run_getObj_map hb,K.check w _ hx,h1,Result.andThen];skip):p:=h
theorem zH0(h:p:=by
 have eo:(λi=>(D' i).own)=λi=>(D i).own:=funext ho
 first
 |let _:=m69;have fM:∀op∈u,op.act≠.mark .disable/\op.act≠.mark .enable:=λop cK=>⟨(hu op cK).2.2.1 _,(hu op cK).2.2.1 _⟩;refine⟨hsz.trans h.size,hwk,λi g₁ h0 hj0 hg₁=>?_,?_,h.norel.app λop cK=>(hu op cK).2.2.1 _,by rw[Deaf_still t 0 u fM,h.deaf0],λi hi=>by rw[Deaf_still t _ u fM,h.deafW i hi,(hD i).1],λi hi hs=>?_,hT.cm,kH h.lo hT.size,λi hi b hb=>?_,λi i' hi dN eH b hb=>?_,λi k hi hk=>?_,λk hk=>?_,hs2,bBg,hlv,hpk,λb hb h1 h2 h3=>(h.kp b hb h1 h2 h3).trans (hT.out b (by have:=h.lo;omega) (λx=>x.elim) h1 h2 h3)⟩
 |refine⟨by simp[h.size],hwk,λi g₁ h0 hj0 hg₁=>?_,?_,?_,by rw[Deaf_own,h.deaf0],λi hi=>by rw[Deaf_other t od _ g_of_ofEvents,h.deafW i hi,(hD i).2.1],λi hi fM=>?_,hT.cm,kH h.lo hT.size,λi hi b hb=>?_,λi i' hi dN eH b hb=>?_,λi k hi hk=>h.job i k hi ((hD i).2.2.2▸hk),λk hk=>?_,h.aI,bBg,λi hi fM=>fN (h.lv i hi ((hD i).1▸fM)),hpk,λb hb h1 h2 h3=>(h.kp b hb h1 h2 h3).trans (hT.out b (by have:=h.lo;omega) (λx=>x.elim) h1 h2 h3)⟩
  .rw[get_map_set _ _ _ _ od]at hg₁;obtain⟨y,hy,rfl⟩:=AQ hg₁;have hq:=h.old i y h0 hj0 hy;rw[woken_quitsD hq,Deaf_other t (g':=0) od _ g_of_ofEvents];exact hq
 .first
  |let _:=m69;rw[hold i h0 hj0]at hg₁;rw[Deaf_still t i u fM];exact h.old i g₁ h0 hj0 hg₁
  |rw[eo];refine(h.ti.mono hT.size).app0 (h.ap G) (λop cK=>?_) (λop cK=>?_)
   .exact zEu
   .exact zEs
 .first
  |let _:=m69;rw[eo];have h1:TI X.cI (ShN X.q.Wg) (RdL X) (D6 X j yB aFo λi=>(D i).own) X.j0 (X.j0+j) w'.1.size t:=by
    refine(h.ti.mono hT.size).grow (λk l x=>x.mono (kG _) (λ_ _ _ hb=>hb) λk hk=>⟨od,hw k hk⟩) ?_;rintro k l ⟨i,hi,rfl,⟨a,rfl,ha⟩|⟨r,rfl,ha⟩|⟨k,hk,hwk,rfl⟩⟩
    .exact .inl ⟨i,hi,rfl,.inl ⟨a,rfl,ha⟩⟩
    .exact .inl ⟨i,hi,rfl,.inr (.inl ⟨r,rfl,ha⟩)⟩
    .rcases jB k aI with hlt|hge
     .exact .inl ⟨i,hi,rfl,.inr (.inr ⟨k,hlt,(hw k hlt).symm.trans hwk,rfl⟩)⟩
     .rcases h.row k od with⟨_,h2⟩|⟨h2,_⟩
      .exact .inr h2
      .omega
   have e:u=u.toList.toArray:=oe;rw[e];exact TI.mutes _ h1 λop cK=>by obtain⟨p1,p2,_,p3⟩:=hu op (by simpa using cK);exact⟨p1,p2,MemAct.low_mono hT.size p3⟩
  |exact h.norel.app (norel_of λe he=>(jM e he).2.2.1)
 .first
  |let _:=m69;obtain⟨r,hr⟩:=h.rel i hi ((hD i).2.2 hs);refine⟨r,hr.app λq hq hg hc=>?_⟩;obtain⟨x,hx,_⟩:=hc;have hx:touchAt (t++u) q=some x:=by simpa[touchAt]using hx
   obtain⟨op,cK,hxa⟩:=touch_of hx;rcases getElem?_append_cases cK with⟨hlt,_⟩|⟨_,hou⟩
   .omega
   .rw[(hu op hou).2.1]at hxa;cases hxa
  |obtain⟨r,hr⟩:=h.rel i hi ((hD i).1▸fM);exact⟨r,hr.appOther g_of_ofEvents od⟩
 .rw[ho]at hb;have:=h.own i hi b hb;have:=hT.size;omega
 .rw[ho]at hb;rw[ho];exact h.dis i i' hi dN eH b hb
 first
 |let _:=m69
  .rcases aEd i hi with e|⟨_,k',e,h1,h2⟩
   .have:=h.job i k hi (e▸hk);exact⟨od,(hw k this.1).trans this.2⟩
   .rw[e]at hk;cases hk;exact⟨h1,h2⟩
 |skip
 .rcases h.row k hk with⟨h1,h2⟩|⟨h1,h2,h3⟩
  first
  |let _:=m69
   .rcases jB k yB with hlt|hge
    .have:=aEf k h1 hlt;exact .inr ⟨hlt,this.1,.inl this.2⟩
    .refine .inl ⟨hge,λq x hx=>?_⟩;rcases wY hx with hx|⟨op,cK,hx⟩
     .exact h2 q x hx
     .rw[(hu op cK).2.1]at hx;cases hx
  |.have bKz:=0;exact zLb
  .first
   |let _:=m69;refine .inr ⟨od,by rw[hw k h1];exact h2,?_⟩;rw[hw k h1];rcases h3 with h3|⟨out,h4,h5⟩
    .rcases aEd _ h2 with e|⟨e,_⟩
     .exact .inl (e.trans h3)
     .rw[h3]at e;cases e
    .exact .inr ⟨out,h4,(hT.row k oe).trans h5⟩
   |refine .inr ⟨h1,h2,?_⟩;rw[(hD _).2.2.2];exact h3.imp id λ⟨out,h4,h5⟩=>⟨out,h4,(hT.row k oe).trans h5⟩):p:=h
theorem zH1(h:p:=by
 by_cases h1:eA f s n d=false
 .rw[kK h1]at h;cases h
 .rw[kJ h1]at h
  first|let _:=m70;by_cases h2:l< -1099511627776\/1099511627776<l\/1099511627776<oT f s n d l|by_cases h2:r<f\/1099511627776<r\/1099511627776<s+(r-f)*n/d
  .rw[kK h2]at h;cases h
  .have h1':eA f s n d=true:=by simpa using h1
   simp only[not_or]at h2;obtain⟨q1,q2,q3⟩:=h2
   first
   |let _:=m70;obtain⟨a1,a2,a3,a4,a5,a6,a7,a8,a9,a10⟩:=oU h1';unfold oT at q3⊢;by_cases h6:l<=s
    .rw[kK h6];exact⟨od,od⟩
    .rw[kJ h6]at q3⊢;exact zDv
   |exact zCl):p:=h
theorem zH2(h:p:=by
 split
 .rename_i ch hc;rw[hc]at hm;refine⟨h.fn,h.tmps,h.todo,h.defers,λe he=>?_,h.kind,h.round⟩;rcases kN he with he|he
  .first|let _:=m71;exact hl e he|rw[List.mem_singleton.1 he];exact⟨hv,rfl⟩
  .exact hm e he
 .first|let _:=m71;exact⟨h.fn,h.tmps,h.todo,h.defers,hl,h.kind,h.round⟩|refine⟨h.fn,h.tmps,h.todo,h.defers,λe he=>?_,h.kind,h.round⟩;rw[List.mem_singleton.1 he];exact⟨hv,rfl⟩):p:=h
theorem zH3(h:p:=by
 have c1:=aC9 ((List.range n).map (row i)) f ol;have c2:=Y8 ((List.range n).map (row j)) (n-1-f) ol
 first|let _:=m72|have c3:=K9 f n
 rw[List.countP_map]at c1 c2;simp only[List.length_map,List.length_range]at c1
 first|let _:=m72;obtain⟨k,hk,a,b,c⟩:=U0 _ _ _ (List.range n) (show 2*(List.range n).length<_ by rw[List.length_range];exact kC (by omega:2*n<(n-f)+(n-1-f+1)+(n-f)) (Nat.add_le_add (Nat.add_le_add c1 c2) hc));skip|obtain⟨k,hk,a,b,c⟩:=U0 _ _ _ (List.range n) (show 2*(List.range n).length<_ by rw[List.length_range];exact kC (by omega:2*n<(n-f)+(n-1-f+1)+(n-f)) (Nat.add_le_add (Nat.add_le_add c1 c2) c3));skip
 have hk:=List.mem_range.1 hk
 first|let _:=m72;simp at a b;have h1:=hr i k dN hi hk c;have h2:=hr j k hj' hj hk c|simp at a b c;have h1:=hr i k hi dN c hk;have h2:=hr j k hj hj' c hk
 omega):p:=h
theorem zH4(h:p:=by
 rcases h.2 with⟨rfl,rfl⟩|⟨g,cap,cur,rfl,hg,hh,_⟩
 .first|(let _:=m73;exact⟨none,0,rfl,λq=>absurd q (kW _),λ_ _ _ e=>by cases e⟩)|exact⟨none,0,rfl,λq=>absurd q (kW _)⟩
 .have hlt:g<w.1.size:=by exact zEz
  first|(let _:=m73;refine⟨_,_,rfl,λ_=>⟨g,0,rfl,hlt,λj hj=>?_⟩,λb off s e=>by cases e;exact⟨hg,hlt⟩⟩;have h3:=wI (λi=>iI (f i)) (λi=>iI (g' i)) (λi=>iI (h' i)) n j hj;have c:=λi u (hi:(bN f g' h' n)[i]?=some u)=>h.cells (g:=g) rfl i u hi;refine⟨?_,?_,?_⟩)|refine⟨_,_,rfl,λ_=>⟨g,0,rfl,hlt,λj hj=>?_⟩⟩;have h3:=aEz f g' h' i' n j hj;have c:=λi u (hi:(cS f g' h' i' n)[i]?=some u)=>h.cells (g:=g) rfl i u hi;refine⟨?_,?_,?_,?_⟩
  .have:=c _ _ h3.1;rw[mJ]at this;exact this
  .have:=c _ _ h3.2.1;rw[mJ]at this;exact this
  .first|let _:=m73;have:=c _ _ h3.2.2;rw[mJ]at this;exact this|have:=c _ _ h3.2.2.1;rw[mJ]at this;exact this
  first|done|·have:=c _ _ h3.2.2.2;rw[mJ]at this;exact this):p:=h
theorem zH5(h:p:=by
 cases v'<;>simp only[rV]<;>try exact RR.AG rfl
 cases u'<;>simp only[rV]<;>try exact RR.AG rfl
 simp only[Sc]at hv hu
 first|let _:=m74;refine RR.AF (RR.sizeOf _) ?_;rintro k _ rfl;skip|skip
 refine RR.AF (A:=λa a'=>a=a') ?_ ?_
 .first
  |let _:=m74;refine yY _ _ _ _ λf s=>?_;exact zB3
  |refine aAo _ _ _ _ λf s=>?_;split
   .exact zB3
   .exact zC0
 .exact zDl):p:=h
theorem zH6(h:p:=by
 have hA:=λu=>pS 4 u
 first|let _:=m75;generalize hV:u.alloc (.cells #[iI (n.getD 0 0),iI (n.getD 1 0),iI (n.getD 2 0),iI (n.getD 3 0)] 124)=V|generalize hV:u.alloc (.cells #[iI (n.getD 0 0),iI (n.getD 1 0),iI (n.getD 2 0)] 120)=V
 have bH2:=0;exact zL2):p:=h
theorem zH7(h:p:=by have bGq:=0;exact zLa):p:=h
theorem zIa(h:p:=by have aXv:=0;exact zK3):p:=h
theorem zIb(h:p:=by
 intro w w' hw hs;subst h;have hs2:(w.1.push (rO Y.ρ o')).size<=Y.ρ Y.N:=hs;have C5:w.1.size+1<=Y.ρ Y.N:=by simpa using hs2
 obtain⟨h1,h2,h3,h4⟩:=hw.push ho C5
 first|let _:=m80;exact⟨_,#[],h1,h2,jU,_,⟨⟨h3.symm,h4⟩,hw.gn⟩,λes=>by rw[Array.append_empty];rfl⟩|exact⟨_,#[],h1,h2,jU,_,⟨h3.symm,h4⟩,λes=>by rw[Array.append_empty];rfl⟩):p:=h
theorem zIc(h:p:=by
 rw[solo_eq_crowd,show G (Frame.enter Tryz.checked.prog 3 #[sV a0 l0.length bAp,iI i1,iI i2] .normal) []=(aBm Tryz.f3) (sV a0 l0.length bAp) i1 i2 from aPf _ _ _]
 first|let _:=m81;exact r2|exact r1):p:=h
theorem zId(h:p:=by
 unfold mO;subst h4;have k1:(((ws.length:Int):Int)==(m:Int))=false:=by simpa using(show ¬((ws.length:Int):Int)=m by omega)
 have k2:(m:Int)<((ws.length:Int):Int):=od
 first|let _:=m82;exact zAa|exact zA7):p:=h
theorem zIf(h:p:=by
 rintro k l ⟨i,hi,rfl,h⟩ ⟨a0,e0,h0⟩;rcases h with⟨a,rfl,h⟩|⟨r,rfl,h⟩|⟨x,hx,hw,rfl⟩<;>cases e0
 .have:=ho i hi _ h;omega
 .first|let _:=m84;simp only at h0;omega|exact n3 h0.symm):p:=h
theorem zIh(h:p:=by
 have hl:n.length=1:=aA0.elim id (λq=>by cases q.2);obtain⟨fa,cs,c,rd,T,fN⟩:=pR hal rfl;obtain⟨x,rfl⟩:∃x,n=[x]:=List.length_eq_one_iff.1 hl
 first
 |let _:=m86;by_cases hx:0<=x/\x<st.aO.AA
  .have hj:x=((x.toNat:Nat):Int):=by omega
   have hjn:x.toNat<st.aO.n:=by show x.toNat<st.aO.AA.toNat;omega
   cases hfz:(c.AA x.toNat).fz with
   |true=>exact(S0 h hDw fN x a cap tx hr x.toNat hj hjn hfz).mono λ_ _=>up
   |false=>exact(G9 h hDw fN x a cap tx hr x.toNat hj hjn hfz).mono λ_ _=>up
  .exact(members_bad h hDw fN x a cap tx hr hx).mono λ_ _=>up
 |exact(aUr h hD fN hN x a cap tx aU9).mono λ_ _=>up):p:=h
theorem zIi(h:p:=by
 have eB:bits BinOp.or .i64 (bA t n) (2^k)=bA (λj=>if j=k then true else t j) n:=or_bit t hn hk
 first
 |let _:=m87;have HG:=aR8 t hk m;have eJ:fZ n t (tb m) k m=if m=bA (λj=>if j=k then true else t j) n then 1 else 2:=by
   unfold fZ;rw[Int.toNat_natCast];by_cases q:m=bA (λj=>if j=k then true else t j) n
   .rw[kK q,kK ⟨⟨k1,k2⟩,HG.1 q⟩]
   .rw[kJ q,kJ (λy=>q (HG.2 y.2))]
  rw[eJ];clear eJ HG
 |skip
 obtain⟨M,hM⟩:∃M,bA (λj=>if j=k then true else t j) n=M:=⟨_,rfl⟩
 first
 |let _:=m87;rw[hM]at eB⊢;clear hM;by_cases q:m=M
  .subst q;rw[kK rfl];exact zB0
  .have q2:(m==M)=false:=by simpa using q
   rw[kJ q];clear q;exact zB0
 |exact zLx):p:=h
theorem zIo(h:p:=by
 refine RR.AF (RR.part _ ⟨rfl,hv⟩ _) ?_;intro x x' hx;refine RR.AF (RR.part _ ⟨rfl,hu⟩ _) ?_;intro y y' hy
 first|let _:=m93;refine RR.AF (aCz n _ hx hy) ?_|refine RR.AF (E.equalIn n _ hx hy) ?_
 rintro b _ rfl;split<;>exact RR.AG rfl):p:=h
theorem zIp(h:p:=by
 rcases jB i j with hlt|hge
 .simp only[upd_ne D _ (eH i hlt)]at ha
  first|let _:=m94;exact .inl ⟨i,hlt,rfl,.inr (.inl ⟨r,rfl,ha⟩)⟩|exact .inl ⟨i,hlt,rfl,.inl ⟨a,rfl,ha⟩⟩
 .obtain rfl:i=j:=by omega
  simp only[upd_same]at ha;exact ha.elim):p:=h
theorem zIq(h:p:=by
 obtain⟨rfl,hs⟩:=h;cases v'<;>try exact RR.stuck _
 rename_i cs;have e:rV Y.ρ (.agg cs)=.agg (cs.map (rV Y.ρ)):=Oy;simp only[Sc]at hs;rw[e]
 first
 |let _:=m95;by_cases hz:cs.size=3
  .obtain⟨x,y,z,rfl⟩:=aVs hz;have e2:(#[x,y,z].map (rV Y.ρ))=#[rV Y.ρ x,rV Y.ρ y,rV Y.ρ z]:=oe;rw[e2];have hx:=hs x oe;have hy:=hs y oe;cases z<;>try exact RR.stuck _
   rename_i k n;have e3:rV Y.ρ (.int k n)=.int k n:=Oy;rw[e3];have bId:∀n:Int,n≠0->RR Y (λx x'=>(x=none/\x'=none)\/∃t a a' f,x=some (t,a,f)/\x'=some (t,a',f)/\AR Y a a') (Extern.ReflectliteValue.partsAny (.agg #[rV Y.ρ x,rV Y.ρ y,.int .u64 n])) (Extern.ReflectliteValue.partsAny (.agg #[x,y,.int .u64 n])):=by
    intro n hn;cases y<;>try(rcases n with(_|n)|n<;>first|exact absurd rfl hn|exact RR.stuck _)
    rename_i q;have e4:rV Y.ρ (.pointer q)=.pointer (q.map (rA Y.ρ)):=Oy;rw[e4]
    cases q with
    |none=>rcases n with(_|n)|n<;>first|exact absurd rfl hn|exact RR.stuck _
    |some a=>
     simp only[Sc]at hy
     have fin:∀f:Nat,RR Y (λx x'=>(x=none/\x'=none)\/∃t a a' f,x=some (t,a,f)/\x'=some (t,a',f)/\AR Y a a') (Extern.Rtype.ofHandle (rV Y.ρ x)>>=λt=>Pure.pure (some (t,rA Y.ρ a,f))) (Extern.Rtype.ofHandle x>>=λt=>Pure.pure (some (t,a,f))):=λf=>by
      refine RR.AF (E.ofHandle ⟨rfl,hx⟩) ?_
      rintro t _ rfl
      exact RR.AG (.inr ⟨_,_,_,_,rfl,rfl,rfl,hy a rfl⟩)
     rcases n with(_|n)|n
     .exact absurd rfl hn
     .exact fin _
     .exact fin _
   cases k<;>try exact RR.stuck _
   by_cases hn:n=0
   .subst hn;exact RR.AG (.inl ⟨rfl,rfl⟩)
   .exact bId n hn
  .obtain⟨l⟩:=cs;rcases l with _|⟨a,_|⟨b,_|⟨c,_|⟨d,l⟩⟩⟩⟩
   .exact J7
   .exact J7
   .exact J7
   .exact absurd rfl hz
   .exact J7
 |by_cases hz:cs.size=1
  .obtain⟨x,rfl⟩:=aEr hz;have e2:(#[x].map (rV Y.ρ))=#[rV Y.ρ x]:=oe;rw[e2];refine RR.AF (E.ofHandle ⟨rfl,hs x oe⟩) ?_;rintro t _ rfl;refine RR.AF (aHp _ t).eq ?_;rintro _ _ _;exact zC0
  .obtain⟨l⟩:=cs;exact zA4):p:=h
theorem zIr(h:p:=by
 rcases getElem?_stand gs _ k x hx with⟨_,rfl⟩|⟨_,hx⟩
 .rfl
 .by_cases ho:offersAt x X.q.ch true=[]
  .exact ho
  .first
   |let _:=m96;obtain rfl:=bHi L aL hx ho;rw[ha]at hx;cases hx;rcases fO.status L aL.cm with⟨hs,_⟩|⟨q1,q2,_⟩|⟨_,_,g1,rfl,hg1⟩
    .exact offersAt_of_not_blocked O6 _ _
    .exact absurd ⟨q1,q2⟩ hpk
    .unfold offersAt;simp[hg1.2.1]
   |exact absurd (bHi L aL hx ho) hk):p:=h
theorem zIs(h:p:=by
 cases y'<;>simp only[rV,Builtin.min2]<;>first|exact RR.stuck _|(rename_i p;cases p<;>first|exact RR.dE _|exact RR.stuck _)|skip
 first|let _:=m97;exact zDc|exact zDj):p:=h
theorem zIt(h:p:=by
 cases y'<;>simp only[rV,Builtin.max2]<;>first|exact RR.stuck _|(rename_i p;cases p<;>first|exact RR.dE _|exact RR.stuck _)|skip
 first|let _:=m98;exact zDc|exact zDj):p:=h
theorem zIv(h:p:=by
 have mC:C∈Of iB:=by rw[h.ob];simp
 have mb:nb∈Of iB:=by rw[h.ob];simp
 have hC:C<w.1.size:=h.fam.lt iB C mC
 first
 |let _:=aEl;have k:=hH.keep (λi hi=>h.kc i od) h.kx;obtain⟨la,lb,aBn,hu,hla⟩:∃la lb aBn,u=sV la p.nl aBn/\(0<p.nl->la=some (aA lb 0)/\u.ownBlock=some lb):=by
   rcases h.uo.2 with⟨e1,e2⟩|⟨g,c,cur,e,_⟩
   .exact⟨none,0,0,by rw[e2];exact e1,λy=>by omega⟩
   .exact⟨_,g,c,e,λ_=>⟨rfl,by rw[e];rfl⟩⟩
  have hX:∀c,c∈nb::(u.ownBlock.toList++Of iX)->(c∈Of iB\/c∈Of iX)/\c≠C:=λc hc=>by
   rcases kQ hc with y|y
   .exact⟨.inl (y▸mb),λe=>h.nC od⟩
   rcases kN y with y|y
   .refine⟨.inl (by rw[h.ob];exact kR _ (kR _ y)),λe=>?_⟩;have:=(h.uo.lt c Ep).1;omega
   .exact⟨.inr y,λe=>h.fam.ap iB iX oe C mC (e▸y)⟩
  let X:=nb::(u.ownBlock.toList++Of iX);have xX:∀c,c∈Of iX->c∈X:=λc hc=>kR _ (kL (.inr hc));have xl:∀c,c∈X->c<w.1.size:=λc hc=>by
   rcases(hX c hc).1 with y|y
   .exact h.fam.lt _ c y
   .exact h.fam.lt _ c y
  let G:Q9->List Nat:=λi=>if i=iB then C::X else if i=iX then[]else Of i;have gB:G iB=C::X:=rfl;have gO:∀i,i≠iB->i≠iX->G i=Of i:=λi h1 h2=>by show(if i=iB then C::X else if i=iX then[]else Of i)=_;rw[kJ h1,kJ h2]
  have hG:∀i c,c∈G i->i≠iX/\(c∈Of i\/(i=iB/\c∈Of iX)):=λi c hc=>by
   by_cases h1:i=iB
   .subst h1;refine⟨oe,?_⟩;rw[gB]at hc;rcases kQ hc with y|y
    .exact .inl (y▸mC)
    .rcases(hX c y).1 with z|z
     .exact .inl z
     .exact .inr ⟨rfl,z⟩
   .by_cases h2:i=iX
    .subst h2;have:G iX=[]:=rfl;rw[this]at hc;simp at hc
    .rw[gO i h1 h2]at hc;exact⟨h2,.inl hc⟩
  have FG:C0 w G:=by
   refine⟨λi c hc=>?_,λi j hij c hc hn=>?_⟩
   .rcases(hG i c hc).2 with y|⟨_,y⟩
    .exact h.fam.lt i c y
    .exact h.fam.lt _ c y
   .obtain⟨a1,a2⟩:=hG i c hc;obtain⟨b1,b2⟩:=hG j c hn;rcases a2 with y|⟨ei,y⟩<;>rcases b2 with z|⟨ej,z⟩
    .exact h.fam.ap i j hij c y z
    .exact h.fam.ap i iX a1 c y z
    .exact h.fam.ap iX j (Ne.symm b1) c y z
    .exact hij (ei.trans ej.symm)
  have gl:∀i c,c∈G i->b0<=c:=λi c hc=>by
   rcases(hG i c hc).2 with y|⟨_,y⟩
   .exact h.lo i c y
   .exact h.lo _ c y
  refine⟨List.range' b0 (w.1.size-b0),⟨X,cb,fK,sa,sF,nb,aAb,la,lb,aBn,P,S,E,D,R,Q⟩,⟨G,?_,gB,FG,λi c hc=>?_,λc hc=>?_,λj hj=>?_,λi hi=>?_,λi j hi hj hb=>?_,λi j hi hj hb=>?_⟩,λc hc=>?_⟩
 |have hC0:b0<=C:=h.lo iB C mC;have hnb:nb<w.1.size:=h.fam.lt iB nb mb;have s1:=k1.size;have s2:=k2.size;have s3:=hg.size;have F1:C0 w1 (λi=>Of i++N i):=h.fam.join hl.fam s1 (λi c hc=>kH cV (hl.lo i c hc));have bJi:aR (C::u.ownBlock.toList) (C::u'.ownBlock.toList) w1 (w3.setCell (aA C 14) u'):=aGk k2 hg oX;have hft:=bJi.under nb;have nN:∀i,i≠iX->i≠iS K->(∀j,i≠iR K j/\i≠iQ K j)->N i=[]:=λi h1 h2 h3=>by
   by_cases e:N i=[]
   .exact e
   .rcases hl.only i e with y|y|⟨j,_,y|y⟩
    .exact absurd y h1
    .exact absurd y h2
    .exact absurd y (h3 j).1
    .exact absurd y (h3 j).2
  have oN:∀i,(i=iS K\/∃j,i=iR K j\/i=iQ K j)->Of i=[]:=λi hi=>by
   by_cases e:Of i=[]
   .exact e
   .rcases h.emp i e with y|y|⟨j,y⟩|⟨k,hk,y|⟨j,y|y⟩⟩<;>subst y<;>simp at hi<;>omega
  have eB:Of iB++N iB=nb::C::u.ownBlock.toList:=by rw[nN iB oe oe (λj=>⟨oe,oe⟩),List.append_nil];exact h.ob
  have sz4:(w3.setCell (aA C 14) u').1.size=w3.1.size:=oe;have F2:C0 (w3.setCell (aA C 14) u') (gH (λi=>Of i++N i) iB (nb::C::u'.ownBlock.toList)):=by have bKv:=0;exact zK4
  have sm:∀i,i≠iB->Same (Of i++N i) w1 (w3.setCell (aA C 14) u'):=λi hi=>F1.same (i:=iB) (by rw[eB];exact hft) hi;obtain⟨G,hG⟩:∃G,gH (λi=>Of i++N i) iB (nb::C::u'.ownBlock.toList)=G:=⟨_,rfl⟩;have gB:G iB=nb::C::u'.ownBlock.toList:=by rw[<-hG];exact eE _ _ _
  have gO:∀i,i≠iB->G i=Of i++N i:=λi h1=>by rw[<-hG,bG _ _ h1]
  rw[hG]at F2;clear hG;have aXa:∀i,i≠iB->i≠iX->i≠iS K->(∀j,i≠iR K j/\i≠iQ K j)->G i=Of i:=λi h0 h1 h2 h3=>by rw[gO i h0,nN i h1 h2 h3,List.append_nil]
  have bB8:∀i,i≠iB->(i=iS K\/∃j,i=iR K j\/i=iQ K j)->G i=N i:=λi h0 hi=>by rw[gO i h0,oN i hi,List.nil_append]
  have aIe:∀i,i≠iB->Same (Of i) w (w3.setCell (aA C 14) u'):=λi hi=>(Same.of_below k1 (h.fam.lt i)).trans ((sm i hi).part (λc hc=>kL (.inl hc)));have aQz:∀i,i≠iB->Same (N i) w1 (w3.setCell (aA C 14) u'):=λi hi=>(sm i hi).part (λc hc=>kL (.inr hc));have uC:some C≠u.ownBlock:=λe=>by have:=(h.uo.lt C e.symm).1;omega
  have cC:∀i,w3.cell? (aA C i)=w.cell? (aA C i):=λi=>(jC (a:=(aA C i)) (hg.block C od uC)).trans ((k2.cell (p:=(aA C i)) (by show C<_;omega)).trans (k1.cell (p:=(aA C i)) hC));have fC:∀i,w3.frozen? (aA C i)=w.frozen? (aA C i):=λi=>(World.frozen?_of_block (a:=(aA C i)) (hg.block C od uC)).trans ((k2.frozen (p:=(aA C i)) (by show C<_;omega)).trans (k1.frozen (p:=(aA C i)) hC));have fresh:∀c,c∈G iB->c∈Of iB\/w1.1.size<=c:=λc hc=>by
   rw[gB]at hc;rcases hft.fresh c hc with y|y
   .exact .inl (by rw[h.ob];exact y)
   .exact .inr y
  have hs0:=h.bel.size;refine⟨G,F2,λi c hc=>?_,gB,h.nC,?_,λc hc=>?_,λi hi=>?_,λi hi=>?_,aZ ((cC 14).trans h.c14),λi=>bJ.trans ((fC i).trans (h.z i)),?_,?_,?_,λj hj=>?_,λk hk=>?_,λk hk=>?_,λk j hk hj hb=>?_,?_⟩
  .by_cases i1:i=iB
   .subst i1;rcases fresh c hc with y|y
    .exact h.lo iB c y
    .have:=h.lo iB C mC;omega
   rw[gO i i1]at hc;rcases kN hc with y|y
   .exact h.lo i c y
   .have:=hl.lo i c y;omega
  .rcases oX with y|y
   .rw[y];exact h.nu
   .rw[y];intro e;injection e with e;omega
  .rw[gO iX oe];exact kL (.inl (h.ox c hc))
  .by_cases i1:i=iB
   .exact .inl i1
   rw[gO i i1]at hi;by_cases e:Of i=[]
   .rw[e,List.nil_append]at hi;rcases hl.only i hi with y|y|⟨j,_,y⟩
    .exact .inr (.inl y)
    .exact .inr (.inr (.inr ⟨K,od,.inl y⟩))
    .exact .inr (.inr (.inr ⟨K,od,.inr ⟨j,y⟩⟩))
   .rcases h.emp i e with y|y|y|⟨k,hk,y⟩
    .exact .inl y
    .exact .inr (.inl y)
    .exact .inr (.inr (.inl y))
    .exact .inr (.inr (.inr ⟨k,od,y⟩))
  .exact(aB (.inr hi)).trans ((cC i).trans (h.kc i hi))
 .first
  |let _:=aEl;refine⟨k.c0,k.c1,k.c3,k.c4,k.c5,k.c6,k.c10,k.c11,k.c12,(h.kc 13 og).trans h13,by rw[h.c14,hu],h.z,hC,λy=>(hX C y).2 rfl,xl,k.ck,xX _ (h.ox _ k.ckX),λh0=>?_,λj hj=>(h.kb.cell (p:=(aA nb j)) (List.mem_singleton.2 rfl)).trans (hnd j hj),kT,λh0=>⟨(hla h0).1,kR _ (kL (.inl (by rw[(hla h0).2];exact List.mem_singleton.2 rfl)))⟩,λi hi=>?_,λi hi=>⟨xX _ (h.en i hi).1,(h.en i hi).2⟩,λi j hi hj hb=>?_⟩
   .obtain⟨b,off,e,hb,hc⟩:=k.sl h0;exact⟨b,off,e,xX _ (h.ox _ hb),hc⟩
   .obtain⟨x,y,z⟩:=wI (λk=>iI (p.lf k)) (λk=>.pointer (some ⟨S k,0,none⟩)) (λk=>sV (some ⟨E k,0,none⟩) p.n p.n) p.nl i hi;have cl:=h.uo.cells (g:=lb) (hla od).2;have c0:=cl _ _ x;have c1:=cl _ _ y;have c2:=cl _ _ z;rw[mJ,Nat.zero_add]at c0 c1 c2;exact⟨c0,c1,c2⟩
   .obtain⟨⟨a1,a3,a4⟩,_⟩:=h.dn i j hi hj hb;exact⟨xX _ a1,a3,a4⟩
  |exact h.kx.trans ((aIe iX oe).part h.ox)
 .first|let _:=aEl;have g1:=gl i c hc;have g2:=FG.lt i c hc;exact List.mem_range'_1.2 ⟨g1,od⟩|refine h.kb.trans ⟨od,λc hc=>?_⟩;have hc:c=nb:=El;subst hc;rw[Below.heap_setCell _ _ _ _ h.nC,hg.block c od (Ne.symm h.nu),k2.block c od,k1.block c hnb]
 .first
  |let _:=aEl;have:=List.mem_range'_1.1 hc;omega
  |have e:dQ (λk=>iI (p.lf k)) (λk=>.pointer (some ⟨upd S K S' k,0,none⟩)) (λk=>sV (some ⟨upd E K E' k,0,none⟩) p.n p.n) K=dQ (λk=>iI (p.lf k)) (λk=>.pointer (some ⟨S k,0,none⟩)) (λk=>sV (some ⟨E k,0,none⟩) p.n p.n) K:=
    aB2 K (λi hi=>⟨rfl,by rw[oI _ _ od],by rw[oI _ _ od]⟩)
   unfold dQ;rw[e,sM,sM];exact fL ho od
 .obtain⟨a,b⟩:=h.node j hj
  first|let _:=aEl;rw[gO (iN j) oe oe];refine⟨⟨?_,b⟩,⟨⟨show(0:Int)<=1 by decide,show(1:Int)<=((1:Nat):Int)by decide⟩,show(0:Int)<=0 by decide,show(0:Int)<=((1:Nat):Int)by decide⟩⟩;show aU w (P j) j p.n (bA (λ_=>true) p.n) 1 0 false;rw[aG1];exact a|rw[aXa (iN j) oe oe oe (λj=>⟨oe,oe⟩)];exact⟨a.same (b▸aIe (iN j) oe),b⟩
 .first
  |let _:=aEl;rw[gO (iS i) oe oe];exact⟨h.snd i hi,⟨by simp[cJ.start],by simp[cJ.start],by simp[cJ.start]⟩⟩
  |by_cases e:k=K
   .subst e;rw[sM,bB8 (iS k) oe (.inl rfl)];exact hl.sdr.keep (aQz _ oe)
   .rw[oI _ _ e,aXa (iS k) oe oe jk (λj=>⟨oe,oe⟩)];exact(h.snd k od).keep (aIe _ oe)
 .first
  |let _:=aEl;obtain⟨_,a5,a6⟩:=h.dn i j hi hj hb;rw[gO (iR i j) oe oe];exact⟨0,0,a5,⟨⟨og,og⟩,og,og⟩,by show(-1:Int)<=255;decide⟩
  |by_cases e:k=K
   .subst e;rw[sM,gO iX oe,U8];refine⟨kL (.inr hl.eX),λj hj=>?_⟩;rw[(aQz iX oe).cell (p:=(aA E' j)) hl.eX,hl.en j hj];simp only[hj,true_and]
   .rw[oI _ _ e,gO iX oe,A9 _ _ e];obtain⟨a,b⟩:=h.en k od;exact⟨kL (.inl a),λj hj=>((aIe iX oe).cell (p:=⟨E k,j,none⟩) a).trans (b j hj)⟩
 .first
  |let _:=aEl;obtain⟨_,a5,a6⟩:=h.dn i j hi hj hb;rw[gO (iQ i j) oe oe];exact⟨0,a6,⟨og,og⟩,by simp[cJ.start]⟩
  |by_cases e:k=K
   .subst e;obtain⟨⟨a1,_,a3,a4⟩,a5,a6⟩:=hl.dn j hj hb;rw[U8,U8,U8,gO iX oe,bB8 (iR k j) oe (.inr ⟨j,.inl rfl⟩),bB8 (iQ k j) oe (.inr ⟨j,.inr rfl⟩)];exact⟨⟨kL (.inr a1),((aQz iX oe).cell (p:=⟨D' j,0,none⟩) a1).trans a3,((aQz iX oe).cell (p:=⟨D' j,1,none⟩) a1).trans a4⟩,a5.keep (aQz _ oe),a6.keep (aQz _ oe)⟩
   .obtain⟨⟨a1,a3,a4⟩,a5,a6⟩:=h.dn k j od hj hb;rw[A9 _ _ e,A9 _ _ e,A9 _ _ e,gO iX oe,aXa (iR k j) oe oe oe (λj'=>⟨λy=>e (by simp at y;exact y.1),oe⟩),aXa (iQ k j) oe oe oe (λj'=>⟨oe,λy=>e (by simp at y;exact y.1)⟩)];exact⟨⟨kL (.inl a1),((aIe iX oe).cell (p:=⟨D k j,0,none⟩) a1).trans a3,((aIe iX oe).cell (p:=⟨D k j,1,none⟩) a1).trans a4⟩,a5.keep (aIe _ oe),a6.keep (aIe _ oe)⟩
 .first|let _:=aEl;exact(List.mem_range'_1.1 hc).1|have iT:Below b0 w0 w1:=h.bel.trans (k1.mono od);exact iT.trans (hft.below (λc hc=>h.lo iB c (by rw[h.ob];exact hc)) od)):p:=h
theorem zIw(h:p:=by have bGp:=0;exact zK0):p:=h
theorem zIx(h:p:=by
 cases v'<;>try exact RR.stuck _
 case agg xs=>
  cases u'<;>simp only[rV]<;>try exact RR.stuck _
  case agg ys=>
   simp only[Sc]at hv hu
   first|let _:=bC0;refine RR.AF (RR.sizeOf _) ?_;rintro k _ rfl;refine RR.AF (A:=λa a'=>a=a') ?_ ?_|refine RR.AF RR.program ?_;rintro p p' ⟨rfl,rfl⟩;split
   .first|let _:=bC0;refine yY _ _ _ _ λf s=>?_;exact zIo|exact zDn
   .first
    |let _:=bC0;exact zDl
    |refine RR.AF (A:=λa a'=>a=a') ?_ ?_
     .refine aAo _ _ _ _ λf s=>?_;split
      .exact zIo
      .exact zC0
     .exact zDl):p:=h
theorem zIy(h:p:=by
 unfold World.viewStore at h;simp only[bind,Except.bind,pure,Except.pure,throwThe,MonadExcept.throw,MonadExceptOf.throw]at h;repeat' split at h
 first
 |let _:=bK3;all_goals(first|(cases h;done)|(cases h;rfl))
  skip
 |all_goals(first|(cases h;done)|(cases h;simp;done))
  skip):p:=h
theorem zIz(h:p:=by
 rcases h with⟨a,h1,h2⟩|⟨a,h1,h2⟩<;>rcases g with⟨b,g1,g2⟩|⟨b,g1,g2⟩
 .exact zA2
 .first|let _:=bG3;exact absurd a b|exact absurd b a
 .first|let _:=bG3;exact absurd b a|exact absurd a b
 .exact zA2):p:=h
theorem zI0(h:p:=by
 refine RR.AF (RR.underlying t) ?_;rintro d d' ⟨rfl,hu⟩;obtain⟨rfl,hs⟩:=hv
 first|let _:=aTt|(have hms:m.isSome=m'.isSome:=by rw[hm.1];cases m'<;>rfl)
 cases d<;>try exact RR.stuck _
 first
 |let _:=aTt;case array n e=>
   cases v'<;>try exact RR.stuck _
   case agg cs=>
    simp only[rV];simp only[Sc]at hs;split
    .refine RR.AF (RR.sizeOf _) ?_;rintro k _ rfl;exact RR.part _ ⟨rfl,hs⟩ _
    .exact E.bounds _ _ _ _
 |skip
 case string=>
  cases v'<;>try exact RR.stuck _
  case string s=>
   simp only[rV]
   first|let _:=aTt|rw[hms]
   split
   .first|let _:=aTt;exact RR.AG VR.int|exact RR.nG _ _
   .first|let _:=aTt;exact E.bounds _ _ _ _|refine RR.AF (E.sliceBounds _ _ _ hl hh ⟨rfl,oe⟩) ?_;rintro⟨x,y,z⟩ _ rfl;exact RR.AG VR.str
 first
 |done
 |case slice elem=>
   cases v'<;>try exact RR.stuck _
   case slice a n c=>simp only[rV];have bC8:=0;exact zK7
  case pointer arr=>
   refine RR.AF (E.asAddr ⟨rfl,hs⟩) ?_;intro a a' ha;refine RR.AF (RR.underlying arr) ?_;rintro d d' ⟨rfl,_⟩;split
   .exact zK7
   .exact J7):p:=h
theorem zI1(h:p:=by
 cases a'<;>cases a<;>first|exact hA.elim|skip
 .first|let _:=aPn;exact zBf|rename_i v' v;obtain⟨ev,hv⟩:=hA;replace ev:v=rV Z.ρ v':=ev;subst ev;have hk:=jL fr v';have sB:=pX Z.ρ fr v' top.qE;refine .inr ⟨fr.finish v',cs,fQ,gr (bC Z.ρ (fr.finish v')) (cs.map (bC Z.ρ)++C),w1,seen Z.P fr.fn new,hD,λt' oY=>⟨seen Z.P fr.fn (m'.events Z.P (on u t') #[]),Eb⟩,?_,⟨iU,iM,rfl,top.finish hv,low,last.of hk.1 hk.2⟩,qU,hev⟩;rw[<-sB];exact zC5
 .first|let _:=aPn;exact zBf|have hk:=jL fr undef;have sB:=pX Z.ρ fr undef top.qE;rw[U7]at sB;refine .inr ⟨fr.finish undef,cs,fQ,gr (bC Z.ρ (fr.finish undef)) (cs.map (bC Z.ρ)++C),w1,seen Z.P fr.fn new,hD,λt' oY=>⟨seen Z.P fr.fn (m'.events Z.P (on u t') #[]),Eb⟩,?_,⟨iU,iM,rfl,top.finish (by simp[undef,Sc]),low,last.of hk.1 hk.2⟩,qU,hev⟩;rw[<-sB];exact zC5
 first
 |let _:=aPn
  .rename_i f' a' f a;obtain⟨ef,hf,ea,ha⟩:=hA;replace ea:a=a'.map (rV Y.ρ):=ea;subst ef ea;have aEb:=aDz (Y.wN N).ρ Y.P f a' .deferred;exact⟨Frame.enter Y.P f a' .deferred,{ fr with defers:=ds }::cs,_,_,λu v e'=>aDn s1 hn e' ⟨rfl,rfl⟩,rfl,λ_ q=>q,⟨iU,iM,by rw[aEb];rfl,dD.enter (G N hN) hf ha (.inr rfl),aXo N hN,last2.push _⟩⟩
 |.rename_i f' a' f a;obtain⟨ef,hf,ea,ha1⟩:=hA;replace ea:a=a'.map (rV Z.ρ):=ea;subst ef ea;have aEb:=aDz Z.ρ Z.P f a' .normal;have aXo:∀c∈fr::cs,dD Z F c:=λc hc=>by exact zEw
   rcases ha with⟨cZ,i,rest,k,ht⟩|⟨l,k,ht⟩|⟨k,ht⟩
   .have oY:(bC Z.ρ fr).todo=.inRegion cZ (i::rest)::k.map (rI Z.ρ):=by simp[bC,ht,rI]
    exact zAy
   .have oY:(bC Z.ρ fr).todo=.inRangeFunc (Z.ρ l)::k.map (rI Z.ρ):=by simp[bC,ht,rI]
    exact zAy
   .have oY:(bC Z.ρ fr).todo=.beginRound::k.map (rI Z.ρ):=by simp[bC,ht,rI]
    exact zAy
 .rename_i l' f' t1' a1' b1' l f t1 a1 b1;obtain⟨⟨el,zJ⟩,ef,⟨et,ht1⟩,ea,eb,p,hC⟩:=hA
  first
  |let _:=aPn;replace el:l=Y.ρ l':=el;replace et:t1=t1'.map (rV Y.ρ):=et;subst el ef et ea eb;have aEb:=aNi (Y.wN N).ρ l' f t1' a1 b1 .deferred;exact⟨Frame.round l' f t1' a1 b1 .deferred,{ fr with defers:=ds }::cs,_,_,λu v e'=>aDn s1 hn e' ⟨rfl,rfl⟩,rfl,λ_ q=>q,⟨iU,iM,by rw[aEb];rfl,dD.aN7 (G N hN) zJ ht1 hC (.inr rfl),aXo N hN,last2.push _⟩⟩
  |replace el:l=Z.ρ l':=el;replace et:t1=t1'.map (rV Z.ρ):=et;subst el ef et ea eb;have aEb:=aNi Z.ρ l' f t1' a1 b1 .normal;refine .inr ⟨Frame.round l' f t1' a1 b1 .normal,fr::cs,fQ,gr (bC Z.ρ (Frame.round l' f t1' a1 b1 .normal)) ((fr::cs).map (bC Z.ρ)++C),w1,seen Z.P fr.fn new,hD,λt' oY=>⟨seen Z.P fr.fn (m'.events Z.P (on u t') #[]),Eb⟩,?_,⟨iU,iM,rfl,dD.aN7 G zJ ht1 hC (.inl rfl),?_,last.push _⟩,qU,hev⟩
   .rw[aEb];exact zC5
   .intro c hc;exact zEw
 .first
  |let _:=aPn;exact zBf
  |rename_i d' d;obtain⟨ed,hd⟩:=hA;replace ed:d=rD Z.ρ d':=ed;subst ed;have hk:=jL { fr with defers:=d'::fr.defers } undef;have sB:=pX Z.ρ { fr with defers:=d'::fr.defers } undef top.qE;rw[U7]at sB;have aFi:dD Z F { fr with defers:=d'::fr.defers }:=⟨top.fn,top.tmps,top.todo,λx hx=>by
    rcases kQ hx with rfl|hx
    .exact hd
    .exact top.defers x hx,top.mode,top.kind,top.round⟩
   refine .inr ⟨({ fr with defers:=d'::fr.defers }:WK).finish undef,cs,fQ,gr (bC Z.ρ (({ fr with defers:=d'::fr.defers }:WK).finish undef)) (cs.map (bC Z.ρ)++C),w1,seen Z.P fr.fn new,hD,λt' oY=>⟨seen Z.P fr.fn (m'.events Z.P (on u t') #[]),Eb⟩,?_,⟨iU,iM,rfl,aFi.finish (by simp[undef,Sc]),low,last.of hk.1 hk.2⟩,qU,hev⟩;rw[<-sB];simp[stepG.apply,e1,e2,gr,ek',GStep.after];exact⟨rfl,rfl⟩
 .first
  |let _:=aPn;cases hA;skip
  |have hr0:fr.roundOf=none:=Option.isNone_iff_eq_none.1 hA;have C4:(bC Z.ρ fr).roundOf=none:=by simp[bC,hr0]
   rcases aQi (C:=C) (B:=B) Z.ρ top.kind last with⟨q1,q2⟩|⟨v,uH,c,l,rfl,hm,q1,q2⟩
   .have hk:=jL fr .nilIface;have sB:=pX Z.ρ fr .nilIface top.qE;have en:rV Z.ρ .nilIface=.nilIface:=Oy;rw[en]at sB;refine .inr ⟨fr.finish .nilIface,cs,fQ,gr (bC Z.ρ (fr.finish .nilIface)) (cs.map (bC Z.ρ)++C),w1,seen Z.P fr.fn new,hD,λt' oY=>⟨seen Z.P fr.fn (m'.events Z.P (on u t') #[]),by simp[stepG.apply,e' t' oY,gr,ek,GStep.after,hr0,q1]⟩,?_,⟨iU,iM,rfl,top.finish jd,low,last.of hk.1 hk.2⟩,qU,hev⟩;rw[<-sB];simp[stepG.apply,e1,e2,gr,ek',GStep.after,C4,q2];rfl
   .have hk:=jL fr v;have sB:=pX Z.ρ fr v top.qE;simp only[List.cons_append]at q1;have uP:=(low c oe).mode;rw[hm]at uP;have hv:Sc Z.S Z.Q v:=(uP { v,recovered:=false } oe).1;have lc:=low c oe;refine .inr ⟨fr.finish v,{ c with mode:=.panicking ({ v,recovered:=true }::uH) }::l,fQ,gr (bC Z.ρ (fr.finish v)) (({ c with mode:=.panicking ({ v,recovered:=true }::uH) }::l).map (bC Z.ρ)++C),w1,seen Z.P fr.fn new,hD,λt' oY=>⟨seen Z.P fr.fn (m'.events Z.P (on u t') #[]),by simp[stepG.apply,e' t' oY,gr,ek,GStep.after,hr0,q1]⟩,?_,⟨iU,iM,rfl,top.finish hv,?_,?_⟩,qU,hev⟩
    .rw[<-sB];simp only[List.map_cons,List.cons_append]at q2⊢;simp[stepG.apply,e1,e2,gr,ek',GStep.after,C4,q2];rfl
    .intro x hx;rcases kQ hx with rfl|hx
     .refine⟨lc.fn,lc.tmps,lc.todo,lc.defers,λe he=>?_,lc.kind,lc.round⟩;rcases kQ he with rfl|he
      .exact⟨hv,rfl⟩
      .exact uP e (by simp[he])
     .exact low x o6
    .intro x hx
     cases l with
     |nil=>
      simp at hx
      subst hx
      exact last c oe
     |cons y l=>exact last x (by simpa using hx)):p:=h
theorem zI3(h:p:=by
 intro op cK;simp only[List.mem_toArray,List.mem_cons,List.not_mem_nil,or_false]at cK;rcases cK with rfl|rfl
 .first|let _:=bG5;rw[hx.2];trivial|rw[hx.2];rfl
 .first|let _:=bG5;rw[hy.2];trivial|rw[hy.2];rfl):p:=h
theorem zI4(h:p:=by
 refine⟨⟨rfl,λx hx=>?_⟩,by show X.q.Wg<B;omega,oe,λx k hx hl=>?_⟩
 .exact zKv
 .have bKt:=0;exact zKv):p:=h
theorem zI6(h:p:=by
 rcases Goes.cases h with dO|⟨m',rfl,dL⟩
 .have hs:=dO w (Rg.refl aL.cm)
  first|(let _:=aXp;rcases jB j X.nw with hlt|hge;skip)|(rcases jB aI X.q.n with hlt|hge;skip)
  .first|let _:=aXp;obtain⟨m,hk⟩:=L.spH j a w hlt hs;exact(I9 (f0:=m) (s:=5) G L ha aL hlt dK od od (hm.reopen trivial trivial rfl oe) (.inl ⟨rfl,rfl,hk⟩)).lower (vU (by rw[pL od,pL od];omega))|obtain⟨m,hk⟩:=L.sdH aI a w hlt hs;exact(bA4 G L ha aL hj hlt hd0 dK (hm.reopen trivial trivial rfl oe) hk).lower (vU (by rw[aUy,bI4];omega))
  .first
   |let _:=aXp;obtain rfl:j=X.nw:=by omega
    obtain⟨m,hk⟩:=L.spN a w hs;exact(aZi (f0:=m) G L ha aL rfl (kI _) rfl dK (hm.reopen trivial trivial rfl oe) hk).lower (vU (by rw[aUy,pL od];omega))
   |obtain rfl:aI=X.q.n:=by omega
    obtain⟨m,hk⟩:=L.sdN a w hs;exact(aS4 (f0:=m) G L ha aL hj hd0 dK (hm.reopen trivial trivial rfl oe) hk).lower (vU (by rw[aUy,aZx];omega))
 .obtain⟨a',w',es,dH,hd,oH⟩:=dL w (Rg.refl aL.cm)
  first|let _:=aXp;exact nT G L ha aL h3 dK hm dH hd (.inl ⟨rfl,rfl,h3,rfl,rfl,rfl,oH⟩) (lF oe) od|exact nT G L ha aL od dK hm dH hd (dA6 ⟨rfl,rfl,hj,hsn,hd0,rfl,oH⟩) (lF oe) od):p:=h
theorem zI7(h:p:=by have bCa:=0;exact zLi):p:=h
theorem zI8(h:p:=by
 rcases hg with hs|⟨hr,fM⟩
 .first|let _:=bG7;exact .inl hs|exact .inl λw1 r=>⟨hs w1 r,atRel_trans _ _ _ h0 r⟩
 .refine .inr ⟨hr,λw₁ r=>?_⟩;obtain⟨g',w',es,e,hd,hn⟩:=goes_elim (fM w₁ r);rw[e]
  first|let _:=bG7;exact⟨h _ _ _ hd,tR h hn⟩|exact⟨hd,pY hD w0 (atRel_trans _ _ _ (atRel_trans _ _ _ h0 r) (hD _ _ _ hd)) hn⟩):p:=h
theorem zJa(h:p:=by have bL0:=0;exact zLe):p:=h
theorem zJb(h:p:=by have bKy:=0;exact zK8):p:=h
theorem zJd(h:p:=by
 have hbS:base<=V.1.size:=kH (h.r.lo S h.r.s) (kX (h.r.hi S h.r.s))
 first|let _:=aXq;have uT:=h.r.hi S h.r.s;have hr:=hu.rest (w':=u.setCell (aA S 10) (pP C)) oe (λc hc=>by simp only[cH hc])|skip
 refine⟨⟨?_,?_⟩,?_⟩
 .first
  |let _:=aXq;exact {
       s:=hr.s
       lo:=hr.lo
       hi:=hr.hi
       loO:=λc q=>kH hbS (hO c q)
       hiO:=λc q=>by have:=eK.lt hc c q;simpa using this
       ap:=λc q1 q2=>by have:=hO c q1;have:=h.r.hi c q2;omega
       oS:=hr.oS
       oL:=hr.oL
       oO:=hr.oO
       oR:=hr.oR
       bS:=hr.bS
       bL:=hr.bL
       bO:=hr.bO
       bR:=hr.bR
       rD:=hr.rD
       rM:=hr.rM
       bD:=hr.bD
       bM:=hr.bM
       nw:=hr.nw
       iL:=hr.iL
       iO:=hr.iO
       ns:=hr.ns
       nl:=hr.nl
       nL:=hr.nL
       nR:=hr.nR
       nD:=hr.nD
       nM:=hr.nM
       clu:=λfa' cs' c' rd' T' e=>by
        cases e
        exact⟨eK.keep hc ⟨oe,λc q=>cH (λe=>by have:=hO c q;omega) _⟩,kI _⟩ }
  |exact {
       s:=h.r.s
       lo:=h.r.lo
       hi:=λx hx=>kC (h.r.hi x hx) hf.size
       loO:=hf.above h.r.loO hbS
       hiO:=eK.lt hc
       ap:=hf.apart h.r.ap h.r.hi
       oS:=gF h.r.oS λg hg=>hM g (h.r.bS g hg)
       oL:=gF h.r.oL λg hg=>hM g (h.r.bL g hg)
       oO:=gF h.r.oO λg hg=>hM g (h.r.bO g hg)
       oR:=gF h.r.oR λg hg=>hM g (h.r.bR g hg)
       bS:=h.r.bS
       bL:=h.r.bL
       bO:=h.r.bO
       bR:=h.r.bR
       rD:=h.r.rD.at hf.size λb off e h0=>hM b (h.r.bD b off e h0).1
       rM:=h.r.rM.at hf.size λb off e h0=>hM b (h.r.bM b off e h0).1
       bD:=λb off e h0=>⟨(h.r.bD b off e h0).1,by rw[hM b (h.r.bD b off e h0).1];exact(h.r.bD b off e h0).2⟩
       bM:=λb off e h0=>⟨(h.r.bM b off e h0).1,by rw[hM b (h.r.bM b off e h0).1];exact(h.r.bM b off e h0).2⟩
       nw:=h.r.nw
       iL:=h.r.iL
       iO:=h.r.iO
       ns:=h.r.ns
       nl:=h.r.nl
       nL:=h.r.nL
       nR:=h.r.nR
       nD:=h.r.nD
       nM:=h.r.nM
       clu:=λfa' cs' c' rd' T' e=>by cases e;exact⟨hc,hT⟩ }
 .first
  |let _:=aXq;exact bU hu.blk _
  |rw[hM S h.r.s,h.blk];have e:(st.clu.map λ_=>((aA A.C 0):WT))=some (aA A.C 0):=by
    cases q:st.clu with
    |none=>exact absurd q eH
    |some y=>rfl
   unfold iY.cells;rw[e];rfl
 .first
  |let _:=aXq;exact⟨hb.os,hb.tape,hb.output,by simpa using hb.size,λx hx hn=>(cH (λe=>hn (by rw[e];exact kL (.inl h.r.s))) _).trans (hb.block x hx),λx hx=>by
    rcases kN hx with q|q
    .exact .inl (kL (.inl q))
    .exact .inr (hO x q)⟩
  |exact⟨hf.os,hf.tape,hf.output,hf.size,λx hx hn=>hf.block x hx (λy=>hn (kL (.inr y))),λx hx=>by
    rcases kN hx with q|q
    .exact .inl (kL (.inl q))
    .rcases hf.fresh x q with y|y
     .exact .inl (kL (.inr y))
     .exact .inr y⟩):p:=h
theorem zJe(h:p:=by
 rw[e,eE]at hc;rcases kQ hc with y|y
 .first|let _:=bC1;subst y;exact kR _ hCO|subst y;exact b.lc
 .rcases kQ y with z|z
  .first|let _:=bC1;subst z;exact kT|subst z;exact hg
  .first|let _:=bC1;exact kR _ (h.sub iB c (by rw[h.ob];exact kR _ z))|exact b.lx c z):p:=h
theorem zJf(h:p:=by have bC9:=0;exact zK9):p:=h
theorem zJg(h:p:=by
 rcases kQ hx with rfl|hx
 .first|let _:=bGa;exact hb|exact hi
 .rcases kQ hx with rfl|hx
  .first|let _:=bGa;exact hb|exact hj
  .exact hk x hx):p:=h
theorem zJh(h:p:=by
 rcases jB i j with hlt|hge
 .first
  |let _:=bK8;rcases jB i' j with bF8|bMt
   .rw[upd_ne D _ (eH i hlt)]at hb;rw[upd_ne D _ (eH i' bF8)]at hb';exact h.dis i i' hlt bF8 hii b hb hb'
   .obtain rfl:i'=j:=by omega
    rw[upd_same]at hb';exact hb'.elim
  |rw[upd_ne D _ (eH i hlt)]at hb;exact h.own i hlt b hb
 .obtain rfl:i=j:=by omega
  rw[upd_same]at hb;exact hb.elim):p:=h
theorem zJi(h:p:=by
 obtain⟨j,hj,hx⟩:=List.mem_flatMap.1 hx;have hj:=List.mem_range.1 hj
 first|let _:=bK9;have g1:=aZ9 h3 j hj;have g2:=J6 (h3 j hj)|have g1:=aAw b1 h1 j hj;have g2:=uD (h1 j hj)
 simp at hx;rcases hx with rfl|rfl|rfl<;>omega):p:=h
theorem zJj(h:p:=by
 refine RR.AF (RR.underlying src) ?_;rintro d1 _ ⟨rfl,h1⟩;refine RR.AF (RR.underlying dst) ?_;rintro d2 _ ⟨rfl,h2⟩
 first
 |let _:=bKa;rw[h1,h2]at ok;rw[h1,h2]at hup;have h0:=h;obtain⟨rfl,hs⟩:=h;cases d1<;>cases d2<;>(try exact absurd ok Bool.noConfusion);case int.int k1 k2=>
   cases v'<;>simp only[rV]<;>try exact RR.dE _
   case int=>exact RR.AG VR.int
   case float=>exact aF7 _ _ _
   case pointer p=>cases p<;>exact RR.dE _
  case slice.string e=>
   have he:=aMw ok;cases v'<;>simp only[rV]at h0⊢;case string=>exact RR.AG VR.str
   case int=>exact RR.AG VR.str
   all_goals
    refine RR.AF (RR.underlying e) ?_
    rintro d _ ⟨rfl,hd⟩
    rw[he]at hd;cases hd
    exact S5 h0
  case string.slice e=>
   have he:=aMw ok;cases v'<;>simp only[rV]<;>try exact RR.dE _
   refine RR.AF (RR.underlying e) ?_;rintro d _ ⟨rfl,hd⟩;rw[he]at hd;cases hd;exact S7 _ _
  case pointer.unsafePointer t=>have:=hup (.inl ⟨⟨t,rfl⟩,rfl⟩);cases v'<;>exact this
  case unsafePointer.pointer t=>have:=hup (.inr ⟨rfl,t,rfl⟩);cases v'<;>exact this
 |rcases hd with⟨⟨t,ht⟩,hu⟩|⟨hu,t,ht⟩
  .rw[ht]at h1;cases h1;rw[hu]at h2;cases h2;cases v'<;>simp only[rV]<;>try exact RR.stuck _
   rename_i p
   cases p with
   |none=>exact RR.AG VR.lit
   |some a=>
    simp only[AH]
    simp only[Sc]at hs
    refine RR.AF (aI9 ⟨rfl,hs a rfl⟩) ?_
    intro s s' hs
    refine RR.AF (aQw hs) ?_
    rintro q _ rfl
    refine RR.AF (RR.sizeOf _) ?_
    rintro n _ rfl
    have e1:s.off=s'.off:=by rw[hs.1];rfl
    have e2:s.spot=s'.spot:=by rw[hs.1];rfl
    rw[e1,e2]
    cases q<;>dsimp only<;>split<;>first|exact I5 hs _|exact RR.AG hs.ptr
  .rw[hu]at h1;cases h1;rw[ht]at h2;cases h2;cases v'<;>simp only[rV]<;>try exact RR.stuck _
   rename_i p
   cases p with
   |none=>exact RR.AG VR.lit
   |some a=>
    simp only[AH]
    simp only[Sc]at hs
    refine RR.AF (aI9 ⟨rfl,hs a rfl⟩) ?_
    intro s s' hs
    refine RR.AF (RR.sizeOf _) ?_
    rintro n _ rfl
    refine RR.AF (aIc hs _ _) ?_
    rintro b b' (rfl|⟨rfl,ho⟩)
    rotate_left
    .cases hn:decide (n=0)with
     |true=>exact RR.AG hs.ptr
     |false=>exact RR.aJc ho (RR.oC _ _)
    split
    .exact RR.AG hs.ptr
    .refine RR.AF (RR.wB hs) ?_
     rintro q _ (⟨rfl,_⟩|⟨rfl,_⟩)
     rotate_left
     .exact RR.oC _ _
     split
     .refine RR.AF RR.program ?_
      rintro p _ ⟨rfl,rfl⟩
      refine RR.AF RR.program ?_
      rintro p _ ⟨rfl,rfl⟩
      split
      .exact RR.oC _ _
      .exact I5 hs _
     .exact RR.oC _ _):p:=h
theorem zJk(h:p:=by
 obtain⟨u,v,e⟩:=iface_of_trod underlying24 h4
 first|let _:=bKb;have:=World.var?_cell Tryz.er h3 0|have:=World.var?_cell Tryz.es h3 0
 refine⟨u,v,?_⟩;obtain⟨l⟩:=cs;simp at e;subst e;exact zCk):p:=h
theorem zJl(h:p:=by have bLs:=0;exact zMo):p:=h
theorem zJm(h:p:=by
 rcases getElem?_append_cases hi with⟨_,dN⟩|⟨_,hiu⟩
 .first|let _:=bKd;exact(h.old0 i op x dN hg hx hm).imp (·.app _) id|exact zD2
 .rw[hnt op hiu]at hx;cases hx):p:=h
theorem zJn(h:p:=by
 rcases getElem?_append_cases hi with⟨_,dN⟩|⟨_,hiu⟩
 .first|let _:=bKe;exact zD2|exact zDs
 .rw[(hu op hiu).1]at hg;omega):p:=h
theorem zJo(h:p:=by
 rcases Nat.eq_or_lt_of_le hle with e|hlt
 .first|let _:=bGb;exact q1 (atEnd n h3 e.symm).1|exact q2 (atEnd n h3 e.symm).2
 .obtain⟨k,hk⟩:∃k,m-n=k+1:=⟨m-n-1,od⟩;rw[hk]at lI
  first
  |let _:=bGb;obtain⟨o,u,e⟩:=aSl (q2 T λd hd=>hT2 n h1 d hd);simp only[runN,e]at lI;cases lI;skip
  |obtain⟨fO,q1'⟩:(dA nx s n).2.1=[]/\Out (dA nx s n).1 []:=⟨q1.1,⟨rfl,q1.2⟩⟩;rw[fO]at lI;simp only[List.nil_append,runN]at lI;rcases aSf hi q1' (on (dA nx s n).2.2 T)with⟨o,u,e⟩|⟨c,u,e,o,v,e2⟩
   .rw[e]at lI;cases lI
   .rw[e]at lI
    cases k with
    |zero=>
     simp only[runN]at lI
     injection lI with lI
     have:=(aHc lI).2.1
     cases this
    |succ k=>
     simp only[runN,e2]at lI
     cases lI):p:=h
theorem zJp(h:p:=by
 rcases getElem?_append_cases hi with⟨_,dN⟩|⟨_,hiu⟩
 .first|let _:=bKf;exact zDs|exact zD2
 .rw[hn op hiu]at hx;cases hx):p:=h
theorem zJq(h:p:=by have bGt:=0;exact zLf):p:=h
theorem zJr(h:p:=by
 rw[e]at e';cases e'
 first|(let _:=bC3;refine⟨h1.trans g1.symm,?_⟩;have hn:(s.aO.n:Int)=(s.aO.AA.toNat:Int):=rfl;rcases h with⟨j,a,a2,h2⟩|⟨a,h2⟩<;>rcases g with⟨i,b,b2,g2⟩|⟨b,g2⟩;skip)|(rcases h with⟨j,a,a2,h1,h2⟩|⟨a,h1,h2⟩<;>rcases g with⟨i,b,b2,g1,g2⟩|⟨b,g1,g2⟩;skip)
 .have:j=i:=by rw[a]at b;exact_mod_cast b
  subst this
  first|let _:=bC3;exact h2.trans g2.symm|exact zA2
 .exact absurd ⟨od,od⟩ b
 .exact absurd ⟨od,od⟩ a
 .first|let _:=bC3;exact h2.trans g2.symm|exact zA2):p:=h
theorem zJs(h:p:=by
 obtain⟨a,ha,hl,hb⟩:=F4 t n;have p1:=sY hn;have p2:=sY (k:=k) od
 first|let _:=aXr;rw[ha,gT,aA7 a (2^k) od od]|rw[ha,gT,aA8 a (2^k) od od]
 refine aGy λj=>?_
 first|let _:=aXr;rw[show 18446744073709551615-2^k=2^64-(2^k+1)by omega,Nat.testBit_and,Nat.testBit_two_pow_sub_succ od,hb,Nat.testBit_two_pow]|rw[Nat.testBit_or,hb,Nat.testBit_two_pow]
 by_cases e:k=j
 .first|let _:=aXr;subst e;simp|subst e;simp[hk]
 .first
  |let _:=aXr;rw[kD e,Bool.not_false,Bool.and_true,kJ (Ne.symm e)];by_cases q:j<n
   .rw[kF q,kF (show j<64 by omega),Bool.and_true]
   .rw[kD q];rfl
  |rw[kD e,Bool.or_false,kJ (Ne.symm e)]):p:=h
theorem zJt(h:p:=by have bL1:=0;exact zLj):p:=h
theorem zJv(h:p:=by
 obtain⟨fa,cs,c,rd,T,e,h⟩:=h;obtain⟨fa',cs',c',rd',T',e',g⟩:=g;rw[e]at e';cases e'
 first
 |let _:=bC4;rcases h with⟨a,h1,h2⟩|⟨a,h1,h2⟩<;>rcases g with⟨b,g1,g2⟩|⟨b,g1,g2⟩
  .exact zA2
 |have key:∀j i:Nat,n.getD 0 0=j->n.getD 1 0=i->(j<s.aO.n/\i<s.aO.nl/\aX (s.aO.lt i) j=true)->((0<=n.getD 0 0/\n.getD 0 0<s.aO.AA)/\(0<=n.getD 1 0/\n.getD 1 0<s.aO.nl)/\aX (s.aO.lt (n.getD 1 0).toNat) (n.getD 0 0).toNat=true):=by intro j i a b ⟨q1,q2,q3⟩;have hn:(s.aO.n:Int)=(s.aO.AA.toNat:Int):=rfl;rw[a,b];exact⟨⟨od,od⟩,⟨od,od⟩,by simpa using q3⟩
  rcases h with⟨j,i,a,a2,a3,h1,h2⟩|⟨a,h1,h2⟩<;>rcases g with⟨j',i',b,b2,b3,g1,g2⟩|⟨b,g1,g2⟩
  .have e1:j=j':=by rw[a]at b;exact_mod_cast b
   have e2:i=i':=by rw[a2]at b2;exact_mod_cast b2
   subst e1 e2;exact zA2
 .first|(let _:=bC4;rw[a]at b;cases b)|exact absurd (key j i a a2 a3) b
 .first|(let _:=bC4;rw[a]at b;cases b)|exact absurd (key j' i' b b2 b3) a
 .exact zA2):p:=h
theorem zJy(h:p:=by
 obtain⟨h1,h2,h3,h4,h5,h6,h7,h8,h9,h10⟩:=oU h;have HR:Hid (eA f s n d=true):=h;clear h
 first|let _:=bKi;have hn:l<=1099511627776:=od|have hn:decide (-1099511627776<=l)=false:=kD od
 exact zFj):p:=h
theorem zJz(h:p:=by
 obtain⟨v3,v5,v6,v7,v8,v9,P6,P7,P8,P9,Q5,rfl⟩:=hg
 first|(let _:=bGf;have e:Go.Conc.served (G (b8.at ⟨T8 p [v3,.chan (some p.ch),v5,v6,v7,v8,v9,P6,P7,P8,P9,Q5],[qR p]⟩ (.inRegion (aBt Tryz.f8) [0,1]::(k2 Tryz.f8))) [(bot prog)]) (tU #[aM2,.bool false])=G (b8.at ⟨T8 p [v3,.chan (some p.ch),tU #[aM2,.bool false],v6,v7,v8,v9,P6,P7,P8,P9,Q5],[qR p]⟩ (.inRegion (aBt Tryz.f8) [1]::(k2 Tryz.f8))) [(bot prog)]:=by exact zB7)|have e:Go.Conc.served (G (b8.at ⟨T8 p [v3,.chan (some p.ch),v5,v6,v7,v8,v9,P6,P7,P8,P9,Q5],[qR p]⟩ (.inRegion (aBt Tryz.f8) [0,1]::(k2 Tryz.f8))) [(bot prog)]) (tU #[msg k text,.bool true])=G (b8.at ⟨T8 p [v3,.chan (some p.ch),tU #[msg k text,.bool true],v6,v7,v8,v9,P6,P7,P8,P9,Q5],[qR p]⟩ (.inRegion (aBt Tryz.f8) [1]::(k2 Tryz.f8))) [(bot prog)]:=by exact zB7
 rw[e];simp only[k2,aBt,uI,qC,pT,Tryz.f8,AJ,T8]
 first
 |let _:=bGf;iterate 4 (refine rN ?_;clear hF;intro _ hF)
  exact zL8
 |iterate 9 (refine rN ?_;clear hF;intro _ hF)
  exact jS (bH9 p k text hk _ _ _ _ _ _ _ _ _ _ _ hF) od):p:=h
theorem zJ0(h:p:=by
 obtain⟨loc,w,s⟩:=e;simp only at ho;subst ho
 first|let _:=bGg;refine⟨⟨rfl,λx hx=>.inr (.inr (.inr ?_))⟩,trivial,oe⟩|skip
 have hx:some (⟨.output,w,if s=true then .atomic else .plain⟩:Touch)=some x:=hx
 first|(let _:=bGg;cases hx;rfl;skip)|(cases hx;cases hl;skip)):p:=h
theorem zJ2(h:p:=by
 rw[s1,callDeferred,kJ];rotate_left
 .exact Bool.eq_false_iff.1 (yM hn)
 simp only[Sem.runT_eq,e]
 first
 |let _:=bKk;exact⟨_,rfl⟩
 |cases a<;>first
   |exact h.elim
   |(obtain⟨rfl,rfl⟩:=h;exact⟨_,rfl⟩)
  skip):p:=h
theorem zJ3(h:p:=by have bL3:=0;exact zLm):p:=h
theorem zJ4(h:p:=by
 rcases kQ hc with y|y
 .exact .inl (kO (.inl y))
 .first|(let _:=bGh;rcases oX with z|⟨g,hg,z⟩;skip)|(rcases oX with z|z;skip)
  .rw[z]at y;exact .inl (kO (.inr y))
  first
  |let _:=bGh
   .rw[z]at y;have:c=g:=Ep;exact .inr od
  |.rw[z]at y;have:c=w2.1.size:=Ep;exact .inr (by have:=k2.size;omega)):p:=h
theorem zJ5(h:p:=by
 rcases kN q with q|q
 .rcases kN q with q|q
  .first|let _:=bC5;have:=hX c q;omega|have:=hX _ q;omega
  .first|let _:=bC5;exact hn (kL (.inl q))|have:=h.r.hi _ q;omega
 .first|let _:=bC5;exact hn (kL (.inr q))|have:=h.r.hiO _ q;omega):p:=h
theorem zJ6(h:p:=by have bL4:=0;exact zLn):p:=h
theorem zJ8(h:p:=by refine wp_region_held_drew (S:=λu=>u.cell? (aA w.1.size 2)=some (iI aM)/\u.cell? (aA w.1.size 3)=some (iI aC)/\u.cell? (aA w.1.size 4)=some (iI aJ)/\u.cell? (aA w.1.size 5)=some (iI round)/\u.cell? (aA w.1.size 8)=some (iI frame)) oh oz (λaF=>?_);have bLr:=0;exact zMn):p:=h
theorem zKb(h:p:=by obtain⟨b,off,rfl,oF,hc⟩:=hr oe;generalize hV:w.alloc (.cells #[sV (some (aA b off)) 1 cap,sT tx] 105)=V;have bGx:=0;exact zLp):p:=h
theorem zKc(h:p:=by
 obtain⟨b,off,rfl,oF,hc⟩:=hr.1 od
 first
 |let _:=aKe;have hbo:=hr.2 b off rfl od;rw[hn]at hc⊢
  first|let _:=m20;generalize hV:w.alloc (.cells #[sV (some (aA b off)) 4 cap,sT tx] 105)=V|generalize hV:w.alloc (.cells #[sV (some (aA b off)) 3 cap,sT tx] 105)=V
 |have eH:b≠S:=hr.ne h rfl od;obtain⟨_,bcs,bfr,hbt⟩:=hr.2 b off rfl od;rw[hn]at hc⊢
  first|let _:=m3;obtain⟨i0,hi0,qV,qO,qP⟩:=info_parts Tryz.aP8;skip|obtain⟨i0,hi0,qV,qO,qP⟩:=info_parts Tryz.aP7;skip
  generalize hV:w.alloc (.cells #[sV (some (aA b off)) 3 cap,sT tx] 105)=V
 have hB:bW w V:=hV▸(jD _ w).alloc (kG _) _
 first
 |let _:=aKe
  first|let _:=m20;have x0:V.cell? (aA w.1.size 0)=some (sV (some (aA b off)) 4 cap):=om|have x0:V.cell? (aA w.1.size 0)=some (sV (some (aA b off)) 3 cap):=om
 |have x0:V.cell? (aA w.1.size 0)=some (sV (some (aA b off)) 3 cap):=om
 have bL5:=0;exact zLr):p:=h
theorem zKf(h:p:=by have bGw:=0;exact zLo):p:=h
theorem zKh(h:p:=by have aPq:=0;exact zMc):p:=h
theorem zKk(h:p:=by
 have hsz:V.1.size<=w3.1.size:=E5;have bJ6:=hs.r.hi S hs.r.s
 first
 |let _:=aTv
  first|let _:=m50;have aSu:∀x,A.vR.ownBlock=some x->x≠S:=λx hx=>jE hs.r.oR hs.blk og hx|have aSu:∀x,A.vO.ownBlock=some x->x≠S:=λx hx=>jE hs.r.oO hs.blk og hx
 |let _:=m49;have aSu:∀x,A.vL.ownBlock=some x->x≠S:=λx hx=>jE hs.r.oL hs.blk og hx
 |have aSu:∀x,A.vS.ownBlock=some x->x≠S:=λx hx=>jE hs.r.oS hs.blk og hx
 have hgS:g≠S:=by exact zC8
 first
 |let _:=aTv
  first|let _:=m50;have hbk:∀x,x<V.1.size->A.vR.ownBlock≠some x->w3.1[x]?=V.1[x]?:=λx hx hn=>(hg.block x ol (λe=>hn e.symm)).trans (Below.heap_alloc V E x hx)|have hbk:∀x,x<V.1.size->A.vO.ownBlock≠some x->w3.1[x]?=V.1[x]?:=λx hx hn=>(hg.block x ol (λe=>hn e.symm)).trans (Below.heap_alloc V E x hx)
 |let _:=m49;have hbk:∀x,x<V.1.size->A.vL.ownBlock≠some x->w3.1[x]?=V.1[x]?:=λx hx hn=>(hg.block x ol (λe=>hn e.symm)).trans (Below.heap_alloc V E x hx)
 |have hbk:∀x,x<V.1.size->A.vS.ownBlock≠some x->w3.1[x]?=V.1[x]?:=λx hx hn=>(hg.block x ol (λe=>hn e.symm)).trans (Below.heap_alloc V E x hx)
 have hS3:w3.1[S]?=V.1[S]?:=hbk S bJ6 (λe=>aSu S e rfl)
 first
 |let _:=aTv
  first
  |let _:=m50;have hblk:=bU (i:=12) (hS3.trans hs.blk) (sL g (st.next.nR+1) c);have hot:∀x,x<V.1.size->x≠S->A.vR.ownBlock≠some x->(w3.setCell (aA S 12) (sL g (st.next.nR+1) c)).1[x]?=V.1[x]?:=λx h1 h2 h3=>(cH h2 _).trans (hbk x h1 h3);have hty:∀{e:WI} {x:Nat},(∃cs fr,V.1[x]?=some (.cells cs e fr))->e≠140->A.vR.ownBlock≠some x:=λ⟨_,_,q⟩ h2 h3=>by obtain⟨_,_,q2⟩:=lS hs.r.oR h3;exact zD4
   have own:∀{e:WI} {size:Nat} {v:WB} {k:Nat} {xs:List WB},V.ownsRow base e size v k xs->e≠91->e≠140->(∀x,v.ownBlock=some x->x∈M)->(w3.setCell (aA S 12) (sL g (st.next.nR+1) c)).ownsRow base e size v k xs:=λh1 h2 h2' h3=>gF h1 λx hx=>hot x (hs.r.hi x (h3 x hx)) (jE h1 hs.blk h2 hx) (hty (lS h1 hx) h2');have sC:V.1.size<=(w3.setCell (aA S 12) (sL g (st.next.nR+1) c)).1.size:=by simpa using hsz
   have G7:∀{x:Nat},(∃cs fr,V.1[x]?=some (.cells cs 3 fr))->x∈M->(w3.setCell (aA S 12) (sL g (st.next.nR+1) c)).1[x]?=V.1[x]?:=λq h2=>hot _ (hs.r.hi _ h2) Es (hty q og);have hOs:Same O V (w3.setCell (aA S 12) (sL g (st.next.nR+1) c)):=⟨sC,λx hx=>hot x (hs.r.hiO x hx) (λe=>hs.r.ap x hx (e▸hs.r.s)) (λe=>hs.r.ap x hx (hs.r.bR x e))⟩;have hgM:g∈M\/g=V.1.size+1:=oX.imp (hs.r.bR g) id
  |have hblk:=bU (i:=11) (hS3.trans hs.blk) (sL g (st.next.nL+1) c);have hot:∀x,x<V.1.size->x≠S->A.vO.ownBlock≠some x->(w3.setCell (aA S 11) (sL g (st.next.nL+1) c)).1[x]?=V.1[x]?:=λx h1 h2 h3=>(cH h2 _).trans (hbk x h1 h3);have hty:∀{e:WI} {x:Nat},(∃cs fr,V.1[x]?=some (.cells cs e fr))->e≠138->A.vO.ownBlock≠some x:=λ⟨_,_,q⟩ h2 h3=>by obtain⟨_,_,q2⟩:=lS hs.r.oO h3;exact zD4
   have own:∀{e:WI} {size:Nat} {v:WB} {k:Nat} {xs:List WB},V.ownsRow base e size v k xs->e≠91->e≠138->(∀x,v.ownBlock=some x->x∈M)->(w3.setCell (aA S 11) (sL g (st.next.nL+1) c)).ownsRow base e size v k xs:=λh1 h2 h2' h3=>gF h1 λx hx=>hot x (hs.r.hi x (h3 x hx)) (jE h1 hs.blk h2 hx) (hty (lS h1 hx) h2');have sC:V.1.size<=(w3.setCell (aA S 11) (sL g (st.next.nL+1) c)).1.size:=by simpa using hsz
   have G7:∀{x:Nat},(∃cs fr,V.1[x]?=some (.cells cs 3 fr))->x∈M->(w3.setCell (aA S 11) (sL g (st.next.nL+1) c)).1[x]?=V.1[x]?:=λq h2=>hot _ (hs.r.hi _ h2) Es (hty q og);have hOs:Same O V (w3.setCell (aA S 11) (sL g (st.next.nL+1) c)):=⟨sC,λx hx=>hot x (hs.r.hiO x hx) (λe=>hs.r.ap x hx (e▸hs.r.s)) (λe=>hs.r.ap x hx (hs.r.bO x e))⟩;have hgM:g∈M\/g=V.1.size+1:=oX.imp (hs.r.bO g) id
 |let _:=m49;have hblk:=bU (i:=7) (hS3.trans hs.blk) (sL g (st.aO.nl+1) c);have hot:∀x,x<V.1.size->x≠S->A.vL.ownBlock≠some x->(w3.setCell (aA S 7) (sL g (st.aO.nl+1) c)).1[x]?=V.1[x]?:=λx h1 h2 h3=>(cH h2 _).trans (hbk x h1 h3);have hty:∀{e:WI} {x:Nat},(∃cs fr,V.1[x]?=some (.cells cs e fr))->e≠124->A.vL.ownBlock≠some x:=λ⟨_,_,q⟩ h2 h3=>by obtain⟨_,_,q2⟩:=lS hs.r.oL h3;exact zD4
  have own:∀{e:WI} {size:Nat} {v:WB} {k:Nat} {xs:List WB},V.ownsRow base e size v k xs->e≠91->e≠124->(∀x,v.ownBlock=some x->x∈M)->(w3.setCell (aA S 7) (sL g (st.aO.nl+1) c)).ownsRow base e size v k xs:=λh1 h2 h2' h3=>gF h1 λx hx=>hot x (hs.r.hi x (h3 x hx)) (jE h1 hs.blk h2 hx) (hty (lS h1 hx) h2');have sC:V.1.size<=(w3.setCell (aA S 7) (sL g (st.aO.nl+1) c)).1.size:=by simpa using hsz
  have G7:∀{x:Nat},(∃cs fr,V.1[x]?=some (.cells cs 3 fr))->x∈M->(w3.setCell (aA S 7) (sL g (st.aO.nl+1) c)).1[x]?=V.1[x]?:=λq h2=>hot _ (hs.r.hi _ h2) Es (hty q og);have hgM:g∈M\/g=V.1.size+1:=oX.imp (hs.r.bL g) id
 |have hblk:=bU (i:=6) (hS3.trans hs.blk) (sL g (st.aO.ns+1) c);have hot:∀x,x<V.1.size->x≠S->A.vS.ownBlock≠some x->(w3.setCell (aA S 6) (sL g (st.aO.ns+1) c)).1[x]?=V.1[x]?:=λx h1 h2 h3=>(cH h2 _).trans (hbk x h1 h3);have hty:∀{e:WI} {x:Nat},(∃cs fr,V.1[x]?=some (.cells cs e fr))->e≠120->A.vS.ownBlock≠some x:=λ⟨_,_,q⟩ h2 h3=>by obtain⟨_,_,q2⟩:=lS hs.r.oS h3;exact zD4
  have own:∀{e:WI} {size:Nat} {v:WB} {k:Nat} {xs:List WB},V.ownsRow base e size v k xs->e≠91->e≠120->(∀x,v.ownBlock=some x->x∈M)->(w3.setCell (aA S 6) (sL g (st.aO.ns+1) c)).ownsRow base e size v k xs:=λh1 h2 h2' h3=>gF h1 λx hx=>hot x (hs.r.hi x (h3 x hx)) (jE h1 hs.blk h2 hx) (hty (lS h1 hx) h2');have sC:V.1.size<=(w3.setCell (aA S 6) (sL g (st.aO.ns+1) c)).1.size:=by simpa using hsz
  have G7:∀{x:Nat},(∃cs fr,V.1[x]?=some (.cells cs 3 fr))->x∈M->(w3.setCell (aA S 6) (sL g (st.aO.ns+1) c)).1[x]?=V.1[x]?:=λq h2=>hot _ (hs.r.hi _ h2) Es (hty q og);have hgM:g∈M\/g=V.1.size+1:=oX.imp (hs.r.bS g) id
 have hlo:=hs.r.lo S hs.r.s;have hwV:=hB.size;refine⟨⟨?_,?_,?_,?_,?_,?_⟩,?_,hblk⟩
 .exact hg.os.trans hB.os
 .exact hg.tape.trans hB.tape
 .exact zEg
 .simp;omega
 .intro x hx hn;have hxV:x<V.1.size:=od
  first
  |let _:=aTv
   first|let _:=m50;refine(hot x hxV (λe=>hn (kL (.inl (e▸hs.r.s)))) (λe=>hn (kL (.inl (hs.r.bR x e))))).trans (hB.block x hx)|refine(hot x hxV (λe=>hn (kL (.inl (e▸hs.r.s)))) (λe=>hn (kL (.inl (hs.r.bO x e))))).trans (hB.block x hx)
  |let _:=m49;refine(hot x hxV (λe=>hn (kL (.inl (e▸hs.r.s)))) (λe=>hn (kL (.inl (hs.r.bL x e))))).trans (hB.block x hx)
  |refine(hot x hxV (λe=>hn (kL (.inl (e▸hs.r.s)))) (λe=>hn (kL (.inl (hs.r.bS x e))))).trans (hB.block x hx)
 .exact zA1
 .first
  |let _:=aTv
   first
   |let _:=m50;exact {
        s:=kO (.inr hs.r.s)
        lo:=λx hx=>by
         rcases kQ hx with rfl|hx
         .rcases hgM with q|q
          .exact hs.r.lo _ q
          .omega
         .exact hs.r.lo x hx
        hi:=λx hx=>by
         rcases kQ hx with rfl|hx
         .simpa using hlt
         .exact kC (hs.r.hi x hx) sC
        loO:=hs.r.loO
        hiO:=λx hx=>kC (hs.r.hiO x hx) sC
        ap:=λx hx hm=>by
         rcases kQ hm with rfl|hm
         .rcases hgM with q|q
          .exact hs.r.ap _ hx q
          .have:=hs.r.hiO _ hx;omega
         .exact hs.r.ap x hx hm
        oR:=by have:=sH st.next.rn st.next.ro st.next.ri (n.getD 0 0) (n.getD 1 0) (n.getD 2 0) st.next.nR;rw[<-this]at cP;exact gF cP λx hx=>cH j7 _
        oS:=own hs.r.oS og og hs.r.bS
        oL:=own hs.r.oL og og hs.r.bL
        oO:=own hs.r.oO og og hs.r.bO
        bR:=λx hx=>by cases hx;exact kO (.inl rfl)
        bS:=λx hx=>kO (.inr (hs.r.bS x hx))
        bL:=λx hx=>kO (.inr (hs.r.bL x hx))
        bO:=λx hx=>kO (.inr (hs.r.bO x hx))
        rD:=hs.r.rD.at sC λb off e h0=>G7 (hs.r.bD b off e h0).2 (hs.r.bD b off e h0).1
        rM:=hs.r.rM.at sC λb off e h0=>G7 (hs.r.bM b off e h0).2 (hs.r.bM b off e h0).1
        bD:=λb off e h0=>⟨kO (.inr (hs.r.bD b off e h0).1),Oq⟩
        bM:=λb off e h0=>⟨kO (.inr (hs.r.bM b off e h0).1),Oo⟩
        nw:=hs.r.nw
        nD:=hs.r.nD
        nM:=hs.r.nM
        ns:=hs.r.ns
        nl:=hs.r.nl
        iL:=hs.r.iL
        iO:=hs.r.iO
        nL:=Nat.le_succ_of_le hs.r.nL
        nR:=Nat.succ_le_succ hs.r.nR
        clu:=λfa cs c rd T e=>⟨eK.keep (hs.r.clu fa cs c rd T e).1 hOs,kH (hs.r.clu fa cs c rd T e).2 (kU N)⟩ }
   |exact {
        s:=kO (.inr hs.r.s)
        lo:=λx hx=>by
         rcases kQ hx with rfl|hx
         .rcases hgM with q|q
          .exact hs.r.lo _ q
          .omega
         .exact hs.r.lo x hx
        hi:=λx hx=>by
         rcases kQ hx with rfl|hx
         .simpa using hlt
         .exact kC (hs.r.hi x hx) sC
        loO:=hs.r.loO
        hiO:=λx hx=>kC (hs.r.hiO x hx) sC
        ap:=λx hx hm=>by
         rcases kQ hm with rfl|hm
         .rcases hgM with q|q
          .exact hs.r.ap _ hx q
          .have:=hs.r.hiO _ hx;omega
         .exact hs.r.ap x hx hm
        oO:=by have:=sH st.next.ls st.next.lc st.next.lt (n.getD 0 0) (n.getD 1 0) (n.getD 2 0) st.next.nL;rw[<-this]at cP;exact gF cP λx hx=>cH j7 _
        oS:=own hs.r.oS og og hs.r.bS
        oL:=own hs.r.oL og og hs.r.bL
        oR:=own hs.r.oR og og hs.r.bR
        bO:=λx hx=>by cases hx;exact kO (.inl rfl)
        bS:=λx hx=>kO (.inr (hs.r.bS x hx))
        bL:=λx hx=>kO (.inr (hs.r.bL x hx))
        bR:=λx hx=>kO (.inr (hs.r.bR x hx))
        rD:=hs.r.rD.at sC λb off e h0=>G7 (hs.r.bD b off e h0).2 (hs.r.bD b off e h0).1
        rM:=hs.r.rM.at sC λb off e h0=>G7 (hs.r.bM b off e h0).2 (hs.r.bM b off e h0).1
        bD:=λb off e h0=>⟨kO (.inr (hs.r.bD b off e h0).1),Oq⟩
        bM:=λb off e h0=>⟨kO (.inr (hs.r.bM b off e h0).1),Oo⟩
        nw:=hs.r.nw
        nD:=hs.r.nD
        nM:=hs.r.nM
        ns:=hs.r.ns
        nl:=hs.r.nl
        iL:=hs.r.iL
        iO:=λk hk=>by
         show jN (iW st.next.lt st.next.nL (n.getD 2 0) k)
         unfold iW
         split
         .exact hi
         .exact hs.r.iO k (by have:k<st.next.nL+1:=hk;omega)
        nL:=Nat.succ_le_succ hs.r.nL
        nR:=Nat.le_succ_of_le hs.r.nR
        clu:=λfa cs c rd T e=>⟨eK.keep (hs.r.clu fa cs c rd T e).1 hOs,kH (hs.r.clu fa cs c rd T e).2 (kU N)⟩ }
  |let _:=m49;exact {
       s:=kO (.inr hs.r.s)
       lo:=λx hx=>by
        rcases kQ hx with rfl|hx
        .rcases hgM with q|q
         .exact hs.r.lo _ q
         .omega
        .exact hs.r.lo x hx
       hi:=λx hx=>by
        rcases kQ hx with rfl|hx
        .simpa using hlt
        .exact kC (hs.r.hi x hx) sC
       loO:=hs.r.loO
       hiO:=λx hx=>kC (hs.r.hiO x hx) sC
       ap:=λx hx hm=>by
        rcases kQ hm with rfl|hm
        .rcases hgM with q|q
         .exact hs.r.ap _ hx q
         .have:=hs.r.hiO _ hx;omega
        .exact hs.r.ap x hx hm
       oL:=by have:=aBv st.aO.lf st.aO.lt st.aO.lb st.aO.lq (n.getD 0 0) (n.getD 1 0) (n.getD 2 0) (n.getD 3 0) st.aO.nl;rw[<-this]at cP;exact gF cP λx hx=>cH j7 _
       oS:=own hs.r.oS og og hs.r.bS
       oO:=own hs.r.oO og og hs.r.bO
       oR:=own hs.r.oR og og hs.r.bR
       bL:=λx hx=>by cases hx;exact kO (.inl rfl)
       bS:=λx hx=>kO (.inr (hs.r.bS x hx))
       bO:=λx hx=>kO (.inr (hs.r.bO x hx))
       bR:=λx hx=>kO (.inr (hs.r.bR x hx))
       rD:=hs.r.rD.at sC λb off e h0=>G7 (hs.r.bD b off e h0).2 (hs.r.bD b off e h0).1
       rM:=hs.r.rM.at sC λb off e h0=>G7 (hs.r.bM b off e h0).2 (hs.r.bM b off e h0).1
       bD:=λb off e h0=>⟨kO (.inr (hs.r.bD b off e h0).1),Oq⟩
       bM:=λb off e h0=>⟨kO (.inr (hs.r.bM b off e h0).1),Oo⟩
       nw:=hs.r.nw
       nD:=hs.r.nD
       nM:=hs.r.nM
       ns:=hs.r.ns
       nl:=hns
       iL:=λk hk=>by
        show jN (iW st.aO.lt st.aO.nl (n.getD 1 0) k)
        unfold iW
        split
        .exact hi
        .exact hs.r.iL k (by have:k<st.aO.nl+1:=hk;omega)
       iO:=hs.r.iO
       nL:=Nat.le_succ_of_le hs.r.nL
       nR:=Nat.le_succ_of_le hs.r.nR
       clu:=λfa cs c rd T e=>by rw[show st.clu=none from hc]at e;cases e }
  |exact {
       s:=kO (.inr hs.r.s)
       lo:=λx hx=>by
        rcases kQ hx with rfl|hx
        .rcases hgM with q|q
         .exact hs.r.lo _ q
         .omega
        .exact hs.r.lo x hx
       hi:=λx hx=>by
        rcases kQ hx with rfl|hx
        .simpa using hlt
        .exact kC (hs.r.hi x hx) sC
       loO:=hs.r.loO
       hiO:=λx hx=>kC (hs.r.hiO x hx) sC
       ap:=λx hx hm=>by
        rcases kQ hm with rfl|hm
        .rcases hgM with q|q
         .exact hs.r.ap _ hx q
         .have:=hs.r.hiO _ hx;omega
        .exact hs.r.ap x hx hm
       oS:=by have:=sH st.aO.nd st.aO.fr st.aO.td (n.getD 0 0) (n.getD 1 0) (n.getD 2 0) st.aO.ns;rw[<-this]at cP;exact gF cP λx hx=>cH j7 _
       oL:=own hs.r.oL og og hs.r.bL
       oO:=own hs.r.oO og og hs.r.bO
       oR:=own hs.r.oR og og hs.r.bR
       bS:=λx hx=>by cases hx;exact kO (.inl rfl)
       bL:=λx hx=>kO (.inr (hs.r.bL x hx))
       bO:=λx hx=>kO (.inr (hs.r.bO x hx))
       bR:=λx hx=>kO (.inr (hs.r.bR x hx))
       rD:=hs.r.rD.at sC λb off e h0=>G7 (hs.r.bD b off e h0).2 (hs.r.bD b off e h0).1
       rM:=hs.r.rM.at sC λb off e h0=>G7 (hs.r.bM b off e h0).2 (hs.r.bM b off e h0).1
       bD:=λb off e h0=>⟨kO (.inr (hs.r.bD b off e h0).1),Oq⟩
       bM:=λb off e h0=>⟨kO (.inr (hs.r.bM b off e h0).1),Oo⟩
       nw:=hs.r.nw
       nD:=hs.r.nD
       nM:=hs.r.nM
       ns:=hns
       nl:=hs.r.nl
       iL:=hs.r.iL
       iO:=hs.r.iO
       nL:=Nat.le_succ_of_le hs.r.nL
       nR:=Nat.le_succ_of_le hs.r.nR
       clu:=λfa cs c rd T e=>by rw[show st.clu=none from hc]at e;cases e }):p:=h
theorem zKm(h:p:=by have bLf:=0;exact zL7):p:=h
theorem zKn(h:p:=by
 subst hf;have HH:Hid (aU w P id n (bA t n) g b false):=h;obtain⟨c0,c1,c2,c3,c4,c5,z,lp⟩:=h;have z2:=z 2;have z4:=z 4;have z5:=z 5;clear z;have k1:(k:Int)<(n:Int):=od;have k3:((k:Int)==id)=false:=by simpa using hid
 have p0:=pow_pos k;have p1:(2:Int)^k<=2^16:=aL2 od;have p2:(2:Int)^16=65536:=og
 first|let _:=bKq;have eB:bits BinOp.andNot .i64 (bA t n) (2^k)=bA (λj=>if j=k then false else t j) n:=aO9 t hn hk;obtain⟨M,hM⟩:∃M,bA (λj=>if j=k then false else t j) n=M:=⟨_,rfl⟩;have bL9:=0;exact zLx|exact zIi):p:=h
theorem zKo(h:p:=by
 have kb:w3.1[u.1.size]?=V.1[u.1.size]?:=(hg.block u.1.size ol (λe=>hvb e.symm)).trans (Below.heap_alloc V _ u.1.size oF);have kS:w3.1[S]?=V.1[S]?:=(hg.block S ol (λe=>hvS e.symm)).trans (Below.heap_alloc V _ S hSl)
 first|let _:=bKr;exact⟨(jC (a:=(aA u.1.size 0)) kb).trans x0,(jC (a:=(aA u.1.size 1)) kb).trans x1,(jC (a:=(aA u.1.size 2)) kb).trans x2,(jC (a:=(aA S 6)) kS).trans c0,(World.frozen?_of_block (a:=(aA S 6)) kS).trans z0⟩|exact⟨(jC (a:=(aA u.1.size 0)) kb).trans x0,(jC (a:=(aA u.1.size 1)) kb).trans x1,(jC (a:=(aA u.1.size 2)) kb).trans x2,(jC (a:=(aA u.1.size 3)) kb).trans x3,(jC (a:=(aA S 7)) kS).trans c0,(World.frozen?_of_block (a:=(aA S 7)) kS).trans z0⟩):p:=h
theorem zKp(h:p:=by
 rcases Goes.cases h with dO|⟨m',e,dL⟩
 .obtain⟨_,i7⟩:=dO w rf
  first|let _:=aTw;have s3:=d7s (D:=D) h1 od|have s4:=d7s (D:=D) h1 od
  obtain⟨T7,uR,rfl,rfl⟩:=hm.isLast hi od
  first|let _:=aTw;rw[s3]at dK|rw[s4]at dK
  obtain⟨g',dH,m2,hk⟩:=i7 jw
  first|let _:=aTw;refine zT (s':=2) (m':=m2) (dd':=1) G L ha fO aL hx hj hi hg dH (aside_setCell w (stA X.q.Wg) _) (dK.setSt 0) (λe he=>?_) (λjx e he=>?_) (rA8 (dA3 ⟨rfl,rfl,h3,hk⟩)) (by rw[h2];rfl) od od (λtag' ht _=>Mode.retag ?_ ht) (.inl ⟨od,by show(if 5<=2 then 1 else 0)<=_;simp⟩)|refine zT (s':=3) (m':=m2) (dd':=1) G L ha fO aL hx hj hi hg dH (.refl _ w) dK (λe he=>?_) (λjx e he=>?_) (rA8 (.inr (.inr (.inl ⟨rfl,rfl,h3,hk⟩)))) (by rw[h2];rfl) od od (λtag' ht _=>Mode.retag ?_ ht) (.inl ⟨od,by show(if 5<=3 then 1 else 0)<=_;simp⟩)
  .rw[Array.mem_singleton.1 he];exact .inl (bk_cell _ _ rfl)
  .exact zD6
  .first|let _:=aTw;have:=Mode.last (j:=j) (D:=upd (D7 D) i ⟨2,m2,1⟩) (tag:=tag) i T7 hi (by rw[upd_same];simp) (λa ha e=>by rw[upd_ne _ _ e];exact uR a ha e)|have:=Mode.last (j:=j) (D:=upd (D7 D) i ⟨3,m2,1⟩) (tag:=tag) i T7 hi (by rw[upd_same];simp) (λa ha e=>by rw[upd_ne _ _ e];exact uR a ha e)
   rw[upd_same]at this;exact zCk
 .obtain⟨g',w',es,dH,⟨rfl,rfl⟩,oH⟩:=dL w rf
  first|let _:=aTw;exact idle (m':=m') dH (rA8 (.inr (.inr (.inl ⟨h1,h2,h3,oH⟩)))) od od|exact idle (m':=m') dH (rA8 (.inr (.inl ⟨h1,h2,h3,oH⟩))) od od):p:=h
theorem zKq(h:p:=by have bH4:=0;exact zL8):p:=h
theorem zKr(h:p:=by have bL7:=0;exact zLu):p:=h
theorem zKs(h:p:=by have bGz:=0;exact zLv):p:=h
theorem zKt(h:p:=by have bLp:=0;exact zMk):p:=h
theorem zKv(h:p:=by
 first|let _:=bK4;have hx:some (⟨.cell (aA X.q.Wg 1),true,.said⟩:Touch)=some x:=hx|have hx:some (⟨.cell (aA X.q.Wg 1),false,.said⟩:Touch)=some x:=hx
 cases hx
 first|let _:=bKt;simp at hl;exact n3 hl.1|exact .inl ⟨⟨_,rfl,rfl⟩,oe⟩):p:=h
theorem zKx(h:p:=by have bH3:=0;exact zL6):p:=h
theorem zK2(h:p:=by
 refine⟨N,hN,t,D,d1,?_⟩
 first
 |let _:=aTx
  first|let _:=m60;rw[h.eq]|rw[h.eq,hc]
 |simp only[hl];rw[h.eq,hc]
 rcases hU with⟨x,u,rfl,hb⟩|⟨w1,fQ,new,iM,iU,qU,ho1,hr⟩
 .first
  |let _:=aTx
   first|let _:=m60;exact .inl λt' ht=>aSw _ x _ (dY t' ht) hb|have bLh:=0;exact zMb
  |exact .inl λt' ht=>aC1 (G N hN).late (dY t' ht) hb
 .first
  |let _:=aTx
   first|let _:=m60|have fin:∀{r r':Result α} {fr1 qQ g1},(∀t',k (reT t' r')=.go (gr fr1 (qQ++B)) (on fQ t') #[])->(∀t',Ag w'.drawn D t t'->m'.run Y.P (on w' t')=reT t' r')->kc r=.go g1 w1 #[]->m.run Y.P w=r->m.events Y.P w #[]=new->fQ.drawn=D->nH (Y.wN N) F C g1 w1 fr1 qQ fQ->Nx1 (Y.wN N) F C B w (Ag w'.drawn D t) D (λt'=>stepG Y.P true (gr fr (cs++B)) (on w' t')) (GStep.after (seen Y.P fr.fn ec) (kc (m.run Y.P w))):=by intro r r' fr1 qQ g1 h1 hr' h2 er e2 hd h3;refine .inr ⟨fr1,qQ,fQ,g1,w1,seen Y.P fr.fn ec,hd,λt' ht=>?_,by rw[er,h2];simp[GStep.after],h3,qU,U4 (Y:=Y) fr.fn λe he=>ho1 e (by rw[<-e2];exact hec e he)⟩;obtain⟨es',hl⟩:=hl (on w' t');exact⟨es',hl.trans (by rw[hr' t' ht,h1];simp[GStep.after])⟩
  |skip
  rcases hr with⟨a,a',hA,rfl,e⟩|⟨v',hv,rfl,e⟩
  .first
   |let _:=aTx;obtain⟨e1,e2⟩:=aF8 e
    first
    |let _:=m60;obtain⟨fr1,qQ,g1,ec,q1,q2,q3,q4⟩:=jM N hN a a' w1 fQ hA e1 iM iU;exact zCh
    |rcases jM N hN a a' w1 fQ hA iM iU with q|⟨fr1,qQ,g1,h1,h2,h3⟩
     .exact zMb
     .exact fin (r':=.ok a' fQ) h1 dY h2 e1 e2 d2 h3
   |exact aMf (Z:=Y.wN N) (G N hN) ha top low h.last hA dY d2 e iM iU qU ho1
  .first
   |let _:=aTx;obtain⟨e1,e2⟩:=aF8 e
    first
    |let _:=m60;obtain⟨fr1,qQ,g1,ec,q1,q2,q3,q4⟩:=bBl N hN v' w1 fQ hv e1 iM iU;exact zCh
    |rcases bBl N hN v' w1 fQ hv iM iU with q|⟨fr1,qQ,g1,h1,h2,h3⟩
     .exact zMb
     .exact fin (r':=.halt (.panic v') fQ) h1 dY h2 e1 e2 d2 h3
   |exact xN (Z:=Y.wN N) top low h.last hv dY d2 e iM iU qU ho1):p:=h
theorem zK3(h:p:=by
 refine⟨_,t1,_,t2,t3,t4,t5,t6,λx hx=>?_,λi hi=>?_,λi x hi hx hb=>?_,λi x hi hx hb=>?_⟩
 .first
  |let _:=aXv
   first
   |let _:=m79;exact zBb
   |by_cases e:x=j
    .subst e;show(aU w' (m.P x) x p.n (bA (if x=x then N else s.AA x).t p.n) (if x=x then N else s.AA x).g (if x=x then N else s.AA x).b (if x=x then N else s.AA x).fz/\gH Of (iN x) [m.P x] (iN x)=[m.P x])/\yG B' (if x=x then N else s.AA x);rw[kK rfl,eE];exact⟨⟨hN,rfl⟩,hB⟩
    .show(aU w' (m.P x) x p.n (bA (if x=j then N else s.AA x).t p.n) (if x=j then N else s.AA x).g (if x=j then N else s.AA x).b (if x=j then N else s.AA x).fz/\gH Of (iN j) [m.P j] (iN x)=[m.P x])/\yG B' (if x=j then N else s.AA x);obtain⟨u1,u2⟩:=t7 (iN x) (by intro y;cases y;exact e rfl);rw[kJ e,u2];obtain⟨⟨v1,v2⟩,v3⟩:=h.node x hx;exact⟨⟨v1.same (v2▸u1),v2⟩,v3⟩
  |exact zBb
 .first
  |let _:=aXv;obtain⟨u1,u2⟩:=t7 (iS i) Oc;rw[u2]
   first|let _:=m79;exact zCo|exact⟨(h.snd i hi).1.keep u1,(h.snd i hi).2⟩
  |let _:=m56;obtain⟨u1,u2⟩:=t7 (iS i) Oc;rw[u2];exact zCo
  |by_cases e:i=k
   .subst e;show Sdr w' (gH Of (iS i) OS' (iS i)) (m.S i) (p.lb i) (p.lq i) (if i=i then S else s.aK i).all (if i=i then S else s.aK i).aQ (if i=i then S else s.aK i).last (if i=i then S else s.aK i).now/\X6 B' (if i=i then S else s.aK i);rw[kK rfl,eE];exact⟨hS,hB⟩
   .show Sdr w' (gH Of (iS k) OS' (iS i)) (m.S i) (p.lb i) (p.lq i) (if i=k then S else s.aK i).all (if i=k then S else s.aK i).aQ (if i=k then S else s.aK i).last (if i=k then S else s.aK i).now/\X6 B' (if i=k then S else s.aK i);obtain⟨u1,u2⟩:=t7 (iS i) (by intro y;cases y;exact e rfl);rw[kJ e,u2];exact zCo
 .first
  |let _:=aXv
   first
   |let _:=m79;by_cases e:i=k/\x=j
    .obtain⟨rfl,rfl⟩:=e;show ∃a b,Rcv w' (gH Of (iR i x) OR' (iR i x)) (m.R i x) (if i=i/\x=x then v else s.aV i x) a b/\_/\(if i=i/\x=x then v else s.aV i x)<=255;rw[kK ⟨rfl,rfl⟩,eE];exact⟨a',b',hS,hB,hv⟩
    .show ∃a b,Rcv w' (gH Of (iR k j) OR' (iR i x)) (m.R i x) (if i=k/\x=j then v else s.aV i x) a b/\_/\(if i=k/\x=j then v else s.aV i x)<=255;obtain⟨u1,u2⟩:=t7 (iR i x) (by intro y;cases y;exact e ⟨rfl,rfl⟩);rw[kJ e,u2];exact zBw
   |obtain⟨u1,u2⟩:=t7 (iR i x) Oc;rw[u2];obtain⟨a,b,q,r⟩:=h.rcv i x hi hx hb;exact⟨a,b,q.keep u1,r⟩
  |obtain⟨u1,u2⟩:=t7 (iR i x) Oc;rw[u2];exact zBw
 .first
  |let _:=aXv;obtain⟨u1,u2⟩:=t7 (iQ i x) Oc;rw[u2]
   first|let _:=m79;exact zCa|obtain⟨l,q,r⟩:=h.que i x hi hx hb;exact⟨l,q.keep u1,r⟩
  |let _:=m56;by_cases e:i=k/\x=j
   .obtain⟨rfl,rfl⟩:=e;show ∃l,Que w' (gH Of (iQ i x) OQ' (iQ i x)) (m.Q i x) 16 (if i=i/\x=x then v else s.aT i x) l/\_/\(if i=i/\x=x then v else s.aT i x).length<=16;rw[kK ⟨rfl,rfl⟩,eE];exact⟨l',hS,hB,hv⟩
   .show ∃l,Que w' (gH Of (iQ k j) OQ' (iQ i x)) (m.Q i x) 16 (if i=k/\x=j then v else s.aT i x) l/\_/\(if i=k/\x=j then v else s.aT i x).length<=16;obtain⟨u1,u2⟩:=t7 (iQ i x) (by intro y;cases y;exact e ⟨rfl,rfl⟩);rw[kJ e,u2];exact zCa
  |obtain⟨u1,u2⟩:=t7 (iQ i x) Oc;rw[u2];exact zCa):p:=h
theorem zK4(h:p:=by
 refine F1.step (i:=iB) (by rw[eB];exact hft) (λc hc=>?_);rcases kQ hc with y|y
 .omega
 first
 |let _:=bKv;rcases kQ y with y|y
  .omega
 |skip
 .have:=(ho.lt c Ep).2;omega):p:=h
theorem zK7(h:p:=by
 refine RR.AF (E.sliceBounds _ _ _ hl hh hm) ?_;rintro⟨x,y,z⟩ _ rfl;refine RR.AF (RR.sizeOf _) ?_;rintro k _ rfl
 first|let _:=bC8;refine RR.AG (OR.row ?_);simp only[Sc]at hs|refine RR.AG (AR.row ?_)
 split
 .first|let _:=bC8;exact⟨rfl,hs⟩|exact ha
 .first
  |let _:=bC8;refine⟨by cases a<;>simp[aUv],?_⟩;rintro w hw
   cases a with
   |none=>cases hw
   |some a=>cases hw;rw[add_block];exact hs a rfl
   skip
  |exact ha.add _):p:=h
theorem zK8(h:p:=by
 obtain⟨h1,h2⟩:=h;refine⟨h1,?_⟩;rcases h2 with h2|⟨g,cap,cur,rfl,hg,hh,r⟩
 .exact .inl h2
 .first
  |let _:=bKy
   first|let _:=bK7;refine .inr ⟨g,cap,cur,rfl,hg,?_,r⟩;rw[hs.2 g (hv g rfl)];exact hh|exact .inr ⟨g,cap,cur,rfl,hg,(hs g rfl).trans hh,r⟩
  |refine .inr ⟨g,cap,cur,rfl,hg,?_,r⟩
   first
   |let _:=m99;rw[<-hh];have:b≠g:=od;simp[World.setCell,Array.getElem?_modify,this]
   |have hlt:g<w.1.size:=by exact zEz
    rw[hb.block g hlt];exact hh):p:=h
theorem zK9(h:p:=by
 rintro args dV h;by_cases hz:dV.size=2
 .obtain⟨x,y,rfl⟩:=aVv hz;obtain⟨rfl,hx,hy⟩:=h.two
  first
  |let _:=bC9
   first
   |let _:=bC2;refine RR.AF (E.parts ⟨rfl,hx⟩) ?_;intro p p' hp;refine RR.AF (E.parts ⟨rfl,hy⟩) ?_;intro q q' hq;rcases hp with⟨rfl,rfl⟩|⟨t,a,a',fl,rfl,rfl,ha⟩
    .exact zDt
    rcases hq with⟨rfl,rfl⟩|⟨u,b,b',gl,rfl,rfl,hb⟩
    .exact zDt
    dsimp only;split
   |cases y<;>try exact RR.stuck _
    skip
  |refine RR.AF (aCy ⟨rfl,hx⟩) ?_;rintro a _ rfl
   first|let _:=jA2|refine RR.AF (aCy ⟨rfl,hy⟩) ?_;rintro b _ rfl;skip
   refine RR.AF (A:=λx x'=>x=x') ?_ ?_
  .first
   |let _:=bC9
    first|let _:=bC2;exact zDn|rename_i t u;have e:rV Y.ρ (.iface t u)=.iface t (rV Y.ρ u):=Oy;rw[e];simp only[Sc]at hy;refine RR.AF (E.ofRtype ⟨rfl,hy⟩) ?_;rintro a _ rfl;refine RR.AF (E.ofRtype ⟨rfl,hx⟩) ?_;rintro b _ rfl;refine RR.AF (hf _ _).eq ?_;rintro c _ rfl;exact RR.AG VR.bool
   |let _:=jA2;cases y<;>simp only[rV]<;>try exact RR.stuck _
    case int k n=>show RR Y _ (Extern.Bytes.asByte (.int k n)) (Extern.Bytes.asByte (.int k n));cases k<;>first|exact RR.stuck _|exact RR.AG rfl
   |refine RR.AF (aVf _ hn) ?_;intro c c' hc;refine RR.AF (RR.aN0 hc) ?_;intro v v' hv;exact RR.asInt hv
  .first
   |let _:=bC9
    first
    |let _:=bC2;refine RR.AF (RR.loadVar u hb) ?_;intro v v' hv;refine RR.AF (aUo t u).eq ?_;rintro d _ rfl;split
     .exact fin (RR.storeVar t ha hv)
     .refine RR.AF (U1 t u).eq ?_;rintro i _ rfl;split
      .refine RR.AF (U2 u).eq ?_;rintro k _ rfl;split
       .have hv0:=hv;obtain⟨rfl,hs⟩:=hv
        cases v'<;>simp only[rV]at hv0⊢<;>first
         |exact fin (RR.storeVar t ha hv0)
         |exact RR.oC _ _
       .exact fin (RR.storeVar t ha hv.iface)
      .refine RR.AF (aAg u).eq ?_;rintro s _ rfl;refine RR.AF (aAg t).eq ?_;rintro s _ rfl;exact fin (Pp.rr (R:=λ_=>False) (λ_ h=>h.elim) _ (aNf _))
    |have e:rV Y.ρ .nilIface=.nilIface:=by simp only[rV]
     rw[e];exact Pp.rr (R:=λ_=>False) (λ_ h=>h.elim) _ (aNf _)
   |let _:=jA2;rintro c _ rfl;split<;>exact RR.AG VR.int
   |rintro m _ rfl;dsimp only;split
    .exact zDn
    .split
     .exact zDn
     .split<;>exact RR.AG VR.int
 .exact zA6):p:=h
theorem zLa(h:p:=by
 obtain⟨x,hx,hxa⟩:=touch_of ha;rcases getElem?_append_cases hx with⟨hi,i7⟩|⟨_,hxu⟩
 .first|let _:=bGq;exact(h.free l hs hr hn hm i a E6 e).imp (·.app u) id|exact(h.free l hs hr hno hm i a E6 e).imp (·.app u) id
 .first
  |let _:=bGq
   first
   |let _:=m76;have:=knows_own hx;rw[(hu x hxu).1]at this;exact .inl this
   |rcases(hu x hxu).2 a hxa with⟨C5,_⟩|⟨ho,_⟩|⟨hr',_⟩|xF
    .exact absurd (e▸C5) hs
    .exact absurd (e▸ho) (hn k)
    .exact absurd (e▸hr') hr
    .rw[<-e,xF]at hm;cases hm
  |rw[hn x hxu]at hxa;cases hxa):p:=h
theorem zLb(h:p:=by
 refine .inl ⟨h1,λq x hx=>?_⟩;rcases wY hx with hx|⟨op,cK,hx⟩
 .exact h2 q x hx
 .first|let _:=bKz;obtain⟨e,he,rfl⟩:=Go.Conc.mem_ofEvents cK;exact(jM e he).2.2.2 x k hx|(rw[hnt op cK]at hx;cases hx)):p:=h
theorem zLc(h:p:=by
 have ek:=aSk top;have ek':((bC Z.ρ fr).kind==CallKind.early)=false:=ek;have hev:=U4 (Y:=Z) fr.fn ho1
 first|let _:=bGr;have hk:=tZ fr [{ v:=v',recovered:=false }]|skip
 obtain⟨e1,e2⟩:=aF8 e
 first|let _:=bGr;have hra:=aF0 Z.ρ fr v';refine .inr ⟨fr.raise [{ v:=v',recovered:=false }],cs,fQ,gr (bC Z.ρ (fr.raise [{ v:=v',recovered:=false }])) (cs.map (bC Z.ρ)++C),w1,seen Z.P fr.fn new,hD,λt' oY=>⟨seen Z.P fr.fn (m'.events Z.P (on u t') #[]),Eb⟩,?_,⟨iU,iM,rfl,top.raise hv,low,last.of hk.1 hk.2⟩,qU,hev⟩;rw[<-hra];exact zC5|exact zI1):p:=h
theorem zLe(h:p:=by have bLg:=0;exact zL9):p:=h
theorem zLf(h:p:=by have bH5:=0;exact zMa):p:=h
theorem zLg(h:p:=by
 rcases Goes.cases h with dO|⟨m',rfl,dL⟩
 .obtain⟨_,aK1⟩:=dO w rf
  first
  |let _:=aXw;obtain⟨ho,rfl,rfl,hvs⟩:=hm.open_inv trivial;obtain⟨hv1,hv2⟩:=hvs vs rfl;have aT9:WgAt X.q.tW X.q.Wg w ((Vc X.nw (D7 D):Nat)*KK) 0:=by simpa[pend]using dK
   obtain⟨aBl,bFb⟩:=aK1 (Vc X.nw (D7 D)) od aT9;by_cases e:Vc X.nw (D7 D)=vs
  |obtain⟨ho,rfl,rfl,_⟩:=hm.open_inv trivial;obtain⟨a',dH,h0,eH⟩:=aK1 (Vc X.nw (D7 D)) od (by simpa[pend]using dK);by_cases hv:Vc X.nw (D7 D)=0
  .first
   |let _:=aXw;obtain⟨a',dH,hk⟩:=aBl e;have sU:=aT9.setSt ((Vc X.nw (D7 D):Nat)*KK+1);have hA:=aside_setCell w (stA X.q.Wg) (.int .u64 ((Vc X.nw (D7 D):Nat)*KK+1));obtain⟨m2,hk⟩:=hk (aDp G aL.cm hA sU);exact aVu (tag':=.w3) (sub':=1) (f':=m2) G L ha aL (kG _) hA sU dH bk_rw (rA8 (dA5 ⟨rfl,rfl,rfl,rfl,rfl,rfl,hk⟩)) (.reg trivial ho od) (lF oe) Om
   |obtain⟨m2,hk⟩:=h0 hv;refine aAs (tag':=.ke) (sub':=0) (f':=m2) G L ha aL (kG _) dK dH (ev1 aE2) (rA8 (rA8 (.inr (.inl ⟨rfl,rfl,rfl,rfl,rfl,rfl,hk⟩)))) ?_ (lF oe) Om;have e:((Vc X.nw (D7 D)+pend .w1:Nat):Int)*KK=0:=by rw[hv];simp[pend]
    rw[e];exact .fin trivial (allQuit_of ho hv)
  .first|let _:=aXw;obtain⟨a',dH,m2,hk⟩:=bFb e;exact aAs (tag':=.anch) (sub':=0) (f':=m2) G L ha aL (kG _) dK dH (ev1 aE2) (rA8 (.inr (.inr (.inl ⟨rfl,rfl,rfl,rfl,rfl,rfl,hk⟩)))) (hm.reopen trivial trivial rfl oe) (lF oe) Om|(obtain⟨m2,hk⟩:=eH hv;exact aAs (tag':=.w2 (Vc X.nw (D7 D))) (sub':=0) (f':=m2) G L ha aL (kG _) dK dH (ev1 aE2) (rA8 (dA4 ⟨_,rfl,rfl,rfl,rfl,rfl,rfl,hk⟩)) (hm.reopen trivial trivial rfl (λvs e=>by cases e;omega)) (lF oe) Om)
 .obtain⟨a',w',es,dH,hd,oH⟩:=dL w rf
  first|let _:=aXw;exact nT G L ha aL (kG _) dK hm dH hd (rA8 (dA4 ⟨vs,rfl,rfl,rfl,rfl,rfl,rfl,oH⟩)) (lF oe) od|exact nT G L ha aL (kG _) dK hm dH hd (rA8 (dA3 ⟨rfl,rfl,rfl,rfl,rfl,rfl,oH⟩)) (lF oe) od):p:=h
theorem zLh(h:p:=by
 refine .inl ?_;rcases Goes.cases h with dO|⟨m',rfl,dL⟩
 .first|let _:=bGu;obtain⟨m2,hk⟩:=L.anch a w (dO w rf);exact(w1M (f0:=m2) G L ha aL dK (hm.reopen trivial trivial rfl oe) hk).lower (vU Om)|obtain⟨_,a',dH,m2,hk⟩:=dO w rf;exact aAs (tag':=.anch) (sub':=0) (f':=m2) G L ha aL (kG _) dK dH (ev1 aMp) (rA8 (.inr (.inr (.inl ⟨rfl,rfl,rfl,rfl,rfl,rfl,hk⟩)))) (hm.reopen trivial trivial rfl oe) (lF oe) Om
 .obtain⟨a',w',es,dH,hd,oH⟩:=dL w rf
  first|let _:=bGu;exact nT G L ha aL (kG _) dK hm dH hd (rA8 (.inr (.inr (.inl ⟨rfl,rfl,rfl,rfl,rfl,rfl,oH⟩)))) (lF oe) od|exact nT G L ha aL (kG _) dK hm dH hd (rA8 (.inr (.inl ⟨rfl,rfl,rfl,rfl,rfl,rfl,oH⟩))) (lF oe) od):p:=h
theorem zLj(h:p:=by
 simp only[Option.bind_eq_bind,Option.bind_eq_some_iff,Option.pure_def,AI]at h
 first
 |let _:=bL1
  first|let _:=bKg;obtain⟨_,_,_,_,rfl⟩:=h;skip|obtain⟨_,_,rfl⟩:=h;skip
 |obtain⟨_,_,_,_,_,_,_,_,rfl⟩:=h;skip
 exact aNp jd):p:=h
theorem zLm(h:p:=by
 rcases getElem?_append_cases hi with⟨_,dN⟩|⟨_,hiu⟩
 .exact h.gs i op dN
 .first
  |let _:=bL3
   first|let _:=bKl;rw[hu op hiu];exact hg|rw[(hu op hiu).1];exact kI _
  |rw[(hu op hiu).1];exact kj):p:=h
theorem zLn(h:p:=by
 obtain⟨sb,bM6,hsa,hsX,hsc⟩:=h.base.sl od;obtain⟨s0,s1,s2⟩:=hsc i hi;have c6:=h.base.c6;rw[hsa]at c6;have hsl:=h.base.lx _ hsX;have qN:=h.base.lc;have ii:(i:Int)<(p.ns:Int):=od;rw[hw]at s0;obtain⟨FR,hFR⟩:∃FR,p.fr i=FR:=⟨_,rfl⟩;obtain⟨TD,hTD⟩:∃TD,p.td i=TD:=⟨_,rfl⟩;rw[hFR]at s1;rw[hTD]at s2;have HFR:Hid (p.fr i=FR):=hFR;obtain⟨V,hVe⟩:∃V,V=(((w.alloc (.cells #[iI 0,iI 0,iI 0,iI 0,iI 0,sT ⟨#[]⟩] 191)).alloc (.cells #[iI AE,iI FR,iI TD] 120)).alloc (.cells #[iI AE,iI i,iI 0,iI (-1),iI 0,sT ⟨#[]⟩] 191)):=⟨_,rfl⟩;obtain⟨bR,bS,bF,zR,zF,vH,hsz⟩:=aIs w _ _ _ _ _ _ _ _ _ _ _ _ _ _ _ _ _ _ V hVe
 first|let _:=bL4;have bCb:=0;exact zMq|have bC7:=0;exact zMq):p:=h
theorem zLo(h:p:=by have bLi:=0;exact zMd):p:=h
theorem zLs(h:p:=by
 obtain⟨j,rfl⟩:∃j:Nat,x=j:=⟨x.toNat,od⟩
 first
 |let _:=aXx;refine(eK.put j tx hcd od od).mono λe u ⟨he,O1,hf,L6⟩=>?_
 |obtain⟨i,rfl⟩:∃i:Nat,y=i:=⟨y.toNat,od⟩;have hj:j<st.aO.n:=od;have hi:i<st.aO.nl:=od;have aSx:aX (st.aO.lt i) j=true:=by simpa using G4
  refine(eK.recv j i hcd hj hi aSx).mono λe u ⟨he,O1,hf,L6⟩=>?_
 have hf':aR O O1 V u:=⟨hf.os,hf.tape,hf.output,hf.size,hf.block,hf.fresh⟩;obtain⟨q1,q2⟩:=(hs.later (kU N)).bAs hf' (by rw[fN];exact λq=>by cases q) L6 od
 first|let _:=aXx;refine⟨c.putK st.aO j tx,O1,he,hf',λhk u' hu=>?_,λhk u' hu=>?_⟩|refine⟨yA (c.aT i j),recvD (c.aT i j),O1,he,hsm.recvD i j,hf',λhk u' hu=>?_,λhk u' hu=>?_⟩
 .first|let _:=aXx;exact⟨_,.ok Kd.vY.name,M,O1,A,⟨fa,cs,c,rd,T,fN,.inl ⟨j,rfl,od,rfl,by rw[kK hk]⟩⟩,rfl,((aR.of_below hB).trans q2).trans (aR.of_below hu),q1.below hu⟩|exact⟨_,.ok (⟨#[105,115,32]⟩++recvD (c.aT i j)),M,O1,A,⟨fa,cs,c,rd,T,fN,.inl ⟨j,i,rfl,rfl,⟨hj,hi,aSx⟩,rfl,by rw[kK hk]⟩⟩,rfl,((aR.of_below hB).trans q2).trans (aR.of_below hu),q1.below hu⟩
 .first|let _:=aXx;exact⟨_,.err (c.putK st.aO j tx),M,O1,A,⟨fa,cs,c,rd,T,fN,.inl ⟨j,rfl,od,rfl,by rw[kJ hk]⟩⟩,rfl,((aR.of_below hB).trans q2).trans (aR.of_below hu),q1.below hu⟩|exact⟨_,.err (yA (c.aT i j)),M,O1,A,⟨fa,cs,c,rd,T,fN,.inl ⟨j,i,rfl,rfl,⟨hj,hi,aSx⟩,rfl,by rw[kJ hk]⟩⟩,rfl,((aR.of_below hB).trans q2).trans (aR.of_below hu),q1.below hu⟩):p:=h
theorem zL3(h:p:=by
 refine wp_region_held_drew (S:=λu=>u.cell? (aA w.1.size 0)=some (iI AA)/\u.cell? (aA w.1.size 1)=some (iI aG)) oh oz (λaF=>?_)
 first|let _:=bLc;exact zMt|exact zMu):p:=h
theorem zL5(h:p:=by
 refine wp_region_held_drew (S:=λu=>u.cell? (aA w.1.size 2)=some (iI lb)/\u.cell? (aA w.1.size 3)=some (iI lq)) oh oz (λaF=>?_)
 first|let _:=bLe;have aXs:=0;exact zMt|have bH7:=0;exact zMt):p:=h
theorem zL6(h:p:=by
 first|let _:=m43;refine .inl ?_|skip
 rcases Goes.cases h with dO|⟨m',rfl,dL⟩
 .first
  |let _:=bH3;obtain⟨_,a',dH,m2,hk⟩:=dO w rf
   first
   |let _:=bGn
    first|let _:=m43;obtain⟨hq,rfl,rfl⟩:=hm.fin_inv trivial;exact aAs (tag':=.acq) (sub':=0) (f':=m2) G L ha aL (kG _) dK dH (ev1 aJu) (rA8 (rA8 (.inr (.inr ⟨rfl,rfl,rfl,rfl,rfl,rfl,hk⟩)))) (.fin trivial hq) (lF oe) Om|exact aAs (tag':=.sp j 1) (sub':=0) G L ha aL od dK dH (ev1 aJu) (dA5 ⟨rfl,rfl,hj,rfl,rfl,rfl,hk⟩) (bCy 1 od) (nx od) (lt od)
   |let _:=m43;exact aAs (tag':=.w3) (sub':=0) (f':=m2+1) G L ha aL (kG _) dK dH (ev1 (dA3 rfl)) (rA8 (dA6 ⟨rfl,rfl,rfl,rfl,rfl,rfl,m2,rfl,hk⟩)) hm (lF oe) Om
   |exact aAs (tag':=.sp j 4) (sub':=0) G L ha aL od dK dH (ev1 aMp) (.inr (.inr (.inl ⟨rfl,rfl,hj,rfl,rfl,rfl,hk⟩))) (bCy 4 od) (nx od) (lt od)
  |let _:=m43;obtain⟨_,hof,hblk,bJj⟩:=dO w rf;have bHk:∀{st0:Int},WgAt X.q.tW X.q.Wg w st0 0->Go.ConcN.Mode X.nw (D7 D) .blk st0 0->gY X (runT X.P (crowd gs w sl) 0) (mu X .w3 0 X.nw (m+1) D qf) t:=λhw0 hm0=>callerStep (tag':=.blk) (sub':=0) (f':=0) G L ha aL (kG _) (hblk ⟨_,hw0⟩) (.refl G aL.cm λ_ x=>x.elim) rfl oe (rA8 (dA7 ⟨rfl,rfl,rfl,rfl,rfl,rfl,rfl,a,rfl,dO⟩)) hw0 hm0 (lF oe) (.inr ⟨rfl,od⟩)
   cases hm with
   |opn p1 _ _=>exact p1.elim
   |reg p1 p2 p3=>exact bHk dK (.reg trivial p2 p3)
   |last N p1 p2 p3 p4=>exact bHk dK (.last N trivial p2 p3 p4)
   |sema p2=>
    obtain⟨a',dH,hk⟩:=bJj dK
    have sU:=dK.setSm 0
    have hA:=aside_setCell w (smA X.q.Wg) (.int .u32 0)
    obtain⟨m2,hk⟩:=hk (aDp G aL.cm hA sU)
    exact aVu (tag':=.w4) (sub':=0) (f':=m2) G L ha aL (kG _) hA sU dH bk_sem (rA8 (dA8 ⟨rfl,rfl,rfl,rfl,by simp[deafBehind,semEvents],rfl,hk⟩)) (.fin trivial p2) (lF oe) Om
   |fin p1 _=>exact p1.elim
   skip
  |obtain⟨_,aK1⟩:=dO w rf;obtain⟨ho,rfl,rfl,_⟩:=hm.open_inv trivial;have hV:=Vc_le j (D7 D);have hn:=L.nw.2;have aT9:WgAt X.q.tW X.q.Wg w ((Vc j (D7 D):Nat)*KK) 0:=by simpa[pend]using dK
   obtain⟨a',dH,hk⟩:=aK1 (Vc j (D7 D)) od aT9;have sU:=aT9.setSt (((Vc j (D7 D):Nat)+1)*KK);have hA:=aside_setCell w (stA X.q.Wg) (.int .u64 (((Vc j (D7 D):Nat)+1)*KK));obtain⟨m2,hk⟩:=hk (aDp G aL.cm hA sU);refine aVu (tag':=.sp j 3) (sub':=0) (f':=m2) G L ha aL od hA sU dH bk_rw (dA3 ⟨rfl,rfl,hj,rfl,rfl,rfl,hk⟩) ?_ (nx od) (lt od);have e:(((Vc j (D7 D):Nat):Int)+1)*KK=((Vc j (D7 D)+pend (.sp j 3):Nat):Int)*KK:=by simp[pend]
   rw[e];exact .opn trivial ho oe
 .obtain⟨a',w',es,dH,hd,oH⟩:=dL w rf
  first
  |let _:=bH3
   first
   |let _:=bGn
    first|let _:=m43;exact nT G L ha aL (kG _) dK hm dH hd (rA8 (rA8 (.inr (.inl ⟨rfl,rfl,rfl,rfl,rfl,rfl,oH⟩)))) (lF oe) od|exact nT G L ha aL od dK hm dH hd (dA4 ⟨rfl,rfl,hj,rfl,rfl,rfl,oH⟩) (nx od) od
   |let _:=m43;exact nT G L ha aL (kG _) dK hm dH hd (rA8 (dA5 ⟨rfl,rfl,rfl,rfl,rfl,rfl,oH⟩)) (lF oe) od
   |exact nT G L ha aL od dK hm dH hd (.inr (.inl ⟨rfl,rfl,hj,rfl,rfl,rfl,oH⟩)) (nx od) od
  |let _:=m43;exact nT (f':=m'+1) G L ha aL (kG _) dK hm dH hd (rA8 (dA6 ⟨rfl,rfl,rfl,rfl,rfl,rfl,m',rfl,oH⟩)) (lF oe) od
  |exact nT G L ha aL od dK hm dH hd (.inr (.inr (.inl ⟨rfl,rfl,hj,rfl,rfl,rfl,oH⟩))) (nx od) od):p:=h
theorem zL9(h:p:=by
 rintro args dV h;by_cases hz:dV.size=1
 .obtain⟨x,rfl⟩:=aEr hz;obtain⟨rfl,hx⟩:=h.single
  first
  |let _:=bLg
   first
   |let _:=bL0
    first|let _:=bK6;refine RR.AF (E.ofHandle ⟨rfl,hx⟩) ?_;rintro t _ rfl;refine RR.AF (aHp _ t).eq ?_;rintro _ _ _;skip|refine RR.AF (E.ofRtype ⟨rfl,hx⟩) ?_;rintro t _ rfl;skip
    exact hf t
   |cases x<;>try exact RR.stuck _
    first
    |let _:=m92
    |rename_i k n;have e:rV Y.ρ (.int k n)=.int k n:=Oy;rw[e];cases k<;>try exact RR.stuck _
     unfold Extern.BytealgMakeNoZero.makeNoZero;dsimp only;split
    .first
     |let _:=m92;rename_i t v;have e:rV Y.ρ (.iface t v)=.iface t (rV Y.ρ v):=Oy;rw[e];exact E.toType t
     |refine RR.AF (RR.underlying _) ?_;rintro d _ ⟨rfl,_⟩;split
      .split
       .exact zEq
       .refine RR.AF (RR.choose _) ?_;rintro c _ rfl;refine RR.AF (I3 _) ?_;intro _ _ _;refine RR.AF (RR.choose _) ?_;rintro b _ rfl;refine RR.AF (RR.newRow _ (VR.lits λv hv=>VR.zero (Y9 _ _ _ oe v hv))) ?_;exact λa a' ha=>RR.AG ha.row
      .exact J7
    .first
     |let _:=m92;have e:rV Y.ρ .nilIface=.nilIface:=by simp only[rV]
      rw[e];exact RR.AG VR.lit
     |exact J7
  |exact RR.AG ⟨rfl,hx⟩
 .exact zFm):p:=h
theorem zMa(h:p:=by
 refine⟨⟨rfl,λx hx=>?_⟩,?_,oe⟩
 .simp only[ofEvent_cell,MemAct.touch?,AI]at hx;subst hx
  first
  |let _:=bH5
   first
   |let _:=bGt
    first|let _:=bGc;exact .inr (.inl ⟨⟨i,hi,rfl,.inr (.inr ⟨k,(hc k hk).1,(hc k hk).2,rfl⟩)⟩,rfl⟩)|exact zEm
   |let _:=bK5;exact .inl ⟨⟨a,rfl,ha⟩,oe,oe⟩
   |exact .inr (.inr (.inl ⟨⟨a,rfl,.inr (.inr (.inr ⟨h1,h2⟩))⟩,rfl,rfl⟩))
  |rcases ha with ha|ha|ha|ha
   .exact .inr (.inr (.inl ⟨⟨a,rfl,.inl ha⟩,rfl,rfl⟩))
   .exact .inr (.inr (.inl ⟨⟨a,rfl,.inr (.inl ha)⟩,rfl,rfl⟩))
   .exact zEm
   .exact .inr (.inr (.inl ⟨⟨a,rfl,.inr (.inr (.inl ha))⟩,rfl,rfl⟩))
 .first
  |let _:=bH5
   first
   |let _:=bGt
    first|let _:=bGc;show X.q.row<B;omega|show a.block<B;exact(hM _ ha).2
   |show a.block<B;omega
  |show a.block<B;rcases ha with ha|ha|ha|ha
   .omega
   .omega
   .exact(hM _ ha).2
   .omega):p:=h
theorem zMb(h:p:=by
 refine .inl λt' ht=>?_;obtain⟨es',hl⟩:=hl (on w' t')
 first|let _:=bLh;obtain⟨o,v,es,e⟩:=aSw x (on u t') hb;skip|obtain⟨o,v,es,e⟩:=q t';skip
 exact⟨o,v,_,hl.trans (by rw[dY t' ht,reT,e];rfl)⟩):p:=h
theorem zMf(h:p:=by
 have kb:w3.1[b]?=V.1[b]?:=(hg.block b ol (λe=>hvb e.symm)).trans (Below.heap_alloc V _ b xC);have kS:w3.1[S]?=V.1[S]?:=(hg.block S ol (λe=>hvS e.symm)).trans (Below.heap_alloc V _ S hSl)
 first|let _:=bLk;exact⟨(jC (a:=(aA b off)) kb).trans n0,(jC (a:=(aA b (off+1))) kb).trans n1,(jC (a:=(aA b (off+2))) kb).trans n2,(jC (a:=(aA S 11)) kS).trans c0,(World.frozen?_of_block (a:=(aA S 11)) kS).trans z0⟩|exact⟨(jC (a:=(aA b off)) kb).trans n0,(jC (a:=(aA b (off+1))) kb).trans n1,(jC (a:=(aA b (off+2))) kb).trans n2,(jC (a:=(aA S 12)) kS).trans c0,(World.frozen?_of_block (a:=(aA S 12)) kS).trans z0⟩):p:=h
theorem zMh(h:p:=by
 have hsw:w.1.size+1<V.1.size:=od;have ww:(AE:Int)<(n:Int):=od;rw[hpn]at c13;have HVE:Hid (V=_):=hVe;clear hse bR bS bF zR zF vH hsz hVe h hc hFR hTD hpn hwn hn pA hsa hsc hw hi hsX
 first
 |let _:=bLm;have HS:Hid (gA (s.AA AE).g (s.AA AE).b (s.AA AE).fz=true):=hs;rw[hs,kK rfl]at C6;obtain⟨M,hM⟩:∃M,bA (s.AA AE).t p.n=M:=⟨_,rfl⟩;have HM:Hid (bA (s.AA AE).t p.n=M):=hM;rw[hM]at C6;clear hM;have HB9:Hid ((1<=p.round/\p.round<=137438953472/\0<=rd/\0<=p.fr i/\p.fr i<=1099511627776/\p.nl<=8/\B<=9999990)/\∀k,k<p.nl->0<=p.lf k/\0<=p.lb k/\p.lb k<=1099511627776):=⟨⟨C4,pF,hrd,hf0,d9,hnl,hB⟩,uU⟩;clear C4 pF hrd hf0 d9 hnl hB uU
  first
  |let _:=bKm
   first
   |let _:=m2;have k1:(mode==1)=false:=by simpa using hm1
    have k2:(mode==2)=false:=by simpa using hm2
    clear hm1 hm2
   |skip
   exact zAb
  |subst hm;exact zF3
 |first|let _:=m4;have HS:Hid (gA (s.AA AE).g (s.AA AE).b (s.AA AE).fz=false):=hs;rw[hs,kJ og]at C6|have HS:Hid (gA (s.AA AE).g (s.AA AE).b (s.AA AE).fz=true):=hs;rw[hs,kK rfl]at C6;obtain⟨M,hM⟩:∃M,bA (s.AA AE).t p.n=M:=⟨_,rfl⟩;have HM:Hid (bA (s.AA AE).t p.n=M):=hM;rw[hM]at C6;clear hM;subst hm
  exact zJ7):p:=h
theorem zMk(h:p:=by refine tk 0 aF ?_;exact zMs):p:=h
theorem zMn(h:p:=by have bLv:=0;exact zMs):p:=h
theorem zMo(h:p:=by
 have hE:Hid (bZ AA aG aM aC aJ round frame ns nl nw=4):=aP0 h1.out h2.out h3.out od
 first
 |let _:=bLs
  first|let _:=bKc;clear d3|clear d2
 |clear d1
 exact zE4):p:=h
theorem zMt(h:p:=by have bH8:=0;exact zMu):p:=h
theorem zzM(h:p:=by first|exact zzL|(constructor<;>first|exact zzL|(constructor<;>first|exact zzL|(constructor<;>exact zzL)))):p:=h
theorem dA3{a0 a1 a2 b c:Prop}(h:b):a0\/a1\/a2\/b\/c:=.inr (.inr (.inr (Or.inl h)))
theorem dA4{a0 a1 a2 a3 b c:Prop}(h:b):a0\/a1\/a2\/a3\/b\/c:=.inr (.inr (.inr (.inr (Or.inl h))))
theorem dA5{a0 a1 a2 a3 a4 b c:Prop}(h:b):a0\/a1\/a2\/a3\/a4\/b\/c:=.inr (.inr (.inr (.inr (.inr (Or.inl h)))))
theorem dA6{a0 a1 a2 a3 a4 a5 b c:Prop}(h:b):a0\/a1\/a2\/a3\/a4\/a5\/b\/c:=.inr (.inr (.inr (.inr (.inr (.inr (Or.inl h))))))
theorem dA7{a0 a1 a2 a3 a4 a5 a6 b c:Prop}(h:b):a0\/a1\/a2\/a3\/a4\/a5\/a6\/b\/c:=.inr (.inr (.inr (.inr (.inr (.inr (.inr (Or.inl h)))))))
theorem dA8{a0 a1 a2 a3 a4 a5 a6 a7 b c:Prop}(h:b):a0\/a1\/a2\/a3\/a4\/a5\/a6\/a7\/b\/c:=.inr (.inr (.inr (.inr (.inr (.inr (.inr (.inr (Or.inl h))))))))
theorem rA3{a0 a1 a2 b:Prop}(h:b):a0\/a1\/a2\/b:=.inr (.inr (.inr (h)))
theorem rA4{a0 a1 a2 a3 b:Prop}(h:b):a0\/a1\/a2\/a3\/b:=.inr (.inr (.inr (.inr (h))))
theorem rA7{a0 a1 a2 a3 a4 a5 a6 b:Prop}(h:b):a0\/a1\/a2\/a3\/a4\/a5\/a6\/b:=.inr (.inr (.inr (.inr (.inr (.inr (.inr (h)))))))
theorem rA8{a0 a1 a2 a3 a4 a5 a6 a7 b:Prop}(h:b):a0\/a1\/a2\/a3\/a4\/a5\/a6\/a7\/b:=.inr (.inr (.inr (.inr (.inr (.inr (.inr (.inr (h))))))))
