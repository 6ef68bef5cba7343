import Derived.Test.YtknimkfdnanejaaGreatDoorZA
set_option maxRecDepth 100000
namespace Go.Proofs.YtknimkfdnanejaaGreatDoor
variable {p:Prop}
theorem od(h:p:=by omega):p:=h
theorem oe(h:p:=by decide):p:=h
theorem oh(h:p:=by simp):p:=h
theorem ol(h:p:=by simp;omega):p:=h
theorem om(h:p:=by intro y;cases y):p:=h
theorem oo(h:p:=by unfold maxLen;omega):p:=h
theorem oq(h:p:=by rfl):p:=h
theorem ot(h:p:=by simp[intOf];omega):p:=h
theorem ou(h:p:=by rw[<-hV];simp[go_sem]):p:=h
theorem oy(h:p:=by simp[results,results94,go_sem]):p:=h
theorem Oa(h:p:=by rw[yP (hs.r.bM b off e h0).2 (hs.r.bM b off e h0).1];exact(hs.r.bM b off e h0).2):p:=h
theorem Ob(h:p:=by rw[yP (hs.r.bD b off e h0).2 (hs.r.bD b off e h0).1];exact(hs.r.bD b off e h0).2):p:=h
theorem Oc(h:p:=by simp[Value.oneCell']):p:=h
theorem Od(h:p:=by rw[aDc.out];exact aNi.out):p:=h
theorem Oe(h:p:=by assumption):p:=h
theorem Og(h:p:=by unfold maxLen;decide):p:=h
theorem Oh(h:p:=by simp;try omega):p:=h
theorem Oj(h:p:=by have:=hc 0 oh;simpa using this):p:=h
theorem jA0(h:p:=by simp[results,results94,go_sem,s0,s1,hzr]):p:=h
theorem Ol(h:p:=by have:=HLO.out;simp;omega):p:=h
theorem Om(h:p:=by show w.heap.size<=w.heap.size+1;omega):p:=h
theorem Oo(h:p:=by show w.heap.size<=w.heap.size+1+1;omega):p:=h
theorem Oq(h:p:=by simp[results,results94,go_sem,v0,v1,hzv]):p:=h
theorem Ot(h:p:=by obtain⟨_,_,q⟩:=q;exact sJ q hs.blk oe):p:=h
theorem Ou(h:p:=by intro e;cases e):p:=h
theorem Ov(h:p:=by have:=HX.out.2;omega):p:=h
theorem Ow(h:p:=by simp[results,results105,go_sem]):p:=h
theorem Ox(h:p:=by simp[results,results127,go_sem,w0,w1,w2,w3,w4,w5];rfl):p:=h
theorem Oy(h:p:=by cases h):p:=h
theorem Oz(h:p:=by rw[h.ob];exact kQ):p:=h
theorem ec(h:p:=by simp[results,results173,go_sem]):p:=h
theorem ed(h:p:=by simp[results,results52,go_sem,c0,c1]):p:=h
theorem jA1(h:p:=by simpa using hc):p:=h
theorem ef(h:p:=by have:=A4.out.size;simp;omega):p:=h
theorem eh(h:p:=by cases q):p:=h
theorem eo(h:p:=by rw[<-hV];simp):p:=h
theorem ep(h:p:=by have:=qR.out.lt;simp;omega):p:=h
theorem jA2(h:p:=by simp[go_sem]):p:=h
theorem eu(h:p:=by show w.heap.size≠_;omega):p:=h
theorem ew(h:p:=by show w.heap.size+1+1<_;have:=HX.out.2;omega):p:=h
theorem jA3(h:p:=by have:=hg.size;simp at this;omega):p:=h
theorem ey(h:p:=by rw[mP];rfl):p:=h
theorem Ea(h:p:=by simpa using y):p:=h
theorem Eb(h:p:=by show w.heap.size<_;have:=HX.out.2;omega):p:=h
theorem Ec(h:p:=by rw[HTK.out,aLi,hnu.out,hnp];rfl):p:=h
theorem Ed(h:p:=by unfold lJ.nG;rw[aNh.out,wU,kJ rfl,aS8.out,kJ hwm]):p:=h
theorem Ee(h:p:=by rw[lN];rfl):p:=h
theorem Ef(h:p:=by rw[HL.out];omega):p:=h
theorem Eg(h:p:=by have:=HX.out.2;have:=A8.out.size;omega):p:=h
theorem Eh(h:p:=by rw[hb.cell ol];simp):p:=h
theorem Ei(h:p:=by rintro(q|q);cases q;exact absurd q.1 (kT _)):p:=h
theorem Ej(h:p:=by show Ending.returned (iI (min (max x (-most)) most))=Ending.returned (iI _);congr 2;omega):p:=h
theorem Ek(h:p:=by simpa using h.lp):p:=h
theorem El(h:p:=by rw[World.frozen?_alloc_old _ _ t ol,World.frozen?_alloc_old _ _ t ol,World.frozen?_alloc_old _ _ t ol,World.frozen?_alloc_old _ _ t (Nat.ne_of_lt htl)];exact hf0):p:=h
theorem Em(h:p:=by have:=HX.out.2.2.2;omega):p:=h
theorem En(h:p:=by simp[results,results214,go_sem]):p:=h
theorem Eo(h:p:=by rw[qP];exact A8.out.drawn q2):p:=h
theorem Ep(h:p:=by rw[aDc.out];exact aS7.out):p:=h
theorem Er(h:p:=by have:=HLQ.out;omega):p:=h
theorem Es(h:p:=by cases e):p:=h
theorem Et(h:p:=by rw[h.ob];simp[e]):p:=h
theorem Eu(h:p:=by have:=HN.out;omega):p:=h
theorem Ev(h:p:=by cases hx;exact hgS):p:=h
theorem Ew(h:p:=by rw[HNO.out];rfl):p:=h
theorem Ex(h:p:=by intro y;cases y;exact e rfl):p:=h
theorem Ey(h:p:=by show _=_;unfold cA.sends;rw[bAt.out,hmo];simp):p:=h
theorem Ez(h:p:=by rw[List.length_map,List.length_range];omega):p:=h
theorem o4(h:p:=by simp[results,results100,go_sem,c0,c1]):p:=h
theorem o5(h:p:=by rw[World.cell?_alloc_lt _ _ t ol,World.cell?_alloc_lt _ _ t ol,World.cell?_alloc_lt _ _ t ol,World.cell?_alloc_lt _ _ t htl];exact ht0):p:=h
theorem o7(h:p:=by rw[hV,aP6];simp):p:=h
theorem o8(h:p:=by rw[cJ (qY.out b off e h0)];obtain⟨_,cs,fr,q⟩:=HR.out.2 b off e h0;exact⟨cs,fr,(HB.out.block b (cW q)).trans q⟩):p:=h
theorem o9(h:p:=by rw[aM ((dB.block _ (cW hbp)).trans hbp) rfl];rfl):p:=h
theorem O0(h:p:=by rw[aDc.out];exact H7):p:=h
theorem O7(h:p:=by rw[h.ob];exact kO _ z):p:=h
theorem O8(h:p:=by simp[results,results172,go_sem]):p:=h
theorem E0(h:p:=by simp[results,results170,go_sem]):p:=h
theorem E4(h:p:=by rw[aDc.out];exact q):p:=h
theorem E5(h:p:=by rw[HN.out];exact hlt):p:=h
theorem E6(h:p:=by rw[HM.out];exact hlt):p:=h
theorem E7(h:p:=by rw[HE.out,HMV.out];rfl):p:=h
theorem E8(h:p:=by rw[h.ob,e];exact kQ):p:=h
theorem E9(h:p:=by have:=zK iP oe om;rw[h1.prt.1]at this;exact this):p:=h
theorem ja(h:p:=by intro u hu;simp at hu;subst hu;rfl):p:=h
theorem jb(h:p:=by simpa using hsz):p:=h
theorem jc(h:p:=by rw[qS];omega):p:=h
theorem jd(h:p:=by rw[IntKind.wrap_i64];omega):p:=h
theorem je(h:p:=by simp_all):p:=h
theorem jf(h:p:=by simp[IntKind.wrap,IntKind.bits,IntKind.signed];omega):p:=h
theorem jg(h:p:=by have:=hnu.out;rwa [List.take_of_length_le Er]at this):p:=h
theorem jh(h:p:=by rw[e];exact kQ):p:=h
theorem ji(h:p:=by rw[HL.out];exact hlt):p:=h
theorem jk(h:p:=by simp[results,results46,go_sem,a0',a1']):p:=h
theorem jl(h:p:=by rw[hj];exact aDt.zZ j (gG.keep hcu (Same.of_below (bdN V 1) (gG.lt hcu))) hjn):p:=h
theorem jm(h:p:=by rw[e];exact kK (.inl h.r.s)):p:=h
theorem jn(h:p:=by simp[e]):p:=h
theorem jo(h:p:=by rw[jR,kJ hme];rfl):p:=h
theorem jp(h:p:=by rw[jR,kI hme];rfl):p:=h
theorem jq(h:p:=by rw[qP];exact⟨H3.out,⟨rfl,rfl,rfl,kF _,fun _ _=>rfl⟩,HTB.out.lB⟩):p:=h
theorem jr(h:p:=by rw[List.getD_eq_getElem?_getD,List.getElem?_eq_getElem E6];exact List.getElem_mem _):p:=h
theorem js(h:p:=by rw[List.getD_eq_getElem?_getD,List.getElem?_eq_getElem E5];exact List.getElem_mem _):p:=h
theorem jt(h:p:=by rw[List.getD_eq_getElem?_getD,List.getElem?_eq_getElem q];exact List.getElem_mem _):p:=h
theorem ju(h:p:=by simpa using hj):p:=h
theorem jv(h:p:=by show C<_;omega):p:=h
theorem jw(h:p:=by rw[jX];omega):p:=h
theorem jx(h:p:=by rw[HM.out];rw[List.take_of_length_le (Nat.le_of_eq HM.out)]at bK;exact bK):p:=h
theorem jy(h:p:=by show w.heap.size<_;omega):p:=h
theorem jz(h:p:=by repeat(first|exact kX _ _|refine Below.drew ?_|refine bal ?_ _)):p:=h
theorem j4(h:p:=by simpa using e):p:=h
theorem j5(h:p:=by rw[hM b (h.bM b off e h0).1 (dM (h.bM b off e h0).2)];exact(h.bM b off e h0).2):p:=h
theorem j6(h:p:=by rw[hM b (h.bD b off e h0).1 (dM (h.bD b off e h0).2)];exact(h.bD b off e h0).2):p:=h
theorem j7(h:p:=by rw[HM.out];omega):p:=h
theorem j8(h:p:=by intro y;cases y;exact e ⟨rfl,rfl⟩):p:=h
theorem j9(h:p:=by rw[aM ((dB.block _ (cW yE.out)).trans yE.out) rfl];rfl):p:=h
theorem Ja(h:p:=by rw[HV.out];rfl):p:=h
theorem Jb(h:p:=by rw[HE.out];rfl):p:=h
theorem Jc(h:p:=by simp[sA,F6];omega):p:=h
theorem Jd(h:p:=by rw[h.ob];simp):p:=h
theorem Je(h:p:=by rw[HL.out.2];exact hlt):p:=h
theorem Jf(h:p:=by rw[<-hV];exact heap_alloc_new w _):p:=h
theorem Jg(h:p:=by simp only[List.mem_cons];exact .inr (.inr (.inr (.inr (.inr hc))))):p:=h
theorem Jh(h:p:=by rw[<-hV];exact(kX w.heap.size w).alloc (kF _) _):p:=h
theorem Ji(h:p:=by rw[hb.frozen oh];simp):p:=h
theorem Jj(h:p:=by rw[mX];simp;omega):p:=h
theorem Jk(h:p:=by rw[aM ((dB.block _ (cW ht7)).trans ht7) rfl];rfl):p:=h
theorem Jl(h:p:=by rw[cJ (qY.out b off e h0)];exact(HR.out.2 b off e h0).2):p:=h
theorem Jm(h:p:=by simp at hlen;omega):p:=h
theorem Jn(h:p:=by repeat(first|exact kX _ _|refine Below.drew ?_)):p:=h
theorem Jo(h:p:=by have:=HL.out;omega):p:=h
theorem Jp(h:p:=by rw[HS.out];rfl):p:=h
theorem Jq(h:p:=by have:=Z2.out.2.2;simp;omega):p:=h
theorem Jr(h:p:=by rw[hb.cell oh];simp):p:=h
theorem zAb(h:p:=by have m20:=0;exact zI8):p:=h
theorem zAc(h:p:=by have m3:=0;exact zIr):p:=h
theorem zAg(h:p:=by have qG:V.heap.size<=(w3.setCell (aA S 7) (sL g (st.aI.nl+1) c)).heap.size:=jb;have yP:∀{x:Nat},(∃cs fr,V.heap[x]?=some (.cells cs 3 fr))->x∈M->(w3.setCell (aA S 7) (sL g (st.aI.nl+1) c)).heap[x]?=V.heap[x]?:=fun q h2=>R6 _ (hs.r.hi _ h2) Ot (hty q oe);have hgM:g∈M\/g=V.heap.size+1:=jW.imp (hs.r.bL g) id;exact zO8):p:=h
theorem zAh(h:p:=by have qG:V.heap.size<=(w3.setCell (aA S 6) (sL g (st.aI.ns+1) c)).heap.size:=jb;have yP:∀{x:Nat},(∃cs fr,V.heap[x]?=some (.cells cs 3 fr))->x∈M->(w3.setCell (aA S 6) (sL g (st.aI.ns+1) c)).heap[x]?=V.heap[x]?:=fun q h2=>R6 _ (hs.r.hi _ h2) Ot (hty q oe);have hgM:g∈M\/g=V.heap.size+1:=jW.imp (hs.r.bS g) id;have m96:=0;exact zO8):p:=h
theorem zAj(h:p:=by refine dn ?_;exact zG1):p:=h
theorem zAm(h:p:=by have m41:=0;exact zJt):p:=h
theorem zAn(h:p:=by generalize n.getD 0 0=y0 at n0 hM;generalize n.getD 1 0=y1 at n1 hM;generalize n.getD 2 0=y2 at n2 hM;generalize n.getD 3 0=y3 at n3 hM;generalize n.getD 4 0=y4 at n4 hM;have m62:=0;exact zKe):p:=h
theorem zAo(h:p:=by have m24:=0;exact zNa):p:=h
theorem zAq(h:p:=by have m25:=0;exact zJd):p:=h
theorem zAr(h:p:=by
 have HI:Hid (gW (aZ (c.nodes j).t st.aI.n)):=by
  have h1:=mO (c.nodes j).t st.aI.n;have h2:=lF.aI.bounds.n2;have h3:st.aI.n<=16:=by show st.aI.nodes.toNat<=16;omega
  have h4:(2:Int)^st.aI.n<=2^16:=by exact_mod_cast Nat.pow_le_pow_right (by decide:0<2) h3
  have h5:(2:Int)^16=65536:=oe;exact zHx
 generalize aZ (c.nodes j).t st.aI.n=bv at *;clear hj hjn hfz dI;have m31:=0;exact zJj):p:=h
theorem zAu(h:p:=by have jA4:=0;exact zJk):p:=h
theorem zAw(h:p:=by have m69:=0;exact zKl):p:=h
theorem zAz(h:p:=by
 rintro e w' ⟨rfl,v',h',ht,jW⟩;refine⟨rfl,_,⟨v',h',rfl⟩,?_⟩;refine⟨ht.os,ht.tape,ht.output,ht.size,fun c hc hn=>?_,fun c hc=>?_⟩
 ·have hP:c≠P:=fun y=>hn (kM (.inl y));refine ht.block c hc hP ?_
  cases e:v.ownBlock with
  |none=>exact hP
  |some g=>
   intro y
   refine hn (kM (.inr ?_))
   rw[e,y]
   exact List.mem_singleton.2 rfl
 ·rcases kN hc with y|y
  ·exact .inl (kM (.inl y))
  ·rcases jW with z|⟨g,hg,z⟩
   ·rw[z]at y;exact .inl (kM (.inr y))
   ·rw[z]at y;have:c=g:=Ea;exact .inr od):p:=h
theorem zA4(h:p:=by have bKb:=0;exact zLy):p:=h
theorem zA5(h:p:=by clear J4 e0;exact zLn):p:=h
theorem zA7(h:p:=by
 have hr:=h.rest (w':=((((u.setCell (aA S 11) (sV none 0 0)).setCell (aA S 12) (sV none 0 0)).setCell (aA S 13) (sV none 0 0)).setCell (aA S 14) (sV none 0 0))) oh (fun c hc=>by simp only[cJ hc]);refine⟨?_,?_⟩
 ·exact {
      s:=hr.s
      lo:=hr.lo
      hi:=hr.hi
      loO:=hr.loO
      hiO:=hr.hiO
      ap:=hr.ap
      oS:=hr.oS
      oL:=hr.oL
      oO:=World.ownsRow_nil _ _ _ _
      oR:=World.ownsRow_nil _ _ _ _
      bS:=hr.bS
      bL:=hr.bL
      bO:=fun g e=>Es
      bR:=fun g e=>Es
      rD:=fun q=>absurd q (kU _)
      rM:=fun q=>absurd q (kU _)
      bD:=fun _ _ e=>Es
      bM:=fun _ _ e=>Es
      nw:=hr.nw
      iL:=hr.iL
      iO:=fun k q=>absurd q (kT _)
      ns:=hr.ns
      nl:=hr.nl
      nL:=kH _
      nR:=kH _
      nD:=kH _
      nM:=kH _
      clu:=hr.clu }
 ·exact cH (cH (cH (cH h.blk _) _) _) _):p:=h
theorem zA8(h:p:=by have:V.cell? (aA S 10)=some (.pointer (st.clu.map fun _=>(aA A.C 0))):=aM hs.blk (i:=10) rfl;rw[dI]at this;exact this):p:=h
theorem zBa(h:p:=by rcases this with rfl|rfl|rfl|rfl|rfl|rfl|rfl|rfl|rfl|rfl|rfl|rfl|rfl|rfl|rfl|rfl<;>decide):p:=h
theorem zBc(h:p:=by have bC4:=0;exact zLg):p:=h
theorem zBd(h:p:=by clear hU;refine⟨gD.start,.ok Kd.clear_.name,M,O,aJ3,⟨rfl,rfl⟩,rfl,hfo,?_,hb⟩;have hr:=hd.rest hsz R6;exact { s:=hr.s,lo:=hr.lo,hi:=hr.hi,loO:=hr.loO,hiO:=hr.hiO,ap:=hr.ap,oS:=⟨rfl,.inl ⟨rfl,rfl⟩⟩,oL:=⟨rfl,.inl ⟨rfl,rfl⟩⟩,oO:=⟨rfl,.inl ⟨rfl,rfl⟩⟩,oR:=⟨rfl,.inl ⟨rfl,rfl⟩⟩,bS:=fun _ h=>Oy,bL:=fun _ h=>Oy,bO:=fun _ h=>Oy,bR:=fun _ h=>Oy,rD:=fun h=>absurd h (kU _),rM:=fun h=>absurd h (kU _),bD:=fun _ _ h=>Oy,bM:=fun _ _ h=>Oy,nw:=rfl,iL:=fun _ h=>absurd h (kT _),iO:=fun _ h=>absurd h (kT _),ns:=kH _,nl:=kH _,nL:=kH _,nR:=kH _,nD:=kH _,nM:=kH _,clu:=fun _ _ _ _ _ h=>Oy }):p:=h
theorem zBe(h:p:=by
 unfold aW;obtain⟨q,hqx⟩:∃q:Int,x=X+18446744073709551616*q:=⟨x/18446744073709551616,od⟩;have bFr:(0:Int)<2^j:=by rw[jE];exact_mod_cast Nat.two_pow_pos j
 have h64:(18446744073709551616:Int)=2^j*(2*2^(63-j)):=by
  have:(2:Int)^j*(2*2^(63-j))=2^(j+(1+(63-j))):=by rw[Int.pow_add,Int.pow_add];rfl
  rw[this,show j+(1+(63-j))=64 by omega];decide
 have h2:x/2^j=(X:Int)/2^j+2*2^(63-j)*q:=by rw[hqx,h64,Int.mul_assoc,Int.add_mul_ediv_left _ _ od]
 have h3:x/2^j%2=(X:Int)/2^j%2:=by rw[h2,Int.mul_assoc,Int.add_mul_emod_self_left]
 rw[h3,jE];congr 1;apply propext;constructor
 ·intro h;exact_mod_cast h
 ·intro h;exact_mod_cast h):p:=h
theorem zBf(h:p:=by
 by_cases z1:e1=0
 ·by_cases z2:e2=0
  ·by_cases z3:e3=0
   ·exact⟨0,-1,.inr ⟨h,e1,i1,e2,i2,e3,i3,g1,g2,g3,fun q=>absurd z1 q,fun _ q=>absurd z2 q,fun _ _ q=>absurd z3 q,fun _ _ _=>⟨rfl,rfl⟩⟩⟩
   ·exact⟨e3,2000+i3,.inr ⟨h,e1,i1,e2,i2,e3,i3,g1,g2,g3,fun q=>absurd z1 q,fun _ q=>absurd z2 q,fun _ _ _=>⟨rfl,rfl⟩,fun _ _ q=>absurd q z3⟩⟩
  ·exact⟨e2,1000+i2,.inr ⟨h,e1,i1,e2,i2,e3,i3,g1,g2,g3,fun q=>absurd z1 q,fun _ _=>⟨rfl,rfl⟩,fun _ q=>absurd q z2,fun _ q=>absurd q z2⟩⟩
 ·exact⟨e1,i1,.inr ⟨h,e1,i1,e2,i2,e3,i3,g1,g2,g3,fun _=>⟨rfl,rfl⟩,fun q=>absurd q z1,fun q=>absurd q z1,fun q=>absurd q z1⟩⟩):p:=h
theorem zBg(h:p:=by
 have:c=0\/c=1:=od;rcases this with rfl|rfl
 ·rw[kJ rfl,jP _ hn hj,qW]
 ·rw[kI oe,jP _ hn hj,qW]):p:=h
theorem zBi(h:p:=by rw[hU];have hb:=(cH (i:=14) (cH (i:=13) (cH (i:=12) (cH (i:=11) (cH (i:=10) (cH (i:=9) (cH (i:=8) (cH (i:=7) (cH (i:=6) (cH (i:=5) (cH (i:=4) (cH (i:=3) (cH (i:=2) (cH (i:=1) (cH (i:=0) hd.blk (iI 0)) (iI 0)) (iI 0)) (iI 0)) (iI 0)) (iI 0)) (sV none 0 0)) (sV none 0 0)) (iI 1)) (sV none 0 0)) (.pointer none)) (sV none 0 0)) (sV none 0 0)) (sV none 0 0)) (sV none 0 0));simp only[gD.cells,mV,List.setIfInBounds_toArray,List.set_cons_zero,List.set_cons_succ]at hb;exact hb):p:=h
theorem zBj(h:p:=by have hA:bW w ((w.drewN nq).alloc (.cells #[.string d] 9)):=(hD w.heap.size).alloc (kF _) _;refine⟨uQ.os,uQ.tape,uQ.output,uQ.size,fun c hc h1 h2=>?_⟩;refine(bP.block c (by have:=hA.size;omega) (fun e=>?_)).trans (hA.block c hc);rw[<-e]at h2;exact h2 rfl):p:=h
theorem zBm(h:p:=by exact⟨h1.trans g1.symm,h2.trans g2.symm⟩):p:=h
theorem zBn(h:p:=by
 obtain⟨qQ,r,M',O',A',h1,h2,h3,h4⟩:=h;refine⟨qQ,r,M',O',A',h1,h2,⟨h3.os,h3.tape,h3.output,h3.size,fun c hc hn=>h3.block c hc (fun q=>hn ?_),fun c hc=>?_⟩,h4⟩
 ·rcases kL q with q|q
  ·exact kK (.inl (kK (.inr q)))
  ·exact kK (.inr q)
 ·rcases h3.fresh c hc with q|q
  ·rcases kL q with q|q
   ·exact .inl (kK (.inl (kK (.inr q))))
   ·exact .inl (kK (.inr q))
  ·exact .inr q):p:=h
theorem zBo(h:p:=by obtain⟨b2,vT,e2,dQ,R2⟩:=hm od;exact⟨b2,vT,e2,⟨od,hmO b2 vT e2 od⟩,bc zb dQ (R2 x hx)⟩):p:=h
theorem zBp(h:p:=by
 have hl:l.length=n:=by have:=h.1;simpa using this
 rcases h.2 with⟨rfl,h0⟩|⟨g,cap,cur,rfl,hg,hh,_⟩
 ·refine⟨none,0,by rw[hl,h0],fun q=>absurd q od,hl⟩
 ·have hlt:g<w.heap.size:=by exact zGp
  refine⟨_,cap,by rw[hl],fun _=>⟨g,0,rfl,hlt,fun j hj=>?_⟩,hl⟩;have:=h.cells (g:=g) rfl j (iI (l.getD j 0)) (by simp[List.getD,List.getElem?_eq_getElem hj]);exact zIe):p:=h
theorem zBq(h:p:=by obtain⟨v,h,rfl⟩:=h;have hp:P∈P::v.ownBlock.toList:=kM (.inl rfl);exact⟨v,⟨(k.cell (p:=(aA P 0)) hp).trans h.c0,(k.cell (p:=(aA P 1)) hp).trans h.c1,(k.cell (p:=(aA P 2)) hp).trans h.c2,(k.cell (p:=(aA P 3)) hp).trans h.c3,(k.cell (p:=(aA P 4)) hp).trans h.c4,(k.cell (p:=(aA P 5)) hp).trans h.c5,fun i=>(k.frozen (p:=(aA P i)) hp).trans (h.z i),lI h.own k (fun g hg=>kM (.inr (by simpa using hg))),h.lp,kG h.lb k.1,h.we⟩,rfl⟩):p:=h
theorem zBr(h:p:=by
 intro k q d hm;unfold cA.goes at hm;by_cases hs:s.sends H (p.S.nd i)=true
 ·rw[kJ hs]at hm;have h1:=((S3 (p:=p.S) (who:=p.S.nd i) (t:=rd*p.S.round+p.S.fr i) (L:=s.aN) p.S.nl).1 k q d hm).1;refine⟨h1,?_⟩;obtain⟨x,hx⟩:=aHh _ _ _ _ hm;obtain⟨_,_,hB,_⟩:=h.sdr h1;rw[hx,List.getD_eq_getElem?_getD]
  cases y:(s.aN k).all[x]? with
  |none=>decide
  |some v=>exact hB.2.2 v (List.mem_of_getElem? y)
 ·rw[kI hs]at hm;cases hm):p:=h
theorem zBs(h:p:=by
 unfold dJ at h;by_cases h1:nodes<1\/16<nodes\/aF<0\/nodes<aF*3+1
 ·simp[h1]at h
 ·rw[kI h1]at h;by_cases h2:aJ<0\/137438953472<aJ\/aC<0\/137438953472<aC\/aH<0\/137438953472<aH
  ·simp[h2]at h
  ·rw[kI h2]at h;by_cases h3:round<1\/137438953472<round\/frame<1\/137438953472<frame
   ·simp[h3]at h
   ·rw[kI h3]at h;by_cases h4:32<ns\/8<nl\/32<nw
    ·simp[h4]at h
    ·omega):p:=h
theorem zBt(h:p:=by have st:∀{a c:World},aU w.heap.size w.heap.size a c->bW w a->bW w c:=fun h k=>⟨h.os.trans k.os,h.tape.trans k.tape,h.output.trans k.output,kG k.size h.size,fun i hi=>(h.block i (kB hi k.size) od od).trans (k.block i hi)⟩;exact st t20 (st t19 (st t18 (st t17 (st t16 (st t15 (st Y8 (st t13 (st t12 (st t11 (st P5 (st t9 (st t8 (st t7 (st t6 (st t5 (st t4 (st t3 (st t2 (st t1 hB)))))))))))))))))))):p:=h
theorem zBv(h:p:=by
 show ∀d'∈oY _ (s.aN k).all d,d'.size<=40;intro d' hd';unfold oY at hd';by_cases hK:putK ((s.aN k).all.length-(s.aN k).aP) (p.lq k) d=0
 ·rw[kJ hK]at hd';have h1:¬40<d.size:=fun q=>by unfold putK at hK;rw[kJ q]at hK;cases hK
  rcases kL hd' with q|q
  ·exact hS3 d' q
  ·simp only[List.mem_cons,List.not_mem_nil,or_false]at q;subst q;omega
 ·rw[kI hK]at hd';exact hS3 d' hd'):p:=h
theorem zBx(h:p:=by have hh:=(HX.out.below h7).hd;have hlt:=((HX.out.below h7).lX _ hh.ckX).1.2;have hsp:=Q7 C fa (some (aA cb 0)) cI cs (v7.drewN q) hh.c10 hh.c11 (fun _=>⟨cb,0,rfl,hlt,fun j hj=>by rw[Nat.zero_add];exact hh.ck j hj⟩) (by rw[aS6.out];omega) bA6.out;rw[HSP.out]at hsp;refine hsp.mono ?_;rintro e w' ⟨h1,h2⟩;exact⟨h1,h2.os,h2.tape,h2.output,h2.size,h2.block⟩):p:=h
theorem zBy(h:p:=by obtain⟨u1,u2⟩:=t7 (iN x) om;rw[u2];obtain⟨⟨v1,v2⟩,⟨v3,v4⟩,v5,v6⟩:=h.node x hx;exact⟨⟨v1.same (v2▸u1),v2⟩,⟨v3,Int.le_trans v4 od⟩,v5,Int.le_trans v6 od⟩):p:=h
theorem zBz(h:p:=by generalize p.nl=NL at *;exact zNp):p:=h
theorem zB1(h:p:=by exact⟨rfl,kX _ _⟩):p:=h
theorem zB3(h:p:=by have dM:=qY.out b off e h0;exact⟨b,off,e,by simpa using hl,fun j hj=>(aB (.inl dM)).trans (hc j hj)⟩):p:=h
theorem zB6(h:p:=by
 exact⟨hf.os,hf.tape,hf.output,hf.size,fun x hx hn=>hf.block x hx (fun y=>hn (kK (.inr y))),fun x hx=>by
  rcases kL hx with q|q
  ·exact .inl (kK (.inl q))
  ·rcases hf.fresh x q with y|y
   ·exact .inl (kK (.inr y))
   ·exact .inr y⟩):p:=h
theorem zB9(h:p:=by obtain⟨v1,v2,v3⟩:=h.snd i hi;exact⟨v1.keep u1,kG v2 U9,v3⟩):p:=h
theorem zCc(h:p:=by exact⟨(World.cell?_of_block (a:=(aA b off)) kb).trans n0,(World.cell?_of_block (a:=(aA b (off+1))) kb).trans n1,(World.cell?_of_block (a:=(aA b (off+2))) kb).trans n2,(World.cell?_of_block (a:=(aA S 11)) kS).trans c0,(World.frozen?_of_block (a:=(aA S 11)) kS).trans z0⟩):p:=h
theorem zCd(h:p:=by exact⟨(World.cell?_of_block (a:=(aA b off)) kb).trans n0,(World.cell?_of_block (a:=(aA b (off+1))) kb).trans n1,(World.cell?_of_block (a:=(aA b (off+2))) kb).trans n2,(World.cell?_of_block (a:=(aA S 12)) kS).trans c0,(World.frozen?_of_block (a:=(aA S 12)) kS).trans z0⟩):p:=h
theorem zCf(h:p:=by
 rcases jW with q|q
 ·exact aT5 g q
 ·omega):p:=h
theorem zCh(h:p:=by obtain⟨la,lc,e1,r1,_⟩:=wK h.r.oO;obtain⟨ra,rc,e2,r2,_⟩:=wK h.r.oR;have h1:=h.r.nL;have h2:=h.r.nR;have h3:=h.r.nD;have h4:=h.r.nM;exact⟨⟨la,lc,ra,rc,A.da,A.dc,A.ma,A.mc⟩,e1,e2,rfl,rfl,rfl,rfl,r1,r2,h.r.rD,h.r.rM,h.r.iO,od,od,od,od⟩):p:=h
theorem zCi(h:p:=by
 rcases hu with rfl|⟨t,rfl⟩
 ·exact kX _ _
 ·exact Lib.bytesWorld_below _ _ _):p:=h
theorem zCj(h:p:=by
 by_cases h:k=0
 ·rw[kJ h];constructor
  ·rintro(⟨_,g⟩|⟨g,_⟩)
   ·exact g
   ·omega
  ·intro g;exact .inl ⟨h,g⟩
 ·rw[kI h];constructor
  ·rintro(⟨g,_⟩|⟨_,g⟩)
   ·exact absurd g h
   ·omega
  ·intro g;exact .inr ⟨od,od⟩):p:=h
theorem zCk(h:p:=by show -1374389534720<=cs.getD j 0+yV ((List.range n).map (readAll n (aW fa) aC (fun i=>cs.getD i 0) r.reads j)) f/\cs.getD j 0+yV ((List.range n).map (readAll n (aW fa) aC (fun i=>cs.getD i 0) r.reads j)) f<=1374389534720;omega):p:=h
theorem zCm(h:p:=by have:n=0\/n=1\/n=2\/n=3\/n=4\/n=5\/n=6\/n=7\/n=8\/n=9\/n=10\/n=11\/n=12\/n=13\/n=14\/n=15\/n=16:=od;rcases this with rfl|rfl|rfl|rfl|rfl|rfl|rfl|rfl|rfl|rfl|rfl|rfl|rfl|rfl|rfl|rfl|rfl<;>decide):p:=h
theorem zCn(h:p:=by have bLt:=0;exact zPg):p:=h
theorem zCo(h:p:=by
 obtain⟨v,h,rfl⟩:=h;intro c hc;rcases kN hc with y|y
 ·have:=h.lp;have:=h.lb;omega
 ·exact(h.own.lt c Ea).2):p:=h
theorem zCp(h:p:=by
 by_cases e:i=iB
 ·rw[e,cZ,bG _ _ (fun y=>hij (e.trans y.symm))];exact key j (fun y=>hij (e.trans y.symm))
 ·rw[bG _ _ e];by_cases e':j=iB
  ·rw[e',cZ];exact(key i e).symm
  ·rw[bG _ _ e'];exact h.fam.ap i j hij):p:=h
theorem zCq(h:p:=by
 exact⟨hb.os,hb.tape,hb.output,by simpa using hb.size,fun x hx hn=>(cJ (fun e=>hn jm) _).trans (hb.block x hx),fun x hx=>by
  rcases kL hx with q|q
  ·exact .inl (kK (.inl q))
  ·exact .inr (hO x q)⟩):p:=h
theorem zCt(h:p:=by
 rw[hsz];by_cases e:i=iB
 ·exact zOk
 ·rw[bG _ _ e]at hc;exact h.fam.lt i c hc):p:=h
theorem zCu(h:p:=by obtain⟨a,b,q,⟨⟨r1,r2⟩,r3,r4⟩,r5⟩:=h.rcv i x hi hx hb;exact⟨a,b,q.keep u1,⟨⟨r1,od⟩,r3,od⟩,r5⟩):p:=h
theorem zCv(h:p:=by have bK9:=0;exact zLn):p:=h
theorem zCx(h:p:=by rwa [nE,Nat.zero_add]at this):p:=h
theorem zCy(h:p:=by obtain⟨sa,sc,e1,r1,_⟩:=wK h.r.oS;obtain⟨la,lc,e2,r2⟩:=d8 h.r.oL;have h1:=h.r.ns;have h2:=h.r.nl;have h3:=h.r.nw;exact⟨⟨sa,sc,la,lc,none,0⟩,e1,e2,rfl,rfl,r1,r2,fun q=>absurd q od,h.r.iL,od,od,od⟩):p:=h
theorem zCz(h:p:=by have bGi:=0;exact zL9):p:=h
theorem zC0(h:p:=by have bKe:=0;exact zOe):p:=h
theorem zC2(h:p:=by
 refine gF fun j _=>?_;show _=if H.nG who=2/\(j=who\/j=(who+1)%p.n)then _ else _;rw[hmo];by_cases y2:j=who\/j=(who+1)%p.n
 ·rw[kJ y2,kJ ⟨rfl,y2⟩]
 ·rw[kI y2,kI (fun z=>y2 z.2)]):p:=h
theorem zC3(h:p:=by obtain⟨u1,u2⟩:=t7 iP om;obtain⟨PX,e,hn,q⟩:=h.prt;exact⟨PX,by rw[u2];exact e,hn,q.keep (e▸u1)⟩):p:=h
theorem zC5(h:p:=by rw[kC eE]at aA5;exact zMl):p:=h
theorem zC7(h:p:=by
 rintro e w' ⟨he,q1,q2⟩;obtain⟨O'',h2,c2⟩:=n6 w' B (s.nodes j).aT q1 q2 (by
  unfold qZ xQ.aT
  simp only[]
  constructor<;>split<;>omega) (kF _)
 exact zHf):p:=h
theorem zC8(h:p:=by rw[kD eE]at aA5;have bKj:=0;exact zMl):p:=h
theorem zC9(h:p:=by have h:=Lib.parseIntB_bounds hp;have e:((2^(64-1):Nat):Int)=9223372036854775808:=oe;rw[e]at h;omega):p:=h
theorem zDa(h:p:=by obtain⟨g,hg,hr⟩:=h1.tk;have hl:=aL7 m.tb (.inl rfl);have hcC:m.tb≠C:=fun e=>h.nC (by rw[<-e];exact kQ);exact⟨g,hg.keep ((k4 _ hcC).trans (k3 _ hl (fun e=>h.nT jn))),hr⟩):p:=h
theorem zDd(h:p:=by simp[IntKind.wrap,IntKind.bits,IntKind.signed];omega):p:=h
theorem zDf(h:p:=by exact sJ q2 q (Ne.symm h2) rfl):p:=h
theorem zDg(h:p:=by intro x hx hn;have hxV:x<V.heap.size:=od;refine(R6 x hxV (fun e=>hn (kK (.inl (e▸hs.r.s)))) (fun e=>hn (kK (.inl (hs.r.bO x e))))).trans (hB.block x hx)):p:=h
theorem zDh(h:p:=by intro x hx hn;have hxV:x<V.heap.size:=od;refine(R6 x hxV (fun e=>hn (kK (.inl (e▸hs.r.s)))) (fun e=>hn (kK (.inl (hs.r.bR x e))))).trans (hB.block x hx)):p:=h
theorem zDi(h:p:=by obtain⟨u1,u2⟩:=t7 (iN x) om;rw[u2];obtain⟨⟨v1,v2⟩,⟨v3,v4⟩,v5,v6⟩:=h.node x hx;exact⟨⟨v1.J5 (v2▸u1),v2⟩,⟨v3,Int.le_trans v4 od⟩,v5,Int.le_trans v6 od⟩):p:=h
theorem zDk(h:p:=by
 by_cases e:x=iB
 ·subst e;rw[cZ]at hc;have:=h.sz;rcases hF.fresh c hc with y|y
  ·rw[hob]at y;exact h.lo iB c oe y
  ·omega
 ·rw[bG _ _ e]at hc;exact X9 x c hx hc):p:=h
theorem zDl(h:p:=by
 rcases kL q with q|q
 ·rcases kL q with q|q
  ·have:=hX c q;omega
  ·exact hn (kK (.inl q))
 ·exact hn (kK (.inr q))):p:=h
theorem zDn(h:p:=by
 rw[hM S h.r.s,h.blk];have e:(st.clu.map fun _=>((aA A.C 0):Addr))=some (aA A.C 0):=by
  cases q:st.clu with
  |none=>exact absurd q dM
  |some y=>rfl
 unfold gD.cells;rw[e];rfl):p:=h
theorem zDp(h:p:=by obtain⟨l,q,⟨r1,r2⟩,r3⟩:=h.que i x hi hx hb;exact⟨l,q.keep u1,⟨r1,od⟩,r3⟩):p:=h
theorem zDq(h:p:=by obtain⟨u1,u2⟩:=t7 (iS i) om;rw[u2];exact⟨(h.snd i hi).1.keep u1,(h.snd i hi).2⟩):p:=h
theorem zDr(h:p:=by
 repeat' split
 all_goals omega):p:=h
theorem zDs(h:p:=by obtain⟨b,off,e,hb,hc⟩:=h.sl h0;exact⟨b,off,e,hb,fun i hi=>⟨(cx _ _ hb).trans (hc i hi).1,(cx _ _ hb).trans (hc i hi).2.1,(cx _ _ hb).trans (hc i hi).2.2⟩⟩):p:=h
theorem zDu(h:p:=by refine lK.mono ?_;rintro e v7 ⟨rfl,hv7⟩;replace hv7:=hv7.symm;subst hv7;clear lK;exact zH2):p:=h
theorem zDw(h:p:=by exact((uQ.trans (hbg.mono uQ.size)).setCell (p:=⟨w.heap.size+1,0,none⟩) (kR _) _).setCell (p:=⟨w.heap.size+1,1,none⟩) (kR _) _):p:=h
theorem zDy(h:p:=by exact⟨sV none 0 0,⟨c 0 _ rfl,c 1 _ rfl,c 2 _ rfl,c 3 _ rfl,c 4 _ rfl,c 5 _ rfl,fun i=>by simp,World.ownsRow_nil _ _ _ _,od,oh,kF _⟩,rfl⟩):p:=h
theorem zDz(h:p:=by obtain⟨a1,a2,a3,a4,a5,a6,a7,a8,a9,a10⟩:=iK Q8;have:=aAl (x:=r-f) (n:=n) (d:=d) (M:=1099511627776) od od a5 a7 a9;exact zHx):p:=h
theorem zD0(h:p:=by have:(j<J/\aW tq j=true)↔(j<J+1/\aW tq j=true):=⟨fun y=>⟨by have:=y.1;omega,y.2⟩,fun y=>⟨by have:=y.1;omega,y.2⟩⟩;simp only[this]):p:=h
theorem zD1(h:p:=by rw[e];exact lI (X:=V'.ownBlock.toList) bK ⟨by rw[aH6];exact kF _,fun c hc=>k4 c (hV' c jA1)⟩ (fun g hg=>by simpa using hg)):p:=h
theorem zD4(h:p:=by
 show(oY _ (s.aN k).all d).length<=B+1;unfold oY;split
 ·simp only[List.length_append,List.length_cons,List.length_nil];omega
 ·omega):p:=h
theorem zD5(h:p:=by exact⟨q1.1.trans q2.1.symm,q1.2.trans q2.2.symm⟩):p:=h
theorem zD6(h:p:=by exact rE hB bT _ _ _ _):p:=h
theorem zD7(h:p:=by simp[IntKind.wrap,IntKind.bits,IntKind.signed];omega):p:=h
theorem zD8(h:p:=by have:(p.nd i).toNat=who:=A6;omega):p:=h
theorem zEb(h:p:=by obtain⟨a,b,⟨q,e⟩,⟨⟨r1,r2⟩,r3,r4⟩,r5⟩:=h.rcv i x hi hx;exact⟨a,b,⟨q.keep (e▸u1),e⟩,⟨⟨r1,od⟩,r3,od⟩,r5⟩):p:=h
theorem zEc(h:p:=by rintro e w' ⟨rfl,rfl⟩;exact⟨rfl,_,⟨v,h,rfl⟩,aS.refl _ _⟩):p:=h
theorem zEe(h:p:=by
 rw[List.range_succ,List.map_append];congr 1
 ·refine List.map_congr_left fun j hj=>?_;have:=List.mem_range.1 hj;rw[kI od]
 ·simp):p:=h
theorem zEf(h:p:=by unfold mW yV;simp only[List.length_map,List.length_range];omega):p:=h
theorem zEg(h:p:=by show _<=_;have l1:=uV L k od;have l2:=congrArg List.length hdn.out;have l3:=uF 5 m;have l4:=HN.out;simp at l2⊢;omega):p:=h
theorem zEh(h:p:=by obtain⟨u1,u2⟩:=t7 (iR i x) om;rw[u2];obtain⟨a,b,⟨q,e⟩,r⟩:=h.rcv i x hi hx;exact⟨a,b,⟨q.keep (e▸u1),e⟩,r⟩):p:=h
theorem zEi(h:p:=by unfold wrap64;generalize(2:Int)^j=T at *;omega):p:=h
theorem zEj(h:p:=by
 rintro⟨i,e,he,R4,hv⟩;rcases(hp i e).1 he with⟨_,rfl⟩|⟨_,h⟩
 ·exact absurd R4.symm q
 ·exact⟨i,e,h,R4,hv⟩):p:=h
theorem zEp(h:p:=by rw[World.cell?_alloc_lt _ _ (aA 5 0) (by first|(simp;omega)|simp),World.cell?_alloc_lt _ _ (aA 5 0) hlt];exact hg):p:=h
theorem zEq(h:p:=by
 refine⟨⟨k+1,od,ow,?_,jN⟩,?_⟩
 ·rw[HS.out,List.map_append,List.length_append];exact cD
 ·exact zHv):p:=h
theorem zEr(h:p:=by
 rcases jW with y|y
 ·exact .inl y
 ·exact .inr ⟨_,od,y⟩):p:=h
theorem zEt(h:p:=by
 rcases Nat.lt_or_ge t.block w.heap.size with h|h
 ·exact h
 ·simp[World.cell?,Array.getElem?_eq_none h]at ht0):p:=h
theorem zEu(h:p:=by
 rcases jW with y|y
 ·exact .inl (by rw[<-y];exact hg)
 ·rw[y]at hg;have:=kW hg;exact .inr od):p:=h
theorem zEv(h:p:=by
 rcases Nat.lt_or_ge a.block w.heap.size with h|h
 ·exact h
 ·simp[World.cell?,Array.getElem?_eq_none h]at hk):p:=h
theorem zEw(h:p:=by
 rcases h.only i hi with y|y|⟨j,y,z⟩
 ·exact .inl y
 ·exact .inr (.inl y)
 ·exact .inr (.inr ⟨j,od,z⟩)):p:=h
theorem zEx(h:p:=by refine⟨⟨k+1,od,ow,lG,dQ⟩,?_⟩;exact zHv):p:=h
theorem zEz(h:p:=by
 rcases h with⟨a,h1,h2⟩|⟨a,h1,h2⟩
 ·rw[h2];exact D9 ⟨od,od⟩
 ·rw[h2];exact e1 4 od od):p:=h
theorem zE0(h:p:=by
 rcases Nat.lt_or_ge 5 w.heap.size with h|h
 ·exact h
 ·simp[World.cell?,Array.getElem?_eq_none h]at hg):p:=h
theorem zE2(h:p:=by
 rcases Nat.lt_or_ge g w'.heap.size with q|q
 ·exact q
 ·exact zIk):p:=h
theorem zE3(h:p:=by
 rcases jW with y|y
 ·exact aKo (by rw[<-y,hg,e])
 ·rw[y]at hg;have:=kW hg;omega):p:=h
theorem zE4(h:p:=by have:=same x h1;rw[bG _ _ h2]at this;exact this):p:=h
theorem zE7(h:p:=by refine kp hK fun aG=>?_;clear hK K;refine tk 7 aG ?_;refine dn ?_;exact aSo _ _ _ _ _ _ _ _ hW):p:=h
theorem zE9(h:p:=by have h1:=lF.bCv;have h2:=lF.aI.bounds.s1;have h3:=T8 (dW fa cs);exact zHx):p:=h
theorem zFa(h:p:=by
 rcases h.2 with⟨e0,rfl⟩|⟨g,cap,cur,hv,_⟩
 ·exact⟨none,0,e0⟩
 ·exact⟨_,cap,hv⟩):p:=h
theorem zFb(h:p:=by
 rcases kL hc with q|q
 ·exact kB (h.lo c q) k.size
 ·exact hY c q):p:=h
theorem zFc(h:p:=by show World.ownsRow _ _ _ _ _ _ _;rw[tI,<-List.append_assoc,nW];exact ho3):p:=h
theorem zFd(h:p:=by rw[so _ om om];have hn:=h1.rcv a c hT;exact⟨hn.1.keep (hn.2▸zK (iR a c) om om),hn.2⟩):p:=h
theorem zFe(h:p:=by refine aDn (k:=i+1) ?_ n od;rw[HBS.out,bT.out,Bool.false_or];exact kD od):p:=h
theorem zFf(h:p:=by have:=aD5 (x:=l-s) (n:=n) (d:=d) (M:=2199023255552) od od a5 a7 a10;exact zHx):p:=h
theorem zFg(h:p:=by rw[List.range_succ,List.filter_append,List.map_append];congr 1;cases h:aW fa k<;>simp[h]):p:=h
theorem zFh(h:p:=by
 rcases I9 m.tb e with y|y
 ·exact h.nT (by simp[y])
 ·have:=aL7 m.tb (.inl rfl);omega):p:=h
theorem zFi(h:p:=by rintro e w' ⟨rfl,hB⟩;exact⟨rfl,_,hS.keep (Same.of_below hB hlt),aS.of_below hB⟩):p:=h
theorem zFk(h:p:=by rw[List.length_map,List.length_range]at hk;rw[Nat.zero_add,h.cel j k hj hk];simp[hk]):p:=h
theorem zFm(h:p:=by
 rcases(hp i e).1 he with⟨_,rfl⟩|⟨_,h⟩
 ·exact⟨lx,hx⟩
 ·exact hk i e h):p:=h
theorem zFn(h:p:=by rw[bG _ _ om];exact⟨(h.snd k hk).1.keep (same (iS k) om),(h.snd k hk).2⟩):p:=h
theorem zFo(h:p:=by rintro e w' ⟨rfl,q,rfl⟩;exact⟨rfl,_,⟨v,h.drawn q,rfl⟩,aS.drawn _ _ _⟩):p:=h
theorem zFp(h:p:=by obtain⟨f,h,r⟩:=h;exact⟨f,h.keep e,r⟩):p:=h
theorem zFr(h:p:=by rintro e w' ⟨rfl,h',ht⟩;exact⟨rfl,_,⟨v,h',rfl⟩,aS.jD ht hP hP⟩):p:=h
theorem zFs(h:p:=by obtain⟨⟨v1,v2⟩,v3⟩:=h.node x hx;exact⟨⟨v1.J5 (v2▸u1),v2⟩,v3⟩):p:=h
theorem zFt(h:p:=by rw[bG _ _ e]at hc;exact h.lo x c hx hc):p:=h
theorem zFx(h:p:=by rintro e w' ⟨rfl,h',ht⟩;exact⟨rfl,⟨v,h',rfl⟩,aS.jD ht hP hP⟩):p:=h
theorem zFy(h:p:=by exact h.fam.ap iB i (Ne.symm hi) c (by rw[h.ob,y];exact kQ) hx):p:=h
theorem zFz(h:p:=by simp;simpa using hi):p:=h
theorem zF0(h:p:=by
 rw[hsz];rcases kN hc with e|e
 ·subst e;exact hg
 ·exact b.lx c e):p:=h
theorem zF1(h:p:=by
 rw[hsz];rcases kN hc with y|y
 ·subst y;exact hg
 ·exact h.lo c y):p:=h
theorem zF2(h:p:=by
 intro hc;rcases kN hc with e|e
 ·exact hgC e.symm
 ·exact b.nC e):p:=h
theorem zF5(h:p:=by
 show _≠_;rcases hblk with h|h
 ·rw[h];exact hbk.out
 ·rw[h];simp;omega):p:=h
theorem zF6(h:p:=by exact⟨0,rfl,kH _,World.ownsRow_nil _ _ _ _,kX _ _⟩):p:=h
theorem zF7(h:p:=by obtain⟨O',h,c⟩:=h;exact⟨O',h.trans (aS.of_below k),c.below k⟩):p:=h
theorem zF8(h:p:=by simpa only[World.size_alloc]using this):p:=h
theorem zF9(h:p:=by obtain⟨⟨a,b⟩,c,d⟩:=(h.node j hj).2;exact⟨⟨a,od⟩,c,od⟩):p:=h
theorem zGb(h:p:=by exact(d8 hs.r.oL).elim fun a q=>q.elim fun c r=>⟨a,c,r.1⟩):p:=h
theorem zGc(h:p:=by refine⟨u,v,?_⟩;obtain⟨l⟩:=cs;simp at e;subst e;exact zHh):p:=h
theorem zGd(h:p:=by rw[List.length_map];exact kG (List.length_filter_le _ _) oh):p:=h
theorem zGe(h:p:=by exact(wK hs.r.oS).elim fun a q=>q.elim fun c r=>⟨a,c,r.1⟩):p:=h
theorem zGf(h:p:=by rintro e w' ⟨rfl,rfl⟩;exact⟨rfl,⟨v,h,rfl⟩,aS.refl _ _⟩):p:=h
theorem zGi(h:p:=by show _=_;rw[HBS.out,bT.out,Bool.false_or];exact kC od):p:=h
theorem zGj(h:p:=by have m7:=0;exact zOu):p:=h
theorem zGl(h:p:=by
 intro x hx;simp only[List.cons_append,List.mem_cons]at hx;rcases hx with rfl|hx
 ·rcases hgM with q|q
  ·exact .inl (kK (.inl q))
  ·exact .inr od
 ·exact .inl hx):p:=h
theorem zGm(h:p:=by
 repeat(first|refine Below.setCell ?_ (by first|omega|(simp;omega)|simp) _|refine Below.alloc ?_ (by first|omega|(simp;omega)|simp) _)
 exact kX _ _):p:=h
theorem zGn(h:p:=by have bKm:=0;exact zMo):p:=h
theorem zGp(h:p:=by
 rcases Nat.lt_or_ge g w.heap.size with q|q
 ·exact q
 ·exact zIk):p:=h
theorem zGt(h:p:=by have:nodes=1\/nodes=2\/nodes=3\/nodes=4\/nodes=5\/nodes=6\/nodes=7\/nodes=8\/nodes=9\/nodes=10\/nodes=11\/nodes=12\/nodes=13\/nodes=14\/nodes=15\/nodes=16:=od;exact zBa):p:=h
theorem zGv(h:p:=by have bGg:=0;exact zL5):p:=h
theorem zG0(h:p:=by have:n=0\/n=1\/n=2\/n=3\/n=4\/n=5\/n=6\/n=7\/n=8\/n=9\/n=10\/n=11\/n=12\/n=13\/n=14\/n=15:=od;exact zBa):p:=h
theorem zG2(h:p:=by have bK7:=0;exact zN0):p:=h
theorem zG4(h:p:=by have m82:=0;exact zKy):p:=h
theorem zG5(h:p:=by refine kp hK fun aG=>?_;clear hK K;refine tk 12 aG ?_;refine tk 13 aG ?_;exact zAj):p:=h
theorem zG7(h:p:=by have q:=aZn (L6.out.drawn 1) who H7 hn od;rw[HM0.out,bAt.out]at q;exact q):p:=h
theorem zG8(h:p:=by obtain⟨O1,q1,_⟩:=A8.out;exact(q1.frozen (p:=(aA (w.heap.size+1+1) j)) ew HX.out.1.2.2).trans (HZ.out.2 j)):p:=h
theorem zG9(h:p:=by obtain⟨O1,q1,_⟩:=A8.out;exact(q1.frozen (p:=(aA w.heap.size j)) Eb HX.out.1.1).trans (HZ.out.1 j)):p:=h
theorem zHb(h:p:=by refine kp hK fun aG=>?_;clear hK K;refine tk 18 aG ?_;refine tk 19 aG ?_;refine dn ?_;exact aSp _ _ _ _ _ _ _ _ _ _ _ _ _ _ _ _ _ _ _ _ _ _ _ _ _ _ _ _ _ _ _ _ _ _ _ _ _ _ hW):p:=h
theorem zHd(h:p:=by have bKa:=0;exact zLx):p:=h
theorem zHe(h:p:=by obtain⟨o1,o2⟩:=S8 bK;exact⟨av,cv,rfl,aAj xE.out.own,o1,fun b off q=>by obtain⟨q1,q2,q3⟩:=o2 b off q;exact⟨od,q2,q3⟩⟩):p:=h
theorem zHf(h:p:=by exact⟨he,O'',h.trans h2,c2⟩):p:=h
theorem zHg(h:p:=by refine kp hK fun aG=>?_;clear hK K;refine tk 16 aG ?_;refine tk 17 aG ?_;refine dn ?_;exact aSo _ _ _ _ _ _ _ _ _ _ _ _ _ _ _ _ _ _ hW):p:=h
theorem zHh(h:p:=by simpa using this):p:=h
theorem zHi(h:p:=by exact hg.output.trans hB.output):p:=h
theorem zHm(h:p:=by obtain⟨fa,cs,c,rd,T,e,h1,h2⟩:=h;obtain⟨fa',cs',c',Y4,T',e',g1,g2⟩:=g;rw[e]at e';cases e';exact zBm):p:=h
theorem zHp(h:p:=by
 repeat(refine Below.alloc ?_ Oh _)
 exact kX _ _):p:=h
theorem zHq(h:p:=by
 have HE:Hid (xF nw seq (k+1)=false):=by rw[HMt.out,HS.out,kC e];rfl
 clear e hm;exact zB2):p:=h
theorem zHr(h:p:=by
 have HE:Hid (xF nw seq (k+1)=true):=by rw[HMt.out,HS.out,kD e];rfl
 clear e hm;exact zB2):p:=h
theorem zHs(h:p:=by exact hg.tape.trans hB.tape):p:=h
theorem zHt(h:p:=by exact cP.more (bI5.out _ _ _ q2) od):p:=h
theorem zHu(h:p:=by
 repeat(refine Below.alloc ?_ (by first|omega|(simp;omega)|simp) _)
 exact rC hb):p:=h
theorem zHv(h:p:=by simp[intOf];omega):p:=h
theorem zHx(h:p:=by exact⟨od,od⟩):p:=h
theorem zHy(h:p:=by obtain⟨u1,u2⟩:=t7 (iS i) om;rw[u2];exact zB9):p:=h
theorem zHz(h:p:=by
 rw[hm]at HMt;have HE:Hid (xF nw seq (k+1)=true):=by rw[HMt.out];rfl
 clear hm;exact zB2):p:=h
theorem zH0(h:p:=by refine kp hK fun aG=>?_;clear hK K;refine tk 18 aG ?_;refine tk 19 aG ?_;exact zAj):p:=h
theorem zH1(h:p:=by refine kp hK fun aG=>?_;clear hK K;refine tk 16 aG ?_;refine tk 17 aG ?_;exact zAj):p:=h
theorem zH3(h:p:=by refine kp hK (fun aG=>?_) trivial;clear hK K;refine eA 10 fun K hK=>?_;exact zAe):p:=h
theorem zH9(h:p:=by exact hg.os.trans hB.os):p:=h
theorem zIe(h:p:=by rw[nE]at this;exact this):p:=h
theorem zIf(h:p:=by exact⟨rfl,rfl⟩):p:=h
theorem zIg(h:p:=by refine kp hK fun aG=>?_;clear hK K;refine tk 5 aG ?_;refine tk 6 aG ?_;refine oM (fuel:=1) og (fun _ _ _ _ h=>h) aG [(7,10),(8,11),(9,12),(10,13),(11,14),(12,15),(13,16),(14,17),(15,18),(16,19)] og ?_;exact zGn):p:=h
theorem zIh(h:p:=by refine kp hK fun aG=>?_;clear hK K;refine tk 8 aG ?_;refine tk 9 aG ?_;refine oM (fuel:=1) og (fun _ _ _ _ h=>h) aG [(10,23),(11,24),(12,25),(13,26),(14,27),(15,28),(16,29)] og ?_;exact zGn):p:=h
theorem zIj(h:p:=by have bKq:=0;exact zMt):p:=h
theorem zIk(h:p:=by rw[Array.getElem?_eq_none q]at hh;cases hh):p:=h
theorem zIl(h:p:=by exact tW.out w3 gq cq bP cD jW aTd):p:=h
theorem zIn(h:p:=by rw[kC (show ¬(lo<=n/\n<=hi)by omega)];exact zG3):p:=h
theorem zIp(h:p:=by have bGr:=0;exact zMz):p:=h
theorem zIq(h:p:=by have dQ:(Tryz.f56.body.bind (jU 9)).getD Code.skip=code:=Ee;exact zOm):p:=h
theorem zIr(h:p:=by have bKt:=0;exact zM1):p:=h
theorem zIt(h:p:=by have bKs:=0;exact zM0):p:=h
theorem zIw(h:p:=by have aEg:=0;exact zM4):p:=h
theorem zIx(h:p:=by clear hF;have aL8:=0;exact zNh):p:=h
theorem zI0(h:p:=by have aU4:=0;exact zP5):p:=h
theorem zI1(h:p:=by
 have hm:=h.more (X:=X) lo hi (fun c q1 q2=>ap c q1 (kK (.inr q2)));have nIn:mY w (X++M) a n:=⟨hr,fun b off e _=>⟨kK (.inl (hX b off e).1),(hX b off e).2⟩⟩;have aLc:uU w M O a n:=⟨hr,fun b off e _ q=>ap b (hX b off e).1 q⟩
 first|have _:=S4;have up:∀{e:Ending} {w':World},gU base S M O st N k n tx w e w'->gU base S (X++M) O st N k n tx w e w':=fun q=>q.more|have up:∀{e:Ending} {w':World},cS base S M O st N k n tx w e w'->cS base S (X++M) O st N k n tx w e w':=fun q=>q.more
 have hd:∀i,i<n.length->gW (n.getD i 0):=fun i q=>eE _ jt
 first|(have _:=S4;have nn:∀{fa:Int} {cs:List Int} {c:cA} {rd:Int} {T:Nat},st.clu=some (fa,cs,c,rd,T)->st.clu≠none:=fun e=>by rw[e];exact fun q=>by cases q)|skip
 cases k using Kd.each;case qX=>
  have hl:n.length=6:=A5.elim id (fun q=>by cases q.2)
  first|have _:=S4;exact aUr hm (lZ xZ rfl) n hl a cap tx nIn va|exact aFp hm (lZ xZ rfl) n hl a cap tx nIn
 case oW=>
  have hl:n.length=3:=A5.elim id (fun q=>by cases q.2)
  first
  |have _:=S4;by_cases hs:st.aI.ns<32
   ·exact(aUu h hD (lZ xZ rfl) hs n hl a cap tx hr va).mono fun _ _=>up
   ·exact(aI9 h (lZ xZ rfl) hs n tx va _).mono fun _ _=>up
  |exact(aDg h (lZ xZ rfl) n hl a cap tx aLc).mono fun _ _=>up
 case oU=>
  have hl:n.length=4:=A5.elim id (fun q=>by cases q.2)
  first
  |have _:=S4;by_cases hs:st.aI.nl<8
   ·exact aUo hm hD (lZ xZ rfl) hs n hl (hd 1 od) a cap tx nIn va
   ·exact(aI6 h (lZ xZ rfl) hs n tx va _).mono fun _ _=>up
  |exact(aDf h (lZ xZ rfl) n hl (hd 1 od) a cap tx aLc).mono fun _ _=>up
 first|(have _:=S4;case bytes_=>exact(aQi h hD hFi n tx va _).mono fun _ _=>up)|case bytes_=>exact(aK7 h hDw n _ tx).mono fun _ _=>up
 case iV=>
  first
  |have _:=S4
   cases n with
   |nil=>exact absurd A5 Ei
   |cons x l=>exact(aQn h hFi (lZ xZ rfl) x l Jm a cap (by simpa using hcap) tx hr va).mono fun _ _=>up
   skip
  |cases n with
   |nil=>exact absurd A5 Ei
   |cons x l=>exact(aMu h hD x (eE x kQ) l Jm a cap (by simpa using hcap) tx aLc).mono fun _ _=>up
   skip
 case oZ=>exact zNy
 case iC=>
  have hl:n.length=2:=A5.elim id (fun q=>by cases q.2);obtain⟨fa,cs,c,rd,T,dI⟩:=mB xZ rfl;obtain⟨x,y,rfl⟩:∃x y,n=[x,y]:=by
   match n,hl with
   |[x,y],_=>exact⟨x,y,rfl⟩
  first|have _:=S4;exact(aI8 h dI (wF fa cs c rd T dI) x y a cap tx aLc va).mono fun _ _=>up|exact(aEt h hD dI (wF fa cs c rd T dI) x y a cap tx aLc).mono fun _ _=>up
 case pV=>
  have hl:n.length=3:=A5.elim id (fun q=>by cases q.2)
  first|have _:=S4;obtain⟨fa,cs,c,rd,T,dI⟩:=mB xZ rfl;exact aUp hm (nn dI) od n hl (hd 2 od) a cap tx nIn va|exact aPw hm od n hl (hd 2 od) a cap tx nIn
 case pY=>
  have hl:n.length=3:=A5.elim id (fun q=>by cases q.2)
  first|have _:=S4;obtain⟨fa,cs,c,rd,T,dI⟩:=mB xZ rfl;exact aUs hm (nn dI) od n hl a cap tx nIn va|exact aQq hm od n hl a cap tx nIn
 first
 |have _:=S4;case mF=>obtain⟨fa,cs,c,rd,T,dI⟩:=mB xZ rfl;exact aQk hm (nn dI) n od a cap tx nIn va
  case qL=>obtain⟨fa,cs,c,rd,T,dI⟩:=mB xZ rfl;exact aUq hm (nn dI) n od a cap tx nIn va
 |case mF=>exact aKh hm n hlen a cap tx nIn
  case qL=>exact aQ3 hm n hlen a cap tx nIn
 case oC=>
  obtain⟨fa,cs,c,rd,T,dI⟩:=mB xZ rfl
  first|have _:=S4;exact(aQm h hD hFi dI hN n tx va _).mono fun _ _=>up|exact(aMg h hD dI hN n _ tx).mono fun _ _=>up
 case jV=>
  obtain⟨fa,cs,c,rd,T,dI⟩:=mB xZ rfl
  first|have _:=S4;exact(aLz h hD dI n tx va _).mono fun _ _=>up|exact(aGk h hDw dI n _ tx).mono fun _ _=>up
 case kY=>
  obtain⟨fa,cs,c,rd,T,dI⟩:=mB xZ rfl
  first|have _:=S4;exact(aM1 h hD dI (aKs (h.r.clu fa cs c rd T dI).1) n tx va _).mono fun _ _=>up|exact(aJ7 h hDw dI n _ tx).mono fun _ _=>up
 case eD=>have bL3:=0;exact zNy
 case gP=>
  first
  |have _:=S4
   cases n with
   |nil=>exact absurd A5 Ei
   |cons x l=>exact(aEs h hD x l Jm a cap (by simpa using hcap) tx hr (by have:=tR l x;exact⟨od,od⟩) va).mono fun _ _=>up
   skip
  |cases n with
   |nil=>exact absurd A5 Ei
   |cons x l=>exact(aBp h hDw x l Jm a cap (by simpa using hcap) tx hr).mono fun _ _=>up
   skip
 case pM=>
  have hl:n.length=5:=A5.elim id (fun q=>by cases q.2)
  first|have _:=S4;exact(aQl h hD n hl a cap tx hr va).mono fun _ _=>up|exact(aL2 h hDw n hl a cap tx hr).mono fun _ _=>up
 case real_=>
  have hl:n.length=5:=A5.elim id (fun q=>by cases q.2)
  first|have _:=S4;exact(aUt h hD n hl a cap tx hr va).mono fun _ _=>up|exact(aQs h hDw n hl a cap tx hr).mono fun _ _=>up
 first
 |have _:=S4;case clear_=>exact(aQj h n tx va _).mono fun _ _=>up
  case wB=>exact(aUn h n tx va _).mono fun _ _=>up
 |case clear_=>exact(aKa h n _ tx).mono fun _ _=>up
  case wB=>exact(aPf h n _ tx).mono fun _ _=>up):p:=h
theorem zI2(h:p:=by
 have lC:C<w1.heap.size:=h1.lC;have hsz:=b.size;have hs3:w1.heap.size+1<=w3.heap.size:=by
  have:=hgr.size
  first|have _:=F7;rw[show(w1.alloc (.cells #[pP P] 119)).heap.size=w1.heap.size+1 by simp]at this|rw[show(w1.alloc (.cells #[pP S] 110)).heap.size=w1.heap.size+1 by simp]at this
  exact this
 first|have _:=F7;have aH6:(w3.setCell (aA C 12) V').heap.size=w3.heap.size:=oh;have k3:∀c,c<w1.heap.size->iT.ownBlock≠some c->w3.heap[c]?=w1.heap[c]?:=fun c hc hv=>(hgr.block c ol (fun e=>hv e.symm)).trans (((kX w1.heap.size w1).alloc (kF _) _).block c hc);have k4:∀c,c≠C->(w3.setCell (aA C 12) V').heap[c]?=w3.heap[c]?:=fun c hc=>Below.heap_setCell _ _ _ c hc;have aKo:iT.ownBlock≠some C:=fun e=>h.nC (kO _ (kK (.inr (kK (.inl (by rw[e];simp))))))|have aH6:(w3.setCell (aA C 13) V').heap.size=w3.heap.size:=oh;have k3:∀c,c<w1.heap.size->iU.ownBlock≠some c->w3.heap[c]?=w1.heap[c]?:=fun c hc hv=>(hgr.block c ol (fun e=>hv e.symm)).trans (((kX w1.heap.size w1).alloc (kF _) _).block c hc);have k4:∀c,c≠C->(w3.setCell (aA C 13) V').heap[c]?=w3.heap[c]?:=fun c hc=>Below.heap_setCell _ _ _ c hc;have aKo:iU.ownBlock≠some C:=fun e=>h.nC (kO _ (kK (.inr (kK (.inr (by rw[e];simp))))))
 have aCc:∀q,w3.cell? (aA C q)=w1.cell? (aA C q):=fun q=>World.cell?_of_block (w:=w1) (a:=(aA C q)) (k3 C lC aKo);have bEu:∀q,w3.frozen? (aA C q)=w1.frozen? (aA C q):=fun q=>World.frozen?_of_block (w:=w1) (a:=(aA C q)) (k3 C lC aKo);have hV':∀g,V'.ownBlock=some g->g≠C:=fun g hg e=>by exact zE3
 have iBm:∀c,c∈Of iB->c=C\/c=m.tb\/c∈fT\/iT.ownBlock=some c\/iU.ownBlock=some c:=fun c hc=>by rw[h.ob]at hc;simpa using hc
 first|(have _:=F7;have hob:dV Of (iN i) [P,Q] iB=Of iB:=bG _ _ Ou;have hF:aS (dV Of (iN i) [P,Q] iB) (C::m.tb::(fT++(V'.ownBlock.toList++iU.ownBlock.toList))) w1 (w3.setCell (aA C 12) V'):=by exact zNc)|have hob:dV Of (iS k) [S] iB=Of iB:=bG _ _ Ou;have hF:aS (dV Of (iS k) [S] iB) (C::m.tb::(fT++(iT.ownBlock.toList++V'.ownBlock.toList))) w1 (w3.setCell (aA C 13) V'):=by have aYb:=0;exact zNc
 have bFh:∀g,V'.ownBlock=some g->g<w3.heap.size:=fun g hg=>(bK.lt g hg).2
 first|(have _:=F7;have hY:∀c,c∈C::m.tb::(fT++(V'.ownBlock.toList++iU.ownBlock.toList))->c<(w3.setCell (aA C 12) V').heap.size:=fun c hc=>by exact zNo)|have hY:∀c,c∈C::m.tb::(fT++(iT.ownBlock.toList++V'.ownBlock.toList))->c<(w3.setCell (aA C 13) V').heap.size:=fun c hc=>by have bGw:=0;exact zNo
 have aNt:=aGz.step (i:=iB) hF hY
 first
 |have _:=F7;have same:∀x,x≠iB->Same (dV Of (iN i) [P,Q] x) w1 (w3.setCell (aA C 12) V'):=fun x hx=>aGz.same hF hx;have so:∀x,x≠iB->x≠iN i->dV (dV Of (iN i) [P,Q]) iB (C::m.tb::(fT++(V'.ownBlock.toList++iU.ownBlock.toList))) x=Of x:=fun x h1 h2=>by rw[bG _ _ h1,bG _ _ h2]
  have zK:∀x,x≠iB->x≠iN i->Same (Of x) w1 (w3.setCell (aA C 12) V'):=fun x h1 h2=>by exact zE4
  have I9:∀g,V'.ownBlock=some g->iT.ownBlock=some g\/w1.heap.size<=g:=fun g hg=>by exact zEu
  have aL7:∀c,c=m.tb\/c∈fT\/iU.ownBlock=some c->c<w1.heap.size:=fun c hc=>h1.fam.lt iB c (by
   rw[h.ob]
   rcases hc with e|e|e<;>simp[e])
  refine⟨_,⟨fun q h2 h3=>?_,?_,?_,fun q=>?_,?_,?_,cZ _ _ _,?_,?_,?_,fun g hg hc=>?_,h.n13,fun j hj=>?_,fun j hj=>?_,fun a c hT=>?_,?_,⟨?_,?_⟩,fun j hj=>?_,fun j hj=>?_,fun a c hT=>?_,?_,aNt,fun x c hx hc=>?_,by rw[aH6];have:=h.sz;omega⟩⟩
 |have same:∀x,x≠iB->Same (dV Of (iS k) [S] x) w1 (w3.setCell (aA C 13) V'):=fun x hx=>aGz.same hF hx;have so:∀x,x≠iB->x≠iS k->dV (dV Of (iS k) [S]) iB (C::m.tb::(fT++(iT.ownBlock.toList++V'.ownBlock.toList))) x=Of x:=fun x h1 h2=>by rw[bG _ _ h1,bG _ _ h2]
  have zK:∀x,x≠iB->x≠iS k->Same (Of x) w1 (w3.setCell (aA C 13) V'):=fun x h1 h2=>by exact zE4
  have I9:∀g,V'.ownBlock=some g->iU.ownBlock=some g\/w1.heap.size<=g:=fun g hg=>by exact zEu
  have aL7:∀c,c=m.tb\/c∈fT\/iT.ownBlock=some c->c<w1.heap.size:=fun c hc=>h1.fam.lt iB c (by
   rw[h.ob]
   rcases hc with e|e|e<;>simp[e])
  refine⟨_,⟨fun q h2 h3=>?_,?_,?_,fun q=>?_,?_,?_,cZ _ _ _,?_,?_,?_,h.n12,fun g hg hc=>?_,fun j hj=>?_,fun j hj=>?_,fun a c hT=>?_,?_,⟨?_,?_⟩,fun j hj=>?_,fun j hj=>?_,fun a c hT=>?_,?_,aNt,fun x c hx hc=>?_,by rw[aH6];have:=h.sz;omega⟩⟩
 ·first|have _:=F7;exact(aB (.inr h2)).trans ((aCc q).trans (h1.cel q h2 h3))|exact(aB (.inr h3)).trans ((aCc q).trans (h1.cel q h2 h3))
 ·first|have _:=F7;exact aY ((aCc 12).trans h1.c12)|exact(aB (.inr oe)).trans ((aCc 12).trans h1.c12)
 ·first|have _:=F7;exact(aB (.inr oe)).trans ((aCc 13).trans h1.c13)|exact aY ((aCc 13).trans h1.c13)
 ·exact bI.trans ((bEu q).trans (h1.z q))
 first
 |have _:=F7
  ·have e:(List.range (i+1)).map (fun j=>Value.pointer (some ⟨if j=i then P else m.P j,0,none⟩))=((List.range i).map fun j=>Value.pointer (some ⟨m.P j,0,none⟩))++[pP P]:=by exact zEe
   show(w3.setCell (aA C 12) V').ownsRow base 119 1 V' (i+1) ((List.range (i+1)).map (fun j=>Value.pointer (some ⟨if j=i then P else m.P j,0,none⟩)));exact zD1
 |skip
 ·first|have _:=F7;refine lI (X:=iU.ownBlock.toList) h1.own13 ⟨by rw[aH6];omega,fun c hc=>?_⟩ (fun g hg=>by simpa using hg);have hc':iU.ownBlock=some c:=jA1|refine lI (X:=iT.ownBlock.toList) h1.own12 ⟨by rw[aH6];omega,fun c hc=>?_⟩ (fun g hg=>by simpa using hg);have hc':iT.ownBlock=some c:=jA1
  have hcC:c≠C:=fun e=>h.nC (by rw[<-e];simp[hc']);refine(k4 c hcC).trans (k3 c (aL7 c (.inr (.inr hc'))) (fun e=>?_));rcases h.ap with y|y
  ·first|(have _:=F7;rw[y]at e;cases e)|(rw[y]at hc';cases hc')
  ·exact y (by rw[e,hc'])
 first
 |have _:=F7
 |·have e:(List.range (k+1)).map (fun j=>Value.pointer (some ⟨if j=k then S else m.S j,0,none⟩))=((List.range k).map fun j=>Value.pointer (some ⟨m.S j,0,none⟩))++[pP S]:=by exact zEe
   show(w3.setCell (aA C 13) V').ownsRow base 110 1 V' (k+1) ((List.range (k+1)).map (fun j=>Value.pointer (some ⟨if j=k then S else m.S j,0,none⟩)));exact zD1
 ·first|(have _:=F7;rcases hq:V'.ownBlock with _|g;skip)|(rcases hq:iT.ownBlock with _|g;skip)
  ·exact .inl rfl
  ·right;intro e
   first|(have _:=F7;rcases I9 g hq with y|y;skip)|(rcases I9 g e.symm with y|y;skip)
   ·rcases h.ap with z|z
    ·first|(have _:=F7;rw[z]at y;cases y)|(rw[z]at hq;cases hq)
    ·first|have _:=F7;exact z (by rw[y,e])|exact z (by rw[hq,y])
   ·first|have _:=F7;have:=aL7 g (.inr (.inr e.symm));omega|have:=aL7 g (.inr (.inr hq));omega
 ·intro hc;simp only[List.mem_cons,List.mem_append,Option.mem_toList]at hc;rcases hc with e|e|e|e
  ·exact h.nC (by rw[e];simp)
  ·exact h.nC jn
  ·first|have _:=F7;exact hV' C e rfl|exact h.nC (by simp[show iT.ownBlock=some C from e])
  ·first|have _:=F7;exact h.nC (by simp[show iU.ownBlock=some C from e])|exact hV' C e rfl
 ·intro hc;simp only[List.mem_append,Option.mem_toList]at hc;rcases hc with e|e|e
  ·exact h.nT jn
  ·first|have _:=F7;exact zFh|exact h.nT (by simp[show iT.ownBlock=some m.tb from e])
  ·first|have _:=F7;exact h.nT (by simp[show iU.ownBlock=some m.tb from e])|exact zFh
 ·rcases I9 g hg with y|y
  ·first|have _:=F7;exact h.n12 g y hc|exact h.n13 g y hc
  ·have:=aL7 g (.inr (.inl hc));omega
 ·first
  |have _:=F7;by_cases e:j=i
   ·subst e;simp only[kJ];have hs:=same (iN j) om;rw[cZ]at hs;exact⟨hN.J5 hs,by rw[bG _ _ om,cZ]⟩
   ·simp only[kI e];have dM:iN j≠iN i:=Ex;have hn:=h1.node j od;exact⟨hn.1.J5 (hn.2▸zK (iN j) om dM),by rw[so _ om dM];exact hn.2⟩
  |rw[so _ om om];have hn:=h1.node j hj;exact⟨hn.1.J5 (hn.2▸zK (iN j) om om),hn.2⟩
 ·first
  |have _:=F7;rw[so _ om om];exact(h1.snd j hj).keep (zK _ om om)
  |by_cases e:j=k
   ·subst e;simp only[kJ];have hs:=same (iS j) om;rw[cZ]at hs;rw[bG _ _ om,cZ];exact hN.keep hs
   ·simp only[kI e];have dM:iS j≠iS k:=Ex;rw[so _ om dM];exact(h1.snd j od).keep (zK _ om dM)
 ·exact zFd
 ·exact zDa
 ·rw[so _ oe om];exact h1.prt.1
 ·exact h1.prt.2.keep E9
 ·first|(have _:=F7;rw[so _ om (by intro y;cases y;omega)];exact h.eN j od)|rw[so _ om om];exact h.eN j hj
 ·first|have _:=F7;rw[so _ om om];exact h.eS j hj|(rw[so _ om (by intro y;cases y;omega)];exact h.eS j od)
 ·rw[so _ om om];exact h.eR a c hT
 ·rw[so _ oe om];exact h.oz
 ·exact zDk):p:=h
theorem zI4(h:p:=by
 have hA:=fun u=>sY 4 u
 first|have _:=m16;obtain⟨i0,hi0,lO,mX,jX⟩:=info_parts Tryz.aPo;have HI:Hid (∀v:World,Calls prog 17 #[iI st.aI.nl] v fun e w'=>e=rT (sT (dG st.aI.nl))/\w'=v):=fun v=>Tryz.strconv_Itoa_small st.aI.nl od v;generalize hV:u.alloc (.cells #[iI (n.getD 0 0),iI (n.getD 1 0),iI (n.getD 2 0),iI (n.getD 3 0)] 96)=V|obtain⟨i0,hi0,lO,mX,jX⟩:=info_parts Tryz.aCm;have HI:Hid (∀v:World,Calls prog 17 #[iI st.aI.ns] v fun e w'=>e=rT (sT (dG st.aI.ns))/\w'=v):=fun v=>Tryz.strconv_Itoa_small st.aI.ns od v;generalize hV:u.alloc (.cells #[iI (n.getD 0 0),iI (n.getD 1 0),iI (n.getD 2 0)] 94)=V
 exact zPe):p:=h
theorem zI5(h:p:=by have bGs:=0;exact zM3):p:=h
theorem zI6(h:p:=by
 obtain⟨b,off,rfl,gX,hc⟩:=hr.1 oh;have hbo:=hr.2 b off rfl oh
 first|have _:=m18;generalize hV:w.alloc (.cells #[sV (some (aA b off)) 2 cap,sT tx] 83)=V|generalize hV:w.alloc (.cells #[sV (some (aA b off)) 1 cap,sT tx] 83)=V
 have aPx:=0;exact zQg):p:=h
theorem zI9(h:p:=by
 have hE:Hid (dJ nodes aF aJ aC aH round frame ns nl nw=1):=tP od
 first|have _:=m21;clear n4|clear n1
 have bLs:=0;exact zPf):p:=h
theorem zJa(h:p:=by
 have hE:Hid (dC (fun _=>lf) (fun _=>lt) (fun _=>lb) (fun _=>lq) (fun _=>hit) nodes pw 0=2):=wJ a2 a3 w1.out od
 first|have _:=m22;clear e1 e2|clear e1
 have bLu:=0;exact zPh):p:=h
theorem zJd(h:p:=by have aPz:=0;exact zNa):p:=h
theorem zJe(h:p:=by have bGt:=0;exact zM5):p:=h
theorem zJf(h:p:=by
 obtain⟨b,off,rfl,gX,hc⟩:=hr.1 od;have hbo:=hr.2 b off rfl od;rw[hn]at hc⊢
 first|have _:=m27;generalize hV:w.alloc (.cells #[sV (some (aA b off)) 4 cap,sT tx] 83)=V|generalize hV:w.alloc (.cells #[sV (some (aA b off)) 3 cap,sT tx] 83)=V
 have hB:bW w V:=hV▸(kX _ w).alloc (kF _) _
 first|have _:=m27;have x0:V.cell? (aA w.heap.size 0)=some (sV (some (aA b off)) 4 cap):=ou|have x0:V.cell? (aA w.heap.size 0)=some (sV (some (aA b off)) 3 cap):=ou
 exact zOz):p:=h
theorem zJh(h:p:=by have bCj:=0;exact zOo):p:=h
theorem zJi(h:p:=by have bKu:=0;exact zM6):p:=h
theorem zJl(h:p:=by have aPy:=0;exact zM9):p:=h
theorem zJp(h:p:=by have bKx:=0;exact zNj):p:=h
theorem zJq(h:p:=by have c10:=h.c10n dI;exact zO6):p:=h
theorem zJt(h:p:=by have bKv:=0;exact zPd):p:=h
theorem zJw(h:p:=by
 by_cases h1:cV f s n d=false
 ·have e:oA f s n d l=1:=by unfold oA;rw[kJ h1]
  rw[e]
  first|have _:=m44;exact(aIh f s n d l u h1).mono fun ev w' h=>⟨0,h.1,z,fun q=>eh,h.2⟩|exact(aV3 f s n d l u h1).mono fun ev w' h=>⟨0,h.1,fun q=>eh,h.2⟩
 ·have Q8:cV f s n d=true:=by simpa using h1
  obtain⟨a1,a2,a3,a4,a5,a6,a7,a8,a9,a10⟩:=iK Q8;by_cases h2:l< -1099511627776\/1099511627776<l\/1099511627776<lQ f s n d l
  ·have e:oA f s n d l=2:=by unfold oA;rw[kI h1,kJ h2]
   rw[e];by_cases h3:l< -1099511627776
   ·first|have _:=m44;exact(aIi f s n d l u Q8 h3).mono fun ev w' h=>⟨0,h.1,z,fun q=>eh,h.2⟩|exact(aV4 f s n d l u Q8 h3).mono fun ev w' h=>⟨0,h.1,fun q=>eh,h.2⟩
   ·by_cases h4:1099511627776<l
    ·first|have _:=m44;exact(aF3 f s n d l u Q8 h4).mono fun ev w' h=>⟨0,h.1,z,fun q=>eh,h.2⟩|exact(aQu f s n d l u Q8 h4).mono fun ev w' h=>⟨0,h.1,fun q=>eh,h.2⟩
    ·have h5:1099511627776<lQ f s n d l:=by rcases h2 with q|q|q;exact absurd q h3;exact absurd q h4;exact q
     first
     |have _:=m44;have h6:=aCv (s:=s) (l:=l) a5 a7 (t:=1099511627776) a2;exact(aF2 f s n d l u Q8 od od (by by_cases c:l<=s+(1099511627776-f)*n/d;have:=h6.1 c;omega;omega)).mono fun ev w' h=>⟨0,h.1,z,fun q=>eh,h.2⟩
     |by_cases h6:l<=s
      ·unfold lQ at h5;rw[kJ h6]at h5;omega
      ·unfold lQ at h5;rw[kI h6]at h5;exact(aQt f s n d l u Q8 od od h5).mono fun ev w' h=>⟨0,h.1,fun q=>eh,h.2⟩
  ·have e:oA f s n d l=0:=by unfold oA;rw[kI h1,kI h2]
   first|have _:=m44;have hi:=aO4 e|skip
   rw[e];simp only[not_or]at h2;obtain⟨q1,q2,q3⟩:=h2
   first
   |have _:=m44;have hX:f<=lQ f s n d l:=by
     unfold lQ;by_cases h6:l<=s
     ·rw[kJ h6];omega
     ·rw[kI h6];have:=bDy (x:=l-s) (n:=n) (d:=d) od a5 a7;omega
    exact(aM9 f s n d l (lQ f s n d l) u Q8 od od hX od (fun t ht _=>aCv a5 a7 ht)).mono fun ev w' h=>⟨_,h.1,hi,fun _=>rfl,h.2⟩
   |by_cases h6:l<=s
    ·have e2:lQ f s n d l=f:=by unfold lQ;rw[kJ h6]
     rw[e2];exact(aM3 f s n d l u Q8 od h6).mono fun ev w' h=>⟨f,h.1,fun _=>⟨rfl,od,od⟩,h.2⟩
    ·have e2:lQ f s n d l=f+((l-s)*d+n-1)/n:=by unfold lQ;rw[kI h6]
     rw[e2]at q3⊢;refine(aZ0 f s n d l u Q8 od od od).mono fun ev w' h=>⟨_,h.1,fun _=>⟨rfl,?_⟩,h.2⟩;exact zFf):p:=h
theorem zJ0(h:p:=by have bCc:=0;exact zNb):p:=h
theorem zJ1(h:p:=by
 obtain⟨b,off,rfl,gX,hc⟩:=hr.1 oh;have hbo:=hr.2 b off rfl oh;have c10:=h.c10s (by rw[dI];exact fun e=>by cases e)
 first|(have _:=m49;have n0:w.cell? (aA b off)=some (iI x):=Oj;have n1:w.cell? (aA b (off+1))=some (iI y):=by have:=hc 1 oh;simpa using this)|have n0:w.cell? (aA b off)=some (iI (k:Int)):=Oj
 obtain⟨⟨Z,m,hZ,hR,lF,sH⟩,hTN⟩:=h.r.clu fa cs c rd T dI;have qO:=h.r.nl
 first|have _:=m49|obtain⟨ek,hkX⟩:=hR.base.ka od;have d13:=hR.base.c13;rw[ek]at d13;have dk:=hR.base.kk k hk;have kk:(k:Int)<(st.aI.nl:Int):=od;have H1:=S1 k ((st.aI.nl:Int)-1) true (kD od)
 have hbO:b∉O:=fun q=>hbo (kK (.inr q))
 first
 |have _:=m49;have jB:st.aI.nodes=(st.aI.n:Int):=M9 lF;have mR:st.aI.n<=16:=by have:=lF.aI.bounds.n2;omega
  have HP:Hid (∀v,bW w v->Calls prog 55 #[pP A.C,iI x,iI y] v fun e u=>∃d k,e=rT (tU #[sT d,iI k])/\d.size<=40/\(u.cell? (aA b off)=some (iI x)/\u.cell? (aA b (off+1))=some (iI y))/\∀w',bW u w'->gU base S M O st N .iC [x,y] tx w (rT (tU #[sT (⟨#[105,115,32]⟩++d),iI k])) w'):=fun v hv=>by exact zOv
  clear h dI hR hZ lF sH hr hc hbo hTN hbO jB mR wF qO
 |have hwO:wb∉O:=fun q=>hwo (kK (.inr q));have HP:Hid (∀v,bW w v->Calls prog 54 #[.pointer (some ⟨m.S k,0,none⟩),sT tx] v fun e u=>e=rT (iI (c.putK st.aI k tx))/\(u.cell? (aA A.C 13)=some (sL m.kb st.aI.nl m.aKw)/\u.cell? (aA b off)=some (iI (k:Int))/\u.cell? (aA m.kb k)=some (.pointer (some ⟨m.S k,0,none⟩))/\u.cell? (aA wb (P8+1))=some (sT tx))/\∀w',bW u w'->gU base S M O st N .oZ [(k:Int)] tx w (rT (tU #[sT ⟨#[112,117,116]⟩,iI (c.putK st.aI k tx)])) w'):=fun v hv=>by
   refine(aVn (hR.below hv) k tx hk od).mono ?_;rintro e u ⟨rfl,O1,hf,hR1⟩;have N3:aS O O1 w u:=(aS.of_below hv).trans hf;refine⟨rfl,⟨?_,(N3.cell (p:=(aA b off)) gX hbO).trans n0,hR1.base.kk k hk,(N3.cell (p:=(aA wb (P8+1))) hwl hwO).trans yS⟩,fun w' hw'=>?_⟩
   ·have:=hR1.base.c13;rw[ek]at this;exact this
   ·have rH:A3 u M O1 A.C st.aI fa cs (c.put st.aI k tx) rd (T+1):=⟨Z,m,d9 N3 hZ hR.az hR.rows.zl,hR1.more od,lF,sH.1,od⟩;obtain⟨q1,q2⟩:=(h.later (kR N)).aGl N3 (by rw[dI];exact fun q=>by cases q) rH od;exact⟨_,_,M,O1,A,⟨fa,cs,c,rd,T,dI,.inl ⟨k,rfl,hk,rfl,rfl⟩⟩,aHz _ _,q2.trans (aS.of_below hw'),q1.below hw'⟩
  clear h dI hR hZ lF sH hr hc hbo hwo hTN ek hkX hk hbO hwO;generalize st.aI.nl=nn at *;generalize c.putK st.aI k tx=pk at *
 exact zP1):p:=h
theorem zJ2(h:p:=by
 have hA:=fun u=>tZ 3 u;unfold pU
 first|have _:=m50;subst h4|skip
 obtain⟨b,off,rfl,hb,hc⟩:=hr od;have q1:((ws.length:Int)-1)=(q:Int):=od;have q2:q<ws.length:=od;have q3:(q:Int)<(ws.length:Int):=od;have q4:ws.length<=cap:=hcap;have y3:∀o1 o2 o3:Obj,(((w.alloc o1).alloc o2).alloc o3).cell? (aA b (off+q))=some (sT tx):=fun o1 o2 o3=>(((((kX _ w).alloc (kF _) o1).alloc oh o2).alloc ol o3).cell (p:=(aA b (off+q))) hb).trans (hc q tx hx);have k1:(((q:Int):Int)==(m:Int))=false:=by simpa using(show ¬((q:Int):Int)=m by omega)
 first|have _:=m50;have k2:(m:Int)<((q:Int):Int):=od|have k2:decide ((m:Int)<((q:Int):Int))=false:=kC od
 exact zCl):p:=h
theorem zJ3(h:p:=by rw[hn];generalize hV:w.alloc (.cells #[sV a 5 cap,sT tx] 83)=V;have bH5:=0;exact zOq):p:=h
theorem zJ5(h:p:=by
 have hh:=of_decide_eq_false h;by_cases h1:0<=f;rotate_left
 ·first|have _:=m53;exact aRb f s n d w od|exact aF4 f s n d w od
 by_cases h2:f<=1099511627776;rotate_left
 ·first|have _:=m53;exact aRc f s n d w h1 od|exact aF5 f s n d w h1 od
 by_cases h3:-1099511627776<=s;rotate_left
 ·first|have _:=m53;exact aRd f s n d w h1 h2 od|exact aF6 f s n d w h1 h2 od
 by_cases h4:s<=1099511627776;rotate_left
 ·first|have _:=m53;exact aRe f s n d w h1 h2 h3 od|exact aF7 f s n d w h1 h2 h3 od
 by_cases h5:1<=n;rotate_left
 ·first|have _:=m53;exact aRf f s n d w h1 h2 h3 h4 od|exact aF8 f s n d w h1 h2 h3 h4 od
 by_cases h6:n<=1000000;rotate_left
 ·first|have _:=m53;exact aRg f s n d w h1 h2 h3 h4 h5 od|exact aF9 f s n d w h1 h2 h3 h4 h5 od
 by_cases h7:1<=d;rotate_left
 ·first|have _:=m53;exact aRh f s n d w h1 h2 h3 h4 h5 h6 od|exact aFa f s n d w h1 h2 h3 h4 h5 h6 od
 by_cases h8:d<=1000000;rotate_left
 ·first|have _:=m53;exact aRi f s n d w h1 h2 h3 h4 h5 h6 h7 od|exact aFb f s n d w h1 h2 h3 h4 h5 h6 h7 od
 by_cases h9:n<=2*d;rotate_left
 ·first|have _:=m53;exact aRj f s n d w h1 h2 h3 h4 h5 h6 h7 h8 od|exact aFc f s n d w h1 h2 h3 h4 h5 h6 h7 h8 od
 by_cases h10:d<=2*n;rotate_left
 ·first|have _:=m53;exact aMd f s n d w h1 h2 h3 h4 h5 h6 h7 h8 h9 od|exact aBz f s n d w h1 h2 h3 h4 h5 h6 h7 h8 h9 od
 exact absurd ⟨h1,h2,h3,h4,h5,h6,h7,h8,h9,h10⟩ hh):p:=h
theorem zJ7(h:p:=by obtain⟨b,off,rfl,gX,hc⟩:=hr od;rw[hn]at hc⊢;have c10:=h.c10;have bKz:=0;exact zNl):p:=h
theorem zJ9(h:p:=by
 have H1:=S1 j ((p.n:Int)-1) true (kD od);have H2:=S1 k ((p.nl:Int)-1) true (kD od)
 first|have _:=m57;have HH:Hid (jJ w O Z C p fa cs s rd B m):=h|skip
 have c0:=h.base.c0;have c7:=h.base.c7;have c13:=h.base.c13
 first|have _:=m57;have c15:=h.base.c15|skip
 exact zO2):p:=h
theorem zKa(h:p:=by have bGu:=0;exact zNd):p:=h
theorem zKb(h:p:=by
 by_cases h1:cV f s n d=false
 ·have e:jC f s n d r=1:=by unfold jC;rw[kJ h1]
  rw[e]
  first|have _:=m59;exact(aEz f s n d r u h1).mono fun ev w' h=>⟨0,h.1,z,fun q=>eh,h.2⟩|exact(aPv f s n d r u h1).mono fun ev w' h=>⟨0,h.1,fun q=>eh,h.2⟩
 ·have Q8:cV f s n d=true:=by simpa using h1
  by_cases h2:r<f\/1099511627776<r\/1099511627776<s+(r-f)*n/d
  ·have e:jC f s n d r=2:=by unfold jC;rw[kI h1,kJ h2]
   rw[e];by_cases h3:r<f
   ·first|have _:=m59;exact(aAq f s n d r u Q8 h3).mono fun ev w' h=>⟨0,h.1,z,fun q=>eh,h.2⟩|exact(aHj f s n d r u Q8 h3).mono fun ev w' h=>⟨0,h.1,fun q=>eh,h.2⟩
   ·by_cases h4:1099511627776<r
    ·first|have _:=m59;exact(aBy f s n d r u Q8 h4).mono fun ev w' h=>⟨0,h.1,z,fun q=>eh,h.2⟩|exact(aL4 f s n d r u Q8 h4).mono fun ev w' h=>⟨0,h.1,fun q=>eh,h.2⟩
    ·first|(have _:=m59;exact(aBx f s n d r u Q8 od od (by rcases h2 with q|q|q;exact absurd q h3;exact absurd q h4;exact q)).mono fun ev w' h=>⟨0,h.1,z,fun q=>eh,h.2⟩;skip)|(exact(aL3 f s n d r u Q8 od od (by rcases h2 with q|q|q;exact absurd q h3;exact absurd q h4;exact q)).mono fun ev w' h=>⟨0,h.1,fun q=>eh,h.2⟩;skip)
  ·have e:jC f s n d r=0:=by unfold jC;rw[kI h1,kI h2]
   first|have _:=m59;have hi:=aHk e|skip
   rw[e];simp only[not_or]at h2;obtain⟨q1,q2,q3⟩:=h2
   first|have _:=m59;exact(aId f s n d r u Q8 od od od).mono fun ev w' h=>⟨_,h.1,hi,fun _=>rfl,h.2⟩|refine(aU0 f s n d r u Q8 od od od).mono fun ev w' h=>⟨_,h.1,fun _=>⟨rfl,?_⟩,h.2⟩;exact zDz):p:=h
theorem zKd(h:p:=by
 obtain⟨v,h,rfl⟩:=h;have hP:P∈P::v.ownBlock.toList:=kM (.inl rfl);unfold jZ jY K0 pF Y7 fU;by_cases h1:0<=t/\t<=1099511627776
 ·simp only[h1];by_cases h2:t<now
  ·simp only[kJ h2]
   first|have _:=m61;refine(aC0 h t h1 h2).mono ?_;exact zGf|refine(aMl h t h1 h2).mono ?_;exact zFi
  ·simp only[kI h2];by_cases h3:xV all.length aP t last bag=true
   ·simp only[kJ h3]
    first|have _:=m61;refine(aFe h t h1 od h3 tQ hl wT hb).mono ?_;exact zFx|refine(aRp h t h1 od h3 ha).mono ?_;exact zFr
   ·have h3':xV all.length aP t last bag=false:=by simpa using h3
    simp only[h3',Bool.false_eq_true,if_false]
    first
    |have _:=m61;refine(aMb h t h1 od h3' ha tQ hl wT hb).mono ?_;exact zFx
    |refine(aZq h t h1 od h3' ha wT hb).mono ?_;rintro e w' ⟨rfl,v',h',ht,jW⟩;refine⟨rfl,_,⟨v',h',rfl⟩,?_⟩;rw[jW];refine aS.jD ht hP ?_
     cases e:v.ownBlock with
     |none=>exact kM (.inl rfl)
     |some g=>exact kM (.inr (List.mem_singleton.2 rfl))
     skip
 ·simp only[h1,not_false_eq_true,if_true]
  first|have _:=m61;refine(aC1 h t h1).mono ?_;exact zGf|refine(aMm P t w h1).mono ?_;exact zFi):p:=h
theorem zKf(h:p:=by have bLj:=0;exact zOz):p:=h
theorem zKi(h:p:=by
 obtain⟨Z1,HT0⟩:=h.asked t
 first
 |have _:=m66;obtain⟨V,hV⟩:∃V,(w.setCell ⟨P,3,none⟩ (.int .i64 t)).alloc (.cells #[.int .i64 0,.string ⟨#[]⟩] 303)=V:=⟨_,rfl⟩;have hVs:V.heap.size=w.heap.size+1:=eo;obtain⟨V0,h0⟩:∃V0,w.setCell ⟨P,3,none⟩ (.int .i64 t)=V0:=⟨_,rfl⟩;have e0:V0.heap.size=w.heap.size:=by rw[<-h0];simp
  have r0:V.cell? ⟨w.heap.size,0,none⟩=some (.int .i64 0):=by rw[<-hV,h0,<-e0];simp
  have r1:V.cell? ⟨w.heap.size,1,none⟩=some (.string ⟨#[]⟩):=by rw[<-hV,h0,<-e0];simp
  have rz:∀i,V.frozen? ⟨w.heap.size,i,none⟩=false:=fun i=>by rw[<-hV,h0,<-e0];simp
  clear e0 h0;rw[hV]at Z1 HT0;have hR:=aIo Z1 t h1.1 h1.2 wT hb hw ha;have HV:Hid (aU P P w V):=HT0;obtain⟨d0,d1,d2,d3,d4,d5,_,bMp,_,_,_⟩:=Z1;skip
 |have HF:Hid (gM ((w.setCell (aA P 3) (iI t)).alloc (.cells #[iI 0,sT ⟨#[]⟩] 303)) B P bag queue all v aP last t):=Z1;have HT:Hid (aU P P w ((w.setCell (aA P 3) (iI t)).alloc (.cells #[iI 0,sT ⟨#[]⟩] 303))):=HT0;clear Z1 HT0
 have bH0:=0;exact zN1):p:=h
theorem zKl(h:p:=by have bGv:=0;exact zNm):p:=h
theorem zKm(h:p:=by have bH4:=0;exact zOa):p:=h
theorem zKn(h:p:=by
 refine⟨?_,hT⟩;obtain⟨Of,h⟩:=h
 first|have _:=m71;have hCO:C∈O:=h.sub iB C oe Oz|have hCO:C∈O:=h.sub iB C Oz
 have hgC:g≠C:=fun e=>hgO (e▸hCO);have b:=h.base
 first
 |have _:=m71;generalize hW:(w.setCell (aA C 16) (iI Y4)).setCell (aA C 11) (sL g cs'.length gc)=W at *;have cC:∀j,j≠11->j≠16->W.cell? (aA C j)=w.cell? (aA C j):=fun j h1 h2=>by rw[<-hW];exact(aB (.inr h1)).trans (aB (.inr h2))
  have cX:∀c j,c≠C->W.cell? (aA c j)=w.cell? (aA c j):=fun c j hc=>by rw[<-hW];exact(aB (.inl hc)).trans (aB (.inl hc))
  have bIv:W.cell? (aA C 11)=some (sL g cs'.length gc):=by rw[<-hW];exact aY ((aB (.inr oe)).trans b.c11)
  have bIw:W.cell? (aA C 16)=some (iI Y4):=by rw[<-hW];exact(aB (.inr oe)).trans (aY b.c16)
  have zC:∀i,W.frozen? (aA C i)=false:=fun i=>by rw[<-hW];exact bI.trans (bI.trans (b.z i))
 |have cC:∀j,j≠11->j≠12->((w.setCell (aA C 12) (iI Y4)).setCell (aA C 11) (sL g cs'.length gc)).cell? (aA C j)=w.cell? (aA C j):=fun j h1 h2=>(aB (.inr h1)).trans (aB (.inr h2));have cX:∀c j,c≠C->((w.setCell (aA C 12) (iI Y4)).setCell (aA C 11) (sL g cs'.length gc)).cell? (aA c j)=w.cell? (aA c j):=fun c j hc=>(aB (.inl hc)).trans (aB (.inl hc))
 have nX:∀c,c∈m.X->c≠C:=fun c hc e=>b.nC (e▸hc)
 first
 |have _:=m71;have hsz:W.heap.size=w.heap.size:=by rw[<-hW];simp
  have same:∀i,i≠iB->Same (Of i) w W:=fun i hi=>⟨hT.size,fun c hc=>by
   have:c≠C:=fun e=>h.fam.ap i iB hi c hc E8
   exact hT.block c (h.fam.lt i c hc) this this⟩
  have key:∀i,i≠iB->Apart (C::g::m.X) (Of i):=fun i hi c hc hx=>by exact zN2
  refine⟨dV Of iB (C::g::m.X),⟨?_,h.rows.keep (h.oz▸same iZ oe)|>fun x=>⟨x.sl,x.lk,x.zl⟩,cZ _ _ _,by rw[bG _ _ oe];exact h.oz,⟨fun i c hc=>?_,fun i j hij=>?_⟩,fun i c hz hc=>?_,fun c hc hx=>?_,fun c hc=>?_,fun j hj=>?_,fun k hk=>?_,fun k j hk hj=>?_,?_,h.pln⟩⟩
  ·refine⟨(cC 0 oe oe).trans b.c0,(cC 1 oe oe).trans b.c1,(cC 3 oe oe).trans b.c3,(cC 4 oe oe).trans b.c4,(cC 5 oe oe).trans b.c5,(cC 6 oe oe).trans b.c6,(cC 7 oe oe).trans b.c7,(cC 10 oe oe).trans b.c10,bIv,(cC 12 oe oe).trans b.c12,(cC 13 oe oe).trans b.c13,(cC 14 oe oe).trans b.c14,(cC 15 oe oe).trans b.c15,bIw,zC,by rw[hsz];exact b.lc,?_,fun c hc=>?_,fun _=>⟨g,0,rfl,kQ,fun j hj=>by rw[Nat.zero_add];exact(cX g j hgC).trans (sP j hj)⟩,fun j hj=>(cX _ _ (nX _ b.ndX)).trans (b.nd j hj),kO _ b.ndX,fun h0=>⟨(b.ka h0).1,kO _ (b.ka h0).2⟩,fun k hk=>(cX _ _ (nX _ (b.ka od).2)).trans (b.kk k hk),?_,kO _ b.tbX⟩
   ·exact zF2
   ·exact zF0
   ·obtain⟨f,hf,hr⟩:=b.tk;exact⟨f,hf.keep (hT.block _ (b.lx _ b.tbX) (nX _ b.tbX) (nX _ b.tbX)),hr⟩
 |have hsz:((w.setCell (aA C 12) (iI Y4)).setCell (aA C 11) (sL g cs'.length gc)).heap.size=w.heap.size:=oh;have same:∀i,i≠iB->Same (Of i) w ((w.setCell (aA C 12) (iI Y4)).setCell (aA C 11) (sL g cs'.length gc)):=fun i hi=>⟨hT.size,fun c hc=>by
   have:c≠C:=fun e=>h.fam.ap i iB hi c hc E8
   exact hT.block c (h.fam.lt i c hc) this this⟩
  refine⟨dV Of iB (C::g::m.X),⟨?_,?_,?_,?_,?_,fun j hj=>?_,fun k hk=>?_,fun k j hk hj hb=>?_,fun k j hk hj hb=>?_⟩⟩
  ·refine⟨(cC 0 oe oe).trans b.c0,(cC 1 oe oe).trans b.c1,(cC 3 oe oe).trans b.c3,(cC 4 oe oe).trans b.c4,(cC 5 oe oe).trans b.c5,(cC 6 oe oe).trans b.c6,(cC 10 oe oe).trans b.c10,aY ((aB (.inr oe)).trans b.c11),(aB (.inr oe)).trans (aY b.c12),(cC 13 oe oe).trans b.c13,(cC 14 oe oe).trans b.c14,fun i=>bI.trans (bI.trans (b.z i)),by rw[hsz];exact b.lc,?_,fun c hc=>?_,fun j hj=>(cX g j hgC).trans (sP j hj),kQ,fun h0=>?_,fun j hj=>(cX _ _ (nX _ b.ndX)).trans (b.nd j hj),kO _ b.ndX,fun h0=>⟨(b.la h0).1,kO _ (b.la h0).2⟩,fun k hk=>?_,fun k hk=>⟨kO _ (b.en k hk).1,fun j hj=>(cX _ _ (nX _ (b.en k hk).1)).trans ((b.en k hk).2 j hj)⟩,fun k j hk hj hb=>?_⟩
   ·exact zF2
   ·exact zF0
   ·obtain⟨sb,off,e,hb,hc⟩:=b.sl h0;exact⟨sb,off,e,kO _ hb,fun i hi=>⟨(cX _ _ (nX _ hb)).trans (hc i hi).1,(cX _ _ (nX _ hb)).trans (hc i hi).2.1,(cX _ _ (nX _ hb)).trans (hc i hi).2.2⟩⟩
   ·have hl:=nX _ (b.la od).2;obtain⟨a1,a2,a3⟩:=b.lk k hk;exact⟨(cX _ _ hl).trans a1,(cX _ _ hl).trans a2,(cX _ _ hl).trans a3⟩
   ·obtain⟨a1,a2,a3⟩:=b.dn k j hk hj hb;exact⟨kO _ a1,(cX _ _ (nX _ a1)).trans a2,(cX _ _ (nX _ a1)).trans a3⟩
 ·first|have _:=m71;exact zCt|rw[cZ]
 ·first
  |have _:=m71;exact zCp
  |refine⟨fun i c hc=>?_,fun i j hij=>?_⟩
   ·exact zCt
   ·have key:∀i,i≠iB->Apart (C::g::m.X) (Of i):=fun i hi c hc hx=>by have bL5:=0;exact zN2
    exact zCp
 ·first|have _:=m71|intro i c hc
  by_cases e:i=iB
  ·have bCi:=0;exact zOk
  ·first|have _:=m71;rw[bG _ _ e]at hc;exact kO _ (h.sub i c hz hc)|rw[bG _ _ e]at hc;exact kO _ (h.sub i c hc)
 ·first
  |have _:=m71;rcases kN hc with y|y
   ·exact hgZ (y▸hx)
   ·exact h.az c y hx
  |intro c hc;exact zF1
 first
 |have _:=m71
  ·exact zF1
 |skip
 ·obtain⟨⟨a1,a2⟩,a3⟩:=h.node j hj;rw[bG _ _ om]
  first|have _:=m71;exact⟨⟨a1.J5 (a2▸same (iN j) om),a2⟩,a3⟩|exact⟨⟨a1.same (a2▸same (iN j) om),a2⟩,a3⟩
 ·exact zFn
 ·rw[bG _ _ om]
  first|have _:=m71;obtain⟨a,b,⟨q,e⟩,r⟩:=h.rcv k j hk hj;exact⟨a,b,⟨q.keep (e▸same (iR k j) om),e⟩,r⟩|obtain⟨a,b,q,r⟩:=h.rcv k j hk hj hb;exact⟨a,b,q.keep (same (iR k j) om),r⟩
 ·first|have _:=m71;obtain⟨PX,e,hn,q⟩:=h.prt;exact⟨PX,by rw[bG _ _ oe];exact e,hn,q.keep (e▸same iP oe)⟩|rw[bG _ _ om];obtain⟨l,q,r⟩:=h.que k j hk hj hb;exact⟨l,q.keep (same (iQ k j) om),r⟩):p:=h
theorem zKp(h:p:=by have hu:=h.below hb;exact zOh):p:=h
theorem zKq(h:p:=by
 obtain⟨b,off,rfl,gX,hc⟩:=hr oh
 first
 |have _:=m74;have c10:=h.c10s (by rw[dI];exact fun e=>by cases e);have n0:w.cell? (aA b off)=some (iI (j:Int)):=Oj;obtain⟨Z,m,hZ,hR,lF,sH⟩:=(h.r.clu fa cs c rd T dI).1;have jB:st.aI.nodes=(st.aI.n:Int):=M9 lF;have mR:st.aI.n<=16:=by have:=lF.aI.bounds.n2;omega
  have d0:=hR.base.c0;rw[jB]at d0;have d12:=hR.base.c12;have dj:=hR.base.nd j hj;have hnb:=hR.base.lx _ hR.base.ndX;have hCl:=hR.base.lc;obtain⟨aTg,_,_⟩:=hR.nod hj;have dz:=aTg.c5;have hPl:=aTg.lp;have kk:(j:Int)<(st.aI.n:Int):=od;have HI:Hid (gW (aZ (c.nodes j).t st.aI.n)):=by
   have h1:=mO (c.nodes j).t st.aI.n;have h4:(2:Int)^st.aI.n<=2^16:=by exact_mod_cast Nat.pow_le_pow_right (by decide:0<2) mR
   have h5:(2:Int)^16=65536:=oe;exact zHx
  have H1:=S1 j ((st.aI.n:Int)-1) true (kD od);have HB:Hid (∀v,bW w v->Calls prog 58 #[.pointer (some ⟨m.P j,0,none⟩)] v fun e w'=>e=rT (iI (aZ (c.nodes j).t st.aI.n))/\w'=v):=fun v hv=>by obtain⟨hv1,_,_⟩:=(hR.below hv).nod hj;exact T2 hv1 mR
 |have c10:=h.c10;have n0:w.cell? (aA b off)=some (iI x):=Oj;have fE:bE w (if cap=1 then some (aA b off)else some (aA b (off+1))) l:=fun h0=>⟨b,off+1,kI od,gX,fun j hj=>by have:=hc (j+1) ju;simpa[Nat.add_assoc,Nat.add_comm 1 j]using this⟩;have hM:=aAr (if cap=1 then some (aA b off)else some (aA b (off+1))) (cap-1) l x (w.drewN 1) (fE.below (bdN w 1)) od
 have HT:Hid (∀u,bW w u->cB u.heap.size u):=fun u hu=>h.aBi hD (aS.of_below hu)
 first
 |have _:=m74;have HE:Hid (∀w',bW w w'->gU base S M O st N .eD [(j:Int)] tx w (rT (tU #[sT (if(c.nodes j).fz=true then dG (aZ (c.nodes j).t st.aI.n)++⟨#[32,102,114,111,122,101,110]⟩else dG (aZ (c.nodes j).t st.aI.n)),iI 0])) w'):=fun w' q=>lE h q (r:=.ok _) ⟨fa,cs,c,rd,T,dI,rfl,.inl ⟨j,rfl,hj,rfl⟩⟩ rfl;clear h dI hR hZ lF sH hr hc aTg hD hj jB;have hz:=jQ HI.out;generalize aZ (c.nodes j).t st.aI.n=bv at *;have HT2:Hid (∀u,bW w u->Calls prog 16 #[sL u.heap.size 1 1] (u.alloc (.cells #[iI bv] 3)) fun e w'=>e=rT (sT (dG bv))/\bW w w'/\w'.cell? (aA A.C 12)=some (sL m.nb st.aI.n m.vQ)/\w'.cell? (aA b off)=some (iI (j:Int))/\w'.cell? (aA m.nb j)=some (.pointer (some ⟨m.P j,0,none⟩))/\w'.cell? ⟨m.P j,5,none⟩=some (.bool (c.nodes j).fz)):=fun u hu=>(pI bv HI.out u (HT.out u hu)).mono fun e w' ⟨q1,q2⟩=>by have hb:=hu.trans (q2.mono hu.size);exact⟨q1,hb,bc hb hCl d12,bc hb gX n0,bc hb hnb dj,(hb.cell (p:=⟨m.P j,5,none⟩) hPl).trans dz⟩
  have mm:∀{d k:Nat} {x:Value} (o:Obj),d<w.heap.size->w.cell? (aA d k)=some x->(w.alloc o).cell? (aA d k)=some x:=fun {d k x} o hd q=>(((kX _ w).alloc (kF _) o).cell (p:=(aA d k)) hd).trans q;generalize(c.nodes j).fz=fz at *;generalize st.aI.n=nn at *
 |have HE:Hid (∀w',bW w w'->gU base S M O st N .gP (x::l) tx w (rT (tU #[sT (dG (fO l x)),iI (dR l x)])) w'):=fun w' q=>lE h q (r:=jR (dR l x) (fO l x)) ⟨rfl,rfl⟩ (xG _ _ _ fun _=>rfl);clear h hD hr hc fE;have N5:(1:Int)<=(l.length:Int)+1:=od;generalize fO l x=mv at *;generalize dR l x=me at *
 have bCf:=0;exact zNw):p:=h
theorem zKs(h:p:=by have bHc:=0;exact zO5):p:=h
theorem zKv(h:p:=by have hM:∀x,x∈M->u.heap[x]?=V.heap[x]?:=fun x hx=>hf.block x (h.r.hi x hx) (fun y=>h.r.ap x y hx);have aYg:=0;exact zOh):p:=h
theorem zKw(h:p:=by
 have h0:=h;obtain⟨Of,h⟩:=h;obtain⟨⟨a,b⟩,c⟩:=h.node j hj;refine⟨a,c,fun w' B' N hN hT hB U9=>?_⟩;obtain⟨Of,h⟩:=h0.more U9;obtain⟨⟨a,b⟩,_⟩:=h.node j hj
 first
 |have _:=m80;have kf:aS (Of (iN j)) [m.P j,m.Q j] w w':=by rw[b];exact aS.jD hT kQ (kO _ kQ)
  obtain⟨⟨⟨t1,t2,tr⟩,t3,tz⟩,t4,t5,ta,t6,t7⟩:=h.aN0 Ou Ou kf (by
   intro c hc
   simp only[List.mem_cons,List.not_mem_nil,or_false]at hc
   rcases hc with rfl|rfl
   ·exact hN.lp
   ·exact hN.lq)
  refine⟨_,t1,_,t2,tr,t3,tz,t4,t5,ta,t6,fun x hx=>?_,fun i hi=>?_,fun i x hi hx=>?_,?_,h.pln⟩
 |have kf:aS (Of (iN j)) [m.P j] w w':=by rw[b];exact aS.jD hT kQ kQ
  obtain⟨⟨t1,t2,t3⟩,t4,t5,t6,t7⟩:=h.aN0 Ou kf (by intro c hc;simp only[List.mem_cons,List.not_mem_nil,or_false]at hc;subst hc;exact hN.lp);refine⟨_,t1,_,t2,t3,t4,t5,t6,fun x hx=>?_,fun i hi=>?_,fun i x hi hx hb=>?_,fun i x hi hx hb=>?_⟩
 ·by_cases e:x=j
  ·subst e
   first|have _:=m80;show(bZ w' (m.P x) (m.Q x) x p.n (if x=x then N else s.nodes x).t (if x=x then N else s.nodes x).g (if x=x then N else s.nodes x).b (if x=x then N else s.nodes x).fz/\dV Of (iN x) [m.P x,m.Q x] (iN x)=[m.P x,m.Q x])/\qZ B' (if x=x then N else s.nodes x)|show(bJ w' (m.P x) x p.n (aZ (if x=x then N else s.nodes x).t p.n) (if x=x then N else s.nodes x).g (if x=x then N else s.nodes x).b (if x=x then N else s.nodes x).fz/\dV Of (iN x) [m.P x] (iN x)=[m.P x])/\qZ B' (if x=x then N else s.nodes x)
   rw[kJ rfl,cZ];exact⟨⟨hN,rfl⟩,hB⟩
  ·first|have _:=m80;show(bZ w' (m.P x) (m.Q x) x p.n (if x=j then N else s.nodes x).t (if x=j then N else s.nodes x).g (if x=j then N else s.nodes x).b (if x=j then N else s.nodes x).fz/\dV Of (iN j) [m.P j,m.Q j] (iN x)=[m.P x,m.Q x])/\qZ B' (if x=j then N else s.nodes x)|show(bJ w' (m.P x) x p.n (aZ (if x=j then N else s.nodes x).t p.n) (if x=j then N else s.nodes x).g (if x=j then N else s.nodes x).b (if x=j then N else s.nodes x).fz/\dV Of (iN j) [m.P j] (iN x)=[m.P x])/\qZ B' (if x=j then N else s.nodes x)
   obtain⟨u1,u2⟩:=t7 (iN x) Ex;rw[kI e,u2]
   first|have _:=m80;exact zFs|obtain⟨⟨v1,v2⟩,v3⟩:=h.node x hx;exact⟨⟨v1.same (v2▸u1),v2⟩,v3⟩
 ·exact zDq
 ·first|have _:=m80;exact zEh|obtain⟨u1,u2⟩:=t7 (iR i x) om;rw[u2];obtain⟨a,b,q,r⟩:=h.rcv i x hi hx hb;exact⟨a,b,q.keep u1,r⟩
 ·first|have _:=m80;exact zC3|obtain⟨u1,u2⟩:=t7 (iQ i x) om;rw[u2];obtain⟨l,q,r⟩:=h.que i x hi hx hb;exact⟨l,q.keep u1,r⟩):p:=h
theorem zKx(h:p:=by have bCe:=0;exact zNu):p:=h
theorem zKy(h:p:=by refine kp hK fun aG=>?_;clear hK K;exact zPy):p:=h
theorem zKz(h:p:=by
 have HH:Hid (dF w B P bag queue all v aP last now):=h;have hI:=wG t 0 1099511627776 w;rw[kD ht]at hI
 first
 |have _:=m83;have hwl:aP<all.length:=by have:=h.we;unfold xV at J4;simp only[Bool.or_eq_false_iff,decide_eq_false_iff_not]at J4;omega
  obtain⟨g,cap,hv,hgB,sP⟩:=aZ9 h aP hwl;skip
 |skip
 obtain⟨c0,c1,c2,c3,c4,c5,z,own,lp,lb,we⟩:=h
 first|have _:=m83;subst hv|obtain⟨a,cap,rfl⟩:=eY own;skip
 have hlp:P<w.heap.size:=od
 first|have _:=m83;have tE:g<w.heap.size:=(own.lt g rfl).2;have dM:g≠P:=od;have aTf:P≠g:=od;have z5:=z 5;have z4:=z 4;have z3:=z 3|have z5:=z 5
 have wC:decide (t<now)=false:=kC od;clear own z;obtain⟨n,hN⟩:∃n,all.length=n:=⟨_,rfl⟩
 first|have _:=m83;rw[hN]at J4 c2 ha we HH hwl;rw[hN];have HNN:Hid (all.length=n):=hN;have hO:=aF0 aP od;generalize all.getD aP ByteArray.empty=D at *;clear hN;have bNw:(aP:Int)+1-1=(aP:Int):=od;have k1:((aP:Int)==(n:Int))=false:=ol;have kk:(aP:Int)<(n:Int):=od;by_cases e0:aP=0|rw[hN]at J4 c2 we HH;rw[hN];have HX:Hid (dF (w.setCell (aA P 5) (iI t)) B P bag queue all (sV a n cap) aP last t):=HH.out.aVq t;have HT:Hid (aU P P w (w.setCell (aA P 5) (iI t))):=(aU.refl _ _ _).set (p:=(aA P 5)) (.inl rfl) _;clear hN HH;by_cases e1:aP=n
 ·first
  |have _:=m83;have k4:decide (0<aP)=false:=kC od;exact zA5
  |have k1:((aP:Int)==(n:Int))=true:=by simp;omega
   clear J4 e1;exact zCv
 ·first
  |have _:=m83;have k4:0<aP:=by omega
   have k5:decide (t<last+bag)=false:=by unfold xV at J4;rw[kD (show 0<aP by omega)]at J4;simp only[Bool.true_and,Bool.or_eq_false_iff]at J4;exact J4.2
   exact zA5
  |have k1:((aP:Int)==(n:Int))=false:=by simp;omega
   unfold xV at J4;rw[kC e1,Bool.false_or,Bool.and_eq_true,decide_eq_true_eq,decide_eq_true_eq]at J4;obtain⟨k2,k3⟩:=J4;have k4:(0:Int)<(aP:Int):=od;clear e1;exact zCv):p:=h
theorem zK0(h:p:=by
 unfold qA;cases hp:Lib.parseIntB 64 word.data.toList
 ·rename_i v;have hv:-9223372036854775808<=v/\v<=9223372036854775807:=by exact zC9
  by_cases he:(⟨(Lib.itoa v).toArray⟩:ByteArray)=word
  ·simp only[kJ he]
   first|have _:=m84;exact aMf word hs w hw v hv.1 hv.2 hp he|exact aQ5 word hs w hw v hv.1 hv.2 hp he
  ·simp only[kI he]
   first|have _:=m84;exact aIx word hs w hw v hv.1 hv.2 hp he|exact aLf word hs w hw v hv.1 hv.2 hp he
 ·first|have _:=m84;exact aIy word hs w hw hp|exact aLg word hs w hw hp
 ·first|have _:=m84;exact aIz word hs w hw hp|exact aLh word hs w hw hp):p:=h
theorem zK2(h:p:=by
 have cc:∀i,w'.cell? (aA C i)=w.cell? (aA C i):=fun i=>k.cell (p:=(aA C i)) kQ;have cx:∀b i,b∈m.X->w'.cell? (aA b i)=w.cell? (aA b i):=fun b i hb=>k.cell (p:=(aA b i)) (kO _ hb)
 first|have _:=m86;refine⟨(cc 0).trans h.c0,(cc 1).trans h.c1,(cc 3).trans h.c3,(cc 4).trans h.c4,(cc 5).trans h.c5,(cc 6).trans h.c6,(cc 7).trans h.c7,(cc 10).trans h.c10,(cc 11).trans h.c11,(cc 12).trans h.c12,(cc 13).trans h.c13,(cc 14).trans h.c14,(cc 15).trans h.c15,(cc 16).trans h.c16,fun i=>(k.frozen (p:=(aA C i)) kQ).trans (h.z i),kB h.lc k.1,h.nC,fun c hc=>kB (h.lx c hc) k.1,fun h0=>?_,fun j hj=>(cx _ _ h.ndX).trans (h.nd j hj),h.ndX,h.ka,fun i hi=>?_,?_,h.tbX⟩|refine⟨(cc 0).trans h.c0,(cc 1).trans h.c1,(cc 3).trans h.c3,(cc 4).trans h.c4,(cc 5).trans h.c5,(cc 6).trans h.c6,(cc 10).trans h.c10,(cc 11).trans h.c11,(cc 12).trans h.c12,(cc 13).trans h.c13,(cc 14).trans h.c14,fun i=>(k.frozen (p:=(aA C i)) kQ).trans (h.z i),kB h.lc k.1,h.nC,fun c hc=>kB (h.lx c hc) k.1,fun j hj=>(cx _ _ h.ckX).trans (h.ck j hj),h.ckX,fun h0=>?_,fun j hj=>(cx _ _ h.ndX).trans (h.nd j hj),h.ndX,h.la,fun i hi=>?_,fun i hi=>⟨(h.en i hi).1,fun j hj=>(cx _ _ (h.en i hi).1).trans ((h.en i hi).2 j hj)⟩,fun i j hi hj hb=>?_⟩
 ·first|have _:=m86;obtain⟨b,off,e,hb,hc⟩:=h.ck h0;exact⟨b,off,e,hb,fun j hj=>(cx _ _ hb).trans (hc j hj)⟩|exact zDs
 ·first|have _:=m86;exact(cx _ _ (h.ka od).2).trans (h.kk i hi)|have hl:=(h.la od).2;obtain⟨a,b,c⟩:=h.lk i hi;exact⟨(cx _ _ hl).trans a,(cx _ _ hl).trans b,(cx _ _ hl).trans c⟩
 ·first|have _:=m86;obtain⟨g,hg,hr⟩:=h.tk;exact⟨g,hg.keep (k.2 _ (kO _ h.tbX)),hr⟩|obtain⟨a,b,c⟩:=h.dn i j hi hj hb;exact⟨a,(cx _ _ a).trans b,(cx _ _ a).trans c⟩):p:=h
theorem zK4(h:p:=by
 obtain⟨b,off,rfl,gX,hc⟩:=hr oh;have c10:=h.c10s (by rw[dI];exact fun e=>by cases e);have n0:w.cell? (aA b off)=some (iI x):=Oj;obtain⟨Z,m,hZ,hR,lF,sH⟩:=(h.r.clu fa cs c rd T dI).1
 first|have _:=m88;have lK:=lF.aI.bounds.n1;have wC:=lF.aI.bounds.n2;have d0:=hR.base.c0;have H1:=S1 x (st.aI.nodes-1) false (kC od);have HE:Hid (∀w',bW w w'->gU base S M O st N .eD [x] tx w (rT (tU #[sT ⟨#[]⟩,iI 2])) w'):=fun w' q=>lE h q (r:=.err 2) ⟨fa,cs,c,rd,T,dI,rfl,.inr ⟨hx,rfl⟩⟩ ⟨oe,_,rfl⟩|have qO:=h.r.nl;have d13:=hR.base.c13;have H1:=S1 x ((st.aI.nl:Int)-1) false (kC od);have HE:Hid (∀w',bW w w'->gU base S M O st N .oZ [x] tx w (rT (tU #[sT ⟨#[]⟩,iI 2])) w'):=fun w' q=>lE h q (r:=.err 2) ⟨fa,cs,c,rd,T,dI,.inr ⟨hx,rfl,rfl⟩⟩ ⟨oe,_,rfl⟩
 clear h dI hR hZ lF sH hr hc hx
 first|have _:=m88;generalize st.aI.nodes=nn at *|generalize st.aI.nl=nn at *
 exact zCs):p:=h
theorem zK5(h:p:=by have aYe:=0;exact zNz):p:=h
theorem zK6(h:p:=by have bGx:=0;exact zNr):p:=h
theorem zK8(h:p:=by have bGz:=0;exact zNv):p:=h
theorem zK9(h:p:=by
 obtain⟨es,clock,hb,hk,hd,hf⟩:=h
 first
 |have _:=m93;have aKr:∀o:Obj,aU b b w { w with heap:=w.heap.setIfInBounds b o }/\({ w with heap:=w.heap.setIfInBounds b o }:World).heap[b]?=some o:=fun o=>by
   refine⟨⟨rfl,rfl,rfl,oh,fun c hc h1 _=>?_⟩,?_⟩
   ·show(w.heap.setIfInBounds b o)[c]?=_;rw[Array.getElem?_setIfInBounds_ne (Ne.symm h1)]
   ·show(w.heap.setIfInBounds b o)[b]?=_;rw[Array.getElem?_setIfInBounds_self_of_lt hlt]
 |skip
 rcases K.find w hx es.toList (fun e he=>by obtain⟨i,hi⟩:=List.getElem?_of_mem he;exact hk i e (by simpa using hi))with⟨h1,h2⟩|⟨j,e0,h1,h2,h3⟩
 ·first
  |have _:=m93;have J4:∀(i:Nat) (e:MapEntry),es[i]?=some e->e.key≠x:=fun i e he=>h2 e (List.mem_of_getElem? (by simpa using he:es.toList[i]?=some e));have hp:∀(i:Nat) (e:MapEntry),(es.push ⟨x,v,clock⟩)[i]?=some e↔(i=es.size/\e=⟨x,v,clock⟩)\/(i≠es.size/\es[i]?=some e):=fun i e=>by
    rw[Array.getElem?_push];by_cases q:i=es.size
    ·rw[kJ q];constructor
     ·intro h;exact .inl ⟨q,(kW h).symm⟩
     ·rintro(⟨_,rfl⟩|⟨h,_⟩)
      ·rfl
      ·exact absurd q h
    ·rw[kI q];constructor
     ·intro h;exact .inr ⟨q,h⟩
     ·rintro(⟨h,_⟩|⟨_,h⟩)
      ·exact absurd h q
      ·exact h
   refine⟨_,f',?_,⟨es.push ⟨x,v,clock⟩,clock+1,(aKr _).2,fun i e he=>?_,fun i j a c ha hc hac=>?_,fun y u=>?_⟩,hpf,(aKr _).1⟩
   ·simp[Instr.mapUpdate,run_underlying ht,MapKept.run_getObj_map hb,K.check w false hx,h1,MapKept.run_setObj_map _ hb,Result.andThen]
   ·exact zFm
   ·rcases(hp i a).1 ha with⟨q1,rfl⟩|⟨q1,h1⟩
    ·rcases(hp j c).1 hc with⟨q2,rfl⟩|⟨q2,h2⟩
     ·omega
     ·exact absurd hac.symm (J4 j c h2)
    ·rcases(hp j c).1 hc with⟨q2,rfl⟩|⟨q2,h2⟩
     ·exact absurd hac (J4 i a h1)
     ·exact hd i j a c h1 h2 hac
   ·by_cases q:y=x
    ·subst q;rw[hpf.1];constructor
     ·intro h;exact⟨es.size,⟨y,v,clock⟩,(hp _ _).2 (.inl ⟨rfl,rfl⟩),rfl,kW h⟩
     ·rintro⟨i,e,he,R4,hv⟩;rcases(hp i e).1 he with⟨_,rfl⟩|⟨_,h⟩
      ·exact congrArg some hv
      ·exact absurd R4 (J4 i e h)
    ·rw[hpf.2 y q,hf];constructor
     ·rintro⟨i,e,he,r⟩;have:i<es.size:=(Array.getElem?_eq_some_iff.1 he).1;exact⟨i,e,(hp i e).2 (.inr ⟨od,he⟩),r⟩
     ·exact zEj
  |have hn:f x=none:=by
    cases e:f x with
    |none=>rfl
    |some v=>
     obtain⟨i,e0,he,hk0,_⟩:=(hf x v).1 e
     exact absurd hk0 (h2 e0 (List.mem_of_getElem? (by simpa using he:es.toList[i]?=some e0)))
   rw[hn];cases c<;>simp[Instr.lookup,run_underlying ht,MapKept.run_getObj_map hb,K.check w _ hx,h1,hz,Result.andThen];skip
 ·first
  |have _:=m93;have hj:es[j]?=some e0:=by simpa using h2
   have hp:∀(i:Nat) (e:MapEntry),(es.modify j (fun e'=>{ e' with key:=x,val:=v }))[i]?=some e↔(i=j/\e={ e0 with key:=x,val:=v })\/(i≠j/\es[i]?=some e):=fun i e=>by
    rw[Array.getElem?_modify];by_cases q:j=i
    ·subst q;rw[kJ rfl,hj];constructor
     ·intro h;exact .inl ⟨rfl,(kW h).symm⟩
     ·rintro(⟨_,rfl⟩|⟨h,_⟩)
      ·rfl
      ·exact absurd rfl h
    ·rw[kI q];constructor
     ·intro h;exact .inr ⟨Ne.symm q,h⟩
     ·rintro(⟨h,_⟩|⟨_,h⟩)
      ·exact absurd h.symm q
      ·exact h
   have J4:∀(i:Nat) (e:MapEntry),i≠j->es[i]?=some e->e.key≠x:=fun i e hi he q=>hi (hd i j e e0 he hj (q.trans h3.symm));refine⟨_,f',?_,⟨es.modify j (fun e'=>{ e' with key:=x,val:=v }),clock,(aKr _).2,fun i e he=>?_,fun i i' a c ha hc hac=>?_,fun y u=>?_⟩,hpf,(aKr _).1⟩
   ·simp[Instr.mapUpdate,run_underlying ht,MapKept.run_getObj_map hb,K.check w false hx,h1,hj,h3,K.stays w hx,MapKept.run_setObj_map _ hb,Result.andThen]
   ·exact zFm
   ·rcases(hp i a).1 ha with⟨q1,rfl⟩|⟨q1,h1⟩
    ·rcases(hp i' c).1 hc with⟨q2,rfl⟩|⟨q2,h2⟩
     ·omega
     ·exact absurd hac.symm (J4 i' c q2 h2)
    ·rcases(hp i' c).1 hc with⟨q2,rfl⟩|⟨q2,h2⟩
     ·exact absurd hac (J4 i a q1 h1)
     ·exact hd i i' a c h1 h2 hac
   ·by_cases q:y=x
    ·subst q;rw[hpf.1];constructor
     ·intro h;exact⟨j,{ e0 with key:=y,val:=v },(hp _ _).2 (.inl ⟨rfl,rfl⟩),rfl,kW h⟩
     ·rintro⟨i,e,he,R4,hv⟩;rcases(hp i e).1 he with⟨_,rfl⟩|⟨q1,h⟩
      ·exact congrArg some hv
      ·exact absurd R4 (J4 i e q1 h)
    ·rw[hpf.2 y q,hf];constructor
     ·rintro⟨i,e,he,R4,hv⟩;have:i≠j:=by rintro rfl;rw[hj]at he;cases he;exact q (R4.symm.trans h3)
      exact⟨i,e,(hp i e).2 (.inr ⟨this,he⟩),R4,hv⟩
     ·exact zEj
  |have hv:f x=some e0.val:=(hf x e0.val).2 ⟨j,e0,by simpa using h2,h3,rfl⟩;rw[hv];cases c<;>simp[Instr.lookup,run_underlying ht,MapKept.run_getObj_map hb,K.check w _ hx,h1,Result.andThen];skip):p:=h
theorem zLb(h:p:=by
 obtain⟨v,h,rfl⟩:=h;unfold oY putK;by_cases h1:40<d.size
 ·simp only[kJ h1]
  first|have _:=m95;refine(aF1 h d h1).mono ?_|refine(aQg h d h1).mono ?_
  exact zEc
 ·simp only[kI h1];by_cases h2:queue<=((all.length-aP:Nat):Int)
  ·simp only[kJ h2]
   first|have _:=m95;refine(aIg h d od od ha).mono ?_|refine(aUk h d od h2 ha).mono ?_
   exact zFo
  ·simp only[kI h2]
   first|have _:=m95;refine(aR7 h d od od ha).mono ?_|refine(bD1 h d od od ha).mono ?_
   exact zAz):p:=h
theorem zLd(h:p:=by
 by_cases h1:cV f s n d=false
 ·rw[kJ h1]at h;cases h
 ·rw[kI h1]at h
  first|have _:=m97;by_cases h2:l< -1099511627776\/1099511627776<l\/1099511627776<lQ f s n d l|by_cases h2:r<f\/1099511627776<r\/1099511627776<s+(r-f)*n/d
  ·rw[kJ h2]at h;cases h
  ·have Q8:cV f s n d=true:=by simpa using h1
   simp only[not_or]at h2;obtain⟨q1,q2,q3⟩:=h2
   first
   |have _:=m97;obtain⟨a1,a2,a3,a4,a5,a6,a7,a8,a9,a10⟩:=iK Q8;unfold lQ at q3⊢;by_cases h6:l<=s
    ·rw[kJ h6];exact⟨od,od⟩
    ·rw[kI h6]at q3⊢;exact zFf
   |exact zDz):p:=h
theorem zLe(h:p:=by
 have c1:=aCh ((List.range n).map (row i)) f ol;have c2:=D7 ((List.range n).map (row j)) (n-1-f) ol
 first|have _:=m98|have c3:=uW f n
 rw[List.countP_map]at c1 c2;simp only[List.length_map,List.length_range]at c1
 first|have _:=m98;obtain⟨k,hk,a,b,c⟩:=Y3 _ _ _ (List.range n) (show 2*(List.range n).length<_ by rw[List.length_range];exact kB (by omega:2*n<(n-f)+(n-1-f+1)+(n-f)) (Nat.add_le_add (Nat.add_le_add c1 c2) hc));skip|obtain⟨k,hk,a,b,c⟩:=Y3 _ _ _ (List.range n) (show 2*(List.range n).length<_ by rw[List.length_range];exact kB (by omega:2*n<(n-f)+(n-1-f+1)+(n-f)) (Nat.add_le_add (Nat.add_le_add c1 c2) c3));skip
 have hk:=List.mem_range.1 hk
 first|have _:=m98;simp at a b;have h1:=hr i k qC hi hk c;have h2:=hr j k D8 hj hk c|simp at a b c;have h1:=hr i k hi qC c hk;have h2:=hr j k hj D8 c hk
 omega):p:=h
theorem zLf(h:p:=by
 obtain⟨te,pe,hv⟩:=hw.here.syn;generalize hev:Value.iface te pe=ev at hv;subst hev;have hP:=Tryz.strconv_ParseInt_10_at64_syntax word od hp (.iface te pe) w hv (.inr ⟨te,pe,rfl⟩)
 first|have _:=m99;exact zD9|exact zC1):p:=h
theorem zLg(h:p:=by
 rcases h.2 with⟨rfl,rfl⟩|⟨g,cap,cur,rfl,hg,hh,_⟩
 ·first|(have _:=bC4;exact⟨none,0,rfl,fun q=>absurd q (kU _),fun _ _ _ e=>by cases e⟩)|exact⟨none,0,rfl,fun q=>absurd q (kU _)⟩
 ·have hlt:g<w.heap.size:=by exact zGp
  first|(have _:=bC4;refine⟨_,_,rfl,fun _=>⟨g,0,rfl,hlt,fun j hj=>?_⟩,fun b off s e=>by cases e;exact⟨hg,hlt⟩⟩;have h3:=zO (fun i=>iI (f i)) (fun i=>iI (g' i)) (fun i=>iI (h' i)) n j hj;have c:=fun i u (hi:(bN f g' h' n)[i]?=some u)=>h.cells (g:=g) rfl i u hi;refine⟨?_,?_,?_⟩)|refine⟨_,_,rfl,fun _=>⟨g,0,rfl,hlt,fun j hj=>?_⟩⟩;have h3:=aEr f g' h' i' n j hj;have c:=fun i u (hi:(dD f g' h' i' n)[i]?=some u)=>h.cells (g:=g) rfl i u hi;refine⟨?_,?_,?_,?_⟩
  ·have:=c _ _ h3.1;rw[nE]at this;exact this
  ·have:=c _ _ h3.2.1;rw[nE]at this;exact this
  ·first|have _:=bC4;have:=c _ _ h3.2.2;rw[nE]at this;exact this|have:=c _ _ h3.2.2.1;rw[nE]at this;exact this
  first|done|·have:=c _ _ h3.2.2.2;rw[nE]at this;exact this):p:=h
theorem zLh(h:p:=by
 obtain⟨te,pe,hv⟩:=hw.here.rng;generalize hev:Value.iface te pe=ev at hv;subst hev;have hP:=Tryz.strconv_ParseInt_10_at64_range word od hp (.iface te pe) w hv (.inr ⟨te,pe,rfl⟩)
 first|have _:=bK4;exact zD9|exact zC1):p:=h
theorem zLj(h:p:=by
 have hA:=fun u=>tZ 4 u
 first|have _:=bC5;generalize hV:u.alloc (.cells #[iI (n.getD 0 0),iI (n.getD 1 0),iI (n.getD 2 0),iI (n.getD 3 0)] 96)=V|generalize hV:u.alloc (.cells #[iI (n.getD 0 0),iI (n.getD 1 0),iI (n.getD 2 0)] 94)=V
 have bHg:=0;exact zPe):p:=h
theorem zLm(h:p:=by
 unfold pU;subst h4;have k1:(((ws.length:Int):Int)==(m:Int))=false:=by simpa using(show ¬((ws.length:Int):Int)=m by omega)
 have k2:(m:Int)<((ws.length:Int):Int):=od
 first|have _:=bK8;exact zAb|exact zBw):p:=h
theorem zLn(h:p:=by have bLc:=0;exact zOg):p:=h
theorem zLr(h:p:=by
 have hs:∀i',i'≠i->Same (Of i') w w':=fun i' h'=>h.fam.same k h'
 first
 |have _:=bG8;have hF:aS O (O++Y) w w':=⟨k.os,k.tape,k.output,k.size,fun c hc hn=>k.block c hc (fun y=>hn (h.sub i c hiz y)),fun c hc=>by
   rcases kL hc with q|q
   ·exact .inl q
   ·rcases k.fresh c q with r|r
    ·exact .inl (h.sub i c hiz r)
    ·exact .inr r⟩
  refine⟨⟨⟨hF,h.base.keep (h.ob▸hs iB (Ne.symm hi)),h.rows.keep (h.oz▸hs iZ (Ne.symm hiz))⟩,by rw[bG _ _ (Ne.symm hi)];exact h.ob,by rw[bG _ _ (Ne.symm hiz)];exact h.oz⟩,h.fam.step k hY,fun i' c hz hc=>?_,hF.apart h.az h.rows.zl,fun c hc=>?_,fun i' h'=>⟨hs i' h',bG _ _ h'⟩⟩
 |refine⟨⟨⟨k.os,k.tape,k.output,k.size,fun c hc hn=>k.block c hc (fun y=>hn (h.sub i c y)),fun c hc=>?_⟩,h.base.keep (h.ob▸hs iB (Ne.symm hi)),by rw[bG _ _ (Ne.symm hi)];exact h.ob⟩,h.fam.step k hY,fun i' c hc=>?_,fun c hc=>?_,fun i' h'=>⟨hs i' h',bG _ _ h'⟩⟩
  ·rcases kL hc with q|q
   ·exact .inl q
   ·rcases k.fresh c q with r|r
    ·exact .inl (h.sub i c r)
    ·exact .inr r
 ·by_cases e:i'=i
  ·subst e;rw[cZ]at hc;exact kK (.inr hc)
  ·first|have _:=bG8;rw[bG _ _ e]at hc;exact kK (.inl (h.sub i' c hz hc))|rw[bG _ _ e]at hc;exact kK (.inl (h.sub i' c hc))
 ·exact zFb):p:=h
theorem zLs(h:p:=by
 rename_i q;simp only[Bool.and_eq_true,beq_iff_eq,decide_eq_true_eq]at q;split
 ·rename_i c;simp only[Bool.and_eq_true,decide_eq_true_eq]at c
  first
  |have _:=aY8;refine⟨by show _≠32;omega,by show 1<=4;omega,by show pos+4<=s.size;omega,fun k hk=>?_⟩;have hk':k<4:=hk;rcases(show k<1\/k=1\/k=2\/k=3 by omega)with e|e|e|e
   ·exact k0 k e
  |refine⟨by show _≠32;omega,by show 1<=3;omega,by show pos+3<=s.size;omega,fun k hk=>?_⟩;have hk':k<3:=hk;rcases(show k<1\/k=1\/k=2 by omega)with e|e|e;skip
  ·first|have _:=aY8;subst e;exact kc 1 q.1.1.2.2|exact k0 k e
  ·first|have _:=aY8;subst e;exact kc 2 q.1.2.2|subst e;exact kc 1 q.1.2.2
  ·first|have _:=aY8;subst e;exact kc 3 q.2.2|subst e;exact kc 2 q.2.2
 ·exact bad):p:=h
theorem zLt(h:p:=by
 have eB:bits BinOp.or .i64 (aZ t n) (2^k)=aZ (fun j=>if j=k then true else t j) n:=or_bit t hn hk
 first
 |have _:=bG9;have HG:=aRv t hk m;have eJ:eV n t (tb m) k m=if m=aZ (fun j=>if j=k then true else t j) n then 1 else 2:=by
   unfold eV;rw[Int.toNat_natCast];by_cases q:m=aZ (fun j=>if j=k then true else t j) n
   ·rw[kJ q,kJ ⟨⟨k1,k2⟩,HG.1 q⟩]
   ·rw[kI q,kI (fun y=>q (HG.2 y.2))]
  rw[eJ];clear eJ HG
 |skip
 obtain⟨M,hM⟩:∃M,aZ (fun j=>if j=k then true else t j) n=M:=⟨_,rfl⟩
 first
 |have _:=bG9;rw[hM]at eB⊢;clear hM;by_cases q:m=M
  ·subst q;rw[kJ rfl];exact zC6
  ·have q2:(m==M)=false:=by simpa using q
   rw[kI q];clear q;exact zC6
 |exact zO7):p:=h
theorem zLx(h:p:=by have bL4:=0;exact zN0):p:=h
theorem zL1(h:p:=by
 unfold Oper.wp execOp;simp only[ho,resolve,invoke,builtin,Sem.run_bind,Sem.run_pure,Result.andThen_ok,List.map_toArray,List.map_cons,List.map_nil,hs,hx,hr]
 first|have _:=bKd;exact h v' w' hp|exact hK _ _ (h ao cap w' h2 h3 h4)):p:=h
theorem zL2(h:p:=by have bH1:=0;exact zP2):p:=h
theorem zL3(h:p:=by have bLe:=0;exact zOm):p:=h
theorem zL4(h:p:=by
 refine⟨_,t1,_,t2,tr,t3,tz,t4,t5,ta,t6,fun x hx=>?_,fun i hi=>?_,fun i x hi hx=>?_,?_,h.pln⟩
 ·exact zDi
 ·first
  |have _:=bGf;exact zHy
  |by_cases e:i=k
   ·subst e;show jA w' (dV Of (iS i) OS' (iS i)) (m.S i) (p.lb i) (p.lq i) (if i=i then S else s.aN i).all (if i=i then S else s.aN i).aP (if i=i then S else s.aN i).last (if i=i then S else s.aN i).now/\vN B' (if i=i then S else s.aN i);rw[kJ rfl,cZ];exact⟨hS,hB⟩
   ·show jA w' (dV Of (iS k) OS' (iS i)) (m.S i) (p.lb i) (p.lq i) (if i=k then S else s.aN i).all (if i=k then S else s.aN i).aP (if i=k then S else s.aN i).last (if i=k then S else s.aN i).now/\vN B' (if i=k then S else s.aN i);obtain⟨u1,u2⟩:=t7 (iS i) Ex;rw[kI e,u2];exact zB9
 ·first
  |have _:=bGf;by_cases e:i=k/\x=j
   ·obtain⟨rfl,rfl⟩:=e;show ∃a b,(eH w' (m.R i x) (if i=i/\x=x then v else s.aV i x) a b/\dV Of (iR i x) (Of (iR i x)) (iR i x)=[m.R i x])/\_/\(if i=i/\x=x then v else s.aV i x)<=255;rw[kJ ⟨rfl,rfl⟩,cZ];exact⟨a',b',⟨hS,e0⟩,hB,hv⟩
   ·show ∃a b,(eH w' (m.R i x) (if i=k/\x=j then v else s.aV i x) a b/\dV Of (iR k j) (Of (iR k j)) (iR i x)=[m.R i x])/\_/\(if i=k/\x=j then v else s.aV i x)<=255;obtain⟨u1,u2⟩:=t7 (iR i x) j8;rw[kI e,u2];exact zEb
  |obtain⟨u1,u2⟩:=t7 (iR i x) om;rw[u2];exact zEb
 ·exact zC3):p:=h
theorem zL5(h:p:=by
 refine kp hK fun aG=>?_;clear hK K
 first|have _:=bGg;refine tk 5 aG ?_;refine tk 6 aG ?_;refine oM (fuel:=1) og (fun _ _ _ _ h=>h) aG [(7,38),(8,39),(9,40),(10,41),(11,42),(12,43)] og ?_|refine tk 9 aG ?_;refine tk 10 aG ?_;refine oM (fuel:=1) og (fun _ _ _ _ h=>h) aG [(11,32),(12,33),(13,34),(14,35),(15,36),(16,37),(17,38),(18,39)] og ?_
 exact zOp):p:=h
theorem zL8(h:p:=by have bH2:=0;exact zN6):p:=h
theorem zL9(h:p:=by
 rcases h with⟨a,h1,h2⟩|⟨a,h1,h2⟩<;>rcases g with⟨b,g1,g2⟩|⟨b,g1,g2⟩
 ·exact zBm
 ·first|have _:=bGi;exact absurd a b|exact absurd b a
 ·first|have _:=bGi;exact absurd b a|exact absurd a b
 ·exact zBm):p:=h
theorem zMc(h:p:=by
 refine F1.step (i:=iB) (by rw[eB];exact hft) (fun c hc=>?_);rcases kN hc with y|y
 ·omega
 first
 |have _:=bKh;rcases kN y with y|y
  ·omega
 |skip
 ·have:=(ho.lt c Ea).2;omega):p:=h
theorem zMd(h:p:=by
 by_cases h:f<0\/(l.length:Int)<2*f+1
 ·rw[uE (by rw[aAg h];decide),aAg h]
  first|have _:=bGk;exact aM6 a l.length cap f w h|exact aYo a l.length cap f w hn h
 ·obtain⟨k,rfl⟩:∃k:Nat,f=(k:Int):=⟨f.toNat,od⟩
  first
  |have _:=bGk;exact aR6 a cap l k w hr hn od
  |cases h2:l.any far
   ·rw[rK (uD h h2),uD h h2,aDz];exact bCt a cap l k w hr hn od h2
   ·rw[uE (by rw[J6 h h2];decide),J6 h h2];exact aQ2 a cap l k w hr hn od h2):p:=h
theorem zMe(h:p:=by
 have c1:=aCh ((List.range n).map (row i)) (n-1-f) ol
 first|have _:=bC7|have c3:=uW f n
 rw[List.countP_map]at c1;simp only[List.length_map,List.length_range]at c1
 first|have _:=bC7;obtain⟨k,hk,b,c⟩:=Y2 _ _ (List.range n) (show(List.range n).length<_ by rw[List.length_range];exact kB (by omega:n<(n-(n-1-f))+(n-f)) (Nat.add_le_add c1 hc));skip|obtain⟨k,hk,b,c⟩:=Y2 _ _ (List.range n) (show(List.range n).length<_ by rw[List.length_range];exact kB (by omega:n<(n-(n-1-f))+(n-f)) (Nat.add_le_add c1 c3));skip
 have hk:=List.mem_range.1 hk
 first|have _:=bC7;simp at b;have h1:=hr i k qC hi hk c;have h2:=hh k hk c|simp at b c;have h1:=hr i k hi qC c hk;have h2:=hh k c hk
 omega):p:=h
theorem zMg(h:p:=by have bLb:=0;exact zOe):p:=h
theorem zMm(h:p:=by
 obtain⟨j,hj,hx⟩:=List.mem_flatMap.1 hx;have hj:=List.mem_range.1 hj
 first|have _:=bKk;have g1:=bA3 h3 j hj;have g2:=P7 (h3 j hj)|have g1:=K5 b1 h1 j hj;have g2:=xN (h1 j hj)
 simp at hx;rcases hx with rfl|rfl|rfl<;>omega):p:=h
theorem zMn(h:p:=by have bLd:=0;exact zOl):p:=h
theorem zMo(h:p:=by have bLf:=0;exact zOp):p:=h
theorem zMq(h:p:=by have bMc:=0;exact zP6):p:=h
theorem zMr(h:p:=by have bLg:=0;exact zOr):p:=h
theorem zMt(h:p:=by have bLh:=0;exact zQd):p:=h
theorem zMu(h:p:=by
 rw[e]at e';cases e'
 first|(have _:=bC8;refine⟨h1.trans g1.symm,?_⟩;have hn:(s.aI.n:Int)=(s.aI.nodes.toNat:Int):=rfl;rcases h with⟨j,a,a2,h2⟩|⟨a,h2⟩<;>rcases g with⟨i,b,b2,g2⟩|⟨b,g2⟩;skip)|(rcases h with⟨j,a,a2,h1,h2⟩|⟨a,h1,h2⟩<;>rcases g with⟨i,b,b2,g1,g2⟩|⟨b,g1,g2⟩;skip)
 ·have:j=i:=by rw[a]at b;exact_mod_cast b
  subst this
  first|have _:=bC8;exact h2.trans g2.symm|exact zBm
 ·exact absurd ⟨od,od⟩ b
 ·exact absurd ⟨od,od⟩ a
 ·first|have _:=bC8;exact h2.trans g2.symm|exact zBm):p:=h
theorem zMv(h:p:=by
 obtain⟨a,ha,hl,hb⟩:=M8 t n;have p1:=wL hn;have p2:=wL (k:=k) od
 first|have _:=aYa;rw[ha,jE,aAc a (2^k) od od]|rw[ha,jE,aAd a (2^k) od od]
 refine aHa fun j=>?_
 first|have _:=aYa;rw[show 18446744073709551615-2^k=2^64-(2^k+1)by omega,Nat.testBit_and,Nat.testBit_two_pow_sub_succ od,hb,Nat.testBit_two_pow]|rw[Nat.testBit_or,hb,Nat.testBit_two_pow]
 by_cases e:k=j
 ·first|have _:=aYa;subst e;simp|subst e;simp[hk]
 ·first
  |have _:=aYa;rw[kC e,Bool.not_false,Bool.and_true,kI (Ne.symm e)];by_cases q:j<n
   ·rw[kD q,kD (show j<64 by omega),Bool.and_true]
   ·rw[kC q];rfl
  |rw[kC e,Bool.or_false,kI (Ne.symm e)]):p:=h
theorem zMy(h:p:=by
 obtain⟨fa,cs,c,rd,T,e,h⟩:=h;obtain⟨fa',cs',c',Y4,T',e',g⟩:=g;rw[e]at e';cases e'
 first
 |have _:=bCa;rcases h with⟨a,h1,h2⟩|⟨a,h1,h2⟩<;>rcases g with⟨b,g1,g2⟩|⟨b,g1,g2⟩
  ·exact zBm
 |have key:∀j i:Nat,n.getD 0 0=j->n.getD 1 0=i->(j<s.aI.n/\i<s.aI.nl/\aW (s.aI.lt i) j=true)->((0<=n.getD 0 0/\n.getD 0 0<s.aI.nodes)/\(0<=n.getD 1 0/\n.getD 1 0<s.aI.nl)/\aW (s.aI.lt (n.getD 1 0).toNat) (n.getD 0 0).toNat=true):=by intro j i a b ⟨q1,q2,q3⟩;have hn:(s.aI.n:Int)=(s.aI.nodes.toNat:Int):=rfl;rw[a,b];exact⟨⟨od,od⟩,⟨od,od⟩,by simpa using q3⟩
  rcases h with⟨j,i,a,a2,a3,h1,h2⟩|⟨a,h1,h2⟩<;>rcases g with⟨j',i',b,b2,b3,g1,g2⟩|⟨b,g1,g2⟩
  ·have e1:j=j':=by rw[a]at b;exact_mod_cast b
   have e2:i=i':=by rw[a2]at b2;exact_mod_cast b2
   subst e1 e2;exact zBm
 ·first|(have _:=bCa;rw[a]at b;cases b)|exact absurd (key j i a a2 a3) b
 ·first|(have _:=bCa;rw[a]at b;cases b)|exact absurd (key j' i' b b2 b3) a
 ·exact zBm):p:=h
theorem zMz(h:p:=by have dQ:(Tryz.f56.body.bind (jU 9)).getD Code.skip=code:=Ee;exact zQk):p:=h
theorem zM0(h:p:=by have bLi:=0;exact zOu):p:=h
theorem zM3(h:p:=by refine wp_region_held_drew (S:=fun u=>u.cell? (aA w.heap.size 2)=some (iI aJ)/\u.cell? (aA w.heap.size 3)=some (iI aC)/\u.cell? (aA w.heap.size 4)=some (iI aH)/\u.cell? (aA w.heap.size 5)=some (iI round)/\u.cell? (aA w.heap.size 8)=some (iI frame)) og On (fun aG=>?_);exact zQh):p:=h
theorem zM6(h:p:=by obtain⟨b,off,rfl,gX,hc⟩:=hr oh;generalize hV:w.alloc (.cells #[sV (some (aA b off)) 1 cap,sT tx] 83)=V;exact zOw):p:=h
theorem zNc(h:p:=by
 rw[hob];refine⟨hgr.os,hgr.tape,hgr.output,by rw[aH6];omega,fun c hc hn=>?_,fun c hc=>?_⟩
 ·have hcC:c≠C:=fun e=>hn E8
  first|have _:=aYb;have hcV:iU.ownBlock≠some c:=fun e=>hn Et|have hcV:iT.ownBlock≠some c:=fun e=>hn Et
  exact(k4 c hcC).trans (k3 c hc hcV)
 ·first|(have _:=aYb;have old:∀c,c=C\/c=m.tb\/c∈fT\/iT.ownBlock=some c->c∈Of iB:=fun c hc=>by rw[h.ob];rcases hc with e|e|e|e<;>simp[e])|(have old:∀c,c=C\/c=m.tb\/c∈fT\/iU.ownBlock=some c->c∈Of iB:=fun c hc=>by rw[h.ob];rcases hc with e|e|e|e<;>simp[e])
  simp only[List.mem_cons,List.mem_append,Option.mem_toList]at hc;rcases hc with e|e|e|e|e
  ·exact .inl (old c (.inl e))
  ·exact .inl (old c (.inr (.inl e)))
  ·exact .inl (old c (.inr (.inr (.inl e))))
  first
  |have _:=aYb
   ·exact .inl (old c (.inr (.inr (.inr e))))
  |skip
  ·rcases jW with y|y
   first
   |have _:=aYb
    ·left;rw[h.ob];have:iU.ownBlock=some c:=by rw[<-y];exact e
     simp[this]
   |·left;rw[h.ob];have:iT.ownBlock=some c:=by rw[<-y];exact e
     simp[this]
   ·right;rw[y]at e;have:=kW e;omega
  first|done|·exact .inl (old c (.inr (.inr (.inr e))))):p:=h
theorem zNe(h:p:=by generalize hV:w.alloc (.cells #[v,sT tx] 83)=V;have bH8:=0;exact zOw):p:=h
theorem zNf(h:p:=by obtain⟨x0,x1,x2⟩:=tN k hlt;have bCl:=0;exact zPi):p:=h
theorem zNh(h:p:=by have bLw:=0;exact zPk):p:=h
theorem zNi(h:p:=by have bH9:=0;exact zOx):p:=h
theorem zNj(h:p:=by
 subst hf;have HH:Hid (bJ w P id n (aZ t n) g b false):=h;obtain⟨c0,c1,c2,c3,c4,c5,z,lp⟩:=h;have z2:=z 2;have z4:=z 4;have z5:=z 5;clear z;have k1:(k:Int)<(n:Int):=od;have k3:((k:Int)==id)=false:=by simpa using hid
 have p0:=pow_pos k;have p1:(2:Int)^k<=2^16:=xH od;have p2:(2:Int)^16=65536:=oe
 first|have _:=bKx;have eB:bits BinOp.andNot .i64 (aZ t n) (2^k)=aZ (fun j=>if j=k then false else t j) n:=aOr t hn hk;obtain⟨M,hM⟩:∃M,aZ (fun j=>if j=k then false else t j) n=M:=⟨_,rfl⟩;have bLo:=0;exact zO7|exact zLt):p:=h
theorem zNl(h:p:=by have bLn:=0;exact zO6):p:=h
theorem zNo(h:p:=by
 rw[aH6];have old:∀c,c∈Of iB->c<w3.heap.size:=fun c hc=>by have:=h1.fam.lt iB c hc;omega
 simp only[List.mem_cons,List.mem_append,Option.mem_toList]at hc;rcases hc with e|e|e|e|e
 ·exact old c Et
 ·exact old c Et
 ·exact old c Et
 ·first|have _:=bGw;exact old c (by rw[h.ob];simp[show iT.ownBlock=some c from e])|exact bFh c e
 ·first|have _:=bGw;exact bFh c e|exact old c (by rw[h.ob];simp[show iU.ownBlock=some c from e])):p:=h
theorem zNq(h:p:=by
 have kb:w3.heap[u.heap.size]?=V.heap[u.heap.size]?:=(hg.block u.heap.size ol (fun e=>hvb e.symm)).trans (Below.heap_alloc V _ u.heap.size gX);have kS:w3.heap[S]?=V.heap[S]?:=(hg.block S ol (fun e=>hvS e.symm)).trans (Below.heap_alloc V _ S B9)
 first|have _:=bL1;exact⟨(World.cell?_of_block (a:=(aA u.heap.size 0)) kb).trans x0,(World.cell?_of_block (a:=(aA u.heap.size 1)) kb).trans x1,(World.cell?_of_block (a:=(aA u.heap.size 2)) kb).trans x2,(World.cell?_of_block (a:=(aA S 6)) kS).trans c0,(World.frozen?_of_block (a:=(aA S 6)) kS).trans z0⟩|exact⟨(World.cell?_of_block (a:=(aA u.heap.size 0)) kb).trans x0,(World.cell?_of_block (a:=(aA u.heap.size 1)) kb).trans x1,(World.cell?_of_block (a:=(aA u.heap.size 2)) kb).trans x2,(World.cell?_of_block (a:=(aA u.heap.size 3)) kb).trans x3,(World.cell?_of_block (a:=(aA S 7)) kS).trans c0,(World.frozen?_of_block (a:=(aA S 7)) kS).trans z0⟩):p:=h
theorem zNr(h:p:=by have bHb:=0;exact zO1):p:=h
theorem zNu(h:p:=by
 obtain⟨⟨t1,t2,t3⟩,t4,t5,t6,t7⟩:=h.aN0 Ou hF hS.lt;refine⟨_,t1,_,t2,t3,t4,t5,t6,fun x hx=>?_,fun i hi=>?_,fun i x hi hx hb=>?_,fun i x hi hx hb=>?_⟩
 ·exact zBy
 ·first
  |have _:=bCe
   first
   |have _:=m81;exact zHy
   |by_cases e:i=k
    ·subst e;show Sdr w' (dV Of (iS i) OS' (iS i)) (m.S i) (p.lb i) (p.lq i) (if i=i then S else s.aN i).all (if i=i then S else s.aN i).aP (if i=i then S else s.aN i).last (if i=i then S else s.aN i).now/\vN B' (if i=i then S else s.aN i);rw[kJ rfl,cZ];exact⟨hS,hB⟩
    ·show Sdr w' (dV Of (iS k) OS' (iS i)) (m.S i) (p.lb i) (p.lq i) (if i=k then S else s.aN i).all (if i=k then S else s.aN i).aP (if i=k then S else s.aN i).last (if i=k then S else s.aN i).now/\vN B' (if i=k then S else s.aN i);obtain⟨u1,u2⟩:=t7 (iS i) Ex;rw[kI e,u2];exact zB9
  |exact zHy
 ·first
  |have _:=bCe;obtain⟨u1,u2⟩:=t7 (iR i x) om;rw[u2];exact zCu
  |by_cases e:i=k/\x=j
   ·obtain⟨rfl,rfl⟩:=e;show ∃a b,Rcv w' (dV Of (iR i x) OR' (iR i x)) (m.R i x) (if i=i/\x=x then v else s.aV i x) a b/\_/\(if i=i/\x=x then v else s.aV i x)<=255;rw[kJ ⟨rfl,rfl⟩,cZ];exact⟨a',b',hS,hB,hv⟩
   ·show ∃a b,Rcv w' (dV Of (iR k j) OR' (iR i x)) (m.R i x) (if i=k/\x=j then v else s.aV i x) a b/\_/\(if i=k/\x=j then v else s.aV i x)<=255;obtain⟨u1,u2⟩:=t7 (iR i x) j8;rw[kI e,u2];exact zCu
 ·first
  |have _:=bCe
   first
   |have _:=m81;by_cases e:i=k/\x=j
    ·obtain⟨rfl,rfl⟩:=e;show ∃l,Que w' (dV Of (iQ i x) OQ' (iQ i x)) (m.Q i x) 16 (if i=i/\x=x then v else s.aR i x) l/\_/\(if i=i/\x=x then v else s.aR i x).length<=16;rw[kJ ⟨rfl,rfl⟩,cZ];exact⟨l',hS,hB,hv⟩
    ·show ∃l,Que w' (dV Of (iQ k j) OQ' (iQ i x)) (m.Q i x) 16 (if i=k/\x=j then v else s.aR i x) l/\_/\(if i=k/\x=j then v else s.aR i x).length<=16;obtain⟨u1,u2⟩:=t7 (iQ i x) j8;rw[kI e,u2];exact zDp
   |obtain⟨u1,u2⟩:=t7 (iQ i x) om;rw[u2];exact zDp
  |obtain⟨u1,u2⟩:=t7 (iQ i x) om;rw[u2];exact zDp):p:=h
theorem zNw(h:p:=by have bHh:=0;exact zP1):p:=h
theorem zNy(h:p:=by
 have hl:n.length=1:=A5.elim id (fun q=>by cases q.2);obtain⟨fa,cs,c,rd,T,dI⟩:=mB xZ rfl;obtain⟨x,rfl⟩:∃x,n=[x]:=List.length_eq_one_iff.1 hl
 first
 |have _:=bL3;by_cases hx:0<=x/\x<st.aI.nodes
  ·first
   |have _:=S4;obtain⟨j,rfl⟩:∃j:Nat,x=j:=⟨x.toNat,od⟩;exact(aI7 h hD dI j (by show j<st.aI.nodes.toNat;omega) a cap tx hr va).mono fun _ _=>up
   |have hj:x=((x.toNat:Nat):Int):=by omega
    have hjn:x.toNat<st.aI.n:=by show x.toNat<st.aI.nodes.toNat;omega
    cases hfz:(c.nodes x.toNat).fz with
    |true=>exact(X3 h hDw dI x a cap tx hr x.toNat hj hjn hfz).mono fun _ _=>up
    |false=>exact(N8 h hDw dI x a cap tx hr x.toNat hj hjn hfz).mono fun _ _=>up
    skip
  ·first|have _:=S4;exact(aAn h dI x hx a cap tx hr va).mono fun _ _=>up|exact(members_bad h hDw dI x a cap tx hr hx).mono fun _ _=>up
 |have _:=S4;by_cases hx:0<=x/\x<st.aI.nl
  ·obtain⟨wb,P8,aNc,rfl,h1,h2,h3⟩:=hva rfl;obtain⟨k,rfl⟩:∃k:Nat,x=k:=⟨x.toNat,od⟩;exact(aYz h dI hN k od a cap wb P8 aNc tx aLc h1 h2 h3).mono fun _ _=>up
  ·exact(aM0 h dI x hx a cap tx hr va).mono fun _ _=>up
 |exact(aUj h hD dI hN x a cap tx aLc).mono fun _ _=>up):p:=h
theorem zN0(h:p:=by have bLr:=0;exact zPd):p:=h
theorem zN2(h:p:=by
 rcases kN hc with y|y
 ·exact zFy
 ·rcases kN y with z|z
  ·first
   |have _:=bL5;exact hgO (z▸h.sub i c hx)
   |by_cases ez:i=iZ
    ·rw[ez,h.oz]at hx;exact hgZ (z▸hx)
    ·exact hgO (z▸h.sub i c ez hx)
  ·exact h.fam.ap iB i (Ne.symm hi) c O7 hx):p:=h
theorem zN4(h:p:=by have bM9:=0;exact zPz):p:=h
theorem zOd(h:p:=by
 have h1:=uS j hj;have h2:=tR ((List.range n).map (readAll n (aW fa) aC (fun i=>cs.getD i 0) r.reads j)) f
 first
 |have _:=bLa;rw[rK (aVh hf3 hj0 hj1 uS hj),Int.toNat_natCast]at h2
 |rw[rK (uD Ez (by
   rw[Bool.eq_false_iff]
   intro hx
   obtain⟨y,hy,M3⟩:=List.any_eq_true.1 hx
   obtain⟨k,hk,rfl⟩:=List.mem_map.1 hy
   have hk:=List.mem_range.1 hk
   have:=xI (lies:=aW fa) aH0 hji uS r.reads j k hj hk
   rw[vZ]at M3
   omega)),Int.toNat_natCast]at h2
 exact zCk):p:=h
theorem zOe(h:p:=by
 obtain⟨h1,h2⟩:=h;refine⟨h1,?_⟩;rcases h2 with h2|⟨g,cap,cur,rfl,hg,hh,r⟩
 ·exact .inl h2
 ·first
  |have _:=bLb
   first|have _:=bKi;refine .inr ⟨g,cap,cur,rfl,hg,?_,r⟩;rw[hs.2 g (hv g rfl)];exact hh|exact .inr ⟨g,cap,cur,rfl,hg,(hs g rfl).trans hh,r⟩
  |refine .inr ⟨g,cap,cur,rfl,hg,?_,r⟩
   first
   |have _:=bKe;rw[<-hh];have:b≠g:=od;simp[World.setCell,Array.getElem?_modify,this]
   |have hlt:g<w.heap.size:=by exact zGp
    rw[hb.block g hlt];exact hh):p:=h
theorem zOh(h:p:=by
 have R1:base<=V.heap.size:=kG (h.r.lo S h.r.s) (kV (h.r.hi S h.r.s))
 first|have _:=aYg|have yA:=h.r.hi S h.r.s;have hr:=hu.rest (w':=u.setCell (aA S 10) (pP C)) oh (fun c hc=>by simp only[cJ hc])
 refine⟨⟨?_,?_⟩,?_⟩
 ·first
  |have _:=aYg
   first
   |have _:=m79;exact {
        s:=h.r.s
        lo:=h.r.lo
        hi:=fun x hx=>kB (h.r.hi x hx) hf.size
        loO:=hf.above h.r.loO R1
        hiO:=hc.lt
        ap:=hf.apart h.r.ap h.r.hi
        oS:=eQ h.r.oS fun g hg=>hM g (h.r.bS g hg)
        oL:=eQ h.r.oL fun g hg=>hM g (h.r.bL g hg)
        oO:=eQ h.r.oO fun g hg=>hM g (h.r.bO g hg)
        oR:=eQ h.r.oR fun g hg=>hM g (h.r.bR g hg)
        bS:=h.r.bS
        bL:=h.r.bL
        bO:=h.r.bO
        bR:=h.r.bR
        rD:=h.r.rD.at hf.size fun b off e h0=>hM b (h.r.bD b off e h0).1
        rM:=h.r.rM.at hf.size fun b off e h0=>hM b (h.r.bM b off e h0).1
        bD:=fun b off e h0=>⟨(h.r.bD b off e h0).1,by rw[hM b (h.r.bD b off e h0).1];exact(h.r.bD b off e h0).2⟩
        bM:=fun b off e h0=>⟨(h.r.bM b off e h0).1,by rw[hM b (h.r.bM b off e h0).1];exact(h.r.bM b off e h0).2⟩
        nw:=h.r.nw
        iL:=h.r.iL
        iO:=h.r.iO
        ns:=h.r.ns
        nl:=h.r.nl
        nL:=h.r.nL
        nR:=h.r.nR
        nD:=h.r.nD
        nM:=h.r.nM
        clu:=fun fa' cs' c' Y4 T' e=>by cases e;exact⟨hc,hT⟩ }
   |exact {
        s:=h.r.s
        lo:=h.r.lo
        hi:=fun x hx=>kB (h.r.hi x hx) hf.size
        loO:=hf.above h.r.loO R1
        hiO:=gG.lt hc
        ap:=hf.apart h.r.ap h.r.hi
        oS:=eQ h.r.oS fun g hg=>hM g (h.r.bS g hg)
        oL:=eQ h.r.oL fun g hg=>hM g (h.r.bL g hg)
        oO:=eQ h.r.oO fun g hg=>hM g (h.r.bO g hg)
        oR:=eQ h.r.oR fun g hg=>hM g (h.r.bR g hg)
        bS:=h.r.bS
        bL:=h.r.bL
        bO:=h.r.bO
        bR:=h.r.bR
        rD:=h.r.rD.at hf.size fun b off e h0=>hM b (h.r.bD b off e h0).1
        rM:=h.r.rM.at hf.size fun b off e h0=>hM b (h.r.bM b off e h0).1
        bD:=fun b off e h0=>⟨(h.r.bD b off e h0).1,by rw[hM b (h.r.bD b off e h0).1];exact(h.r.bD b off e h0).2⟩
        bM:=fun b off e h0=>⟨(h.r.bM b off e h0).1,by rw[hM b (h.r.bM b off e h0).1];exact(h.r.bM b off e h0).2⟩
        nw:=h.r.nw
        iL:=h.r.iL
        iO:=h.r.iO
        ns:=h.r.ns
        nl:=h.r.nl
        nL:=h.r.nL
        nR:=h.r.nR
        nD:=h.r.nD
        nM:=h.r.nM
        clu:=fun fa' cs' c' Y4 T' e=>by cases e;exact⟨hc,hT⟩ }
  |have _:=m73;exact {
       s:=hr.s
       lo:=hr.lo
       hi:=hr.hi
       loO:=fun c q=>kG R1 (hO c q)
       hiO:=fun c q=>by have:=hc.lt c q;simpa using this
       ap:=fun c q1 q2=>by have:=hO c q1;have:=h.r.hi c q2;omega
       oS:=hr.oS
       oL:=hr.oL
       oO:=hr.oO
       oR:=hr.oR
       bS:=hr.bS
       bL:=hr.bL
       bO:=hr.bO
       bR:=hr.bR
       rD:=hr.rD
       rM:=hr.rM
       bD:=hr.bD
       bM:=hr.bM
       nw:=hr.nw
       iL:=hr.iL
       iO:=hr.iO
       ns:=hr.ns
       nl:=hr.nl
       nL:=hr.nL
       nR:=hr.nR
       nD:=hr.nD
       nM:=hr.nM
       clu:=fun fa' cs' c' Y4 T' e=>by
        cases e
        exact⟨hc.keep ⟨oh,fun c q=>cJ (fun e=>by have:=hO c q;omega) _⟩ (fun x hx hp=>⟨hx,cJ (i6 hp hu.blk oe oe) _⟩),kH _⟩ }
  |exact {
       s:=hr.s
       lo:=hr.lo
       hi:=hr.hi
       loO:=fun c q=>kG R1 (hO c q)
       hiO:=fun c q=>by have:=gG.lt hc c q;simpa using this
       ap:=fun c q1 q2=>by have:=hO c q1;have:=h.r.hi c q2;omega
       oS:=hr.oS
       oL:=hr.oL
       oO:=hr.oO
       oR:=hr.oR
       bS:=hr.bS
       bL:=hr.bL
       bO:=hr.bO
       bR:=hr.bR
       rD:=hr.rD
       rM:=hr.rM
       bD:=hr.bD
       bM:=hr.bM
       nw:=hr.nw
       iL:=hr.iL
       iO:=hr.iO
       ns:=hr.ns
       nl:=hr.nl
       nL:=hr.nL
       nR:=hr.nR
       nD:=hr.nD
       nM:=hr.nM
       clu:=fun fa' cs' c' Y4 T' e=>by
        cases e
        exact⟨gG.keep hc ⟨oh,fun c q=>cJ (fun e=>by have:=hO c q;omega) _⟩,kH _⟩ }
 ·first|have _:=aYg;exact zDn|exact cH hu.blk _
 ·first|have _:=aYg;exact zB6|exact zCq):p:=h
theorem zOi(h:p:=by
 have s1:=k1.size;have s2:=k2.size;have s3:=hg.size
 first
 |have _:=aBo;have F1:vV w1 (fun i=>Of i++N i):=h.fam.join hl.fam s1 (fun i c hc=>kG dB (hl.lo i c hc));have bJl:aS (C::u.ownBlock.toList) (C::u'.ownBlock.toList) w1 (w3.setCell (aA C 14) u'):=aGr k2 hg jW;have hft:=bJl.under nb;have nN:∀i,i≠iX->i≠iS K->(∀j,i≠iR K j/\i≠iQ K j)->N i=[]:=fun i h1 h2 h3=>by
   by_cases e:N i=[]
   ·exact e
   ·rcases hl.only i e with y|y|⟨j,_,y|y⟩
    ·exact absurd y h1
    ·exact absurd y h2
    ·exact absurd y (h3 j).1
    ·exact absurd y (h3 j).2
  have oN:∀i,(i=iS K\/∃j,i=iR K j\/i=iQ K j)->Of i=[]:=fun i hi=>by
   by_cases e:Of i=[]
   ·exact e
   ·rcases h.emp i e with y|y|⟨j,y⟩|⟨k,hk,y|⟨j,y|y⟩⟩<;>subst y<;>simp at hi<;>omega
  have eB:Of iB++N iB=nb::C::u.ownBlock.toList:=by rw[nN iB oh oh (fun j=>⟨oh,oh⟩),List.append_nil];exact h.ob
  have sz4:(w3.setCell (aA C 14) u').heap.size=w3.heap.size:=oh;have F2:vV (w3.setCell (aA C 14) u') (dV (fun i=>Of i++N i) iB (nb::C::u'.ownBlock.toList)):=by have bKh:=0;exact zMc
  have sm:∀i,i≠iB->Same (Of i++N i) w1 (w3.setCell (aA C 14) u'):=fun i hi=>F1.same (i:=iB) (by rw[eB];exact hft) hi;obtain⟨G,hG⟩:∃G,dV (fun i=>Of i++N i) iB (nb::C::u'.ownBlock.toList)=G:=⟨_,rfl⟩;have gB:G iB=nb::C::u'.ownBlock.toList:=by rw[<-hG];exact cZ _ _ _
  have gO:∀i,i≠iB->G i=Of i++N i:=fun i h1=>by rw[<-hG,bG _ _ h1]
  rw[hG]at F2;clear hG;have aXl:∀i,i≠iB->i≠iX->i≠iS K->(∀j,i≠iR K j/\i≠iQ K j)->G i=Of i:=fun i h0 h1 h2 h3=>by rw[gO i h0,nN i h1 h2 h3,List.append_nil]
  have bB9:∀i,i≠iB->(i=iS K\/∃j,i=iR K j\/i=iQ K j)->G i=N i:=fun i h0 hi=>by rw[gO i h0,oN i hi,List.nil_append]
  have aJ1:∀i,i≠iB->Same (Of i) w (w3.setCell (aA C 14) u'):=fun i hi=>(Same.of_below k1 (h.fam.lt i)).trans ((sm i hi).part (fun c hc=>kK (.inl hc)));have aRo:∀i,i≠iB->Same (N i) w1 (w3.setCell (aA C 14) u'):=fun i hi=>(sm i hi).part (fun c hc=>kK (.inr hc));have uC:some C≠u.ownBlock:=fun e=>by have:=(h.uo.lt C e.symm).1;omega
  have cC:∀i,w3.cell? (aA C i)=w.cell? (aA C i):=fun i=>(World.cell?_of_block (a:=(aA C i)) (hg.block C od uC)).trans ((k2.cell (p:=(aA C i)) jv).trans (k1.cell (p:=(aA C i)) hC));have fC:∀i,w3.frozen? (aA C i)=w.frozen? (aA C i):=fun i=>(World.frozen?_of_block (a:=(aA C i)) (hg.block C od uC)).trans ((k2.frozen (p:=(aA C i)) jv).trans (k1.frozen (p:=(aA C i)) hC));have fresh:∀c,c∈G iB->c∈Of iB\/w1.heap.size<=c:=fun c hc=>by
   rw[gB]at hc;rcases hft.fresh c hc with y|y
   ·exact .inl (by rw[h.ob];exact y)
   ·exact .inr y
  have hs0:=h.bel.size;refine⟨G,F2,fun i c hc=>?_,gB,h.nC,?_,fun c hc=>?_,fun i hi=>?_,fun i hi=>?_,aY ((cC 14).trans h.c14),fun i=>bI.trans ((fC i).trans (h.z i)),?_,?_,?_,fun j hj=>?_,fun k hk=>?_,fun k hk=>?_,fun k j hk hj hb=>?_,?_⟩
  ·by_cases i1:i=iB
   ·subst i1;rcases fresh c hc with y|y
    ·exact h.lo iB c y
    ·have:=h.lo iB C mC;omega
   rw[gO i i1]at hc;rcases kL hc with y|y
   ·exact h.lo i c y
   ·have:=hl.lo i c y;omega
  ·rcases jW with y|y
   ·rw[y];exact h.nu
   ·rw[y];intro e;injection e with e;omega
 |have hlp:=hn.lp;have eI:Of (iN I)=[]:=by
   by_cases e:Of (iN I)=[]
   ·exact e
   ·rcases h.emp _ e with y|y|⟨j,hj,y⟩
    ·simp at y
    ·simp at y
    ·simp at y;omega
  have F1:vV w1 (dV Of (iN I) [w.heap.size]):=h.fam.add k1 eI (fun c hc=>by
   have:c=w.heap.size:=jA1
   omega)
  have hft:aS (C::v.ownBlock.toList) (C::v'.ownBlock.toList) w1 (w3.setCell (aA C 13) v'):=aGr k2 hg jW;have eB:dV Of (iN I) [w.heap.size] iB=C::v.ownBlock.toList:=by rw[bG _ _ oh];exact h.ob
  have sz4:(w3.setCell (aA C 13) v').heap.size=w3.heap.size:=oh;have F2:vV (w3.setCell (aA C 13) v') (dV (dV Of (iN I) [w.heap.size]) iB (C::v'.ownBlock.toList)):=by exact zMc
  have sm:∀i,i≠iB->Same (dV Of (iN I) [w.heap.size] i) w1 (w3.setCell (aA C 13) v'):=fun i hi=>F1.same (i:=iB) (by rw[eB];exact hft) hi;obtain⟨N,hN⟩:∃N,dV (dV Of (iN I) [w.heap.size]) iB (C::v'.ownBlock.toList)=N:=⟨_,rfl⟩;have nB:N iB=C::v'.ownBlock.toList:=by rw[<-hN];exact cZ _ _ _
  have nI:N (iN I)=[w.heap.size]:=by rw[<-hN,bG _ _ oh];exact cZ _ _ _
  have nO:∀i,i≠iB->i≠iN I->N i=Of i:=fun i h1 h2=>by rw[<-hN,bG _ _ h1,bG _ _ h2]
  rw[hN]at F2;have sO:∀i,i≠iB->i≠iN I->Same (Of i) w (w3.setCell (aA C 13) v'):=fun i h1 h2=>by have a:=sm i h1;rw[bG _ _ h2]at a;exact(Same.of_below k1 (h.fam.lt i)).trans a
  have cC:∀i,w3.cell? (aA C i)=w.cell? (aA C i):=fun i=>by
   have:some C≠v.ownBlock:=fun e=>by have:=(h.vo.lt C e.symm).1;omega
   exact(World.cell?_of_block (a:=(aA C i)) (hg.block C od this)).trans ((k2.cell (p:=(aA C i)) jv).trans (k1.cell (p:=(aA C i)) hC))
  have fC:∀i,w3.frozen? (aA C i)=w.frozen? (aA C i):=fun i=>by
   have:some C≠v.ownBlock:=fun e=>by have:=(h.vo.lt C e.symm).1;omega
   exact(World.frozen?_of_block (a:=(aA C i)) (hg.block C od this)).trans ((k2.frozen (p:=(aA C i)) jv).trans (k1.frozen (p:=(aA C i)) hC))
  clear hN;refine⟨N,F2,fun i c hc=>?_,nB,?_,fun i hi=>?_,fun i hi=>?_,aY ((cC 13).trans h.c13),fun i=>bI.trans ((fC i).trans (h.z i)),?_,?_,fun j hj=>?_,?_⟩
  ·by_cases i1:i=iB
   ·subst i1;rw[nB]at hc;rcases hft.fresh c hc with y|y
    ·exact h.lo iB c (by rw[h.ob];exact y)
    ·have:=h.bel.size;omega
   by_cases i2:i=iN I
   ·subst i2;rw[nI]at hc;have:c=w.heap.size:=jA1;have:=h.bel.size;omega
   rw[nO i i1 i2]at hc;exact h.lo i c hc
 ·first|have _:=aBo;rw[gO iX oh];exact kK (.inl (h.ox c hc))|rw[nO iX oh oh];exact h.ox
 ·by_cases i1:i=iB
  ·exact .inl i1
  first
  |have _:=aBo;rw[gO i i1]at hi;by_cases e:Of i=[]
  |by_cases i2:i=iN I
   ·exact .inr (.inr ⟨I,od,i2⟩)
   rw[nO i i1 i2]at hi;rcases h.emp i hi with y|y|⟨j,hj,y⟩
   ·exact .inl y
  ·first
   |have _:=aBo;rw[e,List.nil_append]at hi;rcases hl.only i hi with y|y|⟨j,_,y⟩
    ·exact .inr (.inl y)
    ·exact .inr (.inr (.inr ⟨K,od,.inl y⟩))
    ·exact .inr (.inr (.inr ⟨K,od,.inr ⟨j,y⟩⟩))
   |exact .inr (.inl y)
  ·first
   |have _:=aBo;rcases h.emp i e with y|y|y|⟨k,hk,y⟩
    ·exact .inl y
    ·exact .inr (.inl y)
    ·exact .inr (.inr (.inl y))
    ·exact .inr (.inr (.inr ⟨k,od,y⟩))
   |exact .inr (.inr ⟨j,od,y⟩)
 ·exact(aB (.inr hi)).trans ((cC i).trans (h.kc i hi))
 ·first|have _:=aBo;exact h.kx.trans ((aJ1 iX oh).part h.ox)|have:=sO iX oh oh;rw[h.ox]at this;exact h.kx.trans this
 ·first
  |have _:=aBo;refine h.kb.trans ⟨od,fun c hc=>?_⟩;have hc:c=nb:=jA1;subst hc;rw[Below.heap_setCell _ _ _ _ h.nC,hg.block c od (Ne.symm h.nu),k2.block c od,k1.block c hnb]
  |rw[List.range_succ,List.map_append,List.map_singleton,vU];have e:(List.range I).map (fun j=>Value.pointer (some ⟨upd P I w.heap.size j,0,none⟩))=(List.range I).map (fun j=>Value.pointer (some ⟨P j,0,none⟩)):=List.map_congr_left (fun j hj=>by
    have:j<I:=List.mem_range.1 hj
    rw[rR _ _ od])
   rw[e];exact fY ho od
 ·first
  |have _:=aBo;have e:fZ (fun k=>iI (p.lf k)) (fun k=>.pointer (some ⟨upd S K S' k,0,none⟩)) (fun k=>sV (some ⟨upd E K E' k,0,none⟩) p.n p.n) K=fZ (fun k=>iI (p.lf k)) (fun k=>.pointer (some ⟨S k,0,none⟩)) (fun k=>sV (some ⟨E k,0,none⟩) p.n p.n) K:=
    aB2 K (fun i hi=>⟨rfl,by rw[rR _ _ od],by rw[rR _ _ od]⟩)
   unfold fZ;rw[e,vU,vU];exact fY ho od
  |by_cases e:j=I
   ·subst e;rw[vU,nI];have a:=sm (iN j) oh;rw[cZ]at a;exact⟨hn.same a,rfl⟩
   ·obtain⟨a,b⟩:=h.node j od;rw[rR _ _ e,nO (iN j) oh j4];exact⟨a.same (b▸sO (iN j) oh j4),b⟩
 ·first|have _:=aBo;obtain⟨a,b⟩:=h.node j hj;rw[aXl (iN j) oh oh oh (fun j=>⟨oh,oh⟩)];exact⟨a.same (b▸aJ1 (iN j) oh),b⟩|have dB:Below b0 w0 w1:=h.bel.trans (k1.mono od);exact dB.trans (hft.below (fun c hc=>h.lo iB c (by rw[h.ob];exact hc)) od)
 first
 |have _:=aBo
  ·by_cases e:k=K
   ·subst e;rw[vU,bB9 (iS k) oh (.inl rfl)];exact hl.sdr.keep (aRo _ oh)
   ·rw[rR _ _ e,aXl (iS k) oh oh j4 (fun j=>⟨oh,oh⟩)];exact(h.snd k od).keep (aJ1 _ oh)
  ·by_cases e:k=K
   ·subst e;rw[vU,gO iX oh,Y9];refine⟨kK (.inr hl.eX),fun j hj=>?_⟩;rw[(aRo iX oh).cell (p:=(aA E' j)) hl.eX,hl.en j hj];simp only[hj,true_and]
   ·rw[rR _ _ e,gO iX oh,K8 _ _ e];obtain⟨a,b⟩:=h.en k od;exact⟨kK (.inl a),fun j hj=>((aJ1 iX oh).cell (p:=⟨E k,j,none⟩) a).trans (b j hj)⟩
  ·by_cases e:k=K
   ·subst e;obtain⟨⟨a1,_,a3,a4⟩,a5,a6⟩:=hl.dn j hj hb;rw[Y9,Y9,Y9,gO iX oh,bB9 (iR k j) oh (.inr ⟨j,.inl rfl⟩),bB9 (iQ k j) oh (.inr ⟨j,.inr rfl⟩)];exact⟨⟨kK (.inr a1),((aRo iX oh).cell (p:=⟨D' j,0,none⟩) a1).trans a3,((aRo iX oh).cell (p:=⟨D' j,1,none⟩) a1).trans a4⟩,a5.keep (aRo _ oh),a6.keep (aRo _ oh)⟩
   ·obtain⟨⟨a1,a3,a4⟩,a5,a6⟩:=h.dn k j od hj hb;rw[K8 _ _ e,K8 _ _ e,K8 _ _ e,gO iX oh,aXl (iR k j) oh oh oh (fun j'=>⟨fun y=>e (by simp at y;exact y.1),oh⟩),aXl (iQ k j) oh oh oh (fun j'=>⟨oh,fun y=>e (by simp at y;exact y.1)⟩)];exact⟨⟨kK (.inl a1),((aJ1 iX oh).cell (p:=⟨D k j,0,none⟩) a1).trans a3,((aJ1 iX oh).cell (p:=⟨D k j,1,none⟩) a1).trans a4⟩,a5.keep (aJ1 _ oh),a6.keep (aJ1 _ oh)⟩
  ·have dQ:Below b0 w0 w1:=h.bel.trans (k1.mono od);exact dQ.trans (hft.below (fun c hc=>h.lo iB c (by rw[h.ob];exact hc)) od)
 |skip):p:=h
theorem zOj(h:p:=by
 refine⟨{ st with aI:=st.aI.head n },.ok Kd.qX.name,M,O,A,⟨rfl,rfl⟩,rfl,?_,?_,?_⟩
 ·first|have _:=bCh;exact(((((((aKl (aS.of_below HB.out)).trans (bQ hS _)).trans (bQ hS _)).trans (bQ hS _)).trans (bQ hS _)).trans (bQ hS _)).trans (bQ hS _))|exact(((((bQ hS _).trans (bQ hS _)).trans (bQ hS _)).trans (bQ hS _)).trans (bQ hS _)).trans (bQ hS _)
 ·first|(have _:=bCh;have hr:=hd.rest (w':=(((((((V.drewN (nq+1)).setCell (aA S 0) (iI (n.getD 0 0))).setCell (aA S 1) (iI (n.getD 1 0))).setCell (aA S 2) (iI (n.getD 2 0))).setCell (aA S 3) (iI (n.getD 3 0))).setCell (aA S 4) (iI (n.getD 4 0))).setCell (aA S 5) (iI (n.getD 5 0)))) oh (fun c hc=>by simp only[cJ hc]);exact { hr.later (kR N)with clu:=fun fa cs c rd T e=>by rw[HC.out]at e;cases e })|(have hr:=h.rest (w':=((((((w.setCell (aA S 0) (iI (n.getD 0 0))).setCell (aA S 1) (iI (n.getD 1 0))).setCell (aA S 2) (iI (n.getD 2 0))).setCell (aA S 3) (iI (n.getD 3 0))).setCell (aA S 4) (iI (n.getD 4 0))).setCell (aA S 5) (iI (n.getD 5 0)))) oh (fun c hc=>by simp only[cJ hc]);exact { hr.later (kR N)with clu:=fun fa cs c rd T e=>by rw[hc]at e;cases e })
 ·first|have _:=bCh;exact cH (cH (cH (cH (cH (cH hd.blk _) _) _) _) _) _|exact cH (cH (cH (cH (cH (cH h.blk _) _) _) _) _) _):p:=h
theorem zOk(h:p:=by
 rw[e,cZ]at hc;rcases kN hc with y|y
 ·first|have _:=bCi;subst y;exact kO _ hCO|subst y;exact b.lc
 ·rcases kN y with z|z
  ·first|have _:=bCi;subst z;exact kQ|subst z;exact hg
  ·first
   |have _:=bCi
    first|have _:=m71;exact kO _ (h.sub iB c oe O7)|exact kO _ (h.sub iB c O7)
   |exact b.lx c z):p:=h
theorem zOl(h:p:=by have bLx:=0;exact zPl):p:=h
theorem zOm(h:p:=by have bMl:=0;exact zQk):p:=h
theorem zOo(h:p:=by have bCn:=0;exact zP5):p:=h
theorem zOr(h:p:=by have bM0:=0;exact zPo):p:=h
theorem zOt(h:p:=by have aYi:=0;exact zPp):p:=h
theorem zOu(h:p:=by
 obtain⟨sb,bMs,hsa,hsX,hsc⟩:=h.base.sl od;obtain⟨s0,s1,s2⟩:=hsc i hi;have c6:=h.base.c6;rw[hsa]at c6;have hsl:=h.base.lx _ hsX;have sG:=h.base.lc;have ii:(i:Int)<(p.ns:Int):=od;rw[hw]at s0;obtain⟨FR,hFR⟩:∃FR,p.fr i=FR:=⟨_,rfl⟩;obtain⟨TD,hTD⟩:∃TD,p.td i=TD:=⟨_,rfl⟩;rw[hFR]at s1;rw[hTD]at s2;have HFR:Hid (p.fr i=FR):=hFR;obtain⟨V,hVe⟩:∃V,V=(((w.alloc (.cells #[iI 0,iI 0,iI 0,iI 0,iI 0,sT ⟨#[]⟩] 221)).alloc (.cells #[iI who,iI FR,iI TD] 94)).alloc (.cells #[iI who,iI i,iI 0,iI (-1),iI 0,sT ⟨#[]⟩] 221)):=⟨_,rfl⟩;obtain⟨bR,bS,bF,zR,zF,yM,hsz⟩:=aJe w _ _ _ _ _ _ _ _ _ _ _ _ _ _ _ _ _ _ V hVe
 first|have _:=bLi;have bCo:=0;exact zQa|have bCg:=0;exact zQa):p:=h
theorem zOv(h:p:=by
 by_cases hx:(0<=x/\x<st.aI.nodes)/\(0<=y/\y<st.aI.nl)/\aW (st.aI.lt y.toNat) x.toNat=true
 ·obtain⟨⟨hx0,hx1⟩,⟨R8,hy1⟩,N2⟩:=hx;obtain⟨j,rfl⟩:∃j:Nat,x=j:=⟨x.toNat,od⟩;obtain⟨i,rfl⟩:∃i:Nat,y=i:=⟨y.toNat,od⟩;have hj:j<st.aI.n:=od;have hi:i<st.aI.nl:=od;have aGu:aW (st.aI.lt i) j=true:=by simpa using N2
  first|have _:=bH7;refine(gG.recv j i hcd hj hi aGu).mono fun e u ⟨he,O1,hf,rH⟩=>?_;have bCm:=0;exact zPv|(refine(aRm (hR.below hv) j i jB mR hj qO hi aGu).mono ?_;rintro e u ⟨rfl,O1,hf,hR1⟩;have N3:aS O O1 w u:=(aS.of_below hv).trans hf;refine⟨_,_,rfl,wF.recvD i j,⟨(N3.cell (p:=(aA b off)) gX hbO).trans n0,(N3.cell (p:=(aA b (off+1))) gX hbO).trans n1⟩,fun w' hw'=>?_⟩;have rH:A3 u M O1 A.C st.aI fa cs (c.recv i j) rd T:=⟨Z,m,d9 N3 hZ hR.az hR.rows.zl,hR1,lF,sH⟩;obtain⟨q1,q2⟩:=(h.later (kR N)).aGl N3 (by rw[dI];exact fun q=>by cases q) rH od;exact⟨_,_,M,O1,A,⟨fa,cs,c,rd,T,dI,.inl ⟨j,i,rfl,rfl,⟨hj,hi,aGu⟩,rfl,rfl⟩⟩,aHz _ _,q2.trans (aS.of_below hw'),q1.below hw'⟩)
 ·first|have _:=bH7;refine(gG.aIc x y hcd hx).mono fun e u ⟨he,dB⟩=>?_;have b1:bW V u:=fR dB;exact⟨2,ByteArray.empty,O,he,oe,aS.of_below b1,fun q=>eh,fun _ u' hu=>mN h hB (b1.trans (hu.mono b1.size)) (k:=.iC) (n:=[x,y]) (tx:=tx) (r:=.err 2) ⟨fa,cs,c,rd,T,dI,.inr ⟨hx,rfl,rfl⟩⟩ rfl⟩|refine(aRn (hR.below hv) lF x y hx).mono ?_;rintro e u ⟨rfl,hb⟩;have hb':bW w u:=hv.trans (hb.mono hv.size);exact⟨_,_,rfl,oe,⟨bc hb' gX n0,bc hb' gX n1⟩,fun w' hw'=>lE h (hb'.trans (hw'.mono hb'.size)) (r:=.err 2) ⟨fa,cs,c,rd,T,dI,.inr ⟨hx,rfl,rfl⟩⟩ ⟨oe,_,rfl⟩⟩):p:=h
theorem zOw(h:p:=by have bCp:=0;exact zQg):p:=h
theorem zOx(h:p:=by
 refine tk 0 aG ?_;refine tk 1 aG ?_;refine tk 2 aG ?_;refine tk 3 aG ?_
 first|have _:=bH9;refine tk 4 aG ?_;refine tk 5 aG ?_|have _:=aEg;refine tk 5 aG ?_|refine tk 4 aG ?_
 refine tk 6 aG ?_;refine tk 7 aG ?_;have bM8:=0;exact zPy):p:=h
theorem zO3(h:p:=by intro L2  pC pD;exact zQc):p:=h
theorem zO5(h:p:=by have bMb:=0;exact zP2):p:=h
theorem zO6(h:p:=by
 have n0:w.cell? (aA b off)=some (iI (n.getD 0 0)):=hc 0 oe;have n1:w.cell? (aA b (off+1))=some (iI (n.getD 1 0)):=hc 1 oe;have n2:w.cell? (aA b (off+2))=some (iI (n.getD 2 0)):=hc 2 oe
 first
 |have _:=bLn;have n3:w.cell? (aA b (off+3))=some (iI (n.getD 3 0)):=hc 3 oe;have n4:w.cell? (aA b (off+4))=some (iI (n.getD 4 0)):=hc 4 oe
  first
  |have _:=bKz
   first|have _:=m55;have hM:=aR8 (n.getD 0 0) (n.getD 1 0) (n.getD 2 0) (n.getD 3 0) (n.getD 4 0) (w.drewN 1)|have hM:=aM5 (n.getD 0 0) (n.getD 1 0) (n.getD 2 0) (n.getD 3 0) (n.getD 4 0) (w.drewN 1)
   have HT:Hid (∀u,bW w u->cB u.heap.size u):=fun u hu=>h.aBi hD (aS.of_below hu)
   first|have _:=m55;have HE:Hid (∀(x:Int) w',(oA (n.getD 0 0) (n.getD 1 0) (n.getD 2 0) (n.getD 3 0) (n.getD 4 0)=0->x=lQ (n.getD 0 0) (n.getD 1 0) (n.getD 2 0) (n.getD 3 0) (n.getD 4 0))->bW w w'->gU base S M O st N .real_ n tx w (rT (tU #[sT (dG x),iI (oA (n.getD 0 0) (n.getD 1 0) (n.getD 2 0) (n.getD 3 0) (n.getD 4 0))])) w'):=fun x w' q1 q=>lE h q (r:=jR (oA (n.getD 0 0) (n.getD 1 0) (n.getD 2 0) (n.getD 3 0) (n.getD 4 0)) (lQ (n.getD 0 0) (n.getD 1 0) (n.getD 2 0) (n.getD 3 0) (n.getD 4 0))) ⟨rfl,rfl⟩ (xG _ _ _ fun e=>by rw[q1 e]);clear h hD hr hc hn;generalize oA (n.getD 0 0) (n.getD 1 0) (n.getD 2 0) (n.getD 3 0) (n.getD 4 0)=me at *;generalize lQ (n.getD 0 0) (n.getD 1 0) (n.getD 2 0) (n.getD 3 0) (n.getD 4 0)=mv at *|have HE:Hid (∀(x:Int) w',(jC (n.getD 0 0) (n.getD 1 0) (n.getD 2 0) (n.getD 3 0) (n.getD 4 0)=0->x=n.getD 1 0+(n.getD 4 0-n.getD 0 0)*n.getD 2 0/n.getD 3 0)->bW w w'->gU base S M O st N .pM n tx w (rT (tU #[sT (dG x),iI (jC (n.getD 0 0) (n.getD 1 0) (n.getD 2 0) (n.getD 3 0) (n.getD 4 0))])) w'):=fun x w' q1 q=>lE h q (r:=jR (jC (n.getD 0 0) (n.getD 1 0) (n.getD 2 0) (n.getD 3 0) (n.getD 4 0)) (n.getD 1 0+(n.getD 4 0-n.getD 0 0)*n.getD 2 0/n.getD 3 0)) ⟨rfl,rfl⟩ (xG _ _ _ fun e=>by rw[q1 e]);clear h hD hr hc hn;generalize jC (n.getD 0 0) (n.getD 1 0) (n.getD 2 0) (n.getD 3 0) (n.getD 4 0)=me at *;generalize n.getD 1 0+(n.getD 4 0-n.getD 0 0)*n.getD 2 0/n.getD 3 0=mv at *
   exact zAn
  |have n5:w.cell? (aA b (off+5))=some (iI (n.getD 5 0)):=hc 5 oe;have hblk:=h.blk;have B0:=hblk;have c0:=aM hblk (i:=0) rfl;have z0:=bC hblk (i:=0);have HS:Hid (iG w base S M O st A N):=h;have HC:Hid (st.clu=none):=hc0;have qY:Hid (b≠S):=dM;generalize R8:n.getD 0 0=y0 at n0;generalize hy1:n.getD 1 0=y1 at n1;generalize M3:n.getD 2 0=y2 at n2;generalize hy3:n.getD 3 0=y3 at n3;generalize hy4:n.getD 4 0=y4 at n4;generalize hy5:n.getD 5 0=y5 at n5;have HY:Hid (n.getD 0 0=y0/\n.getD 1 0=y1/\n.getD 2 0=y2/\n.getD 3 0=y3/\n.getD 4 0=y4/\n.getD 5 0=y5):=⟨R8,hy1,M3,hy3,hy4,hy5⟩;clear hblk hc h hr hn hc0 R8 hy1 M3 hy3 hy4 hy5;exact zKe
 |first|have _:=m38;obtain⟨va2,vc,hvv⟩:∃a c,A.vS=sV a st.aI.ns c:=(wK h.r.oS).elim fun a q=>q.elim fun c r=>⟨a,c,r.1⟩;have c6:w.cell? (aA S 6)=some (sV va2 st.aI.ns vc):=(aM h.blk (i:=6) rfl).trans (congrArg some hvv);obtain⟨V,hV⟩:∃V,w.alloc (.cells #[iI (n.getD 0 0),iI (n.getD 1 0),iI (n.getD 2 0)] 94)=V:=⟨_,rfl⟩;have hB:bW w V:=hV▸(kX _ w).alloc (kF _) _;have hVs:V.heap.size=w.heap.size+1:=eo;have hs:=h.below hB;have c0:V.cell? (aA S 6)=some (sV va2 st.aI.ns vc):=(aM hs.blk (i:=6) rfl).trans (congrArg some hvv);have z0:=bC hs.blk (i:=6);have hSw:=h.r.hi S h.r.s|have n3:w.cell? (aA b (off+3))=some (iI (n.getD 3 0)):=hc 3 oe;have hs:=h;obtain⟨va2,vc,hvv⟩:∃a c,A.vL=sV a st.aI.nl c:=(d8 h.r.oL).elim fun a q=>q.elim fun c r=>⟨a,c,r.1⟩;have c0:w.cell? (aA S 7)=some (sV va2 st.aI.nl vc):=(aM h.blk (i:=7) rfl).trans (congrArg some hvv);have z0:=bC hs.blk (i:=7)
  have B9:=hs.r.hi S hs.r.s
  first
  |have _:=m38;have x0:V.cell? (aA w.heap.size 0)=some (iI (n.getD 0 0)):=ou;have x1:V.cell? (aA w.heap.size 1)=some (iI (n.getD 1 0)):=ou;have x2:V.cell? (aA w.heap.size 2)=some (iI (n.getD 2 0)):=ou;have HLO:Hid (base<=V.heap.size):=hs.low;have qY:Hid (w.heap.size≠S):=by show w.heap.size≠S;omega
   have tW:Hid (∀w3 g c,(V.alloc (.cells #[iI (n.getD 0 0),iI (n.getD 1 0),iI (n.getD 2 0)] 94)).grownBy w3 A.vS.ownBlock->w3.ownsRow base 94 3 (sL g (st.aI.ns+1) c) (st.aI.ns+1) (bN st.aI.nd st.aI.fr st.aI.td st.aI.ns++[iI (n.getD 0 0),iI (n.getD 1 0),iI (n.getD 2 0)])->(A.vS.ownBlock=some g\/g=V.heap.size+1)->g<w3.heap.size->∀U,(w3.setCell (aA S 6) (sL g (st.aI.ns+1) c))=U->U.cell? (aA S 6)=some (sL g (st.aI.ns+1) c)/\cB U.heap.size U/\∀w4,bW U w4->gU base S M O st N .oW n tx w (rT (tU #[sT (dG st.aI.ns),iI 0])) w4):=fun w3 g c hg bK jW hlt U hU=>by obtain⟨e1,e2⟩:=aPl hs hB n _ g c hg bK jW hlt dI sW;rw[hU]at e1 e2;exact⟨aM e2.blk (i:=6) rfl,h.aBi hD e1,fun w4 h4=>⟨_,.ok (dG st.aI.ns),_,_,_,.inl ⟨sW,rfl,rfl⟩,rfl,e1.trans (aS.of_below h4),e2.below h4⟩⟩
   have hvb:A.vS.ownBlock≠some w.heap.size:=fun e=>by have:=h.r.hi _ (h.r.bS _ e);omega
   have hvS:A.vS.ownBlock≠some S:=fun e=>gE hs.r.oS hs.blk oe e rfl;have H3:Hid ((V.alloc (.cells #[iI (n.getD 0 0),iI (n.getD 1 0),iI (n.getD 2 0)] 94)).ownsRow base 94 3 A.vS st.aI.ns (bN st.aI.nd st.aI.fr st.aI.td st.aI.ns)):=hs.r.oS.alloc _;have wX:Hid (∀(j:Nat) (u:Value),[iI (n.getD 0 0),iI (n.getD 1 0),iI (n.getD 2 0)][j]?=some u->(V.alloc (.cells #[iI (n.getD 0 0),iI (n.getD 1 0),iI (n.getD 2 0)] 94)).drew.cell? (((aA V.heap.size 0):Addr).add j)=some u):=w8 V _ _ _ _;have lT:Hid (∀w3,(V.alloc (.cells #[iI (n.getD 0 0),iI (n.getD 1 0),iI (n.getD 2 0)] 94)).grownBy w3 A.vS.ownBlock->w3.cell? (aA w.heap.size 0)=some (iI (n.getD 0 0))/\w3.cell? (aA w.heap.size 1)=some (iI (n.getD 1 0))/\w3.cell? (aA w.heap.size 2)=some (iI (n.getD 2 0))/\w3.cell? (aA S 6)=some (sV va2 st.aI.ns vc)/\w3.frozen? (aA S 6)=false):=fun w3 hg=>by have kb:w3.heap[w.heap.size]?=V.heap[w.heap.size]?:=(hg.block w.heap.size ol (fun e=>hvb e.symm)).trans (Below.heap_alloc V _ _ od);have kS:w3.heap[S]?=V.heap[S]?:=(hg.block S ol (fun e=>hvS e.symm)).trans (Below.heap_alloc V _ S B9);exact⟨(World.cell?_of_block (a:=(aA w.heap.size 0)) kb).trans x0,(World.cell?_of_block (a:=(aA w.heap.size 1)) kb).trans x1,(World.cell?_of_block (a:=(aA w.heap.size 2)) kb).trans x2,(World.cell?_of_block (a:=(aA S 6)) kS).trans c0,(World.frozen?_of_block (a:=(aA S 6)) kS).trans z0⟩
  |have qY:Hid (b≠S):=dM;have HLO:Hid (base<=w.heap.size):=h.low;have tW:Hid (∀w3 g c,(w.alloc (.cells #[iI (n.getD 0 0),iI (n.getD 1 0),iI (n.getD 2 0),iI (n.getD 3 0)] 96)).grownBy w3 A.vL.ownBlock->w3.ownsRow base 96 4 (sL g (st.aI.nl+1) c) (st.aI.nl+1) (dD st.aI.lf st.aI.lt st.aI.lb st.aI.lq st.aI.nl++[iI (n.getD 0 0),iI (n.getD 1 0),iI (n.getD 2 0),iI (n.getD 3 0)])->(A.vL.ownBlock=some g\/g=w.heap.size+1)->g<w3.heap.size->∀U,(w3.setCell (aA S 7) (sL g (st.aI.nl+1) c))=U->U.cell? (aA S 7)=some (sL g (st.aI.nl+1) c)/\cB U.heap.size U/\∀w4,bW U w4->gU base S M O st N .oU n tx w (rT (tU #[sT (dG st.aI.nl),iI 0])) w4):=fun w3 g c hg bK jW hlt U hU=>by obtain⟨e1,e2⟩:=aPg hs (kX _ w) n _ g c hg bK jW hlt dI sW hi;rw[hU]at e1 e2;exact⟨aM e2.blk (i:=7) rfl,hs.aBi hD e1,fun w4 h4=>⟨_,.ok (dG st.aI.nl),_,_,_,.inl ⟨sW,rfl,rfl⟩,rfl,e1.trans (aS.of_below h4),e2.below h4⟩⟩
   have hvb:A.vL.ownBlock≠some b:=fun e=>by obtain⟨_,_,q⟩:=fD hs.r.oL e;exact sJ q C0 oe rfl
   have hvS:A.vL.ownBlock≠some S:=fun e=>gE hs.r.oL hs.blk oe e rfl;have H3:Hid ((w.alloc (.cells #[iI (n.getD 0 0),iI (n.getD 1 0),iI (n.getD 2 0),iI (n.getD 3 0)] 96)).ownsRow base 96 4 A.vL st.aI.nl (dD st.aI.lf st.aI.lt st.aI.lb st.aI.lq st.aI.nl)):=hs.r.oL.alloc _;have wX:Hid (∀(j:Nat) (u:Value),[iI (n.getD 0 0),iI (n.getD 1 0),iI (n.getD 2 0),iI (n.getD 3 0)][j]?=some u->(w.alloc (.cells #[iI (n.getD 0 0),iI (n.getD 1 0),iI (n.getD 2 0),iI (n.getD 3 0)] 96)).drew.cell? (((aA w.heap.size 0):Addr).add j)=some u):=aI4 w _ _ _ _ _;have lT:Hid (∀w3,(w.alloc (.cells #[iI (n.getD 0 0),iI (n.getD 1 0),iI (n.getD 2 0),iI (n.getD 3 0)] 96)).grownBy w3 A.vL.ownBlock->w3.cell? (aA b off)=some (iI (n.getD 0 0))/\w3.cell? (aA b (off+1))=some (iI (n.getD 1 0))/\w3.cell? (aA b (off+2))=some (iI (n.getD 2 0))/\w3.cell? (aA b (off+3))=some (iI (n.getD 3 0))/\w3.cell? (aA S 7)=some (sV va2 st.aI.nl vc)/\w3.frozen? (aA S 7)=false):=fun w3 hg=>by have bM3:=0;exact zPs
  have mm:∀(o:Obj) (k:Nat) (x:Value),w.cell? (aA b k)=some x->(w.alloc o).cell? (aA b k)=some x:=fun o k x q=>(((kX _ w).alloc (kF _) o).cell (p:=(aA b k)) gX).trans q
  first|have _:=m38;have mb:∀(o:Obj) (k:Nat) (x:Value),V.cell? (aA w.heap.size k)=some x->(V.alloc o).cell? (aA w.heap.size k)=some x:=fun o k x q=>(((kX _ V).alloc (kF _) o).cell (p:=(aA w.heap.size k)) (by show w.heap.size<V.heap.size;omega)).trans q;have mc:∀o:Obj,(V.alloc o).cell? (aA S 6)=some (sV va2 st.aI.ns vc):=fun o=>(((kX _ V).alloc (kF _) o).cell (p:=(aA S 6)) B9).trans c0;generalize bN st.aI.nd st.aI.fr st.aI.td st.aI.ns=cells at H3 tW|have mc:∀o:Obj,(w.alloc o).cell? (aA S 7)=some (sV va2 st.aI.nl vc):=fun o=>(((kX _ w).alloc (kF _) o).cell (p:=(aA S 7)) B9).trans c0;generalize dD st.aI.lf st.aI.lt st.aI.lb st.aI.lq st.aI.nl=cells at H3 tW
  rw[hvv]at H3 tW lT;generalize n.getD 0 0=y0 at *;generalize n.getD 1 0=y1 at *;generalize n.getD 2 0=y2 at *
  first|have _:=m38;generalize st.aI.ns=nn at *;have HV:Hid _:=hV;have HVS:Hid _:=hVs;clear hs h hr hc hvb hvS hn hvv hD hV hVs hB;have k8:decide ((32:Int)<=(nn:Int))=false:=kC od|generalize n.getD 3 0=y3 at *;generalize st.aI.nl=nn at *;clear hs h hr hc C0 hvb hvS hn hvv hD;have k8:decide ((8:Int)<=(nn:Int))=false:=kC od
  exact zNw):p:=h
theorem zO8(h:p:=by
 have X9:=hs.r.lo S hs.r.s;have hwV:=hB.size;refine⟨⟨?_,?_,?_,?_,?_,?_⟩,?_,hblk⟩
 ·exact zH9
 ·exact zHs
 ·exact zHi
 ·simp;omega
 ·first
  |have _:=bHd
   first|have _:=aU4;exact zDg|exact zDh
  |intro x hx hn;have hxV:x<V.heap.size:=od
   first|have _:=m96;refine(R6 x hxV (fun e=>hn (kK (.inl (e▸hs.r.s)))) (fun e=>hn (kK (.inl (hs.r.bS x e))))).trans (hB.block x hx)|refine(R6 x hxV (fun e=>hn (kK (.inl (e▸hs.r.s)))) (fun e=>hn (kK (.inl (hs.r.bL x e))))).trans (hB.block x hx)
 ·exact zGl
 ·first
  |have _:=bHd
   first
   |have _:=aU4
    first
    |have _:=m12;exact {
         s:=kM (.inr hs.r.s)
         lo:=fun x hx=>by
          rcases kN hx with rfl|hx
          ·rcases hgM with q|q
           ·exact hs.r.lo _ q
           ·omega
          ·exact hs.r.lo x hx
         hi:=fun x hx=>by
          rcases kN hx with rfl|hx
          ·simpa using hlt
          ·exact kB (hs.r.hi x hx) qG
         loO:=hs.r.loO
         hiO:=fun x hx=>kB (hs.r.hiO x hx) qG
         ap:=fun x hx hm=>by
          rcases kN hm with rfl|hm
          ·rcases hgM with q|q
           ·exact hs.r.ap _ hx q
           ·have:=hs.r.hiO _ hx;omega
          ·exact hs.r.ap x hx hm
         oO:=by have:=pG st.next.ls st.next.lc st.next.lt (n.getD 0 0) (n.getD 1 0) (n.getD 2 0) st.next.nL;rw[<-this]at bK;exact eQ bK fun x hx=>cJ Ev _
         oS:=own hs.r.oS oe oe hs.r.bS
         oL:=own hs.r.oL oe oe hs.r.bL
         oR:=own hs.r.oR oe oe hs.r.bR
         bO:=fun x hx=>by cases hx;exact kM (.inl rfl)
         bS:=fun x hx=>kM (.inr (hs.r.bS x hx))
         bL:=fun x hx=>kM (.inr (hs.r.bL x hx))
         bR:=fun x hx=>kM (.inr (hs.r.bR x hx))
         rD:=hs.r.rD.at qG fun b off e h0=>yP (hs.r.bD b off e h0).2 (hs.r.bD b off e h0).1
         rM:=hs.r.rM.at qG fun b off e h0=>yP (hs.r.bM b off e h0).2 (hs.r.bM b off e h0).1
         bD:=fun b off e h0=>⟨kM (.inr (hs.r.bD b off e h0).1),Ob⟩
         bM:=fun b off e h0=>⟨kM (.inr (hs.r.bM b off e h0).1),Oa⟩
         nw:=hs.r.nw
         nD:=hs.r.nD
         nM:=hs.r.nM
         ns:=hs.r.ns
         nl:=hs.r.nl
         iL:=hs.r.iL
         iO:=fun k hk=>by
          show gW (mM st.next.lt st.next.nL (n.getD 2 0) k)
          unfold mM
          split
          ·exact hi
          ·exact hs.r.iO k (by have:k<st.next.nL+1:=hk;omega)
         nL:=Nat.succ_le_succ hs.r.nL
         nR:=Nat.le_succ_of_le hs.r.nR
         clu:=fun fa cs c rd T e=>⟨(hs.r.clu fa cs c rd T e).1.keep hOs (fun x hx hp=>⟨kM (.inr hx),R6 x (hs.r.hi x hx) (i6 hp hs.blk oe oe) (fun q=>by obtain⟨_,_,q2⟩:=fD hs.r.oO q;exact i6 hp q2 oe oe rfl)⟩),kG (hs.r.clu fa cs c rd T e).2 (kR N)⟩ }
    |exact {
         s:=kM (.inr hs.r.s)
         lo:=fun x hx=>by
          rcases kN hx with rfl|hx
          ·rcases hgM with q|q
           ·exact hs.r.lo _ q
           ·omega
          ·exact hs.r.lo x hx
         hi:=fun x hx=>by
          rcases kN hx with rfl|hx
          ·simpa using hlt
          ·exact kB (hs.r.hi x hx) qG
         loO:=hs.r.loO
         hiO:=fun x hx=>kB (hs.r.hiO x hx) qG
         ap:=fun x hx hm=>by
          rcases kN hm with rfl|hm
          ·rcases hgM with q|q
           ·exact hs.r.ap _ hx q
           ·have:=hs.r.hiO _ hx;omega
          ·exact hs.r.ap x hx hm
         oO:=by have:=pG st.next.ls st.next.lc st.next.lt (n.getD 0 0) (n.getD 1 0) (n.getD 2 0) st.next.nL;rw[<-this]at bK;exact eQ bK fun x hx=>cJ Ev _
         oS:=own hs.r.oS oe oe hs.r.bS
         oL:=own hs.r.oL oe oe hs.r.bL
         oR:=own hs.r.oR oe oe hs.r.bR
         bO:=fun x hx=>by cases hx;exact kM (.inl rfl)
         bS:=fun x hx=>kM (.inr (hs.r.bS x hx))
         bL:=fun x hx=>kM (.inr (hs.r.bL x hx))
         bR:=fun x hx=>kM (.inr (hs.r.bR x hx))
         rD:=hs.r.rD.at qG fun b off e h0=>yP (hs.r.bD b off e h0).2 (hs.r.bD b off e h0).1
         rM:=hs.r.rM.at qG fun b off e h0=>yP (hs.r.bM b off e h0).2 (hs.r.bM b off e h0).1
         bD:=fun b off e h0=>⟨kM (.inr (hs.r.bD b off e h0).1),Ob⟩
         bM:=fun b off e h0=>⟨kM (.inr (hs.r.bM b off e h0).1),Oa⟩
         nw:=hs.r.nw
         nD:=hs.r.nD
         nM:=hs.r.nM
         ns:=hs.r.ns
         nl:=hs.r.nl
         iL:=hs.r.iL
         iO:=fun k hk=>by
          show gW (mM st.next.lt st.next.nL (n.getD 2 0) k)
          unfold mM
          split
          ·exact hi
          ·exact hs.r.iO k (by have:k<st.next.nL+1:=hk;omega)
         nL:=Nat.succ_le_succ hs.r.nL
         nR:=Nat.le_succ_of_le hs.r.nR
         clu:=fun fa cs c rd T e=>⟨gG.keep (hs.r.clu fa cs c rd T e).1 hOs,kG (hs.r.clu fa cs c rd T e).2 (kR N)⟩ }
   |have _:=m11;exact {
        s:=kM (.inr hs.r.s)
        lo:=fun x hx=>by
         rcases kN hx with rfl|hx
         ·rcases hgM with q|q
          ·exact hs.r.lo _ q
          ·omega
         ·exact hs.r.lo x hx
        hi:=fun x hx=>by
         rcases kN hx with rfl|hx
         ·simpa using hlt
         ·exact kB (hs.r.hi x hx) qG
        loO:=hs.r.loO
        hiO:=fun x hx=>kB (hs.r.hiO x hx) qG
        ap:=fun x hx hm=>by
         rcases kN hm with rfl|hm
         ·rcases hgM with q|q
          ·exact hs.r.ap _ hx q
          ·have:=hs.r.hiO _ hx;omega
         ·exact hs.r.ap x hx hm
        oR:=by have:=pG st.next.rn st.next.ro st.next.ri (n.getD 0 0) (n.getD 1 0) (n.getD 2 0) st.next.nR;rw[<-this]at bK;exact eQ bK fun x hx=>cJ Ev _
        oS:=own hs.r.oS oe oe hs.r.bS
        oL:=own hs.r.oL oe oe hs.r.bL
        oO:=own hs.r.oO oe oe hs.r.bO
        bR:=fun x hx=>by cases hx;exact kM (.inl rfl)
        bS:=fun x hx=>kM (.inr (hs.r.bS x hx))
        bL:=fun x hx=>kM (.inr (hs.r.bL x hx))
        bO:=fun x hx=>kM (.inr (hs.r.bO x hx))
        rD:=hs.r.rD.at qG fun b off e h0=>yP (hs.r.bD b off e h0).2 (hs.r.bD b off e h0).1
        rM:=hs.r.rM.at qG fun b off e h0=>yP (hs.r.bM b off e h0).2 (hs.r.bM b off e h0).1
        bD:=fun b off e h0=>⟨kM (.inr (hs.r.bD b off e h0).1),Ob⟩
        bM:=fun b off e h0=>⟨kM (.inr (hs.r.bM b off e h0).1),Oa⟩
        nw:=hs.r.nw
        nD:=hs.r.nD
        nM:=hs.r.nM
        ns:=hs.r.ns
        nl:=hs.r.nl
        iL:=hs.r.iL
        iO:=hs.r.iO
        nL:=Nat.le_succ_of_le hs.r.nL
        nR:=Nat.succ_le_succ hs.r.nR
        clu:=fun fa cs c rd T e=>⟨(hs.r.clu fa cs c rd T e).1.keep hOs (fun x hx hp=>⟨kM (.inr hx),R6 x (hs.r.hi x hx) (i6 hp hs.blk oe oe) (fun q=>by obtain⟨_,_,q2⟩:=fD hs.r.oR q;exact i6 hp q2 oe oe rfl)⟩),kG (hs.r.clu fa cs c rd T e).2 (kR N)⟩ }
   |exact {
        s:=kM (.inr hs.r.s)
        lo:=fun x hx=>by
         rcases kN hx with rfl|hx
         ·rcases hgM with q|q
          ·exact hs.r.lo _ q
          ·omega
         ·exact hs.r.lo x hx
        hi:=fun x hx=>by
         rcases kN hx with rfl|hx
         ·simpa using hlt
         ·exact kB (hs.r.hi x hx) qG
        loO:=hs.r.loO
        hiO:=fun x hx=>kB (hs.r.hiO x hx) qG
        ap:=fun x hx hm=>by
         rcases kN hm with rfl|hm
         ·rcases hgM with q|q
          ·exact hs.r.ap _ hx q
          ·have:=hs.r.hiO _ hx;omega
         ·exact hs.r.ap x hx hm
        oR:=by have:=pG st.next.rn st.next.ro st.next.ri (n.getD 0 0) (n.getD 1 0) (n.getD 2 0) st.next.nR;rw[<-this]at bK;exact eQ bK fun x hx=>cJ Ev _
        oS:=own hs.r.oS oe oe hs.r.bS
        oL:=own hs.r.oL oe oe hs.r.bL
        oO:=own hs.r.oO oe oe hs.r.bO
        bR:=fun x hx=>by cases hx;exact kM (.inl rfl)
        bS:=fun x hx=>kM (.inr (hs.r.bS x hx))
        bL:=fun x hx=>kM (.inr (hs.r.bL x hx))
        bO:=fun x hx=>kM (.inr (hs.r.bO x hx))
        rD:=hs.r.rD.at qG fun b off e h0=>yP (hs.r.bD b off e h0).2 (hs.r.bD b off e h0).1
        rM:=hs.r.rM.at qG fun b off e h0=>yP (hs.r.bM b off e h0).2 (hs.r.bM b off e h0).1
        bD:=fun b off e h0=>⟨kM (.inr (hs.r.bD b off e h0).1),Ob⟩
        bM:=fun b off e h0=>⟨kM (.inr (hs.r.bM b off e h0).1),Oa⟩
        nw:=hs.r.nw
        nD:=hs.r.nD
        nM:=hs.r.nM
        ns:=hs.r.ns
        nl:=hs.r.nl
        iL:=hs.r.iL
        iO:=hs.r.iO
        nL:=Nat.le_succ_of_le hs.r.nL
        nR:=Nat.succ_le_succ hs.r.nR
        clu:=fun fa cs c rd T e=>⟨gG.keep (hs.r.clu fa cs c rd T e).1 hOs,kG (hs.r.clu fa cs c rd T e).2 (kR N)⟩ }
  |have _:=m96;exact {
       s:=kM (.inr hs.r.s)
       lo:=fun x hx=>by
        rcases kN hx with rfl|hx
        ·rcases hgM with q|q
         ·exact hs.r.lo _ q
         ·omega
        ·exact hs.r.lo x hx
       hi:=fun x hx=>by
        rcases kN hx with rfl|hx
        ·simpa using hlt
        ·exact kB (hs.r.hi x hx) qG
       loO:=hs.r.loO
       hiO:=fun x hx=>kB (hs.r.hiO x hx) qG
       ap:=fun x hx hm=>by
        rcases kN hm with rfl|hm
        ·rcases hgM with q|q
         ·exact hs.r.ap _ hx q
         ·have:=hs.r.hiO _ hx;omega
        ·exact hs.r.ap x hx hm
       oS:=by have:=pG st.aI.nd st.aI.fr st.aI.td (n.getD 0 0) (n.getD 1 0) (n.getD 2 0) st.aI.ns;rw[<-this]at bK;exact eQ bK fun x hx=>cJ Ev _
       oL:=own hs.r.oL oe oe hs.r.bL
       oO:=own hs.r.oO oe oe hs.r.bO
       oR:=own hs.r.oR oe oe hs.r.bR
       bS:=fun x hx=>by cases hx;exact kM (.inl rfl)
       bL:=fun x hx=>kM (.inr (hs.r.bL x hx))
       bO:=fun x hx=>kM (.inr (hs.r.bO x hx))
       bR:=fun x hx=>kM (.inr (hs.r.bR x hx))
       rD:=hs.r.rD.at qG fun b off e h0=>yP (hs.r.bD b off e h0).2 (hs.r.bD b off e h0).1
       rM:=hs.r.rM.at qG fun b off e h0=>yP (hs.r.bM b off e h0).2 (hs.r.bM b off e h0).1
       bD:=fun b off e h0=>⟨kM (.inr (hs.r.bD b off e h0).1),Ob⟩
       bM:=fun b off e h0=>⟨kM (.inr (hs.r.bM b off e h0).1),Oa⟩
       nw:=hs.r.nw
       nD:=hs.r.nD
       nM:=hs.r.nM
       ns:=sW
       nl:=hs.r.nl
       iL:=hs.r.iL
       iO:=hs.r.iO
       nL:=Nat.le_succ_of_le hs.r.nL
       nR:=Nat.le_succ_of_le hs.r.nR
       clu:=fun fa cs c rd T e=>by rw[show st.clu=none from hc]at e;cases e }
  |exact {
       s:=kM (.inr hs.r.s)
       lo:=fun x hx=>by
        rcases kN hx with rfl|hx
        ·rcases hgM with q|q
         ·exact hs.r.lo _ q
         ·omega
        ·exact hs.r.lo x hx
       hi:=fun x hx=>by
        rcases kN hx with rfl|hx
        ·simpa using hlt
        ·exact kB (hs.r.hi x hx) qG
       loO:=hs.r.loO
       hiO:=fun x hx=>kB (hs.r.hiO x hx) qG
       ap:=fun x hx hm=>by
        rcases kN hm with rfl|hm
        ·rcases hgM with q|q
         ·exact hs.r.ap _ hx q
         ·have:=hs.r.hiO _ hx;omega
        ·exact hs.r.ap x hx hm
       oL:=by have:=aBr st.aI.lf st.aI.lt st.aI.lb st.aI.lq (n.getD 0 0) (n.getD 1 0) (n.getD 2 0) (n.getD 3 0) st.aI.nl;rw[<-this]at bK;exact eQ bK fun x hx=>cJ Ev _
       oS:=own hs.r.oS oe oe hs.r.bS
       oO:=own hs.r.oO oe oe hs.r.bO
       oR:=own hs.r.oR oe oe hs.r.bR
       bL:=fun x hx=>by cases hx;exact kM (.inl rfl)
       bS:=fun x hx=>kM (.inr (hs.r.bS x hx))
       bO:=fun x hx=>kM (.inr (hs.r.bO x hx))
       bR:=fun x hx=>kM (.inr (hs.r.bR x hx))
       rD:=hs.r.rD.at qG fun b off e h0=>yP (hs.r.bD b off e h0).2 (hs.r.bD b off e h0).1
       rM:=hs.r.rM.at qG fun b off e h0=>yP (hs.r.bM b off e h0).2 (hs.r.bM b off e h0).1
       bD:=fun b off e h0=>⟨kM (.inr (hs.r.bD b off e h0).1),Ob⟩
       bM:=fun b off e h0=>⟨kM (.inr (hs.r.bM b off e h0).1),Oa⟩
       nw:=hs.r.nw
       nD:=hs.r.nD
       nM:=hs.r.nM
       ns:=hs.r.ns
       nl:=sW
       iL:=fun k hk=>by
        show gW (mM st.aI.lt st.aI.nl (n.getD 1 0) k)
        unfold mM
        split
        ·exact hi
        ·exact hs.r.iL k (by have:k<st.aI.nl+1:=hk;omega)
       iO:=hs.r.iO
       nL:=Nat.le_succ_of_le hs.r.nL
       nR:=Nat.le_succ_of_le hs.r.nR
       clu:=fun fa cs c rd T e=>by rw[show st.clu=none from hc]at e;cases e }):p:=h
theorem zPd(h:p:=by have bMa:=0;exact zP0):p:=h
theorem zPf(h:p:=by
 refine wp_region_held_drew (S:=fun u=>u.cell? (aA w.heap.size 0)=some (iI nodes)/\u.cell? (aA w.heap.size 1)=some (iI aF)) og On (fun aG=>?_)
 first|have _:=bLs;exact zQe|exact zQj):p:=h
theorem zPh(h:p:=by
 refine wp_region_held_drew (S:=fun u=>u.cell? (aA w.heap.size 2)=some (iI lb)/\u.cell? (aA w.heap.size 3)=some (iI lq)) og On (fun aG=>?_)
 first|have _:=bLu;have aYd:=0;exact zQe|have bHj:=0;exact zQe):p:=h
theorem zPm(h:p:=by
 have HE2:Hid (goS p s true who t (k+1)=goS p s true who t k):=by show goS _ _ _ _ _ _=_;unfold goS;rw[HE.out]
 first|have _:=bLy;have HMV:Hid ((uP p s true who t k).2=some (k',q',d')):=aBl;rw[aBl,show gS (some (k',q',d'))=(k':Int)from rfl,show dN (some (k',q',d'))=q' from rfl,show dE (some (k',q',d'))=d' from rfl];clear aBl|have k1:((LF:Int) !=(who:Int))=true:=ol;have HMV:Hid ((uP p s true who t k).2=none):=aBl;clear hw aBl
 exact zF4):p:=h
theorem zPo(h:p:=by have bMd:=0;exact zP7):p:=h
theorem zPr(h:p:=by
 have kb:w3.heap[b]?=V.heap[b]?:=(hg.block b ol (fun e=>hvb e.symm)).trans (Below.heap_alloc V _ b zW);have kS:w3.heap[S]?=V.heap[S]?:=(hg.block S ol (fun e=>hvS e.symm)).trans (Below.heap_alloc V _ S B9)
 first|have _:=bM2;exact zCc|exact zCd):p:=h
theorem zPs(h:p:=by have bMf:=0;exact zP9):p:=h
theorem zPu(h:p:=by
 have hsw:w.heap.size+1<V.heap.size:=od;have ww:(who:Int)<(n:Int):=od;rw[hpn]at c13;have HVE:Hid (V=_):=hVe;clear R7 bR bS bF zR zF yM hsz hVe h hc hFR hTD hpn H7 hn jB hsa hsc hw hi hsX
 first
 |have _:=bM5;have HS:Hid (eZ (s.nodes who).g (s.nodes who).b (s.nodes who).fz=true):=hs;rw[hs,kJ rfl]at H4;obtain⟨M,hM⟩:∃M,aZ (s.nodes who).t p.n=M:=⟨_,rfl⟩;have HM:Hid (aZ (s.nodes who).t p.n=M):=hM;rw[hM]at H4;clear hM;have HB9:Hid ((1<=p.round/\p.round<=137438953472/\0<=rd/\0<=p.fr i/\p.fr i<=1099511627776/\p.nl<=8/\B<=9999990)/\∀k,k<p.nl->0<=p.lf k/\0<=p.lb k/\p.lb k<=1099511627776):=⟨⟨xU,pE,sH,hf0,zY,qO,hB⟩,qF⟩;clear xU pE sH hf0 zY qO hB qF
  first
  |have _:=bKs
   first
   |have _:=m5;have k1:(mode==1)=false:=by simpa using hm1
    have k2:(mode==2)=false:=by simpa using hm2
    clear hm1 hm2
   |skip
   exact zAc
  |subst hm;exact zIr
 |first|have _:=m7;have HS:Hid (eZ (s.nodes who).g (s.nodes who).b (s.nodes who).fz=false):=hs;rw[hs,kI oe]at H4|have HS:Hid (eZ (s.nodes who).g (s.nodes who).b (s.nodes who).fz=true):=hs;rw[hs,kJ rfl]at H4;obtain⟨M,hM⟩:∃M,aZ (s.nodes who).t p.n=M:=⟨_,rfl⟩;have HM:Hid (aZ (s.nodes who).t p.n=M):=hM;rw[hM]at H4;clear hM;subst hm
  exact zM1):p:=h
theorem zPv(h:p:=by
 have N3:aS O O1 V u:=⟨hf.os,hf.tape,hf.output,hf.size,hf.block,hf.fresh⟩;obtain⟨q1,q2⟩:=(hs.later (kR N)).aGl N3 (by rw[dI];exact fun q=>by cases q) rH od
 first|have _:=bCm;refine⟨zH (c.aR i j),recvD (c.aR i j),O1,he,wF.recvD i j,N3,fun hk u' hu=>?_,fun hk u' hu=>?_⟩|refine⟨c.putK st.aI j tx,O1,he,N3,fun hk u' hu=>?_,fun hk u' hu=>?_⟩
 ·first|have _:=bCm;exact⟨_,.ok (⟨#[105,115,32]⟩++recvD (c.aR i j)),M,O1,A,⟨fa,cs,c,rd,T,dI,.inl ⟨j,i,rfl,rfl,⟨hj,hi,aGu⟩,rfl,by rw[kJ hk]⟩⟩,rfl,((aS.of_below hB).trans q2).trans (aS.of_below hu),q1.below hu⟩|exact⟨_,.ok Kd.oZ.name,M,O1,A,⟨fa,cs,c,rd,T,dI,.inl ⟨j,rfl,od,rfl,by rw[kJ hk]⟩⟩,rfl,((aS.of_below hB).trans q2).trans (aS.of_below hu),q1.below hu⟩
 ·first|have _:=bCm;exact⟨_,.err (zH (c.aR i j)),M,O1,A,⟨fa,cs,c,rd,T,dI,.inl ⟨j,i,rfl,rfl,⟨hj,hi,aGu⟩,rfl,by rw[kI hk]⟩⟩,rfl,((aS.of_below hB).trans q2).trans (aS.of_below hu),q1.below hu⟩|exact⟨_,.err (c.putK st.aI j tx),M,O1,A,⟨fa,cs,c,rd,T,dI,.inl ⟨j,rfl,od,rfl,by rw[kI hk]⟩⟩,rfl,((aS.of_below hB).trans q2).trans (aS.of_below hu),q1.below hu⟩):p:=h
theorem zPz(h:p:=by have bMg:=0;exact zQb):p:=h
theorem zP5(h:p:=by
 have hsz:V.heap.size<=w3.heap.size:=jA3;have bJ4:=hs.r.hi S hs.r.s
 first
 |have _:=bCn
  first|have _:=bCj;have aT5:∀x,A.vS.ownBlock=some x->x≠S:=fun x hx=>gE hs.r.oS hs.blk oe hx|have aT5:∀x,A.vL.ownBlock=some x->x≠S:=fun x hx=>gE hs.r.oL hs.blk oe hx
 |have _:=aU4;have aT5:∀x,A.vO.ownBlock=some x->x≠S:=fun x hx=>gE hs.r.oO hs.blk oe hx
 |have aT5:∀x,A.vR.ownBlock=some x->x≠S:=fun x hx=>gE hs.r.oR hs.blk oe hx
 have hgS:g≠S:=by exact zCf
 first
 |have _:=bCn
  first|have _:=bCj;have hbk:∀x,x<V.heap.size->A.vS.ownBlock≠some x->w3.heap[x]?=V.heap[x]?:=fun x hx hn=>(hg.block x ol (fun e=>hn e.symm)).trans (Below.heap_alloc V E x hx)|have hbk:∀x,x<V.heap.size->A.vL.ownBlock≠some x->w3.heap[x]?=V.heap[x]?:=fun x hx hn=>(hg.block x ol (fun e=>hn e.symm)).trans (Below.heap_alloc V E x hx)
 |have _:=aU4;have hbk:∀x,x<V.heap.size->A.vO.ownBlock≠some x->w3.heap[x]?=V.heap[x]?:=fun x hx hn=>(hg.block x ol (fun e=>hn e.symm)).trans (Below.heap_alloc V E x hx)
 |have hbk:∀x,x<V.heap.size->A.vR.ownBlock≠some x->w3.heap[x]?=V.heap[x]?:=fun x hx hn=>(hg.block x ol (fun e=>hn e.symm)).trans (Below.heap_alloc V E x hx)
 have hS3:w3.heap[S]?=V.heap[S]?:=hbk S bJ4 (fun e=>aT5 S e rfl)
 first
 |have _:=bCn
  first
  |have _:=bCj;have hblk:=cH (i:=6) (hS3.trans hs.blk) (sL g (st.aI.ns+1) c);have R6:∀x,x<V.heap.size->x≠S->A.vS.ownBlock≠some x->(w3.setCell (aA S 6) (sL g (st.aI.ns+1) c)).heap[x]?=V.heap[x]?:=fun x h1 h2 h3=>(cJ h2 _).trans (hbk x h1 h3);have hty:∀{e:TypeId} {x:Nat},(∃cs fr,V.heap[x]?=some (.cells cs e fr))->e≠94->A.vS.ownBlock≠some x:=fun⟨_,_,q⟩ h2 h3=>by obtain⟨_,_,q2⟩:=fD hs.r.oS h3;exact zDf
   first|have _:=m29;have own:∀{e:TypeId} {size:Nat} {v:Value} {k:Nat} {xs:List Value},V.ownsRow base e size v k xs->e≠57->e≠94->(∀x,v.ownBlock=some x->x∈M)->(w3.setCell (aA S 6) (sL g (st.aI.ns+1) c)).ownsRow base e size v k xs:=fun h1 h2 h2' h3=>eQ h1 fun x hx=>R6 x (hs.r.hi x (h3 x hx)) (gE h1 hs.blk h2 hx) (hty (fD h1 hx) h2')|have own:∀{e:TypeId} {size:Nat} {v:Value} {k:Nat} {xs:List Value},V.ownsRow base e size v k xs->e≠70->e≠94->(∀x,v.ownBlock=some x->x∈M)->(w3.setCell (aA S 6) (sL g (st.aI.ns+1) c)).ownsRow base e size v k xs:=fun h1 h2 h2' h3=>eQ h1 fun x hx=>R6 x (hs.r.hi x (h3 x hx)) (gE h1 hs.blk h2 hx) (hty (fD h1 hx) h2')
   exact zAh
  |have hblk:=cH (i:=7) (hS3.trans hs.blk) (sL g (st.aI.nl+1) c);have R6:∀x,x<V.heap.size->x≠S->A.vL.ownBlock≠some x->(w3.setCell (aA S 7) (sL g (st.aI.nl+1) c)).heap[x]?=V.heap[x]?:=fun x h1 h2 h3=>(cJ h2 _).trans (hbk x h1 h3);have hty:∀{e:TypeId} {x:Nat},(∃cs fr,V.heap[x]?=some (.cells cs e fr))->e≠96->A.vL.ownBlock≠some x:=fun⟨_,_,q⟩ h2 h3=>by obtain⟨_,_,q2⟩:=fD hs.r.oL h3;exact zDf
   first|have _:=m28;have own:∀{e:TypeId} {size:Nat} {v:Value} {k:Nat} {xs:List Value},V.ownsRow base e size v k xs->e≠57->e≠96->(∀x,v.ownBlock=some x->x∈M)->(w3.setCell (aA S 7) (sL g (st.aI.nl+1) c)).ownsRow base e size v k xs:=fun h1 h2 h2' h3=>eQ h1 fun x hx=>R6 x (hs.r.hi x (h3 x hx)) (gE h1 hs.blk h2 hx) (hty (fD h1 hx) h2')|have own:∀{e:TypeId} {size:Nat} {v:Value} {k:Nat} {xs:List Value},V.ownsRow base e size v k xs->e≠70->e≠96->(∀x,v.ownBlock=some x->x∈M)->(w3.setCell (aA S 7) (sL g (st.aI.nl+1) c)).ownsRow base e size v k xs:=fun h1 h2 h2' h3=>eQ h1 fun x hx=>R6 x (hs.r.hi x (h3 x hx)) (gE h1 hs.blk h2 hx) (hty (fD h1 hx) h2')
   exact zAg
 |first
  |have _:=aU4;have hblk:=cH (i:=11) (hS3.trans hs.blk) (sL g (st.next.nL+1) c);have R6:∀x,x<V.heap.size->x≠S->A.vO.ownBlock≠some x->(w3.setCell (aA S 11) (sL g (st.next.nL+1) c)).heap[x]?=V.heap[x]?:=fun x h1 h2 h3=>(cJ h2 _).trans (hbk x h1 h3)
   first
   |have _:=m12;have hty:∀{e:TypeId} {x:Nat},(∃cs fr,V.heap[x]?=some (.cells cs e fr))->e≠114->A.vO.ownBlock≠some x:=fun⟨_,_,q⟩ h2 h3=>by obtain⟨_,_,q2⟩:=fD hs.r.oO h3;exact zDf
    have own:∀{e:TypeId} {size:Nat} {v:Value} {k:Nat} {xs:List Value},V.ownsRow base e size v k xs->e≠57->e≠114->(∀x,v.ownBlock=some x->x∈M)->(w3.setCell (aA S 11) (sL g (st.next.nL+1) c)).ownsRow base e size v k xs:=fun h1 h2 h2' h3=>eQ h1 fun x hx=>R6 x (hs.r.hi x (h3 x hx)) (gE h1 hs.blk h2 hx) (hty (fD h1 hx) h2')
   |have hty:∀{e:TypeId} {x:Nat},(∃cs fr,V.heap[x]?=some (.cells cs e fr))->e≠145->A.vO.ownBlock≠some x:=fun⟨_,_,q⟩ h2 h3=>by obtain⟨_,_,q2⟩:=fD hs.r.oO h3;exact zDf
    have own:∀{e:TypeId} {size:Nat} {v:Value} {k:Nat} {xs:List Value},V.ownsRow base e size v k xs->e≠70->e≠145->(∀x,v.ownBlock=some x->x∈M)->(w3.setCell (aA S 11) (sL g (st.next.nL+1) c)).ownsRow base e size v k xs:=fun h1 h2 h2' h3=>eQ h1 fun x hx=>R6 x (hs.r.hi x (h3 x hx)) (gE h1 hs.blk h2 hx) (hty (fD h1 hx) h2')
   have qG:V.heap.size<=(w3.setCell (aA S 11) (sL g (st.next.nL+1) c)).heap.size:=jb;have yP:∀{x:Nat},(∃cs fr,V.heap[x]?=some (.cells cs 3 fr))->x∈M->(w3.setCell (aA S 11) (sL g (st.next.nL+1) c)).heap[x]?=V.heap[x]?:=fun q h2=>R6 _ (hs.r.hi _ h2) Ot (hty q oe);have hOs:Same O V (w3.setCell (aA S 11) (sL g (st.next.nL+1) c)):=⟨qG,fun x hx=>R6 x (hs.r.hiO x hx) (fun e=>hs.r.ap x hx (e▸hs.r.s)) (fun e=>hs.r.ap x hx (hs.r.bO x e))⟩;have hgM:g∈M\/g=V.heap.size+1:=jW.imp (hs.r.bO g) id
  |have hblk:=cH (i:=12) (hS3.trans hs.blk) (sL g (st.next.nR+1) c);have R6:∀x,x<V.heap.size->x≠S->A.vR.ownBlock≠some x->(w3.setCell (aA S 12) (sL g (st.next.nR+1) c)).heap[x]?=V.heap[x]?:=fun x h1 h2 h3=>(cJ h2 _).trans (hbk x h1 h3)
   first
   |have _:=m11;have hty:∀{e:TypeId} {x:Nat},(∃cs fr,V.heap[x]?=some (.cells cs e fr))->e≠116->A.vR.ownBlock≠some x:=fun⟨_,_,q⟩ h2 h3=>by obtain⟨_,_,q2⟩:=fD hs.r.oR h3;exact zDf
    have own:∀{e:TypeId} {size:Nat} {v:Value} {k:Nat} {xs:List Value},V.ownsRow base e size v k xs->e≠57->e≠116->(∀x,v.ownBlock=some x->x∈M)->(w3.setCell (aA S 12) (sL g (st.next.nR+1) c)).ownsRow base e size v k xs:=fun h1 h2 h2' h3=>eQ h1 fun x hx=>R6 x (hs.r.hi x (h3 x hx)) (gE h1 hs.blk h2 hx) (hty (fD h1 hx) h2')
   |have hty:∀{e:TypeId} {x:Nat},(∃cs fr,V.heap[x]?=some (.cells cs e fr))->e≠146->A.vR.ownBlock≠some x:=fun⟨_,_,q⟩ h2 h3=>by obtain⟨_,_,q2⟩:=fD hs.r.oR h3;exact zDf
    have own:∀{e:TypeId} {size:Nat} {v:Value} {k:Nat} {xs:List Value},V.ownsRow base e size v k xs->e≠70->e≠146->(∀x,v.ownBlock=some x->x∈M)->(w3.setCell (aA S 12) (sL g (st.next.nR+1) c)).ownsRow base e size v k xs:=fun h1 h2 h2' h3=>eQ h1 fun x hx=>R6 x (hs.r.hi x (h3 x hx)) (gE h1 hs.blk h2 hx) (hty (fD h1 hx) h2')
   have qG:V.heap.size<=(w3.setCell (aA S 12) (sL g (st.next.nR+1) c)).heap.size:=jb;have yP:∀{x:Nat},(∃cs fr,V.heap[x]?=some (.cells cs 3 fr))->x∈M->(w3.setCell (aA S 12) (sL g (st.next.nR+1) c)).heap[x]?=V.heap[x]?:=fun q h2=>R6 _ (hs.r.hi _ h2) Ot (hty q oe);have hOs:Same O V (w3.setCell (aA S 12) (sL g (st.next.nR+1) c)):=⟨qG,fun x hx=>R6 x (hs.r.hiO x hx) (fun e=>hs.r.ap x hx (e▸hs.r.s)) (fun e=>hs.r.ap x hx (hs.r.bR x e))⟩;have hgM:g∈M\/g=V.heap.size+1:=jW.imp (hs.r.bR g) id
  have bHd:=0;exact zO8):p:=h
theorem zP6(h:p:=by
 have hE:Hid (dJ nodes aF aJ aC aH round frame ns nl nw=4):=zX h1.out h2.out h3.out od
 first
 |have _:=bMc
  first|have _:=bKo;clear d3|clear d2
 |clear d1
 exact zG1):p:=h
theorem zP7(h:p:=by have bMh:=0;exact zQc):p:=h
theorem zP9(h:p:=by
 have kb:w3.heap[b]?=w.heap[b]?:=(hg.block b ol (fun e=>hvb e.symm)).trans (Below.heap_alloc w _ b gX);have kS:w3.heap[S]?=w.heap[S]?:=(hg.block S ol (fun e=>hvS e.symm)).trans (Below.heap_alloc w _ S B9)
 first
 |have _:=bMf
  first|have _:=bM3;exact⟨(World.cell?_of_block (a:=(aA b off)) kb).trans n0,(World.cell?_of_block (a:=(aA b (off+1))) kb).trans n1,(World.cell?_of_block (a:=(aA b (off+2))) kb).trans n2,(World.cell?_of_block (a:=(aA b (off+3))) kb).trans n3,(World.cell?_of_block (a:=(aA S 7)) kS).trans c0,(World.frozen?_of_block (a:=(aA S 7)) kS).trans z0⟩|exact zCc
 |exact zCd):p:=h
theorem zQb(h:p:=by refine tk 0 aG ?_;have bMk:=0;exact zQh):p:=h
theorem zQe(h:p:=by have bHk:=0;exact zQj):p:=h
theorem zQf(h:p:=by
 replace s1:=aX s1;replace s4:=aX s4;replace P4:=aX P4;replace xJ:=aX xJ;replace xK:=aX xK;replace xL:=aX xL;simp only[List.range,List.range.loop,List.map_cons,List.map_nil,s0,s1,s4,P4,xJ,xK,xL];clear cN;obtain⟨b,off,e,hbZ,hc⟩:=h.rows.sl od;have gX:=h.rows.zl b hbZ;obtain⟨x0,x1,x2⟩:=hc i hlt;obtain⟨⟨n0,n1⟩,g0,g1⟩:=rW i hlt;obtain⟨who,A6⟩:∃who,p.S.nd i=who:=⟨_,rfl⟩;have hwi:p.nd i=(who:Int):=by exact zD8
 have H7:who<p.n:=od;have aDc:Hid (p.S.nd i=who):=A6;have bJ2:SA=some (aA b off):=hSA.trans e;rw[A6]at qE;have ii:(i:Int)<(p.ns:Int):=od;have aWq:Hid (∀k,k<p.nl->0<=p.lf k/\0<=p.lb k/\p.lb k<=1099511627776):=qF
 first|have _:=bMj;have bLz:=0;exact zQl|have bMm:=0;exact zQl):p:=h
