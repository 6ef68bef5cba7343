import Derived.Test.YtnbomhedoelklaaGreatDoorZDkFields
import Derived.Test.YtnbomhedoelklaaGreatDoorZDkIter
import Derived.Laws.EntriesVeiled
namespace Go.Proofs.YtnbomhedoelklaaGreatDoor
open Go.RowKit Go.Proofs.Tryz
set_option maxRecDepth 99999
set_option maxHeartbeats 0
section
variable{dZ x:WG}
section
variable{w:WA}{base S kb:Nat}{M O:List Nat}{st:iY}{A:mQ}{N:Nat}
def xA(base S:Nat)(M O:List Nat)(st:iY)(N:Nat)(dZ:WG)(w:WA)(e:Ending)(w':WA):Prop:=
 ∃pO out M' O' A',eQ st dZ pO out/\out.size<=500/\pO.Small/\e=rT (sT out)/\aR (M++O) (M'++O') w w'/\fV w' base S M' O' pO A' (N+1)
theorem xA.same(h:fV w base S M O st A N)(hsm:st.Small){out:WG}(hl:eQ st dZ st out)(hs:out.size<=500){w':WA}(hb:bW w w'):xA base S M O st N dZ w (rT (sT out)) w':=
 ⟨st,out,M,O,A,hl,hs,hsm,rfl,aR.of_below hb,(h.below hb).later (kU N)⟩
theorem eQ.empty(hw:fH dZ=[]):eQ st dZ st ⟨#[111,107]⟩:=by unfold eQ;simp[hw]
theorem eQ.unknown{ws:List WG}(hw:fH dZ=x::ws)(hk:yP x=none):eQ st dZ st (dJ 3):=by unfold eQ;simp[hw,hk]
theorem eQ.form{ws:List WG}{k:Kd}(hw:fH dZ=x::ws)(hk:yP x=some k)(hr:rG k.m k.more k.text ws=none):eQ st dZ st (dJ 3):=by unfold eQ;simp[hw,hk,hr]
theorem eQ.state{ws:List WG}{k:Kd}{y:List Int×WG}(hw:fH dZ=x::ws)(hk:yP x=some k)(hr:rG k.m k.more k.text ws=some y)(ha:lH st k=false):eQ st dZ st (dJ 6):=by unfold eQ;simp[hw,hk,hr,ha]
theorem eQ.aSg{ws:List WG}{k:Kd}{y:List Int×WG}{pO:iY}{r:K0}(hw:fH dZ=x::ws)(hk:yP x=some k)(hr:rG k.m k.more k.text ws=some y)(ha:lH st k=true)(hd:rQ k st y.1 y.2 pO r):eQ st dZ pO r.out:=by unfold eQ;simp only[hw,hk,hr,ha];exact⟨r,hd,rfl⟩
theorem aW8:(dJ 3).size<=500:=by have:=wM (k:=3) ⟨od,od⟩;omega
theorem bDg:(dJ 6).size<=500:=by have:=wM (k:=6) ⟨od,od⟩;omega
theorem aDj(h:fV w base S M O st A N)(hsm:st.Small)(dZ:WG)(hl:dZ.size<=20000)(hw:fH dZ=[])(mv:WB):
  Calls prog 16 #[pP S,mv,sT dZ] w (xA base S M O st N dZ w):=zKg
theorem X9(h:fV w base S M O st A N)(hK:iC w kb S)(hD:cU base w)(hsm:st.Small)(dZ:WG)(hl:dZ.size<=20000){ws:List WG}(hw:fH dZ=x::ws)(hk:yP x=none):
  Calls prog 16 #[pP S,.map (some kb),sT dZ] w (xA base S M O st N dZ w):=zGr
theorem aB0{X:List Nat}(h:fV w base S M O st A N)(hX:∀c,c∈X->w.1.size<c):w.1.size∉(X++M)++O:=λq=>by exact zJ5
theorem aMe{X M' O':List Nat}{pO:iY}{A':mQ}{W u u':WA}{N':Nat}(h:fV w base S M O st A N)(hB:bW w W)(hl:w.1.size<W.1.size)(hX:∀c,c∈X->w.1.size<c)(hf:aR ((X++M)++O) (M'++O') W u)(hs:fV u base S M' O' pO A' N')(hb:bW u u')(v:WB):
  aR (M++O) (M'++O') w (u'.setCell (aA w.1.size 0) v)/\fV (u'.setCell (aA w.1.size 0) v) base S M' O' pO A' N':=by
 have eH:∀c,c∈M'++O'->c≠w.1.size:=λc q e=>by
  subst e;rcases hf.fresh _ q with z|z
  .exact aB0 h hX z
  .omega
 have hfr:∀c,c∈M'++O'->c∈M++O\/w.1.size<=c:=λc q=>by
  rcases hf.fresh c q with z|z
  .rcases kN z with z|z
   .rcases kN z with z|z
    .exact .inr (kX (hX c z))
    .exact .inl (kL (.inl z))
   .exact .inl (kL (.inr z))
  .exact .inr (kH hB.size z)
 have uE:∀c,c≠w.1.size->(u'.setCell (aA w.1.size 0) v).1[c]?=u'.1[c]?:=λc hc=>cH hc v;refine⟨⟨hb.os.trans (hf.os.trans hB.os),hb.tape.trans (hf.tape.trans hB.tape),hb.output.trans (hf.output.trans hB.output),?_,λc hc hn=>?_,hfr⟩,?_⟩
 .have h1:=hB.size;have h2:=hf.size;have h3:=hb.size;simp;omega
 .have h1:=hB.size;have h2:=hf.size;rw[uE c od,hb.block c od,hf.block c od ?_,hB.block c hc];intro q;have bC5:=0;exact zJ5
 .exact(hs.below hb).keep ⟨oe,λc q=>uE c (eH c (kL (.inl q)))⟩ ⟨oe,λc q=>uE c (eH c (kL (.inr q)))⟩
end
end
section
section
variable{w:WA}{base S kb:Nat}{M O:List Nat}{st:iY}{A:mQ}{N:Nat}
theorem vP{P:WJ}{fn:Func}{t t':Array WB}{R:Ending->WA->Prop}(h:results fn t=results fn t'):∀(ds:List Deferred)(u:FrameMode)(w:WA),Leaves P fn t R ds u w->Leaves P fn t' R ds u w
 |[],.returning,w,q=>by
  obtain⟨v,h1,h2⟩:=q
  exact⟨v,by rw[<-h];exact h1,h2⟩
 |[],.panicking _,_,q=>q
 |[],.run,_,q=>q
 |d::ds,u,w,⟨q0,fv,cap,f,args,q1,q2,q3⟩=>⟨q0,fv,cap,f,args,q1,q2,q3.mono λe u' w' q=>by
  cases e with
  |returned v=>exact vP h ds _ _ q
  |panicked c=>exact vP h ds _ _ q
  |outgrown=>exact q⟩
theorem aI0(t:Array WB)(i:Nat)(v:WB)(hi:6<i):results Tryz.f16 (t.setIfInBounds i v)=results Tryz.f16 t:=by unfold results;simp[results16];rw[AN od]
theorem H8{R:Ending->WA->Prop}{c:List PanicEntry}{a:Act}{v:WB}{w:WA}{i:Nat}(hi:6<i)(h:bodyPostD prog Tryz.f16 R (.panic c) (a.put (some i) v) w):bodyPostD prog Tryz.f16 R (.panic c) a w:=vP (aI0 a.tmps i v hi) _ _ _ h
theorem iF{u:WA}{b:Nat}{a0 a1 a2 a3 a4:WB}{t:WI}(h:u.1[b]?=some (.cells #[a0,a1,a2,a3,a4] t (0,0))):u.cell? (aA b 0)=some a0/\u.cell? (aA b 1)=some a1/\u.cell? (aA b 2)=some a2/\u.cell? (aA b 3)=some a3/\u.cell? (aA b 4)=some a4:=
 ⟨aN h rfl,aN h rfl,aN h rfl,aN h rfl,aN h rfl⟩
theorem Kd.bLw(k:Kd):k.m<=6:=by cases k using Kd.each<;>decide
theorem Kd.aZ5(k:Kd):k.text=true->0<k.m/\k.more=false:=by cases k using Kd.each<;>decide
theorem aDk(h:fV w base S M O st A N)(hK:iC w kb S)(hD:cU base w)(hsm:st.Small)(hN:N<=3000)(dZ:WG)(hl:dZ.size<=20000){x:WG}{ws:List WG}(hw:fH dZ=x::ws){k:Kd}(hk:yP x=some k):
  Calls prog 16 #[pP S,.map (some kb),sT dZ] w (xA base S M O st N dZ w):=have m24:=0;zGr
end
end
section
variable{base bb:Nat}{bs:List UInt8}{v:WB}{w:WA}
structure yF(w:WA)(base bb:Nat)(v:WB)(bs:List UInt8):Prop where
 blk:∃p,(p=.pointer none\/p=pP bb)/\w.1[bb]?=some (.cells #[p,v] 54 (0,0))
 own:w.ownsRow base 5 1 v bs.length (Lib.byteCells bs)
def yF.vG(bb:Nat)(v:WB):List Nat:=bb::v.ownBlock.toList
theorem yF.ne(h:yF w base bb v bs){g:Nat}(hg:v.ownBlock=some g):g≠bb:=by obtain⟨p,_,hb⟩:=h.blk;exact jE h.own hb og hg
theorem yF.keep{w':WA}(h:yF w base bb v bs)(hs:∀c,c∈yF.vG bb v->w'.1[c]?=w.1[c]?):yF w' base bb v bs:=by obtain⟨p,hp,hb⟩:=h.blk;exact⟨⟨p,hp,(hs bb kT).trans hb⟩,gF h.own λg hg=>hs g (by unfold yF.vG;rw[hg];simp)⟩
theorem yF.lt(h:yF w base bb v bs):∀c,c∈yF.vG bb v->c<w.1.size:=λc hc=>by
 obtain⟨p,hp,hb⟩:=h.blk;rcases kQ hc with q|q
 .rw[q];exact bQ hb
 .cases e:v.ownBlock with
  |none=>rw[e]at q;cases q
  |some g=>
   rw[e]at q
   have:c=g:=by simpa using q
   rw[this]
   exact(h.own.lt g e).2
theorem Tryz.infoByte9:(Tryz.prog.info? 5).map (λi=>(i.zero,i.size,i.bytes))=some (some (.int .u8 0),1,1):=oh
theorem aBe(h:yF w base bb v bs):Calls prog 60 #[pP bb] w λe w'=>e=rT (tU #[])/\w'.1[bb]?=some (.cells #[pP bb,v] 54 (0,0))/\(w'=w\/w'=w.setCell (aA bb 0) (pP bb)):=by
 obtain⟨p,hp,hb⟩:=h.blk;rcases hp with rfl|rfl
 .refine(Any.Builder_copyCheck_fresh (P:=prog) (ρ:=Tryz.lays156_ren) { Tryz.lays156 with } Tryz.Builder_Extra_156.toX72 bb w (aN hb rfl) (by simp[World.shape?,hb];rfl) (bE hb)).mono λe w' q=>?_;exact⟨q.1,by rw[q.2];exact bU hb _,.inr q.2⟩
 .refine(Any.Builder_copyCheck_used (P:=prog) (ρ:=Tryz.lays156_ren) { Tryz.lays156 with } Tryz.Builder_Extra_156.toX72 bb w (aN hb rfl)).mono λe w' q=>?_;exact⟨q.1,by rw[q.2];exact hb,.inl q.2⟩
theorem uM{w:World}{base bb:Nat}{v:Value}{bs:List UInt8}(h:yF w base bb v bs)(d8:base<=w.heap.size)(s:ByteArray)(hlen:bs.length+s.size<=140737488355328):
  Calls prog 15 #[.pointer (some ⟨bb,0,none⟩),.string s] w fun e w'=>∃v',e=.returned (.tuple #[.int .i64 s.size,.nilIface])/\yF w' base bb v' (bs++s.data.toList)/\aR (yF.vG bb v) (yF.vG bb v') w w':=by
 have hC:=aBe h
 have HN:Hid (∀g,v.ownBlock=some g->g≠bb):=fun g hg=>h.ne hg
 have HO:Hid (w.ownsRow base 5 1 v bs.length (Lib.byteCells bs)):=h.own
 obtain⟨i0,hi,qV,qO,qP⟩:=info_parts Tryz.infoByte9
 clear h
 go_enter func15,ntmps15
 go_wp2_with fail
 refine hC.mono ?_
 rintro e w1 ⟨rfl,hbk,iM⟩
 have hsz:w1.heap.size=w.heap.size:=by rcases iM with rfl|rfl<;>simp
 have uR:∀c,c≠bb->w1.heap[c]?=w.heap[c]?:=fun c hc=>by
  rcases iM with rfl|rfl
  ·rfl
  ·exact cH hc _
 have bIn:Hid (∀c,c≠bb->w1.heap[c]?=w.heap[c]?):=uR
 have HW:Hid (w1.os=w.os/\w1.tape=w.tape/\w1.output=w.output):=by rcases iM with rfl|rfl<;>exact⟨rfl,rfl,rfl⟩
 have cP:w1.ownsRow base 5 1 v bs.length (Lib.byteCells bs):=gF HO.out fun g hg=>uR g (HN.out g hg)
 have c0:w1.cell? ⟨bb,0,none⟩=some (.pointer (some ⟨bb,0,none⟩)):=aN hbk rfl
 have c1:w1.cell? ⟨bb,1,none⟩=some v:=aN hbk rfl
 have hlt:=bQ hbk
 clear iM uR hC
 go_wp2_with(at_builtin;refine tG (P:=prog) rfl _ _ 52 9 rfl base 5 i0 underlying52 underlying9 hi qV qO qP v bs.length (Lib.byteCells bs) rfl cP s rfl (by unfold maxLen;omega) hlen (by omega) ?_;intro ao cap w2 L9 bT oX;have iT:w2.heap[bb]?=some (.cells #[.pointer (some ⟨bb,0,none⟩),v] 54 (0,0)):=(bT.block bb hlt (fun e=>HN.out bb e.symm rfl)).trans hbk;have d1:w2.cell? ⟨bb,1,none⟩=some v:=aN iT rfl;have f1:=bE iT (i:=1);have HG:Hid (w1.grownBy w2 v.ownBlock):=bT;have HA:Hid (∀g,(Value.slice ao (bs.length+s.size) cap).ownBlock=some g->v.ownBlock=some g\/w1.heap.size<=g):=oX;have HO2:Hid (w2.ownsRow base 5 1 (.slice ao (bs.length+s.size) cap) (bs.length+s.size) (Lib.byteCells bs++Lib.strCells s)):=L9;clear bT oX L9)
 have bF9:=bQ iT
 have hz:(w2.setCell ⟨bb,1,none⟩ (.slice ao (bs.length+s.size) cap)).heap.size=w2.heap.size:=by simp
 have hl:(bs++s.data.toList).length=bs.length+s.size:=by rw[List.length_append];rfl
 have fO:Lib.byteCells bs++Lib.strCells s=Lib.byteCells (bs++s.data.toList):=by unfold Lib.byteCells Lib.strCells;rw[List.map_append]
 have bBk:∀g,(Value.slice ao (bs.length+s.size) cap).ownBlock=some g->g≠bb:=fun g hg e=>by
  rcases HA.out g hg with q|q
  ·exact HN.out g q e
  ·omega
 refine bodyPost_ret (v:=.tuple #[.int .i64 s.size,.nilIface]) (by simp[results,results15,go_sem]) rfl ?_
 refine⟨_,rfl,⟨⟨_,.inr rfl,bU iT _⟩,?_⟩,?_⟩
 ·rw[hl,<-fO]
  exact gF HO2.out fun g hg=>cH (bBk g hg) _
 ·obtain⟨o1,o2,o3⟩:=HW.out
  refine⟨HG.out.os.trans o1,HG.out.tape.trans o2,HG.out.output.trans o3,?_,fun c hc hn=>?_,fun c hc=>?_⟩
  ·have:=HG.out.size
   omega
  ·have hcb:c≠bb:=fun e=>hn (by rw[e];exact kT)
   rw[cH hcb,HG.out.block c (by omega) ?_,bIn.out c hcb]
   intro e
   exact hn (by unfold yF.vG;rw[<-e];simp)
  ·rcases kQ hc with q|q
   ·exact .inl (by rw[q];exact kT)
   ·cases e:(Value.slice ao (bs.length+s.size) cap).ownBlock with
    |none=>rw[e]at q;cases q
    |some g=>
     rw[e]at q
     have:c=g:=by simpa using q
     subst this
     rcases HA.out c e with z|z
     ·exact .inl (by unfold yF.vG;rw[z];simp)
     ·exact .inr (by omega)
theorem aLv(h:yF w base bb v bs)(hbb:base<=bb)(d8:base<=w.1.size):Calls prog 17 #[pP bb] w λe w'=>e=rT (sT ⟨bs.toArray⟩)/\Below base w w'/\∀(k:Nat)(ds:Option (List Deferred)),w.1[k]?=some (Obj.deferred ds)->w'.1[k]?=some (Obj.deferred ds):=by
 obtain⟨p,hp,hb⟩:=h.blk;have hn:v.ownBlock≠some bb:=λe=>h.ne e rfl;have ho:w.ownsRow base 5 1 v (Lib.byteCells bs).length (Lib.byteCells bs):=by rw[Lib.byteCells_length];exact h.own
 refine(Tryz.Builder_String_any_k base bb bs w (Lib.IsBuilderF.of ?_) d8).mono λe w' q=>⟨q.1,q.2.2.1,λk ds hk=>q.2.2.2 k (Obj.deferred ds) hk ?_ (λ_ _ z=>by cases z)⟩
 .rcases hp with rfl|rfl
  .exact .inl ⟨hbb,v,hb,ho,hn⟩
  .exact .inr ⟨hbb,v,hb,ho,hn⟩
 .intro z;injection z with z;rw[z,hb]at hk;cases hk
end
section
theorem aJa{w:WA}{base S kb:Nat}{M O:List Nat}{st:iY}{A:mQ}{N:Nat}(h:fV w base S M O st A N)(hK:iC w kb S)(hD:cU base w)(hsm:st.Small)(hN:N<=3000)(dZ:WG)(hl:dZ.size<=20000):
  Calls prog 16 #[pP S,.map (some kb),sT dZ] w (xA base S M O st N dZ w):=by
 cases hw:fH dZ with
 |nil=>exact aDj h hsm dZ hl hw _
 |cons x ws=>
  cases hk:yP x with
  |none=>exact X9 h hK hD hsm dZ hl hw hk
  |some k=>exact aDk h hK hD hsm hN dZ hl hw hk
structure SI(w:WA)(base S sb xb kb bb D:Nat)(st:iY)(M O:List Nat)(A:mQ)(N:Nat)(v:WB)(bs:List UInt8)(W:WA):Prop where
 ses:fV W base S M O st A N
 bld:yF W base bb v bs
 kin:iC W kb S
 cs:W.cell? (aA sb 0)=some (pP S)
 cx:W.cell? (aA xb 0)=some (.map (some kb))
 bel:Below base w W
 b0:base<=w.1.size
 b1:base<=bb
 l1:sb<D
 l2:xb<D
 l3:kb<D
 l4:D<=W.1.size
 lo:base<=D
 d1:∀c,c∈sb::xb::kb::D::(D+1)::yF.vG bb v->c∉M++O
 d2:∀c,c∈[sb,xb,kb,D,D+1]->c∉yF.vG bb v
section
variable{w W W':WA}{base S sb xb kb bb D:Nat}{st pO:iY}{M O M' O':List Nat}{A A':mQ}{N N':Nat}{v v':WB}{bs bs':List UInt8}
theorem SI.below(h:SI w base S sb xb kb bb D st M O A N v bs W)(hb:bW W W'):SI w base S sb xb kb bb D st M O A N v bs W':=
 { h with
  ses:=h.ses.below hb
  bld:=h.bld.keep λc hc=>hb.block c (h.bld.lt c hc)
  kin:=h.kin.keep (hb.block _ h.kin.lt)
  cs:=bc hb (kC h.l1 h.l4) h.cs
  cx:=bc hb (kC h.l2 h.l4) h.cx
  bel:=h.bel.trans (hb.mono (kH h.lo h.l4))
  l4:=kH h.l4 hb.size }
theorem SI.put(h:SI w base S sb xb kb bb D st M O A N v bs W)(o:Obj):SI w base S sb xb kb bb D st M O A N v bs (W.putObj (D+1) o):=by
 have hs:(W.putObj (D+1) o).1.size=W.1.size:=by simp[World.putObj]
 have ho:∀c,c≠D+1->(W.putObj (D+1) o).1[c]?=W.1[c]?:=λc hc=>tB hc;have hm:∀c,c∈M++O->c≠D+1:=λc hc e=>h.d1 (D+1) oe (e▸hc);have hf:∀c,c∈yF.vG bb v->c≠D+1:=λc hc e=>h.d2 (D+1) oe (e▸hc);have h1:=h.l1;have h2:=h.l2;have h3:=h.l3;exact { h with
  ses:=h.ses.keep ⟨Nat.le_of_eq hs.symm,λc hc=>ho c (hm c (kL (.inl hc)))⟩ ⟨Nat.le_of_eq hs.symm,λc hc=>ho c (hm c (kL (.inr hc)))⟩
  bld:=h.bld.keep λc hc=>ho c (hf c hc)
  kin:=h.kin.keep (ho kb od)
  cs:=(jC (w:=W) (a:=(aA sb 0)) (ho sb od)).trans h.cs
  cx:=(jC (w:=W) (a:=(aA xb 0)) (ho xb od)).trans h.cx
  bel:=⟨h.bel.os,h.bel.tape,h.bel.output,by rw[hs];exact h.bel.size,λc hc=>(ho c (by have:=h.lo;omega)).trans (h.bel.block c hc)⟩
  l4:=by rw[hs];exact h.l4 }
theorem SI.ans(h:SI w base S sb xb kb bb D st M O A N v bs W)(hD:D+1<W.1.size)(hf:aR (M++O) (M'++O') W W')(hs:fV W' base S M' O' pO A' N'):SI w base S sb xb kb bb D pO M' O' A' N' v bs W'/\W'.1[D]?=W.1[D]?/\W'.1[D+1]?=W.1[D+1]?:=by
 have h1:=h.l1;have h2:=h.l2;have h3:=h.l3;have hk:∀c,c∈sb::xb::kb::D::(D+1)::yF.vG bb v->W'.1[c]?=W.1[c]?:=λc hc=>hf.block c (by
  simp only[List.mem_cons]at hc
  rcases hc with q|q|q|q|q|q
  .omega
  .omega
  .omega
  .omega
  .omega
  .exact h.bld.lt c q) (h.d1 c hc)
 refine⟨?_,hk D oe,hk (D+1) oe⟩;exact { h with
  ses:=hs
  bld:=h.bld.keep λc hc=>hk c jq
  kin:=h.kin.keep (hk kb oe)
  cs:=(jC (w:=W) (a:=(aA sb 0)) (hk sb oe)).trans h.cs
  cx:=(jC (w:=W) (a:=(aA xb 0)) (hk xb oe)).trans h.cx
  bel:=h.bel.trans (hf.below (λc hc=>(kN hc).elim (h.ses.r.lo c) (h.ses.r.loO c)) (kH h.lo h.l4))
  l4:=kH h.l4 hf.size
  d1:=λc hc q=>by
   rcases hf.fresh c q with z|z
   .exact h.d1 c hc z
   .simp only[List.mem_cons]at hc
    rcases hc with q|q|q|q|q|q
    .omega
    .omega
    .omega
    .omega
    .omega
    .have:=h.bld.lt c q;omega }
theorem SI.wrote(h:SI w base S sb xb kb bb D st M O A N v bs W)(hD:D+1<W.1.size)(hf:aR (yF.vG bb v) (yF.vG bb v') W W')(hb:yF W' base bb v' bs'):SI w base S sb xb kb bb D st M O A N v' bs' W'/\W'.1[D]?=W.1[D]?/\W'.1[D+1]?=W.1[D+1]?:=by
 have h1:=h.l1;have h2:=h.l2;have h3:=h.l3;have hsp:∀c,c∈[sb,xb,kb,D,D+1]->c<W.1.size:=λc hc=>by simp only[List.mem_cons,List.not_mem_nil,or_false]at hc;omega
 have hk:∀c,c∈[sb,xb,kb,D,D+1]->W'.1[c]?=W.1[c]?:=λc hc=>hf.block c (hsp c hc) (h.d2 c hc);have hlo:∀c,c∈yF.vG bb v->base<=c:=λc hc=>by
  rcases kQ hc with q|q
  .rw[q];exact h.b1
  .cases e:v.ownBlock with
   |none=>rw[e]at q;cases q
   |some g=>
    rw[e]at q
    have:c=g:=by simpa using q
    rw[this]
    exact(h.bld.own.lt g e).1
 have hfo:∀c,c∈yF.vG bb v->c∉M++O:=λc hc=>h.d1 c jq;have hlt:∀c,c∈M++O->c<W.1.size:=λc hc=>(kN hc).elim (h.ses.r.hi c) (h.ses.r.hiO c);refine⟨?_,hk D oe,hk (D+1) oe⟩;exact { h with
  ses:=h.ses.keep ⟨hf.size,λc hc=>hf.block c (h.ses.r.hi c hc) (λq=>hfo c q (kL (.inl hc)))⟩ ⟨hf.size,λc hc=>hf.block c (h.ses.r.hiO c hc) (λq=>hfo c q (kL (.inr hc)))⟩
  bld:=hb
  kin:=h.kin.keep (hk kb oe)
  cs:=(jC (w:=W) (a:=(aA sb 0)) (hk sb oe)).trans h.cs
  cx:=(jC (w:=W) (a:=(aA xb 0)) (hk xb oe)).trans h.cx
  bel:=h.bel.trans (hf.below hlo (kH h.lo h.l4))
  l4:=kH h.l4 hf.size
  d1:=λc hc q=>by
   simp only[List.mem_cons]at hc
   rcases hc with z|z|z|z|z|z
   .exact h.d1 c (by simp[z]) q
   .exact h.d1 c (by simp[z]) q
   .exact h.d1 c (by simp[z]) q
   .exact h.d1 c (by simp[z]) q
   .exact h.d1 c (by simp[z]) q
   .rcases hf.fresh c z with y|y
    .exact hfo c y q
    .have:=hlt c q;omega
  d2:=λc hc q=>by
   rcases hf.fresh c q with y|y
   .exact h.d2 c hc y
   .have:=hsp c hc;omega }
end
def bDs(w:WA)(base S sb xb kb bb D:Nat)(pre:List WG)(W:WA):Prop:=
 ∃os st M O A v,jI iY.start pre os st/\os.length=pre.length/\(∀o∈os,o.size<=500)/\st.Small/\SI w base S sb xb kb bb D st M O A pre.length v (nV os) W
end
