import Derived.Test.YtknimkfdnanejaaGreatDoorZT28
import Derived.Test.YtknimkfdnanejaaGreatDoorZAppAt
import Derived.Laws.EntriesVeiled
namespace Go.Proofs.YtknimkfdnanejaaGreatDoor
open Go.RowKit Go.Proofs.Tryz
set_option maxRecDepth 100000
set_option maxHeartbeats 16000000
section
section
variable{w:World}{O Z:List Nat}{C:Nat}{p:aQ}{fa:Int}{cs:List Int}{s:cA}{rd:Int}{B:Nat}{m:iD}
def aDe(w w':World)(O Z:List Nat)(C:Nat)(p:aQ)(fa:Int)(cs:List Int)(s:cA)(rd:Int)(B:Nat)(m:iD)(r:cT)(e:Ending):Prop:=
 ∃O',aS O O' w w'/\((nY p fa cs r=true/\e=rT (iI 6)/\jJ w' O' Z C p fa cs s rd B m)\/(nY p fa cs r=false/\e=rT (iI 0)/\∃m',jJ w' O' Z C p fa (nZ p fa cs r) (aCe p fa s rd r) (rd+1) (B+2600) m'))
theorem aRl(h:jJ w O Z C p fa cs s rd B m)(lF:vX p fa cs)(sH:0<=rd)(uT:rd<=1000000)(wS:1<=B)(hB:B<=9000000)(mQ:pT w)(r:cT)(a:nJ)(hr:r.In a w)(hla:∀b off,a.la=some (aA b off)->b∉O/\b<w.heap.size)(hma:∀b off,a.ma=some (aA b off)->0<r.bH.length->b∉O):
  Calls prog 56 #[pP C,sV a.la r.nL a.lc,sV a.ra r.nR a.rc,sV a.da r.bA.length a.dc,sV a.ma r.bH.length a.mc] w fun e w'=>aDe w w' O Z C p fa cs s rd B m r e:=have bKy:=0;zNk
end
end
def tX(w:World)(b:Nat):Prop:=∃f,qT prog 9 w b f/\∀x,f (sT x)=(nF x).map fun k=>iI k.many
theorem tX.keep{w w':World}{b:Nat}(h:tX w b)(e:w'.heap[b]?=w.heap[b]?):tX w' b:=zFp
theorem tX.lt{w:World}{b:Nat}(h:tX w b):b<w.heap.size:=by obtain⟨f,h,_⟩:=h;exact h.lt
theorem tX.look{w:World}{b:Nat}(h:tX w b)(x:ByteArray)(hx:x.size<=20000):
  (Instr.lookup 45 (.map (some b)) (sT x) true).run prog w=.ok (tU #[iI (((nF x).map Kd.many).getD 0),.bool (nF x).isSome]) w:=by
 obtain⟨f,h,r⟩:=h;have:=h.look (e:=3) (t:=45) Tryz.dK underlying45 (z:=iI 0) (zeroValue3 w) (x:=sT x) (Go.WideMaps.keyOf_string_mk underlying9 oo) true;rw[r x]at this
 cases e:nF x with
 |none=>rw[e]at this;simpa using this
 |some k=>rw[e]at this;simpa using this
theorem aL9(w:World):∃V1 V2 V3 V4 V5 V6 V7 V8 V9 V10 V11 iT iU V14 V15 V16 V17 V18 V19 U6,((Instr.mapUpdate 45 (.map (some w.heap.size)) (sT ⟨#[98,121,116,101,115]⟩) (iI 0)).run prog (w.alloc (.map #[] 0))=.ok () V1/\(Instr.mapUpdate 45 (.map (some w.heap.size)) (sT ⟨#[99,108,101,97,114]⟩) (iI 0)).run prog V1=.ok () V2/\(Instr.mapUpdate 45 (.map (some w.heap.size)) (sT ⟨#[99,108,111,99,107,115]⟩) (iI 0)).run prog V2=.ok () V3/\(Instr.mapUpdate 45 (.map (some w.heap.size)) (sT ⟨#[100,114,105,102,116]⟩) (iI (-1))).run prog V3=.ok () V4/\(Instr.mapUpdate 45 (.map (some w.heap.size)) (sT ⟨#[104,101,108,112]⟩) (iI 0)).run prog V4=.ok () V5/\(Instr.mapUpdate 45 (.map (some w.heap.size)) (sT ⟨#[108,105,110,107]⟩) (iI 4)).run prog V5=.ok () V6/\(Instr.mapUpdate 45 (.map (some w.heap.size)) (sT ⟨#[108,111,99,97,108]⟩) (iI 5)).run prog V6=.ok () V7/\(Instr.mapUpdate 45 (.map (some w.heap.size)) (sT ⟨#[108,111,115,101]⟩) (iI 3)).run prog V7=.ok () V8/\(Instr.mapUpdate 45 (.map (some w.heap.size)) (sT ⟨#[109,101,109,98,101,114,115]⟩) (iI 1)).run prog V8=.ok () V9/\(Instr.mapUpdate 45 (.map (some w.heap.size)) (sT ⟨#[109,105,100,112,111,105,110,116]⟩) (iI (-1))).run prog V9=.ok () V10/\(Instr.mapUpdate 45 (.map (some w.heap.size)) (sT ⟨#[109,111,100,101]⟩) (iI (-1))).run prog V10=.ok () V11/\(Instr.mapUpdate 45 (.map (some w.heap.size)) (sT ⟨#[112,108,97,110]⟩) (iI 6)).run prog V11=.ok () iT/\(Instr.mapUpdate 45 (.map (some w.heap.size)) (sT ⟨#[112,117,116]⟩) (iI 2)).run prog iT=.ok () iU/\(Instr.mapUpdate 45 (.map (some w.heap.size)) (sT ⟨#[114,101,97,100]⟩) (iI 3)).run prog iU=.ok () V14/\(Instr.mapUpdate 45 (.map (some w.heap.size)) (sT ⟨#[114,101,97,108]⟩) (iI 5)).run prog V14=.ok () V15/\(Instr.mapUpdate 45 (.map (some w.heap.size)) (sT ⟨#[114,101,99,101,105,118,101]⟩) (iI 2)).run prog V15=.ok () V16/\(Instr.mapUpdate 45 (.map (some w.heap.size)) (sT ⟨#[114,111,117,110,100]⟩) (iI 0)).run prog V16=.ok () V17/\(Instr.mapUpdate 45 (.map (some w.heap.size)) (sT ⟨#[115,108,111,116]⟩) (iI 3)).run prog V17=.ok () V18/\(Instr.mapUpdate 45 (.map (some w.heap.size)) (sT ⟨#[115,112,114,101,97,100]⟩) (iI 0)).run prog V18=.ok () V19/\(Instr.mapUpdate 45 (.map (some w.heap.size)) (sT ⟨#[115,116,97,114,116]⟩) (iI (-1))).run prog V19=.ok () U6)/\tX U6 w.heap.size/\bW w U6:=by
 have m0:=qT.new prog 9 w;have hB:bW w (w.alloc (.map #[] 0)):=(kX _ w).alloc (kF _) _;obtain⟨V1,f1,e1,m1,p1,t1⟩:=m0.put (t:=45) (e:=3) (x:=sT ⟨#[98,121,116,101,115]⟩) (v:=iI 0) Tryz.dK underlying45 (Go.WideMaps.keyOf_string_mk underlying9 oe);obtain⟨V2,f2,e2,m2,p2,t2⟩:=m1.put (t:=45) (e:=3) (x:=sT ⟨#[99,108,101,97,114]⟩) (v:=iI 0) Tryz.dK underlying45 (Go.WideMaps.keyOf_string_mk underlying9 oe);obtain⟨V3,f3,e3,m3,p3,t3⟩:=m2.put (t:=45) (e:=3) (x:=sT ⟨#[99,108,111,99,107,115]⟩) (v:=iI 0) Tryz.dK underlying45 (Go.WideMaps.keyOf_string_mk underlying9 oe);obtain⟨V4,f4,e4,m4,p4,t4⟩:=m3.put (t:=45) (e:=3) (x:=sT ⟨#[100,114,105,102,116]⟩) (v:=iI (-1)) Tryz.dK underlying45 (Go.WideMaps.keyOf_string_mk underlying9 oe);obtain⟨V5,f5,e5,m5,p5,t5⟩:=m4.put (t:=45) (e:=3) (x:=sT ⟨#[104,101,108,112]⟩) (v:=iI 0) Tryz.dK underlying45 (Go.WideMaps.keyOf_string_mk underlying9 oe);obtain⟨V6,f6,e6,m6,p6,t6⟩:=m5.put (t:=45) (e:=3) (x:=sT ⟨#[108,105,110,107]⟩) (v:=iI 4) Tryz.dK underlying45 (Go.WideMaps.keyOf_string_mk underlying9 oe);obtain⟨V7,f7,e7,m7,p7,t7⟩:=m6.put (t:=45) (e:=3) (x:=sT ⟨#[108,111,99,97,108]⟩) (v:=iI 5) Tryz.dK underlying45 (Go.WideMaps.keyOf_string_mk underlying9 oe);obtain⟨V8,f8,e8,m8,p8,t8⟩:=m7.put (t:=45) (e:=3) (x:=sT ⟨#[108,111,115,101]⟩) (v:=iI 3) Tryz.dK underlying45 (Go.WideMaps.keyOf_string_mk underlying9 oe);obtain⟨V9,f9,e9,m9,p9,t9⟩:=m8.put (t:=45) (e:=3) (x:=sT ⟨#[109,101,109,98,101,114,115]⟩) (v:=iI 1) Tryz.dK underlying45 (Go.WideMaps.keyOf_string_mk underlying9 oe);obtain⟨V10,f10,e10,m10,p10,P5⟩:=m9.put (t:=45) (e:=3) (x:=sT ⟨#[109,105,100,112,111,105,110,116]⟩) (v:=iI (-1)) Tryz.dK underlying45 (Go.WideMaps.keyOf_string_mk underlying9 oe);obtain⟨V11,f11,e11,m11,p11,t11⟩:=m10.put (t:=45) (e:=3) (x:=sT ⟨#[109,111,100,101]⟩) (v:=iI (-1)) Tryz.dK underlying45 (Go.WideMaps.keyOf_string_mk underlying9 oe);obtain⟨iT,f12,e12,m12,p12,t12⟩:=m11.put (t:=45) (e:=3) (x:=sT ⟨#[112,108,97,110]⟩) (v:=iI 6) Tryz.dK underlying45 (Go.WideMaps.keyOf_string_mk underlying9 oe);obtain⟨iU,f13,e13,S4,p13,t13⟩:=m12.put (t:=45) (e:=3) (x:=sT ⟨#[112,117,116]⟩) (v:=iI 2) Tryz.dK underlying45 (Go.WideMaps.keyOf_string_mk underlying9 oe);obtain⟨V14,f14,e14,F7,p14,Y8⟩:=S4.put (t:=45) (e:=3) (x:=sT ⟨#[114,101,97,100]⟩) (v:=iI 3) Tryz.dK underlying45 (Go.WideMaps.keyOf_string_mk underlying9 oe);obtain⟨V15,f15,e15,m15,p15,t15⟩:=F7.put (t:=45) (e:=3) (x:=sT ⟨#[114,101,97,108]⟩) (v:=iI 5) Tryz.dK underlying45 (Go.WideMaps.keyOf_string_mk underlying9 oe);obtain⟨V16,f16,e16,m16,p16,t16⟩:=m15.put (t:=45) (e:=3) (x:=sT ⟨#[114,101,99,101,105,118,101]⟩) (v:=iI 2) Tryz.dK underlying45 (Go.WideMaps.keyOf_string_mk underlying9 oe);obtain⟨V17,f17,e17,m17,p17,t17⟩:=m16.put (t:=45) (e:=3) (x:=sT ⟨#[114,111,117,110,100]⟩) (v:=iI 0) Tryz.dK underlying45 (Go.WideMaps.keyOf_string_mk underlying9 oe);obtain⟨V18,f18,e18,m18,Y1,t18⟩:=m17.put (t:=45) (e:=3) (x:=sT ⟨#[115,108,111,116]⟩) (v:=iI 3) Tryz.dK underlying45 (Go.WideMaps.keyOf_string_mk underlying9 oe);obtain⟨V19,f19,e19,m19,X4,t19⟩:=m18.put (t:=45) (e:=3) (x:=sT ⟨#[115,112,114,101,97,100]⟩) (v:=iI 0) Tryz.dK underlying45 (Go.WideMaps.keyOf_string_mk underlying9 oe);obtain⟨U6,f20,e20,m20,S9,t20⟩:=m19.put (t:=45) (e:=3) (x:=sT ⟨#[115,116,97,114,116]⟩) (v:=iI (-1)) Tryz.dK underlying45 (Go.WideMaps.keyOf_string_mk underlying9 oe);refine⟨V1,V2,V3,V4,V5,V6,V7,V8,V9,V10,V11,iT,iU,V14,V15,V16,V17,V18,V19,U6,⟨e1,e2,e3,e4,e5,e6,e7,e8,e9,e10,e11,e12,e13,e14,e15,e16,e17,e18,e19,e20⟩,⟨f20,m20,fun x=>?_⟩,?_⟩
 ·cases q:nF x with
  |some k=>
   have e:=wH q
   subst e
   clear q
   cases k using Kd.each
   all_goals first|exact S9.1|refine(S9.2 _ (aL oe)).trans ?_
   all_goals first|exact X4.1|refine(X4.2 _ (aL oe)).trans ?_
   all_goals first|exact Y1.1|refine(Y1.2 _ (aL oe)).trans ?_
   all_goals first|exact p17.1|refine(p17.2 _ (aL oe)).trans ?_
   all_goals first|exact p16.1|refine(p16.2 _ (aL oe)).trans ?_
   all_goals first|exact p15.1|refine(p15.2 _ (aL oe)).trans ?_
   all_goals first|exact p14.1|refine(p14.2 _ (aL oe)).trans ?_
   all_goals first|exact p13.1|refine(p13.2 _ (aL oe)).trans ?_
   all_goals first|exact p12.1|refine(p12.2 _ (aL oe)).trans ?_
   all_goals first|exact p11.1|refine(p11.2 _ (aL oe)).trans ?_
   all_goals first|exact p10.1|refine(p10.2 _ (aL oe)).trans ?_
   all_goals first|exact p9.1|refine(p9.2 _ (aL oe)).trans ?_
   all_goals first|exact p8.1|refine(p8.2 _ (aL oe)).trans ?_
   all_goals first|exact p7.1|refine(p7.2 _ (aL oe)).trans ?_
   all_goals first|exact p6.1|refine(p6.2 _ (aL oe)).trans ?_
   all_goals first|exact p5.1|refine(p5.2 _ (aL oe)).trans ?_
   all_goals first|exact p4.1|refine(p4.2 _ (aL oe)).trans ?_
   all_goals first|exact p3.1|refine(p3.2 _ (aL oe)).trans ?_
   all_goals first|exact p2.1|refine(p2.2 _ (aL oe)).trans ?_
   all_goals exact p1.1
  |none=>
   have hn:=aCn q
   have dM:∀k:Kd,Value.string x≠sT k.name:=fun k e=>hn k (by injection e with e;exact e.symm)
   exact(S9.2 _ (dM Kd.iV)).trans ((X4.2 _ (dM Kd.kY)).trans ((Y1.2 _ (dM Kd.oW)).trans ((p17.2 _ (dM Kd.oC)).trans ((p16.2 _ (dM Kd.iC)).trans ((p15.2 _ (dM Kd.real_)).trans ((p14.2 _ (dM Kd.pY)).trans ((p13.2 _ (dM Kd.oZ)).trans ((p12.2 _ (dM Kd.qX)).trans ((p11.2 _ (dM Kd.qL)).trans ((p10.2 _ (dM Kd.gP)).trans ((p9.2 _ (dM Kd.eD)).trans ((p8.2 _ (dM Kd.pV)).trans ((p7.2 _ (dM Kd.pM)).trans ((p6.2 _ (dM Kd.oU)).trans ((p5.2 _ (dM Kd.wB)).trans ((p4.2 _ (dM Kd.mF)).trans ((p3.2 _ (dM Kd.jV)).trans ((p2.2 _ (dM Kd.clear_)).trans (p1.2 _ (dM Kd.bytes_))))))))))))))))))))
 ·exact zBt
section
section
variable{w:World}{base S:Nat}{M O:List Nat}{st:gD}{A:gN}{N:Nat}
theorem Tryz.aKu:(Tryz.prog.info? 114).map (fun i=>(i.zero,i.size,i.bytes))=some (some (.agg #[iI 0,iI 0,iI 0]),3,24):=by kernel_rfl
theorem aUp(h:iG w base S M O st A N)(dI:st.clu≠none)(hN:N<=100000)(n:List Int)(hn:n.length=3)(hi:gW (n.getD 2 0))(a:Option Addr)(cap:Nat)(tx:ByteArray)(hr:mY w M a n)(va:Value):
  Calls prog 15 #[pP S,sT ⟨#[108,111,115,101]⟩,va,sV a n.length cap] w (gU base S M O st N .pV n tx w):=zIw
theorem Tryz.aKv:(Tryz.prog.info? 116).map (fun i=>(i.zero,i.size,i.bytes))=some (some (.agg #[iI 0,iI 0,iI 0]),3,24):=by kernel_rfl
theorem aUs(h:iG w base S M O st A N)(dI:st.clu≠none)(hN:N<=100000)(n:List Int)(hn:n.length=3)(a:Option Addr)(cap:Nat)(tx:ByteArray)(hr:mY w M a n)(va:Value):
  Calls prog 15 #[pP S,sT ⟨#[114,101,97,100]⟩,va,sV a n.length cap] w (gU base S M O st N .pY n tx w):=have m8:=0;zIw
end
end
section
section
variable{w:World}{base S:Nat}{M O:List Nat}{st:gD}{A:gN}{N:Nat}
theorem gU.drew{k:Kd}{n:List Int}{tx:ByteArray}{e:Ending}{u:World}(h:gU base S M O st N k n tx w e u):gU base S M O st N k n tx w e u.drew:=by obtain⟨qQ,r,M',O',A',h1,h2,h3,h4⟩:=h;have q:bW u u.drew:=(kX _ _).drew;exact⟨qQ,r,M',O',A',h1,h2,h3.trans (aS.of_below q),h4.below q⟩
theorem aPj(h:iG w base S M O st A N)(hc:st.clu=none)(n:List Int)(tx:ByteArray):gU base S M O st N .qX n tx w (rT (tU #[sT ⟨#[112,108,97,110]⟩,iI 0])) ((((((w.setCell (aA S 0) (iI (n.getD 0 0))).setCell (aA S 1) (iI (n.getD 1 0))).setCell (aA S 2) (iI (n.getD 2 0))).setCell (aA S 3) (iI (n.getD 3 0))).setCell (aA S 4) (iI (n.getD 4 0))).setCell (aA S 5) (iI (n.getD 5 0))):=by have hS:S∈M++O:=kK (.inl h.r.s);exact zOj
theorem aUr(h:iG w base S M O st A N)(hc0:st.clu=none)(n:List Int)(hn:n.length=6)(a:Option Addr)(cap:Nat)(tx:ByteArray)(hr:mY w M a n)(va:Value):
  Calls prog 15 #[pP S,sT ⟨#[112,108,97,110]⟩,va,sV a n.length cap] w (gU base S M O st N .qX n tx w):=by obtain⟨b,off,rfl,gX,hc⟩:=hr.1 od;have dM:b≠S:=hr.neH h rfl od;rw[hn]at hc⊢;have c10:=h.c10n hc0;exact zNl
end
end
section
variable{fa rd:Int}
section
variable{w u:World}{base S:Nat}{M O O':List Nat}{st:gD}{A:gN}{N:Nat}
theorem aHz(k:Int)(s:ByteArray):(if k=0 then H5.ok s else .err k).two (rT (tU #[sT s,iI k])):=by
 by_cases h:k=0
 ·rw[kJ h,h];rfl
 ·rw[kI h];exact⟨h,s,rfl⟩
theorem d9{Z:List Nat}(hf:aS O O' w u)(hZ:∀c,c∈Z->c∈M/\rQ w c)(ha:Apart O Z)(hl:∀c,c∈Z->c<w.heap.size):∀c,c∈Z->c∈M/\rQ u c:=fun c hc=>by refine⟨(hZ c hc).1,?_⟩;have:=(hZ c hc).2;unfold rQ at this⊢;rw[hf.block c (hl c hc) (fun q=>ha c q hc)];exact this
theorem aM0(h:iG w base S M O st A N){cs:List Int}{c:cA}{T:Nat}(dI:st.clu=some (fa,cs,c,rd,T))(x:Int)(hx:¬(0<=x/\x<st.aI.nl))(a:Option Addr)(cap:Nat)(tx:ByteArray)(hr:bE w a [x])(va:Value):
  Calls prog 15 #[pP S,sT ⟨#[112,117,116]⟩,va,sV a 1 cap] w (gU base S M O st N .oZ [x] tx w):=zK4
theorem aYz(h:iG w base S M O st A N){cs:List Int}{c:cA}{T:Nat}(dI:st.clu=some (fa,cs,c,rd,T))(hN:N<=3000)(k:Nat)(hk:k<st.aI.nl)(a:Option Addr)(cap wb P8 aNc:Nat)(tx:ByteArray)(hr:uU w M O a [(k:Int)])(yS:w.cell? (aA wb (P8+1))=some (sT tx))(hwl:wb<w.heap.size)(hwo:wb∉M++O):
  Calls prog 15 #[pP S,sT ⟨#[112,117,116]⟩,sV (some (aA wb P8)) 2 aNc,sV a 1 cap] w (gU base S M O st N .oZ [(k:Int)] tx w):=zJ1
theorem aI8(h:iG w base S M O st A N){cs:List Int}{c:cA}{T:Nat}(dI:st.clu=some (fa,cs,c,rd,T))(wF:c.Small)(x y:Int)(a:Option Addr)(cap:Nat)(tx:ByteArray)(hr:uU w M O a [x,y])(va:Value):
  Calls prog 15 #[pP S,sT ⟨#[114,101,99,101,105,118,101]⟩,va,sV a 2 cap] w (gU base S M O st N .iC [x,y] tx w):=have m49:=0;zJ1
end
end
section
section
variable{w u:World}{base S:Nat}{M O O':List Nat}{st:gD}{A:gN}{N:Nat}
theorem aAn(h:iG w base S M O st A N){fa:Int}{cs:List Int}{c:cA}{rd:Int}{T:Nat}(dI:st.clu=some (fa,cs,c,rd,T))(x:Int)(hx:¬(0<=x/\x<st.aI.nodes))(a:Option Addr)(cap:Nat)(tx:ByteArray)(hr:bE w a [x])(va:Value):
  Calls prog 15 #[pP S,sT ⟨#[109,101,109,98,101,114,115]⟩,va,sV a 1 cap] w (gU base S M O st N .eD [x] tx w):=have m88:=0;zK4
theorem aI7(h:iG w base S M O st A N)(hD:cB base w){fa:Int}{cs:List Int}{c:cA}{rd:Int}{T:Nat}(dI:st.clu=some (fa,cs,c,rd,T))(j:Nat)(hj:j<st.aI.n)(a:Option Addr)(cap:Nat)(tx:ByteArray)(hr:bE w a [(j:Int)])(va:Value):
  Calls prog 15 #[pP S,sT ⟨#[109,101,109,98,101,114,115]⟩,va,sV a 1 cap] w (gU base S M O st N .eD [(j:Int)] tx w):=have m74:=0;zKq
end
end
section
def xP(base:Nat)(w:World):Prop:=0<base/\base<=w.heap.size/\pT w
theorem xP.at{base:Nat}{w u:World}(h:xP base w)(hb:Below base w u):xP base u:=
 ⟨h.1,kG h.2.1 hb.size,kB h.1 (kG h.2.1 hb.size),bc hb h.1 h.2.2.2.1,bc hb h.1 h.2.2.2.2⟩
section
variable{w u:World}{base S:Nat}{M O O':List Nat}{st:gD}{A:gN}{N:Nat}
theorem aQm(h:iG w base S M O st A N)(hD:cB base w)(hFi:xP base w){fa:Int}{cs:List Int}{c:cA}{rd:Int}{T:Nat}(dI:st.clu=some (fa,cs,c,rd,T))(hN:N<=3000)(n:List Int)(tx:ByteArray)(va vb:Value):
  Calls prog 15 #[pP S,sT ⟨#[114,111,117,110,100]⟩,va,vb] w (gU base S M O st N .oC n tx w):=by
 obtain⟨ra,eO,eR,eDa,eDc,eMa,eMc,eE⟩:=h.aFl od;have c10:=h.c10s (by rw[dI];exact fun e=>by cases e);have c1:w.cell? (aA S 11)=some (sV ra.la st.next.nL ra.lc):=(aM h.blk (i:=11) rfl).trans (congrArg some eO);have c2:w.cell? (aA S 12)=some (sV ra.ra st.next.nR ra.rc):=(aM h.blk (i:=12) rfl).trans (congrArg some eR);have c3:w.cell? (aA S 13)=some (sV ra.da st.next.bA.length ra.dc):=by rw[eDa,eDc];exact aM h.blk (i:=13) rfl
 have c4:w.cell? (aA S 14)=some (sV ra.ma st.next.bH.length ra.mc):=by rw[eMa,eMc];exact aM h.blk (i:=14) rfl
 obtain⟨⟨Z,m,hZ,hR,lF,sH⟩,hTN⟩:=h.r.clu fa cs c rd T dI;have m75:=0;exact zKr
end
end
section
theorem aEv(p:aQ)(a:iH)(w:World)(eE:p.In a w)(hf:pT w):∃E I,p.Is E I/\∀v,bW w v->Calls prog 51 #[p.val a] v fun e w'=>∃ad len cap,e=rT (tU #[sV ad len cap,.agg #[iI E,iI I]])/\(len<=2000/\(E=0->len=mJ p))/\bW v w':=by
 obtain⟨E,I,hI⟩:=Q6 p;refine⟨E,I,hI,fun v hv=>?_⟩;have eE:=eE.below hv;have hf:=hf.below hv;have hc:∀u:World,bW v u->Calls prog 94 #[p.val a] u fun ev w'=>ev=rT (.agg #[iI E,iI I])/\bW u w':=fun u hu=>bHu p a u (eE.below hu) (hf.below hu) hI;by_cases hE:E=0
 ·subst hE;have hn:=hI.neg;subst hn;obtain⟨⟨d1,d2,d3⟩,jB⟩:=aEk rfl hI;refine(aEw p.nodes p.aF p.aJ p.aC p.aH p.round p.frame a.sa a.la a.wa p.ns a.sc p.nl a.lc p.nw a.wc p.nd p.fr p.td p.lf p.lt p.lb p.lq p.wp p.wf p.wt v eE.iM eE.aN eE.aWh d1 d2 d3 hf jB hc).mono ?_;rintro e w' ⟨v2,rfl,ho,hb⟩;have hl:(dL (dP p.nodes p.aF p.aJ p.aC p.aH p.round p.frame p.ns p.nl p.nw p.nd p.fr p.td p.lf p.lt p.lb p.lq p.wp p.wf p.wt) (10+3*p.ns+4*p.nl+3*p.nw)).length=mJ p:=by unfold mJ;rw[<-yI,qM]
  rw[hl]at ho;have h2:mJ p<=2000:=kG (iY _) (by rw[qM];omega);rcases ho.2 with⟨q,q2⟩|⟨g,cap,cur,q,_⟩
  ·exact⟨none,0,0,by rw[q],⟨od,fun _=>by omega⟩,hb⟩
  ·exact⟨_,_,cap,by rw[q],⟨h2,fun _=>rfl⟩,hb⟩
 ·refine(aBt p.nodes p.aF p.aJ p.aC p.aH p.round p.frame a.sa a.la a.wa p.ns a.sc p.nl a.lc p.nw a.wc E I v hE hc).mono ?_;rintro e w' ⟨rfl,hb⟩;exact⟨none,0,0,rfl,⟨od,fun q=>absurd q hE⟩,hb⟩
section
variable{w u:World}{base S:Nat}{M O O':List Nat}{st:gD}{A:gN}{N:Nat}
theorem aQi(h:iG w base S M O st A N)(hD:cB base w)(hFi:xP base w)(n:List Int)(tx:ByteArray)(va vb:Value):
  Calls prog 15 #[pP S,sT ⟨#[98,121,116,101,115]⟩,va,vb] w (gU base S M O st N .bytes_ n tx w):=by have c10:=h.c10;exact zJb
end
end
section
def Agr(w v u U:World):Prop:=(U.os=u.os/\U.tape=u.tape/\U.output=u.output/\u.heap.size<=U.heap.size)/\∀c,c<u.heap.size->(c<w.heap.size\/v.heap.size<=c)->U.heap[c]?=u.heap[c]?
section
variable{w v u U:World}{base S:Nat}{M O O':List Nat}{st:gD}{A:gN}{N:Nat}
theorem Agr.below(h:Agr w v u U)(hv:bW w v)(hu:bW v u):bW w U:=
 have hb:=hv.trans (hu.mono hv.size)
 ⟨h.1.1.trans hb.os,h.1.2.1.trans hb.tape,h.1.2.2.1.trans hb.output,kG hb.size h.1.2.2.2,fun c hc=>(h.2 c (kB hc hb.size) (.inl hc)).trans (hb.block c hc)⟩
theorem aWm(h:iG w base S M O st A N){a:iH}(eS:A.vS=sV a.sa st.aI.ns a.sc)(eL:A.vL=sV a.la st.aI.nl a.lc):∀c,c∈zOf st.aI a->c∈M/\rQ w c:=fun c hc=>by
 have key:∀{t:TypeId}{v:Value}{sa:Option Addr}{n sc:Nat}{size:Nat}{xs:List Value},w.ownsRow base t size v n xs->v=sV sa n sc->(∀g,v.ownBlock=some g->g∈M)->(t=94\/t=96)->c∈(if 0<n then(sa.map Addr.block).toList else[])->c∈M/\rQ w c:=fun {t v sa n sc size xs} h1 h2 h3 h4 h5=>by
  by_cases h0:0<n
  ·rw[kJ h0]at h5
   cases e:sa with
   |none=>rw[e]at h5;cases h5
   |some ad=>
    rw[e]at h5
    have hcb:c=ad.block:=by simpa using h5
    have ho:v.ownBlock=some c:=by rw[h2,e,hcb];rfl
    obtain⟨cs,fr,q⟩:=fD h1 ho
    exact⟨h3 c ho,t,cs,fr,q,h4⟩
  ·rw[kI h0]at h5;cases h5
 unfold zOf at hc;rcases kL hc with y|y
 ·exact key h.r.oS eS h.r.bS (.inl rfl) y
 ·exact key h.r.oL eL h.r.bL (.inr rfl) y
theorem aQn(h:iG w base S M O st A N)(hFi:xP base w)(dI:st.clu=none)(x:Int)(l:List Int)(hl:l.length<=1999)(a:Option Addr)(cap:Nat)(hcap:l.length+1<=cap)(tx:ByteArray)(hr:bE w a (x::l))(va:Value):
  Calls prog 15 #[pP S,sT ⟨#[115,116,97,114,116]⟩,va,sV a (l.length+1) cap] w (gU base S M O st N .iV (x::l) tx w):=by obtain⟨b,off,rfl,gX,hc⟩:=hr oh;have c10:=h.c10n dI;have z10:=bC h.blk (i:=10);have n0:w.cell? (aA b off)=some (iI x):=Oj;have fE:bE w (if cap=1 then some (aA b off)else some (aA b (off+1))) l:=fun h0=>⟨b,off+1,kI od,gX,fun j hj=>by have:=hc (j+1) ju;simpa[Nat.add_assoc,Nat.add_comm 1 j]using this⟩;have m23:=0;exact zJb
end
end
section
section
variable{w:World}{base S:Nat}{M O:List Nat}{st:gD}{A:gN}{N:Nat}
theorem aI9(h:iG w base S M O st A N)(dI:st.clu=none)(sW:¬st.aI.ns<32)(n:List Int)(tx:ByteArray)(va vb:Value):
  Calls prog 15 #[pP S,sT ⟨#[115,108,111,116]⟩,va,vb] w (gU base S M O st N .oW n tx w):=by have c10:=h.c10n dI;obtain⟨va2,vc,hvv⟩:∃a c,A.vS=sV a st.aI.ns c:=(wK h.r.oS).elim fun a q=>q.elim fun c r=>⟨a,c,r.1⟩;have c6:w.cell? (aA S 6)=some (sV va2 st.aI.ns vc):=(aM h.blk (i:=6) rfl).trans (congrArg some hvv);have k1:(32:Int)<=(st.aI.ns:Int):=od;have HS:Hid (iG w base S M O st A N):=h;have HN:Hid (¬st.aI.ns<32):=sW;exact zDc
theorem aUu(h:iG w base S M O st A N)(hD:cB base w)(dI:st.clu=none)(sW:st.aI.ns<32)(n:List Int)(hn:n.length=3)(a:Option Addr)(cap:Nat)(tx:ByteArray)(hr:bE w a n)(va:Value):
  Calls prog 15 #[pP S,sT ⟨#[115,108,111,116]⟩,va,sV a n.length cap] w (gU base S M O st N .oW n tx w):=by obtain⟨b,off,rfl,gX,hc⟩:=hr od;rw[hn]at hc⊢;obtain⟨i0,hi0,lO,mX,jX⟩:=info_parts Tryz.aCm;have m38:=0;exact zJq
end
end
section
variable{cO x:ByteArray}
section
variable{w:World}{base S kb:Nat}{M O:List Nat}{st:gD}{A:gN}{N:Nat}
def w9(base S:Nat)(M O:List Nat)(st:gD)(N:Nat)(cO:ByteArray)(w:World)(e:Ending)(w':World):Prop:=
 ∃qQ out M' O' A',fK st cO qQ out/\out.size<=500/\qQ.Small/\e=rT (sT out)/\aS (M++O) (M'++O') w w'/\jF w' base S M' O' qQ A' (N+1)
theorem w9.same(h:jF w base S M O st A N)(wF:st.Small){out:ByteArray}(hl:fK st cO st out)(hs:out.size<=500){w':World}(hb:bW w w'):w9 base S M O st N cO w (rT (sT out)) w':=
 ⟨st,out,M,O,A,hl,hs,wF,rfl,aS.of_below hb,(h.below hb).later (kR N)⟩
theorem fK.empty(hw:fA cO=[]):fK st cO st ⟨#[111,107]⟩:=by unfold fK;simp[hw]
theorem fK.unknown{ws:List ByteArray}(hw:fA cO=x::ws)(hk:nF x=none):fK st cO st (dS 3):=by unfold fK;simp[hw,hk]
theorem fK.form{ws:List ByteArray}{k:Kd}(hw:fA cO=x::ws)(hk:nF x=some k)(hr:qN k.m k.more k.text ws=none):fK st cO st (dS 3):=by unfold fK;simp[hw,hk,hr]
theorem fK.state{ws:List ByteArray}{k:Kd}{y:List Int×ByteArray}(hw:fA cO=x::ws)(hk:nF x=some k)(hr:qN k.m k.more k.text ws=some y)(ha:kZ st k=false):fK st cO st (dS 6):=by unfold fK;simp[hw,hk,hr,ha]
theorem fK.aKg{ws:List ByteArray}{k:Kd}{y:List Int×ByteArray}{qQ:gD}{r:H5}(hw:fA cO=x::ws)(hk:nF x=some k)(hr:qN k.m k.more k.text ws=some y)(ha:kZ st k=true)(hd:sI k st y.1 y.2 qQ r):fK st cO qQ r.out:=by unfold fK;simp only[hw,hk,hr,ha];exact⟨r,hd,rfl⟩
theorem aWk:(dS 3).size<=500:=by have:=sF (k:=3) ⟨od,od⟩;omega
theorem bE2:(dS 6).size<=500:=by have:=sF (k:=6) ⟨od,od⟩;omega
theorem aDk(h:jF w base S M O st A N)(wF:st.Small)(cO:ByteArray)(hl:cO.size<=20000)(hw:fA cO=[])(mv:Value):
  Calls prog 11 #[pP S,mv,sT cO] w (w9 base S M O st N cO w):=zM9
theorem aA0(h:jF w base S M O st A N)(hK:lY w kb S)(hD:cB base w)(wF:st.Small)(cO:ByteArray)(hl:cO.size<=20000){ws:List ByteArray}(hw:fA cO=x::ws)(hk:nF x=none):
  Calls prog 11 #[pP S,.map (some kb),sT cO] w (w9 base S M O st N cO w):=zJl
theorem aB0{X:List Nat}(h:jF w base S M O st A N)(hX:∀c,c∈X->w.heap.size<c):w.heap.size∉(X++M)++O:=fun q=>by
 rcases kL q with q|q
 ·rcases kL q with q|q
  ·have:=hX _ q;omega
  ·have:=h.r.hi _ q;omega
 ·have:=h.r.hiO _ q;omega
theorem aNk{X M' O':List Nat}{qQ:gD}{A':gN}{W u u':World}{N':Nat}(h:jF w base S M O st A N)(hB:bW w W)(hl:w.heap.size<W.heap.size)(hX:∀c,c∈X->w.heap.size<c)(hf:aS ((X++M)++O) (M'++O') W u)(hs:jF u base S M' O' qQ A' N')(hb:bW u u')(v:Value):
  aS (M++O) (M'++O') w (u'.setCell (aA w.heap.size 0) v)/\jF (u'.setCell (aA w.heap.size 0) v) base S M' O' qQ A' N':=by
 have dM:∀c,c∈M'++O'->c≠w.heap.size:=fun c q e=>by
  subst e;rcases hf.fresh _ q with z|z
  ·exact aB0 h hX z
  ·omega
 have hfr:∀c,c∈M'++O'->c∈M++O\/w.heap.size<=c:=fun c q=>by
  rcases hf.fresh c q with z|z
  ·rcases kL z with z|z
   ·rcases kL z with z|z
    ·exact .inr (kV (hX c z))
    ·exact .inl (kK (.inl z))
   ·exact .inl (kK (.inr z))
  ·exact .inr (kG hB.size z)
 have aA9:∀c,c≠w.heap.size->(u'.setCell (aA w.heap.size 0) v).heap[c]?=u'.heap[c]?:=fun c hc=>cJ hc v;refine⟨⟨hb.os.trans (hf.os.trans hB.os),hb.tape.trans (hf.tape.trans hB.tape),hb.output.trans (hf.output.trans hB.output),?_,fun c hc hn=>?_,hfr⟩,?_⟩
 ·have h1:=hB.size;have h2:=hf.size;have h3:=hb.size;simp;omega
 ·have h1:=hB.size;have h2:=hf.size;rw[aA9 c od,hb.block c od,hf.block c od ?_,hB.block c hc];intro q;exact zDl
 ·exact(hs.below hb).keep ⟨oh,fun c q=>aA9 c (dM c (kK (.inl q)))⟩ ⟨oh,fun c q=>aA9 c (dM c (kK (.inr q)))⟩
end
end
section
section
variable{w:World}{base S kb:Nat}{M O:List Nat}{st:gD}{A:gN}{N:Nat}
theorem yT{P:Program}{fn:Func}{t t':Array Value}{R:Ending->World->Prop}(h:results fn t=results fn t'):∀(ds:List Deferred)(u:FrameMode)(w:World),Leaves P fn t R ds u w->Leaves P fn t' R ds u w
 |[],.returning,w,q=>by
  obtain⟨v,h1,h2⟩:=q
  exact⟨v,by rw[<-h];exact h1,h2⟩
 |[],.panicking _,_,q=>q
 |[],.run,_,q=>q
 |d::ds,u,w,⟨q0,fv,cap,f,args,q1,q2,q3⟩=>⟨q0,fv,cap,f,args,q1,q2,q3.mono fun e u' w' q=>by
  cases e with
  |returned v=>exact yT h ds _ _ q
  |panicked c=>exact yT h ds _ _ q
  |outgrown=>exact q⟩
theorem aIq(t:Array Value)(i:Nat)(v:Value)(hi:6<i):results Tryz.f11 (t.setIfInBounds i v)=results Tryz.f11 t:=by unfold results;simp[results11];rw[Array.getElem?_setIfInBounds_ne od]
theorem P1{R:Ending->World->Prop}{c:List PanicEntry}{a:Act}{v:Value}{w:World}{i:Nat}(hi:6<i)(h:bodyPostD prog Tryz.f11 R (.panic c) (a.put (some i) v) w):bodyPostD prog Tryz.f11 R (.panic c) a w:=yT (aIq a.tmps i v hi) _ _ _ h
theorem mG{u:World}{b:Nat}{a0 a1 a2 a3 a4:Value}{t:TypeId}(h:u.heap[b]?=some (.cells #[a0,a1,a2,a3,a4] t (0,0))):u.cell? (aA b 0)=some a0/\u.cell? (aA b 1)=some a1/\u.cell? (aA b 2)=some a2/\u.cell? (aA b 3)=some a3/\u.cell? (aA b 4)=some a4:=
 ⟨aM h rfl,aM h rfl,aM h rfl,aM h rfl,aM h rfl⟩
theorem Kd.bMn(k:Kd):k.m<=6:=by cases k using Kd.each<;>decide
theorem Kd.aZv(k:Kd):k.text=true->0<k.m/\k.more=false:=by cases k using Kd.each<;>decide
theorem aDl(h:jF w base S M O st A N)(hK:lY w kb S)(hD:cB base w)(wF:st.Small)(hN:N<=3000)(cO:ByteArray)(hl:cO.size<=20000){x:ByteArray}{ws:List ByteArray}(hw:fA cO=x::ws){k:Kd}(hk:nF x=some k):
  Calls prog 11 #[pP S,.map (some kb),sT cO] w (w9 base S M O st N cO w):=have m33:=0;zJl
end
end
section
theorem aM5(f s n d r:Int)(u:World):Calls prog 60 #[.agg #[iI f,iI s,iI n,iI d],iI r] u fun e w'=>∃x,e=rT (tU #[iI x,iI (jC f s n d r)])/\gW x/\(jC f s n d r=0->x=s+(r-f)*n/d)/\bW u w':=by have z:gW 0:=⟨od,od⟩;have m59:=0;exact zKb
theorem aCv{f s n d l t:Int}(hn:1<=n)(hd:1<=d)(ht:f<=t):l<=s+(t-f)*n/d↔lQ f s n d l<=t:=by
 unfold lQ;by_cases h:l<=s
 ·rw[kJ h];have:=G4 (p:=0) (q:=t-f) (n:=n) (d:=d) od hn hd;rw[Int.zero_mul,Int.zero_ediv]at this;constructor<;>intro _<;>omega
 ·rw[kI h];constructor
  ·intro q;by_cases c:((l-s)*d+n-1)/n<=t-f
   ·omega
   ·have h1:=G4 (p:=t-f) (q:=((l-s)*d+n-1)/n-1) (n:=n) (d:=d) od hn hd;have h2:=aWc (x:=l-s) hn hd;omega
  ·intro q;have h1:=G4 (p:=((l-s)*d+n-1)/n) (q:=t-f) (n:=n) (d:=d) od hn hd;have h2:=aRx (x:=l-s) hn hd;omega
theorem aR8(f s n d l:Int)(u:World):Calls prog 61 #[.agg #[iI f,iI s,iI n,iI d],iI l] u fun e w'=>∃x,e=rT (tU #[iI x,iI (oA f s n d l)])/\gW x/\(oA f s n d l=0->x=lQ f s n d l)/\bW u w':=by have z:gW 0:=⟨od,od⟩;have m44:=0;exact zJw
section
variable{w:World}{base S:Nat}{M O:List Nat}{st:gD}{A:gN}{N:Nat}
theorem aQl(h:iG w base S M O st A N)(hD:cB base w)(n:List Int)(hn:n.length=5)(a:Option Addr)(cap:Nat)(tx:ByteArray)(hr:bE w a n)(va:Value):
  Calls prog 15 #[pP S,sT ⟨#[108,111,99,97,108]⟩,va,sV a n.length cap] w (gU base S M O st N .pM n tx w):=zJ7
theorem aUt(h:iG w base S M O st A N)(hD:cB base w)(n:List Int)(hn:n.length=5)(a:Option Addr)(cap:Nat)(tx:ByteArray)(hr:bE w a n)(va:Value):
  Calls prog 15 #[pP S,sT ⟨#[114,101,97,108]⟩,va,sV a n.length cap] w (gU base S M O st N .real_ n tx w):=have m55:=0;zJ7
end
end
section
variable{base bb:Nat}{bs:List UInt8}{v:Value}{w:World}
structure C7(w:World)(base bb:Nat)(v:Value)(bs:List UInt8):Prop where
 blk:∃p,(p=.pointer none\/p=pP bb)/\w.heap[bb]?=some (.cells #[p,v] 33 (0,0))
 own:w.ownsRow base 5 1 v bs.length (Lib.byteCells bs)
def C7.yL(bb:Nat)(v:Value):List Nat:=bb::v.ownBlock.toList
theorem C7.ne(h:C7 w base bb v bs){g:Nat}(hg:v.ownBlock=some g):g≠bb:=by obtain⟨p,_,hb⟩:=h.blk;exact gE h.own hb oe hg
theorem C7.keep{w':World}(h:C7 w base bb v bs)(hs:∀c,c∈C7.yL bb v->w'.heap[c]?=w.heap[c]?):C7 w' base bb v bs:=by obtain⟨p,hp,hb⟩:=h.blk;exact⟨⟨p,hp,(hs bb kQ).trans hb⟩,eQ h.own fun g hg=>hs g (by unfold C7.yL;rw[hg];simp)⟩
theorem C7.lt(h:C7 w base bb v bs):∀c,c∈C7.yL bb v->c<w.heap.size:=fun c hc=>by
 obtain⟨p,hp,hb⟩:=h.blk;rcases kN hc with q|q
 ·rw[q];exact cW hb
 ·cases e:v.ownBlock with
  |none=>rw[e]at q;cases q
  |some g=>
   rw[e]at q
   have:c=g:=by simpa using q
   rw[this]
   exact(h.own.lt g e).2
theorem Tryz.infoByte9:(Tryz.prog.info? 5).map (fun i=>(i.zero,i.size,i.bytes))=some (some (.int .u8 0),1,1):=by kernel_rfl
theorem aBe(h:C7 w base bb v bs):Calls prog 41 #[pP bb] w fun e w'=>e=rT (tU #[])/\w'.heap[bb]?=some (.cells #[pP bb,v] 33 (0,0))/\(w'=w\/w'=w.setCell (aA bb 0) (pP bb)):=by
 obtain⟨p,hp,hb⟩:=h.blk;rcases hp with rfl|rfl
 ·refine(Any.Builder_copyCheck_fresh (P:=prog) (ρ:=Tryz.lays156_ren) { Tryz.lays156 with } Tryz.Builder_Extra_156.toX72 bb w (aM hb rfl) (by simp[World.shape?,hb];rfl) (bC hb)).mono fun e w' q=>?_;exact⟨q.1,by rw[q.2];exact cH hb _,.inr q.2⟩
 ·refine(Any.Builder_copyCheck_used (P:=prog) (ρ:=Tryz.lays156_ren) { Tryz.lays156 with } Tryz.Builder_Extra_156.toX72 bb w (aM hb rfl)).mono fun e w' q=>?_;exact⟨q.1,by rw[q.2];exact hb,.inl q.2⟩
theorem xY{w:World}{base bb:Nat}{v:Value}{bs:List UInt8}(h:C7 w base bb v bs)(qV:base<=w.heap.size)(s:ByteArray)(hlen:bs.length+s.size<=140737488355328):
  Calls prog 10 #[.pointer (some ⟨bb,0,none⟩),.string s] w fun e w'=>∃v',e=.returned (.tuple #[.int .i64 s.size,.nilIface])/\C7 w' base bb v' (bs++s.data.toList)/\aS (C7.yL bb v) (C7.yL bb v') w w':=by
 have hC:=aBe h
 have HN:Hid (∀g,v.ownBlock=some g->g≠bb):=fun g hg=>h.ne hg
 have HO:Hid (w.ownsRow base 5 1 v bs.length (Lib.byteCells bs)):=h.own
 obtain⟨i0,hi,lO,mX,jX⟩:=info_parts Tryz.infoByte9
 clear h
 go_enter func10,ntmps10
 go_wp2_with fail
 refine hC.mono ?_
 rintro e w1 ⟨rfl,hbk,yS⟩
 have hsz:w1.heap.size=w.heap.size:=by rcases yS with rfl|rfl<;>simp
 have aH1:∀c,c≠bb->w1.heap[c]?=w.heap[c]?:=fun c hc=>by
  rcases yS with rfl|rfl
  ·rfl
  ·exact cJ hc _
 have bIj:Hid (∀c,c≠bb->w1.heap[c]?=w.heap[c]?):=aH1
 have HW:Hid (w1.os=w.os/\w1.tape=w.tape/\w1.output=w.output):=by rcases yS with rfl|rfl<;>exact⟨rfl,rfl,rfl⟩
 have bK:w1.ownsRow base 5 1 v bs.length (Lib.byteCells bs):=eQ HO.out fun g hg=>aH1 g (HN.out g hg)
 have c0:w1.cell? ⟨bb,0,none⟩=some (.pointer (some ⟨bb,0,none⟩)):=aM hbk rfl
 have c1:w1.cell? ⟨bb,1,none⟩=some v:=aM hbk rfl
 have hlt:=cW hbk
 clear yS aH1 hC
 go_wp2_with(at_builtin;refine wQ (P:=prog) rfl _ _ 31 9 rfl base 5 i0 underlying31 underlying9 hi lO mX jX v bs.length (Lib.byteCells bs) rfl bK s rfl (by unfold maxLen;omega) hlen (by omega) ?_;intro ao cap w2 lG bP jW;have dQ:w2.heap[bb]?=some (.cells #[.pointer (some ⟨bb,0,none⟩),v] 33 (0,0)):=(bP.block bb hlt (fun e=>HN.out bb e.symm rfl)).trans hbk;have d1:w2.cell? ⟨bb,1,none⟩=some v:=aM dQ rfl;have f1:=bC dQ (i:=1);have HG:Hid (w1.grownBy w2 v.ownBlock):=bP;have HA:Hid (∀g,(Value.slice ao (bs.length+s.size) cap).ownBlock=some g->v.ownBlock=some g\/w1.heap.size<=g):=jW;have HO2:Hid (w2.ownsRow base 5 1 (.slice ao (bs.length+s.size) cap) (bs.length+s.size) (Lib.byteCells bs++Lib.strCells s)):=lG;clear bP jW lG)
 have bJr:=cW dQ
 have hz:(w2.setCell ⟨bb,1,none⟩ (.slice ao (bs.length+s.size) cap)).heap.size=w2.heap.size:=by simp
 have hl:(bs++s.data.toList).length=bs.length+s.size:=by rw[List.length_append];rfl
 have hcs:Lib.byteCells bs++Lib.strCells s=Lib.byteCells (bs++s.data.toList):=by unfold Lib.byteCells Lib.strCells;rw[List.map_append]
 have aTf:∀g,(Value.slice ao (bs.length+s.size) cap).ownBlock=some g->g≠bb:=fun g hg e=>by
  rcases HA.out g hg with q|q
  ·exact HN.out g q e
  ·omega
 refine bodyPost_ret (v:=.tuple #[.int .i64 s.size,.nilIface]) (by simp[results,results10,go_sem]) rfl ?_
 refine⟨_,rfl,⟨⟨_,.inr rfl,cH dQ _⟩,?_⟩,?_⟩
 ·rw[hl,<-hcs]
  exact eQ HO2.out fun g hg=>cJ (aTf g hg) _
 ·obtain⟨o1,o2,o3⟩:=HW.out
  refine⟨HG.out.os.trans o1,HG.out.tape.trans o2,HG.out.output.trans o3,?_,fun c hc hn=>?_,fun c hc=>?_⟩
  ·have:=HG.out.size
   omega
  ·have hcb:c≠bb:=fun e=>hn (by rw[e];exact kQ)
   rw[cJ hcb,HG.out.block c (by omega) ?_,bIj.out c hcb]
   intro e
   exact hn (by unfold C7.yL;rw[<-e];simp)
  ·rcases kN hc with q|q
   ·exact .inl (by rw[q];exact kQ)
   ·cases e:(Value.slice ao (bs.length+s.size) cap).ownBlock with
    |none=>rw[e]at q;cases q
    |some g=>
     rw[e]at q
     have:c=g:=by simpa using q
     subst this
     rcases HA.out c e with z|z
     ·exact .inl (by unfold C7.yL;rw[z];simp)
     ·exact .inr (by omega)
theorem aMw(h:C7 w base bb v bs)(hbb:base<=bb)(qV:base<=w.heap.size):Calls prog 12 #[pP bb] w fun e w'=>e=rT (sT ⟨bs.toArray⟩)/\Below base w w'/\∀(k:Nat)(ds:Option (List Deferred)),w.heap[k]?=some (Obj.deferred ds)->w'.heap[k]?=some (Obj.deferred ds):=by
 obtain⟨p,hp,hb⟩:=h.blk;have hn:v.ownBlock≠some bb:=fun e=>h.ne e rfl;have ho:w.ownsRow base 5 1 v (Lib.byteCells bs).length (Lib.byteCells bs):=by rw[Lib.byteCells_length];exact h.own
 refine(Tryz.Builder_String_any_k base bb bs w (Lib.IsBuilderF.of ?_) qV).mono fun e w' q=>⟨q.1,q.2.2.1,fun k ds hk=>q.2.2.2 k (Obj.deferred ds) hk ?_ (fun _ _ z=>by cases z)⟩
 ·rcases hp with rfl|rfl
  ·exact .inl ⟨hbb,v,hb,ho,hn⟩
  ·exact .inr ⟨hbb,v,hb,ho,hn⟩
 ·intro z;injection z with z;rw[z,hb]at hk;cases hk
end
section
theorem aK6{w:World}{base S kb:Nat}{M O:List Nat}{st:gD}{A:gN}{N:Nat}(h:jF w base S M O st A N)(hK:lY w kb S)(hD:cB base w)(wF:st.Small)(hN:N<=3000)(cO:ByteArray)(hl:cO.size<=20000):
  Calls prog 11 #[pP S,.map (some kb),sT cO] w (w9 base S M O st N cO w):=by
 cases hw:fA cO with
 |nil=>exact aDk h wF cO hl hw _
 |cons x ws=>
  cases hk:nF x with
  |none=>exact aA0 h hK hD wF cO hl hw hk
  |some k=>exact aDl h hK hD wF hN cO hl hw hk
structure SI(w:World)(base S sb xb kb bb D:Nat)(st:gD)(M O:List Nat)(A:gN)(N:Nat)(v:Value)(bs:List UInt8)(W:World):Prop where
 ses:jF W base S M O st A N
 bld:C7 W base bb v bs
 kin:lY W kb S
 cs:W.cell? (aA sb 0)=some (pP S)
 cx:W.cell? (aA xb 0)=some (.map (some kb))
 bel:Below base w W
 b0:base<=w.heap.size
 b1:base<=bb
 l1:sb<D
 l2:xb<D
 l3:kb<D
 l4:D<=W.heap.size
 lo:base<=D
 d1:∀c,c∈sb::xb::kb::D::(D+1)::C7.yL bb v->c∉M++O
 d2:∀c,c∈[sb,xb,kb,D,D+1]->c∉C7.yL bb v
section
variable{w W W':World}{base S sb xb kb bb D:Nat}{st qQ:gD}{M O M' O':List Nat}{A A':gN}{N N':Nat}{v v':Value}{bs bs':List UInt8}
theorem SI.below(h:SI w base S sb xb kb bb D st M O A N v bs W)(hb:bW W W'):SI w base S sb xb kb bb D st M O A N v bs W':=
 { h with
  ses:=h.ses.below hb
  bld:=h.bld.keep fun c hc=>hb.block c (h.bld.lt c hc)
  kin:=h.kin.keep (hb.block _ h.kin.lt)
  cs:=bc hb (kB h.l1 h.l4) h.cs
  cx:=bc hb (kB h.l2 h.l4) h.cx
  bel:=h.bel.trans (hb.mono (kG h.lo h.l4))
  l4:=kG h.l4 hb.size }
theorem SI.put(h:SI w base S sb xb kb bb D st M O A N v bs W)(o:Obj):SI w base S sb xb kb bb D st M O A N v bs (W.putObj (D+1) o):=by
 have hs:(W.putObj (D+1) o).heap.size=W.heap.size:=by simp[World.putObj]
 have ho:∀c,c≠D+1->(W.putObj (D+1) o).heap[c]?=W.heap[c]?:=fun c hc=>wM hc;have hm:∀c,c∈M++O->c≠D+1:=fun c hc e=>h.d1 (D+1) oh (e▸hc);have hf:∀c,c∈C7.yL bb v->c≠D+1:=fun c hc e=>h.d2 (D+1) oh (e▸hc);have h1:=h.l1;have h2:=h.l2;have h3:=h.l3;exact { h with
  ses:=h.ses.keep ⟨Nat.le_of_eq hs.symm,fun c hc=>ho c (hm c (kK (.inl hc)))⟩ ⟨Nat.le_of_eq hs.symm,fun c hc=>ho c (hm c (kK (.inr hc)))⟩
  bld:=h.bld.keep fun c hc=>ho c (hf c hc)
  kin:=h.kin.keep (ho kb od)
  cs:=(World.cell?_of_block (w:=W) (a:=(aA sb 0)) (ho sb od)).trans h.cs
  cx:=(World.cell?_of_block (w:=W) (a:=(aA xb 0)) (ho xb od)).trans h.cx
  bel:=⟨h.bel.os,h.bel.tape,h.bel.output,by rw[hs];exact h.bel.size,fun c hc=>(ho c (by have:=h.lo;omega)).trans (h.bel.block c hc)⟩
  l4:=by rw[hs];exact h.l4 }
theorem SI.ans(h:SI w base S sb xb kb bb D st M O A N v bs W)(hD:D+1<W.heap.size)(hf:aS (M++O) (M'++O') W W')(hs:jF W' base S M' O' qQ A' N'):SI w base S sb xb kb bb D qQ M' O' A' N' v bs W'/\W'.heap[D]?=W.heap[D]?/\W'.heap[D+1]?=W.heap[D+1]?:=by
 have h1:=h.l1;have h2:=h.l2;have h3:=h.l3;have hk:∀c,c∈sb::xb::kb::D::(D+1)::C7.yL bb v->W'.heap[c]?=W.heap[c]?:=fun c hc=>hf.block c (by
  simp only[List.mem_cons]at hc
  rcases hc with q|q|q|q|q|q
  ·omega
  ·omega
  ·omega
  ·omega
  ·omega
  ·exact h.bld.lt c q) (h.d1 c hc)
 refine⟨?_,hk D oh,hk (D+1) oh⟩;exact { h with
  ses:=hs
  bld:=h.bld.keep fun c hc=>hk c Jg
  kin:=h.kin.keep (hk kb oh)
  cs:=(World.cell?_of_block (w:=W) (a:=(aA sb 0)) (hk sb oh)).trans h.cs
  cx:=(World.cell?_of_block (w:=W) (a:=(aA xb 0)) (hk xb oh)).trans h.cx
  bel:=h.bel.trans (hf.below (fun c hc=>(kL hc).elim (h.ses.r.lo c) (h.ses.r.loO c)) (kG h.lo h.l4))
  l4:=kG h.l4 hf.size
  d1:=fun c hc q=>by
   rcases hf.fresh c q with z|z
   ·exact h.d1 c hc z
   ·simp only[List.mem_cons]at hc
    rcases hc with q|q|q|q|q|q
    ·omega
    ·omega
    ·omega
    ·omega
    ·omega
    ·have:=h.bld.lt c q;omega }
theorem SI.wrote(h:SI w base S sb xb kb bb D st M O A N v bs W)(hD:D+1<W.heap.size)(hf:aS (C7.yL bb v) (C7.yL bb v') W W')(hb:C7 W' base bb v' bs'):SI w base S sb xb kb bb D st M O A N v' bs' W'/\W'.heap[D]?=W.heap[D]?/\W'.heap[D+1]?=W.heap[D+1]?:=by
 have h1:=h.l1;have h2:=h.l2;have h3:=h.l3;have hsp:∀c,c∈[sb,xb,kb,D,D+1]->c<W.heap.size:=fun c hc=>by simp only[List.mem_cons,List.not_mem_nil,or_false]at hc;omega
 have hk:∀c,c∈[sb,xb,kb,D,D+1]->W'.heap[c]?=W.heap[c]?:=fun c hc=>hf.block c (hsp c hc) (h.d2 c hc);have X9:∀c,c∈C7.yL bb v->base<=c:=fun c hc=>by
  rcases kN hc with q|q
  ·rw[q];exact h.b1
  ·cases e:v.ownBlock with
   |none=>rw[e]at q;cases q
   |some g=>
    rw[e]at q
    have:c=g:=by simpa using q
    rw[this]
    exact(h.bld.own.lt g e).1
 have hfo:∀c,c∈C7.yL bb v->c∉M++O:=fun c hc=>h.d1 c Jg;have hlt:∀c,c∈M++O->c<W.heap.size:=fun c hc=>(kL hc).elim (h.ses.r.hi c) (h.ses.r.hiO c);refine⟨?_,hk D oh,hk (D+1) oh⟩;exact { h with
  ses:=h.ses.keep ⟨hf.size,fun c hc=>hf.block c (h.ses.r.hi c hc) (fun q=>hfo c q (kK (.inl hc)))⟩ ⟨hf.size,fun c hc=>hf.block c (h.ses.r.hiO c hc) (fun q=>hfo c q (kK (.inr hc)))⟩
  bld:=hb
  kin:=h.kin.keep (hk kb oh)
  cs:=(World.cell?_of_block (w:=W) (a:=(aA sb 0)) (hk sb oh)).trans h.cs
  cx:=(World.cell?_of_block (w:=W) (a:=(aA xb 0)) (hk xb oh)).trans h.cx
  bel:=h.bel.trans (hf.below X9 (kG h.lo h.l4))
  l4:=kG h.l4 hf.size
  d1:=fun c hc q=>by
   simp only[List.mem_cons]at hc
   rcases hc with z|z|z|z|z|z
   ·exact h.d1 c (by simp[z]) q
   ·exact h.d1 c (by simp[z]) q
   ·exact h.d1 c (by simp[z]) q
   ·exact h.d1 c (by simp[z]) q
   ·exact h.d1 c (by simp[z]) q
   ·rcases hf.fresh c z with y|y
    ·exact hfo c y q
    ·have:=hlt c q;omega
  d2:=fun c hc q=>by
   rcases hf.fresh c q with y|y
   ·exact h.d2 c hc y
   ·have:=hsp c hc;omega }
end
def bEh(w:World)(base S sb xb kb bb D:Nat)(pre:List ByteArray)(W:World):Prop:=
 ∃os st M O A v,gA gD.start pre os st/\os.length=pre.length/\(∀o∈os,o.size<=500)/\st.Small/\SI w base S sb xb kb bb D st M O A pre.length v (jO os) W
end
