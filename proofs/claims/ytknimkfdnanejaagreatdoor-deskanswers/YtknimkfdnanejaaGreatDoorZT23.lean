import Derived.Test.YtknimkfdnanejaaGreatDoorZT22
namespace Go.Proofs.YtknimkfdnanejaaGreatDoor
open Go.RowKit Go.Proofs.Tryz
set_option maxRecDepth 100000
set_option maxHeartbeats 16000000
section
variable{S b:Nat}
theorem Tryz.dK:Maps.Keyed prog 9:=Maps.string_keyed underlying9
def Kd.val(k:Kd)(S:Nat):Value:=pU k.m k.more k.text k.when (.func (.func k.fn) #[pP S] #[])
def lY(w:World)(b S:Nat):Prop:=∃f,qT prog 9 w b f/\∀x,f (sT x)=(nF x).map fun k=>k.val S
theorem lY.lt{w:World}(h:lY w b S):b<w.heap.size:=by obtain⟨f,h,_⟩:=h;exact h.lt
theorem lY.keep{w w':World}(h:lY w b S)(e:w'.heap[b]?=w.heap[b]?):lY w' b S:=zFp
def aTv:Value:=pU 0 false false 0 .nilFunc
theorem lY.look{w:World}(h:lY w b S)(x:ByteArray)(hx:x.size<=20000):
  (Instr.lookup 28 (.map (some b)) (sT x) true).run prog w=.ok (tU #[((nF x).map fun k=>k.val S).getD aTv,.bool (nF x).isSome]) w:=by obtain⟨f,h,r⟩:=h;have:=h.look (e:=73) (t:=28) Tryz.dK underlying28 (z:=aTv) (zeroValue73 w) (x:=sT x) (Go.WideMaps.keyOf_string_mk underlying9 (s:=x) oo) true;rw[r x]at this;exact zHh
theorem Tryz.mfD(fn:Fn)(first cap:Array Value)(w:World):(Instr.makeFunc fn first cap).run prog w=.ok (.func fn first cap) w:=rfl
theorem aL{a b:ByteArray}(h:a≠b):Value.string a≠sT b:=fun e=>h (by injection e)
theorem aPs(S:Nat)(w:World):Calls prog 8 #[pP S] w fun e w'=>∃b,e=rT (.map (some b))/\w.heap.size<=b/\lY w' b S/\bW w w':=by
 have W9:=Tryz.mfD;have hmm:=@run_makeMap prog;have m0:=qT.new prog 9 w;generalize hV:w.alloc (.map #[] 0)=V0 at m0;have hB:bW w V0:=hV▸(kX _ w).alloc (kF _) _;obtain⟨V1,f1,e1,m1,p1,t1⟩:=m0.put (t:=28) (e:=73) (x:=sT ⟨#[112,108,97,110]⟩) (v:=.agg #[iI 6,.bool false,.bool false,iI 1,.func (.func 18) #[pP S] #[]]) Tryz.dK underlying28 (Go.WideMaps.keyOf_string_mk underlying9 Og);obtain⟨V2,f2,e2,m2,p2,t2⟩:=m1.put (t:=28) (e:=73) (x:=sT ⟨#[115,108,111,116]⟩) (v:=.agg #[iI 3,.bool false,.bool false,iI 1,.func (.func 19) #[pP S] #[]]) Tryz.dK underlying28 (Go.WideMaps.keyOf_string_mk underlying9 Og);obtain⟨V3,f3,e3,m3,p3,t3⟩:=m2.put (t:=28) (e:=73) (x:=sT ⟨#[108,105,110,107]⟩) (v:=.agg #[iI 4,.bool false,.bool false,iI 1,.func (.func 20) #[pP S] #[]]) Tryz.dK underlying28 (Go.WideMaps.keyOf_string_mk underlying9 Og);obtain⟨V4,f4,e4,m4,p4,t4⟩:=m3.put (t:=28) (e:=73) (x:=sT ⟨#[98,121,116,101,115]⟩) (v:=.agg #[iI 0,.bool false,.bool false,iI 0,.func (.func 21) #[pP S] #[]]) Tryz.dK underlying28 (Go.WideMaps.keyOf_string_mk underlying9 Og);obtain⟨V5,f5,e5,m5,p5,t5⟩:=m4.put (t:=28) (e:=73) (x:=sT ⟨#[115,116,97,114,116]⟩) (v:=.agg #[iI 1,.bool true,.bool false,iI 1,.func (.func 22) #[pP S] #[]]) Tryz.dK underlying28 (Go.WideMaps.keyOf_string_mk underlying9 Og);obtain⟨V6,f6,e6,m6,p6,t6⟩:=m5.put (t:=28) (e:=73) (x:=sT ⟨#[112,117,116]⟩) (v:=.agg #[iI 1,.bool false,.bool true,iI 2,.func (.func 23) #[pP S] #[]]) Tryz.dK underlying28 (Go.WideMaps.keyOf_string_mk underlying9 Og);obtain⟨V7,f7,e7,m7,p7,t7⟩:=m6.put (t:=28) (e:=73) (x:=sT ⟨#[114,101,99,101,105,118,101]⟩) (v:=.agg #[iI 2,.bool false,.bool false,iI 2,.func (.func 24) #[pP S] #[]]) Tryz.dK underlying28 (Go.WideMaps.keyOf_string_mk underlying9 Og);obtain⟨V8,f8,e8,m8,p8,t8⟩:=m7.put (t:=28) (e:=73) (x:=sT ⟨#[108,111,115,101]⟩) (v:=.agg #[iI 3,.bool false,.bool false,iI 2,.func (.func 25) #[pP S] #[]]) Tryz.dK underlying28 (Go.WideMaps.keyOf_string_mk underlying9 Og);obtain⟨V9,f9,e9,m9,p9,t9⟩:=m8.put (t:=28) (e:=73) (x:=sT ⟨#[114,101,97,100]⟩) (v:=.agg #[iI 3,.bool false,.bool false,iI 2,.func (.func 26) #[pP S] #[]]) Tryz.dK underlying28 (Go.WideMaps.keyOf_string_mk underlying9 Og);obtain⟨V10,f10,e10,m10,p10,P5⟩:=m9.put (t:=28) (e:=73) (x:=sT ⟨#[100,114,105,102,116]⟩) (v:=.agg #[iI 1,.bool true,.bool false,iI 2,.func (.func 27) #[pP S] #[]]) Tryz.dK underlying28 (Go.WideMaps.keyOf_string_mk underlying9 Og);obtain⟨V11,f11,e11,m11,p11,t11⟩:=m10.put (t:=28) (e:=73) (x:=sT ⟨#[109,111,100,101]⟩) (v:=.agg #[iI 1,.bool true,.bool false,iI 2,.func (.func 28) #[pP S] #[]]) Tryz.dK underlying28 (Go.WideMaps.keyOf_string_mk underlying9 Og);obtain⟨iT,f12,e12,m12,p12,t12⟩:=m11.put (t:=28) (e:=73) (x:=sT ⟨#[114,111,117,110,100]⟩) (v:=.agg #[iI 0,.bool false,.bool false,iI 2,.func (.func 29) #[pP S] #[]]) Tryz.dK underlying28 (Go.WideMaps.keyOf_string_mk underlying9 Og);obtain⟨iU,f13,e13,S4,p13,t13⟩:=m12.put (t:=28) (e:=73) (x:=sT ⟨#[99,108,111,99,107,115]⟩) (v:=.agg #[iI 0,.bool false,.bool false,iI 2,.func (.func 30) #[pP S] #[]]) Tryz.dK underlying28 (Go.WideMaps.keyOf_string_mk underlying9 Og);obtain⟨V14,f14,e14,F7,p14,Y8⟩:=S4.put (t:=28) (e:=73) (x:=sT ⟨#[115,112,114,101,97,100]⟩) (v:=.agg #[iI 0,.bool false,.bool false,iI 2,.func (.func 31) #[pP S] #[]]) Tryz.dK underlying28 (Go.WideMaps.keyOf_string_mk underlying9 Og);obtain⟨V15,f15,e15,m15,p15,t15⟩:=F7.put (t:=28) (e:=73) (x:=sT ⟨#[109,101,109,98,101,114,115]⟩) (v:=.agg #[iI 1,.bool false,.bool false,iI 2,.func (.func 32) #[pP S] #[]]) Tryz.dK underlying28 (Go.WideMaps.keyOf_string_mk underlying9 Og);obtain⟨V16,f16,e16,m16,p16,t16⟩:=m15.put (t:=28) (e:=73) (x:=sT ⟨#[109,105,100,112,111,105,110,116]⟩) (v:=.agg #[iI 1,.bool true,.bool false,iI 0,.func (.func 33) #[pP S] #[]]) Tryz.dK underlying28 (Go.WideMaps.keyOf_string_mk underlying9 Og);obtain⟨V17,f17,e17,m17,p17,t17⟩:=m16.put (t:=28) (e:=73) (x:=sT ⟨#[108,111,99,97,108]⟩) (v:=.agg #[iI 5,.bool false,.bool false,iI 0,.func (.func 34) #[pP S] #[]]) Tryz.dK underlying28 (Go.WideMaps.keyOf_string_mk underlying9 Og);obtain⟨V18,f18,e18,m18,Y1,t18⟩:=m17.put (t:=28) (e:=73) (x:=sT ⟨#[114,101,97,108]⟩) (v:=.agg #[iI 5,.bool false,.bool false,iI 0,.func (.func 35) #[pP S] #[]]) Tryz.dK underlying28 (Go.WideMaps.keyOf_string_mk underlying9 Og);obtain⟨V19,f19,e19,m19,X4,t19⟩:=m18.put (t:=28) (e:=73) (x:=sT ⟨#[99,108,101,97,114]⟩) (v:=.agg #[iI 0,.bool false,.bool false,iI 0,.func (.func 36) #[pP S] #[]]) Tryz.dK underlying28 (Go.WideMaps.keyOf_string_mk underlying9 Og);obtain⟨U6,f20,e20,m20,S9,t20⟩:=m19.put (t:=28) (e:=73) (x:=sT ⟨#[104,101,108,112]⟩) (v:=.agg #[iI 0,.bool false,.bool false,iI 0,.func (.func 37) #[pP S] #[]]) Tryz.dK underlying28 (Go.WideMaps.keyOf_string_mk underlying9 Og);have HB:Hid (bW w U6):=by exact zBt
 have HK:Hid (lY U6 w.heap.size S):=by
  refine⟨f20,m20,fun x=>?_⟩
  cases q:nF x with
  |some k=>
   have e:=wH q
   subst e
   clear q
   cases k using Kd.each
   ·exact(S9.2 _ (aL oe)).trans ((X4.2 _ (aL oe)).trans ((Y1.2 _ (aL oe)).trans ((p17.2 _ (aL oe)).trans ((p16.2 _ (aL oe)).trans ((p15.2 _ (aL oe)).trans ((p14.2 _ (aL oe)).trans ((p13.2 _ (aL oe)).trans ((p12.2 _ (aL oe)).trans ((p11.2 _ (aL oe)).trans ((p10.2 _ (aL oe)).trans ((p9.2 _ (aL oe)).trans ((p8.2 _ (aL oe)).trans ((p7.2 _ (aL oe)).trans ((p6.2 _ (aL oe)).trans ((p5.2 _ (aL oe)).trans ((p4.2 _ (aL oe)).trans ((p3.2 _ (aL oe)).trans ((p2.2 _ (aL oe)).trans (p1.1)))))))))))))))))))
   ·exact(S9.2 _ (aL oe)).trans ((X4.2 _ (aL oe)).trans ((Y1.2 _ (aL oe)).trans ((p17.2 _ (aL oe)).trans ((p16.2 _ (aL oe)).trans ((p15.2 _ (aL oe)).trans ((p14.2 _ (aL oe)).trans ((p13.2 _ (aL oe)).trans ((p12.2 _ (aL oe)).trans ((p11.2 _ (aL oe)).trans ((p10.2 _ (aL oe)).trans ((p9.2 _ (aL oe)).trans ((p8.2 _ (aL oe)).trans ((p7.2 _ (aL oe)).trans ((p6.2 _ (aL oe)).trans ((p5.2 _ (aL oe)).trans ((p4.2 _ (aL oe)).trans ((p3.2 _ (aL oe)).trans (p2.1))))))))))))))))))
   ·exact(S9.2 _ (aL oe)).trans ((X4.2 _ (aL oe)).trans ((Y1.2 _ (aL oe)).trans ((p17.2 _ (aL oe)).trans ((p16.2 _ (aL oe)).trans ((p15.2 _ (aL oe)).trans ((p14.2 _ (aL oe)).trans ((p13.2 _ (aL oe)).trans ((p12.2 _ (aL oe)).trans ((p11.2 _ (aL oe)).trans ((p10.2 _ (aL oe)).trans ((p9.2 _ (aL oe)).trans ((p8.2 _ (aL oe)).trans ((p7.2 _ (aL oe)).trans ((p6.2 _ (aL oe)).trans ((p5.2 _ (aL oe)).trans ((p4.2 _ (aL oe)).trans (p3.1)))))))))))))))))
   ·exact(S9.2 _ (aL oe)).trans ((X4.2 _ (aL oe)).trans ((Y1.2 _ (aL oe)).trans ((p17.2 _ (aL oe)).trans ((p16.2 _ (aL oe)).trans ((p15.2 _ (aL oe)).trans ((p14.2 _ (aL oe)).trans ((p13.2 _ (aL oe)).trans ((p12.2 _ (aL oe)).trans ((p11.2 _ (aL oe)).trans ((p10.2 _ (aL oe)).trans ((p9.2 _ (aL oe)).trans ((p8.2 _ (aL oe)).trans ((p7.2 _ (aL oe)).trans ((p6.2 _ (aL oe)).trans ((p5.2 _ (aL oe)).trans (p4.1))))))))))))))))
   ·exact(S9.2 _ (aL oe)).trans ((X4.2 _ (aL oe)).trans ((Y1.2 _ (aL oe)).trans ((p17.2 _ (aL oe)).trans ((p16.2 _ (aL oe)).trans ((p15.2 _ (aL oe)).trans ((p14.2 _ (aL oe)).trans ((p13.2 _ (aL oe)).trans ((p12.2 _ (aL oe)).trans ((p11.2 _ (aL oe)).trans ((p10.2 _ (aL oe)).trans ((p9.2 _ (aL oe)).trans ((p8.2 _ (aL oe)).trans ((p7.2 _ (aL oe)).trans ((p6.2 _ (aL oe)).trans (p5.1)))))))))))))))
   ·exact(S9.2 _ (aL oe)).trans ((X4.2 _ (aL oe)).trans ((Y1.2 _ (aL oe)).trans ((p17.2 _ (aL oe)).trans ((p16.2 _ (aL oe)).trans ((p15.2 _ (aL oe)).trans ((p14.2 _ (aL oe)).trans ((p13.2 _ (aL oe)).trans ((p12.2 _ (aL oe)).trans ((p11.2 _ (aL oe)).trans ((p10.2 _ (aL oe)).trans ((p9.2 _ (aL oe)).trans ((p8.2 _ (aL oe)).trans ((p7.2 _ (aL oe)).trans (p6.1))))))))))))))
   ·exact(S9.2 _ (aL oe)).trans ((X4.2 _ (aL oe)).trans ((Y1.2 _ (aL oe)).trans ((p17.2 _ (aL oe)).trans ((p16.2 _ (aL oe)).trans ((p15.2 _ (aL oe)).trans ((p14.2 _ (aL oe)).trans ((p13.2 _ (aL oe)).trans ((p12.2 _ (aL oe)).trans ((p11.2 _ (aL oe)).trans ((p10.2 _ (aL oe)).trans ((p9.2 _ (aL oe)).trans ((p8.2 _ (aL oe)).trans (p7.1)))))))))))))
   ·exact(S9.2 _ (aL oe)).trans ((X4.2 _ (aL oe)).trans ((Y1.2 _ (aL oe)).trans ((p17.2 _ (aL oe)).trans ((p16.2 _ (aL oe)).trans ((p15.2 _ (aL oe)).trans ((p14.2 _ (aL oe)).trans ((p13.2 _ (aL oe)).trans ((p12.2 _ (aL oe)).trans ((p11.2 _ (aL oe)).trans ((p10.2 _ (aL oe)).trans ((p9.2 _ (aL oe)).trans (p8.1))))))))))))
   ·exact(S9.2 _ (aL oe)).trans ((X4.2 _ (aL oe)).trans ((Y1.2 _ (aL oe)).trans ((p17.2 _ (aL oe)).trans ((p16.2 _ (aL oe)).trans ((p15.2 _ (aL oe)).trans ((p14.2 _ (aL oe)).trans ((p13.2 _ (aL oe)).trans ((p12.2 _ (aL oe)).trans ((p11.2 _ (aL oe)).trans ((p10.2 _ (aL oe)).trans (p9.1)))))))))))
   ·exact(S9.2 _ (aL oe)).trans ((X4.2 _ (aL oe)).trans ((Y1.2 _ (aL oe)).trans ((p17.2 _ (aL oe)).trans ((p16.2 _ (aL oe)).trans ((p15.2 _ (aL oe)).trans ((p14.2 _ (aL oe)).trans ((p13.2 _ (aL oe)).trans ((p12.2 _ (aL oe)).trans ((p11.2 _ (aL oe)).trans (p10.1))))))))))
   ·exact(S9.2 _ (aL oe)).trans ((X4.2 _ (aL oe)).trans ((Y1.2 _ (aL oe)).trans ((p17.2 _ (aL oe)).trans ((p16.2 _ (aL oe)).trans ((p15.2 _ (aL oe)).trans ((p14.2 _ (aL oe)).trans ((p13.2 _ (aL oe)).trans ((p12.2 _ (aL oe)).trans (p11.1)))))))))
   ·exact(S9.2 _ (aL oe)).trans ((X4.2 _ (aL oe)).trans ((Y1.2 _ (aL oe)).trans ((p17.2 _ (aL oe)).trans ((p16.2 _ (aL oe)).trans ((p15.2 _ (aL oe)).trans ((p14.2 _ (aL oe)).trans ((p13.2 _ (aL oe)).trans (p12.1))))))))
   ·exact(S9.2 _ (aL oe)).trans ((X4.2 _ (aL oe)).trans ((Y1.2 _ (aL oe)).trans ((p17.2 _ (aL oe)).trans ((p16.2 _ (aL oe)).trans ((p15.2 _ (aL oe)).trans ((p14.2 _ (aL oe)).trans (p13.1)))))))
   ·exact(S9.2 _ (aL oe)).trans ((X4.2 _ (aL oe)).trans ((Y1.2 _ (aL oe)).trans ((p17.2 _ (aL oe)).trans ((p16.2 _ (aL oe)).trans ((p15.2 _ (aL oe)).trans (p14.1))))))
   ·exact(S9.2 _ (aL oe)).trans ((X4.2 _ (aL oe)).trans ((Y1.2 _ (aL oe)).trans ((p17.2 _ (aL oe)).trans ((p16.2 _ (aL oe)).trans (p15.1)))))
   ·exact(S9.2 _ (aL oe)).trans ((X4.2 _ (aL oe)).trans ((Y1.2 _ (aL oe)).trans ((p17.2 _ (aL oe)).trans (p16.1))))
   ·exact(S9.2 _ (aL oe)).trans ((X4.2 _ (aL oe)).trans ((Y1.2 _ (aL oe)).trans (p17.1)))
   ·exact(S9.2 _ (aL oe)).trans ((X4.2 _ (aL oe)).trans (Y1.1))
   ·exact(S9.2 _ (aL oe)).trans (X4.1)
   ·exact S9.1
  |none=>
   have hn:=aCn q
   have dM:∀k:Kd,Value.string x≠sT k.name:=fun k e=>hn k (by injection e with e;exact e.symm)
   exact(S9.2 _ (dM Kd.wB)).trans ((X4.2 _ (dM Kd.clear_)).trans ((Y1.2 _ (dM Kd.real_)).trans ((p17.2 _ (dM Kd.pM)).trans ((p16.2 _ (dM Kd.gP)).trans ((p15.2 _ (dM Kd.eD)).trans ((p14.2 _ (dM Kd.kY)).trans ((p13.2 _ (dM Kd.jV)).trans ((p12.2 _ (dM Kd.oC)).trans ((p11.2 _ (dM Kd.qL)).trans ((p10.2 _ (dM Kd.mF)).trans ((p9.2 _ (dM Kd.pY)).trans ((p8.2 _ (dM Kd.pV)).trans ((p7.2 _ (dM Kd.iC)).trans ((p6.2 _ (dM Kd.oZ)).trans ((p5.2 _ (dM Kd.iV)).trans ((p4.2 _ (dM Kd.bytes_)).trans ((p3.2 _ (dM Kd.oU)).trans ((p2.2 _ (dM Kd.oW)).trans ((p1.2 _ (dM Kd.qX)).trans (congrFun rfl _))))))))))))))))))))
 have hz:=zeroValue73;have Hw:Hid (w.heap.size=w.heap.size):=rfl;clear p1 p2 p3 p4 p5 p6 p7 p8 p9 p10 p11 p12 p13 p14 p15 p16 p17 Y1 X4 S9 t1 t2 t3 t4 t5 t6 t7 t8 t9 P5 t11 t12 t13 Y8 t15 t16 t17 t18 t19 t20 m0 m1 m2 m3 m4 m5 m6 m7 m8 m9 m10 m11 m12 S4 F7 m15 m16 m17 m18 m19 m20;go_enter func8,ntmps8;go_wp2_with fail;go_ret;exact⟨w.heap.size,rfl,kF _,HK.out,HB.out⟩
end
def aJv(k:Nat):Bool:=decide (k=17)||(decide (81<=k)&&decide (k<=155))
theorem aZj(body:Code)(mP:(Tryz.f56.body.map cY).bind (fun l=>l[2]?)=some body)(Q:Exit->Act->World->Prop)(C n ca off cI base uX c12:Nat)(fa aC:Int)(cs:List Int)(r:cT)(ra:Option Addr)(rc:Nat)(G cap:Nat->Nat)(w:World)(hlen:cs.length=n)(hn:n<=16)(bIz:w.cell? (aA C 10)=some (iI fa))(hC3:w.cell? (aA C 3)=some (iI aC))(y11:w.cell? (aA C 11)=some (sV (some (aA ca off)) n cI))(M1:∀j,j<n->w.cell? (aA ca (off+j))=some (iI (cs.getD j 0)))(eE:∀x∈cs,-274877906944<=x/\x<=274877906944)(hj0:0<=aC)(hj1:aC<=137438953472)
  (hRT:RT w base (sL uX n c12) n n (fV r n fa aC cs 0) G cap)(qV:base<=w.heap.size)(hCb:C<base)(hcb:ca<base)(hr:dX w ra r.nR r.rn r.ro r.ri)(hrb:∀b off,ra=some (aA b off)->0<r.nR->b<base)(hL:r.nR<=9223372036854775807){L:List Value}(tC:L.length=452)(s0:L[0]?=some (pP C))(P4:L[11]?=some (iI n))(s12:L[12]?=some (sL uX n c12))(s79:L[79]?=some (sV ra r.nR rc))(s80:L[80]?=some (iI r.nR))(s81:L[81]?=some (iI 0))
  (cN:∀(L':List Value) (wr:World),RT wr base (sL uX n c12) n n (fV r n fa aC cs r.nR) G cap->Below base w wr->L'.length=452->Rest aJv L L'->L'[81]?=some (iI r.nR)->Q (.exit 4) ⟨L'.toArray,[]⟩ wr):
  Code.wp prog (Code.loop body) Q ⟨L.toArray,[]⟩ w:=by have dQ:((Tryz.f56.body.map cY).bind (fun l=>l[2]?)).getD Code.skip=body:=ey;exact zKs
section
theorem RT.tab{w:World}{base n uX c12:Nat}{f:Nat->Nat->Int}{G cap:Nat->Nat}(h:RT w base (sL uX n c12) n n f G cap):wZ w (some (aA uX 0)) (rowsOf n f):=fun hp=>by
 rw[pQ]at hp;have hl:=(h.own.lt uX rfl).2;refine⟨uX,0,rfl,hl,fun j hj=>?_⟩;rw[pQ]at hj;rw[tT n f hj];refine⟨_,cap j,?_,fun _=>⟨G j,0,rfl,(h.lt j hj).2,fun k hk=>?_⟩⟩
 ·have:=h.own.cells (g:=uX) rfl j (sV (some ⟨G j,0,none⟩) n (cap j)) (by simp[hj]);rw[nE]at this;rw[List.length_map,List.length_range];exact this
 ·exact zFk
section
variable{n f:Nat}{fa aC:Int}{cs:List Int}{r:cT}
theorem aVh(hf3:3*f+1<=n)(hj0:0<=aC)(hj1:aC<=137438953472)(uS:∀i,i<n->-274877906944<=cs.getD i 0/\cs.getD i 0<=274877906944){j:Nat}(hj:j<n):dR ((List.range n).map (readAll n (aW fa) aC (fun i=>cs.getD i 0) r.reads j)) f=0:=by refine uD Ez ?_;rw[Bool.eq_false_iff];intro hx;obtain⟨y,hy,M3⟩:=List.any_eq_true.1 hx;obtain⟨k,hk,rfl⟩:=List.mem_map.1 hy;have hk:=List.mem_range.1 hk;have:=xI (lies:=aW fa) hj0 hj1 uS r.reads j k hj hk;rw[vZ]at M3;omega
theorem aZo(hf3:3*f+1<=n)(hj0:0<=aC)(hj1:aC<=137438953472)(uS:∀i,i<n->-274877906944<=cs.getD i 0/\cs.getD i 0<=274877906944){j:Nat}(hj:j<n):-1374389534720<=mW n f (fun i=>cs.getD i 0) (readAll n (aW fa) aC (fun i=>cs.getD i 0) r.reads) j/\mW n f (fun i=>cs.getD i 0) (readAll n (aW fa) aC (fun i=>cs.getD i 0) r.reads) j<=1374389534720:=have bLa:=0;zOd
theorem aVo(ca off cI uX c12 base:Nat)(G cap:Nat->Nat)(v:World)(mQ:pT v)(dI:cs.length=n)(hn:n<=16)(lK:1<=n)(hf3:3*f+1<=n)(hj0:0<=aC)(hj1:aC<=137438953472)(uS:∀i,i<n->-274877906944<=cs.getD i 0/\cs.getD i 0<=274877906944)(M1:∀j,j<n->v.cell? (aA ca (off+j))=some (iI (cs.getD j 0)))
  (hT:RT v base (sL uX n c12) n n (readAll n (aW fa) aC (fun i=>cs.getD i 0) r.reads) G cap):
  Calls prog 100 #[sV (some (aA ca off)) n cI,sL uX n c12,iI f] v fun ev w'=>∃g gc,ev=rT (tU #[sL g n gc,.agg #[iI 0,iI (-1)]])/\(v.heap.size<=g/\g<w'.heap.size/\(∀j,j<n->w'.cell? (aA g j)=some (iI (mW n f (fun i=>cs.getD i 0) (readAll n (aW fa) aC (fun i=>cs.getD i 0) r.reads) j)))/\∀j,w'.frozen? (aA g j)=false)/\bW v w':=by
 have bJd:ca<v.heap.size:=lt_of_cell (M1 0 od);have hs:=aZs (some (aA ca off)) (some (aA uX 0)) cI c12 cs (rowsOf n (readAll n (aW fa) aC (fun i=>cs.getD i 0) r.reads)) f v mQ (fun _=>⟨ca,off,rfl,bJd,fun j hj=>M1 j od⟩) hT.tab (by rw[pQ,dI]) od (fun q hq=>by
  obtain⟨i,_,rfl⟩:=List.mem_map.1 hq
  simp;omega) 0 0 (-1) (.inl ⟨fun j hj=>by
   show fQ cs.length (cs.getD j 0) ((rowsOf n (readAll n (aW fa) aC (fun i=>cs.getD i 0) r.reads)).getD j []) f=0
   rw[tT n _ od]
   rw[sC (by simp[dI]) (by rw[tL];have:=uS j od;omega)]
   exact aVh hf3 hj0 hj1 uS od,rfl,rfl⟩) rfl
 rw[pQ,dI]at hs;refine hs.mono ?_;rintro e w' ⟨x,he,ho,_,hb⟩;have ho:=ho rfl;rcases ho.2 with⟨_,e0⟩|⟨g,gc,cur,hx,hg,hh,_⟩
 ·omega
 ·have tE:g<w'.heap.size:=by exact zE2
  refine⟨g,gc,by rw[he,hx],⟨hg,tE,fun j hj=>?_,fun j=>by simp[World.frozen?,hh]⟩,hb⟩;have:=ho.cells (g:=g) (by rw[hx];rfl) j (iI (mW n f (fun i=>cs.getD i 0) (readAll n (aW fa) aC (fun i=>cs.getD i 0) r.reads) j)) (by
   have hlj:j<(rZ cs (rowsOf n (readAll n (aW fa) aC (fun i=>cs.getD i 0) r.reads)) f n).length:=by rw[aCw];exact hj
   rw[List.getElem?_map,List.getElem?_eq_getElem hlj]
   simp only[rZ,List.getElem_map,List.getElem_range,Option.map_some]
   rw[tT n _ hj,rK (aVh hf3 hj0 hj1 uS hj),Int.toNat_natCast]
   rfl)
  exact zCx
end
section
variable{w:World}{O Z:List Nat}{C:Nat}{p:aQ}{fa:Int}{cs:List Int}{s:cA}{rd:Int}{B:Nat}{m:iD}
theorem jJ.closed(h:jJ w O Z C p fa cs s rd B m){g gc:Nat}{cs':List Int}(hg:g<w.heap.size)(hgO:g∉O)(hgZ:g∉Z)(sP:∀j,j<cs'.length->w.cell? (aA g j)=some (iI (cs'.getD j 0)))(Y4:Int):
  jJ ((w.setCell (aA C 16) (iI Y4)).setCell (aA C 11) (sL g cs'.length gc)) (g::O) Z C p fa cs' s Y4 B { m with X:=g::m.X,ca:=some (aA g 0),cI:=gc }/\aU C C w ((w.setCell (aA C 16) (iI Y4)).setCell (aA C 11) (sL g cs'.length gc)):=by have hT:aU C C w ((w.setCell (aA C 16) (iI Y4)).setCell (aA C 11) (sL g cs'.length gc)):=((aU.refl C C w).set (p:=(aA C 16)) (.inl rfl) _).set (p:=(aA C 11)) (.inl rfl) _;have m71:=0;exact zKn
end
end
section
variable{C R base i k:Nat}{Z fT:List Nat}{a:iH}{iT iU:Value}{m0:iD}{p:aQ}{v w w':World}
def zOf(p:aQ)(a:iH):List Nat:=(if 0<p.ns then(a.sa.map Addr.block).toList else[])++(if 0<p.nl then(a.la.map Addr.block).toList else[])
theorem aG3(h:p.In a w){c:Nat}(hc:c∈zOf p a):c<w.heap.size:=by
 unfold zOf at hc;rcases kL hc with y|y
 ·by_cases h0:0<p.ns
  ·rw[kJ h0]at y;obtain⟨b,off,e,hb,_⟩:=h.iM h0;rw[e]at y;have:c=b:=Ea;omega
  ·rw[kI h0]at y;cases y
 ·by_cases h0:0<p.nl
  ·rw[kJ h0]at y;obtain⟨b,off,e,hb,_⟩:=h.aN h0;rw[e]at y;have:c=b:=Ea;omega
  ·rw[kI h0]at y;cases y
def rU(w:World)(p:aQ)(a:iH)(fa:Int)(cs:List Int)(e:Ending)(w':World):Prop:=
 bW w w'/\∃K I,qU p fa cs K I/\((K≠0/\e=rT (tU #[.pointer none,.agg #[iI K,iI I]]))\/
  (K=0/\∃O C m,e=rT (tU #[pP C,.agg #[iI 0,iI (-1)]])/\jJ w' O (zOf p a) C p fa cs cA.start 0 1 m/\∀c,c∈O->w.heap.size<=c))
theorem bCu(w:World)(a b c d e f g h i j:Value)(t:TypeId)(k l:Value)(t':TypeId)(V:World)(hV:(w.alloc (.cells #[a,b,c,d,e,f,g,h,i,j] t)).alloc (.cells #[k,l] t')=V):
  ((V.cell? (aA w.heap.size 0)=some a/\V.cell? (aA w.heap.size 1)=some b/\V.cell? (aA w.heap.size 2)=some c/\V.cell? (aA w.heap.size 3)=some d/\V.cell? (aA w.heap.size 4)=some e)/\V.cell? (aA w.heap.size 5)=some f/\V.cell? (aA w.heap.size 6)=some g/\V.cell? (aA w.heap.size 7)=some h/\V.cell? (aA w.heap.size 8)=some i/\V.cell? (aA w.heap.size 9)=some j)/\(V.cell? (aA (w.heap.size+1) 0)=some k/\V.cell? (aA (w.heap.size+1) 1)=some l/\∀q,V.frozen? (aA (w.heap.size+1) q)=false)/\bW w V/\V.heap.size=w.heap.size+1+1:=by subst hV;have hE:(w.alloc (.cells #[a,b,c,d,e,f,g,h,i,j] t)).heap.size=w.heap.size+1:=oh;have n0:=World.cell?_alloc_new (w.alloc (.cells #[a,b,c,d,e,f,g,h,i,j] t)) #[k,l] t' 0;have n1:=World.cell?_alloc_new (w.alloc (.cells #[a,b,c,d,e,f,g,h,i,j] t)) #[k,l] t' 1;rw[hE]at n0 n1;refine⟨⟨⟨oh,oh,oh,oh,oh⟩,oh,oh,oh,oh,oh⟩,⟨n0,n1,fun q=>?_⟩,((kX _ _).alloc (kF _) _).alloc oh _,oh⟩;rw[<-hE];simp
theorem bCx(n:Nat)(h:n<=16):1<=(2:Int)^n/\(2:Int)^n<=65536:=zCm
theorem bEt(v:World)(E I:Value)(t:TypeId)(V:World)(hV:v.alloc (.cells #[E,I] t)=V):V.cell? (aA v.heap.size 0)=some E/\V.cell? (aA v.heap.size 1)=some I/\bW v V/\V.heap.size=v.heap.size+1:=by subst hV;exact⟨oh,oh,(kX _ _).alloc (kF _) _,oh⟩
theorem rU.bad{fa:Int}{cs:List Int}{K:Int}(hN:qU p fa cs K (-1))(hK:K≠0)(hB:bW w v):rU w p a fa cs (rT (tU #[.pointer none,.agg #[iI K,iI (-1)]])) v:=⟨hB,K,-1,hN,.inl ⟨hK,rfl⟩⟩
theorem aP7{E I x0 x1:Value}(h0:v.cell? (aA R 0)=some x0)(h1:v.cell? (aA R 1)=some x1):
  ((v.setCell (aA R 0) E).setCell (aA R 1) I).cell? (aA R 0)=some E/\((v.setCell (aA R 0) E).setCell (aA R 1) I).cell? (aA R 1)=some I/\aU R R v ((v.setCell (aA R 0) E).setCell (aA R 1) I):=
 ⟨(aB (.inr oe)).trans (aY h0),aY ((aB (.inr oe)).trans h1),((aU.refl _ _ _).set (p:=(aA R 0)) (.inl rfl) _).set (p:=(aA R 1)) (.inl rfl) _⟩
theorem Q6(p:aQ):∃E I,p.Is E I:=by
 show ∃E I,lS p.nodes p.aF p.aJ p.aC p.aH p.round p.frame p.ns p.nl p.nw p.nd p.fr p.td p.lf p.lt p.lb p.lq (fun j=>aW (p.lt j) (p.lf j).toNat) (2^p.nodes.toNat) p.wp p.wf p.wt E I;by_cases h:dJ p.nodes p.aF p.aJ p.aC p.aH p.round p.frame p.ns p.nl p.nw=0
 ·obtain⟨e1,i1,g1⟩:=bY.any (dH p.nd p.fr p.td p.nodes p.aJ p.round) p.ns;obtain⟨e2,i2,g2⟩:=bY.any (dC p.lf p.lt p.lb p.lq (fun j=>aW (p.lt j) (p.lf j).toNat) p.nodes (2^p.nodes.toNat)) p.nl;obtain⟨e3,i3,g3⟩:=bY.any (fH p.wp p.wf p.wt p.frame) p.nw;exact zBf
 ·exact⟨_,-1,.inl ⟨h,rfl,rfl⟩⟩
theorem aWn(h:p.In a w){m:iD}(hs:m.sa=a.sa)(hl:m.la=a.la):I0 w (zOf p a) p m:=by
 refine⟨fun h0=>?_,fun h0=>?_,fun c hc=>aG3 h hc⟩
 ·obtain⟨b,off,e,hb,hc⟩:=h.iM h0;exact⟨b,off,hs.trans e,by unfold zOf;rw[kJ h0,e];exact kK (.inl (List.mem_singleton.2 rfl)),hc⟩
 ·obtain⟨b,off,e,hb,hc⟩:=h.aN h0;exact⟨b,off,hl.trans e,by unfold zOf;rw[kJ h0,e];exact kK (.inr (List.mem_singleton.2 rfl)),hc⟩
theorem aZ5{v2 v3 v6:World}{N n cI tb pb:Nat}{fa:Int}{cs:List Int}{ca2:Option Addr}(hM:Made v2 v3 C (aNz N p.aF p.aJ p.aC p.aH p.round p.frame a.sa p.ns a.sc a.la p.nl a.lc a.wa p.nw a.wc fa ca2 n cI tb pb) cs ca2 cI fT tb pb)
  (hz:NMz v6 v2.heap.size (zOf p a) C p (fun q=>v3.cell? (aA C q)) fT (aEh a.sa a.sc a.la a.lc ca2 cI tb pb) iT p.nl)(hT:aU C tb v3 v6)(lK:1<=p.n)(hN:p.nodes=(N:Int))(hlen:cs.length=n)(hIn:p.In a v6)(hZ:∀c,c∈zOf p a->c<v2.heap.size):
  ∃O m,jJ v6 O (zOf p a) C p fa cs cA.start 0 1 m/\∀c,c∈O->v2.heap.size<=c:=by
 obtain⟨iU,Of,m,⟨⟨f1,f2⟩,⟨f3,f4⟩,⟨f5,f6⟩,f7,f8⟩,h⟩:=hz;refine h.done (fa:=fa) (cs:=cs) (fun a b ha hb=>by unfold X6;simp[ha,hb]) lK ?_ (hM.cel 1 _ rfl) (hM.cel 3 _ rfl) (hM.cel 4 _ rfl) (hM.cel 5 _ rfl) ?_ ?_ (hM.cel 10 _ rfl) ?_ ?_ ?_ (hM.cel 16 _ rfl) (fun h0=>?_) (aWn hIn f3 f5) hZ
 ·rw[hN];exact hM.cel 0 _ rfl
 ·rw[f3,f4];exact hM.cel 6 _ rfl
 ·rw[f5,f6];exact hM.cel 7 _ rfl
 ·rw[f7,f8,hlen];exact hM.cel 11 _ rfl
 ·rw[f1];exact hM.cel 14 _ rfl
 ·rw[f2];exact hM.cel 15 _ rfl
 ·obtain⟨b,e,hb,hc⟩:=hM.row h0;have hk:=hM.lk b hb;exact⟨b,0,f7.trans e,hb,fun j hj=>by rw[Nat.zero_add];exact(hT.cell (p:=(aA b j)) hk.2.1 hk.2.2.2.2 hk.2.2.1).trans (hc j hj)⟩
theorem Z3.below{cc:Nat->Option Value}{T:Nat->Nat->Bool}(h:Z3 w base Z C p cc fT m0 i k T iT iU)(b:bW w w'):Z3 w' base Z C p cc fT m0 i k T iT iU:=by obtain⟨Of,m,hf,hn⟩:=h;exact⟨Of,m,hf,hn.below b⟩
theorem Z3.c13{cc:Nat->Option Value}{T:Nat->Nat->Bool}(h:Z3 w base Z C p cc fT m0 i k T iT iU):w.cell? (aA C 13)=some iU:=by obtain⟨Of,m,hf,hn⟩:=h;exact hn.c13
theorem Z3.bEp{cc:Nat->Option Value}{T:Nat->Nat->Bool}(h:Z3 w base Z C p cc fT m0 i k T iT iU)(q:Nat)(h12:q≠12)(h13:q≠13):w.cell? (aA C q)=cc q:=by obtain⟨Of,m,hf,hn⟩:=h;exact hn.cel q h12 h13
theorem aU.wide{P Q:Nat}(h:aU P P w w'):aU P Q w w':=⟨h.os,h.tape,h.output,h.size,fun c hc h1 _=>h.block c hc h1 h1⟩
theorem Same.jD{X:List Nat}(h:aU R R w w')(hl:∀c,c∈X->c<w.heap.size)(hn:∀c,c∈X->c≠R):Same X w w':=⟨h.size,fun c hc=>h.block c (hl c hc) (hn c hc) (hn c hc)⟩
theorem bHu(p:aQ)(a:iH)(w:World)(h:p.In a w)(hf:pT w){E I:Int}(hC:p.Is E I):Calls prog 94 #[p.val a] w fun e w'=>e=rT (.agg #[iI E,iI I])/\bW w w':=
 aEu p.nodes p.aF p.aJ p.aC p.aH p.round p.frame a.sa a.la a.wa p.ns a.sc p.nl a.lc p.nw a.wc p.nd p.fr p.td p.lf p.lt p.lb p.lq _ _ p.wp p.wf p.wt E I w h.iM h.aN h.aWh rfl (fun j h0 h1=>(zT (p.lt j) od).symm) hf hC
end
theorem aVj(p:aQ)(a:iH)(fa:Int)(ca:Option Addr)(cap:Nat)(cs:List Int)(w:World)(hIn:p.In a w)(hC:bE w ca cs)(dI:cs.length<=2000)(mQ:pT w):
  Calls prog 52 #[p.val a,iI fa,sV ca cs.length cap] w fun e w'=>rU w p a fa cs e w':=by
 obtain⟨E,I,hIs⟩:=Q6 p;have aKq:=fun(u:World)(h1:p.In a u)(h2:pT u)=>bHu p a u h1 h2 hIs;unfold aQ.val at aKq⊢;obtain⟨V,hV⟩:∃V,(w.alloc (.cells #[iI p.nodes,iI p.aF,iI p.aJ,iI p.aC,iI p.aH,iI p.round,sV a.sa p.ns a.sc,sV a.la p.nl a.lc,iI p.frame,sV a.wa p.nw a.wc] 51)).alloc (.cells #[iI 0,iI 0] 98)=V:=⟨_,rfl⟩;obtain⟨⟨⟨b0,b1,b2,b3,b4⟩,b5,b6,b7,b8,b9⟩,⟨r0,r1,rz⟩,hBV,hVs⟩:=bCu w _ _ _ _ _ _ _ _ _ _ _ _ _ _ V hV;have M1:=aKq V (hIn.below hBV) (mQ.below hBV);have HIn:Hid (p.In a w/\bE w ca cs/\pT w):=⟨hIn,hC,mQ⟩;have HBV:Hid (bW w V/\V.heap.size=w.heap.size+1+1):=⟨hBV,hVs⟩;have tQ:w.heap.size<V.heap.size:=od;have N5:w.heap.size+1<V.heap.size:=od;have HIs:Hid (p.Is E I):=hIs;obtain⟨n,hlen⟩:∃n,cs.length=n:=⟨_,rfl⟩;have C8:Hid (cs.length=n):=hlen;rw[hlen]at dI⊢;clear aKq hIn hC hBV hVs hIs mQ hlen;go_enter func52,ntmps52;go_wp2_with fail;refine M1.mono ?_;rintro e v1 ⟨rfl,uY⟩;obtain⟨v2,hv2⟩:∃v2,v1.alloc (.cells #[iI E,iI I] 98)=v2:=⟨_,rfl⟩;obtain⟨f0,f1,xR,hs2⟩:=bEt v1 _ _ _ v2 hv2;have hv1:=uY.size;have uN:Hid (bW V v2):=uY.trans (xR.mono uY.size);have H8:Hid (bW w v2):=HBV.out.1.trans (uN.out.mono od);have y0:=bc uN.out tQ b0;have x0:=bc uN.out N5 r0;have x1:=bc uN.out N5 r1;have q0:=(uN.out.frozen (p:=(aA (w.heap.size+1) 0)) N5).trans (rz 0);have q1:=(uN.out.frozen (p:=(aA (w.heap.size+1) 1)) N5).trans (rz 1);have hlv:w.heap.size+1<v2.heap.size:=od;have bJs:w.heap.size<v2.heap.size:=od;have lK:v1.heap.size≠w.heap.size+1:=od;have wC:w.heap.size+1≠v1.heap.size:=Ne.symm lK;clear M1 uY hv1 xR;by_cases hE:E=0;rotate_left
 ·have kE:(E !=0)=true:=by simpa using hE
  have bI2:Hid (∀v,bW w v->rU w p a fa cs (rT (tU #[.pointer none,.agg #[iI E,iI I]])) v):=fun v hv=>⟨hv,E,I,.inl ⟨E,HIs.out,hE,rfl⟩,.inl ⟨hE,rfl⟩⟩;obtain⟨c0,c1,hT⟩:=aP7 (E:=iI E) (I:=iI I) x0 x1;have lT:Hid (bW w ((v2.setCell (aA (w.heap.size+1) 0) (iI E)).setCell (aA (w.heap.size+1) 1) (iI I))):=H8.out.trans (hT.below od od od);clear hT;go_wp2_with fail;go_region;all_goals(
   go_wp2
   exact bodyPost_ret (v:=tU #[.pointer none,.agg #[iI E,iI I]]) ed rfl (bI2.out _ lT.out.drew))
 ·subst hE;have HPB:Hid (Z4 p):=HIs.out.bounds;have aXz:1<=p.n:=by have:=HPB.out.n1;unfold aQ.n;omega
  have mR:p.n<=16:=by have:=HPB.out.n2;unfold aQ.n;omega
  have jB:p.nodes=(p.n:Int):=by have:=HPB.out.n1;unfold aQ.n;omega
  rw[jB]at y0;obtain⟨N,hN⟩:∃N,p.n=N:=⟨_,rfl⟩;have HN:Hid (p.n=N):=hN;have HNN:Hid (p.nodes=(p.n:Int)):=jB;rw[hN]at y0 aXz mR;have hpw:1<=(2:Int)^N/\(2:Int)^N<=65536:=bCx N mR;have hca:=wG fa 0 (2^N-1) v2;have A8:Hid (I=-1):=HIs.out.neg;have HIS:Hid (p.Is 0 (-1)):=A8.out▸HIs.out;clear hN jB;by_cases hk:0<=fa/\fa<=2^N-1;rotate_left
  ·rw[kC hk]at hca;have HNO:Hid (qU p fa cs 1 (-1)):=.inr ⟨HIS.out,rfl,.inl ⟨fun y=>hk ⟨y.1,by have:=y.2.1;rw[HN.out]at this;omega⟩,rfl⟩⟩;go_wp2_with fail;refine hca.mono ?_;rintro ev u2 ⟨rfl,fP⟩;replace fP:=fP.symm;subst fP;clear hca;go_wp2_with fail;refine(rY 1 _).mono ?_;rintro ev u9 ⟨rfl,W7⟩;have g0:=aO x0 W7;have g1:=aO x1 W7;have k0:=(W7.frozen (p:=(aA (w.heap.size+1) 0)) hlv).trans q0;have k1:=(W7.frozen (p:=(aA (w.heap.size+1) 1)) hlv).trans q1;obtain⟨c0,c1,hT⟩:=aP7 (E:=iI 1) (I:=iI (-1)) g0 g1;have lT:Hid (bW w ((u9.setCell (aA (w.heap.size+1) 0) (iI 1)).setCell (aA (w.heap.size+1) 1) (iI (-1)))):=(btr H8.out W7).trans (hT.below (kG (kV bJs) W7.size) (kR _) (kR _));exact zEm
  ·rw[kD hk]at hca;have HFA:Hid (0<=fa/\fa<2^p.n):=⟨hk.1,by rw[HN.out];omega⟩;go_wp2_with fail;refine hca.mono ?_;rintro ev u2 ⟨rfl,fP⟩;replace fP:=fP.symm;subst fP;clear hca hk;have y1:=bc uN.out tQ b1;have y2:=bc uN.out tQ b2;have y3:=bc uN.out tQ b3;have y4:=bc uN.out tQ b4;have y5:=bc uN.out tQ b5;have y6:=bc uN.out tQ b6;have y7:=bc uN.out tQ b7;have y8:=bc uN.out tQ b8;have y9:=bc uN.out tQ b9;have hro:=HIn.out.2.1.below H8.out;go_wp2_with fail;refine aZ7 _ oq _ w.heap.size n cap fa ca cs N p.aF p.aJ p.aC p.aH p.round p.frame a.sa p.ns a.sc a.la p.nl a.lc a.wa p.nw a.wc v2 C8.out dI hro y0 y1 y2 y3 y4 y5 y6 y7 y8 y9 rfl rfl rfl rfl ?_;intro L2 C cI tb pb ca2 fT v3 hM pC pD t9;have bH3:=0;exact zN8
