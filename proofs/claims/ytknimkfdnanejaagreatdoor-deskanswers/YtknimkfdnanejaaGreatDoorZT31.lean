import Derived.Test.YtknimkfdnanejaaGreatDoorZT30
namespace Go.Proofs.YtknimkfdnanejaaGreatDoor
open Go.RowKit Go.Proofs.Tryz
set_option maxRecDepth 100000
set_option maxHeartbeats 16000000
section
section
variable{w:World}{base S:Nat}{M O X:List Nat}{st:gD}{A:gN}{N:Nat}
theorem iG.more(h:iG w base S M O st A N)(lo:∀c,c∈X->base<=c)(hi:∀c,c∈X->c<w.heap.size)(ap:∀c,c∈X->c∉O):iG w base S (X++M) O st A N:=
 ⟨{ h.r with
  s:=kK (.inr h.r.s)
  lo:=fun c q=>(kL q).elim (lo c) (h.r.lo c)
  hi:=fun c q=>(kL q).elim (hi c) (h.r.hi c)
  ap:=fun c q1 q2=>(kL q2).elim (fun q=>ap c q q1) (h.r.ap c q1)
  bS:=fun g e=>kK (.inr (h.r.bS g e))
  bL:=fun g e=>kK (.inr (h.r.bL g e))
  bO:=fun g e=>kK (.inr (h.r.bO g e))
  bR:=fun g e=>kK (.inr (h.r.bR g e))
  bD:=fun b off e h0=>⟨kK (.inr (h.r.bD b off e h0).1),(h.r.bD b off e h0).2⟩
  bM:=fun b off e h0=>⟨kK (.inr (h.r.bM b off e h0).1),(h.r.bM b off e h0).2⟩
  clu:=fun fa cs c rd T e=>⟨(h.r.clu fa cs c rd T e).1.keep ⟨kF _,fun _ _=>rfl⟩ (fun _ hx _=>⟨kK (.inr hx),rfl⟩),(h.r.clu fa cs c rd T e).2⟩ },h.blk⟩
theorem gU.more{k:Kd}{n:List Int}{tx:ByteArray}{e:Ending}{w':World}(h:gU base S M O st N k n tx w e w'):gU base S (X++M) O st N k n tx w e w':=zBn
theorem aKs{C:Nat}{p:aQ}{fa:Int}{cs:List Int}{s:cA}{rd:Int}{T:Nat}(h:A3 w M O C p fa cs s rd T):gW (dA (dW fa cs)):=by obtain⟨_,_,_,_,lF,_⟩:=h;exact zE9
theorem aQp(k:Kd)(h:iG w base S M O st A N)(hD:cB base w)(hFi:xP base w)(xZ:kZ st k=true)(wF:st.Small)(hN:N<=3000)(n:List Int)(tx:ByteArray)(A5:aDd k n)(hlen:n.length<=1500)(eE:∀x∈n,gW x)
  (a:Option Addr)(cap:Nat)(hcap:n.length<=cap)(hr:bE w a n)(hX:∀b off,a=some (aA b off)->b∈X/\∃cs fr,w.heap[b]?=some (.cells cs 3 fr))(lo:∀c,c∈X->base<=c)(hi:∀c,c∈X->c<w.heap.size)(ap:∀c,c∈X->c∉M++O)
  (va:Value)(hva:k=.oZ->∃wb P8 aNc,va=sV (some (aA wb P8)) 2 aNc/\w.cell? (aA wb (P8+1))=some (sT tx)/\wb<w.heap.size/\wb∉M++O):
  Calls prog 15 #[pP S,sT k.name,va,sV a n.length cap] w (gU base S (X++M) O st N k n tx w):=have S4:=0;zI1
end
end
section
section
variable{w:World}{base S:Nat}{M O X:List Nat}{st:gD}{A:gN}{N:Nat}
theorem iG.aYt(h:iG w base S M O st A N)(hN:N<=3000):st.bAv where
 clu:=fun fa cs c rd T e=>by
  obtain⟨⟨_,_,_,_,h1,h2,h3⟩,h4⟩:=h.r.clu fa cs c rd T e
  exact⟨h1,h2,od⟩
 ns:=h.r.ns
 nl:=h.r.nl
def aSc(s:ByteArray)(K:Int)(out:ByteArray):Prop:=fG K/\out.size<=500/\(K=0->out=s)/\(K≠0->out=dS K)
def oQ(base S:Nat)(M O:List Nat)(st:gD)(N:Nat)(cO:ByteArray)(w:World)(s:ByteArray)(K:Int)(w':World):Prop:=
 ∃qQ out M' O' A',aSc s K out/\fK st cO qQ out/\qQ.Small/\aS (M++O) (M'++O') w w'/\iG w' base S M' O' qQ A' (N+1)
theorem oQ.same(h:iG w base S M O st A N)(wF:st.Small){cO s out:ByteArray}{K:Int}(hl:fK st cO st out)(ht:aSc s K out){w':World}(hb:bW w w'):oQ base S M O st N cO w s K w':=
 ⟨st,out,M,O,A,ht,hl,wF,aS.of_below hb,(h.below hb).later (kR N)⟩
theorem zN{s:ByteArray}{K:Int}(h:fG K)(h0:K≠0):aSc s K (dS K):=⟨h,by have:=sF h;omega,fun q=>absurd q h0,fun _=>rfl⟩
theorem aMe(k:Kd)(h:iG w base S M O st A N)(hD:cB base w)(hFi:xP base w)(wF:st.Small)(hN:N<=3000){cO x:ByteArray}{ws:List ByteArray}{y:List Int×ByteArray}(hw:fA cO=x::ws)(hk:nF x=some k)(hrp:qN k.m k.more k.text ws=some y)(hlen:y.1.length<=1500)
  (a:Option Addr)(cap:Nat)(hcap:y.1.length<=cap)(hr:bE w a y.1)(hX:∀b off,a=some (aA b off)->b∈X/\∃cs fr,w.heap[b]?=some (.cells cs 3 fr))(lo:∀c,c∈X->base<=c)(hi:∀c,c∈X->c<w.heap.size)(ap:∀c,c∈X->c∉M++O)
  (va:Value)(hva:k=.oZ->∃wb P8 aNc,va=sV (some (aA wb P8)) 2 aNc/\w.cell? (aA wb (P8+1))=some (sT y.2)/\wb<w.heap.size/\wb∉M++O):
  Calls prog 15 #[pP S,sT x,va,sV a y.1.length cap] w fun e w'=>∃s K,e=rT (tU #[sT s,iI K])/\oQ base S (X++M) O st N cO w s K w':=by
 have hn:=wH hk;have hm:=h.more (X:=X) lo hi (fun c q1 q2=>ap c q1 (kK (.inr q2)))
 cases xZ:kZ st k with
 |true=>
  rw[<-hn]
  refine(aQp k h hD hFi xZ wF hN y.1 y.2 (l8 hrp).1 hlen (l8 hrp).2.2 a cap hcap hr hX lo hi ap va hva).mono ?_
  rintro e w' ⟨qQ,r,M',O',A',hd,ht,hf,hs⟩
  have hLI:=fK.aKg (st:=st) hw hk hrp xZ hd
  have hsh:=hd.short wF (h.aYt hN)
  have bFz:=wF.aKg hd
  cases r with
  |inl K=>
   obtain⟨h0,s,rfl⟩:=ht
   exact⟨s,K,rfl,qQ,_,M',O',A',zN hsh h0,hLI,bFz,hf,hs⟩
  |inr s=>
   have he:e=rT (tU #[sT s,iI 0]):=ht
   exact⟨s,0,he,qQ,s,M',O',A',⟨⟨od,od⟩,hsh,fun _=>rfl,fun q=>absurd rfl q⟩,hLI,bFz,hf,hs⟩
 |false=>
  have hs:=aQo k h xZ va (sV a y.1.length cap)
  rw[hn]at hs
  refine hs.mono ?_
  rintro e w' ⟨rfl,rfl⟩
  exact⟨_,6,rfl,oQ.same hm wF (.state hw hk hrp xZ) (zN ⟨od,od⟩ oe) (kX _ _)⟩
end
end
section
variable{M O:List Nat}{S k:Nat}{cO s x:ByteArray}{st:gD}{u w wr:World}
theorem aUc{base n:Nat}{v:Value}{l:List ByteArray}(h:w.ownsRow base 9 1 v n (l.map Value.string))(hn:1<=n):∃g cap,v=sL g n cap/\base<=g/\g<w.heap.size/\n<=cap/\∀j,j<n->w.cell? (aA g j)=some (sT (l.getD j ByteArray.empty)):=by
 obtain⟨g,cap,rfl,hg,hc⟩:=pX h hn;have hlen:l.length=n:=by have:=h.1;simpa using this
 exact⟨g,cap,rfl,hg,(h.lt g rfl).2,aAj h,fun j hj=>by
  have:=hc j (sT (l.getD j ByteArray.empty)) (by rw[List.getElem?_map,List.getD_eq_getElem?_getD,List.getElem?_eq_getElem od];rfl)
  rwa [nE,Nat.zero_add]at this⟩
theorem G6(c:UInt8):∀l,(cL c l).length<=l.length+1
 |[]=>by simp[cL]
 |x::r=>by
  have h:=G6 c r;unfold cL;split
  ·simp only[List.length_cons];omega
  ·simp only[List.length_cons,List.length_tail];omega
theorem aRz(cO:ByteArray):sN (cL 32 cO.data.toList)=(fA cO).map Value.string:=by rw[U2];unfold sN;rw[List.map_map];rfl
theorem aB4(c:UInt8):∀l,((cL c l).filter (fun x=>decide (x≠[]))).length+(cL c l).length<=l.length+1
 |[]=>by simp[cL]
 |x::r=>by
  have h:=aB4 c r;unfold cL;split
  ·simp only[List.filter_cons,List.length_cons];rw[kI oh];omega
  ·have dM:=wP c r
   cases q:cL c r with
   |nil=>exact absurd q dM
   |cons a t=>
    rw[q]at h
    simp only[List.headD_cons,List.tail_cons,List.filter_cons,List.length_cons]at h⊢
    rw[kJ oh]
    simp only[List.length_cons]
    by_cases ha:a=[]
    ·rw[kI (by simp[ha])]at h;omega
    ·rw[kJ (by simp[ha])]at h;simp only[List.length_cons]at h;omega
theorem aS0(cO:ByteArray):2*(fA cO).length<=cO.size+1:=by have h:=aB4 32 cO.data.toList;have h2:cO.data.toList.length=cO.size:=Array.length_toList;have h3:=List.length_filter_le (fun x=>decide (x≠[])) (cL 32 cO.data.toList);rw[U2,List.length_map];omega
theorem oQ.next{w':World}{A:gN}{t:ByteArray}{K:Int}{pre os:List ByteArray}(h:oQ S S M O st k cO wr s K w')(hr:gA gD.start pre os st)(hl:(jO os).length<=501*k)(wE:iG wr S S M O st A k)(bT:Below S w wr)(h0:K=0->t=s)(h1:K≠0->t=dS K):
  ∃os' qQ M' O' A',(⟨(jO os).toArray⟩:ByteArray)++(t++⟨#[10]⟩)=⟨(jO os').toArray⟩/\Hid (gA gD.start (pre++[cO]) os' qQ/\qQ.Small/\(jO os').length<=501*(k+1))/\Hid (iG w' S S M' O' qQ A' (k+1))/\Hid (Below S w w'):=by
 obtain⟨qQ,out,M',O',A',⟨_,hz,t0,t1⟩,hL,wF,hf,hs⟩:=h;have ht:t=out:=by
  by_cases q:K=0
  ·rw[h0 q,t0 q]
  ·rw[h1 q,t1 q]
 subst ht;have e:=aAz os t;have h3:t.data.toList.length=t.size:=Array.length_toList;refine⟨os++[t],qQ,M',O',A',?_,⟨hr.snoc hL,wF,?_⟩,hs,bT.trans (hf.below wE.apart wE.low)⟩
 ·apply aCb;rw[e];simp[ByteArray.data_append]
 ·rw[e,List.length_append,List.length_append,List.length_cons,List.length_nil];omega
theorem oQ.from{v:World}{X:List Nat}{K:Int}(h:oQ S S (X++M) O st k cO v s K u)(hb:bW wr v)(hX:∀c,c∈X->wr.heap.size<=c):oQ S S M O st k cO wr s K u:=by
 obtain⟨qQ,out,M',O',A',h1,h2,h3,hf,h4⟩:=h;refine⟨qQ,out,M',O',A',h1,h2,h3,⟨hf.os.trans hb.os,hf.tape.trans hb.tape,hf.output.trans hb.output,kG hb.size hf.size,fun c hc hn=>(hf.block c (kB hc hb.size) (fun q=>?_)).trans (hb.block c hc),fun c hc=>?_⟩,h4⟩
 ·exact zDl
 ·rcases hf.fresh c hc with q|q
  ·rcases kL q with q|q
   ·rcases kL q with q|q
    ·exact .inr (hX c q)
    ·exact .inl (kK (.inl q))
   ·exact .inl (kK (.inr q))
  ·exact .inr (kG hb.size q)
theorem oQ.below{u':World}{K:Int}(h:oQ S S M O st k cO wr s K u)(hb:bW u u'):oQ S S M O st k cO wr s K u':=by obtain⟨qQ,out,M',O',A',h1,h2,h3,hf,h4⟩:=h;exact⟨qQ,out,M',O',A',h1,h2,h3,hf.trans (aS.of_below hb),h4.below hb⟩
def okV(fd:Bool)(kv:Int)(l:Nat):Bool:=fd&&((decide (kv≥0)&&decide ((l:Int)+1=kv+1))||(decide (kv<0)&&decide ((l:Int)+1>1)))
theorem aKx{ws:List ByteArray}(h:(okV (nF x).isSome (((nF x).map Kd.many).getD 0) ws.length&&lH (ws.take (gT x ws.length)))=true):∃k,nF x=some k/\aBq k ws.length=true/\qN k.m k.more k.text ws=some ((ws.take (gT x ws.length)).map fun x=>(qA x).getD 0,if k.text=true then ws.getD 1 ByteArray.empty else ByteArray.empty):=by
 cases e:nF x with
 |none=>rw[e]at h;cases h
 |some k=>
  rw[e]at h
  have h2:(aBq k ws.length&&lH (ws.take (gT x ws.length)))=true:=h
  refine⟨k,rfl,(by revert h2;cases aBq k ws.length<;>simp),?_⟩
  rw[aIa,wH e,kJ h2]
theorem aKy{ws:List ByteArray}(hws:fA cO=x::ws)(h:(okV (nF x).isSome (((nF x).map Kd.many).getD 0) ws.length&&lH (ws.take (gT x ws.length)))=false):fK st cO st (dS 3):=by
 cases e:nF x with
 |none=>exact .unknown hws e
 |some k=>
  rw[e]at h
  have h2:(aBq k ws.length&&lH (ws.take (gT x ws.length)))=false:=h
  refine .form hws e ?_
  rw[aIa,wH e,kI (by rw[h2];decide)]
theorem aYk(x:ByteArray):-1<=((nF x).map Kd.many).getD 0/\((nF x).map Kd.many).getD 0<=6:=by
 cases e:nF x with
 |none=>exact⟨oe,oe⟩
 |some k=>cases k using Kd.each<;>exact⟨oe,oe⟩
theorem aPt{w2 w3:World}{g:Nat}{A:gN}{ws:List ByteArray}{V3:Value}(hw:Below S w wr)(wE:iG wr S S M O st A k)(wF:st.Small)(hk:k<=3000)(hD:cB S w)(hFi:xP S w)(hws:fA cO=x::ws)(hl:ws.length<=1500)(dQ:bW wr w2)(jN:bW w2 w3)(hg:wr.heap.size<=g)(hg2:g<w2.heap.size)(lO:w2.cell? (aA g 0)=some (sT x))(hz:∀j,j<ws.length->w2.cell? (aA g (j+1))=some (sT (ws.getD j ByteArray.empty)))(bK:w3.ownsRow w2.heap.size 3 1 V3 (gT x ws.length) (C2 (ws.take (gT x ws.length))))
  (h:(okV (nF x).isSome (((nF x).map Kd.many).getD 0) ws.length&&lH (ws.take (gT x ws.length)))=true)(sa:Option Addr)(sc:Nat)(hsa:0<ws.length->sa=some (aA g 1))(v:World)(hv:bW w3 v):
  Calls prog 15 #[pP S,sT x,sV sa ws.length sc,V3] v fun e u=>∃s K,e=rT (tU #[sT s,iI K])/\u.cell? (aA g 0)=some (sT x)/\oQ S S M O st k cO wr s K u:=by
 obtain⟨kd,hkd,lF,hrp⟩:=aKx h;have hMl:gT x ws.length<=ws.length:=by unfold gT;split<;>omega
 have hml:((ws.take (gT x ws.length)).map fun x=>(qA x).getD 0).length=gT x ws.length:=by rw[List.length_map,List.length_take];omega
 have hnv:C2 (ws.take (gT x ws.length))=((ws.take (gT x ws.length)).map fun x=>(qA x).getD 0).map (Value.int .i64):=by unfold C2;rw[List.map_map];rfl
 generalize((ws.take (gT x ws.length)).map fun x=>(qA x).getD 0)=nums at *;have aPc:bW wr w3:=dQ.trans (jN.mono dQ.size);have bBk:bW wr v:=aPc.trans (hv.mono aPc.size);have h2v:bW w2 v:=jN.trans (hv.mono jN.size);have hsv:=wE.below bBk;have aH2:=yZ bK hv;obtain⟨a,U7,rfl⟩:=eY aH2;rw[hnv,<-hml]at aH2;obtain⟨fE,hblk⟩:=S8 aH2;have R1:Below S w v:=hw.trans (bBk.mono wE.low);have bJr:=dQ.size;have hgv:g<v.heap.size:=kB hg2 h2v.size;have hgM:g∉M++O:=fun q=>by
  rcases kL q with q|q
  ·have:=wE.r.hi g q;omega
  ·have:=wE.r.hiO g q;omega
 have J3:∀c,c∈(a.map Addr.block).toList->∃off s,a=some ⟨c,off,s⟩:=fun c hc=>by
  cases a with
  |none=>cases hc
  |some ad=>
   obtain⟨b,off,s⟩:=ad
   have hcb:c=b:=jA1
   subst hcb
   exact⟨off,s,rfl⟩
 have hX:∀c,c∈(a.map Addr.block).toList->w2.heap.size<=c/\c<v.heap.size:=fun c hc=>by obtain⟨off,s,rfl⟩:=J3 c hc;have hq:=aH2.lt c rfl;exact hq
 have key:=aMe (X:=(a.map Addr.block).toList) kd hsv (hD.below R1) (hFi.at R1) wF hk hws hkd hrp (by rw[hml];omega) a U7 (aAj aH2) fE (fun b off e=>⟨by rw[e];simp,(hblk b off e).2.2⟩) (fun c hc=>by have:=(hX c hc).1;have:=wE.low;omega) (fun c hc=>(hX c hc).2) (fun c hc q=>by
   have:=(hX c hc).1
   rcases kL q with q|q
   ·have:=wE.r.hi c q;omega
   ·have:=wE.r.hiO c q;omega) (sV sa ws.length sc) (fun e=>by
   subst e
   have h2:ws.length=2:=by
    have:=lF
    unfold aBq Kd.many at this
    have e2:Kd.oZ.more=false:=rfl
    have e3:Kd.oZ.text=true:=rfl
    rw[e2,e3]at this
    simp at this
    omega
   refine⟨g,1,sc,by rw[hsa od,h2],?_,hgv,hgM⟩
   show v.cell? _=some (sT (ws.getD 1 ByteArray.empty))
   exact bc h2v hg2 (hz 1 od))
 rw[hml]at key;refine key.mono ?_;rintro e u ⟨s,K,rfl,hL⟩;refine⟨s,K,rfl,?_,hL.from bBk (fun c hc=>by have:=(hX c hc).1;omega)⟩;obtain⟨qQ,out,M',O',A',_,_,_,hf,_⟩:=hL;refine(hf.cell (p:=(aA g 0)) hgv (fun q=>?_)).trans (bc h2v hg2 lO);rcases kL q with q|q
 ·rcases kL q with q|q
  ·have:w2.heap.size<=g:=(hX _ q).1;omega
  ·exact hgM (kK (.inl q))
 ·exact hgM (kK (.inr q))
theorem aYs(fd:Bool)(kv:Int)(l:Nat):∃okc,okV fd kv l=okc/\
  ((fd=false/\okc=false)\/(fd=true/\kv=(l:Int)/\okc=true)\/(fd=true/\(0<=kv/\¬kv<0)/\((l:Int)+1==kv+1)=false/\okc=false)\/(fd=true/\(¬0<=kv/\kv<0)/\((1:Int)<(l:Int)+1/\0<l)/\okc=true)\/(fd=true/\(¬0<=kv/\kv<0)/\(¬(1:Int)<(l:Int)+1/\¬0<l)/\okc=false)):=by
 refine⟨_,rfl,?_⟩;unfold okV;cases fd
 ·exact .inl ⟨rfl,oh⟩
 ·refine .inr ?_;by_cases h0:0<=kv
  ·by_cases h1:(l:Int)+1=kv+1
   ·exact .inl ⟨rfl,od,by simp[h1,h0]⟩
   ·exact .inr (.inl ⟨rfl,⟨h0,od⟩,ol,ol⟩)
  ·by_cases h1:(1:Int)<(l:Int)+1
   ·exact .inr (.inr (.inl ⟨rfl,⟨h0,od⟩,⟨h1,od⟩,ol⟩))
   ·exact .inr (.inr (.inr ⟨rfl,⟨h0,od⟩,⟨h1,od⟩,ol⟩))
def bA0(k:Nat):Bool:=decide (k=6)||(decide (8<=k)&&decide (k<=20))||(decide (50<=k)&&decide (k<=152))
end
