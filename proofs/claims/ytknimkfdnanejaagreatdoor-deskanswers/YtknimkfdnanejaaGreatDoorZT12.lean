import Derived.Test.YtknimkfdnanejaaGreatDoorZT8
import Derived.Test.YtknimkfdnanejaaGreatDoorZT9
namespace Go.Proofs.YtknimkfdnanejaaGreatDoor
open Go.RowKit Go.Proofs.Tryz
set_option maxRecDepth 100000
set_option maxHeartbeats 16000000
section
variable{base:Nat}
structure nV(w:World):Prop where
 told:Told w
 syn:∃t p,w.cell? (aA 2 0)=some (.iface t p)
 rng:∃t p,w.cell? (aA 3 0)=some (.iface t p)
 tab:Lib.TabIs prog w rL .u64 Lib.pow10Tab
def cB(base:Nat)(w:World):Prop:=∀w',Below base w w'->nV w'
theorem cB.here{w:World}(h:cB base w):nV w:=h w (kX _ _)
theorem cB.below{w w':World}(h:cB base w)(hb:Below base w w'):cB base w':=fun v hv=>h v (hb.trans hv)
theorem cB.at{w v:World}(h:cB base w)(hb:Below base w v)(hB:base<=v.heap.size):cB v.heap.size v:=fun u hu=>h u (hb.trans (hu.mono hB))
def qA(word:ByteArray):Option Int:=
 match Lib.parseIntB 64 word.data.toList with
 |.ok v=>if(⟨(Lib.itoa v).toArray⟩:ByteArray)=word then some v else none
 |_=>none
theorem below_grow(w:World)(k:Nat)(os:Array Obj):bW w (Go.Sort.grow (w.drewN k) os):=⟨rfl,rfl,rfl,by simp[Go.Sort.grow],fun i hi=>by
 show(w.heap++os)[i]?=_
 rw[Array.getElem?_append_left hi]⟩
theorem aDp(x y:ByteArray):x.toList=y.toList↔x=y:=by
 rw[ByteArray.toList_eq,ByteArray.toList_eq];constructor
 ·intro h;cases x;cases y;simpa using h
 ·intro h;rw[h]
theorem aGe{x y:ByteArray}(h:x≠y):(x.toList==y.toList)=false:=by
 cases e:x.toList==y.toList with
 |false=>rfl
 |true=>exact absurd ((aDp x y).1 j4) h
theorem aQ5(word:ByteArray)(hs:word.size<=20000)(w:World)(hw:cB w.heap.size w)(v:Int)(h0:-9223372036854775808<=v)(h1:v<=9223372036854775807)(hp:Lib.parseIntB 64 word.data.toList=.ok v)(he:(⟨(Lib.itoa v).toArray⟩:ByteArray)=word):Calls prog 87 #[sT word] w fun e w'=>e=rT (iI v)/\bW w w':=zKa
theorem aLf(word:ByteArray)(hs:word.size<=20000)(w:World)(hw:cB w.heap.size w)(v:Int)(h0:-9223372036854775808<=v)(h1:v<=9223372036854775807)(hp:Lib.parseIntB 64 word.data.toList=.ok v)(he:(⟨(Lib.itoa v).toArray⟩:ByteArray)≠word):Calls prog 87 #[sT word] w fun e w'=>e=fX 3/\bW w w':=have m58:=0;zKa
theorem aLg(word:ByteArray)(hs:word.size<=20000)(w:World)(hw:cB w.heap.size w)(hp:Lib.parseIntB 64 word.data.toList=Lib.parseIntB 64 []):Calls prog 87 #[sT word] w fun e w'=>e=fX 3/\bW w w':=zLf
theorem aLh(word:ByteArray)(hs:word.size<=20000)(w:World)(hw:cB w.heap.size w)(hp:Lib.parseIntB 64 word.data.toList=.range):Calls prog 87 #[sT word] w fun e w'=>e=fX 3/\bW w w':=zLh
theorem aLe(word:ByteArray)(hs:word.size<=20000)(w:World)(hw:cB w.heap.size w):Calls prog 87 #[sT word] w fun e w'=>e=(match qA word with|some v=>rT (iI v)|none=>fX 3)/\bW w w':=zK0
end
section
variable{B X cap k n:Nat}{u u' w w':World}
def D2(w:World)(a:Option Addr)(ws:List ByteArray):Prop:=
 0<ws.length->∃b off,a=some (aA b off)/\b<w.heap.size/\∀j x,ws[j]?=some x->w.cell? (aA b (off+j))=some (sT x)
theorem D2.take{a:Option Addr}{l:List ByteArray}(h:D2 w a l)(n:Nat):D2 w a (l.take n):=fun h0=>by
 obtain⟨b,off,e,hl,hc⟩:=h (by simp at h0;omega);refine⟨b,off,e,hl,fun j x hj=>hc j x ?_⟩;rw[List.getElem?_take]at hj;split at hj
 ·exact hj
 ·cases hj
def jI:List ByteArray->Option (List Int)
 |[]=>some []
 |x::r=>match qA x with
  |none=>none
  |some v=>(jI r).map (v::·)
theorem aLi(l:List ByteArray)(x:ByteArray):jI (l++[x])=(jI l).bind fun r=>(qA x).map fun v=>r++[v]:=by
 induction l with
 |nil=>simp only[List.nil_append,jI];cases qA x<;>rfl
 |cons y l ih=>
  simp only[List.cons_append,jI,ih]
  cases qA y with
  |none=>rfl
  |some v=>cases jI l with
   |none=>rfl
   |some r=>cases qA x<;>rfl
theorem xW{l:List ByteArray}(h:jI (l.take k)=none):jI l=none:=by
 induction l generalizing k with
 |nil=>cases k<;>cases h
 |cons y l ih=>
  cases k with
  |zero=>cases h
  |succ k=>
   simp only[List.take_succ_cons,jI]at h⊢
   cases e:qA y with
   |none=>rfl
   |some v=>
    rw[e]at h
    simp only[Option.map_eq_none_iff]at h⊢
    exact ih h
theorem tG:∀{l:List ByteArray}{r:List Int},jI l=some r->r.length=l.length
 |[],_,h=>by cases h;rfl
 |x::l,r,h=>by
  simp only[jI]at h
  cases e:qA x with
  |none=>rw[e]at h;cases h
  |some v=>
   rw[e]at h
   simp only[Option.map_eq_some_iff]at h
   obtain⟨r',h1,rfl⟩:=h
   simp[tG h1]
theorem aLd{x:ByteArray}{v:Int}(h:qA x=some v):-9223372036854775808<=v/\v<=9223372036854775807:=by
 unfold qA at h;split at h
 ·rename_i v' hp;split at h
  ·cases h;exact zC9
  ·cases h
 ·cases h
theorem yY:∀{l:List ByteArray}{r:List Int},jI l=some r->∀v∈r,-9223372036854775808<=v/\v<=9223372036854775807
 |[],_,h,v,hv=>by cases h;cases hv
 |x::l,r,h,v,hv=>by
  simp only[jI]at h
  cases e:qA x with
  |none=>rw[e]at h;cases h
  |some u=>
   rw[e]at h
   simp only[Option.map_eq_some_iff]at h
   obtain⟨r',h1,rfl⟩:=h
   rcases kN hv with rfl|hv
   ·exact aLd e
   ·exact yY h1 v hv
def qN(m:Nat)(more text:Bool)(ws:List ByteArray):Option (List Int×ByteArray):=
 if text=true/\ws≠[]then
  if ws.length-1=m\/(m<ws.length-1/\more=true)then(jI (ws.take (ws.length-1))).map fun l=>(l,ws.getD (ws.length-1) ByteArray.empty)else none
 else if ws.length=m\/(m<ws.length/\more=true)then(jI ws).map fun l=>(l,ByteArray.empty)else none
def D1(w w':World)(o:Option (List Int×ByteArray))(e:Ending):Prop:=
 match o with
 |none=>e=fX 3
 |some x=>∃a cap,e=rT (.agg #[sV a x.1.length cap,sT x.2])/\x.1.length<=cap/\bE w' a x.1/\(∀b off,a=some (aA b off)->w.heap.size<=b/\b<w'.heap.size/\∃cs fr,w'.heap[b]?=some (.cells cs 3 fr))
theorem D1.no{o:Option (List Int×ByteArray)}(h:o=none):D1 w w' o (fX 3):=by subst h;rfl
theorem aAj{e:TypeId}{a:Option Addr}{xs:List Value}(h:u.ownsRow B e 1 (sV a n cap) n xs):n<=cap:=by
 rcases h.2 with⟨_,h0⟩|⟨g,c,cur,e,_,_,h1,_⟩
 ·omega
 ·injection e with _ _ e3;rw[e3];exact h1
theorem S8{r:List Int}{a:Option Addr}(h:u.ownsRow B 3 1 (sV a r.length cap) r.length (r.map (Value.int .i64))):bE u a r/\∀b off,a=some (aA b off)->B<=b/\b<u.heap.size/\∃cs fr,u.heap[b]?=some (.cells cs 3 fr):=by
 rcases h.2 with⟨e,h0⟩|⟨g,c,cur,e,hg,hh,_⟩
 ·injection e with e1;subst e1;refine⟨fun q=>absurd q od,fun b off q=>by cases q⟩
 ·injection e with e1 e2 e3;subst e1;have hlt:g<u.heap.size:=by
   rcases Nat.lt_or_ge g u.heap.size with q|q
   ·exact q
   ·exact zIk
  refine⟨fun q=>⟨g,0,rfl,hlt,fun j hj=>?_⟩,fun b off q=>by cases q;exact⟨hg,hlt,_,_,hh⟩⟩;have:=h.cells (g:=g) rfl j (iI (r.getD j 0)) (by simp[List.getElem?_eq_getElem hj]);exact zIe
def pU(m:Nat)(more text:Bool)(rO:Int)(f:Value):Value:=.agg #[iI m,.bool more,.bool text,iI rO,f]
theorem P0{e:TypeId}{v:Value}{xs:List Value}(h:u.ownsRow B e 1 v n xs)(hk:v.ownBlock=some k):B<=k:=by
 rcases h.2 with⟨e,_⟩|⟨g,cap,cur,e,hg',_⟩
 ·rw[e]at hk;cases hk
 ·rw[e]at hk;cases hk;exact hg'
theorem sZ(h:Below B w u)(q:Nat):Below B w (u.drewN q):=⟨h.os,h.tape,h.output,h.size,h.block⟩
structure M6(X:Nat)(tx:ByteArray)(r:List Int)(v:Value)(u:World):Prop where
 c0:u.cell? (aA X 0)=some v
 c1:u.cell? (aA X 1)=some (sT tx)
 z0:u.frozen? (aA X 0)=false
 a0:∃q,u.cell? ⟨X-1,0,none⟩=some q
 a1:∃q,u.cell? ⟨X-1,1,none⟩=some q
 y0:u.frozen? ⟨X-1,0,none⟩=false
 y1:u.frozen? ⟨X-1,1,none⟩=false
 own:u.ownsRow (X+1) 3 1 v r.length (r.map (Value.int .i64))
 lt:X<u.heap.size
 pos:1<=X
theorem M6.below{tx:ByteArray}{r:List Int}{v:Value}(h:M6 X tx r v u)(hb:bW u u'):M6 X tx r v u':=by
 have hx:=h.lt;have h1:X-1<u.heap.size:=od;refine⟨bc hb hx h.c0,bc hb hx h.c1,(hb.frozen (p:=(aA X 0)) hx).trans h.z0,?_,?_,(hb.frozen (p:=⟨X-1,0,none⟩) h1).trans h.y0,(hb.frozen (p:=⟨X-1,1,none⟩) h1).trans h.y1,fF h.own hb,kB hx hb.size,h.pos⟩
 ·obtain⟨q,hq⟩:=h.a0;exact⟨q,(hb.cell (p:=⟨X-1,0,none⟩) h1).trans hq⟩
 ·obtain⟨q,hq⟩:=h.a1;exact⟨q,(hb.cell (p:=⟨X-1,1,none⟩) h1).trans hq⟩
theorem M6.grown{tx:ByteArray}{r:List Int}{v:Value}(h:M6 X tx r v u)(hg:u.grownBy u' v.ownBlock)(x:Int)(v':Value)(bK:u'.ownsRow (X+1) 3 1 v' (r.length+1) (r.map (Value.int .i64)++[iI x])):
  u'.cell? (aA X 0)=some v/\u'.frozen? (aA X 0)=false/\M6 X tx (r++[x]) v' (u'.setCell (aA X 0) v'):=by
 have hx:=h.lt;have hB:Below (X+1) u u':=(kX _ _).grown hg od (fun k hk=>by
  rcases h.own.2 with⟨e,_⟩|⟨g,cap,cur,e,hg',_⟩
  ·rw[e]at hk;cases hk
  ·rw[e]at hk
   cases hk;exact hg')
 have e0:=bc hB (show X<X+1 by omega) h.c0;have e1:=bc hB (show X<X+1 by omega) h.c1;have f0:=(hB.frozen (p:=(aA X 0)) (show X<X+1 by omega)).trans h.z0;have g0:=(hB.frozen (p:=⟨X-1,0,none⟩) (show X-1<X+1 by omega)).trans h.y0;have g1:=(hB.frozen (p:=⟨X-1,1,none⟩) (show X-1<X+1 by omega)).trans h.y1;have hlt:X<u'.heap.size:=kB hx hB.size;obtain⟨q0,h0⟩:=h.a0;obtain⟨q1,h1⟩:=h.a1;have k0:=(hB.cell (p:=⟨X-1,0,none⟩) (show X-1<X+1 by omega)).trans h0;have k1:=(hB.cell (p:=⟨X-1,1,none⟩) (show X-1<X+1 by omega)).trans h1;have dM:X-1≠X:=by have:=h.pos;omega
 refine⟨e0,f0,aY e0,(aB (.inr oe)).trans e1,bI.trans f0,⟨q0,(aB (.inl dM)).trans k0⟩,⟨q1,(aB (.inl dM)).trans k1⟩,bI.trans g0,bI.trans g1,?_,by simpa using hlt,h.pos⟩;have:=fY (b:=X) (i:=0) (x:=v') bK (Nat.lt_succ_self X);exact zHh
theorem aAm(w:World)(o:Obj)(t:TypeId)(tx:ByteArray):M6 (w.heap.size+1+1) tx [] (sV none 0 0) (((w.alloc o).alloc (.cells #[sV none 0 0,sT ⟨#[]⟩] t)).alloc (.cells #[sV none 0 0,sT tx] t)):=by have e:w.heap.size+1+1-1=w.heap.size+1:=rfl;refine⟨jA2,jA2,jA2,⟨sV none 0 0,?_⟩,⟨sT ⟨#[]⟩,?_⟩,?_,?_,⟨rfl,.inl ⟨rfl,rfl⟩⟩,oh,od⟩;all_goals(rw[e];simp[go_sem])
theorem Tryz.infoInt8:(Tryz.prog.info? 3).map (fun i=>(i.zero,i.size,i.bytes))=some (some (iI 0),1,8):=by kernel_rfl
theorem aV1(m:Nat)(more:Bool)(rO:Int)(f:Value)(a:Option Addr)(cap:Nat)(ws:List ByteArray)(hl:ws.length<=20000)(w:World)(h3:ws.length<m):
  Calls prog 46 #[pU m more false rO f,sV a ws.length cap] w fun e w'=>e=fX 3/\bW w w':=by
 have hA:=fun u=>tZ 3 u;unfold pU;have k1:(((ws.length:Int):Int)==(m:Int))=false:=by simpa using(show ¬((ws.length:Int):Int)=m by omega)
 have k2:decide ((m:Int)<((ws.length:Int):Int))=false:=kC od;exact zBw
theorem aUz(m:Nat)(more:Bool)(rO:Int)(f:Value)(a:Option Addr)(cap:Nat)(ws:List ByteArray)(hl:ws.length<=20000)(w:World)(h3:m<ws.length)(h4:more=false):
  Calls prog 46 #[pU m more false rO f,sV a ws.length cap] w fun e w'=>e=fX 3/\bW w w':=by have hA:=fun u=>tZ 3 u;exact zLm
theorem aUx(m:Nat)(hm:m<=6)(more:Bool)(rO:Int)(f:Value)(a:Option Addr)(cap:Nat)(ws:List ByteArray)(hl:ws.length<=20000)(hsz:∀x∈ws,x.size<=20000)(w:World)(hw:cB w.heap.size w)(hr:D2 w a ws)(h3:ws.length=m):
  Calls prog 46 #[pU m more false rO f,sV a ws.length cap] w fun e w'=>D1 w w' ((jI ws).map fun l=>(l,ByteArray.empty)) e/\bW w w':=by
 have hA:=fun u=>sY 3 u;obtain⟨i0,hi,lO,mX,jX⟩:=info_parts Tryz.infoInt8;unfold pU;have k1:((ws.length:Int)==(m:Int))=true:=by simpa using(show(ws.length:Int)=m by omega)
 exact zAb
theorem aM2(m:Nat)(hm:m<=6)(more:Bool)(rO:Int)(f:Value)(a:Option Addr)(cap:Nat)(ws:List ByteArray)(hl:ws.length<=20000)(hsz:∀x∈ws,x.size<=20000)(w:World)(hw:cB w.heap.size w)(hr:D2 w a ws)(h3:m<ws.length)(h4:more=true):
  Calls prog 46 #[pU m more false rO f,sV a ws.length cap] w fun e w'=>D1 w w' ((jI ws).map fun l=>(l,ByteArray.empty)) e/\bW w w':=by have hA:=fun u=>sY 3 u;obtain⟨i0,hi,lO,mX,jX⟩:=info_parts Tryz.infoInt8;have bK8:=0;exact zLm
theorem aV2(m:Nat)(more:Bool)(rO:Int)(f:Value)(a:Option Addr)(cap:Nat)(ws:List ByteArray)(hl:ws.length<=20000)(w:World)(hr:D2 w a ws)(q:Nat)(hq:ws.length=q+1)(hcap:ws.length<=cap)(tx:ByteArray)(hx:ws[q]?=some tx)(h3:q<m):
  Calls prog 46 #[pU m more true rO f,sV a ws.length cap] w fun e w'=>e=fX 3/\bW w w':=zJ2
theorem aV0(m:Nat)(more:Bool)(rO:Int)(f:Value)(a:Option Addr)(cap:Nat)(ws:List ByteArray)(hl:ws.length<=20000)(w:World)(hr:D2 w a ws)(q:Nat)(hq:ws.length=q+1)(hcap:ws.length<=cap)(tx:ByteArray)(hx:ws[q]?=some tx)(h3:m<q)(h4:more=false):
  Calls prog 46 #[pU m more true rO f,sV a ws.length cap] w fun e w'=>e=fX 3/\bW w w':=have m50:=0;zJ2
theorem aQr(m:Nat)(more:Bool)(rO:Int)(f:Value)(a:Option Addr)(cap:Nat)(w:World)(h3:0<m):
  Calls prog 46 #[pU m more true rO f,sV a 0 cap] w fun e w'=>e=fX 3/\bW w w':=by
 have hA:=fun u=>tZ 3 u;unfold pU;have k1:((0:Int)==(m:Int))=false:=by simpa using(show ¬(0:Int)=m by omega)
 have k2:decide ((m:Int)<(0:Int))=false:=kC od;exact zBw
theorem aUy(m:Nat)(hm:m<=6)(more:Bool)(rO:Int)(f:Value)(a:Option Addr)(cap:Nat)(ws:List ByteArray)(hsz:∀x∈ws,x.size<=20000)(w:World)(hw:cB w.heap.size w)(hr:D2 w a ws)(hq:ws.length=m+1)(hcap:ws.length<=cap)(tx:ByteArray)(hx:ws[m]?=some tx):
  Calls prog 46 #[pU m more true rO f,sV a ws.length cap] w fun e w'=>D1 w w' ((jI (ws.take m)).map fun l=>(l,tx)) e/\bW w w':=by have hA:=fun u=>sY 3 u;obtain⟨i0,hi,lO,mX,jX⟩:=info_parts Tryz.infoInt8;unfold pU;obtain⟨b,off,rfl,hb,hc⟩:=hr od;have q1:((ws.length:Int)-1)=(m:Int):=od;have q2:m<ws.length:=od;have q3:(m:Int)<(ws.length:Int):=od;have q4:ws.length<=cap:=hcap;have y3:∀o1 o2 o3:Obj,(((w.alloc o1).alloc o2).alloc o3).cell? (aA b (off+m))=some (sT tx):=fun o1 o2 o3=>(((((kX _ w).alloc (kF _) o1).alloc oh o2).alloc ol o3).cell (p:=(aA b (off+m))) hb).trans (hc m tx hx);clear hc;exact zI8
theorem aUv(m:Nat)(hm:m<=6)(more text:Bool)(htx:text=true->0<m/\more=false)(rO:Int)(f:Value)(a:Option Addr)(cap:Nat)(ws:List ByteArray)(hcap:ws.length<=cap)(hl:ws.length<=20000)(hsz:∀x∈ws,x.size<=20000)(w:World)(hw:cB w.heap.size w)(hr:D2 w a ws):
  Calls prog 46 #[pU m more text rO f,.slice a ws.length cap] w fun e w'=>D1 w w' (qN m more text ws) e/\bW w w':=by
 unfold qN
 cases text with
 |false=>
  rw[kI (fun h=>by cases h.1)]
  by_cases h1:ws.length=m
  ·rw[kJ (.inl h1)]
   exact aUx m hm more rO f a cap ws hl hsz w hw hr h1
  ·by_cases h2:m<ws.length
   ·cases more with
    |true=>
     rw[kJ (.inr ⟨h2,rfl⟩)]
     exact aM2 m hm true rO f a cap ws hl hsz w hw hr h2 rfl
    |false=>
     rw[kI (fun h=>h.elim h1 (fun h=>by cases h.2))]
     exact(aUz m false rO f a cap ws hl w h2 rfl).mono fun e w' h=>⟨h.1,h.2⟩
   ·rw[kI (fun h=>h.elim h1 (fun h=>h2 h.1))]
    exact(aV1 m more rO f a cap ws hl w od).mono fun e w' h=>⟨h.1,h.2⟩
 |true=>
  obtain⟨h0,rfl⟩:=htx rfl
  cases hq:ws.length with
  |zero=>
   obtain rfl:ws=[]:=List.eq_nil_of_length_eq_zero hq
   rw[kI (fun h=>h.2 rfl),kI (fun h=>h.elim (fun(h:0=m)=>by omega) (fun h=>by cases h.2))]
   exact(aQr m false rO f a cap w h0).mono fun e w' h=>⟨h.1,h.2⟩
  |succ q=>
   have dM:ws≠[]:=fun h=>by rw[h]at hq;cases hq
   obtain⟨tx,hx⟩:∃tx,ws[q]?=some tx:=⟨_,List.getElem?_eq_getElem od⟩
   have htq:ws.getD q ByteArray.empty=tx:=by rw[List.getD,hx];rfl
   rw[kJ ⟨rfl,dM⟩,Nat.add_sub_cancel]
   have hs:(Value.slice a (q+1) cap)=.slice a ws.length cap:=by rw[hq]
   rw[hs]
   by_cases h1:q=m
   ·subst h1
    rw[kJ (.inl rfl),htq]
    exact aUy q hm false rO f a cap ws hsz w hw hr hq hcap tx hx
   ·rw[kI (fun h=>h.elim h1 (fun h=>by cases h.2))]
    by_cases h2:m<q
    ·exact(aV0 m false rO f a cap ws hl w hr q hq hcap tx hx h2 rfl).mono fun e w' h=>⟨h.1,h.2⟩
    ·exact(aV2 m false rO f a cap ws hl w hr q hq hcap tx hx od).mono fun e w' h=>⟨h.1,h.2⟩
end
section
abbrev iX:vW:=(5,0,0)
def upd(f:Nat->Nat)(j v:Nat):Nat->Nat:=fun i=>if i=j then v else f i
theorem vU(f:Nat->Nat)(j v:Nat):upd f j v j=v:=kJ rfl
theorem rR(f:Nat->Nat){i j:Nat}(v:Nat)(h:i≠j):upd f j v i=f i:=kI h
structure eF(b0:Nat)(w:World)(N:vW->List Nat)(k n J:Nat)(tq bag queue:Int)(S E:Nat)(D R Q:Nat->Nat):Prop where
 fam:vV w N
 lo:∀i c,c∈N i->b0<=c
 only:∀i,N i≠[]->i=iX\/i=iS k\/∃j,j<J/\(i=iR k j\/i=iQ k j)
 sdr:Sdr w (N (iS k)) S bag queue [] 0 0 0
 eX:E∈N iX
 zE:∀i,w.frozen? (aA E i)=false
 en:∀j,j<n->w.cell? (aA E j)=some (.pointer (if j<J/\aW tq j=true then some ⟨D j,0,none⟩else none))
 dn:∀j,j<J->aW tq j=true->(D j∈N iX/\D j≠E/\w.cell? ⟨D j,0,none⟩=some (.pointer (some ⟨R j,0,none⟩))/\w.cell? ⟨D j,1,none⟩=some (.pointer (some ⟨Q j,0,none⟩)))/\Rcv w (N (iR k j)) (R j) (-1) 0 0/\Que w (N (iQ k j)) (Q j) 16 [] 0
section
variable{b0:Nat}{w:World}{N:vW->List Nat}{k n J:Nat}{tq bag queue:Int}{S E:Nat}{D R Q:Nat->Nat}
theorem eF.skip(h:eF b0 w N k n J tq bag queue S E D R Q)(hb:aW tq J=false):eF b0 w N k n (J+1) tq bag queue S E D R Q:=by
 refine⟨h.fam,h.lo,fun i hi=>?_,h.sdr,h.eX,h.zE,fun j hj=>?_,fun j hj hbj=>?_⟩
 ·exact zEw
 ·rw[h.en j hj];by_cases e:j=J
  ·subst e;rw[kI (fun y=>by have:=y.1;omega),kI (fun y=>by rw[hb]at y;cases y.2)]
  ·exact zD0
 ·by_cases e:j=J
  ·subst e;rw[hb]at hbj;cases hbj
  ·exact h.dn j od hbj
theorem eF.empty(h:eF b0 w N k n J tq bag queue S E D R Q){j:Nat}(hj:J<=j):N (iR k j)=[]/\N (iQ k j)=[]:=by
 constructor
 ·by_cases e:N (iR k j)=[]
  ·exact e
  ·rcases h.only _ e with y|y|⟨j',y,z|z⟩
   ·simp at y
   ·simp at y
   ·simp at z;omega
   ·simp at z
 ·by_cases e:N (iQ k j)=[]
  ·exact e
  ·rcases h.only _ e with y|y|⟨j',y,z|z⟩
   ·simp at y
   ·simp at y
   ·simp at z
   ·simp at z;omega
theorem eF.step(h:eF b0 w N k n J tq bag queue S E D R Q)(hb:aW tq J=true)(wT:b0<=w.heap.size){w1 w2 w3 w4 V0:World}{OQ OR:List Nat}{PQ PR:Nat}{t:TypeId}(hV:Below b0 V0 w)(k1:bW w w1)(hq:Que w1 OQ PQ 16 [] 0)(lq:∀c,c∈OQ->w.heap.size<=c)(k2:bW w1 w2)(hr:Rcv w2 OR PR (-1) 0 0)(lr:∀c,c∈OR->w1.heap.size<=c)(hw3:w2.alloc (.cells #[pP PR,pP PQ] t)=w3)(hw4:w3.setCell (aA E J) (pP w2.heap.size)=w4):
  (∃N',eF b0 w4 N' k n (J+1) tq bag queue S E (upd D J w2.heap.size) (upd R J PR) (upd Q J PQ))/\Below b0 V0 w4:=by
 have hE:=h.fam.lt _ _ h.eX;have hE0:=h.lo _ _ h.eX;have s1:=k1.size;have s2:=k2.size;have k3:bW w2 w3:=by rw[<-hw3];exact(kX _ _).alloc (kF _) _
 have s3:w3.heap.size=w2.heap.size+1:=by rw[<-hw3];simp
 have s4:w4.heap.size=w3.heap.size:=by rw[<-hw4];simp
 have d0:w3.cell? (aA w2.heap.size 0)=some (pP PR):=by rw[<-hw3];simp
 have d1:w3.cell? (aA w2.heap.size 1)=some (pP PQ):=by rw[<-hw3];simp
 have b4:∀c,c≠E->w4.heap[c]?=w3.heap[c]?:=fun c hc=>by rw[<-hw4];exact Below.heap_setCell _ _ _ _ hc
 have t3:bW w w3:=k1.trans ((k2.mono s1).trans (k3.mono od));have keep:∀c,c<w.heap.size->c≠E->w4.heap[c]?=w.heap[c]?:=fun c hc hn=>(b4 c hn).trans (t3.block c hc);have aA9:∀i,i≠iX->Same (N i) w w4:=fun i hi=>⟨od,fun c hc=>keep c (h.fam.lt i c hc) (fun e=>h.fam.ap iX i (Ne.symm hi) E h.eX (e▸hc))⟩;have sQ:Same OQ w1 w4:=⟨od,fun c hc=>by
  have g1:=lq c hc
  have g2:=hq.lt c hc
  rw[b4 c od,k3.block c od,k2.block c g2]⟩
 have sR:Same OR w2 w4:=⟨od,fun c hc=>by
  have g1:=lr c hc
  have g2:=hr.lt c hc
  rw[b4 c od,k3.block c g2]⟩
 obtain⟨e1,e2⟩:=h.empty (kF J);have F1:vV w1 (dV N (iQ k J) OQ):=h.fam.add k1 e2 (fun c hc=>⟨lq c hc,hq.lt c hc⟩);have F2:vV w2 (dV (dV N (iQ k J) OQ) (iR k J) OR):=F1.add k2 (by rw[bG _ _ oh];exact e1) (fun c hc=>⟨lr c hc,hr.lt c hc⟩);have eXX:dV (dV N (iQ k J) OQ) (iR k J) OR iX=N iX:=by rw[bG _ _ oh,bG _ _ oh]
 have F3:vV w4 (dV (dV (dV N (iQ k J) OQ) (iR k J) OR) iX (w2.heap.size::N iX)):=by
  refine F2.step (i:=iX) ?_ (fun c hc=>?_)
  ·rw[eXX];have z4:Below 0 w2 w4:=by rw[<-hw4];exact(k3.mono (kH _)).setCell (kH _) _
   refine⟨z4.os,z4.tape,z4.output,od,fun c hc hn=>(b4 c (fun e=>hn (e▸h.eX))).trans (k3.block c hc),fun c hc=>?_⟩
   ·rcases kN hc with y|y
    ·exact .inr od
    ·exact .inl y
  ·rcases kN hc with y|y
   ·omega
   ·have:=h.fam.lt _ _ y;omega
 obtain⟨N',hN'⟩:∃N',dV (dV (dV N (iQ k J) OQ) (iR k J) OR) iX (w2.heap.size::N iX)=N':=⟨_,rfl⟩;have nX:N' iX=w2.heap.size::N iX:=by rw[<-hN'];exact cZ _ _ _
 have nR:N' (iR k J)=OR:=by rw[<-hN',bG _ _ oh];exact cZ _ _ _
 have nQ:N' (iQ k J)=OQ:=by rw[<-hN',bG _ _ oh,bG _ _ oh];exact cZ _ _ _
 have nO:∀i,i≠iX->i≠iR k J->i≠iQ k J->N' i=N i:=fun i h1 h2 h3=>by rw[<-hN',bG _ _ h1,bG _ _ h2,bG _ _ h3]
 rw[hN']at F3;clear hN' F1 F2 eXX;have cE:∀i,w3.cell? (aA E i)=w.cell? (aA E i):=fun i=>t3.cell (p:=(aA E i)) hE;refine⟨⟨N',F3,fun i c hc=>?_,fun i hi=>?_,?_,?_,fun i=>?_,fun j hj=>?_,fun j hj hbj=>?_⟩,?_⟩
 ·by_cases i1:i=iX
  ·subst i1;rw[nX]at hc;rcases kN hc with y|y
   ·omega
   ·exact h.lo _ _ y
  by_cases i2:i=iR k J
  ·subst i2;rw[nR]at hc;have:=lr c hc;omega
  by_cases i3:i=iQ k J
  ·subst i3;rw[nQ]at hc;have:=lq c hc;omega
  rw[nO i i1 i2 i3]at hc;exact h.lo _ _ hc
 ·by_cases i1:i=iX
  ·exact .inl i1
  by_cases i2:i=iR k J
  ·exact .inr (.inr ⟨J,od,.inl i2⟩)
  by_cases i3:i=iQ k J
  ·exact .inr (.inr ⟨J,od,.inr i3⟩)
  rw[nO i i1 i2 i3]at hi;exact zEw
 ·rw[nO (iS k) oh oh oh];exact h.sdr.keep (aA9 _ oh)
 ·rw[nX];exact kO _ h.eX
 ·rw[<-hw4];exact bI.trans ((t3.frozen (p:=(aA E i)) hE).trans (h.zE i))
 ·by_cases e:j=J
  ·subst e;rw[kJ ⟨od,hb⟩,vU,<-hw4];exact aY ((cE j).trans (h.en j hj))
  ·rw[<-hw4,aB (.inr e),cE j,h.en j hj,rR _ _ e];exact zD0
 ·by_cases e:j=J
  ·subst e;rw[vU,vU,vU,nX,nR,nQ];refine⟨⟨kQ,od,?_,?_⟩,hr.keep sR,hq.keep sQ⟩
   ·rw[<-hw4,aB (.inl od)];exact d0
   ·rw[<-hw4,aB (.inl od)];exact d1
  ·obtain⟨⟨a1,a2,a3,a4⟩,a5,a6⟩:=h.dn j od hbj;rw[rR _ _ e,rR _ _ e,rR _ _ e,nX,nO (iR k j) oh j4 oh,nO (iQ k j) oh oh j4];have aD:=h.fam.lt _ _ a1;refine⟨⟨kO _ a1,a2,?_,?_⟩,a5.keep (aA9 _ oh),a6.keep (aA9 _ oh)⟩
   ·rw[<-hw4,aB (.inl a2)];exact(t3.cell (p:=⟨D j,0,none⟩) aD).trans a3
   ·rw[<-hw4,aB (.inl a2)];exact(t3.cell (p:=⟨D j,1,none⟩) aD).trans a4
 ·rw[<-hw4];exact(hV.trans (t3.mono wT)).setCell (p:=(aA E J)) hE0 _
theorem eF.same(h:eF b0 w N k n J tq bag queue S E D R Q){w':World}(hs:w.heap.size<=w'.heap.size)(hk:∀c,b0<=c->c<w.heap.size->w'.heap[c]?=w.heap[c]?):eF b0 w' N k n J tq bag queue S E D R Q:=by have sm:∀i,Same (N i) w w':=fun i=>⟨hs,fun c hc=>hk c (h.lo i c hc) (h.fam.lt i c hc)⟩;refine⟨⟨fun i c hc=>kB (h.fam.lt i c hc) hs,h.fam.ap⟩,h.lo,h.only,h.sdr.keep (sm _),h.eX,fun i=>((sm iX).frozen (p:=(aA E i)) h.eX).trans (h.zE i),fun j hj=>((sm iX).cell (p:=(aA E j)) h.eX).trans (h.en j hj),fun j hj hb=>?_⟩;obtain⟨⟨a1,a2,a3,a4⟩,a5,a6⟩:=h.dn j hj hb;exact⟨⟨a1,a2,((sm iX).cell (p:=⟨D j,0,none⟩) a1).trans a3,((sm iX).cell (p:=⟨D j,1,none⟩) a1).trans a4⟩,a5.keep (sm _),a6.keep (sm _)⟩
theorem eF.low(h:eF b0 w N k n J tq bag queue S E D R Q){b1:Nat}(hb:b1<=b0):eF b1 w N k n J tq bag queue S E D R Q:=
 ⟨h.fam,fun i c hc=>kG hb (h.lo i c hc),h.only,h.sdr,h.eX,h.zE,h.en,h.dn⟩
theorem eF.first{V0 w1 w2:World}{OS:List Nat}(hs:Sdr w1 OS S bag queue [] 0 0 0)(lo:∀c,c∈OS->V0.heap.size<=c)(hb:bW V0 w1){t:TypeId}(qP:w1.alloc (.cells (madeCells #[.pointer none] n) t)=w2)(kk:Nat)(tq:Int)(D R Q:Nat->Nat):
  (∃N,eF V0.heap.size w2 N kk n 0 tq bag queue S w1.heap.size D R Q)/\bW V0 w2:=by
 have k2:bW w1 w2:=by rw[<-qP];exact(kX _ _).alloc (kF _) _
 have s2:w2.heap.size=w1.heap.size+1:=by rw[<-qP];simp
 have s1:=hb.size;have F0:vV V0 (fun _:vW=>([]:List Nat)):=⟨fun i c hc=>by simp at hc,fun i j _ c hc=>by simp at hc⟩;have F1:vV w1 (dV (fun _:vW=>([]:List Nat)) (iS kk) OS):=F0.add hb rfl (fun c hc=>⟨lo c hc,hs.lt c hc⟩);have F2:vV w2 (dV (dV (fun _:vW=>([]:List Nat)) (iS kk) OS) iX [w1.heap.size]):=F1.add k2 (by rw[bG _ _ oh]) (fun c hc=>by
  have:c=w1.heap.size:=jA1
  omega)
 obtain⟨N,hN⟩:∃N,dV (dV (fun _:vW=>([]:List Nat)) (iS kk) OS) iX [w1.heap.size]=N:=⟨_,rfl⟩;have nX:N iX=[w1.heap.size]:=by rw[<-hN];exact cZ _ _ _
 have nS:N (iS kk)=OS:=by rw[<-hN,bG _ _ oh];exact cZ _ _ _
 have nO:∀i,i≠iX->i≠iS kk->N i=[]:=fun i h1 h2=>by rw[<-hN,bG _ _ h1,bG _ _ h2]
 rw[hN]at F2;clear hN F1 F0;refine⟨⟨N,F2,fun i c hc=>?_,fun i hi=>?_,?_,?_,fun i=>?_,fun j hj=>?_,fun j hj=>absurd hj (kT _)⟩,hb.trans (k2.mono s1)⟩
 ·by_cases i1:i=iX
  ·subst i1;rw[nX]at hc;have:c=w1.heap.size:=jA1;omega
  by_cases i2:i=iS kk
  ·subst i2;rw[nS]at hc;exact lo c hc
  rw[nO i i1 i2]at hc;simp at hc
 ·by_cases i1:i=iX
  ·exact .inl i1
  by_cases i2:i=iS kk
  ·exact .inr (.inl i2)
  exact absurd (nO i i1 i2) hi
 ·rw[nS];exact hs.keep (Same.of_below k2 hs.lt)
 ·rw[nX];exact List.mem_singleton.2 rfl
 ·rw[<-qP];simp
 ·rw[kI (fun y=>absurd y.1 (kT _)),<-qP];simp[madeCells,hj,Nat.mod_one]
end
end
section
variable{C b0 cI cb i nb oD:Nat}{X0:List Nat}{p:aQ}{u v v':Value}{w w' w0 w1 w2 w3:World}
def fZ(a b c:Nat->Value):Nat->List Value
 |0=>[]
 |n+1=>fZ a b c n++[a n,b n,c n]
theorem sM(a b c:Nat->Value):∀n,(fZ a b c n).length=n*3:=by
 intro n
 induction n with
 |zero=>rfl
 |succ n ih=>simp[fZ,ih];omega
theorem zO(a b c:Nat->Value):∀n i,i<n->(fZ a b c n)[i*3]?=some (a i)/\(fZ a b c n)[i*3+1]?=some (b i)/\(fZ a b c n)[i*3+2]?=some (c i):=by
 intro n
 induction n with
 |zero=>intro i hi;omega
 |succ n ih=>
  intro i hi
  have hl:=sM a b c n
  by_cases e:i=n
  ·subst e
   unfold fZ
   refine⟨?_,?_,?_⟩
   ·rw[List.getElem?_append_right od,hl,Nat.sub_self];rfl
   ·rw[List.getElem?_append_right od,hl,show i*3+1-i*3=1 by omega];rfl
   ·rw[List.getElem?_append_right od,hl,show i*3+2-i*3=2 by omega];rfl
  ·obtain⟨x,y,z⟩:=ih i od
   unfold fZ
   exact⟨by rw[List.getElem?_append_left od];exact x,by rw[List.getElem?_append_left od];exact y,by rw[List.getElem?_append_left od];exact z⟩
theorem aB2{a b c a' b' c':Nat->Value}:∀n,(∀i,i<n->a i=a' i/\b i=b' i/\c i=c' i)->fZ a b c n=fZ a' b' c' n:=by
 intro n
 induction n with
 |zero=>intro _;rfl
 |succ n ih=>
  intro h
  obtain⟨x,y,z⟩:=h n od
  unfold fZ
  rw[ih (fun i hi=>h i od),x,y,z]
theorem aGr{x:Value}(k2:bW w1 w2)(hg:w2.grownBy w3 v.ownBlock)(jW:v'.ownBlock=v.ownBlock\/v'.ownBlock=some w2.heap.size):aS (C::v.ownBlock.toList) (C::v'.ownBlock.toList) w1 (w3.setCell (aA C i) x):=by
 have z:Below 0 w3 (w3.setCell (aA C i) x):=(kX _ _).setCell (kH _) _;refine⟨z.os.trans (hg.os.trans k2.os),z.tape.trans (hg.tape.trans k2.tape),z.output.trans (hg.output.trans k2.output),kG k2.size (kG hg.size z.size),fun c hc hn=>?_,fun c hc=>?_⟩
 ·have h1:c≠C:=fun e=>hn (kM (.inl e));have h2:some c≠v.ownBlock:=fun e=>hn (kM (.inr (by rw[<-e];exact List.mem_singleton.2 rfl)));rw[Below.heap_setCell _ _ _ _ h1,hg.block c (kB hc k2.size) h2,k2.block c hc]
 ·rcases kN hc with y|y
  ·exact .inl (kM (.inl y))
  ·rcases jW with z|z
   ·rw[z]at y;exact .inl (kM (.inr y))
   ·rw[z]at y;have:c=w2.heap.size:=Ea;exact .inr (by have:=k2.size;omega)
structure U4(w0 w:World)(b0:Nat)(X0:List Nat)(Of:vW->List Nat)(C n:Nat)(P:Nat->Nat)(v:Value)(I:Nat):Prop where
 fam:vV w Of
 lo:∀i c,c∈Of i->b0<=c
 ob:Of iB=C::v.ownBlock.toList
 ox:Of iX=X0
 emp:∀i,Of i≠[]->i=iB\/i=iX\/∃j,j<I/\i=iN j
 kc:∀i,i≠13->w.cell? (aA C i)=w0.cell? (aA C i)
 c13:w.cell? (aA C 13)=some v
 z:∀i,w.frozen? (aA C i)=false
 kx:Same X0 w0 w
 vo:w.ownsRow (C+1) 227 1 v I ((List.range I).map fun j=>.pointer (some ⟨P j,0,none⟩))
 node:∀j,j<I->bJ w (P j) j n (2^n-1) 1 0 false/\Of (iN j)=[P j]
 bel:Below b0 w0 w
theorem Same.trans{X:List Nat}{a b c:World}(h:Same X a b)(k:Same X b c):Same X a c:=⟨kG h.1 k.1,fun i hi=>(k.2 i hi).trans (h.2 i hi)⟩
theorem U4.step{Of:vW->List Nat}{n:Nat}{P:Nat->Nat}{I:Nat}(h:U4 w0 w b0 X0 Of C n P v I)(k1:bW w w1)(hn:bJ w1 w.heap.size I n (2^n-1) 1 0 false)(k2:bW w1 w2)(ho:w3.ownsRow (C+1) 227 1 v' (I+1) (((List.range I).map fun j=>.pointer (some ⟨P j,0,none⟩))++[pP w.heap.size]))(hg:w2.grownBy w3 v.ownBlock)(jW:v'.ownBlock=v.ownBlock\/v'.ownBlock=some w2.heap.size):
  ∃Of',U4 w0 (w3.setCell (aA C 13) v') b0 X0 Of' C n (upd P I w.heap.size) v' (I+1):=by have hC:C<w.heap.size:=h.fam.lt iB C Oz;have hC0:b0<=C:=h.lo iB C Oz;exact zOi
structure aB6(w0 w:World)(b0:Nat)(X0:List Nat)(Of:vW->List Nat)(C nb:Nat)(p:aQ)(P S E:Nat->Nat)(D R Q:Nat->Nat->Nat)(u:Value)(K:Nat):Prop where
 fam:vV w Of
 lo:∀i c,c∈Of i->b0<=c
 ob:Of iB=nb::C::u.ownBlock.toList
 nC:nb≠C
 nu:u.ownBlock≠some nb
 ox:∀c,c∈X0->c∈Of iX
 emp:∀i,Of i≠[]->i=iB\/i=iX\/(∃j,i=iN j)\/∃k,k<K/\(i=iS k\/∃j,i=iR k j\/i=iQ k j)
 kc:∀i,i≠14->w.cell? (aA C i)=w0.cell? (aA C i)
 c14:w.cell? (aA C 14)=some u
 z:∀i,w.frozen? (aA C i)=false
 kx:Same X0 w0 w
 kb:Same [nb] w0 w
 uo:w.ownsRow (C+1) 208 3 u K (fZ (fun k=>iI (p.lf k)) (fun k=>.pointer (some ⟨S k,0,none⟩)) (fun k=>sV (some ⟨E k,0,none⟩) p.n p.n) K)
 node:∀j,j<p.n->bJ w (P j) j p.n (2^p.n-1) 1 0 false/\Of (iN j)=[P j]
 snd:∀k,k<K->Sdr w (Of (iS k)) (S k) (p.lb k) (p.lq k) [] 0 0 0
 en:∀k,k<K->E k∈Of iX/\∀j,j<p.n->w.cell? ⟨E k,j,none⟩=some (.pointer (if aW (p.lt k) j=true then some ⟨D k j,0,none⟩else none))
 dn:∀k j,k<K->j<p.n->aW (p.lt k) j=true->(D k j∈Of iX/\w.cell? ⟨D k j,0,none⟩=some (.pointer (some ⟨R k j,0,none⟩))/\w.cell? ⟨D k j,1,none⟩=some (.pointer (some ⟨Q k j,0,none⟩)))/\Rcv w (Of (iR k j)) (R k j) (-1) 0 0/\Que w (Of (iQ k j)) (Q k j) 16 [] 0
 bel:Below b0 w0 w
theorem vV.join{I:Type}{O N:I->List Nat}(h:vV w O)(k:vV w' N)(hs:w.heap.size<=w'.heap.size)(hN:∀i c,c∈N i->w.heap.size<=c):vV w' (fun i=>O i++N i):=by
 refine⟨fun i c hc=>?_,fun i j hij c hc hn=>?_⟩
 ·rcases kL hc with y|y
  ·exact kB (h.lt i c y) hs
  ·exact k.lt i c y
 ·rcases kL hc with y|y<;>rcases kL hn with z|z
  ·exact h.ap i j hij c y z
  ·have:=h.lt i c y;have:=hN j c z;omega
  ·have:=hN i c y;have:=h.lt j c z;omega
  ·exact k.ap i j hij c y z
def aWd(f:Nat->Nat->Nat)(k:Nat)(g:Nat->Nat):Nat->Nat->Nat:=fun i=>if i=k then g else f i
theorem Y9(f:Nat->Nat->Nat)(k:Nat)(g:Nat->Nat):aWd f k g k=g:=kJ rfl
theorem K8(f:Nat->Nat->Nat){k:Nat}(g:Nat->Nat)(h:i≠k):aWd f k g i=f i:=kI h
theorem aB6.step{b1:Nat}{Of N:vW->List Nat}{P S E:Nat->Nat}{D R Q:Nat->Nat->Nat}{u':Value}{K S' E':Nat}{D' R' Q':Nat->Nat}(h:aB6 w0 w b0 X0 Of C nb p P S E D R Q u K)(k1:bW w w1)(hl:eF b1 w1 N K p.n p.n (p.lt K) (p.lb K) (p.lq K) S' E' D' R' Q')(dB:w.heap.size<=b1)(k2:bW w1 w2)
  (ho:w3.ownsRow (C+1) 208 3 u' (K+1) (fZ (fun k=>iI (p.lf k)) (fun k=>.pointer (some ⟨S k,0,none⟩)) (fun k=>sV (some ⟨E k,0,none⟩) p.n p.n) K++[iI (p.lf K),pP S',sL E' p.n p.n]))(hg:w2.grownBy w3 u.ownBlock)(jW:u'.ownBlock=u.ownBlock\/u'.ownBlock=some w2.heap.size):
  ∃Of',aB6 w0 (w3.setCell (aA C 14) u') b0 X0 Of' C nb p P (upd S K S') (upd E K E') (aWd D K D') (aWd R K R') (aWd Q K Q') u' (K+1):=by have mC:C∈Of iB:=Jd;have mb:nb∈Of iB:=Jd;have hC:C<w.heap.size:=h.fam.lt iB C mC;have hC0:b0<=C:=h.lo iB C mC;have hnb:nb<w.heap.size:=h.fam.lt iB nb mb;have aBo:=0;exact zOi
theorem U4.done{Of:vW->List Nat}{P:Nat->Nat}(h:U4 w0 w b0 X0 Of C p.n P v p.n)(hn:1<=p.n)(c14:w0.cell? (aA C 14)=some (sV none 0 0))(S E:Nat->Nat)(D R Q:Nat->Nat->Nat):
  ∃nb vQ Of',v=sL nb p.n vQ/\(∀j,j<p.n->w.cell? (aA nb j)=some (.pointer (some ⟨P j,0,none⟩)))/\aB6 w w b0 X0 Of' C nb p P S E D R Q (sV none 0 0) 0:=by
 obtain⟨nb,vQ,hv,hg,hc⟩:=pX h.vo hn;have hob:Of iB=[C,nb]:=by rw[h.ob,hv];rfl
 have sP:∀j,j<p.n->w.cell? (aA nb j)=some (.pointer (some ⟨P j,0,none⟩)):=fun j hj=>by have:=hc j (.pointer (some ⟨P j,0,none⟩)) (by simp[hj]);exact zCx
 have hm:∀i c,c∈dV Of iB [nb,C] i->c∈Of i:=fun i c hc=>by
  by_cases e:i=iB
  ·subst e;rw[cZ]at hc;rw[hob];simp at hc⊢;omega
  ·rw[bG _ _ e]at hc;exact hc
 refine⟨nb,vQ,dV Of iB [nb,C],hv,sP,⟨fun i c hc=>h.fam.lt i c (hm i c hc),fun i j hij c hc hn=>h.fam.ap i j hij c (hm i c hc) (hm j c hn)⟩,fun i c hc=>h.lo i c (hm i c hc),cZ _ _ _,od,by simp[Value.ownBlock],fun c hc=>?_,fun i hi=>?_,fun _ _=>rfl,(h.kc 14 oe).trans c14,h.z,⟨kF _,fun _ _=>rfl⟩,⟨kF _,fun _ _=>rfl⟩,World.ownsRow_nil _ _ _ _,fun j hj=>?_,fun k hk=>absurd hk (kT _),fun k hk=>absurd hk (kT _),fun k _ hk=>absurd hk (kT _),kX _ _⟩
 ·rw[bG _ _ oh,h.ox];exact hc
 ·by_cases e:i=iB
  ·exact .inl e
  ·rw[bG _ _ e]at hi;rcases h.emp i hi with y|y|⟨j,_,y⟩
   ·exact .inl y
   ·exact .inr (.inl y)
   ·exact .inr (.inr (.inl ⟨j,y⟩))
 ·rw[bG _ _ oh];exact h.node j hj
structure P9(w:World)(C:Nat)(p:aQ)(fa:Int)(cs:List Int)(cb cI:Nat)(sa:Option Addr)(oD:Nat)(X0:List Nat):Prop where
 c0:w.cell? (aA C 0)=some (iI p.nodes)
 c1:w.cell? (aA C 1)=some (iI p.aF)
 c3:w.cell? (aA C 3)=some (iI p.aC)
 c4:w.cell? (aA C 4)=some (iI p.aH)
 c5:w.cell? (aA C 5)=some (iI p.round)
 c6:w.cell? (aA C 6)=some (sV sa p.ns oD)
 c10:w.cell? (aA C 10)=some (iI fa)
 c11:w.cell? (aA C 11)=some (sL cb cs.length cI)
 c12:w.cell? (aA C 12)=some (iI 0)
 ck:∀j,j<cs.length->w.cell? (aA cb j)=some (iI (cs.getD j 0))
 ckX:cb∈X0
 sl:0<p.ns->∃b off,sa=some (aA b off)/\b∈X0/\∀i,i<p.ns->w.cell? ⟨b,off+i*3,none⟩=some (iI (p.nd i))/\w.cell? ⟨b,off+i*3+1,none⟩=some (iI (p.fr i))/\w.cell? ⟨b,off+i*3+2,none⟩=some (iI (p.td i))
theorem P9.keep{fa:Int}{cs:List Int}{sa:Option Addr}(h:P9 w C p fa cs cb cI sa oD X0)(cc:∀i,i<=12->w'.cell? (aA C i)=w.cell? (aA C i))(k:Same X0 w w'):P9 w' C p fa cs cb cI sa oD X0:=by refine⟨(cc 0 oe).trans h.c0,(cc 1 oe).trans h.c1,(cc 3 oe).trans h.c3,(cc 4 oe).trans h.c4,(cc 5 oe).trans h.c5,(cc 6 oe).trans h.c6,(cc 10 oe).trans h.c10,(cc 11 oe).trans h.c11,(cc 12 oe).trans h.c12,fun j hj=>(k.cell (p:=(aA cb j)) h.ckX).trans (h.ck j hj),h.ckX,fun h0=>?_⟩;obtain⟨b,off,e,hb,hc⟩:=h.sl h0;exact⟨b,off,e,hb,fun i hi=>⟨(k.cell (p:=⟨b,off+i*3,none⟩) hb).trans (hc i hi).1,(k.cell (p:=⟨b,off+i*3+1,none⟩) hb).trans (hc i hi).2.1,(k.cell (p:=⟨b,off+i*3+2,none⟩) hb).trans (hc i hi).2.2⟩⟩
theorem aB6.whole{Of:vW->List Nat}{vQ:Nat}{P S E:Nat->Nat}{D R Q:Nat->Nat->Nat}(h:aB6 w0 w b0 X0 Of C nb p P S E D R Q u p.nl)(h13:w0.cell? (aA C 13)=some (sL nb p.n vQ))(hnd:∀j,j<p.n->w0.cell? (aA nb j)=some (.pointer (some ⟨P j,0,none⟩))){fa:Int}{cs:List Int}{sa:Option Addr}(hH:P9 w0 C p fa cs cb cI sa oD X0):
  ∃O m,Cl w O C p fa cs cA.start 0 1 m/\∀c,c∈O->b0<=c:=by
 have mC:C∈Of iB:=Jd;have mb:nb∈Of iB:=Jd;have hC:C<w.heap.size:=h.fam.lt iB C mC;have k:=hH.keep (fun i hi=>h.kc i od) h.kx;obtain⟨la,lb,rJ,hu,hla⟩:∃la lb rJ,u=sV la p.nl rJ/\(0<p.nl->la=some (aA lb 0)/\u.ownBlock=some lb):=by
  rcases h.uo.2 with⟨e1,e2⟩|⟨g,c,cur,e,_⟩
  ·exact⟨none,0,0,by rw[e2];exact e1,fun y=>by omega⟩
  ·exact⟨_,g,c,e,fun _=>⟨rfl,by rw[e];rfl⟩⟩
 have hX:∀c,c∈nb::(u.ownBlock.toList++Of iX)->(c∈Of iB\/c∈Of iX)/\c≠C:=fun c hc=>by
  rcases kN hc with y|y
  ·exact⟨.inl (y▸mb),fun e=>h.nC od⟩
  rcases kL y with y|y
  ·refine⟨.inl (by rw[h.ob];exact kO _ (kO _ y)),fun e=>?_⟩;have:=(h.uo.lt c Ea).1;omega
  ·exact⟨.inr y,fun e=>h.fam.ap iB iX oh C mC (e▸y)⟩
 let X:=nb::(u.ownBlock.toList++Of iX);have xX:∀c,c∈Of iX->c∈X:=fun c hc=>kO _ (kK (.inr hc));have xl:∀c,c∈X->c<w.heap.size:=fun c hc=>by
  rcases(hX c hc).1 with y|y
  ·exact h.fam.lt _ c y
  ·exact h.fam.lt _ c y
 let G:vW->List Nat:=fun i=>if i=iB then C::X else if i=iX then[]else Of i;have gB:G iB=C::X:=rfl;have gO:∀i,i≠iB->i≠iX->G i=Of i:=fun i h1 h2=>by show(if i=iB then C::X else if i=iX then[]else Of i)=_;rw[kI h1,kI h2]
 have hG:∀i c,c∈G i->i≠iX/\(c∈Of i\/(i=iB/\c∈Of iX)):=fun i c hc=>by
  by_cases h1:i=iB
  ·subst h1;refine⟨oh,?_⟩;rw[gB]at hc;rcases kN hc with y|y
   ·exact .inl (y▸mC)
   ·rcases(hX c y).1 with z|z
    ·exact .inl z
    ·exact .inr ⟨rfl,z⟩
  ·by_cases h2:i=iX
   ·subst h2;have:G iX=[]:=rfl;rw[this]at hc;simp at hc
   ·rw[gO i h1 h2]at hc;exact⟨h2,.inl hc⟩
 have FG:vV w G:=by
  refine⟨fun i c hc=>?_,fun i j hij c hc hn=>?_⟩
  ·rcases(hG i c hc).2 with y|⟨_,y⟩
   ·exact h.fam.lt i c y
   ·exact h.fam.lt _ c y
  ·obtain⟨a1,a2⟩:=hG i c hc;obtain⟨b1,b2⟩:=hG j c hn;rcases a2 with y|⟨ei,y⟩<;>rcases b2 with z|⟨ej,z⟩
   ·exact h.fam.ap i j hij c y z
   ·exact h.fam.ap i iX a1 c y z
   ·exact h.fam.ap iX j (Ne.symm b1) c y z
   ·exact hij (ei.trans ej.symm)
 have gl:∀i c,c∈G i->b0<=c:=fun i c hc=>by
  rcases(hG i c hc).2 with y|⟨_,y⟩
  ·exact h.lo i c y
  ·exact h.lo _ c y
 refine⟨List.range' b0 (w.heap.size-b0),⟨X,cb,cI,sa,oD,nb,vQ,la,lb,rJ,P,S,E,D,R,Q⟩,⟨G,?_,gB,FG,fun i c hc=>?_,fun c hc=>?_,fun j hj=>?_,fun i hi=>?_,fun i j hi hj hb=>?_,fun i j hi hj hb=>?_⟩,fun c hc=>?_⟩
 ·refine⟨k.c0,k.c1,k.c3,k.c4,k.c5,k.c6,k.c10,k.c11,k.c12,(h.kc 13 oe).trans h13,by rw[h.c14,hu],h.z,hC,fun y=>(hX C y).2 rfl,xl,k.ck,xX _ (h.ox _ k.ckX),fun h0=>?_,fun j hj=>(h.kb.cell (p:=(aA nb j)) (List.mem_singleton.2 rfl)).trans (hnd j hj),kQ,fun h0=>⟨(hla h0).1,kO _ (kK (.inl (by rw[(hla h0).2];exact List.mem_singleton.2 rfl)))⟩,fun i hi=>?_,fun i hi=>⟨xX _ (h.en i hi).1,(h.en i hi).2⟩,fun i j hi hj hb=>?_⟩
  ·obtain⟨b,off,e,hb,hc⟩:=k.sl h0;exact⟨b,off,e,xX _ (h.ox _ hb),hc⟩
  ·obtain⟨x,y,z⟩:=zO (fun k=>iI (p.lf k)) (fun k=>.pointer (some ⟨S k,0,none⟩)) (fun k=>sV (some ⟨E k,0,none⟩) p.n p.n) p.nl i hi;have cl:=h.uo.cells (g:=lb) (hla od).2;have c0:=cl _ _ x;have c1:=cl _ _ y;have c2:=cl _ _ z;rw[nE,Nat.zero_add]at c0 c1 c2;exact⟨c0,c1,c2⟩
  ·obtain⟨⟨a1,a3,a4⟩,_⟩:=h.dn i j hi hj hb;exact⟨xX _ a1,a3,a4⟩
 ·have g1:=gl i c hc;have g2:=FG.lt i c hc;exact List.mem_range'_1.2 ⟨g1,od⟩
 ·have:=List.mem_range'_1.1 hc;omega
 ·obtain⟨a,b⟩:=h.node j hj;rw[gO (iN j) oh oh];refine⟨⟨?_,b⟩,⟨⟨show(0:Int)<=1 by decide,show(1:Int)<=((1:Nat):Int)by decide⟩,show(0:Int)<=0 by decide,show(0:Int)<=((1:Nat):Int)by decide⟩⟩;show bJ w (P j) j p.n (aZ (fun _=>true) p.n) 1 0 false;rw[aG9];exact a
 ·rw[gO (iS i) oh oh];exact⟨h.snd i hi,⟨by simp[cA.start],by simp[cA.start],by simp[cA.start]⟩⟩
 ·obtain⟨_,a5,a6⟩:=h.dn i j hi hj hb;rw[gO (iR i j) oh oh];exact⟨0,0,a5,⟨⟨oe,oe⟩,oe,oe⟩,by show(-1:Int)<=255;decide⟩
 ·obtain⟨_,a5,a6⟩:=h.dn i j hi hj hb;rw[gO (iQ i j) oh oh];exact⟨0,a6,⟨oe,oe⟩,by simp[cA.start]⟩
 ·exact(List.mem_range'_1.1 hc).1
end
theorem C5(a b c:Nat->Value)(n j:Nat)(u:Value)(h:(fZ a b c n)[j]?=some u):∃i,i<n/\((j=i*3/\u=a i)\/(j=i*3+1/\u=b i)\/(j=i*3+2/\u=c i)):=by
 have hl:=sM a b c n;have hj:j<n*3:=by
  rcases Nat.lt_or_ge j (n*3)with q|q
  ·exact q
  ·rw[List.getElem?_eq_none od]at h;cases h
 have h3:=zO a b c n (j/3) od;refine⟨j/3,od,?_⟩;have:j%3=0\/j%3=1\/j%3=2:=od;rcases this with q|q|q
 ·have e:j=j/3*3:=by omega
  rw[<-e]at h3;rw[h3.1]at h;cases h;exact .inl ⟨e,rfl⟩
 ·have e:j=j/3*3+1:=by omega
  rw[<-e]at h3;rw[h3.2.1]at h;cases h;exact .inr (.inl ⟨e,rfl⟩)
 ·have e:j=j/3*3+2:=by omega
  rw[<-e]at h3;rw[h3.2.2]at h;cases h;exact .inr (.inr ⟨e,rfl⟩)
def bN(f g h:Nat->Int)(n:Nat):List Value:=fZ (fun i=>iI (f i)) (fun i=>iI (g i)) (fun i=>iI (h i)) n
theorem aMr{w:World}{ad:Addr}{n:Nat}{f g h:Nat->Int}(hr:dX w (some ad) n f g h):∀j u,(bN f g h n)[j]?=some u->w.cell? (ad.add j)=some u:=by
 intro j u hj;obtain⟨i,hi,hh⟩:=C5 _ _ _ n j u hj;obtain⟨b,off,e,_,hc⟩:=hr od;injection e with e;subst e;obtain⟨c0,c1,c2⟩:=hc i hi;rw[nE];rcases hh with⟨rfl,rfl⟩|⟨rfl,rfl⟩|⟨rfl,rfl⟩
 ·exact c0
 ·exact c1
 ·exact c2
theorem aVt(f g h:Nat->Int)(n:Nat):∀u∈bN f g h n,u.oneCell'=true:=by intro u hu;obtain⟨j,hj⟩:=List.getElem?_of_mem hu;obtain⟨i,_,hh⟩:=C5 _ _ _ n j u hj;rcases hh with⟨_,rfl⟩|⟨_,rfl⟩|⟨_,rfl⟩<;>rfl
theorem aLo{w:World}{base n:Nat}{v:Value}{f g' h':Nat->Int}(h:w.ownsRow base 94 3 v n (bN f g' h' n)):∃a cap,v=sV a n cap/\dX w a n f g' h'/\∀b off s,a=some ⟨b,off,s⟩->base<=b/\b<w.heap.size:=zBc
theorem Tryz.infoSlot9:(Tryz.prog.info? 94).map (fun i=>(i.zero,i.size,i.bytes))=some (some (.agg #[iI 0,iI 0,iI 0]),3,24):=by kernel_rfl
theorem bB1(pt fr tq:Nat->Int)(a:Option Addr)(n cap:Nat)(w:World)(hn:n<=1000)(hr:dX w a n pt fr tq):
  Calls prog 116 #[sV a n cap] w fun e w'=>∃a' cap',e=rT (sV a' n cap')/\dX w' a' n pt fr tq/\(∀b off s,a'=some ⟨b,off,s⟩->w.heap.size<=b/\b<w'.heap.size)/\bW w w':=by
 cases a with
 |none=>
  have h0:n=0:=by
   rcases Nat.eq_zero_or_pos n with q|q
   ·exact q
   ·obtain⟨_,_,e,_⟩:=hr q;cases e
  subst h0
  have q22:∀(w:World)(a:Option Addr)(n c n' c':Nat),(binOp .eql 47 (sV a n c) (sV none n' c')).run prog w=.ok (.bool a.isNone) w:=fun w a n c n' c'=>Lib.run_eql_slice_nil w _ _ a n c n' c' underlying47
  go_enter func116,ntmps116
  go_wp2
  go_ret
  exact⟨none,0,rfl,fun q=>absurd q (kU _),(fun _ _ _ e=>by cases e),kX _ _⟩
 |some ad=>
  have q22:∀(w:World)(a:Option Addr)(n c n' c':Nat),(binOp .eql 47 (sV a n c) (sV none n' c')).run prog w=.ok (.bool a.isNone) w:=fun w a n c n' c'=>Lib.run_eql_slice_nil w _ _ a n c n' c' underlying47
  obtain⟨i0,hi,lO,mX,jX⟩:=info_parts Tryz.infoSlot9
  have HC:Hid (∀j u,(bN pt fr tq n)[j]?=some u->w.cell? (ad.add j)=some u):=aMr hr
  clear hr
  go_enter func116,ntmps116
  go_wp2_with(at_builtin;refine wpList_append_own _ rfl _ _ 47 rfl w.heap.size 94 i0 (.agg #[iI 0,iI 0,iI 0]) 3 24 underlying47 hi lO mX jX rfl oe _ _ _ rfl (World.ownsRow_made w #[] 0 (kF _) (kH _) rfl) ad n cap (bN pt fr tq n) rfl ?qc1 ?qc2 ?qc3 ?qc4 ?qc5 ?qc6 ?_)
  case qc1=>exact sM _ _ _ n
  case qc2=>
   intro j u hj
   exact Lib.cell?_alloc_some _ (HC.out j u hj)
  case qc3=>exact aVt pt fr tq n
  case qc4=>unfold maxLen;omega
  case qc5=>omega
  case qc6=>simp
  intro v' w1 bK bP vP
  obtain⟨a',cap',rfl,hr',hb'⟩:=aLo bK
  go_wp2
  go_ret
  exact⟨a',cap',rfl,hr',hb',((kX _ w).alloc (kF _) _).grown bP oh (by intro k hk;simp[Value.ownBlock]at hk;omega)⟩
theorem aSm(cs:List Int)(a:Option Addr)(n cap:Nat)(hl:cs.length=n)(hn:1<=n)(wC:n<=1000)(w:World)(hr:bE w a cs):
  Calls prog 115 #[sV a n cap] w fun e w'=>∃g cp,e=rT (sL g n cp)/\(w.heap.size<=g/\g<w'.heap.size)/\(∀j,j<cs.length->w'.cell? (aA g j)=some (iI (cs.getD j 0)))/\bW w w':=by
 obtain⟨b,off,rfl,hb,hc⟩:=hr od;refine(Tryz.slices_Clone_int b off n cap cs w od od hc).mono ?_;rintro e w1 ⟨v1,rfl,bK,jB,bBl⟩;rw[List.take_of_length_le od]at bK;rcases bK.2 with⟨_,e0⟩|⟨g,cp,cur,hv,hg,hh,_⟩
 ·omega
 ·have tE:g<w1.heap.size:=(bK.lt g (by rw[hv];rfl)).2;refine⟨g,cp,by rw[hv],⟨hg,tE⟩,fun j hj=>?_,bBl⟩;have:=bK.cells (g:=g) (by rw[hv];rfl) j (iI (cs.getD j 0)) (by simp[List.getD,hj]);exact zCx
