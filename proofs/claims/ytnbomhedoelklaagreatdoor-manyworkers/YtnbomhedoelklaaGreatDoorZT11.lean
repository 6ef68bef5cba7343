import Derived.Test.YtnbomhedoelklaaGreatDoorZT10
import Derived.Test.YtnbomhedoelklaaGreatDoorZW12
namespace Go.Proofs.YtnbomhedoelklaaGreatDoor
open Go.RowKit Go.Proofs.Tryz
set_option maxRecDepth 99999
set_option maxHeartbeats 0
theorem aWx(s:WG)(h:Lib.indexByte s.data.toList 10=-1)(w:WA):Calls prog 94 #[sT s,sT ⟨#[10]⟩] w λe w'=>e=rT (tU #[sT s,sT ⟨#[]⟩,.bool false])/\bW w w':=zI2
theorem bAx(s:WG)(h:Lib.indexByte s.data.toList 10=-1)(w:WA):Calls prog 58 #[sT s,sT ⟨#[10]⟩] w λe w'=>e=rT (tU #[sT s,sT ⟨#[]⟩,.bool false])/\bW w w':=by have hc:=aWx s h w;go_enter func58,ntmps58;go_wp2_with(go_at_call 94;refine hc.mono ?_;rintro e w' ⟨rfl,hb⟩);refine bodyPost_ret (v:=tU #[sT s,sT ⟨#[]⟩,.bool false]) (by simp[results,results58,go_sem]) rfl ⟨rfl,hb⟩
theorem aSe(s:WG)(k:Nat)(h:Lib.indexByte s.data.toList 10=k)(hk:k<s.size)(hs:s.size<=100000)(w:WA):Calls prog 94 #[sT s,sT ⟨#[10]⟩] w λe w'=>e=rT (tU #[sT (s.extract 0 k),sT (s.extract (k+1) s.size),.bool true])/\bW w w':=have bG4:=0;zI2
theorem aWy(s:WG)(k:Nat)(h:Lib.indexByte s.data.toList 10=k)(hk:k<s.size)(hs:s.size<=100000)(w:WA):Calls prog 58 #[sT s,sT ⟨#[10]⟩] w λe w'=>e=rT (tU #[sT (s.extract 0 k),sT (s.extract (k+1) s.size),.bool true])/\bW w w':=by have hc:=aSe s k h hk hs w;go_enter func58,ntmps58;go_wp2_with(go_at_call 94;refine hc.mono ?_;rintro e w' ⟨rfl,hb⟩);refine bodyPost_ret (v:=tU #[sT (s.extract 0 k),sT (s.extract (k+1) s.size),.bool true]) (by simp[results,results58,go_sem]) rfl ⟨rfl,hb⟩
section
variable{base:Nat}
structure gW(w:WA):Prop where
 told:Told w
 syn:∃t p,w.cell? (aA 3 0)=some (.iface t p)
 rng:∃t p,w.cell? (aA 4 0)=some (.iface t p)
 tab:Lib.TabIs prog w oA .u64 Lib.pow10Tab
def cU(base:Nat)(w:WA):Prop:=∀w',Below base w w'->gW w'
theorem cU.here{w:WA}(h:cU base w):gW w:=h w (jD _ _)
theorem cU.below{w w':WA}(h:cU base w)(hb:Below base w w'):cU base w':=λv hv=>h v (hb.trans hv)
theorem cU.at{w v:WA}(h:cU base w)(hb:Below base w v)(hB:base<=v.1.size):cU v.1.size v:=λu hu=>h u (hb.trans (hu.mono hB))
def s9(word:WG):Option Int:=
 match Lib.parseIntB 64 word.data.toList with
 |.ok v=>if(⟨(Lib.itoa v).toArray⟩:WG)=word then some v else none
 |_=>none
theorem below_grow(w:WA)(k:Nat)(os:Array Obj):bW w (Go.Sort.grow (w.drewN k) os):=⟨rfl,rfl,rfl,by simp[Go.Sort.grow],λi hi=>by
 show(w.1++os)[i]?=_
 rw[Array.getElem?_append_left hi]⟩
theorem aDm(x y:WG):x.toList=y.toList↔x=y:=by
 rw[ByteArray.toList_eq,ByteArray.toList_eq];constructor
 .intro h;cases x;cases y;simpa using h
 .intro h;rw[h]
theorem aRx{x y:WG}(h:x≠y):(x.toList==y.toList)=false:=by
 cases e:x.toList==y.toList with
 |false=>rfl
 |true=>exact absurd ((aDm x y).1 jk) h
theorem aPy(word:WG)(hs:word.size<=20000)(w:WA)(hw:cU w.1.size w)(v:Int)(h0:-9223372036854775808<=v)(h1:v<=9223372036854775807)(hp:Lib.parseIntB 64 word.data.toList=.ok v)(he:(⟨(Lib.itoa v).toArray⟩:WG)=word):Calls prog 97 #[sT word] w λe w'=>e=rT (iI v)/\bW w w':=zG5
theorem aKo(word:WG)(hs:word.size<=20000)(w:WA)(hw:cU w.1.size w)(v:Int)(h0:-9223372036854775808<=v)(h1:v<=9223372036854775807)(hp:Lib.parseIntB 64 word.data.toList=.ok v)(he:(⟨(Lib.itoa v).toArray⟩:WG)≠word):Calls prog 97 #[sT word] w λe w'=>e=dM 3/\bW w w':=have m38:=0;zG5
theorem aKp(word:WG)(hs:word.size<=20000)(w:WA)(hw:cU w.1.size w)(hp:Lib.parseIntB 64 word.data.toList=Lib.parseIntB 64 []):Calls prog 97 #[sT word] w λe w'=>e=dM 3/\bW w w':=by obtain⟨te,pe,hv⟩:=hw.here.syn;generalize hev:Value.iface te pe=ev at hv;subst hev;have hP:=Tryz.strconv_ParseInt_10_at64_syntax word od hp (.iface te pe) w hv (.inr ⟨te,pe,rfl⟩);exact zBz
theorem aKq(word:WG)(hs:word.size<=20000)(w:WA)(hw:cU w.1.size w)(hp:Lib.parseIntB 64 word.data.toList=.range):Calls prog 97 #[sT word] w λe w'=>e=dM 3/\bW w w':=by obtain⟨te,pe,hv⟩:=hw.here.rng;generalize hev:Value.iface te pe=ev at hv;subst hev;have hP:=Tryz.strconv_ParseInt_10_at64_range word od hp (.iface te pe) w hv (.inr ⟨te,pe,rfl⟩);exact zBz
theorem aKn(word:WG)(hs:word.size<=20000)(w:WA)(hw:cU w.1.size w):Calls prog 97 #[sT word] w λe w'=>e=(match s9 word with|some v=>rT (iI v)|none=>dM 3)/\bW w w':=by
 unfold s9;cases hp:Lib.parseIntB 64 word.data.toList
 .rename_i v;have hv:-9223372036854775808<=v/\v<=9223372036854775807:=by exact zDm
  by_cases he:(⟨(Lib.itoa v).toArray⟩:WG)=word
  .simp only[kK he];exact aPy word hs w hw v hv.1 hv.2 hp he
  .simp only[kJ he];exact aKo word hs w hw v hv.1 hv.2 hp he
 .exact aKp word hs w hw hp
 .exact aKq word hs w hw hp
end
section
variable{B X cap k n:Nat}{u u' w:WA}
def R5(w:WA)(a:Option WT)(ws:List WG):Prop:=
 0<ws.length->∃b off,a=some (aA b off)/\b<w.1.size/\∀j x,ws[j]?=some x->w.cell? (aA b (off+j))=some (sT x)
theorem R5.take{a:Option WT}{l:List WG}(h:R5 w a l)(n:Nat):R5 w a (l.take n):=λh0=>by
 obtain⟨b,off,e,hl,hc⟩:=h (by simp at h0;omega);refine⟨b,off,e,hl,λj x hj=>hc j x ?_⟩;rw[List.getElem?_take]at hj;split at hj
 .exact hj
 .cases hj
def gL:List WG->Option (List Int)
 |[]=>some []
 |x::r=>match s9 x with
  |none=>none
  |some v=>(gL r).map (v::·)
theorem aKr(l:List WG)(x:WG):gL (l++[x])=(gL l).bind λr=>(s9 x).map λv=>r++[v]:=by
 induction l with
 |nil=>simp only[List.nil_append,gL];cases s9 x<;>rfl
 |cons y l ih=>
  simp only[List.cons_append,gL,ih]
  cases s9 y with
  |none=>rfl
  |some v=>cases gL l with
   |none=>rfl
   |some r=>cases s9 x<;>rfl
theorem uG{l:List WG}(h:gL (l.take k)=none):gL l=none:=by
 induction l generalizing k with
 |nil=>cases k<;>cases h
 |cons y l ih=>
  cases k with
  |zero=>cases h
  |succ k=>
   simp only[List.take_succ_cons,gL]at h⊢
   cases e:s9 y with
   |none=>rfl
   |some v=>
    rw[e]at h
    simp only[Option.map_eq_none_iff]at h⊢
    exact ih h
theorem pK:∀{l:List WG}{r:List Int},gL l=some r->r.length=l.length
 |[],_,h=>by cases h;rfl
 |x::l,r,h=>by
  simp only[gL]at h
  cases e:s9 x with
  |none=>rw[e]at h;cases h
  |some v=>
   rw[e]at h
   simp only[Option.map_eq_some_iff]at h
   obtain⟨r',h1,rfl⟩:=h
   simp[pK h1]
theorem aKm{x:WG}{v:Int}(h:s9 x=some v):-9223372036854775808<=v/\v<=9223372036854775807:=by
 unfold s9 at h;split at h
 .rename_i v' hp;split at h
  .cases h;exact zDm
  .cases h
 .cases h
theorem vW:∀{l:List WG}{r:List Int},gL l=some r->∀v∈r,-9223372036854775808<=v/\v<=9223372036854775807
 |[],_,h,v,hv=>by cases h;cases hv
 |x::l,r,h,v,hv=>by
  simp only[gL]at h
  cases e:s9 x with
  |none=>rw[e]at h;cases h
  |some u=>
   rw[e]at h
   simp only[Option.map_eq_some_iff]at h
   obtain⟨r',h1,rfl⟩:=h
   rcases kQ hv with rfl|hv
   .exact aKm e
   .exact vW h1 v hv
def rG(m:Nat)(more text:Bool)(ws:List WG):Option (List Int×WG):=
 if text=true/\ws≠[]then
  if ws.length-1=m\/(m<ws.length-1/\more=true)then(gL (ws.take (ws.length-1))).map λl=>(l,ws.getD (ws.length-1) AU)else none
 else if ws.length=m\/(m<ws.length/\more=true)then(gL ws).map λl=>(l,AU)else none
def yH(w w':WA)(o:Option (List Int×WG))(e:Ending):Prop:=
 match o with
 |none=>e=dM 3
 |some x=>∃a cap,e=rT (.agg #[sV a x.1.length cap,sT x.2])/\x.1.length<=cap/\bI w' a x.1/\(∀b off,a=some (aA b off)->w.1.size<=b/\b<w'.1.size/\∃cs fr,w'.1[b]?=some (.cells cs 3 fr))
theorem yH.no{w':WA}{o:Option (List Int×WG)}(h:o=none):yH w w' o (dM 3):=by subst h;rfl
theorem aUh{e:WI}{a:Option WT}{xs:List WB}(h:u.ownsRow B e 1 (sV a n cap) n xs):n<=cap:=by
 rcases h.2 with⟨_,h0⟩|⟨g,c,cur,e,_,_,h1,_⟩
 .omega
 .injection e with _ _ e3;rw[e3];exact h1
theorem aHk{r:List Int}{a:Option WT}(h:u.ownsRow B 3 1 (sV a r.length cap) r.length (r.map (Value.int .i64))):bI u a r/\∀b off,a=some (aA b off)->B<=b/\b<u.1.size/\∃cs fr,u.1[b]?=some (.cells cs 3 fr):=by
 rcases h.2 with⟨e,h0⟩|⟨g,c,cur,e,hg,hh,_⟩
 .injection e with e1;subst e1;refine⟨λq=>absurd q od,λb off q=>by cases q⟩
 .injection e with e1 e2 e3;subst e1;have hlt:g<u.1.size:=by
   rcases jB g u.1.size with q|q
   .exact q
   .exact zF1
  refine⟨λq=>⟨g,0,rfl,hlt,λj hj=>?_⟩,λb off q=>by cases q;exact⟨hg,hlt,_,_,hh⟩⟩;have:=h.cells (g:=g) rfl j (iI (r.getD j 0)) (by simp[AT hj]);rw[mJ]at this;exact this
def mO(m:Nat)(more text:Bool)(oD:Int)(f:WB):WB:=.agg #[iI m,.bool more,.bool text,iI oD,f]
theorem H7{e:WI}{v:WB}{xs:List WB}(h:u.ownsRow B e 1 v n xs)(hk:v.ownBlock=some k):B<=k:=by
 rcases h.2 with⟨e,_⟩|⟨g,cap,cur,e,oH,_⟩
 .rw[e]at hk;cases hk
 .rw[e]at hk;cases hk;exact oH
theorem tM(h:Below B w u)(q:Nat):Below B w (u.drewN q):=⟨h.os,h.tape,h.output,h.size,h.block⟩
structure D8(X:Nat)(tx:WG)(r:List Int)(v:WB)(u:WA):Prop where
 c0:u.cell? (aA X 0)=some v
 c1:u.cell? (aA X 1)=some (sT tx)
 z0:u.frozen? (aA X 0)=false
 a0:∃q,u.cell? ⟨X-1,0,none⟩=some q
 a1:∃q,u.cell? ⟨X-1,1,none⟩=some q
 y0:u.frozen? ⟨X-1,0,none⟩=false
 y1:u.frozen? ⟨X-1,1,none⟩=false
 own:u.ownsRow (X+1) 3 1 v r.length (r.map (Value.int .i64))
 lt:X<u.1.size
 pos:1<=X
theorem D8.below{tx:WG}{r:List Int}{v:WB}(h:D8 X tx r v u)(hb:bW u u'):D8 X tx r v u':=by
 have hx:=h.lt;have h1:X-1<u.1.size:=od;refine⟨bc hb hx h.c0,bc hb hx h.c1,(hb.frozen (p:=(aA X 0)) hx).trans h.z0,?_,?_,(hb.frozen (p:=⟨X-1,0,none⟩) h1).trans h.y0,(hb.frozen (p:=⟨X-1,1,none⟩) h1).trans h.y1,gK h.own hb,kC hx hb.size,h.pos⟩
 .obtain⟨q,hq⟩:=h.a0;exact⟨q,(hb.cell (p:=⟨X-1,0,none⟩) h1).trans hq⟩
 .obtain⟨q,hq⟩:=h.a1;exact⟨q,(hb.cell (p:=⟨X-1,1,none⟩) h1).trans hq⟩
theorem D8.grown{tx:WG}{r:List Int}{v:WB}(h:D8 X tx r v u)(hg:u.grownBy u' v.ownBlock)(x:Int)(v':WB)(cP:u'.ownsRow (X+1) 3 1 v' (r.length+1) (r.map (Value.int .i64)++[iI x])):
  u'.cell? (aA X 0)=some v/\u'.frozen? (aA X 0)=false/\D8 X tx (r++[x]) v' (u'.setCell (aA X 0) v'):=by
 have hx:=h.lt;have hB:Below (X+1) u u':=(jD _ _).grown hg od (λk hk=>by
  rcases h.own.2 with⟨e,_⟩|⟨g,cap,cur,e,oH,_⟩
  .rw[e]at hk;cases hk
  .rw[e]at hk
   cases hk;exact oH)
 have e0:=bc hB (show X<X+1 by omega) h.c0;have e1:=bc hB (show X<X+1 by omega) h.c1;have f0:=(hB.frozen (p:=(aA X 0)) (show X<X+1 by omega)).trans h.z0;have g0:=(hB.frozen (p:=⟨X-1,0,none⟩) (show X-1<X+1 by omega)).trans h.y0;have g1:=(hB.frozen (p:=⟨X-1,1,none⟩) (show X-1<X+1 by omega)).trans h.y1;have hlt:X<u'.1.size:=kC hx hB.size;obtain⟨q0,h0⟩:=h.a0;obtain⟨q1,h1⟩:=h.a1;have k0:=(hB.cell (p:=⟨X-1,0,none⟩) (show X-1<X+1 by omega)).trans h0;have k1:=(hB.cell (p:=⟨X-1,1,none⟩) (show X-1<X+1 by omega)).trans h1;have eH:X-1≠X:=by have:=h.pos;omega
 refine⟨e0,f0,aZ e0,(aB (.inr og)).trans e1,bJ.trans f0,⟨q0,(aB (.inl eH)).trans k0⟩,⟨q1,(aB (.inl eH)).trans k1⟩,bJ.trans g0,bJ.trans g1,?_,by simpa using hlt,h.pos⟩;have:=fL (b:=X) (i:=0) (x:=v') cP (Nat.lt_succ_self X);exact zCk
theorem aAm(w:WA)(o:Obj)(t:WI)(tx:WG):D8 (w.1.size+1+1) tx [] (sV none 0 0) (((w.alloc o).alloc (.cells #[sV none 0 0,sT ⟨#[]⟩] t)).alloc (.cells #[sV none 0 0,sT tx] t)):=by have e:w.1.size+1+1-1=w.1.size+1:=rfl;refine⟨Ec,Ec,Ec,⟨sV none 0 0,?_⟩,⟨sT ⟨#[]⟩,?_⟩,?_,?_,⟨rfl,.inl ⟨rfl,rfl⟩⟩,oe,od⟩;all_goals(rw[e];simp[go_sem])
theorem Tryz.infoInt8:(Tryz.prog.info? 3).map (λi=>(i.zero,i.size,i.bytes))=some (some (iI 0),1,8):=oh
theorem aV9(m:Nat)(more:Bool)(oD:Int)(f:WB)(a:Option WT)(cap:Nat)(ws:List WG)(hl:ws.length<=20000)(w:WA)(h3:ws.length<m):
  Calls prog 65 #[mO m more false oD f,sV a ws.length cap] w λe w'=>e=dM 3/\bW w w':=by
 have hA:=λu=>pS 3 u;unfold mO;have k1:(((ws.length:Int):Int)==(m:Int))=false:=by simpa using(show ¬((ws.length:Int):Int)=m by omega)
 have k2:decide ((m:Int)<((ws.length:Int):Int))=false:=kD od;exact zA7
theorem aV7(m:Nat)(more:Bool)(oD:Int)(f:WB)(a:Option WT)(cap:Nat)(ws:List WG)(hl:ws.length<=20000)(w:WA)(h3:m<ws.length)(h4:more=false):
  Calls prog 65 #[mO m more false oD f,sV a ws.length cap] w λe w'=>e=dM 3/\bW w w':=by have hA:=λu=>pS 3 u;exact zId
theorem aV5(m:Nat)(hm:m<=6)(more:Bool)(oD:Int)(f:WB)(a:Option WT)(cap:Nat)(ws:List WG)(hl:ws.length<=20000)(hsz:∀x∈ws,x.size<=20000)(w:WA)(hw:cU w.1.size w)(hr:R5 w a ws)(h3:ws.length=m):
  Calls prog 65 #[mO m more false oD f,sV a ws.length cap] w λe w'=>yH w w' ((gL ws).map λl=>(l,AU)) e/\bW w w':=by
 have hA:=λu=>pH 3 u;obtain⟨i0,hi,qV,qO,qP⟩:=info_parts Tryz.infoInt8;unfold mO;have k1:((ws.length:Int)==(m:Int))=true:=by simpa using(show(ws.length:Int)=m by omega)
 exact zAa
theorem aLa(m:Nat)(hm:m<=6)(more:Bool)(oD:Int)(f:WB)(a:Option WT)(cap:Nat)(ws:List WG)(hl:ws.length<=20000)(hsz:∀x∈ws,x.size<=20000)(w:WA)(hw:cU w.1.size w)(hr:R5 w a ws)(h3:m<ws.length)(h4:more=true):
  Calls prog 65 #[mO m more false oD f,sV a ws.length cap] w λe w'=>yH w w' ((gL ws).map λl=>(l,AU)) e/\bW w w':=by have hA:=λu=>pH 3 u;obtain⟨i0,hi,qV,qO,qP⟩:=info_parts Tryz.infoInt8;have m82:=0;exact zId
theorem aVa(m:Nat)(more:Bool)(oD:Int)(f:WB)(a:Option WT)(cap:Nat)(ws:List WG)(hl:ws.length<=20000)(w:WA)(hr:R5 w a ws)(q:Nat)(hq:ws.length=q+1)(hcap:ws.length<=cap)(tx:WG)(hx:ws[q]?=some tx)(h3:q<m):
  Calls prog 65 #[mO m more true oD f,sV a ws.length cap] w λe w'=>e=dM 3/\bW w w':=zG1
theorem aV8(m:Nat)(more:Bool)(oD:Int)(f:WB)(a:Option WT)(cap:Nat)(ws:List WG)(hl:ws.length<=20000)(w:WA)(hr:R5 w a ws)(q:Nat)(hq:ws.length=q+1)(hcap:ws.length<=cap)(tx:WG)(hx:ws[q]?=some tx)(h3:m<q)(h4:more=false):
  Calls prog 65 #[mO m more true oD f,sV a ws.length cap] w λe w'=>e=dM 3/\bW w w':=have m34:=0;zG1
theorem aQd(m:Nat)(more:Bool)(oD:Int)(f:WB)(a:Option WT)(cap:Nat)(w:WA)(h3:0<m):
  Calls prog 65 #[mO m more true oD f,sV a 0 cap] w λe w'=>e=dM 3/\bW w w':=by
 have hA:=λu=>pS 3 u;unfold mO;have k1:((0:Int)==(m:Int))=false:=by simpa using(show ¬(0:Int)=m by omega)
 have k2:decide ((m:Int)<(0:Int))=false:=kD od;exact zA7
theorem aV6(m:Nat)(hm:m<=6)(more:Bool)(oD:Int)(f:WB)(a:Option WT)(cap:Nat)(ws:List WG)(hsz:∀x∈ws,x.size<=20000)(w:WA)(hw:cU w.1.size w)(hr:R5 w a ws)(hq:ws.length=m+1)(hcap:ws.length<=cap)(tx:WG)(hx:ws[m]?=some tx):
  Calls prog 65 #[mO m more true oD f,sV a ws.length cap] w λe w'=>yH w w' ((gL (ws.take m)).map λl=>(l,tx)) e/\bW w w':=by have hA:=λu=>pH 3 u;obtain⟨i0,hi,qV,qO,qP⟩:=info_parts Tryz.infoInt8;unfold mO;obtain⟨b,off,rfl,hb,hc⟩:=hr od;have q1:((ws.length:Int)-1)=(m:Int):=od;have q2:m<ws.length:=od;have q3:(m:Int)<(ws.length:Int):=od;have q4:ws.length<=cap:=hcap;have y3:∀o1 o2 o3:Obj,(((w.alloc o1).alloc o2).alloc o3).cell? (aA b (off+m))=some (sT tx):=λo1 o2 o3=>(((((jD _ w).alloc (kG _) o1).alloc oe o2).alloc ol o3).cell (p:=(aA b (off+m))) hb).trans (hc m tx hx);clear hc;exact zGe
theorem aV3(m:Nat)(hm:m<=6)(more text:Bool)(htx:text=true->0<m/\more=false)(oD:Int)(f:WB)(a:Option WT)(cap:Nat)(ws:List WG)(hcap:ws.length<=cap)(hl:ws.length<=20000)(hsz:∀x∈ws,x.size<=20000)(w:WA)(hw:cU w.1.size w)(hr:R5 w a ws):
  Calls prog 65 #[mO m more text oD f,.slice a ws.length cap] w λe w'=>yH w w' (rG m more text ws) e/\bW w w':=by
 unfold rG
 cases text with
 |false=>
  rw[kJ (λh=>by cases h.1)]
  by_cases h1:ws.length=m
  .rw[kK (.inl h1)]
   exact aV5 m hm more oD f a cap ws hl hsz w hw hr h1
  .by_cases h2:m<ws.length
   .cases more with
    |true=>
     rw[kK (.inr ⟨h2,rfl⟩)]
     exact aLa m hm true oD f a cap ws hl hsz w hw hr h2 rfl
    |false=>
     rw[kJ (λh=>h.elim h1 (λh=>by cases h.2))]
     exact(aV7 m false oD f a cap ws hl w h2 rfl).mono λe w' h=>⟨h.1,h.2⟩
   .rw[kJ (λh=>h.elim h1 (λh=>h2 h.1))]
    exact(aV9 m more oD f a cap ws hl w od).mono λe w' h=>⟨h.1,h.2⟩
 |true=>
  obtain⟨h0,rfl⟩:=htx rfl
  cases hq:ws.length with
  |zero=>
   obtain rfl:ws=[]:=List.eq_nil_of_length_eq_zero hq
   rw[kJ (λh=>h.2 rfl),kJ (λh=>h.elim (λ(h:0=m)=>by omega) (λh=>by cases h.2))]
   exact(aQd m false oD f a cap w h0).mono λe w' h=>⟨h.1,h.2⟩
  |succ q=>
   have eH:ws≠[]:=λh=>by rw[h]at hq;cases hq
   obtain⟨tx,hx⟩:∃tx,ws[q]?=some tx:=⟨_,AT od⟩
   have htq:ws.getD q AU=tx:=by rw[List.getD,hx];rfl
   rw[kK ⟨rfl,eH⟩,Nat.add_sub_cancel]
   have hs:(Value.slice a (q+1) cap)=.slice a ws.length cap:=by rw[hq]
   rw[hs]
   by_cases h1:q=m
   .subst h1
    rw[kK (.inl rfl),htq]
    exact aV6 q hm false oD f a cap ws hsz w hw hr hq hcap tx hx
   .rw[kJ (λh=>h.elim h1 (λh=>by cases h.2))]
    by_cases h2:m<q
    .exact(aV8 m false oD f a cap ws hl w hr q hq hcap tx hx h2 rfl).mono λe w' h=>⟨h.1,h.2⟩
    .exact(aVa m false oD f a cap ws hl w hr q hq hcap tx hx od).mono λe w' h=>⟨h.1,h.2⟩
end
structure Kd where
 i:Fin 20
def Kd.qZ:Kd:=⟨⟨0,og⟩⟩
def Kd.oV:Kd:=⟨⟨1,og⟩⟩
def Kd.oP:Kd:=⟨⟨2,og⟩⟩
def Kd.bytes_:Kd:=⟨⟨3,og⟩⟩
def Kd.iV:Kd:=⟨⟨4,og⟩⟩
def Kd.vY:Kd:=⟨⟨5,og⟩⟩
def Kd.gU:Kd:=⟨⟨6,og⟩⟩
def Kd.qD:Kd:=⟨⟨7,og⟩⟩
def Kd.qG:Kd:=⟨⟨8,og⟩⟩
def Kd.mX:Kd:=⟨⟨9,og⟩⟩
def Kd.qX:Kd:=⟨⟨10,og⟩⟩
def Kd.pD:Kd:=⟨⟨11,og⟩⟩
def Kd.lZ:Kd:=⟨⟨12,og⟩⟩
def Kd.mF:Kd:=⟨⟨13,og⟩⟩
def Kd.eN:Kd:=⟨⟨14,og⟩⟩
def Kd.gD:Kd:=⟨⟨15,og⟩⟩
def Kd.pB:Kd:=⟨⟨16,og⟩⟩
def Kd.real_:Kd:=⟨⟨17,og⟩⟩
def Kd.clear_:Kd:=⟨⟨18,og⟩⟩
def Kd.xQ:Kd:=⟨⟨19,og⟩⟩
theorem Kd.each{P:Kd->Prop}(qZ:P Kd.qZ)(oV:P Kd.oV)(oP:P Kd.oP)(bytes_:P Kd.bytes_)(iV:P Kd.iV)(vY:P Kd.vY)(gU:P Kd.gU)(qD:P Kd.qD)(qG:P Kd.qG)(mX:P Kd.mX)(qX:P Kd.qX)(pD:P Kd.pD)(lZ:P Kd.lZ)(mF:P Kd.mF)(eN:P Kd.eN)(gD:P Kd.gD)(pB:P Kd.pB)(real_:P Kd.real_)(clear_:P Kd.clear_)(xQ:P Kd.xQ):∀k,P k
 |⟨⟨0,_⟩⟩=>qZ
 |⟨⟨1,_⟩⟩=>oV
 |⟨⟨2,_⟩⟩=>oP
 |⟨⟨3,_⟩⟩=>bytes_
 |⟨⟨4,_⟩⟩=>iV
 |⟨⟨5,_⟩⟩=>vY
 |⟨⟨6,_⟩⟩=>gU
 |⟨⟨7,_⟩⟩=>qD
 |⟨⟨8,_⟩⟩=>qG
 |⟨⟨9,_⟩⟩=>mX
 |⟨⟨10,_⟩⟩=>qX
 |⟨⟨11,_⟩⟩=>pD
 |⟨⟨12,_⟩⟩=>lZ
 |⟨⟨13,_⟩⟩=>mF
 |⟨⟨14,_⟩⟩=>eN
 |⟨⟨15,_⟩⟩=>gD
 |⟨⟨16,_⟩⟩=>pB
 |⟨⟨17,_⟩⟩=>real_
 |⟨⟨18,_⟩⟩=>clear_
 |⟨⟨19,_⟩⟩=>xQ
 |⟨⟨n+20,h⟩⟩=>absurd h od
def Kd.name(k:Kd):WG:=[⟨#[112,108,97,110]⟩,⟨#[115,108,111,116]⟩,⟨#[108,105,110,107]⟩,⟨#[98,121,116,101,115]⟩,⟨#[115,116,97,114,116]⟩,⟨#[112,117,116]⟩,⟨#[114,101,99,101,105,118,101]⟩,⟨#[108,111,115,101]⟩,⟨#[114,101,97,100]⟩,⟨#[100,114,105,102,116]⟩,⟨#[109,111,100,101]⟩,⟨#[114,111,117,110,100]⟩,⟨#[99,108,111,99,107,115]⟩,⟨#[115,112,114,101,97,100]⟩,⟨#[109,101,109,98,101,114,115]⟩,⟨#[109,105,100,112,111,105,110,116]⟩,⟨#[108,111,99,97,108]⟩,⟨#[114,101,97,108]⟩,⟨#[99,108,101,97,114]⟩,⟨#[104,101,108,112]⟩].getD k.i.1 AU
def Kd.m(k:Kd):Nat:=([6,3,4,0,1,1,2,3,3,1,1,0,0,0,1,1,5,5,0,0]:List Nat).getD k.i.1 0
def Kd.more(k:Kd):Bool:=([false,false,false,false,true,false,false,false,false,true,true,false,false,false,false,true,false,false,false,false]:List Bool).getD k.i.1 false
def Kd.text(k:Kd):Bool:=([false,false,false,false,false,true,false,false,false,false,false,false,false,false,false,false,false,false,false,false]:List Bool).getD k.i.1 false
def Kd.when(k:Kd):Int:=([1,1,1,0,1,2,2,2,2,2,2,2,2,2,2,0,0,0,0,0]:List Int).getD k.i.1 0
def Kd.fn(k:Kd):Nat:=[37,38,39,40,41,42,43,44,45,46,47,48,49,50,51,52,53,54,55,56].getD k.i.1 0
def aRo:List Kd:=[.qZ,.oV,.oP,.bytes_,.iV,.vY,.gU,.qD,.qG,.mX,.qX,.pD,.lZ,.mF,.eN,.gD,.pB,.real_,.clear_,.xQ]
def yP(x:WG):Option Kd:=aRo.find? λk=>decide (k.name=x)
theorem aPc{x:WG}{k:Kd}(h:yP x=some k):k.name=x:=by have:=List.find?_some h;exact zCk
theorem aPd{x:WG}(h:yP x=none)(k:Kd):k.name≠x:=by
 intro e;have h2:k∈aRo:=by cases k using Kd.each<;>simp[aRo]
 have:=List.find?_eq_none.1 h k h2;simp[e]at this
structure iY where
 aO:aP
 clu:Option (Int×List Int×cJ×Int×Nat)
 next:cB
def bHw:aP:=⟨0,0,0,0,0,0,1,0,0,0,λ_=>0,λ_=>0,λ_=>0,λ_=>0,λ_=>0,λ_=>0,λ_=>0,λ_=>0,λ_=>0,λ_=>0⟩
def iY.start:iY:=⟨bHw,none,cB.none⟩
def iW(f:Nat->Int)(n:Nat)(x:Int):Nat->Int:=λi=>if i=n then x else f i
def aP.head(p:aP)(n:List Int):aP:={ p with AA:=n.getD 0 0,aG:=n.getD 1 0,aM:=n.getD 2 0,aC:=n.getD 3 0,aJ:=n.getD 4 0,round:=n.getD 5 0 }
def aP.slot(p:aP)(n:List Int):aP:={ p with ns:=p.ns+1,nd:=iW p.nd p.ns (n.getD 0 0),fr:=iW p.fr p.ns (n.getD 1 0),td:=iW p.td p.ns (n.getD 2 0) }
def aP.link(p:aP)(n:List Int):aP:={ p with nl:=p.nl+1,lf:=iW p.lf p.nl (n.getD 0 0),lt:=iW p.lt p.nl (n.getD 1 0),lb:=iW p.lb p.nl (n.getD 2 0),lq:=iW p.lq p.nl (n.getD 3 0) }
def cB.bG0(r:cB)(n:List Int):cB:={ r with nL:=r.nL+1,ls:=iW r.ls r.nL (n.getD 0 0),lc:=iW r.lc r.nL (n.getD 1 0),lt:=iW r.lt r.nL (n.getD 2 0) }
def cB.read(r:cB)(n:List Int):cB:={ r with nR:=r.nR+1,rn:=iW r.rn r.nR (n.getD 0 0),ro:=iW r.ro r.nR (n.getD 1 0),ri:=iW r.ri r.nR (n.getD 2 0) }
def dW(x:Int):WG:=⟨(Lib.itoa x).toArray⟩
def qY(p:aP):Nat:=(bytesOf (dP p.AA p.aG p.aM p.aC p.aJ p.round p.frame p.ns p.nl p.nw p.nd p.fr p.td p.lf p.lt p.lb p.lq p.wp p.wf p.wt)).length
abbrev K0:=Sum Int WG
abbrev K0.err(k:Int):K0:=.inl k
abbrev K0.ok(s:WG):K0:=.inr s
def K0.ending:K0->Ending
 |.inl k=>dM k
 |.inr s=>rT (sT s)
def dJ(k:Int):WG:=⟨#[101,114,114,111,114,32]⟩++dW k
def K0.out:K0->WG
 |.inl k=>dJ k
 |.inr s=>s
def mM(k x:Int):K0:=if k=0 then .ok (dW x)else .err k
def jO(f s n d r:Int):Int:=if eA f s n d=false then 1 else if r<f\/1099511627776<r\/1099511627776<s+(r-f)*n/d then 2 else 0
def oT(f s n d l:Int):Int:=if l<=s then f else f+((l-s)*d+n-1)/n
def oQ(f s n d l:Int):Int:=if eA f s n d=false then 1 else if l< -1099511627776\/1099511627776<l\/1099511627776<oT f s n d l then 2 else 0
def aCn(l:List Int):WG:=⟨(Lib.join (l.map λx=>(dW x).data.toList) [32]).toArray⟩
def aT0:WG:=⟨#[98,121,116,101,115,32,99,108,101,97,114,32,99,108,111,99,107,115,32,100,114,105,102,116,32,104,101,108,112,32,108,105,110,107,32,108,111,99,97,108,32,108,111,115,101,32,109,101,109,98,101,114,115,32,109,105,100,112,111,105,110,116,32,109,111,100,101,32,112,108,97,110,32,112,117,116,32,114,101,97,100,32,114,101,97,108,32,114,101,99,101,105,118,101,32,114,111,117,110,100,32,115,108,111,116,32,115,112,114,101,97,100,32,115,116,97,114,116]⟩
def bEg:List (iY->List Int->WG->iY->K0->Prop):=[
 λs n _ s' r=>s'={ s with aO:=s.aO.head n }/\r=.ok Kd.qZ.name,
 λs n _ s' r=>(s.aO.ns<32/\s'={ s with aO:=s.aO.slot n }/\r=.ok (dW s.aO.ns))\/(¬s.aO.ns<32/\s'=s/\r=.err 4),
 λs n _ s' r=>(s.aO.nl<8/\s'={ s with aO:=s.aO.link n }/\r=.ok (dW s.aO.nl))\/(¬s.aO.nl<8/\s'=s/\r=.err 4),
 λs _ _ s' r=>∃E I,s.aO.Is E I/\s'=s/\r=mM E (qY s.aO),
 λs n _ s' r=>∃E I,xK s.aO (n.getD 0 0) n.tail E I/\((E≠0/\s'=s/\r=.err E)\/(E=0/\s'={ s with clu:=some (n.getD 0 0,n.tail,cJ.start,0,0) }/\r=.ok Kd.iV.name)),
 λs n tx s' r=>∃fa cs c rd T,s.clu=some (fa,cs,c,rd,T)/\((∃j:Nat,n.getD 0 0=j/\j<s.aO.nl/\s'={ s with clu:=some (fa,cs,c.put s.aO j tx,rd,T+1) }/\r=(if c.putK s.aO j tx=0 then .ok Kd.vY.name else .err (c.putK s.aO j tx)))\/(¬(0<=n.getD 0 0/\n.getD 0 0<s.aO.nl)/\s'=s/\r=.err 2)),
 λs n _ s' r=>∃fa cs c rd T,s.clu=some (fa,cs,c,rd,T)/\((∃j i:Nat,n.getD 0 0=j/\n.getD 1 0=i/\(j<s.aO.n/\i<s.aO.nl/\aX (s.aO.lt i) j=true)/\s'={ s with clu:=some (fa,cs,c.recv i j,rd,T) }/\r=(if yA (c.aT i j)=0 then .ok (⟨#[105,115,32]⟩++recvD (c.aT i j))else .err (yA (c.aT i j))))\/(¬((0<=n.getD 0 0/\n.getD 0 0<s.aO.AA)/\(0<=n.getD 1 0/\n.getD 1 0<s.aO.nl)/\aX (s.aO.lt (n.getD 1 0).toNat) (n.getD 0 0).toNat=true)/\s'=s/\r=.err 2)),
 λs n _ s' r=>s'={ s with next:=s.next.bG0 n }/\r=.ok Kd.qD.name,
 λs n _ s' r=>s'={ s with next:=s.next.read n }/\r=.ok Kd.qG.name,
 λs n _ s' r=>s'={ s with next:={ s.next with bP:=n } }/\r=.ok Kd.mX.name,
 λs n _ s' r=>s'={ s with next:={ s.next with lE:=n } }/\r=.ok Kd.qX.name,
 λs _ _ s' r=>∃fa cs c rd T,s.clu=some (fa,cs,c,rd,T)/\((pU s.aO fa cs s.next=true/\s'=s/\r=.err 6)\/(pU s.aO fa cs s.next=false/\s'={ s with clu:=some (fa,pV s.aO fa cs s.next,aMk s.aO fa c rd s.next,rd+1,T+1),next:=cB.none }/\r=.ok (dW (rd+1)))),
 λs _ _ s' r=>∃fa cs c rd T,s.clu=some (fa,cs,c,rd,T)/\s'=s/\r=.ok (aCn cs),
 λs _ _ s' r=>∃fa cs c rd T,s.clu=some (fa,cs,c,rd,T)/\s'=s/\r=.ok (dW (eF (fG fa cs))),
 λs n _ s' r=>∃fa cs c rd T,s.clu=some (fa,cs,c,rd,T)/\s'=s/\((∃j:Nat,n.getD 0 0=j/\j<s.aO.n/\r=.ok (if(c.AA j).fz=true then dW (bA (c.AA j).t s.aO.n)++⟨#[32,102,114,111,122,101,110]⟩else dW (bA (c.AA j).t s.aO.n)))\/(¬(0<=n.getD 0 0/\n.getD 0 0<s.aO.AA)/\r=.err 2)),
 λs n _ s' r=>s'=s/\r=mM (eU n.tail (n.getD 0 0)) (fU n.tail (n.getD 0 0)),
 λs n _ s' r=>s'=s/\r=mM (jO (n.getD 0 0) (n.getD 1 0) (n.getD 2 0) (n.getD 3 0) (n.getD 4 0)) (n.getD 1 0+(n.getD 4 0-n.getD 0 0)*n.getD 2 0/n.getD 3 0),
 λs n _ s' r=>s'=s/\r=mM (oQ (n.getD 0 0) (n.getD 1 0) (n.getD 2 0) (n.getD 3 0) (n.getD 4 0)) (oT (n.getD 0 0) (n.getD 1 0) (n.getD 2 0) (n.getD 3 0) (n.getD 4 0)),
 λ_ _ _ s' r=>s'=iY.start/\r=.ok Kd.clear_.name,
 λs _ _ s' r=>s'=s/\r=.ok aT0]
def rQ(k:Kd)(s:iY)(n:List Int)(tx:WG)(s':iY)(r:K0):Prop:=bEg.getD k.i.1 (λ_ _ _ _ _=>False) s n tx s' r
def fH(dZ:WG):List WG:=Lib.goFieldsP (λx=>decide (x=32)) dZ
def lH(s:iY)(k:Kd):Bool:=k.when==0||(s.clu.isSome==(k.when==2))
def eQ(s:iY)(dZ:WG)(s':iY)(out:WG):Prop:=
 match fH dZ with
 |[]=>s'=s/\out=⟨#[111,107]⟩
 |x::ws=>match yP x with
  |none=>s'=s/\out=dJ 3
  |some k=>match rG k.m k.more k.text ws with
   |none=>s'=s/\out=dJ 3
   |some y=>if lH s k=true then ∃r,rQ k s y.1 y.2 s' r/\out=r.out else s'=s/\out=dJ 6
def jI:iY->List WG->List WG->iY->Prop
 |s,[],os,s2=>os=[]/\s2=s
 |s,l::ls,os,s2=>∃s1 o os',os=o::os'/\eQ s l s1 o/\jI s1 ls os' s2
theorem jI.nil(s:iY):jI s [] [] s:=⟨rfl,rfl⟩
theorem jI.cons{s s1 s2:iY}{l o:WG}{ls os:List WG}(h:eQ s l s1 o)(t:jI s1 ls os s2):jI s (l::ls) (o::os) s2:=⟨s1,o,os,rfl,h,t⟩
theorem rQ.one{k:Kd}{s s1 s2:iY}{n:List Int}{tx:WG}{r1 r2:K0}(h:rQ k s n tx s1 r1)(g:rQ k s n tx s2 r2):s1=s2/\r1=r2:=by
 cases k using Kd.each;case qZ=>exact⟨h.1.trans g.1.symm,h.2.trans g.2.symm⟩
 case oV=>exact zBy
 case oP=>exact zBy
 case bytes_=>obtain⟨E,I,h0,h1,h2⟩:=h;obtain⟨E',I',g0,g1,g2⟩:=g;obtain⟨rfl,rfl⟩:=h0.one g0;exact zA2
 case iV=>obtain⟨E,I,h0,h⟩:=h;obtain⟨E',I',g0,g⟩:=g;obtain⟨rfl,rfl⟩:=h0.one g0;exact zIz
 case vY=>obtain⟨fa,cs,c,rd,T,e,h⟩:=h;obtain⟨fa',cs',c',rd',T',e',g⟩:=g;exact zJr
 case gU=>exact zJv
 case qD=>exact⟨h.1.trans g.1.symm,h.2.trans g.2.symm⟩
 case qG=>exact⟨h.1.trans g.1.symm,h.2.trans g.2.symm⟩
 case mX=>exact⟨h.1.trans g.1.symm,h.2.trans g.2.symm⟩
 case qX=>exact⟨h.1.trans g.1.symm,h.2.trans g.2.symm⟩
 case pD=>have bC4:=0;exact zJv
 case lZ=>exact zFk
 case mF=>exact zFk
 case eN=>obtain⟨fa,cs,c,rd,T,e,h1,h⟩:=h;obtain⟨fa',cs',c',rd',T',e',g1,g⟩:=g;have bC3:=0;exact zJr
 case gD=>exact⟨h.1.trans g.1.symm,h.2.trans g.2.symm⟩
 case pB=>exact⟨h.1.trans g.1.symm,h.2.trans g.2.symm⟩
 case real_=>exact⟨h.1.trans g.1.symm,h.2.trans g.2.symm⟩
 case clear_=>exact⟨h.1.trans g.1.symm,h.2.trans g.2.symm⟩
 case xQ=>exact⟨h.1.trans g.1.symm,h.2.trans g.2.symm⟩
theorem eQ.one{s s1 s2:iY}{l o1 o2:WG}(h:eQ s l s1 o1)(g:eQ s l s2 o2):s1=s2/\o1=o2:=by
 unfold eQ at h g
 cases e:fH l with
 |nil=>
  simp only[e]at h g
  exact⟨h.1.trans g.1.symm,h.2.trans g.2.symm⟩
 |cons x ws=>
  simp only[e]at h g
  cases e2:yP x with
  |none=>
   simp only[e2]at h g
   exact⟨h.1.trans g.1.symm,h.2.trans g.2.symm⟩
  |some k=>
   simp only[e2]at h g
   cases e3:rG k.m k.more k.text ws with
   |none=>
    simp only[e3]at h g
    exact⟨h.1.trans g.1.symm,h.2.trans g.2.symm⟩
   |some y=>
    simp only[e3]at h g
    by_cases q:lH s k=true
    .rw[kK q]at h g
     obtain⟨r,h1,h2⟩:=h
     obtain⟨r',g1,g2⟩:=g
     obtain⟨rfl,rfl⟩:=h1.one g1
     exact⟨rfl,h2.trans g2.symm⟩
    .rw[kJ q]at h g
     exact⟨h.1.trans g.1.symm,h.2.trans g.2.symm⟩
theorem jI.one{s s1 s2:iY}{ls o1 o2:List WG}(h:jI s ls o1 s1)(g:jI s ls o2 s2):s1=s2/\o1=o2:=by
 induction ls generalizing s o1 o2 with
 |nil=>
  obtain⟨rfl,rfl⟩:=h
  obtain⟨rfl,rfl⟩:=g
  exact⟨rfl,rfl⟩
 |cons l ls ih=>
  obtain⟨a,o,os,rfl,h1,h2⟩:=h
  obtain⟨a',o',os',rfl,g1,g2⟩:=g
  obtain⟨rfl,rfl⟩:=h1.one g1
  obtain⟨rfl,rfl⟩:=ih h2 g2
  exact⟨rfl,rfl⟩
theorem jI.snoc{s s1 s2:iY}{ls os:List WG}{l o:WG}(h:jI s ls os s1)(g:eQ s1 l s2 o):jI s (ls++[l]) (os++[o]) s2:=by
 induction ls generalizing s os with
 |nil=>
  obtain⟨rfl,rfl⟩:=h
  exact .cons g (.nil _)
 |cons l' ls ih=>
  obtain⟨a,o',os',rfl,h1,h2⟩:=h
  exact .cons h1 (ih h2)
section
abbrev iX:Q9:=(5,0,0)
def upd(f:WN)(j v:Nat):WN:=λi=>if i=j then v else f i
theorem sM(f:WN)(j v:Nat):upd f j v j=v:=kK rfl
theorem oI(f:WN){i j:Nat}(v:Nat)(h:i≠j):upd f j v i=f i:=kJ h
structure cY(b0:Nat)(w:WA)(N:Q9->List Nat)(k n J:Nat)(tq bag queue:Int)(S E:Nat)(D R Q:WN):Prop where
 fam:C0 w N
 lo:∀i c,c∈N i->b0<=c
 only:∀i,N i≠[]->i=iX\/i=iS k\/∃j,j<J/\(i=iR k j\/i=iQ k j)
 sdr:Sdr w (N (iS k)) S bag queue [] 0 0 0
 eX:E∈N iX
 zE:∀i,w.frozen? (aA E i)=false
 en:∀j,j<n->w.cell? (aA E j)=some (.pointer (if j<J/\aX tq j=true then some ⟨D j,0,none⟩else none))
 dn:∀j,j<J->aX tq j=true->(D j∈N iX/\D j≠E/\w.cell? ⟨D j,0,none⟩=some (.pointer (some ⟨R j,0,none⟩))/\w.cell? ⟨D j,1,none⟩=some (.pointer (some ⟨Q j,0,none⟩)))/\Rcv w (N (iR k j)) (R j) (-1) 0 0/\Que w (N (iQ k j)) (Q j) 16 [] 0
section
variable{b0:Nat}{w:WA}{N:Q9->List Nat}{k n J:Nat}{tq bag queue:Int}{S E:Nat}{D R Q:WN}
theorem cY.skip(h:cY b0 w N k n J tq bag queue S E D R Q)(hb:aX tq J=false):cY b0 w N k n (J+1) tq bag queue S E D R Q:=by
 refine⟨h.fam,h.lo,λi hi=>?_,h.sdr,h.eX,h.zE,λj hj=>?_,λj hj hbj=>?_⟩
 .exact zDg
 .rw[h.en j hj];by_cases e:j=J
  .subst e;rw[kJ (λy=>by have:=y.1;omega),kJ (λy=>by rw[hb]at y;cases y.2)]
  .exact zCn
 .by_cases e:j=J
  .subst e;rw[hb]at hbj;cases hbj
  .exact h.dn j od hbj
theorem cY.empty(h:cY b0 w N k n J tq bag queue S E D R Q){j:Nat}(hj:J<=j):N (iR k j)=[]/\N (iQ k j)=[]:=by
 constructor
 .by_cases e:N (iR k j)=[]
  .exact e
  .rcases h.only _ e with y|y|⟨j',y,z|z⟩
   .simp at y
   .simp at y
   .simp at z;omega
   .simp at z
 .by_cases e:N (iQ k j)=[]
  .exact e
  .rcases h.only _ e with y|y|⟨j',y,z|z⟩
   .simp at y
   .simp at y
   .simp at z
   .simp at z;omega
theorem cY.step(h:cY b0 w N k n J tq bag queue S E D R Q)(hb:aX tq J=true)(hb0:b0<=w.1.size){w1 w2 w3 w4 V0:WA}{OQ OR:List Nat}{PQ PR:Nat}{t:WI}(hV:Below b0 V0 w)(k1:bW w w1)(hq:Que w1 OQ PQ 16 [] 0)(lq:∀c,c∈OQ->w.1.size<=c)(k2:bW w1 w2)(hr:Rcv w2 OR PR (-1) 0 0)(lr:∀c,c∈OR->w1.1.size<=c)(hw3:w2.alloc (.cells #[pP PR,pP PQ] t)=w3)(hw4:w3.setCell (aA E J) (pP w2.1.size)=w4):
  (∃N',cY b0 w4 N' k n (J+1) tq bag queue S E (upd D J w2.1.size) (upd R J PR) (upd Q J PQ))/\Below b0 V0 w4:=by
 have hE:=h.fam.lt _ _ h.eX;have hE0:=h.lo _ _ h.eX;have s1:=k1.size;have s2:=k2.size;have k3:bW w2 w3:=by rw[<-hw3];exact(jD _ _).alloc (kG _) _
 have s3:w3.1.size=w2.1.size+1:=by rw[<-hw3];simp
 have s4:w4.1.size=w3.1.size:=by rw[<-hw4];simp
 have d0:w3.cell? (aA w2.1.size 0)=some (pP PR):=by rw[<-hw3];simp
 have d1:w3.cell? (aA w2.1.size 1)=some (pP PQ):=by rw[<-hw3];simp
 have b4:∀c,c≠E->w4.1[c]?=w3.1[c]?:=λc hc=>by rw[<-hw4];exact Below.heap_setCell _ _ _ _ hc
 have t3:bW w w3:=k1.trans ((k2.mono s1).trans (k3.mono od));have keep:∀c,c<w.1.size->c≠E->w4.1[c]?=w.1[c]?:=λc hc hn=>(b4 c hn).trans (t3.block c hc);have uE:∀i,i≠iX->Same (N i) w w4:=λi hi=>⟨od,λc hc=>keep c (h.fam.lt i c hc) (λe=>h.fam.ap iX i (Ne.symm hi) E h.eX (e▸hc))⟩;have sQ:Same OQ w1 w4:=⟨od,λc hc=>by
  have g1:=lq c hc
  have g2:=hq.lt c hc
  rw[b4 c od,k3.block c od,k2.block c g2]⟩
 have sR:Same OR w2 w4:=⟨od,λc hc=>by
  have g1:=lr c hc
  have g2:=hr.lt c hc
  rw[b4 c od,k3.block c g2]⟩
 obtain⟨e1,e2⟩:=h.empty (kG J);have F1:C0 w1 (gH N (iQ k J) OQ):=h.fam.add k1 e2 (λc hc=>⟨lq c hc,hq.lt c hc⟩);have F2:C0 w2 (gH (gH N (iQ k J) OQ) (iR k J) OR):=F1.add k2 (by rw[bG _ _ oe];exact e1) (λc hc=>⟨lr c hc,hr.lt c hc⟩);have eXX:gH (gH N (iQ k J) OQ) (iR k J) OR iX=N iX:=by rw[bG _ _ oe,bG _ _ oe]
 have F3:C0 w4 (gH (gH (gH N (iQ k J) OQ) (iR k J) OR) iX (w2.1.size::N iX)):=by
  refine F2.step (i:=iX) ?_ (λc hc=>?_)
  .rw[eXX];have z4:Below 0 w2 w4:=by rw[<-hw4];exact(k3.mono (kI _)).setCell (kI _) _
   refine⟨z4.os,z4.tape,z4.output,od,λc hc hn=>(b4 c (λe=>hn (e▸h.eX))).trans (k3.block c hc),λc hc=>?_⟩
   .rcases kQ hc with y|y
    .exact .inr od
    .exact .inl y
  .rcases kQ hc with y|y
   .omega
   .have:=h.fam.lt _ _ y;omega
 obtain⟨N',hN'⟩:∃N',gH (gH (gH N (iQ k J) OQ) (iR k J) OR) iX (w2.1.size::N iX)=N':=⟨_,rfl⟩;have nX:N' iX=w2.1.size::N iX:=by rw[<-hN'];exact eE _ _ _
 have nR:N' (iR k J)=OR:=by rw[<-hN',bG _ _ oe];exact eE _ _ _
 have nQ:N' (iQ k J)=OQ:=by rw[<-hN',bG _ _ oe,bG _ _ oe];exact eE _ _ _
 have nO:∀i,i≠iX->i≠iR k J->i≠iQ k J->N' i=N i:=λi h1 h2 h3=>by rw[<-hN',bG _ _ h1,bG _ _ h2,bG _ _ h3]
 rw[hN']at F3;clear hN' F1 F2 eXX;have cE:∀i,w3.cell? (aA E i)=w.cell? (aA E i):=λi=>t3.cell (p:=(aA E i)) hE;refine⟨⟨N',F3,λi c hc=>?_,λi hi=>?_,?_,?_,λi=>?_,λj hj=>?_,λj hj hbj=>?_⟩,?_⟩
 .by_cases i1:i=iX
  .subst i1;rw[nX]at hc;rcases kQ hc with y|y
   .omega
   .exact h.lo _ _ y
  by_cases i2:i=iR k J
  .subst i2;rw[nR]at hc;have:=lr c hc;omega
  by_cases i3:i=iQ k J
  .subst i3;rw[nQ]at hc;have:=lq c hc;omega
  rw[nO i i1 i2 i3]at hc;exact h.lo _ _ hc
 .by_cases i1:i=iX
  .exact .inl i1
  by_cases i2:i=iR k J
  .exact .inr (.inr ⟨J,od,.inl i2⟩)
  by_cases i3:i=iQ k J
  .exact .inr (.inr ⟨J,od,.inr i3⟩)
  rw[nO i i1 i2 i3]at hi;exact zDg
 .rw[nO (iS k) oe oe oe];exact h.sdr.keep (uE _ oe)
 .rw[nX];exact kR _ h.eX
 .rw[<-hw4];exact bJ.trans ((t3.frozen (p:=(aA E i)) hE).trans (h.zE i))
 .by_cases e:j=J
  .subst e;rw[kK ⟨od,hb⟩,sM,<-hw4];exact aZ ((cE j).trans (h.en j hj))
  .rw[<-hw4,aB (.inr e),cE j,h.en j hj,oI _ _ e];exact zCn
 .by_cases e:j=J
  .subst e;rw[sM,sM,sM,nX,nR,nQ];refine⟨⟨kT,od,?_,?_⟩,hr.keep sR,hq.keep sQ⟩
   .rw[<-hw4,aB (.inl od)];exact d0
   .rw[<-hw4,aB (.inl od)];exact d1
  .obtain⟨⟨a1,a2,a3,a4⟩,a5,a6⟩:=h.dn j od hbj;rw[oI _ _ e,oI _ _ e,oI _ _ e,nX,nO (iR k j) oe jk oe,nO (iQ k j) oe oe jk];have aD:=h.fam.lt _ _ a1;refine⟨⟨kR _ a1,a2,?_,?_⟩,a5.keep (uE _ oe),a6.keep (uE _ oe)⟩
   .rw[<-hw4,aB (.inl a2)];exact(t3.cell (p:=⟨D j,0,none⟩) aD).trans a3
   .rw[<-hw4,aB (.inl a2)];exact(t3.cell (p:=⟨D j,1,none⟩) aD).trans a4
 .rw[<-hw4];exact(hV.trans (t3.mono hb0)).setCell (p:=(aA E J)) hE0 _
theorem cY.same(h:cY b0 w N k n J tq bag queue S E D R Q){w':WA}(hs:w.1.size<=w'.1.size)(hk:∀c,b0<=c->c<w.1.size->w'.1[c]?=w.1[c]?):cY b0 w' N k n J tq bag queue S E D R Q:=by have sm:∀i,Same (N i) w w':=λi=>⟨hs,λc hc=>hk c (h.lo i c hc) (h.fam.lt i c hc)⟩;refine⟨⟨λi c hc=>kC (h.fam.lt i c hc) hs,h.fam.ap⟩,h.lo,h.only,h.sdr.keep (sm _),h.eX,λi=>((sm iX).frozen (p:=(aA E i)) h.eX).trans (h.zE i),λj hj=>((sm iX).cell (p:=(aA E j)) h.eX).trans (h.en j hj),λj hj hb=>?_⟩;obtain⟨⟨a1,a2,a3,a4⟩,a5,a6⟩:=h.dn j hj hb;exact⟨⟨a1,a2,((sm iX).cell (p:=⟨D j,0,none⟩) a1).trans a3,((sm iX).cell (p:=⟨D j,1,none⟩) a1).trans a4⟩,a5.keep (sm _),a6.keep (sm _)⟩
theorem cY.low(h:cY b0 w N k n J tq bag queue S E D R Q){b1:Nat}(hb:b1<=b0):cY b1 w N k n J tq bag queue S E D R Q:=
 ⟨h.fam,λi c hc=>kH hb (h.lo i c hc),h.only,h.sdr,h.eX,h.zE,h.en,h.dn⟩
theorem cY.first{V0 w1 w2:WA}{OS:List Nat}(hs:Sdr w1 OS S bag queue [] 0 0 0)(lo:∀c,c∈OS->V0.1.size<=c)(hb:bW V0 w1){t:WI}(xG:w1.alloc (.cells (madeCells #[.pointer none] n) t)=w2)(kk:Nat)(tq:Int)(D R Q:WN):
  (∃N,cY V0.1.size w2 N kk n 0 tq bag queue S w1.1.size D R Q)/\bW V0 w2:=by
 have k2:bW w1 w2:=by rw[<-xG];exact(jD _ _).alloc (kG _) _
 have s2:w2.1.size=w1.1.size+1:=by rw[<-xG];simp
 have s1:=hb.size;have F0:C0 V0 (λ_:Q9=>([]:List Nat)):=⟨λi c hc=>by simp at hc,λi j _ c hc=>by simp at hc⟩;have F1:C0 w1 (gH (λ_:Q9=>([]:List Nat)) (iS kk) OS):=F0.add hb rfl (λc hc=>⟨lo c hc,hs.lt c hc⟩);have F2:C0 w2 (gH (gH (λ_:Q9=>([]:List Nat)) (iS kk) OS) iX [w1.1.size]):=F1.add k2 (by rw[bG _ _ oe]) (λc hc=>by
  have:c=w1.1.size:=El
  omega)
 obtain⟨N,hN⟩:∃N,gH (gH (λ_:Q9=>([]:List Nat)) (iS kk) OS) iX [w1.1.size]=N:=⟨_,rfl⟩;have nX:N iX=[w1.1.size]:=by rw[<-hN];exact eE _ _ _
 have nS:N (iS kk)=OS:=by rw[<-hN,bG _ _ oe];exact eE _ _ _
 have nO:∀i,i≠iX->i≠iS kk->N i=[]:=λi h1 h2=>by rw[<-hN,bG _ _ h1,bG _ _ h2]
 rw[hN]at F2;clear hN F1 F0;refine⟨⟨N,F2,λi c hc=>?_,λi hi=>?_,?_,?_,λi=>?_,λj hj=>?_,λj hj=>absurd hj (kV _)⟩,hb.trans (k2.mono s1)⟩
 .by_cases i1:i=iX
  .subst i1;rw[nX]at hc;have:c=w1.1.size:=El;omega
  by_cases i2:i=iS kk
  .subst i2;rw[nS]at hc;exact lo c hc
  rw[nO i i1 i2]at hc;simp at hc
 .by_cases i1:i=iX
  .exact .inl i1
  by_cases i2:i=iS kk
  .exact .inr (.inl i2)
  exact absurd (nO i i1 i2) hi
 .rw[nS];exact hs.keep (Same.of_below k2 hs.lt)
 .rw[nX];exact List.mem_singleton.2 rfl
 .rw[<-xG];simp
 .rw[kJ (λy=>absurd y.1 (kV _)),<-xG];simp[madeCells,hj,Nat.mod_one]
end
end
section
variable{C b0 cb fK i nb sF:Nat}{X0:List Nat}{p:aP}{u v v':WB}{w w' w0 w1 w2 w3:WA}
def dQ(a b c:Nat->WB):Nat->List WB
 |0=>[]
 |n+1=>dQ a b c n++[a n,b n,c n]
theorem pE(a b c:Nat->WB):∀n,(dQ a b c n).length=n*3:=by
 intro n
 induction n with
 |zero=>rfl
 |succ n ih=>simp[dQ,ih];omega
theorem wI(a b c:Nat->WB):∀n i,i<n->(dQ a b c n)[i*3]?=some (a i)/\(dQ a b c n)[i*3+1]?=some (b i)/\(dQ a b c n)[i*3+2]?=some (c i):=by
 intro n
 induction n with
 |zero=>intro i hi;omega
 |succ n ih=>
  intro i hi
  have hl:=pE a b c n
  by_cases e:i=n
  .subst e
   unfold dQ
   refine⟨?_,?_,?_⟩
   .rw[List.getElem?_append_right od,hl,Nat.sub_self];rfl
   .rw[List.getElem?_append_right od,hl,show i*3+1-i*3=1 by omega];rfl
   .rw[List.getElem?_append_right od,hl,show i*3+2-i*3=2 by omega];rfl
  .obtain⟨x,y,z⟩:=ih i od
   unfold dQ
   exact⟨by rw[List.getElem?_append_left od];exact x,by rw[List.getElem?_append_left od];exact y,by rw[List.getElem?_append_left od];exact z⟩
theorem aB2{a b c a' b' c':Nat->WB}:∀n,(∀i,i<n->a i=a' i/\b i=b' i/\c i=c' i)->dQ a b c n=dQ a' b' c' n:=by
 intro n
 induction n with
 |zero=>intro _;rfl
 |succ n ih=>
  intro h
  obtain⟨x,y,z⟩:=h n od
  unfold dQ
  rw[ih (λi hi=>h i od),x,y,z]
theorem aGk{x:WB}(k2:bW w1 w2)(hg:w2.grownBy w3 v.ownBlock)(oX:v'.ownBlock=v.ownBlock\/v'.ownBlock=some w2.1.size):aR (C::v.ownBlock.toList) (C::v'.ownBlock.toList) w1 (w3.setCell (aA C i) x):=by
 have z:Below 0 w3 (w3.setCell (aA C i) x):=(jD _ _).setCell (kI _) _;refine⟨z.os.trans (hg.os.trans k2.os),z.tape.trans (hg.tape.trans k2.tape),z.output.trans (hg.output.trans k2.output),kH k2.size (kH hg.size z.size),λc hc hn=>?_,λc hc=>?_⟩
 .have h1:c≠C:=λe=>hn (kO (.inl e));have h2:some c≠v.ownBlock:=λe=>hn (kO (.inr (by rw[<-e];exact List.mem_singleton.2 rfl)));rw[Below.heap_setCell _ _ _ _ h1,hg.block c (kC hc k2.size) h2,k2.block c hc]
 .exact zJ4
structure R3(w0 w:WA)(b0:Nat)(X0:List Nat)(Of:Q9->List Nat)(C n:Nat)(P:WN)(v:WB)(I:Nat):Prop where
 fam:C0 w Of
 lo:∀i c,c∈Of i->b0<=c
 ob:Of iB=C::v.ownBlock.toList
 ox:Of iX=X0
 emp:∀i,Of i≠[]->i=iB\/i=iX\/∃j,j<I/\i=iN j
 kc:∀i,i≠13->w.cell? (aA C i)=w0.cell? (aA C i)
 c13:w.cell? (aA C 13)=some v
 z:∀i,w.frozen? (aA C i)=false
 kx:Same X0 w0 w
 vo:w.ownsRow (C+1) 199 1 v I ((List.range I).map λj=>.pointer (some ⟨P j,0,none⟩))
 node:∀j,j<I->aU w (P j) j n (2^n-1) 1 0 false/\Of (iN j)=[P j]
 bel:Below b0 w0 w
theorem Same.trans{X:List Nat}{a b c:WA}(h:Same X a b)(k:Same X b c):Same X a c:=⟨kH h.1 k.1,λi hi=>(k.2 i hi).trans (h.2 i hi)⟩
theorem R3.step{Of:Q9->List Nat}{n:Nat}{P:WN}{I:Nat}(h:R3 w0 w b0 X0 Of C n P v I)(k1:bW w w1)(hn:aU w1 w.1.size I n (2^n-1) 1 0 false)(k2:bW w1 w2)(ho:w3.ownsRow (C+1) 199 1 v' (I+1) (((List.range I).map λj=>.pointer (some ⟨P j,0,none⟩))++[pP w.1.size]))(hg:w2.grownBy w3 v.ownBlock)(oX:v'.ownBlock=v.ownBlock\/v'.ownBlock=some w2.1.size):
  ∃Of',R3 w0 (w3.setCell (aA C 13) v') b0 X0 Of' C n (upd P I w.1.size) v' (I+1):=by
 have hC:C<w.1.size:=h.fam.lt iB C o9;have hC0:b0<=C:=h.lo iB C o9;have s1:=k1.size;have s2:=k2.size;have s3:=hg.size;have hlp:=hn.lp;have eI:Of (iN I)=[]:=by
  by_cases e:Of (iN I)=[]
  .exact e
  .rcases h.emp _ e with y|y|⟨j,hj,y⟩
   .simp at y
   .simp at y
   .simp at y;omega
 have F1:C0 w1 (gH Of (iN I) [w.1.size]):=h.fam.add k1 eI (λc hc=>by
  have:c=w.1.size:=El
  omega)
 have hft:aR (C::v.ownBlock.toList) (C::v'.ownBlock.toList) w1 (w3.setCell (aA C 13) v'):=aGk k2 hg oX;have eB:gH Of (iN I) [w.1.size] iB=C::v.ownBlock.toList:=by rw[bG _ _ oe];exact h.ob
 have sz4:(w3.setCell (aA C 13) v').1.size=w3.1.size:=oe;have F2:C0 (w3.setCell (aA C 13) v') (gH (gH Of (iN I) [w.1.size]) iB (C::v'.ownBlock.toList)):=by exact zK4
 have sm:∀i,i≠iB->Same (gH Of (iN I) [w.1.size] i) w1 (w3.setCell (aA C 13) v'):=λi hi=>F1.same (i:=iB) (by rw[eB];exact hft) hi;obtain⟨N,hN⟩:∃N,gH (gH Of (iN I) [w.1.size]) iB (C::v'.ownBlock.toList)=N:=⟨_,rfl⟩;have nB:N iB=C::v'.ownBlock.toList:=by rw[<-hN];exact eE _ _ _
 have nI:N (iN I)=[w.1.size]:=by rw[<-hN,bG _ _ oe];exact eE _ _ _
 have nO:∀i,i≠iB->i≠iN I->N i=Of i:=λi h1 h2=>by rw[<-hN,bG _ _ h1,bG _ _ h2]
 rw[hN]at F2;have sO:∀i,i≠iB->i≠iN I->Same (Of i) w (w3.setCell (aA C 13) v'):=λi h1 h2=>by have a:=sm i h1;rw[bG _ _ h2]at a;exact(Same.of_below k1 (h.fam.lt i)).trans a
 have cC:∀i,w3.cell? (aA C i)=w.cell? (aA C i):=λi=>by
  have:some C≠v.ownBlock:=λe=>by have:=(h.vo.lt C e.symm).1;omega
  exact(jC (a:=(aA C i)) (hg.block C od this)).trans ((k2.cell (p:=(aA C i)) (by show C<_;omega)).trans (k1.cell (p:=(aA C i)) hC))
 have fC:∀i,w3.frozen? (aA C i)=w.frozen? (aA C i):=λi=>by
  have:some C≠v.ownBlock:=λe=>by have:=(h.vo.lt C e.symm).1;omega
  exact(World.frozen?_of_block (a:=(aA C i)) (hg.block C od this)).trans ((k2.frozen (p:=(aA C i)) (by show C<_;omega)).trans (k1.frozen (p:=(aA C i)) hC))
 clear hN;refine⟨N,F2,λi c hc=>?_,nB,?_,λi hi=>?_,λi hi=>?_,aZ ((cC 13).trans h.c13),λi=>bJ.trans ((fC i).trans (h.z i)),?_,?_,λj hj=>?_,?_⟩
 .by_cases i1:i=iB
  .subst i1;rw[nB]at hc;rcases hft.fresh c hc with y|y
   .exact h.lo iB c (by rw[h.ob];exact y)
   .have:=h.bel.size;omega
  by_cases i2:i=iN I
  .subst i2;rw[nI]at hc;have:c=w.1.size:=El;have:=h.bel.size;omega
  rw[nO i i1 i2]at hc;exact h.lo i c hc
 .rw[nO iX oe oe];exact h.ox
 .by_cases i1:i=iB
  .exact .inl i1
  by_cases i2:i=iN I
  .exact .inr (.inr ⟨I,od,i2⟩)
  rw[nO i i1 i2]at hi;rcases h.emp i hi with y|y|⟨j,hj,y⟩
  .exact .inl y
  .exact .inr (.inl y)
  .exact .inr (.inr ⟨j,od,y⟩)
 .exact(aB (.inr hi)).trans ((cC i).trans (h.kc i hi))
 .have:=sO iX oe oe;rw[h.ox]at this;exact h.kx.trans this
 .rw[List.range_succ,List.map_append,List.map_singleton,sM];have e:(List.range I).map (λj=>Value.pointer (some ⟨upd P I w.1.size j,0,none⟩))=(List.range I).map (λj=>Value.pointer (some ⟨P j,0,none⟩)):=List.map_congr_left (λj hj=>by
   have:j<I:=List.mem_range.1 hj
   rw[oI _ _ od])
  rw[e];exact fL ho od
 .by_cases e:j=I
  .subst e;rw[sM,nI];have a:=sm (iN j) oe;rw[eE]at a;exact⟨hn.same a,rfl⟩
  .obtain⟨a,b⟩:=h.node j od;rw[oI _ _ e,nO (iN j) oe jk];exact⟨a.same (b▸sO (iN j) oe jk),b⟩
 .have cV:Below b0 w0 w1:=h.bel.trans (k1.mono od);exact cV.trans (hft.below (λc hc=>h.lo iB c (by rw[h.ob];exact hc)) od)
structure aB6(w0 w:WA)(b0:Nat)(X0:List Nat)(Of:Q9->List Nat)(C nb:Nat)(p:aP)(P S E:WN)(D R Q:Nat->Nat->Nat)(u:WB)(K:Nat):Prop where
 fam:C0 w Of
 lo:∀i c,c∈Of i->b0<=c
 ob:Of iB=nb::C::u.ownBlock.toList
 nC:nb≠C
 nu:u.ownBlock≠some nb
 ox:∀c,c∈X0->c∈Of iX
 emp:∀i,Of i≠[]->i=iB\/i=iX\/(∃j,i=iN j)\/∃k,k<K/\(i=iS k\/∃j,i=iR k j\/i=iQ k j)
 kc:∀i,i≠14->w.cell? (aA C i)=w0.cell? (aA C i)
 c14:w.cell? (aA C 14)=some u
 z:∀i,w.frozen? (aA C i)=false
 kx:Same X0 w0 w
 kb:Same [nb] w0 w
 uo:w.ownsRow (C+1) 178 3 u K (dQ (λk=>iI (p.lf k)) (λk=>.pointer (some ⟨S k,0,none⟩)) (λk=>sV (some ⟨E k,0,none⟩) p.n p.n) K)
 node:∀j,j<p.n->aU w (P j) j p.n (2^p.n-1) 1 0 false/\Of (iN j)=[P j]
 snd:∀k,k<K->Sdr w (Of (iS k)) (S k) (p.lb k) (p.lq k) [] 0 0 0
 en:∀k,k<K->E k∈Of iX/\∀j,j<p.n->w.cell? ⟨E k,j,none⟩=some (.pointer (if aX (p.lt k) j=true then some ⟨D k j,0,none⟩else none))
 dn:∀k j,k<K->j<p.n->aX (p.lt k) j=true->(D k j∈Of iX/\w.cell? ⟨D k j,0,none⟩=some (.pointer (some ⟨R k j,0,none⟩))/\w.cell? ⟨D k j,1,none⟩=some (.pointer (some ⟨Q k j,0,none⟩)))/\Rcv w (Of (iR k j)) (R k j) (-1) 0 0/\Que w (Of (iQ k j)) (Q k j) 16 [] 0
 bel:Below b0 w0 w
theorem C0.join{I:Type}{O N:I->List Nat}(h:C0 w O)(k:C0 w' N)(hs:w.1.size<=w'.1.size)(hN:∀i c,c∈N i->w.1.size<=c):C0 w' (λi=>O i++N i):=by
 refine⟨λi c hc=>?_,λi j hij c hc hn=>?_⟩
 .rcases kN hc with y|y
  .exact kC (h.lt i c y) hs
  .exact k.lt i c y
 .rcases kN hc with y|y<;>rcases kN hn with z|z
  .exact h.ap i j hij c y z
  .have:=h.lt i c y;have:=hN j c z;omega
  .have:=hN i c y;have:=h.lt j c z;omega
  .exact k.ap i j hij c y z
def aW2(f:Nat->Nat->Nat)(k:Nat)(g:WN):Nat->Nat->Nat:=λi=>if i=k then g else f i
theorem U8(f:Nat->Nat->Nat)(k:Nat)(g:WN):aW2 f k g k=g:=kK rfl
theorem A9(f:Nat->Nat->Nat){k:Nat}(g:WN)(h:i≠k):aW2 f k g i=f i:=kJ h
theorem aB6.step{b1:Nat}{Of N:Q9->List Nat}{P S E:WN}{D R Q:Nat->Nat->Nat}{u':WB}{K S' E':Nat}{D' R' Q':WN}(h:aB6 w0 w b0 X0 Of C nb p P S E D R Q u K)(k1:bW w w1)(hl:cY b1 w1 N K p.n p.n (p.lt K) (p.lb K) (p.lq K) S' E' D' R' Q')(cV:w.1.size<=b1)(k2:bW w1 w2)
  (ho:w3.ownsRow (C+1) 178 3 u' (K+1) (dQ (λk=>iI (p.lf k)) (λk=>.pointer (some ⟨S k,0,none⟩)) (λk=>sV (some ⟨E k,0,none⟩) p.n p.n) K++[iI (p.lf K),pP S',sL E' p.n p.n]))(hg:w2.grownBy w3 u.ownBlock)(oX:u'.ownBlock=u.ownBlock\/u'.ownBlock=some w2.1.size):
  ∃Of',aB6 w0 (w3.setCell (aA C 14) u') b0 X0 Of' C nb p P (upd S K S') (upd E K E') (aW2 D K D') (aW2 R K R') (aW2 Q K Q') u' (K+1):=zIv
theorem R3.done{Of:Q9->List Nat}{P:WN}(h:R3 w0 w b0 X0 Of C p.n P v p.n)(hn:1<=p.n)(c14:w0.cell? (aA C 14)=some (sV none 0 0))(S E:WN)(D R Q:Nat->Nat->Nat):
  ∃nb aAb Of',v=sL nb p.n aAb/\(∀j,j<p.n->w.cell? (aA nb j)=some (.pointer (some ⟨P j,0,none⟩)))/\aB6 w w b0 X0 Of' C nb p P S E D R Q (sV none 0 0) 0:=by
 obtain⟨nb,aAb,hv,hg,hc⟩:=aCr h.vo hn;have hob:Of iB=[C,nb]:=by rw[h.ob,hv];rfl
 have vI:∀j,j<p.n->w.cell? (aA nb j)=some (.pointer (some ⟨P j,0,none⟩)):=λj hj=>by have:=hc j (.pointer (some ⟨P j,0,none⟩)) (by simp[hj]);exact zEa
 have hm:∀i c,c∈gH Of iB [nb,C] i->c∈Of i:=λi c hc=>by
  by_cases e:i=iB
  .subst e;rw[eE]at hc;rw[hob];simp at hc⊢;omega
  .rw[bG _ _ e]at hc;exact hc
 refine⟨nb,aAb,gH Of iB [nb,C],hv,vI,⟨λi c hc=>h.fam.lt i c (hm i c hc),λi j hij c hc hn=>h.fam.ap i j hij c (hm i c hc) (hm j c hn)⟩,λi c hc=>h.lo i c (hm i c hc),eE _ _ _,od,by simp[Value.ownBlock],λc hc=>?_,λi hi=>?_,λ_ _=>rfl,(h.kc 14 og).trans c14,h.z,⟨kG _,λ_ _=>rfl⟩,⟨kG _,λ_ _=>rfl⟩,World.ownsRow_nil _ _ _ _,λj hj=>?_,λk hk=>absurd hk (kV _),λk hk=>absurd hk (kV _),λk _ hk=>absurd hk (kV _),jD _ _⟩
 .rw[bG _ _ oe,h.ox];exact hc
 .by_cases e:i=iB
  .exact .inl e
  .rw[bG _ _ e]at hi;rcases h.emp i hi with y|y|⟨j,_,y⟩
   .exact .inl y
   .exact .inr (.inl y)
   .exact .inr (.inr (.inl ⟨j,y⟩))
 .rw[bG _ _ oe];exact h.node j hj
structure J8(w:WA)(C:Nat)(p:aP)(fa:Int)(cs:List Int)(cb fK:Nat)(sa:Option WT)(sF:Nat)(X0:List Nat):Prop where
 c0:w.cell? (aA C 0)=some (iI p.AA)
 c1:w.cell? (aA C 1)=some (iI p.aG)
 c3:w.cell? (aA C 3)=some (iI p.aC)
 c4:w.cell? (aA C 4)=some (iI p.aJ)
 c5:w.cell? (aA C 5)=some (iI p.round)
 c6:w.cell? (aA C 6)=some (sV sa p.ns sF)
 c10:w.cell? (aA C 10)=some (iI fa)
 c11:w.cell? (aA C 11)=some (sL cb cs.length fK)
 c12:w.cell? (aA C 12)=some (iI 0)
 ck:∀j,j<cs.length->w.cell? (aA cb j)=some (iI (cs.getD j 0))
 ckX:cb∈X0
 sl:0<p.ns->∃b off,sa=some (aA b off)/\b∈X0/\∀i,i<p.ns->w.cell? ⟨b,off+i*3,none⟩=some (iI (p.nd i))/\w.cell? ⟨b,off+i*3+1,none⟩=some (iI (p.fr i))/\w.cell? ⟨b,off+i*3+2,none⟩=some (iI (p.td i))
theorem J8.keep{fa:Int}{cs:List Int}{sa:Option WT}(h:J8 w C p fa cs cb fK sa sF X0)(cc:∀i,i<=12->w'.cell? (aA C i)=w.cell? (aA C i))(k:Same X0 w w'):J8 w' C p fa cs cb fK sa sF X0:=by refine⟨(cc 0 og).trans h.c0,(cc 1 og).trans h.c1,(cc 3 og).trans h.c3,(cc 4 og).trans h.c4,(cc 5 og).trans h.c5,(cc 6 og).trans h.c6,(cc 10 og).trans h.c10,(cc 11 og).trans h.c11,(cc 12 og).trans h.c12,λj hj=>(k.cell (p:=(aA cb j)) h.ckX).trans (h.ck j hj),h.ckX,λh0=>?_⟩;obtain⟨b,off,e,hb,hc⟩:=h.sl h0;exact⟨b,off,e,hb,λi hi=>⟨(k.cell (p:=⟨b,off+i*3,none⟩) hb).trans (hc i hi).1,(k.cell (p:=⟨b,off+i*3+1,none⟩) hb).trans (hc i hi).2.1,(k.cell (p:=⟨b,off+i*3+2,none⟩) hb).trans (hc i hi).2.2⟩⟩
theorem aB6.whole{Of:Q9->List Nat}{aAb:Nat}{P S E:WN}{D R Q:Nat->Nat->Nat}(h:aB6 w0 w b0 X0 Of C nb p P S E D R Q u p.nl)(h13:w0.cell? (aA C 13)=some (sL nb p.n aAb))(hnd:∀j,j<p.n->w0.cell? (aA nb j)=some (.pointer (some ⟨P j,0,none⟩))){fa:Int}{cs:List Int}{sa:Option WT}(hH:J8 w0 C p fa cs cb fK sa sF X0):
  ∃O m,Cl w O C p fa cs cJ.start 0 1 m/\∀c,c∈O->b0<=c:=have aEl:=0;zIv
end
theorem aIf(fr tq bag queue:Int)(w:WA)(hb:(1<=bag/\bag<=1099511627776)/\1<=queue/\queue<=16):
  Calls prog 181 #[.agg #[iI fr,iI tq,iI bag,iI queue]] w λe w'=>∃O P,e=rT (tU #[pP P,.nilIface])/\Sdr w' O P bag queue [] 0 0 0/\bW w w'/\∀c,c∈O->w.1.size<=c:=by
 have k1:decide (bag<1)=false:=kD od;have k2:decide (1099511627776<bag)=false:=kD od;have k3:decide (queue<1)=false:=kD od;have k4:decide (16<queue)=false:=kD od;clear hb;have hR:=λ(V:WA)=>aUq (w:=V) (bag:=bag) (queue:=queue);have HR:Hid _:=hR;clear hR;go_enter func181,ntmps181;go_wp2;have fin:=HR.out (w.alloc (.cells #[iI fr,iI tq,iI bag,iI queue] 124));rw[show(w.alloc (.cells #[iI fr,iI tq,iI bag,iI queue] 124)).1.size=w.1.size+1 by simp]at fin;go_ret2;exact⟨_,_,rfl,fin,((jD _ _).alloc (kG _) _).alloc oe _,λc hc=>by
  simp only[List.mem_cons,List.not_mem_nil,or_false]at hc
  omega⟩
theorem Tryz.aXj:(Tryz.prog.info? 180).map (λi=>(i.zero,i.size,i.bytes))=some (some (.pointer none),1,8):=oh
theorem aLz(w:WA)(a b c d x y z:WB)(t u:WI)(V:WA)(hV:(w.alloc (.cells #[a,b,c,d] t)).alloc (.cells #[x,y,z] u)=V):
  (V.cell? (aA w.1.size 0)=some a/\V.cell? (aA w.1.size 1)=some b/\V.cell? (aA w.1.size 2)=some c/\V.cell? (aA w.1.size 3)=some d)/\(V.cell? (aA (w.1.size+1) 0)=some x/\V.cell? (aA (w.1.size+1) 1)=some y/\V.cell? (aA (w.1.size+1) 2)=some z)/\(∀i,V.frozen? (aA (w.1.size+1) i)=false)/\bW w V/\V.1.size=w.1.size+2:=by
 subst hV;have hs:(w.alloc (.cells #[a,b,c,d] t)).1.size=w.1.size+1:=oe;have k:Below (w.1.size+1) (w.alloc (.cells #[a,b,c,d] t)) ((w.alloc (.cells #[a,b,c,d] t)).alloc (.cells #[x,y,z] u)):=(jD _ _).alloc od _;have c1:∀i,((w.alloc (.cells #[a,b,c,d] t)).alloc (.cells #[x,y,z] u)).cell? (aA w.1.size i)=(w.alloc (.cells #[a,b,c,d] t)).cell? (aA w.1.size i):=λi=>k.cell (p:=(aA w.1.size i)) oe;refine⟨⟨(c1 0).trans oe,(c1 1).trans oe,(c1 2).trans oe,(c1 3).trans oe⟩,⟨?_,?_,?_⟩,λi=>?_,((jD _ _).alloc (kG _) _).alloc oe _,oe⟩
 .rw[<-hs];simp
 .rw[<-hs];simp
 .rw[<-hs];simp
 .rw[<-hs];simp
theorem aHh(kk n:Nat)(fr tq bag queue:Int)(w:WA)(hn:n<=16)(hb:(1<=bag/\bag<=1099511627776)/\1<=queue/\queue<=16):
  Calls prog 144 #[.agg #[iI fr,iI tq,iI bag,iI queue],iI n] w λe w'=>bW w w'/\∃N S E D R Q,e=rT (tU #[.agg #[iI fr,pP S,sL E n n],.nilIface])/\cY w.1.size w' N kk n n tq bag queue S E D R Q:=by
 obtain⟨i0,hi,qV,qO,qP⟩:=info_parts Tryz.aXj;have hmk:=λ(v:WA)=>run_makeSlice (P:=prog) v 176 180 i0 _ underlying176 hi qV .i64 .i64 (n:Int) (n:Int) od (Int.le_refl _) (by rw[qO];simp;omega) O8 od;rw[Int.toNat_natCast,qO,Nat.mul_one]at hmk;clear hi qV qO qP;obtain⟨V,hV⟩:∃V,(w.alloc (.cells #[iI fr,iI tq,iI bag,iI queue] 124)).alloc (.cells #[iI 0,.pointer none,sV none 0 0] 178)=V:=⟨_,rfl⟩;obtain⟨⟨l0,l1,l2,l3⟩,⟨r0,r1,r2⟩,rz,hBV,hVs⟩:=aLz w _ _ _ _ _ _ _ _ _ V hV;have hs:=aIf fr tq bag queue V hb;have l0w:w.1.size<V.1.size:=od;have l1w:w.1.size+1<V.1.size:=od;have HBV:Hid (bW w V/\V.1.size=w.1.size+2):=⟨hBV,hVs⟩;obtain⟨L,hL⟩:∃L,w.1.size=L:=⟨_,rfl⟩;have HLL:Hid (w.1.size=L):=hL;have HLR:Hid (V.cell? (aA w.1.size 0)=some (iI fr)/\V.cell? (aA w.1.size 1)=some (iI tq)/\(V.cell? (aA (w.1.size+1) 0)=some (iI 0)/\V.cell? (aA (w.1.size+1) 1)=some (.pointer none)/\V.cell? (aA (w.1.size+1) 2)=some (sV none 0 0))/\∀i,V.frozen? (aA (w.1.size+1) i)=false):=⟨l0,l1,⟨r0,r1,r2⟩,rz⟩;have HMK:Hid _:=hmk;clear hmk hb hVs hBV r0 r1 r2 rz hL;go_enter func144,ntmps144;go_wp2_with fail;refine hs.mono ?_;rintro e w1 ⟨OS,S,rfl,hSd,rY,hlo⟩;have bFc:=HMK.out w1;obtain⟨w2,xG⟩:∃w2,w1.alloc (.cells (madeCells #[.pointer none] n) 180)=w2:=⟨_,rfl⟩;have HF:=cY.first hSd hlo rY xG kk tq (λ_=>0) (λ_=>0) (λ_=>0);have HF0:Hid (∃D R Q N,cY V.1.size w2 N kk n 0 tq bag queue S w1.1.size D R Q/\bW V w2):=by obtain⟨⟨N,hN⟩,hB⟩:=HF;exact⟨_,_,_,N,hN,hB⟩
 rw[show(Value.pointer none).cells=#[.pointer none]from rfl,xG]at bFc;clear hs HF hSd hlo rY xG l0 l1 l2 l3 hV HMK;go_wp2_with fail;clear bFc;generalize w1.1.size=E at *;go_loopw[25] (λt wr=>∃J:Nat,J<=n/\t=iI J/\Hid (∃D R Q N,cY V.1.size wr N kk n J tq bag queue S E D R Q/\bW V wr)) (λt _=>n-(intOf t).toNat);case atStart=>exact⟨0,kI _,rfl,HF0⟩
 case round=>
  obtain⟨J,hJ,rfl,HI⟩:=hrel;clear HF0;by_cases hlt:J<n
  .have jj:(J:Int)<(n:Int):=by omega
   have y1:=bc HI.out.choose_spec.choose_spec.choose_spec.choose_spec.2 l0w HLR.out.2.1;have R7:w.1.size<wr.1.size:=kC l0w HI.out.choose_spec.choose_spec.choose_spec.choose_spec.2.size;have vK:=vC tq J od wr;by_cases G4:aX tq J=true
   .rw[G4]at vK;have bFh:=aHu 16 wr od;exact zJu
   .have hbf:aX tq J=false:=by simpa using G4
    rw[hbf]at vK;have HN:Hid (∃D R Q N,cY V.1.size wr N kk n (J+1) tq bag queue S E D R Q/\bW V wr):=by obtain⟨D,R,Q,N,h1,h2⟩:=HI.out;exact⟨D,R,Q,N,h1.skip hbf,h2⟩
    clear HI;have bKh:=0;exact zJu
  .have hJn:J=n:=by omega
   have kj:decide (J<n)=false:=kD od;obtain⟨D,R,Q,N,hN,Z9⟩:=HI.out;rw[hJn]at hN;have x0:=bc Z9 l0w HLR.out.1;have y0:=bc Z9 l1w HLR.out.2.2.1.1;have y1:=bc Z9 l1w HLR.out.2.2.1.2.1;have y2:=bc Z9 l1w HLR.out.2.2.1.2.2;have z0:=(Z9.frozen (p:=(aA (w.1.size+1) 0)) l1w).trans (HLR.out.2.2.2 0);have z1:=(Z9.frozen (p:=(aA (w.1.size+1) 1)) l1w).trans (HLR.out.2.2.2 1);have z2:=(Z9.frozen (p:=(aA (w.1.size+1) 2)) l1w).trans (HLR.out.2.2.2 2);have h0r:w.1.size<wr.1.size:=kC l0w Z9.size;have h1r:w.1.size+1<wr.1.size:=kC l1w Z9.size;have HD:Hid (cY V.1.size wr N kk n n tq bag queue S E D R Q/\bW V wr):=⟨hN,Z9⟩;clear HI hN Z9 hlt;go_wp2;obtain⟨hN,Z9⟩:=HD.out;have T6:=HBV.out;obtain⟨W3,T7⟩:∃W3,((wr.setCell (aA (w.1.size+1) 0) (iI fr)).setCell (aA (w.1.size+1) 1) (pP S)).setCell (aA (w.1.size+1) 2) (sL E n n)=W3:=⟨_,rfl⟩;have q0:W3.cell? (aA (w.1.size+1) 0)=some (iI fr):=by rw[<-T7];exact(aB (.inr og)).trans ((aB (.inr og)).trans (aZ y0))
   have q1:W3.cell? (aA (w.1.size+1) 1)=some (pP S):=by rw[<-T7];exact(aB (.inr og)).trans (aZ ((aB (.inr og)).trans y1))
   have q2:W3.cell? (aA (w.1.size+1) 2)=some (sL E n n):=by rw[<-T7];exact aZ ((aB (.inr og)).trans ((aB (.inr og)).trans y2))
   have hT:aW (w.1.size+1) (w.1.size+1) wr W3:=by rw[<-T7];exact(((aW.refl _ _ wr).set (p:=(aA (w.1.size+1) 0)) (.inl rfl) _).set (p:=(aA (w.1.size+1) 1)) (.inl rfl) _).set (p:=(aA (w.1.size+1) 2)) (.inl rfl) _
   rw[T7];have hBw:bW w wr:=T6.1.trans (Z9.mono T6.1.size);refine bodyPost_ret (v:=tU #[.agg #[iI fr,pP S,sL E n n],.nilIface]) (by simp[results,results144,go_sem,q0,q1,q2]) rfl ⟨hBw.trans (hT.below hBw.size od od),N,S,E,D,R,Q,rfl,(hN.same hT.size (λc h1 h2=>hT.block c h2 od od)).low od⟩
theorem yE(a b c:Nat->WB)(n j:Nat)(u:WB)(h:(dQ a b c n)[j]?=some u):∃i,i<n/\((j=i*3/\u=a i)\/(j=i*3+1/\u=b i)\/(j=i*3+2/\u=c i)):=by
 have hl:=pE a b c n;have hj:j<n*3:=by
  rcases jB j (n*3)with q|q
  .exact q
  .rw[List.getElem?_eq_none od]at h;cases h
 have h3:=wI a b c n (j/3) od;refine⟨j/3,od,?_⟩;have:j%3=0\/j%3=1\/j%3=2:=od;rcases this with q|q|q
 .have e:j=j/3*3:=by omega
  rw[<-e]at h3;rw[h3.1]at h;cases h;exact .inl ⟨e,rfl⟩
 .have e:j=j/3*3+1:=by omega
  rw[<-e]at h3;rw[h3.2.1]at h;cases h;exact .inr (.inl ⟨e,rfl⟩)
 .have e:j=j/3*3+2:=by omega
  rw[<-e]at h3;rw[h3.2.2]at h;cases h;exact .inr (.inr ⟨e,rfl⟩)
def bN(f g h:Nat->Int)(n:Nat):List WB:=dQ (λi=>iI (f i)) (λi=>iI (g i)) (λi=>iI (h i)) n
theorem aLp{w:WA}{ad:WT}{n:Nat}{f g h:Nat->Int}(hr:jH w (some ad) n f g h):∀j u,(bN f g h n)[j]?=some u->w.cell? (ad.add j)=some u:=by
 intro j u hj;obtain⟨i,hi,hh⟩:=yE _ _ _ n j u hj;obtain⟨b,off,e,_,hc⟩:=hr od;injection e with e;subst e;obtain⟨c0,c1,c2⟩:=hc i hi;rw[mJ];rcases hh with⟨rfl,rfl⟩|⟨rfl,rfl⟩|⟨rfl,rfl⟩
 .exact c0
 .exact c1
 .exact c2
theorem aVl(f g h:Nat->Int)(n:Nat):∀u∈bN f g h n,u.oneCell'=true:=by intro u hu;obtain⟨j,hj⟩:=List.getElem?_of_mem hu;obtain⟨i,_,hh⟩:=yE _ _ _ n j u hj;rcases hh with⟨_,rfl⟩|⟨_,rfl⟩|⟨_,rfl⟩<;>rfl
theorem aKx{w:WA}{base n:Nat}{v:WB}{f g' h':Nat->Int}(h:w.ownsRow base 120 3 v n (bN f g' h' n)):∃a cap,v=sV a n cap/\jH w a n f g' h'/\∀b off s,a=some ⟨b,off,s⟩->base<=b/\b<w.1.size:=zAx
theorem Tryz.infoSlot9:(Tryz.prog.info? 120).map (λi=>(i.zero,i.size,i.bytes))=some (some (.agg #[iI 0,iI 0,iI 0]),3,24):=oh
theorem bAr(pt fr tq:Nat->Int)(a:Option WT)(n cap:Nat)(w:WA)(hn:n<=1000)(hr:jH w a n pt fr tq):
  Calls prog 104 #[sV a n cap] w λe w'=>∃a' cap',e=rT (sV a' n cap')/\jH w' a' n pt fr tq/\(∀b off s,a'=some ⟨b,off,s⟩->w.1.size<=b/\b<w'.1.size)/\bW w w':=by
 cases a with
 |none=>
  have h0:n=0:=by
   rcases Nat.eq_zero_or_pos n with q|q
   .exact q
   .obtain⟨_,_,e,_⟩:=hr q;cases e
  subst h0
  have q22:∀(w:WA)(a:Option WT)(n c n' c':Nat),(binOp .eql 79 (sV a n c) (sV none n' c')).run prog w=.ok (.bool a.isNone) w:=λw a n c n' c'=>Lib.run_eql_slice_nil w _ _ a n c n' c' underlying79
  go_enter func104,ntmps104
  go_wp2
  go_ret
  exact⟨none,0,rfl,λq=>absurd q (kW _),(λ_ _ _ e=>by cases e),jD _ _⟩
 |some ad=>
  have q22:∀(w:WA)(a:Option WT)(n c n' c':Nat),(binOp .eql 79 (sV a n c) (sV none n' c')).run prog w=.ok (.bool a.isNone) w:=λw a n c n' c'=>Lib.run_eql_slice_nil w _ _ a n c n' c' underlying79
  obtain⟨i0,hi,qV,qO,qP⟩:=info_parts Tryz.infoSlot9
  have HC:Hid (∀j u,(bN pt fr tq n)[j]?=some u->w.cell? (ad.add j)=some u):=aLp hr
  clear hr
  go_enter func104,ntmps104
  go_wp2_with(at_builtin;refine wpList_append_own _ rfl _ _ 79 rfl w.1.size 120 i0 (.agg #[iI 0,iI 0,iI 0]) 3 24 underlying79 hi qV qO qP rfl og _ _ _ rfl (World.ownsRow_made w #[] 0 (kG _) (kI _) rfl) ad n cap (bN pt fr tq n) rfl ?qc1 ?qc2 ?qc3 ?qc4 ?qc5 ?qc6 ?_)
  case qc1=>exact pE _ _ _ n
  case qc2=>
   intro j u hj
   exact Lib.cell?_alloc_some _ (HC.out j u hj)
  case qc3=>exact aVl pt fr tq n
  case qc4=>unfold maxLen;omega
  case qc5=>omega
  case qc6=>simp
  intro v' w1 cP bT aGq
  obtain⟨a',cap',rfl,hr',hb'⟩:=aKx cP
  go_wp2
  go_ret
  exact⟨a',cap',rfl,hr',hb',((jD _ w).alloc (kG _) _).grown bT oe (by intro k hk;simp[Value.ownBlock]at hk;omega)⟩
theorem aS3(cs:List Int)(a:Option WT)(n cap:Nat)(hl:cs.length=n)(hn:1<=n)(hn2:n<=1000)(w:WA)(hr:bI w a cs):
  Calls prog 103 #[sV a n cap] w λe w'=>∃g cp,e=rT (sL g n cp)/\(w.1.size<=g/\g<w'.1.size)/\(∀j,j<cs.length->w'.cell? (aA g j)=some (iI (cs.getD j 0)))/\bW w w':=by
 obtain⟨b,off,rfl,hb,hc⟩:=hr od;refine(Tryz.slices_Clone_int b off n cap cs w od od hc).mono ?_;rintro e w1 ⟨v1,rfl,cP,pA,bBc⟩;rw[List.take_of_length_le od]at cP;rcases cP.2 with⟨_,e0⟩|⟨g,cp,cur,hv,hg,hh,_⟩
 .omega
 .have C3:g<w1.1.size:=(cP.lt g (by rw[hv];rfl)).2;refine⟨g,cp,by rw[hv],⟨hg,C3⟩,λj hj=>?_,bBc⟩;have:=cP.cells (g:=g) (by rw[hv];rfl) j (iI (cs.getD j 0)) (by simp[List.getD,hj]);exact zEa
theorem w9{e:WI}{w:WA}{base n:Nat}{v:WB}{f g' h':Nat->Int}(h:w.ownsRow base e 3 v n (bN f g' h' n)):∃a cap,v=sV a n cap/\jH w a n f g' h'/\∀b off s,a=some ⟨b,off,s⟩->base<=b/\b<w.1.size:=zAx
theorem qI(f g h:Nat->Int)(n:Nat):bN f g h (n+1)=bN f g h n++[iI (f n),iI (g n),iI (h n)]:=by unfold bN;rfl
theorem aFk(v:WA)(a b c:WB)(t:WI):∀(j:Nat)(u:WB),[a,b,c][j]?=some u->(v.alloc (.cells #[a,b,c] t)).drew.cell? (((aA v.1.size 0):WT).add j)=some u:=λj u hu=>by rw[mJ,Nat.zero_add];have:=World.cell?_alloc_new v #[a,b,c] t j;refine this.trans ?_;simpa using hu
section
variable{E' K S' n:Nat}{V1 Va w1 wr:WA}
theorem Tryz.aP5:(Tryz.prog.info? 199).map (λi=>(i.zero,i.size,i.bytes))=some (some (.pointer none),1,8):=oh
theorem Tryz.aP4:(Tryz.prog.info? 178).map (λi=>(i.zero,i.size,i.bytes))=some (some (.agg #[iI 0,.pointer none,sV none 0 0]),3,40):=oh
theorem aKw{w:WA}{base:Nat}{e:WI}{v:WB}{xs:List WB}(h:w.ownsRow base e 3 v n xs):∃a cap,v=sV a n cap:=zDq
theorem R3.first{wz w0:WA}{X0:List Nat}{C:Nat}(z:∀i,w0.frozen? (aA C i)=false)(c13:w0.cell? (aA C 13)=some (sV none 0 0))(hC:wz.1.size<=C/\C<w0.1.size)(hX:∀c,c∈X0->(wz.1.size<=c/\c<w0.1.size)/\c≠C):∃Of,R3 w0 w0 wz.1.size X0 Of C n (λ_=>0) (sV none 0 0) 0:=by
 have hG:∀i c,c∈(λi:Q9=>if i=iB then[C]else if i=iX then X0 else[]) i->(i=iB/\c=C)\/(i=iX/\c∈X0):=λi c hc=>by
  by_cases h1:i=iB
  .subst h1;exact .inl ⟨rfl,El⟩
  .by_cases h2:i=iX
   .subst h2;exact .inr ⟨rfl,El⟩
   .simp only[kJ h1,kJ h2]at hc;simp at hc
 refine⟨λi=>if i=iB then[C]else if i=iX then X0 else[],⟨λi c hc=>?_,λi j hij c hc hn=>?_⟩,λi c hc=>?_,rfl,rfl,λi hi=>?_,λ_ _=>rfl,c13,z,⟨kG _,λ_ _=>rfl⟩,World.ownsRow_nil _ _ _ _,λj hj=>absurd hj (kV _),jD _ _⟩
 .rcases hG i c hc with⟨_,y⟩|⟨_,y⟩
  .omega
  .exact(hX c y).1.2
 .rcases hG i c hc with⟨a,y⟩|⟨a,y⟩<;>rcases hG j c hn with⟨b,z⟩|⟨b,z⟩
  .exact hij (a.trans b.symm)
  .exact(hX c z).2 y
  .exact(hX c y).2 z
  .exact hij (a.trans b.symm)
 .rcases hG i c hc with⟨_,y⟩|⟨_,y⟩
  .omega
  .exact(hX c y).1.1
 .by_cases h1:i=iB
  .exact .inl h1
  .by_cases h2:i=iX
   .exact .inr (.inl h2)
   .simp only[kJ h1,kJ h2]at hi;exact absurd rfl hi
def fA(wr wx:WA)(K:Nat)(p:aP)(MB:Nat):Prop:=
 ∃N S' E' D' R' Q',cY wr.1.size wx N K p.n p.n (p.lt K) (p.lb K) (p.lq K) S' E' D' R' Q'/\bW wr wx/\wr.1.size<=MB/\MB<wx.1.size/\
  wx.cell? (aA MB 0)=some (iI (p.lf K))/\wx.cell? (aA MB 1)=some (pP S')/\wx.cell? (aA MB 2)=some (sL E' p.n p.n)
theorem fA.after{p:aP}{N:Q9->List Nat}{D' R' Q':WN}(hn:p.n=n)(hQ:bW wr V1)(hVa:bW V1 Va)(rY:bW Va w1)(hL:cY Va.1.size w1 N K n n (p.lt K) (p.lb K) (p.lq K) S' E' D' R' Q'){t:WI}:
  fA wr (w1.alloc (.cells #[iI (p.lf K),pP S',sL E' n n] t)) K p w1.1.size:=by subst hn;have s1:=hQ.size;have s2:=hVa.size;have s3:=rY.size;obtain⟨r0,r1,r2,rB,rS⟩:=aZy w1 (iI (p.lf K)) (pP S') (sL E' p.n p.n) t;have hk:bW wr w1:=hQ.trans ((hVa.mono s1).trans (rY.mono od));exact⟨N,S',E',D',R',Q',(hL.same rB.size (λc _ h2=>rB.block c h2)).low od,hk.trans (rB.mono hk.size),hk.size,od,r0,r1,r2⟩
theorem fA.before{p:aP}{N:Q9->List Nat}{D' R' Q':WN}(hn:p.n=n)(hQ:bW wr V1)(hVa:bW V1 Va)(hs:Va.1.size=V1.1.size+1)(rY:bW Va w1)(hL:cY Va.1.size w1 N K n n (p.lt K) (p.lb K) (p.lq K) S' E' D' R' Q'){a b c:WB}(m0:w1.cell? (aA V1.1.size 0)=some a)(m1:w1.cell? (aA V1.1.size 1)=some b)(m2:w1.cell? (aA V1.1.size 2)=some c):
  fA wr (((w1.setCell (aA V1.1.size 0) (iI (p.lf K))).setCell (aA V1.1.size 1) (pP S')).setCell (aA V1.1.size 2) (sL E' n n)) K p V1.1.size:=by
 subst hn;have s1:=hQ.size;have s3:=rY.size;have hT:aW V1.1.size V1.1.size w1 (((w1.setCell (aA V1.1.size 0) (iI (p.lf K))).setCell (aA V1.1.size 1) (pP S')).setCell (aA V1.1.size 2) (sL E' p.n p.n)):=(((aW.refl _ _ w1).set (p:=(aA V1.1.size 0)) (.inl rfl) _).set (p:=(aA V1.1.size 1)) (.inl rfl) _).set (p:=(aA V1.1.size 2)) (.inl rfl) _;have hk:bW wr w1:=hQ.trans ((hVa.mono s1).trans (rY.mono od));refine⟨N,S',E',D',R',Q',(hL.same hT.size (λc h1 h2=>hT.block c h2 od od)).low od,hk.trans (hT.below hk.size od od),s1,?_,?_,?_,?_⟩
 .have:=hT.size;omega
 .exact(aB (.inr og)).trans ((aB (.inr og)).trans (aZ m0))
 .exact(aB (.inr og)).trans (aZ ((aB (.inr og)).trans m1))
 .exact aZ ((aB (.inr og)).trans ((aB (.inr og)).trans m2))
theorem aO4(C:Nat)(p:aP)(fa:Int)(cs:List Int)(cb fK:Nat)(sa:Option WT)(sF:Nat)(X0:List Nat)(la:Option WT)(aBn:Nat)(wz w0:WA)(hH:J8 w0 C p fa cs cb fK sa sF X0)(z:∀i,w0.frozen? (aA C i)=false)(c13:w0.cell? (aA C 13)=some (.slice none 0 0))(c14:w0.cell? (aA C 14)=some (.slice none 0 0))(hC:wz.1.size<=C/\C<w0.1.size)(hX:∀c,c∈X0->(wz.1.size<=c/\c<w0.1.size)/\c≠C)(hb:bW wz w0)(hl:xL wz la p.nl p.lf p.lt p.lb p.lq)(hB:aFx p):
  Calls prog 107 #[pP C,.slice la p.nl aBn] w0 λe w'=>e=.returned .nilIface/\Below wz.1.size w0 w'/\∃O m,Cl w' O C p fa cs cJ.start 0 1 m/\∀c,c∈O->wz.1.size<=c:=by
 obtain⟨i0,hi,qV,qO,qP⟩:=info_parts Tryz.aP5;obtain⟨i1,gi,gz0,gz1,gz2⟩:=info_parts Tryz.aP4;have iU:1<=p.n:=by have:=hB.n1;unfold aP.n;omega
 have sS:p.n<=16:=by have:=hB.n2;unfold aP.n;omega
 have pA:p.AA=(p.n:Int):=by have:=hB.n1;unfold aP.n;omega
 have hnl:=hB.nl;have c0:=hH.c0;rw[pA]at c0;have HF0:=R3.first (n:=p.n) z c13 hC hX;have HN0:Hid (∃Of P v,R3 w0 w0 wz.1.size X0 Of C p.n P v 0):=by obtain⟨Of,h⟩:=HF0;exact⟨Of,_,_,h⟩
 have qN:=hC.2;have HHD:Hid (J8 w0 C p fa cs cb fK sa sF X0/\w0.cell? (aA C 14)=some (.slice none 0 0)):=⟨hH,c14⟩;have HZ:Hid (bW wz w0/\xL wz la p.nl p.lf p.lt p.lb p.lq):=⟨hb,hl⟩;have HPB:Hid (aFx p):=hB;have HC:Hid (wz.1.size<=C/\C<w0.1.size):=hC;have HNN:Hid (p.AA=(p.n:Int)):=pA;clear hH z c13 c14 hC hX hb hl hB HF0 pA;obtain⟨n,hpn⟩:∃n,p.n=n:=⟨_,rfl⟩;have C1:Hid (p.n=n):=hpn;rw[hpn]at c0 HN0 iU sS;obtain⟨nl,hpl⟩:∃nl,p.nl=nl:=⟨_,rfl⟩;have HPL:Hid (p.nl=nl):=hpl;rw[hpl]at hnl;rw[hpl];clear hpn hpl;go_enter func107,ntmps107;go_wp2_with fail;go_loopw[17] (λt wr=>∃I:Nat,I<=n/\t=iI I/\Hid (∃Of P v,R3 w0 wr wz.1.size X0 Of C n P v I)) (λt _=>n-(intOf t).toNat);case atStart=>exact⟨0,kI _,rfl,HN0⟩
 case round=>
  obtain⟨I,hI,rfl,HI⟩:=hrel;clear HN0;by_cases hlt:I<n
  .have ii:(I:Int)<(n:Int):=by omega
   obtain⟨Of,P,v,hF⟩:=HI.out;have y0:=(hF.kc 0 og).trans c0;have hCw:C<wr.1.size:=hF.fam.lt iB C (by rw[hF.ob];exact kT);have HF:Hid (R3 w0 wr wz.1.size X0 Of C n P v I):=hF;clear hF HI;go_wp2_with fail;refine(aQ7 I n wr iU sS od ii).mono ?_;rintro e w1 ⟨rfl,hp1,cV⟩;obtain⟨a,cap,hv⟩:=nZ HF.out.vo;have HV:Hid (v=.slice a I cap):=hv;have y13:=bc cV hCw HF.out.c13;have x13:=(cV.frozen (p:=(aA C 13)) hCw).trans (HF.out.z 13);rw[hv]at y13;have aE8:=gK HF.out.vo cV;rw[hv]at aE8;have bEs:C<w1.1.size:=kC hCw cV.size;have HP1:Hid (bW wr w1/\aU w1 wr.1.size I n (2^n-1) 1 0 false):=⟨cV,hp1⟩;have HI':Hid (I<n/\n<=16):=⟨hlt,sS⟩;clear y0 cV hp1 hv;go_wp2_with(at_builtin;refine wpList_append_own_at _ rfl _ _ 167 rfl (C+1) 199 i0 (.pointer none) 1 8 underlying167 hi qV qO qP rfl og (.slice a I cap) I _ rfl (aE8.alloc _) (aA w1.1.size 0) 1 1 [pP wr.1.size] rfl rfl (cell_one_new _ _ _) Oi ot od ol ?_;apply Hid.out);unfold Hid;intro v' w3 dI bT _ oX;obtain⟨a',cap',rfl⟩:=nZ dI;have fM:=HF.out.step HP1.out.1 HP1.out.2 ((jD _ _).alloc (kG _) _) dI (by rw[HV.out];exact bT) (by rw[HV.out];simpa using oX);have HST:Hid (∃Of P v,R3 w0 (w3.setCell (aA C 13) (.slice a' (I+1) cap')) wz.1.size X0 Of C n P v (I+1)):=by obtain⟨Of',h'⟩:=fM;exact⟨Of',_,_,h'⟩
   have eH:some C≠(Value.slice a I cap).ownBlock:=λe=>by have:=(aE8.lt C e.symm).1;omega
   have hs3:=bT.size;have hsa:(w1.alloc (.cells #[pP wr.1.size] 199)).1.size=w1.1.size+1:=oe;have hA:bW w1 (w1.alloc (.cells #[pP wr.1.size] 199)):=(jD _ _).alloc (kG _) _;have q13:w3.cell? (aA C 13)=some (.slice a I cap):=(jC (a:=(aA C 13)) (bT.block C od eH)).trans (bc hA bEs y13);have r13:w3.frozen? (aA C 13)=false:=(World.frozen?_of_block (a:=(aA C 13)) (bT.block C od eH)).trans ((hA.frozen (p:=(aA C 13)) bEs).trans x13);have hC3:C<w3.1.size:=od;clear fM eH hs3 hsa hA dI bT oX aE8 y13 x13;go_wp2;go_roundw;case rel=>exact⟨I+1,od,Od,HST⟩
   case measure=>simp[intOf];omega
  .have hIn:I=n:=by omega
   have kj:decide (I<n)=false:=kD od;obtain⟨Of,P,v,hF⟩:=HI.out;rw[hIn]at hF;have hF':=hF;rw[<-C1.out]at hF';obtain⟨nb,aAb,Of',hv,hnd,hK0⟩:=hF'.done (by rw[C1.out];exact iU) HHD.out.2 (λ_=>0) (λ_=>0) (λ_ _=>0) (λ_ _=>0) (λ_ _=>0);have HK0:Hid (∃Of S E D R Q u,aB6 wr wr wz.1.size X0 Of C nb p P S E D R Q u 0):=⟨_,_,_,_,_,_,_,hK0⟩;have HB0:Hid (Below wz.1.size w0 wr):=hF.bel;have HHN:Hid (J8 wr C p fa cs cb fK sa sF X0):=HHD.out.1.keep (λi hi=>hF.kc i od) hF.kx;have y0:=(hF.kc 0 og).trans c0;have H13:Hid (wr.cell? (aA C 13)=some (sL nb p.n aAb)/\∀j,j<p.n->wr.cell? (aA nb j)=some (.pointer (some ⟨P j,0,none⟩))):=⟨by rw[hF.c13,hv],hnd⟩;have hCr:C<wr.1.size:=hF.fam.lt iB C (by rw[hF.ob];exact kT);clear hF hF' hv hnd hK0 hIn hlt HI HHD c0 hI;obtain⟨wn,hwn⟩:∃x,x=wr:=⟨wr,rfl⟩;subst hwn;go_wp2_with fail;go_loopw[46] (λt wk=>∃K:Nat,K<=nl/\t=iI K/\Hid (∃Of S E D R Q u,aB6 wn wk wz.1.size X0 Of C nb p P S E D R Q u K)) (λt _=>nl-(intOf t).toNat);case atStart=>exact⟨0,kI _,rfl,HK0⟩
   case round=>
    obtain⟨K,hK,rfl,HI⟩:=hrel;clear HK0;by_cases hlt:K<nl
    .have kk:(K:Int)<(nl:Int):=by omega
     obtain⟨Of,S,E,D,R,Q,u,hF⟩:=HI.out;obtain⟨b,off,hla,hbz,hc⟩:=HZ.out.2 (by rw[HPL.out];omega);subst hla;obtain⟨x0,x1,x2,x3⟩:=hc K (by rw[HPL.out];exact hlt);have hBz:bW wz wr:=HZ.out.1.trans (HB0.out.trans hF.bel);have y0':=(hBz.cell (p:=⟨b,off+K*4,none⟩) hbz).trans x0;have y1':=(hBz.cell (p:=⟨b,off+K*4+1,none⟩) hbz).trans x1;have y2':=(hBz.cell (p:=⟨b,off+K*4+2,none⟩) hbz).trans x2;have y3':=(hBz.cell (p:=⟨b,off+K*4+3,none⟩) hbz).trans x3;have T9:b<wr.1.size:=kC hbz hBz.size;have hCw:C<wr.1.size:=hF.fam.lt iB C (by rw[hF.ob];simp);have yc0:=(hF.kc 0 og).trans y0;obtain⟨⟨q0,q1,q2,q3⟩,qB,qS⟩:=bEa wr (iI (p.lf K)) (iI (p.lt K)) (iI (p.lb K)) (iI (p.lq K)) 124;obtain⟨l1,l2,⟨l3,l4⟩,l5,l6⟩:=HPB.out.link K (by rw[HPL.out];exact hlt);have yc1:=bc qB hCw yc0;have hCv:C<(wr.alloc (.cells #[iI (p.lf K),iI (p.lt K),iI (p.lb K),iI (p.lq K)] 124)).1.size:=O0;have hwv:wr.1.size<(wr.alloc (.cells #[iI (p.lf K),iI (p.lt K),iI (p.lb K),iI (p.lq K)] 124)).1.size:=O0;have hnw:=λv=>aHh K n (p.lf K) (p.lt K) (p.lb K) (p.lq K) v sS ⟨⟨l3,od⟩,l5,l6⟩;have qK:Hid _:=qB;have HF:Hid (aB6 wn wr wz.1.size X0 Of C nb p P S E D R Q u K):=hF;clear x0 x1 x2 x3 hc hF HI hBz l1 l2 l3 l4 l5 l6 qB qS;go_wp2_with fail;clear y0' y1' y2' y3' yc0;generalize(wr.alloc (.cells #[iI (p.lf K),iI (p.lt K),iI (p.lb K),iI (p.lq K)] 124))=V1 at *;have hQ:∀o,bW V1 (V1.alloc o):=λo=>(jD _ _).alloc (kG _) _;have t0:=λo=>((hQ o).cell (p:=(aA wr.1.size 0)) hwv).trans q0;have t1:=λo=>((hQ o).cell (p:=(aA wr.1.size 1)) hwv).trans q1;have t2:=λo=>((hQ o).cell (p:=(aA wr.1.size 2)) hwv).trans q2;have t3:=λo=>((hQ o).cell (p:=(aA wr.1.size 3)) hwv).trans q3;have t4:=λo=>((hQ o).cell (p:=(aA C 0)) hCv).trans yc1;have HQ:Hid _:=hQ;clear hQ;go_cut [10,11] (λmv ev wx=>ev=.nilIface/\∃MB,mv=pP MB/\Hid (fA wr wx K p MB));case first=>
      go_region_with(go_at_call 144;refine(hnw _).mono ?_;rintro e w1 ⟨rY,N,S',E',D',R',Q',rfl,hL⟩;try(have m0:w1.cell? (aA V1.1.size 0)=some (iI 0):=bc rY oe oe;have m1:w1.cell? (aA V1.1.size 1)=some (.pointer none):=bc rY oe oe;have m2:w1.cell? (aA V1.1.size 2)=some (.slice none 0 0):=bc rY oe oe;have z0:w1.frozen? (aA V1.1.size 0)=false:=(rY.frozen (p:=(aA V1.1.size 0)) oe).trans oe;have z1:w1.frozen? (aA V1.1.size 1)=false:=(rY.frozen (p:=(aA V1.1.size 1)) oe).trans oe;have z2:w1.frozen? (aA V1.1.size 2)=false:=(rY.frozen (p:=(aA V1.1.size 2)) oe).trans oe;have hlw:V1.1.size<w1.1.size:=(by have:=rY.size;simp at this;omega)));all_goals go_wp2_with fail
      all_goals go_meet
      all_goals refine⟨rfl,_,rfl,?_⟩
      all_goals unfold Hid
      all_goals repeat apply fA.drew
      all_goals first
       |exact fA.after C1.out qK.out (jD _ _).drew rY hL
       |exact fA.after C1.out qK.out (jD _ _) rY hL
       |exact fA.after C1.out qK.out (jD _ _).drew.drew rY hL
       |exact fA.before C1.out qK.out ((jD _ _).alloc (kG _) _).drew oe rY hL m0 m1 m2
       |exact fA.before C1.out qK.out ((jD _ _).alloc (kG _) _) oe rY hL m0 m1 m2
       |exact fA.before C1.out qK.out ((jD _ _).alloc (kG _) _).drew.drew oe rY hL m0 m1 m2
       |exact fA.before C1.out qK.out ((jD _ _).drew.alloc (kG _) _).drew oe rY hL m0 m1 m2
       |exact fA.before C1.out qK.out ((jD _ _).drew.alloc (kG _) _) oe rY hL m0 m1 m2
     case rest=>
      obtain⟨rfl,MB,rfl,HML⟩:=hcut;clear t0 t1 t2 t3 t4 q0 q1 q2 q3 hnw yc1 hCv hwv HQ qK;obtain⟨N,S',E',D',R',Q',hL,qU,hMB,hMl,r0,r1,r2⟩:=HML.out;obtain⟨LF,hLF⟩:∃LF,p.lf K=LF:=⟨_,rfl⟩;rw[hLF]at r0;rw[C1.out]at r2;obtain⟨a,cap,hu⟩:=aKw HF.out.uo;have y14:=bc qU hCw HF.out.c14;have x14:=(qU.frozen (p:=(aA C 14)) hCw).trans (HF.out.z 14);rw[hu]at y14;have aE8:=gK HF.out.uo qU;rw[hu]at aE8;have hs1:=qU.size;have bBa:C<wc.1.size:=od;have HL:Hid (cY wr.1.size wc N K p.n p.n (p.lt K) (p.lb K) (p.lq K) S' E' D' R' Q'/\p.lf K=LF/\u=.slice a K cap/\bW wr wc):=⟨hL,hLF,hu,qU⟩;have hMC:MB≠C:=od;have hAl:∀o,bW wc (wc.drew.alloc o):=λo=>(jD _ _).drew.alloc (kG _) _;have r0a:=λo=>((hAl o).cell (p:=(aA MB 0)) hMl).trans r0;have r1a:=λo=>((hAl o).cell (p:=(aA MB 1)) hMl).trans r1;have r2a:=λo=>((hAl o).cell (p:=(aA MB 2)) hMl).trans r2;have bMc:=λo=>((hAl o).cell (p:=(aA C 14)) bBa).trans y14;have bEw:wc.drew.ownsRow (C+1) 178 3 (.slice a K cap) K (dQ (λk=>iI (p.lf k)) (λk=>.pointer (some ⟨S k,0,none⟩)) (λk=>.slice (some ⟨E k,0,none⟩) p.n p.n) K):=aE8;have HQ3:Hid (∀gq cq w3,w3.ownsRow (C+1) 178 3 (sL gq (K+1) cq) (K+1) (dQ (λk=>iI (p.lf k)) (λk=>.pointer (some ⟨S k,0,none⟩)) (λk=>.slice (some ⟨E k,0,none⟩) p.n p.n) K++[iI LF,pP S',sL E' n n])->(wc.drew.alloc (.cells #[iI LF,pP S',sL E' n n] 178)).grownBy w3 (Value.slice a K cap).ownBlock->((Value.slice a K cap).ownBlock=some gq\/gq=wc.1.size+1)->(w3.cell? (aA C 14)=some (.slice a K cap)/\w3.frozen? (aA C 14)=false/\C<w3.1.size)/\(w3.cell? (aA MB 0)=some (iI LF)/\w3.cell? (aA MB 1)=some (pP S')/\w3.cell? (aA MB 2)=some (sL E' n n))/\∃Of S E D R Q u,aB6 wn (w3.setCell (aA C 14) (sL gq (K+1) cq)) wz.1.size X0 Of C nb p P S E D R Q u (K+1)):=by
       intro gq cq w3 dI bT oX;have hA:=hAl (.cells #[iI LF,pP S',sL E' n n] 178);have hsa:(wc.drew.alloc (.cells #[iI LF,pP S',sL E' n n] 178)).1.size=wc.1.size+1:=oe;have hs3:=bT.size;have eH:some C≠(Value.slice a K cap).ownBlock:=λe=>by have:=(aE8.lt C e.symm).1;omega
       have bJn:some MB≠(Value.slice a K cap).ownBlock:=λe=>by have g:=HF.out.fam.lt iB MB (by rw[HF.out.ob,hu,<-e];simp);omega
       have cM:∀i,w3.cell? (aA MB i)=wc.cell? (aA MB i):=λi=>(jC (a:=(aA MB i)) (bT.block MB od bJn)).trans (hA.cell (p:=(aA MB i)) hMl);refine⟨⟨(jC (a:=(aA C 14)) (bT.block C od eH)).trans (bc hA bBa y14),(World.frozen?_of_block (a:=(aA C 14)) (bT.block C od eH)).trans ((hA.frozen (p:=(aA C 14)) bBa).trans x14),od⟩,⟨(cM 0).trans r0,(cM 1).trans r1,(cM 2).trans r2⟩,?_⟩;have fM:=HF.out.step (u':=sL gq (K+1) cq) qU hL (kG _) hA (by rw[hLF];simpa only[C1.out]using dI) (by rw[hu];exact bT) (by
        rw[hu]
        rcases oX with y|y
        .exact .inl y.symm
        .exact .inr (by rw[hsa,<-y];rfl))
       obtain⟨Of',h'⟩:=fM;exact⟨Of',_,_,_,_,_,_,h'⟩
      clear hL hLF hu qU HML hMB HL hAl aE8 HF;go_wp2_with fail;refine wp_region_noPanic ?_;refine wp_region_held_drew (S:=λu=>u.cell? (aA MB 0)=some (iI LF)/\u.cell? (aA MB 1)=some (pP S')/\u.cell? (aA MB 2)=some (sL E' n n)) oh ⟨r0,r1,r2⟩ (λaF=>?_);refine tk 0 aF ?_;refine tk 1 aF ?_;refine tk 2 aF ?_;refine tk 3 aF ?_;refine tk 5 aF ?_;refine rd2 4 6 (λKq hK=>?_) λKq hK=>?_
      .go_simp;refine kp hK (λaF=>?_) ⟨r0,r1,r2⟩;clear hK Kq;refine fJ 6 λKq hK=>?_;exact zAp
      .go_simp;refine kp hK (λaF=>?_) ⟨r0a _,r1a _,r2a _⟩;clear hK Kq;refine fJ 4 λKq hK=>?_;exact zAp
    .have hKn:K=nl:=by omega
     have kj:decide (K<nl)=false:=kD od;obtain⟨Of,S,E,D,R,Q,u,hF⟩:=HI.out;have HD:Hid (Below wz.1.size w0 wr/\∃O m,Cl wr O C p fa cs cJ.start 0 1 m/\∀c,c∈O->wz.1.size<=c):=by refine⟨HB0.out.trans hF.bel,?_⟩;rw[hKn,<-HPL.out]at hF;exact hF.whole H13.out.1 H13.out.2 HHN.out
     clear hF HI hKn hlt;go_wp2;go_ret;exact⟨rfl,HD.out⟩
end
section
variable{C cb fK n:Nat}{V wx:WA}{fa:Int}{p:aP}
def tI(w:WA)(p:aP)(fa:Int)(cs:List Int)(e:Ending)(w':WA):Prop:=
 bW w w'/\∃K I,xK p fa cs K I/\((K≠0/\∃E,e=rT (tU #[.pointer none,E])/\gX w' E K I)\/(K=0/\∃O C m,e=rT (tU #[pP C,.nilIface])/\Cl w' O C p fa cs cJ.start 0 1 m/\∀c,c∈O->w.1.size<=c))
def Z2(p:aP)(fa:Int):Bool:=decide (p.aG<M4 (IntKind.u64.wrap fa))||(bits BinOp.andNot .i64 fa (2^p.n-1) !=0)
theorem aSo(hB:aFx p)(h0:-9223372036854775808<=fa)(h1:fa<=9223372036854775807):Z2 p fa=false↔(0<=fa/\fa<2^p.n/\(List.range p.n).countP (aX fa)<=p.aG.toNat):=by
 have sS:p.n<=16:=by have:=hB.n2;unfold aP.n;omega
 have hf:=hB.f0;unfold Z2;rw[aQl sS h0 od];by_cases jT:0<=fa/\fa<2^p.n
 .obtain⟨x,hx⟩:∃x:Nat,fa=x:=⟨fa.toNat,od⟩;subst hx;have hlt:x<2^p.n:=by have h:=jT.2;have e:((2:Int)^p.n)=((2^p.n:Nat):Int):=oe;rw[e]at h;exact_mod_cast h
  have hx6:x<65536:=kC hlt (Nat.pow_le_pow_right (n:=2) og sS);have hw:IntKind.u64.wrap (x:Int)=(x:Int):=zB5
  rw[hw,aKt sS hlt];simp only[jT,decide_true,Bool.not_true,Bool.or_false,decide_eq_false_iff_not,and_self,true_and];omega
 .simp only[jT,decide_false,Bool.not_false,Bool.or_true,Bool.true_eq_false,false_iff];intro y;exact jT ⟨y.1,y.2.1⟩
theorem bAn(w:WA)(a b c d e f g h i j:WB)(t:WI)(V:WA)(hV:w.alloc (.cells #[a,b,c,d,e,f,g,h,i,j] t)=V):
  ((V.cell? (aA w.1.size 0)=some a/\V.cell? (aA w.1.size 1)=some b/\V.cell? (aA w.1.size 2)=some c/\V.cell? (aA w.1.size 3)=some d/\V.cell? (aA w.1.size 4)=some e)/\V.cell? (aA w.1.size 5)=some f/\V.cell? (aA w.1.size 6)=some g/\V.cell? (aA w.1.size 7)=some h/\V.cell? (aA w.1.size 8)=some i/\V.cell? (aA w.1.size 9)=some j)/\bW w V/\V.1.size=w.1.size+1:=by subst hV;exact⟨⟨⟨oe,oe,oe,oe,oe⟩,oe,oe,oe,oe,oe⟩,(jD _ _).alloc (kG _) _,oe⟩
structure xI(V wx:WA)(p:aP)(a:mS)(fa:Int)(cs:List Int)(n C cb fK:Nat):Prop where
 bel:bW V wx
 cel:∀(i:Nat)(u:WB),(#[iI n,iI p.aG,iI p.aM,iI p.aC,iI p.aJ,iI p.round,sV a.sa p.ns a.sc,sV a.la p.nl a.lc,iI p.frame,sV a.wa p.nw a.wc,iI fa,sL cb n fK,iI 0,sV none 0 0,sV none 0 0]:Array WB)[i]?=some u->wx.cell? (aA C i)=some u
 z:∀i,wx.frozen? (aA C i)=false
 lC:C<wx.1.size
 lc:V.1.size<=cb/\cb<C
 ck:∀j,j<cs.length->wx.cell? (aA cb j)=some (iI (cs.getD j 0))
theorem xI.of{v3:WA}{a:mS}{cs:List Int}(hb:bW V v3)(hc:V.1.size<=cb/\cb<v3.1.size)(ck:∀j,j<cs.length->v3.cell? (aA cb j)=some (iI (cs.getD j 0))){t:WI}:
  xI V (v3.alloc (.cells #[iI n,iI p.aG,iI p.aM,iI p.aC,iI p.aJ,iI p.round,sV a.sa p.ns a.sc,sV a.la p.nl a.lc,iI p.frame,sV a.wa p.nw a.wc,iI fa,sL cb n fK,iI 0,sV none 0 0,sV none 0 0] t)) p a fa cs n v3.1.size cb fK:=by have k:∀o,bW v3 (v3.alloc o):=λo=>(jD _ _).alloc (kG _) _;exact⟨hb.trans ((k _).mono hb.size),λi u hi=>by simpa using hi,λi=>by simp,oe,hc,λj hj=>((k _).cell (p:=(aA cb j)) hc.2).trans (ck j hj)⟩
structure aM8(V v:WA)(C:Nat)(p:aP)(fa:Int)(cs:List Int)(cb fK:Nat)(sa:Option WT)(sF:Nat)(X0:List Nat):Prop where
 bel:bW V v
 hd:J8 v C p fa cs cb fK sa sF X0
 z:∀i,v.frozen? (aA C i)=false
 c13:v.cell? (aA C 13)=some (sV none 0 0)
 c14:v.cell? (aA C 14)=some (sV none 0 0)
 lC:V.1.size<=C/\C<v.1.size
 lX:∀c,c∈X0->(V.1.size<=c/\c<v.1.size)/\c≠C
theorem aM8.below{v v':WA}{cs:List Int}{sa:Option WT}{sF:Nat}{X0:List Nat}(h:aM8 V v C p fa cs cb fK sa sF X0)(k:bW v v'):aM8 V v' C p fa cs cb fK sa sF X0:=by have cC:∀i,v'.cell? (aA C i)=v.cell? (aA C i):=λi=>k.cell (p:=(aA C i)) h.lC.2;have hs:=k.size;exact⟨h.bel.trans (k.mono h.bel.size),h.hd.keep (λi _=>cC i) (Same.of_below k (λc hc=>(h.lX c hc).1.2)),λi=>(k.frozen (p:=(aA C i)) h.lC.2).trans (h.z i),(cC 13).trans h.c13,(cC 14).trans h.c14,⟨h.lC.1,kC h.lC.2 hs⟩,λc hc=>⟨⟨(h.lX c hc).1.1,kC (h.lX c hc).1.2 hs⟩,(h.lX c hc).2⟩⟩
theorem xI.next{v5:WA}{a:mS}{cs:List Int}(h:xI V wx p a fa cs n C cb fK)(hn:p.AA=(n:Int))(hl:cs.length=n){a':Option WT}{cap':Nat}(k:bW wx v5)(hr:jH v5 a' p.ns p.nd p.fr p.td)(hf:∀b off s,a'=some ⟨b,off,s⟩->wx.1.size<=b/\b<v5.1.size):
  ∃X0,aM8 V (((v5.setCell (aA C 6) (sV a' p.ns cap')).setCell (aA C 7) (sV none 0 0)).setCell (aA C 9) (sV none 0 0)) C p fa cs cb fK a' cap' X0:=zKz
theorem aS5(bBf:∀(p:aP) (a:mS) (w:WA),p.In a w->∃E I,p.Is E I/\Calls prog 99 #[p.val a] w λe w'=>∃V,e=rT V/\gX w' V E I/\bW w w')(p:aP)(a:mS)(fa:Int)(ca:Option WT)(cap:Nat)(cs:List Int)(w:WA)(hIn:p.In a w)(hC:bI w ca cs)(f0:-9223372036854775808<=fa)(f1:fa<=9223372036854775807):
  Calls prog 78 #[p.val a,iI fa,sV ca cs.length cap] w λe w'=>tI w p fa cs e w':=by
 unfold aP.val at bBf⊢;obtain⟨V,hV⟩:∃V,w.alloc (.cells #[iI p.AA,iI p.aG,iI p.aM,iI p.aC,iI p.aJ,iI p.round,sV a.sa p.ns a.sc,sV a.la p.nl a.lc,iI p.frame,sV a.wa p.nw a.wc] 83)=V:=⟨_,rfl⟩;obtain⟨⟨⟨b0,b1,b2,b3,b4⟩,b5,b6,b7,b8,b9⟩,hBV,hVs⟩:=bAn w _ _ _ _ _ _ _ _ _ _ _ V hV;obtain⟨E,I,hIs,hck⟩:=bBf p a V (hIn.below hBV);have HIn:Hid (p.In a w/\bI w ca cs):=⟨hIn,hC⟩;have HBV:Hid (bW w V/\V.1.size=w.1.size+1):=⟨hBV,hVs⟩;have xR:w.1.size<V.1.size:=od;clear bBf hIn hC hBV hVs;go_enter func78,ntmps78;go_wp2_with fail;refine hck.mono ?_;rintro e v1 ⟨EV,rfl,bEt,rY⟩;have oZ:Hid (bW w v1/\bW V v1):=⟨HBV.out.1.trans (rY.mono od),rY⟩;have HEr:Hid (gX v1 EV E I):=bEt;clear hV hck;rcases bEt with⟨rfl,he,hi⟩|⟨rfl,he,hi⟩|⟨b,rfl,he,c0,c1⟩
 .subst he hi;have hPB:=hIs.bounds;have iU:1<=p.n:=by have:=hPB.n1;unfold aP.n;omega
  have sS:p.n<=16:=by have:=hPB.n2;unfold aP.n;omega
  have pA:p.AA=(p.n:Int):=by have:=hPB.n1;unfold aP.n;omega
  have hns:=hPB.ns;have y0:=bc rY xR b0;have y1:=bc rY xR b1;rw[pA]at y0;have hl1:w.1.size<v1.1.size:=kC xR rY.size;have hpw:1<=(2:Int)^p.n/\(2:Int)^p.n<=65536:=aUm p.n sS;have HFB:Hid (Z2 p fa=false↔(0<=fa/\fa<2^p.n/\(List.range p.n).countP (aX fa)<=p.aG.toNat)):=aSo hPB f0 f1;have HFD:Hid (Z2 p fa=(decide (p.aG<M4 (IntKind.u64.wrap fa))||(bits BinOp.andNot .i64 fa (2^p.n-1) !=0))):=rfl;have HIs:Hid (p.Is 0 (-1)):=hIs;have HPB:Hid (aFx p):=hPB;have HNN:Hid (p.AA=(p.n:Int)):=pA;have aZj:=λv=>aUd (IntKind.u64.wrap fa) (u64_in fa) v;have G4:=λv=>zV p.n sS v;have H1:Hid (∀v,bW w v->Z2 p fa=true->tI w p fa cs (rT (tU #[.pointer none,.iface 30 (iI 1)])) v):=λv hv hb=>by refine⟨hv,1,-1,.inr ⟨hIs,rfl,.inl ⟨λy=>?_,rfl⟩⟩,.inl ⟨og,_,rfl,.inr (.inl ⟨rfl,og,rfl⟩)⟩⟩;rw[HFB.out.2 y]at hb;cases hb
  clear hIs hPB rY HEr;generalize M4 (IntKind.u64.wrap fa)=oc at *;obtain⟨n,hpn⟩:∃n,p.n=n:=⟨_,rfl⟩;have C1:Hid (p.n=n):=hpn;rw[hpn]at iU sS y0 hpw HFD G4;generalize hpw2:(2:Int)^n=PW at hpw HFD G4;clear hpn pA hpw2;by_cases hA:p.aG<oc
  .have kA:decide (p.aG<oc)=true:=kF hA;have HBd:Hid (Z2 p fa=true):=by show _=_;rw[HFD.out,kA];rfl
   exact zBt
  .have kA:decide (p.aG<oc)=false:=kD hA;by_cases hR:(bits BinOp.andNot .i64 fa (PW-1) !=0)=true
   .have HBd:Hid (Z2 p fa=true):=by show _=_;rw[HFD.out,kA,hR];rfl
    exact zBt
   .have hR':(bits BinOp.andNot .i64 fa (PW-1) !=0)=false:=by simpa using hR
    have HOk:Hid (0<=fa/\fa<2^p.n/\(List.range p.n).countP (aX fa)<=p.aG.toNat):=HFB.out.1 (by rw[HFD.out,kA,hR'];rfl);clear hR;exact zL4
 .have HD:Hid (tI w p fa cs (rT (tU #[.pointer none,.iface 30 (iI E)])) v1):=⟨oZ.out.1,E,I,.inl ⟨E,hIs,he,rfl⟩,.inl ⟨he,_,rfl,HEr.out⟩⟩;clear hIs;go_wp2;go_ret2;exact HD.out
 .have HD:Hid (tI w p fa cs (rT (tU #[.pointer none,.iface 265 (pP b)])) v1):=⟨oZ.out.1,E,I,.inl ⟨E,hIs,he,rfl⟩,.inl ⟨he,_,rfl,HEr.out⟩⟩;clear hIs;go_wp2;go_ret2;exact HD.out
end
