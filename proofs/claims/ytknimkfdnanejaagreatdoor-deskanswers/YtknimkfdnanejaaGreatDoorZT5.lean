import Derived.Test.YtknimkfdnanejaaGreatDoorZT3
import Derived.Test.YtknimkfdnanejaaGreatDoorZT4
namespace Go.Proofs.YtknimkfdnanejaaGreatDoor
open Go.RowKit Go.Proofs.Tryz
set_option maxRecDepth 100000
set_option maxHeartbeats 16000000
def aVr(md:Region.Mode)(sX:Array Oper):Array Bool->List (Nat×Tmp)->Array Value->Bool
 |_,[],_=>true
 |listed,(i,d)::r,t=>match sX[i]? with
  |some o=>(o.dst==some d)&& !Region.wanted o (yielded sX t)&&Region.free md sX listed i&&(Region.ready md sX listed).contains i&&aVr md sX (listed.setIfInBounds i true) r (t.setIfInBounds d undef)
  |none=>false
def bHv(listed:Array Bool)(is:List (Nat×Tmp)):Array Bool:=is.foldl (fun l p=>l.setIfInBounds p.1 true) listed
def bAm(a:Act)(is:List (Nat×Tmp)):Act:=is.foldl (fun a p=>a.put (some p.2) undef) a
theorem oM{P:Program}{md:Region.Mode}{sX:Array Oper}{Q:Exit->Act->World->Prop}{S:World->Prop}(hs:Region.noSelect sX=true)(hQ:∀c a d w,Q (.panic c) (a.put (some d) undef) w->Q (.panic c) a w){w:World}(hS:S w){fuel:Nat}:
  ∀(is:List (Nat×Tmp)){listed:Array Bool}{a:Act},aVr md sX listed is a.tmps=true->wpAnyH P md sX Q S fuel (bHv listed is) (bAm a is) w->wpAnyH P md sX Q S (fuel+is.length) listed a w
 |[],_,_,_,h=>h
 |(i,d)::r,listed,a,hb,h=>by
  unfold aVr at hb;split at hb
  ·rename_i o ho;simp only[Bool.and_eq_true,Bool.not_eq_true',beq_iff_eq]at hb;obtain⟨⟨⟨⟨h1,h2⟩,h3⟩,h4⟩,h5⟩:=hb;have ih:=oM hs hQ hS r (listed:=listed.setIfInBounds i true) (a:=a.put (some d) undef) h5 h;refine wpAnyH_take (i:=i) (oi:=o) (v:=undef) ho hs h3 h4 (by rw[h1];exact fun c a w=>hQ c a d w) (Or.inr ⟨h2,rfl⟩) hS ?_;rw[h1];exact ih
  ·cases hb
section
variable{c f:Int}{m:Nat}{row:List Int}
def fQ(m:Nat)(c:Int)(row:List Int)(f:Int):Int:=if row.length≠m then 1 else if far c=true then 2 else dR row f
def vI(m:Nat)(c:Int)(row:List Int)(f:Int):Int:=if fQ m c row f=0 then fO row f else 0
theorem r8(h:row.length≠m):fQ m c row f=1:=by unfold fQ;rw[kJ h]
theorem r9(h:row.length=m)(h2:far c=true):fQ m c row f=2:=by unfold fQ;rw[kI (by simp[h]),kJ h2]
theorem sC(h:row.length=m)(h2:far c=false):fQ m c row f=dR row f:=by unfold fQ;rw[kI (by simp[h]),kI (by simp[h2])]
theorem T9(h:fQ m c row f≠0):vI m c row f=0:=by unfold vI;rw[kI h]
theorem aMv(h:fQ m c row f=0):vI m c row f=fO row f:=by unfold vI;rw[kJ h]
theorem aFs(h:fQ m c row f=0):row.length=m/\far c=false/\dR row f=0:=by
 by_cases h1:row.length=m
 ·cases h2:far c
  ·rw[sC h1 h2]at h;exact⟨h1,rfl,h⟩
  ·rw[r9 h1 h2]at h;cases h
 ·rw[r8 h1]at h;cases h
theorem aHp{l:List Int}(h:dR l f=0):0<=f/\2*f+1<=(l.length:Int)/\l.any far=false:=by
 by_cases h1:f<0\/(l.length:Int)<2*f+1
 ·rw[aAg h1]at h;cases h
 ·cases h2:l.any far
  ·exact⟨od,od,rfl⟩
  ·rw[J6 h1 h2]at h;cases h
theorem tR(l:List Int)(f:Int):-1099511627776<=fO l f/\fO l f<=1099511627776:=by
 by_cases h:dR l f=0
 ·obtain⟨h1,h2,h3⟩:=aHp h;rw[rK h];have a:=l7 h3 (k:=f.toNat) od;have b:=l7 h3 (k:=l.length-1-f.toNat) od;unfold yV;omega
 ·rw[uE h];omega
def wZ(w:World)(a:Option Addr)(rows:List (List Int)):Prop:=
 0<rows.length->∃b off,a=some (aA b off)/\b<w.heap.size/\∀j,j<rows.length->∃ra cap,w.cell? (aA b (off+j))=some (.slice ra (rows.getD j []).length cap)/\bE w ra (rows.getD j [])
theorem wZ.below{w w':World}{a:Option Addr}{rows:List (List Int)}(h:wZ w a rows)(hb:bW w w'):wZ w' a rows:=fun h0=>by obtain⟨b,off,e,hl,hc⟩:=h h0;refine⟨b,off,e,kB hl hb.size,fun j hj=>?_⟩;obtain⟨ra,cap,h1,h2⟩:=hc j hj;exact⟨ra,cap,bc hb hl h1,h2.below hb⟩
def rZ(cs:List Int)(rows:List (List Int))(f:Int)(k:Nat):List Int:=(List.range k).map fun j=>cs.getD j 0+fO (rows.getD j []) f
theorem aMn(cs:List Int)(rows:List (List Int))(f:Int)(k:Nat):rZ cs rows f (k+1)=rZ cs rows f k++[cs.getD k 0+fO (rows.getD k []) f]:=by simp[rZ,List.range_succ]
theorem aCw(cs:List Int)(rows:List (List Int))(f:Int)(k:Nat):(rZ cs rows f k).length=k:=by simp[rZ]
end
structure xQ where
 t:Nat->Bool
 g:Int
 b:Int
 fz:Bool
structure jH where
 all:List ByteArray
 aP:Nat
 last:Int
 now:Int
structure cA where
 nodes:Nat->xQ
 aN:Nat->jH
 aV:Nat->Nat->Int
 aR:Nat->Nat->List ByteArray
structure oT where
 n:Nat
 round:Int
 ns:Nat
 nd:Nat->Nat
 fr:Nat->Int
 nl:Nat
 lf:Nat->Nat
 lt:Nat->Nat->Bool
 lb:Nat->Int
structure lJ where
 lies:Nat->Bool
 mode:Nat->Int
 lost:Nat->Nat->Nat->Bool
def jH.asked(s:jH)(t bag:Int):jH:=
 { all:=s.all,aP:=K0 (fU s.all.length s.aP t s.now s.last bag) s.aP,last:=pF (fU s.all.length s.aP t s.now s.last bag) t s.last,now:=Y7 (fU s.all.length s.aP t s.now s.last bag) t s.now }
def aK(p:oT)(who:Nat)(t:Int)(L:Nat->jH):Nat->(Nat->jH)×Option (Nat×Int×ByteArray)
 |0=>(L,none)
 |k+1=>
  let r:=aK p who t L k
  if r.2.isSome=true\/p.lf k≠who then r
  else(fun j=>if j=k then(r.1 k).asked t (p.lb k)else r.1 j,
   if fU (r.1 k).all.length (r.1 k).aP t (r.1 k).now (r.1 k).last (p.lb k)=0 then some (k,mH (r.1 k).aP,(r.1 k).all.getD (r.1 k).aP ByteArray.empty)else none)
def lJ.nG(h:lJ)(who:Nat):Int:=if h.lies who=true then h.mode who else 0
def cA.sends(s:cA)(h:lJ)(who:Nat):Bool:=eZ (s.nodes who).g (s.nodes who).b (s.nodes who).fz&&decide (h.nG who≠1)
def cA.pH(s:cA)(p:oT)(h:lJ)(who:Nat):Nat->Bool:=fun j=>if h.nG who=2/\(j=who\/j=(who+1)%p.n)then !(s.nodes who).t j else(s.nodes who).t j
def cA.comes(s:cA)(h:lJ)(i who M4:Nat):Bool:=s.sends h who&&(!h.lost i 0 M4|| !h.lost i 1 M4)
def cA.what(s:cA)(p:oT)(h:lJ)(i who M4:Nat):Int:=if s.comes h i who M4=true then(if F4 p.n who (s.pH p h who) (s.nodes M4).t=true then 1 else 2)else 0
def xQ.aT(N:xQ):xQ:={ t:=N.t,g:=if eZ N.g N.b N.fz=true then 1 else N.g,b:=if eZ N.g N.b N.fz=true then 0 else N.b,fz:=!eZ N.g N.b N.fz }
def xQ.hears(N:xQ)(id n gH:Nat)(bU:Int):xQ:={ t:=heT id n N.fz gH bU N.t,g:=heG id n N.fz gH bU N.g,b:=heB id n N.fz gH bU N.b,fz:=N.fz }
def cA.goes(s:cA)(p:oT)(h:lJ)(rounds:Int)(i:Nat):(Nat->jH)×Option (Nat×Int×ByteArray):=
 if s.sends h (p.nd i)=true then aK p (p.nd i) (rounds*p.round+p.fr i) s.aN p.nl else(s.aN,none)
def cA.sE(s:cA)(p:oT)(h:lJ)(i:Nat)(m:Option (Nat×Int×ByteArray))(k M4:Nat):Bool:=
 match m with
 |none=>false
 |some (j,q,_)=>decide (j=k)&&(p.lt k M4&&(s.comes h i (p.nd i) M4&&(decide (M4<p.n/\M4≠p.nd i)&&takeB (s.aV k M4) q)))
def dN(m:Option (Nat×Int×ByteArray)):Int:=match m with|none=>0|some (_,q,_)=>q
def dE(m:Option (Nat×Int×ByteArray)):ByteArray:=match m with|none=>ByteArray.empty|some (_,_,d)=>d
def cA.slot(s:cA)(p:oT)(h:lJ)(rounds:Int)(i:Nat):cA where
 nodes:=fun j=>if j=p.nd i then(s.nodes j).aT else(s.nodes j).hears j p.n (p.nd i) (s.what p h i (p.nd i) j)
 aN:=(s.goes p h rounds i).1
 aV:=fun k j=>if s.sE p h i (s.goes p h rounds i).2 k j=true then dN (s.goes p h rounds i).2 else s.aV k j
 aR:=fun k j=>if s.sE p h i (s.goes p h rounds i).2 k j=true/\(s.aR k j).length<16 then s.aR k j++[dE (s.goes p h rounds i).2]else s.aR k j
def cA.iM(s:cA)(p:oT)(h:lJ)(rounds:Int):Nat->cA
 |0=>s
 |i+1=>(s.iM p h rounds i).slot p h rounds i
theorem S3{p:oT}{who:Nat}{t:Int}{L:Nat->jH}:∀n,(∀k q d,(aK p who t L n).2=some (k,q,d)->k<n/\p.lf k=who)/\∀j,p.lf j≠who->(aK p who t L n).1 j=L j:=by
 intro n
 induction n with
 |zero=>exact⟨fun k q d h=>Oy,fun j _=>rfl⟩
 |succ n ih=>
  show(∀k q d,(if(aK p who t L n).2.isSome=true\/p.lf n≠who then aK p who t L n else _).2=some (k,q,d)->_)/\∀j,p.lf j≠who->(if(aK p who t L n).2.isSome=true\/p.lf n≠who then aK p who t L n else _).1 j=L j
  by_cases hc:(aK p who t L n).2.isSome=true\/p.lf n≠who
  ·rw[kJ hc]
   exact⟨fun k q d h=>⟨Nat.lt_succ_of_lt (ih.1 k q d h).1,(ih.1 k q d h).2⟩,ih.2⟩
  ·rw[kI hc]
   have hw:p.lf n=who:=by
    by_cases e:p.lf n=who
    ·exact e
    ·exact absurd (.inr e) hc
   refine⟨fun k q d h=>?_,fun j hj=>?_⟩
   ·by_cases e:fU ((aK p who t L n).1 n).all.length ((aK p who t L n).1 n).aP t ((aK p who t L n).1 n).now ((aK p who t L n).1 n).last (p.lb n)=0
    ·simp only[kJ e]at h
     injection h with h
     injection h with h
     exact⟨od,by rw[<-h];exact hw⟩
    ·simp only[kI e]at h
     cases h
   ·have:j≠n:=fun e=>hj (e▸hw)
    show(if j=n then _ else(aK p who t L n).1 j)=L j
    rw[kI this]
    exact ih.2 j hj
def cutV(x most:Int):Int:=max (-most) (min most x)
theorem xC{x most:Int}(h:0<=most):-most<=cutV x most/\cutV x most<=most:=by unfold cutV;omega
structure I1 where
 who:Int
 of_:Int
 is_:Int
def jG(n:Nat)(lies:Nat->Bool)(aC:Int)(now:Nat->Int)(x:I1)(row:Nat->Nat->Int):Nat->Nat->Int:=fun i k=>
 if(0<=x.who/\x.who<n)/\(0<=x.of_/\x.of_<n)/\x.who≠x.of_/\(i:Int)=x.who/\(k:Int)=x.of_ then
  (if lies k=true then cutV x.is_ 549755813888 else now k-now i+cutV x.is_ aC)
 else row i k
def readAll(n:Nat)(lies:Nat->Bool)(aC:Int)(now:Nat->Int)(l:List I1):Nat->Nat->Int:=l.foldl (fun row x=>jG n lies aC now x row) (fun i k=>now k-now i)
theorem aBs{n:Nat}{lies:Nat->Bool}{aC:Int}{now:Nat->Int}(hj:0<=aC)(l:List I1):∀i k,lies k=false->now k-now i-aC<=readAll n lies aC now l i k/\readAll n lies aC now l i k<=now k-now i+aC:=by
 have key:∀(l:List I1)(row:Nat->Nat->Int),(∀i k,lies k=false->now k-now i-aC<=row i k/\row i k<=now k-now i+aC)->∀i k,lies k=false->now k-now i-aC<=l.foldl (fun row x=>jG n lies aC now x row) row i k/\l.foldl (fun row x=>jG n lies aC now x row) row i k<=now k-now i+aC:=by
  intro l
  induction l with
  |nil=>intro row h;exact h
  |cons x l ih=>
   intro row h
   refine ih _ fun i k hk=>?_
   have e:jG n lies aC now x row i k=(if(0<=x.who/\x.who<n)/\(0<=x.of_/\x.of_<n)/\x.who≠x.of_/\(i:Int)=x.who/\(k:Int)=x.of_ then(if lies k=true then cutV x.is_ 549755813888 else now k-now i+cutV x.is_ aC)else row i k):=rfl
   show now k-now i-aC<=jG n lies aC now x row i k/\jG n lies aC now x row i k<=now k-now i+aC
   rw[e]
   split
   ·have hc:=xC (x:=x.is_) hj
    rw[kI (by rw[hk];decide)]
    generalize cutV x.is_ aC=cv at *
    exact⟨od,od⟩
   ·exact h i k hk
 refine key l _ fun i k _=>?_;show now k-now i-aC<=now k-now i/\now k-now i<=now k-now i+aC;omega
def eU(bA:List Int)(aH:Int)(i:Nat):Int:=if i<bA.length then cutV (bA.getD i 0) aH else 0
theorem N0{bA:List Int}{aH:Int}(h:0<=aH)(i:Nat):-aH<=eU bA aH i/\eU bA aH i<=aH:=by
 unfold eU;split
 ·exact xC h
 ·omega
def jM(n f:Nat)(lies:Nat->Bool)(aC aH:Int)(now:Nat->Int)(l:List I1)(bA:List Int):Nat->Int:=fun i=>mW n f now (readAll n lies aC now l) i+eU bA aH i
def gV(n:Nat)(c:Nat->Int):Bool:=(List.range n).any fun i=>decide (c i< -274877906944\/274877906944<c i)
def aNj(n:Nat)(lies:Nat->Bool)(aJ:Int)(c:Nat->Int):Prop:=∀i j,i<n->lies i=false->j<n->lies j=false->c i-c j<=aJ
theorem aNj.round{n f:Nat}{lies:Nat->Bool}{aJ aC aH:Int}{now:Nat->Int}(h:aNj n lies aJ now)(l:List I1)(bA:List Int)(hl:(List.range n).countP lies<=f)(h3:3*f+1<=n)(hj:0<=aC)(hd:0<=aH)(hS:aJ/2+2*aC+1+2*aH<=aJ):aNj n lies aJ (jM n f lies aC aH now l bA):=by
 intro i j hi oi D8 oj;refine aMq (ok:=fun k=>!lies k) (u:=aC) (D:=aH) (row:=readAll n lies aC now l) (aSq lies n f hl) h3 hS (fun a b _ _ _ hb=>?_) (fun a b ha oa hb ob=>?_) (fun a _=>N0 hd a) i j hi ?_ D8 ?_
 ·exact aBs hj l a b (by simpa using hb)
 ·exact h a b ha (by simpa using oa) hb (by simpa using ob)
 ·simp[oi]
 ·simp[oj]
section
variable{S S':jH}{lo:Nat}{nw:Int}
end
structure M5(p:oT)(who:Nat)(s s':cA):Prop where
 n:s.nodes=s'.nodes
 l:∀k,p.lf k=who->s.aN k=s'.aN k
 w:∀k,p.lf k=who->s.aV k=s'.aV k
 q:∀k,p.lf k=who->s.aR k=s'.aR k
theorem Tryz.aTo:(Tryz.prog.info? 4).map (fun i=>(i.zero,i.size,i.bytes))=some (some (.bool false),1,1):=by kernel_rfl
theorem aIe(id:Int)(n:Nat)(w:World)(h1:1<=n)(h2:n<=16)(h3:0<=id)(h4:id<n):
  Calls prog 98 #[iI id,iI n] w fun e w'=>e=rT (tU #[.pointer (some (aA (w.heap.size+1) 0)),.bool true])/\bZ w' (w.heap.size+1) w.heap.size id n (fun _=>true) 1 0 false/\bW w w':=by
 obtain⟨i0,hi,lO,mX,jX⟩:=info_parts Tryz.aTo;have hmk:=run_makeSlice (P:=prog) w 120 4 i0 _ underlying120 hi lO .i64 .i64 (n:Int) (n:Int) od (Int.le_refl _) Jj jw od;rw[mX]at hmk;simp only[Int.toNat_natCast,Nat.mul_one]at hmk;obtain⟨CC,hCC⟩:∃CC,madeCells (Value.bool false).cells n=CC:=⟨_,rfl⟩;have hel:∀j,j<n->CC[j]?=some (.bool false):=fun j hj=>by rw[<-hCC];simp[madeCells,Value.cells,hj,Nat.mod_one]
 have hsz:CC.size=n:=by rw[<-hCC];exact size_madeCells _ _
 rw[hCC]at hmk;clear hi lO mX jX hCC;have g1:(1:Int)<=(n:Int):=od;have g2:(n:Int)<=16:=od;have g4:id<=(n:Int)-1:=od;go_enter func98,ntmps98;go_wp2;obtain⟨V,hVe⟩:∃V,V=(w.alloc (.cells CC 4)).alloc (.cells #[iI id,iI n,sL w.heap.size n n,iI 1,iI 0,.bool false] 122):=⟨_,rfl⟩;have HV:Hid (bZ V (w.heap.size+1) w.heap.size id n (fun _=>false) 1 0 false):=by
  rw[hVe];have c:∀(i:Nat)(v:Value),(#[iI id,iI n,sL w.heap.size n n,iI 1,iI 0,.bool false]:Array Value)[i]?=some v->((w.alloc (.cells CC 4)).alloc (.cells #[iI id,iI n,sL w.heap.size n n,iI 1,iI 0,.bool false] 122)).cell? (aA (w.heap.size+1) i)=some v:=fun i v hi=>by exact zFz
  refine⟨c 0 _ rfl,c 1 _ rfl,c 2 _ rfl,c 3 _ rfl,c 4 _ rfl,c 5 _ rfl,fun i=>by simp,fun j hj=>?_,fun j=>?_,od,oh,ol⟩
  ·rw[World.cell?_alloc_lt _ _ _ oh];have:=hel j hj;simp;exact zHh
  ·simp
 have hB:bW w V:=by rw[hVe];exact((kX _ _).alloc (kF _) _).alloc oh _
 rw[<-hVe];clear hVe hel hsz hmk;go_loopw[29] (fun v wr=>∃q:Nat,q<=n/\v=iI q/\Hid (bZ wr (w.heap.size+1) w.heap.size id n (fun j=>decide (j<q)) 1 0 false)/\Hid (bW w wr)) (fun v _=>n-(intOf v).toNat);case atStart=>exact⟨0,kH _,rfl,HV.out.same (fun j hj=>by simp),hB⟩
 case round=>
  obtain⟨q,hq,rfl,hN,Q9⟩:=hrel;by_cases hlt:q<n
  ·have HNX:Hid (bZ (wr.setCell (aA w.heap.size q) (.bool true)) (w.heap.size+1) w.heap.size id n (fun j=>decide (j<q+1)) 1 0 false):=(hN.out.take q true hlt).same fun j _=>by
    by_cases y:j=q
    ·subst y;rw[kJ rfl];exact kD od
    ·rw[kI y];by_cases v:j<q
     ·rw[kD v];exact kD od
     ·rw[kC v];exact kC od
   have HTX:Hid (bW w (wr.setCell (aA w.heap.size q) (.bool true))):=Q9.out.setCell (p:=(aA w.heap.size q)) (kF _) _;obtain⟨c0,c1,c2,c3,c4,c5,z,row,zr,ne',lp',lq'⟩:=hN.out;have r0:=row q hlt;have zq:=zr q;clear z zr row c1 c3 c4 c5;have kk:(q:Int)<(n:Int):=od;go_wp2;exact⟨⟨q+1,od,ow,HNX,HTX⟩,ot⟩
  ·obtain rfl:q=n:=by omega
   have HF:Hid (bZ wr (w.heap.size+1) w.heap.size id q (fun _=>true) 1 0 false):=hN.out.same (fun j hj=>(kD hj).symm);go_wp2;go_ret2;exact⟨rfl,HF.out,Q9.out⟩
def aW(x:Int)(j:Nat):Bool:=decide (x/2^j%2=1)
structure aQ where
 nodes:Int
 aF:Int
 aJ:Int
 aC:Int
 aH:Int
 round:Int
 frame:Int
 ns:Nat
 nl:Nat
 nw:Nat
 nd:Nat->Int
 fr:Nat->Int
 td:Nat->Int
 lf:Nat->Int
 lt:Nat->Int
 lb:Nat->Int
 lq:Nat->Int
 wp:Nat->Int
 wf:Nat->Int
 wt:Nat->Int
def aQ.n(p:aQ):Nat:=p.nodes.toNat
def aQ.Is(p:aQ)(E I:Int):Prop:=
 lS p.nodes p.aF p.aJ p.aC p.aH p.round p.frame p.ns p.nl p.nw p.nd p.fr p.td p.lf p.lt p.lb p.lq (fun j=>aW (p.lt j) (p.lf j).toNat) (2^p.nodes.toNat) p.wp p.wf p.wt E I
def aQ.S(p:aQ):oT where
 n:=p.n
 round:=p.round
 ns:=p.ns
 nd:=fun i=>(p.nd i).toNat
 fr:=p.fr
 nl:=p.nl
 lf:=fun k=>(p.lf k).toNat
 lt:=fun k j=>aW (p.lt k) j
 lb:=p.lb
structure cT where
 nL:Nat
 ls:Nat->Int
 lc:Nat->Int
 lt:Nat->Int
 nR:Nat
 rn:Nat->Int
 ro:Nat->Int
 ri:Nat->Int
 bA:List Int
 bH:List Int
def cT.reads(r:cT):List I1:=(List.range r.nR).map fun i=>⟨r.rn i,r.ro i,r.ri i⟩
def cT.hap(r:cT)(fa:Int):lJ where
 lies:=aW fa
 mode:=fun j=>if j<r.bH.length then r.bH.getD j 0 else 0
 lost:=fun i c j=>(List.range r.nL).any fun x=>decide (r.ls x=i)&&(decide (r.lc x=c)&&aW (r.lt x) j)
def cT.none:cT:=⟨0,fun _=>0,fun _=>0,fun _=>0,0,fun _=>0,fun _=>0,fun _=>0,[],[]⟩
def nZ(p:aQ)(fa:Int)(cs:List Int)(r:cT):List Int:=(List.range p.n).map (jM p.n p.aF.toNat (aW fa) p.aC p.aH (fun i=>cs.getD i 0) r.reads r.bA)
def nY(p:aQ)(fa:Int)(cs:List Int)(r:cT):Bool:=gV p.n (jM p.n p.aF.toNat (aW fa) p.aC p.aH (fun i=>cs.getD i 0) r.reads r.bA)
def aCe(p:aQ)(fa:Int)(s:cA)(rd:Int)(r:cT):cA:=s.iM p.S (r.hap fa) rd p.ns
def dA(l:List Int):Int:=l.foldl max (l.headD 0)-l.foldl min (l.headD 0)
def dW(fa:Int)(cs:List Int):List Int:=((List.range cs.length).filter fun i=>!aW fa i).map fun i=>cs.getD i 0
def cA.start:cA where
 nodes:=fun _=>⟨fun _=>true,1,0,false⟩
 aN:=fun _=>⟨[],0,0,0⟩
 aV:=fun _ _=>-1
 aR:=fun _ _=>[]
def qU(p:aQ)(fa:Int)(cs:List Int)(K I:Int):Prop:=
 (∃E,p.Is E I/\E≠0/\K=E)\/
 (p.Is 0 (-1)/\I=-1/\
  ((¬(0<=fa/\fa<2^p.n/\(List.range p.n).countP (aW fa)<=p.aF.toNat)/\K=1)\/
   ((0<=fa/\fa<2^p.n/\(List.range p.n).countP (aW fa)<=p.aF.toNat)/\
    ((cs.length≠p.n/\K=7)\/
    (cs.length=p.n/\
     ((¬((∀c∈cs,-274877906944<=c/\c<=274877906944)/\dA (dW fa cs)<=p.aJ)/\K=2)\/
      (((∀c∈cs,-274877906944<=c/\c<=274877906944)/\dA (dW fa cs)<=p.aJ)/\K=0)))))))
structure vX(p:aQ)(fa:Int)(cs:List Int):Prop where
 aI:p.Is 0 (-1)
 f0:0<=fa
 f1:fa<2^p.n
 fc:(List.range p.n).countP (aW fa)<=p.aF.toNat
 len:cs.length=p.n
 inn:∀c∈cs,-274877906944<=c/\c<=274877906944
 bCv:dA (dW fa cs)<=p.aJ
theorem qU.ok{p:aQ}{fa:Int}{cs:List Int}{I:Int}(h:qU p fa cs 0 I):vX p fa cs:=by
 rcases h with⟨E,_,h1,h2⟩|⟨h0,_,h⟩
 ·exact absurd h2.symm h1
 ·rcases h with⟨_,h⟩|⟨h1,h⟩
  ·cases h
  ·rcases h with⟨_,h⟩|⟨h2,h⟩
   ·cases h
   ·rcases h with⟨_,h⟩|⟨h3,_⟩
    ·cases h
    ·exact⟨h0,h1.1,h1.2.1,h1.2.2,h2,h3.1,h3.2⟩
structure Z4(p:aQ):Prop where
 n1:1<=p.nodes
 n2:p.nodes<=16
 f0:0<=p.aF
 f3:p.aF*3+1<=p.nodes
 s0:0<=p.aJ
 s1:p.aJ<=137438953472
 j0:0<=p.aC
 j1:p.aC<=137438953472
 d0:0<=p.aH
 d1:p.aH<=137438953472
 r0:1<=p.round
 r1:p.round<=137438953472
 ns:p.ns<=32
 nl:p.nl<=8
 sk:p.aJ/2+p.aC*2+p.aH*2+1<=p.aJ
 slot:∀i,i<p.ns->(0<=p.nd i/\p.nd i<p.nodes)/\0<=p.fr i/\p.fr i<=p.round
 link:∀k,k<p.nl->(0<=p.lf k/\p.lf k<p.nodes)/\(1<=p.lt k/\p.lt k<2^p.n)/\(1<=p.lb k/\p.lb k<=137438953472)/\1<=p.lq k/\p.lq k<=16
theorem aQ.Is.bounds{p:aQ}{I:Int}(h:p.Is 0 I):Z4 p:=by
 unfold aQ.Is lS at h;rcases h with⟨h1,h2,_⟩|⟨h0,e1,i1,e2,i2,e3,i3,F1,F2,F3,R⟩
 ·exact absurd h2.symm h1
 ·have z1:e1=0:=by
   by_cases q:e1=0
   ·exact q
   ·exact absurd (R.1 q).1.symm q
  have z2:e2=0:=by
   by_cases q:e2=0
   ·exact q
   ·exact absurd (R.2.1 z1 q).1.symm q
  subst z1 z2;have g1:∀j,j<p.ns->dH p.nd p.fr p.td p.nodes p.aJ p.round j=0:=by
   rcases F1 with⟨h,_⟩|⟨_,_,_,_,h,_⟩
   ·exact h
   ·exact absurd rfl h
  have g2:∀j,j<p.nl->dC p.lf p.lt p.lb p.lq (fun j=>aW (p.lt j) (p.lf j).toNat) p.nodes (2^p.nodes.toNat) j=0:=by
   rcases F2 with⟨h,_⟩|⟨_,_,_,_,h,_⟩
   ·exact h
   ·exact absurd rfl h
  unfold dJ at h0;by_cases a1:p.nodes<1\/16<p.nodes\/p.aF<0\/p.nodes<p.aF*3+1
  ·rw[kJ a1]at h0;cases h0
  rw[kI a1]at h0;by_cases a2:p.aJ<0\/137438953472<p.aJ\/p.aC<0\/137438953472<p.aC\/p.aH<0\/137438953472<p.aH
  ·rw[kJ a2]at h0;cases h0
  rw[kI a2]at h0;by_cases a3:p.round<1\/137438953472<p.round\/p.frame<1\/137438953472<p.frame
  ·rw[kJ a3]at h0;cases h0
  rw[kI a3]at h0;by_cases a4:32<p.ns\/8<p.nl\/32<p.nw
  ·rw[kJ a4]at h0;cases h0
  rw[kI a4]at h0;by_cases a5:p.aJ<p.aJ/2+p.aC*2+p.aH*2+1
  ·rw[kJ a5]at h0;cases h0
  have hup:=K5 (show 0<=p.aJ by omega) g1;refine⟨od,od,od,od,od,od,od,od,od,od,od,od,od,od,od,fun i hi=>?_,fun k hk=>?_⟩
  ·have:=hup i hi;have:=xN (g1 i hi);exact⟨⟨od,od⟩,od,od⟩
  ·have h:=g2 k hk;unfold dC at h;by_cases b1:p.lf k<0\/p.nodes-1<p.lf k
   ·rw[kJ b1]at h;cases h
   rw[kI b1]at h;by_cases b2:p.lt k<1\/2^p.nodes.toNat-1<p.lt k\/aW (p.lt k) (p.lf k).toNat=true
   ·rw[kJ b2]at h;cases h
   rw[kI b2]at h;by_cases b3:(p.lb k<1\/137438953472<p.lb k)\/p.lq k<1\/16<p.lq k
   ·rw[kJ b3]at h;cases h
   have e:(2:Int)^p.n=2^p.nodes.toNat:=rfl;rw[e];generalize(2:Int)^p.nodes.toNat=PW at *;exact⟨⟨od,od⟩,⟨od,od⟩,⟨od,od⟩,od,od⟩
theorem aLp{w:World}{P:Nat}{id:Int}{n:Nat}{t:Nat->Bool}{g b:Int}{fz:Bool}(h:bJ w P id n (aZ t n) g b fz)(gH bU:Int)(hn:n<=16)(hg0:0<=g)(hg:g<=4611686018427387904)(wT:0<=b)(hb:b<=4611686018427387904):
  Calls prog 173 #[pP P,iI gH,iI bU] w fun e w'=>e=rT (tU #[])/\bJ w' P id n (aZ (heT id n fz gH bU t) n) (heG id n fz gH bU g) (heB id n fz gH bU b) fz/\aU P P w w':=by
 cases q:sK id n fz gH bU
 ·refine(aLq h gH bU q).mono ?_;rintro e w' ⟨rfl,rfl⟩;unfold heG heB;rw[aNr t q,q,kI (fun y=>by cases y.1),kI (fun y=>by cases y.1)];exact⟨rfl,h,aU.refl _ _ _⟩
 ·obtain⟨hf,k,rfl,h1,h2,h3,h4⟩:=R3 q;refine(aHx h k bU hn hf h1 h2 h3 h4 hg0 hg wT hb).mono ?_;rintro e w' ⟨rfl,a,c⟩;unfold heG heB;rw[aGw t q,q];simp only[true_and];rw[hf];exact⟨a,c⟩
structure iH where
 sa:Option Addr
 sc:Nat
 la:Option Addr
 lc:Nat
 wa:Option Addr
 wc:Nat
def aQ.val(p:aQ)(a:iH):Value:=.agg #[iI p.nodes,iI p.aF,iI p.aJ,iI p.aC,iI p.aH,iI p.round,sV a.sa p.ns a.sc,sV a.la p.nl a.lc,iI p.frame,sV a.wa p.nw a.wc]
structure aQ.In(p:aQ)(a:iH)(w:World):Prop where
 iM:dX w a.sa p.ns p.nd p.fr p.td
 aN:vY w a.la p.nl p.lf p.lt p.lb p.lq
 aWh:dX w a.wa p.nw p.wp p.wf p.wt
 ints:∀k,k<p.nl->-9223372036854775808<=p.lt k/\p.lt k<=9223372036854775807
 ls:p.ns<=9223372036854775807
 ll:p.nl<=9223372036854775807
 lw:p.nw<=9223372036854775807
theorem aQ.In.below{p:aQ}{a:iH}{w w':World}(h:p.In a w)(hb:bW w w'):p.In a w':=⟨h.iM.below hb,h.aN.below hb,h.aWh.below hb,h.ints,h.ls,h.ll,h.lw⟩
structure nJ where
 la:Option Addr
 lc:Nat
 ra:Option Addr
 rc:Nat
 da:Option Addr
 dc:Nat
 ma:Option Addr
 mc:Nat
def cT.val(r:cT)(a:nJ):Value:=.agg #[sV a.la r.nL a.lc,sV a.ra r.nR a.rc,sV a.da r.bA.length a.dc,sV a.ma r.bH.length a.mc]
structure cT.In(r:cT)(a:nJ)(w:World):Prop where
 aL5:dX w a.la r.nL r.ls r.lc r.lt
 reads:dX w a.ra r.nR r.rn r.ro r.ri
 bA:bE w a.da r.bA
 bH:bE w a.ma r.bH
 ints:∀x,x<r.nL->-9223372036854775808<=r.lt x/\r.lt x<=9223372036854775807
 lL:r.nL<=9223372036854775807
 lR:r.nR<=9223372036854775807
 lD:r.bA.length<=9223372036854775807
 lM:r.bH.length<=9223372036854775807
theorem cT.In.below{r:cT}{a:nJ}{w w':World}(h:r.In a w)(hb:bW w w'):r.In a w':=⟨h.aL5.below hb,h.reads.below hb,h.bA.below hb,h.bH.below hb,h.ints,h.lL,h.lR,h.lD,h.lM⟩
def cA.put(s:cA)(p:aQ)(k:Nat)(d:ByteArray):cA where
 nodes:=s.nodes
 aN:=fun j=>if j=k then { all:=oY (putK ((s.aN k).all.length-(s.aN k).aP) (p.lq k) d) (s.aN k).all d,aP:=(s.aN k).aP,last:=(s.aN k).last,now:=(s.aN k).now }else s.aN j
 aV:=s.aV
 aR:=s.aR
def cA.putK(s:cA)(p:aQ)(k:Nat)(d:ByteArray):Int:=Go.Proofs.YtknimkfdnanejaaGreatDoor.putK ((s.aN k).all.length-(s.aN k).aP) (p.lq k) d
def cA.recv(s:cA)(k j:Nat):cA where
 nodes:=s.nodes
 aN:=s.aN
 aV:=s.aV
 aR:=fun k' j'=>if k'=k/\j'=j then(s.aR k j).tail else s.aR k' j'
structure bAo(L5:World->List Nat->Nat->aQ->Int->List Int->cA->Int->Nat->Prop):Prop where
 chk:∀(p:aQ)(a:iH)(w:World),p.In a w->∃E I,p.Is E I/\Calls prog 111 #[p.val a] w fun e w'=>∃V,e=rT V/\jK w' V E I/\bW w w'
 ok:∀{w:World}{O:List Nat}{C:Nat}{p:aQ}{fa:Int}{cs:List Int}{s:cA}{rd:Int}{T:Nat},L5 w O C p fa cs s rd T->vX p fa cs/\0<=rd/\rd<=T
 lt:∀{w:World}{O:List Nat}{C:Nat}{p:aQ}{fa:Int}{cs:List Int}{s:cA}{rd:Int}{T:Nat},L5 w O C p fa cs s rd T->∀c,c∈O->c<w.heap.size
 keep:∀{w w':World}{O:List Nat}{C:Nat}{p:aQ}{fa:Int}{cs:List Int}{s:cA}{rd:Int}{T:Nat},L5 w O C p fa cs s rd T->Same O w w'->L5 w' O C p fa cs s rd T
 new:∀(p:aQ)(a:iH)(fa:Int)(ca:Option Addr)(cap:Nat)(cs:List Int)(w:World),p.In a w->bE w ca cs->cs.length<=9223372036854775807->-9223372036854775808<=fa->fa<=9223372036854775807->
  Calls prog 69 #[p.val a,iI fa,sV ca cs.length cap] w fun e w'=>bW w w'/\∃K I,qU p fa cs K I/\((K≠0/\∃E,e=rT (tU #[.pointer none,E])/\jK w' E K I)\/(K=0/\∃O C,e=rT (tU #[pP C,.nilIface])/\L5 w' O C p fa cs cA.start 0 0/\∀c,c∈O->w.heap.size<=c))
 bHr:∀{w:World}{O:List Nat}{C:Nat}{p:aQ}{fa:Int}{cs:List Int}{s:cA}{rd:Int}{T:Nat}(r:cT)(a:nJ),L5 w O C p fa cs s rd T->T<=3000->r.In a w->(∀b off,a.ma=some (aA b off)->0<r.bH.length->b∉O)->
  Calls prog 74 #[pP C,r.val a] w fun e w'=>∃O',aS O O' w w'/\((nY p fa cs r=true/\e=rT (fI 6)/\L5 w' O' C p fa cs s rd T)\/(nY p fa cs r=false/\e=rT (fI 0)/\L5 w' O' C p fa (nZ p fa cs r) (aCe p fa s rd r) (rd+1) (T+1)))
 aO3:∀{w:World}{O:List Nat}{C:Nat}{p:aQ}{fa:Int}{cs:List Int}{s:cA}{rd:Int}{T:Nat}(k:Int)(d:ByteArray),L5 w O C p fa cs s rd T->¬(0<=k/\k<p.nl)->
  Calls prog 71 #[pP C,iI k,sT d] w fun e w'=>e=rT (fI 2)/\bW w w'
 put:∀{w:World}{O:List Nat}{C:Nat}{p:aQ}{fa:Int}{cs:List Int}{s:cA}{rd:Int}{T:Nat}(k:Nat)(d:ByteArray),L5 w O C p fa cs s rd T->T<=3000->k<p.nl->
  Calls prog 71 #[pP C,iI k,sT d] w fun e w'=>e=rT (fI (s.putK p k d))/\∃O',aS O O' w w'/\L5 w' O' C p fa cs (s.put p k d) rd (T+1)
 aIc:∀{w:World}{O:List Nat}{C:Nat}{p:aQ}{fa:Int}{cs:List Int}{s:cA}{rd:Int}{T:Nat}(j k:Int),L5 w O C p fa cs s rd T->¬((0<=j/\j<p.nodes)/\(0<=k/\k<p.nl)/\aW (p.lt k.toNat) j.toNat=true)->
  Calls prog 73 #[pP C,iI j,iI k] w fun e w'=>e=rT (tU #[sT ByteArray.empty,fI 2])/\bW w w'
 recv:∀{w:World}{O:List Nat}{C:Nat}{p:aQ}{fa:Int}{cs:List Int}{s:cA}{rd:Int}{T:Nat}(j k:Nat),L5 w O C p fa cs s rd T->j<p.n->k<p.nl->aW (p.lt k) j=true->
  Calls prog 73 #[pP C,iI j,iI k] w fun e w'=>e=rT (tU #[sT (recvD (s.aR k j)),fI (zH (s.aR k j))])/\∃O',aS O O' w w'/\L5 w' O' C p fa cs (s.recv k j) rd T
 spread:∀{w:World}{O:List Nat}{C:Nat}{p:aQ}{fa:Int}{cs:List Int}{s:cA}{rd:Int}{T:Nat},L5 w O C p fa cs s rd T->
  Calls prog 77 #[pP C] w fun e w'=>e=rT (iI (dA (dW fa cs)))/\bW w w'
 rounds:∀{w:World}{O:List Nat}{C:Nat}{p:aQ}{fa:Int}{cs:List Int}{s:cA}{rd:Int}{T:Nat},L5 w O C p fa cs s rd T->
  Calls prog 75 #[pP C] w fun e w'=>e=rT (iI rd)/\bW w w'
theorem tS(x:Int):(BitVec.ofInt 64 x).toNat=(x%18446744073709551616).toNat:=by rw[BitVec.toNat_ofInt];rfl
theorem aOl(x:Int)(j:Nat):(bits BinOp.and .i64 (x/2^j) 1==1)=aW x j:=by
 have e:bits BinOp.and .i64 (x/2^j) 1=x/2^j%2:=by show IntKind.i64.wrap ((BitVec.ofInt 64 (x/2^j)&&&BitVec.ofInt 64 1).toNat:Int)=_;rw[BitVec.toNat_and,tS,tS];generalize x/2^j=y;have h1:((1:Int)%18446744073709551616).toNat=1:=oe;rw[h1,Nat.and_one_is_mod];have h2:((y%18446744073709551616).toNat%2:Nat)<9223372036854775808:=od;rw[wR _ h2];omega
 rw[e];unfold aW;by_cases h:x/2^j%2=1
 ·rw[h];rfl
 ·rw[kC h];simpa using h
theorem zT(x:Int){j:Nat}(hj:j<=62):(bits BinOp.and .i64 x (2^j) !=0)=aW x j:=by
 have hp:(2:Nat)^j<=2^62:=Nat.pow_le_pow_right oe hj;have hp2:(2:Nat)^62=4611686018427387904:=oe;have hq:(((2:Int)^j)%18446744073709551616).toNat=2^j:=by
  have h:∀T:Nat,T<=4611686018427387904->((T:Int)%18446744073709551616).toNat=T:=fun T h=>by omega
  rw[jE];exact h _ (by rw[<-hp2];exact hp)
 obtain⟨X,hX⟩:∃X:Nat,(x%18446744073709551616).toNat=X:=⟨_,rfl⟩;have hlt:X&&&2^j<=2^j:=Nat.and_le_right;have e:bits BinOp.and .i64 x (2^j)=((X&&&2^j:Nat):Int):=by show IntKind.i64.wrap ((BitVec.ofInt 64 x&&&BitVec.ofInt 64 (2^j)).toNat:Int)=_;rw[BitVec.toNat_and,tS,tS,hq,hX];exact wR _ od
 rw[e];have h1:((((X&&&2^j:Nat):Int)) !=0)=((X&&&2^j) !=0):=by
  cases h:(X&&&2^j) !=0
  ·have:X&&&2^j=0:=by simpa using h
   rw[this];rfl
  ·have:X&&&2^j≠0:=by simpa using h
   simp only[bne_iff_ne,ne_eq];omega
 rw[h1,Z9,Nat.testBit_eq_decide_div_mod_eq];exact zBe
theorem B7(l:List Int):∀x,x<=l.foldl max x/\∀y∈l,y<=l.foldl max x:=by
 induction l with
 |nil=>intro x;exact⟨Int.le_refl _,fun y hy=>(by cases hy)⟩
 |cons a l ih=>
  intro x
  have h:=ih (max x a)
  simp only[List.foldl_cons]
  refine⟨od,fun y hy=>?_⟩
  rcases kN hy with rfl|q
  ·omega
  ·exact h.2 y q
theorem aE2(l:List Int):∀x,l.foldl max x=x\/l.foldl max x∈l:=by
 induction l with
 |nil=>intro x;exact .inl rfl
 |cons a l ih=>
  intro x
  simp only[List.foldl_cons]
  rcases ih (max x a)with h|h
  ·rw[h]
   by_cases q:x<=a
   ·rw[Int.max_eq_right q];exact .inr (kM (.inl rfl))
   ·rw[Int.max_eq_left od];exact .inl rfl
  ·exact .inr (kM (.inr h))
theorem B8(l:List Int):∀x,l.foldl min x<=x/\∀y∈l,l.foldl min x<=y:=by
 induction l with
 |nil=>intro x;exact⟨Int.le_refl _,fun y hy=>(by cases hy)⟩
 |cons a l ih=>
  intro x
  have h:=ih (min x a)
  simp only[List.foldl_cons]
  refine⟨od,fun y hy=>?_⟩
  rcases kN hy with rfl|q
  ·omega
  ·exact h.2 y q
theorem aE3(l:List Int):∀x,l.foldl min x=x\/l.foldl min x∈l:=by
 induction l with
 |nil=>intro x;exact .inl rfl
 |cons a l ih=>
  intro x
  simp only[List.foldl_cons]
  rcases ih (min x a)with h|h
  ·rw[h]
   by_cases q:a<=x
   ·rw[Int.min_eq_right q];exact .inr (kM (.inl rfl))
   ·rw[Int.min_eq_left od];exact .inl rfl
  ·exact .inr (kM (.inr h))
theorem G7{l:List Int}{K:Int}(hK:0<=K):dA l<=K↔∀x∈l,∀y∈l,x-y<=K:=by
 unfold dA;constructor
 ·intro h x hx y hy;have h1:=(B7 l (l.headD 0)).2 x hx;have h2:=(B8 l (l.headD 0)).2 y hy;omega
 ·intro h
  cases l with
  |nil=>simpa using hK
  |cons a l=>
   have hm:(a::l).foldl max ((a::l).headD 0)∈a::l:=by
    rcases aE2 (a::l) ((a::l).headD 0)with q|q
    ·rw[q];exact kM (.inl rfl)
    ·exact q
   have hn:(a::l).foldl min ((a::l).headD 0)∈a::l:=by
    rcases aE3 (a::l) ((a::l).headD 0)with q|q
    ·rw[q];exact kM (.inl rfl)
    ·exact q
   exact h _ hm _ hn
theorem aHq{fa aJ:Int}{cs:List Int}(hK:0<=aJ):dA (dW fa cs)<=aJ↔aNj cs.length (aW fa) aJ (fun i=>cs.getD i 0):=by
 rw[G7 hK];constructor
 ·intro h i j hi oi hj oj;have mem:∀i,i<cs.length->aW fa i=false->cs.getD i 0∈dW fa cs:=fun i hi oi=>List.mem_map.2 ⟨i,List.mem_filter.2 ⟨List.mem_range.2 hi,by simp[oi]⟩,rfl⟩
  exact h _ (mem i hi oi) _ (mem j hj oj)
 ·intro h x hx y hy;obtain⟨i,hi,rfl⟩:=List.mem_map.1 hx;obtain⟨j,hj,rfl⟩:=List.mem_map.1 hy;have hi:=List.mem_filter.1 hi;have hj:=List.mem_filter.1 hj;exact h i j (List.mem_range.1 hi.1) (by simpa using hi.2) (List.mem_range.1 hj.1) (by simpa using hj.2)
theorem aCg(p:aQ)(fa:Int)(cs:List Int)(r:cT):(nZ p fa cs r).length=p.n:=by simp[nZ]
theorem aCf(p:aQ)(fa:Int)(cs:List Int)(r:cT){i:Nat}(h:i<p.n):(nZ p fa cs r).getD i 0=jM p.n p.aF.toNat (aW fa) p.aC p.aH (fun i=>cs.getD i 0) r.reads r.bA i:=by simp[nZ,List.getD,h]
theorem vX.next{p:aQ}{fa:Int}{cs:List Int}(h:vX p fa cs)(r:cT)(hf:nY p fa cs r=false):vX p fa (nZ p fa cs r):=by
 have hb:=h.aI.bounds;refine⟨h.aI,h.f0,h.f1,h.fc,aCg p fa cs r,fun c hc=>?_,?_⟩
 ·obtain⟨i,hi,rfl⟩:=List.mem_map.1 hc;unfold nY gV at hf;rw[List.any_eq_false]at hf;have:=hf i hi;simp only[decide_eq_true_eq]at this;omega
 ·rw[aHq hb.s0,aCg];have hn:=(aHq hb.s0).1 h.bCv;rw[h.len]at hn;have hN:=hn.round (f:=p.aF.toNat) r.reads r.bA h.fc (by have:=hb.f3;have:=hb.f0;have:=hb.n1;unfold aQ.n;omega) hb.j0 hb.d0 (by have:=hb.sk;omega);intro i j hi oi hj oj;show(nZ p fa cs r).getD i 0-(nZ p fa cs r).getD j 0<=p.aJ;rw[aCf p fa cs r hi,aCf p fa cs r hj];exact hN i j hi oi hj oj
structure aWo(L5:World->List Nat->Nat->aQ->Int->List Int->cA->Int->Nat->Prop):Prop where
 aDs:∀{w:World}{O:List Nat}{C:Nat}{p:aQ}{fa:Int}{cs:List Int}{s:cA}{rd:Int}{T:Nat},L5 w O C p fa cs s rd T->
  Calls prog 76 #[pP C] w fun e w'=>∃a cap,e=rT (sV a cs.length cap)/\bE w' a cs/\bW w w'
 zZ:∀{w:World}{O:List Nat}{C:Nat}{p:aQ}{fa:Int}{cs:List Int}{s:cA}{rd:Int}{T:Nat}(j:Nat),L5 w O C p fa cs s rd T->j<p.n->
  Calls prog 78 #[pP C,iI j] w fun e w'=>e=rT (tU #[iI (aZ (s.nodes j).t p.n),.bool (s.nodes j).fz,.nilIface])/\bW w w'
 members_bad:∀{w:World}{O:List Nat}{C:Nat}{p:aQ}{fa:Int}{cs:List Int}{s:cA}{rd:Int}{T:Nat}(j:Int),L5 w O C p fa cs s rd T->¬(0<=j/\j<p.nodes)->
  Calls prog 78 #[pP C,iI j] w fun e w'=>e=rT (tU #[iI 0,.bool false,fI 2])/\bW w w'
theorem aE1(l:List Int):∀x,x<=l.foldl max x:=by
 induction l with
 |nil=>intro x;exact Int.le_refl _
 |cons a l ih=>
  intro x
  have:=ih (max x a)
  simp only[List.foldl_cons]
  omega
theorem aE4(l:List Int):∀x,l.foldl min x<=x:=by
 induction l with
 |nil=>intro x;exact Int.le_refl _
 |cons a l ih=>
  intro x
  have:=ih (min x a)
  simp only[List.foldl_cons]
  omega
theorem T8(l:List Int):0<=dA l:=by have h1:=aE1 l (l.headD 0);have h2:=aE4 l (l.headD 0);unfold dA;omega
theorem aUg(n:Nat)(h:n<=15):1<=(2:Int)^n/\(2:Int)^n<=32768:=zG0
theorem vF(C:Nat)(fa:Int)(j:Nat)(hj:j<=15)(w:World)(hc:w.cell? (aA C 10)=some (iI fa)):
  Calls prog 97 #[pP C,iI j] w fun e w'=>e=rT (.bool (aW fa j))/\∃q,w'=w.drewN q:=by
 have hp:=aUg j hj;have hb:=zT fa (j:=j) od;have hl:C<w.heap.size:=by
  rcases Nat.lt_or_ge C w.heap.size with g|g
  ·exact g
  ·simp[World.cell?,Array.getElem?_eq_none g]at hc
 have e1:wrap64 ((2:Int)^j)=2^j:=by exact zEi
 go_enter func97,ntmps97;exact zDj
theorem G0(x most:Int)(h0:0<=most)(h1:most<=1099511627776)(w:World):
  Calls prog 99 #[iI x,iI most] w fun e w'=>e=rT (iI (cutV x most))/\w'=w:=by
 unfold cutV;by_cases k1:x<most
 ·by_cases k2:-most<x
  ·rw[show max (-most) (min most x)=x by omega];go_enter func99,ntmps99;exact C6
  ·rw[show max (-most) (min most x)=-most by omega];have k2':=kC k2;go_enter func99,ntmps99;exact C6
 ·rw[show max (-most) (min most x)=most by omega];have k1':=kC k1;go_enter func99,ntmps99;go_wp2;all_goals go_ret
  ·exact zIf
  ·obtain rfl:most=0:=by omega
   exact zIf
def yH(l:List Int)(i k:Nat)(n:Int):Prop:=
 0<=n/\(∀a b,a<l.length->b<l.length->(a<i\/(a=i/\b<k))->l.getD a 0-l.getD b 0<=n)/\(n=0\/∃a b,a<l.length/\b<l.length/\l.getD a 0-l.getD b 0=n)
theorem rG{l:List Int}{a:Nat}(h:a<l.length):l.getD a 0∈l:=by simp[List.getD,List.getElem?_eq_getElem h]
theorem yH.step{l:List Int}{i k:Nat}{n:Int}(h:yH l i k n)(hi:i<l.length)(hk:k<l.length):yH l i (k+1) (if n<l.getD i 0-l.getD k 0 then l.getD i 0-l.getD k 0 else n):=by
 obtain⟨h0,h1,h2⟩:=h;split
 ·next q=>
  refine⟨od,fun a b ha hb hab=>?_,.inr ⟨i,k,hi,hk,rfl⟩⟩;by_cases e:a=i/\b=k
  ·rw[e.1,e.2];exact Int.le_refl _
  ·have:=h1 a b ha hb od;omega
 ·next q=>
  refine⟨h0,fun a b ha hb hab=>?_,h2⟩;by_cases e:a=i/\b=k
  ·rw[e.1,e.2];omega
  ·exact h1 a b ha hb od
theorem yH.next{l:List Int}{i:Nat}{n:Int}(h:yH l i l.length n):yH l (i+1) 0 n:=by obtain⟨h0,h1,h2⟩:=h;exact⟨h0,fun a b ha hb hab=>h1 a b ha hb od,h2⟩
theorem yH.whole{l:List Int}{n:Int}(h:yH l l.length 0 n):n=dA l:=by
 obtain⟨h0,h1,h2⟩:=h;have a1:dA l<=n:=(G7 h0).2 fun x hx y hy=>by obtain⟨i,hi,rfl⟩:=List.getElem_of_mem hx;obtain⟨j,hj,rfl⟩:=List.getElem_of_mem hy;have:=h1 i j hi hj (.inl hi);simpa[List.getD,List.getElem?_eq_getElem hi,List.getElem?_eq_getElem hj]using this
 have hp:0<=dA l:=by have g1:=(B7 l (l.headD 0)).1;have g2:=(B8 l (l.headD 0)).1;unfold dA;omega
 rcases h2 with rfl|⟨a,b,ha,hb,e⟩
 ·omega
 ·have:=(G7 hp).1 (Int.le_refl _) _ (rG ha) _ (rG hb);omega
theorem aC2(a:Option Addr)(cap:Nat)(l:List Int)(w:World)(hr:bE w a l)(hn:l.length<=1000)(eE:∀x∈l,-274877906944<=x/\x<=274877906944):
  Calls prog 106 #[sV a l.length cap] w fun e w'=>e=rT (iI (dA l))/\∃q,w'=w.drewN q:=by
 obtain⟨n,hln⟩:∃n,l.length=n:=⟨_,rfl⟩;have HL:Hid (l.length=n):=hln;have HIn:Hid (∀j,j<n->-274877906944<=l.getD j 0/\l.getD j 0<=274877906944):=fun j hj=>eE _ (rG od);have HR:Hid (bE w a l):=hr;rw[hln]at hn⊢;clear eE hr hln;go_enter func106,ntmps106;go_wp2_with fail;go_loopw[3,10] (fun nv t wr=>∃(i:Nat)(N:Int),i<=n/\t=iI i/\nv=iI N/\Hid (yH l i 0 N)/\0<=N/\N<=549755813888/\∃q,wr=w.drewN q) (fun _ t _=>n-(intOf t).toNat);case atStart=>exact⟨0,0,kH _,rfl,rfl,⟨Int.le_refl _,fun a b _ _ h=>absurd h od,.inl rfl⟩,oe,oe,0,rfl⟩
 case round=>
  obtain⟨i,N,hi,rfl,rfl,hS,hN0,hN1,q,rfl⟩:=hrel;by_cases hlt:i<n
  ·have kk:(i:Int)<(n:Int):=by omega
   obtain⟨b,off,rfl,hb,hc⟩:=HR.out Ef;have y0:=hc i ji;have hi1:=HIn.out i hlt;generalize hCI:l.getD i 0=CI at *;have HCI:Hid (l.getD i 0=CI):=hCI;clear hCI;have HC:Hid (∀j,j<l.length->w.cell? (aA b (off+j))=some (iI (l.getD j 0))):=hc;clear hc;go_wp2_with fail;go_loopw[3,16] (fun nv t wr=>∃(k:Nat)(M:Int),k<=n/\t=iI k/\nv=iI M/\Hid (yH l i k M)/\0<=M/\M<=549755813888/\∃q,wr=w.drewN q) (fun _ t _=>n-(intOf t).toNat);case atStart=>exact⟨0,N,kH _,rfl,rfl,hS,hN0,hN1,q,rfl⟩
   case round=>
    clear hS;obtain⟨k,M,hk,rfl,rfl,hS,hM0,hM1,q2,rfl⟩:=hrel;by_cases qF:k<n
    ·have kk2:(k:Int)<(n:Int):=by omega
     have z0:=HC.out k (by rw[HL.out];exact qF);have R4:=HIn.out k qF;have HSt:=hS.out.step ji (by rw[HL.out];exact qF);rw[HCI.out]at HSt;generalize l.getD k 0=CK at *;by_cases hmx:M<CI-CK
     ·rw[kJ hmx]at HSt;exact zE5
     ·rw[kI hmx]at HSt;have bNs:=kC hmx;exact zE5
    ·have M2:k=n:=by omega
     have HS2:Hid (yH l (i+1) 0 M):=by have:=hS.out;rw[M2,<-HL.out]at this;exact this.next
     have kk2:decide (k<n)=false:=kC qF;clear M2 qF hS;go_wp2_with fail;exact⟨⟨i+1,M,od,ow,rfl,HS2,hM0,hM1,_,rfl⟩,ot⟩
  ·have eE:i=n:=by omega
   have HE:Hid (N=dA l):=by have:=hS.out;rw[eE,<-HL.out]at this;exact this.whole
   have kk:decide (i<n)=false:=kC hlt;clear eE hlt hS;go_wp2;go_ret;exact⟨congrArg (fun x=>Ending.returned (iI x)) HE.out,_,rfl⟩
