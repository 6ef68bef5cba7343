import Derived.Test.YtnbomhedoelklaaGreatDoorZT1
import Derived.Test.YtnbomhedoelklaaGreatDoorZW6
namespace Go.Proofs.YtnbomhedoelklaaGreatDoor
open Go.RowKit Go.Proofs.Tryz
set_option maxRecDepth 99999
set_option maxHeartbeats 0
section
variable{a:WT}{b n r:Nat}{v:WB}
section
variable{Y:Sy}{w w' w1 w2:WA}
theorem fY.refl:fY Y w w:=⟨kG _,λ_ _ _ _=>rfl,λ_ _=>rfl,rfl,rfl,rfl⟩
theorem fY.trans(h:fY Y w w1)(k:fY Y w1 w2):fY Y w w2:=by
 refine⟨kH h.size k.size,λb hb hl hc=>?_,λb hb=>?_,k.tape.trans h.tape,k.os.trans h.os,k.out.trans h.out⟩
 .rw[k.oth b hb (kC hl h.size) hc,h.oth b hb hl hc]
 .exact(k.ro b hb).trans (h.ro b hb)
theorem WR.roK(h:WR Y w w')(hb:b<Y.G){c:Array WB}{e:WI}{f:Nat×Nat}(hc:w'.1[b]?=some (.cells c e f)):¬Y.Q.o b/\RoK Y b w.1[b]? w'.1[b]?:=by
 rcases h.ro b hb with h|⟨_,_,_,_,_,_,hu,_⟩
 .exact h
 .rw[hc]at hu;cases hu
theorem WR.roS(h:WR Y w w')(hb:b<Y.G)(hS:Y.S b):¬Y.Q.o b/\RoK Y b w.1[b]? w'.1[b]?:=by
 rcases h.ro b hb with h|⟨_,h,_⟩
 .exact h
 .exact absurd (hS.2 hb) h
theorem WR.roO(h:WR Y w w')(ho:Y.Q.o b):b<Y.G/\RoB Y b w.1[b]? w'.1[b]?:=by
 refine⟨h.oG b ho,?_⟩;rcases h.ro b (h.oG b ho)with⟨h,_⟩|⟨_,h⟩
 .exact absurd ho h
 .exact h
theorem WR.cellsS(h:WR Y w w')(hS:Y.SO b){c:Array WB}{e:WI}{f:Nat×Nat}(hc:w'.1[b]?=some (.cells c e f)):Y.S b:=by
 rcases hS with hS|ho
 .exact hS
 .obtain⟨_,_,_,_,_,_,hu,_⟩:=h.roO ho;rw[hc]at hu;cases hu
theorem WR.scN(h:WR Y w w'){o:Obj}(hb:¬Y.Q.o b)(ho:w'.1[b]?=some o):ScO Y.S Y.Q Y.C o:=(h.sc b o ho).resolve_left hb
theorem WR.scC(h:WR Y w w'){c:Array WB}{e:WI}{f:Nat×Nat}(hc:w'.1[b]?=some (.cells c e f)):∀v∈c,Sc Y.S Y.Q v:=by refine h.scN (λho=>?_) hc;obtain⟨_,_,_,_,_,_,hu,_⟩:=h.roO ho;rw[hc]at hu;cases hu
theorem WR.scG(h:WR Y w w'){o:Obj}(hb:Y.G<=b)(ho:w'.1[b]?=some o):ScO Y.S Y.Q Y.C o:=h.scN (λx=>by have:=h.oG b x;omega) ho
theorem WR.cell(h:WR Y w w')(hS:Y.SO a.block)(hv:w'.cell? a=some v):w.cell? (rA Y.ρ a)=some (rV Y.ρ v)/\Sc Y.S Y.Q v/\(a.block<Y.G->C9 v):=by
 unfold World.cell? at hv⊢;split at hv
 .rename_i c e f hc;split at hv
  .cases hv
  .rename_i hs;have hsc:=h.scC hc;have hm:v∈c:=AS hv;have hl:=(kZ hv).1;by_cases hb:a.block<Y.G
   .obtain⟨c',e',hi,e2,_,hK⟩:=(h.roK hb hc).2;rw[hc]at e2;cases e2;obtain⟨_,e4,f',e1,_⟩:=hK ((h.cellsS hS hc).2 hb);have:(rA Y.ρ a).block=a.block:=h.idG _ hb;rw[this,e1];refine⟨?_,hsc v hm,λ_=>(e4 v hm).2⟩;simp only[rA,hs,Bool.false_eq_true,if_false];rw[hv,(e4 v hm).1]
   .have:=h.own a.block od;rw[hc]at this;simp only[rA,this,AH,rO,hs,Bool.false_eq_true,if_false];refine⟨?_,hsc v hm,λh=>absurd h hb⟩;rw[Array.getElem?_map,hv];rfl
 .cases hv
theorem WR.cellS(h:WR Y w w')(hS:Y.SO a.block)(hv:w'.cell? a=some v):Y.S a.block:=by
 unfold World.cell? at hv;split at hv
 .rename_i c e f hc;exact h.cellsS hS hc
 .cases hv
theorem WR.shape(h:WR Y w w')(hS:Y.S r):w.shape? (Y.ρ r)=w'.shape? r:=by
 unfold World.shape?;by_cases hb:r<Y.G
 .rw[h.idG _ hb];obtain⟨c',e',hi,e2,_,hK⟩:=(h.roS hb hS).2;obtain⟨_,_,f',e1,_⟩:=hK (hS.2 hb);rw[e1,e2]
 .rw[h.own r od]
  cases hc:w'.1[r]? with
  |none=>rfl
  |some o=>cases o<;>simp[rO]
theorem WR.frozen(h:WR Y w w')(hb:Y.G<=a.block):w.frozen? (rA Y.ρ a)=w'.frozen? a:=by
 unfold World.frozen?;have:=h.own a.block hb;simp only[rA,this]
 cases hc:w'.1[a.block]? with
 |none=>rfl
 |some o=>cases o<;>first|rfl|simp[rO]
theorem WR.aMq(h:WR Y w w')(ho:Y.Q.o a.block):w.frozen? (rA Y.ρ a)=false:=by obtain⟨hb,_,_,_,_,_,_,e1,_⟩:=h.roO ho;have:(rA Y.ρ a).block=a.block:=h.idG _ hb;unfold World.frozen?;rw[this,e1];simp
theorem WR.aSs(h:WR Y w w')(hS:Y.SO a.block)(hf:w.frozen? (rA Y.ρ a)=true):w'.frozen? a=true:=by
 by_cases hb:a.block<Y.G
 .have hS:Y.S a.block:=by
   rcases hS with hS|ho
   .exact hS
   .rw[h.aMq ho]at hf;cases hf
  unfold World.frozen? at hf⊢;obtain⟨c',e',hi,e2,_,hK⟩:=(h.roS hb hS).2;obtain⟨_,_,f',e1,e3⟩:=hK (hS.2 hb);have:(rA Y.ρ a).block=a.block:=h.idG _ hb;rw[this,e1]at hf;rw[e2];have ho:(rA Y.ρ a).off=a.off:=rfl;obtain⟨lo,hf'⟩:=f';simp only[ho,AK,decide_eq_true_eq]at hf e3⊢;omega
 .rw[<-h.frozen od];exact hf
theorem WR.bHd(h:WR Y w w')(hv:w'.cell? a=some v)(hz:w'.frozen? a=false):Y.G<=a.block:=by
 refine Nat.le_of_not_lt λhb=>?_;unfold World.cell? at hv;unfold World.frozen? at hz;rcases h.ro _ hb with⟨_,c',e',hi,e2,e3,_⟩|⟨_,_,_,_,_,_,e2,_⟩;rotate_left
 .rw[e2]at hv;cases hv
 rw[e2]at hv hz;simp only at hv hz;split at hv
 .cases hv
 .have:=(kZ hv).1;simp at hz;omega
theorem WR.bA7(h:WR Y w w')(hb:b<Y.G):b<w.1.size:=by have:=h.lt b (kC hb h.gn);rwa [h.idG b hb]at this
theorem WR.put(h:WR Y w w'){o:Obj}(hb:Y.G<=r)(ho:ScO Y.S Y.Q Y.C o){v v':WA}(e':v'={ w' with heap:=w'.1.setIfInBounds r o })(e:v={ w with heap:=w.1.setIfInBounds (Y.ρ r) (rO Y.ρ o) }):WR Y v v'/\fY Y w v:=by
 subst e e';refine⟨⟨h.idG,h.inj,by simpa using h.gn,by simpa using h.nN,by simpa using h.lt,by simpa using h.up,λb hl=>?_,λb hg=>?_,λb x hx=>?_,h.os,h.oG⟩,⟨oe,λb hg hl hc=>?_,λb hl=>?_,rfl,rfl,rfl⟩⟩
 .have e1:Y.ρ r≠b:=λe=>by rw[<-h.idG b hl]at e;have:=h.inj _ _ e;omega
  simp only[Array.getElem?_setIfInBounds,kJ e1,kJ (show r≠b by omega)];exact h.ro b hl
 .simp only[Array.getElem?_setIfInBounds];by_cases e:r=b
  .subst e;simp only[if_true];by_cases hr:r<w'.1.size
   .rw[kK hr,kK (h.lt r hr)];rfl
   .have:=h.up (r-w'.1.size);rw[show w'.1.size+(r-w'.1.size)=r by omega]at this;rw[kJ hr,kJ od];rfl
  .rw[kJ e,kJ (λx=>e (h.inj _ _ x))];exact h.own b hg
 .simp only[Array.getElem?_setIfInBounds]at hx;split at hx
  .split at hx
   .cases hx;exact .inr ho
   .cases hx
  .exact h.sc _ _ hx
 .simp only[Array.getElem?_setIfInBounds];rw[kJ λe=>?_];by_cases hr:r<w'.1.size
  .exact hc ⟨r,hb,kC hr h.nN,e⟩
  .have:=h.up (r-w'.1.size);rw[show w'.1.size+(r-w'.1.size)=r by omega]at this;omega
 .have e1:Y.ρ r≠b:=λe=>by rw[<-h.idG b hl]at e;have:=h.inj _ _ e;omega
  simp only[Array.getElem?_setIfInBounds,kJ e1]
theorem N3{w:WA}{c:Array WB}{e:WI}{f:Nat×Nat}(h:w.1[a.block]?=some (.cells c e f)):w.setCell a v={ w with heap:=w.1.setIfInBounds a.block (.cells (if a.spot.isSome then c else c.setIfInBounds a.off v) e f) }:=by unfold World.setCell;exact zBv
theorem WR.set(h:WR Y w w'){u:WB}(hb:Y.G<=a.block)(hu:w'.cell? a=some u)(hv:Sc Y.S Y.Q v):WR Y (w.setCell (rA Y.ρ a) (rV Y.ρ v)) (w'.setCell a v)/\fY Y w (w.setCell (rA Y.ρ a) (rV Y.ρ v)):=by
 unfold World.cell? at hu;split at hu
 .rename_i c e f hc;have h1:=h.own a.block hb;rw[hc]at h1;simp only[AH,rO]at h1;have h1':w.1[(rA Y.ρ a).block]?=some (.cells (c.map (rV Y.ρ)) e f):=h1;refine h.put hb (o:=.cells (if a.spot.isSome then c else c.setIfInBounds a.off v) e f) ?_ (N3 hc) ?_
  .intro x hx;have hsc:∀v∈c,Sc Y.S Y.Q v:=h.scC hc;split at hx
   .exact hsc x hx
   .rcases Array.mem_or_eq_of_mem_setIfInBounds hx with hx|rfl
    .exact hsc x hx
    .exact hv
  .rw[N3 h1'];have e1:(rA Y.ρ a).spot=a.spot:=rfl;have e2:(rA Y.ρ a).off=a.off:=rfl;have e3:(rA Y.ρ a).block=Y.ρ a.block:=rfl;rw[e1,e2,e3];have:(if a.spot.isSome=true then c.map (rV Y.ρ)else(c.map (rV Y.ρ)).setIfInBounds a.off (rV Y.ρ v))=(if a.spot.isSome=true then c else c.setIfInBounds a.off v).map (rV Y.ρ):=by split<;>simp[Array.map_setIfInBounds]
   rw[this];rfl
 .cases hu
theorem WR.push(h:WR Y w w'){o:Obj}(ho:ScO Y.S Y.Q Y.C o)(hN:w.1.size+1<=Y.ρ Y.N):WR Y { w with heap:=w.1.push (rO Y.ρ o) } { w' with heap:=w'.1.push o }/\fY Y w { w with heap:=w.1.push (rO Y.ρ o) }/\Y.ρ w'.1.size=w.1.size/\Y.S w'.1.size:=by
 have u0:=h.up 0;simp only[Nat.add_zero]at u0;have hgn:=h.gn;have hlt:w'.1.size<Y.N:=by refine Nat.lt_of_le_of_ne h.nN λe=>?_;rw[<-e,u0]at hN;omega
 refine⟨⟨h.idG,h.inj,ol,ol,λb hb=>?_,λi=>?_,λb hl=>?_,λb hg=>?_,λb x hx=>?_,h.os,h.oG⟩,⟨oe,λb hg hl hc=>?_,λb hl=>?_,rfl,rfl,rfl⟩,u0,hlt,λhh=>absurd hh od⟩
 .simp only[Array.size_push]at *;by_cases e:b=w'.1.size
  .subst e;omega
  .have:=h.lt b od;omega
 .simp only[Array.size_push];have:=h.up (1+i);rw[<-Nat.add_assoc]at this;rw[this];omega
 .have l2:=h.bA7 hl;rw[Array.getElem?_push,Array.getElem?_push,kJ od,kJ od];exact h.ro b hl
 .rw[Array.getElem?_push,Array.getElem?_push];by_cases e:b=w'.1.size
  .subst e;rw[kK u0,kK rfl];rfl
  .rw[kJ e,kJ (λx=>e (h.inj _ _ (x.trans u0.symm)))];exact h.own b hg
 .rw[Array.getElem?_push]at hx;split at hx
  .cases hx;exact .inr ho
  .exact h.sc _ _ hx
 .rw[Array.getElem?_push,kJ od]
 .have l2:=h.bA7 hl;rw[Array.getElem?_push,kJ od]
theorem WR.draw(h:WR Y w w')(d d':Nat):WR Y { w with drawn:=d } { w' with drawn:=d' }:=⟨h.idG,h.inj,h.gn,h.nN,h.lt,h.up,h.ro,h.own,h.sc,h.os,h.oG⟩
theorem fY.draw(d:Nat):fY Y w { w with drawn:=d }:=⟨kG _,λ_ _ _ _=>rfl,λ_ _=>rfl,rfl,rfl,rfl⟩
theorem Z7{w:WA}(hn:n≠0){c:Array WB}{e:WI}{lo hi:Nat}(h:w.1[a.block]?=some (.cells c e (lo,hi))):w.freeze a n={ w with heap:=w.1.setIfInBounds a.block (.cells c e (if lo==hi then(a.off,a.off+n)else(min lo a.off,max hi (a.off+n)))) }:=by unfold World.freeze;rw[kJ hn];exact zBv
theorem aKk{h:Array Obj}{f:Obj->Obj}(hf:∀o,h[b]?=some o->f o=o):h.modify b f=h:=by
 apply Array.ext_getElem?;intro i;rw[Array.getElem?_modify];by_cases e:b=i
 .subst e;rw[kK rfl]
  cases hc:h[b]? with
  |none=>rfl
  |some o=>rw[AH,hf o hc]
 .rw[kJ e]
theorem Z6{w:WA}(h:∀c e f,w.1[a.block]?≠some (.cells c e f)):w.freeze a n=w:=by
 unfold World.freeze;split
 .rfl
 .rw[aKk];intro o ho;cases o<;>first|exact absurd ho (h _ _ _)|rfl
theorem WR.freeze(h:WR Y w w')(n:Nat)(hg:Y.G<=a.block):WR Y (w.freeze (rA Y.ρ a) n) (w'.freeze a n)/\fY Y w (w.freeze (rA Y.ρ a) n):=by
 by_cases hn:n=0
 .subst hn;have e1:w.freeze (rA Y.ρ a) 0=w:=by simp[World.freeze]
  have e2:w'.freeze a 0=w':=by simp[World.freeze]
  rw[e1,e2];exact⟨h,fY.refl⟩
 have h1:=h.own a.block hg;by_cases hc:∃c e f,w'.1[a.block]?=some (.cells c e f)
 .obtain⟨c,e,⟨lo,hi⟩,hc⟩:=hc;rw[hc]at h1;simp only[AH,rO]at h1;refine h.put hg (o:=.cells c e (if lo==hi then(a.off,a.off+n)else(min lo a.off,max hi (a.off+n)))) (h.scC hc) (Z7 hn hc) ?_;rw[Z7 (a:=rA Y.ρ a) hn h1];rfl
 .have n1:∀c e f,w'.1[a.block]?≠some (.cells c e f):=λc e f x=>hc ⟨c,e,f,x⟩;have n2:∀c e f,w.1[(rA Y.ρ a).block]?≠some (.cells c e f):=λc e f x=>by
   have x':w.1[Y.ρ a.block]?=some (.cells c e f):=x;rw[h1]at x'
   cases ho:w'.1[a.block]? with
   |none=>rw[ho]at x';cases x'
   |some o=>rw[ho]at x';cases o<;>first|exact n1 _ _ _ ho|(simp[rO]at x')
  rw[Z6 n1,Z6 n2];exact⟨h,fY.refl⟩
end
section
variable(Y:Sy)
def RR{α:Type}(A:α->α->Prop)(m m':Sem α):Prop:=
 ∀(w w':WA),WR Y w w'->(wOf (m.run Y.P w)).1.size<=Y.ρ Y.N->
  Can Y.P m' w' λr' fQ=>∃w1 new,WR Y w1 fQ/\fY Y w w1/\(∀e∈new,Y.Ok e)/\match r' with
   |.ok a'=>∃a,A a a'/\∀es,m.runT Y.P w es=(.ok a w1,es++new)
   |.error v'=>Sc Y.S Y.Q v'/\∀es,m.runT Y.P w es=(.halt (.panic (rV Y.ρ v')) w1,es++new)
def VR(v v':WB):Prop:=v=rV Y.ρ v'/\Sc Y.S Y.Q v'
def AR(a a':WT):Prop:=a=rA Y.ρ a'/\Y.SO a'.block
def BR(r r':Nat):Prop:=r=Y.ρ r'/\Y.S r'
end
section
variable{Y:Sy}{α β:Type}{A:α->α->Prop}{B:β->β->Prop}
theorem jU:∀e∈(#[]:Array Event),Y.Ok e:=by simp
theorem RR.pure{a a':α}(h:A a a'):RR Y A (.pure a) (.pure a'):=by intro w w' hw _;exact⟨w,#[],hw,fY.refl,jU,a,h,λes=>by simp[Sem.runT]⟩
theorem RR.bad{m:Sem α}{h:Halt}(hb:Bad h):RR Y A m (.halt h):=by intro w w' _ _;cases h<;>first|exact hb|exact hb.elim
theorem RR.panic{v':WB}(h:VR Y v v'):RR Y A (.halt (.panic v)) (.halt (.panic v')):=by intro w w' hw _;obtain⟨rfl,h⟩:=h;exact⟨w,#[],hw,fY.refl,jU,h,λes=>by simp[Sem.runT]⟩
theorem aZp{new bCi:Array Event}(h:∀e∈new,Y.Ok e)(k:∀e∈bCi,Y.Ok e):∀e∈new++bCi,Y.Ok e:=λe he=>(Array.mem_append.1 he).elim (h e) (k e)
theorem RR.bind{m m':Sem α}{k k':α->Sem β}(h:RR Y A m m')(hk:∀a a',A a a'->RR Y B (k a) (k' a')):RR Y B (m.bind k) (m'.bind k'):=by
 intro w w' hw hs;have dY:(m.bind k).run Y.P w=match m.run Y.P w with|.ok a w'=>(k a).run Y.P w'|.halt x w'=>.halt x w':=by rw[Sem.run_bind'];cases m.run Y.P w<;>rfl
 refine Can.bind _ _ (Can.mono ?_ _ (h w w' hw ?_))
 .rintro r fQ ⟨w1,new,iM,qU,iU,hr⟩
  cases r with
  |ok a'=>
   obtain⟨a,hA,e⟩:=hr
   have er:m.run Y.P w=.ok a w1:=by rw[<-Sem.runT_fst Y.P m w #[],e]
   rw[dY,er]at hs
   refine Can.mono ?_ _ (hk a a' hA w1 fQ iM hs)
   rintro r2 w2' ⟨w2,bHb,xG,hk2,hn2,pF⟩
   refine⟨w2,new++bHb,xG,qU.trans hk2,aZp iU hn2,?_⟩
   cases r2 with
   |ok b'=>
    obtain⟨b,hb,e2⟩:=pF
    refine⟨b,hb,λes=>?_⟩
    rw[Sem.runT_bind',e,<-Array.append_assoc];exact e2 _
   |error v'=>
    refine⟨pF.1,λes=>?_⟩
    rw[Sem.runT_bind',e,<-Array.append_assoc];exact pF.2 _
  |error v'=>
   obtain⟨h1,e⟩:=hr
   refine⟨w1,new,iM,qU,iU,h1,λes=>?_⟩
   rw[Sem.runT_bind',e]
 .rw[dY]at hs;revert hs
  cases m.run Y.P w with
  |ok a w1=>exact λhs=>kH (aId Y.P (k a) w1) hs
  |halt x w1=>exact λhs=>hs
theorem RR.mono{A':α->α->Prop}{m m':Sem α}(h:RR Y A m m')(hA:∀a a',A a a'->A' a a'):RR Y A' m m':=by
 intro w w' hw hs;refine Can.mono ?_ _ (h w w' hw hs);rintro r fQ ⟨w1,new,iM,qU,iU,hr⟩;refine⟨w1,new,iM,qU,iU,?_⟩
 cases r with
 |ok a'=>obtain⟨a,h1,h2⟩:=hr;exact⟨a,hA _ _ h1,h2⟩
 |error v'=>exact hr
theorem ok_one{e:Event}(h:Y.Ok e):∀x∈#[e],Y.Ok x:=by intro x hx;rw[Array.mem_singleton.1 hx];exact h
theorem WR.aV2{w w':WA}(hw:WR Y w w')(m:Mode)(hm:m=.plain)(hS:Y.S a.block):Y.Ok ⟨.cell (rA Y.ρ a),false,m==.atomic⟩:=by
 subst hm;refine⟨rfl,?_⟩;by_cases hb:a.block<Y.G
 .have e:(rA Y.ρ a).block=a.block:=hw.idG _ hb;exact .inr ⟨by rw[e];exact hb,by rw[e];exact hS.2 hb,rfl⟩
 .exact .inl ⟨a.block,od,hS.1,rfl⟩
theorem aG5(ρ:WN)(v:WB):(rV ρ v).bytes?=v.bytes?:=by cases v<;>simp[rV,Value.bytes?]
theorem N1(P:WJ)(ρ:WN)(c:Array WB)(e:WI):∀f x s,seenCells P (c.map (rV ρ)) e f x s=seenCells P c e f x s
 |0,_,_=>rfl
 |f+1,x,s=>by
  simp only[seenCells];split
  .rfl
  .split
   .rfl
   .split
    .rfl
    .rename_i i t _;rw[Array.getElem?_map]
     cases c[i]? with
     |none=>rfl
     |some v=>
      simp only[AH,aG5]
      cases v.bytes? with
      |none=>rfl
      |some bs=>cases bs<;>simp only[N1 P ρ c e f]
end
end
section
variable{a a' k:WT}{aK7 v:WB}{b r r':Nat}{o o':Obj}
section
variable{Y:Sy}{α:Type}{A:α->α->Prop}{w w':WA}
theorem xY{bs:List UInt8}(h:aK7.ofBytes bs=some v)(ρ:WN)(S:Nat->Prop)(Q:Qs):rV ρ v=v/\Sc S Q v:=by
 cases aK7<;>simp only[Value.ofBytes]at h<;>(repeat' split at h)<;>first
  |(cases h;done)
  |(cases h;exact⟨by simp[rV],jd⟩)
theorem WR.aMi(hw:WR Y w w')(hS:Y.SO b){c:Array WB}{e:WI}{f:Nat×Nat}(h:w'.1[b]?=some (.cells c e f)):∃f',w.1[Y.ρ b]?=some (.cells (c.map (rV Y.ρ)) e f')/\(Y.G<=b->f'=f)/\(b<Y.G->∃hi,f=(0,hi)/\c.size<hi):=by
 replace hS:=hw.cellsS hS h;by_cases hb:b<Y.G
 .obtain⟨c',e',hi,e2,e3,hK⟩:=(hw.roK hb h).2;rw[h]at e2;cases e2;obtain⟨_,e4,f',e1,_⟩:=hK (hS.2 hb);refine⟨f',?_,λh=>absurd h od,λ_=>⟨hi,rfl,e3⟩⟩;rw[hw.idG _ hb,e1];congr 2;conv=>lhs;rw[<-Array.map_id c]
  exact AP λv hv=>(e4 v hv).1.symm
 .have:=hw.own b od;rw[h]at this;exact⟨f,this,λ_=>rfl,λh=>absurd h hb⟩
theorem aAd(hw:WR Y w w')(hS:Y.S b)(h:∀c e f,w'.1[b]?≠some (.cells c e f)):Y.G<=b/\w.1[Y.ρ b]?=w'.1[b]?.map (rO Y.ρ):=by
 have hg:Y.G<=b:=Nat.le_of_not_lt λhb=>by obtain⟨_,c',e',hi,e2,_⟩:=hw.roS hb hS;exact h _ _ _ e2
 exact⟨hg,hw.own b hg⟩
theorem WR.seen(hw:WR Y w w')(hS:Y.SO a.block)(u:WI)(at_:Bool){c:Array WB}{e:WI}{f:Nat×Nat}{first:Nat}{cells:List (Nat×Nat×List UInt8)}(h:w'.seen Y.P a u k at_=.ok (c,e,f,first,aK7,cells)):
  w'.1[a.block]?=some (.cells c e f)/\∃f',w.1[Y.ρ a.block]?=some (.cells (c.map (rV Y.ρ)) e f')/\w.seen Y.P (rA Y.ρ a) u (rA Y.ρ k) at_=.ok (c.map (rV Y.ρ),e,f',first,aK7,cells):=by
 unfold World.seen at h⊢;have ek:(rA Y.ρ k).spot=k.spot:=rfl;have eo:(rA Y.ρ k).off=k.off:=rfl;have ea:(rA Y.ρ a).spot=a.spot:=rfl;have eb:(rA Y.ρ a).off=a.off:=rfl;have ec:(rA Y.ρ a).block=Y.ρ a.block:=rfl;rw[ek,eo,ea,eb,ec];simp only[bind,Except.bind,pure,Except.pure,throwThe,MonadExcept.throw,MonadExceptOf.throw]at h⊢;split at h
 .cases h
 rename_i h0;rw[kJ h0];split at h
 .rename_i lk uU;try rw[uU]
  split at h
  .rename_i sz hsz;try rw[hsz]
   split at h
   .rename_i bt hbt;try rw[hbt]
    split at h
    .rename_i c0 e0 f0 hc;obtain⟨f',h1,_⟩:=hw.aMi hS hc;rw[h1];dsimp only;split at h
     .cases h
     rename_i hs;rw[kJ hs];split at h
     .rename_i b0 hb0;try rw[hb0]
      rw[N1];split at h
      .cases h
      rename_i sc hsc;try rw[hsc]
      refine⟨?_,f',?_⟩
      .rw[hc];(repeat' split at h)<;>cases h<;>rfl
      ·(repeat' split at h)<;>cases h<;>simp_all
     .cases h
    .cases h
   .cases h
  .cases h
 .cases h
theorem WR.view(hw:WR Y w w'){x:WT}{u:WI}(hS:Y.SO a.block)(h:w'.1[a.block]?=some (.view x u)):Y.G<=a.block/\w.1[(rA Y.ρ a).block]?=some (.view (rA Y.ρ x) u)/\Y.SO x.block:=by
 rcases hS with hS|ho
 .obtain⟨h1,h2⟩:=aAd hw hS (by rw[h];simp);rw[h]at h2;exact⟨h1,h2,hw.scG h1 h⟩
 .obtain⟨_,_,_,_,_,_,hu,_⟩:=hw.roO ho;rw[h]at hu;cases hu
theorem WR.aWp(w':WA)(a:WT)(s:String):Bad (w'.noCell a s):=by
 unfold World.noCell;split
 .trivial
 .trivial
 .trivial
theorem WR.aWq{b:Bool}{x:Halt}(h:w'.farLoad Y.P a b=.error x):Bad x:=by unfold World.farLoad at h;exact zEh
theorem WR.aRt{b:Bool}{x:Halt}(h:w'.farStore Y.P a v b=.error x):Bad x:=by unfold World.farStore at h;exact zEh
theorem RR.load(h:AR Y a a'):RR Y (λv v'=>VR Y v v'/\(a'.block<Y.G->C9 v')) (load a) (load a'):=by
 intro w w' hw _;obtain⟨rfl,hS⟩:=h;simp only[Go.load,Can]
 cases hc:w'.cell? a' with
 |some v=>
  obtain⟨h1,h2,h3⟩:=hw.cell hS hc
  refine⟨w,#[_],hw,fY.refl,ok_one (hw.aV2 (a:=a') .plain rfl (hw.cellS hS hc)),rV Y.ρ v,⟨⟨rfl,h2⟩,h3⟩,λes=>?_⟩
  simp only[Sem.runT,h1]
  simp
 |none=>
  cases hf:w'.farLoad Y.P a' (Mode.plain==.atomic)with
  |error x=>exact WR.aWq hf
  |ok r=>
   obtain⟨v,aFj⟩:=r
   unfold World.farLoad at hf
   split at hf
   .rename_i x u hv
    obtain⟨h1,h2,h3⟩:=hw.view hS hv
    split at hf
    .rename_i r hr
     cases hf
     cases hs:w'.seen Y.P x u a' (Mode.plain==.atomic)with
     |error m=>simp only[World.viewLoad,hs,Bind.bind,Except.bind]at hr;cases hr
     |ok q=>
      obtain⟨c,e,f,first,aK7,cells⟩:=q
      obtain⟨k1,f',k2,k3⟩:=hw.seen h3 u _ hs
      simp only[World.viewLoad,hs,Bind.bind,Except.bind,Pure.pure,Except.pure,throwThe,MonadExcept.throw,MonadExceptOf.throw]at hr
      split at hr
      .rename_i v0 hv0
       cases hr
       have hn:w.cell? (rA Y.ρ a')=none:=by unfold World.cell?;rw[h2]
       have hl:w.viewLoad Y.P (rA Y.ρ x) u (rA Y.ρ a') (Mode.plain==.atomic)=.ok (v,cells.map λ(i,_,_)=>{ block:=Y.ρ x.block,off:=i }):=by
        simp only[World.viewLoad,k3,Bind.bind,Except.bind,Pure.pure,Except.pure,hv0]
        rfl
       have hfl:w.farLoad Y.P (rA Y.ρ a') (Mode.plain==.atomic)=.ok (v,cells.map λ(i,_,_)=>{ block:=Y.ρ x.block,off:=i }):=by
        unfold World.farLoad
        rw[h2]
        simp only[hl]
       obtain⟨p1,p2⟩:=xY hv0 Y.ρ Y.S Y.Q
       refine⟨w,((cells.map λ(i,_,_)=>({ block:=Y.ρ x.block,off:=i }:WT)).toArray.map λad=>(⟨.cell ad,false,Mode.plain==.atomic⟩:Event)),hw,fY.refl,?_,v,⟨⟨p1.symm,p2⟩,λhb=>absurd hb od⟩,λes=>?_⟩
       rotate_left
       .simp only[Sem.runT,hn,hfl]
       .intro ev hev
        obtain⟨ad,had,rfl⟩:=Array.mem_map.1 hev
        simp only[List.mem_toArray,List.mem_map]at had
        obtain⟨y,_,rfl⟩:=had
        exact hw.aV2 (a:={ block:=x.block,off:=y.1 }) .plain rfl (hw.cellsS h3 k1)
      .cases hr
    .cases hf
   .cases hf
theorem aKs(ρ:WN)(v:WB)(bs:List UInt8):(rV ρ v).ofBytes bs=v.ofBytes bs:=by cases v<;>simp[rV,Value.ofBytes]
theorem aCc{X:Type}{F F':Array WB->X->Except String (Array WB)}{R:Array WB->Array WB->Prop}(h:∀c c' x d',R c c'->F' c' x=.ok d'->∃d,F c x=.ok d/\R d d'):∀(l:List X)(c c' d':Array WB),R c c'->l.foldlM F' c'=.ok d'->∃d,l.foldlM F c=.ok d/\R d d'
 |[],c,c',d',hr,e=>by cases e;exact⟨c,rfl,hr⟩
 |x::l,c,c',d',hr,e=>by
  rw[List.foldlM_cons]at e⊢
  cases hx:F' c' x with
  |error m=>rw[hx]at e;cases e
  |ok y=>
   rw[hx]at e
   obtain⟨z,hz,hzr⟩:=h c c' x y hr hx
   rw[hz]
   exact aCc h l z y d' hzr e
theorem aJx{X:Type}{F F':Array WB->X->Except String (Array WB)}{R:Array WB->Array WB->Prop}{l:List X}{c c' d':Array WB}{r:Except String (Array WB)}(e:l.foldlM F c=r)(e':l.foldlM F' c'=.ok d')(hr:R c c')(h:∀c c' x d',R c c'->F' c' x=.ok d'->∃d,F c x=.ok d/\R d d'):∃d,r=.ok d/\R d d':=by obtain⟨d,h1,h2⟩:=aCc h l c c' d' hr e';exact⟨d,e.symm.trans h1,h2⟩
theorem WR.viewStore(hw:WR Y w w')(hS:Y.SO a.block)(u:WI)(at_:Bool){fQ:WA}{l:List WT}(h:w'.viewStore Y.P a u k v at_=.ok (fQ,l)):
  ∃w1,w.viewStore Y.P (rA Y.ρ a) u (rA Y.ρ k) (rV Y.ρ v) at_=.ok (w1,l.map (rA Y.ρ))/\WR Y w1 fQ/\fY Y w w1/\(l≠[]->Y.G<=a.block)/\∀x∈l,x.block=a.block:=by
 simp only[World.viewStore,bind,Except.bind,pure,Except.pure,throwThe,MonadExcept.throw,MonadExceptOf.throw]at h⊢;split at h
 .cases h
 rename_i ht;rw[kJ ht];split at h
 .cases h
 rename_i q hs;obtain⟨c,e,f,first,aK7,cells⟩:=q;obtain⟨k1,f',k2,k3⟩:=hw.seen hS u _ hs;rw[k3];dsimp only at h⊢;rw[aG5];split at h
 .rename_i bytes hby;split at h
  .cases h
  rename_i hl;rw[kJ hl];split at h
  .cases h
  rename_i c2 aCe;cases h;have hsc:∀v∈c,Sc Y.S Y.Q v:=hw.scC k1;obtain⟨f2,k4,k5,k6⟩:=hw.aMi hS k1;rw[k2]at k4;obtain rfl:f'=f2:=by simpa using k4
  by_cases hb:a.block<Y.G
  .obtain⟨hi,rfl,hhi⟩:=k6 hb
   cases cells with
   |nil=>
    cases aCe
    have e1:w.1.setIfInBounds (rA Y.ρ a).block (.cells (c.map (rV Y.ρ)) e f')=w.1:=by
     apply Array.ext_getElem?
     intro i
     rw[Array.getElem?_setIfInBounds]
     split
     .rename_i x;subst x
      have:=(kZ k2).1
      rw[kK (show(rA Y.ρ a).block<_ from this)];exact k2.symm
     .rfl
    have e2:w'.1.setIfInBounds a.block (.cells c e (0,hi))=w'.1:=by
     apply Array.ext_getElem?
     intro i
     rw[Array.getElem?_setIfInBounds]
     split
     .rename_i x;subst x
      rw[kK (kZ k1).1,k1]
     .rfl
    refine⟨w,?_,?_,fY.refl,oe,oe⟩
    .simp only[List.foldlM_nil,pure,Except.pure,e1];rfl
    .rw[e2];exact hw
   |cons x l=>
    rw[List.foldlM_cons]at aCe
    simp only[bind,Except.bind]at aCe
    split at aCe
    .cases aCe
    rename_i y hy
    split at hy
    .cases hy
    .split at hy
     .cases hy
     .rename_i hx
      simp only[kI,decide_true,Bool.true_and,decide_eq_true_eq]at hx
      split at hy
      .rename_i old hold
       have:=(kZ hold).1
       omega
      .cases hy
  .have hg:Y.G<=a.block:=by omega
   obtain rfl:=k5 hg;generalize hE:List.foldlM (m:=Except String) _ (c.map (rV Y.ρ)) cells=r;obtain⟨d,rfl,rfl,hd⟩:=aJx (R:=λc c'=>c=c'.map (rV Y.ρ)/\∀v∈c',Sc Y.S Y.Q v) hE aCe ⟨rfl,hsc⟩ (by
    rintro c c' x d' ⟨rfl,hc'⟩ hx
    split at hx
    .cases hx
    rename_i h1
    rw[kJ h1]
    split at hx
    .cases hx
    rename_i h2
    rw[kJ h2]
    split at hx
    .rename_i old hold
     split at hx
     .rename_i new aEf
      cases hx
      have hp:=xY aEf Y.ρ Y.S Y.Q
      refine⟨_,?_,Array.map_setIfInBounds.symm,λv hv=>?_⟩
      .rw[Array.getElem?_map,hold]
       simp only[AH,aKs,aEf]
       rw[hp.1]
      .rcases Array.mem_or_eq_of_mem_setIfInBounds hv with h|rfl
       .exact hc' v h
       .exact hp.2
     .cases hx
    .cases hx)
   obtain⟨q1,q2⟩:=hw.put hg (o:=.cells c2 e f') hd rfl rfl;refine⟨_,?_,q1,q2,λ_=>hg,λx hx=>by obtain⟨y,_,rfl⟩:=List.mem_map.1 hx;rfl⟩;simp only[List.map_map];rfl
 .cases h
theorem WR.aNq(hb:Y.G<=b)(hN:b<Y.N)(a:WT)(ha:a.block=b):Y.Ok ⟨.cell (rA Y.ρ a),true,false⟩:=⟨rfl,.inl ⟨b,hb,hN,by rw[<-ha];rfl⟩⟩
theorem WR.ltN(hw:WR Y w w')(hb:Y.G<=b)(hS:Y.SO b):b<Y.N:=hS.elim (·.1) λho=>absurd (hw.oG b ho) od
theorem RR.store{v':WB}(h:AR Y a a')(hv:VR Y v v'):RR Y (λ_ _=>True) (store a v) (store a' v'):=by
 intro w w' hw _;obtain⟨rfl,hS⟩:=h;obtain⟨rfl,hv⟩:=hv;simp only[Go.store,Can];intro n1 n2
 cases hc:w'.cell? a' with
 |some x=>
  intro hz
  have hg:=hw.bHd hc hz
  obtain⟨h1,_⟩:=hw.cell hS hc
  have hf:w.frozen? (rA Y.ρ a')=false:=(hw.frozen hg).trans hz
  obtain⟨h3,h4⟩:=hw.set hg hc hv
  refine⟨_,#[⟨.cell (rA Y.ρ a'),true,false⟩],h3,h4,ok_one (WR.aNq hg (hw.ltN hg hS) a' rfl),(),trivial,λes=>?_⟩
  cases v'<;>first
   |exact absurd rfl (n1 _)
   |exact absurd rfl (n2 _)
   |(simp only[rV]at *;simp only[Sem.runT,h1,hf];simp;rfl)
 |none=>
  cases hf:w'.farStore Y.P a' v' (Mode.plain==.atomic)with
  |error x=>exact WR.aRt hf
  |ok r=>
   obtain⟨fQ,aFj⟩:=r
   unfold World.farStore at hf
   split at hf
   .rename_i x u hvw
    obtain⟨h1,h2,h3⟩:=hw.view hS hvw
    split at hf
    .rename_i r hr
     cases hf
     obtain⟨w1,e1,e2,e3,e4,e5⟩:=hw.viewStore h3 u _ hr
     have hn:w.cell? (rA Y.ρ a')=none:=by unfold World.cell?;rw[h2]
     have hfl:w.farStore Y.P (rA Y.ρ a') (rV Y.ρ v') (Mode.plain==.atomic)=.ok (w1,aFj.map (rA Y.ρ)):=by
      unfold World.farStore
      rw[h2]
      simp only[e1]
     refine⟨w1,(aFj.map (rA Y.ρ)).toArray.map λad=>(⟨.cell ad,true,Mode.plain==.atomic⟩:Event),e2,e3,?_,(),trivial,λes=>?_⟩
     .intro ev hev
      obtain⟨ad,had,rfl⟩:=Array.mem_map.1 hev
      simp only[List.mem_toArray,List.mem_map]at had
      obtain⟨y,hy,rfl⟩:=had
      exact WR.aNq (e4 (List.ne_nil_of_mem hy)) (hw.ltN (e4 (List.ne_nil_of_mem hy)) h3) y (e5 y hy)
     .cases v'<;>first
       |exact absurd rfl (n1 _)
       |exact absurd rfl (n2 _)
       |(simp only[rV]at *;simp only[Sem.runT,hn,hfl])
    .cases hf
   .cases hf
theorem RR.newObj(h:o=rO Y.ρ o')(ho:ScO Y.S Y.Q Y.C o'):RR Y (BR Y) (newObj o) (newObj o'):=zIb
theorem RR.aYa(h:o=rO Y.ρ o')(ho:ScO Y.S Y.Q Y.C o'):RR Y (λr r'=>BR Y r r'/\Y.G<=r') (Go.newObj o) (Go.newObj o'):=have m80:=0;zIb
theorem RR.shape(h:BR Y r r'):RR Y (λs s'=>s=s') (shape r) (shape r'):=by intro w w' hw _;obtain⟨rfl,hS⟩:=h;exact⟨w,#[],hw,fY.refl,jU,_,hw.shape hS,λes=>by rw[Array.append_empty];rfl⟩
theorem RR.wB(h:AR Y a a'):RR Y (λs s'=>(s=s'/\Y.S a'.block)\/(s'=none/\Y.Q.o a'.block/\∃e n,s=some (e,n)/\n≠0)) (Go.shape a.block) (Go.shape a'.block):=by
 intro w w' hw _;obtain⟨rfl,hS|ho⟩:=h
 .exact⟨w,#[],hw,fY.refl,jU,_,.inl ⟨hw.shape hS,hS⟩,λes=>by rw[Array.append_empty];rfl⟩
 .refine⟨w,#[],hw,fY.refl,jU,w.shape? (Y.ρ a'.block),.inr ⟨?_,ho,?_⟩,λes=>by rw[Array.append_empty];rfl⟩
  .exact zEv
  .obtain⟨hb,_,_,_,c0,e0,_,he,_,hn⟩:=hw.roO ho;refine⟨e0,c0.size,?_,hn⟩;unfold World.shape?;rw[hw.idG _ hb,he]
theorem RR.blind{m:Option (WI×Nat)->Sem α}{k':Obj->Sem α}(h:AR Y a a')(ho:Y.Q.o a'.block)(hk:∀c c0 e e0,c.size=c0->RR Y A (m (some (e0,c0))) (k' (.pending c e))):RR Y A (Go.shape a.block>>=m) (Go.getObj a'.block>>=k'):=by
 intro w w' hw hs;obtain⟨rfl,_⟩:=h;obtain⟨hb,_,c,e,c0,e0,hu,he,hn,_⟩:=hw.roO ho;have e1:w.shape? (rA Y.ρ a').block=some (e0,c0.size):=by show w.shape? (Y.ρ a'.block)=_;unfold World.shape?;rw[hw.idG _ hb,he]
 have C5:(wOf ((m (w.shape? (rA Y.ρ a').block)).run Y.P w)).1.size<=Y.ρ Y.N:=hs;rw[e1]at C5;have:=hk c c0.size e e0 hn w w' hw C5;show Can Y.P (Sem.bind (Go.getObj a'.block) k') w' _;simp only[Go.getObj,Sem.bind,Can,hu];refine Can.mono ?_ _ this;rintro r fQ ⟨w1,new,h1,h2,h3,h4⟩;refine⟨w1,new,h1,h2,h3,?_⟩
 cases r with
 |ok x=>obtain⟨y,hy,h5⟩:=h4;exact⟨y,hy,λes=>by rw[<-h5 es,<-e1];rfl⟩
 |error v=>exact⟨h4.1,λes=>by rw[<-h4.2 es,<-e1];rfl⟩
theorem RR.blind2{m:Option (WI×Nat)->Sem α}{k':Option (WI×Nat)->Sem α}{f:Obj->Sem α}(h:AR Y a a')(hk:Y.S a'.block->∀s,RR Y A (m s) (k' s))(hf:k' none=Go.getObj a'.block>>=f)(ho:∀c c0 e e0,c.size=c0->RR Y A (m (some (e0,c0))) (f (.pending c e))):RR Y A (Go.shape a.block>>=m) (Go.shape a'.block>>=k'):=by
 rcases h.2 with hS|hO
 .refine RR.bind (RR.shape ⟨Ou,hS⟩) ?_;rintro s _ rfl;exact hk hS s
 .intro w w' hw hs;have e1:w'.shape? a'.block=none:=by obtain⟨_,_,_,_,_,_,hu,_⟩:=hw.roO hO;unfold World.shape?;rw[hu]
  show Can Y.P (k' (w'.shape? a'.block)) w' _;rw[e1,hf];exact RR.blind h hO ho w w' hw hs
theorem RR.aJc{m:Sem α}{k':Option (WI×Nat)->Sem α}(ho:Y.Q.o b)(h:RR Y A m (k' none)):RR Y A m (Go.shape b>>=k'):=by
 intro w w' hw hs;have e1:w'.shape? b=none:=by exact zEv
 show Can Y.P (k' (w'.shape? b)) w' _;rw[e1];exact h w w' hw hs
theorem RR.aRv{m:Sem α}{k':Obj->Sem α}(ho:Y.Q.o b)(h:∀c e,RR Y A m (k' (.pending c e))):RR Y A m (Go.getObj b>>=k'):=by intro w w' hw hs;obtain⟨_,_,c,e,_,_,hu,_⟩:=hw.roO ho;have:=h c e w w' hw hs;show Can Y.P (Sem.bind (Go.getObj b) k') w' _;simp only[Go.getObj,Sem.bind,Can,hu];exact this
theorem RR.frozen(h:AR Y a a'):RR Y (λb b'=>(b=true->b'=true)) (frozen a) (frozen a'):=by intro w w' hw _;obtain⟨rfl,hS⟩:=h;exact⟨w,#[],hw,fY.refl,jU,_,hw.aSs hS,λes=>by rw[Array.append_empty];rfl⟩
theorem RR.aSr{x:Bool}(h:AR Y a a')(ho:Y.Q.o a'.block):RR Y (λb b'=>b=true->b'=true) (Go.frozen a) (Sem.pure x):=by intro w w' hw _;obtain⟨rfl,_⟩:=h;refine⟨w,#[],hw,fY.refl,jU,w.frozen? (rA Y.ρ a'),λhb=>?_,λes=>by rw[Array.append_empty];rfl⟩;rw[hw.aMq ho]at hb;cases hb
theorem RR.freeze(h:AR Y a a')(n:Nat)(hr:Y.G<=a'.block):RR Y (λ_ _=>True) (freeze a n) (freeze a' n):=by intro w w' hw _;obtain⟨rfl,hS⟩:=h;obtain⟨h1,h2⟩:=hw.freeze n hr;exact⟨_,#[],h1,h2,jU,(),trivial,λes=>by rw[Array.append_empty];rfl⟩
theorem RR.getObj(h:BR Y r r'):RR Y (λo o'=>o=rO Y.ρ o'/\ScO Y.S Y.Q Y.C o'/\Y.G<=r') (getObj r) (getObj r'):=by
 intro w w' hw _;obtain⟨rfl,hS⟩:=h;simp only[Go.getObj,Can];split
 .trivial
 .rename_i o hn ho;obtain⟨hg,this⟩:=aAd hw (b:=r') hS (by rw[ho];intro c e f x;cases x;exact hn _ _ _ rfl);rw[ho]at this;have hsc:=hw.scG hg ho;refine⟨w,#[⟨.obj (Y.ρ r'),false,false⟩],hw,fY.refl,ok_one ⟨rfl,r',hg,hS.1,rfl⟩,rO Y.ρ o,⟨rfl,hsc,hg⟩,λes=>?_⟩
  cases o<;>first
   |exact absurd rfl (hn _ _ _)
   |exact hsc.elim
   |(simp only[Sem.runT,this,AH,rO];simp[Obj.isChan])
 .trivial
theorem RR.setObj(h:BR Y r r')(ho:o=rO Y.ρ o')(hs:ScO Y.S Y.Q Y.C o'):RR Y (λ_ _=>True) (setObj r o) (setObj r' o'):=by
 intro w w' hw _;obtain⟨rfl,hS⟩:=h;subst ho;simp only[Go.setObj,Can];split
 .trivial
 .rename_i x hn hx;obtain⟨hg,this⟩:=aAd hw (b:=r') hS (by rw[hx];intro c e f y;cases y;exact hn _ _ _ rfl);rw[hx]at this;obtain⟨h1,h2⟩:=hw.put hg hs rfl rfl;have hi:(rO Y.ρ o').isChan=false:=by cases o'<;>first|rfl|exact hs.elim
  refine⟨_,#[⟨.obj (Y.ρ r'),true,false⟩],h1,h2,ok_one ⟨rfl,r',hg,hS.1,rfl⟩,(),trivial,λes=>?_⟩;generalize rO Y.ρ o'=oo at h1 h2 hi⊢
  cases x<;>first
   |exact absurd rfl (hn _ _ _)
   |(simp only[Sem.runT,this,AH,rO,hi];simp)
 .trivial
theorem RR.choose(q:Question):RR Y (λn n'=>n=n') (choose q) (choose q):=by
 intro w w' hw _;simp only[Go.choose,Can];by_cases hf:q.forced=true
 .simp only[hf,if_true];exact⟨w,#[],hw,fY.refl,jU,0,rfl,λes=>by simp[Sem.runT,hf]⟩
 .simp only[hf];exact⟨w.tape w.drawn q,_,#[],hw.draw (w.drawn+1) _,fY.draw _,jU,_,rfl,λes=>by simp[Sem.runT,hf]⟩
theorem RR.lone{m:Sem α}{k':Nat->Sem α}{q:Question}(hq:q.forced=false)(x:Nat)(h:RR Y A m (k' (q.cut x))):RR Y A m ((Go.choose q).bind k'):=by intro w w' hw hs;simp only[Go.choose,Can,Sem.bind,hq];exact⟨x,h w _ (hw.draw w.drawn _) hs⟩
theorem RR.program:RR Y (λp p'=>p=Y.P/\p'=Y.P) program program:=by intro w w' hw _;exact⟨w,#[],hw,fY.refl,jU,Y.P,⟨rfl,rfl⟩,λes=>by rw[Array.append_empty];rfl⟩
theorem RR.bCe:RR Y (λ_ _=>True) (mark .noRoom) (mark .noRoom):=by intro w w' hw _;exact⟨w,#[⟨.mark .noRoom,false,true⟩],hw,fY.refl,ok_one trivial,(),trivial,λes=>by rw[<-Array.push_eq_append];rfl⟩
theorem RR.bCd(f:FuncId):RR Y (λ_ _=>True) (mark (.extern f)) (mark (.extern f)):=by intro w w' hw _;exact⟨w,#[⟨.mark (.extern f),false,true⟩],hw,fY.refl,ok_one trivial,(),trivial,λes=>by rw[<-Array.push_eq_append];rfl⟩
theorem RR.env:RR Y (λr r'=>r=r') (sys .env) (sys .env):=by
 intro w w' hw _;show(∀t,_)/\_;refine⟨λt=>rfl,?_⟩;show ∃w1 new,_;refine⟨w,#[⟨.output,true,false⟩],hw,fY.refl,ok_one trivial,.strings w.os.env,?_,λes=>?_⟩
 .show SysRet.strings w.os.env=SysRet.strings w'.os.env;rw[hw.os]
 .rw[<-Array.push_eq_append];rfl
end
end
section
variable{c f:Int}{m:Nat}{row:List Int}
def fX(m:Nat)(c:Int)(row:List Int)(f:Int):Int:=if row.length≠m then 1 else if far c=true then 2 else eU row f
def rJ(m:Nat)(c:Int)(row:List Int)(f:Int):Int:=if fX m c row f=0 then fU row f else 0
theorem J0(h:row.length≠m):fX m c row f=1:=by unfold fX;rw[kK h]
theorem J3(h:row.length=m)(h2:far c=true):fX m c row f=2:=by unfold fX;rw[kJ (by simp[h]),kK h2]
theorem wE(h:row.length=m)(h2:far c=false):fX m c row f=eU row f:=by unfold fX;rw[kJ (by simp[h]),kJ (by simp[h2])]
theorem P0(h:fX m c row f≠0):rJ m c row f=0:=by unfold rJ;rw[kJ h]
theorem aLu(h:fX m c row f=0):rJ m c row f=fU row f:=by unfold rJ;rw[kK h]
theorem aFe(h:fX m c row f=0):row.length=m/\far c=false/\eU row f=0:=by
 by_cases h1:row.length=m
 .cases h2:far c
  .rw[wE h1 h2]at h;exact⟨h1,rfl,h⟩
  .rw[J3 h1 h2]at h;cases h
 .rw[J0 h1]at h;cases h
theorem aHf{l:List Int}(h:eU l f=0):0<=f/\2*f+1<=(l.length:Int)/\l.any far=false:=by
 by_cases h1:f<0\/(l.length:Int)<2*f+1
 .rw[aA9 h1]at h;cases h
 .cases h2:l.any far
  .exact⟨od,od,rfl⟩
  .rw[aAa h1 h2]at h;cases h
theorem wU(l:List Int)(f:Int):-1099511627776<=fU l f/\fU l f<=1099511627776:=by
 by_cases h:eU l f=0
 .obtain⟨h1,h2,h3⟩:=aHf h;rw[wV h];have a:=U3 h3 (k:=f.toNat) od;have b:=U3 h3 (k:=l.length-1-f.toNat) od;unfold xU;omega
 .rw[tX h];omega
def aJ7(w:WA)(a:Option WT)(rows:List (List Int)):Prop:=
 0<rows.length->∃b off,a=some (aA b off)/\b<w.1.size/\∀j,j<rows.length->∃ra cap,w.cell? (aA b (off+j))=some (.slice ra (rows.getD j []).length cap)/\bI w ra (rows.getD j [])
def uK(cs:List Int)(rows:List (List Int))(f:Int)(k:Nat):List Int:=(List.range k).map λj=>cs.getD j 0+fU (rows.getD j []) f
theorem aLm(cs:List Int)(rows:List (List Int))(f:Int)(k:Nat):uK cs rows f (k+1)=uK cs rows f k++[cs.getD k 0+fU (rows.getD k []) f]:=by simp[uK,List.range_succ]
theorem aR3(cs:List Int)(rows:List (List Int))(f:Int)(k:Nat):(uK cs rows f k).length=k:=by simp[uK]
end
section
variable{a a':WT}{c c':Array WB}{v v':WB}
theorem aAk{ρ:WN}:∀{v:WB},Sc Z0 Q0 v->rV ρ v=v
 |.pointer none,_=>by simp[rV]
 |.pointer (some a),h=>by simp only[Sc]at h;exact(h a rfl).elim False.elim False.elim
 |.slice none _ _,_=>by simp[rV]
 |.slice (some a) _ _,h=>by simp only[Sc]at h;exact(h a rfl).elim False.elim False.elim
 |.map none,_=>by simp[rV]
 |.map (some a),h=>by simp only[Sc]at h;exact(h a rfl).elim
 |.chan none,_=>by simp[rV]
 |.chan (some a),h=>by simp only[Sc]at h;exact(h a rfl).elim
 |.func fn first cap,h=>by
  simp only[Sc]at h
  have h1:first.map (rV ρ)=first:=by
   conv=>rhs;rw[<-Array.map_id first]
   exact AP λv hv=>aAk (h.2.1 v hv)
  have h2:cap.map (rV ρ)=cap:=by
   conv=>rhs;rw[<-Array.map_id cap]
   exact AP λv hv=>aAk (h.2.2 v hv)
  simp only[rV,h1,h2]
  cases fn with
  |yield l=>exact h.1.1.elim
  |_=>rfl
 |.iface _ v,h=>by simp only[Sc]at h;simp only[rV,aAk h]
 |.agg cs,h=>by
  simp only[Sc]at h
  have h1:cs.map (rV ρ)=cs:=by
   conv=>rhs;rw[<-Array.map_id cs]
   exact AP λv hv=>aAk (h v hv)
  simp only[rV,h1]
 |.tuple cs,h=>by
  simp only[Sc]at h
  have h1:cs.map (rV ρ)=cs:=by
   conv=>rhs;rw[<-Array.map_id cs]
   exact AP λv hv=>aAk (h v hv)
  simp only[rV,h1]
 |.bool _,_|.int _ _,_|.float _ _,_|.complex _ _ _,_|.string _,_|.nilFunc,_|.nilIface,_=>by simp[rV]
def Zs(P:WJ):Prop:=∀t i v,P.info? t=some i->i.zero=some v->Sc Z0 Q0 v
section
variable(Y:Sy)
def OR(a a':Option WT):Prop:=a=a'.map (rA Y.ρ)/\∀x,a'=some x->Y.SO x.block
def dF(c c':Array WB):Prop:=c=c'.map (rV Y.ρ)/\∀v∈c',Sc Y.S Y.Q v
end
section
variable{Y:Sy}{α β:Type}{A:α->α->Prop}{B:β->β->Prop}
theorem RR.AF{m m':Sem α}{k k':α->Sem β}(h:RR Y A m m')(hk:∀a a',A a a'->RR Y B (k a) (k' a')):RR Y B (m>>=k) (m'>>=k'):=RR.bind h hk
theorem RR.AG{a a':α}(h:A a a'):RR Y A (Pure.pure a) (Pure.pure a'):=RR.pure h
theorem RR.stuck{m:Sem α}(s:String):RR Y A m (stuck s):=RR.bad trivial
theorem RR.dE{m:Sem α}(u:Unsupported):RR Y A m (unsupported u):=RR.bad aC2
theorem RR.goPanic(h:VR Y v v'):RR Y A (goPanic v) (goPanic v'):=RR.panic h
theorem RR.typeInfo(t:WI):RR Y (λi i'=>i=i'/\Y.P.info? t=some i') (typeInfo t) (typeInfo t):=zDd
theorem RR.underlying(t:WI):RR Y (λd d'=>d=d'/\Y.P.underlying t=some d') (underlying t) (underlying t):=zDd
theorem RR.sizeOf(t:WI):RR Y (λn n'=>n=n') (sizeOf t) (sizeOf t):=by refine RR.AF (RR.typeInfo t) ?_;rintro i i' ⟨rfl,_⟩;exact zC0
theorem RR.isAgg(t:WI):RR Y (λn n'=>n=n') (isAgg t) (isAgg t):=by refine RR.AF (RR.underlying t) ?_;rintro i i' ⟨rfl,_⟩;split<;>exact RR.AG rfl
theorem RR.elemOf(t:WI):RR Y (λn n'=>n=n') (elemOf t) (elemOf t):=by
 refine RR.AF (RR.underlying t) ?_;rintro i i' ⟨rfl,_⟩;split
 .exact zC0
 .exact J7
theorem RR.typeStr(t:WI):RR Y (λn n'=>n=n') (typeStr t) (typeStr t):=by
 refine RR.AF (RR.typeInfo t) ?_;rintro i i' ⟨rfl,_⟩;dsimp only;split
 .exact zDt
 .exact zC0
theorem VR.zero(h:Sc Z0 Q0 v):VR Y v v:=⟨(aAk h).symm,h.any⟩
theorem RR.zeroValue(hz:Zs Y.P)(t:WI):RR Y (λv v'=>v=v'/\Sc Z0 Q0 v') (zeroValue t) (zeroValue t):=by
 refine RR.AF (RR.typeInfo t) ?_;rintro i i' ⟨rfl,h⟩;split
 .rename_i v hv;exact RR.AG ⟨rfl,hz _ _ _ h hv⟩
 .exact zDt
theorem aUv(ρ:WN)(a:WT)(n:Nat):(rA ρ a).add n=rA ρ (a.add n):=by unfold Addr.add rA;split<;>rfl
theorem add_block(a:WT)(n:Nat):(a.add n).block=a.block:=by unfold Addr.add;split<;>rfl
theorem AR.add(h:AR Y a a')(n:Nat):AR Y (a.add n) (a'.add n):=⟨by rw[h.1,aUv],by rw[add_block];exact h.2⟩
theorem RR.aN0(h:AR Y a a'):RR Y (VR Y) (Go.load a) (Go.load a'):=(RR.load h).mono λ_ _ x=>x.1
theorem RR.loadCellsFrom(h:AR Y a a'):∀(n i:Nat){c c':Array WB},dF Y c c'->RR Y (dF Y) (loadCellsFrom a i n c) (loadCellsFrom a' i n c')
 |0,_,_,_,hc=>RR.AG hc
 |n+1,i,c,c',hc=>by
  refine RR.AF (RR.aN0 (h.add _)) ?_;rintro v v' ⟨rfl,hv⟩;refine RR.loadCellsFrom h n (i+1) ⟨by rw[hc.1];simp,?_⟩;intro x hx;rcases Array.mem_push.1 hx with hx|rfl
  .exact hc.2 x hx
  .exact hv
theorem dF.nil:dF Y #[] #[]:=⟨oe,oe⟩
theorem RR.loadCells(h:AR Y a a')(n:Nat):RR Y (dF Y) (loadCells a n) (loadCells a' n):=RR.loadCellsFrom h n 0 dF.nil
theorem RR.storeCells(h:AR Y a a'):∀(l:List WB)(i:Nat),(∀v∈l,Sc Y.S Y.Q v)->RR Y (λ_ _=>True) (storeCells a (l.map (rV Y.ρ)) i) (storeCells a' l i)
 |[],_,_=>RR.AG trivial
 |v::l,i,hl=>by refine RR.AF (RR.store (h.add _) ⟨rfl,hl v oe⟩) ?_;rintro _ _ _;exact RR.storeCells h l (i+1) λx hx=>hl x o6
theorem dF.agg(h:dF Y c c'):VR Y (.agg c) (.agg c'):=⟨jb,jo⟩
theorem dF.tuple(h:dF Y c c'):VR Y (.tuple c) (.tuple c'):=⟨jb,jo⟩
theorem VR.cells(h:VR Y v v'):dF Y v.cells v'.cells:=by
 obtain⟨rfl,h⟩:=h
 cases v'<;>first
  |(refine⟨by simp[rV,Value.cells],?_⟩;simp only[Sc]at h;simpa[Value.cells]using h)
  |(refine⟨by simp[rV,Value.cells],?_⟩;intro x hx;simp only[Value.cells,Array.mem_singleton]at hx;subst hx;exact h)
theorem RR.loadVar(t:WI)(h:AR Y a a'):RR Y (VR Y) (loadVar t a) (loadVar t a'):=by
 refine RR.AF (RR.isAgg t) ?_;rintro b b' rfl
 cases b with
 |true=>
  refine RR.AF (RR.sizeOf t) ?_
  rintro n n' rfl
  refine RR.AF (RR.loadCells h n) ?_
  exact λc c' hc=>RR.AG hc.agg
 |false=>exact RR.aN0 h
theorem RR.storeVar(t:WI)(h:AR Y a a')(hv:VR Y v v'):RR Y (λ_ _=>True) (storeVar t a v) (storeVar t a' v'):=by
 have hc:=hv.cells;refine RR.AF (RR.sizeOf t) ?_;rintro n n' rfl;have hs:v.cells.size=v'.cells.size:=by rw[hc.1];simp
 dsimp only;rw[hs];split
 .exact RR.AF (A:=λ_ _=>True) (RR.stuck _) λ_ _ _=>by exact zD1
 .exact zD1
theorem RR.newRow(e:WI)(h:dF Y c c'):RR Y (AR Y) (newRow e c) (newRow e c'):=by refine RR.AF (RR.newObj (o':=.cells c' e (0,0)) Ou h.2) ?_;rintro r r' ⟨rfl,hr⟩;exact RR.AG ⟨rfl,.inl hr⟩
theorem RR.aYb(e:WI)(h:dF Y c c'):RR Y (λa a'=>AR Y a a'/\Y.S a'.block/\Y.G<=a'.block) (Go.newRow e c) (Go.newRow e c'):=by refine RR.AF (RR.aYa (o':=.cells c' e (0,0)) Ou h.2) ?_;rintro r r' ⟨⟨rfl,hr⟩,hg⟩;exact RR.AG ⟨⟨rfl,.inl hr⟩,hr,hg⟩
theorem RR.newVar(t:WI)(h:VR Y v v'):RR Y (AR Y) (newVar t v) (newVar t v'):=RR.newRow t h.cells
theorem AR.ptr(h:AR Y a a'):VR Y (.pointer (some a)) (.pointer (some a')):=⟨jb,by simp only[Sc];rintro x ⟨⟩;exact h.2⟩
theorem mem_extract{i j:Nat}(hv:v∈c.extract i j):v∈c:=by obtain⟨k,hk,e⟩:=Array.mem_iff_getElem.1 hv;rw[Array.getElem_extract]at e;rw[<-e];exact Array.getElem_mem _
theorem dF.at(h:dF Y c c')(i:Nat):c[i]?=c'[i]?.map (rV Y.ρ)/\∀v,c'[i]?=some v->Sc Y.S Y.Q v:=⟨by rw[h.1,Array.getElem?_map],λv hv=>h.2 v (AS hv)⟩
theorem RR.part(t:WI)(h:dF Y c c')(off:Nat):RR Y (VR Y) (part t c off) (part t c' off):=by
 refine RR.AF (RR.isAgg t) ?_;rintro b b' rfl
 cases b with
 |true=>
  refine RR.AF (RR.sizeOf t) ?_
  rintro n n' rfl
  refine RR.AG (dF.agg ⟨jh,λv hv=>h.2 v ?_⟩)
  exact mem_extract hv
 |false=>
  obtain⟨h1,h2⟩:=h.at off
  simp only[Bool.false_eq_true,if_false]
  rw[h1]
  cases hc:c'[off]? with
  |none=>exact RR.stuck _
  |some v=>exact RR.AG ⟨rfl,h2 v hc⟩
theorem VR.lit(h:Sc Z0 Q0 v:=by simp[Sc]):VR Y v v:=VR.zero h
theorem VR.lits(h:∀v∈c,VR Y v v):dF Y c c:=⟨by
 conv=>lhs;rw[<-Array.map_id c]
 exact AP λv hv=>(h v hv).1,λv hv=>(h v hv).2⟩
theorem VR.iface{t:WI}(h:VR Y v v'):VR Y (.iface t v) (.iface t v'):=⟨jb,jo⟩
theorem dF.push(h:dF Y c c')(hv:VR Y v v'):dF Y (c.push v) (c'.push v'):=⟨by rw[h.1,hv.1];simp,λx hx=>by
 rcases Array.mem_push.1 hx with hx|rfl
 .exact h.2 x hx
 .exact hv.2⟩
theorem dF.append{d d':Array WB}(h:dF Y c c')(k:dF Y d d'):dF Y (c++d) (c'++d'):=⟨by rw[h.1,k.1];simp,λx hx=>by
 rcases Array.mem_append.1 hx with hx|hx
 .exact h.2 x hx
 .exact k.2 x hx⟩
theorem dF.extract(h:dF Y c c')(i j:Nat):dF Y (c.extract i j) (c'.extract i j):=⟨jh,λ_ hx=>h.2 _ (mem_extract hx)⟩
theorem dF.one(h:VR Y v v'):dF Y #[v] #[v']:=dF.nil.push h
theorem RR.asIntOf(h:VR Y v v'):RR Y (λx x'=>x=x') (asIntOf v) (asIntOf v'):=by
 obtain⟨rfl,_⟩:=h;cases v'<;>simp only[rV,Go.asIntOf];case int=>exact RR.AG rfl
 case pointer a _=>cases a<;>first|exact RR.dE _|exact RR.stuck _
 all_goals exact RR.stuck _
theorem RR.asInt(h:VR Y v v'):RR Y (λx x'=>x=x') (asInt v) (asInt v'):=by refine RR.AF (RR.asIntOf h) ?_;rintro x x' rfl;exact zC0
theorem RR.asBool(h:VR Y v v'):RR Y (λx x'=>x=x') (asBool v) (asBool v'):=by
 obtain⟨rfl,_⟩:=h;cases v'<;>simp only[rV,Go.asBool];case bool=>exact RR.AG rfl
 all_goals exact RR.stuck _
theorem RR.runtimePanic(e:RuntimeError)(hS:Y.S Y.P.globals.size)(hI:Y.ρ Y.P.globals.size=Y.P.globals.size):RR Y A (runtimePanic e) (runtimePanic e):=by
 have hh:∀t,VR Y (typeHandle Y.P t) (typeHandle Y.P t):=λt=>⟨by simp[typeHandle,rV,rA,hI],by simp only[typeHandle,Sc];rintro x ⟨⟩;exact .inl hS⟩;have hn:VR Y (.pointer none) (.pointer none):=VR.lit;have ho:∀t:Option WI,VR Y (match t with|some t=>typeHandle Y.P t|none=>.pointer none) (match t with|some t=>typeHandle Y.P t|none=>.pointer none):=λt=>by cases t<;>first|exact hn|exact hh _
 refine RR.AF RR.program ?_;rintro p p' ⟨rfl,rfl⟩;cases e<;>dsimp only;case typeAssertion i c a m=>refine RR.AF (RR.elemOf _) ?_;rintro t t' rfl;refine RR.AF (RR.newVar t (dF.agg ((((dF.nil.push (ho i)).push (ho c)).push (hh a)).push (VR.lit (v:=strVal m) (by simp[strVal,Sc]))))) ?_;exact λx x' h=>RR.goPanic h.ptr.iface
 case panicNil=>refine RR.AF (RR.elemOf _) ?_;rintro t t' rfl;refine RR.AF (RR.newVar t (dF.agg dF.nil)) ?_;exact λx x' h=>RR.goPanic h.ptr.iface
 case unhashable t=>exact RR.goPanic (VR.iface (dF.agg (dF.one (hh t))))
 all_goals exact RR.goPanic (VR.iface (VR.lit (by simp[Sc,strVal])))
end
end
theorem aK0{w w':WA}{row:Option Nat}(h:w.grownBy w' row){a:WT}{v:WB}(hc:w.cell? a=some v)(hr:row≠some a.block):w'.cell? a=some v:=
 (jC (w:=w) (h.block a.block (lt_of_cell hc) (λe=>hr e.symm))).trans hc
theorem aRd(base:Nat)(v0:WB)(xs:List Int)(b cap:Nat)(L:List Int)(w:WA)(cP:w.ownsRow base 5 1 v0 xs.length (xs.map (Value.int .u8)))
  (hc:∀j (h:j<L.length),w.cell? (aA b j)=some (iI L[j]))(hL:∀x∈L,0<=x/\x<=1099511627776)(hb:v0.ownBlock≠some b)(d8:base<=w.1.size)(hlen:xs.length<=10000)(hLl:L.length<=100):
  Calls prog 100 #[v0,sL b L.length cap] w λev w'=>∃v',ev=rT v'/\w'.ownsRow base 5 1 v' (xs++eY L L.length).length ((xs++eY L L.length).map (Value.int .u8))/\Below base w w'/\w.1.size<=w'.1.size:=by
 obtain⟨i1,hj,hy0,hy1,hy2⟩:=info_parts Tryz.infoByte;have HC:Hid (∀j (h:j<L.length),w.cell? (aA b j)=some (iI L[j])):=hc;have HL:Hid (∀x∈L,0<=x/\x<=1099511627776):=hL;clear hc hL;obtain⟨n,hn⟩:∃n,L.length=n:=⟨_,rfl⟩;rw[hn]at hLl;have HN:Hid (L.length=n):=hn;rw[hn];clear hn;go_enter func100,ntmps100;go_wp2;go_loopw[0,9] (λv t wr=>∃k:Nat,k<=n/\t=iI k/\Hid (wr.ownsRow base 5 1 v (xs++eY L k).length ((xs++eY L k).map (Value.int .u8)))/\Hid (v.ownBlock≠some b)/\Hid (∀j (h:j<L.length),wr.cell? (aA b j)=some (iI L[j]))/\Below base w wr) (λ_ t _=>n-(intOf t).toNat);case atStart=>exact⟨0,kI _,rfl,by simpa[eY,Hid]using cP,hb,HC.out,jD _ _⟩
 case round=>
  obtain⟨k,hk,rfl,ho,hbk,wR,eG⟩:=hrel;by_cases hlt:k<n
  .have hkL:k<L.length:=by rw[HN.out];exact hlt
   obtain⟨x,hx⟩:∃x,x=L[k]:=⟨_,rfl⟩;have hxb:=HL.out x (by rw[hx];exact List.getElem_mem hkL);have y0:wr.cell? (aA b k)=some (iI x):=by rw[hx];exact wR.out k hkL
   obtain⟨m,hm⟩:=Int.eq_ofNat_of_zero_le hxb.1;have hm2:m<=1099511627776:=od;have hm3:(L[k]).toNat=m:=od;have HM:Hid ((L[k]).toNat=m):=hm3;subst hm;clear hx hm3 hxb;have hwr:b<wr.1.size:=lt_of_cell y0;go_wp2_with fail;rename WA=>wq
   go_loopw[0,6] (λv t wv=>∃(j q:Nat)(dn:List Int),j<=5/\Hid (q<128^(j+1))/\q<=1099511627776/\t=iI q/\Hid (dn++uS j q=uS 5 m)/\Hid (wv.ownsRow base 5 1 v ((xs++eY L k)++dn).length (((xs++eY L k)++dn).map (Value.int .u8)))/\Hid (v.ownBlock≠some b)/\Hid (∀j (h:j<L.length),wv.cell? (aA b j)=some (iI L[j]))/\Below base w wv) (λ_ t _=>(intOf t).toNat);case atStart=>exact⟨5,m,[],od,(by show m<128^6;omega),hm2,rfl,rfl,by simpa using ho,hbk,wR,eG⟩
   case round=>
    clear ho hbk wR eG y0 hwr;obtain⟨j,q,dn,hj5,hq1,hq2,rfl,hdn,ho,hbk,wR,eG⟩:=hrel;by_cases hbig:128<=q
    .have h1:(128:Int)<=(q:Int):=by omega
     have h2:(q:Int)<=1099511627776:=od;have hjp:1<=j:=by
      rcases Nat.eq_zero_or_pos j with e|e
      .subst e;have:=hq1.out;simp at this;omega
      .exact e
     obtain⟨j',rfl⟩:∃j',j=j'+1:=⟨j-1,od⟩;have HNB:Hid (uS (j'+1) q=((q%128:Nat)+128:Int)::uS j' (q/128)):=by show _=_;simp only[uS];rw[kJ od]
     have hQ:Hid (q/128<128^(j'+1)):=by show _<_;rw[Nat.div_lt_iff_lt_mul og];have:=hq1.out;rw[Nat.pow_succ]at this;exact this
     exact zGz
    .have h1:decide ((128:Int)<=(q:Int))=false:=kD od;have h2:(q:Int)<128:=od;have HNB:Hid (uS j q=[(q:Int)]):=by
      show _=_
      cases j with
      |zero=>simp only[uS]
      |succ j=>simp only[uS];rw[kK od]
     clear hbig;have jA1:=0;exact zGz
  .have hkn:k=n:=by omega
   subst hkn;go_wp2;go_ret;exact⟨_,rfl,ho.out,eG,eG.size⟩
def bytesOf(L:List Int):List Int:=L.flatMap λx=>uS 5 x.toNat
theorem K7(L:List Int):eY L L.length=bytesOf L:=by simp[eY,bytesOf]
theorem jK(A B:List Int):bytesOf (A++B)=bytesOf A++bytesOf B:=by simp[bytesOf]
theorem gE(L:List Int):(bytesOf L).length<=6*L.length:=by rw[<-K7];exact K8 L _ (kG _)
theorem oE(base:Nat)(v0:WB)(xs L:List Int)(cur:Array WB)(cap:Nat)(u:WA)(H:Nat)(hH:u.1.size=H)(bJd:cur.toList=L.map (Value.int .i64))(cP:u.ownsRow base 5 1 v0 xs.length (xs.map (Value.int .u8)))(d8:base<=u.1.size)
  (hL:∀x∈L,0<=x/\x<=1099511627776)(hlen:xs.length<=10000)(hLl:L.length<=100):
  Calls prog 100 #[v0,sL H L.length cap] (u.alloc (.cells cur 3)) λev w'=>∃v',ev=rT v'/\w'.ownsRow base 5 1 v' (xs++bytesOf L).length ((xs++bytesOf L).map (Value.int .u8))/\Below base u w'/\u.1.size<w'.1.size:=by
 subst hH;refine(aRd base v0 xs u.1.size cap L (u.alloc (.cells cur 3)) (gK cP ((jD _ _).alloc (kG _) _)) (λj h=>?_) hL (λe=>?_) ol hlen hLl).mono ?_
 .have:=aCx u cur 3 j (iI L[j]) (by rw[bJd];simp[h]);simpa only[add_plain,Nat.zero_add]using this
 .have:=(cP.lt _ e).2;omega
 .rintro ev w' ⟨v',h1,h2,h3,h4⟩;rw[K7]at h2;simp at h4;exact⟨v',h1,h2,((jD _ _).alloc d8 _).trans h3,od⟩
def mZ(tq:Nat->Int)(aM:Int)(k:Nat):Int:=if k=0 then 0 else tq (k-1)+aM+1
theorem uB(nd fr tq:Nat->Int)(AA aM round:Int)(k:Nat):
  fW nd fr tq AA aM round k=if jF (fr k) (tq k) (mZ tq aM k) (round-aM-1)≠0 then jF (fr k) (tq k) (mZ tq aM k) (round-aM-1)else if nd k<0\/AA-1<nd k then 7 else 0:=by
 have e:((k=0/\fr k<0)\/(0<k/\fr k<=tq (k-1)+aM))↔fr k<mZ tq aM k:=by unfold mZ;exact zBq
 unfold fW jF;by_cases h1:tq k<=fr k
 .simp[h1]
 .rw[kJ h1];by_cases h2:fr k<mZ tq aM k
  .simp[e,h1,h2]
  .simp only[e];rw[kJ h2];by_cases h3:round-aM-1<tq k
   .simp[h1,h2,h3]
   .simp[h1,h2,h3]
theorem aR5{fr tq least most:Int}(h:jF fr tq least most=0):fr<tq/\least<=fr/\tq<=most:=by
 unfold jF at h;by_cases h1:tq<=fr
 .simp[h1]at h
 .rw[kJ h1]at h;by_cases h2:fr<least
  .simp[h2]at h
  .rw[kJ h2]at h;by_cases h3:most<tq
   .simp[h3]at h
   .omega
theorem aBo{nd fr tq:Nat->Int}{AA aM round:Int}(hsk:0<=aM){k:Nat}(h:∀j,j<k->fW nd fr tq AA aM round j=0):0<=mZ tq aM k/\mZ tq aM k<=max 0 round:=by
 unfold mZ;by_cases h0:k=0
 .rw[kK h0];omega
 .rw[kJ h0];have:=aAw hsk h (k-1) od;omega
theorem aR4(AA aG aM aC aJ round frame:Int)(sa la wa:Option WT)(ns sc nl lc nw wc:Nat)(w:WA)
  (a1:1<=AA)(a2:AA<=16)(b1:0<=aM)(b2:aM<=137438953472)(c1:1<=round)(c2:round<=137438953472)(d1:ns<=32)
  (nd fr tq:Nat->Int)(hs:jH w sa ns nd fr tq)(e i:Int)(hF:bX (fW nd fr tq AA aM round) ns e i):
  Calls prog 136 #[.agg #[iI AA,iI aG,iI aM,iI aC,iI aJ,iI round,sV sa ns sc,sV la nl lc,iI frame,sV wa nw wc]] w λev w'=>∃E,ev=rT E/\Q8 w' E e i/\bW w w':=by have HF:Hid (bX (fW nd fr tq AA aM round) ns e i):=hF;exact zF8
def aDb(b:Nat)(p q r s:Int)(u:WA):Prop:=
 u.cell? (aA b 0)=some (iI p)/\u.cell? (aA b 1)=some (iI q)/\u.cell? (aA b 2)=some (iI r)/\u.cell? (aA b 3)=some (iI s)
theorem aDb.below{b:Nat}{p q r s:Int}{u u':WA}(h:aDb b p q r s u)(hb:bW u u'):aDb b p q r s u':=by obtain⟨h0,h1,h2,h3⟩:=h;exact⟨aS h0 hb,aS h1 hb,aS h2 hb,aS h3 hb⟩
theorem bJ0(p q r s:Int)(w:WA)(t:WI):aDb w.1.size p q r s (w.alloc (.cells #[iI p,iI q,iI r,iI s] t))/\bW w (w.alloc (.cells #[iI p,iI q,iI r,iI s] t)):=
 ⟨⟨oe,oe,oe,oe⟩,(jD _ _).alloc (kG _) _⟩
theorem aTl(lf lt lb lq AA pw:Int)(hit:Bool)(w:WA)(n1:1<=AA)(n2:AA<=16)(hpw:(2:Int)^AA.toNat=pw)(p1:2<=pw)(p2:pw<=65536)(aBl:0<=lf->lf<=15->hit=(bits BinOp.and .i64 lt (2^lf.toNat) !=0)):
  Calls prog 176 #[.agg #[iI lf,iI lt,iI lb,iI lq],iI AA] w λev w'=>ev=rT (iI (cN (λ_=>lf) (λ_=>lt) (λ_=>lb) (λ_=>lq) (λ_=>hit) AA pw 0))/\bW w w':=by
 have HE:Hid (∀c,cN (λ_=>lf) (λ_=>lt) (λ_=>lb) (λ_=>lq) (λ_=>hit) AA pw 0=c->Ending.returned (iI c)=rT (iI (cN (λ_=>lf) (λ_=>lt) (λ_=>lb) (λ_=>lq) (λ_=>hit) AA pw 0))):=λc h=>by rw[h]
 have HH:Hid (0<=lf->lf<=15->hit=(bits BinOp.and .i64 lt (2^lf.toNat) !=0)):=aBl;have HPW:Hid ((2:Int)^AA.toNat=pw):=hpw;clear aBl hpw;obtain⟨hc,hV⟩:=bJ0 lf lt lb lq w 124;go_enter func176,ntmps176;go_wp2_with fail;generalize w.alloc (.cells #[iI lf,iI lt,iI lb,iI lq] 124)=V at hc hV⊢;have hW:bW V V:=jD _ _;obtain⟨c0,c1,c2,c3⟩:=hc.below hW;have wn:IntKind.i64.wrap (AA-1)=AA-1:=rK _ od od;by_cases a1:0<=lf/\lf<=AA-1;rotate_left
 .have hd:decide (0<=lf/\lf<=AA-1)=false:=kD a1;have hE:Hid (cN (λ_=>lf) (λ_=>lt) (λ_=>lb) (λ_=>lq) (λ_=>hit) AA pw 0=7):=aPi od;clear a1;refine wp_region_held_drew (S:=λu=>u.cell? (aA w.1.size 0)=some (iI lf)) oh oz (λaF=>?_);refine tk 0 aF ?_;refine tk 1 aF ?_;refine tk 3 aF ?_;refine tk 4 aF ?_;refine rd2 2 5 (λK hK=>?_) λK hK=>?_
  .exact zKs
  .exact zHe
 have G5:decide (0<=lf/\lf<=AA-1)=true:=kF a1;obtain⟨a2,a3⟩:=a1;rename_i Q1 K2 k2 K1 k1;have aS7:∀(t5 t6 t7 t8 t9 uV S8:WB)(u:WA),bW V u->Exit.then K1 (Exit.then K2 Q1) .normal ⟨#[.agg #[iI lf,iI lt,iI lb,iI lq],iI AA,pP w.1.size,undef,iI 0,t5,t6,t7,t8,t9,uV,S8,.bool false,undef,undef,undef,undef,undef,undef,undef,undef,undef,undef,undef,undef,undef,undef,undef,undef,undef,undef,undef,undef,undef,undef,undef,undef,undef,undef,undef,undef,undef,undef,undef,undef],[]⟩ u:=by
  intro t5 t6 t7 t8 t9 uV S8 u hW;clear c0 c1 c2 c3 G5;obtain⟨c0,c1,c2,c3⟩:=hc.below hW;go_wp2_with fail;have pe:=HPW.out;have wpw:IntKind.i64.wrap pw=pw:=rK _ od od;have wp1:IntKind.i64.wrap (pw-1)=pw-1:=rK _ od od;by_cases b1:1<=lt/\lt<=pw-1;rotate_left
  .have hd:decide (1<=lt/\lt<=pw-1)=false:=kD b1;have hE:Hid (cN (λ_=>lf) (λ_=>lt) (λ_=>lb) (λ_=>lq) (λ_=>hit) AA pw 0=1):=aCk a2 a3 od;clear b1;exact zGm
  have G5:decide (1<=lt/\lt<=pw-1)=true:=kF b1;have w2:=HH.out a2 od;have w3:=aL3 lf.toNat od;obtain⟨pf,hpf⟩:∃pf,(2:Int)^lf.toNat=pf:=⟨_,rfl⟩;rw[hpf]at w2 w3;have u5:IntKind.i64.wrap pf=pf:=rK pf od od;cases u6:(bits BinOp.and .i64 lt pf !=0);rotate_left
  .rw[u6]at w2;have hE:Hid (cN (λ_=>lf) (λ_=>lt) (λ_=>lb) (λ_=>lq) (λ_=>hit) AA pw 0=1):=aCk a2 a3 (.inr (.inr w2));clear b1 w2 w3;have m19:=0;exact zGm
  rw[u6]at w2;have w1:Hid (¬(lt<1\/pw-1<lt\/hit=true)):=by show ¬_;rw[w2];simp;omega
  clear b1 w2 w3;rename_i K3 k3 K4 k4;have aS8:∀(t5 t6 t7 t8 t9 uV S8 J4 t13 t14 t15 t16 t17 t18 t19 t20 t21 t22 t23 t24 t25 t26 t27 t28 t29:WB)(u:WA),bW V u->Exit.then K4 (Exit.then K3 Q1) .normal ⟨#[.agg #[iI lf,iI lt,iI lb,iI lq],iI AA,pP w.1.size,undef,iI 0,t5,t6,t7,t8,t9,uV,S8,J4,t13,t14,t15,t16,t17,t18,t19,t20,t21,t22,t23,t24,t25,t26,t27,t28,t29,.bool false,undef,undef,undef,undef,undef,undef,undef,undef,undef,undef,undef,undef,undef,undef],[]⟩ u:=by
   clear G5 c0 c1 c2 c3 hW pe wpw wp1 hpf u5 u6 wn;intro t5 t6 t7 t8 t9 uV S8 J4 t13 t14 t15 t16 t17 t18 t19 t20 t21 t22 t23 t24 t25 t26 t27 t28 t29 u hW;obtain⟨c0,c1,c2,c3⟩:=hc.below hW;go_wp2_with fail;by_cases e1:1<=lb/\lb<=137438953472;rotate_left
   .have hd:decide (1<=lb/\lb<=137438953472)=false:=kD e1;exact zGj
   have G5:decide (1<=lb/\lb<=137438953472)=true:=kF e1;by_cases e2:1<=lq/\lq<=16;rotate_left
   .have G6:decide (1<=lq/\lq<=16)=false:=kD e2;have m16:=0;exact zGj
   have G6:decide (1<=lq/\lq<=16)=true:=kF e2;have hE:Hid (cN (λ_=>lf) (λ_=>lt) (λ_=>lb) (λ_=>lq) (λ_=>hit) AA pw 0=0):=aPg a2 a3 w1.out e1 e2;clear e1 e2;exact zL5
  exact zKa
 refine wp_region_held_drew (S:=λu=>u.cell? (aA w.1.size 0)=some (iI lf)) oh oz (λaF=>?_);refine tk 0 aF ?_;refine tk 1 aF ?_;refine tk 3 aF ?_;refine tk 4 aF ?_;refine rd2 2 5 (λK hK=>?_) λK hK=>?_
 .have m53:=0;exact zKs
 .have m47:=0;exact zHe
section
variable{a a':WT}{h h' l l' m':Option WB}{v v' x x':WB}
structure dB(Y:Sy):Prop where
 hz:Zs Y.P
 hS:Y.S Y.P.globals.size
 hI:Y.ρ Y.P.globals.size=Y.P.globals.size
 inj:∀b c,Y.ρ b=Y.ρ c->b=c
 low:∀b,Y.ρ b<Y.P.globals.size↔b<Y.P.globals.size
section
variable{Y:Sy}{α:Type}{A:α->α->Prop}
theorem RR.oC{β:Type}{m:Sem α}(u:Unsupported)(f:β->Sem α):RR Y A m (unsupported u>>=f):=RR.bad (h:=.unsupported u) aC2
theorem RR.nG{β:Type}{m:Sem α}(s:String)(f:β->Sem α):RR Y A m (Go.stuck s>>=f):=RR.bad (h:=.stuck s) trivial
theorem AR.row(h:AR Y a a'){l c:Nat}:VR Y (sV (some a) l c) (sV (some a') l c):=⟨jb,by simp only[Sc];rintro x ⟨⟩;exact h.2⟩
theorem OR.row{a a':Option WT}(h:OR Y a a'){l c:Nat}:VR Y (sV a l c) (sV a' l c):=⟨jb,jo⟩
theorem AR.opt(h:AR Y a a'):OR Y (some a) (some a'):=⟨Ou,by rintro x ⟨⟩;exact h.2⟩
theorem OR.none:OR Y none none:=⟨rfl,oe⟩
theorem VR.int{k:IntKind}{n:Int}:VR Y (.int k n) (.int k n):=VR.lit
theorem VR.bool{b:Bool}:VR Y (.bool b) (.bool b):=VR.lit
theorem VR.str{s:WG}:VR Y (sT s) (sT s):=VR.lit
theorem dB.panics(E:dB Y)(e:RuntimeError):RR Y A (runtimePanic e) (runtimePanic e):=RR.runtimePanic e E.hS E.hI
theorem RR.bCc{β:Type}{B:β->β->Prop}{m m':Sem α}{f f':α->β}(h:RR Y A m m')(hf:∀a a',A a a'->B (f a) (f' a')):RR Y B (f<$>m) (f'<$>m'):=RR.bind (k:=λa=>Sem.pure (f a)) (k':=λa=>Sem.pure (f' a)) h λa a' ha=>RR.pure (hf a a' ha)
theorem dB.y8(E:dB Y){β:Type}(e:RuntimeError)(f f':β->Sem α):RR Y A (runtimePanic e>>=f) (runtimePanic e>>=f'):=RR.AF (A:=λ_ _=>False) (RR.runtimePanic e E.hS E.hI) λ_ _ h=>h.elim
theorem dB.bounds(E:dB Y)(k:IntKind)(x y:Int)(c:BoundsCode):RR Y A (boundsPanic k x y c) (boundsPanic k x y c):=by
 unfold boundsPanic;dsimp only;split
 .refine RR.AF (RR.bCc (B:=λa b=>a=b) (RR.choose _) ?_) ?_
  .rintro n n' rfl;rfl
  .rintro s s' rfl;exact E.panics _
 .refine RR.AF (A:=λa b=>a=b) (RR.AG rfl) ?_;rintro s s' rfl;exact E.panics _
theorem RR.sureAddr(h:VR Y v v'):RR Y (AR Y) (Instr.sureAddr v) (Instr.sureAddr v'):=by
 obtain⟨rfl,h⟩:=h;cases v'<;>simp only[rV,Instr.sureAddr];case pointer a=>
  cases a with
  |none=>exact RR.stuck _
  |some a=>simp only[Sc]at h;exact RR.AG ⟨rfl,h a rfl⟩
 all_goals exact RR.stuck _
theorem dB.asAddr(E:dB Y)(h:VR Y v v'):RR Y (AR Y) (asAddr v) (asAddr v'):=by
 obtain⟨rfl,h⟩:=h;cases v'<;>simp only[rV,Go.asAddr];case pointer a=>
  cases a with
  |none=>exact E.panics _
  |some a=>simp only[Sc]at h;exact RR.AG ⟨rfl,h a rfl⟩
 all_goals exact RR.stuck _
theorem RR.loadAt(t:WI)(h:VR Y v v'):RR Y (VR Y) (Instr.loadAt t v) (Instr.loadAt t v'):=
 RR.AF (RR.sureAddr h) λ_ _ ha=>RR.loadVar t ha
theorem RR.storeAt(t:WI){a a':WB}(h:VR Y a a')(hv:VR Y v v'):RR Y (λ_ _=>True) (Instr.storeAt t a v) (Instr.storeAt t a' v'):=
 RR.AF (RR.sureAddr h) λ_ _ ha=>RR.storeVar t ha hv
theorem dB.alloc(E:dB Y)(t:WI):RR Y (VR Y) (Instr.alloc t true (tU #[])) (Instr.alloc t true (tU #[])):=by refine RR.AF (RR.zeroValue E.hz t) ?_;rintro v v' ⟨rfl,h⟩;refine RR.AF (RR.newVar t (VR.zero h)) ?_;exact λa a' ha=>RR.AG ha.ptr
theorem RR.box(t:WI)(h:VR Y v v'):RR Y (VR Y) (Instr.box t v) (Instr.box t v'):=
 RR.AF (RR.newVar t h) λ_ _ ha=>RR.AG ha.ptr
def PR(Y:Sy)(l l':List (Nat×WB)):Prop:=l=l'.map (λx=>(x.1,rV Y.ρ x.2))/\∀x∈l',Sc Y.S Y.Q x.2
theorem dF.foldl{off:Nat}:∀(l:List (WB×Nat)){c c':Array WB},dF Y c c'->(∀x∈l,Sc Y.S Y.Q x.1)->dF Y ((l.map λx=>(rV Y.ρ x.1,x.2)).foldl (λcs x=>cs.setIfInBounds (off+x.2) x.1) c) (l.foldl (λcs x=>cs.setIfInBounds (off+x.2) x.1) c')
 |[],c,c',h,_=>h
 |x::l,c,c',h,hl=>by
  simp only[List.map_cons,List.foldl_cons];refine dF.foldl l ⟨jh,λv hv=>?_⟩ λy hy=>hl y (by simp[hy]);rcases Array.mem_or_eq_of_mem_setIfInBounds hv with h2|rfl
  .exact h.2 v h2
  .exact hl x oe
theorem VR.aO3(h:VR Y v v'):v.cells.size=v'.cells.size:=by rw[h.cells.1];simp
theorem dF.setCells{c c' d d':Array WB}(h:dF Y c c')(k:dF Y d d')(off:Nat):dF Y (d.zipIdx.foldl (λcs x=>cs.setIfInBounds (off+x.2) x.1) c) (d'.zipIdx.foldl (λcs x=>cs.setIfInBounds (off+x.2) x.1) c'):=by
 have e:d.zipIdx.toList=(d'.zipIdx.toList).map λx=>(rV Y.ρ x.1,x.2):=by rw[k.1];apply List.ext_getElem?;intro i;simp;cases d'[i]? <;>rfl
 rw[<-Array.foldl_toList,<-Array.foldl_toList,e];refine dF.foldl _ h λx hx=>?_;have:x.1∈d':=by have:=Array.mem_toList_iff.1 hx;rw[Array.mem_zipIdx_iff_getElem?]at this;exact AS this
 exact k.2 _ this
theorem zZ(place:Nat->Option (Nat×Nat)):∀(l':List (Nat×WB)){c c':Array WB},dF Y c c'->(∀x∈l',Sc Y.S Y.Q x.2)->
  (Instr.fill place c' l'=none/\Instr.fill place c (l'.map λx=>(x.1,rV Y.ρ x.2))=none)\/∃d d',Instr.fill place c (l'.map λx=>(x.1,rV Y.ρ x.2))=some d/\Instr.fill place c' l'=some d'/\dF Y d d'
 |[],c,c',h,_=>.inr ⟨c,c',rfl,rfl,h⟩
 |(i,v)::l,c,c',h,hl=>by
  have hv:VR Y (rV Y.ρ v) v:=⟨rfl,hl (i,v) oe⟩;simp only[List.map_cons,Instr.fill]
  cases place i with
  |none=>exact .inl ⟨rfl,rfl⟩
  |some os=>
   obtain⟨off,size⟩:=os
   dsimp only
   have e1:(rV Y.ρ v).cells.size=v.cells.size:=hv.aO3
   have e2:c.size=c'.size:=jh
   rw[e1,e2]
   split
   .exact .inl ⟨rfl,rfl⟩
   .exact zZ place l (h.setCells hv.cells off) λx hx=>hl x o6
theorem aVg(fs:Array Field):RR Y (λa a'=>a=a') (fs.mapM λf=>do pure (f.offset,<-sizeOf f.type)) (fs.mapM λf=>do pure (f.offset,<-sizeOf f.type)):=by
 rw[Array.mapM_eq_mapM_toList];refine RR.bCc (A:=λa a'=>a=a') ?_ (by rintro _ _ rfl;rfl)
 induction fs.toList with
 |nil=>exact RR.AG rfl
 |cons f l ih=>
  rw[List.mapM_cons]
  refine RR.AF (A:=λa a'=>a=a') ?_ ?_
  .refine RR.AF (RR.sizeOf _) ?_
   rintro n n' rfl
   exact RR.AG rfl
  .rintro x x' rfl
   refine RR.AF ih ?_
   rintro y y' rfl
   exact RR.AG rfl
theorem dB.build(E:dB Y)(t:WI){l l':Array (Nat×WB)}(h:l=l'.map λx=>(x.1,rV Y.ρ x.2))(hs:∀x∈l',Sc Y.S Y.Q x.2):RR Y (VR Y) (Instr.build t l) (Instr.build t l'):=by
 subst h;refine RR.AF (RR.zeroValue E.hz t) ?_;rintro z z' ⟨rfl,hz⟩;have hc:=(VR.zero (Y:=Y) hz).cells;have C5:∀x∈l'.toList,Sc Y.S Y.Q x.2:=by simpa using hs
 refine RR.AF (RR.underlying t) ?_;rintro d d' ⟨rfl,_⟩;split
 .refine RR.AF (aVg _) ?_;rintro ps ps' rfl;rcases zZ (λi=>ps[i]?) l'.toList hc C5 with⟨h1,h2⟩|⟨d,d',h1,h2,h3⟩
  .rw[h1];exact RR.stuck _
  .simp only[Array.toList_map];rw[h1,h2];exact RR.AG h3.agg
 .refine RR.AF (RR.sizeOf _) ?_;rintro n n' rfl;rcases zZ (λi=>some (i*n,n)) l'.toList hc C5 with⟨h1,h2⟩|⟨d,d',h1,h2,h3⟩
  .rw[h1];exact RR.stuck _
  .simp only[Array.toList_map];rw[h1,h2];exact RR.AG h3.agg
 .exact J7
theorem dF.fill{c:Array WB}(h:∀v∈c,Sc Z0 Q0 v)(n:Nat):dF Y ((Array.range n).map λi=>c[i%c.size]!) ((Array.range n).map λi=>c[i%c.size]!):=by
 refine VR.lits λv hv=>?_;obtain⟨i,_,rfl⟩:=Array.mem_map.1 hv;by_cases hi:i%c.size<c.size
 .rw[getElem!_pos c _ hi];exact VR.zero (h _ (Array.getElem_mem _))
 .rw[getElem!_neg c _ hi];exact VR.zero (by simp[default,instInhabitedValue.default,Sc])
theorem tP(h:Sc Z0 Q0 v):∀x∈v.cells,Sc Z0 Q0 x:=by
 intro x hx
 cases v<;>first
  |(simp only[Value.cells,Array.mem_singleton]at hx;subst hx;exact h)
  |(simp only[Sc]at h;exact h x hx)
theorem dB.buildSlice(E:dB Y)(t:WI)(len:Nat){l l':Array (Nat×WB)}(h:l=l'.map λx=>(x.1,rV Y.ρ x.2))(hs:∀x∈l',Sc Y.S Y.Q x.2):RR Y (VR Y) (Instr.buildSlice t len l) (Instr.buildSlice t len l'):=by
 subst h;have C5:∀x∈l'.toList,Sc Y.S Y.Q x.2:=by simpa using hs
 unfold Instr.buildSlice;exact zHs
theorem A3(h:AR Y a a'):RR Y (λx x'=>(x=none/\x'=none)\/∃b b' t,x=some (b,t)/\x'=some (b',t)/\AR Y b b') (Go.viewAt a.block) (Go.viewAt a'.block):=by unfold Go.viewAt;exact zBh
theorem aAq(h:AR Y a a'):RR Y (λ_ _=>True) (Go.noView a) (Go.noView a'):=by
 refine RR.AF (A3 h) ?_;rintro _ _ (⟨rfl,rfl⟩|⟨_,_,_,rfl,rfl,_⟩)
 .exact RR.AG trivial
 .exact zDt
theorem RR.byteOf(h:AR Y a a'):RR Y (λx x'=>x=x') (Go.byteOf a) (Go.byteOf a'):=by
 obtain⟨rfl,hb⟩:=h;unfold Go.byteOf;have e:(rA Y.ρ a').spot=a'.spot:=rfl;rw[e]
 cases a'.spot with
 |some s=>exact RR.AG rfl
 |none=>
  dsimp only
  refine RR.AF RR.program ?_
  rintro p p' ⟨rfl,rfl⟩
  refine RR.AF (aAq ⟨rfl,hb⟩) ?_
  rintro _ _ _
  refine RR.AF (RR.wB (a:=rA Y.ρ a') ⟨rfl,hb⟩) ?_
  rintro s s' (⟨rfl,_⟩|⟨rfl,_⟩)
  rotate_left
  .exact RR.stuck _
  dsimp only[rA]
  split
  .split
   .exact RR.AG rfl
   .split
    .exact RR.AG rfl
    .exact RR.stuck _
  .exact RR.stuck _
theorem RR.fieldPlace(h:AR Y a a')(f:Field):RR Y (AR Y) (Go.fieldPlace a f) (Go.fieldPlace a' f):=by
 refine RR.AF (RR.sizeOf _) ?_;rintro n n' rfl;split
 .refine RR.AF (RR.byteOf h) ?_;rintro b b' rfl;have e:({ block:=a.block,off:=a.off+f.offset }:WT)=rA Y.ρ { block:=a'.block,off:=a'.off+f.offset }:=Ou;refine RR.AF (RR.byteOf ⟨e,h.2⟩) ?_;rintro c c' rfl;refine RR.AG ?_;dsimp only;split
  .exact⟨e,h.2⟩
  .exact⟨Ou,h.2⟩
 .exact RR.AG (h.add _)
theorem RR.fieldAt(s:WI)(h:VR Y v v')(i:Nat):RR Y (VR Y) (Instr.fieldAt s v i) (Instr.fieldAt s v' i):=by
 refine RR.AF (RR.underlying s) ?_;rintro d d' ⟨rfl,_⟩;split
 .split
  .refine RR.AF (RR.sureAddr h) ?_;intro a a' ha;exact RR.AF (RR.fieldPlace ha _) λx x' hx=>RR.AG hx.ptr
  .exact J7
 .exact J7
theorem dB.indexAt(E:dB Y)(t:WI)(h:VR Y v v')(hx:VR Y x x'):RR Y (VR Y) (Instr.indexAt t v x) (Instr.indexAt t v' x'):=by
 unfold Instr.indexAt;refine RR.AF (RR.asIntOf hx) ?_;rintro⟨k,i⟩ _ rfl;refine RR.AF (RR.underlying t) ?_;rintro d d' ⟨rfl,hu⟩;obtain⟨rfl,hv⟩:=h;dsimp only;cases d<;>try exact RR.nG _ _
 case array len elem=>refine RR.AF (RR.sureAddr ⟨rfl,hv⟩) ?_;intro a a' ha;refine RR.AF (A:=λx x'=>OR Y x.1 x'.1/\x.2=x'.2) (RR.AG ⟨ha.opt,rfl⟩) ?_;exact zA8
 case slice elem=>
  cases v'<;>try exact RR.nG _ _
  case slice base l c=>simp only[rV];refine RR.AF (A:=λx x'=>OR Y x.1 x'.1/\x.2=x'.2) (RR.AG ⟨⟨rfl,by simpa only[Sc]using hv⟩,rfl⟩) ?_;exact zA8
theorem dB.sliceBound(E:dB Y)(h:VR Y v v')(y:Nat)(c:BoundsCode):RR Y (λx x'=>x=x') (Instr.sliceBound v y c) (Instr.sliceBound v' y c):=by
 refine RR.AF (RR.asIntOf h) ?_;rintro⟨k,i⟩ _ rfl;dsimp only;split
 .exact zC0
 .exact E.bounds _ _ _ _
def VO(Y:Sy)(v v':Option WB):Prop:=v=v'.map (rV Y.ρ)/\∀x,v'=some x->Sc Y.S Y.Q x
theorem dB.sliceBounds(E:dB Y)(s:Bool)(len cap:Nat){m:Option WB}(hl:VO Y l l')(hh:VO Y h h')(hm:VO Y m m'):RR Y (λx x'=>x=x') (Instr.sliceBounds s len cap l h m) (Instr.sliceBounds s len cap l' h' m'):=by
 obtain⟨rfl,hl⟩:=hl;obtain⟨rfl,hh⟩:=hh;obtain⟨rfl,hm⟩:=hm;unfold Instr.sliceBounds
 cases m' with
 |none=>
  refine RR.AF (A:=λx x'=>x=x') (RR.AG rfl) ?_
  rintro mx _ rfl
  cases h' with
  |none=>
   refine RR.AF (A:=λx x'=>x=x') (RR.AG rfl) ?_
   rintro hx _ rfl
   cases l' with
   |none=>exact RR.AF (A:=λx x'=>x=x') (RR.AG rfl) Eg
   |some v=>exact RR.AF (E.sliceBound ⟨rfl,hl v rfl⟩ _ _) Eg
  |some v=>
   refine RR.AF (E.sliceBound ⟨rfl,hh v rfl⟩ _ _) ?_
   rintro hx _ rfl
   cases l' with
   |none=>exact RR.AF (A:=λx x'=>x=x') (RR.AG rfl) Eg
   |some v=>exact RR.AF (E.sliceBound ⟨rfl,hl v rfl⟩ _ _) Eg
 |some v=>
  refine RR.AF (E.sliceBound ⟨rfl,hm v rfl⟩ _ _) ?_
  rintro mx _ rfl
  cases h' with
  |none=>exact RR.nG _ _
  |some v=>
   refine RR.AF (E.sliceBound ⟨rfl,hh v rfl⟩ _ _) ?_
   rintro hx _ rfl
   cases l' with
   |none=>exact RR.AF (A:=λx x'=>x=x') (RR.AG rfl) Eg
   |some v=>exact RR.AF (E.sliceBound ⟨rfl,hl v rfl⟩ _ _) Eg
theorem RR.extract(h:VR Y v v')(i:Nat):RR Y (VR Y) (Instr.extract v i) (Instr.extract v' i):=by
 obtain⟨rfl,h⟩:=h;cases v'<;>simp only[rV,Instr.extract];case tuple vs=>
  simp only[Sc]at h;rw[Array.getElem?_map]
  cases hc:vs[i]? with
  |none=>exact RR.stuck _
  |some x=>exact RR.AG ⟨rfl,h x (AS hc)⟩
 all_goals exact RR.stuck _
theorem RR.makeInterface(t:WI)(h:VR Y v v'):RR Y (VR Y) (Instr.makeInterface t v) (Instr.makeInterface t v'):=by
 refine RR.AF (RR.underlying t) ?_;rintro d d' ⟨rfl,_⟩;split
 .exact J7
 .exact RR.AG h.iface
theorem RR.makeFunc{fn:Fn}(hq:Y.Q.f fn)(hf:∀l,fn≠.yield l){a a' b b':Array WB}(h:dF Y a a')(k:dF Y b b'):RR Y (VR Y) (Instr.makeFunc fn a b) (Instr.makeFunc fn a' b'):=by
 refine RR.AG ⟨?_,?_⟩
 .rw[h.1,k.1];cases fn<;>first|exact absurd rfl (hf _)|simp[rV,rF]
 .simp only[Sc];exact⟨⟨hq,λl e=>absurd e (hf l)⟩,h.2,k.2⟩
theorem RR.makeMap(t:WI){r r':Option WB}(h:VO Y r r'):RR Y (VR Y) (Instr.makeMap t r) (Instr.makeMap t r'):=by
 obtain⟨rfl,h⟩:=h;have fin:RR Y (VR Y) (do Pure.pure (Value.map (some (<-Go.newObj (.map #[] 0))))) (do Pure.pure (Value.map (some (<-Go.newObj (.map #[] 0))))):=by refine RR.AF (RR.newObj (o':=.map #[] 0) (by simp[rO]) (by simp[ScO])) ?_;rintro x x' ⟨rfl,hx⟩;exact RR.AG ⟨by simp[rV],by simp only[Sc];rintro y ⟨⟩;exact hx⟩
 cases r' with
 |none=>exact fin
 |some v=>
  refine RR.AF (RR.underlying t) ?_
  rintro d d' ⟨rfl,_⟩
  split
  .refine RR.AF (RR.asInt ⟨rfl,h v rfl⟩) ?_
   rintro _ _ rfl
   exact fin
  .exact RR.nG _ _
theorem dB.slice(E:dB Y)(t:WI){m:Option WB}(hv:VR Y v v')(hl:VO Y l l')(hh:VO Y h h')(hm:VO Y m m'):RR Y (VR Y) (Instr.slice t v l h m) (Instr.slice t v' l' h' m'):=by unfold Instr.slice;exact zI0
theorem dB.sliceAt(E:dB Y)(t:WI){m:Option WB}(hv:VR Y v v')(hl:VO Y l l')(hh:VO Y h h')(hm:VO Y m m'):RR Y (VR Y) (Instr.sliceAt t v l h m) (Instr.sliceAt t v' l' h' m'):=by
 unfold Instr.sliceAt;refine RR.AF (RR.underlying t) ?_;rintro d d' ⟨rfl,hu⟩;split
 .refine RR.AF (RR.sureAddr hv) ?_;intro a a' ha;exact zK7
 .exact E.slice t hv hl hh hm
theorem dB.index(E:dB Y)(t:WI)(hv:VR Y v v')(hx:VR Y x x'):RR Y (VR Y) (Instr.index t v x) (Instr.index t v' x'):=by unfold Instr.index;refine RR.AF (RR.asIntOf hx) ?_;rintro⟨k,i⟩ _ rfl;have aTt:=0;exact zI0
theorem I3(n:Nat):RR Y (λ_ _=>True) (askRoom n) (askRoom n):=by
 unfold askRoom;split
 .exact RR.bCe
 .exact RR.AG trivial
theorem dB.makeSlice(E:dB Y)(t:WI){l l' c c':WB}(hl:VR Y l l')(hc:VR Y c c'):RR Y (VR Y) (Instr.makeSlice t l c) (Instr.makeSlice t l' c'):=by unfold Instr.makeSlice;have m61:=0;exact zHs
end
end
theorem aPj(AA aG aM aC aJ round frame:Int)(sa la wa:Option WT)(ns sc nl lc nw wc:Nat)(w:WA)
  (a1:1<=AA)(a2:AA<=16)(d2:nl<=8)(lf lt lb lq:Nat->Int)(hs:xL w la nl lf lt lb lq)(hit:Nat->Bool)(pw:Int)(hpw:(2:Int)^AA.toNat=pw)(p1:2<=pw)(p2:pw<=65536)(aBl:∀j,0<=lf j->lf j<=15->hit j=(bits BinOp.and .i64 (lt j) (2^(lf j).toNat) !=0))
  (e i:Int)(hF:bX (cN lf lt lb lq hit AA pw) nl e i):
  Calls prog 137 #[.agg #[iI AA,iI aG,iI aM,iI aC,iI aJ,iI round,sV sa ns sc,sV la nl lc,iI frame,sV wa nw wc]] w λev w'=>∃E,ev=rT E/\Q8 w' E e (1000+i)/\bW w w':=by
 have HF:Hid (bX (cN lf lt lb lq hit AA pw) nl e i):=hF;have HL:Hid (∀j (u:WA),Calls prog 176 #[.agg #[iI (lf j),iI (lt j),iI (lb j),iI (lq j)],iI AA] u λev w'=>ev=rT (iI (cN lf lt lb lq hit AA pw j))/\bW u w'):=
  λj u=>aTl (lf j) (lt j) (lb j) (lq j) AA pw (hit j) u a1 a2 hpw p1 p2 (aBl j)
 clear hF aBl hpw p1 p2;exact zKm
section
variable{a a' b b':WT}
section
variable{Y:Sy}{α:Type}{A:α->α->Prop}
theorem dB.typeAssert(E:dB Y){v v':WB}(h:VR Y v v')(x a:WI)(ok:Bool):RR Y (VR Y) (Instr.typeAssert v x a ok) (Instr.typeAssert v' x a ok):=by
 have holds:∀u u':WB,VR Y u u'->RR Y (VR Y) (Pure.pure (if ok then tU #[u,.bool true]else u)) (Pure.pure (if ok then tU #[u',.bool true]else u')):=λu u' hu=>by
  refine RR.AG ?_;cases ok
  .exact hu
  .exact dF.tuple ((dF.one hu).push VR.bool)
 have aSp:∀(s d:Option WI)(m:String),RR Y (VR Y) (if ok then do Pure.pure (tU #[<-zeroValue a,.bool false])else runtimePanic (.typeAssertion s d a m)) (if ok then do Pure.pure (tU #[<-zeroValue a,.bool false])else runtimePanic (.typeAssertion s d a m)):=λs d m=>by
  split
  .refine RR.AF (RR.zeroValue E.hz _) ?_;rintro z z' ⟨rfl,hz⟩;exact RR.AG (dF.tuple ((dF.one (VR.zero hz)).push VR.bool))
  .exact E.panics _
 unfold Instr.typeAssert;refine RR.AF (RR.underlying a) ?_;rintro d d' ⟨rfl,_⟩;obtain⟨rfl,hs⟩:=h;cases v'<;>simp only[rV];case nilIface=>cases d<;>exact aSp _ _ _
 case iface u w=>
  cases d;case interface want=>
   refine RR.AF (RR.typeInfo u) ?_;rintro i _ ⟨rfl,_⟩;split
   .exact holds _ _ ⟨Oy,hs⟩
   .exact aSp _ _ _
  all_goals
   simp only[Sc]at hs
   dsimp only
   split
   .exact holds _ _ ⟨rfl,hs⟩
   .exact aSp _ _ _
 all_goals cases d<;>exact RR.stuck _
theorem I4{β σ:Type}(f f':β->σ->Sem (ForInStep σ))(h:∀x s,RR Y (λr r'=>r=r') (f x s) (f' x s)):∀(l:List β)(s:σ),RR Y (λr r'=>r=r') (forIn l s f) (forIn l s f')
 |[],s=>RR.AG rfl
 |x::l,s=>by
  rw[List.forIn_cons,List.forIn_cons];refine RR.AF (h x s) ?_;rintro r _ rfl
  cases r with
  |done b=>exact RR.AG rfl
  |yield b=>exact I4 f f' h l b
theorem aAo{β σ:Type}(a:Array β)(s:σ)(f f':β->σ->Sem (ForInStep σ))(h:∀x s,RR Y (λr r'=>r=r') (f x s) (f' x s)):RR Y (λr r'=>r=r') (forIn a s f) (forIn a s f'):=by rw[<-Array.forIn_toList,<-Array.forIn_toList];exact I4 f f' h _ _
theorem yY{σ:Type}(r:Std.Legacy.Range)(s:σ)(f f':Nat->σ->Sem (ForInStep σ))(h:∀x s,RR Y (λr r'=>r=r') (f x s) (f' x s)):RR Y (λr r'=>r=r') (forIn r s f) (forIn r s f'):=by rw[Std.Legacy.Range.forIn_eq_forIn_range',Std.Legacy.Range.forIn_eq_forIn_range'];exact I4 f f' h _ _
theorem dB.checkKey(E:dB Y)(e:Bool):∀(n:Nat)(t:WI){v v':WB},VR Y v v'->RR Y (λ_ _=>True) (Instr.checkKey e n t v) (Instr.checkKey e n t v')
 |0,_,_,_,_=>RR.dE _
 |n+1,t,v,v',h=>by
  unfold Instr.checkKey;refine RR.AF (RR.underlying t) ?_;rintro d d' ⟨rfl,_⟩;obtain⟨rfl,hs⟩:=h;cases d;case interface ms _=>
   cases v'<;>simp only[rV];case iface u x=>
    simp only[Sc]at hs;refine RR.AF (RR.typeInfo u) ?_;rintro i _ ⟨rfl,_⟩;split
    .split
     .exact zEq
     .refine RR.AF (RR.typeStr u) ?_;rintro s _ rfl;exact zEq
    .exact E.checkKey e n u ⟨rfl,hs⟩
   case nilIface=>exact RR.AG trivial
   all_goals exact RR.stuck _
  case array len el _=>
   cases v'<;>simp only[rV];case agg cs=>simp only[Sc]at hs;refine RR.AF (yY _ _ _ _ λi s=>?_) λ_ _ _=>RR.AG trivial;refine RR.AF (RR.sizeOf _) ?_;rintro k _ rfl;refine RR.AF (RR.part _ ⟨rfl,hs⟩ _) ?_;intro x x' hx;refine RR.AF (E.checkKey e n el hx) ?_;rintro _ _ _;exact zC0
   all_goals exact RR.stuck _
  case struct fs _=>
   cases v'<;>simp only[rV];case agg cs=>
    simp only[Sc]at hs;refine RR.AF (aAo _ _ _ _ λf s=>?_) λ_ _ _=>RR.AG trivial;split
    .refine RR.AF (RR.part _ ⟨rfl,hs⟩ _) ?_;intro x x' hx;refine RR.AF (E.checkKey e n _ hx) ?_;rintro _ _ _;exact zC0
    .exact zC0
   all_goals exact RR.stuck _
  all_goals exact RR.AG trivial
theorem bCu(E:dB Y)(h:rA Y.ρ a=rA Y.ρ b):a=b:=by obtain⟨x,y,z⟩:=a;obtain⟨u,v,w⟩:=b;simp only[rA,Addr.mk.injEq]at h⊢;exact⟨E.inj _ _ h.1,h.2⟩
theorem aAj(E:dB Y)(a b:WT):(rA Y.ρ a==rA Y.ρ b)=(a==b):=by
 by_cases h:a=b
 .subst h;rw[beq_self_eq_true,beq_self_eq_true]
 .rw[beq_eq_false_iff_ne.2 h,beq_eq_false_iff_ne.2 λe=>h (bCu E e)]
theorem r8(E:dB Y)(a b:Nat):(Y.ρ a==Y.ρ b)=(a==b):=by
 by_cases h:a=b
 .subst h;rw[beq_self_eq_true,beq_self_eq_true]
 .rw[beq_eq_false_iff_ne.2 h,beq_eq_false_iff_ne.2 λe=>h (E.inj _ _ e)]
theorem aEt(E:dB Y)(x y:Option Nat):(x.map Y.ρ==y.map Y.ρ)=(x==y):=by cases x<;>cases y<;>first|rfl|exact r8 E _ _
theorem RR.aPl{m':Sem α}{r:Nat}{k:Option (WI×Nat)->Sem α}(h:∀s,RR Y A (k s) m'):RR Y A (Go.shape r>>=k) m':=λw w' hw hs=>h (w.shape? r) w w' hw hs
theorem RR.lookFrozen1{A:Bool->Bool->Prop}{m':Sem Bool}(h:∀s,RR Y A (Pure.pure s) m'):RR Y A (Go.frozen a) m':=λw w' hw hs=>h (w.frozen? a) w w' hw hs
theorem N0(h:AR Y a a'):RR Y (λb b'=>b=true->b'=true) (Go.stringish a) (Go.stringish a'):=by
 unfold Go.stringish;refine RR.AF (RR.frozen h) ?_;intro b b' hb
 cases b' with
 |true=>
  cases b with
  |true=>exact RR.AG λ_=>rfl
  |false=>
   simp only[Bool.false_eq_true,if_false,if_true]
   refine RR.aPl λs=>?_
   cases s with
   |none=>exact RR.AG λ_=>rfl
   |some s=>exact RR.lookFrozen1 λ_=>RR.AG λ_=>rfl
 |false=>
  cases b with
  |true=>exact absurd (hb rfl) oe
  |false=>
   simp only[Bool.false_eq_true,if_false]
   refine RR.AF (RR.wB h) ?_
   rintro s s' (⟨rfl,hS⟩|⟨rfl,ho,e,n,rfl,_⟩)
   .split
    .exact RR.frozen ⟨Ou,.inl hS⟩
    .exact RR.AG λh=>h
   .exact RR.aSr (a':={ block:=a'.block,off:=n }) ⟨Ou,.inr ho⟩ ho
theorem aYt(ha:AR Y a a')(hb:AR Y b b'):RR Y (λx x'=>x=true->x'=true) (Go.mayBeOne a b) (Go.mayBeOne a' b'):=by
 have none:∀x x':WT,AR Y x x'->RR Y (λp p'=>p=true->p'=true) (do Pure.pure ((<-Go.shape x.block) matches some (_,0))) (do Pure.pure ((<-Go.shape x'.block) matches some (_,0))):=by
  intro x x' h;refine RR.AF (RR.wB h) ?_;rintro s s' (⟨rfl,_⟩|⟨rfl,_,e,n,rfl,hn⟩)
  .exact RR.AG id
  .cases n with
   |zero=>exact absurd rfl hn
   |succ n=>exact RR.AG oe
 unfold Go.mayBeOne;refine RR.AF (N0 ha) ?_;intro p p' hp;refine RR.AF (N0 hb) ?_;intro q q' hq;refine RR.AF (none a a' ha) ?_;intro x x' hx;refine RR.AF (none b b' hb) ?_;intro y y' hy;refine RR.AG λh=>?_;simp only[Bool.or_eq_true,AK]at h⊢;exact h.imp (Or.imp (And.imp hp hq) (And.imp hp hx)) (And.imp hq hy)
theorem dB.sameAddr(E:dB Y)(ha:AR Y a a')(hb:AR Y b b'):RR Y (λx x'=>x=x') (Go.sameAddr a b) (Go.sameAddr a' b'):=by
 unfold Go.sameAddr;have e1:(a.block==b.block)=(a'.block==b'.block):=by rw[ha.1,hb.1];exact r8 E _ _
 have e2:(a==b)=(a'==b'):=by rw[ha.1,hb.1];exact aAj E _ _
 rw[e1,e2];split
 .exact zC0
 .refine RR.AF (RR.frozen ha) ?_;intro x x' hx;refine RR.AF (RR.frozen hb) ?_;intro y y' hy
  cases hh:(x'&&y')with
  |true=>exact RR.oC _ _
  |false=>
   have:(x&&y)=false:=by cases x<;>cases y<;>cases x'<;>cases y'<;>simp_all
   rw[this]
   simp only[Bool.false_eq_true,if_false]
   refine RR.AF (aAq ha) ?_
   intro _ _ _
   refine RR.AF (aAq hb) ?_
   intro _ _ _
   refine RR.AF (aYt ha hb) ?_
   intro z z' hz
   cases z' with
   |true=>
    cases z with
    |true=>
     simp only[if_true]
     refine RR.AF (RR.choose _) ?_
     rintro n _ rfl
     exact RR.AG rfl
    |false=>
     simp only[Bool.false_eq_true,if_false,if_true]
     exact RR.lone (q:=.extern _ 2) rfl 0 (RR.AG rfl)
   |false=>
    cases z with
    |true=>exact absurd (hz rfl) oe
    |false=>
     simp only[Bool.false_eq_true,if_false]
     exact RR.AG rfl
theorem dB.samePointer(E:dB Y){a a' b b':Option WT}(ha:OR Y a a')(hb:OR Y b b'):RR Y (λx x'=>x=x') (samePointer a b) (samePointer a' b'):=by
 obtain⟨rfl,ha⟩:=ha;obtain⟨rfl,hb⟩:=hb;cases a'<;>cases b'<;>simp only[Option.map_none,AH,Go.samePointer];case some.some x y=>exact E.sameAddr ⟨rfl,ha x rfl⟩ ⟨rfl,hb y rfl⟩
 all_goals exact RR.AG rfl
theorem aAr(h:AR Y a a'):RR Y (λx x'=>(x=none/\x'=none)\/∃b b' l,x=some (b,l)/\x'=some (b',l)/\AR Y b b') (Go.numberAt a.block) (Go.numberAt a'.block):=by unfold Go.numberAt;exact zBh
theorem lT(h:AR Y a a'):RR Y (λx x'=>AR Y x.1 x'.1/\x.2=x'.2) (Go.behindNumber a) (Go.behindNumber a'):=by
 unfold Go.behindNumber;refine RR.AF (aAr h) ?_;rintro _ _ (⟨rfl,rfl⟩|⟨b,b',l,rfl,rfl,hb⟩)
 .exact RR.AG ⟨h,rfl⟩
 .exact RR.AG ⟨hb,rfl⟩
theorem dB.equalIn(E:dB Y):∀(n:Nat)(t:WI){v v' u u':WB},VR Y v v'->VR Y u u'->RR Y (λx x'=>x=x') (Op.equalIn n t v u) (Op.equalIn n t v' u')
 |0,_,_,_,_,_,_,_=>RR.dE _
 |n+1,t,v,v',u,u',hv,hu=>by
  unfold Op.equalIn;refine RR.AF (RR.underlying t) ?_;rintro d d' ⟨rfl,_⟩;obtain⟨rfl,hv⟩:=hv;obtain⟨rfl,hu⟩:=hu;cases d;case bool=>exact zDh
  case string=>exact zDh
  case float k _=>exact zCp
  case complex k _=>exact zCp
  case chan=>
   cases v'<;>try exact RR.stuck _
   cases u'<;>simp only[rV]<;>first|exact RR.stuck _|exact RR.AG (aEt E _ _)
  case unsafePointer=>
   cases v'<;>try exact RR.stuck _
   cases u'<;>try exact RR.stuck _
   simp only[rV];simp only[Sc]at hv hu;exact E.samePointer ⟨rfl,hv⟩ ⟨rfl,hu⟩
  case func=>
   cases v'<;>try exact RR.stuck _
   all_goals cases u'<;>simp only[rV]<;>first|exact RR.AG rfl|exact RR.stuck _
  case map=>
   cases v'<;>try exact RR.stuck _
   case map x=>
    cases u';case map y=>simp only[rV];cases x<;>cases y<;>first|exact RR.AG rfl|exact RR.stuck _
    all_goals simp only[rV];cases x<;>exact RR.stuck _
  case slice=>
   cases v'<;>try exact RR.stuck _
   case slice x _ _=>
    cases u';case slice y _ _=>simp only[rV];cases x<;>cases y<;>first|exact RR.AG rfl|exact RR.stuck _
    all_goals simp only[rV];cases x<;>exact RR.stuck _
  case pointer elem _=>
   cases v'<;>try exact RR.stuck _
   case pointer x=>
    cases u';case pointer y=>
     simp only[rV];simp only[Sc]at hv hu
     cases x with
     |none=>cases y<;>exact RR.AG rfl
     |some x=>
      cases y with
      |none=>exact RR.AG rfl
      |some y=>
       simp only[AH]
       refine RR.AF (RR.sizeOf _) ?_
       rintro k _ rfl
       split
       .exact E.sameAddr ⟨rfl,hv x rfl⟩ ⟨rfl,hu y rfl⟩
       .rw[aAj E]
        split
        .exact RR.AG rfl
        .refine RR.AF (RR.choose _) ?_
         rintro k _ rfl
         exact RR.AG rfl
    all_goals simp only[rV];cases x<;>exact RR.stuck _
  case int k _=>
   cases v';case int ka x=>
    cases u'<;>simp only[rV]<;>try exact RR.stuck _
    case int kb y=>split<;>first|exact RR.AG rfl|exact RR.stuck _
    case pointer y=>
     cases y with
     |none=>
      simp only[Option.map_none]
      exact RR.dE _
     |some y=>
      simp only[AH]
      by_cases hx:x=0
      .subst hx;exact RR.AG rfl
      .split
       all_goals first
        |exact RR.dE _
        |(simp_all<;>exact RR.dE _)
   case pointer x=>
    simp only[Sc]at hv
    cases x with
    |none=>
     simp only[rV,Option.map_none]
     cases u'<;>exact RR.dE _
    |some x=>
     cases u'<;>simp only[rV,AH]<;>try exact RR.dE _
     case int kb y=>
      by_cases hy:y=0
      .subst hy;exact RR.AG rfl
      .split
       all_goals first
        |exact RR.dE _
        |(simp_all<;>exact RR.dE _)
     case pointer y=>
      simp only[Sc]at hu
      cases y with
      |none=>exact RR.dE _
      |some y=>
       simp only[AH]
       refine RR.AF (lT ⟨rfl,hv x rfl⟩) ?_
       rintro⟨x1,l1⟩ ⟨x,l2⟩ ⟨⟨e3,hv⟩,_⟩
       refine RR.AF (lT ⟨rfl,hu y rfl⟩) ?_
       rintro⟨y1,l3⟩ ⟨y,l4⟩ ⟨⟨e4,hu⟩,_⟩
       dsimp only at e3 e4 hv hu
       subst e3 e4
       refine RR.AF RR.program ?_
       rintro p p' ⟨rfl,rfl⟩
       have e1:((rA Y.ρ x).block==(rA Y.ρ y).block)=(x.block==y.block):=r8 E _ _
       have e2:decide ((rA Y.ρ x).block<Y.P.globals.size)=decide (x.block<Y.P.globals.size):=decide_eq_decide.2 (E.low _)
       dsimp only
       rw[e1,e2]
       split
       .refine RR.AF (RR.byteOf ⟨rfl,hv⟩) ?_
        rintro b _ rfl
        refine RR.AF (RR.byteOf ⟨rfl,hu⟩) ?_
        rintro c _ rfl
        exact RR.AG rfl
       .refine RR.AF (RR.typeInfo _) ?_
        rintro i _ ⟨rfl,_⟩
        split
        .rw[aAj E]
         split
         .exact RR.AG rfl
         .exact RR.dE _
        .exact RR.dE _
   all_goals cases u'<;>first|exact RR.stuck _|exact RR.dE _
  case interface ms _=>
   cases v'<;>try exact RR.stuck _
   case nilIface=>cases u'<;>simp only[rV]<;>first|exact RR.AG rfl|exact RR.stuck _
   case iface tx x=>
    cases u'<;>simp only[rV]<;>try first|exact RR.AG rfl|exact RR.stuck _
    case iface ty y=>
     simp only[Sc]at hv hu;split
     .exact zC0
     .refine RR.AF (RR.typeInfo tx) ?_;rintro i _ ⟨rfl,_⟩;split
      .refine RR.AF RR.program ?_;rintro p p' ⟨rfl,rfl⟩;refine RR.AF RR.program ?_;rintro p p' ⟨rfl,rfl⟩;split
       .exact zDn
       .refine RR.AF (RR.typeStr _) ?_;rintro s _ rfl;exact E.panics _
      .exact E.equalIn n tx ⟨rfl,hv⟩ ⟨rfl,hu⟩
  case struct fs _=>exact zIx
  case array len el _=>have bC0:=0;exact zIx
  all_goals exact RR.stuck _
end
end
section
variable{k k' v v':WB}
section
variable{Y:Sy}{α:Type}{A:α->α->Prop}
def ER(Y:Sy)(l l':List MapEntry):Prop:=l=l'.map (rE Y.ρ)/\∀e∈l',Sc Y.S Y.Q e.key/\Sc Y.S Y.Q e.val
theorem ER.tail{e:MapEntry}{l:List MapEntry}{x:List MapEntry}(h:ER Y x (e::l)):∃r,x=rE Y.ρ e::r/\ER Y r l/\Sc Y.S Y.Q e.key/\Sc Y.S Y.Q e.val:=⟨l.map (rE Y.ρ),Ou,⟨rfl,λy hy=>h.2 y (by simp[hy])⟩,h.2 e oe⟩
def FRN(Y:Sy)(x x':Option (Nat×WB)):Prop:=(x=none/\x'=none)\/∃i v v',x=some (i,v)/\x'=some (i,v')/\VR Y v v'
theorem dB.findAsking(E:dB Y)(t:WI)(hk:VR Y k k'):∀(l':List MapEntry){l:List MapEntry}(i:Nat),ER Y l l'->RR Y (FRN Y) (Instr.findAsking t k l i) (Instr.findAsking t k' l' i)
 |[],l,i,h=>by
  obtain⟨rfl,_⟩:=h
  exact RR.AG (.inl ⟨rfl,rfl⟩)
 |e::l',l,i,h=>by
  obtain⟨r,rfl,hr,h1,h2⟩:=h.tail
  unfold Instr.findAsking
  refine RR.AF (E.equalIn _ _ hk ⟨rfl,h1⟩) ?_
  rintro b _ rfl
  split
  .exact RR.AG (.inr ⟨i,_,_,rfl,rfl,rfl,h2⟩)
  .exact E.findAsking t hk l' (i+1) hr
theorem aR0(ρ:WN)(d:TypeDesc)(v u:WB):Instr.sameNow d (rV ρ v) (rV ρ u)=Instr.sameNow d v u:=by
 cases v<;>simp only[rV]<;>cases d<;>first
  |(simp only[Instr.sameNow];done)
  |(cases u<;>simp only[rV,Instr.sameNow])
theorem aCb(d:TypeDesc)(k':WB):∀(l':List MapEntry){l:List MapEntry}(i:Nat),ER Y l l'->(Instr.findNow d k' l' i=none/\Instr.findNow d (rV Y.ρ k') l i=none)\/∃x x',Instr.findNow d (rV Y.ρ k') l i=some x/\Instr.findNow d k' l' i=some x'/\FRN Y x x'
 |[],l,i,h=>by
  obtain⟨rfl,_⟩:=h
  exact .inr ⟨none,none,rfl,rfl,.inl ⟨rfl,rfl⟩⟩
 |e::l',l,i,h=>by
  obtain⟨r,rfl,hr,h1,h2⟩:=h.tail
  simp only[Instr.findNow]
  have e1:Instr.sameNow d (rV Y.ρ k') (rE Y.ρ e).key=Instr.sameNow d k' e.key:=aR0 _ _ _ _
  rw[e1]
  cases Instr.sameNow d k' e.key with
  |none=>exact .inl ⟨rfl,rfl⟩
  |some b=>
   cases b with
   |true=>exact .inr ⟨_,_,rfl,rfl,.inr ⟨i,_,_,rfl,rfl,rfl,h2⟩⟩
   |false=>exact aCb d k' l' (i+1) hr
theorem dB.findKey(E:dB Y)(t:WI)(hk:VR Y k k'){l l':List MapEntry}(h:ER Y l l'):RR Y (FRN Y) (Instr.findKey t k l) (Instr.findKey t k' l'):=by
 unfold Instr.findKey;refine RR.AF (RR.underlying t) ?_;rintro d _ ⟨rfl,_⟩;obtain⟨rfl,hs⟩:=hk;rcases aCb d k' l' 0 h with⟨h1,h2⟩|⟨x,x',h1,h2,h3⟩
 .rw[h1,h2];exact E.findAsking t ⟨rfl,hs⟩ l' 0 h
 .rw[h1,h2];exact RR.AG h3
theorem ER.arr{es:Array MapEntry}(h:∀e∈es,Sc Y.S Y.Q e.key/\Sc Y.S Y.Q e.val):ER Y (es.map (rE Y.ρ)).toList es.toList:=⟨oe,λe he=>h e (by simpa using he)⟩
theorem dB.lookup(E:dB Y)(t:WI)(hv:VR Y v v')(hk:VR Y k k')(ok:Bool):RR Y (VR Y) (Instr.lookup t v k ok) (Instr.lookup t v' k' ok):=by
 unfold Instr.lookup;refine RR.AF (RR.underlying t) ?_;rintro d _ ⟨rfl,_⟩;split
 .obtain⟨rfl,hs⟩:=hv;cases v'<;>simp only[rV]<;>try exact RR.nG _ _
  case map r=>
   obtain _|r:=r;simp only[Option.map_none];refine RR.AF (A:=λ(es es':Array MapEntry)=>es=es'.map (rE Y.ρ)/\∀e∈es',Sc Y.S Y.Q e.key/\Sc Y.S Y.Q e.val) (RR.AG (a':=#[]) ⟨oe,oe⟩) ?_;rotate_left;simp only[AH];simp only[Sc]at hs;refine RR.AF (RR.getObj ⟨rfl,hs r rfl⟩) ?_;rintro o o' ⟨rfl,ho,_⟩;cases o'<;>try exact RR.nG _ _
   rename_i es c;refine RR.AF (A:=λ(es es':Array MapEntry)=>es=es'.map (rE Y.ρ)/\∀e∈es',Sc Y.S Y.Q e.key/\Sc Y.S Y.Q e.val) (RR.AG (a':=es) ⟨rfl,ho⟩) ?_;all_goals
    rintro es es' ⟨rfl,hs⟩
    have e0:(es'.map (rE Y.ρ)).isEmpty=es'.isEmpty:=by simp only[Array.isEmpty,Array.size_map]
    rw[e0]
    refine RR.AF (E.checkKey _ _ _ hk) ?_
    intro _ _ _
    refine RR.AF (E.findKey _ hk (ER.arr hs)) ?_
    rintro x x' (⟨rfl,rfl⟩|⟨i,u,u',rfl,rfl,hu⟩)
    .refine RR.AF (RR.zeroValue E.hz _) ?_
     rintro z _ ⟨rfl,hz⟩
     refine RR.AF (A:=λx x'=>x=x'/\VR Y x.1 x'.1) (RR.AG ⟨rfl,VR.zero hz⟩) ?_
     rintro⟨a,b⟩ _ ⟨rfl,h⟩
     refine RR.AG ?_
     dsimp only
     split
     .exact dF.tuple ((dF.one h).push VR.bool)
     .exact h
    .refine RR.AF (A:=λx x'=>VR Y x.1 x'.1/\x.2=x'.2) (RR.AG ⟨hu,rfl⟩) ?_
     rintro⟨a,b⟩ ⟨a',_⟩ ⟨h,rfl⟩
     refine RR.AG ?_
     split
     .exact dF.tuple ((dF.one h).push VR.bool)
     .exact h
 .exact J7
theorem aLi(E:dB Y):∀(n:Nat)(v u:WB),Instr.sameBits n (rV Y.ρ v) (rV Y.ρ u)=Instr.sameBits n v u:=by
 intro n
 induction n with
 |zero=>
  intro v u
  cases v<;>cases u<;>simp only[rV,Instr.sameBits]
  .rename_i a b
   cases a<;>cases b<;>first|rfl|exact aAj E _ _
  .exact aEt E _ _
 |succ n ih=>
  intro v u
  cases v<;>cases u<;>simp only[rV,Instr.sameBits]
  .rename_i a b
   cases a<;>cases b<;>first|rfl|exact aAj E _ _
  .exact aEt E _ _
  .rw[ih]
  .rename_i a b
   simp only[Array.size_map,Array.toList_map]
   congr 1
   generalize a.toList=x
   generalize b.toList=y
   induction x generalizing y with
   |nil=>simp
   |cons p x ih2=>
    cases y with
    |nil=>simp
    |cons q y=>simp only[List.map_cons,List.zip_cons_cons,List.all_cons,ih,ih2]
theorem dB.aTe(E:dB Y){o o':WB}(ho:VR Y o o')(hk:VR Y k k'):RR Y (VR Y) (Instr.keyThatStays o k) (Instr.keyThatStays o' k'):=by
 unfold Instr.keyThatStays;have:Instr.sameBits 10000 o k=Instr.sameBits 10000 o' k':=by rw[ho.1,hk.1];exact aLi E _ _ _
 rw[this];split
 .exact RR.AG hk
 .refine RR.AF (RR.choose _) ?_;rintro n _ rfl;refine RR.AG ?_;split
  .exact hk
  .exact ho
theorem dB.mapUpdate(E:dB Y)(t:WI){m m':WB}(hm:VR Y m m')(hk:VR Y k k')(hv:VR Y v v'):RR Y (λ_ _=>True) (Instr.mapUpdate t m k v) (Instr.mapUpdate t m' k' v'):=by
 unfold Instr.mapUpdate;refine RR.AF (RR.underlying t) ?_;rintro d _ ⟨rfl,_⟩;split
 .obtain⟨rfl,hs⟩:=hm;cases m'<;>simp only[rV]<;>try exact RR.stuck _
  case map r=>
   cases r with
   |none=>exact E.panics _
   |some r=>
    simp only[AH]
    simp only[Sc]at hs
    refine RR.AF (RR.getObj ⟨rfl,hs r rfl⟩) ?_
    rintro o o' ⟨rfl,ho,_⟩
    cases o'<;>try exact RR.stuck _
    case map es c=>
     simp only[rO]
     refine RR.AF (E.checkKey _ _ _ hk) ?_
     intro _ _ _
     refine RR.AF (E.findKey _ hk (ER.arr ho)) ?_
     rintro x x' (⟨rfl,rfl⟩|⟨i,u,u',rfl,rfl,hu⟩)
     .refine RR.setObj ⟨rfl,hs r rfl⟩ (o':=.map (es.push ⟨k',v',c⟩) (c+1)) ?_ ?_
      .rw[hk.1,hv.1];simp[rO,rE]
      .intro e he
       rcases Array.mem_push.1 he with he|rfl
       .exact ho e he
       .exact⟨hk.2,hv.2⟩
     .refine RR.AF (E.aTe (o':=((es[i]?).map (·.key)).getD k') ?_ hk) ?_
      .rw[Array.getElem?_map]
       cases hx:es[i]? with
       |none=>exact hk
       |some e=>exact⟨rfl,(ho e (AS hx)).1⟩
      .intro q q' hq
       refine RR.setObj ⟨rfl,hs r rfl⟩ (o':=.map (es.modify i λe=>{ e with key:=q',val:=v' }) c) ?_ ?_
       .rw[hq.1,hv.1]
        simp only[rO]
        congr 1
        apply Array.ext_getElem?
        intro j
        simp only[Array.getElem?_map,Array.getElem?_modify]
        by_cases hj:i=j
        .subst hj
         cases es[i]? <;>simp[rE]
        .simp[hj]
       .intro e he
        obtain⟨j,hj,rfl⟩:=Array.mem_iff_getElem.1 he
        rw[Array.getElem_modify]
        split
        .exact⟨hq.2,hv.2⟩
        .exact ho _ (Array.getElem_mem _)
 .exact J7
end
end
def Pl{α:Type}(Q:α->Prop):Sem α->Prop
 |.pure a=>Q a
 |.choose _ k=>∀n,Pl Q (k n)
 |.halt h=>Bad h
 |_=>False
theorem Pl.AF{α β:Type}{Q:α->Prop}{R:β->Prop}{f:α->Sem β}(hf:∀a,Q a->Pl R (f a)):∀(m:Sem α),Pl Q m->Pl R (m>>=f)
 |.pure a,h=>hf a h
 |.choose _ k,h=>λn=>Pl.AF hf (k n) (h n)
 |.halt _,h=>h
theorem Pl.AG{α:Type}{Q:α->Prop}{a:α}(h:Q a):Pl Q (Pure.pure a):=h
theorem Pl.stuck{α:Type}{Q:α->Prop}(s:String):Pl Q (Go.stuck s):=trivial
theorem Pl.choose{Q:Nat->Prop}(q:Question)(h:∀n,Q n):Pl Q (Go.choose q):=h
theorem Pl.rr{Y:Sy}{α:Type}{Q:α->Prop}{A:α->α->Prop}(hA:∀a,Q a->A a a):∀(m:Sem α),Pl Q m->RR Y A m m
 |.pure a,h=>RR.pure (hA a h)
 |.choose q k,h=>RR.bind (m:=Go.choose q) (m':=Go.choose q) (k:=k) (k':=k) (RR.choose q) (by rintro n _ rfl;exact Pl.rr hA (k n) (h n))
 |.halt _,h=>RR.bad h
def Fl(v:WB):Prop:=(∃k x,v=.float k x)\/(∃k x y,v=.complex k x y)\/∃b,v=.bool b
theorem Fl.z{v:WB}(h:Fl v):Sc Z0 Q0 v:=by rcases h with⟨_,_,rfl⟩|⟨_,_,_,rfl⟩|⟨_,rfl⟩<;>simp[Sc]
theorem aZt(op:BinOp)(k:FloatKind)(x y:Nat):Pl (λv=>∃z,v=.float k z) (Op.floatArith op k x y):=by
 unfold Op.floatArith
 cases op<;>dsimp only<;>first
  |exact trivial
  |(
    refine Pl.AF (Q:=λ_=>True) (λr _=>?_) _ (Pl.AG trivial)
    cases r with
    |some r=>exact Pl.AG ⟨_,rfl⟩
    |none=>exact Pl.AF (Q:=λ_=>True) (λn _=>Pl.AG ⟨_,rfl⟩) _ (Pl.choose _ λ_=>trivial))
theorem aZu(op:BinOp)(k:FloatKind)(x y:Nat):Pl (λv=>∃b,v=.bool b) (Op.floatCmp op k x y):=by unfold Op.floatCmp;cases op<;>first|exact Pl.AG ⟨_,rfl⟩|exact Pl.stuck _
theorem bHr(a:FloatKind)(x:Nat)(b:FloatKind):Pl (λv=>∃z,v=.float b z) (Conv.floatToFloat a x b):=by
 unfold Conv.floatToFloat;split
 .exact Pl.AG ⟨_,rfl⟩
 .split
  .exact zDx
  .exact Pl.AG ⟨_,rfl⟩
  .dsimp only;split
   .exact zDx
   .exact Pl.AG ⟨_,rfl⟩
abbrev T1{α:Type}:α->Prop:=λ_=>True
theorem lG(op:BinOp)(k:FloatKind)(x y:Nat):Pl T1 (Op.Complex.arith op k x y):=
 Pl.AF (λv hv=>by obtain⟨z,rfl⟩:=hv;exact Pl.AG trivial) _ (aZt op k x y)
theorem aHo(op:BinOp)(k:FloatKind)(x y:Nat):Pl T1 (Op.Complex.cmp op k x y):=
 Pl.AF (λv hv=>by obtain⟨z,rfl⟩:=hv;exact Pl.AG trivial) _ (aZu op k x y)
theorem xW(a:FloatKind)(x:Nat)(b:FloatKind):Pl T1 (Op.Complex.conv a x b):=by
 unfold Op.Complex.conv;split
 .exact Pl.AG trivial
 .exact Pl.AF (λv hv=>by obtain⟨z,rfl⟩:=hv;exact Pl.AG trivial) _ (bHr a x b)
theorem Pl.t{α β:Type}{R:β->Prop}{f:α->Sem β}{m:Sem α}(h:Pl T1 m)(hf:∀a,Pl R (f a)):Pl R (m>>=f):=Pl.AF (λa _=>hf a) _ h
theorem bHt(a b c d:Nat):Pl T1 (Op.Complex.product a b c d):=
 (lG _ _ _ _).t λ_=>(lG _ _ _ _).t λ_=>(lG _ _ _ _).t λ_=>(lG _ _ _ _).t λ_=>(lG _ _ _ _).t λ_=>(lG _ _ _ _).t λ_=>Pl.AG trivial
theorem bHo(s a b c d:Nat):Pl T1 (Op.Complex.corrected s a b c d):=
 (lG _ _ _ _).t λ_=>(lG _ _ _ _).t λ_=>(lG _ _ _ _).t λ_=>(lG _ _ _ _).t λ_=>(lG _ _ _ _).t λ_=>(lG _ _ _ _).t λ_=>(lG _ _ _ _).t λ_=>(lG _ _ _ _).t λ_=>Pl.AG trivial
theorem bHn(x y:Nat):Pl T1 (Op.Complex.add x y):=lG _ _ _ _
theorem bHv(x y:Nat):Pl T1 (Op.Complex.sub x y):=lG _ _ _ _
theorem bHs(x y:Nat):Pl T1 (Op.Complex.mul x y):=lG _ _ _ _
theorem bHq(x y:Nat):Pl T1 (Op.Complex.quo x y):=lG _ _ _ _
theorem bHu(a b c d:Nat):Pl T1 (Op.Complex.quotient a b c d):=by
 unfold Op.Complex.quotient;dsimp only;repeat' with_reducible first
  |refine(bHn _ _).t λ_=>?_
  |refine(bHv _ _).t λ_=>?_
  |refine(bHs _ _).t λ_=>?_
  |refine(bHq _ _).t λ_=>?_
  |refine(aHo _ _ _ _).t λ_=>?_
  |refine(Pl.AG (Q:=T1) trivial).t λ_=>?_
  |exact bHo _ _ _ _ _
  |exact Pl.AG trivial
  |split
theorem bHp(op:BinOp)(k:FloatKind)(a b c d:Nat):Pl Fl (Op.complexOp op k a b c d):=by
 have mk:∀x:Nat×Nat,Pl Fl (Op.Complex.conv .f64 x.1 k>>=λa=>Op.Complex.conv .f64 x.2 k>>=λb=>Pure.pure (Value.complex k a b)):=λx=>(xW _ _ _).t λ_=>(xW _ _ _).t λ_=>Pl.AG (.inr (.inl ⟨_,_,_,rfl⟩));unfold Op.complexOp;cases op;case add=>exact(lG _ _ _ _).t λ_=>(lG _ _ _ _).t λ_=>Pl.AG (.inr (.inl ⟨_,_,_,rfl⟩))
 case sub=>exact(lG _ _ _ _).t λ_=>(lG _ _ _ _).t λ_=>Pl.AG (.inr (.inl ⟨_,_,_,rfl⟩))
 case mul=>exact(xW _ _ _).t λ_=>(xW _ _ _).t λ_=>(xW _ _ _).t λ_=>(xW _ _ _).t λ_=>(bHt _ _ _ _).t λx=>mk x
 case quo=>exact(xW _ _ _).t λ_=>(xW _ _ _).t λ_=>(xW _ _ _).t λ_=>(xW _ _ _).t λ_=>(bHu _ _ _ _).t λx=>mk x
 case eql=>exact(aHo _ _ _ _).t λ_=>(aHo _ _ _ _).t λ_=>Pl.AG (.inr (.inr ⟨_,rfl⟩))
 case neq=>exact(aHo _ _ _ _).t λ_=>(aHo _ _ _ _).t λ_=>Pl.AG (.inr (.inr ⟨_,rfl⟩))
 all_goals exact Pl.stuck _
section
variable{a a' b b':WT}{x x' y y':WB}
section
variable{Y:Sy}{α:Type}{A:α->α->Prop}
theorem RR.sK{m:Sem α}:RR Y A m (unsupported .addressObserved):=RR.dE _
theorem AR.off(h:AR Y a a')(k:Nat):AR Y { a with off:=k } { a' with off:=k }:=⟨Ou,h.2⟩
theorem vZ(t t':Array WI)(ty:WI)(hx:VR Y x x')(hy:VR Y y y'):RR Y (VR Y) (Builtin.unsafeAdd_ t ty #[x,y]) (Builtin.unsafeAdd_ t' ty #[x',y']):=by
 obtain⟨rfl,hs⟩:=hx;cases x'<;>try exact RR.stuck _
 rename_i p;have e:rV Y.ρ (.pointer p)=.pointer (p.map (rA Y.ρ)):=Oy;rw[e];simp only[Sc]at hs;refine RR.AF (RR.asInt hy) ?_;rintro n _ rfl
 cases p with
 |none=>
  simp only[Option.map_none]
  split
  .exact RR.dE _
  .split
   .exact RR.oC _ _
   .exact RR.dE _
 |some a=>
  have ha:AR Y (rA Y.ρ a) a:=⟨rfl,hs a rfl⟩
  simp only[AH]
  split
  .refine RR.AF (A3 ha) ?_
   rintro _ _ (⟨rfl,rfl⟩|⟨_,_,_,rfl,rfl,_⟩)
   .exact RR.AG ha.ptr
   .exact RR.oC _ _
  .split
   .exact RR.oC _ _
   .refine RR.AF (RR.wB ha) ?_
    rintro s _ (⟨rfl,_⟩|⟨rfl,_⟩)
    rotate_left
    .exact RR.dE _
    split
    .refine RR.AF RR.program ?_
     rintro p _ ⟨rfl,rfl⟩
     dsimp only[rA]
     split
     .exact RR.AG (ha.off _).ptr
     .exact RR.dE _
    .exact RR.dE _
theorem aLf(h:AR Y a a')(l:Bool):RR Y (VR Y) (asNumber a l) (asNumber a' l):=by unfold asNumber;refine RR.AF (RR.newObj (o':=.number a' l) Ou h.2) ?_;exact zC9
theorem sE(t:WI)(hx:VR Y x x')(hy:VR Y y y'):RR Y (VR Y) (movedNumber t x y) (movedNumber t x' y'):=by
 unfold movedNumber;refine RR.AF (RR.underlying t) ?_;rintro d _ ⟨rfl,_⟩;by_cases hd:d=.unsafePointer
 .subst hd;exact RR.oC _ _
 .dsimp only;rw[kJ (by cases d<;>first|exact absurd rfl hd|simp),kJ (by cases d<;>first|exact absurd rfl hd|simp)];obtain⟨rfl,hs⟩:=hx;have other:RR Y (VR Y) (Builtin.unsafeAdd_ #[] t #[rV Y.ρ x',y]) (Builtin.unsafeAdd_ #[] t #[x',y']):=vZ _ _ _ ⟨rfl,hs⟩ hy;cases x'<;>simp only[rV]at other⊢<;>try exact other
  rename_i p
  cases p with
  |none=>exact other
  |some n=>
   simp only[AH]
   simp only[Sc]at hs
   refine RR.AF (lT ⟨rfl,hs n rfl⟩) ?_
   rintro⟨a,l⟩ ⟨a',_⟩ ⟨ha,rfl⟩
   refine RR.AF (vZ _ _ _ (AR.ptr ha) hy) ?_
   rintro v v' ⟨rfl,hv⟩
   cases v'<;>simp only[rV]<;>try exact RR.AG ⟨Oy,hv⟩
   rename_i q
   cases q with
   |none=>exact RR.AG ⟨Oy,hv⟩
   |some b=>
    simp only[Sc]at hv
    exact aLf ⟨rfl,hv b rfl⟩ _
theorem aAp(t:WI)(hx:VR Y x x')(hy:VR Y y y'):RR Y (VR Y) (movedPointer t x y) (movedPointer t x' y'):=by
 unfold movedPointer;have other:RR Y (VR Y) (Builtin.unsafeAdd_ #[] t #[x,y]) (Builtin.unsafeAdd_ #[] t #[x',y']):=vZ _ _ _ hx hy;obtain⟨rfl,hs⟩:=hx;dsimp only;cases x'<;>simp only[rV]at other⊢<;>try exact other
 rename_i p
 cases p with
 |none=>exact other
 |some n=>
  simp only[AH]at other⊢
  simp only[Sc]at hs
  refine RR.AF (A:=λx x'=>x.isSome=x'.isSome) ?_ ?_
  .refine(aAr (a:=rA Y.ρ n) ⟨rfl,hs n rfl⟩).mono ?_
   rintro _ _ (⟨rfl,rfl⟩|⟨_,_,_,rfl,rfl,_⟩)<;>rfl
  .rintro o o' ho
   rw[ho]
   split
   .exact RR.oC _ _
   .exact other
theorem dB.twoPlaces(E:dB Y)(ha:AR Y a a')(hb:AR Y b b'):RR Y (λx x'=>x=x') (Op.twoPlaces a b) (Op.twoPlaces a' b'):=by
 unfold Op.twoPlaces;refine RR.AF RR.program ?_;rintro p _ ⟨rfl,rfl⟩;have e1:(a.block !=b.block)=(a'.block !=b'.block):=by rw[ha.1,hb.1];unfold bne;exact jA _ (r8 E _ _)
 have e2:decide (a.block≥Y.P.globals.size)=decide (a'.block≥Y.P.globals.size):=by rw[ha.1];refine decide_eq_decide.2 ?_;have:=E.low a'.block;show Y.P.globals.size<=Y.ρ a'.block↔_;omega
 rw[e1,e2];split
 .exact zDn
 .refine RR.AF (RR.byteOf ha) ?_;rintro x _ rfl;refine RR.AF (RR.byteOf hb) ?_;rintro y _ rfl;exact zC0
theorem dB.addrSub(E:dB Y)(k:IntKind)(ha:AR Y a a')(hb:AR Y b b'):RR Y (VR Y) (Op.addrSub k a b) (Op.addrSub k a' b'):=by refine RR.AF (E.twoPlaces ha hb) ?_;rintro⟨x,y⟩ _ rfl;exact RR.AG VR.int
theorem dB.addrCmp(E:dB Y)(op:BinOp)(ha:AR Y a a')(hb:AR Y b b'):RR Y (VR Y) (Op.addrCmp op a b) (Op.addrCmp op a' b'):=by refine RR.AF (E.twoPlaces ha hb) ?_;rintro⟨x,y⟩ _ rfl;cases op<;>first|exact RR.AG VR.bool|exact RR.dE _
theorem I2(k:IntKind)(ha:AR Y a a')(n:Int):RR Y (VR Y) (Op.addrMod k a n) (Op.addrMod k a' n):=by
 unfold Op.addrMod;refine RR.AF (RR.wB ha) ?_;rintro s _ (⟨rfl,_⟩|⟨rfl,_⟩);rotate_left
 .exact zDt
 split
 .refine RR.AF (RR.typeInfo _) ?_;rintro i _ ⟨rfl,_⟩;dsimp only;split
  .exact zDn
  .refine RR.AF (RR.byteOf ha) ?_;rintro b _ rfl;exact RR.AG VR.int
 .exact zDt
theorem dB.intArith(op:BinOp)(k:IntKind)(x y:Int):RR Y (VR Y) (Op.intArith op k x y) (Op.intArith op k x y):=by unfold Op.intArith;exact zCi
theorem dB.intBits(op:BinOp)(k:IntKind)(x y:Int):RR Y (VR Y) (Op.intBits op k x y) (Op.intBits op k x y):=by unfold Op.intBits;exact zCi
theorem dB.intCmp(op:BinOp)(x y:Int):RR Y (VR Y) (Op.intCmp op x y) (Op.intCmp op x y):=by unfold Op.intCmp;cases op<;>first|exact RR.AG VR.bool|exact RR.stuck _
theorem dB.intDiv(E:dB Y)(op:BinOp)(k:IntKind)(x y:Int):RR Y (VR Y) (Op.intDiv op k x y) (Op.intDiv op k x y):=by unfold Op.intDiv;exact zD7
theorem dB.shift(E:dB Y)(op:BinOp)(k:IntKind)(x:Int)(k2:IntKind)(y:Int):RR Y (VR Y) (Op.shift op k x k2 y) (Op.shift op k x k2 y):=by unfold Op.shift;exact zD7
theorem dB.stringOp(op:BinOp)(x y:WG):RR Y (VR Y) (Op.stringOp op x y) (Op.stringOp op x y):=by
 unfold Op.stringOp
 cases op<;>first
  |exact RR.AG VR.bool
  |exact RR.stuck _
  |(dsimp only;split<;>first|exact RR.dE _|exact RR.AG VR.str)
theorem Fl.vr{v:WB}(h:Fl v):VR Y v v:=VR.zero h.z
theorem dB.aX6(op:BinOp)(k:FloatKind)(x y:Nat):RR Y (VR Y) (Op.floatArith op k x y) (Op.floatArith op k x y)/\RR Y (VR Y) (Op.floatCmp op k x y) (Op.floatCmp op k x y):=
 ⟨Pl.rr (λv hv=>Fl.vr (.inl (by obtain⟨z,rfl⟩:=hv;exact⟨_,_,rfl⟩))) _ (aZt op k x y),Pl.rr (λv hv=>Fl.vr (.inr (.inr hv))) _ (aZu op k x y)⟩
theorem dB.bJ2(E:dB Y)(t:WI)(hx:VR Y x x')(hy:VR Y y y'):RR Y (VR Y) (do Pure.pure (Value.bool (<-Op.equal t x y))) (do Pure.pure (Value.bool (<-Op.equal t x' y')))/\RR Y (VR Y) (do Pure.pure (Value.bool !(<-Op.equal t x y))) (do Pure.pure (Value.bool !(<-Op.equal t x' y'))):=by
 constructor;all_goals
  refine RR.AF (E.equalIn _ _ hx hy) ?_
  rintro b _ rfl
  exact RR.AG VR.bool
end
end
