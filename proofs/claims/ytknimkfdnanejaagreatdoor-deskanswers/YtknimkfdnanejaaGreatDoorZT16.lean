import Derived.Test.YtknimkfdnanejaaGreatDoorZT13
import Derived.Test.YtknimkfdnanejaaGreatDoorZT14
namespace Go.Proofs.YtknimkfdnanejaaGreatDoor
open Go.RowKit Go.Proofs.Tryz
set_option maxRecDepth 100000
set_option maxHeartbeats 16000000
section
variable{Bi I R base i j n:Nat}{G cap:Nat->Nat}{aC x:Int}{v:Value}{w w':World}
theorem aK9(C cb:Nat)(n cI:Nat)(cs:List Int)(dI:cs.length=n)(w:World)(c11:w.cell? (aA C 11)=some (sL cb n cI))(ck:∀j,j<cs.length->w.cell? (aA cb j)=some (iI (cs.getD j 0)))(eE:∀x∈cs,-274877906944<=x/\x<=274877906944)(i j:Nat)(hi:i<n)(hj:j<n):
  Calls prog 212 #[pP C,iI i,iI j] w fun e w'=>e=rT (iI (cs.getD i 0-cs.getD j 0))/\∃q,w'=w.drewN q:=by have sG:=dY c11;have k0:=ck i od;have k1:=ck j od;have hlb:=dY k0;have b0:=eE _ (tM (show i<cs.length by omega));have b1:=eE _ (tM (show j<cs.length by omega));have ii:(i:Int)<(n:Int):=od;have jj:(j:Int)<(n:Int):=od;generalize cs.getD i 0=X at *;generalize cs.getD j 0=Y at *;clear ck eE;go_enter func212,ntmps212;exact zDj
theorem Tryz.infoRow9:(Tryz.prog.info? 55).map (fun i=>(i.zero,i.size,i.bytes))=some (some (sV none 0 0),1,24):=by kernel_rfl
structure RTab(w:World)(base R n I:Nat)(f:Nat->Nat->Int)(G cap:Nat->Nat)(Bi:Nat)(v:Value):Prop where
 row:∀i,i<I->w.cell? (aA R i)=some (.slice (some ⟨G i,0,none⟩) n (cap i))
 cel:∀i j,i<I->j<n->w.cell? ⟨G i,j,none⟩=some (iI (f i j))
 zG:∀i j,i<I->w.frozen? ⟨G i,j,none⟩=false
 cur:I<n->w.cell? (aA R I)=some v
 rest:∀i,I<i->i<n->w.cell? (aA R i)=some (.slice none 0 0)
 zR:∀i,w.frozen? (aA R i)=false
 lt:∀i,i<I->G i<Bi
 lo:∀i,i<I->base<=G i/\G i≠R
 ne:∀i i',i<I->i'<I->i≠i'->G i≠G i'
 lR:R<Bi
 bR:base<=R
 lB:Bi<=w.heap.size
theorem RTab.grow{f:Nat->Nat->Int}(h:RTab w base R n I f G cap Bi v)(hI:I<n)(k:Below Bi w w')(v':Value):RTab (w'.setCell (aA R I) v') base R n I f G cap Bi v':=by
 have cR:∀i,w'.cell? (aA R i)=w.cell? (aA R i):=fun i=>k.cell (p:=(aA R i)) h.lR;have cG:∀i j,i<I->w'.cell? ⟨G i,j,none⟩=w.cell? ⟨G i,j,none⟩:=fun i j hi=>k.cell (p:=⟨G i,j,none⟩) (h.lt i hi);refine⟨fun i hi=>?_,fun i j hi hj=>?_,fun i j hi=>?_,fun _=>?_,fun i h1 h2=>?_,fun i=>?_,h.lt,h.lo,h.ne,h.lR,h.bR,?_⟩
 ·have:i≠I:=by omega
  exact(aB (.inr this)).trans ((cR i).trans (h.row i hi))
 ·exact(aB (.inl (h.lo i hi).2)).trans ((cG i j hi).trans (h.cel i j hi hj))
 ·exact bI.trans ((k.frozen (p:=⟨G i,j,none⟩) (h.lt i hi)).trans (h.zG i j hi))
 ·exact aY ((cR I).trans (h.cur hI))
 ·have:i≠I:=by omega
  exact(aB (.inr this)).trans ((cR i).trans (h.rest i h1 h2))
 ·exact bI.trans ((k.frozen (p:=(aA R i)) h.lR).trans (h.zR i))
 ·have:=h.lB;have:=k.size;simp;omega
theorem RTab.next{f:Nat->Nat->Int}(h:RTab w base R n I f G cap Bi v)(hI:I<n)(hb:base<=Bi)(ho:w.ownsRow Bi 3 1 v n ((List.range n).map fun j=>iI (f I j))):∃G' cap',RTab w base R n (I+1) f G' cap' w.heap.size (.slice none 0 0):=by
 rcases ho.2 with⟨_,e⟩|⟨g,c,cur,hv,hg,hh,_⟩
 ·omega
 ·have tE:g<w.heap.size:=by exact zGp
  have sP:∀j,j<n->w.cell? (aA g j)=some (iI (f I j)):=fun j hj=>by have:=ho.cells (g:=g) (by rw[hv];rfl) j (iI (f I j)) (by simp[hj]);exact zCx
  have hz:∀j,w.frozen? (aA g j)=false:=fun j=>by simp[World.frozen?,hh]
  have old:∀i,i<I->i≠I:=fun i hi=>by omega
  refine⟨fun i=>if i=I then g else G i,fun i=>if i=I then c else cap i,⟨fun i hi=>?_,fun i j hi hj=>?_,fun i j hi=>?_,fun hI2=>h.rest (I+1) od hI2,fun i h1 h2=>h.rest i od h2,h.zR,fun i hi=>?_,fun i hi=>?_,fun i i' hi qC dM=>?_,kB h.lR h.lB,h.bR,kF _⟩⟩
  ·by_cases e:i=I
   ·subst e;rw[kJ rfl,kJ rfl,<-hv];exact h.cur hI
   ·rw[kI e,kI e];exact h.row i od
  ·by_cases e:i=I
   ·subst e;rw[kJ rfl];exact sP j hj
   ·rw[kI e];exact h.cel i j od hj
  ·by_cases e:i=I
   ·subst e;rw[kJ rfl];exact hz j
   ·rw[kI e];exact h.zG i j od
  ·by_cases e:i=I
   ·rw[kJ e];exact tE
   ·rw[kI e];have:=h.lt i od;have:=h.lB;omega
  ·by_cases e:i=I
   ·rw[kJ e];have:=h.lR;exact⟨od,od⟩
   ·rw[kI e];exact h.lo i od
  ·by_cases e:i=I
   ·rw[kJ e,kI (show ¬i'=I by omega)];have:=h.lt i' od;omega
   ·rw[kI e];by_cases e':i'=I
    ·rw[kJ e'];have:=h.lt i od;omega
    ·rw[kI e'];exact h.ne i i' od od dM
theorem bD4{wr w2 w3:World}{gq cq:Nat}{cs:List Int}{X:Int}(h1:w2.ownsRow Bi 3 1 v j ((List.range j).map fun j=>iI (cs.getD j 0-cs.getD i 0)))(h2:Below Bi wr w2)(h3:Bi<=w2.heap.size)(hX:cs.getD j 0-cs.getD i 0=X)(ho:w3.ownsRow Bi 3 1 (sL gq (j+1) cq) (j+1) (((List.range j).map fun j=>iI (cs.getD j 0-cs.getD i 0))++[iI X]))(hg:(w2.alloc (.cells #[iI X] 3)).grownBy w3 v.ownBlock):Below Bi wr w3/\w3.ownsRow Bi 3 1 (sL gq (j+1) cq) (j+1) ((List.range (j+1)).map fun j=>iI (cs.getD j 0-cs.getD i 0)):=by refine⟨(h2.alloc h3 _).grown hg ol (fun g hg=>(h1.lt g hg).1),?_⟩;rw[List.range_succ,List.map_append];show w3.ownsRow Bi 3 1 _ (j+1) (_++[iI (cs.getD j 0-cs.getD i 0)]);rw[hX];exact ho
theorem RTab.below{f:Nat->Nat->Int}(h:RTab w base R n n f G cap Bi v)(k:Below Bi w w'):RTab w' base R n n f G cap Bi v:=
 ⟨fun i hi=>bc k h.lR (h.row i hi),fun i j hi hj=>(k.cell (p:=⟨G i,j,none⟩) (h.lt i hi)).trans (h.cel i j hi hj),fun i j hi=>(k.frozen (p:=⟨G i,j,none⟩) (h.lt i hi)).trans (h.zG i j hi),fun hn=>absurd hn (kU _),fun i h1 h2=>absurd h2 od,fun i=>(k.frozen (p:=(aA R i)) h.lR).trans (h.zR i),h.lt,h.lo,h.ne,h.lR,h.bR,kG h.lB k.size⟩
theorem RTab.set{f g:Nat->Nat->Int}(h:RTab w base R n n f G cap Bi v)(hi:i<n)(hj:j<n)(hg:∀i' j',i'<n->j'<n->g i' j'=if i'=i/\j'=j then x else f i' j'):RTab (w.setCell ⟨G i,j,none⟩ (iI x)) base R n n g G cap Bi v:=by
 refine⟨fun i' qC=>(aB (.inl (Ne.symm (h.lo i hi).2))).trans (h.row i' qC),fun i' j' qC D8=>?_,fun i' j' qC=>bI.trans (h.zG i' j' qC),fun hn=>absurd hn (kU _),fun i' h1 h2=>absurd h2 od,fun i'=>bI.trans (h.zR i'),h.lt,h.lo,h.ne,h.lR,h.bR,?_⟩
 ·rw[hg i' j' qC D8];by_cases e:i'=i/\j'=j
  ·obtain⟨rfl,rfl⟩:=e;rw[kJ ⟨rfl,rfl⟩];exact aY (h.cel i' j' hi hj)
  ·rw[kI e];by_cases e1:i'=i
   ·have e2:j'≠j:=fun y=>e ⟨e1,y⟩;exact(aB (.inr e2)).trans (h.cel i' j' qC D8)
   ·exact(aB (.inl (h.ne i' i qC hi e1))).trans (h.cel i' j' qC D8)
 ·have:=h.lB;simpa using this
def fV(r:cT)(n:Nat)(fa aC:Int)(cs:List Int)(k:Nat):Nat->Nat->Int:=readAll n (aW fa) aC (fun i=>cs.getD i 0) ((List.range k).map fun i=>⟨r.rn i,r.ro i,r.ri i⟩)
theorem T1(r:cT)(n:Nat)(fa aC:Int)(cs:List Int)(k:Nat):fV r n fa aC cs (k+1)=jG n (aW fa) aC (fun i=>cs.getD i 0) ⟨r.rn k,r.ro k,r.ri k⟩ (fV r n fa aC cs k):=by unfold fV readAll;rw[List.range_succ,List.map_append,List.foldl_append];rfl
theorem aAo{lies:Nat->Bool}{now:Nat->Int}{row:Nat->Nat->Int}(hi:i<n)(hj:j<n)(dM:(i:Int)≠(j:Int))(i2 j2:Nat):jG n lies aC now ⟨i,j,x⟩ row i2 j2=if i2=i/\j2=j then(if lies j=true then cutV x 549755813888 else now j-now i+cutV x aC)else row i2 j2:=by
 unfold jG;by_cases e:i2=i/\j2=j
 ·obtain⟨rfl,rfl⟩:=e;rw[kJ (show(0<=(i2:Int)/\(i2:Int)<n)/\(0<=(j2:Int)/\(j2:Int)<n)/\(i2:Int)≠(j2:Int)/\(i2:Int)=(i2:Int)/\(j2:Int)=(j2:Int)from⟨⟨od,od⟩,⟨od,od⟩,dM,rfl,rfl⟩),kJ (show i2=i2/\j2=j2 from⟨rfl,rfl⟩)]
 ·rw[kI e,kI];rintro⟨_,_,_,e1,e2⟩;have e1':(i2:Int)=(i:Int):=e1;have e2':(j2:Int)=(j:Int):=e2;exact e ⟨od,od⟩
theorem vC{lies:Nat->Bool}{now:Nat->Int}{a b:Int}{row:Nat->Nat->Int}(h:¬((0<=a/\a<n)/\(0<=b/\b<n)/\a≠b)):jG n lies aC now ⟨a,b,x⟩ row=row:=by funext i2 j2;unfold jG;rw[kI];rintro⟨e1,e2,e3,_⟩;exact h ⟨e1,e2,e3⟩
theorem aSk(most:Int)(v:World):Calls prog 162 #[iI most] v fun e w'=>∃L,e=rT (.func (.func 200) #[] #[pP L])/\v.heap.size<=L/\w'.cell? (aA L 0)=some (iI most)/\L<w'.heap.size/\bW v w':=by refine(aGh most v).mono ?_;rintro e w' ⟨he,rfl⟩;exact⟨_,he,kF _,oh,oh,(kX _ _).alloc (kF _) _⟩
theorem bAl(w:World)(a b c:Value)(t:TypeId):(w.alloc (.cells #[a,b,c] t)).cell? (aA w.heap.size 0)=some a/\(w.alloc (.cells #[a,b,c] t)).cell? (aA w.heap.size 1)=some b/\(w.alloc (.cells #[a,b,c] t)).cell? (aA w.heap.size 2)=some c/\bW w (w.alloc (.cells #[a,b,c] t))/\(w.alloc (.cells #[a,b,c] t)).heap.size=w.heap.size+1:=
 ⟨oh,oh,oh,(kX _ _).alloc (kF _) _,oh⟩
theorem aOw(C cb n cI:Nat)(fa aC:Int)(cs:List Int)(dI:cs.length=n)(w:World)(c0:w.cell? ⟨C,0,none⟩=some (.int .i64 n))(c3:w.cell? ⟨C,3,none⟩=some (.int .i64 aC))(c10:w.cell? ⟨C,10,none⟩=some (.int .i64 fa))(c11:w.cell? ⟨C,11,none⟩=some (.slice (some ⟨cb,0,none⟩) n cI))(ck:∀j,j<cs.length->w.cell? ⟨cb,j,none⟩=some (.int .i64 (cs.getD j 0)))(eE:∀x∈cs,-274877906944<=x/\x<=274877906944)(hn0:1<=n)(hn:n<=16)(aH0:0<=aC)(hji:aC<=137438953472)(r:cT)(a:Option Addr)(cap:Nat)(hr:dX w a r.nR r.rn r.ro r.ri)(hnR:r.nR<=9223372036854775807):
  Calls prog 168 #[.pointer (some ⟨C,0,none⟩),.slice a r.nR cap] w fun e w'=>∃R G rF Bi,e=.returned (.slice (some ⟨R,0,none⟩) n n)/\RTab w' w.heap.size R n n (readAll n (aW fa) aC (fun i=>cs.getD i 0) r.reads) G rF Bi (.slice none 0 0)/\Below w.heap.size w w':=by
 have sG:=dY c11;obtain⟨i0,hi,lO,mX,jX⟩:=info_parts Tryz.infoRow9;have hmk:=run_makeSlice (P:=prog) w 179 55 i0 _ underlying179 hi lO .i64 .i64 (n:Int) (n:Int) od (Int.le_refl _) Jj jw od;rw[Int.toNat_natCast,mX,Nat.mul_one]at hmk;clear hi lO mX jX;obtain⟨i1,hiI,R8,hy1,M3⟩:=info_parts Tryz.uZ;have aTb:=dY (ck 0 od);have hap:=fun(v:World)(hv:Below w.heap.size w v)(i j:Nat)(hi:i<n)(hj:j<n)=>aK9 C cb n cI cs dI v ((hv.cell (p:=⟨C,11,none⟩) sG).trans c11) (fun j hj=>(hv.cell (p:=⟨cb,j,none⟩) aTb).trans (ck j hj)) eE i j hi hj;have HAP:Hid _:=hap;have HT0:Hid ((∃G cap,RTab (w.alloc (.cells (madeCells #[.slice none 0 0] n) 55)) w.heap.size w.heap.size n 0 (fun i j=>cs.getD j 0-cs.getD i 0) G cap (w.alloc (.cells (madeCells #[.slice none 0 0] n) 55)).heap.size (.slice none 0 0))/\Below w.heap.size w (w.alloc (.cells (madeCells #[.slice none 0 0] n) 55))):=by
  have hc:∀i,i<n->(w.alloc (.cells (madeCells #[.slice none 0 0] n) 55)).cell? ⟨w.heap.size,i,none⟩=some (.slice none 0 0):=fun i hi=>by simp[madeCells,hi,Nat.mod_one]
  exact⟨⟨fun _=>0,fun _=>0,fun i hi=>absurd hi (kT _),fun i _ hi=>absurd hi (kT _),fun i _ hi=>absurd hi (kT _),fun h=>hc 0 h,fun i _ h2=>hc i h2,fun i=>by simp,fun i hi=>absurd hi (kT _),fun i hi=>absurd hi (kT _),fun i _ hi=>absurd hi (kT _),oh,kF _,kF _⟩,(kX _ _).alloc (kF _) _⟩
 have HRR:Hid (dX w a r.nR r.rn r.ro r.ri):=hr;obtain⟨nR,bBv⟩:∃nR,r.nR=nR:=⟨_,rfl⟩;have HNR:Hid (r.nR=nR):=bBv;rw[bBv]at hnR⊢;have HJI:Hid (0<=aC/\aC<=137438953472):=⟨aH0,hji⟩;clear hr bBv;have HCS:Hid (cs.length=n/\(∀j,j<cs.length->w.cell? ⟨cb,j,none⟩=some (.int .i64 (cs.getD j 0)))/\∀x∈cs,-274877906944<=x/\x<=274877906944):=⟨dI,ck,eE⟩;clear dI ck eE hap;go_enter func168,ntmps168;go_wp2_with fail;clear hmk;generalize w.alloc (.cells (madeCells #[.slice none 0 0] n) 55)=V at *;go_loopw[20] (fun t wr=>∃i:Nat,i<=n/\t=.int .i64 i/\Hid ((∃G cap,RTab wr w.heap.size w.heap.size n i (fun i j=>cs.getD j 0-cs.getD i 0) G cap wr.heap.size (.slice none 0 0))/\Below w.heap.size w wr)) (fun t _=>n-(intOf t).toNat);case atStart=>exact⟨0,kH _,rfl,HT0⟩
 case round=>
  obtain⟨i,hi,rfl,HI⟩:=hrel;clear HT0;by_cases hlt:i<n
  ·have ii:(i:Int)<(n:Int):=by omega
   have y11:=(HI.out.2.cell (p:=⟨C,11,none⟩) sG).trans c11;have aEd:C<wr.heap.size:=kB sG HI.out.2.size;obtain⟨G,rF,J0⟩:=HI.out.1;have yM:=HI.out.2;obtain⟨Bi,hBi⟩:∃Bi,wr.heap.size=Bi:=⟨_,rfl⟩;rw[hBi]at J0;have HJ0:Hid (∃v,RTab wr w.heap.size w.heap.size n i (fun i j=>cs.getD j 0-cs.getD i 0) G rF Bi v/\wr.ownsRow Bi 3 1 v 0 ((List.range 0).map fun j=>.int .i64 (cs.getD j 0-cs.getD i 0))/\Below w.heap.size w wr):=⟨_,J0,World.ownsRow_nil _ _ _ _,yM⟩;have HBi:Hid (w.heap.size<=Bi):=by show w.heap.size<=Bi;rw[<-hBi];exact yM.size
   clear J0 yM HI hBi;go_wp2_with fail;clear y11 aEd;rename World=>wq
   go_loopw[28] (fun t wr=>∃j:Nat,j<=n/\t=.int .i64 j/\Hid (∃v,RTab wr w.heap.size w.heap.size n i (fun i j=>cs.getD j 0-cs.getD i 0) G rF Bi v/\wr.ownsRow Bi 3 1 v j ((List.range j).map fun j=>.int .i64 (cs.getD j 0-cs.getD i 0))/\Below w.heap.size w wr)) (fun t _=>n-(intOf t).toNat);case atStart=>exact⟨0,kH _,rfl,HJ0⟩
   case round=>
    obtain⟨j,hj,rfl,HJ⟩:=hrel;clear HJ0;by_cases hlj:j<n
    ·have jj:(j:Int)<(n:Int):=by omega
     obtain⟨v,J0,bK,yM⟩:=HJ.out;have yR:=J0.cur hlt;have zR:=J0.zR i;have hlR:w.heap.size<wr.heap.size:=kB J0.lR J0.lB;have bBg:=HAP.out wr.drew ⟨yM.os,yM.tape,yM.output,yM.size,yM.block⟩ j i hlj hlt;generalize hXe:cs.getD j 0-cs.getD i 0=X at bBg;have HXe:Hid (cs.getD j 0-cs.getD i 0=X):=hXe;have HTB:Hid _:=J0;have H3:Hid (wr.ownsRow Bi 3 1 v j ((List.range j).map fun j=>.int .i64 (cs.getD j 0-cs.getD i 0))):=bK;have HBW:Hid (Below w.heap.size w wr):=yM;have HLT:Hid (i<n):=hlt;clear hXe HJ J0 bK yM;go_wp2_with fail;refine wp_region_noPanic ?_;have bL8:=0;exact zOb
    ·have hjn:j=n:=by omega
     have HN:Hid ((∃G cap,RTab wr w.heap.size w.heap.size n (i+1) (fun i j=>cs.getD j 0-cs.getD i 0) G cap wr.heap.size (.slice none 0 0))/\Below w.heap.size w wr):=by obtain⟨v,h1,h2,h3⟩:=HJ.out;rw[hjn]at h2;exact⟨h1.next hlt HBi.out h2,h3⟩
     have kk:decide (j<n)=false:=kC hlj;clear HJ hjn hlj;go_wp2;go_roundw;case rel=>exact⟨i+1,od,ow,HN⟩
     case measure=>simp[intOf];omega
  ·have eE:i=n:=by omega
   obtain⟨G,rF,J0⟩:=HI.out.1;have HT1:Hid (RTab wr w.heap.size w.heap.size n n (fun i j=>cs.getD j 0-cs.getD i 0) G rF wr.heap.size (.slice none 0 0)):=by rw[<-eE];rw[<-eE]at J0;exact J0
   have oP:Hid (Below w.heap.size w wr):=HI.out.2;have kk:decide (i<n)=false:=kC hlt;have y3:=(oP.out.cell (p:=⟨C,3,none⟩) sG).trans c3;have aEd:C<wr.heap.size:=kB sG oP.out.size;have rH:=fun v=>aSk 549755813888 v;have R2:=fun v=>aSk aC v;clear J0 HI eE hlt;go_wp2_with fail;go_region_held3(fun u=>u.cell? ⟨C,3,none⟩=some (.int .i64 aC)) (go_keep) (first
    |(go_at_call 162;refine(R2 _).mono ?_;rintro e v2 ⟨L2,rfl,q1,q2,q3,q4⟩;have HL2:Hid ((wr.heap.size<=L1/\L1<v2.heap.size/\v2.cell? ⟨L1,0,none⟩=some (.int .i64 549755813888))/\(wr.heap.size<=L2/\L2<v2.heap.size/\v2.cell? ⟨L2,0,none⟩=some (.int .i64 aC))/\Below wr.heap.size wr v2):=(by obtain⟨a1,a2,a3,a4⟩:=HL1.out;exact⟨⟨a1,kB a2 q4.size,(q4.cell (p:=⟨L1,0,none⟩) a2).trans a3⟩,⟨kG a4.size q1,q3,q2⟩,a4.trans (q4.mono a4.size)⟩);have z3:=(HL2.out.2.2.cell (p:=⟨C,3,none⟩) aEd).trans y3;clear q1 q2 q3 q4)
    |(go_at_call 162;refine(rH _).mono ?_;rintro e v1 ⟨L1,rfl,q1,q2,q3,q4⟩;have HL1:Hid (wr.heap.size<=L1/\L1<v1.heap.size/\v1.cell? ⟨L1,0,none⟩=some (.int .i64 549755813888)/\Below wr.heap.size wr v1):=⟨q1,q3,q2,⟨q4.os,q4.tape,q4.output,q4.size,q4.block⟩⟩;have z3:=(HL1.out.2.2.2.cell (p:=⟨C,3,none⟩) aEd).trans y3;clear q1 q2 q3 q4))
   obtain⟨Bi,hBi⟩:∃Bi,wr.heap.size=Bi:=⟨_,rfl⟩;have HST:Hid (RTab v2 w.heap.size w.heap.size n n (fV r n fa aC cs 0) G rF Bi (.slice none 0 0)/\((Bi<=L1/\v2.cell? ⟨L1,0,none⟩=some (.int .i64 549755813888))/\Bi<=L2/\v2.cell? ⟨L2,0,none⟩=some (.int .i64 aC))/\Below w.heap.size w v2):=by obtain⟨⟨a1,a2,a3⟩,⟨a4,a5,a6⟩,a7⟩:=HL2.out;rw[hBi]at a1 a4 a7;have h1:=HT1.out;rw[hBi]at h1;exact⟨h1.below a7,⟨⟨a1,a3⟩,a4,a6⟩,oP.out.trans (a7.mono (by rw[<-hBi];exact oP.out.size))⟩
   have HBi:Hid (w.heap.size<=Bi):=by show w.heap.size<=Bi;rw[<-hBi];exact oP.out.size
   clear HL1 HL2 HT1 oP y3 aEd rH R2 z3 kk hBi;go_wp2_with fail;rename World=>wq
   go_loopw[55] (fun t wr=>∃k:Nat,k<=nR/\t=.int .i64 k/\Hid (RTab wr w.heap.size w.heap.size n n (fV r n fa aC cs k) G rF Bi (.slice none 0 0)/\((Bi<=L1/\wr.cell? ⟨L1,0,none⟩=some (.int .i64 549755813888))/\Bi<=L2/\wr.cell? ⟨L2,0,none⟩=some (.int .i64 aC))/\Below w.heap.size w wr)) (fun t _=>nR-(intOf t).toNat);case atStart=>exact⟨0,kH _,rfl,HST⟩
   case round=>
    clear HST;obtain⟨k,hk,rfl,HI⟩:=hrel;by_cases hlt:k<nR
    ·obtain⟨b,off,rfl,hb,hc⟩:=HRR.out (by rw[HNR.out];omega);obtain⟨x0,x1,x2⟩:=hc k (by rw[HNR.out];exact hlt);have y0:=(HI.out.2.2.cell (p:=⟨b,off+k*3,none⟩) hb).trans x0;have y1:=(HI.out.2.2.cell (p:=⟨b,off+k*3+1,none⟩) hb).trans x1;have y2:=(HI.out.2.2.cell (p:=⟨b,off+k*3+2,none⟩) hb).trans x2;have hbw:b<wr.heap.size:=kB hb HI.out.2.2.size;have kk:(k:Int)<(nR:Int):=od;have HSU:Hid (fV r n fa aC cs (k+1)=jG n (aW fa) aC (fun i=>cs.getD i 0) ⟨r.rn k,r.ro k,r.ri k⟩ (fV r n fa aC cs k)):=T1 ..;generalize r.rn k=NX at *;generalize r.ro k=OX at *;generalize r.ri k=IX at *;obtain⟨q0,q1,q2,qB,qS⟩:=bAl wr (.int .i64 NX) (.int .i64 OX) (.int .i64 IX) 146;have aEd:C<wr.heap.size:=kB sG HI.out.2.2.size;have uO:Hid (Below wr.heap.size wr (wr.alloc (.cells #[.int .i64 NX,.int .i64 OX,.int .i64 IX] 146))):=qB;have d0:=(qB.cell (p:=⟨C,0,none⟩) aEd).trans ((HI.out.2.2.cell (p:=⟨C,0,none⟩) sG).trans c0);have d10:=(qB.cell (p:=⟨C,10,none⟩) aEd).trans ((HI.out.2.2.cell (p:=⟨C,10,none⟩) sG).trans c10);have tQ:C<(wr.alloc (.cells #[.int .i64 NX,.int .i64 OX,.int .i64 IX] 146)).heap.size:=jc;have N5:wr.heap.size<(wr.alloc (.cells #[.int .i64 NX,.int .i64 OX,.int .i64 IX] 146)).heap.size:=jc;have hnd:=fun(x:Int)=>rV C n x (wr.alloc (.cells #[.int .i64 NX,.int .i64 OX,.int .i64 IX] 146)) d0;clear x0 x1 x2 hc qS qB;by_cases hv:(0<=NX/\NX<n)/\(0<=OX/\OX<n)/\NX≠OX
     ·obtain⟨⟨v1,v2'⟩,⟨v3,v4⟩,v5⟩:=hv;obtain⟨i',rfl⟩:∃i':Nat,NX=i':=⟨NX.toNat,od⟩;obtain⟨j',rfl⟩:∃j':Nat,OX=j':=⟨OX.toNat,od⟩;have hii:i'<n:=od;have hjj:j'<n:=od;have lK:=hnd (i':Int);have wC:=hnd (j':Int);rw[kD (show 0<=(i':Int)/\(i':Int)<n from⟨v1,v2'⟩)]at lK;rw[kD (show 0<=(j':Int)/\(j':Int)<n from⟨v3,v4⟩)]at wC;have k5:((i':Int)==(j':Int))=false:=by simpa using v5
      have yO:=fun v=>yJ fa j' od v;have HG:Hid (∀i2 j2,fV r n fa aC cs (k+1) i2 j2=if i2=i'/\j2=j' then(if aW fa j'=true then cutV IX 549755813888 else cs.getD j' 0-cs.getD i' 0+cutV IX aC)else fV r n fa aC cs k i2 j2):=fun i2 j2=>by rw[HSU.out];exact aAo hii hjj v5 i2 j2
      have gR:=(uO.out.cell (p:=⟨w.heap.size,i',none⟩) (kB HI.out.1.lR HI.out.1.lB)).trans (HI.out.1.row i' hii);have gC:=(uO.out.cell (p:=⟨G i',j',none⟩) (kB (HI.out.1.lt i' hii) HI.out.1.lB)).trans (HI.out.1.cel i' j' hii hjj);have gZ:=(uO.out.frozen (p:=⟨G i',j',none⟩) (kB (HI.out.1.lt i' hii) HI.out.1.lB)).trans (HI.out.1.zG i' j' hii);have hGl:G i'<(wr.alloc (.cells #[.int .i64 i',.int .i64 j',.int .i64 IX] 146)).heap.size:=by have:=HI.out.1.lt i' hii;have:=HI.out.1.lB;omega
      have hRl:w.heap.size<(wr.alloc (.cells #[.int .i64 i',.int .i64 j',.int .i64 IX] 146)).heap.size:=by have:=HI.out.1.lR;have:=HI.out.1.lB;omega
      have hGR:G i'≠w.heap.size:=(HI.out.1.lo i' hii).2;have hGb:G i'≠wr.heap.size:=by have:=HI.out.1.lt i' hii;have:=HI.out.1.lB;omega
      have hGC:G i'≠C:=by have:=(HI.out.1.lo i' hii).1;omega
      have hL1:L1<wr.heap.size:=dY HI.out.2.1.1.2;have hL2:L2<wr.heap.size:=dY HI.out.2.1.2.2;have l1:=(uO.out.cell (p:=⟨L1,0,none⟩) hL1).trans HI.out.2.1.1.2;have l2:=(uO.out.cell (p:=⟨L2,0,none⟩) hL2).trans HI.out.2.1.2.2;have hG1:G i'≠L1:=by have:=HI.out.1.lt i' hii;have:=HI.out.2.1.1.1;omega
      have hG2:G i'≠L2:=by have:=HI.out.1.lt i' hii;have:=HI.out.2.1.2.1;omega
      have HNX:Hid (∀x:Int,∀u:Nat,(∀i2 j2,fV r n fa aC cs (k+1) i2 j2=if i2=i'/\j2=j' then x else fV r n fa aC cs k i2 j2)->RTab (((wr.alloc (.cells #[.int .i64 i',.int .i64 j',.int .i64 IX] 146)).drewN u).setCell ⟨G i',j',none⟩ (.int .i64 x)) w.heap.size w.heap.size n n (fV r n fa aC cs (k+1)) G rF Bi (.slice none 0 0)/\((Bi<=L1/\(((wr.alloc (.cells #[.int .i64 i',.int .i64 j',.int .i64 IX] 146)).drewN u).setCell ⟨G i',j',none⟩ (.int .i64 x)).cell? ⟨L1,0,none⟩=some (.int .i64 549755813888))/\Bi<=L2/\(((wr.alloc (.cells #[.int .i64 i',.int .i64 j',.int .i64 IX] 146)).drewN u).setCell ⟨G i',j',none⟩ (.int .i64 x)).cell? ⟨L2,0,none⟩=some (.int .i64 aC))/\Below w.heap.size w (((wr.alloc (.cells #[.int .i64 i',.int .i64 j',.int .i64 IX] 146)).drewN u).setCell ⟨G i',j',none⟩ (.int .i64 x))):=fun x u hg=>by obtain⟨t1,⟨⟨t2,t3⟩,t4,t5⟩,t6⟩:=HI.out;have hb':Below wr.heap.size wr ((wr.alloc (.cells #[.int .i64 i',.int .i64 j',.int .i64 IX] 146)).drewN u):=⟨uO.out.os,uO.out.tape,uO.out.output,uO.out.size,uO.out.block⟩;refine⟨(t1.below (hb'.mono t1.lB)).set hii hjj (fun i2 j2 _ _=>hg i2 j2),⟨⟨t2,(aB (.inl (Ne.symm hG1))).trans l1⟩,t4,(aB (.inl (Ne.symm hG2))).trans l2⟩,?_⟩;exact(t6.trans (hb'.mono t6.size)).trans (((aU.refl (G i') (G i') _).set (p:=⟨G i',j',none⟩) (.inl rfl) _).below (by have:=t6.size;have:=hb'.size;omega) (t1.lo i' hii).1 (t1.lo i' hii).1)
      have bNk:-549755813888<=cutV IX 549755813888/\cutV IX 549755813888<=549755813888:=xC oe;have bNl:-aC<=cutV IX aC/\cutV IX aC<=aC:=xC aH0;have gI:(i':Int)<(n:Int):=od;have gJ:(j':Int)<(n:Int):=od;clear hnd HSU v5;exact zLa
     ·have HNN:Hid (RTab (wr.alloc (.cells #[.int .i64 NX,.int .i64 OX,.int .i64 IX] 146)) w.heap.size w.heap.size n n (fV r n fa aC cs (k+1)) G rF Bi (.slice none 0 0)/\((Bi<=L1/\(wr.alloc (.cells #[.int .i64 NX,.int .i64 OX,.int .i64 IX] 146)).cell? ⟨L1,0,none⟩=some (.int .i64 549755813888))/\Bi<=L2/\(wr.alloc (.cells #[.int .i64 NX,.int .i64 OX,.int .i64 IX] 146)).cell? ⟨L2,0,none⟩=some (.int .i64 aC))/\Below w.heap.size w (wr.alloc (.cells #[.int .i64 NX,.int .i64 OX,.int .i64 IX] 146))):=by obtain⟨t1,⟨⟨t2,t3⟩,t4,t5⟩,t6⟩:=HI.out;rw[HSU.out,vC hv];exact⟨t1.below (uO.out.mono t1.lB),⟨⟨t2,(uO.out.cell (p:=⟨L1,0,none⟩) (dY t3)).trans t3⟩,t4,(uO.out.cell (p:=⟨L2,0,none⟩) (dY t5)).trans t5⟩,t6.trans (uO.out.mono t6.size)⟩
      clear HI HSU uO;by_cases w1:0<=NX/\NX<(n:Int)
      ·by_cases w2:0<=OX/\OX<(n:Int)
       ·obtain rfl:NX=OX:=by
         by_cases e:NX=OX
         ·exact e
         ·exact absurd ⟨w1,w2,e⟩ hv
        have lK:=hnd NX;rw[kD w1]at lK;clear hv hnd;go_wp2_with fail;clear y0 y1 y2;refine lK.mono ?_;rintro e v7 ⟨rfl,hv7⟩;replace hv7:=hv7.symm;subst hv7;go_wp2_with fail;exact zDu
       ·have lK:=hnd NX;have wC:=hnd OX;rw[kD w1]at lK;rw[kC w2]at wC;clear hv hnd w1 w2;have m94:=0;exact zLa
      ·have lK:=hnd NX;rw[kC w1]at lK;clear hv hnd w1;go_wp2_with fail;clear y0 y1 y2;exact zDu
    ·have M2:k=nR:=by omega
     have HD:Hid (RTab wr w.heap.size w.heap.size n n (readAll n (aW fa) aC (fun i=>cs.getD i 0) r.reads) G rF Bi (.slice none 0 0)/\Below w.heap.size w wr):=by obtain⟨t1,_,t6⟩:=HI.out;rw[M2,<-HNR.out]at t1;exact⟨t1,t6⟩
     have kk:decide (k<nR)=false:=kC hlt;clear M2 hlt HI;go_wp2;go_ret;exact⟨_,_,_,_,rfl,HD.out.1,HD.out.2⟩
end
def aN7(k:Nat):Bool:=(decide (110<=k)&&decide (k<=120))
theorem bD8(code:Code)(lN:Tryz.f56.body.bind (dU 19)=some code)(Q:Exit->Act->World->Prop)(C n uX c12 XB Gb rF a d:Nat)(E V:Int)(w:World)(ha:(a:Int)<(n:Int))(hd:(d:Int)<(n:Int))(x0:w.cell? (aA XB 0)=some (iI a))(x1:w.cell? (aA XB 1)=some (iI d))(x2:w.cell? (aA XB 2)=some (iI E))(yg:w.cell? (aA uX a)=some (sL Gb n rF))(yG:w.cell? (aA Gb d)=some (iI V))(zG:w.frozen? (aA Gb d)=false)(hXG:XB≠Gb)(hgG:uX≠Gb){L:List Value}(tC:L.length=452)(s0:L[0]?=some (pP C))(s12:L[12]?=some (sL uX n c12))(s17:L[17]?=some (pP XB))
  (cN:∀(L':List Value),L'.length=452->Rest aN7 L L'->Q .normal ⟨L'.toArray,[]⟩ (w.setCell (aA Gb d) (iI (cutV E 549755813888))).drew):
  Code.wp prog code Q ⟨L.toArray,[]⟩ w:=by have uR:(Tryz.f56.body.bind (dU 19)).getD Code.skip=code:=Ee;exact zOl
def aNb(k:Nat):Bool:=(decide (121<=k)&&decide (k<=154))
theorem bDc(code:Code)(lN:Tryz.f56.body.bind (dU 20)=some code)(Q:Exit->Act->World->Prop)(C n uX c12 XB Gb rF a d:Nat)(E V:Int)(ca off cI:Nat)(c1v c0v aC:Int)(hj0:0<=aC)(hj1:aC<=137438953472)(hq0:-274877906944<=c0v/\c0v<=274877906944)(hq1:-274877906944<=c1v/\c1v<=274877906944)(w:World)(ha:(a:Int)<(n:Int))(hd:(d:Int)<(n:Int))(x0:w.cell? (aA XB 0)=some (iI a))(x1:w.cell? (aA XB 1)=some (iI d))(x2:w.cell? (aA XB 2)=some (iI E))(yg:w.cell? (aA uX a)=some (sL Gb n rF))(yG:w.cell? (aA Gb d)=some (iI V))(zG:w.frozen? (aA Gb d)=false)(hXG:XB≠Gb)(hgG:uX≠Gb)(hCG:C≠Gb)(bBp:ca≠Gb)(y11:w.cell? (aA C 11)=some (sV (some (aA ca off)) n cI))(yd:w.cell? (aA ca (off+d))=some (iI c1v))(ya:w.cell? (aA ca (off+a))=some (iI c0v))(y3:w.cell? (aA C 3)=some (iI aC)){L:List Value}(tC:L.length=452)(s0:L[0]?=some (pP C))(s12:L[12]?=some (sL uX n c12))(s17:L[17]?=some (pP XB))
  (cN:∀(L':List Value),L'.length=452->Rest aNb L L'->Q .normal ⟨L'.toArray,[]⟩ (w.setCell (aA Gb d) (iI (c1v-c0v+cutV E aC))).drew):
  Code.wp prog code Q ⟨L.toArray,[]⟩ w:=by have uR:(Tryz.f56.body.bind (dU 20)).getD Code.skip=code:=Ee;have m52:=0;exact zOl
