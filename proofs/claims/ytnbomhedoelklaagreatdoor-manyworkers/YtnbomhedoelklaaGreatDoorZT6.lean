import Derived.Test.YtnbomhedoelklaaGreatDoorProg
import Derived.Test.YtnbomhedoelklaaGreatDoorZMnExt2
namespace Go.Proofs.YtnbomhedoelklaaGreatDoor
open Go.RowKit Go.Proofs.Tryz
set_option maxRecDepth 99999
set_option maxHeartbeats 0
section
section
variable{H:Type}{enc:WI×WB->H}{P:WJ}{w:WA}{base:Nat}{sp:Nat->Bool}{held:Bool}{t:WI}{cs:List WB}{p:List MemPlace}
theorem M0:∀{l:List (String×DataW Unit)}{ps:List MemPlace},DataW.LaidVars P w l ps->∀n d,(n,d)∈l->∃g t cs fuel p,P.globalNamed n=some g/\(P.globals[g]?).map (·.type)=some t/\w.var? P n=some cs/\DataW.trod (λ_=>()) P w 0 (λ_=>true) false fuel t cs.toList=some (d,p)/\∀x∈p,x∈ps
 |[],_,_,_,_,hm=>absurd hm oe
 |(m,e)::r,ps,h,n,d,hm=>by
  obtain⟨g,t,cs,fuel,p,q,h1,h2,h3,h4,h5,rfl⟩:=h;rcases kQ hm with hm|hm
  .cases hm;exact⟨g,t,cs,fuel,p,h1,h2,h3,h4,λx hx=>by simp[hx]⟩
  .obtain⟨g',t',cs',bEo,p',k1,k2,k3,k4,k5⟩:=M0 h5 n d hm;exact⟨g',t',cs',bEo,p',k1,k2,k3,k4,λx hx=>by simp[k5 x hx]⟩
def bDt{H:Type}(enc:WI×WB->H)(P:WJ)(w:WA)(base:Nat)(sp:Nat->Bool)(held:Bool)(n:Nat)(t:WI)(cs:List WB)(p:List MemPlace):DataW H->Prop
 |.lit (.string s)=>∃b:WG,cs=[sT b]/\s=b.data.toList
 |.ptr d=>∃e a cs' q,P.underlying t=some (.pointer e)/\cs=[.pointer (some a)]/\w.cells? base a (P.cellsOf e)=some cs'/\DataW.trod enc P w base sp held n e cs'=some (d,q)/\p=MemPlace.row a (P.cellsOf e)++q
 |.iface _ d=>∃u v,cs=[.iface u v]/\DataW.trod enc P w base sp held n u v.cells.toList=some (d,p)
 |.agg [d]=>∃u i m q,DataW.trod enc P w base sp held n u ((cs.drop i).take m)=some (d,q)
 |_=>True
theorem aTy{α β:Type}{f:α->Option β}{l:List α}{y:β}(h:l.mapM f=some [y]):∃x,l=[x]/\f x=some y:=by
 rcases l with _|⟨a,l⟩
 .simp at h
 .simp only[List.mapM_cons,Option.bind_eq_bind,Option.bind_eq_some_iff,Option.pure_def,AI]at h;obtain⟨b,hb,r,hr,e⟩:=h;rcases l with _|⟨c,l⟩
  .simp only[List.mapM_nil,Option.pure_def,AI]at hr;subst hr;cases e;exact⟨a,rfl,hb⟩
  .simp only[List.mapM_cons,Option.bind_eq_bind,Option.bind_eq_some_iff,Option.pure_def,AI]at hr;obtain⟨_,_,_,_,e2⟩:=hr;subst e2;cases e
theorem aWj{α:Type}{f:α->Option (DataW H×List MemPlace)}{l:List α}{d:DataW H}{p:List MemPlace}(h:(l.mapM f).map (λxs=>((DataW.agg (xs.map (·.1)):DataW H),xs.flatMap (·.2)))=some (.agg [d],p)):∃x,l=[x]/\∃q,f x=some (d,q):=by
 obtain⟨xs,h1,h2⟩:=AQ h;rcases xs with _|⟨⟨x,q⟩,_|⟨y,r⟩⟩
 .cases h2
 .obtain⟨a,e1,e2⟩:=aTy h1;refine⟨a,e1,q,?_⟩;simp only[List.map_cons,List.map_nil,Prod.mk.injEq,DataW.agg.injEq,List.cons.injEq,and_true]at h2;rw[e2,h2.1]
 .simp at h2
theorem A8:∀{fuel:Nat}{d:DataW H},DataW.trod enc P w base sp held (fuel+1) t cs=some (d,p)->bDt enc P w base sp held fuel t cs p d:=by
 intro fuel d h;simp only[DataW.trod]at h;split at h;case h_4=>
  split at h
  .cases h;exact⟨_,rfl,rfl⟩
  .cases h
 case h_6 e a ht=>obtain⟨x,h1,h2⟩:=AQ h;obtain⟨cs',h3,h4⟩:=Option.bind_eq_some_iff.1 h1;cases h2;exact⟨e,a,cs',x.2,ht,rfl,h3,h4,rfl⟩
 case h_8=>
  split at h
  .obtain⟨x,h1,h2⟩:=Option.bind_eq_some_iff.1 h;obtain⟨y,h3,h4⟩:=AQ h2;cases h4;trivial
  .cases h
 case h_9=>
  split at h
  .exact zHu
  .cases h
 case h_10=>
  split at h
  .have m63:=0;exact zHu
  .cases h
 case h_12=>
  split at h
  .cases h;trivial
  .obtain⟨x,h1,h2⟩:=AQ h;cases h2;exact⟨_,_,rfl,h1⟩
  .cases h
 case h_14=>
  split at h
  .split at h
   .obtain⟨x,h1,h2⟩:=Option.bind_eq_some_iff.1 h;split at h2
    .cases h2;trivial
    .cases h2
   .cases h
  .cases h
 all_goals first
  |(cases h;done)
  |(cases h;trivial)
  |(split at h<;>cases h<;>trivial)
theorem wZ{fuel:Nat}{x:DataW H×List MemPlace}(h:DataW.trod enc P w base sp held fuel t cs=some x):∃n,fuel=n+1:=by
 cases fuel with
 |zero=>simp[DataW.trod]at h
 |succ n=>exact⟨n,rfl⟩
theorem aS0{a:WT}{n:Nat}{l:List WB}(h:w.cells? base a n=some l){i:Nat}{v:WB}(hv:l[i]?=some v):i<n/\w.cell? (a.add i)=some v:=by
 unfold World.cells? at h;split at h
 .have key:∀(k:List Nat)(l:List WB),k.mapM (λi=>w.cell? (a.add i))=some l->∀(i:Nat)(v:WB),l[i]?=some v->∃j,k[i]?=some j/\w.cell? (a.add j)=some v:=by
   intro k
   induction k with
   |nil=>intro l h i v hv;simp at h;subst h;simp at hv
   |cons x k ih=>
    intro l h i v hv
    simp only[List.mapM_cons,Option.bind_eq_bind,Option.bind_eq_some_iff,Option.pure_def,AI]at h
    obtain⟨b,hb,r,hr,rfl⟩:=h
    cases i with
    |zero=>simp at hv;subst hv;exact⟨x,rfl,hb⟩
    |succ i=>exact ih r hr i v (by simpa using hv)
  obtain⟨j,hj,hc⟩:=key _ _ h i v hv;have hi:i<n:=by have:=(List.getElem?_eq_some_iff.1 hj).1;exact zCk
  rw[List.getElem?_range hi]at hj;cases hj;exact⟨hi,hc⟩
 .cases h
theorem aIg{fuel:Nat}{name:String}{s:List UInt8}(h:DataW.trod enc P w base sp held fuel t cs=some (.iface name (.ptr (.agg [.lit (.string s)])),p)):
  ∃u v a i b,cs=[.iface u v]/\v.cells.toList=[.pointer (some a)]/\MemPlace.cell a.block (a.off+i)∈p/\w.cell? (a.add i)=some (sT b):=by
 obtain⟨n,rfl⟩:=wZ h;obtain⟨u,v,e1,h1⟩:=A8 h;obtain⟨n,rfl⟩:=wZ h1;obtain⟨e,a,cs',q,_,e2,h2,h3,rfl⟩:=A8 h1;obtain⟨n,rfl⟩:=wZ h3;obtain⟨u',i,m,q',h4⟩:=A8 h3;obtain⟨n,rfl⟩:=wZ h4;obtain⟨b,h5,_⟩:=A8 h4;have h6:cs'[i]?=some (sT b):=by
  have:((cs'.drop i).take m)[0]?=some (sT b):=by rw[h5];rfl
  rw[List.getElem?_take]at this;split at this
  .exact zCk
  .cases this
 obtain⟨hi,hc⟩:=aS0 h2 h6;refine⟨u,v,a,i,b,e1,e2,?_,hc⟩;simp only[MemPlace.row,List.mem_append,List.mem_map,List.mem_range];exact .inl ⟨i,hi,rfl⟩
end
end
theorem aVb(f s n d l:Int)(w:WA)(h:eA f s n d=false):
  Calls prog 93 #[.agg #[iI f,iI s,iI n,iI d],iI l] w λe w'=>e=rT (tU #[iI 0,.iface 30 (iI 1)])/\bW w w':=by have HR:Hid (eA f s n d=false):=h;clear h;have L8:=Tryz.mf;go_enter func93,ntmps93;exact zCy
theorem aVc(f s n d l:Int)(w:WA)(h:eA f s n d=true)(hl:l< -1099511627776):
  Calls prog 93 #[.agg #[iI f,iI s,iI n,iI d],iI l] w λe w'=>e=rT (tU #[iI 0,.iface 30 (iI 2)])/\bW w w':=zJy
theorem aQg(f s n d l:Int)(w:WA)(h:eA f s n d=true)(hl:1099511627776<l):
  Calls prog 93 #[.agg #[iI f,iI s,iI n,iI d],iI l] w λe w'=>e=rT (tU #[iI 0,.iface 30 (iI 2)])/\bW w w':=zJw
theorem aLb(f s n d l:Int)(w:WA)(h:eA f s n d=true)(hl:-1099511627776<=l)(R7:l<=s):
  Calls prog 93 #[.agg #[iI f,iI s,iI n,iI d],iI l] w λe w'=>e=rT (tU #[iI f,.nilIface])/\bW w w':=have bKi:=0;zJy
theorem aYo(f s n d l:Int)(w:WA)(h:eA f s n d=true)(hl:l<=1099511627776)(R7:s<l)(hv:f+((l-s)*d+n-1)/n<=1099511627776):
  Calls prog 93 #[.agg #[iI f,iI s,iI n,iI d],iI l] w λe w'=>e=rT (tU #[iI (f+((l-s)*d+n-1)/n),.nilIface])/\bW w w':=zEy
theorem aQf(f s n d l:Int)(w:WA)(h:eA f s n d=true)(hl:l<=1099511627776)(R7:s<l)(hv:1099511627776<f+((l-s)*d+n-1)/n):
  Calls prog 93 #[.agg #[iI f,iI s,iI n,iI d],iI l] w λe w'=>e=rT (tU #[iI 0,.iface 30 (iI 2)])/\bW w w':=zEy
section
variable{I aC aG aJ aM frame AA pw round:Int}{fr lb lf lq lt nd tq wf wp wt:Nat->Int}{j nl ns nw:Nat}
theorem J6(h:lJ wp wf wt frame j=0):wf j<wt j/\wt j<=frame/\(j=0->0<=wf j)/\(0<j->wt (j-1)<=wf j)/\0<=wp j/\wp j<=5:=by
 unfold lJ at h;by_cases h1:wt j<=wf j
 .simp[h1]at h
 .rw[kJ h1]at h;by_cases h2:(j=0/\wf j<0)\/(0<j/\wf j<wt (j-1))
  .simp[h2]at h
  .rw[kJ h2]at h;by_cases h3:frame<wt j
   .simp[h3]at h
   .rw[kJ h3]at h;by_cases h4:wp j<0\/5<wp j
    .simp[h4]at h
    .omega
theorem aZ9{k:Nat}(h:∀j,j<k->lJ wp wf wt frame j=0):∀j,j<k->0<=wf j/\wf j<wt j/\wt j<=frame:=by
 intro j
 induction j with
 |zero=>
  intro hj
  have g:=J6 (h 0 hj)
  exact⟨g.2.2.1 rfl,g.1,g.2.1⟩
 |succ j ih=>
  intro hj
  have g:=J6 (h (j+1) hj)
  have g2:=ih od
  have g3:=g.2.2.2.1 od
  simp at g3
  exact⟨od,g.1,g.2.1⟩
theorem aK9{hit:Nat->Bool}(h:cN lf lt lb lq hit AA pw j=0):(0<=lf j/\lf j<=AA-1)/\(1<=lt j/\lt j<=pw-1)/\(1<=lb j/\lb j<=137438953472)/\1<=lq j/\lq j<=16:=by
 unfold cN at h;by_cases h1:lf j<0\/AA-1<lf j
 .simp[h1]at h
 .rw[kJ h1]at h;by_cases h2:lt j<1\/pw-1<lt j\/hit j=true
  .simp[h2]at h
  .rw[kJ h2]at h;by_cases h3:(lb j<1\/137438953472<lb j)\/lq j<1\/16<lq j
   .simp[h3]at h
   .omega
theorem aBk(h:bZ AA aG aM aC aJ round frame ns nl nw=0):
  1<=AA/\AA<=16/\0<=aG/\aG<=5/\(0<=aM/\aM<=137438953472)/\(0<=aC/\aC<=137438953472)/\(0<=aJ/\aJ<=137438953472)/\(1<=round/\round<=137438953472)/\(1<=frame/\frame<=137438953472)/\ns<=32/\nl<=8/\nw<=32:=zA5
theorem jQ.zero{hit:Nat->Bool}(h:jQ AA aG aM aC aJ round frame ns nl nw nd fr tq lf lt lb lq hit pw wp wf wt 0 I):
  I=-1/\bZ AA aG aM aC aJ round frame ns nl nw=0/\(∀j,j<ns->fW nd fr tq AA aM round j=0)/\(∀j,j<nl->cN lf lt lb lq hit AA pw j=0)/\(∀j,j<nw->lJ wp wf wt frame j=0):=by
 rcases h with⟨h1,h2,_⟩|⟨h0,e1,i1,e2,i2,e3,i3,g1,g2,g3,g4,g5,g6,g7⟩
 .exact absurd h2.symm h1
 .have z1:e1=0:=by
   by_cases z:e1=0
   .exact z
   .exact absurd ((g4 z).1.symm) z
  have z2:e2=0:=by
   by_cases z:e2=0
   .exact z
   .exact absurd ((g5 z1 z).1.symm) z
  have z3:e3=0:=by
   by_cases z:e3=0
   .exact z
   .exact absurd ((g6 z1 z2 z).1.symm) z
  have all:∀{f:Nat->Int}{n:Nat}{e i:Int},bX f n e i->e=0->∀j,j<n->f j=0:=by
   intro f n e i hf he;rcases hf with⟨ha,_⟩|⟨_,_,_,_,eH,_⟩
   .exact ha
   .exact absurd he eH
  exact⟨(g7 z1 z2 z3).2,h0,all g1 z1,all g2 z2,all g3 z3⟩
theorem aN6{hit:Nat->Bool}(hp:(2:Int)^AA.toNat=pw)(h:jQ AA aG aM aC aJ round frame ns nl nw nd fr tq lf lt lb lq hit pw wp wf wt 0 I):
  (ns<=32/\nl<=8/\nw<=32)/\∀x∈dP AA aG aM aC aJ round frame ns nl nw nd fr tq lf lt lb lq wp wf wt,0<=x/\x<=1099511627776:=by
 obtain⟨_,h0,h1,h2,h3⟩:=h.zero;obtain⟨a1,a2,a3,a4,⟨b1,b2⟩,⟨b3,b4⟩,⟨b5,b6⟩,⟨c1,c2⟩,⟨c3,c4⟩,d1,d2,d3⟩:=aBk h0;have hpw:pw<=65536:=by rw[<-hp];exact zFe
 refine⟨⟨d1,d2,d3⟩,λx hx=>?_⟩;unfold dP at hx;simp only[List.mem_append]at hx;rcases hx with(((hx|hx)|hx)|hx)|hx
 .rcases hx with hx|hx
  .simp at hx;omega
  .exact zJi
 .simp at hx;omega
 .obtain⟨j,hj,hx⟩:=List.mem_flatMap.1 hx;have hj:=List.mem_range.1 hj;have g2:=aK9 (h2 j hj);simp at hx;rcases hx with rfl|rfl|rfl|rfl<;>omega
 .simp at hx;omega
 .have bK9:=0;exact zJi
end
section
theorem aJs(AA aG aM aC aJ round frame:Int)(sa la wa:Option WT)(ns sc nl lc nw wc:Nat)(E I:Int)(w:WA)(hE:E≠0)
  (hc:∀v:WA,bW w v->Calls prog 99 #[.agg #[iI AA,iI aG,iI aM,iI aC,iI aJ,iI round,sV sa ns sc,sV la nl lc,iI frame,sV wa nw wc]] v λev w'=>∃X,ev=rT X/\gX w' X E I/\bW v w'):
  Calls prog 76 #[.agg #[iI AA,iI aG,iI aM,iI aC,iI aJ,iI round,sV sa ns sc,sV la nl lc,iI frame,sV wa nw wc]] w λev w'=>∃X,ev=rT (tU #[sV none 0 0,X])/\gX w' X E I/\bW w w':=zK1
theorem aG4(L:List Int)(h:1<=L.length):1<=(bytesOf L).length:=by
 cases L with
 |nil=>simp at h
 |cons x r=>
  have:=r9 5 x.toNat
  simp[bytesOf];omega
section
variable{AA aG aM aC aJ round frame:Int}{ns nl nw:Nat}{nd fr tq lf lt lb lq wp wf wt:Nat->Int}{k:Nat}{x:Int}
theorem M2{f g h:Nat->Int}{n:Nat}(hk:k<n)(hx:x∈[f k,g k,h k]):x∈bH f g h n:=by unfold bH;exact List.mem_flatMap.2 ⟨k,List.mem_range.2 hk,hx⟩
theorem aHd{f g h i:Nat->Int}{n:Nat}(hk:k<n)(hx:x∈[f k,g k,h k,i k]):x∈fE f g h i n:=by unfold fE;exact List.mem_flatMap.2 ⟨k,List.mem_range.2 hk,hx⟩
theorem aU2(hk:k<ns)(hx:x∈[nd k,fr k,tq k]):x∈dP AA aG aM aC aJ round frame ns nl nw nd fr tq lf lt lb lq wp wf wt:=by unfold dP;simp only[List.mem_append];exact .inl (.inl (.inl (.inl (.inr (M2 hk hx)))))
theorem aU1(hk:k<nl)(hx:x∈[lf k,lt k,lb k,lq k]):x∈dP AA aG aM aC aJ round frame ns nl nw nd fr tq lf lt lb lq wp wf wt:=by unfold dP;simp only[List.mem_append];exact .inl (.inl (.inr (aHd hk hx)))
theorem aXz(hk:k<nw)(hx:x∈[wp k,wf k,wt k]):x∈dP AA aG aM aC aJ round frame ns nl nw nd fr tq lf lt lb lq wp wf wt:=by unfold dP;simp only[List.mem_append];exact .inr (M2 hk hx)
theorem aPr(hx:x∈[(nl:Int),frame,(nw:Int)]):x∈dP AA aG aM aC aJ round frame ns nl nw nd fr tq lf lt lb lq wp wf wt:=by
 unfold dP;simp only[List.mem_append];simp at hx;rcases hx with rfl|rfl|rfl
 .exact .inl (.inl (.inl (.inr oe)))
 .exact .inl (.inr oe)
 .exact .inl (.inr oe)
end
theorem aOq(AA aG aM aC aJ round frame:Int)(sa la wa:Option WT)(ns sc nl lc nw wc:Nat)(nd fr tq lf lt lb lq wp wf wt:Nat->Int)(w:WA)
  (hs:jH w sa ns nd fr tq)(hl:xL w la nl lf lt lb lq)(hw:jH w wa nw wp wf wt)(d1:ns<=32)(d2:nl<=8)(d3:nw<=32)
  (pA:∀x∈dP AA aG aM aC aJ round frame ns nl nw nd fr tq lf lt lb lq wp wf wt,0<=x/\x<=1099511627776)
  (hc:∀v:WA,bW w v->Calls prog 99 #[.agg #[iI AA,iI aG,iI aM,iI aC,iI aJ,iI round,sV sa ns sc,sV la nl lc,iI frame,sV wa nw wc]] v λev w'=>∃X,ev=rT X/\gX w' X 0 (-1)/\bW v w'):
  Calls prog 76 #[.agg #[iI AA,iI aG,iI aM,iI aC,iI aJ,iI round,sV sa ns sc,sV la nl lc,iI frame,sV wa nw wc]] w λev w'=>∃v,ev=rT (tU #[v,.nilIface])/\
   w'.ownsRow w.1.size 5 1 v (bytesOf (dP AA aG aM aC aJ round frame ns nl nw nd fr tq lf lt lb lq wp wf wt)).length ((bytesOf (dP AA aG aM aC aJ round frame ns nl nw nd fr tq lf lt lb lq wp wf wt)).map (Value.int .u8))/\bW w w':=have aXu:=0;zK1
end
section
variable{a a':Array WB}
def Late(P:WJ):Prop:=P.follows .staticDataAhead=true/\∀g,P.stepOf g=none
structure Pg(Y:Sy)(F:FuncId->Prop):Prop where
 en:dB Y
 late:Late Y.P
 qf:∀fn,Y.Q.f fn->(∃f,fn=.func f/\F f)\/∃l,fn=.yield l
 qy:∀l,Y.Q.f (.yield l)
 ext:∀f fn,F f->Y.P.funcs[f]?=some fn->fn.body=none->Extern.findNext fn=none/\((∃e,Extern.find fn=some e/\ExR Y e)\/(Extern.find fn=none/\(fn.name.endsWith ".init"&& !fn.name.startsWith "("&& !fn.name.startsWith "gosem.")=false))
 num:∀f fn,F f->Y.P.funcs[f]?=some fn->(fn.name== "runtime.NumGoroutine")=false
def NR(Y:Sy)(F:FuncId->Prop)(r:Bool):Next->Next->Prop
 |.value v,.value v'=>VR Y v v'
 |.skip,.skip=>True
 |.enter f a,.enter f' a'=>f=f'/\F f'/\dF Y a a'
 |.round l f t a b,.round l' f' t' a' b'=>BR Y l l'/\f=f'/\dF Y t t'/\a=a'/\b=b'/\∃p,Y.C f' a' b' p
 |.defer d,.defer d'=>d=rD Y.ρ d'/\ScD Y.S Y.Q d'
 |.recover,.recover=>r=true
 |_,_=>False
section
variable{Y:Sy}{F:FuncId->Prop}{r:Bool}
theorem NR.val{m m':Sem WB}(h:RR Y (VR Y) m m'):RR Y (NR Y F r) (do Pure.pure (Next.value (<-m))) (do Pure.pure (Next.value (<-m'))):=RR.AF h λ_ _ hv=>RR.AG hv
theorem NR.unit{m m':Sem Unit}(h:RR Y (λ_ _=>True) m m'):RR Y (NR Y F r) (do m;Pure.pure Next.skip) (do m';Pure.pure Next.skip):=RR.AF h λ_ _ _=>RR.AG trivial
theorem Pg.callFunc(G:Pg Y F){f:FuncId}(hf:F f)(h:dF Y a a'):RR Y (NR Y F r) (callFunc f a) (callFunc f a'):=by
 unfold Go.callFunc;refine RR.AF RR.program ?_;rintro p _ ⟨rfl,rfl⟩
 cases hp:Y.P.funcs[f]? with
 |none=>exact RR.stuck _
 |some fn=>
  dsimp only
  rw[G.num f fn hf hp]
  simp only[Bool.false_eq_true,if_false]
  cases hb:fn.body with
  |some c=>
   simp only[Option.isNone_some,Bool.false_eq_true,if_false]
   exact RR.AG ⟨rfl,hf,h⟩
  |none=>
   simp only[Option.isNone_none,if_true]
   refine RR.AF (RR.bCd f) ?_
   intro _ _ _
   obtain⟨h1,⟨e,h2,h3⟩|⟨h2,h3⟩⟩:=G.ext f fn hf hp hb
   .rw[h1,h2]
    exact NR.val (h3 a a' h)
   .rw[h1,h2]
    dsimp only
    rw[h3]
    exact RR.dE _
theorem Pg.callMethod(G:Pg Y F)(name:String)(hF:X2 Y.P F name){v v':WB}(hv:VR Y v v')(h:dF Y a a'):RR Y (NR Y F r) (callMethod v name a) (callMethod v' name a'):=by
 obtain⟨rfl,hs⟩:=hv;unfold Go.callMethod;cases v'<;>simp only[rV]<;>try exact RR.stuck _
 .simp only[Sc]at hs;refine RR.AF RR.program ?_;rintro p _ ⟨rfl,rfl⟩;refine RR.AF (G.en.method name hF _ _ ⟨rfl,hs⟩) ?_;rintro⟨f,q⟩ ⟨_,q'⟩ ⟨rfl,hf,hr⟩;exact G.callFunc hf ((dF.one hr).append h)
 .exact G.en.panics _
theorem aYw{l l':Nat}(hl:BR Y l l')(h:dF Y a a'):RR Y (NR Y F r) (Instr.yield l a) (Instr.yield l' a'):=by
 unfold Instr.yield Instr.getLoop;refine RR.AF (A:=λ(r r':Loop)=>r=rL Y.ρ r'/\((∀v∈r'.tmps,Sc Y.S Y.Q v)/\Y.S r'.defers)/\Y.C r'.fn r'.assign r'.body r'.pending) ?_ ?_
 .exact zC4
 .rintro r r' ⟨rfl,⟨hr,_⟩,hc⟩;have e:(rL Y.ρ r').params=r'.params:=rfl;have e2:a.size=a'.size:=jh;dsimp only;rw[e,e2];split
  .exact RR.nG _ _
  .refine RR.AG ⟨hl,rfl,?_,rfl,rfl,_,hc⟩;obtain⟨rfl,ha⟩:=h;have key:∀(ps:List (Tmp×WB))(c c':Array WB),dF Y c c'->(∀p∈ps,Sc Y.S Y.Q p.2)->dF Y ((ps.map λp=>(p.1,rV Y.ρ p.2)).foldl (λt p=>t.setIfInBounds p.1 p.2) c) (ps.foldl (λt p=>t.setIfInBounds p.1 p.2) c'):=by
    intro ps
    induction ps with
    |nil=>exact λc c' hc _=>hc
    |cons p ps ih=>
     intro c c' hc hp
     simp only[List.map_cons,List.foldl_cons]
     refine ih _ _ ⟨by rw[hc.1];simp,λv hv=>?_⟩ λq hq=>hp q (by simp[hq])
     rcases Array.mem_or_eq_of_mem_setIfInBounds hv with h2|rfl
     .exact hc.2 v h2
     .exact hp p oe
   have e3:(r'.params.zip (a'.map (rV Y.ρ))).toList=(r'.params.zip a').toList.map λp=>(p.1,rV Y.ρ p.2):=by simp only[Array.toList_zip,Array.toList_map];rw[List.zip_map_right];rfl
   rw[<-Array.foldl_toList,<-Array.foldl_toList,e3];refine key _ _ _ ⟨rfl,hr⟩ λp hp=>?_;rw[Array.toList_zip]at hp;exact ha _ (by simpa using(List.of_mem_zip hp).2)
theorem Pg.invoke(G:Pg Y F){t t':Target}(ht:t=rTN Y.ρ t')(hs:ScT Y.S Y.Q t')(h:dF Y a a'):RR Y (NR Y F r) (invoke t a) (invoke t' a'):=by
 subst ht;cases t'<;>simp only[ScT]at hs
 .rename_i fn cap;rcases G.qf fn hs.1.1 with⟨f,rfl,hf⟩|⟨l,rfl⟩
  .exact G.callFunc hf (h.append ⟨rfl,hs.2⟩)
  .exact aYw ⟨rfl,hs.1.2 l rfl⟩ h
 .show RR Y (NR Y F r) (runtimePanic .nilDeref) (runtimePanic .nilDeref);exact G.en.panics _
 .exact J7
theorem I6{v v':WB}(hv:VR Y v v')(h:dF Y a a'):RR Y (λd d'=>d=rD Y.ρ d'/\ScD Y.S Y.Q d') (Deferred.ofValue v a) (Deferred.ofValue v' a'):=by
 obtain⟨rfl,hs⟩:=hv;unfold Deferred.ofValue;cases v'<;>simp only[rV]<;>try exact RR.stuck _
 .rename_i fn first cap
  simp only[Sc]at hs;have hf:dF Y (first.map (rV Y.ρ)++a) (first++a'):=dF.append ⟨rfl,hs.2.1⟩ h;refine RR.AG ⟨?_,⟨⟨hs.1,hs.2.2⟩,hf.2⟩⟩;rw[hf.1];rfl
 .refine RR.AG ⟨?_,⟨trivial,h.2⟩⟩;rw[h.1];rfl
end
end
section
variable{ev ev':Operand->WB}
def sP(Y:Sy):Operand->Prop
 |.tmp _=>True
 |.const v=>Sc Z0 Q0 v
 |.global g=>(g<Y.G/\Y.K g)\/Y.Q.o g
 |.func f=>Y.Q.f (.func f)
def aMh(P:WJ)(b:Builtin)(ts:Array WI)(n:Nat):Bool:=
 match b with
 |.append=>aRq P ts
 |.cap|.clear|.copy|.len|.max|.min|.recover=>true
 |.unsafeString=>n==2
 |.unsafeSliceData=>n==1
 |_=>false
def bAb(Y:Sy)(F:FuncId->Prop)(c:Call):Prop:=
 match c.callee with
 |.value _=>True
 |.invoke _ n=>X2 Y.P F n
 |.builtin b=>aMh Y.P b c.argTypes c.args.size=true
def aJ5(Y:Sy)(F:FuncId->Prop)(o:Op):Prop:=
 (∀x∈o.operands,sP Y x)/\
 match o with
 |.move _|.assign _|.pick .. |.alloc _|.box .. |.build .. |.buildSlice .. |.load .. |.store .. |.nilCheck _|.binOp .. |.unOp .. |.makeInterface .. |.makeMap .. |.makeSlice .. |.slice .. |.fieldAddr .. |.indexAddr .. |.index .. |.lookup .. |.mapUpdate .. |.insert .. |.typeAssert .. |.extract .. |.panic _=>True
 |.makeFunc fn _ _=>Y.Q.f fn/\∀l,fn≠.yield l
 |.convert s d _=>aDv Y.P s d=true
 |.range t _=>Y.P.underlying t=some .string
 |.next _ b=>b=true
 |.call c=>bAb Y F c
 |.defer c=>∃f,c.callee=.value f
 |_=>False
def inRound:Op->Bool
 |.defer _=>false
 |.call c=>match c.callee with|.builtin .recover=>false|_=>true
 |_=>true
section
variable{Y:Sy}{F:FuncId->Prop}{r:Bool}
theorem bA1{α:Type}{A:α->α->Prop}{c:Prop}[Decidable c]{m m' k k':Sem α}(h1:c->RR Y A m m')(h2:¬c->RR Y A k k'):RR Y A (if c then m else k) (if c then m' else k'):=by
 split
 .exact h1 (by assumption)
 .exact h2 (by assumption)
theorem aCz:∀(n:Nat)(t:WI){v v' u u':WB},VR Y v v'->VR Y u u'->RR Y (λx x'=>x=x') (Op.eqGuardIn n t v u) (Op.eqGuardIn n t v' u')
 |0,_,_,_,_,_,_,_=>RR.dE _
 |n+1,t,v,v',u,u',hv,hu=>by
  unfold Op.eqGuardIn;refine RR.AF (RR.underlying t) ?_;rintro d _ ⟨rfl,_⟩;obtain⟨rfl,hv⟩:=hv;obtain⟨rfl,hu⟩:=hu;cases d<;>try exact RR.AG rfl
  case interface ms _=>
   cases v'<;>simp only[rV]<;>try exact RR.AG rfl
   cases u'<;>simp only[rV]<;>exact RR.AG rfl
  case struct fs _=>exact zH5
  case array len el _=>have m74:=0;exact zH5
theorem aQy(op:BinOp)(t:WI)(x y:Operand){v v' u u':WB}(hv:VR Y v v')(hu:VR Y u u'):RR Y (λ_ _=>True) (eqGuard op t x y v u) (eqGuard op t x y v' u'):=by
 unfold Go.eqGuard;refine bA1 (λ_=>RR.AG trivial) (λ_=>?_)
 .have hg:=aCz (Y:=Y) Op.maxDepth t hv hu;obtain⟨rfl,hv⟩:=hv;obtain⟨rfl,hu⟩:=hu;cases v'<;>simp only[rV]at hg⊢<;>try exact RR.AG trivial
  case agg a=>
   cases u'<;>simp only[rV]at hg⊢<;>try exact RR.AG trivial
   refine RR.AF RR.program ?_;rintro p _ ⟨rfl,rfl⟩;refine RR.AF RR.program ?_;rintro p _ ⟨rfl,rfl⟩;split
   .exact RR.AG trivial
   .exact zEb
  case nilIface=>
   cases u'<;>simp only[rV]at hg⊢<;>try exact RR.AG trivial
   refine bA1 (λ_=>RR.AG trivial) (λ_=>?_)
   .exact zEb
theorem Pg.builtin(G:Pg Y F)(b:Builtin)(ts:Array WI)(ty:WI)(cs:Array Bool){a a':Array WB}(ok:aMh Y.P b ts a'.size=true)(hr:b=.recover->r=true)(h:dF Y a a'):RR Y (NR Y F r) (builtin b ts ty cs a) (builtin b ts ty cs a'):=by
 unfold Go.builtin;unfold aMh at ok;cases b<;>first|exact absurd ok Bool.noConfusion|skip
 .exact NR.val (G.en.append ts ok ty h)
 .exact NR.val (bI6 ts ty h)
 .exact NR.val (G.en.clear ts ty h)
 .exact NR.val (bD2 ts ty h)
 .exact NR.val (bI7 ts ty h)
 .exact NR.val (aI8 h ts ty).1
 .exact NR.val (aI8 h ts ty).2
 .exact RR.AG (hr rfl)
 .exact NR.val (aIa ts ty h (by simpa using ok))
 .exact NR.val (G.en.unsafeString ts ty h (by simpa using ok))
theorem evs(hev:∀x,sP Y x->VR Y (ev x) (ev' x)){xs:Array Operand}(h:∀x∈xs,sP Y x):dF Y (xs.map ev) (xs.map ev'):=by
 refine⟨?_,λv hv=>?_⟩
 .rw[Array.map_map];exact AP λx hx=>(hev x (h x hx)).1
 .obtain⟨x,hx,rfl⟩:=Array.mem_map.1 hv;exact(hev x (h x hx)).2
theorem evo(hev:∀x,sP Y x->VR Y (ev x) (ev' x)){x:Option Operand}(h:∀y,x=some y->sP Y y):VO Y (x.map ev) (x.map ev'):=by
 cases x with
 |none=>exact⟨rfl,oe⟩
 |some y=>
  have:=hev y (h y rfl)
  exact⟨by simp[this.1],by rintro v ⟨⟩;exact this.2⟩
theorem Pg.nilCheck(G:Pg Y F){v v':WB}(h:VR Y v v')(x:Operand)(e1:ev x=v)(e2:ev' x=v')(o:WQ)(ho:o.op=.nilCheck x):RR Y (NR Y F r) (execOp ev o) (execOp ev' o):=by
 unfold execOp;rw[ho];dsimp only;rw[e1,e2];have h0:=h;obtain⟨rfl,hs⟩:=h;cases v'<;>simp only[rV]at h0⊢;case pointer p=>
  cases p with
  |none=>exact G.en.panics _
  |some a=>exact RR.AG h0
 case nilIface=>exact G.en.panics _
 case nilFunc=>exact G.en.panics _
 case func fn first cap=>
  simp only[Sc]at hs;rcases G.qf fn hs.1.1 with⟨f,rfl,hf⟩|⟨l,rfl⟩
  .exact RR.AG h0
  .exact RR.AG h0
 all_goals exact RR.AG h0
theorem Pg.execOp(G:Pg Y F)(hev:∀x,sP Y x->VR Y (ev x) (ev' x))(o:WQ)(ok:aJ5 Y F o.op)(hro:r=true\/inRound o.op=true):RR Y (NR Y F r) (execOp ev o) (execOp ev' o):=by
 have E:=G.en;obtain⟨hx,ok⟩:=ok;have he:∀x∈o.op.operands,VR Y (ev x) (ev' x):=λx h=>hev x (hx x h);have hnc:=λx v v' h e1 e2 ho=>G.nilCheck (r:=r) (v:=v) (v':=v') h x (ev:=ev) (ev':=ev') e1 e2 o ho;obtain⟨dst,op,ty,pos,after,guard⟩:=o;unfold Go.execOp;cases op<;>dsimp only at ok hx he hnc hro⊢<;>try exact ok.elim
 case move x=>exact RR.AG (he x oq)
 case assign x=>exact RR.AG (he x oq)
 case pick c a b=>
  refine RR.AF (RR.asBool (he c oq)) ?_;rintro t _ rfl;refine RR.AG ?_;show VR Y _ _;split
  .exact he a oq
  .exact he b oq
 case alloc t=>exact NR.val (E.alloc t)
 case box t x=>exact NR.val (RR.box t (he x oq))
 case build t ps=>
  refine NR.val (E.build t (l':=ps.map λp=>(p.1,ev' p.2)) ?_ ?_)
  .exact zDa
  .exact zEn
 case buildSlice t n ps=>
  refine NR.val (E.buildSlice t n (l':=ps.map λp=>(p.1,ev' p.2)) ?_ ?_)
  .exact zDa
  .exact zEn
 case insert t m k v=>exact NR.unit (E.mapUpdate t (he m oq) (he k oq) (he v oq))
 case load t a=>exact NR.val (RR.loadAt t (he a oq))
 case store t a v=>exact NR.unit (RR.storeAt t (he a oq) (he v oq))
 case nilCheck x=>exact hnc x _ _ (he x oq) rfl rfl rfl
 case binOp op t x y u=>refine NR.val ?_;refine RR.AF (aQy op t x y (he x oq) (he y oq)) ?_;intro _ _ _;exact E.binOp op t (he x oq) (he y oq)
 case unOp op t x=>exact NR.val (aYv op (he x oq))
 case convert s d x=>exact NR.val (aQx s d ok (he x oq))
 case makeInterface t x=>exact NR.val (RR.makeInterface t (he x oq))
 case makeFunc fn a b=>exact NR.val (RR.makeFunc ok.1 ok.2 (evs hev λx h=>hx x (by simp[Op.operands,h])) (evs hev λx h=>hx x (by simp[Op.operands,h])))
 case makeMap t q=>exact NR.val (RR.makeMap t (evo hev λy e=>hx y jt))
 case makeSlice t l c=>exact NR.val (E.makeSlice t (he l oq) (he c oq))
 case slice t x l h m=>exact NR.val (E.sliceAt t (he x oq) (evo hev λy e=>hx y jt) (evo hev λy e=>hx y jt) (evo hev λy e=>hx y jt))
 case fieldAddr t x f=>exact NR.val (RR.fieldAt t (he x oq) f)
 case indexAddr t x i=>exact NR.val (E.indexAt t (he x oq) (he i oq))
 case index t x i=>exact NR.val (E.index t (he x oq) (he i oq))
 case lookup t x i k=>exact NR.val (E.lookup t (he x oq) (he i oq) k)
 case mapUpdate t m k v=>exact NR.unit (E.mapUpdate t (he m oq) (he k oq) (he v oq))
 case range t x=>exact NR.val (aYu t ok (he x oq))
 case next x b=>subst ok;exact NR.val (bD5 ty (he x oq))
 case typeAssert x t a k=>exact NR.val (E.typeAssert (he x oq) t a k)
 case extract x i=>exact NR.val (RR.extract (he x oq) i)
 case panic x=>exact NR.val (E.aYh (he x oq))
 case call c=>
  obtain⟨callee,args,ts⟩:=c;cases callee;case value f=>have ha:dF Y (args.map ev) (args.map ev'):=evs hev λx h=>hx x o8;refine RR.AF (I6 (he f js) ha) ?_;rintro d d' ⟨rfl,hd⟩;exact G.invoke rfl hd.1 ⟨rfl,hd.2⟩
  case invoke rc n=>
   have ha:dF Y (args.map ev) (args.map ev'):=evs hev λx h=>hx x o8;have hr:=he rc js;have hh:dF Y (#[ev rc]++args.map ev) (#[ev' rc]++args.map ev'):=(dF.one hr).append ha;show RR Y (NR Y F r) (Go.invoke (.fn (.method n) #[]) (#[ev rc]++args.map ev)) (Go.invoke (.fn (.method n) #[]) (#[ev' rc]++args.map ev'));unfold Go.invoke;have e1:(#[ev rc]++args.map ev)[0]?=some (ev rc):=by rw[Array.getElem?_append_left oe];rfl
   have e2:(#[ev' rc]++args.map ev')[0]?=some (ev' rc):=by rw[Array.getElem?_append_left oe];rfl
   have e3:(#[ev rc]++args.map ev).size=(#[ev' rc]++args.map ev').size:=oe;dsimp only;rw[e1,e2,e3];exact G.callMethod n ok hr (hh.extract 1 _)
  case builtin b=>have ha:dF Y (args.map ev) (args.map ev'):=evs hev λx h=>hx x o8;exact G.builtin b ts ty _ (by rw[Array.size_map];exact ok) (λe=>by subst e;exact hro.elim id λx=>absurd x (by simp[inRound])) ha
 case defer c=>obtain⟨callee,args,ts⟩:=c;obtain⟨f,rfl⟩:=ok;have ha:dF Y (args.map ev) (args.map ev'):=evs hev λx h=>hx x o8;exact RR.AF (I6 (he f js) ha) λd d' hd=>RR.AG hd
end
end
section
section
variable(ρ:WN)
def rI:Item->Item
 |.inRangeFunc l=>.inRangeFunc (ρ l)
 |.endRangeFunc l=>.endRangeFunc (ρ l)
 |i=>i
def rP(e:PanicEntry):PanicEntry:={ e with v:=rV ρ e.v }
def rM:FrameMode->FrameMode
 |.panicking c=>.panicking (c.map (rP ρ))
 |m=>m
def bC(fr:WK):WK:={ fr with tmps:=fr.tmps.map (rV ρ),todo:=fr.todo.map (rI ρ),defers:=fr.defers.map (rD ρ),mode:=rM ρ fr.mode,roundOf:=fr.roundOf.map ρ }
end
def aY(Y:Sy)(F:FuncId->Prop):Bool->Code->Prop
 |r,.region _ cZ _=>∀o∈cZ,aJ5 Y F o.op/\(r=true\/inRound o.op=true)
 |r,.seq a b=>aY Y F r a/\aY Y F r b
 |r,.cond c a b=>sP Y c/\aY Y F r a/\aY Y F r b
 |r,.block _ b=>aY Y F r b
 |r,.loop b=>aY Y F r b
 |r,.scope b=>aY Y F r b
 |_,.rangeFunc f _ a b=>sP Y f/\aY Y F false a/\aY Y F false b
 |_,_=>True
def qM(Y:Sy)(F:FuncId->Prop)(r:Bool):Item->Prop
 |.code c=>aY Y F r c
 |.inLoop c=>aY Y F r c
 |.inScope c=>aY Y F r c
 |.inRegion cZ _=>∀o∈cZ,aJ5 Y F o.op/\(r=true\/inRound o.op=true)
 |.inRangeFunc l=>Y.S l
 |.endRangeFunc l=>Y.S l
 |.inBlock _=>True
 |.beginRound=>True
 |_=>False
def bAe(Y:Sy):FrameMode->Prop
 |.panicking c=>∀e∈c,Sc Y.S Y.Q e.v/\e.goexit=false
 |_=>True
structure dD(Y:Sy)(F:FuncId->Prop)(fr:WK):Prop where
 fn:F fr.fn
 tmps:∀v∈fr.tmps,Sc Y.S Y.Q v
 todo:∀i∈fr.todo,qM Y F fr.roundOf.isNone i
 defers:∀d∈fr.defers,ScD Y.S Y.Q d
 mode:bAe Y fr.mode
 kind:fr.kind=.normal\/fr.kind=.deferred
 round:∀l,fr.roundOf=some l->Y.S l
structure Pc(Y:Sy)(F:FuncId->Prop):Prop extends Pg Y F where
 body:∀f fn c,F f->Y.P.funcs[f]?=some fn->fn.body=some c->aY Y F true c
 aRy:∀f a b p,F f->aY Y F false a->aY Y F false b->(∀c,p=some c->∀r,aY Y F r c)->Y.C f a b p
 cOf:∀f a b p,Y.C f a b p->F f/\aY Y F false a/\aY Y F false b/\∀c,p=some c->∀r,aY Y F r c
section
variable{Y:Sy}{F:FuncId->Prop}
theorem aW0:VR Y undef undef:=dF.tuple dF.nil
theorem aAz{t t':Array WB}(h:dF Y t t')(i:Nat):VR Y (t.getD i undef) (t'.getD i undef):=by
 rcases h.get i with⟨e1,e2⟩|⟨v,v',e1,e2,hv⟩
 .simp only[Array.getD_eq_getD_getElem?,e1,e2];exact aW0
 .simp only[Array.getD_eq_getD_getElem?,e1,e2];exact hv
theorem aE1{w w':WA}(hw:WR Y w w'){fr:WK}(ht:∀v∈fr.tmps,Sc Y.S Y.Q v)(x:Operand)(ok:sP Y x):VR Y ((bC Y.ρ fr).eval x) (fr.eval x):=by
 cases x with
 |tmp t=>exact aAz ⟨rfl,ht⟩ t
 |const v=>exact VR.zero ok
 |global g=>
  have hg:g<Y.G:=ok.elim (·.1) (hw.oG g)
  refine AR.ptr ⟨?_,ok.imp (λh=>⟨?_,λ_=>h.2⟩) id⟩
  .show((aA g 0):WT)=⟨Y.ρ g,0,none⟩
   rw[hw.idG g hg]
  .exact kC hg (kH hw.gn hw.nN)
 |func f=>exact⟨by simp[Frame.eval,rV,rF],by simp only[Frame.eval,Sc];exact⟨⟨ok,λl h=>by cases h⟩,oe,oe⟩⟩
theorem aD4(ρ:WN)(cZ:Array WQ)(t:Array WB):yielded cZ (t.map (rV ρ))=yielded cZ t:=by
 funext j;unfold yielded
 cases((cZ[j]?).bind (·.dst))with
 |none=>rfl
 |some d=>
  simp only[Option.bind_some,Array.getElem?_map]
  cases t[d]? with
  |none=>rfl
  |some v=>cases v<;>simp[rV]
theorem mem_set{c:Array WB}{i:Nat}{v u:WB}(h:u∈c.setIfInBounds i v):u∈c\/u=v:=Array.mem_or_eq_of_mem_setIfInBounds h
theorem pX(ρ:WN)(fr:WK)(v:WB)(hc:∀i∈fr.todo,(∀a b c d,i≠.call a b c d)/\∀a b,i≠.extern a b):(bC ρ fr).finish (rV ρ v)=bC ρ (fr.finish v):=by
 unfold Frame.finish
 cases ht:fr.todo with
 |nil=>simp[bC,ht]
 |cons i k=>
  have:=hc i ez
  cases i<;>simp only[bC,ht,List.map_cons,rI]<;>try rfl
  .rename_i cZ todo
   cases todo with
   |nil=>simp[ht,rI]
   |cons j rest=>
    dsimp only
    cases(cZ[j]?).bind (·.dst)<;>simp[rI]
  .exact absurd rfl (this.1 _ _ _ _)
  .exact absurd rfl (this.2 _ _)
theorem aY.re(ρ:WN)(N:Nat):∀(r:Bool)(c:Code),aY Y F r c->aY { Y with ρ:=ρ,N:=N } F r c
 |_,.region _ _ _,h=>h
 |r,.seq a b,h=>⟨aY.re ρ N r a h.1,aY.re ρ N r b h.2⟩
 |r,.cond _ a b,h=>⟨h.1,aY.re ρ N r a h.2.1,aY.re ρ N r b h.2.2⟩
 |r,.block _ b,h=>aY.re ρ N r b h
 |r,.loop b,h=>aY.re ρ N r b h
 |r,.scope b,h=>aY.re ρ N r b h
 |_,.rangeFunc _ _ a b,h=>⟨h.1,aY.re ρ N false a h.2.1,aY.re ρ N false b h.2.2⟩
 |_,.skip,_=>trivial
 |_,.exit _,_=>trivial
 |_,.goto _,_=>trivial
 |_,.label _,_=>trivial
 |_,.ret,_=>trivial
 |_,.refuse _,_=>trivial
theorem qM.re{ρ:WN}{N:Nat}{r:Bool}(hS:∀b,Y.S b->({ Y with ρ:=ρ,N:=N }:Sy).S b){i:Item}(h:qM Y F r i):qM { Y with ρ:=ρ,N:=N } F r i:=by
 cases i;case code c=>exact aY.re ρ N r c h
 case inLoop c=>exact aY.re ρ N r c h
 case inScope c=>exact aY.re ρ N r c h
 case inRegion=>exact h
 case inRangeFunc l=>exact hS l h
 case endRangeFunc l=>exact hS l h
 case inBlock=>trivial
 case beginRound=>trivial
 all_goals exact h.elim
theorem dD.re{ρ:WN}{N:Nat}(hS:∀b,Y.S b->({ Y with ρ:=ρ,N:=N }:Sy).S b){fr:WK}(h:dD Y F fr):dD { Y with ρ:=ρ,N:=N } F fr:=by refine⟨h.fn,λv hv=>(h.tmps v hv).mono hS,λi hi=>(h.todo i hi).re hS,λd hd=>(h.defers d hd).mono hS,?_,h.kind,λl hl=>hS _ (h.round l hl)⟩;have:=h.mode;cases hm:fr.mode<;>rw[hm]at this<;>first|trivial|exact λe he=>⟨(this e he).1.mono hS,(this e he).2⟩
end
end
section
def Sy.wN(Y:Sy)(n:Nat):Sy:={ Y with N:=n }
section
variable{Y:Sy}{α:Type}{w w':WA}{n N:Nat}
theorem aB4(h:n<=N)(b:Nat)(hb:(Y.wN n).S b):(Y.wN N).S b:=⟨kC hb.1 h,hb.2⟩
theorem WR.wN(h:WR (Y.wN n) w w')(hN:n<=N):WR (Y.wN N) w w':=⟨h.idG,h.inj,h.gn,kH h.nN hN,h.lt,h.up,h.ro,h.own,λb o ho=>(h.sc b o ho).imp id λx=>x.mono (aB4 hN),h.os,h.oG⟩
def bIq(Y:Sy)(A:Sy->α->α->Prop)(w:WA)(m:Sem α)(N:Nat)(r':Result α):Prop:=
 ∃w1 fQ new,WR (Y.wN N) w1 fQ/\fQ.1.size=N/\fY (Y.wN N) w w1/\(∀e∈new,(Y.wN N).Ok e)/\
  ((∃a a',A (Y.wN N) a a'/\r'=.ok a' fQ/\∀es,m.runT Y.P w es=(.ok a w1,es++new))\/
   ∃v',Sc (Y.wN N).S Y.Q v'/\r'=.halt (.panic v') fQ/\∀es,m.runT Y.P w es=(.halt (.panic (rV Y.ρ v')) w1,es++new))
def Ag(D0 D:Nat)(t t':Nat->Question->Nat):Prop:=∀d,D0<=d->d<D->t' d=t d
theorem RR.use{A:Sy->α->α->Prop}{m m':Sem α}(h:∀N,n<=N->RR (Y.wN N) (A (Y.wN N)) m m')(hw:WR (Y.wN n) w w')(hn:w'.1.size=n):
  ∃N,n<=N/\∃(t:Nat->Question->Nat)(D:Nat)(r':Result α),w'.drawn<=D/\(wOf r').drawn=D/\(∀t',Ag w'.drawn D t t'->m'.run Y.P (on w' t')=reT t' r')/\((∃x u,r'=.halt x u/\Bad x)\/bIq Y A w m N r'):=by
 have hs:=aId Y.P m w;refine⟨n+((wOf (m.run Y.P w)).1.size-w.1.size),Nat.le_add_right _ _,?_⟩;generalize hN:n+((wOf (m.run Y.P w)).1.size-w.1.size)=N;have hnN:n<=N:=od;have hρ:Y.ρ N=(wOf (m.run Y.P w)).1.size:=by have:=hw.up (N-n);rw[hn,show n+(N-n)=N by omega]at this;have e:(Y.wN n).ρ N=Y.ρ N:=rfl;rw[e]at this;omega
 have hc:=h N hnN w w' (hw.wN hnN) (Nat.le_of_eq hρ.symm);obtain⟨t,D,r',d1,d2,hh,ht⟩:=aWs Y.P _ m' w' hc;refine⟨t,D,r',d1,d2,ht,?_⟩;have tight:∀w1 fQ,WR (Y.wN N) w1 fQ->wOf (m.run Y.P w)=w1->fQ.1.size=N:=by intro w1 fQ iM e;have:=iM.up 0;rw[Nat.add_zero,Nat.add_zero,<-e]at this;exact iM.inj _ _ (this.trans hρ.symm)
 cases r' with
 |ok a' u=>
  obtain⟨w1,new,h1,h2,h3,a,hA,he⟩:=hh
  replace he:∀es,m.runT Y.P w es=(.ok a w1,es++new):=he
  have e1:m.run Y.P w=.ok a w1:=by rw[<-Sem.runT_fst Y.P m w #[],he]
  exact .inr ⟨w1,u,new,h1,tight _ _ h1 (by rw[e1];rfl),h2,h3,.inl ⟨a,a',hA,rfl,he⟩⟩
 |halt x u=>
  cases x
  case panic v'=>
   obtain⟨w1,new,h1,h2,h3,hv,he⟩:=hh
   replace he:∀es,m.runT Y.P w es=(.halt (.panic (rV Y.ρ v')) w1,es++new):=he
   have e1:m.run Y.P w=.halt (.panic (rV Y.ρ v')) w1:=by rw[<-Sem.runT_fst Y.P m w #[],he]
   exact .inr ⟨w1,u,new,h1,tight _ _ h1 (by rw[e1];rfl),h2,h3,.inr ⟨v',hv,rfl,he⟩⟩
  all_goals exact .inl ⟨_,_,rfl,hh⟩
theorem U4{Z:Sy}(fn:FuncId){es:Array Event}(h:∀e∈es,Z.Ok e):∀e∈seen Y.P fn es,Z.Ok e:=by
 unfold seen;obtain⟨l⟩:=es;simp only[List.foldl_toArray'];have key:∀(l:List Event)(q:Bool)(k:Array Event),(∀e∈l,Z.Ok e)->(∀e∈k,Z.Ok e)->∀e∈(l.foldl (λ(x:Bool×Array Event) e=>match e.loc with|.mark (.extern f)=>((Y.P.funcs[f]?).any (·.norace),x.2)|_=>(x.1,if x.1&& !e.sync then x.2 else x.2.push e)) (q,k)).2,Z.Ok e:=by
  intro l
  induction l with
  |nil=>exact λq k _ hk=>hk
  |cons e l ih=>
   intro q k hl hk
   rw[List.foldl_cons]
   have h1:=hl e oe
   have h2:∀x∈l,Z.Ok x:=λx hx=>hl x o6
   split
   .exact ih _ _ h2 hk
   .refine ih _ _ h2 ?_
    split
    .exact hk
    .intro x hx
     rcases Array.mem_push.1 hx with hx|rfl
     .exact hk x hx
     .exact h1
 exact key l _ _ (by simpa using h) oe
theorem C8.wN(h:n<=N){b:Nat}(hb:(Y.wN n).C8 b):(Y.wN N).C8 b:=let⟨c,h1,h2,h3⟩:=hb;⟨c,h1,kC h2 h,h3⟩
theorem Ok.wN(h:n<=N){e:Event}(he:(Y.wN n).Ok e):(Y.wN N).Ok e:=by
 unfold Sy.Ok at he⊢;split at he
 .exact⟨he.1,he.2.imp (C8.wN h) id⟩
 .exact⟨he.1,C8.wN h he.2⟩
 .trivial
 .trivial
 .trivial
 .exact he.elim
theorem fY.wN(h:n<=N){v v1:WA}(k:fY (Y.wN n) v v1):fY (Y.wN N) v v1:=⟨k.size,λb hb hl hm=>k.oth b hb hl λx=>hm (C8.wN h x),k.ro,k.tape,k.os,k.out⟩
theorem dD.wN{F:FuncId->Prop}{fr:WK}(h:dD (Y.wN n) F fr)(hN:n<=N):dD (Y.wN N) F fr:=dD.re (Y:=Y.wN n) (ρ:=Y.ρ) (N:=N) (aB4 hN) h
end
end
section
def gr(fr:WK)(cs:List WK):WC:={ frame:=fr,callers:=cs,status:=.running,dying:=none }
def iP(fr:WK)(cs:List WK):Prop:=∀c,(fr::cs).getLast?=some c->c.kind=.normal/\c.roundOf=none
def Out(fr:WK)(cs:List WK):Prop:=cs=[]/\fr.defers=[]/\fr.mode≠.run
structure nH(Y:Sy)(F:FuncId->Prop)(C:List WK)(g:WC)(w:WA)(fr:WK)(cs:List WK)(w':WA):Prop where
 tight:w'.1.size=Y.N
 wr:WR Y w w'
 eq:g=gr (bC Y.ρ fr) (cs.map (bC Y.ρ)++C)
 top:dD Y F fr
 low:∀c∈cs,dD Y F c
 last:iP fr cs
def Nx1(Z:Sy)(F:FuncId->Prop)(C B:List WK)(w:WA)(T:(Nat->Question->Nat)->Prop)(D:Nat)(s:(Nat->Question->Nat)->GStep)(sc:GStep):Prop:=
 (∀t',T t'->∃o u es,s t'=.ended o u es)\/∃fr1 qQ fQ g1 w1 es,fQ.drawn=D/\(∀t',T t'->∃es',s t'=.go (gr fr1 (qQ++B)) (on fQ t') es')/\sc=.go g1 w1 es/\nH Z F C g1 w1 fr1 qQ fQ/\fY Z w w1/\∀e∈es,Z.Ok e
def X3(Y:Sy)(F:FuncId->Prop)(C B:List WK)(main:Bool)(g:WC)(w:WA)(fr:WK)(cs:List WK)(w':WA):Prop:=
 ∃N,Y.N<=N/\∃(t:Nat->Question->Nat)(D:Nat),w'.drawn<=D/\Nx1 (Y.wN N) F C B w (Ag w'.drawn D t) D (λt'=>stepG Y.P true (gr fr (cs++B)) (on w' t')) (stepG Y.P main g w)
section
variable{Y:Sy}{F:FuncId->Prop}{C B:List WK}{main:Bool}{g:WC}{w w':WA}{fr fr1:WK}{cs:List WK}
theorem iP.of(h:iP fr cs)(hk:fr1.kind=fr.kind)(hr:fr1.roundOf=fr.roundOf):iP fr1 cs:=by
 intro c hc
 cases cs with
 |nil=>
  simp at hc
  subst hc
  have:=h fr oe
  exact⟨hk.trans this.1,hr.trans this.2⟩
 |cons a l=>
  exact h c El
theorem nH.wC(h:nH Y F C g w fr cs w')(hf:dD Y F fr1)(hk:fr1.kind=fr.kind)(hr:fr1.roundOf=fr.roundOf)(hl:∀u,stepG Y.P true (gr fr (cs++B)) u=.go (gr fr1 (cs++B)) u #[])(hc:stepG Y.P main (gr (bC Y.ρ fr) (cs.map (bC Y.ρ)++C)) w=.go (gr (bC Y.ρ fr1) (cs.map (bC Y.ρ)++C)) w #[]):X3 Y F C B main g w fr cs w':=by refine⟨Y.N,kG _,w'.tape,w'.drawn,kG _,.inr ⟨fr1,cs,w',_,w,#[],rfl,λt' _=>⟨#[],hl _⟩,by rw[h.eq];exact hc,⟨h.tight,h.wr,rfl,hf,h.low,h.last.of hk hr⟩,fY.refl,oe⟩⟩
theorem nH.ends(hl:∀u,∃o v es,stepG Y.P true (gr fr (cs++B)) u=.ended o v es):X3 Y F C B main g w fr cs w':=⟨Y.N,kG _,w'.tape,w'.drawn,kG _,.inl λ_ _=>hl _⟩
theorem dD.todo'(h:dD Y F fr){k:List Item}(hk:∀i∈k,qM Y F fr.roundOf.isNone i):dD Y F { fr with todo:=k }:=⟨h.fn,h.tmps,hk,h.defers,h.mode,h.kind,h.round⟩
theorem nH.to(h:nH Y F C g w fr cs w'){k:List Item}(hk:∀i∈k,qM Y F fr.roundOf.isNone i)(hl:∀u,stepG Y.P true (gr fr (cs++B)) u=.go (gr { fr with todo:=k } (cs++B)) u #[])(hc:stepG Y.P main (gr (bC Y.ρ fr) (cs.map (bC Y.ρ)++C)) w=.go (gr { bC Y.ρ fr with todo:=k.map (rI Y.ρ) } (cs.map (bC Y.ρ)++C)) w #[]):X3 Y F C B main g w fr cs w':=
 h.wC (fr1:={ fr with todo:=k }) (h.top.todo' hk) rfl rfl hl hc
theorem Z1(ρ:WN)(id:Nat):∀k:List Item,exitTo id (k.map (rI ρ))=(exitTo id k).map (List.map (rI ρ))
 |[]=>rfl
 |i::k=>by cases i<;>simp only[List.map_cons,rI,exitTo,Z1 ρ id k];split<;>rfl
theorem Z8(ρ:WN)(l:Nat):∀k:List Item,gotoIn l (k.map (rI ρ))=(gotoIn l k).map (List.map (rI ρ))
 |[]=>rfl
 |i::k=>by cases i<;>simp only[List.map_cons,rI,gotoIn,Z8 ρ l k];split<;>rfl
theorem F8{r:Bool}{id:Nat}:∀{k k':List Item},exitTo id k=some k'->(∀i∈k,qM Y F r i)->∀i∈k',qM Y F r i
 |[],_,h,_=>by simp[exitTo]at h
 |i::k,k',h,hk=>by
  have h2:∀j∈k,qM Y F r j:=λj hj=>hk j (by simp[hj]);cases i<;>simp only[exitTo]at h<;>try exact F8 h h2
  split at h
  .cases h;exact h2
  .exact F8 h h2
theorem tQ{r:Bool}(l:Nat):∀(c:Code){c':Code},findLabel c l=some c'->aY Y F r c->aY Y F r c'
 |.seq a b,c',h,hc=>by
  simp only[findLabel]at h
  split at h
  .rename_i x hx
   cases h
   exact⟨tQ l a hx hc.1,hc.2⟩
  .exact tQ l b h hc.2
 |.label _,c',h,_=>by
  simp only[findLabel]at h
  split at h
  .cases h;trivial
  .cases h
 |.region _ _ _,_,h,_|.cond _ _ _,_,h,_|.block _ _,_,h,_|.loop _,_,h,_|.scope _,_,h,_|.rangeFunc _ _ _ _,_,h,_|.skip,_,h,_|.exit _,_,h,_|.goto _,_,h,_|.ret,_,h,_|.refuse _,_,h,_=>by simp[findLabel]at h
theorem G0{r:Bool}{l:Nat}:∀{k k':List Item},gotoIn l k=some k'->(∀i∈k,qM Y F r i)->∀i∈k',qM Y F r i
 |[],_,h,_=>by simp[gotoIn]at h
 |i::k,k',h,hk=>by
  have h2:∀j∈k,qM Y F r j:=λj hj=>hk j (by simp[hj]);cases i<;>simp only[gotoIn]at h<;>try exact G0 h h2
  rename_i body;have hb:aY Y F r body:=hk (.inScope body) oe;split at h
  .rename_i rest hr;cases h;intro j hj;rcases kQ hj with rfl|hj
   .exact tQ l body hr hb
   .rcases kQ hj with rfl|hj
    .exact hb
    .exact h2 j hj
  .exact G0 h h2
theorem nH.ctl(h:nH Y F C g w fr cs w')(hm:fr.mode=.run){c:Code}{k:List Item}(ht:fr.todo=.code c::k)(hc:∀f p a b,c≠.rangeFunc f p a b)(hr:∀i o d,c≠.region i o d)(bJs:c≠.ret)(hex:∀id,c=.exit id->exitTo id k≠none)(dH:∀l,c=.goto l->gotoIn l k≠none):X3 Y F C B main g w fr cs w':=by
 have hk:∀i∈k,qM Y F fr.roundOf.isNone i:=λi hi=>h.top.todo i o7;have xP:aY Y F fr.roundOf.isNone c:=h.top.todo (.code c) ez;have two:∀{i j:Item},qM Y F fr.roundOf.isNone i->qM Y F fr.roundOf.isNone j->∀x∈i::j::k,qM Y F fr.roundOf.isNone x:=by intro i j hi hj x hx;exact zJg
 have one:∀{i:Item},qM Y F fr.roundOf.isNone i->∀x∈i::k,qM Y F fr.roundOf.isNone x:=by
  intro i hi x hx;rcases kQ hx with rfl|hx
  .exact hi
  .exact hk x hx
 have xF:(bC Y.ρ fr).mode=.run:=Ey;have oY:(bC Y.ρ fr).todo=.code c::k.map (rI Y.ρ):=Eh;cases c;case skip=>exact h.to (k:=k) hk (λu=>by simp[gr,stepG,stepG.exec,hm,ht]) Ed
 case label l=>exact h.to (k:=k) hk (λu=>by simp[gr,stepG,stepG.exec,hm,ht]) Ed
 case region i o d=>exact absurd rfl (hr i o d)
 case seq a b=>exact h.to (k:=.code a::.code b::k) (two xP.1 xP.2) (λu=>by simp[gr,stepG,stepG.exec,hm,ht]) eu
 case block id b=>exact h.to (k:=.code b::.inBlock id::k) (two xP trivial) (λu=>by simp[gr,stepG,stepG.exec,hm,ht]) eu
 case loop b=>exact h.to (k:=.code b::.inLoop b::k) (two xP xP) (λu=>by simp[gr,stepG,stepG.exec,hm,ht]) eu
 case scope b=>exact h.to (k:=.code b::.inScope b::k) (two xP xP) (λu=>by simp[gr,stepG,stepG.exec,hm,ht]) eu
 case rangeFunc f p a b=>exact absurd rfl (hc f p a b)
 case ret=>exact absurd rfl bJs
 case refuse s=>exact nH.ends λu=>by simp[gr,stepG,stepG.exec,hm,ht]
 case exit id=>
  cases he:exitTo id k with
  |none=>exact absurd he (hex id rfl)
  |some k'=>exact h.to (k:=k') (F8 he hk) (λu=>by simp[gr,stepG,stepG.exec,hm,ht,he]) (by simp[gr,stepG,stepG.exec,xF,oY,Z1,he])
 case goto l=>
  cases he:gotoIn l k with
  |none=>exact absurd he (dH l rfl)
  |some k'=>exact h.to (k:=k') (G0 he hk) (λu=>by simp[gr,stepG,stepG.exec,hm,ht,he]) (by simp[gr,stepG,stepG.exec,xF,oY,Z8,he])
 case cond x a b=>
  have hv:=aE1 h.wr h.top.tmps x xP.1;obtain⟨e,_⟩:=hv;cases hx:fr.eval x;case bool t=>rw[hx]at e;simp only[rV]at e;exact h.to (k:=.code (if t then a else b)::k) (one (by show aY Y F _ _;split<;>first|exact xP.2.1|exact xP.2.2)) (λu=>by simp[gr,stepG,stepG.exec,hm,ht,hx]) (by simp[gr,stepG,stepG.exec,xF,oY,rI,e])
  all_goals exact nH.ends λu=>by simp[gr,stepG,stepG.exec,hm,ht,hx]
end
end
section
section
variable{Y:Sy}{F:FuncId->Prop}{C B:List WK}{main:Bool}{g:WC}{w w':WA}{fr fr1:WK}{cs:List WK}
theorem nH.item(h:nH Y F C g w fr cs w')(hm:fr.mode=.run){i:Item}{k:List Item}(ht:fr.todo=i::k)(hi:(∃b,i=.inBlock b)\/(∃b,i=.inScope b)\/(∃b,i=.inLoop b)\/∃cZ,i=.inRegion cZ []):X3 Y F C B main g w fr cs w':=by
 have hk:∀i∈k,qM Y F fr.roundOf.isNone i:=λi hi=>h.top.todo i o7;have xF:(bC Y.ρ fr).mode=.run:=Ey;rcases hi with⟨b,rfl⟩|⟨b,rfl⟩|⟨b,rfl⟩|⟨cZ,rfl⟩
 .have oY:(bC Y.ρ fr).todo=.inBlock b::k.map (rI Y.ρ):=by simp[bC,ht,rI]
  exact zC1
 .have oY:(bC Y.ρ fr).todo=.inScope b::k.map (rI Y.ρ):=by simp[bC,ht,rI]
  exact zC1
 .have oY:(bC Y.ρ fr).todo=.inLoop b::k.map (rI Y.ρ):=by simp[bC,ht,rI]
  have hb:aY Y F fr.roundOf.isNone b:=h.top.todo (.inLoop b) ez;refine h.to (k:=.code b::.inLoop b::k) ?_ (λu=>by simp[gr,stepG,stepG.exec,hm,ht]) eu;intro x hx;have bGa:=0;exact zJg
 .have oY:(bC Y.ρ fr).todo=.inRegion cZ []::k.map (rI Y.ρ):=by simp[bC,ht,rI]
  exact zC1
theorem nH.region(h:nH Y F C g w fr cs w')(hm:fr.mode=.run){id:Nat}{cZ:Array WQ}{k:List Item}(ht:fr.todo=.code (.region id cZ false)::k):X3 Y F C B main g w fr cs w':=by
 have hk:∀i∈k,qM Y F fr.roundOf.isNone i:=λi hi=>h.top.todo i o7;have ho:∀o∈cZ,aJ5 Y F o.op/\(fr.roundOf.isNone=true\/inRound o.op=true):=h.top.todo (.code (.region id cZ false)) ez;have xF:(bC Y.ρ fr).mode=.run:=Ey;have oY:(bC Y.ρ fr).todo=.code (.region id cZ false)::k.map (rI Y.ρ):=Eh;refine h.to (k:=.inRegion cZ (List.range cZ.size)::k) ?_ (λu=>by simp[gr,stepG,stepG.exec,hm,ht]) eu;intro x hx;rcases kQ hx with rfl|hx
 .exact ho
 .exact hk x hx
theorem aF1{l:Nat}{k:List Item}(ht:fr.todo=.inRangeFunc l::k)(hm:fr.mode=.run):X3 Y F C B main g w fr cs w':=nH.ends λu=>by simp[gr,stepG,stepG.exec,hm,ht]
theorem dD.qE(h:dD Y F fr):∀i∈fr.todo,(∀a b c d,i≠.call a b c d)/\∀a b,i≠.extern a b:=λi hi=>by
 have:=h.todo i hi;constructor
 .rintro a b c d rfl;exact this
 .rintro a b rfl;exact this
theorem dD.finish(h:dD Y F fr){v:WB}(hv:Sc Y.S Y.Q v):dD Y F (fr.finish v):=by
 unfold Frame.finish;split
 .rename_i cZ i rest k ht;refine⟨h.fn,λu hu=>?_,λx hx=>?_,h.defers,h.mode,h.kind,h.round⟩
  .dsimp only at hu;split at hu
   .rcases mem_set hu with hu|rfl
    .exact h.tmps u hu
    .exact hv
   .exact h.tmps u hu
  .rcases kQ hx with rfl|hx
   .exact h.todo (.inRegion cZ (i::rest)) ez
   .exact h.todo x (by rw[ht];simp[hx])
 .rename_i l k ht;refine h.todo' λx hx=>?_;rcases kQ hx with rfl|hx
  .exact h.todo (.inRangeFunc l) ez
  .exact h.todo x (by rw[ht];simp[hx])
 .rename_i k ht;exact h.todo' λx hx=>h.todo x (by rw[ht];simp[hx])
 .rename_i d a b c k ht;exact absurd rfl ((h.qE (.call d a b c) ez).1 d a b c)
 .rename_i a b k ht;exact absurd rfl ((h.qE (.extern a b) ez).2 a b)
 .exact h
theorem jL(fr:WK)(v:WB):(fr.finish v).kind=fr.kind/\(fr.finish v).roundOf=fr.roundOf:=by unfold Frame.finish;split<;>exact⟨rfl,rfl⟩
theorem U7(ρ:WN):rV ρ undef=undef:=by simp[undef,rV]
theorem aDz(ρ:WN)(P:WJ)(f:FuncId)(a:Array WB)(k:CallKind):bC ρ (Frame.enter P f a k)=Frame.enter P f (a.map (rV ρ)) k:=by simp[bC,Frame.enter,rI,rM,U7]
theorem dD.enter(G:Pc Y F){f:FuncId}(hf:F f){a:Array WB}(ha:∀v∈a,Sc Y.S Y.Q v){k:CallKind}(hk:k=.normal\/k=.deferred):dD Y F (Frame.enter Y.P f a k):=by
 refine⟨hf,λv hv=>?_,λi hi=>?_,by simp[Frame.enter],trivial,hk,by simp[Frame.enter]⟩
 .rcases Array.mem_append.1 hv with hv|hv
  .exact ha v hv
  .rw[Array.mem_replicate]at hv;rw[hv.2];simp[undef,Sc]
 .simp only[Frame.enter,List.mem_singleton]at hi;subst hi;show aY Y F true _
  cases hp:Y.P.funcs[f]? with
  |none=>trivial
  |some fn=>
   cases hb:fn.body with
   |none=>simp[hb,aY]
   |some c=>simpa[hb]using G.body f fn c hf hp hb
theorem aF0(ρ:WN)(fr:WK)(v:WB):(bC ρ fr).raise [{ v:=rV ρ v,recovered:=false }]=bC ρ (fr.raise [{ v,recovered:=false }]):=by unfold Frame.raise;cases hm:fr.mode<;>simp[bC,hm,rM,rP]
theorem dD.raise(h:dD Y F fr){v:WB}(hv:Sc Y.S Y.Q v):dD Y F (fr.raise [{ v,recovered:=false }]):=by unfold Frame.raise;have hm:=h.mode;exact zH2
theorem tZ(fr:WK)(l:List PanicEntry):(fr.raise l).kind=fr.kind/\(fr.raise l).roundOf=fr.roundOf:=by unfold Frame.raise;split<;>exact⟨rfl,rfl⟩
theorem aNi(ρ:WN)(l:Nat)(f:FuncId)(t:Array WB)(a b:Code)(k:CallKind):bC ρ (Frame.round l f t a b k)=Frame.round (ρ l) f (t.map (rV ρ)) a b k:=by simp[bC,Frame.round,rI,rM]
theorem dD.aN7(G:Pc Y F){l:Nat}(hl:Y.S l){f:FuncId}{t:Array WB}(ht:∀v∈t,Sc Y.S Y.Q v){a b:Code}{p:Option Code}(hc:Y.C f a b p){k:CallKind}(hk:k=.normal\/k=.deferred):dD Y F (Frame.round l f t a b k):=by
 obtain⟨h1,h2,h3,_⟩:=G.cOf f a b p hc;refine⟨h1,ht,λi hi=>?_,by simp[Frame.round],trivial,hk,λx hx=>by cases hx;exact hl⟩;simp only[Frame.round,List.mem_cons,List.not_mem_nil,or_false]at hi;rcases hi with rfl|rfl|rfl
 .exact h2
 .trivial
 .exact h3
theorem iP.push(h:iP fr cs)(x:WK):iP x (fr::cs):=λc hc=>h c El
theorem aQi(ρ:WN)(hk:fr.kind=.normal\/fr.kind=.deferred)(hl:iP fr cs):(tryRecover fr (cs++B)=none/\tryRecover (bC ρ fr) (cs.map (bC ρ)++C)=none)\/∃v uH c l,cs=c::l/\c.mode=.panicking ({ v,recovered:=false }::uH)/\tryRecover fr (cs++B)=some (v,{ c with mode:=.panicking ({ v,recovered:=true }::uH) }::(l++B))/\tryRecover (bC ρ fr) (cs.map (bC ρ)++C)=some (rV ρ v,bC ρ { c with mode:=.panicking ({ v,recovered:=true }::uH) }::(l.map (bC ρ)++C)):=by
 have hk':(bC ρ fr).kind=fr.kind:=rfl;rcases hk with hk|hk
 .refine .inl ⟨?_,?_⟩
  .unfold tryRecover;rw[hk]
  .unfold tryRecover;rw[hk',hk]
 .cases cs with
  |nil=>have:=(hl fr oe).1;rw[hk]at this;cases this
  |cons c l=>
   cases hm:c.mode with
   |run=>exact .inl ⟨jr,by simp[tryRecover,hk,bC,hm,rM]⟩
   |returning=>exact .inl ⟨jr,by simp[tryRecover,hk,bC,hm,rM]⟩
   |panicking ch=>
    cases ch with
    |nil=>exact .inl ⟨jr,by simp[tryRecover,hk,bC,hm,rM]⟩
    |cons x uH=>
     obtain⟨v,rec,ge⟩:=x
     by_cases hb:rec=false/\ge=false
     .obtain⟨rfl,rfl⟩:=hb
      exact .inr ⟨v,uH,c,l,rfl,hm,jr,by simp[tryRecover,hk,bC,hm,rM,rP]⟩
     .refine .inl ⟨?_,?_⟩
      .cases rec<;>cases ge<;>first|exact absurd ⟨rfl,rfl⟩ hb|simp[tryRecover,hk,hm]
      .cases rec<;>cases ge<;>first|exact absurd ⟨rfl,rfl⟩ hb|simp[tryRecover,hk,bC,hm,rM,rP]
end
end
section
section
variable{Y:Sy}{F:FuncId->Prop}{C B:List WK}{main:Bool}{g:WC}{w w':WA}{fr fr1:WK}{cs:List WK}
theorem nH.bDa(h:nH Y F C g w fr cs w')(hm:fr.mode=.run){cZ:Array WQ}{i:Nat}{rest:List Nat}{k:List Item}(ht:fr.todo=.inRegion cZ (i::rest)::k)(hw:((cZ[i]?).map (Region.wanted · (yielded cZ fr.tmps))).getD false=false):X3 Y F C B main g w fr cs w':=by
 have xF:(bC Y.ρ fr).mode=.run:=Ey;have oY:(bC Y.ρ fr).todo=.inRegion cZ (i::rest)::k.map (rI Y.ρ):=Eh;have hw':((cZ[i]?).map (Region.wanted · (yielded cZ (bC Y.ρ fr).tmps))).getD false=false:=by have:(bC Y.ρ fr).tmps=fr.tmps.map (rV Y.ρ):=rfl;rw[this,aD4];exact hw
 have sB:=pX Y.ρ fr undef h.top.qE;rw[U7]at sB;have hk:=jL fr undef;refine h.wC (fr1:=fr.finish undef) (h.top.finish (by simp[undef,Sc])) hk.1 hk.2 (λu=>?_) ?_
 .simp[gr,stepG,stepG.exec,hm,ht,hw]
 .rw[<-sB];simp[gr,stepG,stepG.exec,xF,oY,hw']
theorem aC1{P:WJ}(hL:Late P){s:Sem Next}{u u':WA}{x:Halt}(hx:s.run P u=.halt x u')(hb:Bad x):∃o v es,stepG.apply P true fr (cs++B) none s u=.ended o v es:=by
 cases x;case stuck m=>simp[stepG.apply,hx,GStep.after]
 case unsupported m=>
  cases m<;>first|(simp[stepG.apply,hx,GStep.after];done)|skip
  rename_i g;have e:∀(fr:WK)(cs:List WK),early P fr cs none g u'=.ended (.unsupported (.initOrder g) (fr.pos P)) u':=λfr cs=>by unfold early;simp only[hL.1,Bool.not_true,Bool.false_eq_true,if_false];rw[hL.2 g]
  simp[stepG.apply,hx,GStep.after,e]
 all_goals exact hb.elim
theorem aF8{α:Type}{P:WJ}{m:Sem α}{r:Result α}{new:Array Event}(h:∀es,m.runT P w es=(r,es++new)):m.run P w=r/\m.events P w #[]=new:=by have:=h #[];refine⟨by rw[<-Sem.runT_fst P m w #[],this],?_⟩;have e:m.events P w #[]=(m.runT P w #[]).2:=rfl;rw[e,this];simp
theorem aSk(h:dD Y F fr):(fr.kind==CallKind.early)=false:=by rcases h.kind with e|e<;>rw[e]<;>rfl
def bDk(fr:WK):Prop:=(∃cZ i rest k,fr.todo=.inRegion cZ (i::rest)::k)\/(∃l k,fr.todo=.inRangeFunc l::k)\/∃k,fr.todo=.beginRound::k
section
variable{Z:Sy}{u wa w1 fQ:WA}{m m':Sem Next}{new:Array Event}{T:(Nat->Question->Nat)->Prop}{D:Nat}
theorem aMf(G:Pc Z F)(ha:bDk fr)(top:dD Z F fr)(low:∀c∈cs,dD Z F c)(last:iP fr cs){a a':Next}(hA:NR Z F fr.roundOf.isNone a a')(e':∀t',T t'->m'.run Z.P (on u t')=.ok a' (on fQ t'))(hD:fQ.drawn=D)(e:∀es,m.runT Z.P wa es=(.ok a w1,es++new))(iM:WR Z w1 fQ)(iU:fQ.1.size=Z.N)(qU:fY Z w w1)(ho1:∀e∈new,Z.Ok e):
  Nx1 Z F C B w T D (λt'=>stepG.apply Z.P true fr (cs++B) none m' (on u t')) (stepG.apply Z.P true (bC Z.ρ fr) (cs.map (bC Z.ρ)++C) none m wa):=zLc
theorem xN(top:dD Z F fr)(low:∀c∈cs,dD Z F c)(last:iP fr cs){v':WB}(hv:Sc Z.S Z.Q v')(e':∀t',T t'->m'.run Z.P (on u t')=.halt (.panic v') (on fQ t'))(hD:fQ.drawn=D)(e:∀es,m.runT Z.P wa es=(.halt (.panic (rV Z.ρ v')) w1,es++new))(iM:WR Z w1 fQ)(iU:fQ.1.size=Z.N)(qU:fY Z w w1)(ho1:∀e∈new,Z.Ok e):
  Nx1 Z F C B w T D (λt'=>stepG.apply Z.P true fr (cs++B) none m' (on u t')) (stepG.apply Z.P true (bC Z.ρ fr) (cs.map (bC Z.ρ)++C) none m wa):=have bGr:=0;zLc
end
theorem nH.apply(G:∀N,Y.N<=N->Pc (Y.wN N) F)(h:nH Y F C g w fr cs w')(ha:bDk fr){m m':Sem Next}(hrr:∀N,Y.N<=N->RR (Y.wN N) (NR (Y.wN N) F fr.roundOf.isNone) m m')
  (hl:∀u,stepG Y.P true (gr fr (cs++B)) u=stepG.apply Y.P true fr (cs++B) none m' u)(hc:stepG Y.P main (gr (bC Y.ρ fr) (cs.map (bC Y.ρ)++C)) w=stepG.apply Y.P true (bC Y.ρ fr) (cs.map (bC Y.ρ)++C) none m w):X3 Y F C B main g w fr cs w':=by obtain⟨N,hN,t,D,r',d1,d2,dY,hU⟩:=RR.use (Y:=Y) (n:=Y.N) (A:=λZ=>NR Z F fr.roundOf.isNone) hrr h.wr h.tight;have top:=h.top.wN (Y:=Y) (n:=Y.N) hN;have low:∀c∈cs,dD (Y.wN N) F c:=λc hc=>(h.low c hc).wN (Y:=Y) (n:=Y.N) hN;exact zK2
theorem aN8{P:WJ}{o:WQ}{u:WA}(ho:fr.oper?=some o)(hd:∀l c,fr.roundOf=some l->o.op≠.defer c):stepG.oper P true fr (cs++B) none u=stepG.apply P true fr (cs++B) none (execOp fr.eval o) u:=by
 unfold stepG.oper;rw[ho];dsimp only;split
 .rename_i l c h1 h2;exact absurd h2 (hd l c h1)
 .rfl
theorem nH.oper(G:∀N,Y.N<=N->Pc (Y.wN N) F)(h:nH Y F C g w fr cs w')(hm:fr.mode=.run){cZ:Array WQ}{i:Nat}{rest:List Nat}{k:List Item}(ht:fr.todo=.inRegion cZ (i::rest)::k):X3 Y F C B main g w fr cs w':=by
 cases hw:((cZ[i]?).map (Region.wanted · (yielded cZ fr.tmps))).getD false with
 |false=>exact h.bDa hm ht hw
 |true=>
  have xF:(bC Y.ρ fr).mode=.run:=Ey
  have oY:(bC Y.ρ fr).todo=.inRegion cZ (i::rest)::k.map (rI Y.ρ):=Eh
  have hw':((cZ[i]?).map (Region.wanted · (yielded cZ (bC Y.ρ fr).tmps))).getD false=true:=by
   have:(bC Y.ρ fr).tmps=fr.tmps.map (rV Y.ρ):=rfl
   rw[this,aD4];exact hw
  cases ho:cZ[i]? with
  |none=>rw[ho]at hw;cases hw
  |some o=>
   have cK:=h.top.todo (.inRegion cZ (i::rest)) ez o (AS ho)
   have hd:∀l c,fr.roundOf=some l->o.op≠.defer c:=λl c hl e=>by
    rcases cK.2 with x|x
    .rw[hl]at x;cases x
    .rw[e]at x;cases x
   have hd':∀l c,(bC Y.ρ fr).roundOf=some l->o.op≠.defer c:=λl c hl e=>by
    have zJ:fr.roundOf.map Y.ρ=some l:=hl
    cases hr:fr.roundOf with
    |none=>rw[hr]at zJ;cases zJ
    |some q=>exact hd q c hr e
   have o1:fr.oper?=some o:=by simp[Frame.oper?,ht,ho]
   have o2:(bC Y.ρ fr).oper?=some o:=by simp[Frame.oper?,oY,ho]
   refine h.apply G (.inl ⟨_,_,_,_,ht⟩) (m:=execOp (bC Y.ρ fr).eval o) (m':=execOp fr.eval o) (λN hN=>?_) (λu=>?_) ?_
   .exact(G N hN).toPg.execOp (λx hx=>aE1 (Y:=Y.wN N) (h.wr.wN (Y:=Y) (n:=Y.N) hN) (h.top.wN (Y:=Y) (n:=Y.N) hN).tmps x hx) o cK.1 cK.2
   .rw[<-aN8 o1 hd]
    simp[gr,stepG,stepG.exec,hm,ht,hw]
   .rw[<-aN8 o2 hd']
    simp[gr,stepG,stepG.exec,xF,oY,hw']
end
end
