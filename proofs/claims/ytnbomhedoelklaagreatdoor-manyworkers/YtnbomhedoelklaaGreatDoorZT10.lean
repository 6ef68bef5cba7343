import Derived.Test.YtnbomhedoelklaaGreatDoorZT4
import Derived.Test.YtnbomhedoelklaaGreatDoorZT9
import Derived.Test.YtnbomhedoelklaaGreatDoorZW11
import Derived.Test.YtnbomhedoelklaaGreatDoorZW8
import Derived.Sort.OwnSortedInts
namespace Go.Proofs.YtnbomhedoelklaaGreatDoor
open Go.RowKit Go.Proofs.Tryz
set_option maxRecDepth 99999
set_option maxHeartbeats 0
open Go.Shelf Go.Sort
theorem aBd{w:WA}{g:Nat}{S:List Int}(h:Holds (Value.int .i64) w g 0 S.toArray)(j:Nat)(hj:j<S.length):w.cell? (aA g j)=some (iI (S.getD j 0)):=by have h1:=(h j O7).1;rw[Nat.zero_add]at h1;rw[h1,getElem!_pos _ j O7];simp[List.getD,AT hj]
theorem aLq{w w1 w2:WA}{g nn:Nat}{os:Array Obj}{l:List Int}(hB:bW w w1)(hg:w.1.size<=g)(hlt:g<w1.1.size)(hH:Holds (Value.int .i64) w1 g 0 l.toArray)
  (xG:w2=grow (putRow (Value.int .i64) (Sort.ahead w1 nn) g 0 (l.mergeSort λx y=>decide (x<=y)).toArray) os):
  (∀k,k<l.length->w2.cell? (aA g k)=some (iI (nK l k)))/\bW w w2:=by
 have hH2:Holds (Value.int .i64) w2 g 0 (srt l).toArray:=by subst xG;exact holds_grow _ _ os g 0 _ (by simpa[putRow,mapBlock,Sort.ahead]using hlt) (holds_putRow _ _ g 0 _ _ (holds_ahead _ w1 nn g 0 _ hH) oe)
 refine⟨λk hk=>?_,?_⟩
 .exact aBd hH2 k (by rw[iG];exact hk)
 .subst xG;exact hB.grown (grownBy_sortedI _) hB.size (λj hj=>by cases hj;exact hg)
theorem K6(B:Nat)(w:WA)(hB:B<w.1.size)(vI:w.cell? (aA B 0)=some (iI 1099511627776)):
  PredAt prog 157 #[pP B] (Value.int .i64) far w:=λW x hb=>by have hc:W.cell? (aA B 0)=some (iI 1099511627776):=bc hb hB vI;show Calls prog 157 #[iI x,pP B] W _;unfold far;go_enter func157,ntmps157;go_wp2;all_goals(go_ret;exact⟨by simp_all,0,rfl⟩)
theorem Y4(w:WA):Calls prog 123 #[iI 1099511627776] w λe w'=>e=rT (.func (.func 157) #[] #[pP w.1.size])/\w'=w.alloc (.cells #[iI 1099511627776] 3):=by go_enter func123,ntmps123;exact W5
theorem aY0(a:Option WT)(n cap:Nat)(f:Int)(w:WA)(hn:n<=20000)(h:f<0\/(n:Int)<2*f+1):
  Calls prog 90 #[sV a n cap,iI f] w λe w'=>e=rT (tU #[iI 0,dG 1])/\bW w w':=by
 rw[aSm];by_cases hf:f<0
 .clear h;exact zCq
 .have k1:decide (f<0)=false:=kD hf;by_cases h0:n=0
  .subst h0;clear h hf;exact zCq
  .have k2:((n:Int)==0)=false:=by simp;omega
   have k3:((n:Int)-1)/2<f:=od;clear h hf;exact zCq
theorem aJv:∀args w,(callFunc 157 args).run prog w=.ok (.enter 157 args) w:=enters_of func157 oh rfl
theorem aX5(b off cap n:Nat)(l:List Int)(hl:l.length=n)(hn:n<=20000)(w:WA)(hb:b<w.1.size)(hc:∀j,j<l.length->w.cell? (aA b (off+j))=some (iI (l.getD j 0))):
  Calls prog 105 #[sV (some (aA b off)) n cap,.func (.func 157) #[] #[pP w.1.size]] (w.alloc (.cells #[iI 1099511627776] 3)) λe w'=>e=rT (.bool (l.any far))/\bW w w':=by
 have h:=Tryz.slices_ContainsFunc (Value.int .i64) far 157 #[pP w.1.size] aJv b off n cap l (w.alloc (.cells #[iI 1099511627776] 3)) (K6 w.1.size _ oe oe) od od (λj hj=>by
  rw[World.cell?_alloc_lt _ _ _ hb,hc j hj,getElem!_pos l j hj,getD_at hj])
 rw[List.take_of_length_le od]at h;exact h.mono λe w' ⟨he,q,hq⟩=>⟨he,hq▸below_drewN' ((jD _ w).alloc (kG _) _) q⟩
theorem aPs(a:Option WT)(cap:Nat)(l:List Int)(f:Nat)(w:WA)(hr:bI w a l)(hn:l.length<=20000)(h:2*f+1<=l.length)(jT:l.any far=true):
  Calls prog 90 #[sV a l.length cap,iI f] w λe w'=>e=rT (tU #[iI 0,dG 2])/\bW w w':=by rw[aSn];exact zG9
theorem bCg(a:Option WT)(cap:Nat)(l:List Int)(f:Nat)(w:WA)(hr:bI w a l)(hn:l.length<=20000)(h:2*f+1<=l.length)(jT:l.any far=false):
  Calls prog 90 #[sV a l.length cap,iI f] w λe w'=>e=rT (tU #[iI (xU l f),.nilIface])/\bW w w':=have m42:=0;zG9
theorem aN2(a:Option WT)(cap:Nat)(l:List Int)(f:Int)(w:WA)(hr:bI w a l)(hn:l.length<=20000):
  Calls prog 90 #[sV a l.length cap,iI f] w λe w'=>e=rT (tU #[iI (fU l f),dG (eU l f)])/\bW w w':=by
 by_cases h:f<0\/(l.length:Int)<2*f+1
 .rw[tX (by rw[aA9 h];decide),aA9 h];exact aY0 a l.length cap f w hn h
 .obtain⟨k,rfl⟩:∃k:Nat,f=(k:Int):=⟨f.toNat,od⟩;cases h2:l.any far
  .rw[wV (vT h h2),vT h h2,aE0];exact bCg a cap l k w hr hn od h2
  .rw[tX (by rw[aAa h h2];decide),aAa h h2];exact aPs a cap l k w hr hn od h2
theorem aVo(a:Option WT)(cap:Nat)(row:List Int)(m:Nat)(c f:Int)(w:WA)(hr:bI w a row)(hn:row.length<=1000):
  Calls prog 188 #[iI c,sV a row.length cap,iI m,iI f] w λe w'=>e=rT (tU #[iI (rJ m c row f),dG (fX m c row f)])/\bW w w':=by
 by_cases h1:row.length=m;rotate_left
 .rw[P0 (by rw[J0 h1];decide),J0 h1,aSm];have k1:((row.length:Int) !=(m:Int))=true:=ol;generalize row.length=n at *;go_enter func188,ntmps188;exact zFi
 .have k1:((row.length:Int) !=(m:Int))=false:=by simp;omega
  have hp:=K6 w.1.size (w.alloc (.cells #[iI 1099511627776] 3)) oe oe _ c (jD _ _);have hp:Calls prog 157 #[iI c,pP w.1.size] (w.alloc (.cells #[iI 1099511627776] 3)) λe w'=>e=rT (.bool (far c))/\∃q,w'=(w.alloc (.cells #[iI 1099511627776] 3)).drewN q:=hp;have eG:=Y4 w;have HM:Hid (∀u:WA,bW w u->Calls prog 90 #[sV a row.length cap,iI f] u λe w'=>e=rT (tU #[iI (fU row f),dG (eU row f)])/\bW u w'):=λu hu=>aN2 a cap row f u (hr.below hu) od;have hV:∀q,bW w ((w.alloc (.cells #[iI 1099511627776] 3)).drewN q):=λq=>below_drewN' ((jD _ w).alloc (kG _) _) q;cases h2:far c
  .rw[h2]at hp;have e1:=wE (f:=f) h1 h2;have e2:rJ m c row f=fU row f:=by
    unfold rJ;rw[e1];by_cases h:eU row f=0
    .rw[kK h]
    .rw[kJ h,tX h]
   rw[e1,e2];generalize fU row f=x at *;generalize dG (eU row f)=E at *;exact zIg
  .rw[h2]at hp;rw[P0 (by rw[J3 h1 h2];decide),J3 h1 h2,aSn];have m85:=0;exact zIg
theorem aVe(a ra:Option WT)(cap bM2:Nat)(cs:List Int)(rows:List (List Int))(f:Int)(w:WA)(hr:bI w a cs)(ht:aJ7 w ra rows)(hlen:rows.length=cs.length)(hn:cs.length<=1000)(hrn:∀r∈rows,r.length<=1000)
  (hF:∀j,j<cs.length->fX cs.length (cs.getD j 0) (rows.getD j []) f=0):
  Calls prog 147 #[sV a cs.length cap,sV ra rows.length bM2,iI f] w λev w'=>∃v,ev=rT (tU #[v,.nilIface])/\w'.ownsRow w.1.size 3 1 v cs.length ((uK cs rows f cs.length).map (Value.int .i64))/\bW w w':=by
 obtain⟨n,fN⟩:∃n,cs.length=n:=⟨_,rfl⟩;have HL:Hid (cs.length=n/\rows.length=n):=⟨fN,by rw[hlen,fN]⟩;have HF:Hid (∀j,j<n->fX n (cs.getD j 0) (rows.getD j []) f=0):=fN▸hF;have HR:Hid (bI w a cs):=hr;have HT:Hid (aJ7 w ra rows):=ht;have HRN:Hid (∀r∈rows,r.length<=1000):=hrn;rw[fN]at hn;rw[hlen,fN];clear hF hr ht hlen hrn fN;obtain⟨i0,hi,qV,qO,qP⟩:=info_parts Tryz.aEh;have k1:((n:Int) !=(n:Int))=false:=oe;go_enter func147,ntmps147;go_wp2_with(at_make;refine wpList_make_own _ rfl _ _ 87 rfl w.1.size 3 i0 (iI 0) 1 underlying87 hi qV qO .i64 .i64 _ n rfl rfl rfl O8 ot (kG _) ?_;intro w0 bFg vJ);have hb0:bW w w0:=(jD _ _).grown vJ (kG _) (λk h=>by cases h);clear vJ;go_loopw[8,24] (λv t wr=>∃k:Nat,k<=n/\t=iI k/\Hid (∀j,j<k->fX n (cs.getD j 0) (rows.getD j []) f=0)/\wr.ownsRow w.1.size 3 1 v k ((uK cs rows f k).map (Value.int .i64))/\bW w wr) (λ_ t _=>n-(intOf t).toNat);case atStart=>exact⟨0,kI _,rfl,λj hj=>absurd hj (kV _),by simpa[uK]using bFg,hb0⟩
 case round=>
  obtain⟨k,hk,rfl,h0,cP,eG⟩:=hrel;by_cases hlt:k<n
  .obtain⟨b,off,rfl,hb,hc⟩:=HR.out (by rw[HL.out.1];omega);obtain⟨tb,bN5,rfl,htb,htc⟩:=HT.out (by rw[HL.out.2];omega);have y0:=bc eG hb (hc k (by rw[HL.out.1];exact hlt));obtain⟨rx,rc,y1,nJ⟩:=htc k (by rw[HL.out.2];exact hlt);replace y1:=bc eG htb y1;have hrl:(rows.getD k []).length<=1000:=HRN.out _ (by
    have:k<rows.length:=by rw[HL.out.2];exact hlt
    simp[List.getD,this])
   have HS:Hid (Calls prog 188 #[iI (cs.getD k 0),.slice rx (rows.getD k []).length rc,iI n,iI f] wr λe w'=>e=rT (tU #[iI (rJ n (cs.getD k 0) (rows.getD k []) f),dG (fX n (cs.getD k 0) (rows.getD k []) f)])/\bW wr w'):=aVo rx rc (rows.getD k []) n (cs.getD k 0) f wr (nJ.below eG) hrl;have C6:Hid (uK cs rows f (k+1)=uK cs rows f k++[cs.getD k 0+fU (rows.getD k []) f]):=aLm ..;clear hc htc nJ hrl;obtain⟨se,hse⟩:∃se,fX n (cs.getD k 0) (rows.getD k []) f=se:=⟨_,rfl⟩;have HE:Hid (fX n (cs.getD k 0) (rows.getD k []) f=se):=hse;rw[hse]at HS;have hz:se=0:=by rw[<-hse];exact HF.out k hlt
   subst hz;obtain⟨z1,z2,z3⟩:=aFe HE.out;have hcr:=F9.1 z2;have hmr:=wU (rows.getD k []) f;rw[aLu HE.out,aE0]at HS;have HZ1:Hid (fX n (cs.getD k 0) (rows.getD k []) f=0):=HE.out;clear hse HE z1 z2 z3;obtain⟨c,wR⟩:∃c,cs.getD k 0=c:=⟨_,rfl⟩;obtain⟨rl,hrl⟩:∃rl,(rows.getD k []).length=rl:=⟨_,rfl⟩;obtain⟨x,hx⟩:∃x,fU (rows.getD k []) f=x:=⟨_,rfl⟩;rw[wR]at y0 HS hcr C6;rw[hrl]at y1 HS;rw[hx]at HS hmr C6;clear wR hrl hx;go_wp2_with fail;refine HS.out.mono ?_;rintro ev w2 ⟨rfl,iT⟩;have aSv:=eG.trans (iT.mono eG.size);have L9:=gK cP iT;have xG:=aSv.size;go_wp2_with(at_builtin;refine wpList_append_own _ rfl _ _ 87 rfl w.1.size 3 i0 (iI 0) 1 8 underlying87 hi qV qO qP rfl og u8 _ _ rfl (L9.alloc _) (aA w2.1.size 0) 1 1 [iI (c+x)] rfl rfl (cell_one_new _ _ _) (mY [c+x]) ot od ol ?_;intro v' w3 dI bT aGq);have sN:bW w w3:=(aSv.alloc xG _).grown bT ol (λg hg=>(L9.lt g hg).1);refine⟨⟨k+1,od,Od,H4 h0.out HZ1.out,by rw[C6.out,List.map_append];exact dI,sN⟩,?_⟩;simp[intOf];omega
  .have:k=n:=by omega
   subst this;go_wp2;go_ret2;exact⟨_,rfl,cP,eG⟩
theorem yW{n:Nat}{lies:Nat->Bool}{aC:Int}{now:Nat->Int}(hj0:0<=aC)(hj1:aC<=137438953472)(aA3:∀i,i<n->-274877906944<=now i/\now i<=274877906944)(l:List zO):∀i k,i<n->k<n->-1099511627776<=readAll n lies aC now l i k/\readAll n lies aC now l i k<=1099511627776:=by
 have key:∀(l:List zO)(row:Nat->Nat->Int),(∀i k,i<n->k<n->-1099511627776<=row i k/\row i k<=1099511627776)->∀i k,i<n->k<n->-1099511627776<=l.foldl (λrow x=>gG n lies aC now x row) row i k/\l.foldl (λrow x=>gG n lies aC now x row) row i k<=1099511627776:=by
  intro l
  induction l with
  |nil=>intro row h;exact h
  |cons x l ih=>
   intro row h
   refine ih _ λi k hi hk=>?_
   show -1099511627776<=gG n lies aC now x row i k/\gG n lies aC now x row i k<=1099511627776
   unfold gG
   split
   .have a:=aA3 i hi
    have b:=aA3 k hk
    have c:=wQ (x:=x.is_) hj0
    have d:=wQ (x:=x.is_) (most:=549755813888) og
    split<;>omega
   .exact h i k hi hk
 refine key l _ λi k hi hk=>?_;have a:=aA3 i hi;have b:=aA3 k hk;show -1099511627776<=now k-now i/\now k-now i<=1099511627776;omega
def rowsOf(n:Nat)(f:Nat->Nat->Int):List (List Int):=(List.range n).map λi=>(List.range n).map (f i)
theorem yX(n:Nat)(f:Nat->Nat->Int):(rowsOf n f).length=n:=by simp[rowsOf]
theorem I1(n:Nat)(f:Nat->Nat->Int){i:Nat}(hi:i<n):(rowsOf n f).getD i []=(List.range n).map (f i):=by simp[rowsOf,hi]
theorem RTab.tab{w:WA}{base R n Bi:Nat}{f:Nat->Nat->Int}{G cap:WN}{v:WB}(h:RTab w base R n n f G cap Bi v):aJ7 w (some (aA R 0)) (rowsOf n f):=λ_=>by
 refine⟨R,0,rfl,kC h.lR h.lB,λj hj=>?_⟩;rw[yX]at hj;rw[I1 n f hj];refine⟨_,cap j,?_,λ_=>⟨G j,0,rfl,kC (h.lt j hj) h.lB,λk hk=>?_⟩⟩
 .rw[Nat.zero_add,List.length_map,List.length_range];exact h.row j hj
 .rw[List.length_map,List.length_range]at hk;rw[Nat.zero_add,h.cel j k hj hk];simp[hk]
theorem aMl(a:Option WT)(cap:Nat)(l:List Int)(j n:Nat)(hl:l.length=n)(hn:n<=9223372036854775807)(w:WA)(hr:bI w a l):Calls prog 116 #[sV a n cap,iI j] w λe w'=>e=rT (iI (if j<n then l.getD j 0 else 0))/\w'=w:=by
 by_cases h:j<n
 .rw[kK h];obtain⟨b,off,rfl,hb,hc⟩:=hr od;have y:=hc j od;have k1:decide (n<=j)=false:=kD od;have k1':decide ((n:Int)<=(j:Int))=false:=kD od;have k2:(j:Int)<(n:Int):=od;generalize l.getD j 0=X at *;clear hc hr;go_enter func116,ntmps116;exact W5
 .rw[kJ h];have k1:n<=j:=od;have k1':(n:Int)<=(j:Int):=od;go_enter func116,ntmps116;exact W5
theorem aSj(l:List Int)(d:Int)(j:Nat)(hd:0<=d):cutV (if j<l.length then l.getD j 0 else 0) d=pW l d j:=by
 unfold pW;split
 .rfl
 .unfold cutV;omega
def aFp(w w':WA)(n:Nat)(BY:Bool)(CT:Nat->Int)(e:Ending):Prop:=
 (BY=true/\e=rT (tU #[sV none 0 0,dG 6]))\/(BY=false/\∃g cap,e=rT (tU #[sL g n cap,.nilIface])/\(w.1.size<=g/\g<w'.1.size)/\∀j,j<n->w'.cell? (aA g j)=some (iI (CT j)))
theorem bEa(w:WA)(a b c d:WB)(t:WI):((w.alloc (.cells #[a,b,c,d] t)).cell? (aA w.1.size 0)=some a/\(w.alloc (.cells #[a,b,c,d] t)).cell? (aA w.1.size 1)=some b/\(w.alloc (.cells #[a,b,c,d] t)).cell? (aA w.1.size 2)=some c/\(w.alloc (.cells #[a,b,c,d] t)).cell? (aA w.1.size 3)=some d)/\bW w (w.alloc (.cells #[a,b,c,d] t))/\(w.alloc (.cells #[a,b,c,d] t)).1.size=w.1.size+1:=
 ⟨⟨oe,oe,oe,oe⟩,(jD _ _).alloc (kG _) _,oe⟩
theorem aG6(C cb n fK f:Nat)(fa aC aJ:Int)(cs:List Int)(fN:cs.length=n)(w:WA)(c0:w.cell? (aA C 0)=some (iI n))(c1:w.cell? (aA C 1)=some (iI f))(c3:w.cell? (aA C 3)=some (iI aC))(c4:w.cell? (aA C 4)=some (iI aJ))(c10:w.cell? (aA C 10)=some (iI fa))(c11:w.cell? (aA C 11)=some (sL cb n fK))(ck:∀j,j<cs.length->w.cell? (aA cb j)=some (iI (cs.getD j 0)))(jT:∀x∈cs,-274877906944<=x/\x<=274877906944)(hf3:3*f+1<=n)(hn:n<=16)(aGo:0<=aC)(hji:aC<=137438953472)(hd0:0<=aJ)(G5:aJ<=137438953472)(r:cB)(a:tL)(hr:r.In a w):
  Calls prog 113 #[pP C,r.val a] w λe w'=>bW w w'/\aFp w w' n (zS n (gQ n f (aX fa) aC aJ (λi=>cs.getD i 0) r.reads r.bP)) (gQ n f (aX fa) aC aJ (λi=>cs.getD i 0) r.reads r.bP) e:=by
 have qN:=cT c11;have aT2:=cT (ck 0 od);have aA3:∀i,i<n->-274877906944<=cs.getD i 0/\cs.getD i 0<=274877906944:=λi hi=>jT _ (pN od);have HRI:Hid (r.In a w):=hr;have HRE:Hid (∀v,bW w v->Calls prog 148 #[pP C,sV a.ra r.nR a.rc] v λe w'=>∃R G rW Bi,e=rT (sL R n n)/\RTab w' v.1.size R n n (readAll n (aX fa) aC (λi=>cs.getD i 0) r.reads) G rW Bi (sV none 0 0)/\bW v w'):=λv hv=>aOf C cb n fK fa aC cs fN v (bc hv qN c0) (bc hv qN c3) (bc hv qN c10) (bc hv qN c11) (λj hj=>bc hv aT2 (ck j hj)) jT od hn aGo hji r a.ra a.rc (hr.reads.below hv) hr.lR;have HRO:Hid (∀v base R G rW Bi,bW w v->RTab v base R n n (readAll n (aX fa) aC (λi=>cs.getD i 0) r.reads) G rW Bi (sV none 0 0)->Calls prog 147 #[sL cb n fK,sL R n n,iI f] v λev w'=>∃g cap,ev=rT (tU #[sL g n cap,.nilIface])/\(v.1.size<=g/\g<w'.1.size/\(∀j,j<n->w'.cell? (aA g j)=some (iI (uJ n f (λi=>cs.getD i 0) (readAll n (aX fa) aC (λi=>cs.getD i 0) r.reads) j)))/\∀j,w'.frozen? (aA g j)=false)/\bW v w'):=by
  intro v base R G rW Bi hv hT;have hro:=aVe (some (aA cb 0)) (some (aA R 0)) fK n cs (rowsOf n (readAll n (aX fa) aC (λi=>cs.getD i 0) r.reads)) f v (λ_=>⟨cb,0,rfl,kC aT2 hv.size,λj hj=>by rw[Nat.zero_add];exact bc hv aT2 (ck j hj)⟩) hT.tab (by rw[yX,fN]) od (λq hq=>by
   obtain⟨i,_,rfl⟩:=List.mem_map.1 hq
   simp;omega) (λj hj=>by
   rw[I1 n _ od]
   rw[wE (by simp[fN]) (by rw[F9];have:=aA3 j od;omega)]
   refine vT ja ?_
   rw[Bool.eq_false_iff]
   intro hx
   obtain⟨y,hy,hy2⟩:=List.any_eq_true.1 hx
   obtain⟨k,hk,rfl⟩:=List.mem_map.1 hy
   have hk:=List.mem_range.1 hk
   have:=yW (lies:=aX fa) aGo hji aA3 r.reads j k od hk
   rw[Z5]at hy2
   omega)
  rw[yX,fN]at hro;refine hro.mono ?_;rintro e w' ⟨x,he,ho,hb⟩;rcases ho.2 with⟨_,e0⟩|⟨g,cap,cur,hx,hg,hh,_⟩
  .omega
  .have C3:g<w'.1.size:=by
    rcases jB g w'.1.size with q|q
    .exact q
    .exact zF1
   refine⟨g,cap,by rw[he,hx],⟨hg,C3,λj hj=>?_,λj=>by simp[World.frozen?,hh]⟩,⟨hb.os,hb.tape,hb.output,hb.size,hb.block⟩⟩;have:=ho.cells (g:=g) (by rw[hx];rfl) j (iI (uJ n f (λi=>cs.getD i 0) (readAll n (aX fa) aC (λi=>cs.getD i 0) r.reads) j)) (by
    have hlj:j<(uK cs (rowsOf n (readAll n (aX fa) aC (λi=>cs.getD i 0) r.reads)) f n).length:=by rw[aR3];exact hj
    rw[List.getElem?_map,AT hlj]
    simp only[uK,List.getElem_map,List.getElem_range,AH]
    rw[I1 n _ hj,wV]
    .rw[Int.toNat_natCast];rfl
    .refine vT ja ?_
     rw[Bool.eq_false_iff]
     intro hx
     obtain⟨y,hy,hy2⟩:=List.any_eq_true.1 hx
     obtain⟨k,hk,rfl⟩:=List.mem_map.1 hy
     have hk:=List.mem_range.1 hk
     have:=yW (lies:=aX fa) aGo hji aA3 r.reads j k hj hk
     rw[Z5]at hy2
     omega)
   exact zEa
 have bDn:Hid (∀v,Calls prog 142 #[iI aJ] v λe w'=>∃L,e=rT (.func (.func 177) #[] #[pP L])/\v.1.size<=L/\w'.cell? (aA L 0)=some (iI aJ)/\L<w'.1.size/\bW v w'):=λv=>aRz aJ v;have HCO:Hid (∀L (v:WA) (x:Int),v.cell? (aA L 0)=some (iI aJ)->Calls prog 177 #[iI x,pP L] v λe w'=>e=rT (iI (cutV x aJ))/\w'=v):=λL v x hv=>wP x aJ L hd0 od v hv;have HOF:Hid (∀v (j:Nat),bW w v->Calls prog 116 #[sV a.da r.bP.length a.dc,iI j] v λe w'=>e=rT (iI (if j<r.bP.length then r.bP.getD j 0 else 0))/\w'=v):=λv j hv=>aMl a.da a.dc r.bP j r.bP.length rfl hr.lD v (hr.bP.below hv);have HDI:Hid (∀j,cutV (if j<r.bP.length then r.bP.getD j 0 else 0) aJ=pW r.bP aJ j/\-aJ<=pW r.bP aJ j/\pW r.bP aJ j<=aJ):=λj=>⟨aSj _ _ _ hd0,aCa hd0 j⟩;have HMI:Hid (∀j,j<n->-1374389534720<=uJ n f (λi=>cs.getD i 0) (readAll n (aX fa) aC (λi=>cs.getD i 0) r.reads) j/\uJ n f (λi=>cs.getD i 0) (readAll n (aX fa) aC (λi=>cs.getD i 0) r.reads) j<=1374389534720):=λj hj=>by
  have h1:=aA3 j hj;have h2:=wU ((List.range n).map (readAll n (aX fa) aC (λi=>cs.getD i 0) r.reads j)) f;rw[wV (vT ja (by
   rw[Bool.eq_false_iff]
   intro hx
   obtain⟨y,hy,hy2⟩:=List.any_eq_true.1 hx
   obtain⟨k,hk,rfl⟩:=List.mem_map.1 hy
   have hk:=List.mem_range.1 hk
   have:=yW (lies:=aX fa) aGo hji aA3 r.reads j k hj hk
   rw[Z5]at hy2
   omega)),Int.toNat_natCast]at h2
  show -1374389534720<=cs.getD j 0+xU ((List.range n).map (readAll n (aX fa) aC (λi=>cs.getD i 0) r.reads j)) f/\cs.getD j 0+xU ((List.range n).map (readAll n (aX fa) aC (λi=>cs.getD i 0) r.reads j)) f<=1374389534720;omega
 have HTO:Hid (∀j,gQ n f (aX fa) aC aJ (λi=>cs.getD i 0) r.reads r.bP j=uJ n f (λi=>cs.getD i 0) (readAll n (aX fa) aC (λi=>cs.getD i 0) r.reads) j+pW r.bP aJ j):=λj=>rfl;have HBY:Hid (zS n (gQ n f (aX fa) aC aJ (λi=>cs.getD i 0) r.reads r.bP)=((List.range n).map (gQ n f (aX fa) aC aJ (λi=>cs.getD i 0) r.reads r.bP)).any fP):=by show _=_;rw[List.any_map];rfl
 generalize uJ n f (λi=>cs.getD i 0) (readAll n (aX fa) aC (λi=>cs.getD i 0) r.reads)=ST at *;generalize readAll n (aX fa) aC (λi=>cs.getD i 0) r.reads=RA at *;generalize gQ n f (aX fa) aC aJ (λi=>cs.getD i 0) r.reads r.bP=CT at *;generalize zS n CT=BY at *;generalize pW r.bP aJ=DV at *;unfold cB.val;exact zGy
