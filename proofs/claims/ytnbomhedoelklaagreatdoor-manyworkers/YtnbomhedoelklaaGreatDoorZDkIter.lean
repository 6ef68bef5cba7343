import Derived.Test.YtnbomhedoelklaaGreatDoorZT11
import Derived.Test.YtnbomhedoelklaaGreatDoorZT7
namespace Go.Proofs.YtnbomhedoelklaaGreatDoor
open Go.RowKit Go.Proofs.Tryz
set_option maxRecDepth 99999
set_option maxHeartbeats 0
open Go.Shelf
attribute [local go_sem] Oper.semAt_some
theorem aBy(l:List UInt8):Lib.trimSuffix l [10]=sJ l:=by
 unfold sJ Lib.trimSuffix Lib.hasSuffix;by_cases h:l.getLast?=some 10
 .obtain⟨r,rfl⟩:∃r,l=r++[10]:=by obtain⟨r,hr⟩:=List.getLast?_eq_some_iff.1 h;exact⟨r,hr⟩
  rw[kK h,kK (by rw[List.isSuffixOf_iff_suffix];exact⟨r,rfl⟩)];simp
 .rw[kJ h,kJ];intro q;rw[List.isSuffixOf_iff_suffix]at q;obtain⟨r,rfl⟩:=q;exact h oe
theorem zY(s:WG)(a b:Nat):s.extract a b=⟨((s.data.toList.take b).drop a).toArray⟩:=by
 have h:(s.extract a b).data=s.data.extract a b:=ByteArray.data_extract
 cases q:s.extract a b with
 |mk d=>
  rw[q]at h
  simp only at h
  rw[h]
  congr 1
  apply Array.ext'
  simp[List.drop_take]
abbrev uL(l:List UInt8):WG:=⟨l.toArray⟩
theorem aMn(l:List UInt8)(hl:l.length<=100000):(∃k,k<l.length/\l=l.take k++10::l.drop (k+1)/\(∀x∈l.take k,x≠10)/\∀w,Calls prog 58 #[sT (uL l),sT ⟨#[10]⟩] w λe w'=>e=rT (tU #[sT (uL (l.take k)),sT (uL (l.drop (k+1))),.bool true])/\bW w w')\/
  ((∀x∈l,x≠10)/\∀w,Calls prog 58 #[sT (uL l),sT ⟨#[10]⟩] w λe w'=>e=rT (tU #[sT (uL l),sT (uL []),.bool false])/\bW w w'):=by
 have e1:(uL l).data.toList=l:=oe;have e2:(uL l).size=l.length:=by show l.toArray.size=_;simp
 rcases uF 10 l with⟨h1,h2⟩|⟨k,h1,h2,h3,h4⟩
 .exact .inr ⟨h2,λw=>bAx (uL l) (by rw[e1];exact h1) w⟩
 .refine .inl ⟨k,h2,h3,h4,λw=>?_⟩;have:=aWy (uL l) k (by rw[e1];exact h1) od od w;rw[zY,zY,e1,e2]at this;exact zCk
theorem aL4(pre:List WG)(x:WG)(r:List WG):pre++[x]<+:pre++x::r:=⟨r,oe⟩
theorem aH4(n B:Nat)(t:WG)(ht:t.size<=100000)(W0:WA)(hB:B<W0.1.size)(hb:W0.cell? (aA B 0)=some (.string t)):
  aFt Fence.wide n prog 57 #[pP B] (λx:WG=>#[.string x]) (nE t) W0:=by
 intro l J W hW hJ hY h0;have hT:=Tryz.strings_TrimSuffix t ⟨#[10]⟩ W od;have e0:(⟨#[10]⟩:WG).data.toList=[10]:=rfl;rw[e0,aBy]at hT;have c0:=bc hW hB hb;have hlen:(sJ t.data.toList).length<=100000:=kH (zI _) (by rw[Array.length_toList];exact ht);have hL:nE t=(cA (sJ t.data.toList)).map uL:=rfl;have hC:=aMn (sJ t.data.toList) hlen;generalize sJ t.data.toList=T at hT hL hC hlen;generalize nE t=L at hY hL⊢;have h0':Hid (J [] W):=h0;clear hb hW h0;have hq:∃(dZ rest:List UInt8)(more:Bool),(∀w,Calls prog 58 #[.string (uL T),.string ⟨#[10]⟩] w λe w'=>e=.returned (.tuple #[.string (uL dZ),.string (uL rest),.bool more])/\bW w w')/\L=uL dZ::(if more then(cA rest).map uL else[])/\rest.length<=100000/\(more=true->rest.length<T.length):=by
  rcases hC with⟨k,k1,k2,k3,k4⟩|⟨k1,k2⟩
  .refine⟨_,_,_,k4,?_,ol,λ_=>by simp;omega⟩;rw[hL];conv=>lhs;rw[k2]
   rw[N5 k3];rfl
  .exact⟨_,_,_,k2,by rw[hL,rH k1];rfl,oe,λq=>by cases q⟩
 obtain⟨dZ,rest,more,hcut,hLl,hrl,hrm⟩:=hq;clear hC;refine callsIn_of_wp func57 rfl trivial ?_ rfl;simp only[ntmps57,List.size_toArray,List.length_cons,List.length_nil,Nat.reduceAdd,Nat.reduceSub,Array.replicate_succ,Array.replicate_zero,List.push_toArray,List.append_toArray,List.nil_append,List.cons_append];gi_wp2_with fail;refine⟨trivial,(λq=>by cases q),(callsIn_wide.2 hT).mono ?_⟩;rintro e w1 ⟨rfl,rfl⟩;gi_wp2_with fail;refine⟨trivial,(λq=>by cases q),(callsIn_wide.2 (hcut _)).mono ?_⟩;rintro e w2 ⟨rfl,iT⟩;have HJ2:Hid (J [] w2):=hJ _ _ _ h0'.out iT;gi_wp2_with fail;gi_loopw [3,4,5] (λx y z wr=>∃(pre:List WG)(li re:List UInt8)(mo:Bool),x=.string (uL li)/\y=.string (uL re)/\z=.bool mo/\L=pre++uL li::(if mo then(cA re).map uL else[])/\re.length<=100000/\J pre wr)
  (λ_ y z _=>match y,z with|.string s,.bool true=>s.size+1|_,_=>0)
 case atStart=>exact⟨[],dZ,rest,more,rfl,rfl,rfl,hLl,hrl,HJ2.out⟩
 case round=>
  obtain⟨pre,li,re,mo,rfl,rfl,rfl,hl,hre,hj⟩:=hrel;obtain⟨fn,tmps,assign,body,hy,hR⟩:=hY pre (uL li) wr hj (by rw[hl];exact aL4 _ _ _);have HR:Hid (RoundIn Fence.wide (n-1) prog l fn tmps assign body wr λe W'=>e=.returned (.bool true)/\J (pre++[uL li]) W'):=hR;clear hR hj
  cases mo with
  |false=>
   gi_wp2_with fail
   refine⟨(λq=>by cases q),HR.out.mono ?_⟩
   rintro e w3 ⟨rfl,hj3⟩
   have HJ3:Hid (J L w3):=by rw[hl];exact hj3
   gi_wp2_with fail
   go_end0
   exact⟨⟨_,rfl⟩,HJ3.out⟩
  |true=>
   have hC:=aMn re hre
   have hq:∃(li2 re2:List UInt8)(mo2:Bool),(∀w,Calls prog 58 #[.string (uL re),.string ⟨#[10]⟩] w λe w'=>e=.returned (.tuple #[.string (uL li2),.string (uL re2),.bool mo2])/\bW w w')/\(cA re).map uL=uL li2::(if mo2 then(cA re2).map uL else[])/\re2.length<=100000/\(mo2=true->re2.length<re.length):=by
    rcases hC with⟨k,k1,k2,k3,k4⟩|⟨k1,k2⟩
    .refine⟨_,_,_,k4,?_,ol,λ_=>by simp;omega⟩
     conv=>lhs;rw[k2]
     rw[N5 k3]
     rfl
    .exact⟨_,_,_,k2,by rw[rH k1];rfl,oe,λq=>by cases q⟩
   obtain⟨li2,re2,mo2,bF3,R7,bFj,bFd⟩:=hq
   have HM:Hid (re2.length<=100000/\(mo2=true->re2.length<re.length)):=⟨bFj,bFd⟩
   have HL4:Hid (L=(pre++[uL li])++uL li2::(if mo2 then(cA re2).map uL else[])):=by
    rw[kK rfl,R7]at hl
    show L=_
    rw[hl]
    simp
   clear hC bFj bFd hl R7
   gi_wp2_with fail
   refine⟨(λq=>by cases q),HR.out.mono ?_⟩
   rintro e w3 ⟨rfl,hj3⟩
   gi_wp2_with fail
   refine⟨trivial,(λq=>by cases q),(callsIn_wide.2 (bF3 _)).mono ?_⟩
   rintro e w4 ⟨rfl,hb4⟩
   have HJ4:Hid (J (pre++[uL li]) w4):=hJ _ _ _ hj3 hb4
   gi_wp2_with fail
   refine⟨⟨pre++[uL li],li2,re2,mo2,rfl,rfl,rfl,HL4.out,HM.out.1,HJ4.out⟩,?_⟩
   have z1:(uL re).size=re.length:=by show re.toArray.size=_;simp
   have z2:(uL re2).size=re2.length:=by show re2.toArray.size=_;simp
   have hm:=HM.out.2
   cases mo2 with
   |false=>
    show 0<(uL re).size+1
    omega
   |true=>
    show(uL re2).size+1<(uL re).size+1
    have:=hm rfl
    omega
