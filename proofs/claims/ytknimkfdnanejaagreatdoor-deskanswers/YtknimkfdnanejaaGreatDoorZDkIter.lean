import Derived.Test.YtknimkfdnanejaaGreatDoorZRangeTwo
import Derived.Test.YtknimkfdnanejaaGreatDoorZT9
namespace Go.Proofs.YtknimkfdnanejaaGreatDoor
open Go.RowKit Go.Proofs.Tryz
set_option maxRecDepth 100000
set_option maxHeartbeats 16000000
open Go.RowKit Go.Shelf
attribute [local go_sem] Oper.semAt_some
theorem aC6(l:List UInt8):Lib.trimSuffix l [10]=uM l:=by
 unfold uM Lib.trimSuffix Lib.hasSuffix;by_cases h:l.getLast?=some 10
 ·obtain⟨r,rfl⟩:∃r,l=r++[10]:=by obtain⟨r,hr⟩:=List.getLast?_eq_some_iff.1 h;exact⟨r,hr⟩
  rw[kJ h,kJ (by rw[List.isSuffixOf_iff_suffix];exact⟨r,rfl⟩)];simp
 ·rw[kI h,kI];intro q;rw[List.isSuffixOf_iff_suffix]at q;obtain⟨r,rfl⟩:=q;exact h oh
theorem oI(s:ByteArray)(a b:Nat):s.extract a b=⟨((s.data.toList.take b).drop a).toArray⟩:=by
 have h:(s.extract a b).data=s.data.extract a b:=ByteArray.data_extract
 cases q:s.extract a b with
 |mk d=>
  rw[q]at h
  simp only at h
  rw[h]
  congr 1
  apply Array.ext'
  simp[List.drop_take]
abbrev nH(l:List UInt8):ByteArray:=⟨l.toArray⟩
theorem aNn(l:List UInt8)(hl:l.length<=100000):(∃k,k<l.length/\l=l.take k++10::l.drop (k+1)/\(∀x∈l.take k,x≠10)/\∀w,Calls prog 39 #[sT (nH l),sT ⟨#[10]⟩] w fun e w'=>e=rT (tU #[sT (nH (l.take k)),sT (nH (l.drop (k+1))),.bool true])/\bW w w')\/
  ((∀x∈l,x≠10)/\∀w,Calls prog 39 #[sT (nH l),sT ⟨#[10]⟩] w fun e w'=>e=rT (tU #[sT (nH l),sT (nH []),.bool false])/\bW w w'):=by
 have e1:(nH l).data.toList=l:=oh;have e2:(nH l).size=l.length:=by show l.toArray.size=_;simp
 rcases pJ 10 l with⟨h1,h2⟩|⟨k,h1,h2,h3,h4⟩
 ·exact .inr ⟨h2,fun w=>bB5 (nH l) (by rw[e1];exact h1) w⟩
 ·refine .inl ⟨k,h2,h3,h4,fun w=>?_⟩;have:=aX7 (nH l) k (by rw[e1];exact h1) od od w;rw[oI,oI,e1,e2]at this;exact zHh
theorem aLv(pre:List ByteArray)(x:ByteArray)(r:List ByteArray):pre++[x]<+:pre++x::r:=⟨r,oh⟩
theorem aHe(n B:Nat)(t:ByteArray)(ht:t.size<=100000)(W0:World)(hB:B<W0.heap.size)(hb:W0.cell? (aA B 0)=some (.string t)):
  aG5 Fence.wide n prog 38 #[pP B] (fun x:ByteArray=>#[.string x]) (iF t) W0:=by
 intro l J W hW hJ hY h0;have hT:=Tryz.strings_TrimSuffix t ⟨#[10]⟩ W od;have e0:(⟨#[10]⟩:ByteArray).data.toList=[10]:=rfl;rw[e0,aC6]at hT;have c0:=bc hW hB hb;have hlen:(uM t.data.toList).length<=100000:=kG (G9 _) (by rw[Array.length_toList];exact ht);have hL:iF t=(cU (uM t.data.toList)).map nH:=rfl;have hC:=aNn (uM t.data.toList) hlen;generalize uM t.data.toList=T at hT hL hC hlen;generalize iF t=L at hY hL⊢;have h0':Hid (J [] W):=h0;clear hb hW h0;have hq:∃(cO rest:List UInt8)(more:Bool),(∀w,Calls prog 39 #[.string (nH T),.string ⟨#[10]⟩] w fun e w'=>e=.returned (.tuple #[.string (nH cO),.string (nH rest),.bool more])/\bW w w')/\L=nH cO::(if more then(cU rest).map nH else[])/\rest.length<=100000/\(more=true->rest.length<T.length):=by
  rcases hC with⟨k,k1,k2,k3,k4⟩|⟨k1,k2⟩
  ·refine⟨_,_,_,k4,?_,ol,fun _=>by simp;omega⟩;rw[hL];conv=>lhs;rw[k2]
   rw[T5 k3];rfl
  ·exact⟨_,_,_,k2,by rw[hL,vH k1];rfl,oh,fun q=>by cases q⟩
 obtain⟨cO,rest,more,hcut,hLl,hrl,hrm⟩:=hq;clear hC;refine callsIn_of_wp func38 rfl trivial ?_ rfl;simp only[ntmps38,List.size_toArray,List.length_cons,List.length_nil,Nat.reduceAdd,Nat.reduceSub,Array.replicate_succ,Array.replicate_zero,List.push_toArray,List.append_toArray,List.nil_append,List.cons_append];gi_wp2_with fail;refine⟨trivial,(fun q=>by cases q),(callsIn_wide.2 hT).mono ?_⟩;rintro e w1 ⟨rfl,rfl⟩;gi_wp2_with fail;refine⟨trivial,(fun q=>by cases q),(callsIn_wide.2 (hcut _)).mono ?_⟩;rintro e w2 ⟨rfl,dQ⟩;have HJ2:Hid (J [] w2):=hJ _ _ _ h0'.out dQ;gi_wp2_with fail;gi_loopw [3,4,5] (fun x y z wr=>∃(pre:List ByteArray)(li re:List UInt8)(mo:Bool),x=.string (nH li)/\y=.string (nH re)/\z=.bool mo/\L=pre++nH li::(if mo then(cU re).map nH else[])/\re.length<=100000/\J pre wr)
  (fun _ y z _=>match y,z with|.string s,.bool true=>s.size+1|_,_=>0)
 case atStart=>exact⟨[],cO,rest,more,rfl,rfl,rfl,hLl,hrl,HJ2.out⟩
 case round=>
  obtain⟨pre,li,re,mo,rfl,rfl,rfl,hl,hre,hj⟩:=hrel;obtain⟨fn,tmps,assign,body,hy,hR⟩:=hY pre (nH li) wr hj (by rw[hl];exact aLv _ _ _);have HR:Hid (RoundIn Fence.wide (n-1) prog l fn tmps assign body wr fun e W'=>e=.returned (.bool true)/\J (pre++[nH li]) W'):=hR;clear hR hj
  cases mo with
  |false=>
   gi_wp2_with fail
   refine⟨(fun q=>by cases q),HR.out.mono ?_⟩
   rintro e w3 ⟨rfl,hj3⟩
   have HJ3:Hid (J L w3):=by rw[hl];exact hj3
   gi_wp2_with fail
   go_end0
   exact⟨⟨_,rfl⟩,HJ3.out⟩
  |true=>
   have hC:=aNn re hre
   have hq:∃(li2 re2:List UInt8)(mo2:Bool),(∀w,Calls prog 39 #[.string (nH re),.string ⟨#[10]⟩] w fun e w'=>e=.returned (.tuple #[.string (nH li2),.string (nH re2),.bool mo2])/\bW w w')/\(cU re).map nH=nH li2::(if mo2 then(cU re2).map nH else[])/\re2.length<=100000/\(mo2=true->re2.length<re.length):=by
    rcases hC with⟨k,k1,k2,k3,k4⟩|⟨k1,k2⟩
    ·refine⟨_,_,_,k4,?_,ol,fun _=>by simp;omega⟩
     conv=>lhs;rw[k2]
     rw[T5 k3]
     rfl
    ·exact⟨_,_,_,k2,by rw[vH k1];rfl,oh,fun q=>by cases q⟩
   obtain⟨li2,re2,mo2,bFb,J2,bFv,bFk⟩:=hq
   have HM:Hid (re2.length<=100000/\(mo2=true->re2.length<re.length)):=⟨bFv,bFk⟩
   have HL4:Hid (L=(pre++[nH li])++nH li2::(if mo2 then(cU re2).map nH else[])):=by
    rw[kJ rfl,J2]at hl
    show L=_
    rw[hl]
    simp
   clear hC bFv bFk hl J2
   gi_wp2_with fail
   refine⟨(fun q=>by cases q),HR.out.mono ?_⟩
   rintro e w3 ⟨rfl,hj3⟩
   gi_wp2_with fail
   refine⟨trivial,(fun q=>by cases q),(callsIn_wide.2 (bFb _)).mono ?_⟩
   rintro e w4 ⟨rfl,yN⟩
   have HJ4:Hid (J (pre++[nH li]) w4):=hJ _ _ _ hj3 yN
   gi_wp2_with fail
   refine⟨⟨pre++[nH li],li2,re2,mo2,rfl,rfl,rfl,HL4.out,HM.out.1,HJ4.out⟩,?_⟩
   have z1:(nH re).size=re.length:=by show re.toArray.size=_;simp
   have z2:(nH re2).size=re2.length:=by show re2.toArray.size=_;simp
   have hm:=HM.out.2
   cases mo2 with
   |false=>
    show 0<(nH re).size+1
    omega
   |true=>
    show(nH re2).size+1<(nH re).size+1
    have:=hm rfl
    omega
