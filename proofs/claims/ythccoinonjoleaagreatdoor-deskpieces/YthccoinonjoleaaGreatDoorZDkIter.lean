import Derived.Test.YthccoinonjoleaaGreatDoorZR2
import Derived.Test.YthccoinonjoleaaGreatDoorZRangeTwo
namespace Go.Proofs.YthccoinonjoleaaGreatDoor
open Go.RowKit
set_option maxRecDepth 100000
set_option maxHeartbeats 16000000
section
open Go.RowKit Go.Shelf
attribute [local go_sem] Oper.semAt_some
theorem trimSuffix_nl (l:List UInt8):Lib.trimSuffix l [10]=trimNl l:=by
 unfold trimNl Lib.trimSuffix Lib.hasSuffix
 by_cases h:l.getLast? = some 10
 ·obtain ⟨r,rfl⟩:∃ r,l=r ++ [10]:=by
   obtain ⟨r,hr⟩:=List.getLast?_eq_some_iff.1 h
   exact ⟨r,hr⟩
  rw [if_pos h,if_pos (by rw [List.isSuffixOf_iff_suffix];exact ⟨r,rfl⟩)]
  simp
 ·rw [if_neg h,if_neg]
  intro q
  rw [List.isSuffixOf_iff_suffix] at q
  obtain ⟨r,rfl⟩:=q
  exact h (by simp)
theorem extract_list (s:ByteArray) (a b:Nat):s.extract a b=⟨((s.data.toList.take b).drop a).toArray⟩:=by
 have h:(s.extract a b).data=s.data.extract a b:=ByteArray.data_extract
 cases q:s.extract a b with
 | mk d =>
  rw [q] at h
  simp only at h
  rw [h]
  congr 1
  apply Array.ext'
  simp [List.drop_take]
abbrev txt (l:List UInt8):ByteArray:=⟨l.toArray⟩
theorem cut_txt (l:List UInt8) (hl:l.length≤100000):(∃ k,k<l.length∧l=l.take k ++ 10::l.drop (k+1)∧(∀ x∈l.take k,x≠10)∧∀ w,Calls Tryz.prog 34 #[.string (txt l),.string ⟨#[10]⟩] w fun e w'=>e=.returned (.tuple #[.string (txt (l.take k)),.string (txt (l.drop (k+1))),.bool true])∧Below w.heap.size w w') ∨
  ((∀ x∈l,x≠10)∧∀ w,Calls Tryz.prog 34 #[.string (txt l),.string ⟨#[10]⟩] w fun e w'=>e=.returned (.tuple #[.string (txt l),.string (txt []),.bool false])∧Below w.heap.size w w'):=by
 have e1:(txt l).data.toList=l:=by simp
 have e2:(txt l).size=l.length:=by show l.toArray.size=_;simp
 rcases indexByte_cases 10 l with ⟨h1,h2⟩ | ⟨k,h1,h2,h3,h4⟩
 ·exact .inr ⟨h2,fun w=>cut_no (txt l) (by rw [e1];exact h1) w⟩
 ·refine .inl ⟨k,h2,h3,h4,fun w=>?_⟩
  have:=cut_yes (txt l) k (by rw [e1];exact h1) (by omega) (by omega) w
  rw [extract_list,extract_list,e1,e2] at this
  simpa using this
theorem prefix_mid (pre:List ByteArray) (x:ByteArray) (r:List ByteArray):pre ++ [x] <+: pre ++ x::r:=⟨r,by simp⟩
theorem lines_gives (n B:Nat) (t:ByteArray) (ht:t.size≤100000) (W0:World) (hB:B<W0.heap.size) (hb:W0.cell? ⟨B,0,none⟩=some (.string t)) :
  GivesAll Fence.wide n Tryz.prog 33 #[.pointer (some ⟨B,0,none⟩)] (fun x:ByteArray=>#[.string x]) (linesOf t) W0:=by
 intro l J W hW hJ hY h0
 have hT:=Tryz.strings_TrimSuffix t ⟨#[10]⟩ W (by omega)
 have e0:(⟨#[10]⟩:ByteArray).data.toList = [10]:=rfl
 rw [e0,trimSuffix_nl] at hT
 have c0:=(hW.cell (p:=⟨B,0,none⟩) hB).trans hb
 have hlen:(trimNl t.data.toList).length≤100000:=Nat.le_trans (trimNl_len _) (by rw [Array.length_toList];exact ht)
 have hL:linesOf t=(splitNl (trimNl t.data.toList)).map txt:=rfl
 have hC:=cut_txt (trimNl t.data.toList) hlen
 generalize trimNl t.data.toList=T at hT hL hC hlen
 generalize linesOf t=L at hY hL ⊢
 have h0':Hid (J [] W):=h0
 clear hb hW h0
 have hq:∃ (line rest:List UInt8) (more:Bool),(∀ w,Calls Tryz.prog 34 #[.string (txt T),.string ⟨#[10]⟩] w fun e w'=>e=.returned (.tuple #[.string (txt line),.string (txt rest),.bool more])∧Below w.heap.size w w')∧L=txt line::(if more then (splitNl rest).map txt else [])∧rest.length≤100000∧(more=true→rest.length<T.length):=by
  rcases hC with ⟨k,k1,k2,k3,k4⟩ | ⟨k1,k2⟩
  ·refine ⟨_,_,_,k4,?_,by simp;omega,fun _=>by simp;omega⟩
   rw [hL]
   conv=>lhs;rw [k2]
   rw [splitNl_cut k3]
   rfl
  ·exact ⟨_,_,_,k2,by rw [hL,splitNl_one k1];rfl,by simp,fun q=>by cases q⟩
 obtain ⟨line,rest,more,hcut,hLl,hrl,hrm⟩:=hq
 clear hC
 refine callsIn_of_wp Tryz.func33 rfl trivial ?_ rfl
 simp only [Tryz.ntmps33,List.size_toArray,List.length_cons,List.length_nil,Nat.reduceAdd,Nat.reduceSub,Array.replicate_succ,Array.replicate_zero,List.push_toArray,List.append_toArray,List.nil_append,List.cons_append]
 gi_wp2_with fail
 refine ⟨trivial,(fun q=>by cases q),(callsIn_wide.2 hT).mono ?_⟩
 rintro e w1 ⟨rfl,rfl⟩
 gi_wp2_with fail
 refine ⟨trivial,(fun q=>by cases q),(callsIn_wide.2 (hcut _)).mono ?_⟩
 rintro e w2 ⟨rfl,hb2⟩
 have HJ2:Hid (J [] w2):=hJ _ _ _ h0'.out hb2
 gi_wp2_with fail
 gi_loopw [3,4,5] (fun x y z wr=>∃ (pre:List ByteArray) (li re:List UInt8) (mo:Bool),x=.string (txt li)∧y=.string (txt re)∧z=.bool mo∧L=pre ++ txt li::(if mo then (splitNl re).map txt else [])∧re.length≤100000∧J pre wr)
  (fun _ y z _=>match y,z with | .string s,.bool true=>s.size+1 | _,_=>0)
 case atStart =>
  exact ⟨[],line,rest,more,rfl,rfl,rfl,hLl,hrl,HJ2.out⟩
 case round =>
  obtain ⟨pre,li,re,mo,rfl,rfl,rfl,hl,hre,hj⟩:=hrel
  obtain ⟨fn,tmps,assign,body,hy,hR⟩:=hY pre (txt li) wr hj (by rw [hl];exact prefix_mid _ _ _)
  have HR:Hid (RoundIn Fence.wide (n - 1) Tryz.prog l fn tmps assign body wr fun e W'=>e=.returned (.bool true)∧J (pre ++ [txt li]) W'):=hR
  clear hR hj
  cases mo with
  | false =>
   gi_wp2_with fail
   refine ⟨(fun q=>by cases q),HR.out.mono ?_⟩
   rintro e w3 ⟨rfl,hj3⟩
   have HJ3:Hid (J L w3):=by rw [hl];exact hj3
   gi_wp2_with fail
   go_end0
   exact ⟨⟨_,rfl⟩,HJ3.out⟩
  | true =>
   have hC:=cut_txt re hre
   have hq:∃ (li2 re2:List UInt8) (mo2:Bool),(∀ w,Calls Tryz.prog 34 #[.string (txt re),.string ⟨#[10]⟩] w fun e w'=>e=.returned (.tuple #[.string (txt li2),.string (txt re2),.bool mo2])∧Below w.heap.size w w')∧(splitNl re).map txt=txt li2::(if mo2 then (splitNl re2).map txt else [])∧re2.length≤100000∧(mo2=true→re2.length<re.length):=by
    rcases hC with ⟨k,k1,k2,k3,k4⟩ | ⟨k1,k2⟩
    ·refine ⟨_,_,_,k4,?_,by simp;omega,fun _=>by simp;omega⟩
     conv=>lhs;rw [k2]
     rw [splitNl_cut k3]
     rfl
    ·exact ⟨_,_,_,k2,by rw [splitNl_one k1];rfl,by simp,fun q=>by cases q⟩
   obtain ⟨li2,re2,mo2,hcut2,hl2,hre2,hmo2⟩:=hq
   have HM:Hid (re2.length≤100000∧(mo2=true→re2.length<re.length)):=⟨hre2,hmo2⟩
   have HL4:Hid (L=(pre ++ [txt li]) ++ txt li2::(if mo2 then (splitNl re2).map txt else [])):=by
    rw [if_pos rfl,hl2] at hl
    show L=_
    rw [hl]
    simp
   clear hC hre2 hmo2 hl hl2
   gi_wp2_with fail
   refine ⟨(fun q=>by cases q),HR.out.mono ?_⟩
   rintro e w3 ⟨rfl,hj3⟩
   gi_wp2_with fail
   refine ⟨trivial,(fun q=>by cases q),(callsIn_wide.2 (hcut2 _)).mono ?_⟩
   rintro e w4 ⟨rfl,hb4⟩
   have HJ4:Hid (J (pre ++ [txt li]) w4):=hJ _ _ _ hj3 hb4
   gi_wp2_with fail
   refine ⟨⟨pre ++ [txt li],li2,re2,mo2,rfl,rfl,rfl,HL4.out,HM.out.1,HJ4.out⟩,?_⟩
   have z1:(txt re).size=re.length:=by show re.toArray.size=_;simp
   have z2:(txt re2).size=re2.length:=by show re2.toArray.size=_;simp
   have hm:=HM.out.2
   cases mo2 with
   | false =>
    show 0<(txt re).size+1
    omega
   | true =>
    show (txt re2).size+1<(txt re).size+1
    have:=hm rfl
    omega
end
end Go.Proofs.YthccoinonjoleaaGreatDoor
