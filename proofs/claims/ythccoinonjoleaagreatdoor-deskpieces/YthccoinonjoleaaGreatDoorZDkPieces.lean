import Derived.Test.YthccoinonjoleaaGreatDoorZDkSession
namespace Go.Proofs.YthccoinonjoleaaGreatDoor
open Go.RowKit
set_option maxRecDepth 100000
set_option maxHeartbeats 16000000
section
def midx:ByteArray:=⟨#[109,105,100,112,111,105,110,116,32,48,32,51,32,53,10,120,10]⟩
def midx1:ByteArray:=⟨#[109,105,100,112,111,105,110,116,32,48,32,51,32,53]⟩
def midx2:ByteArray:=⟨#[120]⟩
theorem midx_lines:linesOf midx = [midx1,midx2]:=by kernel_rfl
theorem midx_words1:wordsOf midx1 = [⟨#[109,105,100,112,111,105,110,116]⟩,⟨#[48]⟩,⟨#[51]⟩,⟨#[53]⟩]:=by kernel_rfl
theorem midx_words2:wordsOf midx2 = [⟨#[120]⟩]:=by kernel_rfl
theorem midx_read:readP Kd.midpoint_.m Kd.midpoint_.more Kd.midpoint_.text [⟨#[48]⟩,⟨#[51]⟩,⟨#[53]⟩]=some ([0,3,5],ByteArray.empty):=by kernel_rfl
theorem num4:numRes 0 4=Res.ok ⟨#[52]⟩:=by kernel_rfl
theorem tell4:tellL [⟨#[52]⟩,wrongB 3] = [52,10,101,114,114,111,114,32,51,10]:=by kernel_rfl
theorem midx_mid:numRes (midErr [3,5] 0) (midVal [3,5] 0)=.ok ⟨#[52]⟩:=by
 have hm:midErr [3,5] 0=0:=midErr_0 (by decide) (by decide)
 have hv:midVal [3,5] 0=4:=by
  rw [midVal_ok hm]
  have hs:srt [3,5] = [3,5]:=by
   refine List.Perm.eq_of_pairwise (le:=fun a b=>a≤b) (fun a b _ _ h1 h2=>Int.le_antisymm h1 h2) (srt_pair _) (by decide) (srt_perm _)
  unfold midOf rank
  rw [show (0:Int).toNat=0 from rfl,hs]
  decide
 rw [hm,hv]
 exact num4
theorem midx_runs {os:List ByteArray} {st:DkS} (h:RunsIs DkS.start (linesOf midx) os st):tellL os = [52,10,101,114,114,111,114,32,51,10]:=by
 rw [midx_lines] at h
 have h1:LineIs DkS.start midx1 DkS.start ⟨#[52]⟩:=by
  have:=LineIs.does (st:=DkS.start) (line:=midx1) (k:=Kd.midpoint_) (y:=([0,3,5],ByteArray.empty)) (st':=DkS.start) (r:=.ok ⟨#[52]⟩) midx_words1 (by kernel_rfl) midx_read (by kernel_rfl) ⟨rfl,midx_mid.symm⟩
  exact this
 have h2:LineIs DkS.start midx2 DkS.start (wrongB 3):=.unknown midx_words2 (by kernel_rfl)
 obtain ⟨_,rfl⟩:=h.one (.cons h1 (.cons h2 (.nil _)))
 exact tell4
theorem lines_first (a:ByteArray):linesOf (a ++ ⟨#[10]⟩)=(splitNl a.data.toList).map txt:=by
 unfold linesOf
 have e:(a ++ ⟨#[10]⟩).data.toList=a.data.toList ++ [10]:=by simp
 rw [e,trimNl_end]
theorem lines_both (a b:ByteArray):∃ r,linesOf ((a ++ ⟨#[10]⟩) ++ b)=(splitNl a.data.toList).map txt ++ r:=by
 unfold linesOf
 have e:((a ++ ⟨#[10]⟩) ++ b).data.toList=a.data.toList ++ 10::b.data.toList:=by simp
 rw [e]
 by_cases hb:b.data.toList = []
 ·rw [hb,trimNl_end]
  exact ⟨[],by simp⟩
 ·rw [trimNl_two _ hb,splitNl_append,List.map_append]
  exact ⟨_,rfl⟩
theorem tellL_append (a b:List ByteArray):tellL (a ++ b)=tellL a ++ tellL b:=by unfold tellL;rw [List.flatMap_append]
theorem pieces_runs {a b:ByteArray} {o1 o2:List ByteArray} {s1 s2:DkS} (h1:RunsIs DkS.start (linesOf (a ++ ⟨#[10]⟩)) o1 s1) (h2:RunsIs DkS.start (linesOf ((a ++ ⟨#[10]⟩) ++ b)) o2 s2):∃ r,tellL o2=tellL o1 ++ r:=by
 obtain ⟨r,e⟩:=lines_both a b
 rw [lines_first] at h1
 rw [e] at h2
 obtain ⟨q1,q2,s,g1,_,rfl⟩:=h2.split
 obtain ⟨_,rfl⟩:=h1.one g1
 exact ⟨_,tellL_append _ _⟩
theorem pieces_any (a b:ByteArray) (ha:a.size≤281474976710656) (hb:b.size≤281474976710656) (w:World) (hw:DeskW w.heap.size w):Calls Tryz.prog 3 #[.string a,.string b] w fun e w'=>e=.returned (.bool true)∧Below w.heap.size w w':=by
 by_cases hs:2500<a.size+b.size
 ·have h1:(2500:Int)<(a.size:Int)+(b.size:Int):=by omega
  go_enter Tryz.func3,Tryz.ntmps3
  go_wp2_with fail
  go_ret
  exact ⟨rfl,Below.refl _ _⟩
 ·have h1:decide ((2500:Int)<(a.size:Int)+(b.size:Int))=false:=decide_eq_false (by omega)
  have z1:(a ++ ⟨#[10]⟩).size=a.size+1:=by rw [ByteArray.size_append];rfl
  have z2:((a ++ ⟨#[10]⟩) ++ b).size=a.size+1+b.size:=by rw [ByteArray.size_append,z1]
  have S0:=session_any midx (by decide) w hw
  have HS1:Hid (∀ u,Below w.heap.size w u→Calls Tryz.prog 4 #[.string (a ++ ⟨#[10]⟩)] u fun e w'=>∃ os st,RunsIs DkS.start (linesOf (a ++ ⟨#[10]⟩)) os st∧(∀ o∈os,o.size≤500)∧e=.returned (.string ⟨(tellL os).toArray⟩)∧Below u.heap.size u w'):=fun u hu=>session_any _ (by omega) u (hw.at hu hu.size)
  have HS2:Hid (∀ u,Below w.heap.size w u→Calls Tryz.prog 4 #[.string ((a ++ ⟨#[10]⟩) ++ b)] u fun e w'=>∃ os st,RunsIs DkS.start (linesOf ((a ++ ⟨#[10]⟩) ++ b)) os st∧(∀ o∈os,o.size≤500)∧e=.returned (.string ⟨(tellL os).toArray⟩)∧Below u.heap.size u w'):=fun u hu=>session_any _ (by omega) u (hw.at hu hu.size)
  have d1:decide (9223372036854775807<a.size+1)=false:=decide_eq_false (by omega)
  have d2:decide (9223372036854775807<a.size+1+b.size)=false:=decide_eq_false (by omega)
  clear hw
  unfold midx at S0
  go_enter Tryz.func3,Tryz.ntmps3
  go_wp2_with fail
  refine S0.mono ?_
  rintro e u1 ⟨os0,st0,hr0,_,rfl,hb1⟩
  have e0:tellL os0 = [52,10,101,114,114,111,114,32,51,10]:=midx_runs hr0
  rw [e0]
  clear hr0 e0 S0
  have HB1:Hid (Below w.heap.size w u1):=hb1
  clear hb1
  go_wp2_with fail
  refine (HS1.out u1 HB1.out).mono ?_
  rintro e u2 ⟨o1,s1,r1,p1,rfl,hb2⟩
  have HB2:Hid (Below w.heap.size w u2):=HB1.out.trans (hb2.mono HB1.out.size)
  have HR1:Hid (RunsIs DkS.start (linesOf (a ++ ⟨#[10]⟩)) o1 s1):=r1
  clear r1 p1 hb2
  go_wp2_with fail
  refine (HS2.out u2 HB2.out).mono ?_
  rintro e u3 ⟨o2,s2,r2,p2,rfl,hb3⟩
  have HB3:Hid (Below w.heap.size w u3):=HB2.out.trans (hb3.mono HB2.out.size)
  obtain ⟨r,hr⟩:=pieces_runs HR1.out r2
  rw [hr]
  have hp2:=p2
  clear r2 p2 hb3 HS1 HS2
  obtain ⟨X,hX⟩:∃ X,tellL o1=X:=⟨_,rfl⟩
  rw [hX]
  have e1:(txt X).size=X.length:=by show X.toArray.size=_;simp
  have e2:(txt (X ++ r)).size=X.length+r.length:=by show (X ++ r).toArray.size=_;simp
  have f1:((txt X).size:Int)≤((txt (X ++ r)).size:Int):=by omega
  have f2:((txt (X ++ r)).extract 0 (txt X).size)=txt X:=by
   rw [extract_list,e1]
   simp
  obtain ⟨x,hx⟩:∃ x,txt X=x:=⟨_,rfl⟩
  obtain ⟨y,hy⟩:∃ y,txt (X ++ r)=y:=⟨_,rfl⟩
  have hx':(⟨X.toArray⟩:ByteArray)=x:=hx
  have hy':(⟨(X ++ r).toArray⟩:ByteArray)=y:=hy
  rw [hx,hy] at f1 f2
  rw [hx',hy']
  clear e1 e2 hx hy hx' hy' hr hX
  go_wp2_with fail
  go_ret
  exact ⟨rfl,HB3.out⟩
end
end Go.Proofs.YthccoinonjoleaaGreatDoor
