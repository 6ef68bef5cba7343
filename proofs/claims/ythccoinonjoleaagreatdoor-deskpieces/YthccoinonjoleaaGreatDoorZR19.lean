import Derived.Test.YthccoinonjoleaaGreatDoorZR18
import Derived.Laws.EntriesVeiled
namespace Go.Proofs.YthccoinonjoleaaGreatDoor
open Go.RowKit
set_option maxRecDepth 100000
set_option maxHeartbeats 16000000
section
open Go.RowKit Go.Lib
theorem isBlank_any (x:Nat) (W:World):FnGives Tryz.prog 39 #[] #[encR x] (.bool (decide (x=32))) W:=by
 unfold FnGives encR
 by_cases h:x=32
 ·subst h
  go_enter Tryz.func39,Tryz.ntmps39
  go_wp2
  go_ret
  exact ⟨rfl,0,rfl⟩
 ·have h2:((x:Int) == 32)=false:=by simp;omega
  have h3:decide ((x:Int)=32)=false:=decide_eq_false (by omega)
  have h4:decide (x=32)=false:=decide_eq_false h
  rw [h4]
  go_enter Tryz.func39,Tryz.ntmps39
  go_wp2
  go_ret
  exact ⟨rfl,0,rfl⟩
theorem spans_len (p:Nat→Bool) (s:ByteArray):∀ (f pos:Nat) (st:Option Nat) (acc:List (Nat × Nat)),(spansFromP p s f pos st acc).1.length≤acc.length+f
 | 0,_,_,_=>Nat.le_refl _
 | f+1,pos,st,acc=>by
  unfold spansFromP
  split
  ·split
   ·split
    ·rename_i a
     have:=spans_len p s f (pos+(Utf8.decode s pos).2) none (acc ++ [(a,pos)])
     rw [List.length_append] at this
     simp only [List.length_cons,List.length_nil] at this
     omega
    ·have:=spans_len p s f (pos+(Utf8.decode s pos).2) none acc
     omega
   ·split
    ·rename_i a
     have:=spans_len p s f (pos+(Utf8.decode s pos).2) (some a) acc
     omega
    ·have:=spans_len p s f (pos+(Utf8.decode s pos).2) (some pos) acc
     omega
  ·show acc.length≤_;omega
theorem wordsOf_len (l:ByteArray):(wordsOf l).length≤l.size+1:=by
 unfold wordsOf goFieldsP spansOfP
 rw [List.length_map]
 have:=spans_len (fun x=>decide (x=32)) l l.size 0 none []
 unfold closeSpans
 split
 ·rw [List.length_append]
  simp only [List.length_cons,List.length_nil] at this ⊢
  omega
 ·simp only [List.length_nil] at this
  omega
theorem wordsOf_mem {l x:ByteArray} (h:x∈wordsOf l):x.size≤l.size:=by
 unfold wordsOf goFieldsP at h
 obtain ⟨p,_,rfl⟩:=List.mem_map.1 h
 rw [ByteArray.size_extract]
 omega
theorem Tryz.entersBlank (args:Array Value) (w:World):(callFunc 39 args).run Tryz.prog w=.ok (.enter 39 args) w:=enters_of Tryz.func39 (by kernel_rfl) rfl args w
theorem fields_any (l:ByteArray) (hl:l.size≤20000) (w:World):Calls Tryz.prog 38 #[.string l,.func (.func 39) #[] #[]] w fun e w'=>∃ A,e=.returned (.slice (some ⟨A,0,none⟩) (wordsOf l).length (wordsOf l).length)∧A<w'.heap.size∧(∀ j x,(wordsOf l)[j]? = some x→w'.cell? ⟨A,j,none⟩=some (.string x))∧Below w.heap.size w w':=by
 refine (Tryz.strings_FieldsFunc 39 #[] Tryz.entersBlank (fun x=>decide (x=32)) l w (by omega) (fun W x _=>isBlank_any x W)).mono ?_
 rintro e w' ⟨A,rfl,hA,ho,hb⟩
 refine ⟨A,rfl,(ho.lt A rfl).2,fun j x hj=>?_,hb⟩
 have:=ho.cells (g:=A) rfl j (.string x) (by rw [List.getElem?_map];unfold wordsOf at hj;rw [hj];rfl)
 rw [add_at] at this
 simpa using this
end
section
section
variable {w:World} {base S kb:Nat} {M O:List Nat} {st:DkS} {A:SesA} {N:Nat}
def AnsP (base S:Nat) (M O:List Nat) (st:DkS) (N:Nat) (line:ByteArray) (w:World) (e:Ending) (w':World):Prop :=
 ∃ st' out M' O' A',LineIs st line st' out∧out.size≤500∧st'.Small∧e=.returned (.string out)∧Foot (M ++ O) (M' ++ O') w w'∧Ses w' base S M' O' st' A' (N+1)
theorem AnsP.same (h:Ses w base S M O st A N) (hsm:st.Small) {line out:ByteArray} (hl:LineIs st line st out) (hs:out.size≤500) {w':World} (hb:Below w.heap.size w w'):AnsP base S M O st N line w (.returned (.string out)) w' :=
 ⟨st,out,M,O,A,hl,hs,hsm,rfl,Foot.of_below hb,(h.below hb).later (Nat.le_succ N)⟩
theorem LineIs.empty {line:ByteArray} (hw:wordsOf line = []):LineIs st line st ⟨#[111,107]⟩:=by
 unfold LineIs
 simp [hw]
theorem LineIs.unknown {line x:ByteArray} {ws:List ByteArray} (hw:wordsOf line=x::ws) (hk:kdOf x=none):LineIs st line st (wrongB 3):=by
 unfold LineIs
 simp [hw,hk]
theorem LineIs.form {line x:ByteArray} {ws:List ByteArray} {k:Kd} (hw:wordsOf line=x::ws) (hk:kdOf x=some k) (hr:readP k.m k.more k.text ws=none):LineIs st line st (wrongB 3):=by
 unfold LineIs
 simp [hw,hk,hr]
theorem LineIs.state {line x:ByteArray} {ws:List ByteArray} {k:Kd} {y:List Int × ByteArray} (hw:wordsOf line=x::ws) (hk:kdOf x=some k) (hr:readP k.m k.more k.text ws=some y) (ha:allowB st k=false):LineIs st line st (wrongB 6):=by
 unfold LineIs
 simp [hw,hk,hr,ha]
theorem LineIs.does {line x:ByteArray} {ws:List ByteArray} {k:Kd} {y:List Int × ByteArray} {st':DkS} {r:Res} (hw:wordsOf line=x::ws) (hk:kdOf x=some k) (hr:readP k.m k.more k.text ws=some y) (ha:allowB st k=true) (hd:DoesIs k st y.1 y.2 st' r):LineIs st line st' r.out:=by
 unfold LineIs
 simp only [hw,hk,hr,ha]
 exact ⟨r,hd,rfl⟩
theorem wrong3:(wrongB 3).size≤500:=by have:=wrongB_size (k:=3) ⟨by omega,by omega⟩;omega
theorem wrong6:(wrongB 6).size≤500:=by have:=wrongB_size (k:=6) ⟨by omega,by omega⟩;omega
theorem answer_empty (h:Ses w base S M O st A N) (hsm:st.Small) (line:ByteArray) (hl:line.size≤20000) (hw:wordsOf line = []) (mv:Value) :
  Calls Tryz.prog 10 #[.pointer (some ⟨S,0,none⟩),mv,.string line] w (AnsP base S M O st N line w):=by
 have hmf:=Tryz.mfD
 have hF:=fields_any line hl (w.alloc (.cells #[.string ⟨#[]⟩] 9))
 rw [hw] at hF
 have HE:Hid (∀ w',Below w.heap.size w w'→AnsP base S M O st N line w (.returned (.string ⟨#[111,107]⟩)) w'):=fun w' hb=>AnsP.same h hsm (.empty hw) (by decide) hb
 generalize hV:w.alloc (.cells #[.string ⟨#[]⟩] 9)=V at hF
 have hB:Below w.heap.size w V:=hV▸(Below.refl _ w).alloc (Nat.le_refl _) _
 have hbk:V.heap[w.heap.size]? = some (.cells #[.string ⟨#[]⟩] 9 (0,0)):=by rw [← hV];exact heap_alloc_new w _
 clear h hsm
 go_enter_defers Tryz.func10,Tryz.ntmps10
 go_wp2_with fail
 refine hF.mono ?_
 rintro e u1 ⟨A,rfl,hA,hc,hb1⟩
 have hbk1:u1.heap[w.heap.size]? = some (.cells #[.string ⟨#[]⟩] 9 (0,0)):=(hb1.block _ (lt_of_blk hbk)).trans hbk
 have c1:u1.cell? ⟨w.heap.size,0,none⟩=some (.string ⟨#[]⟩):=cell_blk hbk1 rfl
 have z1:=soft_blk hbk1 (i:=0)
 have HB1:Hid (Below w.heap.size w u1):=hB.trans (hb1.mono hB.size)
 clear hb1 hc hF
 go_wp2_with fail
 have hd:(u1.setCell ⟨w.heap.size,0,none⟩ (.string ⟨#[111,107]⟩)).cell? ⟨w.heap.size,0,none⟩=some (.string ⟨#[111,107]⟩):=World.cell?_setCell_same' _ _ _ (by rw [c1];rfl)
 refine leaves_cons (f:=37) (args:=#[.pointer (some ⟨w.heap.size,0,none⟩)]) (by simp) (by simp [go_sem]) ?_
 refine (catch_idle _ _).mono ?_
 rintro e u' w'' ⟨rfl,rfl,rfl⟩
 simp [Leaves,settle,results,Tryz.results10,go_sem,hd]
 exact HE.out _ (HB1.out.setCell (p:=⟨w.heap.size,0,none⟩) (Nat.le_refl _) _)
theorem answer_unknown (h:Ses w base S M O st A N) (hK:KindsAt w kb S) (hD:DeskW base w) (hsm:st.Small) (line:ByteArray) (hl:line.size≤20000) {x:ByteArray} {ws:List ByteArray} (hw:wordsOf line=x::ws) (hk:kdOf x=none) :
  Calls Tryz.prog 10 #[.pointer (some ⟨S,0,none⟩),.map (some kb),.string line] w (AnsP base S M O st N line w):=by
 have hmf:=Tryz.mfD
 have hF:=fields_any line hl (w.alloc (.cells #[.string ⟨#[]⟩] 9))
 have hx:x.size≤20000:=Nat.le_trans (wordsOf_mem (by rw [hw];exact List.mem_cons_self)) hl
 have hwl:=wordsOf_len line
 rw [hw] at hF hwl
 have HE:Hid (∀ w',Below w.heap.size w w'→AnsP base S M O st N line w (.returned (.string (wrongB 3))) w'):=fun w' hb=>AnsP.same h hsm (.unknown hw hk) wrong3 hb
 have HDw:=Desk_at h hD
 have HD:Hid (∀ u,Below w.heap.size w u→Desk0 u):=fun u hu=>HDw u hu
 have HK:Hid (∀ u,Below w.heap.size w u→KindsAt u kb S):=fun u hu=>hK.keep (hu.block kb hK.lt)
 generalize hV:w.alloc (.cells #[.string ⟨#[]⟩] 9)=V at hF
 have hB:Below w.heap.size w V:=hV▸(Below.refl _ w).alloc (Nat.le_refl _) _
 have hbk:V.heap[w.heap.size]? = some (.cells #[.string ⟨#[]⟩] 9 (0,0)):=by rw [← hV];exact heap_alloc_new w _
 simp only [List.length_cons] at hF hwl
 obtain ⟨m,hm⟩:∃ m,ws.length=m:=⟨_,rfl⟩
 rw [hm] at hF hwl
 have e0:((m:Int)+1 == 0)=false:=by simp;omega
 clear h hD hsm HDw hK
 go_enter_defers Tryz.func10,Tryz.ntmps10
 go_wp2_with fail
 refine hF.mono ?_
 rintro e u1 ⟨A,rfl,hA,hc,hb1⟩
 have hbk1:u1.heap[w.heap.size]? = some (.cells #[.string ⟨#[]⟩] 9 (0,0)):=(hb1.block _ (lt_of_blk hbk)).trans hbk
 have hc0:u1.cell? ⟨A,0,none⟩=some (.string x):=hc 0 x rfl
 have HB1:Hid (Below w.heap.size w u1):=hB.trans (hb1.mono hB.size)
 have hlk:=(HK.out u1 HB1.out).look x hx
 rw [hk] at hlk
 simp only [Option.map,Option.getD,Option.isSome,kindZ,kindV] at hlk
 clear hb1 hc hF
 go_wp2_with fail
 refine (ask_no 3 _).mono ?_
 rintro e u2 ⟨rfl,rfl⟩
 have hbu:=HB1.out.alloc HB1.out.size (.cells #[.int .i64 0,.bool false,.bool false,.int .i64 0,.nilFunc] 59)
 have hbp:(u1.alloc (.cells #[.int .i64 0,.bool false,.bool false,.int .i64 0,.nilFunc] 59)).heap[w.heap.size]? = some (.cells #[.string ⟨#[]⟩] 9 (0,0)):=(Below.heap_alloc u1 _ _ (lt_of_blk hbk1)).trans hbk1
 have HW:Hid (Below w.heap.size w (u1.alloc (.cells #[.int .i64 0,.bool false,.bool false,.int .i64 0,.nilFunc] 59))):=hbu
 generalize u1.alloc (.cells #[.int .i64 0,.bool false,.bool false,.int .i64 0,.nilFunc] 59)=W at *
 refine leaves_cons (f:=37) (args:=#[.pointer (some ⟨w.heap.size,0,none⟩)]) (by simp) (by simp [go_sem]) ?_
 refine (catch_thrown w.heap.size 3 ⟨by omega,by omega⟩ ⟨#[]⟩ W hbp (HD.out W HW.out)).mono ?_
 rintro e u' w'' ⟨rfl,rfl,w1,hb1,rfl⟩
 have hd:(w1.setCell ⟨w.heap.size,0,none⟩ (.string (wrongB 3))).cell? ⟨w.heap.size,0,none⟩=some (.string (wrongB 3)):=World.cell?_setCell_same' _ _ _ (by rw [cell_blk ((hb1.block _ (lt_of_blk hbp)).trans hbp) rfl];rfl)
 simp [Leaves,settle,results,Tryz.results10,go_sem,hd]
 exact HE.out _ ((HW.out.trans (hb1.mono HW.out.size)).setCell (p:=⟨w.heap.size,0,none⟩) (Nat.le_refl _) _)
theorem told_out {X:List Nat} (h:Ses w base S M O st A N) (hX:∀ c,c∈X→w.heap.size<c):w.heap.size∉(X ++ M) ++ O:=fun q=>by
 rcases List.mem_append.1 q with q | q
 ·rcases List.mem_append.1 q with q | q
  ·have:=hX _ q;omega
  ·have:=h.r.hi _ q;omega
 ·have:=h.r.hiO _ q;omega
theorem ans_end {X M' O':List Nat} {st':DkS} {A':SesA} {W u u':World} {N':Nat} (h:Ses w base S M O st A N) (hB:Below w.heap.size w W) (hl:w.heap.size<W.heap.size) (hX:∀ c,c∈X→w.heap.size<c) (hf:Foot ((X ++ M) ++ O) (M' ++ O') W u) (hs:Ses u base S M' O' st' A' N') (hb:Below u.heap.size u u') (v:Value) :
  Foot (M ++ O) (M' ++ O') w (u'.setCell ⟨w.heap.size,0,none⟩ v)∧Ses (u'.setCell ⟨w.heap.size,0,none⟩ v) base S M' O' st' A' N':=by
 have hne:∀ c,c∈M' ++ O'→c≠w.heap.size:=fun c q e=>by
  subst e
  rcases hf.fresh _ q with z | z
  ·exact told_out h hX z
  ·omega
 have hfr:∀ c,c∈M' ++ O'→c∈M ++ O∨w.heap.size≤c:=fun c q=>by
  rcases hf.fresh c q with z | z
  ·rcases List.mem_append.1 z with z | z
   ·rcases List.mem_append.1 z with z | z
    ·exact .inr (Nat.le_of_lt (hX c z))
    ·exact .inl (List.mem_append.2 (.inl z))
   ·exact .inl (List.mem_append.2 (.inr z))
  ·exact .inr (Nat.le_trans hB.size z)
 have hsame:∀ c,c≠w.heap.size→(u'.setCell ⟨w.heap.size,0,none⟩ v).heap[c]? = u'.heap[c]?:=fun c hc=>set_other hc v
 refine ⟨⟨hb.os.trans (hf.os.trans hB.os),hb.tape.trans (hf.tape.trans hB.tape),hb.output.trans (hf.output.trans hB.output),?_,fun c hc hn=>?_,hfr⟩,?_⟩
 ·have h1:=hB.size
  have h2:=hf.size
  have h3:=hb.size
  simp
  omega
 ·have h1:=hB.size
  have h2:=hf.size
  rw [hsame c (by omega),hb.block c (by omega),hf.block c (by omega) ?_,hB.block c hc]
  intro q
  rcases List.mem_append.1 q with q | q
  ·rcases List.mem_append.1 q with q | q
   ·have:=hX c q;omega
   ·exact hn (List.mem_append.2 (.inl q))
  ·exact hn (List.mem_append.2 (.inr q))
 ·exact (hs.below hb).keep ⟨by simp,fun c q=>hsame c (hne c (List.mem_append.2 (.inl q)))⟩ ⟨by simp,fun c q=>hsame c (hne c (List.mem_append.2 (.inr q)))⟩
end
end
end Go.Proofs.YthccoinonjoleaaGreatDoor
