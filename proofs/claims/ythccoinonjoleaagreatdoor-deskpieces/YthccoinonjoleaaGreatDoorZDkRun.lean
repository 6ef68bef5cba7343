import Derived.Test.YthccoinonjoleaaGreatDoorZDkIter
import Derived.Test.YthccoinonjoleaaGreatDoorZDkBld
namespace Go.Proofs.YthccoinonjoleaaGreatDoor
open Go.RowKit
set_option maxRecDepth 100000
set_option maxHeartbeats 16000000
section
theorem answer_any {w:World} {base S kb:Nat} {M O:List Nat} {st:DkS} {A:SesA} {N:Nat} (h:Ses w base S M O st A N) (hK:KindsAt w kb S) (hD:DeskW base w) (hsm:st.Small) (hN:N≤3000) (line:ByteArray) (hl:line.size≤20000) :
  Calls Tryz.prog 10 #[.pointer (some ⟨S,0,none⟩),.map (some kb),.string line] w (AnsP base S M O st N line w):=by
 cases hw:wordsOf line with
 | nil=>exact answer_empty h hsm line hl hw _
 | cons x ws =>
  cases hk:kdOf x with
  | none=>exact answer_unknown h hK hD hsm line hl hw hk
  | some k=>exact answer_known h hK hD hsm hN line hl hw hk
structure SI (w:World) (base S sb xb kb bb D:Nat) (st:DkS) (M O:List Nat) (A:SesA) (N:Nat) (v:Value) (bs:List UInt8) (W:World):Prop where
 ses:Ses W base S M O st A N
 bld:Bld W base bb v bs
 kin:KindsAt W kb S
 cs:W.cell? ⟨sb,0,none⟩=some (.pointer (some ⟨S,0,none⟩))
 cx:W.cell? ⟨xb,0,none⟩=some (.map (some kb))
 bel:Below base w W
 b0:base≤w.heap.size
 b1:base≤bb
 l1:sb<D
 l2:xb<D
 l3:kb<D
 l4:D≤W.heap.size
 lo:base≤D
 d1:∀ c,c∈sb::xb::kb::D::(D+1)::Bld.foot bb v→c∉M ++ O
 d2:∀ c,c∈[sb,xb,kb,D,D+1]→c∉Bld.foot bb v
section
variable {w W W':World} {base S sb xb kb bb D:Nat} {st st':DkS} {M O M' O':List Nat} {A A':SesA} {N N':Nat} {v v':Value} {bs bs':List UInt8}
theorem SI.below (h:SI w base S sb xb kb bb D st M O A N v bs W) (hb:Below W.heap.size W W'):SI w base S sb xb kb bb D st M O A N v bs W' :=
 { h with
  ses:=h.ses.below hb
  bld:=h.bld.keep fun c hc=>hb.block c (h.bld.lt c hc)
  kin:=h.kin.keep (hb.block _ h.kin.lt)
  cs:=(hb.cell (p:=⟨sb,0,none⟩) (Nat.lt_of_lt_of_le h.l1 h.l4)).trans h.cs
  cx:=(hb.cell (p:=⟨xb,0,none⟩) (Nat.lt_of_lt_of_le h.l2 h.l4)).trans h.cx
  bel:=h.bel.trans (hb.mono (Nat.le_trans h.lo h.l4))
  l4:=Nat.le_trans h.l4 hb.size }
theorem SI.put (h:SI w base S sb xb kb bb D st M O A N v bs W) (o:Obj):SI w base S sb xb kb bb D st M O A N v bs (W.putObj (D+1) o):=by
 have hs:(W.putObj (D+1) o).heap.size=W.heap.size:=by simp [World.putObj]
 have ho:∀ c,c≠D+1→(W.putObj (D+1) o).heap[c]? = W.heap[c]?:=fun c hc=>put_other hc
 have hm:∀ c,c∈M ++ O→c≠D+1:=fun c hc e=>h.d1 (D+1) (by simp) (e▸hc)
 have hf:∀ c,c∈Bld.foot bb v→c≠D+1:=fun c hc e=>h.d2 (D+1) (by simp) (e▸hc)
 have h1:=h.l1
 have h2:=h.l2
 have h3:=h.l3
 exact { h with
  ses:=h.ses.keep ⟨Nat.le_of_eq hs.symm,fun c hc=>ho c (hm c (List.mem_append.2 (.inl hc)))⟩ ⟨Nat.le_of_eq hs.symm,fun c hc=>ho c (hm c (List.mem_append.2 (.inr hc)))⟩
  bld:=h.bld.keep fun c hc=>ho c (hf c hc)
  kin:=h.kin.keep (ho kb (by omega))
  cs:=(World.cell?_of_block (w:=W) (a:=⟨sb,0,none⟩) (ho sb (by omega))).trans h.cs
  cx:=(World.cell?_of_block (w:=W) (a:=⟨xb,0,none⟩) (ho xb (by omega))).trans h.cx
  bel:=⟨h.bel.os,h.bel.tape,h.bel.output,by rw [hs];exact h.bel.size,fun c hc=>(ho c (by have:=h.lo;omega)).trans (h.bel.block c hc)⟩
  l4:=by rw [hs];exact h.l4 }
theorem SI.ans (h:SI w base S sb xb kb bb D st M O A N v bs W) (hD:D+1<W.heap.size) (hf:Foot (M ++ O) (M' ++ O') W W') (hs:Ses W' base S M' O' st' A' N'):SI w base S sb xb kb bb D st' M' O' A' N' v bs W'∧W'.heap[D]? = W.heap[D]?∧W'.heap[D+1]? = W.heap[D+1]?:=by
 have h1:=h.l1
 have h2:=h.l2
 have h3:=h.l3
 have hk:∀ c,c∈sb::xb::kb::D::(D+1)::Bld.foot bb v→W'.heap[c]? = W.heap[c]?:=fun c hc=>hf.block c (by
  simp only [List.mem_cons] at hc
  rcases hc with q | q | q | q | q | q
  ·omega
  ·omega
  ·omega
  ·omega
  ·omega
  ·exact h.bld.lt c q) (h.d1 c hc)
 refine ⟨?_,hk D (by simp),hk (D+1) (by simp)⟩
 exact { h with
  ses:=hs
  bld:=h.bld.keep fun c hc=>hk c (by simp only [List.mem_cons];exact .inr (.inr (.inr (.inr (.inr hc)))))
  kin:=h.kin.keep (hk kb (by simp))
  cs:=(World.cell?_of_block (w:=W) (a:=⟨sb,0,none⟩) (hk sb (by simp))).trans h.cs
  cx:=(World.cell?_of_block (w:=W) (a:=⟨xb,0,none⟩) (hk xb (by simp))).trans h.cx
  bel:=h.bel.trans (hf.below (fun c hc=>(List.mem_append.1 hc).elim (h.ses.r.lo c) (h.ses.r.loO c)) (Nat.le_trans h.lo h.l4))
  l4:=Nat.le_trans h.l4 hf.size
  d1:=fun c hc q=>by
   rcases hf.fresh c q with z | z
   ·exact h.d1 c hc z
   ·simp only [List.mem_cons] at hc
    rcases hc with q | q | q | q | q | q
    ·omega
    ·omega
    ·omega
    ·omega
    ·omega
    ·have:=h.bld.lt c q;omega }
theorem SI.wrote (h:SI w base S sb xb kb bb D st M O A N v bs W) (hD:D+1<W.heap.size) (hf:Foot (Bld.foot bb v) (Bld.foot bb v') W W') (hb:Bld W' base bb v' bs'):SI w base S sb xb kb bb D st M O A N v' bs' W'∧W'.heap[D]? = W.heap[D]?∧W'.heap[D+1]? = W.heap[D+1]?:=by
 have h1:=h.l1
 have h2:=h.l2
 have h3:=h.l3
 have hsp:∀ c,c∈[sb,xb,kb,D,D+1]→c<W.heap.size:=fun c hc=>by
  simp only [List.mem_cons,List.not_mem_nil,or_false] at hc
  omega
 have hk:∀ c,c∈[sb,xb,kb,D,D+1]→W'.heap[c]? = W.heap[c]?:=fun c hc=>hf.block c (hsp c hc) (h.d2 c hc)
 have hlo:∀ c,c∈Bld.foot bb v→base≤c:=fun c hc=>by
  rcases List.mem_cons.1 hc with q | q
  ·rw [q];exact h.b1
  ·cases e:v.ownBlock with
   | none=>rw [e] at q;cases q
   | some g =>
    rw [e] at q
    have:c=g:=by simpa using q
    rw [this]
    exact (h.bld.own.lt g e).1
 have hfo:∀ c,c∈Bld.foot bb v→c∉M ++ O:=fun c hc=>h.d1 c (by simp only [List.mem_cons];exact .inr (.inr (.inr (.inr (.inr hc)))))
 have hlt:∀ c,c∈M ++ O→c<W.heap.size:=fun c hc=>(List.mem_append.1 hc).elim (h.ses.r.hi c) (h.ses.r.hiO c)
 refine ⟨?_,hk D (by simp),hk (D+1) (by simp)⟩
 exact { h with
  ses:=h.ses.keep ⟨hf.size,fun c hc=>hf.block c (h.ses.r.hi c hc) (fun q=>hfo c q (List.mem_append.2 (.inl hc)))⟩ ⟨hf.size,fun c hc=>hf.block c (h.ses.r.hiO c hc) (fun q=>hfo c q (List.mem_append.2 (.inr hc)))⟩
  bld:=hb
  kin:=h.kin.keep (hk kb (by simp))
  cs:=(World.cell?_of_block (w:=W) (a:=⟨sb,0,none⟩) (hk sb (by simp))).trans h.cs
  cx:=(World.cell?_of_block (w:=W) (a:=⟨xb,0,none⟩) (hk xb (by simp))).trans h.cx
  bel:=h.bel.trans (hf.below hlo (Nat.le_trans h.lo h.l4))
  l4:=Nat.le_trans h.l4 hf.size
  d1:=fun c hc q=>by
   simp only [List.mem_cons] at hc
   rcases hc with z | z | z | z | z | z
   ·exact h.d1 c (by simp [z]) q
   ·exact h.d1 c (by simp [z]) q
   ·exact h.d1 c (by simp [z]) q
   ·exact h.d1 c (by simp [z]) q
   ·exact h.d1 c (by simp [z]) q
   ·rcases hf.fresh c z with y | y
    ·exact hfo c y q
    ·have:=hlt c q;omega
  d2:=fun c hc q=>by
   rcases hf.fresh c q with y | y
   ·exact h.d2 c hc y
   ·have:=hsp c hc;omega }
end
def tellL (os:List ByteArray):List UInt8:=os.flatMap fun o=>o.data.toList ++ [10]
theorem tellL_snoc (os:List ByteArray) (o:ByteArray):tellL (os ++ [o])=(tellL os ++ o.data.toList) ++ [10]:=by
 unfold tellL
 rw [List.flatMap_append]
 simp
theorem tellL_len:∀ (os:List ByteArray),(∀ o∈os,o.size≤500)→(tellL os).length≤501*os.length
 | [],_=>by simp [tellL]
 | o::os,h=>by
  have h1:=tellL_len os fun x hx=>h x (List.mem_cons_of_mem _ hx)
  have h2:=h o List.mem_cons_self
  have h3:o.data.toList.length=o.size:=Array.length_toList
  have e:tellL (o::os)=(o.data.toList ++ [10]) ++ tellL os:=by simp [tellL]
  rw [e,List.length_append,List.length_append,List.length_cons,List.length_cons,List.length_nil]
  omega
def RunI (w:World) (base S sb xb kb bb D:Nat) (pre:List ByteArray) (W:World):Prop :=
 ∃ os st M O A v,RunsIs DkS.start pre os st∧os.length=pre.length∧(∀ o∈os,o.size≤500)∧st.Small∧SI w base S sb xb kb bb D st M O A pre.length v (tellL os) W
end
end Go.Proofs.YthccoinonjoleaaGreatDoor
