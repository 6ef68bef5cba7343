import Derived.Test.YthccoinonjoleaaGreatDoorZR17
import Derived.Defers
import Derived.Laws.Pointers
import Derived.Recover
namespace Go.Proofs.YthccoinonjoleaaGreatDoor
open Go.RowKit
set_option maxRecDepth 100000
set_option maxHeartbeats 16000000
section
section
variable {w:World} {base S:Nat} {M O X:List Nat} {st:DkS} {A:SesA} {N:Nat}
theorem Ses.more (h:Ses w base S M O st A N) (lo:∀ c,c∈X→base≤c) (hi:∀ c,c∈X→c<w.heap.size) (ap:∀ c,c∈X→c∉O):Ses w base S (X ++ M) O st A N :=
 ⟨{ h.r with
  s:=List.mem_append.2 (.inr h.r.s)
  lo:=fun c q=>(List.mem_append.1 q).elim (lo c) (h.r.lo c)
  hi:=fun c q=>(List.mem_append.1 q).elim (hi c) (h.r.hi c)
  ap:=fun c q1 q2=>(List.mem_append.1 q2).elim (fun q=>ap c q q1) (h.r.ap c q1)
  bS:=fun g e=>List.mem_append.2 (.inr (h.r.bS g e))
  bL:=fun g e=>List.mem_append.2 (.inr (h.r.bL g e))
  bO:=fun g e=>List.mem_append.2 (.inr (h.r.bO g e))
  bR:=fun g e=>List.mem_append.2 (.inr (h.r.bR g e))
  bD:=fun b off e h0=>⟨List.mem_append.2 (.inr (h.r.bD b off e h0).1),(h.r.bD b off e h0).2⟩
  bM:=fun b off e h0=>⟨List.mem_append.2 (.inr (h.r.bM b off e h0).1),(h.r.bM b off e h0).2⟩ },h.blk⟩
theorem DoesP.more {k:Kd} {n:List Int} {tx:ByteArray} {e:Ending} {w':World} (h:DoesP base S M O st N k n tx w e w'):DoesP base S (X ++ M) O st N k n tx w e w':=by
 obtain ⟨st',r,M',O',A',h1,h2,h3,h4⟩:=h
 refine ⟨st',r,M',O',A',h1,h2,⟨h3.os,h3.tape,h3.output,h3.size,fun c hc hn=>h3.block c hc (fun q=>hn ?_),fun c hc=>?_⟩,h4⟩
 ·rcases List.mem_append.1 q with q | q
  ·exact List.mem_append.2 (.inl (List.mem_append.2 (.inr q)))
  ·exact List.mem_append.2 (.inr q)
 ·rcases h3.fresh c hc with q | q
  ·rcases List.mem_append.1 q with q | q
   ·exact .inl (List.mem_append.2 (.inl (List.mem_append.2 (.inr q))))
   ·exact .inl (List.mem_append.2 (.inr q))
  ·exact .inr q
def NumsFit (k:Kd) (n:List Int):Prop:=n.length=k.m∨(k.m<n.length∧k.more=true)
theorem readP_fit {k:Kd} {ws:List ByteArray} {y:List Int × ByteArray} (h:readP k.m k.more k.text ws=some y):NumsFit k y.1∧y.1.length≤ws.length∧∀ x∈y.1,intR x:=by
 unfold readP at h
 split at h
 ·split at h
  ·rename_i q
   cases e:numsP (ws.take (ws.length - 1)) with
   | none=>rw [e] at h;cases h
   | some l =>
    rw [e] at h
    cases h
    have h1:=numsP_length e
    rw [List.length_take] at h1
    have h2:l.length=ws.length - 1:=by omega
    refine ⟨?_,by show l.length≤_;omega,fun x hx=>numsP_range e x hx⟩
    show l.length=_∨(_<l.length∧_)
    rw [h2];exact q
  ·cases h
 ·split at h
  ·rename_i q
   cases e:numsP ws with
   | none=>rw [e] at h;cases h
   | some l =>
    rw [e] at h
    cases h
    have h1:=numsP_length e
    refine ⟨?_,by show l.length≤_;omega,fun x hx=>numsP_range e x hx⟩
    show l.length=_∨(_<l.length∧_)
    rw [h1];exact q
  ·cases h
theorem Desk_at (h:Ses w base S M O st A N) (hD:DeskW base w):DeskW w.heap.size w:=hD.at (Below.refl _ _) (Nat.le_trans (h.r.lo S h.r.s) (Nat.le_of_lt (h.r.hi S h.r.s)))
theorem allow_none {k:Kd} (h:allowB st k=true) (hk:k.when=1):st.clu=none:=by
 unfold allowB at h
 rw [hk] at h
 cases e:st.clu with
 | none=>rfl
 | some y=>rw [e] at h;cases h
theorem allow_some {k:Kd} (h:allowB st k=true) (hk:k.when=2):∃ fa cs c rd T,st.clu=some (fa,cs,c,rd,T):=by
 unfold allowB at h
 rw [hk] at h
 cases e:st.clu with
 | none=>rw [e] at h;cases h
 | some y=>obtain ⟨fa,cs,c,rd,T⟩:=y;exact ⟨fa,cs,c,rd,T,rfl⟩
theorem does_any (k:Kd) (h:Ses w base S M O st A N) (hD:DeskW base w) (hal:allowB st k=true) (hsm:st.Small) (hN:N≤3000) (n:List Int) (tx:ByteArray) (hfit:NumsFit k n) (hlen:n.length≤20000) (hin:∀ x∈n,intR x)
  (a:Option Addr) (cap:Nat) (hcap:n.length≤cap) (hr:IntRow w a n) (hX:∀ b off,a=some ⟨b,off,none⟩→b∈X∧∃ cs fr,w.heap[b]? = some (.cells cs 3 fr)) (lo:∀ c,c∈X→base≤c) (hi:∀ c,c∈X→c<w.heap.size) (ap:∀ c,c∈X→c∉M ++ O) :
  Calls Tryz.prog k.fn #[.pointer (some ⟨S,0,none⟩),.agg #[.slice a n.length cap,.string tx]] w (DoesP base S (X ++ M) O st N k n tx w):=by
 have hDw:=Desk_at h hD
 have hm:=h.more (X:=X) lo hi (fun c q1 q2=>ap c q1 (List.mem_append.2 (.inr q2)))
 have nIn:NumsIn w (X ++ M) a n:=⟨hr,fun b off e _=>⟨List.mem_append.2 (.inl (hX b off e).1),(hX b off e).2⟩⟩
 have nOut:NumsOut w M O a n:=⟨hr,fun b off e _ q=>ap b (hX b off e).1 q⟩
 have up:∀ {e:Ending} {w':World},DoesP base S M O st N k n tx w e w'→DoesP base S (X ++ M) O st N k n tx w e w':=fun q=>q.more
 have hd:∀ i,i<n.length→intR (n.getD i 0):=fun i q=>hin _ (by rw [List.getD_eq_getElem?_getD,List.getElem?_eq_getElem q];exact List.getElem_mem _)
 cases k using Kd.each
 case plan_ =>
  have hl:n.length=6:=hfit.elim id (fun q=>by cases q.2)
  exact setPlan_does hm (allow_none hal rfl) n hl a cap tx nIn
 case slot_ =>
  have hl:n.length=3:=hfit.elim id (fun q=>by cases q.2)
  exact (addSlot_does h (allow_none hal rfl) n hl a cap tx nOut).mono fun _ _=>up
 case link_ =>
  have hl:n.length=4:=hfit.elim id (fun q=>by cases q.2)
  exact (addLink_does h (allow_none hal rfl) n hl (hd 1 (by omega)) a cap tx nOut).mono fun _ _=>up
 case bytes_=>exact (bytes_does h hDw n _ tx).mono fun _ _=>up
 case start_ =>
  cases n with
  | nil=>exact absurd hfit (by rintro (q | q);cases q;exact absurd q.1 (Nat.not_lt_zero _))
  | cons x l=>exact (start_does h hD x (hin x List.mem_cons_self) l (by simp at hlen;omega) a cap (by simpa using hcap) tx nOut).mono fun _ _=>up
 case put_ =>
  have hl:n.length=1:=hfit.elim id (fun q=>by cases q.2)
  obtain ⟨fa,cs,c,rd,T,hcl⟩:=allow_some hal rfl
  obtain ⟨x,rfl⟩:∃ x,n = [x]:=List.length_eq_one_iff.1 hl
  exact (put_does h hD hcl hN x a cap tx nOut).mono fun _ _=>up
 case receive_ =>
  have hl:n.length=2:=hfit.elim id (fun q=>by cases q.2)
  obtain ⟨fa,cs,c,rd,T,hcl⟩:=allow_some hal rfl
  obtain ⟨x,y,rfl⟩:∃ x y,n = [x,y]:=by
   match n,hl with
   | [x,y],_=>exact ⟨x,y,rfl⟩
  exact (receive_does h hD hcl (hsm fa cs c rd T hcl) x y a cap tx nOut).mono fun _ _=>up
 case lose_ =>
  have hl:n.length=3:=hfit.elim id (fun q=>by cases q.2)
  exact lose_does hm (by omega) n hl (hd 2 (by omega)) a cap tx nIn
 case read_ =>
  have hl:n.length=3:=hfit.elim id (fun q=>by cases q.2)
  exact read_does hm (by omega) n hl a cap tx nIn
 case drift_=>exact drift_does hm n hlen a cap tx nIn
 case mode_=>exact mode_does hm n hlen a cap tx nIn
 case round_ =>
  obtain ⟨fa,cs,c,rd,T,hcl⟩:=allow_some hal rfl
  exact (round_does h hD hcl hN n _ tx).mono fun _ _=>up
 case clocks_ =>
  obtain ⟨fa,cs,c,rd,T,hcl⟩:=allow_some hal rfl
  exact (clocks_does h hDw hcl n _ tx).mono fun _ _=>up
 case spread_ =>
  obtain ⟨fa,cs,c,rd,T,hcl⟩:=allow_some hal rfl
  exact (spread_does h hDw hcl n _ tx).mono fun _ _=>up
 case members_ =>
  have hl:n.length=1:=hfit.elim id (fun q=>by cases q.2)
  obtain ⟨fa,cs,c,rd,T,hcl⟩:=allow_some hal rfl
  obtain ⟨x,rfl⟩:∃ x,n = [x]:=List.length_eq_one_iff.1 hl
  by_cases hx:0≤x∧x<st.plan.nodes
  ·have hj:x=((x.toNat:Nat):Int):=by omega
   have hjn:x.toNat<st.plan.n:=by show x.toNat<st.plan.nodes.toNat;omega
   cases hfz:(c.nodes x.toNat).fz with
   | true=>exact (members_ok_true h hDw hcl x a cap tx hr x.toNat hj hjn hfz).mono fun _ _=>up
   | false=>exact (members_ok_false h hDw hcl x a cap tx hr x.toNat hj hjn hfz).mono fun _ _=>up
  ·exact (members_bad h hDw hcl x a cap tx hr hx).mono fun _ _=>up
 case midpoint_ =>
  cases n with
  | nil=>exact absurd hfit (by rintro (q | q);cases q;exact absurd q.1 (Nat.not_lt_zero _))
  | cons x l=>exact (midpoint_does h hDw x l (by simp at hlen;omega) a cap (by simpa using hcap) tx hr).mono fun _ _=>up
 case local_ =>
  have hl:n.length=5:=hfit.elim id (fun q=>by cases q.2)
  exact (local_does h hDw n hl a cap tx hr).mono fun _ _=>up
 case real_ =>
  have hl:n.length=5:=hfit.elim id (fun q=>by cases q.2)
  exact (real_does h hDw n hl a cap tx hr).mono fun _ _=>up
 case clear_=>exact (clear_does h n _ tx).mono fun _ _=>up
 case help_=>exact (help_does h n _ tx).mono fun _ _=>up
end
theorem kd_enters (k:Kd) (args:Array Value) (w:World):(callFunc k.fn args).run Tryz.prog w=.ok (.enter k.fn args) w:=by
 cases k using Kd.each
 ·exact enters_of Tryz.func13 (by kernel_rfl) rfl args w
 ·exact enters_of Tryz.func14 (by kernel_rfl) rfl args w
 ·exact enters_of Tryz.func15 (by kernel_rfl) rfl args w
 ·exact enters_of Tryz.func16 (by kernel_rfl) rfl args w
 ·exact enters_of Tryz.func17 (by kernel_rfl) rfl args w
 ·exact enters_of Tryz.func18 (by kernel_rfl) rfl args w
 ·exact enters_of Tryz.func19 (by kernel_rfl) rfl args w
 ·exact enters_of Tryz.func20 (by kernel_rfl) rfl args w
 ·exact enters_of Tryz.func21 (by kernel_rfl) rfl args w
 ·exact enters_of Tryz.func22 (by kernel_rfl) rfl args w
 ·exact enters_of Tryz.func23 (by kernel_rfl) rfl args w
 ·exact enters_of Tryz.func24 (by kernel_rfl) rfl args w
 ·exact enters_of Tryz.func25 (by kernel_rfl) rfl args w
 ·exact enters_of Tryz.func26 (by kernel_rfl) rfl args w
 ·exact enters_of Tryz.func27 (by kernel_rfl) rfl args w
 ·exact enters_of Tryz.func28 (by kernel_rfl) rfl args w
 ·exact enters_of Tryz.func29 (by kernel_rfl) rfl args w
 ·exact enters_of Tryz.func30 (by kernel_rfl) rfl args w
 ·exact enters_of Tryz.func31 (by kernel_rfl) rfl args w
 ·exact enters_of Tryz.func32 (by kernel_rfl) rfl args w
end
section
theorem wrong_any (k:Int) (hk:intR k) (w:World) (hw:Desk0 w):Calls Tryz.prog 5 #[.int .i64 k] w fun e w'=>e=.returned (.string (wrongB k))∧Below w.heap.size w w':=by
 have hI:=itoa_any k hk w hw
 have hz:=itoaB_size hk
 have hz2:decide (9223372036854775807<6+(itoaB k).size)=false:=decide_eq_false (by omega)
 go_enter Tryz.func5,Tryz.ntmps5
 go_wp2_with fail
 refine hI.mono ?_
 rintro e u ⟨rfl,hb⟩
 go_wp2_with fail
 go_ret
 exact ⟨rfl,hb⟩
theorem allows_any {w:World} {base S:Nat} {M O:List Nat} {st:DkS} {A:SesA} {N:Nat} (h:Ses w base S M O st A N) (k:Kd):Calls Tryz.prog 42 #[.pointer (some ⟨S,0,none⟩),.int .i64 k.when] w fun e w'=>e=.returned (.bool (allowB st k))∧w'=w:=by
 have c0:w.cell? ⟨S,10,none⟩=some (.pointer (st.clu.map fun _=>⟨A.C,0,none⟩)):=cell_blk h.blk (i:=10) rfl
 have hw:k.when=0∨k.when=1∨k.when=2:=by cases k using Kd.each <;> decide
 unfold allowB
 clear h
 rcases hw with e | e | e <;> rw [e] <;> cases q:st.clu <;> rw [q] at c0 <;> simp only [Option.map] at c0
 all_goals
  go_enter Tryz.func42,Tryz.ntmps42
  go_wp2_with fail
  go_ret
  exact ⟨rfl,rfl⟩
theorem Tryz.isErrno (v:Value) (w:World):(Instr.typeAssert (.iface 25 v) 20 25 true).run Tryz.prog w=.ok (.tuple #[v,.bool true]) w:=by kernel_rfl
theorem Tryz.noErrno (w:World):(Instr.typeAssert .nilIface 20 25 true).run Tryz.prog w=.ok (.tuple #[.int .i64 0,.bool false]) w:=by kernel_rfl
theorem catch_thrown (b:Nat) (k:Int) (hk:intR k) (old:ByteArray) (w:World) (hb:w.heap[b]? = some (.cells #[.string old] 9 (0,0))) (hw:Desk0 w) :
  CallsD Tryz.prog 37 #[.pointer (some ⟨b,0,none⟩)] (.panicking [{ v:=.iface 25 (.int .i64 k),recovered:=false }]) w fun e u' w' =>
   e=.returned (.tuple #[])∧u'=.panicking [{ v:=.iface 25 (.int .i64 k),recovered:=true }]∧∃ w1,Below w.heap.size w w1∧w'=w1.setCell ⟨b,0,none⟩ (.string (wrongB k)):=by
 have hW:=wrong_any k hk w hw
 have hlt:=lt_of_blk hb
 refine callsD_of_wpS Tryz.func37 rfl fun c₀ cs hu=>?_
 simp only [Tryz.ntmps37,List.size_toArray,List.length_cons,List.length_nil,Nat.reduceAdd,Nat.reduceSub,Array.replicate_succ,Array.replicate_zero,List.push_toArray,List.append_toArray,List.nil_append,List.cons_append]
 apply wpS_seq
 apply wpS_region
 simp [wpOpsS,go_sem,recoverD,hu,Tryz.isErrno,Exit.thenS]
 refine wpS_of_wp ?_
 go_wp2_with fail
 refine hW.mono ?_
 rintro e w1 ⟨rfl,hb1⟩
 have hb':w1.heap[b]? = some (.cells #[.string old] 9 (0,0)):=(hb1.block b hlt).trans hb
 have c1:w1.cell? ⟨b,0,none⟩=some (.string old):=cell_blk hb' rfl
 have z1:=soft_blk hb' (i:=0)
 have HB1:Hid (Below w.heap.size w w1):=hb1
 clear hb1
 go_wp2_with fail
 exact ⟨rfl,_,rfl,.tuple #[],by simp [results,Tryz.results37,go_sem],rfl,rfl,w1,HB1.out,rfl⟩
theorem catch_idle (b:Nat) (w:World) :
  CallsD Tryz.prog 37 #[.pointer (some ⟨b,0,none⟩)] .returning w fun e u' w'=>e=.returned (.tuple #[])∧u'=.returning∧w'=w:=by
 refine callsD_of_wpS Tryz.func37 rfl fun c₀ cs hu=>?_
 simp only [Tryz.ntmps37,List.size_toArray,List.length_cons,List.length_nil,Nat.reduceAdd,Nat.reduceSub,Array.replicate_succ,Array.replicate_zero,List.push_toArray,List.append_toArray,List.nil_append,List.cons_append]
 apply wpS_seq
 apply wpS_region
 simp [wpOpsS,go_sem,recoverD,hu,Tryz.noErrno,Exit.thenS]
 refine wpS_of_wp ?_
 go_wp2_with fail
 exact ⟨rfl,.returning,by cases c₀;simp at hu;subst hu;rfl,.tuple #[],by simp [results,Tryz.results37,go_sem],rfl,rfl,rfl⟩
end
end Go.Proofs.YthccoinonjoleaaGreatDoor
