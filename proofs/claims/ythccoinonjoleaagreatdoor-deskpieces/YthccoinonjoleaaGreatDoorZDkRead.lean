import Derived.Test.YthccoinonjoleaaGreatDoorZR2
import Derived.Deep.AppendLies
import Derived.Deep.LoopGhost
namespace Go.Proofs.YthccoinonjoleaaGreatDoor
open Go.RowKit
set_option maxRecDepth 100000
set_option maxHeartbeats 16000000
section
def SRow (w:World) (a:Option Addr) (ws:List ByteArray):Prop :=
 0<ws.length→∃ b off,a=some ⟨b,off,none⟩∧b<w.heap.size∧∀ j x,ws[j]? = some x→w.cell? ⟨b,off+j,none⟩=some (.string x)
theorem SRow.below {w w':World} {a:Option Addr} {l:List ByteArray} (h:SRow w a l) (hb:Below w.heap.size w w'):SRow w' a l:=fun h0=>by
 obtain ⟨b,off,e,hl,hc⟩:=h h0
 exact ⟨b,off,e,Nat.lt_of_lt_of_le hl hb.size,fun j x hj=>(hb.cell (p:=⟨b,off+j,none⟩) hl).trans (hc j x hj)⟩
theorem SRow.take {w:World} {a:Option Addr} {l:List ByteArray} (h:SRow w a l) (n:Nat):SRow w a (l.take n):=fun h0=>by
 obtain ⟨b,off,e,hl,hc⟩:=h (by simp at h0;omega)
 refine ⟨b,off,e,hl,fun j x hj=>hc j x ?_⟩
 rw [List.getElem?_take] at hj
 split at hj
 ·exact hj
 ·cases hj
def numsP:List ByteArray→Option (List Int)
 | []=>some []
 | x::r=>match numP x with
  | none=>none
  | some v=>(numsP r).map (v::·)
theorem numsP_snoc (l:List ByteArray) (x:ByteArray):numsP (l ++ [x])=(numsP l).bind fun r=>(numP x).map fun v=>r ++ [v]:=by
 induction l with
 | nil=>simp only [List.nil_append,numsP];cases numP x <;> rfl
 | cons y l ih =>
  simp only [List.cons_append,numsP,ih]
  cases numP y with
  | none=>rfl
  | some v=>cases numsP l with
   | none=>rfl
   | some r=>cases numP x <;> rfl
theorem numsP_take_none {l:List ByteArray} {k:Nat} (h:numsP (l.take k)=none):numsP l=none:=by
 induction l generalizing k with
 | nil=>cases k <;> cases h
 | cons y l ih =>
  cases k with
  | zero=>cases h
  | succ k =>
   simp only [List.take_succ_cons,numsP] at h ⊢
   cases e:numP y with
   | none=>rfl
   | some v =>
    rw [e] at h
    simp only [Option.map_eq_none_iff] at h ⊢
    exact ih h
theorem numsP_length:∀ {l:List ByteArray} {r:List Int},numsP l=some r→r.length=l.length
 | [],_,h=>by cases h;rfl
 | x::l,r,h=>by
  simp only [numsP] at h
  cases e:numP x with
  | none=>rw [e] at h;cases h
  | some v =>
   rw [e] at h
   simp only [Option.map_eq_some_iff] at h
   obtain ⟨r',h1,rfl⟩:=h
   simp [numsP_length h1]
theorem numP_range {x:ByteArray} {v:Int} (h:numP x=some v):-9223372036854775808≤v∧v≤9223372036854775807:=by
 unfold numP at h
 split at h
 ·rename_i v' hp
  split at h
  ·cases h
   have h:=Lib.parseIntB_bounds hp
   have e:((2 ^ (64 - 1):Nat):Int)=9223372036854775808:=by decide
   rw [e] at h
   omega
  ·cases h
 ·cases h
theorem numsP_range:∀ {l:List ByteArray} {r:List Int},numsP l=some r→∀ v∈r,-9223372036854775808≤v∧v≤9223372036854775807
 | [],_,h,v,hv=>by cases h;cases hv
 | x::l,r,h,v,hv=>by
  simp only [numsP] at h
  cases e:numP x with
  | none=>rw [e] at h;cases h
  | some u =>
   rw [e] at h
   simp only [Option.map_eq_some_iff] at h
   obtain ⟨r',h1,rfl⟩:=h
   rcases List.mem_cons.1 hv with rfl | hv
   ·exact numP_range e
   ·exact numsP_range h1 v hv
def readP (m:Nat) (more text:Bool) (ws:List ByteArray):Option (List Int × ByteArray) :=
 if text=true∧ws≠[] then
  if ws.length - 1=m∨(m<ws.length - 1∧more=true) then (numsP (ws.take (ws.length - 1))).map fun l=>(l,ws.getD (ws.length - 1) ByteArray.empty) else none
 else if ws.length=m∨(m<ws.length∧more=true) then (numsP ws).map fun l=>(l,ByteArray.empty) else none
def ReadIs (w w':World) (o:Option (List Int × ByteArray)) (e:Ending):Prop :=
 match o with
 | none=>e=thrown 3
 | some x=>∃ a cap,e=.returned (.agg #[.slice a x.1.length cap,.string x.2])∧x.1.length≤cap∧IntRow w' a x.1∧(∀ b off,a=some ⟨b,off,none⟩→w.heap.size≤b∧b<w'.heap.size∧∃ cs fr,w'.heap[b]? = some (.cells cs 3 fr))
theorem ReadIs.no {w w':World} {o:Option (List Int × ByteArray)} (h:o=none):ReadIs w w' o (thrown 3):=by subst h;rfl
theorem owns_cap {u:World} {B n:Nat} {e:TypeId} {a:Option Addr} {cap:Nat} {xs:List Value} (h:u.ownsRow B e 1 (.slice a n cap) n xs):n≤cap:=by
 rcases h.2 with ⟨_,h0⟩ | ⟨g,c,cur,e,_,_,h1,_⟩
 ·omega
 ·injection e with _ _ e3
  rw [e3];exact h1
theorem owns_intRow {u:World} {B:Nat} {r:List Int} {a:Option Addr} {cap:Nat} (h:u.ownsRow B 3 1 (.slice a r.length cap) r.length (r.map (Value.int .i64))):IntRow u a r∧∀ b off,a=some ⟨b,off,none⟩→B≤b∧b<u.heap.size∧∃ cs fr,u.heap[b]? = some (.cells cs 3 fr):=by
 rcases h.2 with ⟨e,h0⟩ | ⟨g,c,cur,e,hg,hh,_⟩
 ·injection e with e1
  subst e1
  refine ⟨fun q=>absurd q (by omega),fun b off q=>by cases q⟩
 ·injection e with e1 e2 e3
  subst e1
  have hlt:g<u.heap.size:=by
   rcases Nat.lt_or_ge g u.heap.size with q | q
   ·exact q
   ·rw [Array.getElem?_eq_none q] at hh;cases hh
  refine ⟨fun q=>⟨g,0,rfl,hlt,fun j hj=>?_⟩,fun b off q=>by cases q;exact ⟨hg,hlt,_,_,hh⟩⟩
  have:=h.cells (g:=g) rfl j (.int .i64 (r.getD j 0)) (by simp [List.getElem?_eq_getElem hj])
  rw [add_at] at this
  exact this
def kindV (m:Nat) (more text:Bool) (when:Int) (f:Value):Value:=.agg #[.int .i64 m,.bool more,.bool text,.int .i64 when,f]
theorem own_lt {u:World} {B n:Nat} {e:TypeId} {v:Value} {xs:List Value} (h:u.ownsRow B e 1 v n xs) {k:Nat} (hk:v.ownBlock=some k):B≤k:=by
 rcases h.2 with ⟨e,_⟩ | ⟨g,cap,cur,e,hg',_⟩
 ·rw [e] at hk;cases hk
 ·rw [e] at hk
  cases hk;exact hg'
theorem below_drewN1 {B:Nat} {w u:World} (h:Below B w u) (q:Nat):Below B w (u.drewN q):=⟨h.os,h.tape,h.output,h.size,h.block⟩
structure RdSt (X:Nat) (tx:ByteArray) (r:List Int) (v:Value) (u:World):Prop where
 c0:u.cell? ⟨X,0,none⟩=some v
 c1:u.cell? ⟨X,1,none⟩=some (.string tx)
 z0:u.frozen? ⟨X,0,none⟩=false
 a0:∃ q,u.cell? ⟨X - 1,0,none⟩=some q
 a1:∃ q,u.cell? ⟨X - 1,1,none⟩=some q
 y0:u.frozen? ⟨X - 1,0,none⟩=false
 y1:u.frozen? ⟨X - 1,1,none⟩=false
 own:u.ownsRow (X+1) 3 1 v r.length (r.map (Value.int .i64))
 lt:X<u.heap.size
 pos:1≤X
theorem RdSt.below {X:Nat} {tx:ByteArray} {r:List Int} {v:Value} {u u':World} (h:RdSt X tx r v u) (hb:Below u.heap.size u u'):RdSt X tx r v u':=by
 have hx:=h.lt
 have h1:X - 1<u.heap.size:=by omega
 refine ⟨(hb.cell (p:=⟨X,0,none⟩) hx).trans h.c0,(hb.cell (p:=⟨X,1,none⟩) hx).trans h.c1,(hb.frozen (p:=⟨X,0,none⟩) hx).trans h.z0,?_,?_,(hb.frozen (p:=⟨X - 1,0,none⟩) h1).trans h.y0,(hb.frozen (p:=⟨X - 1,1,none⟩) h1).trans h.y1,owns_below h.own hb,Nat.lt_of_lt_of_le hx hb.size,h.pos⟩
 ·obtain ⟨q,hq⟩:=h.a0
  exact ⟨q,(hb.cell (p:=⟨X - 1,0,none⟩) h1).trans hq⟩
 ·obtain ⟨q,hq⟩:=h.a1
  exact ⟨q,(hb.cell (p:=⟨X - 1,1,none⟩) h1).trans hq⟩
theorem RdSt.grown {X:Nat} {tx:ByteArray} {r:List Int} {v:Value} {u u':World} (h:RdSt X tx r v u) (hg:u.grownBy u' v.ownBlock) (x:Int) (v':Value) (hown:u'.ownsRow (X+1) 3 1 v' (r.length+1) (r.map (Value.int .i64) ++ [.int .i64 x])) :
  u'.cell? ⟨X,0,none⟩=some v∧u'.frozen? ⟨X,0,none⟩=false∧RdSt X tx (r ++ [x]) v' (u'.setCell ⟨X,0,none⟩ v'):=by
 have hx:=h.lt
 have hB:Below (X+1) u u':=(Below.refl _ _).grown hg (by omega) (fun k hk=>by
  rcases h.own.2 with ⟨e,_⟩ | ⟨g,cap,cur,e,hg',_⟩
  ·rw [e] at hk;cases hk
  ·rw [e] at hk
   cases hk;exact hg')
 have e0:=(hB.cell (p:=⟨X,0,none⟩) (show X<X+1 by omega)).trans h.c0
 have e1:=(hB.cell (p:=⟨X,1,none⟩) (show X<X+1 by omega)).trans h.c1
 have f0:=(hB.frozen (p:=⟨X,0,none⟩) (show X<X+1 by omega)).trans h.z0
 have g0:=(hB.frozen (p:=⟨X - 1,0,none⟩) (show X - 1<X+1 by omega)).trans h.y0
 have g1:=(hB.frozen (p:=⟨X - 1,1,none⟩) (show X - 1<X+1 by omega)).trans h.y1
 have hlt:X<u'.heap.size:=Nat.lt_of_lt_of_le hx hB.size
 obtain ⟨q0,h0⟩:=h.a0
 obtain ⟨q1,h1⟩:=h.a1
 have k0:=(hB.cell (p:=⟨X - 1,0,none⟩) (show X - 1<X+1 by omega)).trans h0
 have k1:=(hB.cell (p:=⟨X - 1,1,none⟩) (show X - 1<X+1 by omega)).trans h1
 have hne:X - 1≠X:=by have:=h.pos;omega
 refine ⟨e0,f0,cell_set e0,(cell_other (.inr (by decide))).trans e1,soft_set.trans f0,⟨q0,(cell_other (.inl hne)).trans k0⟩,⟨q1,(cell_other (.inl hne)).trans k1⟩,soft_set.trans g0,soft_set.trans g1,?_,by simpa using hlt,h.pos⟩
 have:=owns_put (b:=X) (i:=0) (x:=v') hown (Nat.lt_succ_self X)
 simpa using this
theorem rdSt_start (w:World) (o:Obj) (t:TypeId) (tx:ByteArray):RdSt (w.heap.size+1+1) tx [] (.slice none 0 0) (((w.alloc o).alloc (.cells #[.slice none 0 0,.string ⟨#[]⟩] t)).alloc (.cells #[.slice none 0 0,.string tx] t)):=by
 have e:w.heap.size+1+1 - 1=w.heap.size+1:=rfl
 refine ⟨by simp [go_sem],by simp [go_sem],by simp [go_sem],⟨.slice none 0 0,?_⟩,⟨.string ⟨#[]⟩,?_⟩,?_,?_,⟨rfl,.inl ⟨rfl,rfl⟩⟩,by simp,by omega⟩
 all_goals (rw [e];simp [go_sem])
theorem Tryz.infoInt8:(Tryz.prog.info? 3).map (fun i=>(i.zero,i.size,i.bytes))=some (some (.int .i64 0),1,8):=by kernel_rfl
theorem read_lt0 (m:Nat) (more:Bool) (when:Int) (f:Value) (a:Option Addr) (cap:Nat) (ws:List ByteArray) (hl:ws.length≤20000) (w:World) (h3:ws.length<m) :
  Calls Tryz.prog 41 #[kindV m more false when f,.slice a ws.length cap] w fun e w'=>e=thrown 3∧Below w.heap.size w w':=by
 have hA:=fun u=>ask_no 3 u
 unfold kindV
 have k1:(((ws.length:Int):Int) == (m:Int))=false:=by simpa using (show ¬ ((ws.length:Int):Int)=m by omega)
 have k2:decide ((m:Int)<((ws.length:Int):Int))=false:=decide_eq_false (by omega)
 go_enter Tryz.func41,Tryz.ntmps41
 go_wp2_with fail
 all_goals refine (hA _).mono ?_
 all_goals rintro e u3 ⟨rfl,rfl⟩
 all_goals exact ⟨rfl,rfl,(((Below.refl _ w).alloc (Nat.le_refl _) _).alloc (by simp) _).alloc (by simp;omega) _⟩
theorem read_gt0 (m:Nat) (more:Bool) (when:Int) (f:Value) (a:Option Addr) (cap:Nat) (ws:List ByteArray) (hl:ws.length≤20000) (w:World) (h3:m<ws.length) (h4:more=false) :
  Calls Tryz.prog 41 #[kindV m more false when f,.slice a ws.length cap] w fun e w'=>e=thrown 3∧Below w.heap.size w w':=by
 have hA:=fun u=>ask_no 3 u
 unfold kindV
 subst h4
 have k1:(((ws.length:Int):Int) == (m:Int))=false:=by simpa using (show ¬ ((ws.length:Int):Int)=m by omega)
 have k2:(m:Int)<((ws.length:Int):Int):=by omega
 go_enter Tryz.func41,Tryz.ntmps41
 go_wp2_with fail
 all_goals refine (hA _).mono ?_
 all_goals rintro e u3 ⟨rfl,rfl⟩
 all_goals exact ⟨rfl,rfl,(((Below.refl _ w).alloc (Nat.le_refl _) _).alloc (by simp) _).alloc (by simp;omega) _⟩
theorem read_eq0 (m:Nat) (hm:m≤6) (more:Bool) (when:Int) (f:Value) (a:Option Addr) (cap:Nat) (ws:List ByteArray) (hl:ws.length≤20000) (hsz:∀ x∈ws,x.size≤20000) (w:World) (hw:DeskW w.heap.size w) (hr:SRow w a ws) (h3:ws.length=m) :
  Calls Tryz.prog 41 #[kindV m more false when f,.slice a ws.length cap] w fun e w'=>ReadIs w w' ((numsP ws).map fun l=>(l,ByteArray.empty)) e∧Below w.heap.size w w':=by
 have hA:=fun u=>ask_yes 3 u
 obtain ⟨i0,hi,hz0,hz1,hz2⟩:=info_parts Tryz.infoInt8
 unfold kindV
 have k1:((ws.length:Int) == (m:Int))=true:=by simpa using (show (ws.length:Int)=m by omega)
 go_enter Tryz.func41,Tryz.ntmps41
 go_wp2_with fail
 refine (hA _).mono ?_
 rintro e u3 ⟨rfl,rfl⟩
 clear hA
 have HR:Hid (SRow w _ (ws)):=hr
 have HW:Hid (DeskW w.heap.size w):=hw
 have HSZ:Hid (∀ x∈(ws),x.size≤20000):=hsz
 have HLQ:Hid ((ws).length=ws.length):=rfl
 have HLN:Hid (ws.length≤20000):=hl
 clear hr hw hsz
 go_wp2_with fail
 go_loopw [45] (fun t wr=>∃ (k:Nat) (r:List Int) (v:Value),k≤ws.length∧t=.int .i64 k∧Hid (numsP ((ws).take k)=some r)∧Hid (RdSt (w.heap.size+1+1) (ByteArray.empty) r v wr)∧Hid (Below w.heap.size w wr)) (fun t _=>ws.length - (intOf t).toNat)
 case atStart=>exact ⟨0,[],.slice none 0 0,Nat.zero_le _,rfl,rfl,rdSt_start w _ _ ⟨#[]⟩,(((Below.refl _ w).alloc (Nat.le_refl _) _).alloc (by simp) _).alloc (by simp;omega) _⟩
 case round =>
  obtain ⟨k,r,v,hk,rfl,hnu,hst,hbe⟩:=hrel
  by_cases hlt:k<ws.length
  ·have kk:(k:Int)<(ws.length:Int):=by omega
   obtain ⟨b,off,rfl,hb,hc⟩:=HR.out (by have:=HLQ.out;omega)
   obtain ⟨x,hx⟩:∃ x,(ws)[k]? = some x:=⟨_,List.getElem?_eq_getElem (by have:=HLQ.out;omega)⟩
   have y:=(hbe.out.cell (p:=⟨b,off+k,none⟩) hb).trans (hc k x hx)
   have hz:b<wr.heap.size:=Nat.lt_of_lt_of_le hb hbe.out.size
   have hxs:x.size≤20000:=HSZ.out x (List.mem_of_getElem? hx)
   have hN:=number_any x hxs (wr.drewN 1) (HW.out.at (v:=wr.drewN 1) (below_drewN1 hbe.out 1) hbe.out.size)
   have hrl:r.length=k:=by
    have:=numsP_length hnu.out
    rw [List.length_take] at this
    omega
   subst hrl
   have hk2:r.length≤20000:=by have:=HLN.out;omega
   have htk:(ws).take (r.length+1)=(ws).take r.length ++ [x]:=by rw [List.take_add_one,hx];rfl
   have c0:=hst.out.c0
   have z0:=hst.out.z0
   have hxlt:=hst.out.lt
   have HX:Hid ((ws)[r.length]? = some x):=hx
   have HTK:Hid _:=htk
   clear hx hc htk
   cases hnp:numP x with
   | none =>
    have hno:numsP (ws)=none:=numsP_take_none (k:=r.length+1) (by rw [HTK.out,numsP_snoc,hnu.out,hnp];rfl)
    have HNO:Hid _:=hno
    simp only [hnp] at hN
    go_wp2_with fail
    refine wp_region_held_drew (S:=fun _=>True) (by kernel_rfl) trivial (fun hHeld=>?_)
    refine tk 0 hHeld ?_
    refine tk 2 hHeld ?_
    refine rd2 1 3 (fun K hK=>?_) (fun K hK=>?_)
    ·go_simp
     refine kp hK (fun hHeld=>?_) trivial
     clear hK K
     refine rdy 3 fun K hK=>?_
     go_simp
     refine hN.mono ?_
     rintro ev u1 ⟨rfl,hu1⟩
     exact ⟨rfl,.no (by rw [HNO.out];rfl),hbe.out.trans ((undrewN hu1).mono hbe.out.size)⟩
    ·go_simp
     refine hN.mono ?_
     rintro ev u1 ⟨rfl,hu1⟩
     exact ⟨rfl,.no (by rw [HNO.out];rfl),hbe.out.trans ((undrewN hu1).mono hbe.out.size)⟩
   | some val =>
    simp only [hnp] at hN
    have HNU:Hid (numsP ((ws).take (r.length+1))=some (r ++ [val])):=(by rw [HTK.out,numsP_snoc,hnu.out,hnp];rfl)
    go_wp2_with fail
    refine wp_region_held_drew (S:=fun _=>True) (by kernel_rfl) trivial (fun hHeld=>?_)
    refine tk 0 hHeld ?_
    refine tk 2 hHeld ?_
    refine rd2 1 3 (fun K hK=>?_) (fun K hK=>?_)
    ·go_simp
     refine kp hK (fun hHeld=>?_) trivial
     clear hK K
     refine rdy 3 fun K hK=>?_
     go_simp
     refine hN.mono ?_
     rintro ev u1 ⟨rfl,hu1⟩
     have hst1:Hid (RdSt (w.heap.size+1+1) (ByteArray.empty) r v u1):=hst.out.below (undrewN hu1)
     have hbe1:Hid (Below w.heap.size w u1):=hbe.out.trans ((undrewN hu1).mono hbe.out.size)
     have c1:=hst1.out.c0
     refine kp hK (fun hHeld=>?_) trivial
     clear hK K
     refine rdy 4 fun K hK=>?_
     go_simp
     refine kp hK (fun hHeld=>?_) trivial
     clear hK K
     refine rdy 5 fun K hK=>?_
     refine step_append_lies _ (by rfl) _ _ _ (by rfl) (w.heap.size+1+1+1) 3 i0 (.int .i64 0) 1 8 Tryz.underlying52 hi hz0 hz1 hz2 rfl (by decide) v r.length _ (by rfl) (hst1.out.own.alloc _) ⟨u1.heap.size,0,none⟩ 1 1 [.int .i64 val] (by rfl) rfl (cell_one_new _ _ _) (ints_one [val]) (by decide) (by unfold maxLen;omega) (by omega) (by have:=hst1.out.lt;simp;omega) (u1.heap.size+1) (by simp) ?_
     intro gq cq w3 hown' hgrow _ _
     obtain ⟨c3,z3,hn3⟩:=(hst1.out.below ((Below.refl _ u1).alloc (Nat.le_refl _) (.cells #[.int .i64 val] 3))).grown hgrow val _ hown'
     have HN3:Hid _:=hn3
     have hb3:Hid (Below w.heap.size w w3):=(hbe1.out.alloc hbe1.out.size (.cells #[.int .i64 val] 3)).grown hgrow (by have:=hbe1.out.size;simp;omega) (fun k hk=>Nat.le_of_lt (Nat.lt_of_lt_of_le (by omega) (own_lt hst1.out.own hk)))
     clear hn3
     refine kp hK (fun hHeld=>?_) trivial
     clear hK K
     refine tk 6 hHeld ?_
     refine rdy 7 fun K hK=>?_
     go_simp
     refine kp hK (fun hHeld=>?_) trivial
     clear hK K
     refine dn ?_
     clear hN
     go_wp2
     go_roundw
     case rel=>exact ⟨r.length+1,r ++ [val],_,by omega,by go_num,HNU,HN3,hb3.out.setCell (p:=⟨w.heap.size+1+1,0,none⟩) (by show w.heap.size≤w.heap.size+1+1;omega) _⟩
     case measure=>simp [intOf];omega
    ·go_simp
     refine hN.mono ?_
     rintro ev u1 ⟨rfl,hu1⟩
     have hst1:Hid (RdSt (w.heap.size+1+1) (ByteArray.empty) r v u1):=hst.out.below (undrewN hu1)
     have hbe1:Hid (Below w.heap.size w u1):=hbe.out.trans ((undrewN hu1).mono hbe.out.size)
     have c1:=hst1.out.c0
     refine kp hK (fun hHeld=>?_) trivial
     clear hK K
     refine rd2 1 4 (fun K hK=>?_) (fun K hK=>?_)
     ·go_simp
      refine kp hK (fun hHeld=>?_) trivial
      clear hK K
      refine rdy 4 fun K hK=>?_
      go_simp
      refine kp hK (fun hHeld=>?_) trivial
      clear hK K
      refine rdy 5 fun K hK=>?_
      refine step_append_lies _ (by rfl) _ _ _ (by rfl) (w.heap.size+1+1+1) 3 i0 (.int .i64 0) 1 8 Tryz.underlying52 hi hz0 hz1 hz2 rfl (by decide) v r.length _ (by rfl) (hst1.out.own.alloc _) ⟨u1.heap.size,0,none⟩ 1 1 [.int .i64 val] (by rfl) rfl (cell_one_new _ _ _) (ints_one [val]) (by decide) (by unfold maxLen;omega) (by omega) (by have:=hst1.out.lt;simp;omega) (u1.heap.size+1) (by simp) ?_
      intro gq cq w3 hown' hgrow _ _
      obtain ⟨c3,z3,hn3⟩:=(hst1.out.below ((Below.refl _ u1).alloc (Nat.le_refl _) (.cells #[.int .i64 val] 3))).grown hgrow val _ hown'
      have HN3:Hid _:=hn3
      have hb3:Hid (Below w.heap.size w w3):=(hbe1.out.alloc hbe1.out.size (.cells #[.int .i64 val] 3)).grown hgrow (by have:=hbe1.out.size;simp;omega) (fun k hk=>Nat.le_of_lt (Nat.lt_of_lt_of_le (by omega) (own_lt hst1.out.own hk)))
      clear hn3
      refine kp hK (fun hHeld=>?_) trivial
      clear hK K
      refine tk 6 hHeld ?_
      refine rdy 7 fun K hK=>?_
      go_simp
      refine kp hK (fun hHeld=>?_) trivial
      clear hK K
      refine dn ?_
      clear hN
      go_wp2
      go_roundw
      case rel=>exact ⟨r.length+1,r ++ [val],_,by omega,by go_num,HNU,HN3,hb3.out.setCell (p:=⟨w.heap.size+1+1,0,none⟩) (by show w.heap.size≤w.heap.size+1+1;omega) _⟩
      case measure=>simp [intOf];omega
     ·go_simp
      refine kp hK (fun hHeld=>?_) trivial
      clear hK K
      have c2:(u1.alloc (.cells #[.int .i64 val] 3)).cell? ⟨w.heap.size+1+1,0,none⟩=some v:=(((Below.refl _ u1).alloc (Nat.le_refl _) (.cells #[.int .i64 val] 3)).cell (p:=⟨w.heap.size+1+1,0,none⟩) hst1.out.lt).trans c1
      refine rdy 1 fun K hK=>?_
      go_simp
      refine kp hK (fun hHeld=>?_) trivial
      clear hK K
      refine rdy 5 fun K hK=>?_
      refine step_append_lies _ (by rfl) _ _ _ (by rfl) (w.heap.size+1+1+1) 3 i0 (.int .i64 0) 1 8 Tryz.underlying52 hi hz0 hz1 hz2 rfl (by decide) v r.length _ (by rfl) (hst1.out.own.alloc _) ⟨u1.heap.size,0,none⟩ 1 1 [.int .i64 val] (by rfl) rfl (cell_one_new _ _ _) (ints_one [val]) (by decide) (by unfold maxLen;omega) (by omega) (by have:=hst1.out.lt;simp;omega) (u1.heap.size+1) (by simp) ?_
      intro gq cq w3 hown' hgrow _ _
      obtain ⟨c3,z3,hn3⟩:=(hst1.out.below ((Below.refl _ u1).alloc (Nat.le_refl _) (.cells #[.int .i64 val] 3))).grown hgrow val _ hown'
      have HN3:Hid _:=hn3
      have hb3:Hid (Below w.heap.size w w3):=(hbe1.out.alloc hbe1.out.size (.cells #[.int .i64 val] 3)).grown hgrow (by have:=hbe1.out.size;simp;omega) (fun k hk=>Nat.le_of_lt (Nat.lt_of_lt_of_le (by omega) (own_lt hst1.out.own hk)))
      clear hn3
      refine kp hK (fun hHeld=>?_) trivial
      clear hK K
      refine tk 6 hHeld ?_
      refine rdy 7 fun K hK=>?_
      go_simp
      refine kp hK (fun hHeld=>?_) trivial
      clear hK K
      refine dn ?_
      clear hN
      go_wp2
      go_roundw
      case rel=>exact ⟨r.length+1,r ++ [val],_,by omega,by go_num,HNU,HN3,hb3.out.setCell (p:=⟨w.heap.size+1+1,0,none⟩) (by show w.heap.size≤w.heap.size+1+1;omega) _⟩
      case measure=>simp [intOf];omega
  ·have hke:ws.length=k:=by omega
   have kk:decide ((k:Int)<(ws.length:Int))=false:=decide_eq_false (by omega)
   subst hke
   obtain ⟨av,cv,rfl⟩:=owns_form hst.out.own
   have c0:=hst.out.c0
   have c1:=hst.out.c1
   obtain ⟨q0,a0⟩:=hst.out.a0
   obtain ⟨q1,a1⟩:=hst.out.a1
   have a0':wr.cell? ⟨w.heap.size+1,0,none⟩=some q0:=a0
   have a1':wr.cell? ⟨w.heap.size+1,1,none⟩=some q1:=a1
   have y0:wr.frozen? ⟨w.heap.size+1,0,none⟩=false:=hst.out.y0
   have y1:wr.frozen? ⟨w.heap.size+1,1,none⟩=false:=hst.out.y1
   have hne:w.heap.size+1≠w.heap.size+1+1:=by omega
   clear a0 a1
   have hbs:Hid (∀ x y,Below w.heap.size w ((wr.setCell ⟨w.heap.size+1,0,none⟩ x).setCell ⟨w.heap.size+1,1,none⟩ y)):=fun x y=>(hbe.out.setCell (p:=⟨w.heap.size+1,0,none⟩) (by show w.heap.size≤w.heap.size+1;omega) x).setCell (p:=⟨w.heap.size+1,1,none⟩) (by show w.heap.size≤w.heap.size+1;omega) y
   go_wp2_with fail
   refine bodyPost_ret (v:=.agg #[.slice av r.length cv,.string (ByteArray.empty)]) (by simp [results,Tryz.results41,go_sem,a0',a1']) rfl ⟨?_,hbs.out _ _⟩
   have hnn:numsP (ws)=some r:=by have:=hnu.out;rwa [List.take_of_length_le (by have:=HLQ.out;omega)] at this
   rw [hnn]
   have hown:=owns_put (b:=w.heap.size+1) (i:=1) (x:=.string (ByteArray.empty)) (owns_put (b:=w.heap.size+1) (i:=0) (x:=.slice av r.length cv) hst.out.own (by omega)) (by omega)
   obtain ⟨o1,o2⟩:=owns_intRow hown
   exact ⟨av,cv,rfl,owns_cap hst.out.own,o1,fun b off q=>by obtain ⟨q1,q2,q3⟩:=o2 b off q;exact ⟨by omega,q2,q3⟩⟩
theorem read_more0 (m:Nat) (hm:m≤6) (more:Bool) (when:Int) (f:Value) (a:Option Addr) (cap:Nat) (ws:List ByteArray) (hl:ws.length≤20000) (hsz:∀ x∈ws,x.size≤20000) (w:World) (hw:DeskW w.heap.size w) (hr:SRow w a ws) (h3:m<ws.length) (h4:more=true) :
  Calls Tryz.prog 41 #[kindV m more false when f,.slice a ws.length cap] w fun e w'=>ReadIs w w' ((numsP ws).map fun l=>(l,ByteArray.empty)) e∧Below w.heap.size w w':=by
 have hA:=fun u=>ask_yes 3 u
 obtain ⟨i0,hi,hz0,hz1,hz2⟩:=info_parts Tryz.infoInt8
 unfold kindV
 subst h4
 have k1:(((ws.length:Int):Int) == (m:Int))=false:=by simpa using (show ¬ ((ws.length:Int):Int)=m by omega)
 have k2:(m:Int)<((ws.length:Int):Int):=by omega
 go_enter Tryz.func41,Tryz.ntmps41
 go_wp2_with fail
 refine (hA _).mono ?_
 rintro e u3 ⟨rfl,rfl⟩
 clear hA
 have HR:Hid (SRow w _ (ws)):=hr
 have HW:Hid (DeskW w.heap.size w):=hw
 have HSZ:Hid (∀ x∈(ws),x.size≤20000):=hsz
 have HLQ:Hid ((ws).length=ws.length):=rfl
 have HLN:Hid (ws.length≤20000):=hl
 clear hr hw hsz
 go_wp2_with fail
 go_loopw [45] (fun t wr=>∃ (k:Nat) (r:List Int) (v:Value),k≤ws.length∧t=.int .i64 k∧Hid (numsP ((ws).take k)=some r)∧Hid (RdSt (w.heap.size+1+1) (ByteArray.empty) r v wr)∧Hid (Below w.heap.size w wr)) (fun t _=>ws.length - (intOf t).toNat)
 case atStart=>exact ⟨0,[],.slice none 0 0,Nat.zero_le _,rfl,rfl,rdSt_start w _ _ ⟨#[]⟩,(((Below.refl _ w).alloc (Nat.le_refl _) _).alloc (by simp) _).alloc (by simp;omega) _⟩
 case round =>
  obtain ⟨k,r,v,hk,rfl,hnu,hst,hbe⟩:=hrel
  by_cases hlt:k<ws.length
  ·have kk:(k:Int)<(ws.length:Int):=by omega
   obtain ⟨b,off,rfl,hb,hc⟩:=HR.out (by have:=HLQ.out;omega)
   obtain ⟨x,hx⟩:∃ x,(ws)[k]? = some x:=⟨_,List.getElem?_eq_getElem (by have:=HLQ.out;omega)⟩
   have y:=(hbe.out.cell (p:=⟨b,off+k,none⟩) hb).trans (hc k x hx)
   have hz:b<wr.heap.size:=Nat.lt_of_lt_of_le hb hbe.out.size
   have hxs:x.size≤20000:=HSZ.out x (List.mem_of_getElem? hx)
   have hN:=number_any x hxs (wr.drewN 1) (HW.out.at (v:=wr.drewN 1) (below_drewN1 hbe.out 1) hbe.out.size)
   have hrl:r.length=k:=by
    have:=numsP_length hnu.out
    rw [List.length_take] at this
    omega
   subst hrl
   have hk2:r.length≤20000:=by have:=HLN.out;omega
   have htk:(ws).take (r.length+1)=(ws).take r.length ++ [x]:=by rw [List.take_add_one,hx];rfl
   have c0:=hst.out.c0
   have z0:=hst.out.z0
   have hxlt:=hst.out.lt
   have HX:Hid ((ws)[r.length]? = some x):=hx
   have HTK:Hid _:=htk
   clear hx hc htk
   cases hnp:numP x with
   | none =>
    have hno:numsP (ws)=none:=numsP_take_none (k:=r.length+1) (by rw [HTK.out,numsP_snoc,hnu.out,hnp];rfl)
    have HNO:Hid _:=hno
    simp only [hnp] at hN
    go_wp2_with fail
    refine wp_region_held_drew (S:=fun _=>True) (by kernel_rfl) trivial (fun hHeld=>?_)
    refine tk 0 hHeld ?_
    refine tk 2 hHeld ?_
    refine rd2 1 3 (fun K hK=>?_) (fun K hK=>?_)
    ·go_simp
     refine kp hK (fun hHeld=>?_) trivial
     clear hK K
     refine rdy 3 fun K hK=>?_
     go_simp
     refine hN.mono ?_
     rintro ev u1 ⟨rfl,hu1⟩
     exact ⟨rfl,.no (by rw [HNO.out];rfl),hbe.out.trans ((undrewN hu1).mono hbe.out.size)⟩
    ·go_simp
     refine hN.mono ?_
     rintro ev u1 ⟨rfl,hu1⟩
     exact ⟨rfl,.no (by rw [HNO.out];rfl),hbe.out.trans ((undrewN hu1).mono hbe.out.size)⟩
   | some val =>
    simp only [hnp] at hN
    have HNU:Hid (numsP ((ws).take (r.length+1))=some (r ++ [val])):=(by rw [HTK.out,numsP_snoc,hnu.out,hnp];rfl)
    go_wp2_with fail
    refine wp_region_held_drew (S:=fun _=>True) (by kernel_rfl) trivial (fun hHeld=>?_)
    refine tk 0 hHeld ?_
    refine tk 2 hHeld ?_
    refine rd2 1 3 (fun K hK=>?_) (fun K hK=>?_)
    ·go_simp
     refine kp hK (fun hHeld=>?_) trivial
     clear hK K
     refine rdy 3 fun K hK=>?_
     go_simp
     refine hN.mono ?_
     rintro ev u1 ⟨rfl,hu1⟩
     have hst1:Hid (RdSt (w.heap.size+1+1) (ByteArray.empty) r v u1):=hst.out.below (undrewN hu1)
     have hbe1:Hid (Below w.heap.size w u1):=hbe.out.trans ((undrewN hu1).mono hbe.out.size)
     have c1:=hst1.out.c0
     refine kp hK (fun hHeld=>?_) trivial
     clear hK K
     refine rdy 4 fun K hK=>?_
     go_simp
     refine kp hK (fun hHeld=>?_) trivial
     clear hK K
     refine rdy 5 fun K hK=>?_
     refine step_append_lies _ (by rfl) _ _ _ (by rfl) (w.heap.size+1+1+1) 3 i0 (.int .i64 0) 1 8 Tryz.underlying52 hi hz0 hz1 hz2 rfl (by decide) v r.length _ (by rfl) (hst1.out.own.alloc _) ⟨u1.heap.size,0,none⟩ 1 1 [.int .i64 val] (by rfl) rfl (cell_one_new _ _ _) (ints_one [val]) (by decide) (by unfold maxLen;omega) (by omega) (by have:=hst1.out.lt;simp;omega) (u1.heap.size+1) (by simp) ?_
     intro gq cq w3 hown' hgrow _ _
     obtain ⟨c3,z3,hn3⟩:=(hst1.out.below ((Below.refl _ u1).alloc (Nat.le_refl _) (.cells #[.int .i64 val] 3))).grown hgrow val _ hown'
     have HN3:Hid _:=hn3
     have hb3:Hid (Below w.heap.size w w3):=(hbe1.out.alloc hbe1.out.size (.cells #[.int .i64 val] 3)).grown hgrow (by have:=hbe1.out.size;simp;omega) (fun k hk=>Nat.le_of_lt (Nat.lt_of_lt_of_le (by omega) (own_lt hst1.out.own hk)))
     clear hn3
     refine kp hK (fun hHeld=>?_) trivial
     clear hK K
     refine tk 6 hHeld ?_
     refine rdy 7 fun K hK=>?_
     go_simp
     refine kp hK (fun hHeld=>?_) trivial
     clear hK K
     refine dn ?_
     clear hN
     go_wp2
     go_roundw
     case rel=>exact ⟨r.length+1,r ++ [val],_,by omega,by go_num,HNU,HN3,hb3.out.setCell (p:=⟨w.heap.size+1+1,0,none⟩) (by show w.heap.size≤w.heap.size+1+1;omega) _⟩
     case measure=>simp [intOf];omega
    ·go_simp
     refine hN.mono ?_
     rintro ev u1 ⟨rfl,hu1⟩
     have hst1:Hid (RdSt (w.heap.size+1+1) (ByteArray.empty) r v u1):=hst.out.below (undrewN hu1)
     have hbe1:Hid (Below w.heap.size w u1):=hbe.out.trans ((undrewN hu1).mono hbe.out.size)
     have c1:=hst1.out.c0
     refine kp hK (fun hHeld=>?_) trivial
     clear hK K
     refine rd2 1 4 (fun K hK=>?_) (fun K hK=>?_)
     ·go_simp
      refine kp hK (fun hHeld=>?_) trivial
      clear hK K
      refine rdy 4 fun K hK=>?_
      go_simp
      refine kp hK (fun hHeld=>?_) trivial
      clear hK K
      refine rdy 5 fun K hK=>?_
      refine step_append_lies _ (by rfl) _ _ _ (by rfl) (w.heap.size+1+1+1) 3 i0 (.int .i64 0) 1 8 Tryz.underlying52 hi hz0 hz1 hz2 rfl (by decide) v r.length _ (by rfl) (hst1.out.own.alloc _) ⟨u1.heap.size,0,none⟩ 1 1 [.int .i64 val] (by rfl) rfl (cell_one_new _ _ _) (ints_one [val]) (by decide) (by unfold maxLen;omega) (by omega) (by have:=hst1.out.lt;simp;omega) (u1.heap.size+1) (by simp) ?_
      intro gq cq w3 hown' hgrow _ _
      obtain ⟨c3,z3,hn3⟩:=(hst1.out.below ((Below.refl _ u1).alloc (Nat.le_refl _) (.cells #[.int .i64 val] 3))).grown hgrow val _ hown'
      have HN3:Hid _:=hn3
      have hb3:Hid (Below w.heap.size w w3):=(hbe1.out.alloc hbe1.out.size (.cells #[.int .i64 val] 3)).grown hgrow (by have:=hbe1.out.size;simp;omega) (fun k hk=>Nat.le_of_lt (Nat.lt_of_lt_of_le (by omega) (own_lt hst1.out.own hk)))
      clear hn3
      refine kp hK (fun hHeld=>?_) trivial
      clear hK K
      refine tk 6 hHeld ?_
      refine rdy 7 fun K hK=>?_
      go_simp
      refine kp hK (fun hHeld=>?_) trivial
      clear hK K
      refine dn ?_
      clear hN
      go_wp2
      go_roundw
      case rel=>exact ⟨r.length+1,r ++ [val],_,by omega,by go_num,HNU,HN3,hb3.out.setCell (p:=⟨w.heap.size+1+1,0,none⟩) (by show w.heap.size≤w.heap.size+1+1;omega) _⟩
      case measure=>simp [intOf];omega
     ·go_simp
      refine kp hK (fun hHeld=>?_) trivial
      clear hK K
      have c2:(u1.alloc (.cells #[.int .i64 val] 3)).cell? ⟨w.heap.size+1+1,0,none⟩=some v:=(((Below.refl _ u1).alloc (Nat.le_refl _) (.cells #[.int .i64 val] 3)).cell (p:=⟨w.heap.size+1+1,0,none⟩) hst1.out.lt).trans c1
      refine rdy 1 fun K hK=>?_
      go_simp
      refine kp hK (fun hHeld=>?_) trivial
      clear hK K
      refine rdy 5 fun K hK=>?_
      refine step_append_lies _ (by rfl) _ _ _ (by rfl) (w.heap.size+1+1+1) 3 i0 (.int .i64 0) 1 8 Tryz.underlying52 hi hz0 hz1 hz2 rfl (by decide) v r.length _ (by rfl) (hst1.out.own.alloc _) ⟨u1.heap.size,0,none⟩ 1 1 [.int .i64 val] (by rfl) rfl (cell_one_new _ _ _) (ints_one [val]) (by decide) (by unfold maxLen;omega) (by omega) (by have:=hst1.out.lt;simp;omega) (u1.heap.size+1) (by simp) ?_
      intro gq cq w3 hown' hgrow _ _
      obtain ⟨c3,z3,hn3⟩:=(hst1.out.below ((Below.refl _ u1).alloc (Nat.le_refl _) (.cells #[.int .i64 val] 3))).grown hgrow val _ hown'
      have HN3:Hid _:=hn3
      have hb3:Hid (Below w.heap.size w w3):=(hbe1.out.alloc hbe1.out.size (.cells #[.int .i64 val] 3)).grown hgrow (by have:=hbe1.out.size;simp;omega) (fun k hk=>Nat.le_of_lt (Nat.lt_of_lt_of_le (by omega) (own_lt hst1.out.own hk)))
      clear hn3
      refine kp hK (fun hHeld=>?_) trivial
      clear hK K
      refine tk 6 hHeld ?_
      refine rdy 7 fun K hK=>?_
      go_simp
      refine kp hK (fun hHeld=>?_) trivial
      clear hK K
      refine dn ?_
      clear hN
      go_wp2
      go_roundw
      case rel=>exact ⟨r.length+1,r ++ [val],_,by omega,by go_num,HNU,HN3,hb3.out.setCell (p:=⟨w.heap.size+1+1,0,none⟩) (by show w.heap.size≤w.heap.size+1+1;omega) _⟩
      case measure=>simp [intOf];omega
  ·have hke:ws.length=k:=by omega
   have kk:decide ((k:Int)<(ws.length:Int))=false:=decide_eq_false (by omega)
   subst hke
   obtain ⟨av,cv,rfl⟩:=owns_form hst.out.own
   have c0:=hst.out.c0
   have c1:=hst.out.c1
   obtain ⟨q0,a0⟩:=hst.out.a0
   obtain ⟨q1,a1⟩:=hst.out.a1
   have a0':wr.cell? ⟨w.heap.size+1,0,none⟩=some q0:=a0
   have a1':wr.cell? ⟨w.heap.size+1,1,none⟩=some q1:=a1
   have y0:wr.frozen? ⟨w.heap.size+1,0,none⟩=false:=hst.out.y0
   have y1:wr.frozen? ⟨w.heap.size+1,1,none⟩=false:=hst.out.y1
   have hne:w.heap.size+1≠w.heap.size+1+1:=by omega
   clear a0 a1
   have hbs:Hid (∀ x y,Below w.heap.size w ((wr.setCell ⟨w.heap.size+1,0,none⟩ x).setCell ⟨w.heap.size+1,1,none⟩ y)):=fun x y=>(hbe.out.setCell (p:=⟨w.heap.size+1,0,none⟩) (by show w.heap.size≤w.heap.size+1;omega) x).setCell (p:=⟨w.heap.size+1,1,none⟩) (by show w.heap.size≤w.heap.size+1;omega) y
   go_wp2_with fail
   refine bodyPost_ret (v:=.agg #[.slice av r.length cv,.string (ByteArray.empty)]) (by simp [results,Tryz.results41,go_sem,a0',a1']) rfl ⟨?_,hbs.out _ _⟩
   have hnn:numsP (ws)=some r:=by have:=hnu.out;rwa [List.take_of_length_le (by have:=HLQ.out;omega)] at this
   rw [hnn]
   have hown:=owns_put (b:=w.heap.size+1) (i:=1) (x:=.string (ByteArray.empty)) (owns_put (b:=w.heap.size+1) (i:=0) (x:=.slice av r.length cv) hst.out.own (by omega)) (by omega)
   obtain ⟨o1,o2⟩:=owns_intRow hown
   exact ⟨av,cv,rfl,owns_cap hst.out.own,o1,fun b off q=>by obtain ⟨q1,q2,q3⟩:=o2 b off q;exact ⟨by omega,q2,q3⟩⟩
theorem read_lt1 (m:Nat) (more:Bool) (when:Int) (f:Value) (a:Option Addr) (cap:Nat) (ws:List ByteArray) (hl:ws.length≤20000) (w:World) (hr:SRow w a ws) (q:Nat) (hq:ws.length=q+1) (hcap:ws.length≤cap) (tx:ByteArray) (hx:ws[q]? = some tx) (h3:q<m) :
  Calls Tryz.prog 41 #[kindV m more true when f,.slice a ws.length cap] w fun e w'=>e=thrown 3∧Below w.heap.size w w':=by
 have hA:=fun u=>ask_no 3 u
 unfold kindV
 obtain ⟨b,off,rfl,hb,hc⟩:=hr (by omega)
 have q1:((ws.length:Int) - 1)=(q:Int):=by omega
 have q2:q<ws.length:=by omega
 have q3:(q:Int)<(ws.length:Int):=by omega
 have q4:ws.length≤cap:=hcap
 have y3:∀ o1 o2 o3:Obj,(((w.alloc o1).alloc o2).alloc o3).cell? ⟨b,off+q,none⟩=some (.string tx):=fun o1 o2 o3=>(((((Below.refl _ w).alloc (Nat.le_refl _) o1).alloc (by simp) o2).alloc (by simp;omega) o3).cell (p:=⟨b,off+q,none⟩) hb).trans (hc q tx hx)
 have k1:(((q:Int):Int) == (m:Int))=false:=by simpa using (show ¬ ((q:Int):Int)=m by omega)
 have k2:decide ((m:Int)<((q:Int):Int))=false:=decide_eq_false (by omega)
 go_enter Tryz.func41,Tryz.ntmps41
 go_wp2_with fail
 go_region
 go_wp2_with fail
 all_goals refine (hA _).mono ?_
 all_goals rintro e u3 ⟨rfl,rfl⟩
 all_goals exact ⟨rfl,rfl,(((Below.refl _ w).alloc (Nat.le_refl _) _).alloc (by simp) _).alloc (by simp;omega) _ |>.drew⟩
theorem read_gt1 (m:Nat) (more:Bool) (when:Int) (f:Value) (a:Option Addr) (cap:Nat) (ws:List ByteArray) (hl:ws.length≤20000) (w:World) (hr:SRow w a ws) (q:Nat) (hq:ws.length=q+1) (hcap:ws.length≤cap) (tx:ByteArray) (hx:ws[q]? = some tx) (h3:m<q) (h4:more=false) :
  Calls Tryz.prog 41 #[kindV m more true when f,.slice a ws.length cap] w fun e w'=>e=thrown 3∧Below w.heap.size w w':=by
 have hA:=fun u=>ask_no 3 u
 unfold kindV
 subst h4
 obtain ⟨b,off,rfl,hb,hc⟩:=hr (by omega)
 have q1:((ws.length:Int) - 1)=(q:Int):=by omega
 have q2:q<ws.length:=by omega
 have q3:(q:Int)<(ws.length:Int):=by omega
 have q4:ws.length≤cap:=hcap
 have y3:∀ o1 o2 o3:Obj,(((w.alloc o1).alloc o2).alloc o3).cell? ⟨b,off+q,none⟩=some (.string tx):=fun o1 o2 o3=>(((((Below.refl _ w).alloc (Nat.le_refl _) o1).alloc (by simp) o2).alloc (by simp;omega) o3).cell (p:=⟨b,off+q,none⟩) hb).trans (hc q tx hx)
 have k1:(((q:Int):Int) == (m:Int))=false:=by simpa using (show ¬ ((q:Int):Int)=m by omega)
 have k2:(m:Int)<((q:Int):Int):=by omega
 go_enter Tryz.func41,Tryz.ntmps41
 go_wp2_with fail
 go_region
 go_wp2_with fail
 all_goals refine (hA _).mono ?_
 all_goals rintro e u3 ⟨rfl,rfl⟩
 all_goals exact ⟨rfl,rfl,(((Below.refl _ w).alloc (Nat.le_refl _) _).alloc (by simp) _).alloc (by simp;omega) _ |>.drew⟩
theorem read_nil1 (m:Nat) (more:Bool) (when:Int) (f:Value) (a:Option Addr) (cap:Nat) (w:World) (h3:0<m) :
  Calls Tryz.prog 41 #[kindV m more true when f,.slice a 0 cap] w fun e w'=>e=thrown 3∧Below w.heap.size w w':=by
 have hA:=fun u=>ask_no 3 u
 unfold kindV
 have k1:((0:Int) == (m:Int))=false:=by simpa using (show ¬ (0:Int)=m by omega)
 have k2:decide ((m:Int)<(0:Int))=false:=decide_eq_false (by omega)
 go_enter Tryz.func41,Tryz.ntmps41
 go_wp2_with fail
 all_goals refine (hA _).mono ?_
 all_goals rintro e u3 ⟨rfl,rfl⟩
 all_goals exact ⟨rfl,rfl,(((Below.refl _ w).alloc (Nat.le_refl _) _).alloc (by simp) _).alloc (by simp;omega) _⟩
theorem read_eq1 (m:Nat) (hm:m≤6) (more:Bool) (when:Int) (f:Value) (a:Option Addr) (cap:Nat) (ws:List ByteArray) (hsz:∀ x∈ws,x.size≤20000) (w:World) (hw:DeskW w.heap.size w) (hr:SRow w a ws) (hq:ws.length=m+1) (hcap:ws.length≤cap) (tx:ByteArray) (hx:ws[m]? = some tx) :
  Calls Tryz.prog 41 #[kindV m more true when f,.slice a ws.length cap] w fun e w'=>ReadIs w w' ((numsP (ws.take m)).map fun l=>(l,tx)) e∧Below w.heap.size w w':=by
 have hA:=fun u=>ask_yes 3 u
 obtain ⟨i0,hi,hz0,hz1,hz2⟩:=info_parts Tryz.infoInt8
 unfold kindV
 obtain ⟨b,off,rfl,hb,hc⟩:=hr (by omega)
 have q1:((ws.length:Int) - 1)=(m:Int):=by omega
 have q2:m<ws.length:=by omega
 have q3:(m:Int)<(ws.length:Int):=by omega
 have q4:ws.length≤cap:=hcap
 have y3:∀ o1 o2 o3:Obj,(((w.alloc o1).alloc o2).alloc o3).cell? ⟨b,off+m,none⟩=some (.string tx):=fun o1 o2 o3=>(((((Below.refl _ w).alloc (Nat.le_refl _) o1).alloc (by simp) o2).alloc (by simp;omega) o3).cell (p:=⟨b,off+m,none⟩) hb).trans (hc m tx hx)
 clear hc
 go_enter Tryz.func41,Tryz.ntmps41
 go_wp2_with fail
 go_region
 go_wp2_with fail
 refine (hA _).mono ?_
 rintro e u3 ⟨rfl,rfl⟩
 clear hA
 have HR:Hid (SRow w _ ((ws.take m))):=hr.take m
 have HW:Hid (DeskW w.heap.size w):=hw
 have HSZ:Hid (∀ x∈((ws.take m)),x.size≤20000):=(fun x hx=>hsz x (List.mem_of_mem_take hx))
 have HLQ:Hid (((ws.take m)).length=m):=(show (ws.take m).length=m by rw [List.length_take];omega)
 have HLN:Hid (m≤20000):=(show m≤20000 by omega)
 clear hr hw hsz
 go_wp2_with fail
 go_loopw [45] (fun t wr=>∃ (k:Nat) (r:List Int) (v:Value),k≤m∧t=.int .i64 k∧Hid (numsP (((ws.take m)).take k)=some r)∧Hid (RdSt (w.heap.size+1+1) (tx) r v wr)∧Hid (Below w.heap.size w wr)) (fun t _=>m - (intOf t).toNat)
 case atStart=>exact ⟨0,[],.slice none 0 0,Nat.zero_le _,rfl,rfl,(rdSt_start w _ _ _).below ((Below.refl _ _).drew),((((Below.refl _ w).alloc (Nat.le_refl _) _).alloc (by simp) _).alloc (by simp;omega) _).drew⟩
 case round =>
  obtain ⟨k,r,v,hk,rfl,hnu,hst,hbe⟩:=hrel
  by_cases hlt:k<m
  ·have kk:(k:Int)<(m:Int):=by omega
   obtain ⟨b1,off1,hbo,hb1,hc⟩:=HR.out (by rw [List.length_take];omega)
   obtain ⟨rfl,rfl⟩:b=b1∧off=off1:=by
    injection hbo with e
    injection e with e1 e2
    exact ⟨e1,e2⟩
   obtain ⟨x,hx⟩:∃ x,((ws.take m))[k]? = some x:=⟨_,List.getElem?_eq_getElem (by have:=HLQ.out;omega)⟩
   have y:=(hbe.out.cell (p:=⟨b,off+k,none⟩) hb).trans (hc k x hx)
   have hz:b<wr.heap.size:=Nat.lt_of_lt_of_le hb hbe.out.size
   have hxs:x.size≤20000:=HSZ.out x (List.mem_of_getElem? hx)
   have hN:=number_any x hxs (wr.drewN 1) (HW.out.at (v:=wr.drewN 1) (below_drewN1 hbe.out 1) hbe.out.size)
   have hrl:r.length=k:=by
    have:=numsP_length hnu.out
    rw [List.length_take,HLQ.out] at this
    omega
   subst hrl
   have hk2:r.length≤20000:=by have:=HLN.out;omega
   have htk:((ws.take m)).take (r.length+1)=((ws.take m)).take r.length ++ [x]:=by rw [List.take_add_one,hx];rfl
   have c0:=hst.out.c0
   have z0:=hst.out.z0
   have hxlt:=hst.out.lt
   have HX:Hid (((ws.take m))[r.length]? = some x):=hx
   have HTK:Hid _:=htk
   clear hx hc htk
   cases hnp:numP x with
   | none =>
    have hno:numsP ((ws.take m))=none:=numsP_take_none (k:=r.length+1) (by rw [HTK.out,numsP_snoc,hnu.out,hnp];rfl)
    have HNO:Hid _:=hno
    simp only [hnp] at hN
    go_wp2_with fail
    refine wp_region_held_drew (S:=fun _=>True) (by kernel_rfl) trivial (fun hHeld=>?_)
    refine tk 0 hHeld ?_
    refine tk 2 hHeld ?_
    refine rd2 1 3 (fun K hK=>?_) (fun K hK=>?_)
    ·go_simp
     refine kp hK (fun hHeld=>?_) trivial
     clear hK K
     refine rdy 3 fun K hK=>?_
     go_simp
     refine hN.mono ?_
     rintro ev u1 ⟨rfl,hu1⟩
     exact ⟨rfl,.no (by rw [HNO.out];rfl),hbe.out.trans ((undrewN hu1).mono hbe.out.size)⟩
    ·go_simp
     refine hN.mono ?_
     rintro ev u1 ⟨rfl,hu1⟩
     exact ⟨rfl,.no (by rw [HNO.out];rfl),hbe.out.trans ((undrewN hu1).mono hbe.out.size)⟩
   | some val =>
    simp only [hnp] at hN
    have HNU:Hid (numsP (((ws.take m)).take (r.length+1))=some (r ++ [val])):=(by rw [HTK.out,numsP_snoc,hnu.out,hnp];rfl)
    go_wp2_with fail
    refine wp_region_held_drew (S:=fun _=>True) (by kernel_rfl) trivial (fun hHeld=>?_)
    refine tk 0 hHeld ?_
    refine tk 2 hHeld ?_
    refine rd2 1 3 (fun K hK=>?_) (fun K hK=>?_)
    ·go_simp
     refine kp hK (fun hHeld=>?_) trivial
     clear hK K
     refine rdy 3 fun K hK=>?_
     go_simp
     refine hN.mono ?_
     rintro ev u1 ⟨rfl,hu1⟩
     have hst1:Hid (RdSt (w.heap.size+1+1) (tx) r v u1):=hst.out.below (undrewN hu1)
     have hbe1:Hid (Below w.heap.size w u1):=hbe.out.trans ((undrewN hu1).mono hbe.out.size)
     have c1:=hst1.out.c0
     refine kp hK (fun hHeld=>?_) trivial
     clear hK K
     refine rdy 4 fun K hK=>?_
     go_simp
     refine kp hK (fun hHeld=>?_) trivial
     clear hK K
     refine rdy 5 fun K hK=>?_
     refine step_append_lies _ (by rfl) _ _ _ (by rfl) (w.heap.size+1+1+1) 3 i0 (.int .i64 0) 1 8 Tryz.underlying52 hi hz0 hz1 hz2 rfl (by decide) v r.length _ (by rfl) (hst1.out.own.alloc _) ⟨u1.heap.size,0,none⟩ 1 1 [.int .i64 val] (by rfl) rfl (cell_one_new _ _ _) (ints_one [val]) (by decide) (by unfold maxLen;omega) (by omega) (by have:=hst1.out.lt;simp;omega) (u1.heap.size+1) (by simp) ?_
     intro gq cq w3 hown' hgrow _ _
     obtain ⟨c3,z3,hn3⟩:=(hst1.out.below ((Below.refl _ u1).alloc (Nat.le_refl _) (.cells #[.int .i64 val] 3))).grown hgrow val _ hown'
     have HN3:Hid _:=hn3
     have hb3:Hid (Below w.heap.size w w3):=(hbe1.out.alloc hbe1.out.size (.cells #[.int .i64 val] 3)).grown hgrow (by have:=hbe1.out.size;simp;omega) (fun k hk=>Nat.le_of_lt (Nat.lt_of_lt_of_le (by omega) (own_lt hst1.out.own hk)))
     clear hn3
     refine kp hK (fun hHeld=>?_) trivial
     clear hK K
     refine tk 6 hHeld ?_
     refine rdy 7 fun K hK=>?_
     go_simp
     refine kp hK (fun hHeld=>?_) trivial
     clear hK K
     refine dn ?_
     clear hN
     go_wp2
     go_roundw
     case rel=>exact ⟨r.length+1,r ++ [val],_,by omega,by go_num,HNU,HN3,hb3.out.setCell (p:=⟨w.heap.size+1+1,0,none⟩) (by show w.heap.size≤w.heap.size+1+1;omega) _⟩
     case measure=>simp [intOf];omega
    ·go_simp
     refine hN.mono ?_
     rintro ev u1 ⟨rfl,hu1⟩
     have hst1:Hid (RdSt (w.heap.size+1+1) (tx) r v u1):=hst.out.below (undrewN hu1)
     have hbe1:Hid (Below w.heap.size w u1):=hbe.out.trans ((undrewN hu1).mono hbe.out.size)
     have c1:=hst1.out.c0
     refine kp hK (fun hHeld=>?_) trivial
     clear hK K
     refine rd2 1 4 (fun K hK=>?_) (fun K hK=>?_)
     ·go_simp
      refine kp hK (fun hHeld=>?_) trivial
      clear hK K
      refine rdy 4 fun K hK=>?_
      go_simp
      refine kp hK (fun hHeld=>?_) trivial
      clear hK K
      refine rdy 5 fun K hK=>?_
      refine step_append_lies _ (by rfl) _ _ _ (by rfl) (w.heap.size+1+1+1) 3 i0 (.int .i64 0) 1 8 Tryz.underlying52 hi hz0 hz1 hz2 rfl (by decide) v r.length _ (by rfl) (hst1.out.own.alloc _) ⟨u1.heap.size,0,none⟩ 1 1 [.int .i64 val] (by rfl) rfl (cell_one_new _ _ _) (ints_one [val]) (by decide) (by unfold maxLen;omega) (by omega) (by have:=hst1.out.lt;simp;omega) (u1.heap.size+1) (by simp) ?_
      intro gq cq w3 hown' hgrow _ _
      obtain ⟨c3,z3,hn3⟩:=(hst1.out.below ((Below.refl _ u1).alloc (Nat.le_refl _) (.cells #[.int .i64 val] 3))).grown hgrow val _ hown'
      have HN3:Hid _:=hn3
      have hb3:Hid (Below w.heap.size w w3):=(hbe1.out.alloc hbe1.out.size (.cells #[.int .i64 val] 3)).grown hgrow (by have:=hbe1.out.size;simp;omega) (fun k hk=>Nat.le_of_lt (Nat.lt_of_lt_of_le (by omega) (own_lt hst1.out.own hk)))
      clear hn3
      refine kp hK (fun hHeld=>?_) trivial
      clear hK K
      refine tk 6 hHeld ?_
      refine rdy 7 fun K hK=>?_
      go_simp
      refine kp hK (fun hHeld=>?_) trivial
      clear hK K
      refine dn ?_
      clear hN
      go_wp2
      go_roundw
      case rel=>exact ⟨r.length+1,r ++ [val],_,by omega,by go_num,HNU,HN3,hb3.out.setCell (p:=⟨w.heap.size+1+1,0,none⟩) (by show w.heap.size≤w.heap.size+1+1;omega) _⟩
      case measure=>simp [intOf];omega
     ·go_simp
      refine kp hK (fun hHeld=>?_) trivial
      clear hK K
      have c2:(u1.alloc (.cells #[.int .i64 val] 3)).cell? ⟨w.heap.size+1+1,0,none⟩=some v:=(((Below.refl _ u1).alloc (Nat.le_refl _) (.cells #[.int .i64 val] 3)).cell (p:=⟨w.heap.size+1+1,0,none⟩) hst1.out.lt).trans c1
      refine rdy 1 fun K hK=>?_
      go_simp
      refine kp hK (fun hHeld=>?_) trivial
      clear hK K
      refine rdy 5 fun K hK=>?_
      refine step_append_lies _ (by rfl) _ _ _ (by rfl) (w.heap.size+1+1+1) 3 i0 (.int .i64 0) 1 8 Tryz.underlying52 hi hz0 hz1 hz2 rfl (by decide) v r.length _ (by rfl) (hst1.out.own.alloc _) ⟨u1.heap.size,0,none⟩ 1 1 [.int .i64 val] (by rfl) rfl (cell_one_new _ _ _) (ints_one [val]) (by decide) (by unfold maxLen;omega) (by omega) (by have:=hst1.out.lt;simp;omega) (u1.heap.size+1) (by simp) ?_
      intro gq cq w3 hown' hgrow _ _
      obtain ⟨c3,z3,hn3⟩:=(hst1.out.below ((Below.refl _ u1).alloc (Nat.le_refl _) (.cells #[.int .i64 val] 3))).grown hgrow val _ hown'
      have HN3:Hid _:=hn3
      have hb3:Hid (Below w.heap.size w w3):=(hbe1.out.alloc hbe1.out.size (.cells #[.int .i64 val] 3)).grown hgrow (by have:=hbe1.out.size;simp;omega) (fun k hk=>Nat.le_of_lt (Nat.lt_of_lt_of_le (by omega) (own_lt hst1.out.own hk)))
      clear hn3
      refine kp hK (fun hHeld=>?_) trivial
      clear hK K
      refine tk 6 hHeld ?_
      refine rdy 7 fun K hK=>?_
      go_simp
      refine kp hK (fun hHeld=>?_) trivial
      clear hK K
      refine dn ?_
      clear hN
      go_wp2
      go_roundw
      case rel=>exact ⟨r.length+1,r ++ [val],_,by omega,by go_num,HNU,HN3,hb3.out.setCell (p:=⟨w.heap.size+1+1,0,none⟩) (by show w.heap.size≤w.heap.size+1+1;omega) _⟩
      case measure=>simp [intOf];omega
  ·have hke:m=k:=by omega
   have kk:decide ((k:Int)<(m:Int))=false:=decide_eq_false (by omega)
   subst hke
   obtain ⟨av,cv,rfl⟩:=owns_form hst.out.own
   have c0:=hst.out.c0
   have c1:=hst.out.c1
   obtain ⟨q0,a0⟩:=hst.out.a0
   obtain ⟨q1,a1⟩:=hst.out.a1
   have a0':wr.cell? ⟨w.heap.size+1,0,none⟩=some q0:=a0
   have a1':wr.cell? ⟨w.heap.size+1,1,none⟩=some q1:=a1
   have y0:wr.frozen? ⟨w.heap.size+1,0,none⟩=false:=hst.out.y0
   have y1:wr.frozen? ⟨w.heap.size+1,1,none⟩=false:=hst.out.y1
   have hne:w.heap.size+1≠w.heap.size+1+1:=by omega
   clear a0 a1
   have hbs:Hid (∀ x y,Below w.heap.size w ((wr.setCell ⟨w.heap.size+1,0,none⟩ x).setCell ⟨w.heap.size+1,1,none⟩ y)):=fun x y=>(hbe.out.setCell (p:=⟨w.heap.size+1,0,none⟩) (by show w.heap.size≤w.heap.size+1;omega) x).setCell (p:=⟨w.heap.size+1,1,none⟩) (by show w.heap.size≤w.heap.size+1;omega) y
   go_wp2_with fail
   refine bodyPost_ret (v:=.agg #[.slice av r.length cv,.string (tx)]) (by simp [results,Tryz.results41,go_sem,a0',a1']) rfl ⟨?_,hbs.out _ _⟩
   have hnn:numsP ((ws.take m))=some r:=by have:=hnu.out;rwa [List.take_of_length_le (by have:=HLQ.out;omega)] at this
   rw [hnn]
   have hown:=owns_put (b:=w.heap.size+1) (i:=1) (x:=.string (tx)) (owns_put (b:=w.heap.size+1) (i:=0) (x:=.slice av r.length cv) hst.out.own (by omega)) (by omega)
   obtain ⟨o1,o2⟩:=owns_intRow hown
   exact ⟨av,cv,rfl,owns_cap hst.out.own,o1,fun b off q=>by obtain ⟨q1,q2,q3⟩:=o2 b off q;exact ⟨by omega,q2,q3⟩⟩
theorem read_any (m:Nat) (hm:m≤6) (more text:Bool) (htx:text=true→0<m∧more=false) (when:Int) (f:Value) (a:Option Addr) (cap:Nat) (ws:List ByteArray) (hcap:ws.length≤cap) (hl:ws.length≤20000) (hsz:∀ x∈ws,x.size≤20000) (w:World) (hw:DeskW w.heap.size w) (hr:SRow w a ws) :
  Calls Tryz.prog 41 #[kindV m more text when f,.slice a ws.length cap] w fun e w'=>ReadIs w w' (readP m more text ws) e∧Below w.heap.size w w':=by
 unfold readP
 cases text with
 | false =>
  rw [if_neg (fun h=>by cases h.1)]
  by_cases h1:ws.length=m
  ·rw [if_pos (.inl h1)]
   exact read_eq0 m hm more when f a cap ws hl hsz w hw hr h1
  ·by_cases h2:m<ws.length
   ·cases more with
    | true =>
     rw [if_pos (.inr ⟨h2,rfl⟩)]
     exact read_more0 m hm true when f a cap ws hl hsz w hw hr h2 rfl
    | false =>
     rw [if_neg (fun h=>h.elim h1 (fun h=>by cases h.2))]
     exact (read_gt0 m false when f a cap ws hl w h2 rfl).mono fun e w' h=>⟨h.1,h.2⟩
   ·rw [if_neg (fun h=>h.elim h1 (fun h=>h2 h.1))]
    exact (read_lt0 m more when f a cap ws hl w (by omega)).mono fun e w' h=>⟨h.1,h.2⟩
 | true =>
  obtain ⟨h0,rfl⟩:=htx rfl
  cases hq:ws.length with
  | zero =>
   obtain rfl:ws = []:=List.eq_nil_of_length_eq_zero hq
   rw [if_neg (fun h=>h.2 rfl),if_neg (fun h=>h.elim (fun (h:0=m)=>by omega) (fun h=>by cases h.2))]
   exact (read_nil1 m false when f a cap w h0).mono fun e w' h=>⟨h.1,h.2⟩
  | succ q =>
   have hne:ws≠[]:=fun h=>by rw [h] at hq;cases hq
   obtain ⟨tx,hx⟩:∃ tx,ws[q]? = some tx:=⟨_,List.getElem?_eq_getElem (by omega)⟩
   have htq:ws.getD q ByteArray.empty=tx:=by rw [List.getD,hx];rfl
   rw [if_pos ⟨rfl,hne⟩,Nat.add_sub_cancel]
   have hs:(Value.slice a (q+1) cap)=.slice a ws.length cap:=by rw [hq]
   rw [hs]
   by_cases h1:q=m
   ·subst h1
    rw [if_pos (.inl rfl),htq]
    exact read_eq1 q hm false when f a cap ws hsz w hw hr hq hcap tx hx
   ·rw [if_neg (fun h=>h.elim h1 (fun h=>by cases h.2))]
    by_cases h2:m<q
    ·exact (read_gt1 m false when f a cap ws hl w hr q hq hcap tx hx h2 rfl).mono fun e w' h=>⟨h.1,h.2⟩
    ·exact (read_lt1 m false when f a cap ws hl w hr q hq hcap tx hx (by omega)).mono fun e w' h=>⟨h.1,h.2⟩
end
end Go.Proofs.YthccoinonjoleaaGreatDoor
