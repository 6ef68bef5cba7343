import Derived.Test.YthccoinonjoleaaGreatDoorZR19
namespace Go.Proofs.YthccoinonjoleaaGreatDoor
open Go.RowKit
set_option maxRecDepth 100000
set_option maxHeartbeats 16000000
section
section
variable {w:World} {base S kb:Nat} {M O:List Nat} {st:DkS} {A:SesA} {N:Nat}
theorem leaves_tmps {P:Program} {fn:Func} {t t':Array Value} {R:Ending→World→Prop} (h:results fn t=results fn t'):∀ (ds:List Deferred) (u:FrameMode) (w:World),Leaves P fn t R ds u w→Leaves P fn t' R ds u w
 | [],.returning,w,q=>by
  obtain ⟨v,h1,h2⟩:=q
  exact ⟨v,by rw [← h];exact h1,h2⟩
 | [],.panicking _,_,q=>q
 | [],.run,_,q=>q
 | d::ds,u,w,⟨q0,fv,cap,f,args,q1,q2,q3⟩=>⟨q0,fv,cap,f,args,q1,q2,q3.mono fun e u' w' q=>by
  cases e with
  | returned v=>exact leaves_tmps h ds _ _ q
  | panicked c=>exact leaves_tmps h ds _ _ q
  | outgrown=>exact q⟩
theorem results_put (t:Array Value) (i:Nat) (v:Value) (hi:6<i):results Tryz.f10 (t.setIfInBounds i v)=results Tryz.f10 t:=by
 unfold results
 simp [Tryz.results10]
 rw [Array.getElem?_setIfInBounds_ne (by omega)]
theorem panic_put {R:Ending→World→Prop} {c:List PanicEntry} {a:Act} {v:Value} {w:World} {i:Nat} (hi:6<i) (h:bodyPostD Tryz.prog Tryz.f10 R (.panic c) (a.put (some i) v) w):bodyPostD Tryz.prog Tryz.f10 R (.panic c) a w:=leaves_tmps (results_put a.tmps i v hi) _ _ _ h
theorem kind_cells {u:World} {b:Nat} {a0 a1 a2 a3 a4:Value} {t:TypeId} (h:u.heap[b]? = some (.cells #[a0,a1,a2,a3,a4] t (0,0))):u.cell? ⟨b,0,none⟩=some a0∧u.cell? ⟨b,1,none⟩=some a1∧u.cell? ⟨b,2,none⟩=some a2∧u.cell? ⟨b,3,none⟩=some a3∧u.cell? ⟨b,4,none⟩=some a4 :=
 ⟨cell_blk h rfl,cell_blk h rfl,cell_blk h rfl,cell_blk h rfl,cell_blk h rfl⟩
theorem Kd.m_le (k:Kd):k.m≤6:=by cases k using Kd.each <;> decide
theorem Kd.text_of (k:Kd):k.text=true→0<k.m∧k.more=false:=by cases k using Kd.each <;> decide
theorem answer_known (h:Ses w base S M O st A N) (hK:KindsAt w kb S) (hD:DeskW base w) (hsm:st.Small) (hN:N≤3000) (line:ByteArray) (hl:line.size≤20000) {x:ByteArray} {ws:List ByteArray} (hw:wordsOf line=x::ws) {k:Kd} (hk:kdOf x=some k) :
  Calls Tryz.prog 10 #[.pointer (some ⟨S,0,none⟩),.map (some kb),.string line] w (AnsP base S M O st N line w):=by
 have hmf:=Tryz.mfD
 have hF:=fields_any line hl (w.alloc (.cells #[.string ⟨#[]⟩] 9))
 have hx:x.size≤20000:=Nat.le_trans (wordsOf_mem (by rw [hw];exact List.mem_cons_self)) hl
 have hwl:=wordsOf_len line
 have HWs:Hid (∀ y∈ws,y.size≤20000):=fun y hy=>Nat.le_trans (wordsOf_mem (by rw [hw];exact List.mem_cons_of_mem _ hy)) hl
 rw [hw] at hF hwl
 have HE3:Hid (readP k.m k.more k.text ws=none→∀ w',Below w.heap.size w w'→AnsP base S M O st N line w (.returned (.string (wrongB 3))) w'):=fun q w' hb=>AnsP.same h hsm (.form hw hk q) wrong3 hb
 have HE6:Hid (∀ y,readP k.m k.more k.text ws=some y→allowB st k=false→∀ w',Below w.heap.size w w'→AnsP base S M O st N line w (.returned (.string (wrongB 6))) w'):=fun y q q2 w' hb=>AnsP.same h hsm (.state hw hk q q2) wrong6 hb
 have HDw:=Desk_at h hD
 have HD:Hid (∀ u,Below w.heap.size w u→DeskW u.heap.size u):=fun u hu=>HDw.at hu hu.size
 have HK:Hid (∀ u,Below w.heap.size w u→KindsAt u kb S):=fun u hu=>hK.keep (hu.block kb hK.lt)
 have HS:Hid (Ses w base S M O st A N∧DeskW base w∧st.Small):=⟨h,hD,hsm⟩
 generalize hV:w.alloc (.cells #[.string ⟨#[]⟩] 9)=V at hF
 have hB:Below w.heap.size w V:=hV▸(Below.refl _ w).alloc (Nat.le_refl _) _
 have hbk:V.heap[w.heap.size]? = some (.cells #[.string ⟨#[]⟩] 9 (0,0)):=by rw [← hV];exact heap_alloc_new w _
 simp only [List.length_cons] at hF hwl
 obtain ⟨m,hm⟩:∃ m,ws.length=m:=⟨_,rfl⟩
 have HM:Hid (ws.length=m):=hm
 rw [hm] at hF hwl
 have e0:((m:Int)+1 == 0)=false:=by simp;omega
 clear h hD hsm HDw hK
 go_enter_defers Tryz.func10,Tryz.ntmps10
 go_wp2_with fail
 refine hF.mono ?_
 rintro e u1 ⟨A1,rfl,hA,hc,hb1⟩
 have hbk1:u1.heap[w.heap.size]? = some (.cells #[.string ⟨#[]⟩] 9 (0,0)):=(hb1.block _ (lt_of_blk hbk)).trans hbk
 have hc0:u1.cell? ⟨A1,0,none⟩=some (.string x):=hc 0 x rfl
 have HB1:Hid (Below w.heap.size w u1):=hB.trans (hb1.mono hB.size)
 have HC:Hid (∀ j y,ws[j]? = some y→u1.cell? ⟨A1,j+1,none⟩=some (.string y)):=fun j y hj=>hc (j+1) y (by simpa using hj)
 have hlk:=(HK.out u1 HB1.out).look x hx
 rw [hk] at hlk
 simp only [Option.map,Option.getD,Option.isSome,Kd.val,kindV] at hlk
 generalize hm0:(k.m:Int)=km at hlk
 generalize hm1:k.more=kmo at hlk
 generalize hm2:k.text=kt at hlk
 generalize hm3:k.when=kw at hlk
 clear hb1 hc hF
 go_wp2_with fail
 refine (ask_yes 3 _).mono ?_
 rintro e u2 ⟨rfl,rfl⟩
 generalize hW:u1.alloc (.cells #[.int .i64 km,.bool kmo,.bool kt,.int .i64 kw,.func (.func k.fn) #[.pointer (some ⟨S,0,none⟩)] #[]] 59)=W
 have hbW:Below u1.heap.size u1 W:=hW▸(Below.refl _ u1).alloc (Nat.le_refl _) _
 have hbkW:W.heap[u1.heap.size]? = some (.cells #[.int .i64 km,.bool kmo,.bool kt,.int .i64 kw,.func (.func k.fn) #[.pointer (some ⟨S,0,none⟩)] #[]] 59 (0,0)):=by rw [← hW];exact heap_alloc_new u1 _
 have HBW:Hid (Below w.heap.size w W):=HB1.out.trans (hbW.mono HB1.out.size)
 have hkW:u1.heap.size<W.heap.size:=lt_of_blk hbkW
 have HRd:Hid (∀ u,Below W.heap.size W u→Calls Tryz.prog 41 #[.agg #[.int .i64 km,.bool kmo,.bool kt,.int .i64 kw,.func (.func k.fn) #[.pointer (some ⟨S,0,none⟩)] #[]],.slice (if m=0 then some ⟨A1,0,none⟩ else some ⟨A1,1,none⟩) m m] u fun e w'=>ReadIs u w' (readP k.m k.more k.text ws) e∧Below u.heap.size u w'):=fun u hu=>by
  have hb:=HBW.out.trans (hu.mono HBW.out.size)
  have hrow:SRow u (if m=0 then some ⟨A1,0,none⟩ else some ⟨A1,1,none⟩) ws:=fun h0=>⟨A1,1,if_neg (by rw [HM.out] at h0;omega),Nat.lt_of_lt_of_le hA (Nat.le_trans hbW.size hu.size),fun j y hj=>by
   have:=HC.out j y hj
   rw [Nat.add_comm] at this
   exact ((hu.cell (p:=⟨A1,1+j,none⟩) (Nat.lt_of_lt_of_le hA hbW.size)).trans (hbW.cell (p:=⟨A1,1+j,none⟩) hA)).trans this⟩
  have:=read_any k.m k.m_le k.more k.text k.text_of k.when (.func (.func k.fn) #[.pointer (some ⟨S,0,none⟩)] #[]) (if m=0 then some ⟨A1,0,none⟩ else some ⟨A1,1,none⟩) m ws (Nat.le_of_eq HM.out) (by rw [HM.out];omega) HWs.out u (HD.out u hb) hrow
  rw [HM.out] at this
  unfold kindV at this
  rw [hm0,hm1,hm2,hm3] at this
  rw [hm1,hm2]
  exact this
 have hl1:(1:Int)≤(m:Int)+1:=by omega
 have HT:Hid (∀ u,Below u1.heap.size u1 u→u.heap[w.heap.size]? = some (.cells #[.string ⟨#[]⟩] 9 (0,0))):=fun u hu=>(hu.block _ (lt_of_blk hbk1)).trans hbk1
 have HBu:Hid (Below u1.heap.size u1 W):=hbW
 have HKB:Hid (W.heap[u1.heap.size]? = some (.cells #[.int .i64 km,.bool kmo,.bool kt,.int .i64 kw,.func (.func k.fn) #[.pointer (some ⟨S,0,none⟩)] #[]] 59 (0,0))):=hbkW
 have HH:Hid ((k.m:Int)=km∧k.more=kmo∧k.text=kt∧k.when=kw):=⟨hm0,hm1,hm2,hm3⟩
 clear hbW HC HWs hm0 hm1 hm2 hm3 hlk hc0 hbk hbk1 hA
 obtain ⟨q0,q1,q2,q3,q4⟩:=kind_cells hbkW
 go_wp2_with fail
 refine wp_region_held_drew (S:=fun v=>v.cell? ⟨u1.heap.size,0,none⟩=some (.int .i64 km)∧v.cell? ⟨u1.heap.size,1,none⟩=some (.bool kmo)∧v.cell? ⟨u1.heap.size,2,none⟩=some (.bool kt)∧v.cell? ⟨u1.heap.size,3,none⟩=some (.int .i64 kw)∧v.cell? ⟨u1.heap.size,4,none⟩=some (.func (.func k.fn) #[.pointer (some ⟨S,0,none⟩)] #[])) (by kernel_rfl) ⟨q0,q1,q2,q3,q4⟩ (fun hHeld=>?_)
 refine tk 0 hHeld ?_ (hQ:=by exact fun _ _ _ q=>panic_put (i:=27) (by decide) q)
 refine tk 1 hHeld ?_ (hQ:=by exact fun _ _ _ q=>panic_put (i:=28) (by decide) q)
 refine tk 2 hHeld ?_ (hQ:=by exact fun _ _ _ q=>panic_put (i:=29) (by decide) q)
 refine rd2 3 4 (fun K hK=>?_) (fun K hK=>?_)
 ·go_simp
  refine Calls.mono (HRd.out (W.drewN 1) (bdN W 1)) ?_
  rintro ev u3 ⟨hR,hu3⟩
  have b3:Below W.heap.size W u3:=undrewN hu3
  have b3u:Below u1.heap.size u1 u3:=HBu.out.trans (b3.mono HBu.out.size)
  cases hrp:readP k.m k.more k.text ws with
  | none =>
   rw [hrp] at hR
   obtain rfl:ev=thrown 3:=hR
   have hbp:=HT.out u3 b3u
   have HW3:Hid (Below w.heap.size w u3):=HB1.out.trans (b3u.mono HB1.out.size)
   refine leaves_cons (f:=37) (args:=#[.pointer (some ⟨w.heap.size,0,none⟩)]) (by simp) (by simp [go_sem]) ?_
   refine (catch_thrown w.heap.size 3 ⟨by omega,by omega⟩ ⟨#[]⟩ u3 hbp (HD.out u3 HW3.out).here).mono ?_
   rintro e u' w'' ⟨rfl,rfl,w1,hb1,rfl⟩
   have hd:(w1.setCell ⟨w.heap.size,0,none⟩ (.string (wrongB 3))).cell? ⟨w.heap.size,0,none⟩=some (.string (wrongB 3)):=World.cell?_setCell_same' _ _ _ (by rw [cell_blk ((hb1.block _ (lt_of_blk hbp)).trans hbp) rfl];rfl)
   simp [Leaves,settle,results,Tryz.results10,go_sem,hd]
   exact HE3.out hrp _ ((HW3.out.trans (hb1.mono HW3.out.size)).setCell (p:=⟨w.heap.size,0,none⟩) (Nat.le_refl _) _)
  | some y =>
   rw [hrp] at hR
   obtain ⟨a,cap,rfl,hcap,hrow,hfr⟩:=hR
   have hk3:u3.heap[u1.heap.size]? = some (.cells #[.int .i64 km,.bool kmo,.bool kt,.int .i64 kw,.func (.func k.fn) #[.pointer (some ⟨S,0,none⟩)] #[]] 59 (0,0)):=(b3.block _ hkW).trans HKB.out
   refine kp hK (fun hHeld=>?_) (kind_cells hk3)
   clear hK K
   refine rdy 4 fun K hK=>?_
   go_simp
   refine kp hK (fun hHeld=>?_) (kind_cells ((Below.heap_alloc u3 _ _ (lt_of_blk hk3)).trans hk3))
   clear hK K
   refine rdy 5 fun K hK=>?_
   go_simp
   have hbX:(u3.alloc (.cells #[.slice a y.1.length cap,.string y.2] 71)).heap[u3.heap.size]? = some (.cells #[.slice a y.1.length cap,.string y.2] 71 (0,0)):=heap_alloc_new u3 _
   have ba:Below u3.heap.size u3 (u3.alloc (.cells #[.slice a y.1.length cap,.string y.2] 71)):=(Below.refl _ u3).alloc (Nat.le_refl _) _
   have b4:=b3.trans (ba.mono b3.size)
   have hrow4:=hrow.below ba
   have hfr4:∀ b off,a=some ⟨b,off,none⟩→W.heap.size≤b∧b<(u3.alloc (.cells #[.slice a y.1.length cap,.string y.2] 71)).heap.size∧∃ cs fr,(u3.alloc (.cells #[.slice a y.1.length cap,.string y.2] 71)).heap[b]? = some (.cells cs 3 fr):=fun b off e=>by
    obtain ⟨p1,p2,cs,fr,p3⟩:=hfr b off e
    exact ⟨p1,Nat.lt_of_lt_of_le p2 ba.size,cs,fr,(ba.block b p2).trans p3⟩
   refine kp hK (fun hHeld=>?_) (kind_cells ((ba.block _ (lt_of_blk hk3)).trans hk3))
   clear hK K hHeld
   refine dn ?_
   generalize u3.alloc (.cells #[.slice a y.1.length cap,.string y.2] 71)=W4 at *
   generalize u3.heap.size=X at *
   clear hk3 hrow hfr b3 b3u hu3 ba q0 q1 q2 q3 q4
   have HB4:Hid (Below w.heap.size w W4):=HBW.out.trans (b4.mono HBW.out.size)
   have hkx:W4.heap[u1.heap.size]? = some (.cells #[.int .i64 km,.bool kmo,.bool kt,.int .i64 kw,.func (.func k.fn) #[.pointer (some ⟨S,0,none⟩)] #[]] 59 (0,0)):=(b4.block _ hkW).trans HKB.out
   have htold:=HT.out W4 (HBu.out.trans (b4.mono HBu.out.size))
   have t0:W4.cell? ⟨w.heap.size,0,none⟩=some (.string ⟨#[]⟩):=cell_blk htold rfl
   have HTold:Hid (W4.heap[w.heap.size]? = some (.cells #[.string ⟨#[]⟩] 9 (0,0))):=htold
   obtain ⟨_,_,_,y3,y4⟩:=kind_cells hkx
   have x0:W4.cell? ⟨X,0,none⟩=some (.slice a y.1.length cap):=cell_blk hbX rfl
   have x1:W4.cell? ⟨X,1,none⟩=some (.string y.2):=cell_blk hbX rfl
   have hs4:Ses W4 base S M O st A N:=HS.out.1.below HB4.out
   have hal:=allows_any hs4 k
   rw [HH.out.2.2.2] at hal
   obtain ⟨XL,hX,hXa⟩:∃ XL:List Nat,(∀ b off,a=some ⟨b,off,none⟩→b∈XL)∧∀ c,c∈XL→∃ off,a=some ⟨c,off,none⟩:=by
    cases a with
    | none=>exact ⟨[],fun _ _ q=>(by cases q),fun _ q=>(by cases q)⟩
    | some p =>
     obtain ⟨b,off,t⟩:=p
     cases t with
     | none=>exact ⟨[b],fun _ _ q=>by cases q;exact List.mem_cons_self,fun c q=>⟨off,by rw [List.mem_singleton.1 q]⟩⟩
     | some t=>exact ⟨[],fun _ _ q=>(by cases q),fun _ q=>(by cases q)⟩
   have hXl:∀ c,c∈XL→W.heap.size≤c∧c<W4.heap.size:=fun c q=>by
    obtain ⟨off,e⟩:=hXa c q
    exact ⟨(hfr4 c off e).1,(hfr4 c off e).2.1⟩
   have hWw:w.heap.size<W.heap.size:=Nat.lt_of_le_of_lt HB1.out.size hkW
   have HX:Hid (∀ c,c∈XL→w.heap.size<c):=fun c q=>Nat.lt_of_lt_of_le hWw (hXl c q).1
   have hbw:base≤w.heap.size:=Nat.le_trans (HS.out.1.r.lo S HS.out.1.r.s) (Nat.le_of_lt (HS.out.1.r.hi S HS.out.1.r.s))
   have hDb:DeskW base W4:=HS.out.2.1.below (HB4.out.mono hbw)
   obtain ⟨f1,f2,f3⟩:=readP_fit hrp
   have HDo:Hid (allowB st k=true→Calls Tryz.prog k.fn #[.pointer (some ⟨S,0,none⟩),.agg #[.slice a y.1.length cap,.string y.2]] W4 (DoesP base S (XL ++ M) O st N k y.1 y.2 W4)):=fun q=>does_any k hs4 hDb q HS.out.2.2 hN y.1 y.2 f1 (Nat.le_trans f2 (by rw [HM.out];omega)) f3 a cap hcap hrow4 (fun b off e=>⟨hX b off e,(hfr4 b off e).2.2⟩) (fun c q=>Nat.le_trans hbw (Nat.le_of_lt (HX.out c q))) (fun c q=>(hXl c q).2) (fun c q1 q2=>by
    have:=HX.out c q1
    rcases List.mem_append.1 q2 with q | q
    ·have:=HS.out.1.r.hi c q;omega
    ·have:=HS.out.1.r.hiO c q;omega)
   have HDb:Hid (DeskW base W4):=hDb
   clear hs4 hX hXa hXl hDb f1 f2 f3 hfr4 hrow4 hcap hbX htold b4
   have hent:=kd_enters k
   clear HRd
   generalize (if m=0 then (some ⟨A1,0,none⟩:Option Addr) else some ⟨A1,1,none⟩)=sl1
   go_wp2_with fail
   refine hal.mono ?_
   rintro e u5 ⟨rfl,rfl⟩
   cases hal2:allowB st k with
   | false =>
    go_wp2_with fail
    refine (ask_no 6 _).mono ?_
    rintro e u6 ⟨rfl,rfl⟩
    refine leaves_cons (f:=37) (args:=#[.pointer (some ⟨w.heap.size,0,none⟩)]) (by simp) (by simp [go_sem]) ?_
    refine (catch_thrown w.heap.size 6 ⟨by omega,by omega⟩ ⟨#[]⟩ _ HTold.out (HD.out _ HB4.out).here).mono ?_
    rintro e u' w'' ⟨rfl,rfl,w1,hb1,rfl⟩
    have hd:(w1.setCell ⟨w.heap.size,0,none⟩ (.string (wrongB 6))).cell? ⟨w.heap.size,0,none⟩=some (.string (wrongB 6)):=World.cell?_setCell_same' _ _ _ (by rw [cell_blk ((hb1.block _ (lt_of_blk HTold.out)).trans HTold.out) rfl];rfl)
    simp [Leaves,settle,results,Tryz.results10,go_sem,hd]
    exact HE6.out y hrp hal2 _ ((HB4.out.trans (hb1.mono HB4.out.size)).setCell (p:=⟨w.heap.size,0,none⟩) (Nat.le_refl _) _)
   | true =>
    go_wp2_with fail
    refine (ask_yes 6 _).mono ?_
    rintro e u6 ⟨rfl,rfl⟩
    go_wp2_with fail
    refine (HDo.out hal2).mono ?_
    rintro e u7 ⟨st',r,M',O',A',hd,he,hf,hs7⟩
    have hsh:=hd.short HS.out.2.2 (HS.out.1.okay hN)
    have hLI:=LineIs.does (st:=st) hw hk hrp hal2 hd
    have HEnd:Hid (∀ u8 v,Below u7.heap.size u7 u8→v=Value.string r.out→AnsP base S M O st N line w (.returned (.string r.out)) (u8.setCell ⟨w.heap.size,0,none⟩ v)):=fun u8 v hb hv=>by
     obtain ⟨z1,z2⟩:=ans_end HS.out.1 HB4.out (lt_of_blk HTold.out) HX.out hf hs7 hb v
     exact ⟨st',r.out,M',O',A',hLI,hsh.out,HS.out.2.2.does hd,rfl,z1,z2⟩
    have HD7:Hid (Desk0 u7):=HDb.out u7 (hf.below (fun c q=>by
     rcases List.mem_append.1 q with q | q
     ·rcases List.mem_append.1 q with q | q
      ·exact Nat.le_trans hbw (Nat.le_of_lt (HX.out c q))
      ·exact HS.out.1.r.lo c q
     ·exact HS.out.1.r.loO c q) (Nat.le_trans hbw HB4.out.size))
    have ht7:u7.heap[w.heap.size]? = some (.cells #[.string ⟨#[]⟩] 9 (0,0)):=(hf.block _ (lt_of_blk HTold.out) (told_out HS.out.1 HX.out)).trans HTold.out
    clear hf hs7 hd hLI HDo
    cases r with
    | inl kk =>
     obtain rfl:e=thrown kk:=he
     refine leaves_cons (f:=37) (args:=#[.pointer (some ⟨w.heap.size,0,none⟩)]) (by simp) (by simp [go_sem]) ?_
     refine (catch_thrown w.heap.size kk (smallE.int hsh) ⟨#[]⟩ _ ht7 HD7.out).mono ?_
     rintro e u' w'' ⟨rfl,rfl,w1,hb1,rfl⟩
     have hd:(w1.setCell ⟨w.heap.size,0,none⟩ (.string (wrongB kk))).cell? ⟨w.heap.size,0,none⟩=some (.string (wrongB kk)):=World.cell?_setCell_same' _ _ _ (by rw [cell_blk ((hb1.block _ (lt_of_blk ht7)).trans ht7) rfl];rfl)
     simp [Leaves,settle,results,Tryz.results10,go_sem,hd]
     exact HEnd.out w1 _ hb1 rfl
    | inr o =>
     obtain rfl:e=.returned (.string o):=he
     have v0:u7.cell? ⟨w.heap.size,0,none⟩=some (.string ⟨#[]⟩):=cell_blk ht7 rfl
     have v1:=soft_blk ht7 (i:=0)
     go_wp2_with fail
     have hd:(u7.setCell ⟨w.heap.size,0,none⟩ (.string o)).cell? ⟨w.heap.size,0,none⟩=some (.string o):=World.cell?_setCell_same' _ _ _ (by rw [v0];rfl)
     refine leaves_cons (f:=37) (args:=#[.pointer (some ⟨w.heap.size,0,none⟩)]) (by simp) (by simp [go_sem]) ?_
     refine (catch_idle _ _).mono ?_
     rintro e u' w'' ⟨rfl,rfl,rfl⟩
     simp [Leaves,settle,results,Tryz.results10,go_sem,hd]
     exact HEnd.out u7 _ (Below.refl _ _) rfl
 ·go_simp
  have hk2:(W.alloc (.cells #[.slice none 0 0,.string ⟨#[]⟩] 71)).drew.heap[u1.heap.size]? = some (.cells #[.int .i64 km,.bool kmo,.bool kt,.int .i64 kw,.func (.func k.fn) #[.pointer (some ⟨S,0,none⟩)] #[]] 59 (0,0)):=(Below.heap_alloc W _ _ (lt_of_blk HKB.out)).trans HKB.out
  have hbx:(W.alloc (.cells #[.slice none 0 0,.string ⟨#[]⟩] 71)).drew.heap[W.heap.size]? = some (.cells #[.slice none 0 0,.string ⟨#[]⟩] 71 (0,0)):=heap_alloc_new W _
  have hbV:Below W.heap.size W ((W.alloc (.cells #[.slice none 0 0,.string ⟨#[]⟩] 71)).drew):=below_drewN1 ((Below.refl _ W).alloc (Nat.le_refl _) _) 1
  refine kp hK (fun hHeld=>?_) (kind_cells hk2)
  clear hK K
  generalize (W.alloc (.cells #[.slice none 0 0,.string ⟨#[]⟩] 71)).drew=W2 at *
  refine rdy 3 fun K hK=>?_
  go_simp
  refine Calls.mono (HRd.out W2 hbV) ?_
  rintro ev u3 ⟨hR,hu3⟩
  have b3:Below W.heap.size W u3:=hbV.trans (hu3.mono hbV.size)
  have b3u:Below u1.heap.size u1 u3:=HBu.out.trans (b3.mono HBu.out.size)
  cases hrp:readP k.m k.more k.text ws with
  | none =>
   rw [hrp] at hR
   obtain rfl:ev=thrown 3:=hR
   have hbp:=HT.out u3 b3u
   have HW3:Hid (Below w.heap.size w u3):=HB1.out.trans (b3u.mono HB1.out.size)
   refine leaves_cons (f:=37) (args:=#[.pointer (some ⟨w.heap.size,0,none⟩)]) (by simp) (by simp [go_sem]) ?_
   refine (catch_thrown w.heap.size 3 ⟨by omega,by omega⟩ ⟨#[]⟩ u3 hbp (HD.out u3 HW3.out).here).mono ?_
   rintro e u' w'' ⟨rfl,rfl,w1,hb1,rfl⟩
   have hd:(w1.setCell ⟨w.heap.size,0,none⟩ (.string (wrongB 3))).cell? ⟨w.heap.size,0,none⟩=some (.string (wrongB 3)):=World.cell?_setCell_same' _ _ _ (by rw [cell_blk ((hb1.block _ (lt_of_blk hbp)).trans hbp) rfl];rfl)
   simp [Leaves,settle,results,Tryz.results10,go_sem,hd]
   exact HE3.out hrp _ ((HW3.out.trans (hb1.mono HW3.out.size)).setCell (p:=⟨w.heap.size,0,none⟩) (Nat.le_refl _) _)
  | some y =>
   rw [hrp] at hR
   obtain ⟨a,cap,rfl,hcap,hrow,hfr⟩:=hR
   have hk3:u3.heap[u1.heap.size]? = some (.cells #[.int .i64 km,.bool kmo,.bool kt,.int .i64 kw,.func (.func k.fn) #[.pointer (some ⟨S,0,none⟩)] #[]] 59 (0,0)):=(b3.block _ hkW).trans HKB.out
   have hbx3:u3.heap[W.heap.size]? = some (.cells #[.slice none 0 0,.string ⟨#[]⟩] 71 (0,0)):=(hu3.block _ (lt_of_blk hbx)).trans hbx
   have g0:u3.cell? ⟨W.heap.size,0,none⟩=some (.slice none 0 0):=cell_blk hbx3 rfl
   have g1:u3.cell? ⟨W.heap.size,1,none⟩=some (.string ⟨#[]⟩):=cell_blk hbx3 rfl
   have g2:=soft_blk hbx3 (i:=0)
   have g3:=soft_blk hbx3 (i:=1)
   refine kp hK (fun hHeld=>?_) (kind_cells hk3)
   clear hK K
   refine rdy 5 fun K hK=>?_
   go_simp
   have hbX:((u3.setCell ⟨W.heap.size,0,none⟩ (.slice a y.1.length cap)).setCell ⟨W.heap.size,1,none⟩ (.string y.2)).heap[W.heap.size]? = some (.cells #[.slice a y.1.length cap,.string y.2] 71 (0,0)):=set_blk (set_blk hbx3 _) _
   have hoth:∀ c,c≠W.heap.size→((u3.setCell ⟨W.heap.size,0,none⟩ (.slice a y.1.length cap)).setCell ⟨W.heap.size,1,none⟩ (.string y.2)).heap[c]? = u3.heap[c]?:=fun c hc=>by simp only [set_other hc]
   have hsz:((u3.setCell ⟨W.heap.size,0,none⟩ (.slice a y.1.length cap)).setCell ⟨W.heap.size,1,none⟩ (.string y.2)).heap.size=u3.heap.size:=by simp
   have b4:Below W.heap.size W ((u3.setCell ⟨W.heap.size,0,none⟩ (.slice a y.1.length cap)).setCell ⟨W.heap.size,1,none⟩ (.string y.2)):=(b3.setCell (p:=⟨W.heap.size,0,none⟩) (Nat.le_refl _) _).setCell (p:=⟨W.heap.size,1,none⟩) (Nat.le_refl _) _
   have hxW2:=lt_of_blk hbx
   have hrow4:IntRow ((u3.setCell ⟨W.heap.size,0,none⟩ (.slice a y.1.length cap)).setCell ⟨W.heap.size,1,none⟩ (.string y.2)) a y.1:=hrow.at (Nat.le_of_eq hsz.symm) fun b off e h0=>hoth b (by have:=(hfr b off e).1;omega)
   have hfr4:∀ b off,a=some ⟨b,off,none⟩→W.heap.size≤b∧b<((u3.setCell ⟨W.heap.size,0,none⟩ (.slice a y.1.length cap)).setCell ⟨W.heap.size,1,none⟩ (.string y.2)).heap.size∧∃ cs fr,((u3.setCell ⟨W.heap.size,0,none⟩ (.slice a y.1.length cap)).setCell ⟨W.heap.size,1,none⟩ (.string y.2)).heap[b]? = some (.cells cs 3 fr):=fun b off e=>by
    obtain ⟨p1,p2,cs,fr,p3⟩:=hfr b off e
    exact ⟨by omega,by rw [hsz];exact p2,cs,fr,(hoth b (by omega)).trans p3⟩
   refine kp hK (fun hHeld=>?_) (kind_cells ((hoth _ (by omega)).trans hk3))
   clear hK K hHeld
   refine dn ?_
   generalize (u3.setCell ⟨W.heap.size,0,none⟩ (.slice a y.1.length cap)).setCell ⟨W.heap.size,1,none⟩ (.string y.2)=W4 at *
   obtain ⟨X,hXe⟩:∃ X,W.heap.size=X:=⟨_,rfl⟩
   have hbX:W4.heap[X]? = some (.cells #[.slice a y.1.length cap,.string y.2] 71 (0,0)):=hXe▸hbX
   clear hk3 hrow hfr b3 b3u hu3 q0 q1 q2 q3 q4 hoth hsz g0 g1 g2 g3 hbx3 hxW2 hbx hk2 hbV
   rw [hXe]
   clear hXe
   have HB4:Hid (Below w.heap.size w W4):=HBW.out.trans (b4.mono HBW.out.size)
   have hkx:W4.heap[u1.heap.size]? = some (.cells #[.int .i64 km,.bool kmo,.bool kt,.int .i64 kw,.func (.func k.fn) #[.pointer (some ⟨S,0,none⟩)] #[]] 59 (0,0)):=(b4.block _ hkW).trans HKB.out
   have htold:=HT.out W4 (HBu.out.trans (b4.mono HBu.out.size))
   have t0:W4.cell? ⟨w.heap.size,0,none⟩=some (.string ⟨#[]⟩):=cell_blk htold rfl
   have HTold:Hid (W4.heap[w.heap.size]? = some (.cells #[.string ⟨#[]⟩] 9 (0,0))):=htold
   obtain ⟨_,_,_,y3,y4⟩:=kind_cells hkx
   have x0:W4.cell? ⟨X,0,none⟩=some (.slice a y.1.length cap):=cell_blk hbX rfl
   have x1:W4.cell? ⟨X,1,none⟩=some (.string y.2):=cell_blk hbX rfl
   have hs4:Ses W4 base S M O st A N:=HS.out.1.below HB4.out
   have hal:=allows_any hs4 k
   rw [HH.out.2.2.2] at hal
   obtain ⟨XL,hX,hXa⟩:∃ XL:List Nat,(∀ b off,a=some ⟨b,off,none⟩→b∈XL)∧∀ c,c∈XL→∃ off,a=some ⟨c,off,none⟩:=by
    cases a with
    | none=>exact ⟨[],fun _ _ q=>(by cases q),fun _ q=>(by cases q)⟩
    | some p =>
     obtain ⟨b,off,t⟩:=p
     cases t with
     | none=>exact ⟨[b],fun _ _ q=>by cases q;exact List.mem_cons_self,fun c q=>⟨off,by rw [List.mem_singleton.1 q]⟩⟩
     | some t=>exact ⟨[],fun _ _ q=>(by cases q),fun _ q=>(by cases q)⟩
   have hXl:∀ c,c∈XL→W.heap.size≤c∧c<W4.heap.size:=fun c q=>by
    obtain ⟨off,e⟩:=hXa c q
    exact ⟨(hfr4 c off e).1,(hfr4 c off e).2.1⟩
   have hWw:w.heap.size<W.heap.size:=Nat.lt_of_le_of_lt HB1.out.size hkW
   have HX:Hid (∀ c,c∈XL→w.heap.size<c):=fun c q=>Nat.lt_of_lt_of_le hWw (hXl c q).1
   have hbw:base≤w.heap.size:=Nat.le_trans (HS.out.1.r.lo S HS.out.1.r.s) (Nat.le_of_lt (HS.out.1.r.hi S HS.out.1.r.s))
   have hDb:DeskW base W4:=HS.out.2.1.below (HB4.out.mono hbw)
   obtain ⟨f1,f2,f3⟩:=readP_fit hrp
   have HDo:Hid (allowB st k=true→Calls Tryz.prog k.fn #[.pointer (some ⟨S,0,none⟩),.agg #[.slice a y.1.length cap,.string y.2]] W4 (DoesP base S (XL ++ M) O st N k y.1 y.2 W4)):=fun q=>does_any k hs4 hDb q HS.out.2.2 hN y.1 y.2 f1 (Nat.le_trans f2 (by rw [HM.out];omega)) f3 a cap hcap hrow4 (fun b off e=>⟨hX b off e,(hfr4 b off e).2.2⟩) (fun c q=>Nat.le_trans hbw (Nat.le_of_lt (HX.out c q))) (fun c q=>(hXl c q).2) (fun c q1 q2=>by
    have:=HX.out c q1
    rcases List.mem_append.1 q2 with q | q
    ·have:=HS.out.1.r.hi c q;omega
    ·have:=HS.out.1.r.hiO c q;omega)
   have HDb:Hid (DeskW base W4):=hDb
   clear hs4 hX hXa hXl hDb f1 f2 f3 hfr4 hrow4 hcap hbX htold b4
   have hent:=kd_enters k
   clear HRd
   generalize (if m=0 then (some ⟨A1,0,none⟩:Option Addr) else some ⟨A1,1,none⟩)=sl1
   go_wp2_with fail
   refine hal.mono ?_
   rintro e u5 ⟨rfl,rfl⟩
   cases hal2:allowB st k with
   | false =>
    go_wp2_with fail
    refine (ask_no 6 _).mono ?_
    rintro e u6 ⟨rfl,rfl⟩
    refine leaves_cons (f:=37) (args:=#[.pointer (some ⟨w.heap.size,0,none⟩)]) (by simp) (by simp [go_sem]) ?_
    refine (catch_thrown w.heap.size 6 ⟨by omega,by omega⟩ ⟨#[]⟩ _ HTold.out (HD.out _ HB4.out).here).mono ?_
    rintro e u' w'' ⟨rfl,rfl,w1,hb1,rfl⟩
    have hd:(w1.setCell ⟨w.heap.size,0,none⟩ (.string (wrongB 6))).cell? ⟨w.heap.size,0,none⟩=some (.string (wrongB 6)):=World.cell?_setCell_same' _ _ _ (by rw [cell_blk ((hb1.block _ (lt_of_blk HTold.out)).trans HTold.out) rfl];rfl)
    simp [Leaves,settle,results,Tryz.results10,go_sem,hd]
    exact HE6.out y hrp hal2 _ ((HB4.out.trans (hb1.mono HB4.out.size)).setCell (p:=⟨w.heap.size,0,none⟩) (Nat.le_refl _) _)
   | true =>
    go_wp2_with fail
    refine (ask_yes 6 _).mono ?_
    rintro e u6 ⟨rfl,rfl⟩
    go_wp2_with fail
    refine (HDo.out hal2).mono ?_
    rintro e u7 ⟨st',r,M',O',A',hd,he,hf,hs7⟩
    have hsh:=hd.short HS.out.2.2 (HS.out.1.okay hN)
    have hLI:=LineIs.does (st:=st) hw hk hrp hal2 hd
    have HEnd:Hid (∀ u8 v,Below u7.heap.size u7 u8→v=Value.string r.out→AnsP base S M O st N line w (.returned (.string r.out)) (u8.setCell ⟨w.heap.size,0,none⟩ v)):=fun u8 v hb hv=>by
     obtain ⟨z1,z2⟩:=ans_end HS.out.1 HB4.out (lt_of_blk HTold.out) HX.out hf hs7 hb v
     exact ⟨st',r.out,M',O',A',hLI,hsh.out,HS.out.2.2.does hd,rfl,z1,z2⟩
    have HD7:Hid (Desk0 u7):=HDb.out u7 (hf.below (fun c q=>by
     rcases List.mem_append.1 q with q | q
     ·rcases List.mem_append.1 q with q | q
      ·exact Nat.le_trans hbw (Nat.le_of_lt (HX.out c q))
      ·exact HS.out.1.r.lo c q
     ·exact HS.out.1.r.loO c q) (Nat.le_trans hbw HB4.out.size))
    have ht7:u7.heap[w.heap.size]? = some (.cells #[.string ⟨#[]⟩] 9 (0,0)):=(hf.block _ (lt_of_blk HTold.out) (told_out HS.out.1 HX.out)).trans HTold.out
    clear hf hs7 hd hLI HDo
    cases r with
    | inl kk =>
     obtain rfl:e=thrown kk:=he
     refine leaves_cons (f:=37) (args:=#[.pointer (some ⟨w.heap.size,0,none⟩)]) (by simp) (by simp [go_sem]) ?_
     refine (catch_thrown w.heap.size kk (smallE.int hsh) ⟨#[]⟩ _ ht7 HD7.out).mono ?_
     rintro e u' w'' ⟨rfl,rfl,w1,hb1,rfl⟩
     have hd:(w1.setCell ⟨w.heap.size,0,none⟩ (.string (wrongB kk))).cell? ⟨w.heap.size,0,none⟩=some (.string (wrongB kk)):=World.cell?_setCell_same' _ _ _ (by rw [cell_blk ((hb1.block _ (lt_of_blk ht7)).trans ht7) rfl];rfl)
     simp [Leaves,settle,results,Tryz.results10,go_sem,hd]
     exact HEnd.out w1 _ hb1 rfl
    | inr o =>
     obtain rfl:e=.returned (.string o):=he
     have v0:u7.cell? ⟨w.heap.size,0,none⟩=some (.string ⟨#[]⟩):=cell_blk ht7 rfl
     have v1:=soft_blk ht7 (i:=0)
     go_wp2_with fail
     have hd:(u7.setCell ⟨w.heap.size,0,none⟩ (.string o)).cell? ⟨w.heap.size,0,none⟩=some (.string o):=World.cell?_setCell_same' _ _ _ (by rw [v0];rfl)
     refine leaves_cons (f:=37) (args:=#[.pointer (some ⟨w.heap.size,0,none⟩)]) (by simp) (by simp [go_sem]) ?_
     refine (catch_idle _ _).mono ?_
     rintro e u' w'' ⟨rfl,rfl,rfl⟩
     simp [Leaves,settle,results,Tryz.results10,go_sem,hd]
     exact HEnd.out u7 _ (Below.refl _ _) rfl
end
end
end Go.Proofs.YthccoinonjoleaaGreatDoor
