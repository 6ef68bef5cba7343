import Derived.Test.YtooadfgibdjdeaaGreatDoorZR9
import Derived.Deep.QuietTactic
namespace Go.Proofs.YtooadfgibdjdeaaGreatDoor
open Go.RowKit
set_option maxRecDepth 100000
set_option maxHeartbeats 16000000
section
section
variable {w:World} {O Z:List Nat} {C:Nat} {p:PlanN} {fa:Int} {cs:List Int} {s:ClS} {rd:Int} {B:Nat} {m:RMap}
theorem InRC.rows3 {V wr:World} {s':ClS} {B':Nat} (h:InRC O V wr Z C p fa cs s' rd B' m) {la:Option Addr} {n:Nat} {f g k:Nat→Int} (hr:Rows3 V la n f g k) (hO:∀ b off,la=some ⟨b,off,none⟩→b∉O):Rows3 wr la n f g k:=fun h0=>by
 obtain ⟨b,off,e,hb,hc⟩:=hr h0
 have hn:=hO b off e
 exact ⟨b,off,e,Nat.lt_of_lt_of_le hb h.size,fun j hj=>⟨(h.box hb hn _).trans (hc j hj).1,(h.box hb hn _).trans (hc j hj).2.1,(h.box hb hn _).trans (hc j hj).2.2⟩⟩
theorem InRC.part {V wr:World} {s':ClS} {B':Nat} (h:InRC O V wr Z C p fa cs s' rd B' m):∃ O1,RCl wr O1 Z C p fa cs s' rd B' m∧∀ (w':World) (s2:ClS) (B2:Nat),(∃ O2,Foot O1 O2 wr w'∧RCl w' O2 Z C p fa cs s2 rd B2 m)→InRC O V w' Z C p fa cs s2 rd B2 m:=by
 obtain ⟨O1,hF,hc⟩:=h
 exact ⟨O1,hc,fun w' s2 B2 ⟨O2,h2,c2⟩=>⟨O2,hF.trans h2,c2⟩⟩
theorem setNew_same (s:ClS) (k j:Nat):s.setNew k j (s.newest k j)=s:=by
 unfold ClS.setNew
 have:(fun x y=>if x=k∧y=j then s.newest k j else s.newest x y)=s.newest:=by
  funext x y
  split
  ·next e=>rw [e.1,e.2]
  ·rfl
 rw [this]
theorem setPort_same (s:ClS) (k j:Nat):s.setPort k j (s.ports k j)=s:=by
 unfold ClS.setPort
 have:(fun x y=>if x=k∧y=j then s.ports k j else s.ports x y)=s.ports:=by
  funext x y
  split
  ·next e=>rw [e.1,e.2]
  ·rfl
 rw [this]
theorem takeM_some {s:ClS} {k:Nat} {q:Int} {d:ByteArray} {j:Nat} (h:bitI (p.lt k) j=true):s.takeM p (some (k,q,d)) j=s.take1 k j q d:=if_pos h
theorem takeM_no {s:ClS} {k:Nat} {q:Int} {d:ByteArray} {j:Nat} (h:bitI (p.lt k) j=false):s.takeM p (some (k,q,d)) j=s:=if_neg (by rw [h];decide)
def w_rp_chan_0 (k:Nat):Bool:=(decide (36≤k) && decide (k≤38)) || (decide (40≤k) && decide (k≤41)) || (decide (332≤k) && decide (k≤427))
theorem rp_chan (body:Code) (hbody:(Tryz.f10.body.map loopsIn).bind (fun l=>l[7]?)=some body) (Q:Exit→Act→World→Prop) (h:RCl w O Z C p fa cs s rd B m) (i j who:Nat) (mem:Int) (mk:Option (Nat × Int × ByteArray)) (LK SQ:Int) (SD:ByteArray) (hLK:LK=msgLk mk∧SQ=msgSeq mk∧SD=msgDat mk) (sent:Bool) (l0 l1:Int) (SB:Nat) (la:Option Addr) (nL lc:Nat) (ls lch lt:Nat→Int)
  (hj:j<p.n) (hn1:1≤p.n) (hn:p.n≤16) (hnl:p.nl≤8) (hB:B≤999900) (hmk:MsgIn p mk) (hSB:SB<w.heap.size) (hSO:SB∉O) (sb0:w.cell? ⟨SB,0,none⟩=some (.int .i64 who)) (hr:Rows3 w la nL ls lch lt) (hrO:∀ b off,la=some ⟨b,off,none⟩→b∉O) (hL:nL≤9223372036854775807)
  (hlo:∀ c,c<2→lostB ls lch lt nL i c j=bitI (if c=0 then l0 else l1) j) {L:List Value} (hL0:L.length=452) (s0:L[0]? = some (.pointer (some ⟨C,0,none⟩))) (s1:L[1]? = some (.slice la nL lc)) (s21:L[21]? = some (.int .i64 i)) (s22:L[22]? = some (.pointer (some ⟨SB,0,none⟩))) (s24:L[24]? = some (.int .i64 mem)) (s25:L[25]? = some (.bool sent)) (s27:L[27]? = some (.int .i64 LK)) (s28:L[28]? = some (.int .i64 SQ)) (s29:L[29]? = some (.string SD)) (s35:L[35]? = some (.int .i64 j)) (s36:L[36]? = some (.int .i64 0)) (s332:L[332]? = some (.int .i64 0))
  (hexit:∀ (L':List Value) (wr:World),InRC O w wr Z C p fa cs (if cameB sent l0 l1 j 2=true then s.takeM p mk j else s) rd (B+2) m→L'.length=452→Rest w_rp_chan_0 L L'→L'[36]? = some (.int .i64 (if cameB sent l0 l1 j 2=true then judgeV p.n (s.nodes j).t (tb mem) who mem else 0))→L'[332]? = some (.int .i64 2)→Q (.exit 14) ⟨L'.toArray,[]⟩ wr) :
  Code.wp Tryz.prog (Code.loop body) Q ⟨L.toArray,[]⟩ w:=by
 have hb2:((Tryz.f10.body.map loopsIn).bind (fun l=>l[7]?)).getD Code.skip=body:=by rw [hbody];rfl
 obtain rfl:=hb2
 clear hbody
 conv=>arg 2;arg 1;whnf
 have HEX:Hid _:=hexit
 obtain ⟨fL,rfl⟩:=lit L 452 hL0
 replace s0:=lit_at s0
 replace s1:=lit_at s1
 replace s21:=lit_at s21
 replace s22:=lit_at s22
 replace s24:=lit_at s24
 replace s25:=lit_at s25
 replace s27:=lit_at s27
 replace s28:=lit_at s28
 replace s29:=lit_at s29
 replace s35:=lit_at s35
 replace s36:=lit_at s36
 replace s332:=lit_at s332
 simp only [List.range,List.range.loop,List.map_cons,List.map_nil,s0,s1,s21,s22,s24,s25,s27,s28,s29,s35,s36,s332]
 have HR:Hid (Rows3 w la nL ls lch lt):=hr
 have HRO:Hid (∀ b off,la=some ⟨b,off,none⟩→b∉O):=hrO
 have HLO:Hid (∀ c,c<2→lostB ls lch lt nL i c j=bitI (if c=0 then l0 else l1) j):=hlo
 have HMK:Hid (MsgIn p mk):=hmk
 have HLK:Hid (LK=msgLk mk∧SQ=msgSeq mk∧SD=msgDat mk):=hLK
 have HH:Hid (RCl w O Z C p fa cs s rd B m):=h
 have HSO:Hid (SB∉O):=hSO
 obtain ⟨JV,hJV⟩:∃ JV,judgeV p.n (s.nodes j).t (tb mem) who mem=JV:=⟨_,rfl⟩
 have HJV:Hid (judgeV p.n (s.nodes j).t (tb mem) who mem=JV):=hJV
 rw [hJV] at HEX
 clear hexit hr hrO hlo hmk h hSO hJV hLK
 go_loopw [332,36] (fun t v wr=>∃ c:Nat,c≤2∧t=.int .i64 c∧v=.int .i64 (if cameB sent l0 l1 j c=true then JV else 0)∧Hid (InRC O w wr Z C p fa cs (if cameB sent l0 l1 j c=true then s.takeM p mk j else s) rd (B+c) m)) (fun t _ _=>2 - (intOf t).toNat)
 case atStart =>
  refine ⟨0,by omega,rfl,by rw [cameB_zero];rfl,?_⟩
  rw [cameB_zero,if_neg (by decide)]
  exact ⟨O,Foot.refl _ _,HH.out⟩
 case round =>
  obtain ⟨c,hc2,rfl,rfl,hin⟩:=hrel
  by_cases hlt:c<2
  ·have cc:(c:Int)<2:=by omega
   have HSUC:=cameB_succ sent l0 l1 j c hlt
   rw [← HLO.out c hlt] at HSUC
   obtain ⟨LB,hLB⟩:∃ LB,lostB ls lch lt nL i c j=LB:=⟨_,rfl⟩
   rw [hLB] at HSUC
   have HLB:Hid (lostB ls lch lt nL i c j=LB):=hLB
   have HS:Hid (cameB sent l0 l1 j (c+1)=(cameB sent l0 l1 j c || (sent && !LB))):=HSUC
   have hr2:=hin.out.rows3 HR.out HRO.out
   obtain ⟨R,hR⟩:∃ R,(if cameB sent l0 l1 j c=true then s.takeM p mk j else s)=R:=⟨_,rfl⟩
   have HRR:Hid ((if cameB sent l0 l1 j c=true then s.takeM p mk j else s)=R):=hR
   have HI:Hid (InRC O w wr Z C p fa cs R rd (B+c) m):=by rw [← hR];exact hin.out
   clear hin HSUC hLB hR
   obtain ⟨CB,hCB⟩:∃ CB,cameB sent l0 l1 j c=CB:=⟨_,rfl⟩
   rw [hCB] at HS HRR
   rw [hCB]
   clear hCB
   obtain ⟨WV,hWV⟩:∃ WV,(if CB=true then JV else 0)=WV:=⟨_,rfl⟩
   have HWV:Hid ((if CB=true then JV else 0)=WV):=hWV
   rw [hWV]
   clear hWV
   go_wp2_with fail
   refine rp_loss _ (by rfl) _ i j c sent la nL lc ls lch lt wr hr2 hL (by omega) rfl rfl rfl rfl rfl rfl rfl rfl ?_
   intro L2 w4 hb4 hN9 hQ9 t38 t338
   obtain ⟨gL,rfl⟩:=hQ9.over (hN9.trans rfl)
   clear hQ9 hN9
   simp (decide:=true) only [ov,if_true,if_false,Nat.reduceAdd] at t38 t338 ⊢
   replace t38:=Option.some.inj t38
   replace t338:=Option.some.inj t338
   rw [t38,t338]
   clear t38 t338
   clear hr2
   have HI4:Hid (InRC O w w4 Z C p fa cs R rd (B+c) m):=HI.out.below hb4
   rw [HLB.out]
   have hs4:=HI4.out.size
   have y12:=HI4.out.base.c12
   have ynd:=HI4.out.base.nd j hj
   have ynl:=HI4.out.base.lx _ HI4.out.base.ndX
   have lc4:=HI4.out.base.lc
   have ysb:w4.cell? ⟨SB,0,none⟩=some (.int .i64 who):=(HI4.out.box hSB HSO.out 0).trans sb0
   have hSB4:SB<w4.heap.size:=by omega
   have jj:(j:Int)<(p.n:Int):=by omega
   cases hcome:(sent && !LB)
   ·rw [hcome,Bool.or_false] at HS
    clear hcome HI ynd y12 ysb
    go_wp2
    refine ⟨⟨c+1,by omega,by go_num,by rw [HS.out,HWV.out],?_⟩,by simp [intOf];omega⟩
    rw [HS.out,HRR.out]
    exact HI4.out.more (by omega)
   ·rw [hcome,Bool.or_true] at HS
    have HRN:Hid (R.nodes=s.nodes):=by
     show R.nodes=s.nodes
     rw [← HRR.out]
     split
     ·exact takeM_nodes _ _ _ _
     ·rfl
    have HRT:Hid (R.takeM p mk j=s.takeM p mk j):=by
     show R.takeM p mk j=s.takeM p mk j
     rw [← HRR.out]
     split
     ·exact takeM_again _ _ _ _
     ·rfl
    have hRJ:∀ n,Calls Tryz.prog 45 #[.pointer (some ⟨m.P j,0,none⟩),.int .i64 who,.int .i64 mem] (w4.drewN n) fun e w'=>e=.returned (.int .i64 JV)∧w'=w4.drewN n:=fun n=>by
     have:=rjudgeI (HI4.out.drawn n) j hj who mem hn1 hn
     rw [HRN.out,HJV.out] at this
     exact this
    have HRJ:Hid _:=hRJ
    clear hRJ hcome HI
    go_wp2_with fail
    go_quiet ((go_at_call 45;refine Calls.quiet_of_same (HRJ.out _)))
    have HI5:Hid (InRC O w (w4.drewN nq) Z C p fa cs R rd (B+c) m):=HI4.out.drawn nq
    have hsq:w.heap.size≤(w4.drewN nq).heap.size:=hs4
    generalize w4.drewN nq=w5 at *
    clear HI4 ysb y12 ynd
    have HFIN:Hid (∀ (w':World) (s':ClS),InRC O w w' Z C p fa cs s' rd (B+c+1) m→s'=R.takeM p mk j→InRC O w w' Z C p fa cs (if cameB sent l0 l1 j (c+1)=true then s.takeM p mk j else s) rd (B+(c+1)) m):=fun w' s' q1 q2=>by
     rw [HS.out,if_pos rfl,← HRT.out,← q2]
     exact q1
    rcases mk with _ | ⟨k,q,d⟩
    ·obtain ⟨h1,_,_⟩:=HLK.out
     have h1':LK = -1:=h1
     clear HLK h1
     subst h1'
     go_wp2_with fail
     go_quiet (fail)
     go_wp2
     exact ⟨⟨c+1,by omega,by go_num,by rw [HS.out];rfl,HFIN.out _ R ((HI5.out.more (by omega)).drawn _) rfl⟩,by simp [intOf];omega⟩
    ·obtain ⟨hk,hd⟩:=HMK.out k q d rfl
     obtain ⟨h1,h2,h3⟩:=HLK.out
     have h1':LK=(k:Int):=h1
     have h2':SQ=q:=h2
     have h3':SD=d:=h3
     clear HLK h1 h2 h3
     subst h1' h2' h3'
     have kk:(k:Int)<(p.nl:Int):=by omega
     cases hbt:bitI (p.lt k) j
     ·have c7:=HI5.out.base.c7
      have lc5:=HI5.out.base.lc
      obtain ⟨b,off,e,hbZ,hc⟩:=HI5.out.rows.lk (by omega)
      have hbl:=HI5.out.rows.zl b hbZ
      rw [e] at c7
      obtain ⟨x0,x1,x2,x3⟩:=hc k hk
      have hpw:=pow_small16 j (by omega)
      have hba:=bit_and (p.lt k) (j:=j) (by omega)
      rw [hbt] at hba
      have e1:wrap64 ((2:Int) ^ j)=2 ^ j:=by
       unfold wrap64
       generalize (2:Int) ^ j=T at *
       omega
      have HTN:Hid (R.takeM p (some (k,SQ,SD)) j=R):=takeM_no hbt
      clear hc e hbt
      generalize p.lt k=LT at *
      go_wp2_with fail
      go_quiet (fail)
      go_wp2
      exact ⟨⟨c+1,by omega,by go_num,by rw [HS.out];rfl,HFIN.out _ R ((HI5.out.more (by omega)).drawn _) HTN.out.symm⟩,by simp [intOf];omega⟩
     ·obtain ⟨O1,hc1,hback1⟩:=HI5.out.part
      have HBK:Hid (∀ (w':World) (s2:ClS) (B2:Nat),(∃ O2,Foot O1 O2 w5 w'∧RCl w' O2 Z C p fa cs s2 rd B2 m)→InRC O w w' Z C p fa cs s2 rd B2 m):=hback1
      clear hback1
      go_wp2_with fail
      refine rp_take _ (by rfl) _ hc1 k j SQ hk hj hnl hn (by omega) hbt rfl rfl rfl rfl rfl ?_
      intro L2 w6 hI6 hN9 hQ9 t402
      obtain ⟨gL,rfl⟩:=hQ9.over (hN9.trans rfl)
      clear hQ9 hN9
      simp (decide:=true) only [ov,if_true,if_false,Nat.reduceAdd] at t402 ⊢
      replace t402:=Option.some.inj t402
      rw [t402]
      clear t402
      obtain ⟨O6,hF6,hc6⟩:=hI6
      have HI6:Hid (InRC O w w6 Z C p fa cs (R.setNew k j (tkNew (takeB (R.newest k j) SQ) SQ (R.newest k j))) rd (B+c+1) m):=HBK.out _ _ _ ⟨O6,hF6,hc6⟩
      have HTK:Hid (R.takeM p (some (k,SQ,SD)) j=R.take1 k j SQ SD):=takeM_some hbt
      clear hc1 hbt
      cases hT:takeB (R.newest k j) SQ
      ·rw [hT] at HI6
       have HE:Hid (R.setNew k j (tkNew false SQ (R.newest k j))=R.takeM p (some (k,SQ,SD)) j):=by
        show _=_
        rw [HTK.out]
        unfold ClS.take1
        rw [hT,if_neg (by decide)]
        exact setNew_same R k j
       clear hT hF6 hc6
       go_wp2
       exact ⟨⟨c+1,by omega,by go_num,by rw [HS.out];rfl,HFIN.out _ _ HI6.out HE.out⟩,by simp [intOf];omega⟩
      ·rw [hT] at HI6
       have e0:R.setNew k j (tkNew (takeB (R.newest k j) SQ) SQ (R.newest k j))=R.setNew k j SQ:=by rw [hT];rfl
       rw [e0] at hc6
       have hPP:=hc6.prt
       obtain ⟨PX,hP,_,_,hlen,_⟩:=hPP
       obtain ⟨v,hlook,hrow⟩:=hP.look (show k<8 by omega) (show j<16 by omega)
       obtain ⟨va,vc,rfl,hvl,hvm,_⟩:=hrow
       have hlook2:(Instr.lookup 62 (.map (some m.pb)) (.agg #[.int .i64 k,.int .i64 j]) false).run Tryz.prog w6=.ok (.slice va ((R.setNew k j SQ).ports k j).length vc) w6:=hlook
       have c15:=hc6.base.c15
       have lc6:=hc6.base.lc
       have hl16:=hlen k j
       have hT1:R.take1 k j SQ SD=(R.setNew k j SQ).setPort k j (if (R.ports k j).length<16 then R.ports k j ++ [SD] else R.ports k j):=if_pos hT
       have HBK6:Hid (∀ (w':World) (s2:ClS),(∃ O2,Foot O6 O2 w6 w'∧RCl w' O2 Z C p fa cs s2 rd (B+c+1) m)→InRC O w w' Z C p fa cs s2 rd (B+c+1) m):=fun w' s2 ⟨O2,h1,h2⟩=>HBK.out _ _ _ ⟨O2,hF6.trans h1,h2⟩
       have HLKU:Hid ((Instr.lookup 62 (.map (some m.pb)) (.agg #[.int .i64 k,.int .i64 j]) false).run Tryz.prog w6=.ok (.slice va ((R.setNew k j SQ).ports k j).length vc) w6):=hlook
       clear hP hlook hlen hF6 HI6
       by_cases h16:((R.setNew k j SQ).ports k j).length<16
       ·have HE:Hid ((R.setNew k j SQ).setPort k j ((R.setNew k j SQ).ports k j ++ [SD])=R.takeM p (some (k,SQ,SD)) j):=by
         show _=_
         rw [HTK.out,hT1,if_pos (show (R.ports k j).length<16 from h16)]
         rfl
        have HL16:Hid (((R.setNew k j SQ).ports k j).length<16):=h16
        have HC6:Hid (RCl w6 O6 Z C p fa cs (R.setNew k j SQ) rd (B+c+1) m):=hc6
        have h16i:(((R.setNew k j SQ).ports k j).length:Int)<16:=by omega
        clear hT hT1 e0 hc6 h16
        go_wp2_with fail
        refine rp_store _ (by rfl) _ HC6.out k j SD va _ vc hk hj hnl hn HLKU.out HL16.out rfl rfl rfl rfl rfl rfl ?_
        intro L2 w7 hfin hN9 hQ9
        obtain ⟨gL,rfl⟩:=hQ9.over (hN9.trans rfl)
        clear hQ9 hN9
        simp (decide:=true) only [ov,if_true,if_false,Nat.reduceAdd]
        have HI7:Hid (InRC O w w7 Z C p fa cs (R.takeM p (some (k,SQ,SD)) j) rd (B+c+1) m):=by
         rw [← HE.out]
         exact HBK6.out _ _ hfin
        clear hfin hlook2 c15 HC6 HLKU
        go_wp2
        exact ⟨⟨c+1,by omega,by go_num,by rw [HS.out];rfl,HFIN.out _ _ HI7.out rfl⟩,by simp [intOf];omega⟩
       ·have HE:Hid (R.setNew k j SQ=R.takeM p (some (k,SQ,SD)) j):=by
         show _=_
         rw [HTK.out,hT1,if_neg (show ¬ (R.ports k j).length<16 from h16)]
         exact (setPort_same (R.setNew k j SQ) k j).symm
        have h16i:decide ((((R.setNew k j SQ).ports k j).length:Int)<16)=false:=decide_eq_false (by omega)
        have HI7:Hid (InRC O w w6 Z C p fa cs (R.takeM p (some (k,SQ,SD)) j) rd (B+c+1) m):=by
         rw [← HE.out]
         exact HBK6.out _ _ ⟨O6,Foot.refl _ _,hc6⟩
        clear hT hT1 e0 hc6 h16
        go_wp2
        exact ⟨⟨c+1,by omega,by go_num,by rw [HS.out];rfl,HFIN.out _ _ HI7.out rfl⟩,by simp [intOf];omega⟩
  ·obtain rfl:c=2:=by omega
   obtain ⟨WV,hWV⟩:∃ WV,(if cameB sent l0 l1 j 2=true then JV else 0)=WV:=⟨_,rfl⟩
   rw [hWV] at HEX
   rw [hWV]
   clear hWV
   go_wp2
   exact HEX.out _ _ hin.out rfl (Rest.of rfl) rfl rfl
end
end
section
theorem rnew_any (p:PlanN) (a:PlanAt) (fa:Int) (ca:Option Addr) (cap:Nat) (cs:List Int) (w:World) (hIn:p.In a w) (hC:IntRow w ca cs) (hcl:cs.length≤1000) (hfine:Fine0 w) :
  Calls Tryz.prog 6 #[p.val a,.int .i64 fa,.slice ca cs.length cap] w fun e w'=>RNewPost w p a fa cs e w':=by
 obtain ⟨E,I,hIs⟩:=checkIs_any p
 have hchk:=fun (u:World) (h1:p.In a u) (h2:Fine0 u)=>rchk p a u h1 h2 hIs
 unfold PlanN.val at hchk ⊢
 obtain ⟨V,hV⟩:∃ V,(w.alloc (.cells #[.int .i64 p.nodes,.int .i64 p.faulty,.int .i64 p.skew,.int .i64 p.jitter,.int .i64 p.drift,.int .i64 p.round,.slice a.sa p.ns a.sc,.slice a.la p.nl a.lc,.int .i64 p.frame,.slice a.wa p.nw a.wc] 26)).alloc (.cells #[.int .i64 0,.int .i64 0] 38)=V:=⟨_,rfl⟩
 obtain ⟨⟨⟨b0,b1,b2,b3,b4⟩,b5,b6,b7,b8,b9⟩,⟨r0,r1,rz⟩,hBV,hVs⟩:=nbox10 w _ _ _ _ _ _ _ _ _ _ _ _ _ _ V hV
 have hck:=hchk V (hIn.below hBV) (hfine.below hBV)
 have HIn:Hid (p.In a w∧IntRow w ca cs∧Fine0 w):=⟨hIn,hC,hfine⟩
 have HBV:Hid (Below w.heap.size w V∧V.heap.size=w.heap.size+1+1):=⟨hBV,hVs⟩
 have hl0:w.heap.size<V.heap.size:=by omega
 have hl1:w.heap.size+1<V.heap.size:=by omega
 have HIs:Hid (p.Is E I):=hIs
 obtain ⟨n,hlen⟩:∃ n,cs.length=n:=⟨_,rfl⟩
 have HLEN:Hid (cs.length=n):=hlen
 rw [hlen] at hcl ⊢
 clear hchk hIn hC hBV hVs hIs hfine hlen
 go_enter Tryz.func6,Tryz.ntmps6
 go_wp2_with fail
 refine hck.mono ?_
 rintro e v1 ⟨rfl,hB1⟩
 obtain ⟨v2,hv2⟩:∃ v2,v1.alloc (.cells #[.int .i64 E,.int .i64 I] 38)=v2:=⟨_,rfl⟩
 obtain ⟨f0,f1,hB2,hs2⟩:=fbox2 v1 _ _ _ v2 hv2
 have hv1:=hB1.size
 have HB2:Hid (Below V.heap.size V v2):=hB1.trans (hB2.mono hB1.size)
 have HBw2:Hid (Below w.heap.size w v2):=HBV.out.1.trans (HB2.out.mono (by omega))
 have y0:=(HB2.out.cell (p:=⟨w.heap.size,0,none⟩) hl0).trans b0
 have x0:=(HB2.out.cell (p:=⟨w.heap.size+1,0,none⟩) hl1).trans r0
 have x1:=(HB2.out.cell (p:=⟨w.heap.size+1,1,none⟩) hl1).trans r1
 have q0:=(HB2.out.frozen (p:=⟨w.heap.size+1,0,none⟩) hl1).trans (rz 0)
 have q1:=(HB2.out.frozen (p:=⟨w.heap.size+1,1,none⟩) hl1).trans (rz 1)
 have hlv:w.heap.size+1<v2.heap.size:=by omega
 have hlv0:w.heap.size<v2.heap.size:=by omega
 have hn1:v1.heap.size≠w.heap.size+1:=by omega
 have hn2:w.heap.size+1≠v1.heap.size:=Ne.symm hn1
 clear hck hB1 hv1 hB2
 by_cases hE:E=0
 rotate_left
 ·have kE:(E != 0)=true:=by simpa using hE
  have HBAD:Hid (∀ v,Below w.heap.size w v→RNewPost w p a fa cs (.returned (.tuple #[.pointer none,.agg #[.int .i64 E,.int .i64 I]])) v):=fun v hv=>⟨hv,E,I,.inl ⟨E,HIs.out,hE,rfl⟩,.inl ⟨hE,rfl⟩⟩
  obtain ⟨c0,c1,hT⟩:=fput (E:=.int .i64 E) (I:=.int .i64 I) x0 x1
  have HFIN:Hid (Below w.heap.size w ((v2.setCell ⟨w.heap.size+1,0,none⟩ (.int .i64 E)).setCell ⟨w.heap.size+1,1,none⟩ (.int .i64 I))):=HBw2.out.trans (hT.below (by omega) (by omega) (by omega))
  clear hT
  go_wp2_with fail
  go_region
  all_goals (
   go_wp2
   exact bodyPost_ret (v:=.tuple #[.pointer none,.agg #[.int .i64 E,.int .i64 I]]) (by simp [results,Tryz.results6,go_sem,c0,c1]) rfl (HBAD.out _ HFIN.out.drew))
 ·subst hE
  have HPB:Hid (PlanB p):=HIs.out.bounds
  have hn1':1≤p.n:=by have:=HPB.out.n1;unfold PlanN.n;omega
  have hn16:p.n≤16:=by have:=HPB.out.n2;unfold PlanN.n;omega
  have hnn:p.nodes=(p.n:Int):=by have:=HPB.out.n1;unfold PlanN.n;omega
  rw [hnn] at y0
  obtain ⟨N,hN⟩:∃ N,p.n=N:=⟨_,rfl⟩
  have HN:Hid (p.n=N):=hN
  have HNN:Hid (p.nodes=(p.n:Int)):=hnn
  rw [hN] at y0 hn1' hn16
  have hpw:1≤(2:Int) ^ N∧(2:Int) ^ N≤65536:=npow17 N hn16
  have hca:=in_is fa 0 (2 ^ N - 1) v2
  have HI1:Hid (I = -1):=HIs.out.neg
  have HIS:Hid (p.Is 0 (-1)):=HI1.out▸HIs.out
  clear hN hnn
  by_cases hk:0≤fa∧fa≤2 ^ N - 1
  rotate_left
  ·rw [decide_eq_false hk] at hca
   have HNO:Hid (NewIs p fa cs 1 (-1)):=.inr ⟨HIS.out,rfl,.inl ⟨fun y=>hk ⟨y.1,by have:=y.2.1;rw [HN.out] at this;omega⟩,rfl⟩⟩
   go_wp2_with fail
   refine hca.mono ?_
   rintro ev u2 ⟨rfl,hu2⟩
   replace hu2:=hu2.symm
   subst hu2
   clear hca
   go_wp2_with fail
   refine (refBare_any 1 _).mono ?_
   rintro ev u9 ⟨rfl,hb9⟩
   have g0:=keep_cell x0 hb9
   have g1:=keep_cell x1 hb9
   have k0:=(hb9.frozen (p:=⟨w.heap.size+1,0,none⟩) hlv).trans q0
   have k1:=(hb9.frozen (p:=⟨w.heap.size+1,1,none⟩) hlv).trans q1
   obtain ⟨c0,c1,hT⟩:=fput (E:=.int .i64 1) (I:=.int .i64 (-1)) g0 g1
   have HFIN:Hid (Below w.heap.size w ((u9.setCell ⟨w.heap.size+1,0,none⟩ (.int .i64 1)).setCell ⟨w.heap.size+1,1,none⟩ (.int .i64 (-1)))):=(btr HBw2.out hb9).trans (hT.below (Nat.le_trans (Nat.le_of_lt hlv0) hb9.size) (Nat.le_succ _) (Nat.le_succ _))
   clear hT hb9
   go_wp2
   exact bodyPost_ret (v:=.tuple #[.pointer none,.agg #[.int .i64 1,.int .i64 (-1)]]) (by simp [results,Tryz.results6,go_sem,c0,c1]) rfl (RNewPost.bad HNO.out (by decide) HFIN.out)
  ·rw [decide_eq_true hk] at hca
   have HFA:Hid (0≤fa∧fa<2 ^ p.n):=⟨hk.1,by rw [HN.out];omega⟩
   go_wp2_with fail
   refine hca.mono ?_
   rintro ev u2 ⟨rfl,hu2⟩
   replace hu2:=hu2.symm
   subst hu2
   clear hca hk
   have y1:=(HB2.out.cell (p:=⟨w.heap.size,1,none⟩) hl0).trans b1
   have y2:=(HB2.out.cell (p:=⟨w.heap.size,2,none⟩) hl0).trans b2
   have y3:=(HB2.out.cell (p:=⟨w.heap.size,3,none⟩) hl0).trans b3
   have y4:=(HB2.out.cell (p:=⟨w.heap.size,4,none⟩) hl0).trans b4
   have y5:=(HB2.out.cell (p:=⟨w.heap.size,5,none⟩) hl0).trans b5
   have y6:=(HB2.out.cell (p:=⟨w.heap.size,6,none⟩) hl0).trans b6
   have y7:=(HB2.out.cell (p:=⟨w.heap.size,7,none⟩) hl0).trans b7
   have y8:=(HB2.out.cell (p:=⟨w.heap.size,8,none⟩) hl0).trans b8
   have y9:=(HB2.out.cell (p:=⟨w.heap.size,9,none⟩) hl0).trans b9
   have hro:=HIn.out.2.1.below HBw2.out
   go_wp2_with fail
   refine rn_made _ (by rfl) _ w.heap.size n cap fa ca cs N p.faulty p.skew p.jitter p.drift p.round p.frame a.sa p.ns a.sc a.la p.nl a.lc a.wa p.nw a.wc v2 HLEN.out hcl hro y0 y1 y2 y3 y4 y5 y6 y7 y8 y9 rfl rfl rfl rfl ?_
   intro L2 C ccap tb pb ca2 clk v3 hM hN9 hQ9 t9
   obtain ⟨gL,rfl⟩:=hQ9.over (hN9.trans rfl)
   clear hQ9 hN9
   simp (decide:=true) only [ov,if_true,if_false,Nat.reduceAdd] at t9 ⊢
   replace t9:=Option.some.inj t9
   rw [t9]
   clear t9
   have hMs:=hM.bel.size
   have HM:Hid (Made v2 v3 C (madeL N p.faulty p.skew p.jitter p.drift p.round p.frame a.sa p.ns a.sc a.la p.nl a.lc a.wa p.nw a.wc fa ca2 n ccap tb pb) cs ca2 ccap clk tb pb):=hM
   have HBw3:Hid (Below w.heap.size w v3):=btr HBw2.out hM.bel
   have z0:=keep_cell y0 hM.bel
   have hPC:w.heap.size≠C:=by have:=hM.lC;omega
   have hnm:=hM.nm (p:=p) (Z:=zOf p a) (fun c hc=>Nat.lt_of_lt_of_le (zOf_lt HIn.out.1 hc) HBw2.out.size)
   have e10:=hM.cel 10 _ rfl
   rw [← HN.out] at z0 hn1' hn16
   have z1:=keep_cell y1 hM.bel
   have z2:=keep_cell y2 hM.bel
   have z7:=keep_cell y7 hM.bel
   have t0:=keep_cell x0 hM.bel
   have t1:=keep_cell x1 hM.bel
   have s0:=(hM.bel.frozen (p:=⟨w.heap.size+1,0,none⟩) hlv).trans q0
   have s1:=(hM.bel.frozen (p:=⟨w.heap.size+1,1,none⟩) hlv).trans q1
   have hCv:=hM.lC
   have hTv:=hM.lt
   have HMAP:Hid (∃ m0,map0 a.sa a.sc a.la a.lc ca2 ccap tb pb=m0):=⟨_,rfl⟩
   clear hM hro y0 y1 y2 y3 y4 y5 y6 y7 y8 y9 x0 x1 q0 q1 f0 f1 b0 b1 b2 b3 b4 b5 b6 b7 b8 b9 r0 r1 rz hv2 hV hs2
   go_wp2_with fail
   refine rn_node _ (by rfl) _ v2.heap.size (zOf p a) C w.heap.size p fa (fun q=>v3.cell? ⟨C,q,none⟩) clk (map0 a.sa a.sc a.la a.lc ca2 ccap tb pb) v3 hn1' hn16 e10 z0 hPC hnm rfl rfl rfl rfl rfl rfl ?_
   intro L2 v4 hm4 hT4 hN9 hQ9 t10 t44
   obtain ⟨gL,rfl⟩:=hQ9.over (hN9.trans rfl)
   clear hQ9 hN9
   simp (decide:=true) only [ov,if_true,if_false,Nat.reduceAdd] at t10 t44 ⊢
   replace t10:=Option.some.inj t10
   replace t44:=Option.some.inj t44
   rw [t10,t44]
   clear t10 t44
   have hs4:=hT4.size
   have HT4:Hid (Turns C C v3 v4):=hT4
   have HM4:Hid (NMy v3 v4 v2.heap.size (zOf p a) C p (fun q=>v3.cell? ⟨C,q,none⟩) clk (map0 a.sa a.sc a.la a.lc ca2 ccap tb pb) p.n):=hm4
   have HBw4:Hid (Below w.heap.size w v4):=HBw3.out.trans (hT4.below (by omega) (by omega) (by omega))
   have hlP:w.heap.size<v3.heap.size:=by omega
   have hlR:w.heap.size+1<v3.heap.size:=by omega
   have hRC:w.heap.size+1≠C:=by omega
   have d0:=(hT4.cell (p:=⟨w.heap.size,0,none⟩) hlP hPC hPC).trans z0
   have d1:=(hT4.cell (p:=⟨w.heap.size,1,none⟩) hlP hPC hPC).trans z1
   have d2:=(hT4.cell (p:=⟨w.heap.size,2,none⟩) hlP hPC hPC).trans z2
   have d7:=(hT4.cell (p:=⟨w.heap.size,7,none⟩) hlP hPC hPC).trans z7
   have p0:=(hT4.cell (p:=⟨w.heap.size+1,0,none⟩) hlR hRC hRC).trans t0
   have p1:=(hT4.cell (p:=⟨w.heap.size+1,1,none⟩) hlR hRC hRC).trans t1
   have l0:=(hT4.frozen (p:=⟨w.heap.size+1,0,none⟩) hlR hRC hRC).trans s0
   have l1:=(hT4.frozen (p:=⟨w.heap.size+1,1,none⟩) hlR hRC hRC).trans s1
   have hlv4:w.heap.size+1<v4.heap.size:=by omega
   have hlv40:w.heap.size<v4.heap.size:=by omega
   obtain ⟨f,hf⟩:∃ f:Nat,p.faulty=f:=⟨p.faulty.toNat,by have:=HPB.out.f0;omega⟩
   have HF:Hid (p.faulty=(f:Int)):=hf
   rw [hf] at d1
   have HCT:Hid (∃ CT,(List.range p.n).countP (bitI fa)=CT):=⟨_,rfl⟩
   clear hT4 hm4 hnm e10 hs4 z0 z1 z2 z7 t0 t1 s0 s1 hf
   obtain ⟨CT,hct⟩:=HCT.out
   rw [hct]
   have HC:Hid ((List.range p.n).countP (bitI fa)=CT):=hct
   clear hct HCT
   by_cases hmany:f<CT
   ·have km:(f:Int)<(CT:Int):=by omega
    have HNO:Hid (NewIs p fa cs 1 (-1)):=.inr ⟨HIS.out,rfl,.inl ⟨fun y=>by have:=y.2.2;rw [HC.out,HF.out] at this;simp at this;omega,rfl⟩⟩
    go_wp2_with fail
    refine (refBare_any 1 _).mono ?_
    rintro ev u9 ⟨rfl,hb9⟩
    have g0:=keep_cell p0 hb9
    have g1:=keep_cell p1 hb9
    have k0:=(hb9.frozen (p:=⟨w.heap.size+1,0,none⟩) hlv4).trans l0
    have k1:=(hb9.frozen (p:=⟨w.heap.size+1,1,none⟩) hlv4).trans l1
    obtain ⟨c0,c1,hT⟩:=fput (E:=.int .i64 1) (I:=.int .i64 (-1)) g0 g1
    have HFIN:Hid (Below w.heap.size w ((u9.setCell ⟨w.heap.size+1,0,none⟩ (.int .i64 1)).setCell ⟨w.heap.size+1,1,none⟩ (.int .i64 (-1)))):=(btr HBw4.out hb9).trans (hT.below (Nat.le_trans (Nat.le_of_lt hlv40) hb9.size) (Nat.le_succ _) (Nat.le_succ _))
    clear hT hb9
    go_wp2
    exact bodyPost_ret (v:=.tuple #[.pointer none,.agg #[.int .i64 1,.int .i64 (-1)]]) (by simp [results,Tryz.results6,go_sem,c0,c1]) rfl (RNewPost.bad HNO.out (by decide) HFIN.out)
   ·have km:decide ((f:Int)<(CT:Int))=false:=decide_eq_false (by omega)
    have km2:decide (f<CT)=false:=decide_eq_false hmany
    have HOK1:Hid (0≤fa∧fa<2 ^ p.n∧(List.range p.n).countP (bitI fa)≤p.faulty.toNat):=⟨HFA.out.1,HFA.out.2,by rw [HC.out,HF.out];simp;omega⟩
    clear hmany
    by_cases hln:n=p.n
    rotate_left
    ·have kl:((n:Int) != (p.n:Int))=true:=by simp;omega
     have HNO:Hid (NewIs p fa cs 7 (-1)):=.inr ⟨HIS.out,rfl,.inr ⟨HOK1.out,.inl ⟨by rw [HLEN.out];exact hln,rfl⟩⟩⟩
     go_wp2_with fail
     refine (refBare_any 7 _).mono ?_
     rintro ev u9 ⟨rfl,hb9⟩
     have g0:=keep_cell p0 hb9
     have g1:=keep_cell p1 hb9
     have k0:=(hb9.frozen (p:=⟨w.heap.size+1,0,none⟩) hlv4).trans l0
     have k1:=(hb9.frozen (p:=⟨w.heap.size+1,1,none⟩) hlv4).trans l1
     obtain ⟨c0,c1,hT⟩:=fput (E:=.int .i64 7) (I:=.int .i64 (-1)) g0 g1
     have HFIN:Hid (Below w.heap.size w ((u9.setCell ⟨w.heap.size+1,0,none⟩ (.int .i64 7)).setCell ⟨w.heap.size+1,1,none⟩ (.int .i64 (-1)))):=(btr HBw4.out hb9).trans (hT.below (Nat.le_trans (Nat.le_of_lt hlv40) hb9.size) (Nat.le_succ _) (Nat.le_succ _))
     clear hT hb9
     go_wp2
     exact bodyPost_ret (v:=.tuple #[.pointer none,.agg #[.int .i64 7,.int .i64 (-1)]]) (by simp [results,Tryz.results6,go_sem,c0,c1]) rfl (RNewPost.bad HNO.out (by decide) HFIN.out)
    ·have kl:((n:Int) != (p.n:Int))=false:=by simp [hln]
     have HLN:Hid (cs.length=p.n):=HLEN.out.trans hln
     have hro4:=HIn.out.2.1.below HBw4.out
     clear hln
     go_wp2_with fail
     refine rn_clk _ (by rfl) _ (w.heap.size+1) n ca cap cs v4 HLEN.out (by omega) hro4 p0 p1 l0 l1 rfl rfl rfl rfl rfl rfl ?_ ?_
     rotate_left
     ·intro L2 wr hno hcl9 hT9 hN9 hQ9
      obtain ⟨gL,rfl⟩:=hQ9.over (hN9.trans rfl)
      clear hQ9 hN9
      simp (decide:=true) only [ov,if_true,if_false,Nat.reduceAdd]
      have HFIN:Hid (Below w.heap.size w wr):=HBw4.out.trans (hT9.below (by omega) (by omega) (by omega))
      have HNO:Hid (NewIs p fa cs 2 (-1)):=.inr ⟨HIS.out,rfl,.inr ⟨HOK1.out,.inr ⟨HLN.out,.inl ⟨fun y=>hno y.1,rfl⟩⟩⟩⟩
      obtain ⟨c0,c1⟩:=hcl9
      clear hT9 hno
      go_wp2
      exact bodyPost_ret (v:=.tuple #[.pointer none,.agg #[.int .i64 2,.int .i64 (-1)]]) (by simp [results,Tryz.results6,go_sem,c0,c1]) rfl (RNewPost.bad HNO.out (by decide) HFIN.out)
     ·intro L2 wr hall hwr hN9 hQ9 t83
      obtain ⟨gL,rfl⟩:=hQ9.over (hN9.trans rfl)
      clear hQ9 hN9
      simp (decide:=true) only [ov,if_true,if_false,Nat.reduceAdd] at t83 ⊢
      replace t83:=Option.some.inj t83
      rw [t83]
      clear t83
      replace hwr:=hwr.symm
      subst hwr
      have HALL:Hid (∀ c∈cs,-274877906944≤c∧c≤274877906944):=hall
      have HSP:Hid (∀ u,Below v4.heap.size v4 u→Calls Tryz.prog 17 #[.pointer (some ⟨C,0,none⟩)] u fun e w'=>e=.returned (.int .i64 (spreadL (rightOf fa cs)))∧Below u.heap.size u w'):=fun u hu=>by
       obtain ⟨V12,hx,_⟩:=HM4.out
       have hc10:=(hx.celq 10 (by decide) (by decide)).trans (HM.out.cel 10 _ rfl)
       have hc11:=(hx.celq 11 (by decide) (by decide)).trans (HM.out.cel 11 _ rfl)
       refine refCSpread_any C fa ca2 ccap cs u (keep_cell hc10 hu) (by rw [HLEN.out];exact keep_cell hc11 hu) (fun h0=>?_) (by rw [HLN.out];exact hn16) HALL.out
       obtain ⟨b,e,hb,hc⟩:=HM.out.row h0
       have hk:=HM.out.lk b hb
       have hb4:b<v4.heap.size:=Nat.lt_of_lt_of_le hk.2.1 HT4.out.size
       exact ⟨b,0,e,Nat.lt_of_lt_of_le hb4 hu.size,fun j hj=>by rw [Nat.zero_add];exact keep_cell ((HT4.out.cell (p:=⟨b,j,none⟩) hk.2.1 hk.2.2.2.2 hk.2.2.2.2).trans (hc j hj)) hu⟩
      obtain ⟨SP,hsp⟩:∃ SP,spreadL (rightOf fa cs)=SP:=⟨_,rfl⟩
      have HS:Hid (spreadL (rightOf fa cs)=SP):=hsp
      rw [hsp] at HSP
      clear hall hsp hro4
      go_wp2_with fail
      refine wp_region_noPanic ?_
      go_region_held3 (fun u=>u.cell? ⟨w.heap.size,2,none⟩=some (.int .i64 p.skew)) (go_keep) (first
       | (go_at_call 17;refine (HSP.out _ (by repeat (first | exact Below.refl _ _ | refine Below.drew ?_))).mono ?_;rintro ev v5 ⟨rfl,hb5⟩;have HB5:Hid (Below v4.heap.size v4 v5):=btr (by repeat (first | exact Below.refl _ _ | refine Below.drew ?_)) hb5;have d25:=keep_cell d2 HB5.out;clear hb5))
      refine NoPanic.normal ?_
      have e0:=keep_cell p0 HB5.out
      have e1:=keep_cell p1 HB5.out
      have o0:=(HB5.out.frozen (p:=⟨w.heap.size+1,0,none⟩) hlv4).trans l0
      have o1:=(HB5.out.frozen (p:=⟨w.heap.size+1,1,none⟩) hlv4).trans l1
      have d05:=keep_cell d0 HB5.out
      have d75:=keep_cell d7 HB5.out
      have hs5:=HB5.out.size
      have hlv5:w.heap.size+1<v5.heap.size:=by omega
      have hlv50:w.heap.size<v5.heap.size:=by omega
      have HBw5:Hid (Below w.heap.size w v5):=btr HBw4.out HB5.out
      clear d0 d1 d2 d7 p0 p1 l0 l1 d25
      by_cases hsk:p.skew<SP
      ·have HNO:Hid (NewIs p fa cs 2 (-1)):=.inr ⟨HIS.out,rfl,.inr ⟨HOK1.out,.inr ⟨HLN.out,.inl ⟨fun y=>by have:=y.2;rw [HS.out] at this;omega,rfl⟩⟩⟩⟩
       go_wp2_with fail
       refine (refBare_any 2 _).mono ?_
       rintro ev u9 ⟨rfl,hb9⟩
       have g0:=keep_cell e0 hb9
       have g1:=keep_cell e1 hb9
       have k0:=(hb9.frozen (p:=⟨w.heap.size+1,0,none⟩) hlv5).trans o0
       have k1:=(hb9.frozen (p:=⟨w.heap.size+1,1,none⟩) hlv5).trans o1
       obtain ⟨c0,c1,hT⟩:=fput (E:=.int .i64 2) (I:=.int .i64 (-1)) g0 g1
       have HFIN:Hid (Below w.heap.size w ((u9.setCell ⟨w.heap.size+1,0,none⟩ (.int .i64 2)).setCell ⟨w.heap.size+1,1,none⟩ (.int .i64 (-1)))):=(btr HBw5.out hb9).trans (hT.below (Nat.le_trans (Nat.le_of_lt hlv50) hb9.size) (Nat.le_succ _) (Nat.le_succ _))
       clear hT hb9
       go_wp2
       exact bodyPost_ret (v:=.tuple #[.pointer none,.agg #[.int .i64 2,.int .i64 (-1)]]) (by simp [results,Tryz.results6,go_sem,c0,c1]) rfl (RNewPost.bad HNO.out (by decide) HFIN.out)
      ·have ksk:decide (p.skew<SP)=false:=decide_eq_false hsk
       have HNEW:Hid (NewIs p fa cs 0 (-1)):=.inr ⟨HIS.out,rfl,.inr ⟨HOK1.out,.inr ⟨HLN.out,.inr ⟨⟨HALL.out,by rw [HS.out];omega⟩,rfl⟩⟩⟩⟩
       obtain ⟨V12,hx4,_⟩:=HM4.out
       have hx5:=hx4.links0.below HB5.out
       have hPT:w.heap.size≠tb:=by omega
       have HROW:Hid (0<p.nl→∃ b off,a.la=some ⟨b,off,none⟩∧(b<v5.heap.size∧b≠C∧b≠tb)∧∀ i,i<p.nl→v5.cell? ⟨b,off+i*4,none⟩=some (.int .i64 (p.lf i))∧v5.cell? ⟨b,off+i*4+1,none⟩=some (.int .i64 (p.lt i))∧v5.cell? ⟨b,off+i*4+2,none⟩=some (.int .i64 (p.lb i))∧v5.cell? ⟨b,off+i*4+3,none⟩=some (.int .i64 (p.lq i))):=fun h0=>by
        obtain ⟨b,off,e,hb,hc⟩:=HIn.out.1.links h0
        obtain ⟨b',off',e',hb',hc'⟩:=(HIn.out.1.below HBw5.out).links h0
        have q:=e.symm.trans e'
        injection q with q
        injection q with q1 q2
        subst q1 q2
        exact ⟨b,off,e,⟨hb',by omega,by omega⟩,hc'⟩
       have HFR:Hid (∀ V13,NMx v5 v2.heap.size (zOf p a) C p (fun q=>v3.cell? ⟨C,q,none⟩) clk (map0 a.sa a.sc a.la a.lc ca2 ccap tb pb) p.n 0 (tkB p.n 0 0) V12 V13→V13.ownBlock=none):=fun V13 h=>by
        have:=h.c13.symm.trans hx5.c13
        injection this with this
        rw [this];rfl
       have HZ5:Hid (NMz v5 v2.heap.size (zOf p a) C p (fun q=>v3.cell? ⟨C,q,none⟩) clk (map0 a.sa a.sc a.la a.lc ca2 ccap tb pb) V12 0):=⟨_,hx5⟩
       have e14:=HM.out.cel 14 _ rfl
       have hnl8:p.nl≤8:=HPB.out.nl
       clear hx4 hx5 ksk
       go_wp2_with fail
       refine rn_link _ (by rfl) _ v2.heap.size (zOf p a) C w.heap.size p (fun q=>v3.cell? ⟨C,q,none⟩) clk (map0 a.sa a.sc a.la a.lc ca2 ccap tb pb) V12 a.la a.lc v5 hn16 hnl8 e14 d05 hPC hPT HROW.out HZ5.out HFR.out rfl rfl rfl rfl rfl rfl ?_
       intro L2 v6 hz6 hT6 hN9 hQ9 t101
       obtain ⟨gL,rfl⟩:=hQ9.over (hN9.trans rfl)
       clear hQ9 hN9
       simp (decide:=true) only [ov,if_true,if_false,Nat.reduceAdd] at t101 ⊢
       replace t101:=Option.some.inj t101
       rw [t101]
       clear t101
       have hs6:=hT6.size
       have HBw6:Hid (Below w.heap.size w v6):=HBw5.out.trans (hT6.below (by omega) (by omega) (by show w.heap.size≤tb;omega))
       have hRT:w.heap.size+1≠tb:=by omega
       have i0:=(hT6.cell (p:=⟨w.heap.size+1,0,none⟩) hlv5 hRC hRT).trans e0
       have i1:=(hT6.cell (p:=⟨w.heap.size+1,1,none⟩) hlv5 hRC hRT).trans e1
       have j0:=(hT6.frozen (p:=⟨w.heap.size+1,0,none⟩) hlv5 hRC hRT).trans o0
       have j1:=(hT6.frozen (p:=⟨w.heap.size+1,1,none⟩) hlv5 hRC hRT).trans o1
       obtain ⟨O,m,hcl6,hO6⟩:=rn_done HM.out hz6 ((HT4.out.wide.trans (Turns.of_below HB5.out)).trans hT6) hn1' (by rw [HNN.out,HN.out]) HLEN.out (HIn.out.1.below HBw6.out) (fun c hc=>Nat.lt_of_lt_of_le (zOf_lt HIn.out.1 hc) HBw2.out.size)
       obtain ⟨fl,fi0,fi1⟩:=HIn.out.2.2.below HBw6.out
       obtain ⟨c0,c1,hT⟩:=fput (E:=.int .i64 0) (I:=.int .i64 (-1)) i0 i1
       have HFIN:Hid (RNewPost w p a fa cs (.returned (.tuple #[.pointer (some ⟨C,0,none⟩),.agg #[.int .i64 0,.int .i64 (-1)]])) ((v6.setCell ⟨w.heap.size+1,0,none⟩ (.int .i64 0)).setCell ⟨w.heap.size+1,1,none⟩ (.int .i64 (-1))).drew):=by
        have hBf:=(HBw6.out.trans (hT.below (by omega) (by omega) (by omega))).drew
        have hZl:∀ c,c∈zOf p a→c<w.heap.size:=fun c hc=>zOf_lt HIn.out.1 hc
        refine ⟨hBf,0,-1,HNEW.out,.inr ⟨rfl,O,zOf p a,C,m,rfl,hcl6.keep ?_ ?_,fun c hc=>Nat.le_trans HBw2.out.size (hO6 c hc),fun u hu c hc=>zOf_lt hu hc⟩⟩
        ·exact Same.of_turns (R:=w.heap.size+1) ⟨hT.os,hT.tape,hT.output,hT.size,hT.block⟩ hcl6.lt (fun c hc=>by have:=hO6 c hc;omega)
        ·exact Same.of_turns (R:=w.heap.size+1) ⟨hT.os,hT.tape,hT.output,hT.size,hT.block⟩ (fun c hc=>by have:=hZl c hc;omega) (fun c hc=>by have:=hZl c hc;omega)
       clear hT hcl6 hz6 hT6 e0 e1 o0 o1 d05 d75 hO6
       go_wp2_with fail
       go_region
       all_goals (
        go_wp2
        exact bodyPost_ret (v:=.tuple #[.pointer (some ⟨C,0,none⟩),.agg #[.int .i64 0,.int .i64 (-1)]]) (by simp [results,Tryz.results6,go_sem,c0,c1]) rfl HFIN.out)
end
end Go.Proofs.YtooadfgibdjdeaaGreatDoor
