import Derived.Test.YtooadfgibdjdeaaGreatDoorZPCluC2
import Derived.Test.YtooadfgibdjdeaaGreatDoorZPCluZ
import Derived.Test.YtooadfgibdjdeaaGreatDoorZS20a
namespace Go.Proofs.YtooadfgibdjdeaaGreatDoor
open Go.RowKit
set_option maxRecDepth 100000
set_option maxHeartbeats 16000000
section
theorem checkIs_some (nodes faulty skew jitter drift round frame:Int) (ns nl nw:Nat) (nd fr td lf lt lb lq:Nat→Int) (hit:Nat→Bool) (pw:Int) (wp wf wt:Nat→Int):∃ E I,CheckIs nodes faulty skew jitter drift round frame ns nl nw nd fr td lf lt lb lq hit pw wp wf wt E I:=by
 by_cases h:headErr nodes faulty skew jitter drift round frame ns nl nw=0
 ·obtain ⟨e1,i1,g1⟩:=FirstBad.any (slotErr nd fr td nodes skew round) ns
  obtain ⟨e2,i2,g2⟩:=FirstBad.any (linkErr lf lt lb lq hit nodes pw) nl
  obtain ⟨e3,i3,g3⟩:=FirstBad.any (winErr wp wf wt frame) nw
  by_cases z1:e1=0
  ·by_cases z2:e2=0
   ·by_cases z3:e3=0
    ·exact ⟨0,-1,.inr ⟨h,e1,i1,e2,i2,e3,i3,g1,g2,g3,fun q=>absurd z1 q,fun _ q=>absurd z2 q,fun _ _ q=>absurd z3 q,fun _ _ _=>⟨rfl,rfl⟩⟩⟩
    ·exact ⟨e3,2000+i3,.inr ⟨h,e1,i1,e2,i2,e3,i3,g1,g2,g3,fun q=>absurd z1 q,fun _ q=>absurd z2 q,fun _ _ _=>⟨rfl,rfl⟩,fun _ _ q=>absurd q z3⟩⟩
   ·exact ⟨e2,1000+i2,.inr ⟨h,e1,i1,e2,i2,e3,i3,g1,g2,g3,fun q=>absurd z1 q,fun _ _=>⟨rfl,rfl⟩,fun _ q=>absurd q z2,fun _ q=>absurd q z2⟩⟩
  ·exact ⟨e1,i1,.inr ⟨h,e1,i1,e2,i2,e3,i3,g1,g2,g3,fun _=>⟨rfl,rfl⟩,fun q=>absurd q z1,fun q=>absurd q z1,fun q=>absurd q z1⟩⟩
 ·exact ⟨_,-1,.inl ⟨h,rfl,rfl⟩⟩
theorem cchk (p:PlanN) (a:PlanAt) (w:World) (h:p.In a w):∃ E I,p.Is E I∧Calls Tryz.prog 22 #[p.val a] w fun e w'=>∃ V,e=.returned V∧ErrIs w' V E I∧Below w.heap.size w w':=by
 obtain ⟨E,I,hC⟩:=checkIs_some p.nodes p.faulty p.skew p.jitter p.drift p.round p.frame p.ns p.nl p.nw p.nd p.fr p.td p.lf p.lt p.lb p.lq (fun j=>bitI (p.lt j) (p.lf j).toNat) (2 ^ p.nodes.toNat) p.wp p.wf p.wt
 exact ⟨E,I,hC,check_any p.nodes p.faulty p.skew p.jitter p.drift p.round p.frame a.sa a.la a.wa p.ns a.sc p.nl a.lc p.nw a.wc p.nd p.fr p.td p.lf p.lt p.lb p.lq _ _ p.wp p.wf p.wt E I w h.slots h.links h.wins rfl (fun j h0 h1=>(bit_and (p.lt j) (by omega)).symm) hC⟩
def Clu (w:World) (O:List Nat) (C:Nat) (p:PlanN) (fa:Int) (cs:List Int) (s:ClS) (rd:Int) (T:Nat):Prop :=
 (∃ m,Cl w O C p fa cs s rd (2600*T+1) m)∧CluOk p fa cs∧0≤rd∧rd≤T
theorem clu_nn {p:PlanN} {fa:Int} {cs:List Int} (h:CluOk p fa cs):p.nodes=(p.n:Int):=by
 have:=h.plan.bounds.n1
 show p.nodes=(p.nodes.toNat:Int)
 omega
theorem cluOps:CluOps Clu where
 chk:=cchk
 ok:=fun h=>h.2
 lt:=fun h=>by obtain ⟨⟨m,h⟩,_⟩:=h;exact h.lt
 keep:=fun h k=>by obtain ⟨⟨m,h⟩,q⟩:=h;exact ⟨⟨m,h.keep k⟩,q⟩
 new:=fun p a fa ca cap cs w h1 h2 _ h4 h5=>(cnew_any cchk p a fa ca cap cs w h1 h2 h4 h5).mono fun e w' ⟨hB,K,I,hN,h⟩=>by
  refine ⟨hB,K,I,hN,?_⟩
  rcases h with h | ⟨rfl,O,C,m,he,hC,hO⟩
  ·exact .inl h
  ·exact .inr ⟨rfl,O,C,he,⟨⟨m,hC⟩,hN.ok,Int.le_refl _,Int.le_refl _⟩,hO⟩
 play:=fun {w O C p fa cs s rd T} r a h hT hr hm=>by
  obtain ⟨⟨m,h⟩,hok,h0,h1⟩:=h
  refine (cplay_any h hok h0 (by omega) (by omega) (by omega) r a hr hm).mono fun e w' ⟨O',hf,hh⟩=>⟨O',hf,?_⟩
  rcases hh with ⟨q,he,hC⟩ | ⟨q,he,m',hC⟩
  ·exact .inl ⟨q,he,⟨⟨m,hC⟩,hok,h0,h1⟩⟩
  ·exact .inr ⟨q,he,⟨⟨m',hC.more (by omega)⟩,hok.next r q,by omega,by omega⟩⟩
 put_bad:=fun k d h hk=>by obtain ⟨⟨m,h⟩,_⟩:=h;exact cput_bad h k d hk
 put:=fun {w O C p fa cs s rd T} k d h hT hk=>by
  obtain ⟨⟨m,h⟩,hok,h0,h1⟩:=h
  refine (cput_any h k d hk (by omega)).mono fun e w' ⟨he,O',hf,hC⟩=>⟨he,O',hf,⟨⟨m,hC.more (by omega)⟩,hok,h0,by omega⟩⟩
 recv_bad:=fun j k h hb=>by obtain ⟨⟨m,h⟩,hok,_⟩:=h;exact crecv_bad h (clu_nn hok) j k hb
 recv:=fun j k h hj hk hb=>by
  obtain ⟨⟨m,h⟩,hok,h0,h1⟩:=h
  refine (crecv_any h j k hj (clu_nn hok) hk hb).mono fun e w' ⟨he,O',hf,hC⟩=>⟨he,O',hf,⟨⟨m,hC⟩,hok,h0,h1⟩⟩
 spread:=fun {w O C p fa cs s rd T} h=>by
  obtain ⟨⟨m,h⟩,hok,_⟩:=h
  have hn16:=hok.plan.bounds.n2
  have hb:=h.base
  have hl:=hok.len
  exact cspread_any C fa (some ⟨m.cb,0,none⟩) m.ccap cs w hb.c10 hb.c11 (fun _=>⟨m.cb,0,rfl,hb.lx _ hb.ckX,fun j hj=>by rw [Nat.zero_add];exact hb.ck j hj⟩) (by rw [hl];unfold PlanN.n;omega) hok.inn
 rounds:=fun h=>by
  obtain ⟨⟨m,h⟩,_⟩:=h
  exact (crounds_any _ _ _ h.base.c12).mono fun e w' ⟨h1,h2⟩=>⟨h1,by rw [h2];exact Below.refl _ _⟩
end
section
section
variable {w:World} {O Z:List Nat} {C:Nat} {p:PlanN} {fa:Int} {cs:List Int} {s:ClS} {rd:Int} {B:Nat} {m:RMap}
theorem InRC.part2 {V wr:World} {s':ClS} {B':Nat} (h:InRC O V wr Z C p fa cs s' rd B' m):∃ O1,RCl wr O1 Z C p fa cs s' rd B' m∧(∀ b,b<V.heap.size→b∉O→b∉O1)∧∀ (w':World) (s2:ClS) (B2:Nat),InRC O1 wr w' Z C p fa cs s2 rd B2 m→InRC O V w' Z C p fa cs s2 rd B2 m:=by
 obtain ⟨O1,hF,hc⟩:=h
 refine ⟨O1,hc,fun b hb hn y=>?_,fun w' s2 B2 ⟨O2,h2,c2⟩=>⟨O2,hF.trans h2,c2⟩⟩
 rcases hF.fresh b y with q | q
 ·exact hn q
 ·omega
theorem hearTo_skip {who:Nat} {mem:Int} {mk:Option (Nat × Int × ByteArray)} {sent:Bool} {l0 l1:Int} {j:Nat} (h:j=who):s.hearTo p who mem mk sent l0 l1 (j+1)=s.hearTo p who mem mk sent l0 l1 j:=if_pos h
theorem hearTo_step {who:Nat} {mem:Int} {mk:Option (Nat × Int × ByteArray)} {sent:Bool} {l0 l1:Int} {j:Nat} (h:j≠who):s.hearTo p who mem mk sent l0 l1 (j+1)=(if cameB sent l0 l1 j 2=true then (s.hearTo p who mem mk sent l0 l1 j).takeM p mk j else s.hearTo p who mem mk sent l0 l1 j).setNode j ((s.nodes j).hears j p.n who (if cameB sent l0 l1 j 2=true then judgeV p.n (s.nodes j).t (tb mem) who mem else 0)):=if_neg h
def w_rp_node_0 (k:Nat):Bool:=(decide (35≤k) && decide (k≤38)) || (decide (40≤k) && decide (k≤41)) || (decide (325≤k) && decide (k≤439))
theorem rp_node (body:Code) (hbody:(Tryz.f10.body.map loopsIn).bind (fun l=>l[6]?)=some body) (Q:Exit→Act→World→Prop) (h:RCl w O Z C p fa cs s rd B m) (i who:Nat) (mem:Int) (mk:Option (Nat × Int × ByteArray)) (LK SQ:Int) (SD:ByteArray) (hLK:LK=msgLk mk∧SQ=msgSeq mk∧SD=msgDat mk) (sent:Bool) (l0 l1:Int) (SB:Nat) (la:Option Addr) (nL lc:Nat) (ls lch lt:Nat→Int)
  (hn1:1≤p.n) (hn:p.n≤16) (hnl:p.nl≤8) (hB:B≤999800) (hmk:MsgIn p mk) (hSB:SB<w.heap.size) (hSO:SB∉O) (sb0:w.cell? ⟨SB,0,none⟩=some (.int .i64 who)) (hr:Rows3 w la nL ls lch lt) (hrO:∀ b off,la=some ⟨b,off,none⟩→b∉O) (hrL:∀ b off,la=some ⟨b,off,none⟩→b<w.heap.size) (hL:nL≤9223372036854775807)
  (hlo:∀ j,j<p.n→∀ c,c<2→lostB ls lch lt nL i c j=bitI (if c=0 then l0 else l1) j) {L:List Value} (hL0:L.length=452) (s0:L[0]? = some (.pointer (some ⟨C,0,none⟩))) (s1:L[1]? = some (.slice la nL lc)) (s21:L[21]? = some (.int .i64 i)) (s22:L[22]? = some (.pointer (some ⟨SB,0,none⟩))) (s24:L[24]? = some (.int .i64 mem)) (s25:L[25]? = some (.bool sent)) (s27:L[27]? = some (.int .i64 LK)) (s28:L[28]? = some (.int .i64 SQ)) (s29:L[29]? = some (.string SD)) (s324:L[324]? = some (.int .i64 p.n)) (s325:L[325]? = some (.int .i64 0))
  (hexit:∀ (L':List Value) (wr:World),InRC O w wr Z C p fa cs (s.hearTo p who mem mk sent l0 l1 p.n) rd (B+4*p.n) m→L'.length=452→Rest w_rp_node_0 L L'→L'[325]? = some (.int .i64 p.n)→Q (.exit 12) ⟨L'.toArray,[]⟩ wr) :
  Code.wp Tryz.prog (Code.loop body) Q ⟨L.toArray,[]⟩ w:=by
 have hb2:((Tryz.f10.body.map loopsIn).bind (fun l=>l[6]?)).getD Code.skip=body:=by rw [hbody];rfl
 obtain rfl:=hb2
 clear hbody
 conv=>arg 2;arg 1;whnf
 have HEX:Hid _:=hexit
 obtain ⟨fL,rfl⟩:=lit L 452 hL0
 replace s0:=lit_at s0
 replace s1:=lit_at s1
 replace s21:=lit_at s21
 replace s22:=lit_at s22
 replace s24:=lit_at s24
 replace s25:=lit_at s25
 replace s27:=lit_at s27
 replace s28:=lit_at s28
 replace s29:=lit_at s29
 replace s324:=lit_at s324
 replace s325:=lit_at s325
 simp only [List.range,List.range.loop,List.map_cons,List.map_nil,s0,s1,s21,s22,s24,s25,s27,s28,s29,s324,s325]
 have HR:Hid (Rows3 w la nL ls lch lt):=hr
 have HRO:Hid (∀ b off,la=some ⟨b,off,none⟩→b∉O):=hrO
 have HRL:Hid (∀ b off,la=some ⟨b,off,none⟩→b<w.heap.size):=hrL
 have HLO:Hid (∀ j,j<p.n→∀ c,c<2→lostB ls lch lt nL i c j=bitI (if c=0 then l0 else l1) j):=hlo
 have HMK:Hid (MsgIn p mk):=hmk
 have HLK:Hid (LK=msgLk mk∧SQ=msgSeq mk∧SD=msgDat mk):=hLK
 have HH:Hid (RCl w O Z C p fa cs s rd B m):=h
 have HSO:Hid (SB∉O):=hSO
 clear hexit hr hrO hrL hlo hmk h hSO hLK
 go_loopw [325] (fun t wr=>∃ J:Nat,J≤p.n∧t=.int .i64 J∧Hid (InRC O w wr Z C p fa cs (s.hearTo p who mem mk sent l0 l1 J) rd (B+4*J) m)) (fun t _=>p.n - (intOf t).toNat)
 case atStart=>exact ⟨0,Nat.zero_le _,rfl,O,Foot.refl _ _,HH.out⟩
 case round =>
  obtain ⟨J,hJ,rfl,hin⟩:=hrel
  have hs0:=hin.out.size
  have hsb:wr.cell? ⟨SB,0,none⟩=some (.int .i64 who):=(hin.out.box hSB HSO.out 0).trans sb0
  have hSBr:SB<wr.heap.size:=by omega
  by_cases hlt:J<p.n
  ·have jj:(J:Int)<(p.n:Int):=by omega
   by_cases hw:J=who
   ·have HST:Hid (s.hearTo p who mem mk sent l0 l1 (J+1)=s.hearTo p who mem mk sent l0 l1 J):=hearTo_skip hw
    subst hw
    go_wp2
    refine ⟨⟨J+1,by omega,by go_num,?_⟩,by simp [intOf];omega⟩
    rw [HST.out]
    exact hin.out.more (by omega)
   ·have HST:Hid (s.hearTo p who mem mk sent l0 l1 (J+1)=(if cameB sent l0 l1 J 2=true then (s.hearTo p who mem mk sent l0 l1 J).takeM p mk J else s.hearTo p who mem mk sent l0 l1 J).setNode J ((s.nodes J).hears J p.n who (if cameB sent l0 l1 J 2=true then judgeV p.n (s.nodes J).t (tb mem) who mem else 0))):=hearTo_step hw
    have HRN:Hid ((s.hearTo p who mem mk sent l0 l1 J).nodes J=s.nodes J):=hearTo_nodes J J (Nat.le_refl _)
    have k1:((J:Int) == (who:Int))=false:=by simp;omega
    have hr2:=hin.out.rows3 HR.out HRO.out
    obtain ⟨O1,hc1,hap,hback⟩:=hin.out.part2
    have HBK:Hid (∀ (w':World) (s2:ClS) (B2:Nat),InRC O1 wr w' Z C p fa cs s2 rd B2 m→InRC O w w' Z C p fa cs s2 rd B2 m):=hback
    have HRO2:Hid (∀ b off,la=some ⟨b,off,none⟩→b∉O1):=fun b off e=>hap b (HRL.out b off e) (HRO.out b off e)
    have HSO2:Hid (SB∉O1):=hap SB hSB HSO.out
    clear hback hap hw
    generalize s.hearTo p who mem mk sent l0 l1 J=R at *
    go_wp2_with fail
    refine rp_chan _ (by rfl) _ hc1 i J who mem mk LK SQ SD HLK.out sent l0 l1 SB la nL lc ls lch lt hlt hn1 hn hnl (by omega) HMK.out hSBr HSO2.out hsb hr2 HRO2.out hL (HLO.out J hlt) rfl rfl rfl rfl rfl rfl rfl rfl rfl rfl rfl rfl rfl ?_
    intro L2 w5 hI5 hN9 hQ9 t36 t332
    obtain ⟨gL,rfl⟩:=hQ9.over (hN9.trans rfl)
    clear hQ9 hN9
    simp (decide:=true) only [ov,if_true,if_false,Nat.reduceAdd] at t36 t332 ⊢
    replace t36:=Option.some.inj t36
    replace t332:=Option.some.inj t332
    rw [t36,t332]
    clear t36 t332
    have HI5:Hid (InRC O w w5 Z C p fa cs (if cameB sent l0 l1 J 2=true then R.takeM p mk J else R) rd (B+4*J+2) m):=HBK.out _ _ _ hI5
    rw [HRN.out]
    obtain ⟨WV,hWV⟩:∃ WV,(if cameB sent l0 l1 J 2=true then judgeV p.n (s.nodes J).t (tb mem) who mem else 0)=WV:=⟨_,rfl⟩
    have HN5:Hid ((if cameB sent l0 l1 J 2=true then R.takeM p mk J else R).nodes J=s.nodes J):=by
     show _=_
     split
     ·rw [takeM_nodes];exact HRN.out
     ·exact HRN.out
    rw [hWV] at HST
    rw [hWV]
    clear hWV hI5 hc1 hr2 hin
    generalize (if cameB sent l0 l1 J 2=true then R.takeM p mk J else R)=R5 at *
    have hs5:=HI5.out.size
    have y12:=HI5.out.base.c12
    have ynd:=HI5.out.base.nd J hlt
    have ynl:=HI5.out.base.lx _ HI5.out.base.ndX
    have lc5:=HI5.out.base.lc
    have ysb:w5.cell? ⟨SB,0,none⟩=some (.int .i64 who):=(HI5.out.box hSB HSO.out 0).trans sb0
    have hSB5:SB<w5.heap.size:=by omega
    have HHE:Hid (Calls Tryz.prog 47 #[.pointer (some ⟨m.P J,0,none⟩),.int .i64 who,.int .i64 WV] w5.drew fun e w'=>e=.returned (.tuple #[])∧InRC O w w' Z C p fa cs (R5.setNode J ((s.nodes J).hears J p.n who WV)) rd (B+4*J+2+1) m):=by
     have:=rhearsI (HI5.out.drawn 1) J hlt who WV hn1 hn (by omega)
     rw [HN5.out] at this
     exact this
    have HY:Hid (∀ (w':World) (s':ClS) (B':Nat),InRC O w w' Z C p fa cs s' rd B' m→(w'.cell? ⟨C,12,none⟩=some (.slice (some ⟨m.nb,0,none⟩) p.n m.ncap)∧w'.cell? ⟨m.nb,J,none⟩=some (.pointer (some ⟨m.P J,0,none⟩)))∧w'.cell? ⟨SB,0,none⟩=some (.int .i64 who)):=fun w' s' B' hi=>⟨⟨hi.base.c12,hi.base.nd J hlt⟩,(hi.box hSB HSO.out 0).trans sb0⟩
    go_wp2_with fail
    go_region_held3 (fun u=>u.cell? ⟨C,12,none⟩=some (.slice (some ⟨m.nb,0,none⟩) p.n m.ncap)∧u.cell? ⟨m.nb,J,none⟩=some (.pointer (some ⟨m.P J,0,none⟩))∧u.cell? ⟨SB,0,none⟩=some (.int .i64 who)) (go_keep) (first
     | (go_at_call 47;refine HHE.out.mono ?_;rintro ev w6 ⟨rfl,hI6⟩;obtain ⟨⟨y12b,yndb⟩,ysbb⟩:=HY.out w6 _ _ hI6))
    have HI6:Hid _:=hI6
    clear hI6
    go_wp2
    refine ⟨⟨J+1,by omega,by go_num,?_⟩,by simp [intOf];omega⟩
    rw [HST.out]
    exact InRC.more HI6.out (by omega)
  ·obtain rfl:J=p.n:=by omega
   go_wp2
   exact HEX.out _ _ hin.out rfl (Rest.of rfl) rfl
end
end
section
theorem cluOps2:CluOps2 Clu where
 clocks:=fun {w O C p fa cs s rd T} h=>by
  obtain ⟨⟨m,h⟩,hok,_⟩:=h
  have h1:=hok.plan.bounds.n1
  have h2:=hok.plan.bounds.n2
  exact cclocks_any h hok.len (by unfold PlanN.n;omega) (by unfold PlanN.n;omega)
 members:=fun {w O C p fa cs s rd T} j h hj=>by
  obtain ⟨⟨m,h⟩,hok,_⟩:=h
  exact cmembers_any h j hj (clu_nn hok)
 members_bad:=fun {w O C p fa cs s rd T} j h hj=>by
  obtain ⟨⟨m,h⟩,_⟩:=h
  exact cmembers_bad h j hj
end
end Go.Proofs.YtooadfgibdjdeaaGreatDoor
