import Derived.Test.YtooadfgibdjdeaaGreatDoorZPCluF1
import Derived.Test.YtooadfgibdjdeaaGreatDoorZRClM
import Derived.BigQuiet
import Derived.Deep.AppendLies
import Derived.Deep.QuietTactic
import Derived.Deep.RegionHeld3
import Derived.Lib.SliceRun
import Derived.OwnWalk
namespace Go.Proofs.YtooadfgibdjdeaaGreatDoor
open Go.RowKit
set_option maxRecDepth 100000
set_option maxHeartbeats 16000000
section
def wMemb (k:Nat):Bool:=decide (k=8) || (decide (25≤k) && decide (k≤28)) || (decide (272≤k) && decide (k≤315))
theorem cp_memb {Clu:World→List Nat→Nat→PlanN→Int→List Int→ClS→Int→Nat→Prop} (ops:CluOps Clu) (ops2:CluOps2 Clu) (body:Code) (hbody:(Tryz.f3.body.map loopsIn).bind (fun l=>l[3]?)=some body) (Q:Exit→Act→World→Prop) {w:World} {O1 O2 Z:List Nat} {C D:Nat} {p:PlanN} {fa:Int} {cs:List Int} {s:ClS} {rd:Int} {T B:Nat} {m:RMap} (hC:Clu w O1 C p fa cs s rd T) (hR:RCl w O2 Z D p fa cs s rd B m) (hn:p.n≤16) {L:List Value} (hL:L.length=329) (s8:L[8]? = some (.bool false)) (s9:L[9]? = some (.pointer (some ⟨C,0,none⟩))) (s11:L[11]? = some (.pointer (some ⟨D,0,none⟩))) (s25:L[25]? = some (.int .i64 0))
  (hexit:∀ (L':List Value) (wr:World),Below w.heap.size w wr→L'.length=329→Rest wMemb L L'→L'[8]? = some (.bool false)→L'[25]? = some (.int .i64 p.n)→Q (.exit 7) ⟨L'.toArray,[]⟩ wr) :
  Code.wp Tryz.prog (Code.loop body) Q ⟨L.toArray,[]⟩ w:=by
 have hb2:((Tryz.f3.body.map loopsIn).bind (fun l=>l[3]?)).getD Code.skip=body:=by rw [hbody];rfl
 obtain rfl:=hb2
 clear hbody
 conv=>arg 2;arg 1;whnf
 have HEX:Hid _:=hexit
 obtain ⟨fL,rfl⟩:=lit L 329 hL
 replace s8:=lit_at s8
 replace s9:=lit_at s9
 replace s11:=lit_at s11
 replace s25:=lit_at s25
 simp only [List.range,List.range.loop,List.map_cons,List.map_nil,s8,s9,s11,s25]
 have HC:Hid (∀ u,Below w.heap.size w u→Clu u O1 C p fa cs s rd T):=fun u hu=>ops.keep hC (Same.of_below hu (ops.lt hC))
 have HR:Hid (∀ u,Below w.heap.size w u→RCl u O2 Z D p fa cs s rd B m):=fun u hu=>hR.below hu
 clear hexit hC hR
 go_loopw [25,8] (fun a b wr=>∃ i:Nat,i≤p.n∧a=.int .i64 i∧b=.bool false∧Hid (Below w.heap.size w wr)) (fun a _ _=>p.n - (intOf a).toNat)
 case atStart=>exact ⟨0,Nat.zero_le _,rfl,rfl,Below.refl _ _⟩
 case round =>
  obtain ⟨i,hi,rfl,rfl,hbe⟩:=hrel
  have y12:=(HR.out _ hbe.out).base.c12
  by_cases hlt:i<p.n
  ·have ii:(i:Int)<(p.n:Int):=by omega
   have hm:=ops2.members i (HC.out _ hbe.out) hlt
   have HM2:Hid (∀ u,Below wr.heap.size wr u→(u.cell? ⟨D,12,none⟩=some (.slice (some ⟨m.nb,0,none⟩) p.n m.ncap)∧u.cell? ⟨m.nb,i,none⟩=some (.pointer (some ⟨m.P i,0,none⟩))∧u.cell? ⟨m.P i,5,none⟩=some (.bool (s.nodes i).fz))∧Calls Tryz.prog 21 #[.pointer (some ⟨m.P i,0,none⟩)] u fun e w'=>e=.returned (.int .i64 (bitsV (s.nodes i).t p.n))∧w'=u):=fun u hu=>by
    have hu2:Below w.heap.size w u:=hbe.out.trans (hu.mono hbe.out.size)
    have h:=HR.out u hu2
    have hN:=(h.nod hlt).1
    exact ⟨⟨h.base.c12,h.base.nd i hlt,hN.c5⟩,refBits_any hN hn⟩
   generalize bitsV (s.nodes i).t p.n=bv at *
   generalize (s.nodes i).fz=fz at *
   go_wp2_with fail
   refine hm.mono ?_
   rintro ev u1 ⟨rfl,hb1⟩
   obtain ⟨⟨z12,znd,z5⟩,hbits⟩:=HM2.out u1 hb1
   have HB1:Hid (Below w.heap.size w u1):=hbe.out.trans (hb1.mono hbe.out.size)
   clear hm HM2 hb1 y12
   go_wp2_with fail
   refine hbits.mono ?_
   rintro ev u2 ⟨rfl,hu2⟩
   replace hu2:=hu2.symm
   subst hu2
   clear hbits
   go_wp2
   exact ⟨⟨i+1,by omega,by go_num,by first | trivial | rfl,HB1.out⟩,by simp [intOf];omega⟩
  ·obtain rfl:i=p.n:=by omega
   go_wp2
   exact HEX.out _ _ hbe.out rfl (Rest.of rfl) rfl rfl
end
section
section
variable {w:World} {O Z:List Nat} {C:Nat} {p:PlanN} {fa:Int} {cs:List Int} {s:ClS} {rd:Int} {B:Nat} {m:RMap}
theorem in_at (x hi:Int) (b:Bool) (h:decide (0≤x∧x≤hi)=b):Hid (∀ (y h:Int) (u:World),y=x∧h=hi→Calls Tryz.prog 31 #[.int .i64 y,.int .i64 0,.int .i64 h] u fun e w'=>e=.returned (.bool b)∧w'=u):=fun y q u hx=>by
 obtain ⟨rfl,rfl⟩:=hx
 have:=in_is y 0 q u
 rw [h] at this
 exact this
theorem in_says (x hi:Int) (b:Bool) (h:decide (0≤x∧x≤hi)=b):Hid (∀ u:World,Calls Tryz.prog 31 #[.int .i64 x,.int .i64 0,.int .i64 hi] u fun e w'=>e=.returned (.bool b)∧w'=u):=fun u=>by
 have:=in_is x 0 hi u
 rw [h] at this
 exact this
theorem RCl.nepb (h:RCl w O Z C p fa cs s rd B m):C≠m.pb:=by
 obtain ⟨Of,h⟩:=h
 obtain ⟨PX,e,_,_⟩:=h.prt
 intro q
 exact h.fam.ap iB iP (by decide) C (by rw [h.ob];exact List.mem_cons_self) (by rw [e,q];exact List.mem_cons_self)
theorem rrecv_bad1 (h:RCl w O Z C p fa cs s rd B m) (j k:Int) (hn1:1≤p.nodes) (hn2:p.nodes≤16) (hj:¬ (0≤j∧j<p.nodes)) :
  Calls Tryz.prog 13 #[.pointer (some ⟨C,0,none⟩),.int .i64 j,.int .i64 k] w fun e w'=>e=.returned (.tuple #[.string ByteArray.empty,.int .i64 2])∧Below w.heap.size w w':=by
 have H1:=in_says j (p.nodes - 1) false (decide_eq_false (by omega))
 have c0:=h.base.c0
 have lc:=h.base.lc
 clear h hj
 generalize p.nodes=N at *
 go_enter Tryz.func13,Tryz.ntmps13
 go_wp2_with fail
 go_quiet ((go_at_call 31;refine Calls.quiet_of_same (H1.out _)))
 go_wp2
 go_ret2
 exact ⟨rfl,⟨rfl,rfl,rfl,Nat.le_refl _,fun _ _=>rfl⟩⟩
theorem rrecv_bad2 (h:RCl w O Z C p fa cs s rd B m) (j k:Int) (hn1:1≤p.nodes) (hn2:p.nodes≤16) (hj:0≤j∧j<p.nodes) (hnl:p.nl≤8) (hk:¬ (0≤k∧k<p.nl)) :
  Calls Tryz.prog 13 #[.pointer (some ⟨C,0,none⟩),.int .i64 j,.int .i64 k] w fun e w'=>e=.returned (.tuple #[.string ByteArray.empty,.int .i64 2])∧Below w.heap.size w w':=by
 have H1:=in_at j (p.nodes - 1) true (decide_eq_true (by omega))
 have H2:=in_at k ((p.nl:Int) - 1) false (decide_eq_false (by omega))
 have c0:=h.base.c0
 have c13:=h.base.c13
 have lc:=h.base.lc
 clear h hk
 generalize p.nodes=N at *
 generalize p.nl=NL at *
 go_enter Tryz.func13,Tryz.ntmps13
 go_wp2_with fail
 go_quiet ((go_at_call 31;first | (refine Calls.quiet_of_same (H1.out _ _ _ ?_);exact ⟨rfl,by first | rfl | go_num⟩) | (refine Calls.quiet_of_same (H2.out _ _ _ ?_);exact ⟨rfl,by first | rfl | go_num⟩)))
 go_wp2
 go_ret2
 exact ⟨rfl,⟨rfl,rfl,rfl,Nat.le_refl _,fun _ _=>rfl⟩⟩
theorem rrecv_bad3 (h:RCl w O Z C p fa cs s rd B m) (j k:Nat) (hnn:p.nodes=p.n) (hn2:p.n≤16) (hj:j<p.n) (hnl:p.nl≤8) (hk:k<p.nl) (hb:bitI (p.lt k) j=false) :
  Calls Tryz.prog 13 #[.pointer (some ⟨C,0,none⟩),.int .i64 j,.int .i64 k] w fun e w'=>e=.returned (.tuple #[.string ByteArray.empty,.int .i64 2])∧Below w.heap.size w w':=by
 have H1:=in_at j ((p.n:Int) - 1) true (decide_eq_true (by omega))
 have H2:=in_at k ((p.nl:Int) - 1) true (decide_eq_true (by omega))
 have c0:=h.base.c0
 have c7:=h.base.c7
 have c13:=h.base.c13
 have lc:=h.base.lc
 obtain ⟨b,off,e,hbZ,hc⟩:=h.rows.lk (by omega)
 have hbl:=h.rows.zl b hbZ
 rw [e] at c7
 rw [hnn] at c0
 obtain ⟨x0,x1,x2,x3⟩:=hc k hk
 have hpw:=pow_small16 j (by omega)
 have kk:(k:Int)<(p.nl:Int):=by omega
 have hba:=bit_and (p.lt k) (j:=j) (by omega)
 rw [hb] at hba
 have hba2:(bits BinOp.and .i64 (p.lt k) (2 ^ j) == 0)=true:=by simpa using hba
 have e1:wrap64 ((2:Int) ^ j)=2 ^ j:=by
  unfold wrap64
  generalize (2:Int) ^ j=T at *
  omega
 clear hc h hb e hba hnn
 generalize p.lt k=LT at *
 generalize p.n=N at *
 generalize p.nl=NL at *
 go_enter Tryz.func13,Tryz.ntmps13
 go_wp2_with fail
 go_quiet ((go_at_call 31;first | (refine Calls.quiet_of_same (H1.out _ _ _ ?_);exact ⟨rfl,by first | rfl | go_num⟩) | (refine Calls.quiet_of_same (H2.out _ _ _ ?_);exact ⟨rfl,by first | rfl | go_num⟩)))
 go_wp2
 go_ret2
 exact ⟨rfl,⟨rfl,rfl,rfl,Nat.le_refl _,fun _ _=>rfl⟩⟩
theorem rrecv_any (h:RCl w O Z C p fa cs s rd B m) (j k:Nat) (hnn:p.nodes=p.n) (hn2:p.n≤16) (hj:j<p.n) (hnl:p.nl≤8) (hk:k<p.nl) (hb:bitI (p.lt k) j=true) :
  Calls Tryz.prog 13 #[.pointer (some ⟨C,0,none⟩),.int .i64 j,.int .i64 k] w fun e w'=>e=.returned (.tuple #[.string (recvD (s.ports k j)),.int .i64 (recvK (s.ports k j))])∧∃ O',Foot O O' w w'∧RCl w' O' Z C p fa cs (s.recv k j) rd B m:=by
 have H1:=in_at j ((p.n:Int) - 1) true (decide_eq_true (by omega))
 have H2:=in_at k ((p.nl:Int) - 1) true (decide_eq_true (by omega))
 have HH:Hid (RCl w O Z C p fa cs s rd B m):=h
 have c0:=h.base.c0
 have c7:=h.base.c7
 have c13:=h.base.c13
 have c15:=h.base.c15
 have lc:=h.base.lc
 obtain ⟨b,off,e,hbZ,hc⟩:=h.rows.lk (by omega)
 have hbl:=h.rows.zl b hbZ
 rw [e] at c7
 rw [hnn] at c0
 obtain ⟨x0,x1,x2,x3⟩:=hc k hk
 have hpw:=pow_small16 j (by omega)
 have kk:(k:Int)<(p.nl:Int):=by omega
 have hba:=bit_and (p.lt k) (j:=j) (by omega)
 rw [hb] at hba
 have hba2:(bits BinOp.and .i64 (p.lt k) (2 ^ j) == 0)=false:=by simpa using hba
 have e1:wrap64 ((2:Int) ^ j)=2 ^ j:=by
  unfold wrap64
  generalize (2:Int) ^ j=T at *
  omega
 have hj16:j<16:=by omega
 have hk8:k<8:=by omega
 clear hc h hb e hba hnn
 generalize p.lt k=LT at *
 have HN:Hid (p.n≤16):=hn2
 go_enter Tryz.func13,Tryz.ntmps13
 go_wp2_with fail
 go_quiet ((go_at_call 31;first | (refine Calls.quiet_of_same (H1.out _ _ _ ?_);exact ⟨rfl,by first | rfl | go_num⟩) | (refine Calls.quiet_of_same (H2.out _ _ _ ?_);exact ⟨rfl,by first | rfl | go_num⟩)))
 have HQ:Hid (RCl (w.drewN nq) O Z C p fa cs s rd B m):=HH.out.below ⟨rfl,rfl,rfl,Nat.le_refl _,fun _ _=>rfl⟩
 obtain ⟨PX,hP,hpb,hpl,hlen,hback⟩:=HQ.out.prt
 obtain ⟨v,hlook,hrow⟩:=hP.look hk8 hj16
 have hlook2:(Instr.lookup 62 (.map (some m.pb)) (.agg #[.int .i64 k,.int .i64 j]) false).run Tryz.prog (w.drewN nq)=.ok v (w.drewN nq):=hlook
 clear hlook
 cases hq:s.ports k j with
 | nil =>
  rw [hq] at hrow
  obtain ⟨a,cap,rfl,_,_,_⟩:=hrow
  have HF:Hid (RCl (w.drewN nq) O Z C p fa cs (s.recv k j) rd B m):=HQ.out.agree (fun _ _=>rfl) (fun _ _=>rfl) (fun _ _ _ _=>rfl) (fun k' j'=>by
   show (if k'=k∧j'=j then (s.ports k j).tail else s.ports k' j')=s.ports k' j'
   split
   ·next e=>rw [e.1,e.2,hq];rfl
   ·rfl)
  have HE:Hid (s.ports k j = []):=hq
  clear hback hP hq
  go_wp2
  go_ret2
  exact ⟨by rw [HE.out];rfl,O,Foot.of_below ⟨rfl,rfl,rfl,Nat.le_refl _,fun _ _=>rfl⟩,HF.out⟩
 | cons d l =>
  rw [hq] at hrow
  obtain ⟨a,cap,rfl,hcp,hcm,hcc⟩:=id hrow
  obtain ⟨b2,off2,rfl,hb2,hbl2,hcells⟩:=hcc (by simp)
  have y0:(w.drewN nq).cell? ⟨b2,off2,none⟩=some (.string d):=by simpa using hcells 0 (by simp)
  have hb2w:b2<w.heap.size:=hbl2
  have y0w:w.cell? ⟨b2,off2,none⟩=some (.string d):=y0
  have hrest:=StrRow.rest hrow
  simp only [List.length_cons] at *
  clear hcells hcc
  have c15q:(w.drewN nq).cell? ⟨C,15,none⟩=some (.map (some m.pb)):=c15
  have hPd:PortsIs (w.drewN (nq+1)) PX m.pb s.ports:=hP.keep ⟨Nat.le_refl _,fun _ _=>rfl⟩
  have hrestd:StrRow (w.drewN (nq+1)) PX (.slice (some ⟨b2,if cap=1 then off2 else off2+1,none⟩) l.length (cap - 1)) l:=hrest.keep ⟨Nat.le_refl _,fun _ _=>rfl⟩ (fun _ h=>h)
  obtain ⟨w3,hrun,hP3,hT3⟩:=hPd.put hpb hk8 hj16 hrestd
  have hrun2:(Instr.mapUpdate 62 (.map (some m.pb)) (.agg #[.int .i64 k,.int .i64 j]) (.slice (some ⟨b2,if cap=1 then off2 else off2+1,none⟩) l.length (cap - 1))).run Tryz.prog (w.drewN (nq+1))=.ok () w3:=hrun
  have hne:b2≠m.pb:=fun e=>hpb (e▸hb2)
  have y03:w3.cell? ⟨b2,off2,none⟩=some (.string d):=(hT3.cell (p:=⟨b2,off2,none⟩) hbl2 hne hne).trans y0
  have HFin:Hid (∃ O',Foot O O' w w3∧RCl w3 O' Z C p fa cs (s.recv k j) rd B m):=by
   have hF0:Foot (m.pb::PX) (m.pb::PX) (w.drewN nq) w3:=(Foot.of_below ⟨rfl,rfl,rfl,Nat.le_refl _,fun _ _=>rfl⟩:Foot (m.pb::PX) (m.pb::PX) (w.drewN nq) (w.drewN (nq+1))).trans (Foot.of_turns hT3 List.mem_cons_self List.mem_cons_self)
   have e:s.recv k j=s.setPort k j l:=by
    unfold ClS.recv ClS.setPort
    congr 1
    funext k' j'
    rw [hq]
    rfl
   rw [e]
   obtain ⟨O',hF,hR⟩:=hback w3 PX k j l hP3 hpb hF0 (fun c hc=>Nat.lt_of_lt_of_le (hpl c hc) hT3.size) (by have:=hlen k j;rw [hq] at this;simp at this;omega)
   exact ⟨O',(Foot.of_below ⟨rfl,rfl,rfl,Nat.le_refl _,fun _ _=>rfl⟩:Foot O O w (w.drewN nq)).trans hF,hR⟩
  have c153:w3.cell? ⟨C,15,none⟩=some (.map (some m.pb)):=(hT3.cell (p:=⟨C,15,none⟩) lc HH.out.nepb HH.out.nepb).trans c15
  have hb3:b2<w3.heap.size:=Nat.lt_of_lt_of_le hbl2 hT3.size
  have HE:Hid (s.ports k j=d::l):=hq
  clear hP hback hPd hrestd hrest hrow hrun hP3 hT3 hq hlen
  generalize l.length=ln at *
  have g1:(1:Int)≤(ln:Int)+1:=by omega
  have g2:(ln:Int)+1≤(cap:Int):=by omega
  by_cases hc1:cap=1
  ·have hl0:ln=0:=by omega
   subst hl0
   subst hc1
   rw [if_pos rfl] at hrun2
   go_wp2_with fail
   go_region_held3 (fun u=>u.cell? ⟨C,15,none⟩=some (.map (some m.pb))) (go_keep) (first
    | (refine step_mapPut (by rfl) _ _ _ _ (by rfl) _ _ _ (by rfl) (by rfl) (by rfl) hrun2 ?_))
   go_wp2
   go_ret2
   exact ⟨by rw [HE.out];rfl,HFin.out⟩
  ·rw [if_neg hc1] at hrun2
   go_wp2_with fail
   go_region_held3 (fun u=>u.cell? ⟨C,15,none⟩=some (.map (some m.pb))) (go_keep) (first
    | (refine step_mapPut (by rfl) _ _ _ _ (by rfl) _ _ _ (by rfl) (by rfl) (by rfl) hrun2 ?_))
   go_wp2
   go_ret2
   exact ⟨by rw [HE.out];rfl,HFin.out⟩
end
end
section
section
variable {w:World} {O:List Nat} {C:Nat} {p:PlanN} {fa:Int} {cs:List Int} {s:ClS} {rd:Int} {B:Nat} {m:CMap}
theorem cput_bad (h:Cl w O C p fa cs s rd B m) (k:Int) (d:ByteArray) (hk:¬ (0≤k∧k<p.nl)) :
  Calls Tryz.prog 12 #[.pointer (some ⟨C,0,none⟩),.int .i64 k,.string d] w fun e w'=>e=.returned (errV 2)∧Below w.heap.size w w':=by
 have hi:=cisLink_any C m.la p.nl m.lcap k w h.base.c14
 rw [decide_eq_false hk] at hi
 clear h hk
 go_enter Tryz.func12,Tryz.ntmps12
 go_wp2_with fail
 refine hi.mono ?_
 rintro e w1 ⟨rfl,hw⟩
 replace hw:=hw.symm
 subst hw
 clear hi
 go_wp2
 go_ret
 exact ⟨rfl,Below.refl _ _⟩
theorem cput_any (h:Cl w O C p fa cs s rd B m) (k:Nat) (d:ByteArray) (hk:k<p.nl) (hB:B≤1000000) :
  Calls Tryz.prog 12 #[.pointer (some ⟨C,0,none⟩),.int .i64 k,.string d] w fun e w'=>e=.returned (errV (s.putK p k d))∧∃ O',Foot O O' w w'∧Cl w' O' C p fa cs (s.put p k d) rd (B+1) m:=by
 have hi:=cisLink_any C m.la p.nl m.lcap k w h.base.c14
 rw [decide_eq_true (by omega)] at hi
 obtain ⟨OS,hS,⟨hS1,hS2,hS3⟩,hback⟩:=h.sdr hk
 have hp:=sdrPut hS d (by omega)
 have HBK:Hid (∀ (w':World) (OS':List Nat),Sdr w' OS' (m.S k) (p.lb k) (p.lq k) (putAll (putK ((s.links k).all.length - (s.links k).went) (p.lq k) d) (s.links k).all d) (s.links k).went (s.links k).last (s.links k).now→Foot OS OS' w w'→∃ O',Foot O O' w w'∧Cl w' O' C p fa cs (s.put p k d) rd (B+1) m):=fun w' OS' q1 q2=>by
  refine hback w' OS' (B+1) ⟨_,_,_,_⟩ q1 q2 ⟨?_,hS2,?_⟩ (by omega)
  ·show (putAll _ (s.links k).all d).length≤B+1
   unfold putAll
   split
   ·simp only [List.length_append,List.length_cons,List.length_nil];omega
   ·omega
  ·show ∀ d'∈putAll _ (s.links k).all d,d'.size≤40
   intro d' hd'
   unfold putAll at hd'
   by_cases hK:putK ((s.links k).all.length - (s.links k).went) (p.lq k) d=0
   ·rw [if_pos hK] at hd'
    have h1:¬ 40<d.size:=fun q=>by unfold putK at hK;rw [if_pos q] at hK;cases hK
    rcases List.mem_append.1 hd' with q | q
    ·exact hS3 d' q
    ·simp only [List.mem_cons,List.not_mem_nil,or_false] at q
     subst q;omega
   ·rw [if_neg hK] at hd'
    exact hS3 d' hd'
 have HK:Hid (s.putK p k d=putK ((s.links k).all.length - (s.links k).went) (p.lq k) d):=rfl
 rw [HK.out]
 generalize putK ((s.links k).all.length - (s.links k).went) (p.lq k) d=K at *
 obtain ⟨la1,la2⟩:=h.base.la (by omega)
 obtain ⟨l0,l1,l2⟩:=h.base.lk k hk
 have c14:=h.base.c14
 rw [la1] at c14
 have hll:=h.base.lx _ la2
 have hlC:=h.base.lc
 have kk:(k:Int)<(p.nl:Int):=by omega
 generalize errV K=EV at *
 clear hback hS hS1 hS2 hS3 h la1 la2 HK
 go_enter Tryz.func12,Tryz.ntmps12
 go_wp2_with fail
 refine hi.mono ?_
 rintro e w1 ⟨rfl,hw⟩
 replace hw:=hw.symm
 subst hw
 clear hi
 go_wp2_with fail
 refine hp.mono ?_
 rintro e w1 ⟨rfl,OS',q1,q2⟩
 have HD:=HBK.out w1 OS' q1 q2
 clear HBK q1 q2 hp c14 l0 l1 l2
 go_wp2
 go_ret
 exact ⟨rfl,HD⟩
theorem crecv_node (h:Cl w O C p fa cs s rd B m) (j k:Int) (hj:¬ (0≤j∧j<p.nodes)) :
  Calls Tryz.prog 14 #[.pointer (some ⟨C,0,none⟩),.int .i64 j,.int .i64 k] w fun e w'=>e=.returned (.tuple #[.string ByteArray.empty,errV 2])∧Below w.heap.size w w':=by
 have hi:=cisNode_any C p.nodes j w h.base.c0
 rw [decide_eq_false hj] at hi
 clear h hj
 go_enter Tryz.func14,Tryz.ntmps14
 go_wp2_with fail
 refine hi.mono ?_
 rintro e w1 ⟨rfl,hw⟩
 replace hw:=hw.symm
 subst hw
 clear hi
 go_wp2
 go_ret2
 exact ⟨rfl,Below.refl _ _⟩
theorem crecv_link (h:Cl w O C p fa cs s rd B m) (j k:Int) (hj:0≤j∧j<p.nodes) (hk:¬ (0≤k∧k<p.nl)) :
  Calls Tryz.prog 14 #[.pointer (some ⟨C,0,none⟩),.int .i64 j,.int .i64 k] w fun e w'=>e=.returned (.tuple #[.string ByteArray.empty,errV 2])∧Below w.heap.size w w':=by
 have hi:=cisNode_any C p.nodes j w h.base.c0
 rw [decide_eq_true hj] at hi
 have hl:=cisLink_any C m.la p.nl m.lcap k w h.base.c14
 rw [decide_eq_false hk] at hl
 clear h hj hk
 go_enter Tryz.func14,Tryz.ntmps14
 go_wp2_with fail
 refine hi.mono ?_
 rintro e w1 ⟨rfl,hw⟩
 replace hw:=hw.symm
 subst hw
 clear hi
 go_wp2_with fail
 refine hl.mono ?_
 rintro e w1 ⟨rfl,hw⟩
 replace hw:=hw.symm
 subst hw
 clear hl
 go_wp2
 go_ret2
 exact ⟨rfl,Below.refl _ _⟩
theorem crecv_end (h:Cl w O C p fa cs s rd B m) (j k:Nat) (hj:j<p.n) (hnn:p.nodes=p.n) (hk:k<p.nl) (hb:bitI (p.lt k) j=false) :
  Calls Tryz.prog 14 #[.pointer (some ⟨C,0,none⟩),.int .i64 j,.int .i64 k] w fun e w'=>e=.returned (.tuple #[.string ByteArray.empty,errV 2])∧Below w.heap.size w w':=by
 have hi:=cisNode_any C p.nodes j w h.base.c0
 rw [decide_eq_true (by omega)] at hi
 have hl:=cisLink_any C m.la p.nl m.lcap k w h.base.c14
 rw [decide_eq_true (by omega)] at hl
 obtain ⟨la1,la2⟩:=h.base.la (by omega)
 obtain ⟨l0,l1,l2⟩:=h.base.lk k hk
 obtain ⟨e1,e2⟩:=h.base.en k hk
 have e3:=e2 j hj
 rw [hb,if_neg (by decide)] at e3
 have c14:=h.base.c14
 rw [la1] at c14
 have hll:=h.base.lx _ la2
 have hel:=h.base.lx _ e1
 have hlC:=h.base.lc
 have kk:(k:Int)<(p.nl:Int):=by omega
 have jj:(j:Int)<(p.n:Int):=by omega
 generalize p.n=n at *
 clear h la1 la2 e2 hb
 go_enter Tryz.func14,Tryz.ntmps14
 go_wp2_with fail
 refine hi.mono ?_
 rintro e w1 ⟨rfl,hw⟩
 replace hw:=hw.symm
 subst hw
 clear hi
 go_wp2_with fail
 refine hl.mono ?_
 rintro e w1 ⟨rfl,hw⟩
 replace hw:=hw.symm
 subst hw
 clear hl
 go_wp2
 go_ret2
 exact ⟨rfl,Below.refl _ _⟩
theorem crecv_bad (h:Cl w O C p fa cs s rd B m) (hnn:p.nodes=p.n) (j k:Int) (hb:¬ ((0≤j∧j<p.nodes)∧(0≤k∧k<p.nl)∧bitI (p.lt k.toNat) j.toNat=true)) :
  Calls Tryz.prog 14 #[.pointer (some ⟨C,0,none⟩),.int .i64 j,.int .i64 k] w fun e w'=>e=.returned (.tuple #[.string ByteArray.empty,errV 2])∧Below w.heap.size w w':=by
 by_cases h1:0≤j∧j<p.nodes
 ·by_cases h2:0≤k∧k<p.nl
  ·obtain ⟨j,rfl⟩:∃ n:Nat,j=n:=⟨j.toNat,by omega⟩
   obtain ⟨k,rfl⟩:∃ n:Nat,k=n:=⟨k.toNat,by omega⟩
   refine crecv_end h j k (by omega) hnn (by omega) ?_
   cases q:bitI (p.lt k) j
   ·rfl
   ·exact absurd ⟨h1,h2,q⟩ hb
  ·exact crecv_link h j k h1 h2
 ·exact crecv_node h j k h1
theorem crecv_any (h:Cl w O C p fa cs s rd B m) (j k:Nat) (hj:j<p.n) (hnn:p.nodes=p.n) (hk:k<p.nl) (hb:bitI (p.lt k) j=true) :
  Calls Tryz.prog 14 #[.pointer (some ⟨C,0,none⟩),.int .i64 j,.int .i64 k] w fun e w'=>e=.returned (.tuple #[.string (recvD (s.ports k j)),errV (recvK (s.ports k j))])∧∃ O',Foot O O' w w'∧Cl w' O' C p fa cs (s.recv k j) rd B m:=by
 have hi:=cisNode_any C p.nodes j w h.base.c0
 rw [decide_eq_true (by omega)] at hi
 have hl:=cisLink_any C m.la p.nl m.lcap k w h.base.c14
 rw [decide_eq_true (by omega)] at hl
 obtain ⟨OQ,lost,hQ,hQ1,hQ2,hback⟩:=h.que hk hj hb
 have hp:=queReceive hQ (by omega)
 have HBK:Hid (∀ (w':World) (OQ':List Nat),Que w' OQ' (m.Q k j) 16 (s.ports k j).tail lost→Foot OQ OQ' w w'→∃ O',Foot O O' w w'∧Cl w' O' C p fa cs (s.recv k j) rd B m):=fun w' OQ' q1 q2=>hback w' OQ' B (s.ports k j).tail lost q1 q2 hQ1 (by rw [List.length_tail];omega) (Nat.le_refl _)
 obtain ⟨la1,la2⟩:=h.base.la (by omega)
 obtain ⟨l0,l1,l2⟩:=h.base.lk k hk
 obtain ⟨e1,e2⟩:=h.base.en k hk
 obtain ⟨d1,d2,d3⟩:=h.base.dn k j hk hj hb
 have e3:=e2 j hj
 rw [hb,if_pos rfl] at e3
 have c14:=h.base.c14
 rw [la1] at c14
 have hll:=h.base.lx _ la2
 have hel:=h.base.lx _ e1
 have hdl:=h.base.lx _ d1
 have hlC:=h.base.lc
 have kk:(k:Int)<(p.nl:Int):=by omega
 have jj:(j:Int)<(p.n:Int):=by omega
 generalize recvD (s.ports k j)=RD at *
 generalize errV (recvK (s.ports k j))=RK at *
 obtain ⟨n,hn⟩:∃ n,p.n=n:=⟨_,rfl⟩
 rw [hn] at l2 jj
 clear hback hQ hQ1 hQ2 h la1 la2 e2 d1
 go_enter Tryz.func14,Tryz.ntmps14
 go_wp2_with fail
 refine hi.mono ?_
 rintro e w1 ⟨rfl,hw⟩
 replace hw:=hw.symm
 subst hw
 clear hi
 go_wp2_with fail
 refine hl.mono ?_
 rintro e w1 ⟨rfl,hw⟩
 replace hw:=hw.symm
 subst hw
 clear hl
 go_wp2_with fail
 refine hp.mono ?_
 rintro e w1 ⟨rfl,OQ',q1,q2⟩
 have HD:=HBK.out w1 OQ' q1 q2
 clear HBK q1 q2 hp c14 l0 l1 l2
 go_wp2
 go_ret2
 exact ⟨rfl,HD⟩
end
end
section
structure NM (w:World) (base:Nat) (Z:List Nat) (Of:CIx→List Nat) (C:Nat) (p:PlanN) (cc:Nat→Option Value) (clk:List Nat) (m:RMap) (i k:Nat) (T:Nat→Nat→Bool) (V12 V13:Value):Prop where
 cel:∀ q,q≠12→q≠13→w.cell? ⟨C,q,none⟩=cc q
 c12:w.cell? ⟨C,12,none⟩=some V12
 c13:w.cell? ⟨C,13,none⟩=some V13
 z:∀ q,w.frozen? ⟨C,q,none⟩=false
 own12:w.ownsRow base 77 1 V12 i ((List.range i).map fun j=>.pointer (some ⟨m.P j,0,none⟩))
 own13:w.ownsRow base 65 1 V13 k ((List.range k).map fun j=>.pointer (some ⟨m.S j,0,none⟩))
 ob:Of iB=C::m.tb::(clk ++ (V12.ownBlock.toList ++ V13.ownBlock.toList))
 ap:V12.ownBlock=none∨V12.ownBlock≠V13.ownBlock
 nC:C∉m.tb::(clk ++ (V12.ownBlock.toList ++ V13.ownBlock.toList))
 nT:m.tb∉clk ++ (V12.ownBlock.toList ++ V13.ownBlock.toList)
 n12:∀ g,V12.ownBlock=some g→g∉clk
 n13:∀ g,V13.ownBlock=some g→g∉clk
 node:∀ j,j<i→RefNode w (m.P j) (m.Q j) j p.n (fun _=>true) 1 0 false∧Of (iN j) = [m.P j,m.Q j]
 snd:∀ j,j<k→RefSdr w (Of (iS j)) (m.S j) (p.lb j) (p.lq j) [] 0 0 0
 rcv:∀ a b,T a b=true→RefRecv w (m.R a b) (-1) 0 0∧Of (iR a b) = [m.R a b]
 tk:∃ g,MapII w m.tb g∧∀ a b,T a b=true→g a b=some (.pointer (some ⟨m.R a b,0,none⟩))
 prt:Of iP = [m.pb]∧PortsIs w [] m.pb (fun _ _=>[])
 eN:∀ j,i≤j→Of (iN j) = []
 eS:∀ j,k≤j→Of (iS j) = []
 eR:∀ a b,T a b=false→Of (iR a b) = []
 oz:Of iZ=Z
 fam:Fam w Of
 lo:∀ x c,x≠iZ→c∈Of x→base≤c
 sz:base≤w.heap.size
section
variable {w w':World} {base:Nat} {Z:List Nat} {Of:CIx→List Nat} {C:Nat} {p:PlanN} {cc:Nat→Option Value} {clk:List Nat} {m:RMap} {i k:Nat} {T:Nat→Nat→Bool} {V12 V13:Value}
theorem NM.below (h:NM w base Z Of C p cc clk m i k T V12 V13) (b:Below w.heap.size w w'):NM w' base Z Of C p cc clk m i k T V12 V13:=by
 have lC:C<w.heap.size:=h.fam.lt iB C (by rw [h.ob];exact List.mem_cons_self)
 have hs:∀ x,Same (Of x) w w':=fun x=>Same.of_below b (h.fam.lt x)
 refine ⟨fun q h1 h2=>(b.cell (p:=⟨C,q,none⟩) lC).trans (h.cel q h1 h2),(b.cell (p:=⟨C,12,none⟩) lC).trans h.c12,(b.cell (p:=⟨C,13,none⟩) lC).trans h.c13,fun q=>(b.frozen (p:=⟨C,q,none⟩) lC).trans (h.z q),owns_below h.own12 b,owns_below h.own13 b,h.ob,h.ap,h.nC,h.nT,h.n12,h.n13,fun j hj=>⟨(h.node j hj).1.keepS ((h.node j hj).2▸hs (iN j)),(h.node j hj).2⟩,fun j hj=>(h.snd j hj).keep (hs _),fun a c hT=>⟨(h.rcv a c hT).1.keep ((h.rcv a c hT).2▸hs (iR a c)),(h.rcv a c hT).2⟩,?_,⟨h.prt.1,?_⟩,h.eN,h.eS,h.eR,h.oz,(h.fam.below b).1,h.lo,Nat.le_trans h.sz b.size⟩
 ·obtain ⟨g,hg,hr⟩:=h.tk
  exact ⟨g,hg.keep (b.block _ hg.lt),hr⟩
 ·exact h.prt.2.keep (by have:=hs iP;rw [h.prt.1] at this;exact this)
theorem NM.lC (h:NM w base Z Of C p cc clk m i k T V12 V13):C<w.heap.size:=h.fam.lt iB C (by rw [h.ob];exact List.mem_cons_self)
theorem NM.newNode {P Q:Nat} (h:NM w base Z Of C p cc clk m i k T V12 V13) (b:Below w.heap.size w w') (hN:RefNode w' P Q i p.n (fun _=>true) 1 0 false) (hP:w.heap.size≤P) (hQ:w.heap.size≤Q) :
  Fam w' (setO Of (iN i) [P,Q])∧∀ x c,x≠iZ→c∈setO Of (iN i) [P,Q] x→base≤c:=by
 refine ⟨h.fam.add b (h.eN i (Nat.le_refl _)) (fun c hc=>?_),fun x c hx hc=>?_⟩
 ·simp only [List.mem_cons,List.not_mem_nil,or_false] at hc
  rcases hc with rfl | rfl
  ·exact ⟨hP,hN.lp⟩
  ·exact ⟨hQ,hN.lq⟩
 ·by_cases e:x=iN i
  ·subst e
   rw [setO_at] at hc
   simp only [List.mem_cons,List.not_mem_nil,or_false] at hc
   have:=h.sz
   rcases hc with rfl | rfl <;> omega
  ·rw [setO_not _ _ e] at hc
   exact h.lo x c hx hc
end
end
section
theorem sdrNew_full (fr tq bag queue:Int) (w:World) (hb:(1≤bag∧bag≤1099511627776)∧1≤queue∧queue≤16) :
  Calls Tryz.prog 90 #[.agg #[.int .i64 fr,.int .i64 tq,.int .i64 bag,.int .i64 queue]] w fun e w'=>∃ O P,e=.returned (.tuple #[.pointer (some ⟨P,0,none⟩),.nilIface])∧Sdr w' O P bag queue [] 0 0 0∧Below w.heap.size w w'∧∀ c,c∈O→w.heap.size≤c:=by
 have k1:decide (bag<1)=false:=decide_eq_false (by omega)
 have k2:decide (1099511627776<bag)=false:=decide_eq_false (by omega)
 have k3:decide (queue<1)=false:=decide_eq_false (by omega)
 have k4:decide (16<queue)=false:=decide_eq_false (by omega)
 clear hb
 have hR:=fun (V:World)=>psdr_new (w:=V) (bag:=bag) (queue:=queue)
 have HR:Hid _:=hR
 clear hR
 go_enter Tryz.func90,Tryz.ntmps90
 go_wp2
 have fin:=HR.out (w.alloc (.cells #[.int .i64 fr,.int .i64 tq,.int .i64 bag,.int .i64 queue] 105))
 rw [show (w.alloc (.cells #[.int .i64 fr,.int .i64 tq,.int .i64 bag,.int .i64 queue] 105)).heap.size=w.heap.size+1 by simp] at fin
 go_ret2
 exact ⟨_,_,rfl,fin,((Below.refl _ _).alloc (Nat.le_refl _) _).alloc (by simp) _,fun c hc=>by
  simp only [List.mem_cons,List.not_mem_nil,or_false] at hc
  omega⟩
theorem Tryz.infoEnd:(Tryz.prog.info? 139).map (fun i=>(i.zero,i.size,i.bytes))=some (some (.pointer none),1,8):=by kernel_rfl
theorem two_boxesN (w:World) (a b c d x y z:Value) (t u:TypeId) (V:World) (hV:(w.alloc (.cells #[a,b,c,d] t)).alloc (.cells #[x,y,z] u)=V) :
  (V.cell? ⟨w.heap.size,0,none⟩=some a∧V.cell? ⟨w.heap.size,1,none⟩=some b∧V.cell? ⟨w.heap.size,2,none⟩=some c∧V.cell? ⟨w.heap.size,3,none⟩=some d)∧(V.cell? ⟨w.heap.size+1,0,none⟩=some x∧V.cell? ⟨w.heap.size+1,1,none⟩=some y∧V.cell? ⟨w.heap.size+1,2,none⟩=some z)∧(∀ i,V.frozen? ⟨w.heap.size+1,i,none⟩=false)∧Below w.heap.size w V∧V.heap.size=w.heap.size+2:=by
 subst hV
 have hs:(w.alloc (.cells #[a,b,c,d] t)).heap.size=w.heap.size+1:=by simp
 have k:Below (w.heap.size+1) (w.alloc (.cells #[a,b,c,d] t)) ((w.alloc (.cells #[a,b,c,d] t)).alloc (.cells #[x,y,z] u)):=(Below.refl _ _).alloc (by omega) _
 have c1:∀ i,((w.alloc (.cells #[a,b,c,d] t)).alloc (.cells #[x,y,z] u)).cell? ⟨w.heap.size,i,none⟩=(w.alloc (.cells #[a,b,c,d] t)).cell? ⟨w.heap.size,i,none⟩:=fun i=>k.cell (p:=⟨w.heap.size,i,none⟩) (by simp)
 refine ⟨⟨(c1 0).trans (by simp),(c1 1).trans (by simp),(c1 2).trans (by simp),(c1 3).trans (by simp)⟩,⟨?_,?_,?_⟩,fun i=>?_,((Below.refl _ _).alloc (Nat.le_refl _) _).alloc (by simp) _,by simp⟩
 ·rw [← hs];simp
 ·rw [← hs];simp
 ·rw [← hs];simp
 ·rw [← hs];simp
theorem newLink_any (kk n:Nat) (fr tq bag queue:Int) (w:World) (hn:n≤16) (hb:(1≤bag∧bag≤1099511627776)∧1≤queue∧queue≤16) :
  Calls Tryz.prog 66 #[.agg #[.int .i64 fr,.int .i64 tq,.int .i64 bag,.int .i64 queue],.int .i64 n] w fun e w'=>Below w.heap.size w w'∧∃ N S E D R Q,e=.returned (.tuple #[.agg #[.int .i64 fr,.pointer (some ⟨S,0,none⟩),.slice (some ⟨E,0,none⟩) n n],.nilIface])∧LinkNew w.heap.size w' N kk n n tq bag queue S E D R Q:=by
 obtain ⟨i0,hi,hz0,hz1,hz2⟩:=info_parts Tryz.infoEnd
 have hmk:=fun (v:World)=>run_makeSlice (P:=Tryz.prog) v 135 139 i0 _ Tryz.underlying135 hi hz0 .i64 .i64 (n:Int) (n:Int) (by omega) (Int.le_refl _) (by rw [hz1];simp;omega) (by rw [hz2];omega) (by omega)
 rw [Int.toNat_natCast,hz1,Nat.mul_one] at hmk
 clear hi hz0 hz1 hz2
 obtain ⟨V,hV⟩:∃ V,(w.alloc (.cells #[.int .i64 fr,.int .i64 tq,.int .i64 bag,.int .i64 queue] 105)).alloc (.cells #[.int .i64 0,.pointer none,.slice none 0 0] 137)=V:=⟨_,rfl⟩
 obtain ⟨⟨l0,l1,l2,l3⟩,⟨r0,r1,r2⟩,rz,hBV,hVs⟩:=two_boxesN w _ _ _ _ _ _ _ _ _ V hV
 have hs:=sdrNew_full fr tq bag queue V hb
 have l0w:w.heap.size<V.heap.size:=by omega
 have l1w:w.heap.size+1<V.heap.size:=by omega
 have HBV:Hid (Below w.heap.size w V∧V.heap.size=w.heap.size+2):=⟨hBV,hVs⟩
 obtain ⟨L,hL⟩:∃ L,w.heap.size=L:=⟨_,rfl⟩
 have HLL:Hid (w.heap.size=L):=hL
 have HLR:Hid (V.cell? ⟨w.heap.size,0,none⟩=some (.int .i64 fr)∧V.cell? ⟨w.heap.size,1,none⟩=some (.int .i64 tq)∧(V.cell? ⟨w.heap.size+1,0,none⟩=some (.int .i64 0)∧V.cell? ⟨w.heap.size+1,1,none⟩=some (.pointer none)∧V.cell? ⟨w.heap.size+1,2,none⟩=some (.slice none 0 0))∧∀ i,V.frozen? ⟨w.heap.size+1,i,none⟩=false):=⟨l0,l1,⟨r0,r1,r2⟩,rz⟩
 have HMK:Hid _:=hmk
 clear hmk hb hVs hBV r0 r1 r2 rz hL
 go_enter Tryz.func66,Tryz.ntmps66
 go_wp2_with fail
 refine hs.mono ?_
 rintro e w1 ⟨OS,S,rfl,hSd,hB1,hlo⟩
 have hmk1:=HMK.out w1
 obtain ⟨w2,hw2⟩:∃ w2,w1.alloc (.cells (madeCells #[.pointer none] n) 139)=w2:=⟨_,rfl⟩
 have HF:=LinkNew.first hSd hlo hB1 hw2 kk tq (fun _=>0) (fun _=>0) (fun _=>0)
 have HF0:Hid (∃ D R Q N,LinkNew V.heap.size w2 N kk n 0 tq bag queue S w1.heap.size D R Q∧Below V.heap.size V w2):=by
  obtain ⟨⟨N,hN⟩,hB⟩:=HF
  exact ⟨_,_,_,N,hN,hB⟩
 rw [show (Value.pointer none).cells=#[.pointer none] from rfl,hw2] at hmk1
 clear hs HF hSd hlo hB1 hw2 l0 l1 l2 l3 hV HMK
 go_wp2_with fail
 clear hmk1
 generalize w1.heap.size=E at *
 go_loopw [25] (fun t wr=>∃ J:Nat,J≤n∧t=.int .i64 J∧Hid (∃ D R Q N,LinkNew V.heap.size wr N kk n J tq bag queue S E D R Q∧Below V.heap.size V wr)) (fun t _=>n - (intOf t).toNat)
 case atStart=>exact ⟨0,Nat.zero_le _,rfl,HF0⟩
 case round =>
  obtain ⟨J,hJ,rfl,HI⟩:=hrel
  clear HF0
  by_cases hlt:J<n
  ·have jj:(J:Int)<(n:Int):=by omega
   have y1:=(HI.out.choose_spec.choose_spec.choose_spec.choose_spec.2.cell (p:=⟨w.heap.size,1,none⟩) l0w).trans HLR.out.2.1
   have hl2:w.heap.size<wr.heap.size:=Nat.lt_of_lt_of_le l0w HI.out.choose_spec.choose_spec.choose_spec.choose_spec.2.size
   have hhas:=chas_any tq J (by omega) wr
   by_cases hbit:bitI tq J=true
   ·rw [hbit] at hhas
    have hque:=queNew_good 16 wr (by omega)
    go_wp2_with fail
    refine hhas.mono ?_
    rintro e w' ⟨rfl,hw⟩
    rw [hw]
    clear hw
    go_wp2_with fail
    refine hque.mono ?_
    rintro e v1 ⟨OQ,PQ,rfl,hQ,hB1,hlq⟩
    have hrcv:=rcvNew v1
    clear hque hhas y1
    go_wp2_with fail
    refine hrcv.mono ?_
    rintro e v2 ⟨OR,PR,rfl,hR,hB2,hlr⟩
    obtain ⟨D,R,Q,N,hN,hBB⟩:=HI.out
    obtain ⟨v3,hv3⟩:∃ v3,v2.alloc (.cells #[.pointer (some ⟨PR,0,none⟩),.pointer (some ⟨PQ,0,none⟩)] 143)=v3:=⟨_,rfl⟩
    have hst:=hN.step hbit hBB.size hBB hB1 hQ hlq hB2 hR hlr hv3 rfl
    have hE:=hN.fam.lt _ _ hN.eX
    have hk3:Below wr.heap.size wr v3:=by rw [← hv3];exact (hB1.trans (hB2.mono hB1.size)).alloc (by have:=hB1.size;have:=hB2.size;omega) _
    have g:=(hk3.cell (p:=⟨E,J,none⟩) hE).trans (hN.en J hlt)
    have gz:=(hk3.frozen (p:=⟨E,J,none⟩) hE).trans (hN.zE J)
    have hE3:E<v3.heap.size:=Nat.lt_of_lt_of_le hE hk3.size
    have HST:Hid (∃ D R Q N,LinkNew V.heap.size (v3.setCell ⟨E,J,none⟩ (.pointer (some ⟨v2.heap.size,0,none⟩))) N kk n (J+1) tq bag queue S E D R Q∧Below V.heap.size V (v3.setCell ⟨E,J,none⟩ (.pointer (some ⟨v2.heap.size,0,none⟩)))):=by
     obtain ⟨⟨N',h1⟩,h2⟩:=hst
     exact ⟨_,_,_,N',h1,h2⟩
    clear hst hk3 hE hN hBB hB1 hQ hlq hB2 hR hlr hrcv HI
    go_wp2
    go_roundw
    case rel=>exact ⟨J+1,by omega,by go_num,HST⟩
    case measure=>simp [intOf];omega
   ·have hbf:bitI tq J=false:=by simpa using hbit
    rw [hbf] at hhas
    have HN:Hid (∃ D R Q N,LinkNew V.heap.size wr N kk n (J+1) tq bag queue S E D R Q∧Below V.heap.size V wr):=by
     obtain ⟨D,R,Q,N,h1,h2⟩:=HI.out
     exact ⟨D,R,Q,N,h1.skip hbf,h2⟩
    clear HI
    go_wp2_with fail
    refine hhas.mono ?_
    rintro e w' ⟨rfl,hw⟩
    rw [hw]
    clear hw
    go_wp2
    go_roundw
    case rel=>exact ⟨J+1,by omega,by go_num,HN⟩
    case measure=>simp [intOf];omega
  ·have hJn:J=n:=by omega
   have kj:decide (J<n)=false:=decide_eq_false (by omega)
   obtain ⟨D,R,Q,N,hN,hBB⟩:=HI.out
   rw [hJn] at hN
   have x0:=(hBB.cell (p:=⟨w.heap.size,0,none⟩) l0w).trans HLR.out.1
   have y0:=(hBB.cell (p:=⟨w.heap.size+1,0,none⟩) l1w).trans HLR.out.2.2.1.1
   have y1:=(hBB.cell (p:=⟨w.heap.size+1,1,none⟩) l1w).trans HLR.out.2.2.1.2.1
   have y2:=(hBB.cell (p:=⟨w.heap.size+1,2,none⟩) l1w).trans HLR.out.2.2.1.2.2
   have z0:=(hBB.frozen (p:=⟨w.heap.size+1,0,none⟩) l1w).trans (HLR.out.2.2.2 0)
   have z1:=(hBB.frozen (p:=⟨w.heap.size+1,1,none⟩) l1w).trans (HLR.out.2.2.2 1)
   have z2:=(hBB.frozen (p:=⟨w.heap.size+1,2,none⟩) l1w).trans (HLR.out.2.2.2 2)
   have h0r:w.heap.size<wr.heap.size:=Nat.lt_of_lt_of_le l0w hBB.size
   have h1r:w.heap.size+1<wr.heap.size:=Nat.lt_of_lt_of_le l1w hBB.size
   have HD:Hid (LinkNew V.heap.size wr N kk n n tq bag queue S E D R Q∧Below V.heap.size V wr):=⟨hN,hBB⟩
   clear HI hN hBB hlt
   go_wp2
   obtain ⟨hN,hBB⟩:=HD.out
   have hB0:=HBV.out
   obtain ⟨W3,hW3⟩:∃ W3,((wr.setCell ⟨w.heap.size+1,0,none⟩ (.int .i64 fr)).setCell ⟨w.heap.size+1,1,none⟩ (.pointer (some ⟨S,0,none⟩))).setCell ⟨w.heap.size+1,2,none⟩ (.slice (some ⟨E,0,none⟩) n n)=W3:=⟨_,rfl⟩
   have q0:W3.cell? ⟨w.heap.size+1,0,none⟩=some (.int .i64 fr):=by rw [← hW3];exact (cell_other (.inr (by decide))).trans ((cell_other (.inr (by decide))).trans (cell_set y0))
   have q1:W3.cell? ⟨w.heap.size+1,1,none⟩=some (.pointer (some ⟨S,0,none⟩)):=by rw [← hW3];exact (cell_other (.inr (by decide))).trans (cell_set ((cell_other (.inr (by decide))).trans y1))
   have q2:W3.cell? ⟨w.heap.size+1,2,none⟩=some (.slice (some ⟨E,0,none⟩) n n):=by rw [← hW3];exact cell_set ((cell_other (.inr (by decide))).trans ((cell_other (.inr (by decide))).trans y2))
   have hT:Turns (w.heap.size+1) (w.heap.size+1) wr W3:=by rw [← hW3];exact (((Turns.refl _ _ wr).set (p:=⟨w.heap.size+1,0,none⟩) (.inl rfl) _).set (p:=⟨w.heap.size+1,1,none⟩) (.inl rfl) _).set (p:=⟨w.heap.size+1,2,none⟩) (.inl rfl) _
   rw [hW3]
   have hBw:Below w.heap.size w wr:=hB0.1.trans (hBB.mono hB0.1.size)
   refine bodyPost_ret (v:=.tuple #[.agg #[.int .i64 fr,.pointer (some ⟨S,0,none⟩),.slice (some ⟨E,0,none⟩) n n],.nilIface]) (by simp [results,Tryz.results66,go_sem,q0,q1,q2]) rfl ⟨hBw.trans (hT.below hBw.size (by omega) (by omega)),N,S,E,D,R,Q,rfl,(hN.same hT.size (fun c h1 h2=>hT.block c h2 (by omega) (by omega))).low (by omega)⟩
end
section
theorem triCells_cell (a b c:Nat→Value) (n j:Nat) (u:Value) (h:(triCells a b c n)[j]? = some u):∃ i,i<n∧((j=i*3∧u=a i)∨(j=i*3+1∧u=b i)∨(j=i*3+2∧u=c i)):=by
 have hl:=triCells_length a b c n
 have hj:j<n*3:=by
  rcases Nat.lt_or_ge j (n*3) with q | q
  ·exact q
  ·rw [List.getElem?_eq_none (by omega)] at h;cases h
 have h3:=triCells_at a b c n (j / 3) (by omega)
 refine ⟨j / 3,by omega,?_⟩
 have:j % 3=0∨j % 3=1∨j % 3=2:=by omega
 rcases this with q | q | q
 ·have e:j=j / 3*3:=by omega
  rw [← e] at h3
  rw [h3.1] at h
  cases h
  exact .inl ⟨e,rfl⟩
 ·have e:j=j / 3*3+1:=by omega
  rw [← e] at h3
  rw [h3.2.1] at h
  cases h
  exact .inr (.inl ⟨e,rfl⟩)
 ·have e:j=j / 3*3+2:=by omega
  rw [← e] at h3
  rw [h3.2.2] at h
  cases h
  exact .inr (.inr ⟨e,rfl⟩)
def slotCells (f g h:Nat→Int) (n:Nat):List Value:=triCells (fun i=>.int .i64 (f i)) (fun i=>.int .i64 (g i)) (fun i=>.int .i64 (h i)) n
theorem slot_cells {w:World} {ad:Addr} {n:Nat} {f g h:Nat→Int} (hr:Rows3 w (some ad) n f g h):∀ j u,(slotCells f g h n)[j]? = some u→w.cell? (ad.add j)=some u:=by
 intro j u hj
 obtain ⟨i,hi,hh⟩:=triCells_cell _ _ _ n j u hj
 obtain ⟨b,off,e,_,hc⟩:=hr (by omega)
 injection e with e
 subst e
 obtain ⟨c0,c1,c2⟩:=hc i hi
 rw [add_at]
 rcases hh with ⟨rfl,rfl⟩ | ⟨rfl,rfl⟩ | ⟨rfl,rfl⟩
 ·exact c0
 ·exact c1
 ·exact c2
theorem slot_one (f g h:Nat→Int) (n:Nat):∀ u∈slotCells f g h n,u.oneCell'=true:=by
 intro u hu
 obtain ⟨j,hj⟩:=List.getElem?_of_mem hu
 obtain ⟨i,_,hh⟩:=triCells_cell _ _ _ n j u hj
 rcases hh with ⟨_,rfl⟩ | ⟨_,rfl⟩ | ⟨_,rfl⟩ <;> rfl
theorem owns_slots {w:World} {base n:Nat} {v:Value} {f g' h':Nat→Int} (h:w.ownsRow base 95 3 v n (slotCells f g' h' n)):∃ a cap,v=.slice a n cap∧Rows3 w a n f g' h'∧∀ b off s,a=some ⟨b,off,s⟩→base≤b∧b<w.heap.size:=by
 rcases h.2 with ⟨rfl,rfl⟩ | ⟨g,cap,cur,rfl,hg,hh,_⟩
 ·exact ⟨none,0,rfl,fun q=>absurd q (Nat.lt_irrefl _),fun _ _ _ e=>by cases e⟩
 ·have hlt:g<w.heap.size:=by
   rcases Nat.lt_or_ge g w.heap.size with q | q
   ·exact q
   ·rw [Array.getElem?_eq_none q] at hh;cases hh
  refine ⟨_,_,rfl,fun _=>⟨g,0,rfl,hlt,fun j hj=>?_⟩,fun b off s e=>by cases e;exact ⟨hg,hlt⟩⟩
  have h3:=triCells_at (fun i=>.int .i64 (f i)) (fun i=>.int .i64 (g' i)) (fun i=>.int .i64 (h' i)) n j hj
  have c:=fun i u (hi:(slotCells f g' h' n)[i]? = some u)=>h.cells (g:=g) rfl i u hi
  refine ⟨?_,?_,?_⟩
  ·have:=c _ _ h3.1;rw [add_at] at this;exact this
  ·have:=c _ _ h3.2.1;rw [add_at] at this;exact this
  ·have:=c _ _ h3.2.2;rw [add_at] at this;exact this
theorem Tryz.infoSlot9:(Tryz.prog.info? 95).map (fun i=>(i.zero,i.size,i.bytes))=some (some (.agg #[.int .i64 0,.int .i64 0,.int .i64 0]),3,24):=by kernel_rfl
theorem cloneS (pt fr tq:Nat→Int) (a:Option Addr) (n cap:Nat) (w:World) (hn:n≤1000) (hr:Rows3 w a n pt fr tq) :
  Calls Tryz.prog 26 #[.slice a n cap] w fun e w'=>∃ a' cap',e=.returned (.slice a' n cap')∧Rows3 w' a' n pt fr tq∧(∀ b off s,a'=some ⟨b,off,s⟩→w.heap.size≤b∧b<w'.heap.size)∧Below w.heap.size w w':=by
 cases a with
 | none =>
  have h0:n=0:=by
   rcases Nat.eq_zero_or_pos n with q | q
   ·exact q
   ·obtain ⟨_,_,e,_⟩:=hr q;cases e
  subst h0
  have q22:∀ (w:World) (a:Option Addr) (n c n' c':Nat),(binOp .eql 22 (.slice a n c) (.slice none n' c')).run Tryz.prog w=.ok (.bool a.isNone) w:=fun w a n c n' c'=>Lib.run_eql_slice_nil w _ _ a n c n' c' Tryz.underlying22
  go_enter Tryz.func26,Tryz.ntmps26
  go_wp2
  go_ret
  exact ⟨none,0,rfl,fun q=>absurd q (Nat.lt_irrefl _),(fun _ _ _ e=>by cases e),Below.refl _ _⟩
 | some ad =>
  have q22:∀ (w:World) (a:Option Addr) (n c n' c':Nat),(binOp .eql 22 (.slice a n c) (.slice none n' c')).run Tryz.prog w=.ok (.bool a.isNone) w:=fun w a n c n' c'=>Lib.run_eql_slice_nil w _ _ a n c n' c' Tryz.underlying22
  obtain ⟨i0,hi,hz0,hz1,hz2⟩:=info_parts Tryz.infoSlot9
  have HC:Hid (∀ j u,(slotCells pt fr tq n)[j]? = some u→w.cell? (ad.add j)=some u):=slot_cells hr
  clear hr
  go_enter Tryz.func26,Tryz.ntmps26
  go_wp2_with (at_builtin;refine wpList_append_own _ rfl _ _ 22 rfl w.heap.size 95 i0 (.agg #[.int .i64 0,.int .i64 0,.int .i64 0]) 3 24 Tryz.underlying22 hi hz0 hz1 hz2 rfl (by decide) _ _ _ rfl (World.ownsRow_made w #[] 0 (Nat.le_refl _) (Nat.zero_le _) rfl) ad n cap (slotCells pt fr tq n) rfl ?qc1 ?qc2 ?qc3 ?qc4 ?qc5 ?qc6 ?_)
  case qc1=>exact triCells_length _ _ _ n
  case qc2 =>
   intro j u hj
   exact Lib.cell?_alloc_some _ (HC.out j u hj)
  case qc3=>exact slot_one pt fr tq n
  case qc4=>unfold maxLen;omega
  case qc5=>omega
  case qc6=>simp
  intro v' w1 hown hgrow hnil
  obtain ⟨a',cap',rfl,hr',hb'⟩:=owns_slots hown
  go_wp2
  go_ret
  exact ⟨a',cap',rfl,hr',hb',((Below.refl _ w).alloc (Nat.le_refl _) _).grown hgrow (by simp) (by intro k hk;simp [Value.ownBlock] at hk;omega)⟩
theorem cloneC (cs:List Int) (a:Option Addr) (n cap:Nat) (hl:cs.length=n) (hn:1≤n) (hn2:n≤1000) (w:World) (hr:IntRow w a cs) :
  Calls Tryz.prog 25 #[.slice a n cap] w fun e w'=>∃ g cp,e=.returned (.slice (some ⟨g,0,none⟩) n cp)∧(w.heap.size≤g∧g<w'.heap.size)∧(∀ j,j<cs.length→w'.cell? ⟨g,j,none⟩=some (.int .i64 (cs.getD j 0)))∧Below w.heap.size w w':=by
 obtain ⟨b,off,rfl,hb,hc⟩:=hr (by omega)
 refine (Tryz.slices_Clone_int b off n cap cs w (by omega) (by omega) hc).mono ?_
 rintro e w1 ⟨v1,rfl,hown,hnn,hbel⟩
 rw [List.take_of_length_le (by omega)] at hown
 rcases hown.2 with ⟨_,e0⟩ | ⟨g,cp,cur,hv,hg,hh,_⟩
 ·omega
 ·have hgl:g<w1.heap.size:=(hown.lt g (by rw [hv];rfl)).2
  refine ⟨g,cp,by rw [hv],⟨hg,hgl⟩,fun j hj=>?_,hbel⟩
  have:=hown.cells (g:=g) (by rw [hv];rfl) j (.int .i64 (cs.getD j 0)) (by simp [List.getD,hj])
  rwa [add_at,Nat.zero_add] at this
end
section
def frameV (nd i mem:Int) (lk q:Int) (d:ByteArray):Value:=.agg #[.int .i64 nd,.int .i64 i,.int .i64 mem,.int .i64 lk,.int .i64 q,.string d]
def ClS.take1 (s:ClS) (k j:Nat) (q:Int) (d:ByteArray):ClS:=if takeB (s.newest k j) q=true then (s.setNew k j q).setPort k j (if (s.ports k j).length<16 then s.ports k j ++ [d] else s.ports k j) else s
section
variable {w:World} {O:List Nat} {C:Nat} {p:PlanN} {fa:Int} {cs:List Int} {s:ClS} {rd:Int} {B:Nat} {m:CMap}
theorem ctake_none (C:Nat) (nd i mem q:Int) (d:ByteArray) (j:Int) (w:World) :
  Calls Tryz.prog 74 #[.pointer (some ⟨C,0,none⟩),frameV nd i mem (-1) q d,.int .i64 j] w fun e w'=>e=.returned (.tuple #[])∧Below w.heap.size w w':=by
 unfold frameV
 go_enter Tryz.func74,Tryz.ntmps74
 go_wp2
 exact bodyPost_ret (v:=.tuple #[]) (by simp [results,Tryz.results74,go_sem]) rfl ⟨rfl,(Below.refl _ _).alloc (Nat.le_refl _) _⟩
theorem box6 (w:World) (a b c d e:Value) (f:Value) (t:TypeId):(∀ (i:Nat) (v:Value),(#[a,b,c,d,e,f]:Array Value)[i]? = some v→(w.alloc (.cells #[a,b,c,d,e,f] t)).cell? ⟨w.heap.size,i,none⟩=some v)∧Below w.heap.size w (w.alloc (.cells #[a,b,c,d,e,f] t))∧w.heap.size<(w.alloc (.cells #[a,b,c,d,e,f] t)).heap.size:=by
 refine ⟨fun i v hi=>?_,(Below.refl _ _).alloc (Nat.le_refl _) _,by simp⟩
 simp
 simpa using hi
theorem ctake_not (h:Cl w O C p fa cs s rd B m) (nd i mem q:Int) (d:ByteArray) (j k:Nat) (hj:j<p.n) (hk:k<p.nl) (hb:bitI (p.lt k) j=false) :
  Calls Tryz.prog 74 #[.pointer (some ⟨C,0,none⟩),frameV nd i mem k q d,.int .i64 j] w fun e w'=>e=.returned (.tuple #[])∧Below w.heap.size w w':=by
 unfold frameV
 obtain ⟨la1,la2⟩:=h.base.la (by omega)
 obtain ⟨hbx,hV,hF⟩:=box6 w (.int .i64 nd) (.int .i64 i) (.int .i64 mem) (.int .i64 k) (.int .i64 q) (.string d) 120
 have h2:=h.below hV
 have f3:(w.alloc (.cells #[.int .i64 nd,.int .i64 i,.int .i64 mem,.int .i64 k,.int .i64 q,.string d] 120)).cell? ⟨w.heap.size,3,none⟩=some (.int .i64 k):=hbx 3 _ rfl
 have HV:Hid (Below w.heap.size w (w.alloc (.cells #[.int .i64 nd,.int .i64 i,.int .i64 mem,.int .i64 k,.int .i64 q,.string d] 120))):=hV
 obtain ⟨l0,l1,l2⟩:=h2.base.lk k hk
 obtain ⟨e1,e2⟩:=h2.base.en k hk
 have e3:=e2 j hj
 rw [hb,if_neg (by decide)] at e3
 have c14:=h2.base.c14
 rw [la1] at c14
 have hll:=h2.base.lx _ la2
 have hel:=h2.base.lx _ e1
 have hlC:=h2.base.lc
 have kk:(k:Int)<(p.nl:Int):=by omega
 have jj:(j:Int)<(p.n:Int):=by omega
 have k1:((k:Int) == -1)=false:=by simp
 obtain ⟨n,hn⟩:∃ n,p.n=n:=⟨_,rfl⟩
 rw [hn] at l2 jj
 clear h h2 la1 la2 e2 hb hbx hV hj hn
 go_enter Tryz.func74,Tryz.ntmps74
 go_wp2_with fail
 generalize w.alloc (.cells #[.int .i64 nd,.int .i64 i,.int .i64 mem,.int .i64 k,.int .i64 q,.string d] 120)=V at *
 go_quiet (fail)
 go_wp2_with fail
 go_quiet (fail)
 go_wp2
 exact bodyPost_end (v:=.tuple #[]) (by simp [results,Tryz.results74,go_sem]) rfl ⟨rfl,⟨HV.out.os,HV.out.tape,HV.out.output,HV.out.size,HV.out.block⟩⟩
theorem tk_in9 {nw x:Int} (h:nw≤255):tkNew (takeB nw x) x nw≤255:=by
 unfold tkNew
 split
 ·next q=>exact (takeB_in q).2
 ·exact h
theorem put16 (l:List ByteArray) (d:ByteArray) (hd:d.size≤40):putAll (putK l.length 16 d) l d=if l.length<16 then l ++ [d] else l:=by
 by_cases q:l.length<16
 ·have e:putK l.length 16 d=0:=by
   unfold putK
   rw [if_neg (show ¬ 40<d.size by omega),if_neg (show ¬ (16:Int)≤(l.length:Int) by omega)]
  rw [e,if_pos q]
  rfl
 ·have e:putK l.length 16 d=12:=by
   unfold putK
   rw [if_neg (show ¬ 40<d.size by omega),if_pos (show (16:Int)≤(l.length:Int) by omega)]
  rw [e,if_neg q]
  rfl
theorem Foot.box {O O':List Nat} {V v:World} {b:Nat} (k:Foot O O' V v) (hb:b<V.heap.size) (hO:∀ c,c∈O→c<b) (i:Nat):v.cell? ⟨b,i,none⟩=V.cell? ⟨b,i,none⟩:=k.cell (p:=⟨b,i,none⟩) hb (fun y=>Nat.lt_irrefl _ (hO b y))
theorem ctake_end (h:Cl w O C p fa cs s rd B m) (nd i mem q:Int) (d:ByteArray) (j k:Nat) (hj:j<p.n) (hk:k<p.nl) (hb:bitI (p.lt k) j=true) (hd:d.size≤40) (hB:B≤999990) :
  Calls Tryz.prog 74 #[.pointer (some ⟨C,0,none⟩),frameV nd i mem k q d,.int .i64 j] w fun e w'=>e=.returned (.tuple #[])∧∃ O',Foot O O' w w'∧Cl w' O' C p fa cs (s.take1 k j q d) rd (B+2) m:=by
 unfold frameV
 obtain ⟨la1,la2⟩:=h.base.la (by omega)
 obtain ⟨hbx,hV,hF⟩:=box6 w (.int .i64 nd) (.int .i64 i) (.int .i64 mem) (.int .i64 k) (.int .i64 q) (.string d) 120
 have h2:=h.below hV
 have f3:(w.alloc (.cells #[.int .i64 nd,.int .i64 i,.int .i64 mem,.int .i64 k,.int .i64 q,.string d] 120)).cell? ⟨w.heap.size,3,none⟩=some (.int .i64 k):=hbx 3 _ rfl
 have f4:(w.alloc (.cells #[.int .i64 nd,.int .i64 i,.int .i64 mem,.int .i64 k,.int .i64 q,.string d] 120)).cell? ⟨w.heap.size,4,none⟩=some (.int .i64 q):=hbx 4 _ rfl
 have f5:(w.alloc (.cells #[.int .i64 nd,.int .i64 i,.int .i64 mem,.int .i64 k,.int .i64 q,.string d] 120)).cell? ⟨w.heap.size,5,none⟩=some (.string d):=hbx 5 _ rfl
 have HV:Hid (Below w.heap.size w (w.alloc (.cells #[.int .i64 nd,.int .i64 i,.int .i64 mem,.int .i64 k,.int .i64 q,.string d] 120))):=hV
 have HL:Hid (∀ c,c∈O→c<w.heap.size):=h.lt
 obtain ⟨l0,l1,l2⟩:=h2.base.lk k hk
 obtain ⟨e1,e2⟩:=h2.base.en k hk
 have e3:=e2 j hj
 rw [hb,if_pos rfl] at e3
 have c14:=h2.base.c14
 rw [la1] at c14
 have hll:=h2.base.lx _ la2
 have hel:=h2.base.lx _ e1
 have hlC:=h2.base.lc
 obtain ⟨d1,d2,d3⟩:=h2.base.dn k j hk hj hb
 have hdl:=h2.base.lx _ d1
 have kk:(k:Int)<(p.nl:Int):=by omega
 have jj:(j:Int)<(p.n:Int):=by omega
 have k1:((k:Int) == -1)=false:=by simp
 obtain ⟨n,hn⟩:∃ n,p.n=n:=⟨_,rfl⟩
 have HN:Hid (j<p.n∧k<p.nl∧bitI (p.lt k) j=true):=⟨hj,hk,hb⟩
 rw [hn] at l2 jj
 have HC2:Hid (Cl (w.alloc (.cells #[.int .i64 nd,.int .i64 i,.int .i64 mem,.int .i64 k,.int .i64 q,.string d] 120)) O C p fa cs s rd B m):=h2
 clear h h2 la1 la2 e2 hb hbx hV hj hn
 go_enter Tryz.func74,Tryz.ntmps74
 go_wp2_with fail
 generalize w.alloc (.cells #[.int .i64 nd,.int .i64 i,.int .i64 mem,.int .i64 k,.int .i64 q,.string d] 120)=V at *
 go_quiet (fail)
 clear c14 l0 l1 l2 e3
 have HTk:Hid (∀ (u:Nat) ,Calls Tryz.prog 99 #[.pointer (some ⟨m.R k j,0,none⟩),.agg #[.int .i64 q,.string d]] (V.drewN u) fun e w'=>e=.returned (.bool (takeB (s.newest k j) q))∧∃ O',Foot O O' V w'∧Cl w' O' C p fa cs (s.setNew k j (tkNew (takeB (s.newest k j) q) q (s.newest k j))) rd (B+1) m):=by
  intro u
  obtain ⟨hj,hk,hb⟩:=HN.out
  have hcd:Cl (V.drewN u) O C p fa cs s rd B m:=HC2.out.below ⟨rfl,rfl,rfl,Nat.le_refl _,fun _ _=>rfl⟩
  obtain ⟨OR,a,b,r1,⟨⟨r2,r3⟩,r4,r5⟩,r6,r7⟩:=hcd.rcv hk hj hb
  refine (rcvTake r1 q d r6 r2 (by omega) r4 (by omega)).mono ?_
  rintro e w' ⟨he,OR',t1,t2⟩
  refine ⟨he,?_⟩
  obtain ⟨O',y1,y2⟩:=r7 w' OR' (B+1) _ _ _ t1 t2 (by unfold tkTold tkNot;split <;> omega) (tk_in9 r6) (Nat.le_succ _)
  exact ⟨O',(Foot.drawn O V u).trans y1,y2⟩
 have HSt:Hid (takeB (s.newest k j) q=true→s.take1 k j q d=(s.setNew k j q).setPort k j (if (s.ports k j).length<16 then s.ports k j ++ [d] else s.ports k j)):=fun hT=>if_pos hT
 have HSf:Hid (takeB (s.newest k j) q=false→s.take1 k j q d=s):=fun hT=>if_neg (by rw [hT];decide)
 cases hT:takeB (s.newest k j) q
 ·rw [hT] at HTk
  have HSF:Hid (s.take1 k j q d=s):=HSf.out hT
  clear HSt HSf hT
  go_wp2_with fail
  go_region_held3 (fun u=>u.cell? ⟨w.heap.size,4,none⟩=some (.int .i64 q)∧u.cell? ⟨w.heap.size,5,none⟩=some (.string d)∧u.cell? ⟨m.D k j,0,none⟩=some (.pointer (some ⟨m.R k j,0,none⟩))) (go_keep) (first
   | (go_at_call 99;refine (HTk.out _).mono ?_;rintro ev v1 ⟨rfl,O1,hf1,hc1⟩;have HC3:Hid (Cl v1 O1 C p fa cs (s.setNew k j (tkNew false q (s.newest k j))) rd (B+1) m):=hc1;have HF1:Hid (Foot O O1 V v1):=hf1;have g4:=(hf1.box hF HL.out 4).trans f4;have g5:=(hf1.box hF HL.out 5).trans f5;have g0:=(hc1.base.dn k j HN.out.2.1 HN.out.1 HN.out.2.2).2.1))
  have HD:Hid (∃ O',Foot O O' w v1∧Cl v1 O' C p fa cs (s.take1 k j q d) rd (B+2) m):=by
   refine ⟨O1,(Foot.of_below HV.out).trans HF1.out,?_⟩
   rw [HSF.out]
   refine (HC3.out.more (Nat.le_succ _)).agree (fun _ _=>rfl) (fun _ _=>rfl) (fun k' j' _ _ _=>⟨?_,rfl⟩)
   show s.newest k' j'=if k'=k∧j'=j then tkNew false q (s.newest k j) else s.newest k' j'
   split
   ·next e=>obtain ⟨rfl,rfl⟩:=e;rfl
   ·rfl
  clear HC3 HF1 hf1 hc1 g0 g4 g5
  go_wp2
  exact bodyPost_end (v:=.tuple #[]) (by simp [results,Tryz.results74,go_sem]) rfl ⟨rfl,HD.out⟩
 ·rw [hT] at HTk
  have HST:Hid (s.take1 k j q d=(s.setNew k j q).setPort k j (if (s.ports k j).length<16 then s.ports k j ++ [d] else s.ports k j)):=HSt.out hT
  clear HSt HSf hT
  go_wp2_with fail
  go_region_held3 (fun u=>u.cell? ⟨w.heap.size,4,none⟩=some (.int .i64 q)∧u.cell? ⟨w.heap.size,5,none⟩=some (.string d)∧u.cell? ⟨m.D k j,0,none⟩=some (.pointer (some ⟨m.R k j,0,none⟩))) (go_keep) (first
   | (go_at_call 99;refine (HTk.out _).mono ?_;rintro ev v1 ⟨rfl,O1,hf1,hc1⟩;have HC3:Hid (Cl v1 O1 C p fa cs (s.setNew k j (tkNew true q (s.newest k j))) rd (B+1) m):=hc1;have HF1:Hid (Foot O O1 V v1):=hf1;have g4:=(hf1.box hF HL.out 4).trans f4;have g5:=(hf1.box hF HL.out 5).trans f5;have g0:=(hc1.base.dn k j HN.out.2.1 HN.out.1 HN.out.2.2).2.1))
  have HN1:Hid (w.heap.size∉O1):=fun y=>by
   rcases HF1.out.fresh _ y with z | z
   ·exact Nat.lt_irrefl _ (HL.out _ z)
   ·omega
  have HQ:Hid (∀ (u:Nat),Calls Tryz.prog 100 #[.pointer (some ⟨m.Q k j,0,none⟩),.string d] (v1.drewN u) fun e w'=>(∃ E,e=.returned E)∧∃ O',Foot O1 O' v1 w'∧Cl w' O' C p fa cs (s.take1 k j q d) rd (B+2) m):=by
   intro u
   obtain ⟨hj,hk,hb⟩:=HN.out
   have hcd:Cl (v1.drewN u) O1 C p fa cs (s.setNew k j (tkNew true q (s.newest k j))) rd (B+1) m:=HC3.out.below ⟨rfl,rfl,rfl,Nat.le_refl _,fun _ _=>rfl⟩
   obtain ⟨OQ,lost,r1,⟨r2,r3⟩,r4,r5⟩:=hcd.que hk hj hb
   refine (queSend r1 d (by omega) (by omega)).mono ?_
   rintro e w' ⟨he,OQ',t1,t2⟩
   refine ⟨⟨_,he⟩,?_⟩
   have r4':(s.ports k j).length≤16:=r4
   have e1:=put16 (s.ports k j) d hd
   obtain ⟨O',y1,y2⟩:=r5 w' OQ' (B+2) _ _ t1 t2 (by unfold lostK;split <;> omega) (by
    show (putAll (putK (s.ports k j).length 16 d) (s.ports k j) d).length≤16
    rw [e1]
    split
    ·simp only [List.length_append,List.length_cons,List.length_nil];omega
    ·omega) (Nat.le_succ _)
   refine ⟨O',(Foot.drawn O1 v1 u).trans y1,?_⟩
   rw [HST.out,← e1]
   exact y2
  have g1:=(HC3.out.base.dn k j HN.out.2.1 HN.out.1 HN.out.2.2).2.2
  have hdl1:=HC3.out.base.lx _ d1
  have hfl1:w.heap.size<v1.heap.size:=Nat.lt_of_lt_of_le hF HF1.out.size
  have HF0:Hid (Foot O O1 w v1):=(Foot.of_below HV.out).trans HF1.out
  clear HC3 HF1 hf1 hc1 g0 g4 HTk
  go_wp2_with fail
  go_region_held3 (fun u=>u.cell? ⟨w.heap.size,5,none⟩=some (.string d)∧u.cell? ⟨m.D k j,1,none⟩=some (.pointer (some ⟨m.Q k j,0,none⟩))) (go_keep) (first
   | (go_at_call 100;refine (HQ.out _).mono ?_;rintro ev v2 ⟨⟨E,rfl⟩,O2,hf2,hc2⟩;have HD:Hid (∃ O',Foot O O' w v2∧Cl v2 O' C p fa cs (s.take1 k j q d) rd (B+2) m):=⟨O2,HF0.out.trans hf2,hc2⟩;have y5:=(hf2.cell (p:=⟨w.heap.size,5,none⟩) hfl1 HN1.out).trans g5;have y1:=(hc2.base.dn k j HN.out.2.1 HN.out.1 HN.out.2.2).2.2))
  go_wp2
  exact bodyPost_end (v:=.tuple #[]) (by simp [results,Tryz.results74,go_sem]) rfl ⟨rfl,HD.out⟩
theorem ctake_any (h:Cl w O C p fa cs s rd B m) (nd i mem q:Int) (d:ByteArray) (j k:Nat) (hj:j<p.n) (hk:k<p.nl) (hd:d.size≤40) (hB:B≤999990) :
  Calls Tryz.prog 74 #[.pointer (some ⟨C,0,none⟩),frameV nd i mem k q d,.int .i64 j] w fun e w'=>e=.returned (.tuple #[])∧∃ O',Foot O O' w w'∧Cl w' O' C p fa cs (if bitI (p.lt k) j=true then s.take1 k j q d else s) rd (B+2) m:=by
 cases hb:bitI (p.lt k) j
 ·refine (ctake_not h nd i mem q d j k hj hk hb).mono ?_
  rintro e w' ⟨he,hw⟩
  exact ⟨he,O,Foot.of_below hw,(h.below hw).more (by omega)⟩
 ·exact ctake_end h nd i mem q d j k hj hk hb hd hB
end
end
section
section
variable {w w1 w3:World} {base:Nat} {Z:List Nat} {Of:CIx→List Nat} {C:Nat} {p:PlanN} {cc:Nat→Option Value} {clk:List Nat} {m:RMap} {i k:Nat} {T:Nat→Nat→Bool} {V12 V13 V':Value}
theorem NM.addNode {P Q:Nat} (h:NM w base Z Of C p cc clk m i k T V12 V13) (b:Below w.heap.size w w1) (hN:RefNode w1 P Q i p.n (fun _=>true) 1 0 false) (hP:w.heap.size≤P) (hQ:w.heap.size≤Q)
  (hown:w3.ownsRow base 77 1 V' (i+1) (((List.range i).map fun j=>.pointer (some ⟨m.P j,0,none⟩)) ++ [.pointer (some ⟨P,0,none⟩)])) (hgr:(w1.alloc (.cells #[.pointer (some ⟨P,0,none⟩)] 77)).grownBy w3 V12.ownBlock) (hat:V'.ownBlock=V12.ownBlock∨V'.ownBlock=some (w1.heap.size+1)) :
  ∃ Of',NM (w3.setCell ⟨C,12,none⟩ V') base Z Of' C p cc clk { m with P:=fun j=>if j=i then P else m.P j,Q:=fun j=>if j=i then Q else m.Q j } (i+1) k T V' V13:=by
 have h1:=h.below b
 obtain ⟨hfam,hlo⟩:=h.newNode b hN hP hQ
 have lC:C<w1.heap.size:=h1.lC
 have hsz:=b.size
 have hs3:w1.heap.size+1≤w3.heap.size:=by
  have:=hgr.size
  rw [show (w1.alloc (.cells #[.pointer (some ⟨P,0,none⟩)] 77)).heap.size=w1.heap.size+1 by simp] at this
  exact this
 have hsz4:(w3.setCell ⟨C,12,none⟩ V').heap.size=w3.heap.size:=by simp
 have k3:∀ c,c<w1.heap.size→V12.ownBlock≠some c→w3.heap[c]? = w1.heap[c]?:=fun c hc hv=>(hgr.block c (by simp;omega) (fun e=>hv e.symm)).trans (((Below.refl w1.heap.size w1).alloc (Nat.le_refl _) _).block c hc)
 have k4:∀ c,c≠C→(w3.setCell ⟨C,12,none⟩ V').heap[c]? = w3.heap[c]?:=fun c hc=>Below.heap_setCell _ _ _ c hc
 have hC12:V12.ownBlock≠some C:=fun e=>h.nC (List.mem_cons_of_mem _ (List.mem_append.2 (.inr (List.mem_append.2 (.inl (by rw [e];simp))))))
 have cell3:∀ q,w3.cell? ⟨C,q,none⟩=w1.cell? ⟨C,q,none⟩:=fun q=>World.cell?_of_block (w:=w1) (a:=⟨C,q,none⟩) (k3 C lC hC12)
 have froz3:∀ q,w3.frozen? ⟨C,q,none⟩=w1.frozen? ⟨C,q,none⟩:=fun q=>World.frozen?_of_block (w:=w1) (a:=⟨C,q,none⟩) (k3 C lC hC12)
 have hV':∀ g,V'.ownBlock=some g→g≠C:=fun g hg e=>by
  rcases hat with y | y
  ·exact hC12 (by rw [← y,hg,e])
  ·rw [y] at hg;have:=Option.some.inj hg;omega
 have iBm:∀ c,c∈Of iB→c=C∨c=m.tb∨c∈clk∨V12.ownBlock=some c∨V13.ownBlock=some c:=fun c hc=>by
  rw [h.ob] at hc
  simpa using hc
 have hob:setO Of (iN i) [P,Q] iB=Of iB:=setO_not _ _ (by intro e;cases e)
 have hF:Foot (setO Of (iN i) [P,Q] iB) (C::m.tb::(clk ++ (V'.ownBlock.toList ++ V13.ownBlock.toList))) w1 (w3.setCell ⟨C,12,none⟩ V'):=by
  rw [hob]
  refine ⟨hgr.os,hgr.tape,hgr.output,by rw [hsz4];omega,fun c hc hn=>?_,fun c hc=>?_⟩
  ·have hcC:c≠C:=fun e=>hn (by rw [h.ob,e];exact List.mem_cons_self)
   have hcV:V12.ownBlock≠some c:=fun e=>hn (by rw [h.ob];simp [e])
   exact (k4 c hcC).trans (k3 c hc hcV)
  ·have old:∀ c,c=C∨c=m.tb∨c∈clk∨V13.ownBlock=some c→c∈Of iB:=fun c hc=>by
    rw [h.ob]
    rcases hc with e | e | e | e <;> simp [e]
   simp only [List.mem_cons,List.mem_append,Option.mem_toList] at hc
   rcases hc with e | e | e | e | e
   ·exact .inl (old c (.inl e))
   ·exact .inl (old c (.inr (.inl e)))
   ·exact .inl (old c (.inr (.inr (.inl e))))
   ·rcases hat with y | y
    ·left;rw [h.ob];have:V12.ownBlock=some c:=by rw [← y];exact e
     simp [this]
    ·right;rw [y] at e;have:=Option.some.inj e;omega
   ·exact .inl (old c (.inr (.inr (.inr e))))
 have hltV:∀ g,V'.ownBlock=some g→g<w3.heap.size:=fun g hg=>(hown.lt g hg).2
 have hY:∀ c,c∈C::m.tb::(clk ++ (V'.ownBlock.toList ++ V13.ownBlock.toList))→c<(w3.setCell ⟨C,12,none⟩ V').heap.size:=fun c hc=>by
  rw [hsz4]
  have old:∀ c,c∈Of iB→c<w3.heap.size:=fun c hc=>by have:=h1.fam.lt iB c hc;omega
  simp only [List.mem_cons,List.mem_append,Option.mem_toList] at hc
  rcases hc with e | e | e | e | e
  ·exact old c (by rw [h.ob];simp [e])
  ·exact old c (by rw [h.ob];simp [e])
  ·exact old c (by rw [h.ob];simp [e])
  ·exact hltV c e
  ·exact old c (by rw [h.ob];simp [show V13.ownBlock=some c from e])
 have hfam2:=hfam.step (i:=iB) hF hY
 have same:∀ x,x≠iB→Same (setO Of (iN i) [P,Q] x) w1 (w3.setCell ⟨C,12,none⟩ V'):=fun x hx=>hfam.same hF hx
 have so:∀ x,x≠iB→x≠iN i→setO (setO Of (iN i) [P,Q]) iB (C::m.tb::(clk ++ (V'.ownBlock.toList ++ V13.ownBlock.toList))) x=Of x:=fun x h1 h2=>by rw [setO_not _ _ h1,setO_not _ _ h2]
 have sameO:∀ x,x≠iB→x≠iN i→Same (Of x) w1 (w3.setCell ⟨C,12,none⟩ V'):=fun x h1 h2=>by
  have:=same x h1
  rw [setO_not _ _ h2] at this
  exact this
 have fresh12:∀ g,V'.ownBlock=some g→V12.ownBlock=some g∨w1.heap.size≤g:=fun g hg=>by
  rcases hat with y | y
  ·exact .inl (by rw [← y];exact hg)
  ·rw [y] at hg;have:=Option.some.inj hg;exact .inr (by omega)
 have lowX:∀ c,c=m.tb∨c∈clk∨V13.ownBlock=some c→c<w1.heap.size:=fun c hc=>h1.fam.lt iB c (by
  rw [h.ob]
  rcases hc with e | e | e <;> simp [e])
 refine ⟨_,⟨fun q h2 h3=>?_,?_,?_,fun q=>?_,?_,?_,setO_at _ _ _,?_,?_,?_,fun g hg hc=>?_,h.n13,fun j hj=>?_,fun j hj=>?_,fun a c hT=>?_,?_,⟨?_,?_⟩,fun j hj=>?_,fun j hj=>?_,fun a c hT=>?_,?_,hfam2,fun x c hx hc=>?_,by rw [hsz4];have:=h.sz;omega⟩⟩
 ·exact (cell_other (.inr h2)).trans ((cell3 q).trans (h1.cel q h2 h3))
 ·exact cell_set ((cell3 12).trans h1.c12)
 ·exact (cell_other (.inr (by decide))).trans ((cell3 13).trans h1.c13)
 ·exact soft_set.trans ((froz3 q).trans (h1.z q))
 ·have e:(List.range (i+1)).map (fun j=>Value.pointer (some ⟨if j=i then P else m.P j,0,none⟩))=((List.range i).map fun j=>Value.pointer (some ⟨m.P j,0,none⟩)) ++ [.pointer (some ⟨P,0,none⟩)]:=by
   rw [List.range_succ,List.map_append]
   congr 1
   ·refine List.map_congr_left fun j hj=>?_
    have:=List.mem_range.1 hj
    rw [if_neg (by omega)]
   ·simp
  show (w3.setCell ⟨C,12,none⟩ V').ownsRow base 77 1 V' (i+1) ((List.range (i+1)).map (fun j=>Value.pointer (some ⟨if j=i then P else m.P j,0,none⟩)))
  rw [e]
  exact owns_same (X:=V'.ownBlock.toList) hown ⟨by rw [hsz4];exact Nat.le_refl _,fun c hc=>k4 c (hV' c (by simpa using hc))⟩ (fun g hg=>by simpa using hg)
 ·refine owns_same (X:=V13.ownBlock.toList) h1.own13 ⟨by rw [hsz4];omega,fun c hc=>?_⟩ (fun g hg=>by simpa using hg)
  have hc':V13.ownBlock=some c:=by simpa using hc
  have hcC:c≠C:=fun e=>h.nC (by rw [← e];simp [hc'])
  refine (k4 c hcC).trans (k3 c (lowX c (.inr (.inr hc'))) (fun e=>?_))
  rcases h.ap with y | y
  ·rw [y] at e;cases e
  ·exact y (by rw [e,hc'])
 ·rcases hq:V'.ownBlock with _ | g
  ·exact .inl rfl
  ·right
   intro e
   rcases fresh12 g hq with y | y
   ·rcases h.ap with z | z
    ·rw [z] at y;cases y
    ·exact z (by rw [y,e])
   ·have:=lowX g (.inr (.inr e.symm));omega
 ·intro hc
  simp only [List.mem_cons,List.mem_append,Option.mem_toList] at hc
  rcases hc with e | e | e | e
  ·exact h.nC (by rw [e];simp)
  ·exact h.nC (by simp [e])
  ·exact hV' C e rfl
  ·exact h.nC (by simp [show V13.ownBlock=some C from e])
 ·intro hc
  simp only [List.mem_append,Option.mem_toList] at hc
  rcases hc with e | e | e
  ·exact h.nT (by simp [e])
  ·rcases fresh12 m.tb e with y | y
   ·exact h.nT (by simp [y])
   ·have:=lowX m.tb (.inl rfl);omega
  ·exact h.nT (by simp [show V13.ownBlock=some m.tb from e])
 ·rcases fresh12 g hg with y | y
  ·exact h.n12 g y hc
  ·have:=lowX g (.inr (.inl hc));omega
 ·by_cases e:j=i
  ·subst e
   simp only [if_pos]
   have hs:=same (iN j) (by intro y;cases y)
   rw [setO_at] at hs
   exact ⟨hN.keepS hs,by rw [setO_not _ _ (by intro y;cases y),setO_at]⟩
  ·simp only [if_neg e]
   have hne:iN j≠iN i:=by intro y;cases y;exact e rfl
   have hn:=h1.node j (by omega)
   exact ⟨hn.1.keepS (hn.2▸sameO (iN j) (by intro y;cases y) hne),by rw [so _ (by intro y;cases y) hne];exact hn.2⟩
 ·rw [so _ (by intro y;cases y) (by intro y;cases y)]
  exact (h1.snd j hj).keep (sameO _ (by intro y;cases y) (by intro y;cases y))
 ·rw [so _ (by intro y;cases y) (by intro y;cases y)]
  have hn:=h1.rcv a c hT
  exact ⟨hn.1.keep (hn.2▸sameO (iR a c) (by intro y;cases y) (by intro y;cases y)),hn.2⟩
 ·obtain ⟨g,hg,hr⟩:=h1.tk
  have hl:=lowX m.tb (.inl rfl)
  have hcC:m.tb≠C:=fun e=>h.nC (by rw [← e];exact List.mem_cons_self)
  exact ⟨g,hg.keep ((k4 _ hcC).trans (k3 _ hl (fun e=>h.nT (by simp [e])))),hr⟩
 ·rw [so _ (by decide) (by intro y;cases y)]
  exact h1.prt.1
 ·exact h1.prt.2.keep (by have:=sameO iP (by decide) (by intro y;cases y);rw [h1.prt.1] at this;exact this)
 ·rw [so _ (by intro y;cases y) (by intro y;cases y;omega)]
  exact h.eN j (by omega)
 ·rw [so _ (by intro y;cases y) (by intro y;cases y)]
  exact h.eS j hj
 ·rw [so _ (by intro y;cases y) (by intro y;cases y)]
  exact h.eR a c hT
 ·rw [so _ (by decide) (by intro y;cases y)]
  exact h.oz
 ·by_cases e:x=iB
  ·subst e
   rw [setO_at] at hc
   have:=h.sz
   rcases hF.fresh c hc with y | y
   ·rw [hob] at y;exact h.lo iB c (by decide) y
   ·omega
  ·rw [setO_not _ _ e] at hc
   exact hlo x c hx hc
end
end
section
section
variable {w w1 w3:World} {base:Nat} {Z:List Nat} {Of:CIx→List Nat} {C:Nat} {p:PlanN} {cc:Nat→Option Value} {clk:List Nat} {m:RMap} {i k:Nat} {T:Nat→Nat→Bool} {V12 V13 V':Value}
theorem NM.addLink {S:Nat} (h:NM w base Z Of C p cc clk m i k T V12 V13) (b:Below w.heap.size w w1) (hN:RefSdr w1 [S] S (p.lb k) (p.lq k) [] 0 0 0) (hP:w.heap.size≤S)
  (hown:w3.ownsRow base 65 1 V' (k+1) (((List.range k).map fun j=>.pointer (some ⟨m.S j,0,none⟩)) ++ [.pointer (some ⟨S,0,none⟩)])) (hgr:(w1.alloc (.cells #[.pointer (some ⟨S,0,none⟩)] 65)).grownBy w3 V13.ownBlock) (hat:V'.ownBlock=V13.ownBlock∨V'.ownBlock=some (w1.heap.size+1)) :
  ∃ Of',NM (w3.setCell ⟨C,13,none⟩ V') base Z Of' C p cc clk { m with S:=fun j=>if j=k then S else m.S j } i (k+1) T V12 V':=by
 have h1:=h.below b
 have hfam:Fam w1 (setO Of (iS k) [S]):=h.fam.add b (h.eS k (Nat.le_refl _)) (fun c hc=>by
  rw [List.mem_singleton.1 hc]
  exact ⟨hP,hN.lt S List.mem_cons_self⟩)
 have hlo:∀ x c,x≠iZ→c∈setO Of (iS k) [S] x→base≤c:=fun x c hx hc=>by
  by_cases e:x=iS k
  ·subst e
   rw [setO_at] at hc
   have:=h.sz
   rw [List.mem_singleton.1 hc]
   omega
  ·rw [setO_not _ _ e] at hc
   exact h.lo x c hx hc
 have lC:C<w1.heap.size:=h1.lC
 have hsz:=b.size
 have hs3:w1.heap.size+1≤w3.heap.size:=by
  have:=hgr.size
  rw [show (w1.alloc (.cells #[.pointer (some ⟨S,0,none⟩)] 65)).heap.size=w1.heap.size+1 by simp] at this
  exact this
 have hsz4:(w3.setCell ⟨C,13,none⟩ V').heap.size=w3.heap.size:=by simp
 have k3:∀ c,c<w1.heap.size→V13.ownBlock≠some c→w3.heap[c]? = w1.heap[c]?:=fun c hc hv=>(hgr.block c (by simp;omega) (fun e=>hv e.symm)).trans (((Below.refl w1.heap.size w1).alloc (Nat.le_refl _) _).block c hc)
 have k4:∀ c,c≠C→(w3.setCell ⟨C,13,none⟩ V').heap[c]? = w3.heap[c]?:=fun c hc=>Below.heap_setCell _ _ _ c hc
 have hC12:V13.ownBlock≠some C:=fun e=>h.nC (List.mem_cons_of_mem _ (List.mem_append.2 (.inr (List.mem_append.2 (.inr (by rw [e];simp))))))
 have cell3:∀ q,w3.cell? ⟨C,q,none⟩=w1.cell? ⟨C,q,none⟩:=fun q=>World.cell?_of_block (w:=w1) (a:=⟨C,q,none⟩) (k3 C lC hC12)
 have froz3:∀ q,w3.frozen? ⟨C,q,none⟩=w1.frozen? ⟨C,q,none⟩:=fun q=>World.frozen?_of_block (w:=w1) (a:=⟨C,q,none⟩) (k3 C lC hC12)
 have hV':∀ g,V'.ownBlock=some g→g≠C:=fun g hg e=>by
  rcases hat with y | y
  ·exact hC12 (by rw [← y,hg,e])
  ·rw [y] at hg;have:=Option.some.inj hg;omega
 have iBm:∀ c,c∈Of iB→c=C∨c=m.tb∨c∈clk∨V12.ownBlock=some c∨V13.ownBlock=some c:=fun c hc=>by
  rw [h.ob] at hc
  simpa using hc
 have hob:setO Of (iS k) [S] iB=Of iB:=setO_not _ _ (by intro e;cases e)
 have hF:Foot (setO Of (iS k) [S] iB) (C::m.tb::(clk ++ (V12.ownBlock.toList ++ V'.ownBlock.toList))) w1 (w3.setCell ⟨C,13,none⟩ V'):=by
  rw [hob]
  refine ⟨hgr.os,hgr.tape,hgr.output,by rw [hsz4];omega,fun c hc hn=>?_,fun c hc=>?_⟩
  ·have hcC:c≠C:=fun e=>hn (by rw [h.ob,e];exact List.mem_cons_self)
   have hcV:V13.ownBlock≠some c:=fun e=>hn (by rw [h.ob];simp [e])
   exact (k4 c hcC).trans (k3 c hc hcV)
  ·have old:∀ c,c=C∨c=m.tb∨c∈clk∨V12.ownBlock=some c→c∈Of iB:=fun c hc=>by
    rw [h.ob]
    rcases hc with e | e | e | e <;> simp [e]
   simp only [List.mem_cons,List.mem_append,Option.mem_toList] at hc
   rcases hc with e | e | e | e | e
   ·exact .inl (old c (.inl e))
   ·exact .inl (old c (.inr (.inl e)))
   ·exact .inl (old c (.inr (.inr (.inl e))))
   ·exact .inl (old c (.inr (.inr (.inr e))))
   ·rcases hat with y | y
    ·left;rw [h.ob];have:V13.ownBlock=some c:=by rw [← y];exact e
     simp [this]
    ·right;rw [y] at e;have:=Option.some.inj e;omega
 have hltV:∀ g,V'.ownBlock=some g→g<w3.heap.size:=fun g hg=>(hown.lt g hg).2
 have hY:∀ c,c∈C::m.tb::(clk ++ (V12.ownBlock.toList ++ V'.ownBlock.toList))→c<(w3.setCell ⟨C,13,none⟩ V').heap.size:=fun c hc=>by
  rw [hsz4]
  have old:∀ c,c∈Of iB→c<w3.heap.size:=fun c hc=>by have:=h1.fam.lt iB c hc;omega
  simp only [List.mem_cons,List.mem_append,Option.mem_toList] at hc
  rcases hc with e | e | e | e | e
  ·exact old c (by rw [h.ob];simp [e])
  ·exact old c (by rw [h.ob];simp [e])
  ·exact old c (by rw [h.ob];simp [e])
  ·exact old c (by rw [h.ob];simp [show V12.ownBlock=some c from e])
  ·exact hltV c e
 have hfam2:=hfam.step (i:=iB) hF hY
 have same:∀ x,x≠iB→Same (setO Of (iS k) [S] x) w1 (w3.setCell ⟨C,13,none⟩ V'):=fun x hx=>hfam.same hF hx
 have so:∀ x,x≠iB→x≠iS k→setO (setO Of (iS k) [S]) iB (C::m.tb::(clk ++ (V12.ownBlock.toList ++ V'.ownBlock.toList))) x=Of x:=fun x h1 h2=>by rw [setO_not _ _ h1,setO_not _ _ h2]
 have sameO:∀ x,x≠iB→x≠iS k→Same (Of x) w1 (w3.setCell ⟨C,13,none⟩ V'):=fun x h1 h2=>by
  have:=same x h1
  rw [setO_not _ _ h2] at this
  exact this
 have fresh12:∀ g,V'.ownBlock=some g→V13.ownBlock=some g∨w1.heap.size≤g:=fun g hg=>by
  rcases hat with y | y
  ·exact .inl (by rw [← y];exact hg)
  ·rw [y] at hg;have:=Option.some.inj hg;exact .inr (by omega)
 have lowX:∀ c,c=m.tb∨c∈clk∨V12.ownBlock=some c→c<w1.heap.size:=fun c hc=>h1.fam.lt iB c (by
  rw [h.ob]
  rcases hc with e | e | e <;> simp [e])
 refine ⟨_,⟨fun q h2 h3=>?_,?_,?_,fun q=>?_,?_,?_,setO_at _ _ _,?_,?_,?_,h.n12,fun g hg hc=>?_,fun j hj=>?_,fun j hj=>?_,fun a c hT=>?_,?_,⟨?_,?_⟩,fun j hj=>?_,fun j hj=>?_,fun a c hT=>?_,?_,hfam2,fun x c hx hc=>?_,by rw [hsz4];have:=h.sz;omega⟩⟩
 ·exact (cell_other (.inr h3)).trans ((cell3 q).trans (h1.cel q h2 h3))
 ·exact (cell_other (.inr (by decide))).trans ((cell3 12).trans h1.c12)
 ·exact cell_set ((cell3 13).trans h1.c13)
 ·exact soft_set.trans ((froz3 q).trans (h1.z q))
 ·refine owns_same (X:=V12.ownBlock.toList) h1.own12 ⟨by rw [hsz4];omega,fun c hc=>?_⟩ (fun g hg=>by simpa using hg)
  have hc':V12.ownBlock=some c:=by simpa using hc
  have hcC:c≠C:=fun e=>h.nC (by rw [← e];simp [hc'])
  refine (k4 c hcC).trans (k3 c (lowX c (.inr (.inr hc'))) (fun e=>?_))
  rcases h.ap with y | y
  ·rw [y] at hc';cases hc'
  ·exact y (by rw [e,hc'])
 ·have e:(List.range (k+1)).map (fun j=>Value.pointer (some ⟨if j=k then S else m.S j,0,none⟩))=((List.range k).map fun j=>Value.pointer (some ⟨m.S j,0,none⟩)) ++ [.pointer (some ⟨S,0,none⟩)]:=by
   rw [List.range_succ,List.map_append]
   congr 1
   ·refine List.map_congr_left fun j hj=>?_
    have:=List.mem_range.1 hj
    rw [if_neg (by omega)]
   ·simp
  show (w3.setCell ⟨C,13,none⟩ V').ownsRow base 65 1 V' (k+1) ((List.range (k+1)).map (fun j=>Value.pointer (some ⟨if j=k then S else m.S j,0,none⟩)))
  rw [e]
  exact owns_same (X:=V'.ownBlock.toList) hown ⟨by rw [hsz4];exact Nat.le_refl _,fun c hc=>k4 c (hV' c (by simpa using hc))⟩ (fun g hg=>by simpa using hg)
 ·rcases hq:V12.ownBlock with _ | g
  ·exact .inl rfl
  ·right
   intro e
   rcases fresh12 g e.symm with y | y
   ·rcases h.ap with z | z
    ·rw [z] at hq;cases hq
    ·exact z (by rw [hq,y])
   ·have:=lowX g (.inr (.inr hq));omega
 ·intro hc
  simp only [List.mem_cons,List.mem_append,Option.mem_toList] at hc
  rcases hc with e | e | e | e
  ·exact h.nC (by rw [e];simp)
  ·exact h.nC (by simp [e])
  ·exact h.nC (by simp [show V12.ownBlock=some C from e])
  ·exact hV' C e rfl
 ·intro hc
  simp only [List.mem_append,Option.mem_toList] at hc
  rcases hc with e | e | e
  ·exact h.nT (by simp [e])
  ·exact h.nT (by simp [show V12.ownBlock=some m.tb from e])
  ·rcases fresh12 m.tb e with y | y
   ·exact h.nT (by simp [y])
   ·have:=lowX m.tb (.inl rfl);omega
 ·rcases fresh12 g hg with y | y
  ·exact h.n13 g y hc
  ·have:=lowX g (.inr (.inl hc));omega
 ·rw [so _ (by intro y;cases y) (by intro y;cases y)]
  have hn:=h1.node j hj
  exact ⟨hn.1.keepS (hn.2▸sameO (iN j) (by intro y;cases y) (by intro y;cases y)),hn.2⟩
 ·by_cases e:j=k
  ·subst e
   simp only [if_pos]
   have hs:=same (iS j) (by intro y;cases y)
   rw [setO_at] at hs
   rw [setO_not _ _ (by intro y;cases y),setO_at]
   exact hN.keep hs
  ·simp only [if_neg e]
   have hne:iS j≠iS k:=by intro y;cases y;exact e rfl
   rw [so _ (by intro y;cases y) hne]
   exact (h1.snd j (by omega)).keep (sameO _ (by intro y;cases y) hne)
 ·rw [so _ (by intro y;cases y) (by intro y;cases y)]
  have hn:=h1.rcv a c hT
  exact ⟨hn.1.keep (hn.2▸sameO (iR a c) (by intro y;cases y) (by intro y;cases y)),hn.2⟩
 ·obtain ⟨g,hg,hr⟩:=h1.tk
  have hl:=lowX m.tb (.inl rfl)
  have hcC:m.tb≠C:=fun e=>h.nC (by rw [← e];exact List.mem_cons_self)
  exact ⟨g,hg.keep ((k4 _ hcC).trans (k3 _ hl (fun e=>h.nT (by simp [e])))),hr⟩
 ·rw [so _ (by decide) (by intro y;cases y)]
  exact h1.prt.1
 ·exact h1.prt.2.keep (by have:=sameO iP (by decide) (by intro y;cases y);rw [h1.prt.1] at this;exact this)
 ·rw [so _ (by intro y;cases y) (by intro y;cases y)]
  exact h.eN j hj
 ·rw [so _ (by intro y;cases y) (by intro y;cases y;omega)]
  exact h.eS j (by omega)
 ·rw [so _ (by intro y;cases y) (by intro y;cases y)]
  exact h.eR a c hT
 ·rw [so _ (by decide) (by intro y;cases y)]
  exact h.oz
 ·by_cases e:x=iB
  ·subst e
   rw [setO_at] at hc
   have:=h.sz
   rcases hF.fresh c hc with y | y
   ·rw [hob] at y;exact h.lo iB c (by decide) y
   ·omega
  ·rw [setO_not _ _ e] at hc
   exact hlo x c hx hc
end
end
end Go.Proofs.YtooadfgibdjdeaaGreatDoor
