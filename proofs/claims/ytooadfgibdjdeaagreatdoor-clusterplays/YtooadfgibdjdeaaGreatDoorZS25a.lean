import Derived.Test.YtooadfgibdjdeaaGreatDoorZRPBlock
namespace Go.Proofs.YtooadfgibdjdeaaGreatDoor
open Go.RowKit
set_option maxRecDepth 100000
set_option maxHeartbeats 16000000
section
section
variable {wr:World} {Oi Z:List Nat} {C:Nat} {p:PlanN} {fa:Int} {cs:List Int} {si:ClS} {rd:Int} {B:Nat} {m:RMap}
def w_rp_oneA_0 (k:Nat):Bool:=(decide (21≤k) && decide (k≤38)) || (decide (40≤k) && decide (k≤41)) || (decide (215≤k) && decide (k≤439))
theorem rp_oneA (code:Code) (hcode:Tryz.f10.body.bind (blockIn 9)=some code) (Q:Exit→Act→World→Prop) (h:RCl wr Oi Z C p fa cs si rd B m) (H:HapS) (i:Nat) (la:Option Addr) (nL lc:Nat) (ls lch lt:Nat→Int) (ma:Option Addr) (mc:Nat) (modes:List Int) (SA:Option Addr) (hSA:SA=m.sa)
  (hlt:i<p.ns) (hnn:p.nodes=p.n) (hn1:1≤p.n) (hn:p.n≤16) (hnl:p.nl≤8) (hns:p.ns≤32) (hB0:1≤B) (hB:B≤999000) (hr:Rows3 wr la nL ls lch lt) (hrO:∀ b off,la=some ⟨b,off,none⟩→b∉Oi) (hrL:∀ b off,la=some ⟨b,off,none⟩→b<wr.heap.size) (hL:nL≤9223372036854775807)
  (hm:IntRow wr ma modes) (hmO:∀ b off,ma=some ⟨b,off,none⟩→0<modes.length→b∉Oi) (hmL:modes.length≤9223372036854775807) (hlies:H.lies=bitI fa) (hmode:∀ j,H.mode j=if j<modes.length then modes.getD j 0 else 0) (hlost:∀ i c j,H.lost i c j=lostB ls lch lt nL i c j)
  (hrd:0≤rd) (hrd1:rd≤1000000) (hr1:1≤p.round) (hr2:p.round≤137438953472) (hslot:∀ i,i<p.ns→(0≤p.nd i∧p.nd i<p.nodes)∧0≤p.fr i∧p.fr i≤1099511627776) (hlk:∀ k,k<p.nl→0≤p.lf k∧0≤p.lb k∧p.lb k≤1099511627776) (hcase:bitI fa (p.S.nd i)=false) {L:List Value} (hL0:L.length=452) (s0:L[0]? = some (.pointer (some ⟨C,0,none⟩))) (s1:L[1]? = some (.slice la nL lc)) (s4:L[4]? = some (.slice ma modes.length mc)) (s11:L[11]? = some (.int .i64 p.n)) (s211:L[211]? = some (.slice SA p.ns m.scap)) (s212:L[212]? = some (.int .i64 p.ns)) (s213:L[213]? = some (.int .i64 i))
  (hexit:∀ (L':List Value) (w':World),InRC Oi wr w' Z C p fa cs (si.slot p.S H rd i) rd (B+70) m→L'.length=452→Rest w_rp_oneA_0 L L'→Q .normal ⟨L'.toArray,[]⟩ w') :
  Code.wp Tryz.prog code Q ⟨L.toArray,[]⟩ wr:=by
 have hb2:(Tryz.f10.body.bind (blockIn 9)).getD Code.skip=code:=by rw [hcode];rfl
 obtain rfl:=hb2
 clear hcode
 conv=>arg 2;whnf
 have HEX:Hid _:=hexit
 obtain ⟨fL,rfl⟩:=lit L 452 hL0
 replace s0:=lit_at s0
 replace s1:=lit_at s1
 replace s4:=lit_at s4
 replace s11:=lit_at s11
 replace s211:=lit_at s211
 replace s212:=lit_at s212
 replace s213:=lit_at s213
 simp only [List.range,List.range.loop,List.map_cons,List.map_nil,s0,s1,s4,s11,s211,s212,s213]
 clear hexit
 obtain ⟨b,off,e,hbZ,hc⟩:=h.rows.sl (by omega)
 have hbl:=h.rows.zl b hbZ
 obtain ⟨x0,x1,x2⟩:=hc i hlt
 obtain ⟨⟨n0,n1⟩,g0,g1⟩:=hslot i hlt
 obtain ⟨who,hwho⟩:∃ who,p.S.nd i=who:=⟨_,rfl⟩
 have hwi:p.nd i=(who:Int):=by
  have:(p.nd i).toNat=who:=hwho
  omega
 have hwn:who<p.n:=by omega
 have HWHO:Hid (p.S.nd i=who):=hwho
 have hSAe:SA=some ⟨b,off,none⟩:=hSA.trans e
 rw [hwho] at hcase
 have ii:(i:Int)<(p.ns:Int):=by omega
 have HLNK:Hid (∀ k,k<p.nl→0≤p.lf k∧0≤p.lb k∧p.lb k≤1099511627776):=hlk
 have HLIES:Hid (H.lies=bitI fa):=hlies
 have HMODE:Hid (∀ j,H.mode j=if j<modes.length then modes.getD j 0 else 0):=hmode
 clear hSA hc hwho hlk hlies hmode
 subst hSAe
 rw [hwi] at x0
 obtain ⟨z0,z1,z2⟩:=lbox3 wr (.int .i64 (who:Int)) (.int .i64 (p.fr i)) (.int .i64 (p.td i)) 95
 have zb:Below wr.heap.size wr (wr.alloc (.cells #[.int .i64 (who:Int),.int .i64 (p.fr i),.int .i64 (p.td i)] 95)):=(Below.refl _ _).alloc (Nat.le_refl _) _
 have zs:(wr.alloc (.cells #[.int .i64 (who:Int),.int .i64 (p.fr i),.int .i64 (p.td i)] 95)).heap.size=wr.heap.size+1:=by simp
 have hci:=h
 obtain ⟨W1,hW1⟩:∃ W1,W1=wr.alloc (.cells #[.int .i64 (who:Int),.int .i64 (p.fr i),.int .i64 (p.td i)] 95):=⟨_,rfl⟩
 have HW1:Hid (W1=wr.alloc (.cells #[.int .i64 (who:Int),.int .i64 (p.fr i),.int .i64 (p.td i)] 95)):=hW1
 obtain ⟨SB,hSBe⟩:∃ SB,wr.heap.size=SB:=⟨_,rfl⟩
 have HSBE:Hid (wr.heap.size=SB):=hSBe
 rw [← hW1] at z0 z1 z2 zb zs
 have HSO:Hid (SB∉Oi):=fun y=>by have:=hci.lt _ y;omega
 have HMSG:Hid (MsgIn p (si.goes p.S H rd i).2):=hci.msg H i
 have HI1:Hid (InRC Oi W1 W1 Z C p fa cs si rd (B) m):=⟨Oi,Foot.refl _ _,hci.below zb⟩
 have HBKi:Hid (∀ (w':World) (s2:ClS) (B2:Nat),InRC Oi W1 w' Z C p fa cs s2 rd B2 m→InRC Oi wr w' Z C p fa cs s2 rd B2 m):=fun w' s2 B2 ⟨O2,h2,c2⟩=>⟨O2,(Foot.of_below zb).trans h2,c2⟩
 have HROi:Hid (∀ b off,la=some ⟨b,off,none⟩→b∉Oi):=hrO
 have HRLi:Hid (∀ b off,la=some ⟨b,off,none⟩→b<W1.heap.size):=fun b off e=>by have:=hrL b off e;omega
 have HRW:Hid (Rows3 W1 la nL ls lch lt):=hr.below zb
 have HMR:Hid (∀ (x:Nat),x<modes.length→∃ b2 off2,ma=some ⟨b2,off2,none⟩∧(b2<W1.heap.size∧b2∉Oi)∧W1.cell? ⟨b2,off2+x,none⟩=some (.int .i64 (modes.getD x 0))):=fun x hx=>by
  obtain ⟨b2,off2,e2,hb2,hc2⟩:=hm (by omega)
  exact ⟨b2,off2,e2,⟨by omega,hmO b2 off2 e2 (by omega)⟩,(zb.cell (p:=⟨b2,off2+x,none⟩) hb2).trans (hc2 x hx)⟩
 have HLO:Hid (∀ j,j<p.n→∀ c,c<2→lostB ls lch lt nL i c j=bitI (if c=0 then bitsV (fun j=>H.lost i 0 j) p.n else bitsV (fun j=>H.lost i 1 j) p.n) j):=fun j hj c hc=>by
  have:c=0∨c=1:=by omega
  rcases this with rfl | rfl
  ·rw [if_pos rfl,bitI_bitsV _ hn hj,hlost]
  ·rw [if_neg (by decide),bitI_bitsV _ hn hj,hlost]
 have hSB:SB<W1.heap.size:=by omega
 rw [hSBe] at z0 z1 z2
 have sb0:W1.cell? ⟨SB,0,none⟩=some (.int .i64 who):=z0
 have sb1:W1.cell? ⟨SB,1,none⟩=some (.int .i64 (p.fr i)):=z1
 have hLi:=refLies_any C fa who (by omega) W1 HI1.out.base.c10
 obtain ⟨sB,hsB⟩:∃ sB,sendsB (si.nodes who).g (si.nodes who).b (si.nodes who).fz=sB:=⟨_,rfl⟩
 obtain ⟨M0,hM0⟩:∃ M0,(if sendsB (si.nodes who).g (si.nodes who).b (si.nodes who).fz=true then bitsV (si.nodes who).t p.n else 0)=M0:=⟨_,rfl⟩
 have HSBB:Hid (sendsB (si.nodes who).g (si.nodes who).b (si.nodes who).fz=sB):=hsB
 have HM0:Hid ((if sendsB (si.nodes who).g (si.nodes who).b (si.nodes who).fz=true then bitsV (si.nodes who).t p.n else 0)=M0):=hM0
 have HM1:Hid (sB=true→M0=bitsV (si.nodes who).t p.n):=fun y=>by rw [← hM0,hsB,if_pos y]
 clear hW1 hci h hsB hM0 zb z0 z1 z2 e hr hrO hrL hm hmO hlost hslot
 rw [HW1.out] at hLi sb0 sb1
 go_wp2_with fail
 try rw [HSBE.out]
 refine hLi.mono ?_
 rintro ev w2 ⟨rfl,q2,hw2⟩
 rw [← HW1.out] at hw2 sb0 sb1
 have HI2:Hid (InRC Oi W1 w2 Z C p fa cs si rd (B) m):=by rw [hw2];exact HI1.out.drawn q2
 have ysl0:w2.cell? ⟨SB,0,none⟩=some (.int .i64 who):=(HI2.out.box hSB HSO.out 0).trans sb0
 have hSBq:SB<w2.heap.size:=Nat.lt_of_lt_of_le hSB HI2.out.size
 clear hw2 hLi
 have hmo:H.modeOf who=0:=by unfold HapS.modeOf;rw [HLIES.out,hcase,if_neg (by decide)]
 have HSENT:Hid (sB=si.sends H who):=by show _=_;unfold ClS.sends;rw [HSBB.out,hmo];simp
 have HMEM:Hid (sB=true→M0=bitsV (si.tells p.S H who) p.n):=fun y=>(HM1.out y).trans (bitsV_congr fun j _=>by show _=if H.modeOf who=2∧_ then _ else _;rw [hmo,if_neg (fun z=>by cases z.1)])
 rw [hcase]
 clear hmo hcase
 have y12:=HI2.out.base.c12
 have ynd:=HI2.out.base.nd who hwn
 have ynl:=HI2.out.base.lx _ HI2.out.base.ndX
 have lc2:=HI2.out.base.lc
 have ysb0:w2.cell? ⟨SB,0,none⟩=some (.int .i64 who):=(HI2.out.box hSB HSO.out 0).trans sb0
 have hSB2:SB<w2.heap.size:=Nat.lt_of_lt_of_le hSB HI2.out.size
 have HSN:Hid (Calls Tryz.prog 43 #[.pointer (some ⟨m.P who,0,none⟩)] w2.drew fun e w'=>e=.returned (.tuple #[.int .i64 M0,.bool sB])∧InRC Oi W1 w' Z C p fa cs (si.setNode who (si.nodes who).sent) rd (B) m):=by
  have q:=rsendsI (HI2.out.drawn 1) who hwn hn (by omega)
  rw [HM0.out,HSBB.out] at q
  exact q
 have HY:Hid (∀ (w':World) (s':ClS) (B':Nat),InRC Oi W1 w' Z C p fa cs s' rd B' m→(w'.cell? ⟨C,12,none⟩=some (.slice (some ⟨m.nb,0,none⟩) p.n m.ncap)∧w'.cell? ⟨m.nb,who,none⟩=some (.pointer (some ⟨m.P who,0,none⟩)))∧(w'.cell? ⟨SB,0,none⟩=some (.int .i64 who)∧w'.cell? ⟨SB,1,none⟩=some (.int .i64 (p.fr i)))∧(C<w'.heap.size∧SB<w'.heap.size)∧w'.cell? ⟨C,7,none⟩=some (.slice m.la p.nl m.lcap)):=fun w' s' B' hi=>⟨⟨hi.base.c12,hi.base.nd who hwn⟩,⟨(hi.box hSB HSO.out 0).trans sb0,(hi.box hSB HSO.out 1).trans sb1⟩,⟨hi.base.lc,Nat.lt_of_lt_of_le hSB hi.size⟩,hi.base.c7⟩
 go_wp2_with fail
 go_region_held3 (fun u=>u.cell? ⟨C,12,none⟩=some (.slice (some ⟨m.nb,0,none⟩) p.n m.ncap)∧u.cell? ⟨m.nb,who,none⟩=some (.pointer (some ⟨m.P who,0,none⟩))∧u.cell? ⟨SB,0,none⟩=some (.int .i64 who)) (go_keep) (first
  | (go_at_call 43;refine HSN.out.mono ?_;rintro ev w3 ⟨rfl,hI3⟩;obtain ⟨⟨y12b,yndb⟩,⟨ysb0b,ysb1⟩,⟨lc3,hSB3⟩,y7⟩:=HY.out w3 _ _ hI3))
 have HI3:Hid (InRC Oi W1 w3 Z C p fa cs (si.setNode who (si.nodes who).sent) rd (B) m):=hI3
 clear hI3 y12 ynd ynl lc2 ysb0 hSB2 HSN y12b yndb
 rename w3.cell? ⟨SB,0,none⟩=some (.int .i64 who)=>ysb0
 obtain ⟨O3,hc3,hap3,hback3⟩:=HI3.out.part2
 have HBK3:Hid (∀ (w':World) (s2:ClS) (B2:Nat),InRC O3 w3 w' Z C p fa cs s2 rd B2 m→InRC Oi W1 w' Z C p fa cs s2 rd B2 m):=hback3
 have HSO3:Hid (SB∉O3):=hap3 SB hSB HSO.out
 have HEQ:=goS_is (p:=p) (s:=si) (rd:=rd) (H:=H) (i:=i) (sent:=sB) (by rw [HWHO.out];exact HSENT.out)
 have HEQ2:=goS_sent (p:=p) (s:=si) (rd:=rd) (H:=H) (i:=i) (sent:=sB) (by rw [HWHO.out];exact HSENT.out)
 rw [HWHO.out] at HEQ HEQ2
 have HQ1:Hid _:=HEQ
 have HQ2:Hid _:=HEQ2
 clear hback3 hap3 HEQ HEQ2
 go_wp2_with fail
 refine rp_link _ (by rfl) _ hc3 who (p.fr i) (rd*p.round+p.fr i) sB SB m.la rfl hnl (by omega) hSB3 HSO3.out ysb0 ysb1 hrd hrd1 hr1 hr2 g0 g1 rfl HLNK.out rfl rfl rfl rfl rfl rfl rfl rfl rfl rfl ?_
 intro L2 w4 hI4 hN9 hQ9 t27 t28 t29 t274
 obtain ⟨gL,rfl⟩:=hQ9.over (hN9.trans rfl)
 clear hQ9 hN9
 simp (decide:=true) only [ov,if_true,if_false,Nat.reduceAdd] at t27 t28 t29 t274 ⊢
 replace t27:=Option.some.inj t27
 replace t28:=Option.some.inj t28
 replace t29:=Option.some.inj t29
 replace t274:=Option.some.inj t274
 rw [t27,t28,t29,t274]
 clear t27 t28 t29 t274
 rw [HQ2.out] at hI4
 rw [HQ1.out]
 have HI4:Hid (InRC Oi W1 w4 Z C p fa cs (si.sentS p H rd i) rd (B) m):=HBK3.out _ _ _ hI4
 obtain ⟨O4,hc4,hap4,hback4⟩:=HI4.out.part2
 have HBK4:Hid (∀ (w':World) (s2:ClS) (B2:Nat),InRC O4 w4 w' Z C p fa cs s2 rd B2 m→InRC Oi W1 w' Z C p fa cs s2 rd B2 m):=hback4
 have HSO4:Hid (SB∉O4):=hap4 SB hSB HSO.out
 have HRO4:Hid (∀ b off,la=some ⟨b,off,none⟩→b∉O4):=fun b off e=>hap4 b (HRLi.out b off e) (HROi.out b off e)
 have HR4:Hid (Rows3 w4 la nL ls lch lt):=HI4.out.rows3 HRW.out HROi.out
 have HRL4:Hid (∀ b off,la=some ⟨b,off,none⟩→b<w4.heap.size):=fun b off e=>Nat.lt_of_lt_of_le (HRLi.out b off e) HI4.out.size
 have hSB4:SB<w4.heap.size:=Nat.lt_of_lt_of_le hSB HI4.out.size
 have zsb0:w4.cell? ⟨SB,0,none⟩=some (.int .i64 who):=(HI4.out.box hSB HSO.out 0).trans sb0
 obtain ⟨LK,hLK⟩:∃ LK,msgLk (si.goes p.S H rd i).2=LK:=⟨_,rfl⟩
 obtain ⟨SQ,hSQ⟩:∃ SQ,msgSeq (si.goes p.S H rd i).2=SQ:=⟨_,rfl⟩
 obtain ⟨SD,hSD⟩:∃ SD,msgDat (si.goes p.S H rd i).2=SD:=⟨_,rfl⟩
 have HLKS:Hid (LK=msgLk (si.goes p.S H rd i).2∧SQ=msgSeq (si.goes p.S H rd i).2∧SD=msgDat (si.goes p.S H rd i).2):=⟨hLK.symm,hSQ.symm,hSD.symm⟩
 rw [hLK,hSQ,hSD]
 clear hLK hSQ hSD hback4 hap4 hI4 hc3 ysb0 ysb1
 go_wp2_with fail
 refine rp_node _ (by rfl) _ hc4 i who M0 (si.goes p.S H rd i).2 LK SQ SD HLKS.out sB (bitsV (fun j=>H.lost i 0 j) p.n) (bitsV (fun j=>H.lost i 1 j) p.n) SB la nL lc ls lch lt hn1 hn hnl (by omega) HMSG.out hSB4 HSO4.out zsb0 HR4.out HRO4.out HRL4.out hL HLO.out rfl rfl rfl rfl rfl rfl rfl rfl rfl rfl rfl rfl ?_
 intro L2 w5 hI5 hN9 hQ9 t325
 obtain ⟨gL,rfl⟩:=hQ9.over (hN9.trans rfl)
 clear hQ9 hN9
 simp (decide:=true) only [ov,if_true,if_false,Nat.reduceAdd] at t325 ⊢
 replace t325:=Option.some.inj t325
 rw [t325]
 clear t325
 have HI5:Hid (InRC Oi wr w5 Z C p fa cs (si.slot p.S H rd i) rd (B+70) m):=by
  have q:=HBK4.out _ _ _ hI5
  have q2:=InRC.slot (s:=si) (rd:=rd) (H:=H) (i:=i) (mem:=M0) (l0:=bitsV (fun j=>H.lost i 0 j) p.n) (l1:=bitsV (fun j=>H.lost i 1 j) p.n) (sent:=sB) (by rw [HWHO.out];exact q) (by rw [HWHO.out];exact hwn) (by rw [HWHO.out];exact HSENT.out) (by rw [HWHO.out];exact HMEM.out) (fun j hj=>bitI_bitsV _ hn hj) (fun j hj=>bitI_bitsV _ hn hj)
  exact InRC.more (HBKi.out _ _ _ q2) (by omega)
 clear hI5 hc4
 go_wp2
 exact HEX.out _ _ HI5.out rfl (Rest.of rfl)
end
end
section
section
variable {wr:World} {Oi Z:List Nat} {C:Nat} {p:PlanN} {fa:Int} {cs:List Int} {si:ClS} {rd:Int} {B:Nat} {m:RMap}
def w_rp_oneB_0 (k:Nat):Bool:=(decide (21≤k) && decide (k≤38)) || (decide (40≤k) && decide (k≤41)) || (decide (215≤k) && decide (k≤439))
theorem rp_oneB (code:Code) (hcode:Tryz.f10.body.bind (blockIn 9)=some code) (Q:Exit→Act→World→Prop) (h:RCl wr Oi Z C p fa cs si rd B m) (H:HapS) (i:Nat) (la:Option Addr) (nL lc:Nat) (ls lch lt:Nat→Int) (ma:Option Addr) (mc:Nat) (modes:List Int) (SA:Option Addr) (hSA:SA=m.sa)
  (hlt:i<p.ns) (hnn:p.nodes=p.n) (hn1:1≤p.n) (hn:p.n≤16) (hnl:p.nl≤8) (hns:p.ns≤32) (hB0:1≤B) (hB:B≤999000) (hr:Rows3 wr la nL ls lch lt) (hrO:∀ b off,la=some ⟨b,off,none⟩→b∉Oi) (hrL:∀ b off,la=some ⟨b,off,none⟩→b<wr.heap.size) (hL:nL≤9223372036854775807)
  (hm:IntRow wr ma modes) (hmO:∀ b off,ma=some ⟨b,off,none⟩→0<modes.length→b∉Oi) (hmL:modes.length≤9223372036854775807) (hlies:H.lies=bitI fa) (hmode:∀ j,H.mode j=if j<modes.length then modes.getD j 0 else 0) (hlost:∀ i c j,H.lost i c j=lostB ls lch lt nL i c j)
  (hrd:0≤rd) (hrd1:rd≤1000000) (hr1:1≤p.round) (hr2:p.round≤137438953472) (hslot:∀ i,i<p.ns→(0≤p.nd i∧p.nd i<p.nodes)∧0≤p.fr i∧p.fr i≤1099511627776) (hlk:∀ k,k<p.nl→0≤p.lf k∧0≤p.lb k∧p.lb k≤1099511627776) (hcase:bitI fa (p.S.nd i)=true∧p.S.nd i<modes.length∧modes.getD (p.S.nd i) 0=1) {L:List Value} (hL0:L.length=452) (s0:L[0]? = some (.pointer (some ⟨C,0,none⟩))) (s1:L[1]? = some (.slice la nL lc)) (s4:L[4]? = some (.slice ma modes.length mc)) (s11:L[11]? = some (.int .i64 p.n)) (s211:L[211]? = some (.slice SA p.ns m.scap)) (s212:L[212]? = some (.int .i64 p.ns)) (s213:L[213]? = some (.int .i64 i))
  (hexit:∀ (L':List Value) (w':World),InRC Oi wr w' Z C p fa cs (si.slot p.S H rd i) rd (B+70) m→L'.length=452→Rest w_rp_oneB_0 L L'→Q .normal ⟨L'.toArray,[]⟩ w') :
  Code.wp Tryz.prog code Q ⟨L.toArray,[]⟩ wr:=by
 have hb2:(Tryz.f10.body.bind (blockIn 9)).getD Code.skip=code:=by rw [hcode];rfl
 obtain rfl:=hb2
 clear hcode
 conv=>arg 2;whnf
 have HEX:Hid _:=hexit
 obtain ⟨fL,rfl⟩:=lit L 452 hL0
 replace s0:=lit_at s0
 replace s1:=lit_at s1
 replace s4:=lit_at s4
 replace s11:=lit_at s11
 replace s211:=lit_at s211
 replace s212:=lit_at s212
 replace s213:=lit_at s213
 simp only [List.range,List.range.loop,List.map_cons,List.map_nil,s0,s1,s4,s11,s211,s212,s213]
 clear hexit
 obtain ⟨b,off,e,hbZ,hc⟩:=h.rows.sl (by omega)
 have hbl:=h.rows.zl b hbZ
 obtain ⟨x0,x1,x2⟩:=hc i hlt
 obtain ⟨⟨n0,n1⟩,g0,g1⟩:=hslot i hlt
 obtain ⟨who,hwho⟩:∃ who,p.S.nd i=who:=⟨_,rfl⟩
 have hwi:p.nd i=(who:Int):=by
  have:(p.nd i).toNat=who:=hwho
  omega
 have hwn:who<p.n:=by omega
 have HWHO:Hid (p.S.nd i=who):=hwho
 have hSAe:SA=some ⟨b,off,none⟩:=hSA.trans e
 rw [hwho] at hcase
 have ii:(i:Int)<(p.ns:Int):=by omega
 have HLNK:Hid (∀ k,k<p.nl→0≤p.lf k∧0≤p.lb k∧p.lb k≤1099511627776):=hlk
 have HLIES:Hid (H.lies=bitI fa):=hlies
 have HMODE:Hid (∀ j,H.mode j=if j<modes.length then modes.getD j 0 else 0):=hmode
 clear hSA hc hwho hlk hlies hmode
 subst hSAe
 rw [hwi] at x0
 obtain ⟨z0,z1,z2⟩:=lbox3 wr (.int .i64 (who:Int)) (.int .i64 (p.fr i)) (.int .i64 (p.td i)) 95
 have zb:Below wr.heap.size wr (wr.alloc (.cells #[.int .i64 (who:Int),.int .i64 (p.fr i),.int .i64 (p.td i)] 95)):=(Below.refl _ _).alloc (Nat.le_refl _) _
 have zs:(wr.alloc (.cells #[.int .i64 (who:Int),.int .i64 (p.fr i),.int .i64 (p.td i)] 95)).heap.size=wr.heap.size+1:=by simp
 have hci:=h
 obtain ⟨W1,hW1⟩:∃ W1,W1=wr.alloc (.cells #[.int .i64 (who:Int),.int .i64 (p.fr i),.int .i64 (p.td i)] 95):=⟨_,rfl⟩
 have HW1:Hid (W1=wr.alloc (.cells #[.int .i64 (who:Int),.int .i64 (p.fr i),.int .i64 (p.td i)] 95)):=hW1
 obtain ⟨SB,hSBe⟩:∃ SB,wr.heap.size=SB:=⟨_,rfl⟩
 have HSBE:Hid (wr.heap.size=SB):=hSBe
 rw [← hW1] at z0 z1 z2 zb zs
 have HSO:Hid (SB∉Oi):=fun y=>by have:=hci.lt _ y;omega
 have HMSG:Hid (MsgIn p (si.goes p.S H rd i).2):=hci.msg H i
 have HI1:Hid (InRC Oi W1 W1 Z C p fa cs si rd (B) m):=⟨Oi,Foot.refl _ _,hci.below zb⟩
 have HBKi:Hid (∀ (w':World) (s2:ClS) (B2:Nat),InRC Oi W1 w' Z C p fa cs s2 rd B2 m→InRC Oi wr w' Z C p fa cs s2 rd B2 m):=fun w' s2 B2 ⟨O2,h2,c2⟩=>⟨O2,(Foot.of_below zb).trans h2,c2⟩
 have HROi:Hid (∀ b off,la=some ⟨b,off,none⟩→b∉Oi):=hrO
 have HRLi:Hid (∀ b off,la=some ⟨b,off,none⟩→b<W1.heap.size):=fun b off e=>by have:=hrL b off e;omega
 have HRW:Hid (Rows3 W1 la nL ls lch lt):=hr.below zb
 have HMR:Hid (∀ (x:Nat),x<modes.length→∃ b2 off2,ma=some ⟨b2,off2,none⟩∧(b2<W1.heap.size∧b2∉Oi)∧W1.cell? ⟨b2,off2+x,none⟩=some (.int .i64 (modes.getD x 0))):=fun x hx=>by
  obtain ⟨b2,off2,e2,hb2,hc2⟩:=hm (by omega)
  exact ⟨b2,off2,e2,⟨by omega,hmO b2 off2 e2 (by omega)⟩,(zb.cell (p:=⟨b2,off2+x,none⟩) hb2).trans (hc2 x hx)⟩
 have HLO:Hid (∀ j,j<p.n→∀ c,c<2→lostB ls lch lt nL i c j=bitI (if c=0 then bitsV (fun j=>H.lost i 0 j) p.n else bitsV (fun j=>H.lost i 1 j) p.n) j):=fun j hj c hc=>by
  have:c=0∨c=1:=by omega
  rcases this with rfl | rfl
  ·rw [if_pos rfl,bitI_bitsV _ hn hj,hlost]
  ·rw [if_neg (by decide),bitI_bitsV _ hn hj,hlost]
 have hSB:SB<W1.heap.size:=by omega
 rw [hSBe] at z0 z1 z2
 have sb0:W1.cell? ⟨SB,0,none⟩=some (.int .i64 who):=z0
 have sb1:W1.cell? ⟨SB,1,none⟩=some (.int .i64 (p.fr i)):=z1
 have hLi:=refLies_any C fa who (by omega) W1 HI1.out.base.c10
 obtain ⟨sB,hsB⟩:∃ sB,sendsB (si.nodes who).g (si.nodes who).b (si.nodes who).fz=sB:=⟨_,rfl⟩
 obtain ⟨M0,hM0⟩:∃ M0,(if sendsB (si.nodes who).g (si.nodes who).b (si.nodes who).fz=true then bitsV (si.nodes who).t p.n else 0)=M0:=⟨_,rfl⟩
 have HSBB:Hid (sendsB (si.nodes who).g (si.nodes who).b (si.nodes who).fz=sB):=hsB
 have HM0:Hid ((if sendsB (si.nodes who).g (si.nodes who).b (si.nodes who).fz=true then bitsV (si.nodes who).t p.n else 0)=M0):=hM0
 have HM1:Hid (sB=true→M0=bitsV (si.nodes who).t p.n):=fun y=>by rw [← hM0,hsB,if_pos y]
 clear hW1 hci h hsB hM0 zb z0 z1 z2 e hr hrO hrL hm hmO hlost hslot
 rw [HW1.out] at hLi sb0 sb1
 go_wp2_with fail
 try rw [HSBE.out]
 refine hLi.mono ?_
 rintro ev w2 ⟨rfl,q2,hw2⟩
 rw [← HW1.out] at hw2 sb0 sb1
 have HI2:Hid (InRC Oi W1 w2 Z C p fa cs si rd (B) m):=by rw [hw2];exact HI1.out.drawn q2
 have ysl0:w2.cell? ⟨SB,0,none⟩=some (.int .i64 who):=(HI2.out.box hSB HSO.out 0).trans sb0
 have hSBq:SB<w2.heap.size:=Nat.lt_of_lt_of_le hSB HI2.out.size
 clear hw2 hLi
 obtain ⟨hbf,hwm,hMDe⟩:=hcase
 have hmo:H.modeOf who=modes.getD who 0:=by unfold HapS.modeOf;rw [HLIES.out,hbf,if_pos rfl,HMODE.out,if_pos hwm]
 rw [hbf]
 have kwm:(who:Int)<(modes.length:Int):=by omega
 obtain ⟨b2,off2,rfl,⟨hb2,hb2O⟩,hc2⟩:=HMR.out who hwm
 have hb2w:b2<w2.heap.size:=Nat.lt_of_lt_of_le hb2 HI2.out.size
 have ysm:w2.cell? ⟨b2,off2+who,none⟩=some (.int .i64 (modes.getD who 0)):=(HI2.out.box hb2 hb2O _).trans hc2
 rw [hMDe] at ysm hmo
 clear hMDe hbf hwm hc2 hb2O
 have HSENT:Hid (false=si.sends H who):=by show _=_;unfold ClS.sends;rw [hmo];simp
 have HMEM:Hid (false=true→M0=bitsV (si.tells p.S H who) p.n):=fun y=>by cases y
 clear hmo
 have y12:=HI2.out.base.c12
 have ynd:=HI2.out.base.nd who hwn
 have ynl:=HI2.out.base.lx _ HI2.out.base.ndX
 have lc2:=HI2.out.base.lc
 have ysb0:w2.cell? ⟨SB,0,none⟩=some (.int .i64 who):=(HI2.out.box hSB HSO.out 0).trans sb0
 have hSB2:SB<w2.heap.size:=Nat.lt_of_lt_of_le hSB HI2.out.size
 have HSN:Hid (Calls Tryz.prog 43 #[.pointer (some ⟨m.P who,0,none⟩)] w2.drew fun e w'=>e=.returned (.tuple #[.int .i64 M0,.bool sB])∧InRC Oi W1 w' Z C p fa cs (si.setNode who (si.nodes who).sent) rd (B) m):=by
  have q:=rsendsI (HI2.out.drawn 1) who hwn hn (by omega)
  rw [HM0.out,HSBB.out] at q
  exact q
 have HY:Hid (∀ (w':World) (s':ClS) (B':Nat),InRC Oi W1 w' Z C p fa cs s' rd B' m→(w'.cell? ⟨C,12,none⟩=some (.slice (some ⟨m.nb,0,none⟩) p.n m.ncap)∧w'.cell? ⟨m.nb,who,none⟩=some (.pointer (some ⟨m.P who,0,none⟩)))∧(w'.cell? ⟨SB,0,none⟩=some (.int .i64 who)∧w'.cell? ⟨SB,1,none⟩=some (.int .i64 (p.fr i)))∧(C<w'.heap.size∧SB<w'.heap.size)∧w'.cell? ⟨C,7,none⟩=some (.slice m.la p.nl m.lcap)):=fun w' s' B' hi=>⟨⟨hi.base.c12,hi.base.nd who hwn⟩,⟨(hi.box hSB HSO.out 0).trans sb0,(hi.box hSB HSO.out 1).trans sb1⟩,⟨hi.base.lc,Nat.lt_of_lt_of_le hSB hi.size⟩,hi.base.c7⟩
 go_wp2_with fail
 go_region_held3 (fun u=>u.cell? ⟨C,12,none⟩=some (.slice (some ⟨m.nb,0,none⟩) p.n m.ncap)∧u.cell? ⟨m.nb,who,none⟩=some (.pointer (some ⟨m.P who,0,none⟩))∧u.cell? ⟨SB,0,none⟩=some (.int .i64 who)) (go_keep) (first
  | (go_at_call 43;refine HSN.out.mono ?_;rintro ev w3 ⟨rfl,hI3⟩;obtain ⟨⟨y12b,yndb⟩,⟨ysb0b,ysb1⟩,⟨lc3,hSB3⟩,y7⟩:=HY.out w3 _ _ hI3))
 have HI3:Hid (InRC Oi W1 w3 Z C p fa cs (si.setNode who (si.nodes who).sent) rd (B) m):=hI3
 clear hI3 y12 ynd ynl lc2 ysb0 hSB2 HSN y12b yndb
 rename w3.cell? ⟨SB,0,none⟩=some (.int .i64 who)=>ysb0
 obtain ⟨O3,hc3,hap3,hback3⟩:=HI3.out.part2
 have HBK3:Hid (∀ (w':World) (s2:ClS) (B2:Nat),InRC O3 w3 w' Z C p fa cs s2 rd B2 m→InRC Oi W1 w' Z C p fa cs s2 rd B2 m):=hback3
 have HSO3:Hid (SB∉O3):=hap3 SB hSB HSO.out
 have HEQ:=goS_is (p:=p) (s:=si) (rd:=rd) (H:=H) (i:=i) (sent:=false) (by rw [HWHO.out];exact HSENT.out)
 have HEQ2:=goS_sent (p:=p) (s:=si) (rd:=rd) (H:=H) (i:=i) (sent:=false) (by rw [HWHO.out];exact HSENT.out)
 rw [HWHO.out] at HEQ HEQ2
 have HQ1:Hid _:=HEQ
 have HQ2:Hid _:=HEQ2
 clear hback3 hap3 HEQ HEQ2
 go_wp2_with fail
 refine rp_link _ (by rfl) _ hc3 who (p.fr i) (rd*p.round+p.fr i) false SB m.la rfl hnl (by omega) hSB3 HSO3.out ysb0 ysb1 hrd hrd1 hr1 hr2 g0 g1 rfl HLNK.out rfl rfl rfl rfl rfl rfl rfl rfl rfl rfl ?_
 intro L2 w4 hI4 hN9 hQ9 t27 t28 t29 t274
 obtain ⟨gL,rfl⟩:=hQ9.over (hN9.trans rfl)
 clear hQ9 hN9
 simp (decide:=true) only [ov,if_true,if_false,Nat.reduceAdd] at t27 t28 t29 t274 ⊢
 replace t27:=Option.some.inj t27
 replace t28:=Option.some.inj t28
 replace t29:=Option.some.inj t29
 replace t274:=Option.some.inj t274
 rw [t27,t28,t29,t274]
 clear t27 t28 t29 t274
 rw [HQ2.out] at hI4
 rw [HQ1.out]
 have HI4:Hid (InRC Oi W1 w4 Z C p fa cs (si.sentS p H rd i) rd (B) m):=HBK3.out _ _ _ hI4
 obtain ⟨O4,hc4,hap4,hback4⟩:=HI4.out.part2
 have HBK4:Hid (∀ (w':World) (s2:ClS) (B2:Nat),InRC O4 w4 w' Z C p fa cs s2 rd B2 m→InRC Oi W1 w' Z C p fa cs s2 rd B2 m):=hback4
 have HSO4:Hid (SB∉O4):=hap4 SB hSB HSO.out
 have HRO4:Hid (∀ b off,la=some ⟨b,off,none⟩→b∉O4):=fun b off e=>hap4 b (HRLi.out b off e) (HROi.out b off e)
 have HR4:Hid (Rows3 w4 la nL ls lch lt):=HI4.out.rows3 HRW.out HROi.out
 have HRL4:Hid (∀ b off,la=some ⟨b,off,none⟩→b<w4.heap.size):=fun b off e=>Nat.lt_of_lt_of_le (HRLi.out b off e) HI4.out.size
 have hSB4:SB<w4.heap.size:=Nat.lt_of_lt_of_le hSB HI4.out.size
 have zsb0:w4.cell? ⟨SB,0,none⟩=some (.int .i64 who):=(HI4.out.box hSB HSO.out 0).trans sb0
 obtain ⟨LK,hLK⟩:∃ LK,msgLk (si.goes p.S H rd i).2=LK:=⟨_,rfl⟩
 obtain ⟨SQ,hSQ⟩:∃ SQ,msgSeq (si.goes p.S H rd i).2=SQ:=⟨_,rfl⟩
 obtain ⟨SD,hSD⟩:∃ SD,msgDat (si.goes p.S H rd i).2=SD:=⟨_,rfl⟩
 have HLKS:Hid (LK=msgLk (si.goes p.S H rd i).2∧SQ=msgSeq (si.goes p.S H rd i).2∧SD=msgDat (si.goes p.S H rd i).2):=⟨hLK.symm,hSQ.symm,hSD.symm⟩
 rw [hLK,hSQ,hSD]
 clear hLK hSQ hSD hback4 hap4 hI4 hc3 ysb0 ysb1
 go_wp2_with fail
 refine rp_node _ (by rfl) _ hc4 i who M0 (si.goes p.S H rd i).2 LK SQ SD HLKS.out false (bitsV (fun j=>H.lost i 0 j) p.n) (bitsV (fun j=>H.lost i 1 j) p.n) SB la nL lc ls lch lt hn1 hn hnl (by omega) HMSG.out hSB4 HSO4.out zsb0 HR4.out HRO4.out HRL4.out hL HLO.out rfl rfl rfl rfl rfl rfl rfl rfl rfl rfl rfl rfl ?_
 intro L2 w5 hI5 hN9 hQ9 t325
 obtain ⟨gL,rfl⟩:=hQ9.over (hN9.trans rfl)
 clear hQ9 hN9
 simp (decide:=true) only [ov,if_true,if_false,Nat.reduceAdd] at t325 ⊢
 replace t325:=Option.some.inj t325
 rw [t325]
 clear t325
 have HI5:Hid (InRC Oi wr w5 Z C p fa cs (si.slot p.S H rd i) rd (B+70) m):=by
  have q:=HBK4.out _ _ _ hI5
  have q2:=InRC.slot (s:=si) (rd:=rd) (H:=H) (i:=i) (mem:=M0) (l0:=bitsV (fun j=>H.lost i 0 j) p.n) (l1:=bitsV (fun j=>H.lost i 1 j) p.n) (sent:=false) (by rw [HWHO.out];exact q) (by rw [HWHO.out];exact hwn) (by rw [HWHO.out];exact HSENT.out) (by rw [HWHO.out];exact HMEM.out) (fun j hj=>bitI_bitsV _ hn hj) (fun j hj=>bitI_bitsV _ hn hj)
  exact InRC.more (HBKi.out _ _ _ q2) (by omega)
 clear hI5 hc4
 go_wp2
 exact HEX.out _ _ HI5.out rfl (Rest.of rfl)
end
end
section
section
variable {wr:World} {Oi Z:List Nat} {C:Nat} {p:PlanN} {fa:Int} {cs:List Int} {si:ClS} {rd:Int} {B:Nat} {m:RMap}
def w_rp_oneC_0 (k:Nat):Bool:=(decide (21≤k) && decide (k≤38)) || (decide (40≤k) && decide (k≤41)) || (decide (215≤k) && decide (k≤439))
theorem rp_oneC (code:Code) (hcode:Tryz.f10.body.bind (blockIn 9)=some code) (Q:Exit→Act→World→Prop) (h:RCl wr Oi Z C p fa cs si rd B m) (H:HapS) (i:Nat) (la:Option Addr) (nL lc:Nat) (ls lch lt:Nat→Int) (ma:Option Addr) (mc:Nat) (modes:List Int) (SA:Option Addr) (hSA:SA=m.sa)
  (hlt:i<p.ns) (hnn:p.nodes=p.n) (hn1:1≤p.n) (hn:p.n≤16) (hnl:p.nl≤8) (hns:p.ns≤32) (hB0:1≤B) (hB:B≤999000) (hr:Rows3 wr la nL ls lch lt) (hrO:∀ b off,la=some ⟨b,off,none⟩→b∉Oi) (hrL:∀ b off,la=some ⟨b,off,none⟩→b<wr.heap.size) (hL:nL≤9223372036854775807)
  (hm:IntRow wr ma modes) (hmO:∀ b off,ma=some ⟨b,off,none⟩→0<modes.length→b∉Oi) (hmL:modes.length≤9223372036854775807) (hlies:H.lies=bitI fa) (hmode:∀ j,H.mode j=if j<modes.length then modes.getD j 0 else 0) (hlost:∀ i c j,H.lost i c j=lostB ls lch lt nL i c j)
  (hrd:0≤rd) (hrd1:rd≤1000000) (hr1:1≤p.round) (hr2:p.round≤137438953472) (hslot:∀ i,i<p.ns→(0≤p.nd i∧p.nd i<p.nodes)∧0≤p.fr i∧p.fr i≤1099511627776) (hlk:∀ k,k<p.nl→0≤p.lf k∧0≤p.lb k∧p.lb k≤1099511627776) (hcase:(bitI fa (p.S.nd i)=true∧p.S.nd i<modes.length∧modes.getD (p.S.nd i) 0=2)∧(p.S.nd i+1) % p.n=p.S.nd i) {L:List Value} (hL0:L.length=452) (s0:L[0]? = some (.pointer (some ⟨C,0,none⟩))) (s1:L[1]? = some (.slice la nL lc)) (s4:L[4]? = some (.slice ma modes.length mc)) (s11:L[11]? = some (.int .i64 p.n)) (s211:L[211]? = some (.slice SA p.ns m.scap)) (s212:L[212]? = some (.int .i64 p.ns)) (s213:L[213]? = some (.int .i64 i))
  (hexit:∀ (L':List Value) (w':World),InRC Oi wr w' Z C p fa cs (si.slot p.S H rd i) rd (B+70) m→L'.length=452→Rest w_rp_oneC_0 L L'→Q .normal ⟨L'.toArray,[]⟩ w') :
  Code.wp Tryz.prog code Q ⟨L.toArray,[]⟩ wr:=by
 have hb2:(Tryz.f10.body.bind (blockIn 9)).getD Code.skip=code:=by rw [hcode];rfl
 obtain rfl:=hb2
 clear hcode
 conv=>arg 2;whnf
 have HEX:Hid _:=hexit
 obtain ⟨fL,rfl⟩:=lit L 452 hL0
 replace s0:=lit_at s0
 replace s1:=lit_at s1
 replace s4:=lit_at s4
 replace s11:=lit_at s11
 replace s211:=lit_at s211
 replace s212:=lit_at s212
 replace s213:=lit_at s213
 simp only [List.range,List.range.loop,List.map_cons,List.map_nil,s0,s1,s4,s11,s211,s212,s213]
 clear hexit
 obtain ⟨b,off,e,hbZ,hc⟩:=h.rows.sl (by omega)
 have hbl:=h.rows.zl b hbZ
 obtain ⟨x0,x1,x2⟩:=hc i hlt
 obtain ⟨⟨n0,n1⟩,g0,g1⟩:=hslot i hlt
 obtain ⟨who,hwho⟩:∃ who,p.S.nd i=who:=⟨_,rfl⟩
 have hwi:p.nd i=(who:Int):=by
  have:(p.nd i).toNat=who:=hwho
  omega
 have hwn:who<p.n:=by omega
 have HWHO:Hid (p.S.nd i=who):=hwho
 have hSAe:SA=some ⟨b,off,none⟩:=hSA.trans e
 rw [hwho] at hcase
 have ii:(i:Int)<(p.ns:Int):=by omega
 have HLNK:Hid (∀ k,k<p.nl→0≤p.lf k∧0≤p.lb k∧p.lb k≤1099511627776):=hlk
 have HLIES:Hid (H.lies=bitI fa):=hlies
 have HMODE:Hid (∀ j,H.mode j=if j<modes.length then modes.getD j 0 else 0):=hmode
 clear hSA hc hwho hlk hlies hmode
 subst hSAe
 rw [hwi] at x0
 obtain ⟨z0,z1,z2⟩:=lbox3 wr (.int .i64 (who:Int)) (.int .i64 (p.fr i)) (.int .i64 (p.td i)) 95
 have zb:Below wr.heap.size wr (wr.alloc (.cells #[.int .i64 (who:Int),.int .i64 (p.fr i),.int .i64 (p.td i)] 95)):=(Below.refl _ _).alloc (Nat.le_refl _) _
 have zs:(wr.alloc (.cells #[.int .i64 (who:Int),.int .i64 (p.fr i),.int .i64 (p.td i)] 95)).heap.size=wr.heap.size+1:=by simp
 have hci:=h
 obtain ⟨W1,hW1⟩:∃ W1,W1=wr.alloc (.cells #[.int .i64 (who:Int),.int .i64 (p.fr i),.int .i64 (p.td i)] 95):=⟨_,rfl⟩
 have HW1:Hid (W1=wr.alloc (.cells #[.int .i64 (who:Int),.int .i64 (p.fr i),.int .i64 (p.td i)] 95)):=hW1
 obtain ⟨SB,hSBe⟩:∃ SB,wr.heap.size=SB:=⟨_,rfl⟩
 have HSBE:Hid (wr.heap.size=SB):=hSBe
 rw [← hW1] at z0 z1 z2 zb zs
 have HSO:Hid (SB∉Oi):=fun y=>by have:=hci.lt _ y;omega
 have HMSG:Hid (MsgIn p (si.goes p.S H rd i).2):=hci.msg H i
 have HI1:Hid (InRC Oi W1 W1 Z C p fa cs si rd (B) m):=⟨Oi,Foot.refl _ _,hci.below zb⟩
 have HBKi:Hid (∀ (w':World) (s2:ClS) (B2:Nat),InRC Oi W1 w' Z C p fa cs s2 rd B2 m→InRC Oi wr w' Z C p fa cs s2 rd B2 m):=fun w' s2 B2 ⟨O2,h2,c2⟩=>⟨O2,(Foot.of_below zb).trans h2,c2⟩
 have HROi:Hid (∀ b off,la=some ⟨b,off,none⟩→b∉Oi):=hrO
 have HRLi:Hid (∀ b off,la=some ⟨b,off,none⟩→b<W1.heap.size):=fun b off e=>by have:=hrL b off e;omega
 have HRW:Hid (Rows3 W1 la nL ls lch lt):=hr.below zb
 have HMR:Hid (∀ (x:Nat),x<modes.length→∃ b2 off2,ma=some ⟨b2,off2,none⟩∧(b2<W1.heap.size∧b2∉Oi)∧W1.cell? ⟨b2,off2+x,none⟩=some (.int .i64 (modes.getD x 0))):=fun x hx=>by
  obtain ⟨b2,off2,e2,hb2,hc2⟩:=hm (by omega)
  exact ⟨b2,off2,e2,⟨by omega,hmO b2 off2 e2 (by omega)⟩,(zb.cell (p:=⟨b2,off2+x,none⟩) hb2).trans (hc2 x hx)⟩
 have HLO:Hid (∀ j,j<p.n→∀ c,c<2→lostB ls lch lt nL i c j=bitI (if c=0 then bitsV (fun j=>H.lost i 0 j) p.n else bitsV (fun j=>H.lost i 1 j) p.n) j):=fun j hj c hc=>by
  have:c=0∨c=1:=by omega
  rcases this with rfl | rfl
  ·rw [if_pos rfl,bitI_bitsV _ hn hj,hlost]
  ·rw [if_neg (by decide),bitI_bitsV _ hn hj,hlost]
 have hSB:SB<W1.heap.size:=by omega
 rw [hSBe] at z0 z1 z2
 have sb0:W1.cell? ⟨SB,0,none⟩=some (.int .i64 who):=z0
 have sb1:W1.cell? ⟨SB,1,none⟩=some (.int .i64 (p.fr i)):=z1
 have hLi:=refLies_any C fa who (by omega) W1 HI1.out.base.c10
 obtain ⟨sB,hsB⟩:∃ sB,sendsB (si.nodes who).g (si.nodes who).b (si.nodes who).fz=sB:=⟨_,rfl⟩
 obtain ⟨M0,hM0⟩:∃ M0,(if sendsB (si.nodes who).g (si.nodes who).b (si.nodes who).fz=true then bitsV (si.nodes who).t p.n else 0)=M0:=⟨_,rfl⟩
 have HSBB:Hid (sendsB (si.nodes who).g (si.nodes who).b (si.nodes who).fz=sB):=hsB
 have HM0:Hid ((if sendsB (si.nodes who).g (si.nodes who).b (si.nodes who).fz=true then bitsV (si.nodes who).t p.n else 0)=M0):=hM0
 have HM1:Hid (sB=true→M0=bitsV (si.nodes who).t p.n):=fun y=>by rw [← hM0,hsB,if_pos y]
 clear hW1 hci h hsB hM0 zb z0 z1 z2 e hr hrO hrL hm hmO hlost hslot
 rw [HW1.out] at hLi sb0 sb1
 go_wp2_with fail
 try rw [HSBE.out]
 refine hLi.mono ?_
 rintro ev w2 ⟨rfl,q2,hw2⟩
 rw [← HW1.out] at hw2 sb0 sb1
 have HI2:Hid (InRC Oi W1 w2 Z C p fa cs si rd (B) m):=by rw [hw2];exact HI1.out.drawn q2
 have ysl0:w2.cell? ⟨SB,0,none⟩=some (.int .i64 who):=(HI2.out.box hSB HSO.out 0).trans sb0
 have hSBq:SB<w2.heap.size:=Nat.lt_of_lt_of_le hSB HI2.out.size
 clear hw2 hLi
 obtain ⟨hcase,d3⟩:=hcase
 obtain ⟨hbf,hwm,hMDe⟩:=hcase
 have hmo:H.modeOf who=modes.getD who 0:=by unfold HapS.modeOf;rw [HLIES.out,hbf,if_pos rfl,HMODE.out,if_pos hwm]
 rw [hbf]
 have kwm:(who:Int)<(modes.length:Int):=by omega
 obtain ⟨b2,off2,rfl,⟨hb2,hb2O⟩,hc2⟩:=HMR.out who hwm
 have hb2w:b2<w2.heap.size:=Nat.lt_of_lt_of_le hb2 HI2.out.size
 have ysm:w2.cell? ⟨b2,off2+who,none⟩=some (.int .i64 (modes.getD who 0)):=(HI2.out.box hb2 hb2O _).trans hc2
 rw [hMDe] at ysm hmo
 clear hMDe hbf hwm hc2 hb2O
 have HSENT:Hid (sB=si.sends H who):=by show _=_;unfold ClS.sends;rw [HSBB.out,hmo];simp
 have hNX:(who+1) % p.n<p.n:=Nat.mod_lt _ (by omega)
 obtain ⟨NX,hNXe⟩:∃ NX,(who+1) % p.n=NX:=⟨_,rfl⟩
 rw [hNXe] at d3
 have htm:Int.tmod ((who:Int)+1) (p.n:Int)=(NX:Int):=by
  rw [Int.tmod_eq_emod_of_nonneg (by omega),← hNXe]
  rfl
 have k0:((p.n:Int) == 0)=false:=by simp;omega
 have hpw:=pow16 who (by omega)
 have hpx:=pow16 NX (by omega)
 have e1:wrap64 ((2:Int) ^ who)=2 ^ who:=by
  unfold wrap64
  generalize (2:Int) ^ who=T at *
  omega
 have e2:wrap64 ((2:Int) ^ NX)=2 ^ NX:=by
  unfold wrap64
  generalize (2:Int) ^ NX=T at *
  omega
 have HMEM:Hid (sB=true→bits BinOp.xor .i64 M0 (2 ^ who)=bitsV (si.tells p.S H who) p.n):=fun y=>by
  rw [HM1.out y,wrong1 _ hn hwn (hNXe.trans d3)]
  refine bitsV_congr fun j _=>?_
  show _=if H.modeOf who=2∧(j=who∨j=(who+1) % p.n) then _ else _
  rw [hmo]
  by_cases y2:j=who∨j=(who+1) % p.n
  ·rw [if_pos y2,if_pos ⟨rfl,y2⟩]
  ·rw [if_neg y2,if_neg (fun z=>y2 z.2)]
 have k3:((NX:Int) != (who:Int))=false:=by simp;omega
 clear hmo hNXe d3
 have y12:=HI2.out.base.c12
 have ynd:=HI2.out.base.nd who hwn
 have ynl:=HI2.out.base.lx _ HI2.out.base.ndX
 have lc2:=HI2.out.base.lc
 have ysb0:w2.cell? ⟨SB,0,none⟩=some (.int .i64 who):=(HI2.out.box hSB HSO.out 0).trans sb0
 have hSB2:SB<w2.heap.size:=Nat.lt_of_lt_of_le hSB HI2.out.size
 have HSN:Hid (Calls Tryz.prog 43 #[.pointer (some ⟨m.P who,0,none⟩)] w2.drew fun e w'=>e=.returned (.tuple #[.int .i64 M0,.bool sB])∧InRC Oi W1 w' Z C p fa cs (si.setNode who (si.nodes who).sent) rd (B) m):=by
  have q:=rsendsI (HI2.out.drawn 1) who hwn hn (by omega)
  rw [HM0.out,HSBB.out] at q
  exact q
 have HY:Hid (∀ (w':World) (s':ClS) (B':Nat),InRC Oi W1 w' Z C p fa cs s' rd B' m→(w'.cell? ⟨C,12,none⟩=some (.slice (some ⟨m.nb,0,none⟩) p.n m.ncap)∧w'.cell? ⟨m.nb,who,none⟩=some (.pointer (some ⟨m.P who,0,none⟩)))∧(w'.cell? ⟨SB,0,none⟩=some (.int .i64 who)∧w'.cell? ⟨SB,1,none⟩=some (.int .i64 (p.fr i)))∧(C<w'.heap.size∧SB<w'.heap.size)∧w'.cell? ⟨C,7,none⟩=some (.slice m.la p.nl m.lcap)):=fun w' s' B' hi=>⟨⟨hi.base.c12,hi.base.nd who hwn⟩,⟨(hi.box hSB HSO.out 0).trans sb0,(hi.box hSB HSO.out 1).trans sb1⟩,⟨hi.base.lc,Nat.lt_of_lt_of_le hSB hi.size⟩,hi.base.c7⟩
 go_wp2_with fail
 go_region_held3 (fun u=>u.cell? ⟨C,12,none⟩=some (.slice (some ⟨m.nb,0,none⟩) p.n m.ncap)∧u.cell? ⟨m.nb,who,none⟩=some (.pointer (some ⟨m.P who,0,none⟩))∧u.cell? ⟨SB,0,none⟩=some (.int .i64 who)) (go_keep) (first
  | (go_at_call 43;refine HSN.out.mono ?_;rintro ev w3 ⟨rfl,hI3⟩;obtain ⟨⟨y12b,yndb⟩,⟨ysb0b,ysb1⟩,⟨lc3,hSB3⟩,y7⟩:=HY.out w3 _ _ hI3))
 have HI3:Hid (InRC Oi W1 w3 Z C p fa cs (si.setNode who (si.nodes who).sent) rd (B) m):=hI3
 clear hI3 y12 ynd ynl lc2 ysb0 hSB2 HSN y12b yndb
 rename w3.cell? ⟨SB,0,none⟩=some (.int .i64 who)=>ysb0
 obtain ⟨O3,hc3,hap3,hback3⟩:=HI3.out.part2
 have HBK3:Hid (∀ (w':World) (s2:ClS) (B2:Nat),InRC O3 w3 w' Z C p fa cs s2 rd B2 m→InRC Oi W1 w' Z C p fa cs s2 rd B2 m):=hback3
 have HSO3:Hid (SB∉O3):=hap3 SB hSB HSO.out
 have HEQ:=goS_is (p:=p) (s:=si) (rd:=rd) (H:=H) (i:=i) (sent:=sB) (by rw [HWHO.out];exact HSENT.out)
 have HEQ2:=goS_sent (p:=p) (s:=si) (rd:=rd) (H:=H) (i:=i) (sent:=sB) (by rw [HWHO.out];exact HSENT.out)
 rw [HWHO.out] at HEQ HEQ2
 have HQ1:Hid _:=HEQ
 have HQ2:Hid _:=HEQ2
 clear hback3 hap3 HEQ HEQ2
 go_wp2_with fail
 refine rp_link _ (by rfl) _ hc3 who (p.fr i) (rd*p.round+p.fr i) sB SB m.la rfl hnl (by omega) hSB3 HSO3.out ysb0 ysb1 hrd hrd1 hr1 hr2 g0 g1 rfl HLNK.out rfl rfl rfl rfl rfl rfl rfl rfl rfl rfl ?_
 intro L2 w4 hI4 hN9 hQ9 t27 t28 t29 t274
 obtain ⟨gL,rfl⟩:=hQ9.over (hN9.trans rfl)
 clear hQ9 hN9
 simp (decide:=true) only [ov,if_true,if_false,Nat.reduceAdd] at t27 t28 t29 t274 ⊢
 replace t27:=Option.some.inj t27
 replace t28:=Option.some.inj t28
 replace t29:=Option.some.inj t29
 replace t274:=Option.some.inj t274
 rw [t27,t28,t29,t274]
 clear t27 t28 t29 t274
 rw [HQ2.out] at hI4
 rw [HQ1.out]
 have HI4:Hid (InRC Oi W1 w4 Z C p fa cs (si.sentS p H rd i) rd (B) m):=HBK3.out _ _ _ hI4
 obtain ⟨O4,hc4,hap4,hback4⟩:=HI4.out.part2
 have HBK4:Hid (∀ (w':World) (s2:ClS) (B2:Nat),InRC O4 w4 w' Z C p fa cs s2 rd B2 m→InRC Oi W1 w' Z C p fa cs s2 rd B2 m):=hback4
 have HSO4:Hid (SB∉O4):=hap4 SB hSB HSO.out
 have HRO4:Hid (∀ b off,la=some ⟨b,off,none⟩→b∉O4):=fun b off e=>hap4 b (HRLi.out b off e) (HROi.out b off e)
 have HR4:Hid (Rows3 w4 la nL ls lch lt):=HI4.out.rows3 HRW.out HROi.out
 have HRL4:Hid (∀ b off,la=some ⟨b,off,none⟩→b<w4.heap.size):=fun b off e=>Nat.lt_of_lt_of_le (HRLi.out b off e) HI4.out.size
 have hSB4:SB<w4.heap.size:=Nat.lt_of_lt_of_le hSB HI4.out.size
 have zsb0:w4.cell? ⟨SB,0,none⟩=some (.int .i64 who):=(HI4.out.box hSB HSO.out 0).trans sb0
 obtain ⟨LK,hLK⟩:∃ LK,msgLk (si.goes p.S H rd i).2=LK:=⟨_,rfl⟩
 obtain ⟨SQ,hSQ⟩:∃ SQ,msgSeq (si.goes p.S H rd i).2=SQ:=⟨_,rfl⟩
 obtain ⟨SD,hSD⟩:∃ SD,msgDat (si.goes p.S H rd i).2=SD:=⟨_,rfl⟩
 have HLKS:Hid (LK=msgLk (si.goes p.S H rd i).2∧SQ=msgSeq (si.goes p.S H rd i).2∧SD=msgDat (si.goes p.S H rd i).2):=⟨hLK.symm,hSQ.symm,hSD.symm⟩
 rw [hLK,hSQ,hSD]
 clear hLK hSQ hSD hback4 hap4 hI4 hc3 ysb0 ysb1
 go_wp2_with fail
 refine rp_node _ (by rfl) _ hc4 i who (bits BinOp.xor .i64 M0 (2 ^ who)) (si.goes p.S H rd i).2 LK SQ SD HLKS.out sB (bitsV (fun j=>H.lost i 0 j) p.n) (bitsV (fun j=>H.lost i 1 j) p.n) SB la nL lc ls lch lt hn1 hn hnl (by omega) HMSG.out hSB4 HSO4.out zsb0 HR4.out HRO4.out HRL4.out hL HLO.out rfl rfl rfl rfl rfl rfl rfl rfl rfl rfl rfl rfl ?_
 intro L2 w5 hI5 hN9 hQ9 t325
 obtain ⟨gL,rfl⟩:=hQ9.over (hN9.trans rfl)
 clear hQ9 hN9
 simp (decide:=true) only [ov,if_true,if_false,Nat.reduceAdd] at t325 ⊢
 replace t325:=Option.some.inj t325
 rw [t325]
 clear t325
 have HI5:Hid (InRC Oi wr w5 Z C p fa cs (si.slot p.S H rd i) rd (B+70) m):=by
  have q:=HBK4.out _ _ _ hI5
  have q2:=InRC.slot (s:=si) (rd:=rd) (H:=H) (i:=i) (mem:=(bits BinOp.xor .i64 M0 (2 ^ who))) (l0:=bitsV (fun j=>H.lost i 0 j) p.n) (l1:=bitsV (fun j=>H.lost i 1 j) p.n) (sent:=sB) (by rw [HWHO.out];exact q) (by rw [HWHO.out];exact hwn) (by rw [HWHO.out];exact HSENT.out) (by rw [HWHO.out];exact HMEM.out) (fun j hj=>bitI_bitsV _ hn hj) (fun j hj=>bitI_bitsV _ hn hj)
  exact InRC.more (HBKi.out _ _ _ q2) (by omega)
 clear hI5 hc4
 go_wp2
 exact HEX.out _ _ HI5.out rfl (Rest.of rfl)
end
end
end Go.Proofs.YtooadfgibdjdeaaGreatDoor
