import Derived.Test.YtooadfgibdjdeaaGreatDoorZS25a
import Derived.Test.YtooadfgibdjdeaaGreatDoorZS25b
namespace Go.Proofs.YtooadfgibdjdeaaGreatDoor
open Go.RowKit
set_option maxRecDepth 100000
set_option maxHeartbeats 16000000
section
section
variable {wr:World} {Oi Z:List Nat} {C:Nat} {p:PlanN} {fa:Int} {cs:List Int} {si:ClS} {rd:Int} {B:Nat} {m:RMap}
def w_rp_one_0 (k:Nat):Bool:=(decide (21≤k) && decide (k≤38)) || (decide (40≤k) && decide (k≤41)) || (decide (215≤k) && decide (k≤439))
theorem rp_one (code:Code) (hcode:Tryz.f10.body.bind (blockIn 9)=some code) (Q:Exit→Act→World→Prop) (h:RCl wr Oi Z C p fa cs si rd B m) (H:HapS) (i:Nat) (la:Option Addr) (nL lc:Nat) (ls lch lt:Nat→Int) (ma:Option Addr) (mc:Nat) (modes:List Int) (SA:Option Addr) (hSA:SA=m.sa)
  (hlt:i<p.ns) (hnn:p.nodes=p.n) (hn1:1≤p.n) (hn:p.n≤16) (hnl:p.nl≤8) (hns:p.ns≤32) (hB0:1≤B) (hB:B≤999000) (hr:Rows3 wr la nL ls lch lt) (hrO:∀ b off,la=some ⟨b,off,none⟩→b∉Oi) (hrL:∀ b off,la=some ⟨b,off,none⟩→b<wr.heap.size) (hL:nL≤9223372036854775807)
  (hm:IntRow wr ma modes) (hmO:∀ b off,ma=some ⟨b,off,none⟩→0<modes.length→b∉Oi) (hmL:modes.length≤9223372036854775807) (hlies:H.lies=bitI fa) (hmode:∀ j,H.mode j=if j<modes.length then modes.getD j 0 else 0) (hlost:∀ i c j,H.lost i c j=lostB ls lch lt nL i c j)
  (hrd:0≤rd) (hrd1:rd≤1000000) (hr1:1≤p.round) (hr2:p.round≤137438953472) (hslot:∀ i,i<p.ns→(0≤p.nd i∧p.nd i<p.nodes)∧0≤p.fr i∧p.fr i≤1099511627776) (hlk:∀ k,k<p.nl→0≤p.lf k∧0≤p.lb k∧p.lb k≤1099511627776) {L:List Value} (hL0:L.length=452) (s0:L[0]? = some (.pointer (some ⟨C,0,none⟩))) (s1:L[1]? = some (.slice la nL lc)) (s4:L[4]? = some (.slice ma modes.length mc)) (s11:L[11]? = some (.int .i64 p.n)) (s211:L[211]? = some (.slice SA p.ns m.scap)) (s212:L[212]? = some (.int .i64 p.ns)) (s213:L[213]? = some (.int .i64 i))
  (hexit:∀ (L':List Value) (w':World),InRC Oi wr w' Z C p fa cs (si.slot p.S H rd i) rd (B+70) m→L'.length=452→Rest w_rp_one_0 L L'→Q .normal ⟨L'.toArray,[]⟩ w') :
  Code.wp Tryz.prog code Q ⟨L.toArray,[]⟩ wr:=by
 cases hb:bitI fa (p.S.nd i)
 ·exact rp_oneA code hcode Q h H i la nL lc ls lch lt ma mc modes SA hSA hlt hnn hn1 hn hnl hns hB0 hB hr hrO hrL hL hm hmO hmL hlies hmode hlost hrd hrd1 hr1 hr2 hslot hlk hb hL0 s0 s1 s4 s11 s211 s212 s213 hexit
 ·by_cases hm1:p.S.nd i<modes.length
  ·by_cases d1:modes.getD (p.S.nd i) 0=1
   ·exact rp_oneB code hcode Q h H i la nL lc ls lch lt ma mc modes SA hSA hlt hnn hn1 hn hnl hns hB0 hB hr hrO hrL hL hm hmO hmL hlies hmode hlost hrd hrd1 hr1 hr2 hslot hlk ⟨hb,hm1,d1⟩ hL0 s0 s1 s4 s11 s211 s212 s213 hexit
   ·by_cases d2:modes.getD (p.S.nd i) 0=2
    ·by_cases d3:(p.S.nd i+1) % p.n=p.S.nd i
     ·exact rp_oneC code hcode Q h H i la nL lc ls lch lt ma mc modes SA hSA hlt hnn hn1 hn hnl hns hB0 hB hr hrO hrL hL hm hmO hmL hlies hmode hlost hrd hrd1 hr1 hr2 hslot hlk ⟨⟨hb,hm1,d2⟩,d3⟩ hL0 s0 s1 s4 s11 s211 s212 s213 hexit
     ·exact rp_oneD code hcode Q h H i la nL lc ls lch lt ma mc modes SA hSA hlt hnn hn1 hn hnl hns hB0 hB hr hrO hrL hL hm hmO hmL hlies hmode hlost hrd hrd1 hr1 hr2 hslot hlk ⟨⟨hb,hm1,d2⟩,d3⟩ hL0 s0 s1 s4 s11 s211 s212 s213 hexit
    ·exact rp_oneE code hcode Q h H i la nL lc ls lch lt ma mc modes SA hSA hlt hnn hn1 hn hnl hns hB0 hB hr hrO hrL hL hm hmO hmL hlies hmode hlost hrd hrd1 hr1 hr2 hslot hlk ⟨hb,hm1,d1,d2⟩ hL0 s0 s1 s4 s11 s211 s212 s213 hexit
  ·exact rp_oneF code hcode Q h H i la nL lc ls lch lt ma mc modes SA hSA hlt hnn hn1 hn hnl hns hB0 hB hr hrO hrL hL hm hmO hmL hlies hmode hlost hrd hrd1 hr1 hr2 hslot hlk ⟨hb,hm1⟩ hL0 s0 s1 s4 s11 s211 s212 s213 hexit
end
section
variable {w:World} {O Z:List Nat} {C:Nat} {p:PlanN} {fa:Int} {cs:List Int} {s:ClS} {rd:Int} {B:Nat} {m:RMap}
def w_rp_slot_0 (k:Nat):Bool:=(decide (21≤k) && decide (k≤38)) || (decide (40≤k) && decide (k≤41)) || (decide (213≤k) && decide (k≤440))
theorem rp_slot (body:Code) (hbody:(Tryz.f10.body.map loopsIn).bind (fun l=>l[4]?)=some body) (Q:Exit→Act→World→Prop) (h:RCl w O Z C p fa cs s rd B m) (H:HapS) (la:Option Addr) (nL lc:Nat) (ls lch lt:Nat→Int) (ma:Option Addr) (mc:Nat) (modes:List Int) (SA:Option Addr) (hSA:SA=m.sa)
  (hnn:p.nodes=p.n) (hn1:1≤p.n) (hn:p.n≤16) (hns:p.ns≤32) (hnl:p.nl≤8) (hB0:1≤B) (hB:B≤900000) (hr:Rows3 w la nL ls lch lt) (hrO:∀ b off,la=some ⟨b,off,none⟩→b∉O) (hrL:∀ b off,la=some ⟨b,off,none⟩→b<w.heap.size) (hL:nL≤9223372036854775807)
  (hm:IntRow w ma modes) (hmO:∀ b off,ma=some ⟨b,off,none⟩→0<modes.length→b∉O) (hmL:modes.length≤9223372036854775807) (hlies:H.lies=bitI fa) (hmode:∀ j,H.mode j=if j<modes.length then modes.getD j 0 else 0) (hlost:∀ i c j,H.lost i c j=lostB ls lch lt nL i c j)
  (hrd:0≤rd) (hrd1:rd≤1000000) (hr1:1≤p.round) (hr2:p.round≤137438953472) (hslot:∀ i,i<p.ns→(0≤p.nd i∧p.nd i<p.nodes)∧0≤p.fr i∧p.fr i≤1099511627776) (hlk:∀ k,k<p.nl→0≤p.lf k∧0≤p.lb k∧p.lb k≤1099511627776) {L:List Value} (hL0:L.length=452) (s0:L[0]? = some (.pointer (some ⟨C,0,none⟩))) (s1:L[1]? = some (.slice la nL lc)) (s4:L[4]? = some (.slice ma modes.length mc)) (s11:L[11]? = some (.int .i64 p.n)) (s211:L[211]? = some (.slice SA p.ns m.scap)) (s212:L[212]? = some (.int .i64 p.ns)) (s213:L[213]? = some (.int .i64 0))
  (hexit:∀ (L':List Value) (wr:World),InRC O w wr Z C p fa cs (s.slots p.S H rd p.ns) rd (B+70*p.ns) m→L'.length=452→Rest w_rp_slot_0 L L'→L'[213]? = some (.int .i64 p.ns)→Q (.exit 8) ⟨L'.toArray,[]⟩ wr) :
  Code.wp Tryz.prog (Code.loop body) Q ⟨L.toArray,[]⟩ w:=by
 have hb2:((Tryz.f10.body.map loopsIn).bind (fun l=>l[4]?)).getD Code.skip=body:=by rw [hbody];rfl
 obtain rfl:=hb2
 clear hbody
 conv=>arg 2;arg 1;whnf
 have HEX:Hid _:=hexit
 obtain ⟨fL,rfl⟩:=lit L 452 hL0
 replace s0:=lit_at s0
 replace s1:=lit_at s1
 replace s4:=lit_at s4
 replace s11:=lit_at s11
 replace s211:=lit_at s211
 replace s212:=lit_at s212
 replace s213:=lit_at s213
 simp only [List.range,List.range.loop,List.map_cons,List.map_nil,s0,s1,s4,s11,s211,s212,s213]
 have HH:Hid (RCl w O Z C p fa cs s rd B m):=h
 have HR:Hid (Rows3 w la nL ls lch lt):=hr
 have HRO:Hid (∀ b off,la=some ⟨b,off,none⟩→b∉O):=hrO
 have HRL:Hid (∀ b off,la=some ⟨b,off,none⟩→b<w.heap.size):=hrL
 have HM:Hid (IntRow w ma modes):=hm
 have HMO:Hid (∀ b off,ma=some ⟨b,off,none⟩→0<modes.length→b∉O):=hmO
 have HLIES:Hid (H.lies=bitI fa):=hlies
 have HMODE:Hid (∀ j,H.mode j=if j<modes.length then modes.getD j 0 else 0):=hmode
 have HLOST:Hid (∀ i c j,H.lost i c j=lostB ls lch lt nL i c j):=hlost
 have HSLOT:Hid (∀ i,i<p.ns→(0≤p.nd i∧p.nd i<p.nodes)∧0≤p.fr i∧p.fr i≤1099511627776):=hslot
 have HLNK:Hid (∀ k,k<p.nl→0≤p.lf k∧0≤p.lb k∧p.lb k≤1099511627776):=hlk
 have HSA:Hid (SA=m.sa):=hSA
 clear hexit h hr hrO hrL hm hmO hlies hmode hlost hslot hlk hSA
 go_loopw [213] (fun a wr=>∃ i:Nat,i≤p.ns∧a=.int .i64 i∧Hid (InRC O w wr Z C p fa cs (s.slots p.S H rd i) rd (B+70*i) m)) (fun a _=>p.ns - (intOf a).toNat)
 case atStart=>exact ⟨0,Nat.zero_le _,rfl,O,Foot.refl _ _,HH.out⟩
 case round =>
  obtain ⟨i,hi,rfl,hin⟩:=hrel
  by_cases hlt:i<p.ns
  ·have ii:(i:Int)<(p.ns:Int):=by omega
   have HSUC:Hid (s.slots p.S H rd (i+1)=(s.slots p.S H rd i).slot p.S H rd i):=rfl
   obtain ⟨Oi,hci,hapi,hbacki⟩:=hin.out.part2
   have hr2':=hin.out.rows3 HR.out HRO.out
   have hmR:IntRow wr ma modes:=fun h0=>by
    obtain ⟨b,off,e,hb,hc⟩:=HM.out h0
    have hn2:=HMO.out b off e h0
    exact ⟨b,off,e,Nat.lt_of_lt_of_le hb hin.out.size,fun j hj=>(hin.out.box hb hn2 _).trans (hc j hj)⟩
   have HMOi:Hid (∀ b off,ma=some ⟨b,off,none⟩→0<modes.length→b∉Oi):=fun b off e h0=>by
    obtain ⟨b',off',e',hb,_⟩:=HM.out h0
    rw [e] at e'
    cases e'
    exact hapi b hb (HMO.out b off e h0)
   have HROi:Hid (∀ b off,la=some ⟨b,off,none⟩→b∉Oi):=fun b off e=>hapi b (HRL.out b off e) (HRO.out b off e)
   have HRLi:Hid (∀ b off,la=some ⟨b,off,none⟩→b<wr.heap.size):=fun b off e=>Nat.lt_of_lt_of_le (HRL.out b off e) hin.out.size
   have HBK:Hid (∀ (w':World) (s2:ClS) (B2:Nat),InRC Oi wr w' Z C p fa cs s2 rd B2 m→InRC O w w' Z C p fa cs s2 rd B2 m):=hbacki
   clear hapi hbacki
   have hSA2:=HSA.out
   iterate 15 (go_step)
   refine rp_one _ (by rfl) _ hci H i la nL lc ls lch lt ma mc modes SA hSA2 hlt hnn hn1 hn hnl hns (by omega) (by omega) hr2' HROi.out HRLi.out hL hmR HMOi.out hmL HLIES.out HMODE.out HLOST.out hrd hrd1 hr1 hr2 HSLOT.out HLNK.out rfl rfl rfl rfl rfl rfl rfl rfl ?_
   intro L2 w5 hI5 hN9 hQ9
   obtain ⟨gL,rfl⟩:=hQ9.over (hN9.trans rfl)
   clear hQ9 hN9
   simp (decide:=true) only [ov,if_true,if_false,Nat.reduceAdd]
   have HI5:Hid (InRC O w w5 Z C p fa cs (s.slots p.S H rd (i+1)) rd (B+70*(i+1)) m):=by
    rw [HSUC.out]
    exact InRC.more (HBK.out _ _ _ hI5) (by omega)
   clear hI5 hci hr2' hmR
   go_wp2
   exact ⟨⟨i+1,by omega,by go_num,HI5.out⟩,by simp [intOf];omega⟩
  ·obtain rfl:i=p.ns:=by omega
   go_wp2
   exact HEX.out _ _ hin.out rfl (Rest.of rfl) rfl
end
end
end Go.Proofs.YtooadfgibdjdeaaGreatDoor
