import Derived.Test.YtooadfgibdjdeaaGreatDoorZRPLink
namespace Go.Proofs.YtooadfgibdjdeaaGreatDoor
open Go.RowKit
set_option maxRecDepth 100000
set_option maxHeartbeats 16000000
section
section
variable {w:World} {O Z:List Nat} {C:Nat} {p:PlanN} {fa:Int} {cs:List Int} {s:ClS} {rd:Int} {B:Nat} {m:RMap}
theorem InRC.agree {V wr:World} {s':ClS} (h:InRC O V wr Z C p fa cs s rd B m) (h1:∀ j,j<p.n→s'.nodes j=s.nodes j) (h2:∀ k,k<p.nl→s'.links k=s.links k) (h3:∀ k j,k<p.nl→j<p.n→s'.newest k j=s.newest k j) (h4:∀ k j,s'.ports k j=s.ports k j):InRC O V wr Z C p fa cs s' rd B m:=by
 obtain ⟨O',h,c⟩:=h
 exact ⟨O',h,c.agree h1 h2 h3 h4⟩
theorem RCl.msg (h:RCl w O Z C p fa cs s rd B m) (H:HapS) (i:Nat):MsgIn p (s.goes p.S H rd i).2:=by
 intro k q d hm
 unfold ClS.goes at hm
 by_cases hs:s.sends H (p.S.nd i)=true
 ·rw [if_pos hs] at hm
  have h1:=((linksTo_own (p:=p.S) (who:=p.S.nd i) (t:=rd*p.S.round+p.S.fr i) (L:=s.links) p.S.nl).1 k q d hm).1
  refine ⟨h1,?_⟩
  obtain ⟨x,hx⟩:=linksTo_dat _ _ _ _ hm
  obtain ⟨_,_,hB,_⟩:=h.sdr h1
  rw [hx,List.getD_eq_getElem?_getD]
  cases y:(s.links k).all[x]? with
  | none=>decide
  | some v=>exact hB.2.2 v (List.mem_of_getElem? y)
 ·rw [if_neg hs] at hm
  cases hm
theorem bitI_bitsV (f:Nat→Bool) {n j:Nat} (hn:n≤16) (hj:j<n):bitI (bitsV f n) j=f j:=by
 have hb:=bitsV_in f n
 have hp:(2:Int) ^ n≤2 ^ 16:=pow_le (by omega)
 have h16:(2:Int) ^ 16=65536:=by decide
 rw [bitI_nat _ (by omega)]
 have e:(bitsV f n % 18446744073709551616).toNat=(bitsV f n).toNat:=by
  generalize bitsV f n=X at *
  generalize (2:Int) ^ n=Y at *
  omega
 rw [e]
 have:=tb_bitsV f n j
 rw [decide_eq_true hj,Bool.true_and] at this
 exact this
theorem slot_ports {H:HapS} {i:Nat} {mem l0 l1:Int} {sent:Bool} (hw:p.S.nd i<p.n) (hs:sent=s.sends H (p.S.nd i)) (hmem:sent=true→mem=bitsV (s.tells p.S H (p.S.nd i)) p.n) (h0:∀ j,j<p.n→bitI l0 j=H.lost i 0 j) (h1:∀ j,j<p.n→bitI l1 j=H.lost i 1 j) (k x:Nat) :
  (s.slot p.S H rd i).ports k x=((s.sentS p H rd i).hearTo p (p.S.nd i) mem (s.goes p.S H rd i).2 sent l0 l1 p.n).ports k x:=by
 by_cases hx:x<p.n
 ·exact ((slot_is (s:=s) (rd:=rd) hw hs hmem h0 h1).2.2 k x hx).2
 ·obtain ⟨_,_,_,q4⟩:=hearTo_is (s.sentS p H rd i) p (p.S.nd i) mem (s.goes p.S H rd i).2 sent l0 l1 p.n
  rw [q4 k x,if_neg (fun y=>hx y.1.1)]
  show (if s.takes p.S H i (s.goes p.S H rd i).2 k x=true∧(s.ports k x).length<16 then _ else s.ports k x)=s.ports k x
  rw [if_neg]
  rintro ⟨y,_⟩
  unfold ClS.takes at y
  cases hg:(s.goes p.S H rd i).2 with
  | none=>rw [hg] at y;cases y
  | some v =>
   obtain ⟨k',q,d⟩:=v
   rw [hg] at y
   simp only [Bool.and_eq_true,decide_eq_true_eq] at y
   exact hx y.2.2.2.1.1
theorem goS_is {H:HapS} {i:Nat} {sent:Bool} (hs:sent=s.sends H (p.S.nd i)):goK p (s.setNode (p.S.nd i) (s.nodes (p.S.nd i)).sent) sent (p.S.nd i) (rd*p.round+p.fr i) p.nl=s.goes p.S H rd i:=by
 unfold goK ClS.goes
 rw [hs]
 rfl
theorem goS_sent {H:HapS} {i:Nat} {sent:Bool} (hs:sent=s.sends H (p.S.nd i)):goS p (s.setNode (p.S.nd i) (s.nodes (p.S.nd i)).sent) sent (p.S.nd i) (rd*p.round+p.fr i) p.nl=s.sentS p H rd i:=by
 unfold goS ClS.sentS
 rw [goS_is hs]
 rfl
theorem InRC.slot {V wr:World} {H:HapS} {i:Nat} {mem l0 l1:Int} {sent:Bool} (h:InRC O V wr Z C p fa cs ((s.sentS p H rd i).hearTo p (p.S.nd i) mem (s.goes p.S H rd i).2 sent l0 l1 p.n) rd B m) (hw:p.S.nd i<p.n) (hs:sent=s.sends H (p.S.nd i)) (hmem:sent=true→mem=bitsV (s.tells p.S H (p.S.nd i)) p.n) (h0:∀ j,j<p.n→bitI l0 j=H.lost i 0 j) (h1:∀ j,j<p.n→bitI l1 j=H.lost i 1 j):InRC O V wr Z C p fa cs (s.slot p.S H rd i) rd B m:=by
 obtain ⟨q1,q2,q3⟩:=slot_is (s:=s) (rd:=rd) hw hs hmem h0 h1
 exact h.agree q1 (fun k _=>q2 k) (fun k j _ hj=>(q3 k j hj).1) (fun k j=>slot_ports hw hs hmem h0 h1 k j)
theorem wrong2 (t:Nat→Bool) {n who:Nat} (hn:n≤16) (h1:who<n) (hne:(who+1) % n≠who):bits BinOp.xor .i64 (bits BinOp.xor .i64 (bitsV t n) (2 ^ who)) (2 ^ ((who+1) % n))=bitsV (fun j=>if j=who∨j=(who+1) % n then !t j else t j) n:=by
 have hx:(who+1) % n<n:=Nat.mod_lt _ (by omega)
 rw [pow_bitsV hn h1,xor_bits t _ hn,pow_bitsV hn hx,xor_bits _ _ hn]
 refine bitsV_congr fun j _=>?_
 by_cases e1:j=who
 ·have e2:j≠(who+1) % n:=fun e=>hne (e▸e1)
  rw [if_pos (.inl e1),decide_eq_true e1,decide_eq_false e2]
  cases t j <;> rfl
 ·by_cases e2:j=(who+1) % n
  ·rw [if_pos (.inr e2),decide_eq_false e1,decide_eq_true e2]
   cases t j <;> rfl
  ·rw [if_neg (fun y=>y.elim e1 e2),decide_eq_false e1,decide_eq_false e2]
   cases t j <;> rfl
theorem wrong1 (t:Nat→Bool) {n who:Nat} (hn:n≤16) (h1:who<n) (he:(who+1) % n=who):bits BinOp.xor .i64 (bitsV t n) (2 ^ who)=bitsV (fun j=>if j=who∨j=(who+1) % n then !t j else t j) n:=by
 rw [pow_bitsV hn h1,xor_bits t _ hn]
 refine bitsV_congr fun j _=>?_
 rw [he]
 by_cases e1:j=who
 ·rw [if_pos (.inl e1),decide_eq_true e1]
  cases t j <;> rfl
 ·rw [if_neg (fun y=>y.elim e1 e1),decide_eq_false e1]
  cases t j <;> rfl
end
end
end Go.Proofs.YtooadfgibdjdeaaGreatDoor
