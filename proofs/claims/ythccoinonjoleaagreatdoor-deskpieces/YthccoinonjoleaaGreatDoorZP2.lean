import Derived.Test.YthccoinonjoleaaGreatDoorZPlanLink
import Derived.BigQuiet
import Derived.Deep.QuietTactic
import Derived.Maps.AppendAt
import Derived.RegionTactic
import Derived.WalkKit
import Derived.WalkLawsBesides
import Derived.WalkSpells
namespace Go.Proofs.YthccoinonjoleaaGreatDoor
open Go.RowKit
set_option maxRecDepth 100000
set_option maxHeartbeats 16000000
section
structure NodeS where
 t:Nat→Bool
 g:Int
 b:Int
 fz:Bool
structure SendS where
 all:List ByteArray
 went:Nat
 last:Int
 now:Int
structure ClS where
 nodes:Nat→NodeS
 links:Nat→SendS
 newest:Nat→Nat→Int
 ports:Nat→Nat→List ByteArray
structure PlanS where
 n:Nat
 round:Int
 ns:Nat
 nd:Nat→Nat
 fr:Nat→Int
 nl:Nat
 lf:Nat→Nat
 lt:Nat→Nat→Bool
 lb:Nat→Int
structure HapS where
 lies:Nat→Bool
 mode:Nat→Int
 lost:Nat→Nat→Nat→Bool
def SendS.asked (s:SendS) (t bag:Int):SendS :=
 { all:=s.all,went:=sendWent (sendK s.all.length s.went t s.now s.last bag) s.went,last:=sendLast (sendK s.all.length s.went t s.now s.last bag) t s.last,now:=sendNow (sendK s.all.length s.went t s.now s.last bag) t s.now }
def linksTo (p:PlanS) (who:Nat) (t:Int) (L:Nat→SendS):Nat→(Nat→SendS) × Option (Nat × Int × ByteArray)
 | 0=>(L,none)
 | k+1 =>
  let r:=linksTo p who t L k
  if r.2.isSome=true∨p.lf k≠who then r
  else (fun j=>if j=k then (r.1 k).asked t (p.lb k) else r.1 j,
   if sendK (r.1 k).all.length (r.1 k).went t (r.1 k).now (r.1 k).last (p.lb k)=0 then some (k,ordN (r.1 k).went,(r.1 k).all.getD (r.1 k).went ByteArray.empty) else none)
def HapS.modeOf (h:HapS) (who:Nat):Int:=if h.lies who=true then h.mode who else 0
def ClS.sends (s:ClS) (h:HapS) (who:Nat):Bool:=sendsB (s.nodes who).g (s.nodes who).b (s.nodes who).fz && decide (h.modeOf who≠1)
def ClS.tells (s:ClS) (p:PlanS) (h:HapS) (who:Nat):Nat→Bool:=fun j=>if h.modeOf who=2∧(j=who∨j=(who+1) % p.n) then !(s.nodes who).t j else (s.nodes who).t j
def ClS.comes (s:ClS) (h:HapS) (i who to_:Nat):Bool:=s.sends h who && (!h.lost i 0 to_ || !h.lost i 1 to_)
def ClS.what (s:ClS) (p:PlanS) (h:HapS) (i who to_:Nat):Int:=if s.comes h i who to_=true then (if judB p.n who (s.tells p h who) (s.nodes to_).t=true then 1 else 2) else 0
def NodeS.sent (N:NodeS):NodeS:={ t:=N.t,g:=if sendsB N.g N.b N.fz=true then 1 else N.g,b:=if sendsB N.g N.b N.fz=true then 0 else N.b,fz:=!sendsB N.g N.b N.fz }
def NodeS.hears (N:NodeS) (id n frm:Nat) (what:Int):NodeS:={ t:=heT id n N.fz frm what N.t,g:=heG id n N.fz frm what N.g,b:=heB id n N.fz frm what N.b,fz:=N.fz }
def ClS.goes (s:ClS) (p:PlanS) (h:HapS) (rounds:Int) (i:Nat):(Nat→SendS) × Option (Nat × Int × ByteArray) :=
 if s.sends h (p.nd i)=true then linksTo p (p.nd i) (rounds*p.round+p.fr i) s.links p.nl else (s.links,none)
def ClS.takes (s:ClS) (p:PlanS) (h:HapS) (i:Nat) (m:Option (Nat × Int × ByteArray)) (k to_:Nat):Bool :=
 match m with
 | none=>false
 | some (j,q,_)=>decide (j=k) && (p.lt k to_ && (s.comes h i (p.nd i) to_ && (decide (to_<p.n∧to_≠p.nd i) && takeB (s.newest k to_) q)))
def msgSeq (m:Option (Nat × Int × ByteArray)):Int:=match m with | none=>0 | some (_,q,_)=>q
def msgDat (m:Option (Nat × Int × ByteArray)):ByteArray:=match m with | none=>ByteArray.empty | some (_,_,d)=>d
def ClS.slot (s:ClS) (p:PlanS) (h:HapS) (rounds:Int) (i:Nat):ClS where
 nodes:=fun j=>if j=p.nd i then (s.nodes j).sent else (s.nodes j).hears j p.n (p.nd i) (s.what p h i (p.nd i) j)
 links:=(s.goes p h rounds i).1
 newest:=fun k j=>if s.takes p h i (s.goes p h rounds i).2 k j=true then msgSeq (s.goes p h rounds i).2 else s.newest k j
 ports:=fun k j=>if s.takes p h i (s.goes p h rounds i).2 k j=true∧(s.ports k j).length<16 then s.ports k j ++ [msgDat (s.goes p h rounds i).2] else s.ports k j
def ClS.slots (s:ClS) (p:PlanS) (h:HapS) (rounds:Int):Nat→ClS
 | 0=>s
 | i+1=>(s.slots p h rounds i).slot p h rounds i
theorem linksTo_own {p:PlanS} {who:Nat} {t:Int} {L:Nat→SendS} : ∀ n,(∀ k q d,(linksTo p who t L n).2=some (k,q,d)→k<n∧p.lf k=who)∧∀ j,p.lf j≠who→(linksTo p who t L n).1 j=L j:=by
 intro n
 induction n with
 | zero=>exact ⟨fun k q d h=>(by cases h),fun j _=>rfl⟩
 | succ n ih =>
  show (∀ k q d,(if (linksTo p who t L n).2.isSome=true∨p.lf n≠who then linksTo p who t L n else _).2=some (k,q,d)→_)∧∀ j,p.lf j≠who→(if (linksTo p who t L n).2.isSome=true∨p.lf n≠who then linksTo p who t L n else _).1 j=L j
  by_cases hc:(linksTo p who t L n).2.isSome=true∨p.lf n≠who
  ·rw [if_pos hc]
   exact ⟨fun k q d h=>⟨Nat.lt_succ_of_lt (ih.1 k q d h).1,(ih.1 k q d h).2⟩,ih.2⟩
  ·rw [if_neg hc]
   have hw:p.lf n=who:=by
    by_cases e:p.lf n=who
    ·exact e
    ·exact absurd (.inr e) hc
   refine ⟨fun k q d h=>?_,fun j hj=>?_⟩
   ·by_cases e:sendK ((linksTo p who t L n).1 n).all.length ((linksTo p who t L n).1 n).went t ((linksTo p who t L n).1 n).now ((linksTo p who t L n).1 n).last (p.lb n)=0
    ·simp only [if_pos e] at h
     injection h with h
     injection h with h
     exact ⟨by omega,by rw [← h];exact hw⟩
    ·simp only [if_neg e] at h
     cases h
   ·have:j≠n:=fun e=>hj (e▸hw)
    show (if j=n then _ else (linksTo p who t L n).1 j)=L j
    rw [if_neg this]
    exact ih.2 j hj
theorem linksTo_same {p:PlanS} {who:Nat} {t:Int} {L L':Nat→SendS} (hL:∀ j,p.lf j=who→L j=L' j):∀ n,(linksTo p who t L n).2=(linksTo p who t L' n).2∧∀ j,p.lf j=who→(linksTo p who t L n).1 j=(linksTo p who t L' n).1 j:=by
 intro n
 induction n with
 | zero=>exact ⟨rfl,hL⟩
 | succ n ih =>
  show (if (linksTo p who t L n).2.isSome=true∨p.lf n≠who then linksTo p who t L n else _).2=(if (linksTo p who t L' n).2.isSome=true∨p.lf n≠who then linksTo p who t L' n else _).2∧∀ j,p.lf j=who→(if (linksTo p who t L n).2.isSome=true∨p.lf n≠who then linksTo p who t L n else _).1 j=(if (linksTo p who t L' n).2.isSome=true∨p.lf n≠who then linksTo p who t L' n else _).1 j
  rw [← ih.1]
  by_cases hc:(linksTo p who t L n).2.isSome=true∨p.lf n≠who
  ·rw [if_pos hc,if_pos hc]
   exact ih
  ·rw [if_neg hc,if_neg hc]
   have hw:p.lf n=who:=by
    by_cases e:p.lf n=who
    ·exact e
    ·exact absurd (.inr e) hc
   have e:=ih.2 n hw
   simp only [e]
   refine ⟨trivial,fun j hj=>?_⟩
   by_cases q:j=n
   ·rw [if_pos q,if_pos q]
   ·rw [if_neg q,if_neg q]
    exact ih.2 j hj
end
section
theorem grown_cell {w w':World} {row:Option Nat} (h:w.grownBy w' row) {a:Addr} {v:Value} (hc:w.cell? a=some v) (hr:row≠some a.block):w'.cell? a=some v :=
 (World.cell?_of_block (w:=w) (h.block a.block (lt_of_cell hc) (fun e=>hr e.symm))).trans hc
theorem write_any (base:Nat) (v0:Value) (xs:List Int) (b cap:Nat) (L:List Int) (w:World) (hown:w.ownsRow base 5 1 v0 xs.length (xs.map (Value.int .u8)))
  (hc:∀ j (h:j<L.length),w.cell? ⟨b,j,none⟩=some (.int .i64 L[j])) (hL:∀ x∈L,0≤x∧x≤1099511627776) (hb:v0.ownBlock≠some b) (hbase:base≤w.heap.size) (hlen:xs.length≤10000) (hLl:L.length≤100) :
  Calls Tryz.prog 71 #[v0,.slice (some ⟨b,0,none⟩) L.length cap] w fun ev w'=>∃ v',ev=.returned v'∧w'.ownsRow base 5 1 v' (xs ++ bytesTo L L.length).length ((xs ++ bytesTo L L.length).map (Value.int .u8))∧Below base w w'∧w.heap.size≤w'.heap.size:=by
 obtain ⟨i1,hj,hy0,hy1,hy2⟩:=info_parts Tryz.infoByte
 have HC:Hid (∀ j (h:j<L.length),w.cell? ⟨b,j,none⟩=some (.int .i64 L[j])):=hc
 have HL:Hid (∀ x∈L,0≤x∧x≤1099511627776):=hL
 clear hc hL
 obtain ⟨n,hn⟩:∃ n,L.length=n:=⟨_,rfl⟩
 rw [hn] at hLl
 have HN:Hid (L.length=n):=hn
 rw [hn]
 clear hn
 go_enter Tryz.func71,Tryz.ntmps71
 go_wp2
 go_loopw [0,9] (fun v t wr=>∃ k:Nat,k≤n∧t=.int .i64 k∧Hid (wr.ownsRow base 5 1 v (xs ++ bytesTo L k).length ((xs ++ bytesTo L k).map (Value.int .u8)))∧Hid (v.ownBlock≠some b)∧Hid (∀ j (h:j<L.length),wr.cell? ⟨b,j,none⟩=some (.int .i64 L[j]))∧Below base w wr) (fun _ t _=>n - (intOf t).toNat)
 case atStart=>exact ⟨0,Nat.zero_le _,rfl,by simpa [bytesTo,Hid] using hown,hb,HC.out,Below.refl _ _⟩
 case round =>
  obtain ⟨k,hk,rfl,ho,hbk,hcc,hbe⟩:=hrel
  by_cases hlt:k<n
  ·have hkL:k<L.length:=by rw [HN.out];exact hlt
   obtain ⟨x,hx⟩:∃ x,x=L[k]:=⟨_,rfl⟩
   have hxb:=HL.out x (by rw [hx];exact List.getElem_mem hkL)
   have y0:wr.cell? ⟨b,k,none⟩=some (.int .i64 x):=by rw [hx];exact hcc.out k hkL
   obtain ⟨m,hm⟩:=Int.eq_ofNat_of_zero_le hxb.1
   have hm2:m≤1099511627776:=by omega
   have hm3:(L[k]).toNat=m:=by omega
   have HM:Hid ((L[k]).toNat=m):=hm3
   subst hm
   clear hx hm3 hxb
   have hwr:b<wr.heap.size:=lt_of_cell y0
   go_wp2_with fail
   rename World=>wq
   go_loopw [0,6] (fun v t wv=>∃ (j q:Nat) (dn:List Int),j≤5∧Hid (q<128 ^ (j+1))∧q≤1099511627776∧t=.int .i64 q∧Hid (dn ++ numB j q=numB 5 m)∧Hid (wv.ownsRow base 5 1 v ((xs ++ bytesTo L k) ++ dn).length (((xs ++ bytesTo L k) ++ dn).map (Value.int .u8)))∧Hid (v.ownBlock≠some b)∧Hid (∀ j (h:j<L.length),wv.cell? ⟨b,j,none⟩=some (.int .i64 L[j]))∧Below base w wv) (fun _ t _=>(intOf t).toNat)
   case atStart=>exact ⟨5,m,[],by omega,(by show m<128 ^ 6;omega),hm2,rfl,rfl,by simpa using ho,hbk,hcc,hbe⟩
   case round =>
    clear ho hbk hcc hbe y0 hwr
    obtain ⟨j,q,dn,hj5,hq1,hq2,rfl,hdn,ho,hbk,hcc,hbe⟩:=hrel
    by_cases hbig:128≤q
    ·have h1:(128:Int)≤(q:Int):=by omega
     have h2:(q:Int)≤1099511627776:=by omega
     have hjp:1≤j:=by
      rcases Nat.eq_zero_or_pos j with e | e
      ·subst e;have:=hq1.out;simp at this;omega
      ·exact e
     obtain ⟨j',rfl⟩:∃ j',j=j'+1:=⟨j - 1,by omega⟩
     have HNB:Hid (numB (j'+1) q=((q % 128:Nat)+128:Int)::numB j' (q / 128)):=by
      show _=_
      simp only [numB];rw [if_neg (by omega)]
     have hQ:Hid (q / 128<128 ^ (j'+1)):=by
      show _<_
      rw [Nat.div_lt_iff_lt_mul (by decide)];have:=hq1.out;rw [Nat.pow_succ] at this;exact this
     have hbl:b<wr.heap.size:=lt_of_cell (hcc.out k hkL)
     have HLA:Hid (((xs ++ bytesTo L k) ++ dn).length≤11000):=by
      show _≤_
      have l1:=bytesTo_len L k (by omega)
      have l2:=congrArg List.length hdn.out
      have l3:=numB_len 5 m
      have l4:=HN.out
      simp at l2 ⊢
      omega
     have hbs:base≤wr.heap.size:=by have:=hbe.size;omega
     have hownA:=owns_below ho.out ((Below.refl wr.heap.size wr).alloc (Nat.le_refl _) (.cells #[.int .u8 ((q:Int) % 128+128)] 5))
     have HO:Hid (World.ownsRow _ _ _ _ _ _ _):=hownA
     clear hownA
     go_wp2_with (at_builtin;refine wpList_append_own_at _ rfl _ _ 31 rfl base 5 i1 (.int .u8 0) 1 1 Tryz.underlying31 hj hy0 hy1 hy2 rfl (by decide) u0 _ _ rfl HO.out ⟨wr.heap.size,0,none⟩ 1 1 [.int .u8 ((q:Int) % 128+128)] rfl rfl (cell_one_new _ _ _) (fun u hu=>by simp at hu;subst hu;rfl) (by have:=HLA.out;unfold maxLen;omega) (by have:=HLA.out;omega) (by simp;omega) ?_;intro v' w2 hown' hgrow hnil hblk)
     have hb4:Below base w w2:=(hbe.alloc hbs _).grown hgrow (by simp;omega) (fun z hz=>(HO.out.lt z hz).1)
     have hcc4:Hid (∀ j (h:j<L.length),w2.cell? ⟨b,j,none⟩=some (.int .i64 L[j])):=fun j h=>grown_cell hgrow (by rw [World.cell?_alloc_lt _ _ _ hbl];exact hcc.out j h) hbk.out
     have hbk4:Hid (v'.ownBlock≠some b):=by
      show _≠_
      rcases hblk with h | h
      ·rw [h];exact hbk.out
      ·rw [h];simp;omega
     have ho4:Hid (w2.ownsRow base 5 1 v' ((xs ++ bytesTo L k) ++ (dn ++ [((q % 128:Nat)+128:Int)])).length (((xs ++ bytesTo L k) ++ (dn ++ [((q % 128:Nat)+128:Int)])).map (Value.int .u8))):=by
      show World.ownsRow _ _ _ _ _ _ _
      have e3:(((q % 128:Nat):Int)+128)=(q:Int) % 128+128:=by omega
      rw [← List.append_assoc,List.length_append,List.map_append,e3]
      exact hown'
     have hdn4:Hid ((dn ++ [((q % 128:Nat)+128:Int)]) ++ numB j' (q / 128)=numB 5 m):=by
      show _=_
      rw [← hdn.out,HNB.out];simp
     clear hown' hgrow hnil hblk HO ho hbk hcc hbe hdn
     go_wp2
     go_roundw
     case rel=>exact ⟨j',q / 128,_,by omega,hQ,by omega,by simp,hdn4,ho4,hbk4,hcc4,hb4⟩
     case measure=>simp [intOf];omega
    ·have h1:decide ((128:Int)≤(q:Int))=false:=decide_eq_false (by omega)
     have h2:(q:Int)<128:=by omega
     have HNB:Hid (numB j q = [(q:Int)]):=by
      show _=_
      cases j with
      | zero=>simp only [numB]
      | succ j=>simp only [numB];rw [if_pos (by omega)]
     clear hbig
     have hbl:b<wr.heap.size:=lt_of_cell (hcc.out k hkL)
     have HLA:Hid (((xs ++ bytesTo L k) ++ dn).length≤11000):=by
      show _≤_
      have l1:=bytesTo_len L k (by omega)
      have l2:=congrArg List.length hdn.out
      have l3:=numB_len 5 m
      have l4:=HN.out
      simp at l2 ⊢
      omega
     have hbs:base≤wr.heap.size:=by have:=hbe.size;omega
     have hownA:=owns_below ho.out ((Below.refl wr.heap.size wr).alloc (Nat.le_refl _) (.cells #[.int .u8 (q:Int)] 5))
     have HO:Hid (World.ownsRow _ _ _ _ _ _ _):=hownA
     clear hownA
     go_wp2_with (at_builtin;refine wpList_append_own_at _ rfl _ _ 31 rfl base 5 i1 (.int .u8 0) 1 1 Tryz.underlying31 hj hy0 hy1 hy2 rfl (by decide) u0 _ _ rfl HO.out ⟨wr.heap.size,0,none⟩ 1 1 [.int .u8 (q:Int)] rfl rfl (cell_one_new _ _ _) (fun u hu=>by simp at hu;subst hu;rfl) (by have:=HLA.out;unfold maxLen;omega) (by have:=HLA.out;omega) (by simp;omega) ?_;intro v' w2 hown' hgrow hnil hblk)
     have hb4:Below base w w2:=(hbe.alloc hbs _).grown hgrow (by simp;omega) (fun z hz=>(HO.out.lt z hz).1)
     have hcc4:Hid (∀ j (h:j<L.length),w2.cell? ⟨b,j,none⟩=some (.int .i64 L[j])):=fun j h=>grown_cell hgrow (by rw [World.cell?_alloc_lt _ _ _ hbl];exact hcc.out j h) hbk.out
     have hbk4:Hid (v'.ownBlock≠some b):=by
      show _≠_
      rcases hblk with h | h
      ·rw [h];exact hbk.out
      ·rw [h];simp;omega
     have ho4:Hid (w2.ownsRow base 5 1 v' (xs ++ bytesTo L (k+1)).length ((xs ++ bytesTo L (k+1)).map (Value.int .u8))):=by
      show World.ownsRow _ _ _ _ _ _ _
      have e4:xs ++ bytesTo L (k+1)=((xs ++ bytesTo L k) ++ dn) ++ [(q:Int)]:=by
       rw [bytesTo_succ L k hkL,HM.out,← hdn.out,HNB.out];simp
      rw [e4,List.length_append,List.map_append]
      exact hown'
     clear hown' hgrow hnil hblk HO ho hbk hcc hbe hdn
     go_wp2
     go_roundw
     case rel=>exact ⟨k+1,by omega,by go_num,ho4,hbk4,hcc4,hb4⟩
     case measure=>simp [intOf];omega
  ·have hkn:k=n:=by omega
   subst hkn
   go_wp2
   go_ret
   exact ⟨_,rfl,ho.out,hbe,hbe.size⟩
def bytesOf (L:List Int):List Int:=L.flatMap fun x=>numB 5 x.toNat
theorem bytesTo_all (L:List Int):bytesTo L L.length=bytesOf L:=by simp [bytesTo,bytesOf]
theorem bytesOf_append (A B:List Int):bytesOf (A ++ B)=bytesOf A ++ bytesOf B:=by simp [bytesOf]
theorem bytesOf_len (L:List Int):(bytesOf L).length≤6*L.length:=by rw [← bytesTo_all];exact bytesTo_len L _ (Nat.le_refl _)
theorem write_new (base:Nat) (v0:Value) (xs L:List Int) (cur:Array Value) (cap:Nat) (u:World) (H:Nat) (hH:u.heap.size=H) (hcur:cur.toList=L.map (Value.int .i64)) (hown:u.ownsRow base 5 1 v0 xs.length (xs.map (Value.int .u8))) (hbase:base≤u.heap.size)
  (hL:∀ x∈L,0≤x∧x≤1099511627776) (hlen:xs.length≤10000) (hLl:L.length≤100) :
  Calls Tryz.prog 71 #[v0,.slice (some ⟨H,0,none⟩) L.length cap] (u.alloc (.cells cur 3)) fun ev w'=>∃ v',ev=.returned v'∧w'.ownsRow base 5 1 v' (xs ++ bytesOf L).length ((xs ++ bytesOf L).map (Value.int .u8))∧Below base u w'∧u.heap.size<w'.heap.size:=by
 subst hH
 refine (write_any base v0 xs u.heap.size cap L (u.alloc (.cells cur 3)) (owns_below hown ((Below.refl _ _).alloc (Nat.le_refl _) _)) (fun j h=>?_) hL (fun e=>?_) (by simp;omega) hlen hLl).mono ?_
 ·have:=row_cells u cur 3 j (.int .i64 L[j]) (by rw [hcur];simp [h])
  simpa only [add_plain,Nat.zero_add] using this
 ·have:=(hown.lt _ e).2
  omega
 ·rintro ev w' ⟨v',h1,h2,h3,h4⟩
  rw [bytesTo_all] at h2
  simp at h4
  exact ⟨v',h1,h2,((Below.refl _ _).alloc hbase _).trans h3,by omega⟩
end
section
structure ProgNode (w:World) (P:Nat) (id:Int) (n:Nat) (m:Int) (g b:Int) (fz:Bool):Prop where
 c0:w.cell? ⟨P,0,none⟩=some (.int .i64 id)
 c1:w.cell? ⟨P,1,none⟩=some (.int .i64 n)
 c2:w.cell? ⟨P,2,none⟩=some (.int .i64 m)
 c3:w.cell? ⟨P,3,none⟩=some (.bool fz)
 c4:w.cell? ⟨P,4,none⟩=some (.int .i64 g)
 c5:w.cell? ⟨P,5,none⟩=some (.int .i64 b)
 z:∀ i,w.frozen? ⟨P,i,none⟩=false
 lp:P<w.heap.size
theorem ProgNode.keep {w:World} {P:Nat} {id:Int} {n:Nat} {m g b:Int} {fz:Bool} {w':World} (h:ProgNode w P id n m g b fz) {P' Q':Nat} (k:Turns P' Q' w w') (h1:P≠P') (h2:P≠Q'):ProgNode w' P id n m g b fz :=
 ⟨(k.cell (p:=⟨P,0,none⟩) h.lp h1 h2).trans h.c0,(k.cell (p:=⟨P,1,none⟩) h.lp h1 h2).trans h.c1,(k.cell (p:=⟨P,2,none⟩) h.lp h1 h2).trans h.c2,(k.cell (p:=⟨P,3,none⟩) h.lp h1 h2).trans h.c3,(k.cell (p:=⟨P,4,none⟩) h.lp h1 h2).trans h.c4,(k.cell (p:=⟨P,5,none⟩) h.lp h1 h2).trans h.c5,fun i=>(k.frozen (p:=⟨P,i,none⟩) h.lp h1 h2).trans (h.z i),Nat.lt_of_lt_of_le h.lp k.size⟩
theorem ProgNode.drawn {w:World} {P:Nat} {id:Int} {n:Nat} {m g b:Int} {fz:Bool} (h:ProgNode w P id n m g b fz) (q:Nat):ProgNode (w.drewN q) P id n m g b fz:=⟨h.c0,h.c1,h.c2,h.c3,h.c4,h.c5,h.z,h.lp⟩
theorem ProgNode.members {w:World} {P:Nat} {id:Int} {n:Nat} {m g b:Int} {fz:Bool} (h:ProgNode w P id n m g b fz) (m':Int):ProgNode (w.setCell ⟨P,2,none⟩ (.int .i64 m')) P id n m' g b fz :=
 ⟨(cell_other (.inr (by decide))).trans h.c0,(cell_other (.inr (by decide))).trans h.c1,cell_set h.c2,(cell_other (.inr (by decide))).trans h.c3,(cell_other (.inr (by decide))).trans h.c4,(cell_other (.inr (by decide))).trans h.c5,fun i=>soft_set.trans (h.z i),by simpa using h.lp⟩
theorem ProgNode.freeze {w:World} {P:Nat} {id:Int} {n:Nat} {m g b:Int} {fz:Bool} (h:ProgNode w P id n m g b fz) (f':Bool):ProgNode (w.setCell ⟨P,3,none⟩ (.bool f')) P id n m g b f' :=
 ⟨(cell_other (.inr (by decide))).trans h.c0,(cell_other (.inr (by decide))).trans h.c1,(cell_other (.inr (by decide))).trans h.c2,cell_set h.c3,(cell_other (.inr (by decide))).trans h.c4,(cell_other (.inr (by decide))).trans h.c5,fun i=>soft_set.trans (h.z i),by simpa using h.lp⟩
theorem ProgNode.good {w:World} {P:Nat} {id:Int} {n:Nat} {m g b:Int} {fz:Bool} (h:ProgNode w P id n m g b fz) (g':Int):ProgNode (w.setCell ⟨P,4,none⟩ (.int .i64 g')) P id n m g' b fz :=
 ⟨(cell_other (.inr (by decide))).trans h.c0,(cell_other (.inr (by decide))).trans h.c1,(cell_other (.inr (by decide))).trans h.c2,(cell_other (.inr (by decide))).trans h.c3,cell_set h.c4,(cell_other (.inr (by decide))).trans h.c5,fun i=>soft_set.trans (h.z i),by simpa using h.lp⟩
theorem ProgNode.bad {w:World} {P:Nat} {id:Int} {n:Nat} {m g b:Int} {fz:Bool} (h:ProgNode w P id n m g b fz) (b':Int):ProgNode (w.setCell ⟨P,5,none⟩ (.int .i64 b')) P id n m g b' fz :=
 ⟨(cell_other (.inr (by decide))).trans h.c0,(cell_other (.inr (by decide))).trans h.c1,(cell_other (.inr (by decide))).trans h.c2,(cell_other (.inr (by decide))).trans h.c3,(cell_other (.inr (by decide))).trans h.c4,cell_set h.c5,fun i=>soft_set.trans (h.z i),by simpa using h.lp⟩
theorem pAnew_any {w:World} {P:Nat} {id:Int} {n:Nat} {m g b:Int} {fz:Bool} (h:ProgNode w P id n m g b fz) :
  Calls Tryz.prog 151 #[.pointer (some ⟨P,0,none⟩)] w fun e w'=>e=.returned (.tuple #[])∧ProgNode w' P id n m 1 0 fz∧Turns P P w w':=by
 have HH:Hid (ProgNode w P id n m g b fz):=h
 obtain ⟨c0,c1,c2,c3,c4,c5,z,lp⟩:=h
 have z4:=z 4
 have z5:=z 5
 clear z
 go_enter Tryz.func151,Tryz.ntmps151
 go_wp2
 exact bodyPost_end (v:=.tuple #[]) (by simp [results,Tryz.results151,go_sem]) rfl ⟨rfl,(HH.out.good 1).bad 0,((Turns.refl _ _ _).set (p:=⟨P,4,none⟩) (.inl rfl) _).set (p:=⟨P,5,none⟩) (.inl rfl) _⟩
theorem pNew_good (id:Int) (n:Nat) (w:World) (h1:1≤n) (h2:n≤16) (h3:0≤id) (h4:id<n) :
  Calls Tryz.prog 114 #[.int .i64 id,.int .i64 n] w fun e w'=>e=.returned (.tuple #[.pointer (some ⟨w.heap.size,0,none⟩),.nilIface])∧ProgNode w' w.heap.size id n (2 ^ n - 1) 1 0 false∧Below w.heap.size w w':=by
 have p0:=pow_pos n
 have p1:(2:Int) ^ n≤2 ^ 16:=pow_le h2
 have p2:(2:Int) ^ 16=65536:=by decide
 have k1:decide ((n:Int)<1)=false:=decide_eq_false (by omega)
 have k2:decide (16<(n:Int))=false:=decide_eq_false (by omega)
 have HV:Hid (ProgNode (w.alloc (.cells #[.int .i64 id,.int .i64 n,.int .i64 (2 ^ n - 1),.bool false,.int .i64 0,.int .i64 0] 203)) w.heap.size id n (2 ^ n - 1) 0 0 false):=by
  have c:∀ (i:Nat) (v:Value),(#[.int .i64 id,.int .i64 n,.int .i64 (2 ^ n - 1),.bool false,.int .i64 0,.int .i64 0]:Array Value)[i]? = some v→(w.alloc (.cells #[.int .i64 id,.int .i64 n,.int .i64 (2 ^ n - 1),.bool false,.int .i64 0,.int .i64 0] 203)).cell? ⟨w.heap.size,i,none⟩=some v:=fun i v hi=>by
   simp
   simpa using hi
  exact ⟨c 0 _ rfl,c 1 _ rfl,c 2 _ rfl,c 3 _ rfl,c 4 _ rfl,c 5 _ rfl,fun i=>by simp,by simp⟩
 have HN:=pAnew_any HV.out
 have HB:Hid (Below w.heap.size w (w.alloc (.cells #[.int .i64 id,.int .i64 n,.int .i64 (2 ^ n - 1),.bool false,.int .i64 0,.int .i64 0] 203))):=(Below.refl _ _).alloc (Nat.le_refl _) _
 go_enter Tryz.func114,Tryz.ntmps114
 go_wp2_with (first | (go_at_call 151;apply Hid.out) | go_in)
 unfold Hid
 refine HN.mono ?_
 rintro e w1 ⟨rfl,hN1,hT1⟩
 have hB1:Below w.heap.size w w1:=HB.out.trans (hT1.below (by simp) (Nat.le_refl _) (Nat.le_refl _))
 go_wp2
 go_ret2
 exact ⟨rfl,hN1,hB1⟩
end
section
def leastS (tq:Nat→Int) (skew:Int) (k:Nat):Int:=if k=0 then 0 else tq (k - 1)+skew+1
theorem slotErr_span (nd fr tq:Nat→Int) (nodes skew round:Int) (k:Nat) :
  slotErr nd fr tq nodes skew round k=if spanErr (fr k) (tq k) (leastS tq skew k) (round - skew - 1)≠0 then spanErr (fr k) (tq k) (leastS tq skew k) (round - skew - 1) else if nd k<0∨nodes - 1<nd k then 7 else 0:=by
 have e:((k=0∧fr k<0)∨(0<k∧fr k≤tq (k - 1)+skew))↔fr k<leastS tq skew k:=by
  unfold leastS
  by_cases h:k=0
  ·rw [if_pos h]
   constructor
   ·rintro (⟨_,g⟩ | ⟨g,_⟩)
    ·exact g
    ·omega
   ·intro g;exact .inl ⟨h,g⟩
  ·rw [if_neg h]
   constructor
   ·rintro (⟨g,_⟩ | ⟨_,g⟩)
    ·exact absurd g h
    ·omega
   ·intro g;exact .inr ⟨by omega,by omega⟩
 unfold slotErr spanErr
 by_cases h1:tq k≤fr k
 ·simp [h1]
 ·rw [if_neg h1]
  by_cases h2:fr k<leastS tq skew k
  ·simp [e,h1,h2]
  ·simp only [e]
   rw [if_neg h2]
   by_cases h3:round - skew - 1<tq k
   ·simp [h1,h2,h3]
   ·simp [h1,h2,h3]
theorem span_zero {fr tq least most:Int} (h:spanErr fr tq least most=0):fr<tq∧least≤fr∧tq≤most:=by
 unfold spanErr at h
 by_cases h1:tq≤fr
 ·simp [h1] at h
 ·rw [if_neg h1] at h
  by_cases h2:fr<least
  ·simp [h2] at h
  ·rw [if_neg h2] at h
   by_cases h3:most<tq
   ·simp [h3] at h
   ·omega
theorem leastS_nonneg {nd fr tq:Nat→Int} {nodes skew round:Int} (hsk:0≤skew) {k:Nat} (h:∀ j,j<k→slotErr nd fr tq nodes skew round j=0):0≤leastS tq skew k∧leastS tq skew k≤max 0 round:=by
 unfold leastS
 by_cases h0:k=0
 ·rw [if_pos h0];omega
 ·rw [if_neg h0]
  have:=slots_up hsk h (k - 1) (by omega)
  omega
theorem slots_any (nodes faulty skew jitter drift round frame:Int) (sa la wa:Option Addr) (ns sc nl lc nw wc:Nat) (w:World)
  (a1:1≤nodes) (a2:nodes≤16) (b1:0≤skew) (b2:skew≤137438953472) (c1:1≤round) (c2:round≤137438953472) (d1:ns≤32)
  (nd fr tq:Nat→Int) (hs:Rows3 w sa ns nd fr tq) (e i:Int) (hF:FirstBad (slotErr nd fr tq nodes skew round) ns e i) :
  Calls Tryz.prog 107 #[.agg #[.int .i64 nodes,.int .i64 faulty,.int .i64 skew,.int .i64 jitter,.int .i64 drift,.int .i64 round,.slice sa ns sc,.slice la nl lc,.int .i64 frame,.slice wa nw wc]] w fun ev w'=>∃ E,ev=.returned E∧AtIs w' E e i∧Below w.heap.size w w':=by
 have HF:Hid (FirstBad (slotErr nd fr tq nodes skew round) ns e i):=hF
 clear hF
 obtain ⟨hc,hV⟩:=box10 nodes faulty skew jitter drift round frame sa la wa ns sc nl lc nw wc w 48
 replace hs:=hs.below hV
 go_enter Tryz.func107,Tryz.ntmps107
 go_wp2_with fail
 generalize w.alloc (.cells #[.int .i64 nodes,.int .i64 faulty,.int .i64 skew,.int .i64 jitter,.int .i64 drift,.int .i64 round,.slice sa ns sc,.slice la nl lc,.int .i64 frame,.slice wa nw wc] 48)=V at hc hV hs ⊢
 refine (between_any _ _ _).mono ?_
 rintro ev V1 ⟨fv,rfl,hB,hu⟩
 replace hc:=hc.below hu
 replace hs:=hs.below hu
 have hV1:Below w.heap.size w V1:=hV.trans (hu.mono hV.size)
 obtain ⟨x0,x1,x2,x3,x4,x5,x6,x7,x8,x9⟩:=hc
 have hwz:w.heap.size<V1.heap.size:=lt_of_cell x0
 go_wp2_with fail
 go_loopw [4,15] (fun lv t wr=>∃ k:Nat,k≤ns∧t=.int .i64 k∧lv=.int .i64 (leastS tq skew k)∧Hid (∀ j,j<k→slotErr nd fr tq nodes skew round j=0)∧Below V1.heap.size V1 wr) (fun _ t _=>ns - (intOf t).toNat)
 case atStart=>exact ⟨0,Nat.zero_le _,rfl,rfl,fun j hj=>absurd hj (Nat.not_lt_zero _),Below.refl _ _⟩
 case round =>
  obtain ⟨k,hk,rfl,rfl,h0,hbe⟩:=hrel
  have y2:=keep_cell x2 hbe
  have y5:=keep_cell x5 hbe
  clear x0 x1 x2 x3 x4 x5 x6 x7 x8 x9
  by_cases hlt:k<ns
  ·obtain ⟨b,off,rfl,hb,hcc⟩:=hs (by omega)
   obtain ⟨r0,r1,r2⟩:=hcc k hlt
   replace r0:=keep_cell r0 hbe
   replace r1:=keep_cell r1 hbe
   replace r2:=keep_cell r2 hbe
   clear hcc hs
   obtain ⟨se,hse⟩:∃ se,spanErr (fr k) (tq k) (leastS tq skew k) (round - skew - 1)=se:=⟨_,rfl⟩
   have HS:Hid (∀ u:World,Calls Tryz.prog 145 #[.agg #[.int .i64 (fr k),.int .i64 (tq k)],.int .i64 (leastS tq skew k),.int .i64 (round - skew - 1)] u fun ev w'=>ev=.returned (.int .i64 se)∧Below u.heap.size u w'):=fun u=>by rw [← hse];exact checkSpan_any _ _ _ _ _
   have HSE:Hid (spanErr (fr k) (tq k) (leastS tq skew k) (round - skew - 1)=se):=hse
   clear hse
   have hwr:w.heap.size<wr.heap.size:=lt_of_cell y2
   have hbr:b<wr.heap.size:=lt_of_cell r0
   go_wp2_with fail
   refine (HS.out _).mono ?_
   rintro ev w2 ⟨rfl,hb2⟩
   have hbt:Below V1.heap.size V1 w2:=stepA hbe hb2
   have z2:=keep_cell (show (wr.alloc (.cells #[.int .i64 (nd k),.int .i64 (fr k),.int .i64 (tq k)] 80)).cell? ⟨w.heap.size,2,none⟩=_ from by rw [World.cell?_alloc_lt _ _ _ hwr];exact y2) hb2
   have s0:=keep_cell (show (wr.alloc (.cells #[.int .i64 (nd k),.int .i64 (fr k),.int .i64 (tq k)] 80)).cell? ⟨wr.heap.size,0,none⟩=some (.int .i64 (nd k)) from by simp) hb2
   have s2:=keep_cell (show (wr.alloc (.cells #[.int .i64 (nd k),.int .i64 (fr k),.int .i64 (tq k)] 80)).cell? ⟨wr.heap.size,2,none⟩=some (.int .i64 (tq k)) from by simp) hb2
   clear y2 y5 r0 r1 r2 HS
   by_cases hz:se=0
   rotate_left
   ·have hn:(se == 0)=false:=by simpa using hz
    have hn2:(se != 0)=true:=by simpa using hz
    have HK:Hid (slotErr nd fr tq nodes skew round k=se):=by
     show _=_
     rw [slotErr_span,HSE.out,if_pos hz]
    have HZ:Hid (se≠0):=hz
    clear hz
    go_wp2_with fail
    refine (at_some se k HZ.out _).mono ?_
    rintro ev w3 ⟨b3,rfl,q0,q1,hb3⟩
    go_wp2
    go_ret
    obtain ⟨rfl,rfl⟩:=HF.out.is hlt h0.out HK.out HZ.out
    exact ⟨_,rfl,.inr ⟨b3,rfl,HZ.out,q0,q1⟩,hV1.trans ((stepB hbt hb3).mono hV1.size)⟩
   ·subst hz
    obtain ⟨g1,g2,g3⟩:=span_zero HSE.out
    have g4:=(leastS_nonneg b1 h0.out).1
    have hB2:Btw w2 fv 0 (nodes - 1):=hB.below hbt
    go_wp2_with fail
    by_cases hn:0≤nd k∧nd k≤nodes - 1
    rotate_left
    ·have hd:decide (0≤nd k∧nd k≤nodes - 1)=false:=decide_eq_false hn
     have HK:Hid (slotErr nd fr tq nodes skew round k=7):=by
      show _=_
      rw [slotErr_span,HSE.out,if_neg (by simp),if_pos (by omega)]
     clear hn
     refine (all_1b false fv _ _ (nd k) w2.heap.size _ _ (hB2.alloc _) (by simp) hd).mono ?_
     rintro ev w3 ⟨rfl,hb3⟩
     have hbu:=stepA hbt hb3
     go_wp2_with fail
     refine (at_some 7 k (by decide) _).mono ?_
     rintro ev w4 ⟨b4,rfl,q0,q1,hb4⟩
     go_wp2
     go_ret
     obtain ⟨rfl,rfl⟩:=HF.out.is hlt h0.out HK.out (by decide)
     exact ⟨_,rfl,.inr ⟨b4,rfl,by decide,q0,q1⟩,hV1.trans ((stepB hbu hb4).mono hV1.size)⟩
    ·have hd:decide (0≤nd k∧nd k≤nodes - 1)=true:=decide_eq_true hn
     have HK:Hid (slotErr nd fr tq nodes skew round k=0):=by
      show _=_
      rw [slotErr_span,HSE.out,if_neg (by simp),if_neg (by omega)]
     clear hn
     refine (all_1b true fv _ _ (nd k) w2.heap.size _ _ (hB2.alloc _) (by simp) hd).mono ?_
     rintro ev w3 ⟨rfl,hb3⟩
     have hbu:=stepA hbt hb3
     have z2':=keep_cell (show (w2.alloc (.cells #[.int .i64 (nd k)] 3)).cell? ⟨w.heap.size,2,none⟩=_ from by rw [World.cell?_alloc_lt _ _ _ (lt_of_cell z2)];exact z2) hb3
     have s2':=keep_cell (show (w2.alloc (.cells #[.int .i64 (nd k)] 3)).cell? ⟨wr.heap.size,2,none⟩=_ from by rw [World.cell?_alloc_lt _ _ _ (lt_of_cell s2)];exact s2) hb3
     have HL:Hid (leastS tq skew (k+1)=tq k+skew+1):=by
      show _=_
      unfold leastS;rw [if_neg (by omega)];simp
     go_wp2
     go_roundw
     case rel=>exact ⟨k+1,by omega,by go_num,by rw [HL.out],next_zero h0.out HK.out,hbu⟩
     case measure=>simp [intOf];omega
  ·go_wp2
   go_ret
   obtain ⟨rfl,rfl⟩:=HF.out.at_end (fun j hj=>h0.out j (by omega))
   exact ⟨_,rfl,.inl ⟨rfl,rfl⟩,hV1.trans (hbe.mono hV1.size)⟩
end
section
theorem real_arg (f s n d l:Int) (w:World) (h:rightB f s n d=false) :
  Calls Tryz.prog 64 #[.agg #[.int .i64 f,.int .i64 s,.int .i64 n,.int .i64 d],.int .i64 l] w fun e w'=>e=.returned (.tuple #[.int .i64 0,.iface 25 (.int .i64 1)])∧Below w.heap.size w w':=by
 have HR:Hid (rightB f s n d=false):=h
 clear h
 have hmf:=Tryz.mf
 go_enter Tryz.func64,Tryz.ntmps64
 go_wp2_with (go_at_call 96;refine (right_no f s n d _ HR.out).mono ?_;rintro e w1 ⟨rfl,hb⟩)
 go_ret2
 exact ⟨rfl,below_box hb⟩
theorem real_low (f s n d l:Int) (w:World) (h:rightB f s n d=true) (hl:l < -1099511627776) :
  Calls Tryz.prog 64 #[.agg #[.int .i64 f,.int .i64 s,.int .i64 n,.int .i64 d],.int .i64 l] w fun e w'=>e=.returned (.tuple #[.int .i64 0,.iface 25 (.int .i64 2)])∧Below w.heap.size w w':=by
 obtain ⟨h1,h2,h3,h4,h5,h6,h7,h8,h9,h10⟩:=right_of h
 have HR:Hid (rightB f s n d=true):=h
 clear h
 have hn:decide (-1099511627776≤l)=false:=decide_eq_false (by omega)
 have hmf:=Tryz.mf
 go_enter Tryz.func64,Tryz.ntmps64
 go_wp2_with (first | (go_at_call 96;refine (right_yes f s n d _ HR.out).mono ?_;rintro e w1 ⟨rfl,hb⟩;obtain ⟨c0,c1,c2,c3,hz⟩:=box4T hb) | go_in)
 go_ret2
 refine ⟨rfl,?_⟩
 repeat (refine Below.alloc ?_ (by first | omega | (simp;omega) | simp) _)
 exact below_box hb
theorem real_tall (f s n d l:Int) (w:World) (h:rightB f s n d=true) (hl:1099511627776<l) :
  Calls Tryz.prog 64 #[.agg #[.int .i64 f,.int .i64 s,.int .i64 n,.int .i64 d],.int .i64 l] w fun e w'=>e=.returned (.tuple #[.int .i64 0,.iface 25 (.int .i64 2)])∧Below w.heap.size w w':=by
 obtain ⟨h1,h2,h3,h4,h5,h6,h7,h8,h9,h10⟩:=right_of h
 have HR:Hid (rightB f s n d=true):=h
 clear h
 have hn:decide (l≤1099511627776)=false:=decide_eq_false (by omega)
 have hn2:-1099511627776≤l:=by omega
 have hmf:=Tryz.mf
 go_enter Tryz.func64,Tryz.ntmps64
 go_wp2_with (first | (go_at_call 96;refine (right_yes f s n d _ HR.out).mono ?_;rintro e w1 ⟨rfl,hb⟩;obtain ⟨c0,c1,c2,c3,hz⟩:=box4T hb) | go_in)
 go_ret2
 refine ⟨rfl,?_⟩
 repeat (refine Below.alloc ?_ (by first | omega | (simp;omega) | simp) _)
 exact below_box hb
theorem real_first (f s n d l:Int) (w:World) (h:rightB f s n d=true) (hl:-1099511627776≤l) (hl2:l≤s) :
  Calls Tryz.prog 64 #[.agg #[.int .i64 f,.int .i64 s,.int .i64 n,.int .i64 d],.int .i64 l] w fun e w'=>e=.returned (.tuple #[.int .i64 f,.nilIface])∧Below w.heap.size w w':=by
 obtain ⟨h1,h2,h3,h4,h5,h6,h7,h8,h9,h10⟩:=right_of h
 have HR:Hid (rightB f s n d=true):=h
 clear h
 have hn:l≤1099511627776:=by omega
 have hmf:=Tryz.mf
 go_enter Tryz.func64,Tryz.ntmps64
 go_wp2_with (first | (go_at_call 96;refine (right_yes f s n d _ HR.out).mono ?_;rintro e w1 ⟨rfl,hb⟩;obtain ⟨c0,c1,c2,c3,hz⟩:=box4T hb) | go_in)
 go_ret2
 refine ⟨rfl,?_⟩
 repeat (refine Below.alloc ?_ (by first | omega | (simp;omega) | simp) _)
 exact below_box hb
theorem real_ok (f s n d l:Int) (w:World) (h:rightB f s n d=true) (hl:l≤1099511627776) (hl2:s<l) (hv:f+((l - s)*d+n - 1) / n≤1099511627776) :
  Calls Tryz.prog 64 #[.agg #[.int .i64 f,.int .i64 s,.int .i64 n,.int .i64 d],.int .i64 l] w fun e w'=>e=.returned (.tuple #[.int .i64 (f+((l - s)*d+n - 1) / n),.nilIface])∧Below w.heap.size w w':=by
 obtain ⟨h1,h2,h3,h4,h5,h6,h7,h8,h9,h10⟩:=right_of h
 have HR:Hid (rightB f s n d=true):=h
 clear h
 have hn:l≤1099511627776:=hl
 have hn2:-1099511627776≤l:=by omega
 obtain ⟨p1,p2⟩:=prod_bounds (x:=l - s) (n:=d) (M:=2199023255552) (R:=1000000) (by omega) (by omega) h7 h8
 obtain ⟨q1,q2⟩:=up_bounds (x:=l - s) (n:=n) (d:=d) (M:=2199023255552) (by omega) (by omega) h5 h7 h10
 have hmf:=Tryz.mf
 go_enter Tryz.func64,Tryz.ntmps64
 go_wp2_with (first | (go_at_call 96;refine (right_yes f s n d _ HR.out).mono ?_;rintro e w1 ⟨rfl,hb⟩;obtain ⟨c0,c1,c2,c3,hz⟩:=box4T hb) | go_in)
 go_quiet (fail)
 go_wp2
 go_ret2
 refine ⟨rfl,below_drewN ?_ _⟩
 repeat (refine Below.alloc ?_ (by first | omega | (simp;omega) | simp) _)
 exact below_box hb
theorem real_late (f s n d l:Int) (w:World) (h:rightB f s n d=true) (hl:l≤1099511627776) (hl2:s<l) (hv:1099511627776<f+((l - s)*d+n - 1) / n) :
  Calls Tryz.prog 64 #[.agg #[.int .i64 f,.int .i64 s,.int .i64 n,.int .i64 d],.int .i64 l] w fun e w'=>e=.returned (.tuple #[.int .i64 0,.iface 25 (.int .i64 2)])∧Below w.heap.size w w':=by
 obtain ⟨h1,h2,h3,h4,h5,h6,h7,h8,h9,h10⟩:=right_of h
 have HR:Hid (rightB f s n d=true):=h
 clear h
 have hn:l≤1099511627776:=hl
 have hn2:-1099511627776≤l:=by omega
 obtain ⟨p1,p2⟩:=prod_bounds (x:=l - s) (n:=d) (M:=2199023255552) (R:=1000000) (by omega) (by omega) h7 h8
 obtain ⟨q1,q2⟩:=up_bounds (x:=l - s) (n:=n) (d:=d) (M:=2199023255552) (by omega) (by omega) h5 h7 h10
 have hmf:=Tryz.mf
 go_enter Tryz.func64,Tryz.ntmps64
 go_wp2_with (first | (go_at_call 96;refine (right_yes f s n d _ HR.out).mono ?_;rintro e w1 ⟨rfl,hb⟩;obtain ⟨c0,c1,c2,c3,hz⟩:=box4T hb) | go_in)
 go_quiet (fail)
 go_wp2
 go_ret2
 refine ⟨rfl,below_drewN ?_ _⟩
 repeat (refine Below.alloc ?_ (by first | omega | (simp;omega) | simp) _)
 exact below_box hb
end
section
theorem winErr_to {wp wf wt:Nat→Int} {frame:Int} {j:Nat} (h:winErr wp wf wt frame j=0):wf j<wt j∧wt j≤frame∧(j=0→0≤wf j)∧(0<j→wt (j - 1)≤wf j)∧0≤wp j∧wp j≤5:=by
 unfold winErr at h
 by_cases h1:wt j≤wf j
 ·simp [h1] at h
 ·rw [if_neg h1] at h
  by_cases h2:(j=0∧wf j<0)∨(0<j∧wf j<wt (j - 1))
  ·simp [h2] at h
  ·rw [if_neg h2] at h
   by_cases h3:frame<wt j
   ·simp [h3] at h
   ·rw [if_neg h3] at h
    by_cases h4:wp j<0∨5<wp j
    ·simp [h4] at h
    ·omega
theorem wins_up {wp wf wt:Nat→Int} {frame:Int} {k:Nat} (h:∀ j,j<k→winErr wp wf wt frame j=0):∀ j,j<k→0≤wf j∧wf j<wt j∧wt j≤frame:=by
 intro j
 induction j with
 | zero =>
  intro hj
  have g:=winErr_to (h 0 hj)
  exact ⟨g.2.2.1 rfl,g.1,g.2.1⟩
 | succ j ih =>
  intro hj
  have g:=winErr_to (h (j+1) hj)
  have g2:=ih (by omega)
  have g3:=g.2.2.2.1 (by omega)
  simp at g3
  exact ⟨by omega,g.1,g.2.1⟩
theorem linkErr_to {lf lt lb lq:Nat→Int} {hit:Nat→Bool} {nodes pw:Int} {j:Nat} (h:linkErr lf lt lb lq hit nodes pw j=0):(0≤lf j∧lf j≤nodes - 1)∧(1≤lt j∧lt j≤pw - 1)∧(1≤lb j∧lb j≤137438953472)∧1≤lq j∧lq j≤16:=by
 unfold linkErr at h
 by_cases h1:lf j<0∨nodes - 1<lf j
 ·simp [h1] at h
 ·rw [if_neg h1] at h
  by_cases h2:lt j<1∨pw - 1<lt j∨hit j=true
  ·simp [h2] at h
  ·rw [if_neg h2] at h
   by_cases h3:(lb j<1∨137438953472<lb j)∨lq j<1∨16<lq j
   ·simp [h3] at h
   ·omega
theorem headErr_zeroN {nodes faulty skew jitter drift round frame:Int} {ns nl nw:Nat} (h:headErr nodes faulty skew jitter drift round frame ns nl nw=0) :
  1≤nodes∧nodes≤16∧0≤faulty∧faulty≤5∧(0≤skew∧skew≤137438953472)∧(0≤jitter∧jitter≤137438953472)∧(0≤drift∧drift≤137438953472)∧(1≤round∧round≤137438953472)∧(1≤frame∧frame≤137438953472)∧ns≤32∧nl≤8∧nw≤32:=by
 unfold headErr at h
 by_cases h1:nodes<1∨16<nodes∨faulty<0∨nodes<faulty*3+1
 ·simp [h1] at h
 ·rw [if_neg h1] at h
  by_cases h2:skew<0∨137438953472<skew∨jitter<0∨137438953472<jitter∨drift<0∨137438953472<drift
  ·simp [h2] at h
  ·rw [if_neg h2] at h
   by_cases h3:round<1∨137438953472<round∨frame<1∨137438953472<frame
   ·simp [h3] at h
   ·rw [if_neg h3] at h
    by_cases h4:32<ns∨8<nl∨32<nw
    ·simp [h4] at h
    ·omega
theorem CheckIs.zero {nodes faulty skew jitter drift round frame:Int} {ns nl nw:Nat} {nd fr tq lf lt lb lq:Nat→Int} {hit:Nat→Bool} {pw:Int} {wp wf wt:Nat→Int} {I:Int} (h:CheckIs nodes faulty skew jitter drift round frame ns nl nw nd fr tq lf lt lb lq hit pw wp wf wt 0 I) :
  I = -1∧headErr nodes faulty skew jitter drift round frame ns nl nw=0∧(∀ j,j<ns→slotErr nd fr tq nodes skew round j=0)∧(∀ j,j<nl→linkErr lf lt lb lq hit nodes pw j=0)∧(∀ j,j<nw→winErr wp wf wt frame j=0):=by
 rcases h with ⟨h1,h2,_⟩ | ⟨h0,e1,i1,e2,i2,e3,i3,g1,g2,g3,g4,g5,g6,g7⟩
 ·exact absurd h2.symm h1
 ·have z1:e1=0:=by
   by_cases z:e1=0
   ·exact z
   ·exact absurd ((g4 z).1.symm) z
  have z2:e2=0:=by
   by_cases z:e2=0
   ·exact z
   ·exact absurd ((g5 z1 z).1.symm) z
  have z3:e3=0:=by
   by_cases z:e3=0
   ·exact z
   ·exact absurd ((g6 z1 z2 z).1.symm) z
  have all:∀ {f:Nat→Int} {n:Nat} {e i:Int},FirstBad f n e i→e=0→∀ j,j<n→f j=0:=by
   intro f n e i hf he
   rcases hf with ⟨ha,_⟩ | ⟨_,_,_,_,hne,_⟩
   ·exact ha
   ·exact absurd he hne
  exact ⟨(g7 z1 z2 z3).2,h0,all g1 z1,all g2 z2,all g3 z3⟩
theorem nums_ok {nodes faulty skew jitter drift round frame:Int} {ns nl nw:Nat} {nd fr tq lf lt lb lq:Nat→Int} {hit:Nat→Bool} {pw:Int} {wp wf wt:Nat→Int} {I:Int} (hp:(2:Int) ^ nodes.toNat=pw) (h:CheckIs nodes faulty skew jitter drift round frame ns nl nw nd fr tq lf lt lb lq hit pw wp wf wt 0 I) :
  (ns≤32∧nl≤8∧nw≤32)∧∀ x∈planNums nodes faulty skew jitter drift round frame ns nl nw nd fr tq lf lt lb lq wp wf wt,0≤x∧x≤1099511627776:=by
 obtain ⟨_,h0,h1,h2,h3⟩:=h.zero
 obtain ⟨a1,a2,a3,a4,⟨b1,b2⟩,⟨b3,b4⟩,⟨b5,b6⟩,⟨c1,c2⟩,⟨c3,c4⟩,d1,d2,d3⟩:=headErr_zeroN h0
 have hpw:pw≤65536:=by
  rw [← hp]
  have:nodes=1∨nodes=2∨nodes=3∨nodes=4∨nodes=5∨nodes=6∨nodes=7∨nodes=8∨nodes=9∨nodes=10∨nodes=11∨nodes=12∨nodes=13∨nodes=14∨nodes=15∨nodes=16:=by omega
  rcases this with rfl | rfl | rfl | rfl | rfl | rfl | rfl | rfl | rfl | rfl | rfl | rfl | rfl | rfl | rfl | rfl <;> decide
 refine ⟨⟨d1,d2,d3⟩,fun x hx=>?_⟩
 unfold planNums at hx
 simp only [List.mem_append] at hx
 rcases hx with (((hx | hx) | hx) | hx) | hx
 ·rcases hx with hx | hx
  ·simp at hx
   omega
  ·obtain ⟨j,hj,hx⟩:=List.mem_flatMap.1 hx
   have hj:=List.mem_range.1 hj
   have g1:=slots_up b1 h1 j hj
   have g2:=slotErr_to (h1 j hj)
   simp at hx
   rcases hx with rfl | rfl | rfl <;> omega
 ·simp at hx
  omega
 ·obtain ⟨j,hj,hx⟩:=List.mem_flatMap.1 hx
  have hj:=List.mem_range.1 hj
  have g2:=linkErr_to (h2 j hj)
  simp at hx
  rcases hx with rfl | rfl | rfl | rfl <;> omega
 ·simp at hx
  omega
 ·obtain ⟨j,hj,hx⟩:=List.mem_flatMap.1 hx
  have hj:=List.mem_range.1 hj
  have g1:=wins_up h3 j hj
  have g2:=winErr_to (h3 j hj)
  simp at hx
  rcases hx with rfl | rfl | rfl <;> omega
end
section
def cutV (x most:Int):Int:=max (-most) (min most x)
theorem cutV_in {x most:Int} (h:0≤most):-most≤cutV x most∧cutV x most≤most:=by
 unfold cutV
 omega
structure ReadS where
 who:Int
 of_:Int
 is_:Int
def readOne (n:Nat) (lies:Nat→Bool) (jitter:Int) (now:Nat→Int) (x:ReadS) (row:Nat→Nat→Int):Nat→Nat→Int:=fun i k =>
 if (0≤x.who∧x.who<n)∧(0≤x.of_∧x.of_<n)∧x.who≠x.of_∧(i:Int)=x.who∧(k:Int)=x.of_ then
  (if lies k=true then cutV x.is_ 549755813888 else now k - now i+cutV x.is_ jitter)
 else row i k
def readAll (n:Nat) (lies:Nat→Bool) (jitter:Int) (now:Nat→Int) (l:List ReadS):Nat→Nat→Int:=l.foldl (fun row x=>readOne n lies jitter now x row) (fun i k=>now k - now i)
theorem readAll_right {n:Nat} {lies:Nat→Bool} {jitter:Int} {now:Nat→Int} (hj:0≤jitter) (l:List ReadS):∀ i k,lies k=false→now k - now i - jitter≤readAll n lies jitter now l i k∧readAll n lies jitter now l i k≤now k - now i+jitter:=by
 have key:∀ (l:List ReadS) (row:Nat→Nat→Int),(∀ i k,lies k=false→now k - now i - jitter≤row i k∧row i k≤now k - now i+jitter)→∀ i k,lies k=false→now k - now i - jitter≤l.foldl (fun row x=>readOne n lies jitter now x row) row i k∧l.foldl (fun row x=>readOne n lies jitter now x row) row i k≤now k - now i+jitter:=by
  intro l
  induction l with
  | nil=>intro row h;exact h
  | cons x l ih =>
   intro row h
   refine ih _ fun i k hk=>?_
   have e:readOne n lies jitter now x row i k=(if (0≤x.who∧x.who<n)∧(0≤x.of_∧x.of_<n)∧x.who≠x.of_∧(i:Int)=x.who∧(k:Int)=x.of_ then (if lies k=true then cutV x.is_ 549755813888 else now k - now i+cutV x.is_ jitter) else row i k):=rfl
   show now k - now i - jitter≤readOne n lies jitter now x row i k∧readOne n lies jitter now x row i k≤now k - now i+jitter
   rw [e]
   split
   ·have hc:=cutV_in (x:=x.is_) hj
    rw [if_neg (by rw [hk];decide)]
    generalize cutV x.is_ jitter=cv at *
    exact ⟨by omega,by omega⟩
   ·exact h i k hk
 refine key l _ fun i k _=>?_
 show now k - now i - jitter≤now k - now i∧now k - now i≤now k - now i+jitter
 omega
def driftV (drifts:List Int) (drift:Int) (i:Nat):Int:=if i<drifts.length then cutV (drifts.getD i 0) drift else 0
theorem driftV_in {drifts:List Int} {drift:Int} (h:0≤drift) (i:Nat):-drift≤driftV drifts drift i∧driftV drifts drift i≤drift:=by
 unfold driftV
 split
 ·exact cutV_in h
 ·omega
def clocksTo (n f:Nat) (lies:Nat→Bool) (jitter drift:Int) (now:Nat→Int) (l:List ReadS) (drifts:List Int):Nat→Int:=fun i=>setOn n f now (readAll n lies jitter now l) i+driftV drifts drift i
def beyondB (n:Nat) (c:Nat→Int):Bool:=(List.range n).any fun i=>decide (c i < -274877906944∨274877906944<c i)
def Near1 (n:Nat) (lies:Nat→Bool) (skew:Int) (c:Nat→Int):Prop:=∀ i j,i<n→lies i=false→j<n→lies j=false→c i - c j≤skew
theorem Near1.round {n f:Nat} {lies:Nat→Bool} {skew jitter drift:Int} {now:Nat→Int} (h:Near1 n lies skew now) (l:List ReadS) (drifts:List Int) (hl:(List.range n).countP lies≤f) (h3:3*f+1≤n) (hj:0≤jitter) (hd:0≤drift) (hS:skew / 2+2*jitter+1+2*drift≤skew):Near1 n lies skew (clocksTo n f lies jitter drift now l drifts):=by
 intro i j hi oi hj' oj
 refine skew_round (ok:=fun k=>!lies k) (u:=jitter) (D:=drift) (row:=readAll n lies jitter now l) (count_ok lies n f hl) h3 hS (fun a b _ _ _ hb=>?_) (fun a b ha oa hb ob=>?_) (fun a _=>driftV_in hd a) i j hi ?_ hj' ?_
 ·exact readAll_right hj l a b (by simpa using hb)
 ·exact h a b ha (by simpa using oa) hb (by simpa using ob)
 ·simp [oi]
 ·simp [oj]
end
section
def OrdK (S:SendS) (nw:Int) (port:List ByteArray) (lo:Nat):Prop :=
 S.went≤S.all.length∧∃ ps:List Nat,ps.Pairwise (· < ·)∧(∀ x∈ps,lo≤x∧x<S.went)∧port=ps.map (fun x=>S.all.getD x ByteArray.empty)∧((nw = -1∧ps = []∧lo=0)∨∃ m,m<S.went∧nw=ordN m∧lo≤m+1∧∀ x∈ps,x≤m)
theorem OrdK.start (S:SendS) (h:S.went≤S.all.length):OrdK S (-1) [] 0:=⟨h,[],List.Pairwise.nil,fun x hx=>(by cases hx),rfl,.inl ⟨rfl,rfl,rfl⟩⟩
theorem OrdK.not {S S':SendS} {nw:Int} {port:List ByteArray} {lo:Nat} (h:OrdK S nw port lo) (ha:S'.all=S.all) (hw:S.went≤S'.went) (hl:S'.went≤S'.all.length):OrdK S' nw port lo:=by
 obtain ⟨_,ps,h1,h2,h3,h4⟩:=h
 refine ⟨hl,ps,h1,fun x hx=>⟨(h2 x hx).1,Nat.lt_of_lt_of_le (h2 x hx).2 hw⟩,by rw [ha];exact h3,?_⟩
 rcases h4 with h4 | ⟨m,g1,g2,g3,g4⟩
 ·exact .inl h4
 ·exact .inr ⟨m,Nat.lt_of_lt_of_le g1 hw,g2,g3,g4⟩
theorem OrdK.told {S S':SendS} {nw:Int} {port:List ByteArray} {lo:Nat} (h:OrdK S nw port lo) (ha:S'.all=S.all) (hw:S'.went=S.went+1) (hl:S'.went≤S'.all.length):OrdK S' (ordN S.went) (port ++ [S.all.getD S.went ByteArray.empty]) lo∧OrdK S' (ordN S.went) port lo:=by
 obtain ⟨_,ps,h1,h2,h3,h4⟩:=h
 have hlo:lo≤S.went:=by
  rcases h4 with ⟨_,_,h⟩ | ⟨m,g1,_,g3,_⟩ <;> omega
 refine ⟨⟨hl,ps ++ [S.went],?_,fun x hx=>?_,?_,.inr ⟨S.went,by omega,rfl,by omega,fun x hx=>?_⟩⟩,⟨hl,ps,h1,fun x hx=>⟨(h2 x hx).1,by have:=(h2 x hx).2;omega⟩,by rw [ha];exact h3,.inr ⟨S.went,by omega,rfl,by omega,fun x hx=>Nat.le_of_lt (h2 x hx).2⟩⟩⟩
 ·rw [List.pairwise_append]
  refine ⟨h1,List.pairwise_singleton _ _,fun x hx y hy=>?_⟩
  rw [List.mem_singleton.1 hy]
  exact (h2 x hx).2
 ·rcases List.mem_append.1 hx with q | q
  ·exact ⟨(h2 x q).1,by have:=(h2 x q).2;omega⟩
  ·rw [List.mem_singleton.1 q];exact ⟨hlo,by omega⟩
 ·rw [List.map_append,ha,h3];rfl
 ·rcases List.mem_append.1 hx with q | q
  ·exact Nat.le_of_lt (h2 x q).2
  ·rw [List.mem_singleton.1 q];exact Nat.le_refl _
theorem OrdK.put {S S':SendS} {nw:Int} {port:List ByteArray} {lo:Nat} {d:ByteArray} (h:OrdK S nw port lo) (ha:S'.all=S.all ++ [d]) (hw:S'.went=S.went):OrdK S' nw port lo:=by
 obtain ⟨h0,ps,h1,h2,h3,h4⟩:=h
 refine ⟨by rw [ha,hw];simp;omega,ps,h1,fun x hx=>by rw [hw];exact h2 x hx,?_,by rw [hw];exact h4⟩
 rw [h3,ha]
 apply List.map_congr_left
 intro x hx
 have:=(h2 x hx).2
 simp [List.getD,List.getElem?_append_left (show x<S.all.length by omega)]
theorem OrdK.receive {S:SendS} {nw:Int} {d:ByteArray} {port:List ByteArray} {lo:Nat} (h:OrdK S nw (d::port) lo):∃ x,lo≤x∧x<S.all.length∧d=S.all.getD x ByteArray.empty∧OrdK S nw port (x+1):=by
 obtain ⟨h0,ps,h1,h2,h3,h4⟩:=h
 cases ps with
 | nil=>cases h3
 | cons x ps =>
  rw [List.map_cons] at h3
  injection h3 with e1 e2
  have hx:=h2 x (List.mem_cons.2 (.inl rfl))
  have hp:=List.pairwise_cons.1 h1
  refine ⟨x,hx.1,by omega,e1,h0,ps,hp.2,fun y hy=>⟨hp.1 y hy,(h2 y (List.mem_cons.2 (.inr hy))).2⟩,e2,?_⟩
  rcases h4 with ⟨_,h,_⟩ | ⟨m,g1,g2,_,g4⟩
  ·cases h
  ·exact .inr ⟨m,g1,g2,by have:=g4 x (List.mem_cons.2 (.inl rfl));omega,fun y hy=>g4 y (List.mem_cons.2 (.inr hy))⟩
end
section
structure Alike1 (p:PlanS) (who:Nat) (s s':ClS):Prop where
 n:s.nodes=s'.nodes
 l:∀ k,p.lf k=who→s.links k=s'.links k
 w:∀ k,p.lf k=who→s.newest k=s'.newest k
 q:∀ k,p.lf k=who→s.ports k=s'.ports k
theorem Alike1.slot {p:PlanS} {who:Nat} {s s':ClS} (a:Alike1 p who s s') (h:HapS) (rounds:Int) (i:Nat):Alike1 p who (s.slot p h rounds i) (s'.slot p h rounds i):=by
 have eS:∀ j,s.sends h j=s'.sends h j:=fun j=>by unfold ClS.sends;rw [a.n]
 have eC:∀ j,s.comes h i (p.nd i) j=s'.comes h i (p.nd i) j:=fun j=>by unfold ClS.comes;rw [eS]
 have eT:s.tells p h (p.nd i)=s'.tells p h (p.nd i):=by unfold ClS.tells;rw [a.n]
 have eW:∀ j,s.what p h i (p.nd i) j=s'.what p h i (p.nd i) j:=fun j=>by unfold ClS.what;rw [eC,eT,a.n]
 have hN:(s.slot p h rounds i).nodes=(s'.slot p h rounds i).nodes:=by
  funext j
  show (if j=p.nd i then (s.nodes j).sent else (s.nodes j).hears j p.n (p.nd i) (s.what p h i (p.nd i) j))=(if j=p.nd i then (s'.nodes j).sent else (s'.nodes j).hears j p.n (p.nd i) (s'.what p h i (p.nd i) j))
  rw [eW,a.n]
 by_cases hw:p.nd i=who
 ·have eG:(s.goes p h rounds i).2=(s'.goes p h rounds i).2∧∀ k,p.lf k=who→(s.goes p h rounds i).1 k=(s'.goes p h rounds i).1 k:=by
   unfold ClS.goes
   rw [eS]
   split
   ·have:=linksTo_same (p:=p) (who:=p.nd i) (t:=rounds*p.round+p.fr i) (L:=s.links) (L':=s'.links) (fun j hj=>a.l j (hj.trans hw)) p.nl
    exact ⟨this.1,fun k hk=>this.2 k (hk.trans hw.symm)⟩
   ·exact ⟨rfl,a.l⟩
  have eK:∀ k j,p.lf k=who→s.takes p h i (s.goes p h rounds i).2 k j=s'.takes p h i (s'.goes p h rounds i).2 k j:=fun k j hk=>by
   rw [eG.1]
   unfold ClS.takes
   cases (s'.goes p h rounds i).2 with
   | none=>rfl
   | some m=>obtain ⟨x,y,z⟩:=m;simp only [eC,a.w k hk]
  refine ⟨hN,eG.2,fun k hk=>?_,fun k hk=>?_⟩
  ·funext j
   show (if _ then _ else _)=(if _ then _ else _)
   rw [eK k j hk,eG.1,a.w k hk]
  ·funext j
   show (if _ then _ else _)=(if _ then _ else _)
   rw [eK k j hk,eG.1,a.q k hk]
 ·have eO:∀ s:ClS,(∀ k q d,(s.goes p h rounds i).2=some (k,q,d)→p.lf k=p.nd i)∧∀ k,p.lf k=who→(s.goes p h rounds i).1 k=s.links k:=fun s=>by
   unfold ClS.goes
   split
   ·have:=linksTo_own (p:=p) (who:=p.nd i) (t:=rounds*p.round+p.fr i) (L:=s.links) p.nl
    exact ⟨fun k q d e=>(this.1 k q d e).2,fun k hk=>this.2 k (fun e=>hw (e.symm.trans hk))⟩
   ·exact ⟨fun k q d e=>(by cases e),fun k _=>rfl⟩
  have eK:∀ (s:ClS) k j,p.lf k=who→s.takes p h i (s.goes p h rounds i).2 k j=false:=fun s k j hk=>by
   unfold ClS.takes
   cases e:(s.goes p h rounds i).2 with
   | none=>rfl
   | some m =>
    obtain ⟨x,y,z⟩:=m
    have:x≠k:=fun q=>hw (((eO s).1 x y z e).symm.trans (q▸hk))
    show (decide (x=k) && _)=false
    rw [decide_eq_false this,Bool.false_and]
  refine ⟨hN,fun k hk=>?_,fun k hk=>?_,fun k hk=>?_⟩
  ·exact ((eO s).2 k hk).trans ((a.l k hk).trans ((eO s').2 k hk).symm)
  ·funext j
   show (if _ then _ else _)=(if _ then _ else _)
   rw [eK s k j hk,eK s' k j hk,a.w k hk]
   rfl
  ·funext j
   show (if _ then _ else _)=(if _ then _ else _)
   rw [eK s k j hk,eK s' k j hk,a.q k hk]
   simp
theorem Alike1.slots {p:PlanS} {who:Nat} {s s':ClS} (a:Alike1 p who s s') (h:HapS) (rounds:Int):∀ i,Alike1 p who (s.slots p h rounds i) (s'.slots p h rounds i)
 | 0=>a
 | i+1=>(a.slots h rounds i).slot h rounds i
end
section
theorem pHears_not {w:World} {P:Nat} {id:Int} {n:Nat} {m g b:Int} {fz:Bool} (h:ProgNode w P id n m g b fz) (frm what:Int) (hh:hearsB id n fz frm what=false) :
  Calls Tryz.prog 124 #[.pointer (some ⟨P,0,none⟩),.int .i64 frm,.int .i64 what] w fun e w'=>e=.returned (.tuple #[])∧w'=w:=by
 obtain ⟨c0,c1,c2,c3,c4,c5,z,lp⟩:=h
 clear z
 cases fz
 ·unfold hearsB at hh
  have hh:¬ (0≤frm∧frm<n∧frm≠id∧0≤what∧what≤2):=by simpa using hh
  by_cases k1:0≤frm
  ·by_cases k2:frm<(n:Int)
   ·by_cases k3:frm=id
    ·subst k3
     clear hh
     go_enter Tryz.func124,Tryz.ntmps124
     go_wp2
     exact bodyPost_ret (v:=.tuple #[]) (by simp [results,Tryz.results124,go_sem]) rfl ⟨rfl,rfl⟩
    ·have k3':(frm == id)=false:=by simpa using k3
     have k4:(what == 0)=false:=by simp;omega
     have k5:(what == 1)=false:=by simp;omega
     have k6:(what == 2)=false:=by simp;omega
     clear hh k3
     go_enter Tryz.func124,Tryz.ntmps124
     go_wp2
     exact bodyPost_end (v:=.tuple #[]) (by simp [results,Tryz.results124,go_sem]) rfl ⟨rfl,rfl⟩
   ·have k2':decide (frm<(n:Int))=false:=decide_eq_false k2
    clear hh k2
    go_enter Tryz.func124,Tryz.ntmps124
    go_wp2
    exact bodyPost_ret (v:=.tuple #[]) (by simp [results,Tryz.results124,go_sem]) rfl ⟨rfl,rfl⟩
  ·have k1':decide (0≤frm)=false:=decide_eq_false k1
   clear hh k1
   go_enter Tryz.func124,Tryz.ntmps124
   go_wp2
   exact bodyPost_ret (v:=.tuple #[]) (by simp [results,Tryz.results124,go_sem]) rfl ⟨rfl,rfl⟩
 ·clear hh
  go_enter Tryz.func124,Tryz.ntmps124
  go_wp2
  exact bodyPost_ret (v:=.tuple #[]) (by simp [results,Tryz.results124,go_sem]) rfl ⟨rfl,rfl⟩
theorem pHears_acts0 {w:World} {P:Nat} {id:Int} {n:Nat} {t:Nat→Bool} {g b:Int} {fz:Bool} (h:ProgNode w P id n (bitsV t n) g b fz) (k:Nat) (hn:n≤16) (hf:fz=false) (hk:k<n) (hid:(k:Int)≠id) :
  Calls Tryz.prog 124 #[.pointer (some ⟨P,0,none⟩),.int .i64 k,.int .i64 0] w fun e w'=>e=.returned (.tuple #[])∧ProgNode w' P id n (bitsV (fun j=>if j=k then false else t j) n) g b false∧Turns P P w w':=by
 subst hf
 have HH:Hid (ProgNode w P id n (bitsV t n) g b false):=h
 obtain ⟨c0,c1,c2,c3,c4,c5,z,lp⟩:=h
 have z2:=z 2
 have z4:=z 4
 have z5:=z 5
 clear z
 have k1:(k:Int)<(n:Int):=by omega
 have k3:((k:Int) == id)=false:=by simpa using hid
 have p0:=pow_pos k
 have p1:(2:Int) ^ k≤2 ^ 16:=pow_le (by omega)
 have p2:(2:Int) ^ 16=65536:=by decide
 have eB:bits BinOp.andNot .i64 (bitsV t n) (2 ^ k)=bitsV (fun j=>if j=k then false else t j) n:=clear_bit t hn hk
 obtain ⟨M,hM⟩:∃ M,bitsV (fun j=>if j=k then false else t j) n=M:=⟨_,rfl⟩
 obtain ⟨m,hm⟩:∃ m,bitsV t n=m:=⟨_,rfl⟩
 rw [hM] at eB ⊢
 rw [hm] at eB c2 HH
 clear hid hM hm
 go_enter Tryz.func124,Tryz.ntmps124
 go_wp2
 go_region_calls
 all_goals go_wp2
 all_goals exact bodyPost_end (v:=.tuple #[]) (by simp [results,Tryz.results124,go_sem]) rfl ⟨rfl,(HH.out.members M).drawn 1,((Turns.refl _ _ _).set (p:=⟨P,2,none⟩) (.inl rfl) _).trans (Turns.drawn 1)⟩
theorem pHears_acts1 {w:World} {P:Nat} {id:Int} {n:Nat} {t:Nat→Bool} {g b:Int} {fz:Bool} (h:ProgNode w P id n (bitsV t n) g b fz) (k:Nat) (hn:n≤16) (hf:fz=false) (hk:k<n) (hid:(k:Int)≠id) (hg0:0≤g) (hg:g≤4611686018427387904) :
  Calls Tryz.prog 124 #[.pointer (some ⟨P,0,none⟩),.int .i64 k,.int .i64 1] w fun e w'=>e=.returned (.tuple #[])∧ProgNode w' P id n (bitsV (fun j=>if j=k then true else t j) n) (g+1) b false∧Turns P P w w':=by
 subst hf
 have HH:Hid (ProgNode w P id n (bitsV t n) g b false):=h
 obtain ⟨c0,c1,c2,c3,c4,c5,z,lp⟩:=h
 have z2:=z 2
 have z4:=z 4
 have z5:=z 5
 clear z
 have k1:(k:Int)<(n:Int):=by omega
 have k3:((k:Int) == id)=false:=by simpa using hid
 have p0:=pow_pos k
 have p1:(2:Int) ^ k≤2 ^ 16:=pow_le (by omega)
 have p2:(2:Int) ^ 16=65536:=by decide
 have eB:bits BinOp.or .i64 (bitsV t n) (2 ^ k)=bitsV (fun j=>if j=k then true else t j) n:=or_bit t hn hk
 obtain ⟨M,hM⟩:∃ M,bitsV (fun j=>if j=k then true else t j) n=M:=⟨_,rfl⟩
 obtain ⟨m,hm⟩:∃ m,bitsV t n=m:=⟨_,rfl⟩
 rw [hM] at eB ⊢
 rw [hm] at eB c2 HH
 clear hid hM hm
 go_enter Tryz.func124,Tryz.ntmps124
 go_wp2
 go_region_calls
 all_goals go_wp2
 all_goals exact bodyPost_end (v:=.tuple #[]) (by simp [results,Tryz.results124,go_sem]) rfl ⟨rfl,((HH.out.good (g+1)).members M).drawn 1,(((Turns.refl _ _ _).set (p:=⟨P,4,none⟩) (.inl rfl) _).set (p:=⟨P,2,none⟩) (.inl rfl) _).trans (Turns.drawn 1)⟩
theorem pHears_acts2 {w:World} {P:Nat} {id:Int} {n:Nat} {t:Nat→Bool} {g b:Int} {fz:Bool} (h:ProgNode w P id n (bitsV t n) g b fz) (k:Nat) (hn:n≤16) (hf:fz=false) (hk:k<n) (hid:(k:Int)≠id) (hb0:0≤b) (hb:b≤4611686018427387904) :
  Calls Tryz.prog 124 #[.pointer (some ⟨P,0,none⟩),.int .i64 k,.int .i64 2] w fun e w'=>e=.returned (.tuple #[])∧ProgNode w' P id n (bitsV (fun j=>if j=k then false else t j) n) g (b+1) false∧Turns P P w w':=by
 subst hf
 have HH:Hid (ProgNode w P id n (bitsV t n) g b false):=h
 obtain ⟨c0,c1,c2,c3,c4,c5,z,lp⟩:=h
 have z2:=z 2
 have z4:=z 4
 have z5:=z 5
 clear z
 have k1:(k:Int)<(n:Int):=by omega
 have k3:((k:Int) == id)=false:=by simpa using hid
 have p0:=pow_pos k
 have p1:(2:Int) ^ k≤2 ^ 16:=pow_le (by omega)
 have p2:(2:Int) ^ 16=65536:=by decide
 have eB:bits BinOp.andNot .i64 (bitsV t n) (2 ^ k)=bitsV (fun j=>if j=k then false else t j) n:=clear_bit t hn hk
 obtain ⟨M,hM⟩:∃ M,bitsV (fun j=>if j=k then false else t j) n=M:=⟨_,rfl⟩
 obtain ⟨m,hm⟩:∃ m,bitsV t n=m:=⟨_,rfl⟩
 rw [hM] at eB ⊢
 rw [hm] at eB c2 HH
 clear hid hM hm
 go_enter Tryz.func124,Tryz.ntmps124
 go_wp2
 go_region_calls
 all_goals go_wp2
 all_goals exact bodyPost_end (v:=.tuple #[]) (by simp [results,Tryz.results124,go_sem]) rfl ⟨rfl,((HH.out.bad (b+1)).members M).drawn 1,(((Turns.refl _ _ _).set (p:=⟨P,5,none⟩) (.inl rfl) _).set (p:=⟨P,2,none⟩) (.inl rfl) _).trans (Turns.drawn 1)⟩
theorem pHears_acts {w:World} {P:Nat} {id:Int} {n:Nat} {t:Nat→Bool} {g b:Int} {fz:Bool} (h:ProgNode w P id n (bitsV t n) g b fz) (k:Nat) (what:Int) (hn:n≤16) (hf:fz=false) (hk:k<n) (hid:(k:Int)≠id) (h0:0≤what) (h2:what≤2) (hg0:0≤g) (hg:g≤4611686018427387904) (hb0:0≤b) (hb:b≤4611686018427387904) :
  Calls Tryz.prog 124 #[.pointer (some ⟨P,0,none⟩),.int .i64 k,.int .i64 what] w fun e w'=>e=.returned (.tuple #[])∧ProgNode w' P id n (bitsV (fun j=>if j=k then decide (what=1) else t j) n) (if what=1 then g+1 else g) (if what=2 then b+1 else b) false∧Turns P P w w':=by
 have hc:what=0∨what=1∨what=2:=by omega
 rcases hc with rfl | rfl | rfl
 ·exact pHears_acts0 h k hn hf hk hid
 ·exact pHears_acts1 h k hn hf hk hid hg0 hg
 ·exact pHears_acts2 h k hn hf hk hid hb0 hb
end
section
theorem pSends_any {w:World} {P:Nat} {id:Int} {n:Nat} {m g b:Int} {fz:Bool} (h:ProgNode w P id n m g b fz) :
  Calls Tryz.prog 120 #[.pointer (some ⟨P,0,none⟩)] w fun e w'=>e=.returned (.tuple #[.int .i64 (if sendsB g b fz=true then m else 0),.bool (sendsB g b fz)])∧ProgNode w' P id n m (if sendsB g b fz=true then 1 else g) (if sendsB g b fz=true then 0 else b) (!sendsB g b fz)∧Turns P P w w':=by
 have HH:Hid (ProgNode w P id n m g b fz):=h
 obtain ⟨c0,c1,c2,c3,c4,c5,z,lp⟩:=h
 have z3:=z 3
 have z4:=z 4
 have z5:=z 5
 clear z
 unfold sendsB
 cases fz
 ·by_cases hb:b<g
  ·have hb2:decide (g≤b)=false:=decide_eq_false (by omega)
   have HB:Hid (decide (b<g)=true):=decide_eq_true hb
   rw [HB.out]
   clear hb
   have HX:Hid (ProgNode ((w.setCell ⟨P,3,none⟩ (.bool false)).drew) P id n m g b false):=(HH.out.freeze false).drawn 1
   have HT:Hid (Turns P P w ((w.setCell ⟨P,3,none⟩ (.bool false)).drew)):=((Turns.refl _ _ _).set (p:=⟨P,3,none⟩) (.inl rfl) _).trans (Turns.drawn 1)
   go_enter Tryz.func120,Tryz.ntmps120
   go_wp2_with fail
   go_region
   go_wp2_with fail
   refine (pAnew_any HX.out).mono ?_
   rintro e w1 ⟨rfl,hN,hT⟩
   have HN:Hid (ProgNode w1 P id n m 1 0 false):=hN
   obtain ⟨d0,d1,d2,d3,d4,d5,y,lp'⟩:=hN
   clear y
   go_wp2
   go_ret2
   exact ⟨rfl,HN.out,HT.out.trans hT⟩
  ·have hb2:g≤b:=by omega
   rw [decide_eq_false hb]
   clear hb
   have HX:Hid (ProgNode ((w.setCell ⟨P,3,none⟩ (.bool true)).drew) P id n m g b true):=(HH.out.freeze true).drawn 1
   have HT:Hid (Turns P P w ((w.setCell ⟨P,3,none⟩ (.bool true)).drew)):=((Turns.refl _ _ _).set (p:=⟨P,3,none⟩) (.inl rfl) _).trans (Turns.drawn 1)
   go_enter Tryz.func120,Tryz.ntmps120
   go_wp2_with fail
   go_region
   go_wp2
   go_ret2
   exact ⟨rfl,HX.out,HT.out⟩
 ·have HX:Hid (ProgNode ((w.setCell ⟨P,3,none⟩ (.bool true)).drew) P id n m g b true):=(HH.out.freeze true).drawn 1
  have HT:Hid (Turns P P w ((w.setCell ⟨P,3,none⟩ (.bool true)).drew)):=((Turns.refl _ _ _).set (p:=⟨P,3,none⟩) (.inl rfl) _).trans (Turns.drawn 1)
  go_enter Tryz.func120,Tryz.ntmps120
  go_wp2_with fail
  go_region
  go_wp2
  go_ret2
  exact ⟨rfl,HX.out,HT.out⟩
theorem pKnows_any {w:World} {P:Nat} {id:Int} {n:Nat} {m g b:Int} {fz:Bool} (h:ProgNode w P id n m g b fz) (x:Int):Calls Tryz.prog 149 #[.pointer (some ⟨P,0,none⟩),.int .i64 x] w fun e w'=>e=.returned (.bool (decide (0≤x∧x<n)))∧w'=w:=by
 obtain ⟨c0,c1,c2,c3,c4,c5,z,lp⟩:=h
 clear z
 by_cases k1:0≤x
 ·by_cases k2:x<(n:Int)
  ·rw [decide_eq_true (show 0≤x∧x<(n:Int) from ⟨k1,k2⟩)]
   go_enter Tryz.func149,Tryz.ntmps149
   go_wp2
   go_ret
   exact ⟨rfl,rfl⟩
  ·rw [decide_eq_false (show ¬ (0≤x∧x<(n:Int)) by omega)]
   have k2':decide (x<(n:Int))=false:=decide_eq_false k2
   clear k2
   go_enter Tryz.func149,Tryz.ntmps149
   go_wp2
   go_ret
   exact ⟨rfl,rfl⟩
 ·rw [decide_eq_false (show ¬ (0≤x∧x<(n:Int)) by omega)]
  have k2':decide (0≤x)=false:=decide_eq_false k1
  clear k1
  go_enter Tryz.func149,Tryz.ntmps149
  go_wp2
  go_ret
  exact ⟨rfl,rfl⟩
theorem pBit_any (k:Nat) (hk:k≤16) (w:World):Calls Tryz.prog 163 #[.int .i64 k] w fun e w'=>e=.returned (.int .i64 (2 ^ k))∧w'=w:=by
 have p0:=pow_pos k
 have p1:(2:Int) ^ k≤2 ^ 16:=pow_le (by omega)
 have p2:(2:Int) ^ 16=65536:=by decide
 go_enter Tryz.func163,Tryz.ntmps163
 go_wp2
 go_ret
 exact ⟨rfl,rfl⟩
theorem pJudges_any {w:World} {P:Nat} {id:Int} {n:Nat} {t:Nat→Bool} {g b:Int} {fz:Bool} (h:ProgNode w P id n (bitsV t n) g b fz) (frm m:Int) (hn:n≤16) :
  Calls Tryz.prog 122 #[.pointer (some ⟨P,0,none⟩),.int .i64 frm,.int .i64 m] w fun e w'=>e=.returned (.int .i64 (judgeV n t (tb m) frm m))∧∃ q,w'=w.drewN q:=by
 have HK:Hid (∀ (x:Int) (q:Nat),Calls Tryz.prog 149 #[.pointer (some ⟨P,0,none⟩),.int .i64 x] (w.drewN q) fun e w'=>e=.returned (.bool (decide (0≤x∧x<n)))∧w'=w.drewN q):=fun x q=>pKnows_any (h.drawn q) x
 obtain ⟨c0,c1,c2,c3,c4,c5,z,lp⟩:=h
 clear z
 by_cases k12:0≤frm∧frm<(n:Int)
 ·obtain ⟨k1,k2⟩:=k12
  obtain ⟨k,rfl⟩:=Int.eq_ofNat_of_zero_le k1
  have hk:k<n:=by omega
  have HBt:=pBit_any k (by omega)
  have hK:=HK.out k
  rw [decide_eq_true (show (0:Int)≤(k:Int)∧(k:Int)<(n:Int) from ⟨k1,k2⟩)] at hK
  have eB:bits BinOp.or .i64 (bitsV t n) (2 ^ k)=bitsV (fun j=>if j=k then true else t j) n:=or_bit t hn hk
  have HG:=told_good t hk m
  have eJ:judgeV n t (tb m) k m=if m=bitsV (fun j=>if j=k then true else t j) n then 1 else 2:=by
   unfold judgeV
   rw [Int.toNat_natCast]
   by_cases q:m=bitsV (fun j=>if j=k then true else t j) n
   ·rw [if_pos q,if_pos ⟨⟨k1,k2⟩,HG.1 q⟩]
   ·rw [if_neg q,if_neg (fun y=>q (HG.2 y.2))]
  rw [eJ]
  clear eJ HG
  obtain ⟨M,hM⟩:∃ M,bitsV (fun j=>if j=k then true else t j) n=M:=⟨_,rfl⟩
  rw [hM] at eB ⊢
  clear hM
  by_cases q:m=M
  ·subst q
   rw [if_pos rfl]
   go_enter Tryz.func122,Tryz.ntmps122
   go_wp2_with fail
   go_quiet (first | (go_at_call 149;refine Calls.quiet_of_same (hK _)) | (go_at_call 163;refine Calls.quiet_of_same (HBt _)))
   go_wp2
   go_ret
   exact ⟨rfl,_,rfl⟩
  ·have q2:(m == M)=false:=by simpa using q
   rw [if_neg q]
   clear q
   go_enter Tryz.func122,Tryz.ntmps122
   go_wp2_with fail
   go_quiet (first | (go_at_call 149;refine Calls.quiet_of_same (hK _)) | (go_at_call 163;refine Calls.quiet_of_same (HBt _)))
   go_wp2
   go_ret
   exact ⟨rfl,_,rfl⟩
 ·have eJ:judgeV n t (tb m) frm m=2:=by unfold judgeV;rw [if_neg (fun y=>k12 y.1)]
  rw [eJ]
  have hK:=HK.out frm
  rw [decide_eq_false k12] at hK
  clear eJ k12
  go_enter Tryz.func122,Tryz.ntmps122
  go_wp2_with fail
  go_quiet (first | (go_at_call 149;refine Calls.quiet_of_same (hK _)))
  go_wp2
  go_ret
  exact ⟨rfl,_,rfl⟩
end
section
theorem links_any (nodes faulty skew jitter drift round frame:Int) (sa la wa:Option Addr) (ns sc nl lc nw wc:Nat) (w:World)
  (a1:1≤nodes) (a2:nodes≤16) (d2:nl≤8) (lf lt lb lq:Nat→Int) (hs:Rows4 w la nl lf lt lb lq) (hit:Nat→Bool) (pw:Int) (hpw:(2:Int) ^ nodes.toNat=pw) (p1:2≤pw) (p2:pw≤65536) (hhit:∀ j,0≤lf j→lf j≤15→hit j=(bits BinOp.and .i64 (lt j) (2 ^ (lf j).toNat) != 0))
  (e i:Int) (hF:FirstBad (linkErr lf lt lb lq hit nodes pw) nl e i) :
  Calls Tryz.prog 108 #[.agg #[.int .i64 nodes,.int .i64 faulty,.int .i64 skew,.int .i64 jitter,.int .i64 drift,.int .i64 round,.slice sa ns sc,.slice la nl lc,.int .i64 frame,.slice wa nw wc]] w fun ev w'=>∃ E,ev=.returned E∧AtIs w' E e (1000+i)∧Below w.heap.size w w':=by
 have HF:Hid (FirstBad (linkErr lf lt lb lq hit nodes pw) nl e i):=hF
 have HL:Hid (∀ j (u:World),Calls Tryz.prog 147 #[.agg #[.int .i64 (lf j),.int .i64 (lt j),.int .i64 (lb j),.int .i64 (lq j)],.int .i64 nodes] u fun ev w'=>ev=.returned (.int .i64 (linkErr lf lt lb lq hit nodes pw j))∧Below u.heap.size u w') :=
  fun j u=>link_any (lf j) (lt j) (lb j) (lq j) nodes pw (hit j) u a1 a2 hpw p1 p2 (hhit j)
 clear hF hhit hpw p1 p2
 obtain ⟨hc,hV⟩:=box10 nodes faulty skew jitter drift round frame sa la wa ns sc nl lc nw wc w 48
 replace hs:=hs.below hV
 go_enter Tryz.func108,Tryz.ntmps108
 go_wp2_with fail
 generalize w.alloc (.cells #[.int .i64 nodes,.int .i64 faulty,.int .i64 skew,.int .i64 jitter,.int .i64 drift,.int .i64 round,.slice sa ns sc,.slice la nl lc,.int .i64 frame,.slice wa nw wc] 48)=V at hc hV hs ⊢
 obtain ⟨x0,x1,x2,x3,x4,x5,x6,x7,x8,x9⟩:=hc
 go_loopw [9] (fun t wr=>∃ k:Nat,k≤nl∧t=.int .i64 k∧Hid (∀ j,j<k→linkErr lf lt lb lq hit nodes pw j=0)∧Below V.heap.size V wr) (fun t _=>nl - (intOf t).toNat)
 case atStart=>exact ⟨0,Nat.zero_le _,rfl,fun j hj=>absurd hj (Nat.not_lt_zero _),Below.refl _ _⟩
 case round =>
  obtain ⟨k,hk,rfl,h0,hbe⟩:=hrel
  have y0:=keep_cell x0 hbe
  clear x0 x1 x2 x3 x4 x5 x6 x7 x8 x9
  by_cases hlt:k<nl
  ·obtain ⟨b,off,rfl,hb,hcc⟩:=hs (by omega)
   obtain ⟨r0,r1,r2,r3⟩:=hcc k hlt
   replace r0:=keep_cell r0 hbe
   replace r1:=keep_cell r1 hbe
   replace r2:=keep_cell r2 hbe
   replace r3:=keep_cell r3 hbe
   clear hcc hs
   have hwr:w.heap.size<wr.heap.size:=lt_of_cell y0
   have hbr:b<wr.heap.size:=lt_of_cell r0
   go_wp2_with fail
   refine (HL.out k _).mono ?_
   rintro ev w2 ⟨rfl,hb2⟩
   have hbt:Below V.heap.size V w2:=stepA hbe hb2
   clear y0 r0 r1 r2 r3
   obtain ⟨le,hle⟩:∃ le,linkErr lf lt lb lq hit nodes pw k=le:=⟨_,rfl⟩
   rw [hle]
   have HLE:Hid (linkErr lf lt lb lq hit nodes pw k=le):=hle
   clear hle
   go_wp2_with fail
   by_cases hz:le=0
   ·subst hz
    refine (at_none _ _).mono ?_
    rintro ev w3 ⟨rfl,hb3⟩
    have hbu:=stepB hbt hb3
    go_wp2
    go_roundw
    case rel=>exact ⟨k+1,by omega,by go_num,next_zero h0.out HLE.out,hbu⟩
    case measure=>simp [intOf];omega
   ·have HZ:Hid (le≠0):=hz
    clear hz
    refine (at_some le (1000+k) HZ.out _).mono ?_
    rintro ev w3 ⟨b3,rfl,q0,q1,hb3⟩
    go_wp2
    go_ret
    obtain ⟨rfl,rfl⟩:=HF.out.is hlt h0.out HLE.out HZ.out
    exact ⟨_,rfl,.inr ⟨b3,rfl,HZ.out,q0,q1⟩,hV.trans ((stepB hbt hb3).mono hV.size)⟩
  ·go_wp2
   go_ret
   obtain ⟨rfl,rfl⟩:=HF.out.at_end (fun j hj=>h0.out j (by omega))
   exact ⟨_,rfl,.inl ⟨rfl,rfl⟩,hV.trans (hbe.mono hV.size)⟩
end
section
def leastW (tq:Nat→Int) (k:Nat):Int:=if k=0 then 0 else tq (k - 1)
theorem winErr_span (nd fr tq:Nat→Int) (frame:Int) (k:Nat) :
  winErr nd fr tq frame k=if spanErr (fr k) (tq k) (leastW tq k) frame≠0 then spanErr (fr k) (tq k) (leastW tq k) frame else if nd k<0∨5<nd k then 7 else 0:=by
 have e:((k=0∧fr k<0)∨(0<k∧fr k<tq (k - 1)))↔fr k<leastW tq k:=by
  unfold leastW
  by_cases h:k=0
  ·rw [if_pos h]
   constructor
   ·rintro (⟨_,g⟩ | ⟨g,_⟩)
    ·exact g
    ·omega
   ·intro g;exact .inl ⟨h,g⟩
  ·rw [if_neg h]
   constructor
   ·rintro (⟨g,_⟩ | ⟨_,g⟩)
    ·exact absurd g h
    ·omega
   ·intro g;exact .inr ⟨by omega,by omega⟩
 unfold winErr spanErr
 by_cases h1:tq k≤fr k
 ·simp [h1]
 ·rw [if_neg h1]
  by_cases h2:fr k<leastW tq k
  ·simp [e,h1,h2]
  ·simp only [e]
   rw [if_neg h2]
   by_cases h3:frame<tq k
   ·simp [h1,h2,h3]
   ·simp [h1,h2,h3]
theorem wins_any (nodes faulty skew jitter drift round frame:Int) (sa la wa:Option Addr) (ns sc nl lc nw wc:Nat) (w:World)
  (d1:nw≤32)
  (nd fr tq:Nat→Int) (hs:Rows3 w wa nw nd fr tq) (e i:Int) (hF:FirstBad (winErr nd fr tq frame) nw e i) :
  Calls Tryz.prog 109 #[.agg #[.int .i64 nodes,.int .i64 faulty,.int .i64 skew,.int .i64 jitter,.int .i64 drift,.int .i64 round,.slice sa ns sc,.slice la nl lc,.int .i64 frame,.slice wa nw wc]] w fun ev w'=>∃ E,ev=.returned E∧AtIs w' E e (2000+i)∧Below w.heap.size w w':=by
 have HF:Hid (FirstBad (winErr nd fr tq frame) nw e i):=hF
 clear hF
 obtain ⟨hc,hV⟩:=box10 nodes faulty skew jitter drift round frame sa la wa ns sc nl lc nw wc w 48
 replace hs:=hs.below hV
 go_enter Tryz.func109,Tryz.ntmps109
 go_wp2_with fail
 generalize w.alloc (.cells #[.int .i64 nodes,.int .i64 faulty,.int .i64 skew,.int .i64 jitter,.int .i64 drift,.int .i64 round,.slice sa ns sc,.slice la nl lc,.int .i64 frame,.slice wa nw wc] 48)=V at hc hV hs ⊢
 refine (between_any _ _ _).mono ?_
 rintro ev V1 ⟨fv,rfl,hB,hu⟩
 replace hc:=hc.below hu
 replace hs:=hs.below hu
 have hV1:Below w.heap.size w V1:=hV.trans (hu.mono hV.size)
 obtain ⟨x0,x1,x2,x3,x4,x5,x6,x7,x8,x9⟩:=hc
 have hwz:w.heap.size<V1.heap.size:=lt_of_cell x0
 go_wp2_with fail
 go_loopw [4,12] (fun lv t wr=>∃ k:Nat,k≤nw∧t=.int .i64 k∧lv=.int .i64 (leastW tq k)∧Hid (∀ j,j<k→winErr nd fr tq frame j=0)∧Below V1.heap.size V1 wr) (fun _ t _=>nw - (intOf t).toNat)
 case atStart=>exact ⟨0,Nat.zero_le _,rfl,rfl,fun j hj=>absurd hj (Nat.not_lt_zero _),Below.refl _ _⟩
 case round =>
  obtain ⟨k,hk,rfl,rfl,h0,hbe⟩:=hrel
  have y2:=keep_cell x8 hbe
  clear x0 x1 x2 x3 x4 x5 x6 x7 x8 x9
  by_cases hlt:k<nw
  ·obtain ⟨b,off,rfl,hb,hcc⟩:=hs (by omega)
   obtain ⟨r0,r1,r2⟩:=hcc k hlt
   replace r0:=keep_cell r0 hbe
   replace r1:=keep_cell r1 hbe
   replace r2:=keep_cell r2 hbe
   clear hcc hs
   obtain ⟨se,hse⟩:∃ se,spanErr (fr k) (tq k) (leastW tq k) frame=se:=⟨_,rfl⟩
   have HS:Hid (∀ u:World,Calls Tryz.prog 145 #[.agg #[.int .i64 (fr k),.int .i64 (tq k)],.int .i64 (leastW tq k),.int .i64 frame] u fun ev w'=>ev=.returned (.int .i64 se)∧Below u.heap.size u w'):=fun u=>by rw [← hse];exact checkSpan_any _ _ _ _ _
   have HSE:Hid (spanErr (fr k) (tq k) (leastW tq k) frame=se):=hse
   clear hse
   have hwr:w.heap.size<wr.heap.size:=lt_of_cell y2
   have hbr:b<wr.heap.size:=lt_of_cell r0
   go_wp2_with fail
   refine (HS.out _).mono ?_
   rintro ev w2 ⟨rfl,hb2⟩
   have hbt:Below V1.heap.size V1 w2:=stepA hbe hb2
   have s0:=keep_cell (show (wr.alloc (.cells #[.int .i64 (nd k),.int .i64 (fr k),.int .i64 (tq k)] 124)).cell? ⟨wr.heap.size,0,none⟩=some (.int .i64 (nd k)) from by simp) hb2
   have s2:=keep_cell (show (wr.alloc (.cells #[.int .i64 (nd k),.int .i64 (fr k),.int .i64 (tq k)] 124)).cell? ⟨wr.heap.size,2,none⟩=some (.int .i64 (tq k)) from by simp) hb2
   clear y2 r0 r1 r2 HS
   by_cases hz:se=0
   rotate_left
   ·have hn:(se == 0)=false:=by simpa using hz
    have hn2:(se != 0)=true:=by simpa using hz
    have HK:Hid (winErr nd fr tq frame k=se):=by
     show _=_
     rw [winErr_span,HSE.out,if_pos hz]
    have HZ:Hid (se≠0):=hz
    clear hz
    go_wp2_with fail
    refine (at_some se (2000+k) HZ.out _).mono ?_
    rintro ev w3 ⟨b3,rfl,q0,q1,hb3⟩
    go_wp2
    go_ret
    obtain ⟨rfl,rfl⟩:=HF.out.is hlt h0.out HK.out HZ.out
    exact ⟨_,rfl,.inr ⟨b3,rfl,HZ.out,q0,q1⟩,hV1.trans ((stepB hbt hb3).mono hV1.size)⟩
   ·subst hz
    have hB2:Btw w2 fv 0 5:=hB.below hbt
    go_wp2_with fail
    by_cases hn:0≤nd k∧nd k≤5
    rotate_left
    ·have hd:decide (0≤nd k∧nd k≤5)=false:=decide_eq_false hn
     have HK:Hid (winErr nd fr tq frame k=7):=by
      show _=_
      rw [winErr_span,HSE.out,if_neg (by simp),if_pos (by omega)]
     clear hn
     refine (all_1b false fv _ _ (nd k) w2.heap.size _ _ (hB2.alloc _) (by simp) hd).mono ?_
     rintro ev w3 ⟨rfl,hb3⟩
     have hbu:=stepA hbt hb3
     go_wp2_with fail
     refine (at_some 7 (2000+k) (by decide) _).mono ?_
     rintro ev w4 ⟨b4,rfl,q0,q1,hb4⟩
     go_wp2
     go_ret
     obtain ⟨rfl,rfl⟩:=HF.out.is hlt h0.out HK.out (by decide)
     exact ⟨_,rfl,.inr ⟨b4,rfl,by decide,q0,q1⟩,hV1.trans ((stepB hbu hb4).mono hV1.size)⟩
    ·have hd:decide (0≤nd k∧nd k≤5)=true:=decide_eq_true hn
     have HK:Hid (winErr nd fr tq frame k=0):=by
      show _=_
      rw [winErr_span,HSE.out,if_neg (by simp),if_neg (by omega)]
     clear hn
     refine (all_1b true fv _ _ (nd k) w2.heap.size _ _ (hB2.alloc _) (by simp) hd).mono ?_
     rintro ev w3 ⟨rfl,hb3⟩
     have hbu:=stepA hbt hb3
     have s2':=keep_cell (show (w2.alloc (.cells #[.int .i64 (nd k)] 3)).cell? ⟨wr.heap.size,2,none⟩=_ from by rw [World.cell?_alloc_lt _ _ _ (lt_of_cell s2)];exact s2) hb3
     have HL:Hid (leastW tq (k+1)=tq k):=by
      show _=_
      unfold leastW;rw [if_neg (by omega)];simp
     go_wp2
     go_roundw
     case rel=>exact ⟨k+1,by omega,by go_num,by rw [HL.out],next_zero h0.out HK.out,hbu⟩
     case measure=>simp [intOf];omega
  ·go_wp2
   go_ret
   obtain ⟨rfl,rfl⟩:=HF.out.at_end (fun j hj=>h0.out j (by omega))
   exact ⟨_,rfl,.inl ⟨rfl,rfl⟩,hV1.trans (hbe.mono hV1.size)⟩
end
section
theorem pMembers_any {w:World} {P:Nat} {id:Int} {n:Nat} {m g b:Int} {fz:Bool} (h:ProgNode w P id n m g b fz):Calls Tryz.prog 92 #[.pointer (some ⟨P,0,none⟩)] w fun e w'=>e=.returned (.int .i64 m)∧w'=w:=by
 obtain ⟨c0,c1,c2,c3,c4,c5,z,lp⟩:=h
 clear z
 go_enter Tryz.func92,Tryz.ntmps92
 go_wp2
 go_ret
 exact ⟨rfl,rfl⟩
theorem pFrozen_any {w:World} {P:Nat} {id:Int} {n:Nat} {m g b:Int} {fz:Bool} (h:ProgNode w P id n m g b fz):Calls Tryz.prog 93 #[.pointer (some ⟨P,0,none⟩)] w fun e w'=>e=.returned (.bool fz)∧w'=w:=by
 obtain ⟨c0,c1,c2,c3,c4,c5,z,lp⟩:=h
 clear z
 go_enter Tryz.func93,Tryz.ntmps93
 go_wp2
 go_ret
 exact ⟨rfl,rfl⟩
end
end Go.Proofs.YthccoinonjoleaaGreatDoor
