import Derived.Test.YtooadfgibdjdeaaGreatDoorZRefMain
import Derived.Test.YtooadfgibdjdeaaGreatDoorZPlanLink
import Derived.Test.YtooadfgibdjdeaaGreatDoorRows
import Derived.BigQuiet
import Derived.ChangeVars
import Derived.Deep.AppendSrc
import Derived.Deep.QuietTactic
import Derived.Deep.RegionHeld3
import Derived.Deep.Upon
import Derived.LaidHandle
import Derived.LaidLaws
import Derived.Laws.MakeOwn
import Derived.Lib.SmallJoins
import Derived.ProofKit
import Derived.RegionTactic
import Derived.Stop.Joined
import Derived.WalkKit
import Derived.WalkLawsBesides
import Derived.WalkSpells
namespace Go.Proofs.YtooadfgibdjdeaaGreatDoor
open Go.RowKit
set_option maxRecDepth 100000
set_option maxHeartbeats 16000000
section
open Go.ChangeShapes Go.WideShapes Go.ChangeAt Go.RowKit Go.Joins
theorem own:ownKnob Tryz.prog.godebug=none:=by kernel_rfl
def typeWord:DataW Unit→String
 | .iface n _=>n
 | _=> ""
def laidList:List (String × DataW Unit):=Rows.clusterPlaysRow.laid
def fineName:String:=(laidList.getD 1 ("",.agg [])).1
theorem Tryz.et:Tryz.prog.globalNamed "errors.errorType" = some 1:=by kernel_rfl
theorem Tryz.fi:Tryz.prog.globalNamed fineName=some 0:=by kernel_rfl
theorem Tryz.fit:(Tryz.prog.globals[0]?).map (·.type)=some 38:=by kernel_rfl
theorem Tryz.rt:(Tryz.prog.cutTypes.find? (·.1 == typeWord Rows.laid_errors_errorType)).map (·.2)=some 223:=by kernel_rfl
theorem Tryz.oneRow:((List.range 280).filter fun t=>Tryz.prog.rowNamed t [101,114,114,111,114]) = [32]:=by kernel_rfl
theorem Tryz.size:Tryz.prog.types.size=280:=by kernel_rfl
theorem laid_parts {W:World} (h:laidMetH Tryz.prog laidList W):laidMet Tryz.prog [(fineName,.agg [.lit (.int .i64 0),.lit (.int .i64 (-1))])] W∧handlesMet Tryz.prog [("errors.errorType",Rows.laid_errors_errorType)] W:=h
theorem told_of_laid {W:World} (h:laidMetH Tryz.prog laidList W):Told W:=by
 obtain ⟨name,u,ty,e1,e2,e3,e4,e5⟩:=(laid_parts h).2 _ (List.mem_singleton.2 rfl)
 have en:name = [101,114,114,111,114]:=(Option.some.inj e1).symm
 subst en
 obtain rfl:=Option.some.inj (Tryz.rt.symm.trans e2)
 have hm:ty∈(List.range 280).filter fun t=>Tryz.prog.rowNamed t [101,114,114,111,114]:=List.mem_filter.2 ⟨List.mem_range.2 (by rw [← Tryz.size];exact e3),e4⟩
 rw [Tryz.oneRow] at hm
 obtain rfl:=List.mem_singleton.1 hm
 have hh:typeHandle Tryz.prog 32=.pointer (some ⟨2,32,none⟩):=by kernel_rfl
 rw [hh] at e5
 unfold Told
 simpa using World.var?_cell Tryz.et e5 0
theorem fine_of_laid {W:World} (h:laidMetH Tryz.prog laidList W):Fine0 W:=by
 obtain ⟨ps,⟨g,t,cs,fuel,p,q,e1,e2,e3,e4,_,_⟩,_,_⟩:=(laid_parts h).1
 obtain rfl:=Option.some.inj (Tryz.fi.symm.trans e1)
 obtain rfl:=Option.some.inj (Tryz.fit.symm.trans e2)
 obtain ⟨y0,y1,m,hd,hl,q0,q1⟩:=trod_struct2 Tryz.underlying38 e4
 obtain ⟨l⟩:=cs
 have hcF:Tryz.prog.cellsOf 38=2:=by kernel_rfl
 have hcE:Tryz.prog.cellsOf 36=1:=by kernel_rfl
 have hcI:Tryz.prog.cellsOf 3=1:=by kernel_rfl
 rw [hcF] at hl
 match l,hl with
 | [v0,v1],_ =>
  simp only [hcE,hcI] at q0 q1
  obtain ⟨a,f0,g0,_⟩:=DataW.trod_int Tryz.underlying36 q0
  obtain ⟨b,f1,g1,_⟩:=DataW.trod_int Tryz.underlying3 q1
  simp at f0 f1
  subst f0 f1
  rw [g0,g1] at hd
  simp at hd
  obtain ⟨⟨rfl,rfl⟩,_⟩:=hd
  have c0:W.cell? ⟨0,0,none⟩=some (.int .i64 0):=by simpa using World.var?_cell Tryz.fi e3 0
  have c1:W.cell? ⟨0,1,none⟩=some (.int .i64 (-1)):=by simpa using World.var?_cell Tryz.fi e3 1
  refine ⟨?_,c0,c1⟩
  rcases Nat.lt_or_ge 0 W.heap.size with k | k
  ·exact k
  ·simp [World.cell?,Array.getElem?_eq_none k] at c0
def laidHeap (w0:World):World :=
 { w0 with heap:=(w0.heap.modify 1 fun
   | .cells _ t frozen=>.cells #[.iface 223 (.agg #[.pointer (some ⟨2,32,none⟩)])] t frozen
   | o=>o).modify 0 fun
   | .cells _ t frozen=>.cells #[.int .i64 0,.int .i64 (-1)] t frozen
   | o=>o }
theorem laid_met (os:Os) (args:Array Value):laidMetH Tryz.prog laidList ((laidHeap (World.holding Tryz.prog os ⟨#[],#[],[]⟩)).forCall (fun _ _=>0) ⟨#[],args,[]⟩).memory :=
 laidMetH_of_parts (laidMet_of_run' 8 (by kernel_rfl) (by kernel_rfl)) (by kernel_rfl)
end
section
structure NodeS where
 t:Nat→Bool
 g:Int
 b:Int
 fz:Bool
structure SendS where
 all:List ByteArray
 went:Nat
 last:Int
 now:Int
structure ClS where
 nodes:Nat→NodeS
 links:Nat→SendS
 newest:Nat→Nat→Int
 ports:Nat→Nat→List ByteArray
structure PlanS where
 n:Nat
 round:Int
 ns:Nat
 nd:Nat→Nat
 fr:Nat→Int
 nl:Nat
 lf:Nat→Nat
 lt:Nat→Nat→Bool
 lb:Nat→Int
structure HapS where
 lies:Nat→Bool
 mode:Nat→Int
 lost:Nat→Nat→Nat→Bool
def SendS.asked (s:SendS) (t bag:Int):SendS :=
 { all:=s.all,went:=sendWent (sendK s.all.length s.went t s.now s.last bag) s.went,last:=sendLast (sendK s.all.length s.went t s.now s.last bag) t s.last,now:=sendNow (sendK s.all.length s.went t s.now s.last bag) t s.now }
def linksTo (p:PlanS) (who:Nat) (t:Int) (L:Nat→SendS):Nat→(Nat→SendS) × Option (Nat × Int × ByteArray)
 | 0=>(L,none)
 | k+1 =>
  let r:=linksTo p who t L k
  if r.2.isSome=true∨p.lf k≠who then r
  else (fun j=>if j=k then (r.1 k).asked t (p.lb k) else r.1 j,
   if sendK (r.1 k).all.length (r.1 k).went t (r.1 k).now (r.1 k).last (p.lb k)=0 then some (k,ordN (r.1 k).went,(r.1 k).all.getD (r.1 k).went ByteArray.empty) else none)
def HapS.modeOf (h:HapS) (who:Nat):Int:=if h.lies who=true then h.mode who else 0
def ClS.sends (s:ClS) (h:HapS) (who:Nat):Bool:=sendsB (s.nodes who).g (s.nodes who).b (s.nodes who).fz && decide (h.modeOf who≠1)
def ClS.tells (s:ClS) (p:PlanS) (h:HapS) (who:Nat):Nat→Bool:=fun j=>if h.modeOf who=2∧(j=who∨j=(who+1) % p.n) then !(s.nodes who).t j else (s.nodes who).t j
def ClS.comes (s:ClS) (h:HapS) (i who to_:Nat):Bool:=s.sends h who && (!h.lost i 0 to_ || !h.lost i 1 to_)
def ClS.what (s:ClS) (p:PlanS) (h:HapS) (i who to_:Nat):Int:=if s.comes h i who to_=true then (if judB p.n who (s.tells p h who) (s.nodes to_).t=true then 1 else 2) else 0
def NodeS.sent (N:NodeS):NodeS:={ t:=N.t,g:=if sendsB N.g N.b N.fz=true then 1 else N.g,b:=if sendsB N.g N.b N.fz=true then 0 else N.b,fz:=!sendsB N.g N.b N.fz }
def NodeS.hears (N:NodeS) (id n frm:Nat) (what:Int):NodeS:={ t:=heT id n N.fz frm what N.t,g:=heG id n N.fz frm what N.g,b:=heB id n N.fz frm what N.b,fz:=N.fz }
def ClS.goes (s:ClS) (p:PlanS) (h:HapS) (rounds:Int) (i:Nat):(Nat→SendS) × Option (Nat × Int × ByteArray) :=
 if s.sends h (p.nd i)=true then linksTo p (p.nd i) (rounds*p.round+p.fr i) s.links p.nl else (s.links,none)
def ClS.takes (s:ClS) (p:PlanS) (h:HapS) (i:Nat) (m:Option (Nat × Int × ByteArray)) (k to_:Nat):Bool :=
 match m with
 | none=>false
 | some (j,q,_)=>decide (j=k) && (p.lt k to_ && (s.comes h i (p.nd i) to_ && (decide (to_<p.n∧to_≠p.nd i) && takeB (s.newest k to_) q)))
def msgSeq (m:Option (Nat × Int × ByteArray)):Int:=match m with | none=>0 | some (_,q,_)=>q
def msgDat (m:Option (Nat × Int × ByteArray)):ByteArray:=match m with | none=>ByteArray.empty | some (_,_,d)=>d
def ClS.slot (s:ClS) (p:PlanS) (h:HapS) (rounds:Int) (i:Nat):ClS where
 nodes:=fun j=>if j=p.nd i then (s.nodes j).sent else (s.nodes j).hears j p.n (p.nd i) (s.what p h i (p.nd i) j)
 links:=(s.goes p h rounds i).1
 newest:=fun k j=>if s.takes p h i (s.goes p h rounds i).2 k j=true then msgSeq (s.goes p h rounds i).2 else s.newest k j
 ports:=fun k j=>if s.takes p h i (s.goes p h rounds i).2 k j=true∧(s.ports k j).length<16 then s.ports k j ++ [msgDat (s.goes p h rounds i).2] else s.ports k j
def ClS.slots (s:ClS) (p:PlanS) (h:HapS) (rounds:Int):Nat→ClS
 | 0=>s
 | i+1=>(s.slots p h rounds i).slot p h rounds i
theorem linksTo_own {p:PlanS} {who:Nat} {t:Int} {L:Nat→SendS} : ∀ n,(∀ k q d,(linksTo p who t L n).2=some (k,q,d)→k<n∧p.lf k=who)∧∀ j,p.lf j≠who→(linksTo p who t L n).1 j=L j:=by
 intro n
 induction n with
 | zero=>exact ⟨fun k q d h=>(by cases h),fun j _=>rfl⟩
 | succ n ih =>
  show (∀ k q d,(if (linksTo p who t L n).2.isSome=true∨p.lf n≠who then linksTo p who t L n else _).2=some (k,q,d)→_)∧∀ j,p.lf j≠who→(if (linksTo p who t L n).2.isSome=true∨p.lf n≠who then linksTo p who t L n else _).1 j=L j
  by_cases hc:(linksTo p who t L n).2.isSome=true∨p.lf n≠who
  ·rw [if_pos hc]
   exact ⟨fun k q d h=>⟨Nat.lt_succ_of_lt (ih.1 k q d h).1,(ih.1 k q d h).2⟩,ih.2⟩
  ·rw [if_neg hc]
   have hw:p.lf n=who:=by
    by_cases e:p.lf n=who
    ·exact e
    ·exact absurd (.inr e) hc
   refine ⟨fun k q d h=>?_,fun j hj=>?_⟩
   ·by_cases e:sendK ((linksTo p who t L n).1 n).all.length ((linksTo p who t L n).1 n).went t ((linksTo p who t L n).1 n).now ((linksTo p who t L n).1 n).last (p.lb n)=0
    ·simp only [if_pos e] at h
     injection h with h
     injection h with h
     exact ⟨by omega,by rw [← h];exact hw⟩
    ·simp only [if_neg e] at h
     cases h
   ·have:j≠n:=fun e=>hj (e▸hw)
    show (if j=n then _ else (linksTo p who t L n).1 j)=L j
    rw [if_neg this]
    exact ih.2 j hj
end
section
structure ProgNode (w:World) (P:Nat) (id:Int) (n:Nat) (m:Int) (g b:Int) (fz:Bool):Prop where
 c0:w.cell? ⟨P,0,none⟩=some (.int .i64 id)
 c1:w.cell? ⟨P,1,none⟩=some (.int .i64 n)
 c2:w.cell? ⟨P,2,none⟩=some (.int .i64 m)
 c3:w.cell? ⟨P,3,none⟩=some (.bool fz)
 c4:w.cell? ⟨P,4,none⟩=some (.int .i64 g)
 c5:w.cell? ⟨P,5,none⟩=some (.int .i64 b)
 z:∀ i,w.frozen? ⟨P,i,none⟩=false
 lp:P<w.heap.size
theorem ProgNode.drawn {w:World} {P:Nat} {id:Int} {n:Nat} {m g b:Int} {fz:Bool} (h:ProgNode w P id n m g b fz) (q:Nat):ProgNode (w.drewN q) P id n m g b fz:=⟨h.c0,h.c1,h.c2,h.c3,h.c4,h.c5,h.z,h.lp⟩
theorem ProgNode.members {w:World} {P:Nat} {id:Int} {n:Nat} {m g b:Int} {fz:Bool} (h:ProgNode w P id n m g b fz) (m':Int):ProgNode (w.setCell ⟨P,2,none⟩ (.int .i64 m')) P id n m' g b fz :=
 ⟨(cell_other (.inr (by decide))).trans h.c0,(cell_other (.inr (by decide))).trans h.c1,cell_set h.c2,(cell_other (.inr (by decide))).trans h.c3,(cell_other (.inr (by decide))).trans h.c4,(cell_other (.inr (by decide))).trans h.c5,fun i=>soft_set.trans (h.z i),by simpa using h.lp⟩
theorem ProgNode.freeze {w:World} {P:Nat} {id:Int} {n:Nat} {m g b:Int} {fz:Bool} (h:ProgNode w P id n m g b fz) (f':Bool):ProgNode (w.setCell ⟨P,3,none⟩ (.bool f')) P id n m g b f' :=
 ⟨(cell_other (.inr (by decide))).trans h.c0,(cell_other (.inr (by decide))).trans h.c1,(cell_other (.inr (by decide))).trans h.c2,cell_set h.c3,(cell_other (.inr (by decide))).trans h.c4,(cell_other (.inr (by decide))).trans h.c5,fun i=>soft_set.trans (h.z i),by simpa using h.lp⟩
theorem ProgNode.good {w:World} {P:Nat} {id:Int} {n:Nat} {m g b:Int} {fz:Bool} (h:ProgNode w P id n m g b fz) (g':Int):ProgNode (w.setCell ⟨P,4,none⟩ (.int .i64 g')) P id n m g' b fz :=
 ⟨(cell_other (.inr (by decide))).trans h.c0,(cell_other (.inr (by decide))).trans h.c1,(cell_other (.inr (by decide))).trans h.c2,(cell_other (.inr (by decide))).trans h.c3,cell_set h.c4,(cell_other (.inr (by decide))).trans h.c5,fun i=>soft_set.trans (h.z i),by simpa using h.lp⟩
theorem ProgNode.bad {w:World} {P:Nat} {id:Int} {n:Nat} {m g b:Int} {fz:Bool} (h:ProgNode w P id n m g b fz) (b':Int):ProgNode (w.setCell ⟨P,5,none⟩ (.int .i64 b')) P id n m g b' fz :=
 ⟨(cell_other (.inr (by decide))).trans h.c0,(cell_other (.inr (by decide))).trans h.c1,(cell_other (.inr (by decide))).trans h.c2,(cell_other (.inr (by decide))).trans h.c3,(cell_other (.inr (by decide))).trans h.c4,cell_set h.c5,fun i=>soft_set.trans (h.z i),by simpa using h.lp⟩
theorem pAnew_any {w:World} {P:Nat} {id:Int} {n:Nat} {m g b:Int} {fz:Bool} (h:ProgNode w P id n m g b fz) :
  Calls Tryz.prog 89 #[.pointer (some ⟨P,0,none⟩)] w fun e w'=>e=.returned (.tuple #[])∧ProgNode w' P id n m 1 0 fz∧Turns P P w w':=by
 have HH:Hid (ProgNode w P id n m g b fz):=h
 obtain ⟨c0,c1,c2,c3,c4,c5,z,lp⟩:=h
 have z4:=z 4
 have z5:=z 5
 clear z
 go_enter Tryz.func89,Tryz.ntmps89
 go_wp2
 exact bodyPost_end (v:=.tuple #[]) (by simp [results,Tryz.results89,go_sem]) rfl ⟨rfl,(HH.out.good 1).bad 0,((Turns.refl _ _ _).set (p:=⟨P,4,none⟩) (.inl rfl) _).set (p:=⟨P,5,none⟩) (.inl rfl) _⟩
theorem pNew_good (id:Int) (n:Nat) (w:World) (h1:1≤n) (h2:n≤16) (h3:0≤id) (h4:id<n) :
  Calls Tryz.prog 65 #[.int .i64 id,.int .i64 n] w fun e w'=>e=.returned (.tuple #[.pointer (some ⟨w.heap.size,0,none⟩),.nilIface])∧ProgNode w' w.heap.size id n (2 ^ n - 1) 1 0 false∧Below w.heap.size w w':=by
 have p0:=pow_pos n
 have p1:(2:Int) ^ n≤2 ^ 16:=pow_le h2
 have p2:(2:Int) ^ 16=65536:=by decide
 have k1:decide ((n:Int)<1)=false:=decide_eq_false (by omega)
 have k2:decide (16<(n:Int))=false:=decide_eq_false (by omega)
 have HV:Hid (ProgNode (w.alloc (.cells #[.int .i64 id,.int .i64 n,.int .i64 (2 ^ n - 1),.bool false,.int .i64 0,.int .i64 0] 181)) w.heap.size id n (2 ^ n - 1) 0 0 false):=by
  have c:∀ (i:Nat) (v:Value),(#[.int .i64 id,.int .i64 n,.int .i64 (2 ^ n - 1),.bool false,.int .i64 0,.int .i64 0]:Array Value)[i]? = some v→(w.alloc (.cells #[.int .i64 id,.int .i64 n,.int .i64 (2 ^ n - 1),.bool false,.int .i64 0,.int .i64 0] 181)).cell? ⟨w.heap.size,i,none⟩=some v:=fun i v hi=>by
   simp
   simpa using hi
  exact ⟨c 0 _ rfl,c 1 _ rfl,c 2 _ rfl,c 3 _ rfl,c 4 _ rfl,c 5 _ rfl,fun i=>by simp,by simp⟩
 have HN:=pAnew_any HV.out
 have HB:Hid (Below w.heap.size w (w.alloc (.cells #[.int .i64 id,.int .i64 n,.int .i64 (2 ^ n - 1),.bool false,.int .i64 0,.int .i64 0] 181))):=(Below.refl _ _).alloc (Nat.le_refl _) _
 go_enter Tryz.func65,Tryz.ntmps65
 go_wp2_with (first | (go_at_call 89;apply Hid.out) | go_in)
 unfold Hid
 refine HN.mono ?_
 rintro e w1 ⟨rfl,hN1,hT1⟩
 have hB1:Below w.heap.size w w1:=HB.out.trans (hT1.below (by simp) (Nat.le_refl _) (Nat.le_refl _))
 go_wp2
 go_ret2
 exact ⟨rfl,hN1,hB1⟩
end
section
def StrRow (w:World) (X:List Nat) (v:Value) (l:List ByteArray):Prop :=
 ∃ a cap,v=.slice a l.length cap∧l.length≤cap∧cap≤maxLen∧(0<l.length→∃ b off,a=some ⟨b,off,none⟩∧b∈X∧b<w.heap.size∧∀ j,j<l.length→w.cell? ⟨b,off+j,none⟩=some (.string (l.getD j ByteArray.empty)))
theorem StrRow.keep {w w':World} {X X':List Nat} {v:Value} {l:List ByteArray} (h:StrRow w X v l) (k:Same X w w') (hX:∀ c,c∈X→c∈X'):StrRow w' X' v l:=by
 obtain ⟨a,cap,h1,h2,h3,h4⟩:=h
 refine ⟨a,cap,h1,h2,h3,fun hl=>?_⟩
 obtain ⟨b,off,e,hb,hlt,hc⟩:=h4 hl
 exact ⟨b,off,e,hX b hb,Nat.lt_of_lt_of_le hlt k.1,fun j hj=>(k.cell (p:=⟨b,off+j,none⟩) hb).trans (hc j hj)⟩
theorem StrRow.nil (w:World) (X:List Nat):StrRow w X (.slice none 0 0) []:=⟨none,0,rfl,Nat.le_refl _,by decide,fun h=>absurd h (Nat.lt_irrefl _)⟩
theorem StrRow.rest {w:World} {X:List Nat} {b off cap:Nat} {d:ByteArray} {l:List ByteArray} (h:StrRow w X (.slice (some ⟨b,off,none⟩) (l.length+1) cap) (d::l)):StrRow w X (.slice (some ⟨b,if cap=1 then off else off+1,none⟩) l.length (cap - 1)) l:=by
 obtain ⟨a,cap',h1,h2,h3,h4⟩:=h
 injection h1 with e1 _ e3
 subst e3
 refine ⟨_,cap - 1,rfl,by simp at h2;omega,by omega,fun hl=>?_⟩
 obtain ⟨b',off',e,hb,hlt,hc⟩:=h4 (by simp)
 rw [← e1] at e
 injection e with e
 injection e with e5 e6
 subst e5;subst e6
 refine ⟨b,_,rfl,hb,hlt,fun j hj=>?_⟩
 have hne:cap≠1:=by simp at h2;omega
 rw [if_neg hne]
 have:=hc (j+1) (by simp;omega)
 rw [show off+1+j=off+(j+1) by omega]
 (first | (simp; done) | simpa using this)
def PortsIs (w:World) (X:List Nat) (b:Nat) (ports:Nat→Nat→List ByteArray):Prop :=
 ∃ g,MapII w b g∧∀ i j,i<8→j<16→(g i j=none∧ports i j = [])∨∃ v,g i j=some v∧StrRow w X v (ports i j)
theorem PortsIs.look {w:World} {X:List Nat} {b:Nat} {ports:Nat→Nat→List ByteArray} (h:PortsIs w X b ports) {i j:Nat} (hi:i<8) (hj:j<16):∃ v,(Instr.lookup 62 (.map (some b)) (key2 i j) false).run Tryz.prog w=.ok v w∧StrRow w X v (ports i j):=by
 obtain ⟨g,hg,hr⟩:=h
 have hl:=hg.look (t:=62) (e:=106) Tryz.underlying62 (Tryz.zeroValue106 w) hi hj
 rcases hr i j hi hj with ⟨h1,h2⟩ | ⟨v,h1,h2⟩
 ·rw [h1] at hl
  rw [h2]
  exact ⟨_,hl,StrRow.nil _ _⟩
 ·rw [h1] at hl
  exact ⟨v,hl,h2⟩
theorem PortsIs.put {w:World} {X:List Nat} {b:Nat} {ports:Nat→Nat→List ByteArray} (h:PortsIs w X b ports) (hbX:b∉X) {i j:Nat} (hi:i<8) (hj:j<16) {v:Value} {l:List ByteArray} (hv:StrRow w X v l):∃ w',(Instr.mapUpdate 62 (.map (some b)) (key2 i j) v).run Tryz.prog w=.ok () w'∧PortsIs w' X b (fun i' j'=>if i'=i∧j'=j then l else ports i' j')∧Turns b b w w':=by
 obtain ⟨g,hg,hr⟩:=h
 obtain ⟨w',h1,h2,h3⟩:=hg.put (t:=62) (e:=106) Tryz.underlying62 v hi hj
 have hs:∀ v l,StrRow w X v l→StrRow w' X v l:=fun v l q=>by
  obtain ⟨a,cap,q1,q2,q3,q4⟩:=q
  refine ⟨a,cap,q1,q2,q3,fun hl=>?_⟩
  obtain ⟨c,off,e,hc,hlt,hcc⟩:=q4 hl
  have hne:c≠b:=fun e=>hbX (e▸hc)
  exact ⟨c,off,e,hc,Nat.lt_of_lt_of_le hlt h3.size,fun j hj=>(h3.cell (p:=⟨c,off+j,none⟩) hlt hne hne).trans (hcc j hj)⟩
 refine ⟨w',h1,⟨_,h2,fun i' j' hi' hj'=>?_⟩,h3⟩
 by_cases q:i'=i∧j'=j
 ·have e:(if i'=i∧j'=j then l else ports i' j')=l:=if_pos q
  refine .inr ⟨v,if_pos q,?_⟩
  simp only [e]
  exact hs v l hv
 ·have e:(if i'=i∧j'=j then l else ports i' j')=ports i' j':=if_neg q
  rcases hr i' j' hi' hj' with ⟨q1,q2⟩ | ⟨u,q1,q2⟩
  ·exact .inl ⟨(if_neg q).trans q1,e.trans q2⟩
  ·refine .inr ⟨u,(if_neg q).trans q1,?_⟩
   simp only [e]
   exact hs u _ q2
theorem pow_small16 (n:Nat) (h:n≤15):1≤(2:Int) ^ n∧(2:Int) ^ n≤32768:=by
 have:n=0∨n=1∨n=2∨n=3∨n=4∨n=5∨n=6∨n=7∨n=8∨n=9∨n=10∨n=11∨n=12∨n=13∨n=14∨n=15:=by omega
 rcases this with rfl | rfl | rfl | rfl | rfl | rfl | rfl | rfl | rfl | rfl | rfl | rfl | rfl | rfl | rfl | rfl <;> decide
end
section
theorem RefSendr.setNow {w:World} {B P:Nat} {bag queue:Int} {all:List ByteArray} {v:Value} {went:Nat} {last now:Int} (h:RefSendr w B P bag queue all v went last now) (x:Int):RefSendr (w.setCell ⟨P,5,none⟩ (.int .i64 x)) B P bag queue all v went last x :=
 ⟨(cell_other (.inr (by decide))).trans h.c0,(cell_other (.inr (by decide))).trans h.c1,(cell_other (.inr (by decide))).trans h.c2,(cell_other (.inr (by decide))).trans h.c3,(cell_other (.inr (by decide))).trans h.c4,cell_set h.c5,fun i=>soft_set.trans (h.z i),owns_put h.own h.lp,h.lp,by simpa using h.lb,h.we⟩
theorem RefSendr.setLast {w:World} {B P:Nat} {bag queue:Int} {all:List ByteArray} {v:Value} {went:Nat} {last now:Int} (h:RefSendr w B P bag queue all v went last now) (x:Int):RefSendr (w.setCell ⟨P,4,none⟩ (.int .i64 x)) B P bag queue all v went x now :=
 ⟨(cell_other (.inr (by decide))).trans h.c0,(cell_other (.inr (by decide))).trans h.c1,(cell_other (.inr (by decide))).trans h.c2,(cell_other (.inr (by decide))).trans h.c3,cell_set h.c4,(cell_other (.inr (by decide))).trans h.c5,fun i=>soft_set.trans (h.z i),owns_put h.own h.lp,h.lp,by simpa using h.lb,h.we⟩
theorem RefSendr.setWent {w:World} {B P:Nat} {bag queue:Int} {all:List ByteArray} {v:Value} {went:Nat} {last now:Int} (h:RefSendr w B P bag queue all v went last now) (x:Nat) (hx:x≤all.length):RefSendr (w.setCell ⟨P,3,none⟩ (.int .i64 x)) B P bag queue all v x last now :=
 ⟨(cell_other (.inr (by decide))).trans h.c0,(cell_other (.inr (by decide))).trans h.c1,(cell_other (.inr (by decide))).trans h.c2,cell_set h.c3,(cell_other (.inr (by decide))).trans h.c4,(cell_other (.inr (by decide))).trans h.c5,fun i=>soft_set.trans (h.z i),owns_put h.own h.lp,h.lp,by simpa using h.lb,hx⟩
theorem refSend_range {w:World} {B P:Nat} {bag queue:Int} {all:List ByteArray} {v:Value} {went:Nat} {last now:Int} (h:RefSendr w B P bag queue all v went last now) (t:Int) (ht:¬ (0≤t∧t≤1099511627776)) :
  Calls Tryz.prog 44 #[.pointer (some ⟨P,0,none⟩),.int .i64 t] w fun e w'=>e=.returned (.tuple #[.int .i64 0,emptyS,.int .i64 2])∧w'=w:=by
 have _:=h
 have hI:=in_is t 0 1099511627776 w
 rw [decide_eq_false ht] at hI
 clear ht
 go_enter Tryz.func44,Tryz.ntmps44
 go_wp2_with fail
 refine hI.mono ?_
 rintro e w1 ⟨rfl,hw1⟩
 replace hw1:=hw1.symm
 subst hw1
 go_wp2
 go_ret3
 exact ⟨rfl,rfl⟩
theorem refSend_order {w:World} {B P:Nat} {bag queue:Int} {all:List ByteArray} {v:Value} {went:Nat} {last now:Int} (h:RefSendr w B P bag queue all v went last now) (t:Int) (ht:0≤t∧t≤1099511627776) (hn:t<now) :
  Calls Tryz.prog 44 #[.pointer (some ⟨P,0,none⟩),.int .i64 t] w fun e w'=>e=.returned (.tuple #[.int .i64 0,emptyS,.int .i64 10])∧w'=w:=by
 have hI:=in_is t 0 1099511627776 w
 rw [decide_eq_true ht] at hI
 obtain ⟨c0,c1,c2,c3,c4,c5,z,own,lp,lb,we⟩:=h
 have hlp:P<w.heap.size:=by omega
 clear ht own z
 go_enter Tryz.func44,Tryz.ntmps44
 go_wp2_with fail
 refine hI.mono ?_
 rintro e w1 ⟨rfl,hw1⟩
 replace hw1:=hw1.symm
 subst hw1
 go_wp2
 go_ret3
 exact ⟨rfl,rfl⟩
theorem refSend_none {w:World} {B P:Nat} {bag queue:Int} {all:List ByteArray} {v:Value} {went:Nat} {last now:Int} (h:RefSendr w B P bag queue all v went last now) (t:Int) (ht:0≤t∧t≤1099511627776) (hn:now≤t) (hno:noneB all.length went t last bag=true) (hl0:0≤last) (hl:last≤1099511627776) (hb0:0≤bag) (hb:bag≤1099511627776) :
  Calls Tryz.prog 44 #[.pointer (some ⟨P,0,none⟩),.int .i64 t] w fun e w'=>e=.returned (.tuple #[.int .i64 0,emptyS,.int .i64 8])∧RefSendr w' B P bag queue all v went last t∧Turns P P w w':=by
 have HH:Hid (RefSendr w B P bag queue all v went last now):=h
 have hI:=in_is t 0 1099511627776 w
 rw [decide_eq_true ht] at hI
 obtain ⟨c0,c1,c2,c3,c4,c5,z,own,lp,lb,we⟩:=h
 obtain ⟨a,cap,rfl⟩:=owns_form own
 have hlp:P<w.heap.size:=by omega
 have z5:=z 5
 have hn2:decide (t<now)=false:=decide_eq_false (by omega)
 clear own z
 obtain ⟨n,hN⟩:∃ n,all.length=n:=⟨_,rfl⟩
 rw [hN] at hno c2 we HH
 rw [hN]
 have HX:Hid (RefSendr (w.setCell ⟨P,5,none⟩ (.int .i64 t)) B P bag queue all (.slice a n cap) went last t):=HH.out.setNow t
 have HT:Hid (Turns P P w (w.setCell ⟨P,5,none⟩ (.int .i64 t))):=(Turns.refl _ _ _).set (p:=⟨P,5,none⟩) (.inl rfl) _
 clear hN HH
 by_cases e1:went=n
 ·have k1:((went:Int) == (n:Int))=true:=by simp;omega
  clear hno e1
  go_enter Tryz.func44,Tryz.ntmps44
  go_wp2_with fail
  refine hI.mono ?_
  rintro e w1 ⟨rfl,hw1⟩
  replace hw1:=hw1.symm
  subst hw1
  go_wp2_with fail
  go_quiet (fail)
  go_wp2
  go_ret3
  exact ⟨rfl,HX.out.drawn _,HT.out.trans (Turns.drawn _)⟩
 ·have k1:((went:Int) == (n:Int))=false:=by simp;omega
  unfold noneB at hno
  rw [decide_eq_false e1,Bool.false_or,Bool.and_eq_true,decide_eq_true_eq,decide_eq_true_eq] at hno
  obtain ⟨k2,k3⟩:=hno
  have k4:(0:Int)<(went:Int):=by omega
  clear e1
  go_enter Tryz.func44,Tryz.ntmps44
  go_wp2_with fail
  refine hI.mono ?_
  rintro e w1 ⟨rfl,hw1⟩
  replace hw1:=hw1.symm
  subst hw1
  go_wp2_with fail
  go_quiet (fail)
  go_wp2
  go_ret3
  exact ⟨rfl,HX.out.drawn _,HT.out.trans (Turns.drawn _)⟩
theorem row_str {w:World} {B P:Nat} {bag queue:Int} {all:List ByteArray} {v:Value} {went:Nat} {last now:Int} (h:RefSendr w B P bag queue all v went last now) (k:Nat) (hk:k<all.length):∃ g cap,v=.slice (some ⟨g,0,none⟩) all.length cap∧B≤g∧w.cell? ⟨g,k,none⟩=some (.string (all.getD k ByteArray.empty)):=by
 obtain ⟨g,cap,hv,hg,hc⟩:=owns_some h.own (by omega)
 refine ⟨g,cap,hv,hg,?_⟩
 have:=hc k (.string (all.getD k ByteArray.empty)) (by simp [List.getD,hk])
 rwa [add_at,Nat.zero_add] at this
theorem refSend_ok {w:World} {B P:Nat} {bag queue:Int} {all:List ByteArray} {v:Value} {went:Nat} {last now:Int} (h:RefSendr w B P bag queue all v went last now) (t:Int) (ht:0≤t∧t≤1099511627776) (hn:now≤t) (hno:noneB all.length went t last bag=false) (ha:all.length≤1000000) (hl0:0≤last) (hl:last≤1099511627776) (hb0:0≤bag) (hb:bag≤1099511627776) :
  Calls Tryz.prog 44 #[.pointer (some ⟨P,0,none⟩),.int .i64 t] w fun e w'=>e=.returned (.tuple #[.int .i64 (ordN went),.string (all.getD went ByteArray.empty),.int .i64 0])∧RefSendr w' B P bag queue all v (went+1) t t∧Turns P P w w':=by
 have HH:Hid (RefSendr w B P bag queue all v went last now):=h
 have hI:=in_is t 0 1099511627776 w
 rw [decide_eq_true ht] at hI
 have hwl:went<all.length:=by
  have:=h.we
  unfold noneB at hno
  simp only [Bool.or_eq_false_iff,decide_eq_false_iff_not] at hno
  omega
 obtain ⟨g,cap,hv,hgB,hcell⟩:=row_str h went hwl
 obtain ⟨c0,c1,c2,c3,c4,c5,z,own,lp,lb,we⟩:=h
 subst hv
 have hlp:P<w.heap.size:=by omega
 have hgl:g<w.heap.size:=(own.lt g rfl).2
 have hne:g≠P:=by omega
 have hne2:P≠g:=by omega
 have z5:=z 5
 have z4:=z 4
 have z3:=z 3
 have hn2:decide (t<now)=false:=decide_eq_false (by omega)
 clear own z
 obtain ⟨n,hN⟩:∃ n,all.length=n:=⟨_,rfl⟩
 rw [hN] at hno c2 ha we HH hwl
 rw [hN]
 have HNN:Hid (all.length=n):=hN
 have hO:=refOrder_any went (by omega)
 generalize all.getD went ByteArray.empty=D at *
 clear hN
 have hwr1:(went:Int)+1 - 1=(went:Int):=by omega
 have k1:((went:Int) == (n:Int))=false:=by simp;omega
 have kk:(went:Int)<(n:Int):=by omega
 by_cases e0:went=0
 ·have k4:decide (0<went)=false:=decide_eq_false (by omega)
  clear hno e0
  go_enter Tryz.func44,Tryz.ntmps44
  go_wp2_with fail
  refine hI.mono ?_
  rintro e w1 ⟨rfl,hw1⟩
  replace hw1:=hw1.symm
  subst hw1
  go_wp2_with fail
  go_quiet (fail)
  have hX:RefSendr ((((w.setCell ⟨P,5,none⟩ (.int .i64 t)).drewN nq).setCell ⟨P,4,none⟩ (.int .i64 t)).setCell ⟨P,3,none⟩ (.int .i64 ((went:Int)+1))) B P bag queue all (.slice (some ⟨g,0,none⟩) n cap) (went+1) t t:=by
   have:=(((HH.out.setNow t).drawn nq).setLast t).setWent (went+1) (by rw [HNN.out];omega)
   simpa using this
  have HX:Hid _:=hX
  have HT:Hid (Turns P P w ((((w.setCell ⟨P,5,none⟩ (.int .i64 t)).drewN nq).setCell ⟨P,4,none⟩ (.int .i64 t)).setCell ⟨P,3,none⟩ (.int .i64 ((went:Int)+1)))):=((((Turns.refl _ _ _).set (p:=⟨P,5,none⟩) (.inl rfl) _).trans (Turns.drawn nq)).set (p:=⟨P,4,none⟩) (.inl rfl) _).set (p:=⟨P,3,none⟩) (.inl rfl) _
  clear hX
  rename Nat=>nq1
  go_wp2_with fail
  go_quiet ((go_at_call 77;refine Calls.quiet_of_same (hO _)))
  go_wp2
  go_ret3
  exact ⟨rfl,HX.out.drawn _,HT.out.trans (Turns.drawn _)⟩
 ·have k4:0<went:=by omega
  have k5:decide (t<last+bag)=false:=by
   unfold noneB at hno
   rw [decide_eq_true (show 0<went by omega)] at hno
   simp only [Bool.true_and,Bool.or_eq_false_iff] at hno
   exact hno.2
  clear hno e0
  go_enter Tryz.func44,Tryz.ntmps44
  go_wp2_with fail
  refine hI.mono ?_
  rintro e w1 ⟨rfl,hw1⟩
  replace hw1:=hw1.symm
  subst hw1
  go_wp2_with fail
  go_quiet (fail)
  have hX:RefSendr ((((w.setCell ⟨P,5,none⟩ (.int .i64 t)).drewN nq).setCell ⟨P,4,none⟩ (.int .i64 t)).setCell ⟨P,3,none⟩ (.int .i64 ((went:Int)+1))) B P bag queue all (.slice (some ⟨g,0,none⟩) n cap) (went+1) t t:=by
   have:=(((HH.out.setNow t).drawn nq).setLast t).setWent (went+1) (by rw [HNN.out];omega)
   simpa using this
  have HX:Hid _:=hX
  have HT:Hid (Turns P P w ((((w.setCell ⟨P,5,none⟩ (.int .i64 t)).drewN nq).setCell ⟨P,4,none⟩ (.int .i64 t)).setCell ⟨P,3,none⟩ (.int .i64 ((went:Int)+1)))):=((((Turns.refl _ _ _).set (p:=⟨P,5,none⟩) (.inl rfl) _).trans (Turns.drawn nq)).set (p:=⟨P,4,none⟩) (.inl rfl) _).set (p:=⟨P,3,none⟩) (.inl rfl) _
  clear hX
  rename Nat=>nq1
  go_wp2_with fail
  go_quiet ((go_at_call 77;refine Calls.quiet_of_same (hO _)))
  go_wp2
  go_ret3
  exact ⟨rfl,HX.out.drawn _,HT.out.trans (Turns.drawn _)⟩
end
section
theorem RefRecv.keep {w w':World} {P:Nat} {nw a b:Int} (h:RefRecv w P nw a b) (k:Same [P] w w'):RefRecv w' P nw a b :=
 have hp:P∈[P]:=List.mem_singleton.2 rfl
 ⟨(k.cell (p:=⟨P,0,none⟩) hp).trans h.c0,(k.cell (p:=⟨P,1,none⟩) hp).trans h.c1,(k.cell (p:=⟨P,2,none⟩) hp).trans h.c2,fun i=>(k.frozen (p:=⟨P,i,none⟩) hp).trans (h.z i),Nat.lt_of_lt_of_le h.lp k.1⟩
theorem RefRecv.lt {w:World} {P:Nat} {nw a b:Int} (h:RefRecv w P nw a b):∀ c,c∈[P]→c<w.heap.size:=fun c hc=>by rw [List.mem_singleton.1 hc];exact h.lp
theorem refTake_all {w:World} {P:Nat} {nw a b:Int} (h:RefRecv w P nw a b) (seq:Int) (hn2:nw≤255) (ha0:0≤a) (ha:a≤4611686018427387904) (hb0:0≤b) (hb:b≤4611686018427387904) :
  Calls Tryz.prog 46 #[.pointer (some ⟨P,0,none⟩),.int .i64 seq] w fun e w'=>e=.returned (.bool (takeB nw seq))∧RefRecv w' P (tkNew (takeB nw seq) seq nw) (tkTold (takeB nw seq) a) (tkNot (takeB nw seq) b)∧Foot [P] [P] w w' :=
 (refTake_any h seq hn2 ha0 ha hb0 hb).mono fun _ _ ⟨he,hr,ht⟩=>⟨he,hr,Foot.of_turns ht (List.mem_singleton.2 rfl) (List.mem_singleton.2 rfl)⟩
theorem refRcv_new {w:World} (x:Int):RefRecv (w.alloc (.cells #[.int .i64 x,.int .i64 0,.int .i64 0] 111)) w.heap.size x 0 0:=by
 have c:∀ (i:Nat) (u:Value),(#[.int .i64 x,.int .i64 0,.int .i64 0]:Array Value)[i]? = some u→(w.alloc (.cells #[.int .i64 x,.int .i64 0,.int .i64 0] 111)).cell? ⟨w.heap.size,i,none⟩=some u:=fun i u hi=>by
  simp
  simpa using hi
 exact ⟨c 0 _ rfl,c 1 _ rfl,c 2 _ rfl,fun i=>by simp,by simp⟩
end
section
structure RefNode (w:World) (P Q:Nat) (id:Int) (n:Nat) (t:Nat→Bool) (g b:Int) (fz:Bool):Prop where
 c0:w.cell? ⟨P,0,none⟩=some (.int .i64 id)
 c1:w.cell? ⟨P,1,none⟩=some (.int .i64 n)
 c2:w.cell? ⟨P,2,none⟩=some (.slice (some ⟨Q,0,none⟩) n n)
 c3:w.cell? ⟨P,3,none⟩=some (.int .i64 g)
 c4:w.cell? ⟨P,4,none⟩=some (.int .i64 b)
 c5:w.cell? ⟨P,5,none⟩=some (.bool fz)
 z:∀ i,w.frozen? ⟨P,i,none⟩=false
 row:∀ j,j<n→w.cell? ⟨Q,j,none⟩=some (.bool (t j))
 zr:∀ j,w.frozen? ⟨Q,j,none⟩=false
 ne:P≠Q
 lp:P<w.heap.size
 lq:Q<w.heap.size
theorem refBits_any {w:World} {P Q:Nat} {id:Int} {n:Nat} {t:Nat→Bool} {g b:Int} {fz:Bool} (h:RefNode w P Q id n t g b fz) (hn:n≤16) :
  Calls Tryz.prog 21 #[.pointer (some ⟨P,0,none⟩)] w fun e w'=>e=.returned (.int .i64 (bitsV t n))∧w'=w:=by
 have HR:Hid (∀ j,j<n→w.cell? ⟨Q,j,none⟩=some (.bool (t j))):=h.row
 obtain ⟨_,_,c2,_,_,_,_,_,_,_,lp,lq⟩:=h
 go_enter Tryz.func21,Tryz.ntmps21
 go_wp2_with fail
 go_loopw [11,3] (fun q v wr=>∃ k:Nat,k≤n∧q=.int .i64 k∧v=.int .i64 (bitsV t k)∧wr=w) (fun q _ _=>n - (intOf q).toNat)
 case atStart=>exact ⟨0,Nat.zero_le _,rfl,rfl,rfl⟩
 case round =>
  obtain ⟨k,hk,rfl,rfl,hwr⟩:=hrel
  subst hwr
  by_cases hlt:k<n
  ·have r0:=HR.out k hlt
   have kk:(k:Int)<(n:Int):=by omega
   have b0:=bitsV_in t k
   have p0:=pow_pos k
   have p1:(2:Int) ^ k≤2 ^ 16:=pow_le (by omega)
   have p2:(2:Int) ^ 16=65536:=by decide
   have HS:Hid (bitsV t (k+1)=bitsV t k+(if t k=true then 2 ^ k else 0)):=rfl
   cases ht:t k
   ·rw [ht] at r0 HS
    go_wp2
    exact ⟨⟨k+1,by omega,by go_num,by rw [HS.out];simp,trivial⟩,by simp [intOf];omega⟩
   ·rw [ht] at r0 HS
    go_wp2
    exact ⟨⟨k+1,by omega,by go_num,by rw [HS.out];simp,trivial⟩,by simp [intOf];omega⟩
  ·go_wp2
   go_ret
   obtain rfl:k=n:=by omega
   exact ⟨rfl,rfl⟩
theorem RefNode.good {w:World} {P Q:Nat} {id:Int} {n:Nat} {t:Nat→Bool} {g b:Int} {fz:Bool} (h:RefNode w P Q id n t g b fz) (g':Int):RefNode (w.setCell ⟨P,3,none⟩ (.int .i64 g')) P Q id n t g' b fz :=
 ⟨(cell_other (.inr (by decide))).trans h.c0,(cell_other (.inr (by decide))).trans h.c1,(cell_other (.inr (by decide))).trans h.c2,cell_set h.c3,(cell_other (.inr (by decide))).trans h.c4,(cell_other (.inr (by decide))).trans h.c5,fun i=>soft_set.trans (h.z i),fun j hj=>(cell_other (.inl (Ne.symm h.ne))).trans (h.row j hj),fun j=>soft_set.trans (h.zr j),h.ne,by simpa using h.lp,by simpa using h.lq⟩
theorem RefNode.bad {w:World} {P Q:Nat} {id:Int} {n:Nat} {t:Nat→Bool} {g b:Int} {fz:Bool} (h:RefNode w P Q id n t g b fz) (b':Int):RefNode (w.setCell ⟨P,4,none⟩ (.int .i64 b')) P Q id n t g b' fz :=
 ⟨(cell_other (.inr (by decide))).trans h.c0,(cell_other (.inr (by decide))).trans h.c1,(cell_other (.inr (by decide))).trans h.c2,(cell_other (.inr (by decide))).trans h.c3,cell_set h.c4,(cell_other (.inr (by decide))).trans h.c5,fun i=>soft_set.trans (h.z i),fun j hj=>(cell_other (.inl (Ne.symm h.ne))).trans (h.row j hj),fun j=>soft_set.trans (h.zr j),h.ne,by simpa using h.lp,by simpa using h.lq⟩
theorem RefNode.freeze {w:World} {P Q:Nat} {id:Int} {n:Nat} {t:Nat→Bool} {g b:Int} {fz:Bool} (h:RefNode w P Q id n t g b fz) (f':Bool):RefNode (w.setCell ⟨P,5,none⟩ (.bool f')) P Q id n t g b f' :=
 ⟨(cell_other (.inr (by decide))).trans h.c0,(cell_other (.inr (by decide))).trans h.c1,(cell_other (.inr (by decide))).trans h.c2,(cell_other (.inr (by decide))).trans h.c3,(cell_other (.inr (by decide))).trans h.c4,cell_set h.c5,fun i=>soft_set.trans (h.z i),fun j hj=>(cell_other (.inl (Ne.symm h.ne))).trans (h.row j hj),fun j=>soft_set.trans (h.zr j),h.ne,by simpa using h.lp,by simpa using h.lq⟩
theorem RefNode.take {w:World} {P Q:Nat} {id:Int} {n:Nat} {t:Nat→Bool} {g b:Int} {fz:Bool} (h:RefNode w P Q id n t g b fz) (k:Nat) (x:Bool) (hk:k<n):RefNode (w.setCell ⟨Q,k,none⟩ (.bool x)) P Q id n (fun j=>if j=k then x else t j) g b fz :=
 ⟨(cell_other (.inl h.ne)).trans h.c0,(cell_other (.inl h.ne)).trans h.c1,(cell_other (.inl h.ne)).trans h.c2,(cell_other (.inl h.ne)).trans h.c3,(cell_other (.inl h.ne)).trans h.c4,(cell_other (.inl h.ne)).trans h.c5,fun i=>soft_set.trans (h.z i),fun j hj=>by
  by_cases e:j=k
  ·subst e;rw [if_pos rfl];exact cell_set (h.row j hj)
  ·rw [if_neg e];exact (cell_other (.inr e)).trans (h.row j hj),fun j=>soft_set.trans (h.zr j),h.ne,by simpa using h.lp,by simpa using h.lq⟩
theorem RefNode.drawn {w:World} {P Q:Nat} {id:Int} {n:Nat} {t:Nat→Bool} {g b:Int} {fz:Bool} (h:RefNode w P Q id n t g b fz) (q:Nat):RefNode (w.drewN q) P Q id n t g b fz:=⟨h.c0,h.c1,h.c2,h.c3,h.c4,h.c5,h.z,h.row,h.zr,h.ne,h.lp,h.lq⟩
theorem RefNode.same {w:World} {P Q:Nat} {id:Int} {n:Nat} {t:Nat→Bool} {g b:Int} {fz:Bool} {t':Nat→Bool} (h:RefNode w P Q id n t g b fz) (e:∀ j,j<n→t' j=t j):RefNode w P Q id n t' g b fz:=⟨h.c0,h.c1,h.c2,h.c3,h.c4,h.c5,h.z,fun j hj=>by rw [e j hj];exact h.row j hj,h.zr,h.ne,h.lp,h.lq⟩
end
section
open Go.RowKit Go.Extern.Stop Go.Stop Go.Extern
theorem bareF_any (k:Int) (w:World):Calls Tryz.prog 32 #[.int .i64 k] w fun e w'=>e=.returned (.agg #[.int .i64 k,.int .i64 (-1)])∧Below w.heap.size w w':=by
 go_enter Tryz.func32,Tryz.ntmps32
 go_wp2
 refine bodyPost_ret (v:=.agg #[.int .i64 k,.int .i64 (-1)]) (by simp [results,Tryz.results32,go_sem]) rfl ⟨rfl,?_⟩
 repeat (refine Below.alloc ?_ (by simp;try omega) _)
 exact Below.refl _ _
def BareSays (E:Value) (k:Int):Prop:=∀ w:World,Told w→Calls Tryz.prog 8 #[E,.int .i64 k] w fun e w'=>e=.returned (.bool true)∧Below w.heap.size w w'
theorem bare_any (E:Value) (k:Int) (hP:∀ v:World,Told v→Calls Tryz.prog 35 #[E] v fun e w'=>e=.returned (.tuple #[.int .i64 k,.int .i64 (-1)])∧Below v.heap.size v w'):BareSays E k:=by
 intro w hg
 have hi:=fun v hv=>is_any E k (-1) v (fun u hu _=>hP u hu) hv
 clear hP
 go_enter Tryz.func8,Tryz.ntmps8
 go_wp2_with fail
 refine (bareF_any _ _).mono ?_
 rintro e w1 ⟨rfl,hb⟩
 go_wp2_with fail
 refine (hi _ (hg.below hb)).mono ?_
 rintro e w2 ⟨rfl,hb2⟩
 go_wp2
 go_ret
 exact ⟨rfl,hb.trans (hb2.mono hb.size)⟩
theorem bare_nil:BareSays .nilIface 0:=bare_any _ _ fun v _=>place_nil v
theorem bare_e (k:Int):BareSays (.iface 36 (.int .i64 k)) k:=bare_any _ _ fun v hv=>place_e k v hv
end
section
def NewRow (v v':World) (cs:List Int) (ca:Option Addr):Prop :=
 Below v.heap.size v v'∧((cs = []∧v'=v)∨(ca=some ⟨v.heap.size,0,none⟩∧v'.heap.size=v.heap.size+1∧∀ j,j<cs.length→v'.cell? ⟨v.heap.size,j,none⟩=some (.int .i64 (cs.getD j 0))))
theorem step_copy {ops:Array Oper} {o:Oper} {a:Act} {K:Act→World→Prop} {Q:Exit→Act→World→Prop} {E:Prop} {v:World} (hgd:o.guard=none) (s x:Operand)
  (ho:o.op=.call { callee:=.builtin .append,args:=#[s,x],argTypes:=#[27,27] }) (B:Nat) (hs:a.eval s=.slice (some ⟨B,0,none⟩) 0 0) (ca:Option Addr) (n cap:Nat) (cs:List Int)
  (hx:a.eval x=.slice ca n cap) (hn:cs.length=n) (hrow:IntRow v ca cs) (hlen:n≤1000)
  (h:∀ v' ca' cap',NewRow v v' cs ca'→K (a.put o.dst (.slice ca' n cap')) v'):if Region.wanted o (yielded ops a.tmps)=true then Oper.wp Tryz.prog o a v K Q else E:=by
 have hw:Region.wanted o (yielded ops a.tmps)=true:=by simp [Region.wanted,hgd]
 rw [if_pos hw]
 subst hn
 obtain ⟨i0,hi,hz0,hz1,hz2⟩:=info_parts Tryz.infoInt
 cases cs with
 | nil =>
  have hsrc:Src Tryz.prog i0.size 27 (.slice ca 0 cap) 0 [] v:=by
   cases ca with
   | none=>exact Src.ofNil v Tryz.underlying27 cap
   | some c=>exact Src.ofSlice v Tryz.underlying27 c 0 cap [] (by simp) (fun j u h=>by simp at h) (fun u h=>by cases h)
  have hr:=run_append_nothing v 27 27 o.type 3 i0 Tryz.underlying27 hi (some ⟨B,0,none⟩) 0 0 (Nat.le_refl _) _ hsrc
  unfold Oper.wp execOp
  simp only [ho,resolve,invoke,builtin,Sem.run_bind,Sem.run_pure,Result.andThen_ok,List.map_toArray,List.map_cons,List.map_nil,hs,hx,List.length_nil,hr]
  exact h v (some ⟨B,0,none⟩) 0 ⟨Below.refl _ _,.inl ⟨rfl,rfl⟩⟩
 | cons y ys =>
  obtain ⟨b,off,rfl,hbl,hc⟩:=hrow (by simp)
  have hsrc:Src Tryz.prog i0.size 27 (.slice (some ⟨b,off,none⟩) (y::ys).length cap) (y::ys).length ((y::ys).map (Value.int .i64)) v:=by
   refine Src.ofSlice v Tryz.underlying27 ⟨b,off,none⟩ _ cap _ (by rw [hz1];simp) (fun j u hu=>?_) (ints_one _)
   rw [add_at]
   rw [List.getElem?_map] at hu
   cases e:(y::ys)[j]? with
   | none=>rw [e] at hu;cases hu
   | some z =>
    rw [e] at hu
    have hj:j<(y::ys).length:=(List.getElem?_eq_some_iff.1 e).1
    have:=hc j hj
    rw [List.getD_eq_getElem?_getD,e] at this
    rw [← Option.some.inj hu]
    exact this
  have hfit:Builtin.nextslicecap (0+(y::ys).length) 0*i0.bytes≤281474976710656:=growslice_fits (by simp) (by rw [hz2];omega)
  have hr:=run_append_grow_src (P:=Tryz.prog) v 27 27 o.type 3 i0 (.int .i64 0) Tryz.underlying27 hi hz0 (some ⟨B,0,none⟩) 0 0 [] (run_firstCells_some v.drew i0.size 0 ⟨B,0,none⟩ 0 0 [] (by simp) (fun j u h=>by simp at h)) _ _ _ hsrc (by simp) (by omega) hfit
  unfold Oper.wp execOp
  simp only [ho,resolve,invoke,builtin,Sem.run_bind,Sem.run_pure,Result.andThen_ok,List.map_toArray,List.map_cons,List.map_nil,hs,hx] at hr ⊢
  rw [hr]
  simp only [Nat.zero_add]
  refine h _ _ _ ⟨((Below.refl _ _).drew).alloc (Nat.le_refl _) _,.inr ⟨rfl,by simp,fun j hj=>?_⟩⟩
  have e1:=World.cell?_alloc_new v.drew ((([]:List Value) ++ Value.int .i64 y::ys.map (Value.int .i64)).toArray ++ Builtin.zeroCells (Value.int .i64 0).cells (grownCap v (y::ys).length 0 3 - (y::ys).length)) 3 j
  refine e1.trans ?_
  have hj':j<ys.length+1:=hj
  rw [Array.getElem?_append_left (by simp;omega)]
  simp only [List.nil_append,List.getElem?_toArray]
  rw [← List.map_cons,List.getElem?_map,List.getD_eq_getElem?_getD,List.getElem?_eq_getElem hj]
  rfl
end
section
theorem place_err {w:World} {E:Value} {k p:Int} (h:ErrIs w E k p) (v:World) (hT:Told v) (hb:Below w.heap.size w v) :
  Calls Tryz.prog 35 #[E] v fun e w'=>e=.returned (.tuple #[.int .i64 k,.int .i64 p])∧Below v.heap.size v w':=by
 rcases h with ⟨rfl,rfl,rfl⟩ | ⟨rfl,_,rfl⟩ | ⟨b,rfl,_,h1,h2⟩
 ·exact place_nil v
 ·exact place_e k v hT
 ·exact place_at k p b v hT (keep_cell h1 hb) (keep_cell h2 hb)
end
section
def leastS (tq:Nat→Int) (skew:Int) (k:Nat):Int:=if k=0 then 0 else tq (k - 1)+skew+1
theorem slotErr_span (nd fr tq:Nat→Int) (nodes skew round:Int) (k:Nat) :
  slotErr nd fr tq nodes skew round k=if spanErr (fr k) (tq k) (leastS tq skew k) (round - skew - 1)≠0 then spanErr (fr k) (tq k) (leastS tq skew k) (round - skew - 1) else if nd k<0∨nodes - 1<nd k then 7 else 0:=by
 have e:((k=0∧fr k<0)∨(0<k∧fr k≤tq (k - 1)+skew))↔fr k<leastS tq skew k:=by
  unfold leastS
  by_cases h:k=0
  ·rw [if_pos h]
   constructor
   ·rintro (⟨_,g⟩ | ⟨g,_⟩)
    ·exact g
    ·omega
   ·intro g;exact .inl ⟨h,g⟩
  ·rw [if_neg h]
   constructor
   ·rintro (⟨g,_⟩ | ⟨_,g⟩)
    ·exact absurd g h
    ·omega
   ·intro g;exact .inr ⟨by omega,by omega⟩
 unfold slotErr spanErr
 by_cases h1:tq k≤fr k
 ·simp [h1]
 ·rw [if_neg h1]
  by_cases h2:fr k<leastS tq skew k
  ·simp [e,h1,h2]
  ·simp only [e]
   rw [if_neg h2]
   by_cases h3:round - skew - 1<tq k
   ·simp [h1,h2,h3]
   ·simp [h1,h2,h3]
theorem span_zero {fr tq least most:Int} (h:spanErr fr tq least most=0):fr<tq∧least≤fr∧tq≤most:=by
 unfold spanErr at h
 by_cases h1:tq≤fr
 ·simp [h1] at h
 ·rw [if_neg h1] at h
  by_cases h2:fr<least
  ·simp [h2] at h
  ·rw [if_neg h2] at h
   by_cases h3:most<tq
   ·simp [h3] at h
   ·omega
theorem leastS_nonneg {nd fr tq:Nat→Int} {nodes skew round:Int} (hsk:0≤skew) {k:Nat} (h:∀ j,j<k→slotErr nd fr tq nodes skew round j=0):0≤leastS tq skew k∧leastS tq skew k≤max 0 round:=by
 unfold leastS
 by_cases h0:k=0
 ·rw [if_pos h0];omega
 ·rw [if_neg h0]
  have:=slots_up hsk h (k - 1) (by omega)
  omega
theorem slots_any (nodes faulty skew jitter drift round frame:Int) (sa la wa:Option Addr) (ns sc nl lc nw wc:Nat) (w:World)
  (a1:1≤nodes) (a2:nodes≤16) (b1:0≤skew) (b2:skew≤137438953472) (c1:1≤round) (c2:round≤137438953472) (d1:ns≤32)
  (nd fr tq:Nat→Int) (hs:Rows3 w sa ns nd fr tq) (e i:Int) (hF:FirstBad (slotErr nd fr tq nodes skew round) ns e i) :
  Calls Tryz.prog 58 #[.agg #[.int .i64 nodes,.int .i64 faulty,.int .i64 skew,.int .i64 jitter,.int .i64 drift,.int .i64 round,.slice sa ns sc,.slice la nl lc,.int .i64 frame,.slice wa nw wc]] w fun ev w'=>∃ E,ev=.returned E∧AtIs w' E e i∧Below w.heap.size w w':=by
 have HF:Hid (FirstBad (slotErr nd fr tq nodes skew round) ns e i):=hF
 clear hF
 obtain ⟨hc,hV⟩:=box10 nodes faulty skew jitter drift round frame sa la wa ns sc nl lc nw wc w 26
 replace hs:=hs.below hV
 go_enter Tryz.func58,Tryz.ntmps58
 go_wp2_with fail
 generalize w.alloc (.cells #[.int .i64 nodes,.int .i64 faulty,.int .i64 skew,.int .i64 jitter,.int .i64 drift,.int .i64 round,.slice sa ns sc,.slice la nl lc,.int .i64 frame,.slice wa nw wc] 26)=V at hc hV hs ⊢
 refine (between_any _ _ _).mono ?_
 rintro ev V1 ⟨fv,rfl,hB,hu⟩
 replace hc:=hc.below hu
 replace hs:=hs.below hu
 have hV1:Below w.heap.size w V1:=hV.trans (hu.mono hV.size)
 obtain ⟨x0,x1,x2,x3,x4,x5,x6,x7,x8,x9⟩:=hc
 have hwz:w.heap.size<V1.heap.size:=lt_of_cell x0
 go_wp2_with fail
 go_loopw [4,15] (fun lv t wr=>∃ k:Nat,k≤ns∧t=.int .i64 k∧lv=.int .i64 (leastS tq skew k)∧Hid (∀ j,j<k→slotErr nd fr tq nodes skew round j=0)∧Below V1.heap.size V1 wr) (fun _ t _=>ns - (intOf t).toNat)
 case atStart=>exact ⟨0,Nat.zero_le _,rfl,rfl,fun j hj=>absurd hj (Nat.not_lt_zero _),Below.refl _ _⟩
 case round =>
  obtain ⟨k,hk,rfl,rfl,h0,hbe⟩:=hrel
  have y2:=keep_cell x2 hbe
  have y5:=keep_cell x5 hbe
  clear x0 x1 x2 x3 x4 x5 x6 x7 x8 x9
  by_cases hlt:k<ns
  ·obtain ⟨b,off,rfl,hb,hcc⟩:=hs (by omega)
   obtain ⟨r0,r1,r2⟩:=hcc k hlt
   replace r0:=keep_cell r0 hbe
   replace r1:=keep_cell r1 hbe
   replace r2:=keep_cell r2 hbe
   clear hcc hs
   obtain ⟨se,hse⟩:∃ se,spanErr (fr k) (tq k) (leastS tq skew k) (round - skew - 1)=se:=⟨_,rfl⟩
   have HS:Hid (∀ u:World,Calls Tryz.prog 83 #[.agg #[.int .i64 (fr k),.int .i64 (tq k)],.int .i64 (leastS tq skew k),.int .i64 (round - skew - 1)] u fun ev w'=>ev=.returned (.int .i64 se)∧Below u.heap.size u w'):=fun u=>by rw [← hse];exact checkSpan_any _ _ _ _ _
   have HSE:Hid (spanErr (fr k) (tq k) (leastS tq skew k) (round - skew - 1)=se):=hse
   clear hse
   have hwr:w.heap.size<wr.heap.size:=lt_of_cell y2
   have hbr:b<wr.heap.size:=lt_of_cell r0
   go_wp2_with fail
   refine (HS.out _).mono ?_
   rintro ev w2 ⟨rfl,hb2⟩
   have hbt:Below V1.heap.size V1 w2:=stepA hbe hb2
   have z2:=keep_cell (show (wr.alloc (.cells #[.int .i64 (nd k),.int .i64 (fr k),.int .i64 (tq k)] 95)).cell? ⟨w.heap.size,2,none⟩=_ from by rw [World.cell?_alloc_lt _ _ _ hwr];exact y2) hb2
   have s0:=keep_cell (show (wr.alloc (.cells #[.int .i64 (nd k),.int .i64 (fr k),.int .i64 (tq k)] 95)).cell? ⟨wr.heap.size,0,none⟩=some (.int .i64 (nd k)) from by simp) hb2
   have s2:=keep_cell (show (wr.alloc (.cells #[.int .i64 (nd k),.int .i64 (fr k),.int .i64 (tq k)] 95)).cell? ⟨wr.heap.size,2,none⟩=some (.int .i64 (tq k)) from by simp) hb2
   clear y2 y5 r0 r1 r2 HS
   by_cases hz:se=0
   rotate_left
   ·have hn:(se == 0)=false:=by simpa using hz
    have hn2:(se != 0)=true:=by simpa using hz
    have HK:Hid (slotErr nd fr tq nodes skew round k=se):=by
     show _=_
     rw [slotErr_span,HSE.out,if_pos hz]
    have HZ:Hid (se≠0):=hz
    clear hz
    go_wp2_with fail
    refine (at_some se k HZ.out _).mono ?_
    rintro ev w3 ⟨b3,rfl,q0,q1,hb3⟩
    go_wp2
    go_ret
    obtain ⟨rfl,rfl⟩:=HF.out.is hlt h0.out HK.out HZ.out
    exact ⟨_,rfl,.inr ⟨b3,rfl,HZ.out,q0,q1⟩,hV1.trans ((stepB hbt hb3).mono hV1.size)⟩
   ·subst hz
    obtain ⟨g1,g2,g3⟩:=span_zero HSE.out
    have g4:=(leastS_nonneg b1 h0.out).1
    have hB2:Btw w2 fv 0 (nodes - 1):=hB.below hbt
    go_wp2_with fail
    by_cases hn:0≤nd k∧nd k≤nodes - 1
    rotate_left
    ·have hd:decide (0≤nd k∧nd k≤nodes - 1)=false:=decide_eq_false hn
     have HK:Hid (slotErr nd fr tq nodes skew round k=7):=by
      show _=_
      rw [slotErr_span,HSE.out,if_neg (by simp),if_pos (by omega)]
     clear hn
     refine (all_1b false fv _ _ (nd k) w2.heap.size _ _ (hB2.alloc _) (by simp) hd).mono ?_
     rintro ev w3 ⟨rfl,hb3⟩
     have hbu:=stepA hbt hb3
     go_wp2_with fail
     refine (at_some 7 k (by decide) _).mono ?_
     rintro ev w4 ⟨b4,rfl,q0,q1,hb4⟩
     go_wp2
     go_ret
     obtain ⟨rfl,rfl⟩:=HF.out.is hlt h0.out HK.out (by decide)
     exact ⟨_,rfl,.inr ⟨b4,rfl,by decide,q0,q1⟩,hV1.trans ((stepB hbu hb4).mono hV1.size)⟩
    ·have hd:decide (0≤nd k∧nd k≤nodes - 1)=true:=decide_eq_true hn
     have HK:Hid (slotErr nd fr tq nodes skew round k=0):=by
      show _=_
      rw [slotErr_span,HSE.out,if_neg (by simp),if_neg (by omega)]
     clear hn
     refine (all_1b true fv _ _ (nd k) w2.heap.size _ _ (hB2.alloc _) (by simp) hd).mono ?_
     rintro ev w3 ⟨rfl,hb3⟩
     have hbu:=stepA hbt hb3
     have z2':=keep_cell (show (w2.alloc (.cells #[.int .i64 (nd k)] 3)).cell? ⟨w.heap.size,2,none⟩=_ from by rw [World.cell?_alloc_lt _ _ _ (lt_of_cell z2)];exact z2) hb3
     have s2':=keep_cell (show (w2.alloc (.cells #[.int .i64 (nd k)] 3)).cell? ⟨wr.heap.size,2,none⟩=_ from by rw [World.cell?_alloc_lt _ _ _ (lt_of_cell s2)];exact s2) hb3
     have HL:Hid (leastS tq skew (k+1)=tq k+skew+1):=by
      show _=_
      unfold leastS;rw [if_neg (by omega)];simp
     go_wp2
     go_roundw
     case rel=>exact ⟨k+1,by omega,by go_num,by rw [HL.out],next_zero h0.out HK.out,hbu⟩
     case measure=>simp [intOf];omega
  ·go_wp2
   go_ret
   obtain ⟨rfl,rfl⟩:=HF.out.at_end (fun j hj=>h0.out j (by omega))
   exact ⟨_,rfl,.inl ⟨rfl,rfl⟩,hV1.trans (hbe.mono hV1.size)⟩
end
section
def cutV (x most:Int):Int:=max (-most) (min most x)
theorem cutV_in {x most:Int} (h:0≤most):-most≤cutV x most∧cutV x most≤most:=by
 unfold cutV
 omega
structure ReadS where
 who:Int
 of_:Int
 is_:Int
def readOne (n:Nat) (lies:Nat→Bool) (jitter:Int) (now:Nat→Int) (x:ReadS) (row:Nat→Nat→Int):Nat→Nat→Int:=fun i k =>
 if (0≤x.who∧x.who<n)∧(0≤x.of_∧x.of_<n)∧x.who≠x.of_∧(i:Int)=x.who∧(k:Int)=x.of_ then
  (if lies k=true then cutV x.is_ 549755813888 else now k - now i+cutV x.is_ jitter)
 else row i k
def readAll (n:Nat) (lies:Nat→Bool) (jitter:Int) (now:Nat→Int) (l:List ReadS):Nat→Nat→Int:=l.foldl (fun row x=>readOne n lies jitter now x row) (fun i k=>now k - now i)
theorem readAll_right {n:Nat} {lies:Nat→Bool} {jitter:Int} {now:Nat→Int} (hj:0≤jitter) (l:List ReadS):∀ i k,lies k=false→now k - now i - jitter≤readAll n lies jitter now l i k∧readAll n lies jitter now l i k≤now k - now i+jitter:=by
 have key:∀ (l:List ReadS) (row:Nat→Nat→Int),(∀ i k,lies k=false→now k - now i - jitter≤row i k∧row i k≤now k - now i+jitter)→∀ i k,lies k=false→now k - now i - jitter≤l.foldl (fun row x=>readOne n lies jitter now x row) row i k∧l.foldl (fun row x=>readOne n lies jitter now x row) row i k≤now k - now i+jitter:=by
  intro l
  induction l with
  | nil=>intro row h;exact h
  | cons x l ih =>
   intro row h
   refine ih _ fun i k hk=>?_
   have e:readOne n lies jitter now x row i k=(if (0≤x.who∧x.who<n)∧(0≤x.of_∧x.of_<n)∧x.who≠x.of_∧(i:Int)=x.who∧(k:Int)=x.of_ then (if lies k=true then cutV x.is_ 549755813888 else now k - now i+cutV x.is_ jitter) else row i k):=rfl
   show now k - now i - jitter≤readOne n lies jitter now x row i k∧readOne n lies jitter now x row i k≤now k - now i+jitter
   rw [e]
   split
   ·have hc:=cutV_in (x:=x.is_) hj
    rw [if_neg (by rw [hk];decide)]
    generalize cutV x.is_ jitter=cv at *
    exact ⟨by omega,by omega⟩
   ·exact h i k hk
 refine key l _ fun i k _=>?_
 show now k - now i - jitter≤now k - now i∧now k - now i≤now k - now i+jitter
 omega
def driftV (drifts:List Int) (drift:Int) (i:Nat):Int:=if i<drifts.length then cutV (drifts.getD i 0) drift else 0
theorem driftV_in {drifts:List Int} {drift:Int} (h:0≤drift) (i:Nat):-drift≤driftV drifts drift i∧driftV drifts drift i≤drift:=by
 unfold driftV
 split
 ·exact cutV_in h
 ·omega
def clocksTo (n f:Nat) (lies:Nat→Bool) (jitter drift:Int) (now:Nat→Int) (l:List ReadS) (drifts:List Int):Nat→Int:=fun i=>setOn n f now (readAll n lies jitter now l) i+driftV drifts drift i
def beyondB (n:Nat) (c:Nat→Int):Bool:=(List.range n).any fun i=>decide (c i < -274877906944∨274877906944<c i)
def Near1 (n:Nat) (lies:Nat→Bool) (skew:Int) (c:Nat→Int):Prop:=∀ i j,i<n→lies i=false→j<n→lies j=false→c i - c j≤skew
theorem Near1.round {n f:Nat} {lies:Nat→Bool} {skew jitter drift:Int} {now:Nat→Int} (h:Near1 n lies skew now) (l:List ReadS) (drifts:List Int) (hl:(List.range n).countP lies≤f) (h3:3*f+1≤n) (hj:0≤jitter) (hd:0≤drift) (hS:skew / 2+2*jitter+1+2*drift≤skew):Near1 n lies skew (clocksTo n f lies jitter drift now l drifts):=by
 intro i j hi oi hj' oj
 refine skew_round (ok:=fun k=>!lies k) (u:=jitter) (D:=drift) (row:=readAll n lies jitter now l) (count_ok lies n f hl) h3 hS (fun a b _ _ _ hb=>?_) (fun a b ha oa hb ob=>?_) (fun a _=>driftV_in hd a) i j hi ?_ hj' ?_
 ·exact readAll_right hj l a b (by simpa using hb)
 ·exact h a b ha (by simpa using oa) hb (by simpa using ob)
 ·simp [oi]
 ·simp [oj]
end
section

end
section

end
section
theorem pHears_not {w:World} {P:Nat} {id:Int} {n:Nat} {m g b:Int} {fz:Bool} (h:ProgNode w P id n m g b fz) (frm what:Int) (hh:hearsB id n fz frm what=false) :
  Calls Tryz.prog 75 #[.pointer (some ⟨P,0,none⟩),.int .i64 frm,.int .i64 what] w fun e w'=>e=.returned (.tuple #[])∧w'=w:=by
 obtain ⟨c0,c1,c2,c3,c4,c5,z,lp⟩:=h
 clear z
 cases fz
 ·unfold hearsB at hh
  have hh:¬ (0≤frm∧frm<n∧frm≠id∧0≤what∧what≤2):=by simpa using hh
  by_cases k1:0≤frm
  ·by_cases k2:frm<(n:Int)
   ·by_cases k3:frm=id
    ·subst k3
     clear hh
     go_enter Tryz.func75,Tryz.ntmps75
     go_wp2
     exact bodyPost_ret (v:=.tuple #[]) (by simp [results,Tryz.results75,go_sem]) rfl ⟨rfl,rfl⟩
    ·have k3':(frm == id)=false:=by simpa using k3
     have k4:(what == 0)=false:=by simp;omega
     have k5:(what == 1)=false:=by simp;omega
     have k6:(what == 2)=false:=by simp;omega
     clear hh k3
     go_enter Tryz.func75,Tryz.ntmps75
     go_wp2
     exact bodyPost_end (v:=.tuple #[]) (by simp [results,Tryz.results75,go_sem]) rfl ⟨rfl,rfl⟩
   ·have k2':decide (frm<(n:Int))=false:=decide_eq_false k2
    clear hh k2
    go_enter Tryz.func75,Tryz.ntmps75
    go_wp2
    exact bodyPost_ret (v:=.tuple #[]) (by simp [results,Tryz.results75,go_sem]) rfl ⟨rfl,rfl⟩
  ·have k1':decide (0≤frm)=false:=decide_eq_false k1
   clear hh k1
   go_enter Tryz.func75,Tryz.ntmps75
   go_wp2
   exact bodyPost_ret (v:=.tuple #[]) (by simp [results,Tryz.results75,go_sem]) rfl ⟨rfl,rfl⟩
 ·clear hh
  go_enter Tryz.func75,Tryz.ntmps75
  go_wp2
  exact bodyPost_ret (v:=.tuple #[]) (by simp [results,Tryz.results75,go_sem]) rfl ⟨rfl,rfl⟩
theorem pHears_acts0 {w:World} {P:Nat} {id:Int} {n:Nat} {t:Nat→Bool} {g b:Int} {fz:Bool} (h:ProgNode w P id n (bitsV t n) g b fz) (k:Nat) (hn:n≤16) (hf:fz=false) (hk:k<n) (hid:(k:Int)≠id) :
  Calls Tryz.prog 75 #[.pointer (some ⟨P,0,none⟩),.int .i64 k,.int .i64 0] w fun e w'=>e=.returned (.tuple #[])∧ProgNode w' P id n (bitsV (fun j=>if j=k then false else t j) n) g b false∧Turns P P w w':=by
 subst hf
 have HH:Hid (ProgNode w P id n (bitsV t n) g b false):=h
 obtain ⟨c0,c1,c2,c3,c4,c5,z,lp⟩:=h
 have z2:=z 2
 have z4:=z 4
 have z5:=z 5
 clear z
 have k1:(k:Int)<(n:Int):=by omega
 have k3:((k:Int) == id)=false:=by simpa using hid
 have p0:=pow_pos k
 have p1:(2:Int) ^ k≤2 ^ 16:=pow_le (by omega)
 have p2:(2:Int) ^ 16=65536:=by decide
 have eB:bits BinOp.andNot .i64 (bitsV t n) (2 ^ k)=bitsV (fun j=>if j=k then false else t j) n:=clear_bit t hn hk
 obtain ⟨M,hM⟩:∃ M,bitsV (fun j=>if j=k then false else t j) n=M:=⟨_,rfl⟩
 obtain ⟨m,hm⟩:∃ m,bitsV t n=m:=⟨_,rfl⟩
 rw [hM] at eB ⊢
 rw [hm] at eB c2 HH
 clear hid hM hm
 go_enter Tryz.func75,Tryz.ntmps75
 go_wp2
 go_region_calls
 all_goals go_wp2
 all_goals exact bodyPost_end (v:=.tuple #[]) (by simp [results,Tryz.results75,go_sem]) rfl ⟨rfl,(HH.out.members M).drawn 1,((Turns.refl _ _ _).set (p:=⟨P,2,none⟩) (.inl rfl) _).trans (Turns.drawn 1)⟩
theorem pHears_acts1 {w:World} {P:Nat} {id:Int} {n:Nat} {t:Nat→Bool} {g b:Int} {fz:Bool} (h:ProgNode w P id n (bitsV t n) g b fz) (k:Nat) (hn:n≤16) (hf:fz=false) (hk:k<n) (hid:(k:Int)≠id) (hg0:0≤g) (hg:g≤4611686018427387904) :
  Calls Tryz.prog 75 #[.pointer (some ⟨P,0,none⟩),.int .i64 k,.int .i64 1] w fun e w'=>e=.returned (.tuple #[])∧ProgNode w' P id n (bitsV (fun j=>if j=k then true else t j) n) (g+1) b false∧Turns P P w w':=by
 subst hf
 have HH:Hid (ProgNode w P id n (bitsV t n) g b false):=h
 obtain ⟨c0,c1,c2,c3,c4,c5,z,lp⟩:=h
 have z2:=z 2
 have z4:=z 4
 have z5:=z 5
 clear z
 have k1:(k:Int)<(n:Int):=by omega
 have k3:((k:Int) == id)=false:=by simpa using hid
 have p0:=pow_pos k
 have p1:(2:Int) ^ k≤2 ^ 16:=pow_le (by omega)
 have p2:(2:Int) ^ 16=65536:=by decide
 have eB:bits BinOp.or .i64 (bitsV t n) (2 ^ k)=bitsV (fun j=>if j=k then true else t j) n:=or_bit t hn hk
 obtain ⟨M,hM⟩:∃ M,bitsV (fun j=>if j=k then true else t j) n=M:=⟨_,rfl⟩
 obtain ⟨m,hm⟩:∃ m,bitsV t n=m:=⟨_,rfl⟩
 rw [hM] at eB ⊢
 rw [hm] at eB c2 HH
 clear hid hM hm
 go_enter Tryz.func75,Tryz.ntmps75
 go_wp2
 go_region_calls
 all_goals go_wp2
 all_goals exact bodyPost_end (v:=.tuple #[]) (by simp [results,Tryz.results75,go_sem]) rfl ⟨rfl,((HH.out.good (g+1)).members M).drawn 1,(((Turns.refl _ _ _).set (p:=⟨P,4,none⟩) (.inl rfl) _).set (p:=⟨P,2,none⟩) (.inl rfl) _).trans (Turns.drawn 1)⟩
theorem pHears_acts2 {w:World} {P:Nat} {id:Int} {n:Nat} {t:Nat→Bool} {g b:Int} {fz:Bool} (h:ProgNode w P id n (bitsV t n) g b fz) (k:Nat) (hn:n≤16) (hf:fz=false) (hk:k<n) (hid:(k:Int)≠id) (hb0:0≤b) (hb:b≤4611686018427387904) :
  Calls Tryz.prog 75 #[.pointer (some ⟨P,0,none⟩),.int .i64 k,.int .i64 2] w fun e w'=>e=.returned (.tuple #[])∧ProgNode w' P id n (bitsV (fun j=>if j=k then false else t j) n) g (b+1) false∧Turns P P w w':=by
 subst hf
 have HH:Hid (ProgNode w P id n (bitsV t n) g b false):=h
 obtain ⟨c0,c1,c2,c3,c4,c5,z,lp⟩:=h
 have z2:=z 2
 have z4:=z 4
 have z5:=z 5
 clear z
 have k1:(k:Int)<(n:Int):=by omega
 have k3:((k:Int) == id)=false:=by simpa using hid
 have p0:=pow_pos k
 have p1:(2:Int) ^ k≤2 ^ 16:=pow_le (by omega)
 have p2:(2:Int) ^ 16=65536:=by decide
 have eB:bits BinOp.andNot .i64 (bitsV t n) (2 ^ k)=bitsV (fun j=>if j=k then false else t j) n:=clear_bit t hn hk
 obtain ⟨M,hM⟩:∃ M,bitsV (fun j=>if j=k then false else t j) n=M:=⟨_,rfl⟩
 obtain ⟨m,hm⟩:∃ m,bitsV t n=m:=⟨_,rfl⟩
 rw [hM] at eB ⊢
 rw [hm] at eB c2 HH
 clear hid hM hm
 go_enter Tryz.func75,Tryz.ntmps75
 go_wp2
 go_region_calls
 all_goals go_wp2
 all_goals exact bodyPost_end (v:=.tuple #[]) (by simp [results,Tryz.results75,go_sem]) rfl ⟨rfl,((HH.out.bad (b+1)).members M).drawn 1,(((Turns.refl _ _ _).set (p:=⟨P,5,none⟩) (.inl rfl) _).set (p:=⟨P,2,none⟩) (.inl rfl) _).trans (Turns.drawn 1)⟩
theorem pHears_acts {w:World} {P:Nat} {id:Int} {n:Nat} {t:Nat→Bool} {g b:Int} {fz:Bool} (h:ProgNode w P id n (bitsV t n) g b fz) (k:Nat) (what:Int) (hn:n≤16) (hf:fz=false) (hk:k<n) (hid:(k:Int)≠id) (h0:0≤what) (h2:what≤2) (hg0:0≤g) (hg:g≤4611686018427387904) (hb0:0≤b) (hb:b≤4611686018427387904) :
  Calls Tryz.prog 75 #[.pointer (some ⟨P,0,none⟩),.int .i64 k,.int .i64 what] w fun e w'=>e=.returned (.tuple #[])∧ProgNode w' P id n (bitsV (fun j=>if j=k then decide (what=1) else t j) n) (if what=1 then g+1 else g) (if what=2 then b+1 else b) false∧Turns P P w w':=by
 have hc:what=0∨what=1∨what=2:=by omega
 rcases hc with rfl | rfl | rfl
 ·exact pHears_acts0 h k hn hf hk hid
 ·exact pHears_acts1 h k hn hf hk hid hg0 hg
 ·exact pHears_acts2 h k hn hf hk hid hb0 hb
end
section
theorem pSends_any {w:World} {P:Nat} {id:Int} {n:Nat} {m g b:Int} {fz:Bool} (h:ProgNode w P id n m g b fz) :
  Calls Tryz.prog 71 #[.pointer (some ⟨P,0,none⟩)] w fun e w'=>e=.returned (.tuple #[.int .i64 (if sendsB g b fz=true then m else 0),.bool (sendsB g b fz)])∧ProgNode w' P id n m (if sendsB g b fz=true then 1 else g) (if sendsB g b fz=true then 0 else b) (!sendsB g b fz)∧Turns P P w w':=by
 have HH:Hid (ProgNode w P id n m g b fz):=h
 obtain ⟨c0,c1,c2,c3,c4,c5,z,lp⟩:=h
 have z3:=z 3
 have z4:=z 4
 have z5:=z 5
 clear z
 unfold sendsB
 cases fz
 ·by_cases hb:b<g
  ·have hb2:decide (g≤b)=false:=decide_eq_false (by omega)
   have HB:Hid (decide (b<g)=true):=decide_eq_true hb
   rw [HB.out]
   clear hb
   have HX:Hid (ProgNode ((w.setCell ⟨P,3,none⟩ (.bool false)).drew) P id n m g b false):=(HH.out.freeze false).drawn 1
   have HT:Hid (Turns P P w ((w.setCell ⟨P,3,none⟩ (.bool false)).drew)):=((Turns.refl _ _ _).set (p:=⟨P,3,none⟩) (.inl rfl) _).trans (Turns.drawn 1)
   go_enter Tryz.func71,Tryz.ntmps71
   go_wp2_with fail
   go_region
   go_wp2_with fail
   refine (pAnew_any HX.out).mono ?_
   rintro e w1 ⟨rfl,hN,hT⟩
   have HN:Hid (ProgNode w1 P id n m 1 0 false):=hN
   obtain ⟨d0,d1,d2,d3,d4,d5,y,lp'⟩:=hN
   clear y
   go_wp2
   go_ret2
   exact ⟨rfl,HN.out,HT.out.trans hT⟩
  ·have hb2:g≤b:=by omega
   rw [decide_eq_false hb]
   clear hb
   have HX:Hid (ProgNode ((w.setCell ⟨P,3,none⟩ (.bool true)).drew) P id n m g b true):=(HH.out.freeze true).drawn 1
   have HT:Hid (Turns P P w ((w.setCell ⟨P,3,none⟩ (.bool true)).drew)):=((Turns.refl _ _ _).set (p:=⟨P,3,none⟩) (.inl rfl) _).trans (Turns.drawn 1)
   go_enter Tryz.func71,Tryz.ntmps71
   go_wp2_with fail
   go_region
   go_wp2
   go_ret2
   exact ⟨rfl,HX.out,HT.out⟩
 ·have HX:Hid (ProgNode ((w.setCell ⟨P,3,none⟩ (.bool true)).drew) P id n m g b true):=(HH.out.freeze true).drawn 1
  have HT:Hid (Turns P P w ((w.setCell ⟨P,3,none⟩ (.bool true)).drew)):=((Turns.refl _ _ _).set (p:=⟨P,3,none⟩) (.inl rfl) _).trans (Turns.drawn 1)
  go_enter Tryz.func71,Tryz.ntmps71
  go_wp2_with fail
  go_region
  go_wp2
  go_ret2
  exact ⟨rfl,HX.out,HT.out⟩
theorem pKnows_any {w:World} {P:Nat} {id:Int} {n:Nat} {m g b:Int} {fz:Bool} (h:ProgNode w P id n m g b fz) (x:Int):Calls Tryz.prog 87 #[.pointer (some ⟨P,0,none⟩),.int .i64 x] w fun e w'=>e=.returned (.bool (decide (0≤x∧x<n)))∧w'=w:=by
 obtain ⟨c0,c1,c2,c3,c4,c5,z,lp⟩:=h
 clear z
 by_cases k1:0≤x
 ·by_cases k2:x<(n:Int)
  ·rw [decide_eq_true (show 0≤x∧x<(n:Int) from ⟨k1,k2⟩)]
   go_enter Tryz.func87,Tryz.ntmps87
   go_wp2
   go_ret
   exact ⟨rfl,rfl⟩
  ·rw [decide_eq_false (show ¬ (0≤x∧x<(n:Int)) by omega)]
   have k2':decide (x<(n:Int))=false:=decide_eq_false k2
   clear k2
   go_enter Tryz.func87,Tryz.ntmps87
   go_wp2
   go_ret
   exact ⟨rfl,rfl⟩
 ·rw [decide_eq_false (show ¬ (0≤x∧x<(n:Int)) by omega)]
  have k2':decide (0≤x)=false:=decide_eq_false k1
  clear k1
  go_enter Tryz.func87,Tryz.ntmps87
  go_wp2
  go_ret
  exact ⟨rfl,rfl⟩
theorem pBit_any (k:Nat) (hk:k≤16) (w:World):Calls Tryz.prog 98 #[.int .i64 k] w fun e w'=>e=.returned (.int .i64 (2 ^ k))∧w'=w:=by
 have p0:=pow_pos k
 have p1:(2:Int) ^ k≤2 ^ 16:=pow_le (by omega)
 have p2:(2:Int) ^ 16=65536:=by decide
 go_enter Tryz.func98,Tryz.ntmps98
 go_wp2
 go_ret
 exact ⟨rfl,rfl⟩
theorem pJudges_any {w:World} {P:Nat} {id:Int} {n:Nat} {t:Nat→Bool} {g b:Int} {fz:Bool} (h:ProgNode w P id n (bitsV t n) g b fz) (frm m:Int) (hn:n≤16) :
  Calls Tryz.prog 73 #[.pointer (some ⟨P,0,none⟩),.int .i64 frm,.int .i64 m] w fun e w'=>e=.returned (.int .i64 (judgeV n t (tb m) frm m))∧∃ q,w'=w.drewN q:=by
 have HK:Hid (∀ (x:Int) (q:Nat),Calls Tryz.prog 87 #[.pointer (some ⟨P,0,none⟩),.int .i64 x] (w.drewN q) fun e w'=>e=.returned (.bool (decide (0≤x∧x<n)))∧w'=w.drewN q):=fun x q=>pKnows_any (h.drawn q) x
 obtain ⟨c0,c1,c2,c3,c4,c5,z,lp⟩:=h
 clear z
 by_cases k12:0≤frm∧frm<(n:Int)
 ·obtain ⟨k1,k2⟩:=k12
  obtain ⟨k,rfl⟩:=Int.eq_ofNat_of_zero_le k1
  have hk:k<n:=by omega
  have HBt:=pBit_any k (by omega)
  have hK:=HK.out k
  rw [decide_eq_true (show (0:Int)≤(k:Int)∧(k:Int)<(n:Int) from ⟨k1,k2⟩)] at hK
  have eB:bits BinOp.or .i64 (bitsV t n) (2 ^ k)=bitsV (fun j=>if j=k then true else t j) n:=or_bit t hn hk
  have HG:=told_good t hk m
  have eJ:judgeV n t (tb m) k m=if m=bitsV (fun j=>if j=k then true else t j) n then 1 else 2:=by
   unfold judgeV
   rw [Int.toNat_natCast]
   by_cases q:m=bitsV (fun j=>if j=k then true else t j) n
   ·rw [if_pos q,if_pos ⟨⟨k1,k2⟩,HG.1 q⟩]
   ·rw [if_neg q,if_neg (fun y=>q (HG.2 y.2))]
  rw [eJ]
  clear eJ HG
  obtain ⟨M,hM⟩:∃ M,bitsV (fun j=>if j=k then true else t j) n=M:=⟨_,rfl⟩
  rw [hM] at eB ⊢
  clear hM
  by_cases q:m=M
  ·subst q
   rw [if_pos rfl]
   go_enter Tryz.func73,Tryz.ntmps73
   go_wp2_with fail
   go_quiet (first | (go_at_call 87;refine Calls.quiet_of_same (hK _)) | (go_at_call 98;refine Calls.quiet_of_same (HBt _)))
   go_wp2
   go_ret
   exact ⟨rfl,_,rfl⟩
  ·have q2:(m == M)=false:=by simpa using q
   rw [if_neg q]
   clear q
   go_enter Tryz.func73,Tryz.ntmps73
   go_wp2_with fail
   go_quiet (first | (go_at_call 87;refine Calls.quiet_of_same (hK _)) | (go_at_call 98;refine Calls.quiet_of_same (HBt _)))
   go_wp2
   go_ret
   exact ⟨rfl,_,rfl⟩
 ·have eJ:judgeV n t (tb m) frm m=2:=by unfold judgeV;rw [if_neg (fun y=>k12 y.1)]
  rw [eJ]
  have hK:=HK.out frm
  rw [decide_eq_false k12] at hK
  clear eJ k12
  go_enter Tryz.func73,Tryz.ntmps73
  go_wp2_with fail
  go_quiet (first | (go_at_call 87;refine Calls.quiet_of_same (hK _)))
  go_wp2
  go_ret
  exact ⟨rfl,_,rfl⟩
end
section
def RefSdr (w:World) (O:List Nat) (P:Nat) (bag queue:Int) (all:List ByteArray) (went:Nat) (last now:Int):Prop :=
 ∃ v,RefSendr w (P+1) P bag queue all v went last now∧O=P::v.ownBlock.toList
theorem RefSdr.lt {w:World} {O:List Nat} {P:Nat} {bag queue:Int} {all:List ByteArray} {went:Nat} {last now:Int} (h:RefSdr w O P bag queue all went last now):∀ c,c∈O→c<w.heap.size:=by
 obtain ⟨v,h,rfl⟩:=h
 intro c hc
 rcases List.mem_cons.1 hc with y | y
 ·have:=h.lp;have:=h.lb;omega
 ·exact (h.own.lt c (by simpa using y)).2
theorem RefSdr.keep {w w':World} {O:List Nat} {P:Nat} {bag queue:Int} {all:List ByteArray} {went:Nat} {last now:Int} (h:RefSdr w O P bag queue all went last now) (k:Same O w w'):RefSdr w' O P bag queue all went last now:=by
 obtain ⟨v,h,rfl⟩:=h
 have hp:P∈P::v.ownBlock.toList:=List.mem_cons.2 (.inl rfl)
 exact ⟨v,⟨(k.cell (p:=⟨P,0,none⟩) hp).trans h.c0,(k.cell (p:=⟨P,1,none⟩) hp).trans h.c1,(k.cell (p:=⟨P,2,none⟩) hp).trans h.c2,(k.cell (p:=⟨P,3,none⟩) hp).trans h.c3,(k.cell (p:=⟨P,4,none⟩) hp).trans h.c4,(k.cell (p:=⟨P,5,none⟩) hp).trans h.c5,fun i=>(k.frozen (p:=⟨P,i,none⟩) hp).trans (h.z i),owns_same h.own k (fun g hg=>List.mem_cons.2 (.inr (by simpa using hg))),h.lp,Nat.le_trans h.lb k.1,h.we⟩,rfl⟩
theorem RefSdr.went_le {w:World} {O:List Nat} {P:Nat} {bag queue:Int} {all:List ByteArray} {went:Nat} {last now:Int} (h:RefSdr w O P bag queue all went last now):went≤all.length:=by
 obtain ⟨v,h,_⟩:=h;exact h.we
theorem refPut_all {w:World} {O:List Nat} {P:Nat} {bag queue:Int} {all:List ByteArray} {went:Nat} {last now:Int} (h:RefSdr w O P bag queue all went last now) (d:ByteArray) (ha:all.length≤1000000) :
  Calls Tryz.prog 11 #[.pointer (some ⟨P,0,none⟩),.string d] w fun e w'=>e=.returned (.int .i64 (putK (all.length - went) queue d))∧∃ O',RefSdr w' O' P bag queue (putAll (putK (all.length - went) queue d) all d) went last now∧Foot O O' w w':=by
 have hw:=h.went_le
 obtain ⟨v,h,rfl⟩:=h
 unfold putAll putK
 by_cases h1:40<d.size
 ·simp only [if_pos h1]
  refine (refPut_limit h d h1).mono ?_
  rintro e w' ⟨rfl,rfl⟩
  exact ⟨rfl,_,⟨v,h,rfl⟩,Foot.refl _ _⟩
 ·simp only [if_neg h1]
  by_cases h2:queue≤((all.length - went:Nat):Int)
  ·simp only [if_pos h2]
   refine (refPut_full h d (by omega) (by omega) ha).mono ?_
   rintro e w' ⟨rfl,q,rfl⟩
   exact ⟨rfl,_,⟨v,h.drawn q,rfl⟩,Foot.drawn _ _ _⟩
  ·simp only [if_neg h2]
   refine (refPut_ok h d (by omega) (by omega) ha).mono ?_
   rintro e w' ⟨rfl,v',h',ht,hat⟩
   refine ⟨rfl,_,⟨v',h',rfl⟩,?_⟩
   refine ⟨ht.os,ht.tape,ht.output,ht.size,fun c hc hn=>?_,fun c hc=>?_⟩
   ·have hP:c≠P:=fun y=>hn (List.mem_cons.2 (.inl y))
    refine ht.block c hc hP ?_
    cases e:v.ownBlock with
    | none=>exact hP
    | some g =>
     intro y
     refine hn (List.mem_cons.2 (.inr ?_))
     rw [e,y]
     exact List.mem_singleton.2 rfl
   ·rcases List.mem_cons.1 hc with y | y
    ·exact .inl (List.mem_cons.2 (.inl y))
    ·rcases hat with z | ⟨g,hg,z⟩
     ·rw [z] at y;exact .inl (List.mem_cons.2 (.inr y))
     ·rw [z] at y
      have:c=g:=by simpa using y
      exact .inr (by omega)
theorem refSend_all {w:World} {O:List Nat} {P:Nat} {bag queue:Int} {all:List ByteArray} {went:Nat} {last now:Int} (h:RefSdr w O P bag queue all went last now) (t:Int) (ha:all.length≤1000000) (hl0:0≤last) (hl:last≤1099511627776) (hb0:0≤bag) (hb:bag≤1099511627776) :
  Calls Tryz.prog 44 #[.pointer (some ⟨P,0,none⟩),.int .i64 t] w fun e w'=>e=.returned (.tuple #[.int .i64 (sendSeq (sendK all.length went t now last bag) went),.string (sendDat (sendK all.length went t now last bag) all went),.int .i64 (sendK all.length went t now last bag)]) ∧
   RefSdr w' O P bag queue all (sendWent (sendK all.length went t now last bag) went) (sendLast (sendK all.length went t now last bag) t last) (sendNow (sendK all.length went t now last bag) t now)∧Foot O O w w':=by
 obtain ⟨v,h,rfl⟩:=h
 have hP:P∈P::v.ownBlock.toList:=List.mem_cons.2 (.inl rfl)
 unfold sendSeq sendDat sendWent sendLast sendNow sendK
 by_cases h1:0≤t∧t≤1099511627776
 ·simp only [h1]
  by_cases h2:t<now
  ·simp only [if_pos h2]
   refine (refSend_order h t h1 h2).mono ?_
   rintro e w' ⟨rfl,rfl⟩
   exact ⟨rfl,⟨v,h,rfl⟩,Foot.refl _ _⟩
  ·simp only [if_neg h2]
   by_cases h3:noneB all.length went t last bag=true
   ·simp only [if_pos h3]
    refine (refSend_none h t h1 (by omega) h3 hl0 hl hb0 hb).mono ?_
    rintro e w' ⟨rfl,h',ht⟩
    exact ⟨rfl,⟨v,h',rfl⟩,Foot.of_turns ht hP hP⟩
   ·have h3':noneB all.length went t last bag=false:=by simpa using h3
    simp only [h3',Bool.false_eq_true,if_false]
    refine (refSend_ok h t h1 (by omega) h3' ha hl0 hl hb0 hb).mono ?_
    rintro e w' ⟨rfl,h',ht⟩
    exact ⟨rfl,⟨v,h',rfl⟩,Foot.of_turns ht hP hP⟩
 ·simp only [h1,not_false_eq_true,if_true]
  refine (refSend_range h t h1).mono ?_
  rintro e w' ⟨rfl,rfl⟩
  exact ⟨rfl,⟨v,h,rfl⟩,Foot.refl _ _⟩
theorem refSdr_new {w:World} {bag queue:Int} : RefSdr (w.alloc (.cells #[.int .i64 bag,.int .i64 queue,.slice none 0 0,.int .i64 0,.int .i64 0,.int .i64 0] 108)) [w.heap.size] w.heap.size bag queue [] 0 0 0:=by
 have c:∀ (i:Nat) (u:Value),(#[.int .i64 bag,.int .i64 queue,.slice none 0 0,.int .i64 0,.int .i64 0,.int .i64 0]:Array Value)[i]? = some u→(w.alloc (.cells #[.int .i64 bag,.int .i64 queue,.slice none 0 0,.int .i64 0,.int .i64 0,.int .i64 0] 108)).cell? ⟨w.heap.size,i,none⟩=some u:=fun i u hi=>by
  simp
  simpa using hi
 exact ⟨.slice none 0 0,⟨c 0 _ rfl,c 1 _ rfl,c 2 _ rfl,c 3 _ rfl,c 4 _ rfl,c 5 _ rfl,fun i=>by simp,World.ownsRow_nil _ _ _ _,by omega,by simp,Nat.le_refl _⟩,rfl⟩
end
section
theorem refSends_any {w:World} {P Q:Nat} {id:Int} {n:Nat} {t:Nat→Bool} {g b:Int} {fz:Bool} (h:RefNode w P Q id n t g b fz) (hn:n≤16) :
  Calls Tryz.prog 43 #[.pointer (some ⟨P,0,none⟩)] w fun e w'=>e=.returned (.tuple #[.int .i64 (if sendsB g b fz=true then bitsV t n else 0),.bool (sendsB g b fz)])∧RefNode w' P Q id n t (if sendsB g b fz=true then 1 else g) (if sendsB g b fz=true then 0 else b) (!sendsB g b fz)∧Turns P Q w w':=by
 have HH:Hid (RefNode w P Q id n t g b fz):=h
 obtain ⟨c0,c1,c2,c3,c4,c5,z,row,zr,ne,lp,lq⟩:=h
 have z3:=z 3
 have z4:=z 4
 have z5:=z 5
 clear z zr row
 unfold sendsB
 cases fz
 ·by_cases hb:b<g
  ·have hb2:decide (g≤b)=false:=decide_eq_false (by omega)
   have HB:Hid (decide (b<g)=true):=decide_eq_true hb
   rw [HB.out]
   clear hb
   go_enter Tryz.func43,Tryz.ntmps43
   go_wp2_with fail
   go_quiet (fail)
   have HNQ:Hid (RefNode (((w.drewN nq).setCell ⟨P,3,none⟩ (.int .i64 1)).setCell ⟨P,4,none⟩ (.int .i64 0)) P Q id n t 1 0 false):=((HH.out.drawn nq).good 1).bad 0
   have HBT:=refBits_any HNQ.out hn
   go_wp2_with fail
   refine HBT.mono ?_
   rintro e w1 ⟨rfl,rfl⟩
   go_wp2
   go_ret2
   exact ⟨rfl,HNQ.out,((Turns.drawn _).set (p:=⟨P,3,none⟩) (.inl rfl) _).set (p:=⟨P,4,none⟩) (.inl rfl) _⟩
  ·have hb2:g≤b:=by omega
   rw [decide_eq_false hb]
   clear hb
   go_enter Tryz.func43,Tryz.ntmps43
   go_wp2_with fail
   go_quiet (fail)
   go_wp2
   go_ret2
   exact ⟨rfl,(HH.out.freeze true).drawn _,((Turns.refl _ _ _).set (p:=⟨P,5,none⟩) (.inl rfl) _).trans (Turns.drawn _)⟩
 ·go_enter Tryz.func43,Tryz.ntmps43
  go_wp2
  go_ret2
  exact ⟨rfl,HH.out,Turns.refl _ _ _⟩
theorem refHears_not {w:World} {P Q:Nat} {id:Int} {n:Nat} {t:Nat→Bool} {g b:Int} {fz:Bool} (h:RefNode w P Q id n t g b fz) (frm what:Int) (hn1:1≤n) (hn:n≤16) (hh:hearsB id n fz frm what=false) :
  Calls Tryz.prog 47 #[.pointer (some ⟨P,0,none⟩),.int .i64 frm,.int .i64 what] w fun e w'=>e=.returned (.tuple #[])∧w'=w:=by
 obtain ⟨c0,c1,c2,c3,c4,c5,z,row,zr,ne,lp,lq⟩:=h
 clear z zr row
 cases fz
 ·unfold hearsB at hh
  have hh:¬ (0≤frm∧frm<n∧frm≠id∧0≤what∧what≤2):=by simpa using hh
  by_cases k1:0≤frm
  ·by_cases k2:frm≤(n:Int) - 1
   ·by_cases k3:frm=id
    ·subst k3
     clear hh
     go_enter Tryz.func47,Tryz.ntmps47
     go_wp2
     exact bodyPost_ret (v:=.tuple #[]) (by simp [results,Tryz.results47,go_sem]) rfl ⟨rfl,rfl⟩
    ·have k3':(frm == id)=false:=by simpa using k3
     by_cases k4:0≤what
     ·have k5:decide (what≤2)=false:=decide_eq_false (by omega)
      clear hh k3
      go_enter Tryz.func47,Tryz.ntmps47
      go_wp2
      exact bodyPost_ret (v:=.tuple #[]) (by simp [results,Tryz.results47,go_sem]) rfl ⟨rfl,rfl⟩
     ·have k5:decide (0≤what)=false:=decide_eq_false k4
      clear hh k3 k4
      go_enter Tryz.func47,Tryz.ntmps47
      go_wp2
      exact bodyPost_ret (v:=.tuple #[]) (by simp [results,Tryz.results47,go_sem]) rfl ⟨rfl,rfl⟩
   ·have k2':decide (frm≤(n:Int) - 1)=false:=decide_eq_false k2
    clear hh k2
    go_enter Tryz.func47,Tryz.ntmps47
    go_wp2
    exact bodyPost_ret (v:=.tuple #[]) (by simp [results,Tryz.results47,go_sem]) rfl ⟨rfl,rfl⟩
  ·have k1':decide (0≤frm)=false:=decide_eq_false k1
   clear hh k1
   go_enter Tryz.func47,Tryz.ntmps47
   go_wp2
   exact bodyPost_ret (v:=.tuple #[]) (by simp [results,Tryz.results47,go_sem]) rfl ⟨rfl,rfl⟩
 ·clear hh
  go_enter Tryz.func47,Tryz.ntmps47
  go_wp2
  exact bodyPost_ret (v:=.tuple #[]) (by simp [results,Tryz.results47,go_sem]) rfl ⟨rfl,rfl⟩
theorem refHears_acts0 {w:World} {P Q:Nat} {id:Int} {n:Nat} {t:Nat→Bool} {g b:Int} {fz:Bool} (h:RefNode w P Q id n t g b fz) (k:Nat) (what:Int) (hn:n≤16) (hf:fz=false) (hk:k<n) (hid:(k:Int)≠id) (h0:0≤what) (h2:what≤2) (hg0:0≤g) (hg:g≤4611686018427387904) (hb0:0≤b) (hb:b≤4611686018427387904) (G:Ending→World→Prop) (hG:∀ w',RefNode w' P Q id n (fun j=>if j=k then decide (what=1) else t j) (if what=1 then g+1 else g) (if what=2 then b+1 else b) false→Turns P Q w w'→G (.returned (.tuple #[])) w') :
  Calls Tryz.prog 47 #[.pointer (some ⟨P,0,none⟩),.int .i64 k,.int .i64 what] w G:=by
 subst hf
 have HG:Hid _:=hG
 clear hG
 have HH:Hid (RefNode w P Q id n t g b false):=h
 obtain ⟨c0,c1,c2,c3,c4,c5,z,row,zr,ne,lp,lq⟩:=h
 have z3:=z 3
 have z4:=z 4
 have r0:=row k hk
 have zk:=zr k
 clear z zr row
 have k0:(k:Int)≤(n:Int) - 1:=by omega
 have k1:(k:Int)<(n:Int):=by omega
 have k3:((k:Int) == id)=false:=by simpa using hid
 have neq:Q≠P:=Ne.symm ne
 have hc:what=0∨what=1∨what=2:=by omega
 clear hid
 rcases hc with rfl | rfl | rfl
 ·go_enter Tryz.func47,Tryz.ntmps47
  go_wp2
  exact bodyPost_end (v:=.tuple #[]) (by simp [results,Tryz.results47,go_sem]) rfl (HG.out _ (HH.out.take k false hk) ((Turns.refl _ _ _).set (p:=⟨Q,k,none⟩) (.inr rfl) _))
 ·go_enter Tryz.func47,Tryz.ntmps47
  go_wp2
  exact bodyPost_end (v:=.tuple #[]) (by simp [results,Tryz.results47,go_sem]) rfl (HG.out _ ((HH.out.take k true hk).good (g+1)) (((Turns.refl _ _ _).set (p:=⟨Q,k,none⟩) (.inr rfl) _).set (p:=⟨P,3,none⟩) (.inl rfl) _))
 ·go_enter Tryz.func47,Tryz.ntmps47
  go_wp2
  exact bodyPost_end (v:=.tuple #[]) (by simp [results,Tryz.results47,go_sem]) rfl (HG.out _ ((HH.out.take k false hk).bad (b+1)) (((Turns.refl _ _ _).set (p:=⟨Q,k,none⟩) (.inr rfl) _).set (p:=⟨P,4,none⟩) (.inl rfl) _))
theorem refHears_acts {w:World} {P Q:Nat} {id:Int} {n:Nat} {t:Nat→Bool} {g b:Int} {fz:Bool} (h:RefNode w P Q id n t g b fz) (k:Nat) (what:Int) (hn:n≤16) (hf:fz=false) (hk:k<n) (hid:(k:Int)≠id) (h0:0≤what) (h2:what≤2) (hg0:0≤g) (hg:g≤4611686018427387904) (hb0:0≤b) (hb:b≤4611686018427387904) :
  Calls Tryz.prog 47 #[.pointer (some ⟨P,0,none⟩),.int .i64 k,.int .i64 what] w fun e w'=>e=.returned (.tuple #[])∧RefNode w' P Q id n (fun j=>if j=k then decide (what=1) else t j) (if what=1 then g+1 else g) (if what=2 then b+1 else b) false∧Turns P Q w w' :=
 refHears_acts0 h k what hn hf hk hid h0 h2 hg0 hg hb0 hb _ fun _ a c=>⟨rfl,a,c⟩
end
section
theorem refJudges_out {w:World} {P Q:Nat} {id:Int} {n:Nat} {t:Nat→Bool} {g b:Int} {fz:Bool} (h:RefNode w P Q id n t g b fz) (frm m:Int) (hn1:1≤n) (hn:n≤16) (ho:¬ ((0≤frm∧frm<n)∧0≤m∧m<2 ^ n)) :
  Calls Tryz.prog 45 #[.pointer (some ⟨P,0,none⟩),.int .i64 frm,.int .i64 m] w fun e w'=>e=.returned (.int .i64 2)∧w'=w:=by
 obtain ⟨c0,c1,c2,c3,c4,c5,z,row,zr,ne,lp,lq⟩:=h
 clear z zr row
 have p0:=pow_pos n
 have p1:(2:Int) ^ n≤2 ^ 16:=pow_le hn
 have p2:(2:Int) ^ 16=65536:=by decide
 by_cases k1:0≤frm
 ·by_cases k2:frm≤(n:Int) - 1
  ·by_cases k3:m<0
   ·clear ho
    go_enter Tryz.func45,Tryz.ntmps45
    go_wp2
    go_ret
    exact ⟨rfl,rfl⟩
   ·have k3':decide (m<0)=false:=decide_eq_false k3
    have k4:2 ^ n≤m:=by omega
    clear k3
    clear ho
    go_enter Tryz.func45,Tryz.ntmps45
    go_wp2
    go_ret
    exact ⟨rfl,rfl⟩
  ·have k2':decide (frm≤(n:Int) - 1)=false:=decide_eq_false k2
   clear ho k2
   go_enter Tryz.func45,Tryz.ntmps45
   go_wp2
   go_ret
   exact ⟨rfl,rfl⟩
 ·have k1':decide (0≤frm)=false:=decide_eq_false k1
  clear ho k1
  go_enter Tryz.func45,Tryz.ntmps45
  go_wp2
  go_ret
  exact ⟨rfl,rfl⟩
theorem refJudges_in {w:World} {P Q:Nat} {id:Int} {n:Nat} {t:Nat→Bool} {g b:Int} {fz:Bool} (h:RefNode w P Q id n t g b fz) (k:Nat) (m:Int) (s:Nat→Bool) (hn:n≤16) (hk:k<n) (m0:0≤m) (m1:m<2 ^ n) (hs:∀ j,j<n→(bits BinOp.and .i64 m (2 ^ j) != 0)=s j) :
  Calls Tryz.prog 45 #[.pointer (some ⟨P,0,none⟩),.int .i64 k,.int .i64 m] w fun e w'=>e=.returned (.int .i64 (if judB n k s t=true then 1 else 2))∧w'=w:=by
 obtain ⟨c0,c1,c2,c3,c4,c5,z,row,zr,ne,lp,lq⟩:=h
 have HR:Hid (∀ j,j<n→w.cell? ⟨Q,j,none⟩=some (.bool (t j))):=row
 have HS:Hid (∀ j,j<n→(bits BinOp.and .i64 m (2 ^ j) != 0)=s j):=hs
 clear z zr row hs
 have p0:=pow_pos n
 have p1:(2:Int) ^ n≤2 ^ 16:=pow_le hn
 have p2:(2:Int) ^ 16=65536:=by decide
 have k0:(k:Int)≤(n:Int) - 1:=by omega
 have k3:decide (m<0)=false:=decide_eq_false (by omega)
 have k4:decide (2 ^ n≤m)=false:=decide_eq_false (by omega)
 obtain ⟨J,hJ⟩:∃ J:Int,(if judB n k s t=true then 1 else 2)=J:=⟨_,rfl⟩
 have HJ:Hid ((if judB n k s t=true then 1 else 2)=J):=hJ
 rw [hJ]
 clear hJ
 go_enter Tryz.func45,Tryz.ntmps45
 go_wp2
 clear p0 p1 p2 k3 k4
 go_loopw [36] (fun v wr=>∃ q:Nat,q≤n∧v=.int .i64 q∧Hid (∀ j,j<q→(j=k→s j=true)∧(j≠k→s j=t j))∧wr=w) (fun v _=>n - (intOf v).toNat)
 case atStart=>exact ⟨0,Nat.zero_le _,rfl,fun j hj=>absurd hj (Nat.not_lt_zero _),rfl⟩
 case round =>
  obtain ⟨q,hq,rfl,h0,hwr⟩:=hrel
  subst hwr
  by_cases hlt:q<n
  ·have r0:=HR.out q hlt
   have bq:=HS.out q hlt
   have kk:(q:Int)<(n:Int):=by omega
   have p0:=pow_pos q
   have p1:(2:Int) ^ q≤2 ^ 16:=pow_le (by omega)
   have p2:(2:Int) ^ 16=65536:=by decide
   by_cases e:q=k
   ·subst e
    cases hv:s q
    ·have HNO:Hid (J=2):=by
      show _=_
      rw [← HJ.out,if_neg (fun y=>by have:=(judB_iff.1 y).1;rw [hv] at this;cases this)]
     rw [hv] at bq
     go_wp2
     go_ret
     exact ⟨by rw [HNO.out];rfl,rfl⟩
    ·have HOK:Hid ((q=q→s q=true)∧(q≠q→s q=t q)):=⟨fun _=>hv,fun y=>absurd rfl y⟩
     rw [hv] at bq
     go_wp2
     exact ⟨⟨q+1,by omega,by go_num,fun j hj=>by
      rcases Nat.lt_succ_iff_lt_or_eq.1 hj with y | y
      ·exact h0.out j y
      ·rw [y];exact HOK.out,trivial⟩,by simp [intOf];omega⟩
   ·have e1:((q:Int) == (k:Int))=false:=by simp;omega
    have e2:((q:Int) != (k:Int))=true:=by simp;omega
    by_cases hv:s q=t q
    ·have HOK:Hid ((q=k→s q=true)∧(q≠k→s q=t q)):=⟨fun y=>absurd y e,fun _=>hv⟩
     rw [hv] at bq
     clear e
     cases ht:t q
     ·rw [ht] at r0 bq
      go_wp2
      exact ⟨⟨q+1,by omega,by go_num,fun j hj=>by
       rcases Nat.lt_succ_iff_lt_or_eq.1 hj with y | y
       ·exact h0.out j y
       ·rw [y];exact HOK.out,trivial⟩,by simp [intOf];omega⟩
     ·rw [ht] at r0 bq
      go_wp2
      exact ⟨⟨q+1,by omega,by go_num,fun j hj=>by
       rcases Nat.lt_succ_iff_lt_or_eq.1 hj with y | y
       ·exact h0.out j y
       ·rw [y];exact HOK.out,trivial⟩,by simp [intOf];omega⟩
    ·have HNO:Hid (J=2):=by
      show _=_
      rw [← HJ.out,if_neg (fun y=>hv ((judB_iff.1 y).2 q hlt e))]
     clear e
     cases ht:t q
     ·have hs1:s q=true:=by
                    cases y:s q
                    ·rw [y,ht] at hv;exact absurd rfl hv
                    ·rfl
      rw [ht] at r0
      rw [hs1] at bq
      clear hv
      go_wp2
      go_ret
      exact ⟨by rw [HNO.out];rfl,rfl⟩
     ·have hs1:s q=false:=by
                     cases y:s q
                     ·rfl
                     ·rw [y,ht] at hv;exact absurd rfl hv
      rw [ht] at r0
      rw [hs1] at bq
      clear hv
      go_wp2
      go_ret
      exact ⟨by rw [HNO.out];rfl,rfl⟩
  ·obtain rfl:q=n:=by omega
   have HY:Hid (J=1):=by
    show _=_
    rw [← HJ.out,if_pos (judB_iff.2 ⟨(h0.out k hk).1 rfl,fun j hj hne=>(h0.out j hj).2 hne⟩)]
   go_wp2
   go_ret
   exact ⟨by rw [HY.out];rfl,rfl⟩
theorem refJudges_any {w:World} {P Q:Nat} {id:Int} {n:Nat} {t:Nat→Bool} {g b:Int} {fz:Bool} (h:RefNode w P Q id n t g b fz) (frm m:Int) (s:Nat→Bool) (hn1:1≤n) (hn:n≤16) (hs:0≤m→m<2 ^ n→∀ j,j<n→(bits BinOp.and .i64 m (2 ^ j) != 0)=s j) :
  Calls Tryz.prog 45 #[.pointer (some ⟨P,0,none⟩),.int .i64 frm,.int .i64 m] w fun e w'=>e=.returned (.int .i64 (judgeV n t s frm m))∧w'=w:=by
 by_cases ho:(0≤frm∧frm<n)∧0≤m∧m<2 ^ n
 ·have key:=refJudges_in h frm.toNat m s hn (by omega) ho.2.1 ho.2.2 (hs ho.2.1 ho.2.2)
  rw [show ((frm.toNat:Nat):Int)=frm by omega] at key
  have e:judgeV n t s frm m=if judB n frm.toNat s t=true then 1 else 2:=by
   unfold judgeV
   by_cases q:judB n frm.toNat s t=true
   ·rw [if_pos ⟨ho.1,ho.2.1,ho.2.2,q⟩,if_pos q]
   ·rw [if_neg (fun y=>q y.2.2.2),if_neg q]
  rw [e]
  exact key
 ·have e:judgeV n t s frm m=2:=by
   unfold judgeV
   rw [if_neg (fun y=>ho ⟨y.1,y.2.1,y.2.2.1⟩)]
  rw [e]
  exact refJudges_out h frm m hn1 hn ho
end
section
theorem Tryz.infoBool:(Tryz.prog.info? 4).map (fun i=>(i.zero,i.size,i.bytes))=some (some (.bool false),1,1):=by kernel_rfl
theorem refNew_good (id:Int) (n:Nat) (w:World) (h1:1≤n) (h2:n≤16) (h3:0≤id) (h4:id<n) :
  Calls Tryz.prog 34 #[.int .i64 id,.int .i64 n] w fun e w'=>e=.returned (.tuple #[.pointer (some ⟨w.heap.size+1,0,none⟩),.bool true])∧RefNode w' (w.heap.size+1) w.heap.size id n (fun _=>true) 1 0 false∧Below w.heap.size w w':=by
 obtain ⟨i0,hi,hz0,hz1,hz2⟩:=info_parts Tryz.infoBool
 have hmk:=run_makeSlice (P:=Tryz.prog) w 78 4 i0 _ Tryz.underlying78 hi hz0 .i64 .i64 (n:Int) (n:Int) (by omega) (Int.le_refl _) (by rw [hz1];simp;omega) (by rw [hz2];omega) (by omega)
 rw [hz1] at hmk
 simp only [Int.toNat_natCast,Nat.mul_one] at hmk
 obtain ⟨CC,hCC⟩:∃ CC,madeCells (Value.bool false).cells n=CC:=⟨_,rfl⟩
 have hel:∀ j,j<n→CC[j]? = some (.bool false):=fun j hj=>by rw [← hCC];simp [madeCells,Value.cells,hj,Nat.mod_one]
 have hsz:CC.size=n:=by rw [← hCC];exact size_madeCells _ _
 rw [hCC] at hmk
 clear hi hz0 hz1 hz2 hCC
 have g1:(1:Int)≤(n:Int):=by omega
 have g2:(n:Int)≤16:=by omega
 have g4:id≤(n:Int) - 1:=by omega
 go_enter Tryz.func34,Tryz.ntmps34
 go_wp2
 obtain ⟨V,hVe⟩:∃ V,V=(w.alloc (.cells CC 4)).alloc (.cells #[.int .i64 id,.int .i64 n,.slice (some ⟨w.heap.size,0,none⟩) n n,.int .i64 1,.int .i64 0,.bool false] 80):=⟨_,rfl⟩
 have HV:Hid (RefNode V (w.heap.size+1) w.heap.size id n (fun _=>false) 1 0 false):=by
  rw [hVe]
  have c:∀ (i:Nat) (v:Value),(#[.int .i64 id,.int .i64 n,.slice (some ⟨w.heap.size,0,none⟩) n n,.int .i64 1,.int .i64 0,.bool false]:Array Value)[i]? = some v→((w.alloc (.cells CC 4)).alloc (.cells #[.int .i64 id,.int .i64 n,.slice (some ⟨w.heap.size,0,none⟩) n n,.int .i64 1,.int .i64 0,.bool false] 80)).cell? ⟨w.heap.size+1,i,none⟩=some v:=fun i v hi=>by
   simp
   simpa using hi
  refine ⟨c 0 _ rfl,c 1 _ rfl,c 2 _ rfl,c 3 _ rfl,c 4 _ rfl,c 5 _ rfl,fun i=>by simp,fun j hj=>?_,fun j=>?_,by omega,by simp,by simp;omega⟩
  ·rw [World.cell?_alloc_lt _ _ _ (by simp)]
   have:=hel j hj
   simp
   simpa using this
  ·simp
 have hB:Below w.heap.size w V:=by rw [hVe];exact ((Below.refl _ _).alloc (Nat.le_refl _) _).alloc (by simp) _
 rw [← hVe]
 clear hVe hel hsz hmk
 go_loopw [29] (fun v wr=>∃ q:Nat,q≤n∧v=.int .i64 q∧Hid (RefNode wr (w.heap.size+1) w.heap.size id n (fun j=>decide (j<q)) 1 0 false)∧Hid (Below w.heap.size w wr)) (fun v _=>n - (intOf v).toNat)
 case atStart=>exact ⟨0,Nat.zero_le _,rfl,HV.out.same (fun j hj=>by simp),hB⟩
 case round =>
  obtain ⟨q,hq,rfl,hN,hTu⟩:=hrel
  by_cases hlt:q<n
  ·have HNX:Hid (RefNode (wr.setCell ⟨w.heap.size,q,none⟩ (.bool true)) (w.heap.size+1) w.heap.size id n (fun j=>decide (j<q+1)) 1 0 false):=(hN.out.take q true hlt).same fun j _=>by
    by_cases y:j=q
    ·subst y;rw [if_pos rfl];exact decide_eq_true (by omega)
    ·rw [if_neg y];by_cases v:j<q
     ·rw [decide_eq_true v];exact decide_eq_true (by omega)
     ·rw [decide_eq_false v];exact decide_eq_false (by omega)
   have HTX:Hid (Below w.heap.size w (wr.setCell ⟨w.heap.size,q,none⟩ (.bool true))):=hTu.out.setCell (p:=⟨w.heap.size,q,none⟩) (Nat.le_refl _) _
   obtain ⟨c0,c1,c2,c3,c4,c5,z,row,zr,ne',lp',lq'⟩:=hN.out
   have r0:=row q hlt
   have zq:=zr q
   clear z zr row c1 c3 c4 c5
   have kk:(q:Int)<(n:Int):=by omega
   go_wp2
   exact ⟨⟨q+1,by omega,by go_num,HNX,HTX⟩,by simp [intOf];omega⟩
  ·obtain rfl:q=n:=by omega
   have HF:Hid (RefNode wr (w.heap.size+1) w.heap.size id q (fun _=>true) 1 0 false):=hN.out.same (fun j hj=>(decide_eq_true hj).symm)
   go_wp2
   go_ret2
   exact ⟨rfl,HF.out,hTu.out⟩
end
section
def madeL (nodes faulty skew jitter drift round frame:Int) (sa:Option Addr) (ns sc:Nat) (la:Option Addr) (nl lc:Nat) (wa:Option Addr) (nw wc:Nat) (fa:Int) (ca:Option Addr) (n ccap tb pb:Nat):List Value :=
 [.int .i64 nodes,.int .i64 faulty,.int .i64 skew,.int .i64 jitter,.int .i64 drift,.int .i64 round,.slice sa ns sc,.slice la nl lc,.int .i64 frame,.slice wa nw wc,.int .i64 fa,.slice ca n ccap,.slice none 0 0,.slice none 0 0,.map (some tb),.map (some pb),.int .i64 0]
structure Made (w w2:World) (C:Nat) (l:List Value) (cs:List Int) (ca2:Option Addr) (ccap:Nat) (clk:List Nat) (tb pb:Nat):Prop where
 bel:Below w.heap.size w w2
 cel:∀ i u,l[i]? = some u→w2.cell? ⟨C,i,none⟩=some u
 z:∀ i,w2.frozen? ⟨C,i,none⟩=false
 lC:w.heap.size≤C∧C<w2.heap.size
 mt:MapII w2 tb (fun _ _=>none)
 mp:MapII w2 pb (fun _ _=>none)
 lt:w.heap.size≤tb∧w.heap.size≤pb∧tb≠pb∧tb≠C∧pb≠C
 row:0<cs.length→∃ b,ca2=some ⟨b,0,none⟩∧b∈clk∧∀ j,j<cs.length→w2.cell? ⟨b,j,none⟩=some (.int .i64 (cs.getD j 0))
 lk:∀ c,c∈clk→w.heap.size≤c∧c<w2.heap.size∧c≠tb∧c≠pb∧c≠C
section
variable {w v v':World} {b:Nat} {g:Nat→Nat→Option Value}
theorem bal (h:Below w.heap.size w v) (o:Obj):Below w.heap.size w (v.alloc o):=h.alloc h.size o
theorem btr (h:Below w.heap.size w v) (k:Below v.heap.size v v'):Below w.heap.size w v':=h.trans (k.mono h.size)
theorem mtr (h:MapII v b g) (k:Below v.heap.size v v'):MapII v' b g:=h.keep (k.block _ h.lt)
theorem mal (h:MapII v b g) (o:Obj):MapII (v.alloc o) b g:=mtr h ((Below.refl _ _).alloc (Nat.le_refl _) o)
theorem mdr (h:MapII v b g):MapII v.drew b g:=h.keep rfl
theorem mnw (e:b=v.heap.size):MapII (v.alloc (.map #[] 0)) b (fun _ _=>none):=by subst e;exact MapII.new v
theorem mkmap (t:TypeId) (v:World):Sem.run Tryz.prog (Instr.makeMap t none) v=.ok (.map (some v.heap.size)) (v.alloc (.map #[] 0)):=by
 simp [Instr.makeMap,go_sem]
def RowAt (v:World) (cs:List Int) (ca:Option Addr) (clk:List Nat):Prop:=((0<cs.length→∃ b,ca=some ⟨b,0,none⟩∧b∈clk∧∀ j,j<cs.length→v.cell? ⟨b,j,none⟩=some (.int .i64 (cs.getD j 0)))∧∀ c,c∈clk→c<v.heap.size)
theorem rtr {cs:List Int} {ca:Option Addr} {clk:List Nat} (h:RowAt v cs ca clk) (k:Below v.heap.size v v'):RowAt v' cs ca clk :=
 ⟨fun h0=>by
  obtain ⟨c,e,hm,hc⟩:=h.1 h0
  exact ⟨c,e,hm,fun j hj=>(k.cell (p:=⟨c,j,none⟩) (h.2 c hm)).trans (hc j hj)⟩,fun c hc=>Nat.lt_of_lt_of_le (h.2 c hc) k.size⟩
theorem ral {cs:List Int} {ca:Option Addr} {clk:List Nat} (h:RowAt v cs ca clk) (o:Obj):RowAt (v.alloc o) cs ca clk:=rtr h ((Below.refl _ _).alloc (Nat.le_refl _) o)
theorem rdr {cs:List Int} {ca:Option Addr} {clk:List Nat} (h:RowAt v cs ca clk):RowAt v.drew cs ca clk:=h
theorem NewRow.at0 {cs:List Int} {ca:Option Addr} (h:NewRow v v' cs ca):∃ clk,RowAt v' cs ca clk∧(∀ c,c∈clk→c=v.heap.size)∧(v'.heap.size=v.heap.size∨v'.heap.size=v.heap.size+1):=by
 rcases h.2 with ⟨e,rfl⟩ | ⟨e,hs,hc⟩
 ·subst e
  exact ⟨[],⟨fun h0=>absurd h0 (Nat.lt_irrefl _),fun c (hc:c∈([]:List Nat))=>absurd hc List.not_mem_nil⟩,fun c (hc:c∈([]:List Nat))=>absurd hc List.not_mem_nil,.inl rfl⟩
 ·refine ⟨[v.heap.size],⟨fun _=>⟨_,e,List.mem_singleton.2 rfl,hc⟩,fun c hc=>?_⟩,fun c hc=>List.mem_singleton.1 hc,.inr hs⟩
  rw [List.mem_singleton.1 hc];omega
theorem Made.of {cs:List Int} {ca:Option Addr} {clk:List Nat} {l:List Value} {tb pb ccap:Nat} {t:TypeId} (hb:Below w.heap.size w v) (ht:MapII v tb (fun _ _=>none)) (hp:MapII v pb (fun _ _=>none)) (hr:RowAt v cs ca clk) (hn:w.heap.size≤tb∧w.heap.size≤pb∧tb≠pb) (hk:∀ c,c∈clk→w.heap.size≤c∧c≠tb∧c≠pb) :
  Made w (v.alloc (.cells l.toArray t)) v.heap.size l cs ca ccap clk tb pb:=by
 have k:Below v.heap.size v (v.alloc (.cells l.toArray t)):=(Below.refl _ _).alloc (Nat.le_refl _) _
 have h1:=ht.lt
 have h2:=hp.lt
 have hs:=hb.size
 have hs2:(v.alloc (.cells l.toArray t)).heap.size=v.heap.size+1:=by simp
 have hr2:=rtr hr k
 refine ⟨bal hb _,fun i u hi=>?_,fun i=>by simp,⟨hs,by omega⟩,mtr ht k,mtr hp k,⟨hn.1,hn.2.1,hn.2.2,by omega,by omega⟩,hr2.1,fun c hc=>?_⟩
 ·have:=World.cell?_alloc_new v l.toArray t i
  rw [this]
  simpa using hi
 ·have q1:=hr.2 c hc
  have q2:=hk c hc
  exact ⟨q2.1,by omega,q2.2.1,q2.2.2,by omega⟩
theorem Made.ofe {cs:List Int} {ca:Option Addr} {clk:List Nat} {l:List Value} {A:Array Value} {tb pb ccap C:Nat} {t:TypeId} (hb:Below w.heap.size w v) (hA:A=l.toArray) (ht:MapII v tb (fun _ _=>none)) (hp:MapII v pb (fun _ _=>none)) (hr:RowAt v cs ca clk) (hn:w.heap.size≤tb∧w.heap.size≤pb∧tb≠pb) (hk:∀ c,c∈clk→w.heap.size≤c∧c≠tb∧c≠pb) (hC:C=v.heap.size) :
  Made w (v.alloc (.cells A t)) C l cs ca ccap clk tb pb:=by
 subst hA hC
 exact Made.of hb ht hp hr hn hk
end
def w_rn_made_0 (k:Nat):Bool:=decide (k=9) || (decide (33≤k) && decide (k≤41))
theorem rn_made (code:Code) (hcode:Tryz.f6.body.bind (regionIn 6)=some code) (Q:Exit→Act→World→Prop) (PB n cap:Nat) (fa:Int) (ca:Option Addr) (cs:List Int) (nodes faulty skew jitter drift round frame:Int) (sa:Option Addr) (ns sc:Nat) (la:Option Addr) (nl lc:Nat) (wa:Option Addr) (nw wc:Nat) (w:World) (hlen:cs.length=n) (hn:n≤1000) (hr:IntRow w ca cs)
  (y0:w.cell? ⟨PB,0,none⟩=some (.int .i64 nodes)) (y1:w.cell? ⟨PB,1,none⟩=some (.int .i64 faulty)) (y2:w.cell? ⟨PB,2,none⟩=some (.int .i64 skew)) (y3:w.cell? ⟨PB,3,none⟩=some (.int .i64 jitter)) (y4:w.cell? ⟨PB,4,none⟩=some (.int .i64 drift)) (y5:w.cell? ⟨PB,5,none⟩=some (.int .i64 round)) (y6:w.cell? ⟨PB,6,none⟩=some (.slice sa ns sc)) (y7:w.cell? ⟨PB,7,none⟩=some (.slice la nl lc)) (y8:w.cell? ⟨PB,8,none⟩=some (.int .i64 frame)) (y9:w.cell? ⟨PB,9,none⟩=some (.slice wa nw wc)) {L:List Value} (hL0:L.length=139) (s1:L[1]? = some (.int .i64 fa)) (s2:L[2]? = some (.slice ca n cap)) (s3:L[3]? = some (.pointer (some ⟨PB,0,none⟩)))
  (hexit:∀ (L':List Value) (C ccap tb pb:Nat) (ca2:Option Addr) (clk:List Nat) (w2:World),Made w w2 C (madeL nodes faulty skew jitter drift round frame sa ns sc la nl lc wa nw wc fa ca2 n ccap tb pb) cs ca2 ccap clk tb pb→L'.length=139→Rest w_rn_made_0 L L'→L'[9]? = some (.pointer (some ⟨C,0,none⟩))→Q .normal ⟨L'.toArray,[]⟩ w2) :
  Code.wp Tryz.prog code Q ⟨L.toArray,[]⟩ w:=by
 have hb2':(Tryz.f6.body.bind (regionIn 6)).getD Code.skip=code:=by rw [hcode];rfl
 obtain rfl:=hb2'
 clear hcode
 conv=>arg 2;whnf
 have HEX:Hid _:=hexit
 obtain ⟨fL,rfl⟩:=lit L 139 hL0
 replace s1:=lit_at s1
 replace s2:=lit_at s2
 replace s3:=lit_at s3
 simp only [List.range,List.range.loop,List.map_cons,List.map_nil,s1,s2,s3]
 have lP:PB<w.heap.size:=lt_of_cell y0
 have HPL:Hid (∀ u,Below w.heap.size w u→(u.cell? ⟨PB,0,none⟩=some (.int .i64 nodes)∧u.cell? ⟨PB,1,none⟩=some (.int .i64 faulty)∧u.cell? ⟨PB,2,none⟩=some (.int .i64 skew)∧u.cell? ⟨PB,3,none⟩=some (.int .i64 jitter)∧u.cell? ⟨PB,4,none⟩=some (.int .i64 drift))∧u.cell? ⟨PB,5,none⟩=some (.int .i64 round)∧u.cell? ⟨PB,6,none⟩=some (.slice sa ns sc)∧u.cell? ⟨PB,7,none⟩=some (.slice la nl lc)∧u.cell? ⟨PB,8,none⟩=some (.int .i64 frame)∧u.cell? ⟨PB,9,none⟩=some (.slice wa nw wc)):=fun u hu=>by
  have k:∀ i,u.cell? ⟨PB,i,none⟩=w.cell? ⟨PB,i,none⟩:=fun i=>hu.cell (p:=⟨PB,i,none⟩) lP
  exact ⟨⟨(k 0).trans y0,(k 1).trans y1,(k 2).trans y2,(k 3).trans y3,(k 4).trans y4⟩,(k 5).trans y5,(k 6).trans y6,(k 7).trans y7,(k 8).trans y8,(k 9).trans y9⟩
 have HROW:Hid (∀ u,Below w.heap.size w u→IntRow u ca cs):=fun u hu=>hr.below hu
 have HLEN:Hid (cs.length=n):=hlen
 have hm1:∀ v:World,Sem.run Tryz.prog (Instr.makeMap 61 none) v=.ok (.map (some v.heap.size)) (v.alloc (.map #[] 0)):=mkmap _
 have hm2:∀ v:World,Sem.run Tryz.prog (Instr.makeMap 62 none) v=.ok (.map (some v.heap.size)) (v.alloc (.map #[] 0)):=mkmap _
 clear hexit hr hlen
 refine wp_region_noPanic ?_
 go_region_held3 (fun u=>(u.cell? ⟨PB,0,none⟩=some (.int .i64 nodes)∧u.cell? ⟨PB,1,none⟩=some (.int .i64 faulty)∧u.cell? ⟨PB,2,none⟩=some (.int .i64 skew)∧u.cell? ⟨PB,3,none⟩=some (.int .i64 jitter)∧u.cell? ⟨PB,4,none⟩=some (.int .i64 drift))∧u.cell? ⟨PB,5,none⟩=some (.int .i64 round)∧u.cell? ⟨PB,6,none⟩=some (.slice sa ns sc)∧u.cell? ⟨PB,7,none⟩=some (.slice la nl lc)∧u.cell? ⟨PB,8,none⟩=some (.int .i64 frame)∧u.cell? ⟨PB,9,none⟩=some (.slice wa nw wc)) (exact HPL.out _ (by repeat (first | exact Below.refl _ _ | refine Below.drew ?_ | refine bal ?_ _ | refine btr ?_ hnw.1))) (first
  | (refine step_copy (by rfl) _ _ (by rfl) _ (by rfl) ca n cap cs (by rfl) HLEN.out (HROW.out _ (by repeat (first | exact Below.refl _ _ | refine Below.drew ?_ | refine bal ?_ _))) hn ?_;intro vq cb ccap hnw;obtain ⟨⟨q0,q1,q2,q3,q4⟩,q5,q6,q7,q8,q9⟩:=HPL.out vq (btr (by repeat (first | exact Below.refl _ _ | refine Below.drew ?_ | refine bal ?_ _)) hnw.1)))
 all_goals (
  refine NoPanic.normal ?_
  obtain ⟨clk,hra,hce,hsz⟩:=hnw.at0
  have hbq:=hnw.1
  simp at hsz hce
  refine HEX.out _ _ ccap _ _ cb clk _ (Made.ofe ?_ rfl ?_ ?_ ?_ ?_ ?_ ?_) rfl (Rest.of rfl) rfl
  ·repeat (first | exact Below.refl _ _ | refine Below.drew ?_ | refine bal ?_ _ | refine btr ?_ hbq)
  ·repeat (first | refine mtr ?_ hbq | (refine mnw ?_;simp;done) | refine mdr ?_ | refine mal ?_ _)
  ·repeat (first | refine mtr ?_ hbq | (refine mnw ?_;simp;done) | refine mdr ?_ | refine mal ?_ _)
  ·repeat (first | exact hra | refine rdr ?_ | refine ral ?_ _)
  ·refine ⟨?_,?_,?_⟩ <;> omega
  ·intro c hc
   have:=hce c hc
   have:=hra.2 c hc
   refine ⟨?_,?_,?_⟩ <;> omega
  ·simp)
end
section
theorem pw_bounds (nodes:Int) (h1:1≤nodes) (h2:nodes≤16):2≤(2:Int) ^ nodes.toNat∧(2:Int) ^ nodes.toNat≤65536:=by
 have:nodes=1∨nodes=2∨nodes=3∨nodes=4∨nodes=5∨nodes=6∨nodes=7∨nodes=8∨nodes=9∨nodes=10∨nodes=11∨nodes=12∨nodes=13∨nodes=14∨nodes=15∨nodes=16:=by omega
 rcases this with rfl | rfl | rfl | rfl | rfl | rfl | rfl | rfl | rfl | rfl | rfl | rfl | rfl | rfl | rfl | rfl <;> decide
theorem refCheck_any (nodes faulty skew jitter drift round frame:Int) (sa la wa:Option Addr) (ns sc nl lc nw wc:Nat) (nd fr tq lf lt lb lq:Nat→Int) (hit:Nat→Bool) (pw:Int) (wp wf wt:Nat→Int) (E I:Int) (w:World)
  (hs:Rows3 w sa ns nd fr tq) (hl:Rows4 w la nl lf lt lb lq) (hw:Rows3 w wa nw wp wf wt) (hpw:(2:Int) ^ nodes.toNat=pw) (hhit:∀ j,0≤lf j→lf j≤15→hit j=(bits BinOp.and .i64 (lt j) (2 ^ (lf j).toNat) != 0)) (hfine:Fine0 w)
  (hC:CheckIs nodes faulty skew jitter drift round frame ns nl nw nd fr tq lf lt lb lq hit pw wp wf wt E I) :
  Calls Tryz.prog 30 #[.agg #[.int .i64 nodes,.int .i64 faulty,.int .i64 skew,.int .i64 jitter,.int .i64 drift,.int .i64 round,.slice sa ns sc,.slice la nl lc,.int .i64 frame,.slice wa nw wc]] w fun ev w'=>ev=.returned (.agg #[.int .i64 E,.int .i64 I])∧Below w.heap.size w w':=by
 by_cases a1:1≤nodes
 rotate_left
 ·obtain ⟨rfl,rfl⟩:=hC.head (headErr_1 (by omega)) (by decide)
  exact refHead1 nodes faulty skew jitter drift round frame sa la wa ns sc nl lc nw wc w  (by omega)
 by_cases a2:nodes≤16
 rotate_left
 ·obtain ⟨rfl,rfl⟩:=hC.head (headErr_1 (by omega)) (by decide)
  exact refHead2 nodes faulty skew jitter drift round frame sa la wa ns sc nl lc nw wc w a1 (by omega)
 by_cases a3:0≤faulty
 rotate_left
 ·obtain ⟨rfl,rfl⟩:=hC.head (headErr_1 (by omega)) (by decide)
  exact refHead3 nodes faulty skew jitter drift round frame sa la wa ns sc nl lc nw wc w a1 a2 (by omega)
 by_cases a4:faulty≤100
 rotate_left
 ·obtain ⟨rfl,rfl⟩:=hC.head (headErr_1 (by omega)) (by decide)
  exact refHead4 nodes faulty skew jitter drift round frame sa la wa ns sc nl lc nw wc w a1 a2 a3 (by omega)
 by_cases a5:faulty*3+1≤nodes
 rotate_left
 ·obtain ⟨rfl,rfl⟩:=hC.head (headErr_1 (by omega)) (by decide)
  exact refHead5 nodes faulty skew jitter drift round frame sa la wa ns sc nl lc nw wc w a1 a2 a3 a4 (by omega)
 by_cases b1:0≤skew
 rotate_left
 ·obtain ⟨rfl,rfl⟩:=hC.head (headErr_2 (by omega) (by omega)) (by decide)
  exact refHead6 nodes faulty skew jitter drift round frame sa la wa ns sc nl lc nw wc w a1 a2 a3 a4 a5 (by omega)
 by_cases b2:skew≤137438953472
 rotate_left
 ·obtain ⟨rfl,rfl⟩:=hC.head (headErr_2 (by omega) (by omega)) (by decide)
  exact refHead7 nodes faulty skew jitter drift round frame sa la wa ns sc nl lc nw wc w a1 a2 a3 a4 a5 b1 (by omega)
 by_cases b3:0≤jitter
 rotate_left
 ·obtain ⟨rfl,rfl⟩:=hC.head (headErr_2 (by omega) (by omega)) (by decide)
  exact refHead8 nodes faulty skew jitter drift round frame sa la wa ns sc nl lc nw wc w a1 a2 a3 a4 a5 b1 b2 (by omega)
 by_cases b4:jitter≤137438953472
 rotate_left
 ·obtain ⟨rfl,rfl⟩:=hC.head (headErr_2 (by omega) (by omega)) (by decide)
  exact refHead9 nodes faulty skew jitter drift round frame sa la wa ns sc nl lc nw wc w a1 a2 a3 a4 a5 b1 b2 b3 (by omega)
 by_cases b5:0≤drift
 rotate_left
 ·obtain ⟨rfl,rfl⟩:=hC.head (headErr_2 (by omega) (by omega)) (by decide)
  exact refHead10 nodes faulty skew jitter drift round frame sa la wa ns sc nl lc nw wc w a1 a2 a3 a4 a5 b1 b2 b3 b4 (by omega)
 by_cases b6:drift≤137438953472
 rotate_left
 ·obtain ⟨rfl,rfl⟩:=hC.head (headErr_2 (by omega) (by omega)) (by decide)
  exact refHead11 nodes faulty skew jitter drift round frame sa la wa ns sc nl lc nw wc w a1 a2 a3 a4 a5 b1 b2 b3 b4 b5 (by omega)
 by_cases c1:1≤round
 rotate_left
 ·obtain ⟨rfl,rfl⟩:=hC.head (headErr_3 (by omega) (by omega) (by omega)) (by decide)
  exact refHead12 nodes faulty skew jitter drift round frame sa la wa ns sc nl lc nw wc w a1 a2 a3 a4 a5 b1 b2 b3 b4 b5 b6 (by omega)
 by_cases c2:round≤137438953472
 rotate_left
 ·obtain ⟨rfl,rfl⟩:=hC.head (headErr_3 (by omega) (by omega) (by omega)) (by decide)
  exact refHead13 nodes faulty skew jitter drift round frame sa la wa ns sc nl lc nw wc w a1 a2 a3 a4 a5 b1 b2 b3 b4 b5 b6 c1 (by omega)
 by_cases c3:1≤frame
 rotate_left
 ·obtain ⟨rfl,rfl⟩:=hC.head (headErr_3 (by omega) (by omega) (by omega)) (by decide)
  exact refHead14 nodes faulty skew jitter drift round frame sa la wa ns sc nl lc nw wc w a1 a2 a3 a4 a5 b1 b2 b3 b4 b5 b6 c1 c2 (by omega)
 by_cases c4:frame≤137438953472
 rotate_left
 ·obtain ⟨rfl,rfl⟩:=hC.head (headErr_3 (by omega) (by omega) (by omega)) (by decide)
  exact refHead15 nodes faulty skew jitter drift round frame sa la wa ns sc nl lc nw wc w a1 a2 a3 a4 a5 b1 b2 b3 b4 b5 b6 c1 c2 c3 (by omega)
 by_cases d1:ns≤32
 rotate_left
 ·obtain ⟨rfl,rfl⟩:=hC.head (headErr_4 (by omega) (by omega) (by omega) (by omega)) (by decide)
  exact refHead16 nodes faulty skew jitter drift round frame sa la wa ns sc nl lc nw wc w a1 a2 a3 a4 a5 b1 b2 b3 b4 b5 b6 c1 c2 c3 c4 (by omega)
 by_cases d2:nl≤8
 rotate_left
 ·obtain ⟨rfl,rfl⟩:=hC.head (headErr_4 (by omega) (by omega) (by omega) (by omega)) (by decide)
  exact refHead17 nodes faulty skew jitter drift round frame sa la wa ns sc nl lc nw wc w a1 a2 a3 a4 a5 b1 b2 b3 b4 b5 b6 c1 c2 c3 c4 d1 (by omega)
 by_cases d3:nw≤32
 rotate_left
 ·obtain ⟨rfl,rfl⟩:=hC.head (headErr_4 (by omega) (by omega) (by omega) (by omega)) (by decide)
  exact refHead18 nodes faulty skew jitter drift round frame sa la wa ns sc nl lc nw wc w a1 a2 a3 a4 a5 b1 b2 b3 b4 b5 b6 c1 c2 c3 c4 d1 d2 (by omega)
 by_cases f1:skew / 2+jitter*2+drift*2+1≤skew
 rotate_left
 ·obtain ⟨rfl,rfl⟩:=hC.head (headErr_13 (by omega) (by omega) (by omega) (by omega) (by omega)) (by decide)
  exact refHead19 nodes faulty skew jitter drift round frame sa la wa ns sc nl lc nw wc w a1 a2 a3 a4 a5 b1 b2 b3 b4 b5 b6 c1 c2 c3 c4 d1 d2 d3 (by omega)
 obtain ⟨p1,p2⟩:=pw_bounds nodes a1 a2
 rw [hpw] at p1 p2
 rcases hC with ⟨h0,_⟩ | ⟨_,e1,i1,e2,i2,e3,i3,g1,g2,g3,g4⟩
 ·exact absurd (headErr_0 (by omega) (by omega) (by omega) (by omega) (by omega)) h0
 ·exact refMain nodes faulty skew jitter drift round frame sa la wa ns sc nl lc nw wc w a1 a2 a3 a4 a5 b1 b2 b3 b4 b5 b6 c1 c2 c3 c4 d1 d2 d3 f1 nd fr tq hs lf lt lb lq hl hit pw hpw p1 p2 hhit e1 i1 e2 i2 e3 i3 E I g1 wp wf wt hw hfine g3 g2 g4
end
section
theorem links_any (nodes faulty skew jitter drift round frame:Int) (sa la wa:Option Addr) (ns sc nl lc nw wc:Nat) (w:World)
  (a1:1≤nodes) (a2:nodes≤16) (d2:nl≤8) (lf lt lb lq:Nat→Int) (hs:Rows4 w la nl lf lt lb lq) (hit:Nat→Bool) (pw:Int) (hpw:(2:Int) ^ nodes.toNat=pw) (p1:2≤pw) (p2:pw≤65536) (hhit:∀ j,0≤lf j→lf j≤15→hit j=(bits BinOp.and .i64 (lt j) (2 ^ (lf j).toNat) != 0))
  (e i:Int) (hF:FirstBad (linkErr lf lt lb lq hit nodes pw) nl e i) :
  Calls Tryz.prog 59 #[.agg #[.int .i64 nodes,.int .i64 faulty,.int .i64 skew,.int .i64 jitter,.int .i64 drift,.int .i64 round,.slice sa ns sc,.slice la nl lc,.int .i64 frame,.slice wa nw wc]] w fun ev w'=>∃ E,ev=.returned E∧AtIs w' E e (1000+i)∧Below w.heap.size w w':=by
 have HF:Hid (FirstBad (linkErr lf lt lb lq hit nodes pw) nl e i):=hF
 have HL:Hid (∀ j (u:World),Calls Tryz.prog 85 #[.agg #[.int .i64 (lf j),.int .i64 (lt j),.int .i64 (lb j),.int .i64 (lq j)],.int .i64 nodes] u fun ev w'=>ev=.returned (.int .i64 (linkErr lf lt lb lq hit nodes pw j))∧Below u.heap.size u w') :=
  fun j u=>link_any (lf j) (lt j) (lb j) (lq j) nodes pw (hit j) u a1 a2 hpw p1 p2 (hhit j)
 clear hF hhit hpw p1 p2
 obtain ⟨hc,hV⟩:=box10 nodes faulty skew jitter drift round frame sa la wa ns sc nl lc nw wc w 26
 replace hs:=hs.below hV
 go_enter Tryz.func59,Tryz.ntmps59
 go_wp2_with fail
 generalize w.alloc (.cells #[.int .i64 nodes,.int .i64 faulty,.int .i64 skew,.int .i64 jitter,.int .i64 drift,.int .i64 round,.slice sa ns sc,.slice la nl lc,.int .i64 frame,.slice wa nw wc] 26)=V at hc hV hs ⊢
 obtain ⟨x0,x1,x2,x3,x4,x5,x6,x7,x8,x9⟩:=hc
 go_loopw [9] (fun t wr=>∃ k:Nat,k≤nl∧t=.int .i64 k∧Hid (∀ j,j<k→linkErr lf lt lb lq hit nodes pw j=0)∧Below V.heap.size V wr) (fun t _=>nl - (intOf t).toNat)
 case atStart=>exact ⟨0,Nat.zero_le _,rfl,fun j hj=>absurd hj (Nat.not_lt_zero _),Below.refl _ _⟩
 case round =>
  obtain ⟨k,hk,rfl,h0,hbe⟩:=hrel
  have y0:=keep_cell x0 hbe
  clear x0 x1 x2 x3 x4 x5 x6 x7 x8 x9
  by_cases hlt:k<nl
  ·obtain ⟨b,off,rfl,hb,hcc⟩:=hs (by omega)
   obtain ⟨r0,r1,r2,r3⟩:=hcc k hlt
   replace r0:=keep_cell r0 hbe
   replace r1:=keep_cell r1 hbe
   replace r2:=keep_cell r2 hbe
   replace r3:=keep_cell r3 hbe
   clear hcc hs
   have hwr:w.heap.size<wr.heap.size:=lt_of_cell y0
   have hbr:b<wr.heap.size:=lt_of_cell r0
   go_wp2_with fail
   refine (HL.out k _).mono ?_
   rintro ev w2 ⟨rfl,hb2⟩
   have hbt:Below V.heap.size V w2:=stepA hbe hb2
   clear y0 r0 r1 r2 r3
   obtain ⟨le,hle⟩:∃ le,linkErr lf lt lb lq hit nodes pw k=le:=⟨_,rfl⟩
   rw [hle]
   have HLE:Hid (linkErr lf lt lb lq hit nodes pw k=le):=hle
   clear hle
   go_wp2_with fail
   by_cases hz:le=0
   ·subst hz
    refine (at_none _ _).mono ?_
    rintro ev w3 ⟨rfl,hb3⟩
    have hbu:=stepB hbt hb3
    go_wp2
    go_roundw
    case rel=>exact ⟨k+1,by omega,by go_num,next_zero h0.out HLE.out,hbu⟩
    case measure=>simp [intOf];omega
   ·have HZ:Hid (le≠0):=hz
    clear hz
    refine (at_some le (1000+k) HZ.out _).mono ?_
    rintro ev w3 ⟨b3,rfl,q0,q1,hb3⟩
    go_wp2
    go_ret
    obtain ⟨rfl,rfl⟩:=HF.out.is hlt h0.out HLE.out HZ.out
    exact ⟨_,rfl,.inr ⟨b3,rfl,HZ.out,q0,q1⟩,hV.trans ((stepB hbt hb3).mono hV.size)⟩
  ·go_wp2
   go_ret
   obtain ⟨rfl,rfl⟩:=HF.out.at_end (fun j hj=>h0.out j (by omega))
   exact ⟨_,rfl,.inl ⟨rfl,rfl⟩,hV.trans (hbe.mono hV.size)⟩
end
section
def leastW (tq:Nat→Int) (k:Nat):Int:=if k=0 then 0 else tq (k - 1)
theorem winErr_span (nd fr tq:Nat→Int) (frame:Int) (k:Nat) :
  winErr nd fr tq frame k=if spanErr (fr k) (tq k) (leastW tq k) frame≠0 then spanErr (fr k) (tq k) (leastW tq k) frame else if nd k<0∨5<nd k then 7 else 0:=by
 have e:((k=0∧fr k<0)∨(0<k∧fr k<tq (k - 1)))↔fr k<leastW tq k:=by
  unfold leastW
  by_cases h:k=0
  ·rw [if_pos h]
   constructor
   ·rintro (⟨_,g⟩ | ⟨g,_⟩)
    ·exact g
    ·omega
   ·intro g;exact .inl ⟨h,g⟩
  ·rw [if_neg h]
   constructor
   ·rintro (⟨g,_⟩ | ⟨_,g⟩)
    ·exact absurd g h
    ·omega
   ·intro g;exact .inr ⟨by omega,by omega⟩
 unfold winErr spanErr
 by_cases h1:tq k≤fr k
 ·simp [h1]
 ·rw [if_neg h1]
  by_cases h2:fr k<leastW tq k
  ·simp [e,h1,h2]
  ·simp only [e]
   rw [if_neg h2]
   by_cases h3:frame<tq k
   ·simp [h1,h2,h3]
   ·simp [h1,h2,h3]
theorem wins_any (nodes faulty skew jitter drift round frame:Int) (sa la wa:Option Addr) (ns sc nl lc nw wc:Nat) (w:World)
  (d1:nw≤32)
  (nd fr tq:Nat→Int) (hs:Rows3 w wa nw nd fr tq) (e i:Int) (hF:FirstBad (winErr nd fr tq frame) nw e i) :
  Calls Tryz.prog 60 #[.agg #[.int .i64 nodes,.int .i64 faulty,.int .i64 skew,.int .i64 jitter,.int .i64 drift,.int .i64 round,.slice sa ns sc,.slice la nl lc,.int .i64 frame,.slice wa nw wc]] w fun ev w'=>∃ E,ev=.returned E∧AtIs w' E e (2000+i)∧Below w.heap.size w w':=by
 have HF:Hid (FirstBad (winErr nd fr tq frame) nw e i):=hF
 clear hF
 obtain ⟨hc,hV⟩:=box10 nodes faulty skew jitter drift round frame sa la wa ns sc nl lc nw wc w 26
 replace hs:=hs.below hV
 go_enter Tryz.func60,Tryz.ntmps60
 go_wp2_with fail
 generalize w.alloc (.cells #[.int .i64 nodes,.int .i64 faulty,.int .i64 skew,.int .i64 jitter,.int .i64 drift,.int .i64 round,.slice sa ns sc,.slice la nl lc,.int .i64 frame,.slice wa nw wc] 26)=V at hc hV hs ⊢
 refine (between_any _ _ _).mono ?_
 rintro ev V1 ⟨fv,rfl,hB,hu⟩
 replace hc:=hc.below hu
 replace hs:=hs.below hu
 have hV1:Below w.heap.size w V1:=hV.trans (hu.mono hV.size)
 obtain ⟨x0,x1,x2,x3,x4,x5,x6,x7,x8,x9⟩:=hc
 have hwz:w.heap.size<V1.heap.size:=lt_of_cell x0
 go_wp2_with fail
 go_loopw [4,12] (fun lv t wr=>∃ k:Nat,k≤nw∧t=.int .i64 k∧lv=.int .i64 (leastW tq k)∧Hid (∀ j,j<k→winErr nd fr tq frame j=0)∧Below V1.heap.size V1 wr) (fun _ t _=>nw - (intOf t).toNat)
 case atStart=>exact ⟨0,Nat.zero_le _,rfl,rfl,fun j hj=>absurd hj (Nat.not_lt_zero _),Below.refl _ _⟩
 case round =>
  obtain ⟨k,hk,rfl,rfl,h0,hbe⟩:=hrel
  have y2:=keep_cell x8 hbe
  clear x0 x1 x2 x3 x4 x5 x6 x7 x8 x9
  by_cases hlt:k<nw
  ·obtain ⟨b,off,rfl,hb,hcc⟩:=hs (by omega)
   obtain ⟨r0,r1,r2⟩:=hcc k hlt
   replace r0:=keep_cell r0 hbe
   replace r1:=keep_cell r1 hbe
   replace r2:=keep_cell r2 hbe
   clear hcc hs
   obtain ⟨se,hse⟩:∃ se,spanErr (fr k) (tq k) (leastW tq k) frame=se:=⟨_,rfl⟩
   have HS:Hid (∀ u:World,Calls Tryz.prog 83 #[.agg #[.int .i64 (fr k),.int .i64 (tq k)],.int .i64 (leastW tq k),.int .i64 frame] u fun ev w'=>ev=.returned (.int .i64 se)∧Below u.heap.size u w'):=fun u=>by rw [← hse];exact checkSpan_any _ _ _ _ _
   have HSE:Hid (spanErr (fr k) (tq k) (leastW tq k) frame=se):=hse
   clear hse
   have hwr:w.heap.size<wr.heap.size:=lt_of_cell y2
   have hbr:b<wr.heap.size:=lt_of_cell r0
   go_wp2_with fail
   refine (HS.out _).mono ?_
   rintro ev w2 ⟨rfl,hb2⟩
   have hbt:Below V1.heap.size V1 w2:=stepA hbe hb2
   have s0:=keep_cell (show (wr.alloc (.cells #[.int .i64 (nd k),.int .i64 (fr k),.int .i64 (tq k)] 188)).cell? ⟨wr.heap.size,0,none⟩=some (.int .i64 (nd k)) from by simp) hb2
   have s2:=keep_cell (show (wr.alloc (.cells #[.int .i64 (nd k),.int .i64 (fr k),.int .i64 (tq k)] 188)).cell? ⟨wr.heap.size,2,none⟩=some (.int .i64 (tq k)) from by simp) hb2
   clear y2 r0 r1 r2 HS
   by_cases hz:se=0
   rotate_left
   ·have hn:(se == 0)=false:=by simpa using hz
    have hn2:(se != 0)=true:=by simpa using hz
    have HK:Hid (winErr nd fr tq frame k=se):=by
     show _=_
     rw [winErr_span,HSE.out,if_pos hz]
    have HZ:Hid (se≠0):=hz
    clear hz
    go_wp2_with fail
    refine (at_some se (2000+k) HZ.out _).mono ?_
    rintro ev w3 ⟨b3,rfl,q0,q1,hb3⟩
    go_wp2
    go_ret
    obtain ⟨rfl,rfl⟩:=HF.out.is hlt h0.out HK.out HZ.out
    exact ⟨_,rfl,.inr ⟨b3,rfl,HZ.out,q0,q1⟩,hV1.trans ((stepB hbt hb3).mono hV1.size)⟩
   ·subst hz
    have hB2:Btw w2 fv 0 5:=hB.below hbt
    go_wp2_with fail
    by_cases hn:0≤nd k∧nd k≤5
    rotate_left
    ·have hd:decide (0≤nd k∧nd k≤5)=false:=decide_eq_false hn
     have HK:Hid (winErr nd fr tq frame k=7):=by
      show _=_
      rw [winErr_span,HSE.out,if_neg (by simp),if_pos (by omega)]
     clear hn
     refine (all_1b false fv _ _ (nd k) w2.heap.size _ _ (hB2.alloc _) (by simp) hd).mono ?_
     rintro ev w3 ⟨rfl,hb3⟩
     have hbu:=stepA hbt hb3
     go_wp2_with fail
     refine (at_some 7 (2000+k) (by decide) _).mono ?_
     rintro ev w4 ⟨b4,rfl,q0,q1,hb4⟩
     go_wp2
     go_ret
     obtain ⟨rfl,rfl⟩:=HF.out.is hlt h0.out HK.out (by decide)
     exact ⟨_,rfl,.inr ⟨b4,rfl,by decide,q0,q1⟩,hV1.trans ((stepB hbu hb4).mono hV1.size)⟩
    ·have hd:decide (0≤nd k∧nd k≤5)=true:=decide_eq_true hn
     have HK:Hid (winErr nd fr tq frame k=0):=by
      show _=_
      rw [winErr_span,HSE.out,if_neg (by simp),if_neg (by omega)]
     clear hn
     refine (all_1b true fv _ _ (nd k) w2.heap.size _ _ (hB2.alloc _) (by simp) hd).mono ?_
     rintro ev w3 ⟨rfl,hb3⟩
     have hbu:=stepA hbt hb3
     have s2':=keep_cell (show (w2.alloc (.cells #[.int .i64 (nd k)] 3)).cell? ⟨wr.heap.size,2,none⟩=_ from by rw [World.cell?_alloc_lt _ _ _ (lt_of_cell s2)];exact s2) hb3
     have HL:Hid (leastW tq (k+1)=tq k):=by
      show _=_
      unfold leastW;rw [if_neg (by omega)];simp
     go_wp2
     go_roundw
     case rel=>exact ⟨k+1,by omega,by go_num,by rw [HL.out],next_zero h0.out HK.out,hbu⟩
     case measure=>simp [intOf];omega
  ·go_wp2
   go_ret
   obtain ⟨rfl,rfl⟩:=HF.out.at_end (fun j hj=>h0.out j (by omega))
   exact ⟨_,rfl,.inl ⟨rfl,rfl⟩,hV1.trans (hbe.mono hV1.size)⟩
end
section
theorem pMembers_any {w:World} {P:Nat} {id:Int} {n:Nat} {m g b:Int} {fz:Bool} (h:ProgNode w P id n m g b fz):Calls Tryz.prog 55 #[.pointer (some ⟨P,0,none⟩)] w fun e w'=>e=.returned (.int .i64 m)∧w'=w:=by
 obtain ⟨c0,c1,c2,c3,c4,c5,z,lp⟩:=h
 clear z
 go_enter Tryz.func55,Tryz.ntmps55
 go_wp2
 go_ret
 exact ⟨rfl,rfl⟩
theorem pFrozen_any {w:World} {P:Nat} {id:Int} {n:Nat} {m g b:Int} {fz:Bool} (h:ProgNode w P id n m g b fz):Calls Tryz.prog 56 #[.pointer (some ⟨P,0,none⟩)] w fun e w'=>e=.returned (.bool fz)∧w'=w:=by
 obtain ⟨c0,c1,c2,c3,c4,c5,z,lp⟩:=h
 clear z
 go_enter Tryz.func56,Tryz.ntmps56
 go_wp2
 go_ret
 exact ⟨rfl,rfl⟩
end
end Go.Proofs.YtooadfgibdjdeaaGreatDoor
