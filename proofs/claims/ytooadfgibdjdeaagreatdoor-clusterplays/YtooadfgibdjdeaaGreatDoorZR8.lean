import Derived.Test.YtooadfgibdjdeaaGreatDoorZR7
import Derived.Deep.RegionLaw
namespace Go.Proofs.YtooadfgibdjdeaaGreatDoor
open Go.RowKit
set_option maxRecDepth 100000
set_option maxHeartbeats 16000000
section
def w_rp_lie_0 (k:Nat):Bool:=(decide (110≤k) && decide (k≤120))
theorem rp_lie (code:Code) (hcode:Tryz.f10.body.bind (regionIn 19)=some code) (Q:Exit→Act→World→Prop) (C n g12 c12 XB Gb gcap a d:Nat) (E V:Int)  (w:World) (ha:(a:Int)<(n:Int)) (hd:(d:Int)<(n:Int)) (x0:w.cell? ⟨XB,0,none⟩=some (.int .i64 a)) (x1:w.cell? ⟨XB,1,none⟩=some (.int .i64 d)) (x2:w.cell? ⟨XB,2,none⟩=some (.int .i64 E)) (yg:w.cell? ⟨g12,a,none⟩=some (.slice (some ⟨Gb,0,none⟩) n gcap)) (yG:w.cell? ⟨Gb,d,none⟩=some (.int .i64 V)) (zG:w.frozen? ⟨Gb,d,none⟩=false) (hXG:XB≠Gb) (hgG:g12≠Gb) {L:List Value} (hL0:L.length=452) (s0:L[0]? = some (.pointer (some ⟨C,0,none⟩))) (s12:L[12]? = some (.slice (some ⟨g12,0,none⟩) n c12)) (s17:L[17]? = some (.pointer (some ⟨XB,0,none⟩)))
  (hexit:∀ (L':List Value),L'.length=452→Rest w_rp_lie_0 L L'→Q .normal ⟨L'.toArray,[]⟩ (w.setCell ⟨Gb,d,none⟩ (.int .i64 (cutV E 549755813888))).drew) :
  Code.wp Tryz.prog code Q ⟨L.toArray,[]⟩ w:=by
 have hb2':(Tryz.f10.body.bind (regionIn 19)).getD Code.skip=code:=by rw [hcode];rfl
 obtain rfl:=hb2'
 clear hcode
 conv=>arg 2;whnf
 have HEX:Hid _:=hexit
 obtain ⟨fL,rfl⟩:=lit L 452 hL0
 replace s0:=lit_at s0
 replace s12:=lit_at s12
 replace s17:=lit_at s17
 simp only [List.range,List.range.loop,List.map_cons,List.map_nil,s0,s12,s17]
 clear hexit
 have HCUT:Hid (∀ v:World,Calls Tryz.prog 41 #[.int .i64 E,.int .i64 549755813888] v fun e w'=>e=.returned (.int .i64 (cutV E 549755813888))∧w'=v):=fun v=>refCut_any E 549755813888 (by decide) (by decide) v
 have k1:∀ i v,((w.setCell ⟨Gb,d,none⟩ v).cell? ⟨XB,i,none⟩)=w.cell? ⟨XB,i,none⟩:=fun i v=>cell_other (.inl hXG)
 have k2:∀ i v,((w.setCell ⟨Gb,d,none⟩ v).cell? ⟨g12,i,none⟩)=w.cell? ⟨g12,i,none⟩:=fun i v=>cell_other (.inl hgG)
 go_region_held3 (fun u=>u.cell? ⟨XB,0,none⟩=some (.int .i64 a)∧u.cell? ⟨XB,1,none⟩=some (.int .i64 d)∧u.cell? ⟨XB,2,none⟩=some (.int .i64 E)∧u.cell? ⟨g12,a,none⟩=some (.slice (some ⟨Gb,0,none⟩) n gcap)) (go_keep) (first
  | (go_at_call 41;refine (HCUT.out _).mono ?_;rintro ev v4 ⟨rfl,rfl⟩))
 all_goals exact HEX.out _ rfl (Rest.of rfl)
def w_rp_tru_0 (k:Nat):Bool:=(decide (121≤k) && decide (k≤154))
theorem rp_tru (code:Code) (hcode:Tryz.f10.body.bind (regionIn 20)=some code) (Q:Exit→Act→World→Prop) (C n g12 c12 XB Gb gcap a d:Nat) (E V:Int) (ca off ccap:Nat) (c1v c0v jitter:Int) (hj0:0≤jitter) (hj1:jitter≤137438953472) (hq0:-274877906944≤c0v∧c0v≤274877906944) (hq1:-274877906944≤c1v∧c1v≤274877906944) (w:World) (ha:(a:Int)<(n:Int)) (hd:(d:Int)<(n:Int)) (x0:w.cell? ⟨XB,0,none⟩=some (.int .i64 a)) (x1:w.cell? ⟨XB,1,none⟩=some (.int .i64 d)) (x2:w.cell? ⟨XB,2,none⟩=some (.int .i64 E)) (yg:w.cell? ⟨g12,a,none⟩=some (.slice (some ⟨Gb,0,none⟩) n gcap)) (yG:w.cell? ⟨Gb,d,none⟩=some (.int .i64 V)) (zG:w.frozen? ⟨Gb,d,none⟩=false) (hXG:XB≠Gb) (hgG:g12≠Gb) (hCG:C≠Gb) (hcaG:ca≠Gb) (y11:w.cell? ⟨C,11,none⟩=some (.slice (some ⟨ca,off,none⟩) n ccap)) (yd:w.cell? ⟨ca,off+d,none⟩=some (.int .i64 c1v)) (ya:w.cell? ⟨ca,off+a,none⟩=some (.int .i64 c0v)) (y3:w.cell? ⟨C,3,none⟩=some (.int .i64 jitter)) {L:List Value} (hL0:L.length=452) (s0:L[0]? = some (.pointer (some ⟨C,0,none⟩))) (s12:L[12]? = some (.slice (some ⟨g12,0,none⟩) n c12)) (s17:L[17]? = some (.pointer (some ⟨XB,0,none⟩)))
  (hexit:∀ (L':List Value),L'.length=452→Rest w_rp_tru_0 L L'→Q .normal ⟨L'.toArray,[]⟩ (w.setCell ⟨Gb,d,none⟩ (.int .i64 (c1v - c0v+cutV E jitter))).drew) :
  Code.wp Tryz.prog code Q ⟨L.toArray,[]⟩ w:=by
 have hb2':(Tryz.f10.body.bind (regionIn 20)).getD Code.skip=code:=by rw [hcode];rfl
 obtain rfl:=hb2'
 clear hcode
 conv=>arg 2;whnf
 have HEX:Hid _:=hexit
 obtain ⟨fL,rfl⟩:=lit L 452 hL0
 replace s0:=lit_at s0
 replace s12:=lit_at s12
 replace s17:=lit_at s17
 simp only [List.range,List.range.loop,List.map_cons,List.map_nil,s0,s12,s17]
 clear hexit
 have HCUT:Hid (∀ v:World,Calls Tryz.prog 41 #[.int .i64 E,.int .i64 jitter] v fun e w'=>e=.returned (.int .i64 (cutV E jitter))∧w'=v):=fun v=>refCut_any E jitter hj0 (by omega) v
 have hcv:=cutV_in (x:=E) hj0
 have w1:IntKind.i64.wrap (c1v - c0v)=c1v - c0v:=by rw [IntKind.wrap_i64];omega
 have w2:IntKind.i64.wrap (c1v - c0v+cutV E jitter)=c1v - c0v+cutV E jitter:=by
  rw [IntKind.wrap_i64]
  generalize cutV E jitter=X at *
  omega
 have k3:∀ i v,((w.setCell ⟨Gb,d,none⟩ v).cell? ⟨C,i,none⟩)=w.cell? ⟨C,i,none⟩:=fun i v=>cell_other (.inl hCG)
 have k4:∀ i v,((w.setCell ⟨Gb,d,none⟩ v).cell? ⟨ca,i,none⟩)=w.cell? ⟨ca,i,none⟩:=fun i v=>cell_other (.inl hcaG)
 have k1:∀ i v,((w.setCell ⟨Gb,d,none⟩ v).cell? ⟨XB,i,none⟩)=w.cell? ⟨XB,i,none⟩:=fun i v=>cell_other (.inl hXG)
 have k2:∀ i v,((w.setCell ⟨Gb,d,none⟩ v).cell? ⟨g12,i,none⟩)=w.cell? ⟨g12,i,none⟩:=fun i v=>cell_other (.inl hgG)
 go_region_held3 (fun u=>u.cell? ⟨XB,0,none⟩=some (.int .i64 a)∧u.cell? ⟨XB,1,none⟩=some (.int .i64 d)∧u.cell? ⟨XB,2,none⟩=some (.int .i64 E)∧u.cell? ⟨g12,a,none⟩=some (.slice (some ⟨Gb,0,none⟩) n gcap)∧u.cell? ⟨C,11,none⟩=some (.slice (some ⟨ca,off,none⟩) n ccap)∧u.cell? ⟨ca,off+d,none⟩=some (.int .i64 c1v)∧u.cell? ⟨ca,off+a,none⟩=some (.int .i64 c0v)∧u.cell? ⟨C,3,none⟩=some (.int .i64 jitter)) (go_keep) (first
  | (go_at_call 41;refine (HCUT.out _).mono ?_;rintro ev v4 ⟨rfl,rfl⟩))
 all_goals exact HEX.out _ rfl (Rest.of rfl)
end
section
theorem Tryz.infoSnd:(Tryz.prog.info? 65).map (fun i=>(i.zero,i.size,i.bytes))=some (some (.pointer none),1,8):=by kernel_rfl
def w_rn_add_0 (k:Nat):Bool:=(decide (106≤k) && decide (k≤120))
theorem rn_add (code:Code) (hcode:Tryz.f6.body.bind (regionIn 31)=some code) (Q:Exit→Act→World→Prop) (base C LB k:Nat) (bag que:Int) (V:Value) (l:List Value) (w:World) (hk:k≤100) (y13:w.cell? ⟨C,13,none⟩=some V) (z13:w.frozen? ⟨C,13,none⟩=false) (hV:∃ a c,V=.slice a k c) (x2:w.cell? ⟨LB,2,none⟩=some (.int .i64 bag)) (x3:w.cell? ⟨LB,3,none⟩=some (.int .i64 que)) (hCL:LB≠C) (hown:w.ownsRow base 65 1 V k l) (hVC:V.ownBlock≠some C) (hVL:V.ownBlock≠some LB) (hbase:base≤w.heap.size) {L:List Value} (hL0:L.length=139) (s9:L[9]? = some (.pointer (some ⟨C,0,none⟩))) (s17:L[17]? = some (.pointer (some ⟨LB,0,none⟩)))
  (hexit:∀ (L':List Value) (g cap:Nat) (w3:World),w3.ownsRow base 65 1 (.slice (some ⟨g,0,none⟩) (k+1) cap) (k+1) (l ++ [.pointer (some ⟨w.heap.size,0,none⟩)])→((w.drew.alloc (.cells #[.int .i64 bag,.int .i64 que,.slice none 0 0,.int .i64 0,.int .i64 0,.int .i64 0] 108)).alloc (.cells #[.pointer (some ⟨w.heap.size,0,none⟩)] 65)).grownBy w3 V.ownBlock→(V.ownBlock=some g∨g=w.heap.size+2)→L'.length=139→Rest w_rn_add_0 L L'→Q .normal ⟨L'.toArray,[]⟩ (w3.setCell ⟨C,13,none⟩ (.slice (some ⟨g,0,none⟩) (k+1) cap))) :
  Code.wp Tryz.prog code Q ⟨L.toArray,[]⟩ w:=by
 have hb2':(Tryz.f6.body.bind (regionIn 31)).getD Code.skip=code:=by rw [hcode];rfl
 obtain rfl:=hb2'
 clear hcode
 conv=>arg 2;whnf
 have HEX:Hid _:=hexit
 obtain ⟨fL,rfl⟩:=lit L 139 hL0
 replace s9:=lit_at s9
 replace s17:=lit_at s17
 simp only [List.range,List.range.loop,List.map_cons,List.map_nil,s9,s17]
 obtain ⟨i1,hiI,hy0,hy1,hy2⟩:=info_parts Tryz.infoSnd
 obtain ⟨a13,c13v,rfl⟩:=hV
 have lC:C<w.heap.size:=lt_of_cell y13
 have lL:LB<w.heap.size:=lt_of_cell x2
 have n1:C≠w.heap.size:=by omega
 have n2:LB≠w.heap.size:=by omega
 have n3:C≠w.heap.size+1:=by omega
 have n4:LB≠w.heap.size+1:=by omega
 have hOd:((w.drew.alloc (.cells #[.int .i64 bag,.int .i64 que,.slice none 0 0,.int .i64 0,.int .i64 0,.int .i64 0] 108)).alloc (.cells #[.pointer (some ⟨w.heap.size,0,none⟩)] 65)).ownsRow base 65 1 (.slice a13 k c13v) k l:=(World.ownsRow.alloc (World.ownsRow.alloc (show w.drew.ownsRow base 65 1 (.slice a13 k c13v) k l from hown) _) _)
 have HFIN:Hid (∀ (w3:World),((w.drew.alloc (.cells #[.int .i64 bag,.int .i64 que,.slice none 0 0,.int .i64 0,.int .i64 0,.int .i64 0] 108)).alloc (.cells #[.pointer (some ⟨w.heap.size,0,none⟩)] 65)).grownBy w3 (Value.slice a13 k c13v).ownBlock→w3.cell? ⟨C,13,none⟩=some (.slice a13 k c13v)∧w3.frozen? ⟨C,13,none⟩=false∧w3.cell? ⟨LB,2,none⟩=some (.int .i64 bag)∧w3.cell? ⟨LB,3,none⟩=some (.int .i64 que)):=fun w3 hg=>by
  have hA:Below w.heap.size w ((w.drew.alloc (.cells #[.int .i64 bag,.int .i64 que,.slice none 0 0,.int .i64 0,.int .i64 0,.int .i64 0] 108)).alloc (.cells #[.pointer (some ⟨w.heap.size,0,none⟩)] 65)):=(((Below.refl w.heap.size w).drew).alloc (Nat.le_refl _) _).alloc (by simp) _
  have hs:=hA.size
  exact ⟨(hg.cell_far ⟨C,13,none⟩ (by show C<_;omega) (Ne.symm hVC)).trans ((hA.cell (p:=⟨C,13,none⟩) lC).trans y13),(hg.frozen_far ⟨C,13,none⟩ (by show C<_;omega) (Ne.symm hVC)).trans ((hA.frozen (p:=⟨C,13,none⟩) lC).trans z13),(hg.cell_far ⟨LB,2,none⟩ (by show LB<_;omega) (Ne.symm hVL)).trans ((hA.cell (p:=⟨LB,2,none⟩) lL).trans x2),(hg.cell_far ⟨LB,3,none⟩ (by show LB<_;omega) (Ne.symm hVL)).trans ((hA.cell (p:=⟨LB,3,none⟩) lL).trans x3)⟩
 have HNEWS:Hid (∀ (j:Nat) (u:Value),[Value.pointer (some ⟨w.heap.size,0,none⟩)][j]? = some u→((w.alloc (.cells #[.int .i64 bag,.int .i64 que,.slice none 0 0,.int .i64 0,.int .i64 0,.int .i64 0] 108)).alloc (.cells #[.pointer (some ⟨w.heap.size,0,none⟩)] 65)).drew.cell? ((⟨w.heap.size+1,0,none⟩:Addr).add j)=some u):=fun j u hu=>by
  have q:=cell_one_new (w.alloc (.cells #[.int .i64 bag,.int .i64 que,.slice none 0 0,.int .i64 0,.int .i64 0,.int .i64 0] 108)) (.pointer (some ⟨w.heap.size,0,none⟩)) 65 j u hu
  rw [show (w.alloc (.cells #[.int .i64 bag,.int .i64 que,.slice none 0 0,.int .i64 0,.int .i64 0,.int .i64 0] 108)).heap.size=w.heap.size+1 by simp] at q
  exact q
 clear hexit hown
 refine wp_region_noPanic ?_
 go_region_law (first
  | (refine step_append_lies _ (by rfl) _ _ _ (by rfl) base 65 i1 (.pointer none) 1 8 Tryz.underlying60 hiI hy0 hy1 hy2 rfl (by decide) (.slice a13 k c13v) k l (by rfl) hOd ⟨w.heap.size+1,0,none⟩ 1 1 [.pointer (some ⟨w.heap.size,0,none⟩)] (by rfl) rfl HNEWS.out (by simp [Value.oneCell']) (by decide) (by unfold maxLen;omega) (by omega) (by simp;omega) (w.heap.size+2) (by simp) ?_;intro gq cq w3 hown' hgrow hat _;obtain ⟨y13c,z13c,x2c,x3c⟩:=HFIN.out w3 hgrow;have q2:∀ v,(w3.setCell ⟨C,13,none⟩ v).cell? ⟨LB,2,none⟩=some (.int .i64 bag):=(fun v=>(cell_other (.inl hCL)).trans x2c);have q3:∀ v,(w3.setCell ⟨C,13,none⟩ v).cell? ⟨LB,3,none⟩=some (.int .i64 que):=(fun v=>(cell_other (.inl hCL)).trans x3c)))
 all_goals (refine NoPanic.normal ?_;exact HEX.out _ _ _ _ hown' hgrow hat rfl (Rest.of rfl))
end
section
def w_rp_read_0 (k:Nat):Bool:=decide (k=17) || (decide (81≤k) && decide (k≤155))
theorem rp_read (body:Code) (hbody:(Tryz.f10.body.map loopsIn).bind (fun l=>l[2]?)=some body) (Q:Exit→Act→World→Prop) (C n ca off ccap base g12 c12:Nat) (fa jitter:Int) (cs:List Int) (r:RoundN) (ra:Option Addr) (rc:Nat) (G cap:Nat→Nat) (w:World) (hlen:cs.length=n) (hn:n≤16) (hC10:w.cell? ⟨C,10,none⟩=some (.int .i64 fa)) (hC3:w.cell? ⟨C,3,none⟩=some (.int .i64 jitter)) (y11:w.cell? ⟨C,11,none⟩=some (.slice (some ⟨ca,off,none⟩) n ccap)) (hck:∀ j,j<n→w.cell? ⟨ca,off+j,none⟩=some (.int .i64 (cs.getD j 0))) (hin:∀ x∈cs,-274877906944≤x∧x≤274877906944) (hj0:0≤jitter) (hj1:jitter≤137438953472)
  (hRT:RT w base (.slice (some ⟨g12,0,none⟩) n c12) n n (readTo r n fa jitter cs 0) G cap) (hbase:base≤w.heap.size) (hCb:C<base) (hcb:ca<base) (hr:Rows3 w ra r.nR r.rn r.ro r.ri) (hrb:∀ b off,ra=some ⟨b,off,none⟩→0<r.nR→b<base) (hL:r.nR≤9223372036854775807) {L:List Value} (hL0:L.length=452) (s0:L[0]? = some (.pointer (some ⟨C,0,none⟩))) (s11:L[11]? = some (.int .i64 n)) (s12:L[12]? = some (.slice (some ⟨g12,0,none⟩) n c12)) (s79:L[79]? = some (.slice ra r.nR rc)) (s80:L[80]? = some (.int .i64 r.nR)) (s81:L[81]? = some (.int .i64 0))
  (hexit:∀ (L':List Value) (wr:World),RT wr base (.slice (some ⟨g12,0,none⟩) n c12) n n (readTo r n fa jitter cs r.nR) G cap→Below base w wr→L'.length=452→Rest w_rp_read_0 L L'→L'[81]? = some (.int .i64 r.nR)→Q (.exit 4) ⟨L'.toArray,[]⟩ wr) :
  Code.wp Tryz.prog (Code.loop body) Q ⟨L.toArray,[]⟩ w:=by
 have hb2:((Tryz.f10.body.map loopsIn).bind (fun l=>l[2]?)).getD Code.skip=body:=by rw [hbody];rfl
 obtain rfl:=hb2
 clear hbody
 conv=>arg 2;arg 1;whnf
 have HEX:Hid _:=hexit
 obtain ⟨fL,rfl⟩:=lit L 452 hL0
 replace s0:=lit_at s0
 replace s11:=lit_at s11
 replace s12:=lit_at s12
 replace s79:=lit_at s79
 replace s80:=lit_at s80
 replace s81:=lit_at s81
 simp only [List.range,List.range.loop,List.map_cons,List.map_nil,s0,s11,s12,s79,s80,s81]
 have HCK:Hid (∀ j,j<n→w.cell? ⟨ca,off+j,none⟩=some (.int .i64 (cs.getD j 0))):=hck
 have HIN:Hid (∀ j,j<n→-274877906944≤cs.getD j 0∧cs.getD j 0≤274877906944):=fun j hj=>hin _ (getD_mem0 (by omega))
 have HRT0:Hid (RT w base (.slice (some ⟨g12,0,none⟩) n c12) n n (readTo r n fa jitter cs 0) G cap):=hRT
 have HR:Hid (Rows3 w ra r.nR r.rn r.ro r.ri):=hr
 have HRB:Hid (∀ b off,ra=some ⟨b,off,none⟩→0<r.nR→b<base):=hrb
 clear hexit hck hin hRT hr hrb hlen
 go_loopw [81] (fun a wr=>∃ x:Nat,x≤r.nR∧a=.int .i64 x∧Hid (RT wr base (.slice (some ⟨g12,0,none⟩) n c12) n n (readTo r n fa jitter cs x) G cap)∧Hid (Below base w wr)) (fun a _=>r.nR - (intOf a).toNat)
 case atStart=>exact ⟨0,Nat.zero_le _,rfl,HRT0.out,Below.refl _ _⟩
 case round =>
  obtain ⟨x,hx,rfl,hRT,hbe⟩:=hrel
  by_cases hlt:x<r.nR
  ·have xx:(x:Int)<(r.nR:Int):=by omega
   obtain ⟨b,off2,rfl,hbl,hc⟩:=HR.out (by omega)
   have hbb:=HRB.out b off2 rfl (by omega)
   obtain ⟨x0,x1,x2⟩:=hc x hlt
   replace x0:=(hbe.out.cell (p:=⟨b,off2+x*3,none⟩) hbb).trans x0
   replace x1:=(hbe.out.cell (p:=⟨b,off2+x*3+1,none⟩) hbb).trans x1
   replace x2:=(hbe.out.cell (p:=⟨b,off2+x*3+2,none⟩) hbb).trans x2
   have hsz:=hbe.out.size
   have HSC:Hid (readTo r n fa jitter cs (x+1)=readOne n (bitI fa) jitter (fun i=>cs.getD i 0) ⟨r.rn x,r.ro x,r.ri x⟩ (readTo r n fa jitter cs x)):=readTo_succ ..
   have HAB:Hid (Below wr.heap.size wr (wr.alloc (.cells #[.int .i64 (r.rn x),.int .i64 (r.ro x),.int .i64 (r.ri x)] 55))):=(Below.refl _ _).alloc (Nat.le_refl _) _
   have HRT1:Hid (RT (wr.alloc (.cells #[.int .i64 (r.rn x),.int .i64 (r.ro x),.int .i64 (r.ri x)] 55)) base (.slice (some ⟨g12,0,none⟩) n c12) n n (readTo r n fa jitter cs x) G cap):=hRT.out.below HAB.out
   have HBE1:Hid (Below base w (wr.alloc (.cells #[.int .i64 (r.rn x),.int .i64 (r.ro x),.int .i64 (r.ri x)] 55))):=hbe.out.trans (HAB.out.mono (Nat.le_trans hbase hsz))
   clear hc
   generalize r.rn x=A at *
   generalize r.ro x=D at *
   generalize r.ri x=E at *
   by_cases k1:0≤A∧A<n
   rotate_left
   ·have HE:Hid (readTo r n fa jitter cs (x+1)=readTo r n fa jitter cs x):=by
     show _=_
     rw [HSC.out]
     exact readOne_not (fun y=>k1 y.1)
    have hc1:=in_is A 0 ((n:Int) - 1) (wr.alloc (.cells #[.int .i64 A,.int .i64 D,.int .i64 E] 55))
    rw [decide_eq_false (by omega)] at hc1
    clear k1
    go_wp2_with fail
    refine hc1.mono ?_
    rintro ev w2 ⟨rfl,hw2⟩
    replace hw2:=hw2.symm
    subst hw2
    clear hc1
    go_wp2
    refine ⟨⟨x+1,by omega,by go_num,?_,HBE1.out⟩,by simp [intOf];omega⟩
    rw [HE.out]
    exact HRT1.out
   ·obtain ⟨a,ha⟩:∃ a:Nat,A=(a:Int):=⟨A.toNat,by omega⟩
    subst ha
    have han:a<n:=by omega
    have aa:(a:Int)<(n:Int):=by omega
    obtain ⟨W1,hW1⟩:∃ W1,W1=wr.alloc (.cells #[.int .i64 (a:Int),.int .i64 D,.int .i64 E] 55):=⟨_,rfl⟩
    have HW1:Hid (W1=wr.alloc (.cells #[.int .i64 (a:Int),.int .i64 D,.int .i64 E] 55)):=hW1
    have hc1:=in_is (a:Int) 0 ((n:Int) - 1) W1
    rw [decide_eq_true (show 0≤(a:Int)∧(a:Int)≤(n:Int) - 1 by omega)] at hc1
    by_cases k2:0≤D∧D<n
    rotate_left
    ·have HE:Hid (readTo r n fa jitter cs (x+1)=readTo r n fa jitter cs x):=by
      show _=_
      rw [HSC.out]
      exact readOne_not (fun y=>k2 y.2.1)
     have hc2:=in_is D 0 ((n:Int) - 1) W1
     rw [decide_eq_false (by omega)] at hc2
     rw [hW1] at hc1 hc2
     clear k1 k2 hW1
     go_wp2_with fail
     refine hc1.mono ?_
     rintro ev w2 ⟨rfl,hw2⟩
     replace hw2:=hw2.symm
     subst hw2
     clear hc1
     go_wp2_with fail
     refine hc2.mono ?_
     rintro ev w2 ⟨rfl,hw2⟩
     replace hw2:=hw2.symm
     subst hw2
     clear hc2
     go_wp2
     refine ⟨⟨x+1,by omega,by go_num,?_,HBE1.out⟩,by simp [intOf];omega⟩
     rw [HE.out]
     exact HRT1.out
    ·obtain ⟨d,hd⟩:∃ d:Nat,D=(d:Int):=⟨D.toNat,by omega⟩
     subst hd
     have hdn:d<n:=by omega
     have dd:(d:Int)<(n:Int):=by omega
     have hc2:=in_is (d:Int) 0 ((n:Int) - 1) W1
     rw [decide_eq_true (show 0≤(d:Int)∧(d:Int)≤(n:Int) - 1 by omega)] at hc2
     by_cases k3:(a:Int)=(d:Int)
     ·have HE:Hid (readTo r n fa jitter cs (x+1)=readTo r n fa jitter cs x):=by
       show _=_
       rw [HSC.out]
       exact readOne_not (fun y=>y.2.2 k3)
      have k4:((a:Int) == (d:Int))=true:=by simpa using k3
      rw [hW1] at hc1 hc2
      clear k1 k2 hW1 k3
      go_wp2_with fail
      refine hc1.mono ?_
      rintro ev w2 ⟨rfl,hw2⟩
      replace hw2:=hw2.symm
      subst hw2
      clear hc1
      go_wp2_with fail
      refine hc2.mono ?_
      rintro ev w2 ⟨rfl,hw2⟩
      replace hw2:=hw2.symm
      subst hw2
      clear hc2
      go_wp2
      refine ⟨⟨x+1,by omega,by go_num,?_,HBE1.out⟩,by simp [intOf];omega⟩
      rw [HE.out]
      exact HRT1.out
     ·have k4:((a:Int) == (d:Int))=false:=by simpa using k3
      have HRO:Hid (∀ i2 j2:Nat,readTo r n fa jitter cs (x+1) i2 j2=if i2=a∧j2=d then (if bitI fa d=true then cutV E 549755813888 else cs.getD d 0 - cs.getD a 0+cutV E jitter) else readTo r n fa jitter cs x i2 j2):=fun i2 j2=>by
       rw [HSC.out]
       exact readOne_at han hdn k3 i2 j2
      have hb1:Below base w W1:=by rw [hW1];exact HBE1.out
      have hC10':W1.cell? ⟨C,10,none⟩=some (.int .i64 fa):=(hb1.cell (p:=⟨C,10,none⟩) hCb).trans hC10
      have hli:=refLies_any C fa d (by omega) W1 hC10'
      obtain ⟨z0,z1,z2⟩:=lbox3 wr (.int .i64 (a:Int)) (.int .i64 (d:Int)) (.int .i64 E) 55
      rw [← hW1] at z0 z1 z2
      have HRT2:Hid (RT W1 base (.slice (some ⟨g12,0,none⟩) n c12) n n (readTo r n fa jitter cs x) G cap):=by rw [hW1];exact HRT1.out
      have HB1:Hid (Below base w W1):=hb1
      have hXs:wr.heap.size<W1.heap.size:=by rw [hW1];simp
      rw [hW1] at hc1 hc2 hli
      clear k1 k2 k3 hW1 hb1 hC10' HRT1 HBE1 HAB
      go_wp2_with fail
      refine hc1.mono ?_
      rintro ev w2 ⟨rfl,hw2⟩
      replace hw2:=hw2.symm
      subst hw2
      clear hc1
      go_wp2_with fail
      refine hc2.mono ?_
      rintro ev w2 ⟨rfl,hw2⟩
      replace hw2:=hw2.symm
      subst hw2
      clear hc2
      rw [← HW1.out] at hli
      go_wp2_with fail
      try rw [← HW1.out]
      refine hli.mono ?_
      rintro ev w2 ⟨rfl,q,hw2⟩
      clear hli
      have HRT3:Hid (RT w2 base (.slice (some ⟨g12,0,none⟩) n c12) n n (readTo r n fa jitter cs x) G cap):=by rw [hw2];exact HRT2.out.drawn q
      have HB2:Hid (Below base w w2):=by rw [hw2];exact ⟨HB1.out.os,HB1.out.tape,HB1.out.output,HB1.out.size,HB1.out.block⟩
      have u0:w2.cell? ⟨wr.heap.size,0,none⟩=some (.int .i64 a):=by rw [hw2];exact z0
      have u1:w2.cell? ⟨wr.heap.size,1,none⟩=some (.int .i64 d):=by rw [hw2];exact z1
      have u2:w2.cell? ⟨wr.heap.size,2,none⟩=some (.int .i64 E):=by rw [hw2];exact z2
      clear hw2 z0 z1 z2
      have ug:w2.cell? ⟨g12,a,none⟩=some (.slice (some ⟨G a,0,none⟩) n (cap a)):=by
       have:=HRT3.out.own.cells (g:=g12) rfl a (.slice (some ⟨G a,0,none⟩) n (cap a)) (by simp [han])
       rwa [add_at,Nat.zero_add] at this
      have uG:=HRT3.out.cel a d han hdn
      have vG:=HRT3.out.zG a d han
      have hGl:=HRT2.out.lt a han
      have hGr:=hRT.out.lt a han
      have hXG:wr.heap.size≠G a:=by omega
      have hgG:g12≠G a:=fun e=>hRT.out.no a han (by rw [← e];rfl)
      have hCG:C≠G a:=by omega
      have hcaG:ca≠G a:=by omega
      have HFIN:Hid (∀ V:Int,(if bitI fa d=true then cutV E 549755813888 else cs.getD d 0 - cs.getD a 0+cutV E jitter)=V→RT (w2.setCell ⟨G a,d,none⟩ (.int .i64 V)).drew base (.slice (some ⟨g12,0,none⟩) n c12) n n (readTo r n fa jitter cs (x+1)) G cap∧Below base w (w2.setCell ⟨G a,d,none⟩ (.int .i64 V)).drew):=fun V hV=>⟨RT.drawn (q:=1) (HRT3.out.set han hdn (fun i' j' _ _=>by rw [HRO.out,hV])),(HB2.out.setCell (p:=⟨G a,d,none⟩) hGr.1 _).drew⟩
      clear HRT2 hGl
      cases hbf:bitI fa d
      ·have q0:=HIN.out a han
       have q1:=HIN.out d hdn
       have v11:=(HB2.out.cell (p:=⟨C,11,none⟩) hCb).trans y11
       have vd:=(HB2.out.cell (p:=⟨ca,off+d,none⟩) hcb).trans (HCK.out d hdn)
       have va:=(HB2.out.cell (p:=⟨ca,off+a,none⟩) hcb).trans (HCK.out a han)
       have v3:=(HB2.out.cell (p:=⟨C,3,none⟩) hCb).trans hC3
       have HF2:Hid _:=HFIN.out (cs.getD d 0 - cs.getD a 0+cutV E jitter) (by rw [hbf,if_neg (by decide)])
       go_wp2_with fail
       refine rp_tru _ (by rfl) _ C n g12 c12 wr.heap.size (G a) (cap a) a d E _ ca off ccap (cs.getD d 0) (cs.getD a 0) jitter hj0 hj1 q0 q1 w2 aa dd u0 u1 u2 ug uG vG hXG hgG hCG hcaG v11 vd va v3 rfl rfl rfl rfl ?_
       intro L2  hN9 hQ9
       obtain ⟨gL,rfl⟩:=hQ9.over (hN9.trans rfl)
       clear hQ9 hN9
       simp (decide:=true) only [ov,if_true,if_false,Nat.reduceAdd]
       clear v11 vd va v3 u0 u1 u2 ug uG vG
       generalize (w2.setCell ⟨G a,d,none⟩ (.int .i64 (cs.getD d 0 - cs.getD a 0+cutV E jitter))).drew=w5 at *
       go_wp2
       exact ⟨⟨x+1,by omega,by go_num,HF2.out.1,HF2.out.2⟩,by simp [intOf];omega⟩
      ·have HF2:Hid _:=HFIN.out (cutV E 549755813888) (by rw [hbf,if_pos rfl])
       go_wp2_with fail
       refine rp_lie _ (by rfl) _ C n g12 c12 wr.heap.size (G a) (cap a) a d E _ w2 aa dd u0 u1 u2 ug uG vG hXG hgG rfl rfl rfl rfl ?_
       intro L2  hN9 hQ9
       obtain ⟨gL,rfl⟩:=hQ9.over (hN9.trans rfl)
       clear hQ9 hN9
       simp (decide:=true) only [ov,if_true,if_false,Nat.reduceAdd]
       clear u0 u1 u2 ug uG vG
       generalize (w2.setCell ⟨G a,d,none⟩ (.int .i64 (cutV E 549755813888))).drew=w5 at *
       go_wp2
       exact ⟨⟨x+1,by omega,by go_num,HF2.out.1,HF2.out.2⟩,by simp [intOf];omega⟩
  ·obtain rfl:x=r.nR:=by omega
   go_wp2
   exact HEX.out _ _ hRT.out hbe.out rfl (Rest.of rfl) rfl
end
section
def NMz (wr:World) (base:Nat) (Z:List Nat) (C:Nat) (p:PlanN) (cc:Nat→Option Value) (clk:List Nat) (m0:RMap) (V12:Value) (k:Nat):Prop:=∃ V13,NMx wr base Z C p cc clk m0 p.n k (tkB p.n k 0) V12 V13
theorem nbox4 (w:World) (a b c d:Value) (t:TypeId):(w.alloc (.cells #[a,b,c,d] t)).cell? ⟨w.heap.size,2,none⟩=some c∧(w.alloc (.cells #[a,b,c,d] t)).cell? ⟨w.heap.size,3,none⟩=some d∧Below w.heap.size w (w.alloc (.cells #[a,b,c,d] t))∧(w.alloc (.cells #[a,b,c,d] t)).heap.size=w.heap.size+1:=⟨by simp,by simp,(Below.refl _ _).alloc (Nat.le_refl _) _,by simp⟩
def w_rn_link_0 (k:Nat):Bool:=(decide (16≤k) && decide (k≤18)) || (decide (101≤k) && decide (k≤136))
theorem rn_link (body:Code) (hbody:(Tryz.f6.body.map loopsIn).bind (fun l=>l[2]?)=some body) (Q:Exit→Act→World→Prop) (base:Nat) (Z:List Nat) (C PB:Nat) (p:PlanN) (cc:Nat→Option Value) (clk:List Nat) (m0:RMap) (V12:Value) (LA:Option Addr) (lcp:Nat) (w:World) (hn:p.n≤16) (hnl:p.nl≤8) (e14:cc 14=some (.map (some m0.tb))) (hPB:w.cell? ⟨PB,0,none⟩=some (.int .i64 p.n)) (hPC:PB≠C) (hPT:PB≠m0.tb)
  (hrow:0<p.nl→∃ b off,LA=some ⟨b,off,none⟩∧(b<w.heap.size∧b≠C∧b≠m0.tb)∧∀ i,i<p.nl→w.cell? ⟨b,off+i*4,none⟩=some (.int .i64 (p.lf i))∧w.cell? ⟨b,off+i*4+1,none⟩=some (.int .i64 (p.lt i))∧w.cell? ⟨b,off+i*4+2,none⟩=some (.int .i64 (p.lb i))∧w.cell? ⟨b,off+i*4+3,none⟩=some (.int .i64 (p.lq i))) (h:NMz w base Z C p cc clk m0 V12 0) (hfr0:∀ V13,NMx w base Z C p cc clk m0 p.n 0 (tkB p.n 0 0) V12 V13→V13.ownBlock=none) {L:List Value} (hL0:L.length=139) (s3:L[3]? = some (.pointer (some ⟨PB,0,none⟩))) (s9:L[9]? = some (.pointer (some ⟨C,0,none⟩))) (s99:L[99]? = some (.slice LA p.nl lcp)) (s100:L[100]? = some (.int .i64 p.nl)) (s101:L[101]? = some (.int .i64 0))
  (hexit:∀ (L':List Value) (wr:World),NMz wr base Z C p cc clk m0 V12 p.nl→Turns C m0.tb w wr→L'.length=139→Rest w_rn_link_0 L L'→L'[101]? = some (.int .i64 p.nl)→Q (.exit 4) ⟨L'.toArray,[]⟩ wr) :
  Code.wp Tryz.prog (Code.loop body) Q ⟨L.toArray,[]⟩ w:=by
 have hb2:((Tryz.f6.body.map loopsIn).bind (fun l=>l[2]?)).getD Code.skip=body:=by rw [hbody];rfl
 obtain rfl:=hb2
 clear hbody
 conv=>arg 2;arg 1;whnf
 have HEX:Hid _:=hexit
 obtain ⟨fL,rfl⟩:=lit L 139 hL0
 replace s3:=lit_at s3
 replace s9:=lit_at s9
 replace s99:=lit_at s99
 replace s100:=lit_at s100
 replace s101:=lit_at s101
 simp only [List.range,List.range.loop,List.map_cons,List.map_nil,s3,s9,s99,s100,s101]
 have HH:Hid (NMz w base Z C p cc clk m0 V12 0):=h
 have HROW:Hid _:=hrow
 have HF0:Hid (∀ V13,NMx w base Z C p cc clk m0 p.n 0 (tkB p.n 0 0) V12 V13→V13.ownBlock=none):=hfr0
 have lPB:PB<w.heap.size:=lt_of_cell hPB
 clear hexit h hrow hfr0
 go_loopw [101] (fun a wr=>∃ k:Nat,k≤p.nl∧a=.int .i64 k∧Hid (∃ V13,NMx wr base Z C p cc clk m0 p.n k (tkB p.n k 0) V12 V13∧∀ g,V13.ownBlock=some g→w.heap.size≤g)∧Hid (Turns C m0.tb w wr)) (fun a _=>p.nl - (intOf a).toNat)
 case atStart =>
  obtain ⟨V13,hV⟩:=HH.out
  exact ⟨0,Nat.zero_le _,rfl,⟨V13,hV,fun g hg=>by rw [HF0.out V13 hV] at hg;cases hg⟩,Turns.refl _ _ _⟩
 case round =>
  obtain ⟨k,hk,rfl,hN,hTu⟩:=hrel
  by_cases hlt:k<p.nl
  ·have kk:(k:Int)<(p.nl:Int):=by omega
   obtain ⟨V13,⟨Of,m,hfix,hNM⟩,hfr⟩:=hN.out
   obtain ⟨b,off,rfl,⟨hbl,hbC,hbT⟩,hc⟩:=HROW.out (by omega)
   obtain ⟨x0,x1,x2,x3⟩:=hc k hlt
   have hsw:=hTu.out.size
   replace x0:=(hTu.out.cell (p:=⟨b,off+k*4,none⟩) hbl hbC hbT).trans x0
   replace x1:=(hTu.out.cell (p:=⟨b,off+k*4+1,none⟩) hbl hbC hbT).trans x1
   replace x2:=(hTu.out.cell (p:=⟨b,off+k*4+2,none⟩) hbl hbC hbT).trans x2
   replace x3:=(hTu.out.cell (p:=⟨b,off+k*4+3,none⟩) hbl hbC hbT).trans x3
   obtain ⟨z2,z3,zb,zs⟩:=nbox4 wr (.int .i64 (p.lf k)) (.int .i64 (p.lt k)) (.int .i64 (p.lb k)) (.int .i64 (p.lq k)) 105
   have hN1:=hNM.below zb
   obtain ⟨W1,hW1⟩:∃ W1,W1=wr.alloc (.cells #[.int .i64 (p.lf k),.int .i64 (p.lt k),.int .i64 (p.lb k),.int .i64 (p.lq k)] 105):=⟨_,rfl⟩
   have HW1:Hid (W1=wr.alloc (.cells #[.int .i64 (p.lf k),.int .i64 (p.lt k),.int .i64 (p.lb k),.int .i64 (p.lq k)] 105)):=hW1
   rw [← hW1] at z2 z3 zb zs hN1
   have HNM1:Hid (NM W1 base Z Of C p cc clk m p.n k (tkB p.n k 0) V12 V13):=hN1
   have y13:=hN1.c13
   have v13:=hN1.z 13
   have hVf:=owns_form hN1.own13
   have hown1:=hN1.own13
   have lC1:=hNM.lC
   have hLC:wr.heap.size≠C:=by omega
   have hVC:V13.ownBlock≠some C:=fun e=>hNM.nC (by simp [e])
   have hVL:V13.ownBlock≠some wr.heap.size:=fun e=>by have:=hNM.fam.lt iB wr.heap.size (by rw [hNM.ob];simp [e]);omega
   have hsz1:=hN1.sz
   have htb:=hfix.1.1
   have HFX:Hid (RMap.fix m m0):=hfix
   have HFR:Hid (∀ g,V13.ownBlock=some g→w.heap.size≤g):=hfr
   have zPB:wr.cell? ⟨PB,0,none⟩=some (.int .i64 p.n):=(hTu.out.cell (p:=⟨PB,0,none⟩) lPB hPC hPT).trans hPB
   clear hNM hN1 hN hfr hfix hW1 hc
   go_wp2_with fail
   rw [← HW1.out]
   refine rn_add _ (by rfl) _ base C wr.heap.size k (p.lb k) (p.lq k) V13 _ W1 (by omega) y13 v13 hVf z2 z3 hLC hown1 hVC hVL hsz1 rfl rfl rfl ?_
   intro L2 g cap w3 ho3 hg3 hat3 hN9 hQ9
   obtain ⟨gL,rfl⟩:=hQ9.over (hN9.trans rfl)
   clear hQ9 hN9
   simp (decide:=true) only [ov,if_true,if_false,Nat.reduceAdd]
   have hNd:NM W1.drew base Z Of C p cc clk m p.n k (tkB p.n k 0) V12 V13:=HNM1.out.below ⟨rfl,rfl,rfl,Nat.le_refl _,fun _ _=>rfl⟩
   have hAl:Below W1.drew.heap.size W1.drew (W1.drew.alloc (.cells #[.int .i64 (p.lb k),.int .i64 (p.lq k),.slice none 0 0,.int .i64 0,.int .i64 0,.int .i64 0] 108)):=(Below.refl _ _).alloc (Nat.le_refl _) _
   have hs2:(W1.drew.alloc (.cells #[.int .i64 (p.lb k),.int .i64 (p.lq k),.slice none 0 0,.int .i64 0,.int .i64 0,.int .i64 0] 108)).heap.size=W1.heap.size+1:=by
    show (W1.alloc _).heap.size=_
    simp
   obtain ⟨Of',hN'⟩:=hNd.addLink (S:=W1.heap.size) (V':=.slice (some ⟨g,0,none⟩) (k+1) cap) hAl refSdr_new (Nat.le_refl _) ho3 hg3 (by
    rw [hs2]
    rcases hat3 with y | y
    ·exact .inl y.symm
    ·exact .inr (by rw [y];rfl))
   have hg0:w.heap.size≤g:=by
    rcases hat3 with y | y
    ·exact HFR.out g y
    ·omega
   have HN4:Hid (NMx (w3.setCell ⟨C,13,none⟩ (.slice (some ⟨g,0,none⟩) (k+1) cap)) base Z C p cc clk m0 p.n (k+1) (tkB p.n k 0) V12 (.slice (some ⟨g,0,none⟩) (k+1) cap)):=by
    refine ⟨Of',_,?_,hN'⟩
    exact HFX.out
   have hs3:W1.heap.size+2≤w3.heap.size:=by
    have:=hg3.size
    rw [show ((W1.drew.alloc (.cells #[.int .i64 (p.lb k),.int .i64 (p.lq k),.slice none 0 0,.int .i64 0,.int .i64 0,.int .i64 0] 108)).alloc (.cells #[.pointer (some ⟨W1.heap.size,0,none⟩)] 65)).heap.size=W1.heap.size+2 by
     show ((W1.alloc _).alloc _).heap.size=_
     simp] at this
    exact this
   have hs4:(w3.setCell ⟨C,13,none⟩ (.slice (some ⟨g,0,none⟩) (k+1) cap)).heap.size=w3.heap.size:=by simp
   have HT4:Hid (Turns C m0.tb w (w3.setCell ⟨C,13,none⟩ (.slice (some ⟨g,0,none⟩) (k+1) cap))):=by
    have hA2:Below W1.heap.size W1 ((W1.drew.alloc (.cells #[.int .i64 (p.lb k),.int .i64 (p.lq k),.slice none 0 0,.int .i64 0,.int .i64 0,.int .i64 0] 108)).alloc (.cells #[.pointer (some ⟨W1.heap.size,0,none⟩)] 65)):=(((Below.refl W1.heap.size W1).drew).alloc (Nat.le_refl _) _).alloc (by simp) _
    refine ⟨hg3.os.trans (hA2.os.trans (zb.os.trans hTu.out.os)),hg3.tape.trans (hA2.tape.trans (zb.tape.trans hTu.out.tape)),hg3.output.trans (hA2.output.trans (zb.output.trans hTu.out.output)),by rw [hs4];omega,fun c hc h1 h2=>?_⟩
    have hA2s:=hA2.size
    exact (Below.heap_setCell _ _ _ c h1).trans ((hg3.block c (by omega) (fun e=>by have:=HFR.out c e.symm;omega)).trans ((hA2.block c (by omega)).trans ((zb.block c (by omega)).trans (hTu.out.block c hc h1 h2))))
   have zP4:(w3.setCell ⟨C,13,none⟩ (.slice (some ⟨g,0,none⟩) (k+1) cap)).cell? ⟨PB,0,none⟩=some (.int .i64 p.n):=(HT4.out.cell (p:=⟨PB,0,none⟩) lPB hPC hPT).trans hPB
   have lP4:PB<(w3.setCell ⟨C,13,none⟩ (.slice (some ⟨g,0,none⟩) (k+1) cap)).heap.size:=lt_of_cell zP4
   generalize w3.setCell ⟨C,13,none⟩ (.slice (some ⟨g,0,none⟩) (k+1) cap)=w4 at *
   clear ho3 hg3 hat3 hNd hAl hs2 hN' zPB y13 v13 z2 z3
   go_wp2_with fail
   refine rn_taker _ (by rfl) _ base Z C k p cc clk m0 V12 (.slice (some ⟨g,0,none⟩) (k+1) cap) w4 (by omega) hn e14 HN4.out rfl rfl rfl rfl rfl ?_
   intro L2 w5 hN5 hT5 hN9 hQ9 t123
   obtain ⟨gL,rfl⟩:=hQ9.over (hN9.trans rfl)
   clear hQ9 hN9
   simp (decide:=true) only [ov,if_true,if_false,Nat.reduceAdd] at t123 ⊢
   replace t123:=Option.some.inj t123
   rw [t123]
   clear t123
   have HN5:Hid (∃ V13,NMx w5 base Z C p cc clk m0 p.n (k+1) (tkB p.n (k+1) 0) V12 V13∧∀ g,V13.ownBlock=some g→w.heap.size≤g):=⟨_,hN5,fun x hx=>by have e:g=x:=Option.some.inj hx;omega⟩
   have HT5:Hid (Turns C m0.tb w w5):=HT4.out.trans ⟨hT5.os,hT5.tape,hT5.output,hT5.size,fun c hc _ h2=>hT5.block c hc h2 h2⟩
   clear hN5 hT5
   go_wp2
   exact ⟨⟨k+1,by omega,by go_num,HN5.out,HT5.out⟩,by simp [intOf];omega⟩
  ·obtain rfl:k=p.nl:=by omega
   obtain ⟨V13,hV,_⟩:=hN.out
   have HV:Hid _:=hV
   clear hV
   go_wp2
   exact HEX.out _ _ ⟨V13,HV.out⟩ hTu.out rfl (Rest.of rfl) rfl
end
end Go.Proofs.YtooadfgibdjdeaaGreatDoor
