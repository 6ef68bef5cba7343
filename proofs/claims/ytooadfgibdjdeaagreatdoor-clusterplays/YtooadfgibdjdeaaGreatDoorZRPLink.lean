import Derived.Test.YtooadfgibdjdeaaGreatDoorZR10
namespace Go.Proofs.YtooadfgibdjdeaaGreatDoor
open Go.RowKit
set_option maxRecDepth 100000
set_option maxHeartbeats 16000000
section
def goK (p:PlanN) (s:ClS) (sent:Bool) (who:Nat) (t:Int) (k:Nat):(Nat→SendS) × Option (Nat × Int × ByteArray):=if sent=true then linksTo p.S who t s.links k else (s.links,none)
def goS (p:PlanN) (s:ClS) (sent:Bool) (who:Nat) (t:Int) (k:Nat):ClS:=⟨s.nodes,(goK p s sent who t k).1,s.newest,s.ports⟩
theorem goK_mute {p:PlanN} {s:ClS} {who:Nat} {t:Int} {k:Nat} : goK p s false who t (k+1)=goK p s false who t k:=rfl
theorem goK_end {p:PlanN} {s:ClS} {who:Nat} {t:Int} {k:Nat} {x:Nat × Int × ByteArray} (h:(goK p s true who t k).2=some x):goK p s true who t (k+1)=goK p s true who t k:=by
 unfold goK at h ⊢
 rw [if_pos rfl] at h ⊢
 rw [if_pos rfl]
 exact linksTo_end (by rw [h];rfl) (k+1) (Nat.le_succ _)
theorem goK_skip {p:PlanN} {s:ClS} {who:Nat} {t:Int} {k:Nat} (h:p.S.lf k≠who):goK p s true who t (k+1)=goK p s true who t k:=by
 unfold goK
 rw [if_pos rfl,if_pos rfl]
 exact linksTo_skip h
theorem goK_ask {p:PlanN} {s:ClS} {who:Nat} {t:Int} {k:Nat} (h:p.S.lf k=who) (hn:(goK p s true who t k).2=none):goK p s true who t (k+1)=(fun j=>if j=k then ((goK p s true who t k).1 k).asked t (p.lb k) else (goK p s true who t k).1 j,
   if sendK ((goK p s true who t k).1 k).all.length ((goK p s true who t k).1 k).went t ((goK p s true who t k).1 k).now ((goK p s true who t k).1 k).last (p.lb k)=0 then some (k,ordN ((goK p s true who t k).1 k).went,((goK p s true who t k).1 k).all.getD ((goK p s true who t k).1 k).went ByteArray.empty) else none):=by
 unfold goK at hn ⊢
 rw [if_pos rfl] at hn
 rw [if_pos rfl,if_pos rfl]
 exact linksTo_ask h hn
theorem lbox4 (w:World) (a b c d:Value) (t:TypeId):(w.alloc (.cells #[a,b,c,d] t)).cell? ⟨w.heap.size,0,none⟩=some a∧Below w.heap.size w (w.alloc (.cells #[a,b,c,d] t))∧(w.alloc (.cells #[a,b,c,d] t)).heap.size=w.heap.size+1:=⟨by simp,(Below.refl _ _).alloc (Nat.le_refl _) _,by simp⟩
section
variable {w:World} {O Z:List Nat} {C:Nat} {p:PlanN} {fa:Int} {cs:List Int} {s:ClS} {rd:Int} {B:Nat} {m:RMap}
def w_rp_link_0 (k:Nat):Bool:=(decide (27≤k) && decide (k≤34)) || (decide (274≤k) && decide (k≤323))
theorem rp_link (body:Code) (hbody:(Tryz.f10.body.map loopsIn).bind (fun l=>l[5]?)=some body) (Q:Exit→Act→World→Prop) (h:RCl w O Z C p fa cs s rd B m) (who:Nat) (fr t:Int) (sent:Bool) (SB:Nat) (LA:Option Addr) (hLA:LA=m.la)
  (hnl:p.nl≤8) (hB:B≤999900) (hSB:SB<w.heap.size) (hSO:SB∉O) (sb0:w.cell? ⟨SB,0,none⟩=some (.int .i64 who)) (sb1:w.cell? ⟨SB,1,none⟩=some (.int .i64 fr)) (hrd:0≤rd) (hrd1:rd≤1000000) (hr1:1≤p.round) (hr2:p.round≤137438953472) (hf0:0≤fr) (hf1:fr≤1099511627776) (ht:t=rd*p.round+fr)
  (hlk:∀ k,k<p.nl→0≤p.lf k∧0≤p.lb k∧p.lb k≤1099511627776) {L:List Value} (hL0:L.length=452) (s0:L[0]? = some (.pointer (some ⟨C,0,none⟩))) (s22:L[22]? = some (.pointer (some ⟨SB,0,none⟩))) (s25:L[25]? = some (.bool sent)) (s27:L[27]? = some (.int .i64 (-1))) (s28:L[28]? = some (.int .i64 0)) (s29:L[29]? = some (.string ByteArray.empty)) (s272:L[272]? = some (.slice LA p.nl m.lcap)) (s273:L[273]? = some (.int .i64 p.nl)) (s274:L[274]? = some (.int .i64 0))
  (hexit:∀ (L':List Value) (wr:World),InRC O w wr Z C p fa cs (goS p s sent who t p.nl) rd B m→L'.length=452→Rest w_rp_link_0 L L'→L'[27]? = some (.int .i64 (msgLk (goK p s sent who t p.nl).2))→L'[28]? = some (.int .i64 (msgSeq (goK p s sent who t p.nl).2))→L'[29]? = some (.string (msgDat (goK p s sent who t p.nl).2))→L'[274]? = some (.int .i64 p.nl)→Q (.exit 10) ⟨L'.toArray,[]⟩ wr) :
  Code.wp Tryz.prog (Code.loop body) Q ⟨L.toArray,[]⟩ w:=by
 have hb2:((Tryz.f10.body.map loopsIn).bind (fun l=>l[5]?)).getD Code.skip=body:=by rw [hbody];rfl
 obtain rfl:=hb2
 clear hbody
 conv=>arg 2;arg 1;whnf
 have HEX:Hid _:=hexit
 obtain ⟨fL,rfl⟩:=lit L 452 hL0
 replace s0:=lit_at s0
 replace s22:=lit_at s22
 replace s25:=lit_at s25
 replace s27:=lit_at s27
 replace s28:=lit_at s28
 replace s29:=lit_at s29
 replace s272:=lit_at s272
 replace s273:=lit_at s273
 replace s274:=lit_at s274
 simp only [List.range,List.range.loop,List.map_cons,List.map_nil,s0,s22,s25,s27,s28,s29,s272,s273,s274]
 have HH:Hid (RCl w O Z C p fa cs s rd B m):=h
 have HSO:Hid (SB∉O):=hSO
 have HLA:Hid (LA=m.la):=hLA
 have HLK:Hid (∀ k,k<p.nl→0≤p.lf k∧0≤p.lb k∧p.lb k≤1099511627776):=hlk
 have hm0:0≤rd*p.round:=Int.mul_nonneg hrd (by omega)
 have hm1:rd*p.round≤1000000*137438953472:=Int.mul_le_mul hrd1 hr2 (by omega) (by omega)
 clear hexit h hSO hlk hLA
 go_loopw [274,27,28,29] (fun a b c d wr=>∃ k:Nat,k≤p.nl∧a=.int .i64 k∧b=.int .i64 (msgLk (goK p s sent who t k).2)∧c=.int .i64 (msgSeq (goK p s sent who t k).2)∧d=.string (msgDat (goK p s sent who t k).2)∧Hid (InRC O w wr Z C p fa cs (goS p s sent who t k) rd B m)) (fun a _ _ _ _=>p.nl - (intOf a).toNat)
 case atStart =>
  have e:goK p s sent who t 0=(s.links,none):=by
   unfold goK
   split <;> rfl
  refine ⟨0,Nat.zero_le _,rfl,by rw [e];rfl,by rw [e];rfl,by rw [e];rfl,O,Foot.refl _ _,?_⟩
  have e2:goS p s sent who t 0=s:=by unfold goS;rw [e]
  rw [e2]
  exact HH.out
 case round =>
  obtain ⟨k,hk,rfl,rfl,rfl,rfl,hin⟩:=hrel
  have hs0:=hin.out.size
  by_cases hlt:k<p.nl
  ·have kk:(k:Int)<(p.nl:Int):=by omega
   obtain ⟨b,off,e,hbZ,hc⟩:=hin.out.rows.lk (by omega)
   have hbl:=hin.out.rows.zl b hbZ
   obtain ⟨x0,x1,x2,x3⟩:=hc k hlt
   obtain ⟨g0,g1,g2⟩:=HLK.out k hlt
   obtain ⟨LF,hLF⟩:∃ LF:Nat,p.lf k=(LF:Int):=⟨(p.lf k).toNat,by omega⟩
   have HSF:Hid (p.S.lf k=LF):=by
    show (p.lf k).toNat=LF
    omega
   obtain ⟨z0,z1,z2⟩:=lbox4 wr (.int .i64 (p.lf k)) (.int .i64 (p.lt k)) (.int .i64 (p.lb k)) (.int .i64 (p.lq k)) 105
   have HI1:Hid (InRC O w (wr.alloc (.cells #[.int .i64 (p.lf k),.int .i64 (p.lt k),.int .i64 (p.lb k),.int .i64 (p.lq k)] 105)) Z C p fa cs (goS p s sent who t k) rd B m):=hin.out.below z1
   have hLAe:LA=some ⟨b,off,none⟩:=HLA.out.trans e
   have ysb0:(wr.alloc (.cells #[.int .i64 (p.lf k),.int .i64 (p.lt k),.int .i64 (p.lb k),.int .i64 (p.lq k)] 105)).cell? ⟨SB,0,none⟩=some (.int .i64 who):=(HI1.out.box hSB HSO.out 0).trans sb0
   have hSBr:SB<wr.heap.size:=by omega
   clear HLA hc
   subst hLAe
   rw [hLF] at x0 z0 z1 z2 ysb0 HI1
   cases sent
   ·have HE:Hid (goK p s false who t (k+1)=goK p s false who t k):=goK_mute
    have HE2:Hid (goS p s false who t (k+1)=goS p s false who t k):=rfl
    rw [show (goK p s false who t k).2=none from rfl,show msgLk (none:Option (Nat × Int × ByteArray)) = -1 from rfl,show msgSeq (none:Option (Nat × Int × ByteArray))=0 from rfl,show msgDat (none:Option (Nat × Int × ByteArray))=ByteArray.empty from rfl]
    go_wp2
    refine ⟨⟨k+1,by omega,by go_num,by rw [HE.out];rfl,by rw [HE.out];rfl,by rw [HE.out];rfl,?_⟩,by simp [intOf];omega⟩
    rw [HE2.out]
    exact HI1.out
   ·obtain ⟨mkv,hmkv⟩:∃ mkv,(goK p s true who t k).2=mkv:=⟨_,rfl⟩
    rcases mkv with _ | ⟨k',q',d'⟩
    ·rw [hmkv,show msgLk (none:Option (Nat × Int × ByteArray)) = -1 from rfl,show msgSeq (none:Option (Nat × Int × ByteArray))=0 from rfl,show msgDat (none:Option (Nat × Int × ByteArray))=ByteArray.empty from rfl]
     by_cases hw:LF=who
     ·have HASK:=goK_ask (p:=p) (s:=s) (who:=who) (t:=t) (k:=k) (by rw [HSF.out];exact hw) hmkv
      obtain ⟨S0,hS0⟩:∃ S0,(goK p s true who t k).1 k=S0:=⟨_,rfl⟩
      have hS1:(goS p s true who t k).links k=S0:=hS0
      obtain ⟨W1,hW1⟩:∃ W1,wr.alloc (.cells #[.int .i64 (LF:Int),.int .i64 (p.lt k),.int .i64 (p.lb k),.int .i64 (p.lq k)] 105)=W1:=⟨_,rfl⟩
      rw [hW1] at HI1 ysb0 z0 z1 z2
      have HSD:Hid (Calls Tryz.prog 44 #[.pointer (some ⟨m.S k,0,none⟩),.int .i64 (rd*p.round+fr)] W1.drew fun e w'=>e=.returned (.tuple #[.int .i64 (sendSeq (sendK S0.all.length S0.went t S0.now S0.last (p.lb k)) S0.went),.string (sendDat (sendK S0.all.length S0.went t S0.now S0.last (p.lb k)) S0.all S0.went),.int .i64 (sendK S0.all.length S0.went t S0.now S0.last (p.lb k))])∧InRC O w w' Z C p fa cs ((goS p s true who t k).setSend k (S0.asked t (p.lb k))) rd B m):=by
       have q:=rsendI (HI1.out.drawn 1) k hlt t g1 g2 (by omega)
       rw [hS1] at q
       rw [← ht]
       exact q
      rw [hS0] at HASK
      have HAS:Hid _:=HASK
      have HY:Hid (∀ (w':World) (s':ClS) (B':Nat),InRC O w w' Z C p fa cs s' rd B' m→((w'.cell? ⟨C,13,none⟩=some (.slice (some ⟨m.kb,0,none⟩) p.nl m.kcap)∧w'.cell? ⟨m.kb,k,none⟩=some (.pointer (some ⟨m.S k,0,none⟩)))∧w'.cell? ⟨C,16,none⟩=some (.int .i64 rd)∧w'.cell? ⟨C,5,none⟩=some (.int .i64 p.round))∧w'.cell? ⟨SB,1,none⟩=some (.int .i64 fr)∧m.kb<w'.heap.size∧C<w'.heap.size∧SB<w'.heap.size):=fun w' s' B' hi=>by
       have y13:=hi.base.c13
       obtain ⟨ka1,ka2⟩:=hi.base.ka (by omega)
       rw [ka1] at y13
       exact ⟨⟨⟨y13,hi.base.kk k hlt⟩,hi.base.c16,hi.base.c5⟩,(hi.box hSB HSO.out 1).trans sb1,hi.base.lx _ ka2,hi.base.lc,Nat.lt_of_lt_of_le hSB hi.size⟩
      obtain ⟨⟨⟨y13,ykb⟩,y16,y5⟩,ysb1,lkb,lc1,lsb1⟩:=HY.out _ _ _ HI1.out
      have w1:IntKind.i64.wrap (rd*p.round)=rd*p.round:=by
       rw [IntKind.wrap_i64]
       generalize rd*p.round=X at *
       omega
      have w2:IntKind.i64.wrap (rd*p.round+fr)=rd*p.round+fr:=by
       rw [IntKind.wrap_i64]
       generalize rd*p.round=X at *
       omega
      have HMV:Hid ((goK p s true who t k).2=none):=hmkv
      have hW1':W1=wr.alloc (.cells #[.int .i64 (LF:Int),.int .i64 (p.lt k),.int .i64 (p.lb k),.int .i64 (p.lq k)] 105):=hW1.symm
      obtain ⟨K,hK⟩:∃ K,sendK S0.all.length S0.went t S0.now S0.last (p.lb k)=K:=⟨_,rfl⟩
      rw [hK] at HSD HAS
      clear hmkv HASK hS0 hS1 hK hW1
      have HW1:Hid (W1=wr.alloc (.cells #[.int .i64 (LF:Int),.int .i64 (p.lt k),.int .i64 (p.lb k),.int .i64 (p.lq k)] 105)):=hW1'
      rw [hW1'] at z0 ysb0
      clear hW1'
      subst hw
      go_wp2_with fail
      rw [← HW1.out]
      go_region_held3 (fun u=>u.cell? ⟨C,13,none⟩=some (.slice (some ⟨m.kb,0,none⟩) p.nl m.kcap)∧u.cell? ⟨m.kb,k,none⟩=some (.pointer (some ⟨m.S k,0,none⟩))∧u.cell? ⟨C,16,none⟩=some (.int .i64 rd)∧u.cell? ⟨C,5,none⟩=some (.int .i64 p.round)∧u.cell? ⟨SB,1,none⟩=some (.int .i64 fr)) (go_keep) (first
       | (go_at_call 44;refine HSD.out.mono ?_;rintro ev w2' ⟨rfl,hI2⟩;obtain ⟨⟨⟨y13b,ykbb⟩,y16b,y5b⟩,ysb1b,_,_,_⟩:=HY.out w2' _ _ hI2))
      have HI2:Hid (InRC O w w2' Z C p fa cs ((goS p s true LF t k).setSend k (S0.asked t (p.lb k))) rd B m):=hI2
      clear hI2 y13b ykbb y16b y5b ysb1b y13 ykb y16 y5 ysb1 z0 ysb0
      have HE2:Hid (goS p s true LF t (k+1)=(goS p s true LF t k).setSend k (S0.asked t (p.lb k))):=by
       show goS _ _ _ _ _ _=_
       unfold goS
       rw [HAS.out]
       rfl
      by_cases hK0:K=0
      ·have HV:Hid ((goK p s true LF t (k+1)).2=some (k,ordN S0.went,S0.all.getD S0.went ByteArray.empty)):=by
        show _=_
        rw [HAS.out]
        simp only [if_pos hK0]
       subst hK0
       go_wp2
       refine ⟨⟨k+1,by omega,by go_num,by rw [HV.out];rfl,by rw [HV.out];rfl,by rw [HV.out];rfl,?_⟩,by simp [intOf];omega⟩
       rw [HE2.out]
       exact HI2.out
      ·have HV:Hid ((goK p s true LF t (k+1)).2=none):=by
        show _=_
        rw [HAS.out]
        simp only [if_neg hK0]
       have k1:(K == 0)=false:=by simpa using hK0
       clear hK0
       go_wp2
       refine ⟨⟨k+1,by omega,by go_num,by rw [HV.out];rfl,by rw [HV.out];rfl,by rw [HV.out];rfl,?_⟩,by simp [intOf];omega⟩
       rw [HE2.out]
       exact HI2.out
     ·have HE:Hid (goK p s true who t (k+1)=goK p s true who t k):=goK_skip (by rw [HSF.out];exact hw)
      have HE2:Hid (goS p s true who t (k+1)=goS p s true who t k):=by
       show goS _ _ _ _ _ _=_
       unfold goS
       rw [HE.out]
      have k1:((LF:Int) != (who:Int))=true:=by simp;omega
      have HMV:Hid ((goK p s true who t k).2=none):=hmkv
      clear hw hmkv
      go_wp2
      refine ⟨⟨k+1,by omega,by go_num,by rw [HE.out,HMV.out];rfl,by rw [HE.out,HMV.out];rfl,by rw [HE.out,HMV.out];rfl,?_⟩,by simp [intOf];omega⟩
      rw [HE2.out]
      exact HI1.out
    ·have HE:Hid (goK p s true who t (k+1)=goK p s true who t k):=goK_end hmkv
     have HE2:Hid (goS p s true who t (k+1)=goS p s true who t k):=by
      show goS _ _ _ _ _ _=_
      unfold goS
      rw [HE.out]
     have HMV:Hid ((goK p s true who t k).2=some (k',q',d')):=hmkv
     rw [hmkv,show msgLk (some (k',q',d'))=(k':Int) from rfl,show msgSeq (some (k',q',d'))=q' from rfl,show msgDat (some (k',q',d'))=d' from rfl]
     clear hmkv
     go_wp2
     refine ⟨⟨k+1,by omega,by go_num,by rw [HE.out,HMV.out];rfl,by rw [HE.out,HMV.out];rfl,by rw [HE.out,HMV.out];rfl,?_⟩,by simp [intOf];omega⟩
     rw [HE2.out]
     exact HI1.out
  ·obtain rfl:k=p.nl:=by omega
   go_wp2
   exact HEX.out _ _ hin.out rfl (Rest.of rfl) rfl rfl rfl rfl
end
end
end Go.Proofs.YtooadfgibdjdeaaGreatDoor
