import Derived.Test.YtnbomhedoelklaaGreatDoorZW2
import Derived.Conc.WgGenW
set_option maxRecDepth 100000
namespace Go.Proofs.YtnbomhedoelklaaGreatDoor
variable {p:Prop}
theorem zGh(h:p:=by
 clear hw;walk_nrm;iterate 3 (refine uN ?_;clear hF;intro _ hF)
 u_leave1 H.f_uLoad jG.rxm hF
 first|(let _:=m14;iterate 7 (refine uN ?_;clear hF;intro _ hF))|iterate 27 (refine uN ?_;clear hF;intro _ hF)
 refine Goes.stop (λw₅ h₅=>?_);replace hF:=hF.rxm h₅;clear h₅;refine⟨rfl,_,stepG_mark0 .enable oe rfl rfl ov rfl H.f_enable (x_enable_n lk) (x_enable_b lk) (x_enable_x lk) (x_enable_f lk),20,?_⟩;walk_nrm;iterate 3 (refine uN ?_;clear hF;intro _ hF)
 u_in jG.rxm hF;have bKp:=0;exact zKj):p:=h
theorem zLu(h:p:=by
 obtain⟨v0,v1,v2,v3,v4,v5,v6,v7,v8,v9,P6,P7,P8,P9,Q5,v15,v16,v17,v18,v19,v20,v21,v22,v23,v24,v25,v26,v27,v28,v29,v30,v31,v32,v33,v34,v35,v36,v37,v38,v39,v40,v41,v42,v43,v44,v45,v46,v47,rfl⟩:=aWl T hs
 first
 |let _:=bL7
  first
  |let _:=bKs;simp only[List.getElem?_toArray,List.getElem?_cons_zero,List.getElem?_cons_succ,AI]at t0 t1 t6 t7 t8 t27 t28;subst t0 t1 t6 t7 t8 t27 t28
   first|let _:=m40;clear hs;have hd:decide ((m:Int)<(m:Int))=false:=kD od;refine⟨20,?_⟩|have hlt:(j:Int)<(m:Int):=od;have hd:decide ((j:Int)<(m:Int))=true:=kF hlt;have iM:IntKind.i64.wrap ((j:Int)+1)=(j:Int)+1:=Ev;refine⟨72,?_⟩
   simp only[Ls,X5,spine,Tryz.f4,AJ]
   first
   |let _:=m40;iterate 6 (refine rN ?_;clear hF;intro _ hF)
    refine Goes.step rfl (λ_ h₁=>?_);exact zMl
   |iterate 11 (refine uN ?_;clear hF;intro _ hF)
    u_in jG.rxm hF;refine goes_call rfl rfl ov rfl H.f_add (nm_add lk) rfl ⟨by u_nil,?_⟩;walk_nrmf addFn;refine jS (bIt (λw hF=>?_) _ hF) od;refine⟨6,?_⟩;walk_nrm;have bLt:=0;exact zMp
  |simp only[List.getElem?_toArray,List.getElem?_cons_zero,List.getElem?_cons_succ,AI]at t0 t1 t6 t7 t8;subst t0 t1 t6 t7 t8;clear hs;simp only[fw,aZq,B18,B17,B16,B4,X5,spine,Tryz.f4,AJ];exact zHm
 |simp only[List.getElem?_toArray,List.getElem?_cons_zero,List.getElem?_cons_succ,AI]at t0 t1 t6 t7 t8 t33 t34 t35;subst t0 t1 t6 t7 t8 t33 t34 t35;clear hs
  first|let _:=m27;have hd:decide ((AB.length:Int)<(AB.length:Int))=false:=kD od|have hlt:(i:Int)<(AB.length:Int):=od;have h0:(0:Int)<=(i:Int):=od;have hd:decide ((i:Int)<(AB.length:Int))=true:=kF hlt;have iM:IntKind.i64.wrap ((i:Int)+1)=(i:Int)+1:=Ev
  refine⟨40,?_⟩;simp only[Ld,B4,X5,spine,Tryz.f4,AJ]
  first|(let _:=m27;iterate 6 (refine rN ?_;clear hF;intro _ hF))|iterate 13 (refine rN ?_;clear hF;intro _ hF)
  exact zKq):p:=h
theorem zL8(h:p:=by
 refine Goes.step rfl (λ_ h₁=>?_);replace hF:=hF.rx h₁;clear h₁
 first
 |let _:=bH4
  first
  |let _:=aXt
   first
   |let _:=m55;rw[aNz];simp only[goes_go];refine⟨Dx.idle,?_⟩;simp only[pT,Tryz.f8,AJ,T8,List.replicate_succ,List.replicate_zero];iterate 2 (refine rN ?_;clear hF;intro _ hF)
    refine Goes.step rfl (λ_ h₁=>?_);replace hF:=hF.rx h₁;clear h₁;rw[stepG_defer rfl rfl ov rfl];simp only[goes_go];refine⟨Dx.idle,?_⟩;try walk_nrm
   |refine goes_leave0 rfl rfl H.f_wait rfl ⟨Dr.idle,?_⟩;walk_nrm
   iterate 3 (refine rN ?_;clear hF;intro _ hF)
  |let _:=m27;refine goes_exit rfl ?_;refine⟨Dx.idle,?_⟩;simp only[B16,B4,X5,spine,AJ];iterate 2 (refine rN ?_;clear hF;intro _ hF)
  |refine goes_oper_k rfl rfl ov (λK hK=>?_);have q0:=hF.tx i hi;go_simp;refine hK _ _ ⟨.ev λe he=>?_,?_⟩
   .have hm:=mem_listed he;simp[go_sem, *]at hm;subst hm;exact⟨_,rfl,.inr (.inr (.inr rfl))⟩
   clear hK K q0;try walk_nrm
   iterate 4 (refine rN ?_;clear hF;intro _ hF)
 |refine goes_exit rfl ?_;refine⟨Dx.idle,?_⟩;refine Goes.step rfl (λ_ h₁=>?_);replace hF:=hF.rx h₁;clear h₁;rw[stepG_end];simp only[goes_go];refine⟨Dx.idle,?_⟩
 refine Goes.step rfl (λ_ h₁=>?_);replace hF:=hF.rx h₁;clear h₁
 first
 |let _:=bH4;refine goes_oper_k rfl rfl ov (λK hK=>?_)
  first
  |let _:=aXt
   first|let _:=m55;have q0:=hF.cbt|have q0:=hF.cell
  |have q0:=hF.cm.cbt
  go_simp;refine hK _ _ ⟨.ev λe he=>?_,?_⟩
  .first
   |let _:=aXt
    first|let _:=m55;exact zCe|have hm:=mem_listed he;simp[go_sem, *]at hm;subst hm;exact⟨_,rfl,rfl⟩
   |exact zCe
  clear hK K q0;try walk_nrm
  first
  |let _:=aXt
   first|(let _:=m55;iterate 5 (refine rN ?_;clear hF;intro _ hF))|iterate 4 (refine rN ?_;clear hF;intro _ hF)
   refine Goes.stop (λ_ h₁=>?_)
   first|let _:=m55;exact⟨⟨_,_,_,_,_,_,_,_,_,_,_,rfl⟩,hF.rx h₁⟩|exact⟨_,_,rfl,rfl,rfl⟩
  |first|let _:=m27|iterate 3 (refine rN ?_;clear hF;intro _ hF)
   refine Goes.stop (λw₁ h₁=>?_)
   first
   |let _:=m27;have hC:jG p w₁:=⟨h₁.cm,h₁.cm.wg⟩;clear h₁;refine⟨rfl,rfl,λs r hch=>⟨_,rfl,(stepG_close (c:=p.ch) (x:=.tmp 45) rfl rfl ov rfl (by simp[Act.eval]) hch rfl).trans rfl,λhR=>⟨20,?_⟩⟩⟩;have hF:jG p (w₁.setChan p.ch 0 #[] true s r false):=⟨hR.cm,hR.cm.wg⟩;clear hR hC hch;generalize w₁.setChan p.ch 0 #[] true s r false=w₂ at hF⊢;walk_nrm;iterate 3 (refine uN ?_;clear hF;intro _ hF)
    u_in jG.rxm hF;refine goes_call rfl rfl ov rfl H.f_wait (nm_wait lk) rfl ⟨by u_nil,?_⟩;walk_nrmf waitFn;refine jS (goes_mono (λg w hk=>?_) (bIh (p:=p) (M:=rU) (cs:=cs) _ _ hF)) (show 8<=_ by omega);refine aJb (λg w hk=>?_) g w hk;exact⟨_,⟨oe,oe,oe,oe,oe,oe⟩,hk⟩
   |have bLq:=0;exact zMl
 |rw[stepG_unwind_enter (f:=9) (args:=#[pP p.Wg]) (ds:=[]) rfl func9 (nm_done lk) rfl];simp only[goes_go];refine⟨Dx.idle,?_⟩;refine jS (n:=23) (tR Dx.of0 ?_) od;exact aSh p _ rfl (aQb _) _ hF):p:=h
theorem rN{q:Prop}(h:q)(k:q->p:=by
 intro hq
 refine Goes.step rfl (λ_ h₁=>?_)
 replace hF:=hF.rx h₁
 clear h₁
 first
 |(first
   |(rw[stepG_seq];simp only[goes_go])
   |(rw[stepG_region_end];simp only[goes_go])
   |(rw[stepG_region];simp only[goes_go,List.size_toArray,List.length_cons,List.length_nil,Nat.reduceAdd,Nat.zero_add,List.range,List.range.loop])
   |(rw[stepG_skip];simp only[goes_go])
   |(rw[stepG_block];simp only[goes_go])
   |(rw[stepG_cond (t:=true) rfl];simp only[goes_go,↓reduceIte])
   |(rw[stepG_cond (t:=false) rfl];simp only[goes_go,Bool.false_eq_true,↓reduceIte])
   |(rw[stepG_ret'];simp only[goes_go])
   |(rw[stepG_loop];simp only[goes_go])
   |(rw[stepG_inLoop];simp only[goes_go])
   |(rw[stepG_inBlock];simp only[goes_go])
   refine⟨.idle,?_⟩)
 |refine goes_oper_k rfl rfl (by k_ne) (λK hK=>?_)
  go_simp
  refine hK _ _ ⟨.ev λe he=>?_,?_⟩
  .have hm:=mem_listed he
   simp[go_sem, *]at hm
  clear hK K
  try walk_nrm
 revert hF
 rename WA=>w
 revert w
 exact hq):p:=k h
