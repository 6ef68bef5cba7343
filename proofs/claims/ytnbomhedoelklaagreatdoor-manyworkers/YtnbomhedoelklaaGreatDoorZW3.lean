import Derived.Test.YtnbomhedoelklaaGreatDoorZW2
import Derived.Conc.WalkWords
set_option maxRecDepth 100000
namespace Go.Proofs.YtnbomhedoelklaaGreatDoor
variable {p:Prop}
theorem zKj(h:p:=by
 refine goes_oper_k rfl rfl ov (λKx hKx=>?_);have hcv:=run_convert_to_unsafe (P:=prog) H.underlying_tWgP H.underlying_tUP H.room_tWg (WgLive.cell0 hF.2).choose_spec;have hce:=λes=>events_convert_to_unsafe (P:=prog) H.underlying_tWgP H.underlying_tUP H.room_tWg (WgLive.cell0 hF.2).choose_spec es;go_simp;refine hKx _ _ ⟨?_,?_⟩
 .exact zBr
 clear hKx Kx hcv hce
 first
 |let _:=bKp;refine Goes.stop (λw₆ h₆=>?_);replace hF:=hF.rxm h₆;clear h₆;refine⟨rfl,_,stepG_markAt .acquire oe rfl rfl ov rfl H.f_acquire (x_acquire_n lk) (x_acquire_b lk) (x_acquire_x lk) (x_acquire_f lk) (by simp[Act.eval,stA]),30,?_⟩;walk_nrm
  first|(let _:=m14;iterate 9 (refine uN ?_;clear hF;intro _ hF))|iterate 19 (refine uN ?_;clear hF;intro _ hF)
  refine Goes.stop (λw₇ h₇=>?_);exact bJ5 _ _ _ (hF.rxm h₇)
 |refine Goes.stop (λw₁ h₁=>?_);exact⟨_,_,_,_,_,stepG_markAt .releaseMerge oe rfl rfl ov rfl H.f_relMerge (x_relMerge_n lk) (x_relMerge_b lk) (x_relMerge_x lk) (x_relMerge_f lk) (by simp[Act.eval,stA]),stepG_region_end,stepG_seq,stepG_region,stepG_mark0 .disable oe rfl rfl ov rfl H.f_disable (x_disable_n lk) (x_disable_b lk) (x_disable_x lk) (x_disable_f lk)⟩):p:=h
theorem zMd(h:p:=by
 obtain⟨v0,v1,v2,v3,v4,v5,v6,v7,v8,v9,P6,P7,P8,P9,Q5,v15,v16,v17,v18,v19,v20,v21,v22,v23,v24,v25,v26,v27,v28,v29,v30,v31,v32,v33,v34,v35,v36,v37,v38,v39,v40,v41,v42,v43,v44,v45,v46,v47,v48,v49,v50,v51,v52,v53,v54,v55,v56,v57,v58,v59,v60,v61,v62,v63,v64,v65,v66,v67,v68,v69,v70,v71,v72,v73,v74,v75,v76,v77,v78,v79,v80,v81,v82,v83,v84,v85,v86,v87,v88,v89,v90,v91,v92,v93,rfl⟩:=aWm T hs
 first
 |let _:=bLi
  first
  |let _:=bGw
   first
   |let _:=bGk
    first|let _:=m37;simp only[List.getElem?_toArray,List.getElem?_cons_zero,List.getElem?_cons_succ,AI]at t0 t1 t2 h8 h9;subst t0 t1 t2 h8 h9;clear hs;simp only[c9,aZs,B10,B9,B8,Y2,spine,Tryz.f3,AJ]|simp only[List.getElem?_toArray,List.getElem?_cons_zero,List.getElem?_cons_succ,AI]at t0 t1 t2 t8 uV J4;subst t0 t1 t2 t8 uV J4;clear hs;have hd:decide ((AB.length:Int)<(AB.length:Int))=false:=kD od;simp only[Lb,aRj,B12,B10,B9,B8,Y2,spine,Tryz.f3,AJ];iterate 9 (refine rN ?_;clear hF;intro _ hF)
   |first|let _:=m12;simp only[List.getElem?_toArray,List.getElem?_cons_zero,List.getElem?_cons_succ,AI]at t0 t1 t2;subst t0 t1 t2;clear hs|simp only[List.getElem?_toArray,List.getElem?_cons_zero,List.getElem?_cons_succ,AI]at t0 t1 t2 t7;subst t0 t1 t2 t7;clear hs;have hd:decide ((AB.length:Int)<(AB.length:Int))=false:=kD od
    have bMw:IntKind.u64.wrap 16=16:=by rw[IntKind.wrap_u64];omega
    have xG:IntKind.i64.wrap (1+(k:Int))=1+(k:Int):=Ev
    first|let _:=m12;simp only[c8,aZr,B9,B8,Y2,spine,Tryz.f3,AJ]|simp only[La,Y2,spine,Tryz.f3,AJ];iterate 9 (refine rN ?_;clear hF;intro _ hF)
    refine Goes.step rfl (λ_ h₁=>?_);replace hF:=hF.rx h₁;clear h₁
    first|(let _:=m12;refine goes_leave2 rfl rfl func4 rfl ⟨Dm.idle,?_⟩;rw[hr4,hr5];clear hr4 hr5;walk_nrm;iterate 10 (refine rN ?_;clear hF;intro _ hF))|refine goes_exit rfl ?_;refine⟨Dm.idle,?_⟩;simp only[B8,Y2,spine,AJ];iterate 4 (refine rN ?_;clear hF;intro _ hF)
    refine Goes.step rfl (λ_ h₁=>?_);replace hF:=hF.rx h₁;clear h₁;refine goes_call rfl rfl ov rfl func5 bCl rfl ⟨Dm.idle,?_⟩;walk_nrmf Tryz.f5;iterate 15 (refine rN ?_;clear hF;intro _ hF)
    refine Goes.step rfl (λ_ h₁=>?_);replace hF:=hF.rx h₁;clear h₁;refine goes_leave1 rfl rfl func5 rfl ⟨Dm.idle,?_⟩;walk_nrm;refine rN ?_;clear hF;intro _ hF
  |first
   |let _:=aTu;simp only[List.getElem?_toArray,List.getElem?_cons_zero,List.getElem?_cons_succ,AI]at t0 t1 t2 t8 uV J4;subst t0 t1 t2 t8 uV J4;clear hs
    first|let _:=m25;have hlt:(i:Int)<(AB.length:Int):=od|have hlt:(i:Int)<(n:Int):=od
   |simp only[List.getElem?_toArray,List.getElem?_cons_zero,List.getElem?_cons_succ,AI]at t0 t1 t2 t7;subst t0 t1 t2 t7;clear hs;have hls:=aJt;have hlt:(i:Int)<(AB.length:Int):=od
   have h0:(0:Int)<=(i:Int):=od
   first
   |let _:=aTu
    first|(let _:=m25;have hd:decide ((i:Int)<(AB.length:Int))=true:=kF hlt;simp only[Lb,aRj,B12,B10,B9,B8,Y2,spine,Tryz.f3,AJ];iterate 17 (refine rN ?_;clear hF;intro _ hF))|have iM:IntKind.i64.wrap ((i:Int)+1)=(i:Int)+1:=Ev;simp only[c15,bDl,aUf,L3,L14,Lb,aRj,B12,B10,B9,B8,Y2,spine,Tryz.f3,AJ];show Goes _ _ _ _ _ _ (G (Frame.finish (b3.at _ _) _) []) w;rw[Frame.finish_at];walk_nrm;iterate 7 (refine rN ?_;clear hF;intro _ hF)
   |have hd:decide ((i:Int)<(AB.length:Int))=true:=kF hlt
    first|let _:=m13;have h2:decide ((AB[i].size:Int)>2000)=true:=kF od;have h2':decide ((2000:Int)<(AB[i].size:Int))=true:=kF od|have iM:IntKind.i64.wrap ((i:Int)+1)=(i:Int)+1:=Ev;have h2:decide ((AB[i].size:Int)>2000)=false:=kD od;have h2':decide ((2000:Int)<(AB[i].size:Int))=false:=kD od
    simp only[La,Y2,spine,Tryz.f3,AJ];iterate 17 (refine rN ?_;clear hF;intro _ hF)
  refine Goes.step rfl (λ_ h₁=>?_);replace hF:=hF.rx h₁;clear h₁
  first
  |let _:=bGw
   first
   |let _:=bGk
    first
    |let _:=m37;refine goes_leave2 rfl rfl func4 rfl ⟨Dm.idle,?_⟩;rw[hr4,hr5];clear hr4 hr5;walk_nrm;iterate 30 (refine rN ?_;clear hF;intro _ hF)
     refine Goes.step rfl (λ_ h₁=>?_);replace hF:=hF.rx h₁;clear h₁;rw[aD0 (x:=.const (sT xn)) (ats:=#[9]) rfl rfl ov rfl (by simp[Act.eval];try rfl)];exact zFr
    |refine goes_exit rfl ?_;refine⟨Dm.idle,?_⟩;iterate 5 (refine rN ?_;clear hF;intro _ hF)
     refine Goes.stop (λ_ h₁=>?_);exact⟨_,_,rfl,rfl⟩
   |refine goes_call rfl rfl ov rfl func4 bCk rfl ⟨Dm.idle,?_⟩;walk_nrmf Tryz.f4;refine Goes.stop (λ_ h₁=>?_)
    first|let _:=m12;exact⟨_,aZm rfl,⟨oe,oe,oe,oe⟩,oe,oe⟩|exact⟨_,aZm rfl,⟨oe,oe,oe,oe⟩⟩
  |refine goes_oper_k rfl rfl ov (λK hK=>?_)
   first
   |let _:=aTu
    first|let _:=m25;have q0:=hF.ct i hi|have q0:=hF.c1
   |have q0:=hF.ct i hi
   go_simp;refine hK _ _ ⟨.ev λe he=>?_,?_⟩
   .first
    |let _:=aTu
     first|let _:=m25;exact zCu|have hm:=mem_listed he;simp[go_sem, *]at hm;subst hm;exact⟨_,rfl,hM1⟩
    |exact zCu
   clear hK K q0;try walk_nrm
   first
   |let _:=aTu
    first|let _:=m25|iterate 6 (refine rN ?_;clear hF;intro _ hF)
    refine Goes.step rfl (λ_ h₁=>?_);replace hF:=hF.rx h₁;clear h₁
    first
    |let _:=m25;rw[aD0 (x:=.tmp 78) (ats:=#[9]) rfl rfl ov rfl (by simp[Act.eval];try rfl)];exact zFr
    |refine goes_oper_k rfl rfl ov (λK hK=>?_);have q0:=hF.c2;go_simp;refine hK _ _ ⟨.ev λe he=>?_,?_⟩
     .have hm:=mem_listed he;simp[go_sem, *]at hm;subst hm;exact⟨_,rfl,hM2⟩
     clear hK K q0;try walk_nrm
     iterate 13 (refine rN ?_;clear hF;intro _ hF)
     refine Goes.stop (λ_ h₁=>?_);exact zCx
   |first|(let _:=m13;iterate 9 (refine rN ?_;clear hF;intro _ hF))|iterate 12 (refine rN ?_;clear hF;intro _ hF)
    refine Goes.stop (λ_ h₁=>?_)
    first|let _:=m13;exact⟨_,_,rfl,rfl⟩|exact⟨_,rfl,⟨oe,oe,oe,oe⟩,oe⟩
 |simp only[List.getElem?_toArray,List.getElem?_cons_zero,List.getElem?_cons_succ,AI]at t0 t1 t2 t8 uV h65;subst t0 t1 t2 t8 uV h65;clear hs;simp only[aX2,c10,C10,aUe,B12,B10,B9,B8,Y2,spine,Tryz.f3,AJ];show Goes _ _ _ _ _ _ (G (Frame.finish (b3.at _ _) _) []) w;rw[Frame.finish_at];walk_nrm;iterate 12 (refine rN ?_;clear hF;intro _ hF)
  refine Goes.stop (λ_ h₁=>?_);exact zCx):p:=h
theorem zMl(h:p:=by
 replace hF:=hF.rx h₁;clear h₁
 first|(let _:=bLq;refine⟨rfl,_,aLt (c:=p.ch) (v:=msg i AB[i]) (x:=.tmp 40) (y:=.tmp 43) rfl rfl ov rfl (by simp[Act.eval]) (by simp[Act.eval,msg]),λw' h'=>⟨20,?_⟩⟩;replace hF:=hF.rx h';clear h';rw[aR2];walk_nrm;iterate 7 (refine rN ?_;clear hF;intro _ hF))|refine goes_exit rfl ?_;refine⟨Dx.idle,?_⟩;simp only[B4,X5,spine,AJ];iterate 9 (refine rN ?_;clear hF;intro _ hF)
 refine Goes.stop (λ_ h₁=>?_);exact⟨_,rfl,⟨oe,oe,oe,oe,oe,oe⟩,oe,oe,oe,hF.rx h₁⟩):p:=h
theorem zMp(h:p:=by
 iterate 3 (refine uN ?_;clear hF;intro _ hF)
 refine Goes.stop (λw₁ h₁=>?_);replace hF:=hF.rxm h₁;clear h₁
 first
 |let _:=bLt;refine⟨rfl,_,(stepG_spawn (d:=aC4 p) (w':=w₁) (f:=.func 8) (c:=#[pP p.Wg,pP p.bt,pP p.ba]) rfl rfl ov (by simp[go_sem,aC4,Deferred.ofValue]) rfl).trans (by rw[wS (by unfold execOp;simp[go_sem,Deferred.ofValue])]),12,?_⟩;walk_nrm;iterate 7 (refine uN ?_;clear hF;intro _ hF)
  refine Goes.stop (λw₂ h₂=>?_);exact⟨_,rfl,⟨oe,oe,oe,oe,oe,oe⟩,oe,oe,hF.rxm h₂⟩
 |refine⟨rfl,_,stepG_mark0 .disable oe rfl rfl ov rfl H.f_disable (x_disable_n lk) (x_disable_b lk) (x_disable_x lk) (x_disable_f lk),5,?_⟩;walk_nrm;iterate 3 (refine uN ?_;clear hF;intro _ hF)
  exact Goes.stop (λw₂ h₂=>⟨_,rfl,oe,oe,hF.rxm h₂⟩)):p:=h
