import Derived.Test.YtnbomhedoelklaaGreatDoorZW2
import Derived.Conc.WgGenN2
set_option maxRecDepth 100000
namespace Go.Proofs.YtnbomhedoelklaaGreatDoor
variable {p:Prop}
theorem zKe(h:p:=by
 iterate 11 (refine uN ?_;clear hF;intro _ hF)
 first|let _:=aEn|u_call H.f_uAdd (nm_uAdd lk) uAddFn jG.rxm hF;iterate 10 (refine uN ?_;clear hF;intro _ hF)
 refine Goes.stop (λw₂ h₂=>?_)
 first|let _:=aEn;replace hF:=hF.rxm h₂;clear h₂;refine⟨rfl,λv' hv' hw=>⟨λe=>?_,λe=>?_⟩⟩|(clear h₂ hF;refine⟨rfl,λv hv hw=>?_⟩;rcases Nat.eq_zero_or_pos v with rfl|hvp;skip)
 .first
  |let _:=aEn;subst e;rw[hS]at hw⊢;refine⟨_,(stepG_cas_hit (v:=S) (n:=S+1) rfl rfl ov rfl H.f_casU64 (x_casU64_n lk) (x_casU64_b lk) (x_casU64_x lk) .u64 (x_casU64_f lk) rfl rfl rfl hw.cellSt (hw.thaw 0)).trans ou,λhF=>⟨60,?_⟩⟩;clear hw
  |replace hw:WgAt 41 p.Wg w₂ 0 0:=by simpa using hw
   have z:(((0:Nat):Int)+1)*KK=KK:=oe;rw[z];have e0:IntKind.u64.wrap (0+4294967296)=KK:=og;refine⟨_,(stepG_add_atomic rfl rfl ov rfl H.f_addU64 (x_addU64_n lk) (x_addU64_b lk) (x_addU64_x lk) .u64 (x_addU64_f lk) rfl rfl hw.cellSt (hw.thaw 0)).trans (by rw[e0];rfl),λhF=>⟨120,?_⟩⟩;clear hw;simp only[KK]at hF⊢
  walk_nrm;iterate 3 (refine uN ?_;clear hF;intro _ hF)
  first
  |let _:=aEn;u_leave1 H.f_uCas jG.rxm hF;refine uN ?_;clear hF;intro _ hF;u_cnd true jG.rxm hF;iterate 8 (refine uN ?_;clear hF;intro _ hF)
   u_cnd true jG.rxm hF;iterate 4 (refine uN ?_;clear hF;intro _ hF)
  |u_leave1 H.f_uAdd jG.rxm hF;iterate 48 (refine uN ?_;clear hF;intro _ hF)
  u_in jG.rxm hF;refine goes_oper_k rfl rfl ov (λKx hKx=>?_);have hcv:=run_convert_to_unsafe (P:=prog) H.underlying_tPU32 H.underlying_tUP H.room_tU32 (WgLive.cell1 hF.2).choose_spec;have hce:=λes=>events_convert_to_unsafe (P:=prog) H.underlying_tPU32 H.underlying_tUP H.room_tU32 (WgLive.cell1 hF.2).choose_spec es;go_simp;refine hKx _ _ ⟨?_,?_⟩
  .exact zBr
  clear hKx Kx hcv hce
  first|let _:=aEn;refine Goes.stop (λw₃ h₃=>?_)|refine Goes.stop (λw₃ h₃=>.inl ?_)
  replace hF:=hF.rxm h₃;clear h₃
  first
  |let _:=aEn;refine⟨rfl,_,stepG_markAt .write oe rfl rfl ov rfl H.f_raceWrite (x_raceWrite_n lk) (x_raceWrite_b lk) (x_raceWrite_x lk) (x_raceWrite_f lk) (ad:=(aA p.Wg 1)) (by simp[Act.eval]),60,?_⟩;walk_nrm;iterate 23 (refine uN ?_;clear hF;intro _ hF)
   refine Goes.stop (λw₃ h₃=>?_);replace hF:=hF.rxm h₃;clear h₃;refine⟨rfl,rfl,λ⟨st,hw⟩=>stepG_semacquire_wait rfl rfl rfl H.f_semacquire (x_semacquire_n lk) (x_semacquire_b lk) (x_semacquire_x lk) (x_semacquire_f lk) (by simp[Act.eval,smA]) hw.cellSm,λhf=>?_⟩;refine⟨_,(stepG_semacquire (n:=1) rfl rfl ov rfl H.f_semacquire (x_semacquire_n lk) (x_semacquire_b lk) (x_semacquire_x lk) (x_semacquire_f lk) (by simp[Act.eval,smA]) hf.cellSm ov (hf.thaw 1)).trans ou,λhF=>⟨40,?_⟩⟩;clear hf;walk_nrm;iterate 6 (refine uN ?_;clear hF;intro _ hF)
   u_call H.f_uLoad (nm_uLoad lk) uLoadFn jG.rxm hF;iterate 9 (refine uN ?_;clear hF;intro _ hF)
  |refine⟨rfl,_,stepG_markAt .read oe rfl rfl ov rfl H.f_raceRead (x_raceRead_n lk) (x_raceRead_b lk) (x_raceRead_x lk) (x_raceRead_f lk) (ad:=(aA p.Wg 1)) (by simp[Act.eval]),100,?_⟩;walk_nrm;iterate 39 (refine uN ?_;clear hF;intro _ hF)
  refine Goes.stop (λw₄ h₄=>?_)
  first|let _:=aEn;replace hF:=hF.rxm h₄;clear h₄;refine⟨rfl,λhw=>⟨_,stepG_load_atomic (v:=0) rfl rfl ov rfl H.f_loadU64 (x_loadU64_n lk) (x_loadU64_b lk) (x_loadU64_x lk) .u64 (x_loadU64_f lk) rfl hw.cellSt,40,?_⟩⟩;have m14:=0;exact zGh|exact zA9
 .first
  |let _:=aEn;refine⟨_,stepG_cas_miss (v:=(v':Int)*KK) (old:=S) (n:=S+1) rfl rfl ov rfl H.f_casU64 (x_casU64_n lk) (x_casU64_b lk) (x_casU64_x lk) .u64 (x_casU64_f lk) rfl rfl rfl hw.cellSt (hw.thaw 0) (by rw[<-hS];simp only[KK];omega),40,?_⟩;clear hw
  |obtain⟨V,hV⟩:∃V:Int,V=(v:Int)+1:=⟨_,rfl⟩;obtain⟨S,hS⟩:∃S:Int,S=V*KK:=⟨_,rfl⟩;have eS:IntKind.u64.wrap ((v:Int)*KK+4294967296)=S:=by rw[IntKind.wrap_u64,hS,hV];simp only[KK];omega
   rw[<-hV,<-hS];have a1:S/4294967296=V:=by rw[hS];simp only[KK];omega
   have b1:bits .and .u64 S 2147483648=0:=by rw[hS,hV];have:=st_flag (v+1) 0 od od;simpa[KK]using this
   have b2:bits .and .u64 S 2147483647=0:=by rw[hS,hV];have:=st_waiters (v+1) 0 od od;simpa[KK]using this
   have c1:IntKind.i32.wrap V=V:=by rw[IntKind.wrap_i32];omega
   have q1:(V==1)=false:=ol;have q2:decide (V=1)=false:=kD od;have q3:decide (V<0)=false:=kD od;have q4:decide (0<V)=true:=kF od;have q5:(V==0)=false:=ol;have q6:decide (V=0)=false:=kD od;refine⟨_,(stepG_add_atomic rfl rfl ov rfl H.f_addU64 (x_addU64_n lk) (x_addU64_b lk) (x_addU64_x lk) .u64 (x_addU64_f lk) rfl rfl hw.cellSt (hw.thaw 0)).trans (by rw[eS];rfl),λhF=>⟨160,?_⟩⟩;clear hw hS hV eS
  walk_nrm;iterate 3 (refine uN ?_;clear hF;intro _ hF)
  first
  |let _:=aEn;u_leave1 H.f_uCas jG.rxm hF;iterate 5 (refine uN ?_;clear hF;intro _ hF)
   refine Goes.stop (λw₃ h₃=>?_);exact⟨_,rfl,oe,oe,hF.rxm h₃⟩
  |u_leave1 H.f_uAdd jG.rxm hF;iterate 13 (refine uN ?_;clear hF;intro _ hF)
   u_cnd false jG.rxm hF;iterate 29 (refine uN ?_;clear hF;intro _ hF)
   u_cnd false jG.rxm hF;iterate 7 (refine uN ?_;clear hF;intro _ hF)
   u_cnd false jG.rxm hF;iterate 17 (refine uN ?_;clear hF;intro _ hF)
   u_cnd false jG.rxm hF;iterate 11 (refine uN ?_;clear hF;intro _ hF)
   u_cnd true jG.rxm hF;refine uN ?_;clear hF;intro _ hF;refine Goes.stop (λw₄ h₄=>.inr ?_);exact zA9):p:=h
