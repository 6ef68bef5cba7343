import Derived.Test.YtnbomhedoelklaaGreatDoorZW2
import Derived.Conc.WgGenW
set_option maxRecDepth 100000
namespace Go.Proofs.YtnbomhedoelklaaGreatDoor
variable {p:Prop}
theorem ov(h:p:=by k_ne):p:=h
theorem zA9(h:p:=by replace hF:=hF.rxm h₄;clear h₄;refine⟨rfl,_,stepG_unwind_entry (v:=tU #[]) (evs:=#[mk .enable]) rfl H.f_enable (x_enable_n lk) (x_enable_b lk) (x_enable_x lk) (x_enable_f lk) (by simp[Extern.Race.none_]) jl jl,?_⟩;obtain⟨mT,hT⟩:=hT _ hF;refine⟨mT+1,Goes.step rfl (λw₅ h₅=>?_)⟩;refine goes_leave0 rfl rfl H.f_add rfl ⟨by u_nil,?_⟩;exact Goes.rely Rx.trans hT h₅):p:=h
theorem zBr(h:p:=by u_none;intro ex hex;have hmx:=mem_listed hex;simp[go_sem,hce]at hmx):p:=h
theorem uN{q:Prop}(h:q)(k:q->p:=by
 intro hq
 first
 |u_c stepG_seq jG.rxm hF
 |u_c stepG_region_end jG.rxm hF
 |u_reg jG.rxm hF
 |u_skip jG.rxm hF
 |u_c stepG_skip jG.rxm hF
 |u_cond true jG.rxm hF
 |u_cond false jG.rxm hF
 |u_c stepG_ret' jG.rxm hF
 |u_c stepG_block jG.rxm hF
 |u_c stepG_inBlock jG.rxm hF
 |u_c stepG_inLoop jG.rxm hF
 |u_c stepG_loop jG.rxm hF
 |u_op jG.rxm hF
 revert hF
 rename WA=>w
 revert w
 exact hq):p:=k h
