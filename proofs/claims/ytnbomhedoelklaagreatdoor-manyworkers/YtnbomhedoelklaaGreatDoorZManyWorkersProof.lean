/- Of every five texts or fewer, each of at most 2000 bytes, and every two numbers of workers: what many.All answers is each text's own answer, by however many workers, in whatever order they run (ManyWorkers answers true on every tape, no two goroutines race, and its arguments read as before). Conditions: package errors' own variable errorType, the library's tables of powers of ten and of bits, and two errors of package strconv are laid by the program's text (the card ties them). -/
import Derived.Test.YtnbomhedoelklaaGreatDoorZMwFacts
import Derived.Test.YtnbomhedoelklaaGreatDoorZMwLone
import Derived.Test.YtnbomhedoelklaaGreatDoorZOpenNumber
import Derived.Test.YtnbomhedoelklaaGreatDoorCards
import Derived.Test.YtnbomhedoelklaaGreatDoorTie
namespace Go.Proofs.YtnbomhedoelklaaGreatDoor
open Go.RowKit Go.Proofs.Tryz
set_option maxRecDepth 99999
set_option maxHeartbeats 0
open Go.ChangeShapes Go.WideShapes Go.ChangeAt Go.Joins Go.Conc Go.ConcN
theorem aFl{H:Type}{enc:WI×WB->H}{P:WJ}{w:WA}{base:Nat}{A5:Nat->Bool}{held:Bool}{t0 t1 t2:WI}{args:Array WB}{ds:List (DataW H)}{ps:List MemPlace}(h:DataW.TrodAll enc P w base A5 held [t0,t1,t2] args.toList ds ps):
  ∃v0 v1 v2 d0 d1 d2 p0 p1 p2,args=#[v0,v1,v2]/\ds=[d0,d1,d2]/\ps=p0++(p1++p2)/\DataW.Trod enc P w base A5 held t0 v0 d0 p0/\DataW.Trod enc P w base A5 held t1 v1 d1 p1/\DataW.Trod enc P w base A5 held t2 v2 d2 p2:=by obtain⟨v0,a0,d0,e0,p0,q0,bMe,rfl,rfl,h0,r0⟩:=trodAll_cons h;obtain⟨v1,a1,d1,e1,p1,q1,rfl,rfl,rfl,h1,r1⟩:=trodAll_cons r0;obtain⟨v2,a2,d2,e2,p2,q2,rfl,rfl,rfl,h2,r2⟩:=trodAll_cons r1;obtain⟨rfl,rfl,rfl⟩:=trodAll_nil r2;exact⟨v0,v1,v2,d0,d1,d2,p0,p1,p2,by cases args;simp_all,rfl,oe,h0,h1,h2⟩
theorem Tryz.laidOut:laidOutB prog=true:=aN3
theorem aR7:Tryz.prog.cellsOf 9=1:=oh
theorem aPf(v:WB)(a b:Int):G (Frame.enter prog 3 #[v,iI a,iI b] .normal) []=(aBm f3) v a b:=by
 have hb:f3.body=some (f3.body.getD .skip):=oh;have hn:f3.ntmps=94:=oh;have e:(#[v,iI a,iI b]++Array.replicate (94-(#[v,iI a,iI b]:Array WB).size) undef)=(v::iI a::iI b::List.replicate 91 undef).toArray:=by apply Array.toList_inj.1;simp
 rw[enter_at _ func3 hb,hn,e];simp only[aBm,b3]
theorem aTi{W w:WA}(h:Kp W w):bW W w:=⟨h.eq.1,h.eq.2.2,h.eq.2.1,h.size,h.old⟩
theorem aTk{W:WA}(hL:laidMetH prog fT W)(hS:W.ShapedOpen prog){sa:Option WT}{c:Nat}{l:List WG}{a b:Int}
  (hl:0<l.length->∃b off,sa=some (aA b off)/\b<W.1.size/\∃c e f,W.1[b]?=some (.cells c e f)/\∀i (hi:i<l.length),c[off+i]?=some (sT l[i])):
  ∃M last o w' t',runNT prog (M+1) (crowd #[(aBm f3) (sV sa l.length c) a b] W none) #[]=(.ended o w',t')/\runN prog M (crowd #[(aBm f3) (sV sa l.length c) a b] W none)=.next last/\step prog last=.ended o w'/\Go.Conc.Good prog (λv w'=>v=.bool true/\Kp W w') last o w' t':=by
 obtain⟨x1,x2,K⟩:=aTh hL hS;obtain⟨L⟩:=K.lone;rcases Nat.eq_zero_or_pos l.length with h0|h0
 .obtain⟨_,c0,e0,h1,_⟩:=K.o 0 (.inl (by simp[oS]));exact aMy L (tb:=0) (off:=0) ⟨h1,λi h=>by omega,λh=>by omega,(kZ h1).1,(K.o _ (.inl (by simp[oS]))).1⟩ none
 .obtain⟨b,off,rfl,hb,c1,e1,f1,h1,h2⟩:=hl h0;exact aMy L (tb:=b) (off:=off) ⟨h1,h2,λ_=>rfl,hb,K.bLx h1 (AS (h2 0 h0))⟩ none
theorem S3(os:Os)(started:os.Started)(H:Type)(enc:WI×WB->H):
  ReturnsInLeavingWide {} Tryz.checked os 3 .any (λw args=>(Rows.manyWorkersSpec.pre enc prog f3 [] false w args/\laidMetH prog fT w)/\sizedMet enc prog f3 (OpenSpec.ofChange Rows.manyWorkersSpec) false w args)
   (Rows.manyWorkersSpec.post enc prog f3 false true false false):=by
 refine R9 (C:=Tryz.checked) (X:=λw _=>laidMetH prog fT w) (λ_ _ _ hh h=>h.of_heap hh) own started func3
  (ChangeSpec.witness_at (enc:=enc) (C:=Tryz.checked) (os:=os) (X:=λw _=>laidMetH prog fT w) false (aH0 (World.holding prog os ⟨#[],#[],[]⟩)) #[sV none 0 0,iI 0,iI 0] 8 rfl oh oh oh oh oh (aTj os _)) ?_
 intro W base args ds gs before aZl hW _ _ hL hSh;have aK6:∀(j:Nat) t v,f3.params[j]?=some t->args[j]?=some v->Value.okWide prog W .any base t v:=aZl;have hW':=hW;obtain⟨p,q,hA0,hV0,rfl,hfz,hnd⟩:=hW;have hA:DataW.TrodAll enc prog W 0 (λ_=>true) true f3.params.toList args.toList ds p:=hA0;have hV:DataW.TrodVars enc prog W (λ_=>true) [] gs q:=hV0;rw[Tryz.params3]at hA aK6;obtain⟨v0,v1,v2,d0,d1,d2,p0,p1,p2,rfl,rfl,rfl,h0,h1,h2⟩:=aFl hA;obtain⟨rfl,rfl⟩:gs=[]/\q=[]:=by
  cases gs with
  |nil=>exact⟨rfl,hV⟩
  |cons g r=>exact absurd hV (by intro h;cases h)
 have bJl:∀x∈p0,x.block<W.1.size:=λx hx=>hW'.lt x o6;have aT4:∀x∈p1,x.block<W.1.size:=λx hx=>hW'.lt x o6;have bF9:∀x∈p2,x.block<W.1.size:=λx hx=>hW'.lt x o6;have k0:=h0;have k1:=h1;have k2:=h2;obtain⟨a0,bAp,l0,rfl,xR⟩:=aKu underlying22 underlying9 aR7 (aK6 0 22 v0 rfl rfl) h0;obtain⟨i1,rfl,_,_⟩:=M5 (aK6 1 3 v1 rfl rfl) h1;obtain⟨i2,rfl,_,_⟩:=M5 (aK6 2 3 v2 rfl rfl) h2;clear hA0 aZl h0 h1 h2 hA aK6;obtain⟨M,last,o,w',t',r1,r2,r3,r4⟩:=aTk hL hSh (c:=bAp) (a:=i1) (b:=i2) xR;refine⟨M,last,o,w',t',?_,?_,r3,r4.mono λv hv=>?_⟩
 .exact zIc
 .have m81:=0;exact zIc
 .obtain⟨rfl,kp⟩:=hv;have bel:=aTi kp;exact⟨_,_,_,[],_,[],hW',trodAll_mk1 (shut_bool underlying4 _),trodAll_mk3 (Below.trod Tryz.laidOut oh (of_decide_eq_true oh) k0 bel bJl) (Below.trod Tryz.laidOut oh (of_decide_eq_true oh) k1 bel aT4) (Below.trod Tryz.laidOut oh (of_decide_eq_true oh) k2 bel bF9),rfl,bel.frame _,λh=>by cases h⟩
theorem aEq:Rows.ManyWorkersSaid:=
 OpenClaim.holds_of_wide_leaving 3 f3 rfl rfl rfl rfl rfl rfl rfl ⟨rfl,rfl,rfl,rfl,rfl⟩ rfl rfl rfl rfl rfl aN4 func3 aY9
  (of_decide_eq_true oh) (by unfold Func.isWrapper;rw[kJ (of_decide_eq_false oh)];exact⟨rfl,rfl⟩)
  (λos started H enc _=>S3 os started H enc)
theorem aO0{p:Pinned}{s:OpenSpec}{c:OpenClaim}(Lk:Looks)(kinds:List LaidKind)(aVr:Bool)(har:Bool×String)(lk:Bool)(hc:c.holds p s)(hw:c.wfByText s=true)(bJy:c.laidByTextAt Lk p kinds aVr)
  (fM:c.start=.entering)(hnb:c.noBlocks=false/\c.again=false)(hm:p.checked.prog.mainIs=some (har.1,har.2.toList))(hn:(!har.1&&har.2.isEmpty&& !lk)=false)
  (hl:∀f fn,p.checked.prog.funcNamed c.func=some f->p.checked.prog.funcs[f]?=some fn->lk=p.checked.prog.looks []/\∀(j:Nat) t,fn.params[j]?=some t->p.checked.prog.wantsStandIn t=false)(hg:true=c.goesBy p.checked.prog):
  Claim7.holds p (.plain s) { stood:={ row:=c,standIns:=[],harness:=har,looks:=lk },kinds:=[],alts:=[],goes:=true,laidByText:=true,laidKinds:=kinds,laidTests:=aVr,laidLooks:=Lk }:=by
 have h6:Claim7.isSixth { stood:={ row:=c,standIns:=[],harness:=har,looks:=lk },kinds:=[] }=false:=by simpa[Claim7.isSixth]using hn
 exact⟨Claim7.tied_new_at Lk kinds aVr (Claim7.new_of_sixth hc har lk fM hnb hm h6 hl) hw,λD hD=>absurd hD List.not_mem_nil,bJy,λh=>absurd h Bool.false_ne_true,hg⟩
theorem aBr:Tryz.prog.funcNamed Rows.manyWorkersRow.func=some 3:=aN4
theorem mworkers_holds:Rows.ManyWorkersCardSaid:=
 aO0 .later [.data,.data,.data,.handle,.sentinel,.sentinel] true Rows.manyWorkersCard.stood.harness true
  aEq oh manyWorkers_row_tie rfl ⟨rfl,rfl⟩ oh rfl
  (λf fn hf hfn=>by
   obtain rfl:f=3:=kY (aBr.symm.trans hf)|>.symm
   obtain rfl:fn=f3:=(kY (func3.symm.trans hfn)).symm
   exact⟨oh,λj t ht=>by
    rw[Tryz.params3]at ht
    have h3:t=22\/t=3:=by
     rcases j with _|_|_|j
     .exact .inl (by simpa using ht.symm)
     .exact .inr (by simpa using ht.symm)
     .exact .inr (by simpa using ht.symm)
     .simp at ht
    rcases h3 with rfl|rfl
    .exact(show Tryz.prog.wantsStandIn 22=false by kernel_rfl)
    .exact(show Tryz.prog.wantsStandIn 3=false by kernel_rfl)⟩)
  oh
#print axioms mworkers_holds
