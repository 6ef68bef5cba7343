import Derived.Test.YtnbomhedoelklaaGreatDoorZW0
import Derived.Conc.Beside
import Derived.Conc.CrowdComm
import Derived.Conc.CrowdRun
namespace Go.Proofs.YtnbomhedoelklaaGreatDoor
set_option maxRecDepth 99999
set_option maxHeartbeats 0
open Go.Conc Go.ConcN
structure Ap(cI Sh Rd:Loc->Prop)(O:Nat->Loc->Prop):Prop where
 one:∀k k' l,O k l->O k' l->k=k'
 ownSh:∀k l,O k l->¬Sh l
 ownRd:∀k l,O k l->¬Rd l
 aUg:∀k l,O k l->l.isMemory=true
 rdSh:∀l,Rd l->¬Sh l
 aZz:∀l,Rd l->l.isMemory=true
 bM3:∀l,Rd l->¬cI l
 bA6:∀l,Sh l->l.isMemory=true
structure TI(cI Sh Rd:Loc->Prop)(O:Nat->Loc->Prop)(j0 j B:Nat)(t:WO):Prop where
 clean:∀said,¬Race said t
 quiet:Quiet Sh t
 own:∀k l,O k l->Perm t k l
 free:∀l,¬Sh l->¬Rd l->(∀k,¬O k l)->l.isMemory=true->∀i a,touchAt t i=some a->a.loc=l->Knows t 0 i\/(cI l/\a.kind=.atomic)
 rd:∀l,Rd l->∀k,(k=0\/(j0<k/\k<=j))->PermW t k l
 low:∀op∈t,op.act.low B
 gs:∀(i:Nat)(op:MemOp),t[i]?=some op->op.g<=j
 over:∀i g,t.g? i=some g->g≠0->g<=j0->t.counts i->∃q,t.g? q=some 0/\HappensBefore t i q
 atom:∀(i:Nat)(op:MemOp)(x:Touch),t[i]?=some op->j0<op.g->op.act.touch?=some x->x.loc.isMemory=true->x.kind≠.plain->Sh x.loc
 old0:∀(i:Nat)(op:MemOp)(x:Touch),t[i]?=some op->op.g<=j0->op.act.touch?=some x->x.loc.isMemory=true->Knows t 0 i\/(cI x.loc/\x.kind=.atomic)
def OkK(Sh Rd:Loc->Prop)(O:Nat->Loc->Prop)(k:Nat)(op:MemOp):Prop:=
 op.g=k/\∀x,op.act.touch?=some x->(Sh x.loc/\x.kind≠.plain/\x.kind≠.said)\/(O k x.loc/\x.kind=.plain)\/(Rd x.loc/\x.write=false/\x.kind=.plain)\/x.loc.isMemory=false
def OkM(cI Sh Rd:Loc->Prop)(O:Nat->Loc->Prop)(op:MemOp):Prop:=
 op.g=0/\∀x,op.act.touch?=some x->(Sh x.loc/\x.kind≠.plain)\/(¬Sh x.loc/\(∀k,¬O k x.loc)/\(Rd x.loc->x.write=false)/\(cI x.loc->x.kind≠.plain))\/x.loc.isMemory=false
section
variable{cI Sh Rd:Loc->Prop}{O O':Nat->Loc->Prop}{j0 j B B':Nat}{t u:WO}
theorem w8(h:∀i g,t.g? i=some g->g≠0->g<=j0->t.counts i->∃q,t.g? q=some 0/\HappensBefore t i q)(hu:∀op∈u,op.g=0\/j0<op.g\/op.act.touch?=none):∀i g,(t++u).g? i=some g->g≠0->g<=j0->(t++u).counts i->∃q,(t++u).g? q=some 0/\HappensBefore (t++u) i q:=by
 intro i g hg h0 hj hc;rcases jB i t.size with hlt|hge
 .rw[g?_old hlt]at hg;rw[counts_old hlt]at hc;obtain⟨q,h1,h2⟩:=h i g hg h0 hj hc;have hq:q<t.size:=by obtain⟨op,ho,_⟩:=AQ h1;exact lt_size_of_getElem? ho
  exact⟨q,by rw[g?_old hq];exact h1,hb_app u h2⟩
 .obtain⟨op,ho,rfl⟩:=AQ hg;rcases getElem?_append_cases ho with⟨hlt,_⟩|⟨_,hou⟩
  .omega
  .rcases hu op hou with e|e|e
   .exact absurd e h0
   .omega
   .obtain⟨x,hx,_⟩:=hc;simp[Trace.act?,ho,e]at hx
theorem TI.appW(A:Ap cI Sh Rd O)(h:TI cI Sh Rd O j0 j B t){k:Nat}(k1:j0<k)(kj:k<=j)(hu:∀op∈u,OkK Sh Rd O k op)(hl:∀op∈u,op.act.low B):TI cI Sh Rd O j0 j B (t++u):=by
 refine⟨λsaid=>noRace_append (h.clean said) (λop cK=>(hu op cK).1) λi a ha op cK b hb hc=>?_,h.quiet.app λop cK x hx hs=>?_,λk' l zJ=>(h.own k' l zJ).app λop cK b hb e=>?_,λl hs hr hn hm i a ha e=>?_,λl zJ k' hk'=>(h.rd l zJ k' hk').app λop cK b hb e hw=>?_,seen_app h.low hl,λi op hi=>?_,w8 h.over λop cK=>.inr (.inl (by rw[(hu op cK).1];exact k1)),λi op x hi hg hx hm hk=>?_,λi op x hi hg hx hm=>?_⟩
 .rcases(hu op cK).2 b hb with⟨hs,hk,hn⟩|⟨ho,_⟩|⟨hr,T9,_⟩|hm
  .exact h.quiet.known hs hk (λe=>absurd e hn) i a ha hc
  .exact h.own k b.loc ho i a ha hc.1
  .exact h.rd b.loc hr k (.inr ⟨k1,kj⟩) i a ha hc.1 (hc.2.2.1.resolve_right (by simp[T9]))
  .have:=hc.2.1;rw[hc.1,hm]at this;cases this
 .rcases(hu op cK).2 x hx with⟨_,hk,hn⟩|⟨ho,_⟩|⟨hr,_⟩|hm
  .exact⟨hk,λe=>absurd e hn⟩
  .exact absurd hs (A.ownSh k _ ho)
  .exact absurd hs (A.rdSh _ hr)
  .have:=A.bA6 _ hs;rw[hm]at this;cases this
 .rcases(hu op cK).2 b hb with⟨hs,_⟩|⟨ho,_⟩|⟨hr,_⟩|hm
  .exact absurd (e▸hs) (A.ownSh k' l zJ)
  .rw[(hu op cK).1];exact A.one k k' l (e▸ho) zJ
  .exact absurd (e▸hr) (A.ownRd k' l zJ)
  .have:=A.aUg k' l zJ;exact zEd
 .exact zH7
 .rcases(hu op cK).2 b hb with⟨hs,_⟩|⟨ho,_⟩|⟨_,hr,_⟩|hm
  .exact absurd (e▸hs) (A.rdSh l zJ)
  .exact absurd zJ (A.ownRd k l (e▸ho))
  .rw[hr]at hw;cases hw
  .have:=A.aZz l zJ;exact zEd
 .exact zLm
 .rcases getElem?_append_cases hi with⟨_,dN⟩|⟨_,hiu⟩
  .exact zD2
  .rcases(hu op hiu).2 x hx with⟨hs,_⟩|⟨_,e⟩|⟨_,_,e⟩|e
   .exact hs
   .exact absurd e hk
   .exact absurd e hk
   .rw[e]at hm;cases hm
 .exact zJn
theorem TI.app0(A:Ap cI Sh Rd O)(h:TI cI Sh Rd O j0 j B t)(hu:∀op∈u,OkM cI Sh Rd O op)(hl:∀op∈u,op.act.low B):TI cI Sh Rd O j0 j B (t++u):=by
 refine⟨λsaid=>noRace_append (h.clean said) (λop cK=>(hu op cK).1) λi a ha op cK b hb hc=>?_,h.quiet.app λop cK x hx hs=>?_,λk' l zJ=>(h.own k' l zJ).app λop cK b hb e=>?_,λl hs hr hn hm i a ha e=>?_,λl zJ k' hk'=>(h.rd l zJ k' hk').app λop cK b hb e hw=>?_,seen_app h.low hl,λi op hi=>?_,w8 h.over λop cK=>.inl (hu op cK).1,λi op x hi hg hx hm hk=>?_,λi op x hi hg hx hm=>?_⟩
 .rcases(hu op cK).2 b hb with⟨hs,hk⟩|⟨hs,hno,hrd,hsh⟩|hm
  .exact h.quiet.known hs hk (λ_=>rfl) i a ha hc
  .by_cases hr:Rd b.loc
   .exact h.rd b.loc hr 0 (.inl rfl) i a ha hc.1 (hc.2.2.1.resolve_right (by simp[hrd hr]))
   .have uQ:b.loc.isMemory=true:=by rw[<-hc.1];exact hc.2.1
    rcases h.free b.loc hs hr hno uQ i a ha hc.1 with hk|⟨h1,h2⟩
    .exact hk
    .have hkb:=hsh h1;obtain⟨_,_,_,aZh⟩:=hc;rw[h2]at aZh;rcases aZh with x|x|⟨_,x,_⟩
     .cases x
     .exact absurd x hkb
     .cases x
  .have:=hc.2.1;rw[hc.1,hm]at this;cases this
 .rcases(hu op cK).2 x hx with⟨_,hk⟩|⟨hn,_⟩|hm
  .exact⟨hk,λ_=>(hu op cK).1⟩
  .exact absurd hs hn
  .have:=A.bA6 _ hs;rw[hm]at this;cases this
 .rcases(hu op cK).2 b hb with⟨hs,_⟩|⟨_,hn,_⟩|hm
  .exact absurd (e▸hs) (A.ownSh k' l zJ)
  .exact absurd (e▸zJ) (hn k')
  .have:=A.aUg k' l zJ;exact zEd
 .have m76:=0;exact zH7
 .rcases(hu op cK).2 b hb with⟨hs,_⟩|⟨_,_,hr,_⟩|hm
  .exact absurd (e▸hs) (A.rdSh l zJ)
  .have:=hr (e▸zJ);rw[this]at hw;cases hw
  .have:=A.aZz l zJ;exact zEd
 .exact zJ3
 .have bKe:=0;exact zJn
 .rcases getElem?_append_cases hi with⟨_,dN⟩|⟨_,hiu⟩
  .exact zDs
  .have:=knows_own hi;rw[(hu op hiu).1]at this;exact .inl this
theorem TI.appMute(h:TI cI Sh Rd O j0 j B t){g:Nat}(hg:g<=j)(hu:∀op∈u,op.g=g)(hn:∀op∈u,op.act.touch?=none)(hl:∀op∈u,op.act.low B):TI cI Sh Rd O j0 j B (t++u):=by
 refine⟨λsaid=>noRace_append (h.clean said) hu λi a _ op cK b hb _=>j5,h.quiet.app λop cK x hx _=>(by rw[hn op cK]at hx;cases hx),λk' l zJ=>(h.own k' l zJ).app λop cK b hb _=>j5,λl hs hr hno hm i a ha e=>?_,λl zJ k' hk'=>(h.rd l zJ k' hk').app λop cK b hb _ _=>j5,seen_app h.low hl,λi op hi=>?_,w8 h.over λop cK=>.inr (.inr (hn op cK)),λi op x hi hg hx hm hk=>?_,λi op x hi hg hx hm=>?_⟩
 .exact zLa
 .have bKl:=0;exact zJ3
 .exact zJp
 .have bKf:=0;exact zJp
theorem TI.mono(h:TI cI Sh Rd O j0 j B t)(hB:B<=B'):TI cI Sh Rd O j0 j B' t:=⟨h.clean,h.quiet,h.own,h.free,h.rd,λop cK=>MemAct.low_mono hB (h.low op cK),h.gs,h.over,h.atom,h.old0⟩
theorem TI.grow(h:TI cI Sh Rd O j0 j B t)(h1:∀k l,O k l->O' k l)(h2:∀k l,O' k l->O k l\/∀i a,touchAt t i=some a->a.loc≠l):TI cI Sh Rd O' j0 j B t:=
 ⟨h.clean,h.quiet,λk l hl i a ha e=>(h2 k l hl).elim (λq=>h.own k l q i a ha e) λq=>absurd e (q i a ha),λl hs hr hn hm=>h.free l hs hr (λk q=>hn k (h1 k l q)) hm,h.rd,h.low,h.gs,h.over,h.atom,h.old0⟩
theorem TI.fresh(h:TI cI Sh Rd O j0 j B t){l:Loc}(hl:¬l.low B):∀i a,touchAt t i=some a->a.loc≠l:=by
 intro i a ha e;obtain⟨op,ho,hoa⟩:=touch_of ha;have:=h.low op (AS ho);obtain⟨g,fn,pos,act⟩:=op
 cases act with
 |access ev=>
  simp only[MemAct.touch?,AI]at hoa
  subst hoa
  exact hl (e▸this)
 |mark m=>
  cases m<;>simp only[MemAct.touch?,reduceCtorEq,AI]at hoa
  all_goals(subst hoa;subst e;exact hl this)
 |_=>simp[MemAct.touch?]at hoa
theorem TI.fork(h:TI cI Sh Rd O j0 j B t){x y:MemOp}(hx:x.g=0/\x.act=.go (j+1))(hy:y.g=j+1/\y.act=.start)(h0:Deaf t 0=0):TI cI Sh Rd O j0 (j+1) B (t++ #[x,y]):=by
 have hk:Deaf t (j+1)=0:=Deaf_absent λi op hi e=>by have:=h.gs i op hi;omega
 have hnt:∀op∈#[x,y],op.act.touch?=none:=by exact zI3
 have hlo:∀op∈#[x,y],op.act.low B:=by have bG5:=0;exact zI3
 have old:∀{i:Nat}{a:Touch},touchAt (t++ #[x,y]) i=some a->touchAt t i=some a:=by
  intro i a ha;obtain⟨z,hz,hza⟩:=touch_of ha;rcases getElem?_append_cases hz with⟨_,hz'⟩|⟨_,hzu⟩
  .rw[touchAt_of hz'];exact hza
  .rw[hnt z hzu]at hza;cases hza
 refine⟨λsaid=>?_,h.quiet.app λop cK b hb _=>jz,λk l hl=>(h.own k l hl).app λop cK b hb _=>jz,λl hs hr hn hm i a ha e=>(h.free l hs hr hn hm i a (old ha) e).imp (·.app _) id,λl hl k hk'=>?_,seen_app h.low hlo,λi op hi=>?_,w8 h.over λop cK=>.inr (.inr (hnt op cK)),λi op x hi hg hx hm hk=>?_,λi op x hi hg hx hm=>?_⟩
 .have e:t++ #[x,y]=(t++ #[x])++ #[y]:=by apply Array.ext';simp
  rw[e];refine noRace_append (g:=j+1) (noRace_append (g:=0) (h.clean said) (λop cK=>by simp at cK;rw[cK];exact hx.1) λi a _ op cK b hb _=>?_) (λop cK=>by simp at cK;rw[cK];exact hy.1) λi a _ op cK b hb _=>?_
  .rw[hnt op (by simp at cK⊢;exact .inl cK)]at hb;cases hb
  .rw[hnt op (by simp at cK⊢;exact .inr cK)]at hb;cases hb
 .rcases jB j k with hlt|hge
  .obtain rfl:k=j+1:=by omega
   exact λi a ha e hw=>fork_knows hx hy h0 hk (h.rd l hl 0 (.inl rfl) i a (old ha) e hw)
  .exact(h.rd l hl k od).app λop cK b hb _ _=>jz
 .rcases getElem?_append_cases hi with⟨_,dN⟩|⟨_,hiu⟩
  .exact Nat.le_succ_of_le (h.gs i op dN)
  .simp only[List.mem_toArray,List.mem_cons,List.not_mem_nil,or_false]at hiu;rcases hiu with rfl|rfl
   .rw[hx.1];exact kI _
   .rw[hy.1];exact kG _
 .exact zJm
 .have bKd:=0;exact zJm
theorem TI.join(h:TI cI Sh Rd O j0 j B t){a:WT}{q:Nat}(hears:Deaf t 0=0)(hn:NoRelease a t)(hq:t.act? q=some (.mark (.acquire a)))(hg:t.g? q=some 0)(hh:t.heard q)(hr:∀i g,t.g? i=some g->j0<g->∃r,RelBy a t g r/\r<q):Past (λl=>cI l\/Sh l) B t:=by
 have late:∀i g,t.g? i=some g->j0<g->t.counts i->HappensBefore t i q:=by
  intro i g hgi hj hc;obtain⟨r,C4,hrq⟩:=hr i g hgi hj;have bEj:HappensBefore t r q:=.single (.inr ⟨.marked hrq (.inr C4.act) hq (λk _ _=>hn k),C4.heard,hh⟩);have hle:i<=r:=Nat.le_of_not_lt λhlt=>C4.after i hlt hgi hc;rcases jB i r with hlt|hge
  .exact .trans (.single (.inl ⟨hlt,g,hgi,C4.g⟩)) bEj
  .obtain rfl:i=r:=by omega
   exact bEj
 refine⟨h.clean,λi x hx hm=>?_,λi g hgi h0 hc=>?_,hears,h.low⟩
 .obtain⟨op,ho,hox⟩:=touch_of hx;rcases jB j0 op.g with hj|hj
  .have hgi:t.g? i=some op.g:=by simp[Trace.g?,ho]
   by_cases hk:x.kind=.plain
   .have:=late i op.g hgi hj ⟨x,by simpa[touchAt]using hx,hm,.inl (by rw[hk];simp)⟩;obtain⟨y,hy,hyg⟩:=AQ hg;exact .inl ⟨q,y,hy,hyg,.inr this⟩
   .have hs:=h.atom i op x ho hj hox hm hk;by_cases ha:x.kind=.atomic
    .exact .inr ⟨.inr hs,ha⟩
    .have:=h.quiet i op x ho hox hs;have bFm:x.kind=.said:=by cases hx2:x.kind<;>simp_all
     have:=this.2 bFm;omega
  .exact(h.old0 i op x ho hj hox hm).imp id λq=>⟨.inl q.1,q.2⟩
 .rcases jB j0 g with hj|hj
  .exact⟨q,hg,late i g hgi hj hc⟩
  .exact h.over i g hgi h0 hj hc
theorem TI.begin(hp:Past cI B t)(hgs:∀(i:Nat) (op:MemOp),t[i]?=some op->op.g<=j0)(hS:∀l,Sh l->∀i a,touchAt t i=some a->a.loc=l->a.kind=.atomic)(hO:∀k l,¬O k l)(hR:∀l,Rd l->¬cI l/\l.isMemory=true):TI cI Sh Rd O j0 j0 B t:=by
 refine⟨hp.clean,λi op x hi hx hs=>?_,λk l hl=>absurd hl (hO k l),λl _ _ _ hm i a ha e=>?_,λl hl k hk i a ha e _=>?_,hp.seen,hgs,λi g hg h0 _ hc=>hp.over i g hg h0 hc,λi op x hi hg=>absurd (hgs i op hi) od,λi op x hi _ hx hm=>hp.known i x (by rw[touchAt_of hi];exact hx) hm⟩
 .have:=hS x.loc hs i x (by rw[touchAt_of hi];exact hx) rfl;rw[this];exact⟨oe,oe⟩
 .exact e▸hp.known i a ha (e▸hm)
 .rcases hk with rfl|hk
  .rcases hp.known i a ha (e▸(hR l hl).2)with q|⟨q,_⟩
   .exact q
   .exact absurd (e▸q) (hR l hl).1
  .omega
end
