import Derived.Test.YtnbomhedoelklaaGreatDoorZDoorLaidK
import Derived.Test.YtnbomhedoelklaaGreatDoorZT22
namespace Go.Proofs.YtnbomhedoelklaaGreatDoor
open Go.RowKit Go.Proofs.Tryz
set_option maxRecDepth 99999
set_option maxHeartbeats 0
structure W9(W:WA)(x1 x2:Nat):Prop where
 k:∀b,kS b->∃c e,W.1[b]?=some (.cells c e (0,0))/\∀v∈c,C9 v/\(∀s,v≠sT s)/\Sc kS ⟨QS,λb=>oS b\/b=x1\/b=x2⟩ v
 o:∀b,oS b\/b=x1\/b=x2->¬kS b/\∃c e,W.1[b]?=some (.cells c e (0,0))/\c.size≠0
 bJ1:gW W
def aLn(W:WA)(b:Nat):Nat:=match W.1[b]? with|some (.cells c _ _)=>c.size|_=>0
section
variable{W:WA}{x1 x2:Nat}
theorem W9.nv(K:W9 W x1 x2):7<W.1.size:=by obtain⟨c,e,h,_⟩:=K.k 7 (by simp[kS]);exact(kZ h).1
theorem gW.same{w:WA}(h:gW W)(hk:∀b,kS b->∃c e f f',W.1[b]?=some (.cells c e f)/\w.1[b]?=some (.cells c e f')):gW w:=by
 have hc:∀b,kS b->w.cell? (aA b 0)=W.cell? (aA b 0):=λb hb=>by obtain⟨c,e,f,f',h1,h2⟩:=hk b hb;simp[World.cell?,h1,h2]
 refine⟨?_,?_,?_,?_⟩
 .unfold Told;rw[hc _ (by simp[kS])];exact h.told
 .obtain⟨t,p,q⟩:=h.syn;exact⟨t,p,(hc _ (by simp[kS])).trans q⟩
 .obtain⟨t,p,q⟩:=h.rng;exact⟨t,p,(hc _ (by simp[kS])).trans q⟩
 .have q:=h.tab;unfold Lib.TabIs World.var? at q⊢;rw[Tryz.p10]at q⊢;obtain⟨c,e,f,f',h1,h2⟩:=hk 1 (by simp[kS]);simp only[Option.bind_some]at q⊢;rw[h1]at q;rw[h2];exact q
theorem W9.lone(K:W9 W x1 x2):Nonempty (aB7 W (λb=>b=x1\/b=x2) (aLn W)):=by
 classical
 have hnv:=K.nv;obtain⟨lw,hlw⟩:∃lw:Nat->WA,∀G,(lw G).1.size=G/\(lw G).os=W.os/\(lw G).output=W.output/\(lw G).tape=W.tape/\
   ∀b,b<G->(∀c e f,kS b->W.1[b]?=some (.cells c e f)->(lw G).1[b]?=some (.cells c e (0,c.size+1)))/\
    (∀c e f,¬kS b->oS b\/b=x1\/b=x2->W.1[b]?=some (.cells c e f)->(lw G).1[b]?=some (.pending c e))/\
    (¬kS b->¬(oS b\/b=x1\/b=x2)->(lw G).1[b]?=some (.cells #[] 0 (0,1))):=by
  refine⟨λG=>{ W with heap:=(Array.range G).map λb=>if kS b then(match W.1[b]? with|some (.cells c e _)=>.cells c e (0,c.size+1)|_=>.cells #[] 0 (0,1))else if oS b\/b=x1\/b=x2 then(match W.1[b]? with|some (.cells c e _)=>.pending c e|_=>.cells #[] 0 (0,1))else .cells #[] 0 (0,1) },λG=>⟨oe,rfl,rfl,rfl,λb hb=>⟨λc e f h1 h2=>?_,λc e f h1 h2 h3=>?_,λh1 h2=>?_⟩⟩⟩
  .simp[hb,h1,h2]
  .simp[hb,h1,h2,h3]
  .simp[hb,h1,h2]
 have hlt:∀b,kS b->b<W.1.size:=λb hb=>by have:=aMx hb;omega
 have hot:∀b,oS b\/b=x1\/b=x2->b<W.1.size:=λb hb=>by obtain⟨_,c,e,h,_⟩:=K.o b hb;exact(kZ h).1
 refine⟨{ lw:=lw,size:=λG _=>(hlw G).1,os:=λG=>(hlw G).2.1,out:=λG=>(hlw G).2.2.1,tp:=λG=>(hlw G).2.2.2.1,nv:=hnv,fz:=λG hG=>?_,dw:=λG hG t=>?_,held:=λG w hG ho=>?_ }⟩
 .refine⟨(hlw G).1,λb hb hq=>?_,λb hq=>?_⟩
  .have hb:b<G:=hb;have hq:¬(oS b\/b=x1\/b=x2):=hq;obtain⟨a1,_,a3⟩:=(hlw G).2.2.2.2 b hb;by_cases hk:kS b
   .obtain⟨c,e,h1,h2⟩:=K.k b hk;refine⟨c,e,c.size+1,a1 c e _ hk h1,Nat.lt_succ_self _,λ_=>⟨by show c.size=aLn W b;unfold aLn;rw[h1],λv hv=>(h2 v hv).1⟩,λv hv=>(h2 v hv).2.2.mono λx hx=>⟨?_,hx⟩⟩;exact kC (hlt x hx) hG
   .exact⟨#[],0,1,a3 hk hq,oe,λh=>absurd h hk,oe⟩
  .have hq:oS b\/b=x1\/b=x2:=hq;obtain⟨h1,c,e,h2,h3⟩:=K.o b hq;have hb:b<G:=kC (hot b hq) hG;exact⟨hb,h1,c,e,((hlw G).2.2.2.2 b hb).2.1 c e _ h1 hq h2,h3⟩
 .have hd:gW (on (lw G) t):=gW.same K.bJ1 λb hb=>by obtain⟨c,e,h1,_⟩:=K.k b hb;exact⟨c,e,_,_,h1,((hlw G).2.2.2.2 b (kC (hlt b hb) hG)).1 c e _ hb h1⟩
  exact λw' hb=>hd.below hb
 .refine⟨λb hb hk=>?_,λb hq=>?_⟩
  .have hb:b<G:=hb;have hk:kS b:=hk;obtain⟨c,e,h1,_⟩:=K.k b hk;exact⟨c,e,_,_,((hlw G).2.2.2.2 b hb).1 c e _ hk h1,(ho b (hlt b hk)).trans h1,kI _⟩
  .have hq:oS b\/b=x1\/b=x2:=hq;obtain⟨h1,c,e,h2,_⟩:=K.o b hq;exact⟨c,e,c,e,((hlw G).2.2.2.2 b (kC (hot b hq) hG)).2.1 c e _ h1 hq h2,(ho b (hot b hq)).trans h2,rfl⟩
end
theorem aWd:(List.range 7).all (λg=>match ((begin prog (λ_ _=>0) default).world.1[g]?).bind Obj.row? with|some (z,_)=>(z.size !=0)&&(!([2,3,4].contains g)||z.size==1)|none=>false)=true:=oh
theorem aIu:(begin prog (λ_ _=>0) default).world.1[7]?=some (.cells ((Array.range Tryz.prog.types.size).map λt=>.int .u64 (Int.ofNat t)) 0):=oh
theorem aSt:Tryz.prog.globals.size=7:=oh
section
variable{W:WA}
theorem row_of(hS:W.ShapedOpen prog){g:Nat}(hg:g<7):∃c e,W.1[g]?=some (.cells c e (0,0))/\c.size≠0/\(g=2\/g=3\/g=4->c.size=1):=by
 have h:=List.all_eq_true.1 aWd g (List.mem_range.2 hg)
 cases hz:((begin prog (λ_ _=>0) default).world.1[g]?).bind Obj.row? with
 |none=>rw[hz]at h;cases h
 |some x=>
  obtain⟨z,t⟩:=x
  rw[hz]at h
  simp only[AK,bne_iff_ne,ne_eq,Bool.or_eq_true,Bool.not_eq_true',beq_iff_eq]at h
  obtain⟨c,h1,h2,_⟩:=hS.1 g z t (by rw[aSt];exact hg) hz
  refine⟨c,t,h1,by rw[h2];exact h.1,λhx=>?_⟩
  rw[h2]
  refine h.2.resolve_left λhy=>?_
  rcases hx with rfl|rfl|rfl<;>simp at hy
theorem aVy(hS:W.ShapedOpen prog):W.1[7]?=some (.cells ((Array.range Tryz.prog.types.size).map λt=>.int .u64 (Int.ofNat t)) 0 (0,0)):=by obtain⟨o,o0,h1,h2,h3⟩:=hS.2 7 (by rw[aSt];exact kG _) (kZ aIu).1;rw[aIu]at h2;cases h2;rw[aSt]at h3;have h3:o=_:=h3;rw[h1,h3]
theorem one_cell{g:Nat}{c:Array WB}{e:WI}{f:Nat×Nat}{v:WB}(h:W.1[g]?=some (.cells c e f))(h1:c.size=1)(hc:W.cell? (aA g 0)=some v):∀x∈c,x=v:=by
 have h2:c[0]?=some v:=by simpa[World.cell?,h]using hc
 obtain⟨l⟩:=c;rcases l with _|⟨a,_|⟨b,l⟩⟩
 .simp at h1
 .simp at h2;subst h2;simp
 .simp at h1
theorem aH1(h:laidMet prog pZ W){n:String}{g:Nat}{name:String}{s:List UInt8}(hn:Tryz.prog.globalNamed n=some g)(hm:(n,DataW.iface name (.ptr (.agg [.lit (.string s)])))∈pZ):
  ∃u v x,W.cell? (aA g 0)=some (.iface u v)/\(∀y∈v.cells,∃a:WT,y=.pointer (some a)/\a.block=x)/\∃c e,W.1[x]?=some (.cells c e (0,0))/\∃b,sT b∈c:=by
 obtain⟨ps,h1,_,h2⟩:=h;obtain⟨g',t,cs,fuel,p,k1,k2,k3,k4,k5⟩:=M0 h1 n _ hm;obtain rfl:=kY (hn.symm.trans k1);obtain⟨u,v,a,i,b,e1,e2,e3,e4⟩:=aIg k4;have hc:W.cell? (aA g 0)=some (.iface u v):=by rw[World.var?_cell k1 k3 0];obtain⟨l⟩:=cs;simp at e1;subst e1;rfl
 refine⟨u,v,a.block,hc,λy hy=>?_,?_⟩
 .have:y∈v.cells.toList:=by simpa using hy
  rw[e2]at this;exact⟨a,by simpa using this,rfl⟩
 .obtain⟨⟨c,e,h3⟩,_⟩:=h2 _ _ (k5 _ e3);refine⟨c,e,h3,b,?_⟩;have hb:(a.add i).block=a.block:=add_block a i;unfold World.cell? at e4;rw[hb,h3]at e4;dsimp only at e4;split at e4
  .cases e4
  .exact AS e4
theorem aVi{S:Nat->Prop}{Q:Qs}{v:WB}(h:∀y∈v.cells,Sc S Q y):Sc S Q v:=by
 cases v<;>first
  |(simp only[Sc];exact h)
  |exact h _ (by simp[Value.cells])
theorem aTh(hL:laidMetH prog fT W)(hS:W.ShapedOpen prog):∃x1 x2,W9 W x1 x2:=by
 have hd:=aDx hL;obtain⟨u1,v1,x1,s1,p1,c1,e1,r1,b1,m1⟩:=aH1 (tV hL).1 Tryz.es aU0;obtain⟨u2,v2,x2,s2,p2,c2,e2,r2,b2,m2⟩:=aH1 (tV hL).1 Tryz.er aTz;have hsc:∀(u:WI)(v:WB)(x:Nat),(x=x1\/x=x2)->(∀y∈v.cells,∃a:WT,y=.pointer (some a)/\a.block=x)->Sc kS ⟨QS,λb=>oS b\/b=x1\/b=x2⟩ (.iface u v):=λu v x hx hp=>by simp only[Sc];refine aVi λy hy=>?_;obtain⟨a,rfl,ha⟩:=hp y hy;simp only[Sc];rintro z ⟨⟩;exact .inr (.inr (by rw[ha];exact hx))
 have hk:∀b,kS b->∃c e,W.1[b]?=some (.cells c e (0,0))/\∀v∈c,C9 v/\(∀s,v≠sT s)/\Sc kS ⟨QS,λb=>oS b\/b=x1\/b=x2⟩ v:=by
  intro b hb;unfold kS at hb;rcases hb with rfl|rfl|rfl|rfl|rfl
  .obtain⟨c,e,h1,h2,h3⟩:=row_of hS (g:=1) od;refine⟨c,e,h1,?_⟩;have q:=hd.tab;unfold Lib.TabIs World.var? at q;rw[Tryz.p10]at q;simp only[Option.bind_some]at q;rw[h1]at q;cases q;intro v hv;simp only[List.mem_toArray,List.mem_map]at hv;exact zEj
  .obtain⟨c,e,h1,h2,h3⟩:=row_of hS (g:=2) od;refine⟨c,e,h1,λv hv=>?_⟩;obtain rfl:=one_cell h1 (h3 (.inl rfl)) hd.told v hv;refine⟨λn h=>Oa,λs h=>Oa,?_⟩;simp only[Sc];intro v hv;simp at hv;subst hv;simp only[Sc];rintro z ⟨⟩;exact .inl (by simp[kS])
  .obtain⟨c,e,h1,h2,h3⟩:=row_of hS (g:=3) od;refine⟨c,e,h1,λv hv=>?_⟩;obtain rfl:=one_cell h1 (h3 (.inr (.inl rfl))) s1 v hv;exact⟨λn h=>Oa,λs h=>Oa,hsc _ _ x1 (.inl rfl) p1⟩
  .obtain⟨c,e,h1,h2,h3⟩:=row_of hS (g:=4) od;refine⟨c,e,h1,λv hv=>?_⟩;obtain rfl:=one_cell h1 (h3 (.inr (.inr rfl))) s2 v hv;exact⟨λn h=>Oa,λs h=>Oa,hsc _ _ x2 (.inr rfl) p2⟩
  .refine⟨_,_,aVy hS,λv hv=>?_⟩;simp only[Array.mem_map]at hv;exact zEj
 have hx:∀(x:Nat)(c:Array WB)(e:WI)(b:WG),W.1[x]?=some (.cells c e (0,0))->sT b∈c->¬kS x/\∃c e,W.1[x]?=some (.cells c e (0,0))/\c.size≠0:=λx c e b h1 h2=>by
  refine⟨λhb=>?_,c,e,h1,λh0=>?_⟩
  .obtain⟨c',e',h3,h4⟩:=hk x hb;rw[h1]at h3;cases h3;exact(h4 _ h2).2.1 b rfl
  .rw[Array.eq_empty_of_size_eq_zero h0]at h2;simp at h2
 refine⟨x1,x2,hk,λb hb=>?_,hd⟩;rcases hb with hb|rfl|rfl
 .obtain⟨c,e,h1,h2,_⟩:=row_of hS (bHg hb);exact⟨bHf hb,c,e,h1,h2⟩
 .exact hx _ _ _ _ r1 m1
 .exact hx _ _ _ _ r2 m2
theorem W9.bLx{x1 x2:Nat}(K:W9 W x1 x2){b:Nat}{c:Array WB}{e:WI}{f:Nat×Nat}{s:WG}(h:W.1[b]?=some (.cells c e f))(hs:sT s∈c):¬kS b:=λhb=>by obtain⟨c',e',h3,h4⟩:=K.k b hb;rw[h]at h3;cases h3;exact(h4 _ hs).2.1 s rfl
end
