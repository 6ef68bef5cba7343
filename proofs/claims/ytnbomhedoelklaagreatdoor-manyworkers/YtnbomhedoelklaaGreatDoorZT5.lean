import Derived.Test.YtnbomhedoelklaaGreatDoorZT3
import Derived.Test.YtnbomhedoelklaaGreatDoorZT4
namespace Go.Proofs.YtnbomhedoelklaaGreatDoor
open Go.RowKit Go.Proofs.Tryz
set_option maxRecDepth 99999
set_option maxHeartbeats 0
theorem aPz{v w:WA}(h:bW v w):∀b o,b<v.1.size->w.cell? (aA b o)=v.cell? (aA b o):=λ_ _ hb=>h.cell hb
theorem aC3{w w1:WA}{o:Obj}(hb:Below (w.alloc o).1.size (w.alloc o) w1):bW w w1:=((jD _ _).alloc (kG _) _).trans (hb.mono oe)
theorem bEb{w w1:WA}{a b c d:WB}{T:WI}(hb:Below (w.alloc (.cells #[a,b,c,d] T)).1.size (w.alloc (.cells #[a,b,c,d] T)) w1):
  w1.cell? (aA w.1.size 0)=some a/\w1.cell? (aA w.1.size 1)=some b/\w1.cell? (aA w.1.size 2)=some c/\w1.cell? (aA w.1.size 3)=some d/\w.1.size<w1.1.size:=by have hz:=hb.size;simp at hz;refine⟨?_,?_,?_,?_,od⟩<;>(rw[aPz hb _ _ oe];simp)
theorem aPk(f s n d r:Int)(w:WA)(h:eA f s n d=false):
  Calls prog 92 #[.agg #[iI f,iI s,iI n,iI d],iI r] w λe w'=>e=rT (tU #[iI 0,.iface 30 (iI 1)])/\bW w w':=by have HR:Hid (eA f s n d=false):=h;clear h;have L8:=Tryz.mf;go_enter func92,ntmps92;exact zCy
theorem aHa(f s n d r:Int)(w:WA)(h:eA f s n d=true)(hr:r<f):
  Calls prog 92 #[.agg #[iI f,iI s,iI n,iI d],iI r] w λe w'=>e=rT (tU #[iI 0,.iface 30 (iI 2)])/\bW w w':=by have HR:Hid (eA f s n d=true):=h;clear h;have L8:=Tryz.mf;have hn:decide (f<=r)=false:=kD od;go_enter func92,ntmps92;exact zIk
theorem aKc(f s n d r:Int)(w:WA)(h:eA f s n d=true)(hr:1099511627776<r):
  Calls prog 92 #[.agg #[iI f,iI s,iI n,iI d],iI r] w λe w'=>e=rT (tU #[iI 0,.iface 30 (iI 2)])/\bW w w':=by have hf:=(oU h).2.1;have HR:Hid (eA f s n d=true):=h;clear h;have L8:=Tryz.mf;have hn:decide (r<=1099511627776)=false:=kD od;have hle:f<=r:=od;go_enter func92,ntmps92;exact zIk
theorem aTo(f s n d r:Int)(w:WA)(h:eA f s n d=true)(hr:f<=r)(pF:r<=1099511627776)(hv:s+(r-f)*n/d<=1099511627776):
  Calls prog 92 #[.agg #[iI f,iI s,iI n,iI d],iI r] w λe w'=>e=rT (tU #[iI (s+(r-f)*n/d),.nilIface])/\bW w w':=zE0
theorem aKb(f s n d r:Int)(w:WA)(h:eA f s n d=true)(hr:f<=r)(pF:r<=1099511627776)(hv:1099511627776<s+(r-f)*n/d):
  Calls prog 92 #[.agg #[iI f,iI s,iI n,iI d],iI r] w λe w'=>e=rT (tU #[iI 0,.iface 30 (iI 2)])/\bW w w':=zE0
def qA(tq:Nat->Int)(k:Nat):Int:=if k=0 then 0 else tq (k-1)
theorem wK(nd fr tq:Nat->Int)(frame:Int)(k:Nat):
  lJ nd fr tq frame k=if jF (fr k) (tq k) (qA tq k) frame≠0 then jF (fr k) (tq k) (qA tq k) frame else if nd k<0\/5<nd k then 7 else 0:=by
 have e:((k=0/\fr k<0)\/(0<k/\fr k<tq (k-1)))↔fr k<qA tq k:=by unfold qA;exact zBq
 unfold lJ jF;by_cases h1:tq k<=fr k
 .simp[h1]
 .rw[kJ h1];by_cases h2:fr k<qA tq k
  .simp[e,h1,h2]
  .simp only[e];rw[kJ h2];by_cases h3:frame<tq k
   .simp[h1,h2,h3]
   .simp[h1,h2,h3]
theorem aW6(AA aG aM aC aJ round frame:Int)(sa la wa:Option WT)(ns sc nl lc nw wc:Nat)(w:WA)
  (d1:nw<=32)
  (nd fr tq:Nat->Int)(hs:jH w wa nw nd fr tq)(e i:Int)(hF:bX (lJ nd fr tq frame) nw e i):
  Calls prog 138 #[.agg #[iI AA,iI aG,iI aM,iI aC,iI aJ,iI round,sV sa ns sc,sV la nl lc,iI frame,sV wa nw wc]] w λev w'=>∃E,ev=rT E/\Q8 w' E e (2000+i)/\bW w w':=by have HF:Hid (bX (lJ nd fr tq frame) nw e i):=hF;have m5:=0;exact zF8
section
variable{b g id m:Int}
theorem aEy{w:WA}{P:Nat}{n:Nat}{fz:Bool}(h:aU w P id n m g b fz):Calls prog 121 #[pP P] w λe w'=>e=rT (iI m)/\w'=w:=by obtain⟨c0,c1,c2,c3,c4,c5,z,lp⟩:=h;clear z;go_enter func121,ntmps121;exact W5
theorem aHl{w:WA}{P:Nat}{n:Nat}{fz:Bool}(h:aU w P id n m g b fz):Calls prog 122 #[pP P] w λe w'=>e=rT (.bool fz)/\w'=w:=by obtain⟨c0,c1,c2,c3,c4,c5,z,lp⟩:=h;clear z;go_enter func122,ntmps122;exact W5
end
theorem aEa{AA aG aM aC aJ round frame:Int}{ns nl nw:Nat}(h:bZ AA aG aM aC aJ round frame ns nl nw=0):
  1<=AA/\AA<=16/\0<=aG/\aG<=5/\(0<=aM/\aM<=137438953472)/\(0<=aC/\aC<=137438953472)/\(0<=aJ/\aJ<=137438953472)/\(1<=round/\round<=137438953472)/\(1<=frame/\frame<=137438953472)/\ns<=32/\nl<=8/\nw<=32:=zA5
theorem aL5(AA:Int)(h1:1<=AA)(h2:AA<=16):2<=(2:Int)^AA.toNat/\(2:Int)^AA.toNat<=65536:=zFe
theorem Q8.err{w:WA}{E:WB}{e i:Int}(h:Q8 w E e i)(he:e≠0):gX w E e i:=by
 rcases h with⟨_,h⟩|h
 .exact absurd h he
 .exact .inr (.inr h)
theorem Q8.isNone{w:WA}{E:WB}{i:Int}(h:Q8 w E 0 i):E=.nilIface:=by
 rcases h with⟨h,_⟩|⟨_,_,h,_⟩
 .exact h
 .exact absurd rfl h
theorem Q8.isSome{w:WA}{E:WB}{e i:Int}(h:Q8 w E e i)(he:e≠0):∃b,E=.iface 265 (pP b):=by
 rcases h with⟨_,h⟩|⟨b,h,_⟩
 .exact absurd h he
 .exact⟨b,h⟩
theorem aO8(AA aG aM aC aJ round frame:Int)(sa la wa:Option WT)(ns sc nl lc nw wc:Nat)(nd fr tq lf lt lb lq:Nat->Int)(hit:Nat->Bool)(pw:Int)(wp wf wt:Nat->Int)(E I:Int)(w:WA)
  (hs:jH w sa ns nd fr tq)(hl:xL w la nl lf lt lb lq)(hw:jH w wa nw wp wf wt)(hpw:(2:Int)^AA.toNat=pw)(aBl:∀j,0<=lf j->lf j<=15->hit j=(bits BinOp.and .i64 (lt j) (2^(lf j).toNat) !=0))
  (hC:jQ AA aG aM aC aJ round frame ns nl nw nd fr tq lf lt lb lq hit pw wp wf wt E I):
  Calls prog 99 #[.agg #[iI AA,iI aG,iI aM,iI aC,iI aJ,iI round,sV sa ns sc,sV la nl lc,iI frame,sV wa nw wc]] w λev w'=>∃V,ev=rT V/\gX w' V E I/\bW w w':=by have HC:Hid (jQ AA aG aM aC aJ round frame ns nl nw nd fr tq lf lt lb lq hit pw wp wf wt E I):=hC;have HPW:Hid ((2:Int)^AA.toNat=pw):=hpw;have HH:Hid (∀j,0<=lf j->lf j<=15->hit j=(bits BinOp.and .i64 (lt j) (2^(lf j).toNat) !=0)):=aBl;clear hC hpw aBl;exact zL7
theorem aE3(l:List Int):∀x,x<=l.foldl max x:=by
 induction l with
 |nil=>intro x;exact Int.le_refl _
 |cons a l ih=>
  intro x
  have:=ih (max x a)
  simp only[List.foldl_cons]
  omega
theorem aE6(l:List Int):∀x,l.foldl min x<=x:=by
 induction l with
 |nil=>intro x;exact Int.le_refl _
 |cons a l ih=>
  intro x
  have:=ih (min x a)
  simp only[List.foldl_cons]
  omega
theorem N8(l:List Int):0<=eF l:=by have h1:=aE3 l (l.headD 0);have h2:=aE6 l (l.headD 0);unfold eF;omega
section
section
variable{Y:Sy}
theorem dB.binOp(E:dB Y)(op:BinOp)(t:TypeId){x x' y y':Value}(hx:VR Y x x')(hy:VR Y y y'):RR Y (VR Y) (binOp op t x y) (binOp op t x' y'):=by
 have heq:=E.bJ2 t hx hy
 have hmn:=sE t hx hy
 have aP3:=sE t hy hx
 have hmp:=aAp t hx hy
 obtain⟨rfl,hs⟩:=hx
 obtain⟨rfl,hu⟩:=hy
 unfold Go.binOp
 cases x'
 case int k a=>
  cases y'
  case int k2 b=>
   simp only[rV]
   have h1:=E.shift op k a k2 b
   have h2:=dB.intArith (Y:=Y) op k a b
   have h3:=E.intDiv op k a b
   have h4:=dB.intBits (Y:=Y) op k a b
   have h5:=dB.intCmp (Y:=Y) op a b
   cases op<;>(try dsimp only)<;>with_reducible first
    |exact h1
    |(split<;>with_reducible first|exact RR.stuck _|exact h2|exact h3|exact h4|exact h5)
  case pointer p=>
   cases p with
   |none=>
    simp only[rV,Option.map_none]at heq hmn aP3 hmp⊢
    cases op<;>(try dsimp only)<;>with_reducible first|exact heq.1|exact heq.2|exact aP3|exact RR.sK
   |some q=>
    have haq:AR Y (rA Y.ρ q) q:=⟨rfl,by simp only[Sc]at hu;exact hu q rfl⟩
    simp only[rV,AH]at heq hmn aP3 hmp⊢
    cases op
    case and=>
     refine RR.AF (lT haq) ?_
     rintro⟨c,l⟩ ⟨c',_⟩ ⟨hc,_⟩
     exact I2 _ hc _
    all_goals dsimp only<;>with_reducible first
     |exact heq.1
     |exact heq.2
     |exact aP3
     |exact RR.sK
  all_goals
   simp only[rV]at heq⊢
   cases op<;>(try dsimp only)<;>with_reducible first|exact heq.1|exact heq.2|exact RR.stuck _
 case pointer p=>
  cases y'
  case int k b=>
   have hsn:RR Y (VR Y) (movedNumber t (rV Y.ρ (.pointer p)) (.int k (-b))) (movedNumber t (.pointer p) (.int k (-b))):=sE t ⟨rfl,hs⟩ VR.int
   cases p with
   |none=>
    simp only[rV,Option.map_none]at heq hmn aP3 hmp hsn⊢
    cases op
    case add=>
     refine RR.AF (RR.underlying t) ?_
     rintro d _ ⟨rfl,_⟩
     cases d<;>first|exact hmn|exact hmp
    all_goals dsimp only<;>with_reducible first
     |exact heq.1
     |exact heq.2
     |exact RR.sK
     |exact hsn
   |some q=>
    have haq:AR Y (rA Y.ρ q) q:=⟨rfl,by simp only[Sc]at hs;exact hs q rfl⟩
    simp only[rV,AH]at heq hmn aP3 hmp hsn⊢
    cases op
    case add=>
     refine RR.AF (RR.underlying t) ?_
     rintro d _ ⟨rfl,_⟩
     cases d<;>first|exact hmn|exact hmp
    case rem=>
     refine RR.AF (lT haq) ?_
     rintro⟨c,l⟩ ⟨c',_⟩ ⟨hc,_⟩
     exact I2 _ hc _
    case and=>
     refine RR.AF (lT haq) ?_
     rintro⟨c,l⟩ ⟨c',_⟩ ⟨hc,_⟩
     exact I2 _ hc _
    all_goals dsimp only<;>with_reducible first
     |exact heq.1
     |exact heq.2
     |exact RR.sK
     |exact hsn
  case pointer r=>
   cases p with
   |none=>
    cases r
    all_goals
     simp only[rV,Option.map_none,AH]at heq⊢
     cases op<;>(try dsimp only)<;>with_reducible first|exact heq.1|exact heq.2|exact RR.sK
   |some q=>
    cases r with
    |none=>
     simp only[rV,Option.map_none,AH]at heq⊢
     cases op<;>(try dsimp only)<;>with_reducible first|exact heq.1|exact heq.2|exact RR.sK
    |some r=>
     have haq:AR Y (rA Y.ρ q) q:=⟨rfl,by simp only[Sc]at hs;exact hs q rfl⟩
     have har:AR Y (rA Y.ρ r) r:=⟨rfl,by simp only[Sc]at hu;exact hu r rfl⟩
     simp only[rV,AH]at heq⊢
     have bJc:∀o,RR Y (VR Y) (do Op.addrCmp o (<-behindNumber (rA Y.ρ q)).1 (<-behindNumber (rA Y.ρ r)).1) (do Op.addrCmp o (<-behindNumber q).1 (<-behindNumber r).1):=fun o=>by
      refine RR.AF (lT haq) ?_
      rintro⟨c,l⟩ ⟨c',_⟩ ⟨hc,_⟩
      refine RR.AF (lT har) ?_
      rintro⟨e,l⟩ ⟨e',_⟩ ⟨he,_⟩
      exact E.addrCmp _ hc he
     cases op
     case sub=>
      refine RR.AF (lT haq) ?_
      rintro⟨c,l⟩ ⟨c',_⟩ ⟨hc,_⟩
      refine RR.AF (lT har) ?_
      rintro⟨e,l⟩ ⟨e',_⟩ ⟨he,_⟩
      exact E.addrSub _ hc he
     all_goals dsimp only<;>with_reducible first
      |exact heq.1
      |exact heq.2
      |exact RR.sK
      |exact bJc _
  all_goals
   simp only[rV]at heq⊢
   cases p<;>simp only[Option.map_none,AH]at heq⊢<;>cases op<;>(try dsimp only)<;>with_reducible first|exact heq.1|exact heq.2|exact RR.sK
 case float k a=>
  cases y'
  case float k2 b=>
   simp only[rV]
   have h:=dB.aX6 (Y:=Y) op k a b
   cases op<;>(try dsimp only)<;>(split<;>with_reducible first|exact RR.stuck _|exact h.1|exact h.2)
  all_goals
   simp only[rV]at heq⊢
   cases op<;>(try dsimp only)<;>with_reducible first|exact heq.1|exact heq.2|exact RR.sK|exact RR.stuck _
 case complex k a b=>
  cases y'
  case complex k2 c d=>
   simp only[rV]
   have h:RR Y (VR Y) (Op.complexOp op k a b c d) (Op.complexOp op k a b c d):=Pl.rr (fun v hv=>Fl.vr hv) _ (bHp op k a b c d)
   cases op<;>(try dsimp only)<;>(split<;>with_reducible first|exact RR.stuck _|exact h)
  all_goals
   simp only[rV]at heq⊢
   cases op<;>(try dsimp only)<;>with_reducible first|exact heq.1|exact heq.2|exact RR.sK|exact RR.stuck _
 case string a=>
  cases y'
  case string b=>
   simp only[rV]
   have h:=dB.stringOp (Y:=Y) op a b
   cases op<;>(try dsimp only)<;>with_reducible exact h
  all_goals
   simp only[rV]at heq⊢
   cases op<;>(try dsimp only)<;>with_reducible first|exact heq.1|exact heq.2|exact RR.sK|exact RR.stuck _
 all_goals
  simp only[rV]at heq⊢
  cases op<;>(try dsimp only)<;>with_reducible first
   |exact heq.1
   |exact heq.2
   |exact RR.stuck _
   |(cases y'<;>dsimp only<;>with_reducible first|exact RR.stuck _|exact RR.sK)
end
end
section
variable{a a':WT}{v v':WB}
section
variable{Y:Sy}{α:Type}{A:α->α->Prop}
theorem S6(h:AR Y a a')(hS:Y.S a'.block)(hg:Y.G<=a'.block):RR Y (λ_ _=>True) (markStringish a) (markStringish a'):=by
 unfold markStringish;refine RR.AF (RR.shape (r:=a.block) (r':=a'.block) ⟨Ou,hS⟩) ?_;rintro s _ rfl;split
 .rename_i e n;exact RR.freeze (a':={ block:=a'.block,off:=n }) ⟨Ou,h.2⟩ 1 hg
 .exact RR.AG trivial
theorem S7(e:WI)(s:WG):RR Y (VR Y) (Conv.stringToBytes e s) (Conv.stringToBytes e s):=by
 unfold Conv.stringToBytes;refine RR.AF (RR.choose _) ?_;rintro n _ rfl;have hp:dF Y (s.data.map (λb=>Value.int .u8 b.toNat)++Array.replicate (n-s.size) (.int .u8 0)) (s.data.map (λb=>Value.int .u8 b.toNat)++Array.replicate (n-s.size) (.int .u8 0)):=by
  refine VR.lits λv hv=>?_;rcases Array.mem_append.1 hv with hv|hv
  .obtain⟨b,_,rfl⟩:=Array.mem_map.1 hv;exact VR.int
  .rw[Array.mem_replicate]at hv;rw[hv.2];exact VR.int
 refine RR.AF (RR.aYb e hp) ?_;rintro a a' ⟨ha,hS,hg⟩;refine RR.AF (S6 ha hS hg) ?_;intro _ _ _;exact RR.AG ha.row
theorem aI6{σ:Type}(f f':WB->σ->Sem (ForInStep σ)):∀(l:List WB)(s:σ),(∀x∈l,∀s,RR Y (λr r'=>r=r') (f (rV Y.ρ x) s) (f' x s))->RR Y (λr r'=>r=r') (forIn (l.map (rV Y.ρ)) s f) (forIn l s f')
 |[],s,_=>RR.AG rfl
 |x::l,s,h=>by
  rw[List.map_cons,List.forIn_cons,List.forIn_cons];refine RR.AF (h x oe s) ?_;rintro r _ rfl
  cases r with
  |done b=>exact RR.AG rfl
  |yield b=>exact aI6 f f' l b λy hy=>h y (by simp[hy])
theorem S5(h:VR Y v v'):RR Y (VR Y) (Conv.bytesToString v) (Conv.bytesToString v'):=by
 obtain⟨rfl,hs⟩:=h;unfold Conv.bytesToString;cases v'<;>simp only[rV]<;>try exact RR.stuck _
 rename_i a l c
 cases a with
 |none=>exact RR.AG VR.str
 |some a=>
  simp only[AH]
  simp only[Sc]at hs
  refine RR.AF (RR.loadCells ⟨rfl,hs a rfl⟩ l) ?_
  rintro c c' ⟨rfl,hc⟩
  refine RR.AF (A:=λx x'=>x=x') ?_ ?_
  .rw[<-Array.forIn_toList,<-Array.forIn_toList,Array.toList_map]
   refine aI6 _ _ _ _ λx _ s=>?_
   cases x<;>simp only[rV]<;>try exact RR.nG _ _
   case int k n _=>cases k<;>first|exact RR.nG _ _|exact RR.AG rfl
  .rintro s _ rfl
   exact RR.AG VR.str
theorem aI9(h:AR Y a a'):RR Y (AR Y) (Conv.seenAt a) (Conv.seenAt a'):=by
 unfold Conv.seenAt;refine RR.AF (A3 h) ?_;rintro _ _ (⟨rfl,rfl⟩|⟨s,s',u,rfl,rfl,hs⟩)
 .exact RR.AG h
 .have e1:a.off=a'.off:=by rw[h.1];rfl
  have e2:a.spot=a'.spot:=Ou;have e3:s.spot=s'.spot:=by rw[hs.1];rfl
  have e4:s.off=s'.off:=by rw[hs.1];rfl
  dsimp only;rw[e1,e2,e3,e4];split
  .exact RR.AG hs
  .split
   .exact zDn
   .refine RR.AF RR.program ?_;rintro p _ ⟨rfl,rfl⟩;split
    .refine RR.AF (RR.wB hs) ?_;rintro q _ (⟨rfl,_⟩|⟨rfl,_⟩);rotate_left
     .exact zDt
     split
     .split
      .exact zDn
      .split
       .exact RR.AG ⟨by rw[hs.1];rfl,hs.2⟩
       .exact zDt
     .exact zDt
    .exact zDt
theorem aIc(h:AR Y a a')(u:WI)(n:Nat):RR Y (λx x'=>x=x'\/(x'=false/\Y.Q.o a'.block)) (variablesAt a u n) (variablesAt a' u n):=by
 unfold variablesAt;refine RR.AF RR.program ?_;rintro p _ ⟨rfl,rfl⟩;refine RR.AF (RR.wB h) ?_;rintro q _ (⟨rfl,_⟩|⟨rfl,ho,e,n,rfl,_⟩);rotate_left
 .exact RR.AG (.inr ⟨rfl,ho⟩)
 have e1:a.off=a'.off:=Ou;rw[e1];split<;>exact RR.AG (.inl rfl)
theorem I5(h:AR Y a a')(t:WI):RR Y (VR Y) (do Pure.pure (Value.pointer (some ⟨<-Go.newObj (.view a t),0,none⟩))) (do Pure.pure (Value.pointer (some ⟨<-Go.newObj (.view a' t),0,none⟩))):=by refine RR.AF (RR.newObj (o':=.view a' t) Ou h.2) ?_;exact zC9
theorem aQw(h:AR Y a a'):RR Y (λx x'=>x=x') (cellsIn a.block) (cellsIn a'.block):=by
 unfold cellsIn;refine RR.blind2 h (λhS s=>?_) rfl λc c0 e e0 hc=>?_
 .split
  .exact zC0
  .refine RR.AF (RR.getObj ⟨Ou,hS⟩) ?_;rintro o o' ⟨rfl,ho,_⟩;cases o'<;>first|exact RR.AG rfl|exact ho.elim
 .subst hc;exact zC0
theorem aIb(src dst:WI)(h:VR Y v v')(hd:(∃t,Y.P.underlying src=some (.pointer t))/\Y.P.underlying dst=some .unsafePointer\/Y.P.underlying src=some .unsafePointer/\∃t,Y.P.underlying dst=some (.pointer t)):RR Y (VR Y) (Conv.unsafePointer src dst v) (Conv.unsafePointer src dst v'):=by obtain⟨rfl,hs⟩:=h;unfold Conv.unsafePointer;exact zJj
def aXl(P:WJ)(e:WI):Bool:=match P.underlying e with|some (.int .u8)=>true|_=>false
def aDv(P:WJ)(src dst:WI):Bool:=
 match P.underlying src,P.underlying dst with
 |some (.int _),some (.int _)=>true
 |some (.slice e),some .string=>aXl P e
 |some .string,some (.slice e)=>aXl P e
 |some (.pointer _),some .unsafePointer=>true
 |some .unsafePointer,some (.pointer _)=>true
 |_,_=>false
theorem aMw{P:WJ}{e:WI}(h:aXl P e=true):P.underlying e=some (.int .u8):=by
 unfold aXl at h;split at h
 .assumption
 .cases h
theorem aF7(k:FloatKind)(b:Nat)(d:IntKind):RR Y (VR Y) (Conv.floatToInt k b d) (Conv.floatToInt k b d):=by
 unfold Conv.floatToInt;have any:RR Y (VR Y) (do Pure.pure (Value.int d (d.wrap (<-Go.choose (.floatToInt k b d))))) (do Pure.pure (Value.int d (d.wrap (<-Go.choose (.floatToInt k b d))))):=by refine RR.AF (RR.choose _) ?_;rintro n _ rfl;exact RR.AG VR.int
 dsimp only;split
 .split
  .exact RR.AG VR.int
  .exact any
 .exact any
theorem aQx(src dst:WI)(ok:aDv Y.P src dst=true)(h:VR Y v v'):RR Y (VR Y) (convert src dst v) (convert src dst v'):=by have hup:=aIb src dst h;unfold aDv at ok;unfold Go.convert;have bKa:=0;exact zJj
theorem aYv(op:UnOp)(h:VR Y v v'):RR Y (VR Y) (Op.unary op v) (Op.unary op v'):=by
 obtain⟨rfl,hs⟩:=h;unfold Op.unary;cases v'<;>simp only[rV];case int k n=>cases op<;>first|exact dB.intArith _ _ _ _|exact dB.intBits _ _ _ _|exact RR.stuck _
 case float k n=>cases op<;>first|exact RR.AG VR.lit|exact RR.stuck _
 case complex k n m=>cases op<;>first|exact RR.AG VR.lit|exact RR.stuck _
 case bool b=>cases op<;>first|exact RR.AG VR.bool|exact RR.stuck _
 case pointer p=>cases p<;>cases op<;>first|exact RR.stuck _|exact RR.dE _
 all_goals cases op<;>exact RR.stuck _
end
end
section
section
variable{Y:Sy}{α:Type}{A:α->α->Prop}
theorem aNj{v v':WB}(h:VR Y v v'):RR Y (λx x'=>x=x') (Builtin.lenOf v) (Builtin.lenOf v'):=by obtain⟨rfl,hs⟩:=h;cases v'<;>simp only[rV,Builtin.lenOf]<;>first|exact RR.stuck _|exact RR.AG rfl
theorem pM(size n:Nat){v v':WB}(h:VR Y v v'):RR Y (dF Y) (Builtin.firstCells size n v) (Builtin.firstCells size n v'):=by
 obtain⟨rfl,hs⟩:=h;cases v'<;>simp only[rV,Builtin.firstCells]<;>try exact RR.stuck _
 case slice a l c=>
  cases a with
  |none=>exact RR.AG dF.nil
  |some a=>
   simp only[Sc]at hs
   exact RR.loadCells ⟨rfl,hs a rfl⟩ _
 case string s=>refine RR.AG (VR.lits λv hv=>?_);obtain⟨b,_,rfl⟩:=Array.mem_map.1 hv;exact VR.int
theorem dF.zeros{z:Array WB}(h:∀v∈z,Sc Z0 Q0 v)(n:Nat):dF Y (Builtin.zeroCells z n) (Builtin.zeroCells z n):=dF.fill h _
theorem yZ{a a':WT}(h:AR Y a a'){c c':Array WB}(hc:dF Y c c'):RR Y (λ_ _=>True) (storeCells a c.toList) (storeCells a' c'.toList):=by have:=RR.storeCells h c'.toList 0 (by simpa using hc.2);rw[hc.1];exact zCk
def zN{α:Type}:Sem α->Prop
 |.shape _ k=>∀s,zN (k s)
 |.frozen _ k=>∀s,zN (k s)
 |.mark _ k=>zN k
 |.halt h=>Bad h
 |_=>False
theorem zN.can(P:WJ){Q:Except WB α->WA->Prop}{m:Sem α}:zN m->∀w,Can P m w Q:=by
 induction m with
 |shape r k ih=>exact λh w=>ih _ (h _) w
 |frozen r k ih=>exact λh w=>ih _ (h _) w
 |mark m k ih=>exact λh w=>ih h w
 |halt x=>intro h w;cases x<;>first|exact h|exact h.elim
 |_=>exact λh=>h.elim
theorem zN.rr{m m':Sem α}(h:zN m'):RR Y A m m':=λ_ _ _ _=>h.can _ _
theorem aJp(size I7 n:Nat)(base:Option WT)(x:WB){f:Bool->Sem α}(hf:∀b,zN (f b)):zN (Builtin.mayShare size I7 n base x>>=f):=by
 unfold Builtin.mayShare Builtin.holdsCells
 cases base with
 |none=>
  cases x<;>first|exact hf _|skip
  rename_i a _ _
  cases a with
  |none=>exact hf _
  |some a=>
   intro s
   cases s<;>exact hf _
 |some b=>
  intro s
  cases s with
  |none=>exact λz=>hf true
  |some q=>
   intro z
   dsimp only[Bind.bind,Sem.bind,Pure.pure]
   split
   .exact hf _
   .cases x<;>first|exact hf _|skip
    rename_i a _ _
    cases a with
    |none=>exact hf _
    |some a=>
     intro s
     cases s<;>exact hf _
end
end
section
variable{args dV:Array WB}
section
variable{Y:Sy}{α:Type}{A:α->α->Prop}
theorem dF.get{c c':Array WB}(h:dF Y c c')(i:Nat):(c[i]?=none/\c'[i]?=none)\/∃v v',c[i]?=some v/\c'[i]?=some v'/\VR Y v v':=by
 obtain⟨h1,h2⟩:=h.at i
 cases hc:c'[i]? with
 |none=>exact .inl ⟨by rw[h1,hc];rfl,rfl⟩
 |some v=>exact .inr ⟨_,v,by rw[h1,hc];rfl,rfl,rfl,h2 v hc⟩
theorem zN.andThen{β:Type}{m:Sem α}(h:zN m)(f:α->Sem β):zN (m>>=f):=by
 induction m with
 |shape r k ih=>exact λs=>ih _ (h s)
 |frozen r k ih=>exact λs=>ih _ (h s)
 |mark m k ih=>exact ih h
 |halt x=>exact h
 |_=>exact h.elim
theorem bAf(size I7 aF9 n:Nat){base:Option WT}{x x':WB}(hb:OR Y (base.map (rA Y.ρ)) base)(hx:VR Y x x'){m m':Sem WB}
  (hm:m=(Builtin.firstCells size n x>>=λnew=>match base.map (rA Y.ρ)with|some a=>storeCells (a.add (I7*size)) new.toList>>=λ_=>Pure.pure (sV (base.map (rA Y.ρ)) (I7+n) aF9)|_=>Pure.pure (sV (base.map (rA Y.ρ)) (I7+n) aF9)))
  (xF:m'=(Builtin.firstCells size n x'>>=λnew=>match base with|some a=>storeCells (a.add (I7*size)) new.toList>>=λ_=>Pure.pure (sV base (I7+n) aF9)|_=>Pure.pure (sV base (I7+n) aF9))):RR Y (VR Y) m m':=by
 subst hm xF;refine RR.AF (pM _ _ hx) ?_;intro c c' hc
 cases base with
 |none=>exact RR.AG (OR.row OR.none)
 |some a=>
  have ha:AR Y (rA Y.ρ a) a:=⟨rfl,hb.2 a rfl⟩
  simp only[AH]
  refine RR.AF (yZ (ha.add _) hc) ?_
  intro _ _ _
  exact RR.AG ha.row
def aRq(P:WJ)(ts:Array WI):Bool:=match ts[1]? with
 |none=>true
 |some t=>match P.underlying t with
  |some (.int _)=>false
  |_=>true
theorem dB.append(E:dB Y)(ts:Array WI)(ok:aRq Y.P ts=true)(ty:WI)(h:dF Y args dV):RR Y (VR Y) (Builtin.append_ ts ty args) (Builtin.append_ ts ty dV):=by
 unfold Builtin.append_
 cases h0:ts[0]? with
 |none=>exact RR.stuck _
 |some st=>
  rcases h.get 0 with⟨e1,e2⟩|⟨s,s',e1,e2,hs⟩
  .rw[e1,e2];exact RR.stuck _
  rcases h.get 1 with⟨f1,f2⟩|⟨x,x',f1,f2,hx⟩
  .rw[e1,e2,f1,f2];exact RR.stuck _
  rw[e1,e2,f1,f2]
  dsimp only
  refine RR.AF (RR.underlying st) ?_
  rintro d _ ⟨rfl,_⟩
  cases d<;>try exact RR.stuck _
  rename_i elem _
  obtain⟨rfl,hss⟩:=hs
  cases s'<;>simp only[rV]<;>try exact RR.stuck _
  rename_i base I7 aF9
  have hb:OR Y (base.map (rA Y.ρ)) base:=⟨rfl,by simpa only[Sc]using hss⟩
  refine RR.AF (RR.sizeOf _) ?_
  rintro size _ rfl
  have step:∀(m m':Bool->Sem WB),RR Y (VR Y) (m false) (m' false)->RR Y (VR Y)
    (match ts[1]? with|some t=>Go.underlying t>>=λd=>Pure.pure (match d with|.int _=>true|_=>false)>>=m|none=>Pure.pure false>>=m)
    (match ts[1]? with|some t=>Go.underlying t>>=λd=>Pure.pure (match d with|.int _=>true|_=>false)>>=m'|none=>Pure.pure false>>=m'):=by
   intro m m' hm
   unfold aRq at ok
   cases h1:ts[1]? with
   |none=>exact hm
   |some t=>
    rw[h1]at ok
    dsimp only at ok⊢
    refine RR.AF (RR.underlying t) ?_
    rintro d _ ⟨rfl,hd⟩
    rw[hd]at ok
    cases d<;>first|exact hm|exact absurd ok Bool.noConfusion
  refine step _ _ ?_
  simp only[Bool.false_eq_true,if_false]
  refine RR.AF (aNj hx) ?_
  rintro n _ rfl
  split
  .exact bAf size I7 aF9 n hb hx rfl rfl
  .refine RR.AF (RR.typeInfo _) ?_
   rintro i _ ⟨rfl,_⟩
   split
   .exact E.y8 _ _ _
   .refine RR.AF (RR.typeInfo _) ?_
    rintro i _ ⟨rfl,_⟩
    split
    .refine zN.rr ?_
     refine zN.andThen ?_ _
     refine aJp _ _ _ _ _ λb=>?_
     cases b<;>trivial
    .refine RR.AF (RR.choose _) ?_
     rintro nc _ rfl
     refine RR.AF (RR.typeInfo _) ?_
     rintro i _ ⟨rfl,_⟩
     refine RR.AF (I3 _) ?_
     intro _ _ _
     refine RR.AF (pM (v:=sV (base.map (rA Y.ρ)) I7 aF9) (v':=sV base I7 aF9) _ _ (OR.row hb)) ?_
     intro old bN4 hold
     refine RR.AF (pM _ _ hx) ?_
     intro new bCi aEf
     refine RR.AF (RR.zeroValue E.hz _) ?_
     rintro z _ ⟨rfl,hz⟩
     refine RR.AF (RR.newRow _ ((hold.append aEf).append (dF.zeros (tP hz) _))) ?_
     exact λa a' ha=>RR.AG ha.row
theorem bD2(ts:Array WI)(ty:WI)(h:dF Y args dV):RR Y (VR Y) (Builtin.copy_ ts ty args) (Builtin.copy_ ts ty dV):=by
 unfold Builtin.copy_
 cases h0:ts[0]? with
 |none=>exact RR.stuck _
 |some st=>
  rcases h.get 0 with⟨e1,e2⟩|⟨s,s',e1,e2,hs⟩
  .rw[e1,e2];exact RR.stuck _
  rcases h.get 1 with⟨f1,f2⟩|⟨x,x',f1,f2,hx⟩
  .rw[e1,e2,f1,f2];exact RR.stuck _
  rw[e1,e2,f1,f2]
  dsimp only
  refine RR.AF (RR.underlying st) ?_
  rintro d _ ⟨rfl,_⟩
  cases d<;>try exact RR.stuck _
  obtain⟨rfl,hss⟩:=hs
  cases s'<;>simp only[rV]<;>try exact RR.stuck _
  rename_i base I7 aF9
  refine RR.AF (aNj hx) ?_
  rintro n _ rfl
  refine RR.AF (RR.sizeOf _) ?_
  rintro size _ rfl
  refine RR.AF (pM _ _ hx) ?_
  intro c c' hc
  cases base with
  |none=>exact RR.AG VR.int
  |some a=>
   simp only[Sc]at hss
   simp only[AH]
   refine RR.AF (yZ ⟨rfl,hss a rfl⟩ hc) ?_
   intro _ _ _
   exact RR.AG VR.int
theorem bI7(ts:Array WI)(ty:WI)(h:dF Y args dV):RR Y (VR Y) (Builtin.len_ ts ty args) (Builtin.len_ ts ty dV):=by
 unfold Builtin.len_
 cases h0:ts[0]? with
 |none=>exact RR.stuck _
 |some t=>
  rcases h.get 0 with⟨e1,e2⟩|⟨x,x',e1,e2,hx⟩
  .rw[e1,e2];exact RR.stuck _
  rw[e1,e2]
  dsimp only
  refine RR.AF (RR.underlying t) ?_
  rintro d _ ⟨rfl,_⟩
  obtain⟨rfl,hs⟩:=hx
  cases d<;>try exact RR.stuck _
  case string=>cases x'<;>simp only[rV]<;>first|exact RR.stuck _|exact RR.AG VR.int
  case array=>exact RR.AG VR.int
  case pointer a _=>
   refine RR.AF (RR.underlying a) ?_
   rintro d _ ⟨rfl,_⟩
   cases d<;>first|exact RR.stuck _|exact RR.AG VR.int
  case slice=>cases x'<;>simp only[rV]<;>first|exact RR.stuck _|exact RR.AG VR.int
  case map=>
   cases x'<;>simp only[rV]<;>try exact RR.stuck _
   rename_i r
   cases r with
   |none=>exact RR.AG VR.int
   |some r=>
    simp only[Sc]at hs
    simp only[AH]
    refine RR.AF (RR.getObj ⟨rfl,hs r rfl⟩) ?_
    rintro o o' ⟨rfl,ho,_⟩
    cases o'<;>try exact RR.stuck _
    simp only[rO,Array.size_map]
    exact RR.AG VR.int
  case chan=>
   cases x'<;>simp only[rV]<;>try exact RR.stuck _
   rename_i r
   cases r with
   |none=>exact RR.AG VR.int
   |some r=>
    simp only[Sc]at hs
    simp only[AH]
    refine RR.AF (RR.getObj ⟨rfl,hs r rfl⟩) ?_
    rintro o o' ⟨rfl,ho,_⟩
    cases o'<;>first|exact RR.stuck _|exact ho.elim
theorem bI6(ts:Array WI)(ty:WI)(h:dF Y args dV):RR Y (VR Y) (Builtin.cap_ ts ty args) (Builtin.cap_ ts ty dV):=by
 unfold Builtin.cap_
 cases h0:ts[0]? with
 |none=>exact RR.stuck _
 |some t=>
  rcases h.get 0 with⟨e1,e2⟩|⟨x,x',e1,e2,hx⟩
  .rw[e1,e2];exact RR.stuck _
  rw[e1,e2]
  dsimp only
  refine RR.AF (RR.underlying t) ?_
  rintro d _ ⟨rfl,_⟩
  obtain⟨rfl,hs⟩:=hx
  cases d<;>try exact RR.stuck _
  case array=>exact RR.AG VR.int
  case pointer a _=>
   refine RR.AF (RR.underlying a) ?_
   rintro d _ ⟨rfl,_⟩
   cases d<;>first|exact RR.stuck _|exact RR.AG VR.int
  case slice=>cases x'<;>simp only[rV]<;>first|exact RR.stuck _|exact RR.AG VR.int
  case chan=>
   cases x'<;>simp only[rV]<;>try exact RR.stuck _
   rename_i r
   cases r with
   |none=>exact RR.AG VR.int
   |some r=>
    simp only[Sc]at hs
    simp only[AH]
    refine RR.AF (RR.getObj ⟨rfl,hs r rfl⟩) ?_
    rintro o o' ⟨rfl,ho,_⟩
    cases o'<;>first|exact RR.stuck _|exact ho.elim
end
end
section
variable{a v v' x x' y y':WB}{args c dV l:Array WB}
section
variable{Y:Sy}{α:Type}{A:α->α->Prop}
theorem aVv(h:l.size=2):∃a b,l=#[a,b]:=by obtain⟨l⟩:=l;rcases l with _|⟨a,_|⟨b,_|⟨c,l⟩⟩⟩<;>simp at h;exact⟨a,b,rfl⟩
theorem aEr(h:l.size=1):∃a,l=#[a]:=by obtain⟨l⟩:=l;rcases l with _|⟨a,_|⟨b,l⟩⟩<;>simp at h;exact⟨a,rfl⟩
theorem dF.two{b:WB}(h:dF Y c #[a,b]):c=#[rV Y.ρ a,rV Y.ρ b]/\Sc Y.S Y.Q a/\Sc Y.S Y.Q b:=⟨jh,h.2 a oe,h.2 b oe⟩
theorem dF.single(h:dF Y c #[a]):c=#[rV Y.ρ a]/\Sc Y.S Y.Q a:=⟨jh,h.2 a oe⟩
theorem dB.clear(E:dB Y)(ts:Array WI)(ty:WI)(h:dF Y args dV):RR Y (VR Y) (Builtin.clear_ ts ty args) (Builtin.clear_ ts ty dV):=by
 unfold Builtin.clear_;have fin:RR Y (VR Y) (Pure.pure (Value.tuple #[])) (Pure.pure (Value.tuple #[])):=RR.AG (dF.tuple dF.nil)
 cases h0:ts[0]? with
 |none=>exact RR.stuck _
 |some t=>
  rcases h.get 0 with⟨e1,e2⟩|⟨x,x',e1,e2,hx⟩
  .rw[e1,e2];exact RR.stuck _
  rw[e1,e2]
  dsimp only
  refine RR.AF (RR.underlying t) ?_
  rintro d _ ⟨rfl,_⟩
  obtain⟨rfl,hs⟩:=hx
  cases x'<;>simp only[rV]
  case map r=>
   cases r with
   |none=>exact fin
   |some r=>
    simp only[Sc]at hs
    simp only[AH]
    refine RR.AF (RR.getObj ⟨rfl,hs r rfl⟩) ?_
    rintro o o' ⟨rfl,ho,_⟩
    cases o'<;>try exact RR.nG _ _
    simp only[rO]
    exact RR.AF (RR.setObj (o':=.map #[] _) ⟨rfl,hs r rfl⟩ (by simp[rO]) (by simp[ScO])) λ_ _ _=>fin
  case slice a n c=>
   cases a with
   |none=>exact fin
   |some a=>
    simp only[Sc]at hs
    simp only[AH]
    cases n with
    |zero=>exact fin
    |succ n=>
     cases d<;>try exact RR.nG _ _
     refine RR.AF (RR.zeroValue E.hz _) ?_
     rintro z _ ⟨rfl,hz⟩
     exact RR.AF (yZ ⟨rfl,hs a rfl⟩ (dF.zeros (tP hz) _)) λ_ _ _=>fin
  all_goals cases d<;>exact RR.nG _ _
theorem bD3(hx:VR Y x x')(hy:VR Y y y'):RR Y (VR Y) (Builtin.max2 x y) (Builtin.max2 x' y'):=by
 obtain⟨rfl,hs⟩:=hx;obtain⟨rfl,hu⟩:=hy;cases x';case int=>cases y'<;>simp only[rV,Builtin.max2]<;>first|exact RR.AG VR.int|exact RR.stuck _|(rename_i p;cases p<;>first|exact RR.dE _|exact RR.stuck _)
 case float k a=>exact zIt
 case string a=>have m98:=0;exact zIt
 case pointer p=>
  cases p
  .cases y'<;>simp only[rV,Option.map_none,Builtin.max2]<;>first|exact RR.stuck _|(rename_i p;cases p<;>first|exact RR.dE _|exact RR.stuck _)
  .cases y'<;>simp only[rV,AH,Builtin.max2]<;>exact RR.dE _
 all_goals cases y'<;>simp only[rV,Builtin.max2]<;>first|exact RR.stuck _|(rename_i p;cases p<;>first|exact RR.dE _|exact RR.stuck _)
theorem bD4(hx:VR Y x x')(hy:VR Y y y'):RR Y (VR Y) (Builtin.min2 x y) (Builtin.min2 x' y'):=by
 obtain⟨rfl,hs⟩:=hx;obtain⟨rfl,hu⟩:=hy;cases x';case int=>cases y'<;>simp only[rV,Builtin.min2]<;>first|exact RR.AG VR.int|exact RR.stuck _|(rename_i p;cases p<;>first|exact RR.dE _|exact RR.stuck _)
 case float k a=>exact zIs
 case string a=>have m97:=0;exact zIs
 case pointer p=>
  cases p
  .cases y'<;>simp only[rV,Option.map_none,Builtin.min2]<;>first|exact RR.stuck _|(rename_i p;cases p<;>first|exact RR.dE _|exact RR.stuck _)
  .cases y'<;>simp only[rV,AH,Builtin.min2]<;>exact RR.dE _
 all_goals cases y'<;>simp only[rV,Builtin.min2]<;>first|exact RR.stuck _|(rename_i p;cases p<;>first|exact RR.dE _|exact RR.stuck _)
theorem aLg{f:WB->WB->Sem WB}(hf:∀x x' y y',VR Y x x'->VR Y y y'->RR Y (VR Y) (f x y) (f x' y')):∀(l:List WB){x x':WB},VR Y x x'->(∀v∈l,Sc Y.S Y.Q v)->RR Y (VR Y) ((l.map (rV Y.ρ)).foldlM f x) (l.foldlM f x')
 |[],_,_,h,_=>RR.AG h
 |y::l,x,x',h,hl=>by rw[List.map_cons,List.foldlM_cons,List.foldlM_cons];exact RR.AF (hf _ _ _ _ h ⟨rfl,hl y oe⟩) λ_ _ hz=>aLg hf l hz λv hv=>hl v (by simp[hv])
theorem aI8(h:dF Y args dV)(ts:Array WI)(ty:WI):RR Y (VR Y) (Builtin.max_ ts ty args) (Builtin.max_ ts ty dV)/\RR Y (VR Y) (Builtin.min_ ts ty args) (Builtin.min_ ts ty dV):=by
 obtain⟨rfl,hs⟩:=h;obtain⟨l⟩:=dV;unfold Builtin.max_ Builtin.min_;have e:((⟨l⟩:Array WB).map (rV Y.ρ)).toList=l.map (rV Y.ρ):=oe;rw[e]
 cases l with
 |nil=>exact⟨RR.stuck _,RR.stuck _⟩
 |cons x l=>
  have hl:∀v∈l,Sc Y.S Y.Q v:=λv hv=>hs v (by simp[hv])
  exact⟨aLg (λ_ _ _ _=>bD3) l ⟨rfl,hs x oe⟩ hl,aLg (λ_ _ _ _=>bD4) l ⟨rfl,hs x oe⟩ hl⟩
theorem M9:∀(n:Nat){a a':WT}(acc:WG),AR Y a a'->RR Y (λx x'=>x=x'/\(n≠0->Y.G<=a'.block)) (loadBytes a acc n) (loadBytes a' acc n)
 |0,a,a',acc,_=>RR.AG ⟨rfl,λh=>absurd rfl h⟩
 |n+1,a,a',acc,h=>by
  unfold loadBytes;refine RR.AF (RR.load h) ?_;rintro v v' ⟨⟨rfl,hv⟩,hr⟩;cases v'<;>simp only[rV]<;>try exact RR.stuck _
  case int k b=>
   cases k<;>try exact RR.stuck _
   refine(M9 n _ (h.add 1)).mono ?_;rintro x x' ⟨rfl,hx⟩;exact⟨rfl,λ_=>Nat.le_of_not_lt λhb=>hr hb _ rfl⟩
theorem dB.unsafeString(E:dB Y)(ts:Array WI)(ty:WI)(h:dF Y args dV)(hz:dV.size=2):RR Y (VR Y) (Builtin.unsafeString_ ts ty args) (Builtin.unsafeString_ ts ty dV):=by
 obtain⟨p,l,rfl⟩:=aVv hz;obtain⟨rfl,hp,hl⟩:=h.two;cases p<;>try exact RR.stuck _
 rename_i p;have e:rV Y.ρ (.pointer p)=.pointer (p.map (rA Y.ρ)):=Oy;rw[e];refine RR.AF (RR.asInt ⟨rfl,hl⟩) ?_;rintro n _ rfl
 cases h0:ts[0]? with
 |none=>exact RR.stuck _
 |some pt=>
  dsimp only
  split
  .exact E.y8 _ _ _
  .split
   .exact RR.oC _ _
   .cases p with
    |none=>
     simp only[Option.map_none]
     split
     .exact RR.AG VR.str
     .exact E.panics _
    |some a=>
     simp only[Sc]at hp
     have ha:AR Y (rA Y.ρ a) a:=⟨rfl,hp a rfl⟩
     simp only[AH]
     split
     .exact RR.AG VR.str
     .rename_i hn0 _ hn
      refine RR.AF (RR.elemOf _) ?_
      rintro e _ rfl
      refine RR.AF (aIc ha _ _) ?_
      rintro b _ (rfl|⟨rfl,_⟩)
      rotate_left
      .exact RR.dE _
      split
      .refine RR.AF (M9 _ _ ha) ?_
       rintro s _ ⟨rfl,hr⟩
       refine RR.AF (RR.freeze ha _ (hr od)) ?_
       intro _ _ _
       exact RR.AG VR.str
      .exact RR.dE _
theorem aIa(ts:Array WI)(ty:WI)(h:dF Y args dV)(hz:dV.size=1):RR Y (VR Y) (Builtin.unsafeSliceData_ ts ty args) (Builtin.unsafeSliceData_ ts ty dV):=by
 obtain⟨p,rfl⟩:=aEr hz;obtain⟨rfl,hp⟩:=h.single;cases p<;>try exact RR.stuck _
 rename_i a l c;have e:rV Y.ρ (sV a l c)=sV (a.map (rA Y.ρ)) l c:=Oy;rw[e];simp only[Sc]at hp
 cases a with
 |none=>exact RR.AG VR.lit
 |some a=>
  have ha:AR Y (rA Y.ρ a) a:=⟨rfl,hp a rfl⟩
  show RR Y (VR Y) (ite _ _ _) (ite _ _ _)
  split
  .exact RR.AG ha.ptr
  .refine RR.AF (A3 ha) ?_
   rintro _ _ (⟨rfl,rfl⟩|⟨_,_,_,rfl,rfl,_⟩)
   .refine RR.AF (RR.elemOf _) ?_
    rintro e _ rfl
    exact I5 ha e
   .exact RR.AG ha.ptr
theorem aYu(t:WI)(ht:Y.P.underlying t=some .string)(h:VR Y v v'):RR Y (VR Y) (Instr.range t v) (Instr.range t v'):=by
 unfold Instr.range;refine RR.AF (RR.underlying t) ?_;rintro d _ ⟨rfl,hd⟩;rw[ht]at hd;cases hd;obtain⟨rfl,hs⟩:=h;cases v'<;>simp only[rV]<;>try exact RR.nG _ _
 rename_i s;show RR Y (VR Y) (Go.newObj (.stringIter s 0)>>=_) (Go.newObj (.stringIter s 0)>>=_);refine RR.AF (RR.newObj (o:=.stringIter s 0) (o':=.stringIter s 0) (by simp only[rO]) trivial) ?_;exact zC9
theorem bD5(t:WI)(h:VR Y v v'):RR Y (VR Y) (Instr.next v true t) (Instr.next v' true t):=by
 obtain⟨rfl,hs⟩:=h;unfold Instr.next;cases v'<;>simp only[rV]<;>try exact RR.stuck _
 rename_i p
 cases p with
 |none=>exact RR.stuck _
 |some a=>
  obtain⟨r,off,sp⟩:=a
  simp only[Sc]at hs
  simp only[AH,rA]
  cases off with
  |succ n=>exact RR.stuck _
  |zero=>
   rcases hs _ rfl with hr|ho
   rotate_left
   .exact RR.aRv ho λ_ _=>RR.stuck _
   refine RR.AF (RR.getObj (r':=r) ⟨rfl,hr⟩) ?_
   rintro o o' ⟨rfl,ho,_⟩
   cases o'<;>first|exact RR.stuck _|exact ho.elim|skip
   simp only[rO]
   split
   .refine RR.AF (RR.setObj ⟨rfl,hr⟩ (show Obj.stringIter _ _=rO Y.ρ (Obj.stringIter _ _)from by simp only[rO]) trivial) ?_
    intro _ _ _
    exact RR.AG (dF.tuple (((dF.one VR.bool).push VR.int).push VR.int))
   .exact RR.AG (dF.tuple (dF.one VR.bool))
theorem aLh:RR Y (λx x'=>x=x') Instr.panicnil Instr.panicnil:=by
 unfold Instr.panicnil;refine RR.AF RR.env ?_;rintro r _ rfl;split
 .refine RR.AF RR.program ?_;rintro p _ ⟨rfl,rfl⟩;exact zC0
 .exact J7
theorem dB.aYh(E:dB Y)(h:VR Y v v'):RR Y (VR Y) (Instr.panic v) (Instr.panic v'):=by
 have h0:=h;obtain⟨rfl,hs⟩:=h;unfold Instr.panic;cases v'<;>simp only[rV]at h0⊢<;>try exact RR.stuck _
 .exact RR.goPanic h0
 .refine RR.AF aLh ?_;rintro n _ rfl;split
  .exact RR.goPanic VR.lit
  .exact E.panics _
end
end
section
section
variable{Y:Sy}{α:Type}{A:α->α->Prop}
def PlR(Y:Sy):Place->Place->Prop
 |.val v,.val v'=>VR Y v v'
 |.var a,.var a'=>AR Y a a'
 |_,_=>False
theorem aI7(t:WI){x x':Place}(h:PlR Y x x'):RR Y (VR Y) (x.get t) (x'.get t):=by
 cases x<;>cases x'<;>first|exact h.elim|skip
 .exact RR.AG h
 .exact RR.loadVar t h
theorem dB.follow(E:dB Y):∀(l:List FieldStep)(t:WI){x x':Place},PlR Y x x'->RR Y (λr r'=>r.1=r'.1/\PlR Y r.2 r'.2) (follow l t x) (follow l t x')
 |[],t,x,x',h=>RR.AG ⟨rfl,h⟩
 |s::l,t,x,x',h=>by
  unfold Go.follow;refine RR.AF (RR.underlying _) ?_;rintro d _ ⟨rfl,_⟩;cases d<;>try exact RR.stuck _
  dsimp only;split
  .split
   .refine RR.AF (aI7 t h) ?_;intro v v' hv;refine RR.AF (E.asAddr hv) ?_;intro a a' ha;refine RR.AF (RR.fieldPlace ha _) ?_;intro b b' hb;exact E.follow l _ hb
   .cases x<;>cases x'<;>first|exact h.elim|skip
    .obtain⟨rfl,hs⟩:=h;rename_i v;cases v<;>simp only[rV]<;>try exact RR.stuck _
     simp only[Sc]at hs;refine RR.AF (RR.part _ ⟨rfl,hs⟩ _) ?_;intro u u' hu;exact E.follow l _ (x:=.val u) (x':=.val u') hu
    .refine RR.AF (RR.fieldPlace h _) ?_;intro b b' hb;exact E.follow l _ (x:=.var b) (x':=.var b') hb
  .exact J7
theorem dB.bCj(E:dB Y)(ts:Array WI)(ty:WI){v v':WB}(h:VR Y v v')(s:WG)(m:WG):RR Y (VR Y) (Builtin.ssaWrapNilChk_ ts ty #[v,sT s,sT m]) (Builtin.ssaWrapNilChk_ ts ty #[v',sT s,sT m]):=by
 have h0:=h;obtain⟨rfl,hs⟩:=h;cases v'<;>try exact RR.stuck _
 rename_i p;have e:rV Y.ρ (.pointer p)=.pointer (p.map (rA Y.ρ)):=Oy;rw[e]at h0⊢
 cases p with
 |some a=>exact RR.AG h0
 |none=>
  refine RR.AF (RR.choose _) ?_
  rintro n _ rfl
  dsimp only
  split
  .exact E.y8 _ _ _
  .split
   .refine RR.AF (RR.underlying _) ?_
    rintro d _ ⟨rfl,_⟩
    split
    .refine RR.AF (RR.typeInfo _) ?_
     rintro i _ ⟨rfl,_⟩
     split
     .split
      .split
       .exact E.panics _
       .exact RR.dE _
      .exact RR.stuck _
     .exact RR.stuck _
    .exact RR.stuck _
   .exact RR.stuck _
theorem dB.aYc(E:dB Y)(ts:Array WI)(ty:WI){v v':WB}(h:VR Y v v')(s m:String):RR Y (VR Y) (Builtin.ssaWrapNilChk_ ts ty #[v,strVal s,strVal m]) (Builtin.ssaWrapNilChk_ ts ty #[v',strVal s,strVal m]):=by unfold strVal;generalize s.toUTF8=a;generalize m.toUTF8=b;exact E.bCj ts ty h a b
theorem dB.receiverAt(E:dB Y)(t:WI){x x':Place}(h:PlR Y x x')(b:Bool)(w:Option String):RR Y (VR Y) (receiverAt t x b w) (receiverAt t x' b w):=by
 unfold Go.receiverAt;refine RR.AF (RR.underlying t) ?_;rintro d _ ⟨rfl,_⟩;cases d;case pointer el _=>
  cases b
  .dsimp only;refine RR.AF (aI7 t h) ?_;intro v v' hv
   cases w with
   |none=>
    dsimp only
    refine RR.AF (A:=VR Y) (RR.AG hv) ?_
    intro u u' hu
    refine RR.AF (E.asAddr hu) ?_
    exact λa a' ha=>RR.loadVar _ ha
   |some n=>
    dsimp only
    refine RR.AF (E.aYc _ _ hv _ _) ?_
    intro u u' hu
    refine RR.AF (E.asAddr hu) ?_
    exact λa a' ha=>RR.loadVar _ ha
  .exact aI7 t h
 all_goals
  cases b
  .exact aI7 t h
  .cases x<;>cases x'<;>first|exact h.elim|exact RR.stuck _|exact RR.AG (AR.ptr h)
def X2(P:WJ)(F:FuncId->Prop)(name:String):Prop:=∀t i m f b,P.info? t=some i->m∈i.methods->m.name=name->m.func=some (f,b)->F f
theorem dB.method(E:dB Y){F:FuncId->Prop}(name:String)(hF:X2 Y.P F name):∀(n:Nat)(t:WI){v v':WB},VR Y v v'->RR Y (λr r'=>r.1=r'.1/\F r'.1/\VR Y r.2 r'.2) (method n t v name) (method n t v' name)
 |0,_,_,_,_=>RR.dE _
 |n+1,t,v,v',h=>by
  unfold Go.method;refine RR.AF (RR.typeInfo t) ?_;rintro i _ ⟨rfl,hi⟩;split
  .rename_i m hm;have uQ:m∈i.methods:=Array.mem_of_find?_eq_some hm;have bFe:m.name=name:=by simpa using Array.find?_some hm
   refine RR.AF (E.follow _ _ (x:=.val v) (x':=.val v') h) ?_;rintro⟨xt,x⟩ ⟨_,x'⟩ ⟨rfl,hx⟩;dsimp only;split
   .refine RR.AF (aI7 _ hx) ?_;rintro u u' ⟨rfl,hu⟩;cases u'<;>simp only[rV]<;>try exact RR.stuck _
    .simp only[Sc]at hu;exact E.method name hF n _ ⟨rfl,hu⟩
    .exact E.panics _
   .rename_i f b hf;refine RR.AF (E.receiverAt _ hx _ _) ?_;intro u u' hu;exact RR.AG ⟨rfl,hF t i m f b hi uQ bFe hf,hu⟩
  .exact J7
end
end
section
section
variable{Y:Sy}{α:Type}{A:α->α->Prop}
def ExR(Y:Sy)(e:Array WB->Sem WB):Prop:=∀args dV,dF Y args dV->RR Y (VR Y) (e args) (e dV)
theorem aNk:∀(n:Nat){a a':WT}(acc:WG),AR Y a a'->RR Y (λx x'=>x=x') (Extern.Bytes.loadBytes a n acc) (Extern.Bytes.loadBytes a' n acc)
 |0,_,_,_,_=>RR.AG rfl
 |n+1,a,a',acc,h=>by
  unfold Extern.Bytes.loadBytes;refine RR.AF (RR.aN0 h) ?_;rintro v v' ⟨rfl,hv⟩;cases v'<;>simp only[rV]<;>try exact RR.stuck _
  case int k b=>cases k<;>first|exact RR.stuck _|exact aNk n _ (h.add 1)
theorem aCy{v v':WB}(h:VR Y v v'):RR Y (λx x'=>x=x') (Extern.Bytes.bytesOf v) (Extern.Bytes.bytesOf v'):=by
 obtain⟨rfl,hs⟩:=h;cases v'<;>simp only[rV,Extern.Bytes.bytesOf]<;>try exact RR.stuck _
 case string=>exact RR.AG rfl
 case slice a l c=>
  cases a with
  |none=>exact RR.AG rfl
  |some a=>simp only[Sc]at hs;exact aNk l _ ⟨rfl,hs a rfl⟩
theorem bB6:ExR Y Extern.AbiNoEscape.same:=zL9
theorem aVf(n:String)(hn:∀g,Y.P.globals.findIdx? (·.name==n)=some g->Y.SO g/\Y.ρ g=g):RR Y (AR Y) (globalAddr n) (globalAddr n):=by
 unfold globalAddr;refine RR.AF RR.program ?_;rintro p _ ⟨rfl,rfl⟩;split
 .rename_i g hg;obtain⟨h1,h2⟩:=hn g hg;exact RR.AG ⟨by simp[rA,h2],h1⟩
 .exact J7
theorem aX4(hn:∀g,Y.P.globals.findIdx? (·.name== "internal/bytealg.MaxLen")=some g->Y.SO g/\Y.ρ g=g):ExR Y Extern.BytealgIndex.index:=zK9
theorem aGj:ExR Y Extern.BytealgIndexByte.indexByte:=have jA2:=0;zK9
theorem Y9:∀(n t:Nat)(acc:Array WB),(∀v∈acc,Sc Z0 Q0 v)->∀v∈Extern.BytealgMakeNoZero.digits n t acc,Sc Z0 Q0 v
 |0,_,_,h=>h
 |n+1,t,acc,h=>Y9 n _ _ λv hv=>by
  rcases Array.mem_push.1 hv with hv|rfl
  .exact h v hv
  .simp[Sc]
theorem dB.makeNoZero(E:dB Y)(ps rs:Array WI):ExR Y (Extern.BytealgMakeNoZero.makeNoZero ps rs):=zLe
end
end
