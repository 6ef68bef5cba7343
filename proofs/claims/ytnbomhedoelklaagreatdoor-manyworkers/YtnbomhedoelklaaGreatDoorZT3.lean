import Derived.Test.YtnbomhedoelklaaGreatDoorChecked
import Derived.Test.YtnbomhedoelklaaGreatDoorZT1
import Derived.Test.YtnbomhedoelklaaGreatDoorZT2
import Derived.Test.YtnbomhedoelklaaGreatDoorZW6
import Derived.Conc.WgGenN3
import Derived.Conc.WgWords
import Derived.Deep.LoopGhost
namespace Go.Proofs.YtnbomhedoelklaaGreatDoor
open Go.RowKit Go.Proofs.Tryz
set_option maxRecDepth 99999
set_option maxHeartbeats 0
abbrev lk:Go.Conc.Lib.WgLink:={ add:=7,done:=9,wait:=10,relMerge:=18,disable:=19,enable:=20,inBubble:=21,associate:=22,fatal:=23,uOr:=24,uAdd:=25,raceRead:=26,uLoad:=27,uStore:=28,disassociate:=29,semrelease:=30,acquire:=31,isAssociated:=32,uCas:=33,raceWrite:=34,semacquire:=35,orU64:=67,addU64:=68,loadU64:=69,storeU64:=70,casU64:=71,tWgP:=62,tUP:=64,tAssoc:=66,tWg:=41,tAU:=38,tU64:=36,tUint:=45,tU32:=39,tPU32:=70,tPAU:=109,tPU64:=111,tNoCopy:=33,tANoCopy:=34,tAlign64:=35 }
theorem Q6:Go.Conc.Lib.WgLib prog lk:=zzM
def qH(a b c d e f:Int)(vS vL:WB)(g:Int)(cp:Option WT)(vO vR vD vM:WB):Array WB:=#[iI a,iI b,iI c,iI d,iI e,iI f,vS,vL,iI g,sV none 0 0,.pointer cp,vO,vR,vD,vM]
theorem vV(w:WA):Calls prog 12 #[] w λe w'=>e=rT (pP w.1.size)/\w'=w.alloc (.cells (qH 0 0 0 0 0 0 (sV none 0 0) (sV none 0 0) 1 none (sV none 0 0) (sV none 0 0) (sV none 0 0) (sV none 0 0)) 91):=by go_enter func12,ntmps12;go_wp2;go_ret;trace_state;exact⟨rfl,rfl⟩
theorem Tryz.mf(fn:Fn)(first cap:Array WB)(w:WA):(Instr.makeFunc fn first cap).run prog w=.ok (.func fn first cap) w:=rfl
theorem aQm(f s n d:Int)(w:WA)(k1:f<0):
  Calls prog 125 #[.agg #[iI f,iI s,iI n,iI d]] w λe w'=>e=rT (.bool false)/\bW w w':=by have L8:=Tryz.mf;have hn:decide (0<=f)=false:=kD od;exact zAn
theorem aQn(f s n d:Int)(w:WA)(h1:0<=f)(k2:1099511627776<f):
  Calls prog 125 #[.agg #[iI f,iI s,iI n,iI d]] w λe w'=>e=rT (.bool false)/\bW w w':=by have L8:=Tryz.mf;have hn:decide (f<=1099511627776)=false:=kD od;exact zAn
theorem aQo(f s n d:Int)(w:WA)(h1:0<=f)(h2:f<=1099511627776)(k3:s< -1099511627776):
  Calls prog 125 #[.agg #[iI f,iI s,iI n,iI d]] w λe w'=>e=rT (.bool false)/\bW w w':=by have L8:=Tryz.mf;have hn:decide (-1099511627776<=s)=false:=kD od;exact zAn
theorem aQp(f s n d:Int)(w:WA)(h1:0<=f)(h2:f<=1099511627776)(h3:-1099511627776<=s)(k4:1099511627776<s):
  Calls prog 125 #[.agg #[iI f,iI s,iI n,iI d]] w λe w'=>e=rT (.bool false)/\bW w w':=by have L8:=Tryz.mf;have hn:decide (s<=1099511627776)=false:=kD od;exact zAn
theorem aQq(f s n d:Int)(w:WA)(h1:0<=f)(h2:f<=1099511627776)(h3:-1099511627776<=s)(h4:s<=1099511627776)(k5:n<1):
  Calls prog 125 #[.agg #[iI f,iI s,iI n,iI d]] w λe w'=>e=rT (.bool false)/\bW w w':=by have L8:=Tryz.mf;have hn:decide (1<=n)=false:=kD od;exact zAn
theorem aQr(f s n d:Int)(w:WA)(h1:0<=f)(h2:f<=1099511627776)(h3:-1099511627776<=s)(h4:s<=1099511627776)(h5:1<=n)(k6:1000000<n):
  Calls prog 125 #[.agg #[iI f,iI s,iI n,iI d]] w λe w'=>e=rT (.bool false)/\bW w w':=by have L8:=Tryz.mf;have hn:decide (n<=1000000)=false:=kD od;exact zAn
theorem aQs(f s n d:Int)(w:WA)(h1:0<=f)(h2:f<=1099511627776)(h3:-1099511627776<=s)(h4:s<=1099511627776)(h5:1<=n)(h6:n<=1000000)(k7:d<1):
  Calls prog 125 #[.agg #[iI f,iI s,iI n,iI d]] w λe w'=>e=rT (.bool false)/\bW w w':=by have L8:=Tryz.mf;have hn:decide (1<=d)=false:=kD od;exact zAn
theorem aQt(f s n d:Int)(w:WA)(h1:0<=f)(h2:f<=1099511627776)(h3:-1099511627776<=s)(h4:s<=1099511627776)(h5:1<=n)(h6:n<=1000000)(h7:1<=d)(k8:1000000<d):
  Calls prog 125 #[.agg #[iI f,iI s,iI n,iI d]] w λe w'=>e=rT (.bool false)/\bW w w':=by have L8:=Tryz.mf;have hn:decide (d<=1000000)=false:=kD od;exact zAn
theorem aQu(f s n d:Int)(w:WA)(h1:0<=f)(h2:f<=1099511627776)(h3:-1099511627776<=s)(h4:s<=1099511627776)(h5:1<=n)(h6:n<=1000000)(h7:1<=d)(h8:d<=1000000)(k9:2*d<n):
  Calls prog 125 #[.agg #[iI f,iI s,iI n,iI d]] w λe w'=>e=rT (.bool false)/\bW w w':=by have L8:=Tryz.mf;have hn:decide (n<=2*d)=false:=kD od;exact zAn
theorem aLd(f s n d:Int)(w:WA)(h1:0<=f)(h2:f<=1099511627776)(h3:-1099511627776<=s)(h4:s<=1099511627776)(h5:1<=n)(h6:n<=1000000)(h7:1<=d)(h8:d<=1000000)(h9:n<=2*d)(k10:2*n<d):
  Calls prog 125 #[.agg #[iI f,iI s,iI n,iI d]] w λe w'=>e=rT (.bool false)/\bW w w':=by have L8:=Tryz.mf;have hn:decide (d<=2*n)=false:=kD od;exact zAn
theorem aQv(f s n d:Int)(w:WA)(h:eA f s n d=true):
  Calls prog 125 #[.agg #[iI f,iI s,iI n,iI d]] w λe w'=>e=rT (.bool true)/\bW w w':=by obtain⟨h1,h2,h3,h4,h5,h6,h7,h8,h9,h10⟩:=oU h;clear h;have L8:=Tryz.mf;exact zAn
theorem aVd(f s n d:Int)(w:WA)(h:eA f s n d=false):
  Calls prog 125 #[.agg #[iI f,iI s,iI n,iI d]] w λe w'=>e=rT (.bool false)/\bW w w':=by
 have hh:=of_decide_eq_false h;by_cases h1:0<=f;rotate_left
 .exact aQm f s n d w od
 by_cases h2:f<=1099511627776;rotate_left
 .exact aQn f s n d w h1 od
 by_cases h3:-1099511627776<=s;rotate_left
 .exact aQo f s n d w h1 h2 od
 by_cases h4:s<=1099511627776;rotate_left
 .exact aQp f s n d w h1 h2 h3 od
 by_cases h5:1<=n;rotate_left
 .exact aQq f s n d w h1 h2 h3 h4 od
 by_cases h6:n<=1000000;rotate_left
 .exact aQr f s n d w h1 h2 h3 h4 h5 od
 by_cases h7:1<=d;rotate_left
 .exact aQs f s n d w h1 h2 h3 h4 h5 h6 od
 by_cases h8:d<=1000000;rotate_left
 .exact aQt f s n d w h1 h2 h3 h4 h5 h6 h7 od
 by_cases h9:n<=2*d;rotate_left
 .exact aQu f s n d w h1 h2 h3 h4 h5 h6 h7 h8 od
 by_cases h10:d<=2*n;rotate_left
 .exact aLd f s n d w h1 h2 h3 h4 h5 h6 h7 h8 h9 od
 exact absurd ⟨h1,h2,h3,h4,h5,h6,h7,h8,h9,h10⟩ hh
section
variable{E:WB}{i k:Int}
abbrev dM(k:Int):Ending:=.panicked [{ v:=.iface 30 (iI k),recovered:=false }]
theorem pH(k:Int)(w:WA):Calls prog 64 #[.bool true,iI k] w λe w'=>e=rT (tU #[])/\w'=w:=by go_enter func64,ntmps64;go_wp2;exact bodyPost_end (v:=tU #[]) (by simp[results,results64,go_sem]) rfl ⟨rfl,rfl⟩
theorem pS(k:Int)(w:WA):Calls prog 64 #[.bool false,iI k] w λe w'=>e=dM k/\w'=w:=by go_enter func64,ntmps64;go_wp2;exact⟨rfl,rfl,rfl⟩
theorem eZ{w u:WA}{q:Nat}(h:Below (w.drewN q).1.size (w.drewN q) u):bW w u:=⟨h.os,h.tape,h.output,h.size,h.block⟩
theorem aVq(w:WA)(hg:Told w)(h:gX w E k i):Calls prog 108 #[E] w λe w'=>e=rT (iI k)/\bW w w':=by
 rcases h with⟨rfl,rfl,_⟩|⟨rfl,_⟩|⟨b,rfl,_,h1,_⟩
 .exact aIr w
 .exact bDd k w hg
 .exact aZ4 k _ w hg h1
theorem nW(w:WA):Calls prog 79 #[.nilIface] w λe w'=>e=rT (tU #[])/\bW w w':=by
 have ht:=λu=>aIr u;have ha:=λu=>pH 0 u;go_enter func79,ntmps79;go_wp2_with fail;go_region_held3(λ_=>True) (exact trivial) (first
  |(go_at_call 108;refine(ht _).mono ?_;rintro ev u1 ⟨rfl,i6⟩)
  |(go_at_call 64;refine(ha _).mono ?_;rintro ev u2 ⟨rfl,rfl⟩))
 exact bodyPost_end (v:=tU #[]) (by simp[results,results79,go_sem]) rfl ⟨rfl,eZ (q:=1) i6⟩
theorem jR(w:WA)(hg:Told w)(h:gX w E k i)(hk:k≠0):Calls prog 79 #[E] w λe w'=>e=dM k/\bW w w':=by
 have ha:=λu=>pS k u;obtain⟨t,x,rfl⟩:∃t x,E=.iface t x:=by
  rcases h with⟨_,h,_⟩|⟨h,_⟩|⟨b,h,_⟩
  .exact absurd h hk
  .exact⟨_,_,h⟩
  .exact⟨_,_,h⟩
 have ht:=λ(q:Nat)=>aVq (w.drewN q) hg h;go_enter func79,ntmps79;go_wp2_with fail;exact zK5
theorem K5(w:WA)(hg:Told w)(h:gX w E k i):Calls prog 79 #[E] w λe w'=>e=(if k=0 then rT (tU #[])else dM k)/\bW w w':=by
 by_cases hk:k=0
 .rw[kK hk];rcases h with⟨rfl,_,_⟩|⟨_,h,_⟩|⟨b,_,h,_⟩
  .exact nW w
  .exact absurd hk h
  .exact absurd hk h
 .rw[kJ hk];exact jR w hg h hk
theorem aAn(v:WB)(w:WA):Calls prog 75 #[v,.nilIface] w λe w'=>e=rT v/\bW w w':=by have ha:=nW w;go_enter func75,ntmps75;exact zBl
theorem aBx(v:WB)(w:WA)(hg:Told w)(h:gX w E k i)(hk:k≠0):Calls prog 75 #[v,E] w λe w'=>e=dM k/\bW w w':=by have ha:=jR w hg h hk;go_enter func75,ntmps75;exact zBx
theorem aF3(v:WB)(w:WA):Calls prog 77 #[v,.nilIface] w λe w'=>e=rT v/\bW w w':=by have ha:=nW w;go_enter func77,ntmps77;exact zBl
theorem aI2(v:WB)(w:WA)(hg:Told w)(h:gX w E k i)(hk:k≠0):Calls prog 77 #[v,E] w λe w'=>e=dM k/\bW w w':=by have ha:=jR w hg h hk;go_enter func77,ntmps77;exact zBx
theorem aF5(v:WB)(w:WA):Calls prog 81 #[v,.nilIface] w λe w'=>e=rT v/\bW w w':=by have ha:=nW w;go_enter func81,ntmps81;exact zBl
theorem aI4(v:WB)(w:WA)(hg:Told w)(h:gX w E k i)(hk:k≠0):Calls prog 81 #[v,E] w λe w'=>e=dM k/\bW w w':=by have ha:=jR w hg h hk;go_enter func81,ntmps81;exact zBx
theorem aF4(v:WB)(w:WA):Calls prog 89 #[v,.nilIface] w λe w'=>e=rT v/\bW w w':=by have ha:=nW w;go_enter func89,ntmps89;exact zBl
theorem aI3(v:WB)(w:WA)(hg:Told w)(h:gX w E k i)(hk:k≠0):Calls prog 89 #[v,E] w λe w'=>e=dM k/\bW w w':=by have ha:=jR w hg h hk;go_enter func89,ntmps89;exact zBx
end
theorem Tryz.G8(fn:Fn)(first cap:Array WB)(w:WA):(Instr.makeFunc fn first cap).run prog w=.ok (.func fn first cap) w:=rfl
theorem bMi(a b:Int)(w:WA)(h1:-1099511627776<=a)(h2:a<=1099511627776)(h:b< -1099511627776):
  Calls prog 190 #[iI a,iI b] w λe w'=>e=rT (tU #[iI 0,.iface 30 (iI 2)])/\bW w w':=by have L8:=Tryz.G8;have hn:decide (-1099511627776<=b)=false:=kD od;exact zBg
theorem bIr(a b:Int)(w:WA)(h1:-1099511627776<=a)(h2:a<=1099511627776)(h3:-1099511627776<=b)(h4:b<=1099511627776)(h:1099511627776<a+b):
  Calls prog 190 #[iI a,iI b] w λe w'=>e=rT (tU #[iI 0,.iface 30 (iI 2)])/\bW w w':=by have L8:=Tryz.G8;have hp:-1099511627776<=a+b:=od;have hn:decide (a+b<=1099511627776)=false:=kD od;exact zBg
theorem bIs(a b:Int)(w:WA)(h1:-1099511627776<=a)(h2:a<=1099511627776)(h3:-1099511627776<=b)(h4:b<=1099511627776)(h5:-1099511627776<=a+b)(h6:a+b<=1099511627776):
  Calls prog 190 #[iI a,iI b] w λe w'=>e=rT (tU #[iI (a+b),.nilIface])/\bW w w':=by have L8:=Tryz.G8;exact zBg
theorem bI2(n:Int)(h1:1<=n)(h2:n<=16):IntKind.i64.wrap ((IntKind.i64.wrap (n-1)).tdiv 3)=(n-1)/3:=by have:n=1\/n=2\/n=3\/n=4\/n=5\/n=6\/n=7\/n=8\/n=9\/n=10\/n=11\/n=12\/n=13\/n=14\/n=15\/n=16:=od;exact zBd
theorem aRc(AA aG aM aC aJ round frame:Int)(sa la wa:Option WT)(ns sc nl lc nw wc:Nat)(w:WA):
  Calls prog 135 #[.agg #[iI AA,iI aG,iI aM,iI aC,iI aJ,iI round,sV sa ns sc,sV la nl lc,iI frame,sV wa nw wc]] w λev w'=>ev=rT (iI (bZ AA aG aM aC aJ round frame ns nl nw))/\bW w w':=by
 have HE:Hid (∀c,bZ AA aG aM aC aJ round frame ns nl nw=c->Ending.returned (iI c)=rT (iI (bZ AA aG aM aC aJ round frame ns nl nw))):=λc h=>by rw[h]
 obtain⟨hc,hV⟩:=aRw AA aG aM aC aJ round frame sa la wa ns sc nl lc nw wc w 83;go_enter func135,ntmps135;go_wp2_with fail;generalize w.alloc (.cells #[iI AA,iI aG,iI aM,iI aC,iI aJ,iI round,sV sa ns sc,sV la nl lc,iI frame,sV wa nw wc] 83)=V at hc hV⊢;have hW:bW V V:=jD _ _;obtain⟨c0,c1,c2,c3,c4,c5,c6,c7,c8,c9⟩:=hc.below hW;by_cases n1:1<=AA/\AA<=16;rotate_left
 .have hd:decide (1<=AA/\AA<=16)=false:=kD n1;exact zGi
 have G5:decide (1<=AA/\AA<=16)=true:=kF n1;obtain⟨n2,n3⟩:=n1;by_cases n4:0<=aG/\aG<=(AA-1)/3;rotate_left
 .have G6:decide (0<=aG/\aG<=(AA-1)/3)=false:=kD n4;rw[<-bI2 AA n2 n3]at G6;have m15:=0;exact zGi
 have G6:decide (0<=aG/\aG<=(AA-1)/3)=true:=kF n4;rw[<-bI2 AA n2 n3]at G6;have h1:Hid (¬(AA<1\/16<AA\/aG<0\/AA<aG*3+1)):=by rintro(h|h|h|h)<;>omega
 clear n4;rename_i Q1 K2 k2 K1 k1;have aS7:∀(t3 t4 t5 t6 t7 t8 t9 uV S8 J4 t13 t14 t15 t16 t17 t18 t19:WB)(u:WA),bW V u->Exit.then K1 (Exit.then K2 Q1) .normal ⟨#[.agg #[iI AA,iI aG,iI aM,iI aC,iI aJ,iI round,sV sa ns sc,sV la nl lc,iI frame,sV wa nw wc],pP w.1.size,iI 0,t3,t4,t5,t6,t7,t8,t9,uV,S8,J4,t13,t14,t15,t16,t17,t18,t19,.bool false,undef,undef,undef,undef,undef,undef,undef,undef,undef,undef,undef,undef,undef,undef,undef,undef,undef,undef,undef,undef,undef,undef,undef,undef,undef,undef,undef,undef,undef,undef,undef,undef,undef,undef,undef,undef,undef,undef,undef,undef,undef,undef,undef,undef,undef,undef,undef,undef,undef,undef,undef],[]⟩ u:=by
  intro t3 t4 t5 t6 t7 t8 t9 uV S8 J4 t13 t14 t15 t16 t17 t18 t19 u hW;clear c0 c1 c2 c3 c4 c5 c6 c7 c8 c9;obtain⟨c0,c1,c2,c3,c4,c5,c6,c7,c8,c9⟩:=hc.below hW;clear G5 G6;go_wp2_with fail;by_cases s1:(0<=aM/\aM<=137438953472)/\(0<=aC/\aC<=137438953472)/\0<=aJ/\aJ<=137438953472;rotate_left
  .have hd:decide ((0<=aM/\aM<=137438953472)/\(0<=aC/\aC<=137438953472)/\0<=aJ/\aJ<=137438953472)=false:=kD s1;have hE:Hid (bZ AA aG aM aC aJ round frame ns nl nw=2):=aOy h1.out od;clear s1;exact zGc
  have G5:decide ((0<=aM/\aM<=137438953472)/\(0<=aC/\aC<=137438953472)/\0<=aJ/\aJ<=137438953472)=true:=kF s1;have h2:Hid (¬(aM<0\/137438953472<aM\/aC<0\/137438953472<aC\/aJ<0\/137438953472<aJ)):=by rintro(h|h|h|h|h|h)<;>omega
  by_cases s2:(1<=round/\round<=137438953472)/\1<=frame/\frame<=137438953472;rotate_left
  .have G6:decide ((1<=round/\round<=137438953472)/\1<=frame/\frame<=137438953472)=false:=kD s2;have hE:Hid (bZ AA aG aM aC aJ round frame ns nl nw=2):=aOz h1.out h2.out od;clear s1 s2;have m9:=0;exact zGc
  have G6:decide ((1<=round/\round<=137438953472)/\1<=frame/\frame<=137438953472)=true:=kF s2;have h3:Hid (¬(round<1\/137438953472<round\/frame<1\/137438953472<frame)):=by rintro(h|h|h|h)<;>omega
  obtain⟨⟨s3,s4⟩,⟨s5,s6⟩,s7,s8⟩:=s1;clear s2;rename_i K3 k3 K4 k4;have aS8:∀(t3 t4 t5 t6 t7 t8 t9 uV S8 J4 t13 t14 t15 t16 t17 t18 t19 t20 t21 t22 t23 t24 t25 t26 t27 t28 t29 t30 t31 t32 t33 t34 t35 t36 t37 t38 t39:WB)(u:WA),bW V u->Exit.then K4 (Exit.then K3 Q1) .normal ⟨#[.agg #[iI AA,iI aG,iI aM,iI aC,iI aJ,iI round,sV sa ns sc,sV la nl lc,iI frame,sV wa nw wc],pP w.1.size,iI 0,t3,t4,t5,t6,t7,t8,t9,uV,S8,J4,t13,t14,t15,t16,t17,t18,t19,t20,t21,t22,t23,t24,t25,t26,t27,t28,t29,t30,t31,t32,t33,t34,t35,t36,t37,t38,t39,.bool false,undef,undef,undef,undef,undef,undef,undef,undef,undef,undef,undef,undef,undef,undef,undef,undef,undef,undef,undef,undef,undef,undef,undef,undef,undef,undef,undef,undef,undef,undef,undef],[]⟩ u:=by
   clear G5 G6 c0 c1 c2 c3 c4 c5 c6 c7 c8 c9 hW;intro t3 t4 t5 t6 t7 t8 t9 uV S8 J4 t13 t14 t15 t16 t17 t18 t19 t20 t21 t22 t23 t24 t25 t26 t27 t28 t29 t30 t31 t32 t33 t34 t35 t36 t37 t38 t39 u hW;obtain⟨c0,c1,c2,c3,c4,c5,c6,c7,c8,c9⟩:=hc.below hW;by_cases d1:ns<=32;rotate_left
   .have hn:decide ((32:Int)<(ns:Int))=true:=kF od;exact zMo
   by_cases d2:nl<=8;rotate_left
   .have hn:decide ((8:Int)<(nl:Int))=true:=kF od;exact zJl
   by_cases d3:nw<=32;rotate_left
   .have hn:decide ((32:Int)<(nw:Int))=true:=kF od;have bKc:=0;exact zJl
   have h4:Hid (¬(32<ns\/8<nl\/32<nw)):=by rintro(h|h|h)<;>omega
   by_cases f1:aM/2+2*aC+1+2*aJ<=aM
   .have hE:Hid (bZ AA aG aM aC aJ round frame ns nl nw=0):=aOw h1.out h2.out h3.out h4.out od;exact zE4
   .have hn:decide (aM<aM/2+2*aC+1+2*aJ)=true:=kF od;have hE:Hid (bZ AA aG aM aC aJ round frame ns nl nw=13):=aK3 h1.out h2.out h3.out h4.out od;clear f1;exact zE4
  exact zJ8
 exact zL3
section
variable{P n:Nat}{b g id m:Int}
theorem aL1{w:WA}{fz:Bool}(h:aU w P id n m g b fz):
  Calls prog 149 #[pP P] w λe w'=>e=rT (tU #[iI (if gA g b fz=true then m else 0),.bool (gA g b fz)])/\aU w' P id n m (if gA g b fz=true then 1 else g) (if gA g b fz=true then 0 else b) (!gA g b fz)/\aW P P w w':=by
 have HH:Hid (aU w P id n m g b fz):=h;obtain⟨c0,c1,c2,c3,c4,c5,z,lp⟩:=h;have z3:=z 3;have z4:=z 4;have z5:=z 5;clear z;unfold gA;cases fz
 .by_cases hb:b<g
  .have iT:decide (g<=b)=false:=kD od;have HB:Hid (decide (b<g)=true):=kF hb;rw[HB.out];clear hb;have HX:Hid (aU ((w.setCell (aA P 3) (.bool false)).drew) P id n m g b false):=(HH.out.freeze false).drawn 1;have HT:Hid (aW P P w ((w.setCell (aA P 3) (.bool false)).drew)):=((aW.refl _ _ _).set (p:=(aA P 3)) (.inl rfl) _).trans (aW.drawn 1);go_enter func149,ntmps149;go_wp2_with fail;go_region;go_wp2_with fail;refine(aCs HX.out).mono ?_;rintro e w1 ⟨rfl,hN,hT⟩;have HN:Hid (aU w1 P id n m 1 0 false):=hN;obtain⟨d0,d1,d2,d3,d4,d5,y,lp'⟩:=hN;clear y;go_wp2;go_ret2;exact⟨rfl,HN.out,HT.out.trans hT⟩
  .have iT:g<=b:=by omega
   rw[kD hb];clear hb;exact zBc
 .exact zBc
theorem aL0{w:WA}{fz:Bool}(h:aU w P id n m g b fz)(x:Int):Calls prog 178 #[pP P,iI x] w λe w'=>e=rT (.bool (decide (0<=x/\x<n)))/\w'=w:=by
 obtain⟨c0,c1,c2,c3,c4,c5,z,lp⟩:=h;clear z;by_cases k1:0<=x
 .by_cases k2:x<(n:Int)
  .rw[kF (show 0<=x/\x<(n:Int)from⟨k1,k2⟩)];exact zFz
  .rw[kD (show ¬(0<=x/\x<(n:Int))by omega)];have k2':decide (x<(n:Int))=false:=kD k2;clear k2;exact zFz
 .rw[kD (show ¬(0<=x/\x<(n:Int))by omega)];have k2':decide (0<=x)=false:=kD k1;clear k1;exact zFz
theorem aUi(k:Nat)(hk:k<=16)(w:WA):Calls prog 192 #[iI k] w λe w'=>e=rT (iI (2^k))/\w'=w:=by have p0:=pow_pos k;have p1:(2:Int)^k<=2^16:=aL2 od;have p2:(2:Int)^16=65536:=og;go_enter func192,ntmps192;exact W5
theorem aHn{w:WA}{t:Nat->Bool}{fz:Bool}(h:aU w P id n (bA t n) g b fz)(mD m:Int)(hn:n<=16):
  Calls prog 151 #[pP P,iI mD,iI m] w λe w'=>e=rT (iI (fZ n t (tb m) mD m))/\∃q,w'=w.drewN q:=by
 have HK:Hid (∀(x:Int)(q:Nat),Calls prog 178 #[pP P,iI x] (w.drewN q) λe w'=>e=rT (.bool (decide (0<=x/\x<n)))/\w'=w.drewN q):=λx q=>aL0 (h.drawn q) x;obtain⟨c0,c1,c2,c3,c4,c5,z,lp⟩:=h;clear z;by_cases k12:0<=mD/\mD<(n:Int)
 .obtain⟨k1,k2⟩:=k12;obtain⟨k,rfl⟩:=Int.eq_ofNat_of_zero_le k1;have hk:k<n:=od;have HBt:=aUi k od;have hK:=HK.out k;rw[kF (show(0:Int)<=(k:Int)/\(k:Int)<(n:Int)from⟨k1,k2⟩)]at hK;have m87:=0;exact zIi
 .have eJ:fZ n t (tb m) mD m=2:=by unfold fZ;rw[kJ (λy=>k12 y.1)]
  rw[eJ];have hK:=HK.out mD;rw[kD k12]at hK;clear eJ k12;go_enter func151,ntmps151;go_wp2_with fail;go_quiet(first|(go_at_call 178;refine Calls.quiet_of_same (hK _)));exact zFq
end
theorem aKy{w:WA}{P:Nat}{id:Int}{n:Nat}{t:Nat->Bool}{g b:Int}{fz:Bool}(h:aU w P id n (bA t n) g b fz)(mD dR:Int)(hn:n<=16)(hg0:0<=g)(hg:g<=4611686018427387904)(hb0:0<=b)(hb:b<=4611686018427387904):
  Calls prog 153 #[pP P,iI mD,iI dR] w λe w'=>e=rT (tU #[])/\aU w' P id n (bA (heT id n fz mD dR t) n) (heG id n fz mD dR g) (heB id n fz mD dR b) fz/\aW P P w w':=by
 cases q:rZ id n fz mD dR
 .refine(aKz h mD dR q).mono ?_;rintro e w' ⟨rfl,rfl⟩;unfold heG heB;rw[aXd t q,q,kJ (λy=>by cases y.1),kJ (λy=>by cases y.1)];exact⟨rfl,h,aW.refl _ _ _⟩
 .obtain⟨hf,k,rfl,h1,h2,h3,h4⟩:=aGn q;refine(aHm h k dR hn hf h1 h2 h3 h4 hg0 hg hb0 hb).mono ?_;rintro e w' ⟨rfl,a,c⟩;unfold heG heB;rw[aSz t q,q];simp only[true_and];rw[hf];exact⟨a,c⟩
structure mS where
 sa:Option WT
 sc:Nat
 la:Option WT
 lc:Nat
 wa:Option WT
 wc:Nat
def aP.val(p:aP)(a:mS):WB:=.agg #[iI p.AA,iI p.aG,iI p.aM,iI p.aC,iI p.aJ,iI p.round,sV a.sa p.ns a.sc,sV a.la p.nl a.lc,iI p.frame,sV a.wa p.nw a.wc]
structure aP.In(p:aP)(a:mS)(w:WA):Prop where
 mP:jH w a.sa p.ns p.nd p.fr p.td
 aK:xL w a.la p.nl p.lf p.lt p.lb p.lq
 bDf:jH w a.wa p.nw p.wp p.wf p.wt
 ints:∀k,k<p.nl->-9223372036854775808<=p.lt k/\p.lt k<=9223372036854775807
 ls:p.ns<=9223372036854775807
 ll:p.nl<=9223372036854775807
 lw:p.nw<=9223372036854775807
theorem aP.In.below{p:aP}{a:mS}{w w':WA}(h:p.In a w)(hb:bW w w'):p.In a w':=⟨h.mP.below hb,h.aK.below hb,h.bDf.below hb,h.ints,h.ls,h.ll,h.lw⟩
structure tL where
 la:Option WT
 lc:Nat
 ra:Option WT
 rc:Nat
 da:Option WT
 dc:Nat
 ma:Option WT
 mc:Nat
def cB.val(r:cB)(a:tL):WB:=.agg #[sV a.la r.nL a.lc,sV a.ra r.nR a.rc,sV a.da r.bP.length a.dc,sV a.ma r.lE.length a.mc]
structure cB.In(r:cB)(a:tL)(w:WA):Prop where
 aTq:jH w a.la r.nL r.ls r.lc r.lt
 reads:jH w a.ra r.nR r.rn r.ro r.ri
 bP:bI w a.da r.bP
 lE:bI w a.ma r.lE
 ints:∀x,x<r.nL->-9223372036854775808<=r.lt x/\r.lt x<=9223372036854775807
 lL:r.nL<=9223372036854775807
 lR:r.nR<=9223372036854775807
 lD:r.bP.length<=9223372036854775807
 lM:r.lE.length<=9223372036854775807
theorem cB.In.below{r:cB}{a:tL}{w w':WA}(h:r.In a w)(hb:bW w w'):r.In a w':=⟨h.aTq.below hb,h.reads.below hb,h.bP.below hb,h.lE.below hb,h.ints,h.lL,h.lR,h.lD,h.lM⟩
def cJ.put(s:cJ)(p:aP)(k:Nat)(d:WG):cJ where
 AA:=s.AA
 aK:=λj=>if j=k then { all:=mN (putK ((s.aK k).all.length-(s.aK k).aQ) (p.lq k) d) (s.aK k).all d,aQ:=(s.aK k).aQ,last:=(s.aK k).last,now:=(s.aK k).now }else s.aK j
 aV:=s.aV
 aT:=s.aT
def cJ.putK(s:cJ)(p:aP)(k:Nat)(d:WG):Int:=Go.Proofs.YtnbomhedoelklaaGreatDoor.putK ((s.aK k).all.length-(s.aK k).aQ) (p.lq k) d
def cJ.recv(s:cJ)(k j:Nat):cJ where
 AA:=s.AA
 aK:=s.aK
 aV:=s.aV
 aT:=λk' j'=>if k'=k/\j'=j then(s.aT k j).tail else s.aT k' j'
structure bAc(B7:WA->List Nat->Nat->aP->Int->List Int->cJ->Int->Nat->Prop):Prop where
 chk:∀(p:aP)(a:mS)(w:WA),p.In a w->∃E I,p.Is E I/\Calls prog 99 #[p.val a] w λe w'=>∃V,e=rT V/\gX w' V E I/\bW w w'
 ok:∀{w:WA}{O:List Nat}{C:Nat}{p:aP}{fa:Int}{cs:List Int}{s:cJ}{rd:Int}{T:Nat},B7 w O C p fa cs s rd T->zM p fa cs/\0<=rd/\rd<=T
 lt:∀{w:WA}{O:List Nat}{C:Nat}{p:aP}{fa:Int}{cs:List Int}{s:cJ}{rd:Int}{T:Nat},B7 w O C p fa cs s rd T->∀c,c∈O->c<w.1.size
 keep:∀{w w':WA}{O:List Nat}{C:Nat}{p:aP}{fa:Int}{cs:List Int}{s:cJ}{rd:Int}{T:Nat},B7 w O C p fa cs s rd T->Same O w w'->B7 w' O C p fa cs s rd T
 new:∀(p:aP)(a:mS)(fa:Int)(ca:Option WT)(cap:Nat)(cs:List Int)(w:WA),p.In a w->bI w ca cs->cs.length<=9223372036854775807->-9223372036854775808<=fa->fa<=9223372036854775807->
  Calls prog 78 #[p.val a,iI fa,sV ca cs.length cap] w λe w'=>bW w w'/\∃K I,xK p fa cs K I/\((K≠0/\∃E,e=rT (tU #[.pointer none,E])/\gX w' E K I)\/(K=0/\∃O C,e=rT (tU #[pP C,.nilIface])/\B7 w' O C p fa cs cJ.start 0 0/\∀c,c∈O->w.1.size<=c))
 bHx:∀{w:WA}{O:List Nat}{C:Nat}{p:aP}{fa:Int}{cs:List Int}{s:cJ}{rd:Int}{T:Nat}(r:cB)(a:tL),B7 w O C p fa cs s rd T->T<=3000->r.In a w->(∀b off,a.ma=some (aA b off)->0<r.lE.length->b∉O)->
  Calls prog 83 #[pP C,r.val a] w λe w'=>∃O',aR O O' w w'/\((pU p fa cs r=true/\e=rT (dG 6)/\B7 w' O' C p fa cs s rd T)\/(pU p fa cs r=false/\e=rT (dG 0)/\B7 w' O' C p fa (pV p fa cs r) (aMk p fa s rd r) (rd+1) (T+1)))
 aNg:∀{w:WA}{O:List Nat}{C:Nat}{p:aP}{fa:Int}{cs:List Int}{s:cJ}{rd:Int}{T:Nat}(k:Int)(d:WG),B7 w O C p fa cs s rd T->¬(0<=k/\k<p.nl)->
  Calls prog 80 #[pP C,iI k,sT d] w λe w'=>e=rT (dG 2)/\bW w w'
 put:∀{w:WA}{O:List Nat}{C:Nat}{p:aP}{fa:Int}{cs:List Int}{s:cJ}{rd:Int}{T:Nat}(k:Nat)(d:WG),B7 w O C p fa cs s rd T->T<=3000->k<p.nl->
  Calls prog 80 #[pP C,iI k,sT d] w λe w'=>e=rT (dG (s.putK p k d))/\∃O',aR O O' w w'/\B7 w' O' C p fa cs (s.put p k d) rd (T+1)
 aHy:∀{w:WA}{O:List Nat}{C:Nat}{p:aP}{fa:Int}{cs:List Int}{s:cJ}{rd:Int}{T:Nat}(j k:Int),B7 w O C p fa cs s rd T->¬((0<=j/\j<p.AA)/\(0<=k/\k<p.nl)/\aX (p.lt k.toNat) j.toNat=true)->
  Calls prog 82 #[pP C,iI j,iI k] w λe w'=>e=rT (tU #[sT AU,dG 2])/\bW w w'
 recv:∀{w:WA}{O:List Nat}{C:Nat}{p:aP}{fa:Int}{cs:List Int}{s:cJ}{rd:Int}{T:Nat}(j k:Nat),B7 w O C p fa cs s rd T->j<p.n->k<p.nl->aX (p.lt k) j=true->
  Calls prog 82 #[pP C,iI j,iI k] w λe w'=>e=rT (tU #[sT (recvD (s.aT k j)),dG (yA (s.aT k j))])/\∃O',aR O O' w w'/\B7 w' O' C p fa cs (s.recv k j) rd T
 spread:∀{w:WA}{O:List Nat}{C:Nat}{p:aP}{fa:Int}{cs:List Int}{s:cJ}{rd:Int}{T:Nat},B7 w O C p fa cs s rd T->
  Calls prog 87 #[pP C] w λe w'=>e=rT (iI (eF (fG fa cs)))/\bW w w'
 rounds:∀{w:WA}{O:List Nat}{C:Nat}{p:aP}{fa:Int}{cs:List Int}{s:cJ}{rd:Int}{T:Nat},B7 w O C p fa cs s rd T->
  Calls prog 84 #[pP C] w λe w'=>e=rT (iI rd)/\bW w w'
theorem bX.one{f:Nat->Int}{n:Nat}{e i e' i':Int}(h:bX f n e i)(h':bX f n e' i'):e=e'/\i=i':=by
 rcases h with⟨h0,h1,h2⟩|⟨k,hk,h0,hf,h1,h2⟩
 .obtain⟨q1,q2⟩:=h'.at_end h0;exact⟨h1.trans q1.symm,h2.trans q2.symm⟩
 .obtain⟨q1,q2⟩:=h'.aRs hk h0 (λy=>h1 (hf.symm.trans y));exact⟨hf.symm.trans q1.symm,h2.trans q2.symm⟩
theorem aP.Is.one{p:aP}{E I E' I':Int}(h:p.Is E I)(h':p.Is E' I'):E=E'/\I=I':=by
 unfold aP.Is jQ at h h';rcases h with⟨a0,a1,a2⟩|⟨a0,e1,i1,e2,i2,e3,i3,F1,F2,F3,R⟩
 .rcases h' with⟨b0,b1,b2⟩|⟨b0,_⟩
  .exact⟨a1.trans b1.symm,a2.trans b2.symm⟩
  .exact absurd b0 a0
 .rcases h' with⟨b0,b1,b2⟩|⟨b0,g1,j1,g2,j2,g3,j3,G1,G2,G3,S⟩
  .exact absurd a0 b0
  .obtain⟨rfl,rfl⟩:=F1.one G1;obtain⟨rfl,rfl⟩:=F2.one G2;obtain⟨rfl,rfl⟩:=F3.one G3;by_cases z1:e1=0
   .by_cases z2:e2=0
    .by_cases z3:e3=0
     .have q1:=R.2.2.2 z1 z2 z3;have q2:=S.2.2.2 z1 z2 z3;exact zCt
     .have q1:=R.2.2.1 z1 z2 z3;have q2:=S.2.2.1 z1 z2 z3;exact zCt
    .have q1:=R.2.1 z1 z2;have q2:=S.2.1 z1 z2;exact zCt
   .have q1:=R.1 z1;have q2:=S.1 z1;exact zCt
theorem aP.Is.neg{p:aP}{I:Int}(h:p.Is 0 I):I=-1:=by
 unfold aP.Is jQ at h;rcases h with⟨a0,a1,a2⟩|⟨a0,e1,i1,e2,i2,e3,i3,F1,F2,F3,R⟩
 .exact a2
 .by_cases z1:e1=0
  .by_cases z2:e2=0
   .by_cases z3:e3=0
    .exact(R.2.2.2 z1 z2 z3).2
    .exact absurd (R.2.2.1 z1 z2 z3).1.symm z3
   .exact absurd (R.2.1 z1 z2).1.symm z2
  .exact absurd (R.1 z1).1.symm z1
theorem xK.one{p:aP}{fa:Int}{cs:List Int}{K I K' I':Int}(h:xK p fa cs K I)(h':xK p fa cs K' I'):K=K'/\I=I':=by
 rcases h with⟨E,h1,h2,h3⟩|⟨h0,hI,h⟩
 .rcases h' with⟨E',g1,g2,g3⟩|⟨g0,_⟩
  .obtain⟨q1,q2⟩:=h1.one g1;exact⟨h3.trans (q1.trans g3.symm),q2⟩
  .exact absurd (h1.one g0).1 h2
 .rcases h' with⟨E',g1,g2,g3⟩|⟨g0,gI,g⟩
  .exact absurd (g1.one h0).1 g2
  .refine⟨?_,hI.trans gI.symm⟩;rcases h with⟨n1,k1⟩|⟨n1,h⟩
   .rcases g with⟨m1,l1⟩|⟨m1,g⟩
    .exact k1.trans l1.symm
    .exact absurd m1 n1
   .rcases g with⟨m1,l1⟩|⟨m1,g⟩
    .exact absurd n1 m1
    .rcases h with⟨n2,k2⟩|⟨n2,h⟩
     .rcases g with⟨m2,l2⟩|⟨m2,g⟩
      .exact k2.trans l2.symm
      .exact absurd m2 n2
     .rcases g with⟨m2,l2⟩|⟨m2,g⟩
      .exact absurd n2 m2
      .rcases h with⟨n3,k3⟩|⟨n3,k3⟩
       .rcases g with⟨m3,l3⟩|⟨m3,l3⟩
        .exact k3.trans l3.symm
        .exact absurd m3 n3
       .rcases g with⟨m3,l3⟩|⟨m3,l3⟩
        .exact absurd n3 m3
        .exact k3.trans l3.symm
theorem wW(x:Int):(BitVec.ofInt 64 x).toNat=(x%18446744073709551616).toNat:=by rw[BitVec.toNat_ofInt];rfl
theorem aMg(x:Int){j:Nat}(hj:j<=62):(bits BinOp.and .i64 x (2^j) !=0)=aX x j:=by
 have hp:(2:Nat)^j<=2^62:=Nat.pow_le_pow_right og hj;have hp2:(2:Nat)^62=4611686018427387904:=og;have hq:(((2:Int)^j)%18446744073709551616).toNat=2^j:=by
  have h:∀T:Nat,T<=4611686018427387904->((T:Int)%18446744073709551616).toNat=T:=λT h=>by omega
  rw[gT];exact h _ (by rw[<-hp2];exact hp)
 obtain⟨X,hX⟩:∃X:Nat,(x%18446744073709551616).toNat=X:=⟨_,rfl⟩;have hlt:X&&&2^j<=2^j:=Nat.and_le_right;have e:bits BinOp.and .i64 x (2^j)=((X&&&2^j:Nat):Int):=by show IntKind.i64.wrap ((BitVec.ofInt 64 x&&&BitVec.ofInt 64 (2^j)).toNat:Int)=_;rw[BitVec.toNat_and,wW,wW,hq,hX];exact wL _ od
 rw[e];have h1:((((X&&&2^j:Nat):Int)) !=0)=((X&&&2^j) !=0):=by
  cases h:(X&&&2^j) !=0
  .have:X&&&2^j=0:=by simpa using h
   rw[this];rfl
  .have:X&&&2^j≠0:=by simpa using h
   simp only[bne_iff_ne,ne_eq];omega
 rw[h1,aJ9,Nat.testBit_eq_decide_div_mod_eq];exact zAz
theorem aBi(l:List Int):∀x,x<=l.foldl max x/\∀y∈l,y<=l.foldl max x:=by
 induction l with
 |nil=>intro x;exact⟨Int.le_refl _,λy hy=>(by cases hy)⟩
 |cons a l ih=>
  intro x
  have h:=ih (max x a)
  simp only[List.foldl_cons]
  refine⟨od,λy hy=>?_⟩
  rcases kQ hy with rfl|q
  .omega
  .exact h.2 y q
theorem aE4(l:List Int):∀x,l.foldl max x=x\/l.foldl max x∈l:=by
 induction l with
 |nil=>intro x;exact .inl rfl
 |cons a l ih=>
  intro x
  simp only[List.foldl_cons]
  rcases ih (max x a)with h|h
  .rw[h]
   by_cases q:x<=a
   .rw[Int.max_eq_right q];exact .inr (kO (.inl rfl))
   .rw[Int.max_eq_left od];exact .inl rfl
  .exact .inr (kO (.inr h))
theorem aBj(l:List Int):∀x,l.foldl min x<=x/\∀y∈l,l.foldl min x<=y:=by
 induction l with
 |nil=>intro x;exact⟨Int.le_refl _,λy hy=>(by cases hy)⟩
 |cons a l ih=>
  intro x
  have h:=ih (min x a)
  simp only[List.foldl_cons]
  refine⟨od,λy hy=>?_⟩
  rcases kQ hy with rfl|q
  .omega
  .exact h.2 y q
theorem aE5(l:List Int):∀x,l.foldl min x=x\/l.foldl min x∈l:=by
 induction l with
 |nil=>intro x;exact .inl rfl
 |cons a l ih=>
  intro x
  simp only[List.foldl_cons]
  rcases ih (min x a)with h|h
  .rw[h]
   by_cases q:a<=x
   .rw[Int.min_eq_right q];exact .inr (kO (.inl rfl))
   .rw[Int.min_eq_left od];exact .inl rfl
  .exact .inr (kO (.inr h))
theorem aLr{l:List Int}{K:Int}(hK:0<=K):eF l<=K↔∀x∈l,∀y∈l,x-y<=K:=by
 unfold eF;constructor
 .intro h x hx y hy;have h1:=(aBi l (l.headD 0)).2 x hx;have h2:=(aBj l (l.headD 0)).2 y hy;omega
 .intro h
  cases l with
  |nil=>simpa using hK
  |cons a l=>
   have hm:(a::l).foldl max ((a::l).headD 0)∈a::l:=by
    rcases aE4 (a::l) ((a::l).headD 0)with q|q
    .rw[q];exact kO (.inl rfl)
    .exact q
   have hn:(a::l).foldl min ((a::l).headD 0)∈a::l:=by
    rcases aE5 (a::l) ((a::l).headD 0)with q|q
    .rw[q];exact kO (.inl rfl)
    .exact q
   exact h _ hm _ hn
theorem aHg{fa aM:Int}{cs:List Int}(hK:0<=aM):eF (fG fa cs)<=aM↔aMa cs.length (aX fa) aM (λi=>cs.getD i 0):=by
 rw[aLr hK];constructor
 .intro h i j hi oi hj oj;have mem:∀i,i<cs.length->aX fa i=false->cs.getD i 0∈fG fa cs:=λi hi oi=>List.mem_map.2 ⟨i,List.mem_filter.2 ⟨List.mem_range.2 hi,by simp[oi]⟩,rfl⟩
  exact h _ (mem i hi oi) _ (mem j hj oj)
 .intro h x hx y hy;obtain⟨i,hi,rfl⟩:=List.mem_map.1 hx;obtain⟨j,hj,rfl⟩:=List.mem_map.1 hy;have hi:=List.mem_filter.1 hi;have hj:=List.mem_filter.1 hj;exact h i j (List.mem_range.1 hi.1) (by simpa using hi.2) (List.mem_range.1 hj.1) (by simpa using hj.2)
theorem aC8(p:aP)(fa:Int)(cs:List Int)(r:cB):(pV p fa cs r).length=p.n:=by simp[pV]
theorem aC7(p:aP)(fa:Int)(cs:List Int)(r:cB){i:Nat}(h:i<p.n):(pV p fa cs r).getD i 0=gQ p.n p.aG.toNat (aX fa) p.aC p.aJ (λi=>cs.getD i 0) r.reads r.bP i:=by simp[pV,List.getD,h]
theorem zM.next{p:aP}{fa:Int}{cs:List Int}(h:zM p fa cs)(r:cB)(hf:pU p fa cs r=false):zM p fa (pV p fa cs r):=by
 have hb:=h.aO.bounds;refine⟨h.aO,h.f0,h.f1,h.fc,aC8 p fa cs r,λc hc=>?_,?_⟩
 .obtain⟨i,hi,rfl⟩:=List.mem_map.1 hc;unfold pU zS at hf;rw[List.any_eq_false]at hf;have:=hf i hi;simp only[decide_eq_true_eq]at this;omega
 .rw[aHg hb.s0,aC8];have hn:=(aHg hb.s0).1 h.bCh;rw[h.len]at hn;have hN:=hn.round (f:=p.aG.toNat) r.reads r.bP h.fc (by have:=hb.f3;have:=hb.f0;have:=hb.n1;unfold aP.n;omega) hb.j0 hb.d0 (by have:=hb.sk;omega);intro i j hi oi hj oj;show(pV p fa cs r).getD i 0-(pV p fa cs r).getD j 0<=p.aM;rw[aC7 p fa cs r hi,aC7 p fa cs r hj];exact hN i j hi oi hj oj
structure aWe(B7:WA->List Nat->Nat->aP->Int->List Int->cJ->Int->Nat->Prop):Prop where
 aS2:∀{w:WA}{O:List Nat}{C:Nat}{p:aP}{fa:Int}{cs:List Int}{s:cJ}{rd:Int}{T:Nat},B7 w O C p fa cs s rd T->
  Calls prog 85 #[pP C] w λe w'=>∃a cap,e=rT (sV a cs.length cap)/\bI w' a cs/\bW w w'
 wT:∀{w:WA}{O:List Nat}{C:Nat}{p:aP}{fa:Int}{cs:List Int}{s:cJ}{rd:Int}{T:Nat}(j:Nat),B7 w O C p fa cs s rd T->j<p.n->
  Calls prog 88 #[pP C,iI j] w λe w'=>e=rT (tU #[iI (bA (s.AA j).t p.n),.bool (s.AA j).fz,.nilIface])/\bW w w'
 members_bad:∀{w:WA}{O:List Nat}{C:Nat}{p:aP}{fa:Int}{cs:List Int}{s:cJ}{rd:Int}{T:Nat}(j:Int),B7 w O C p fa cs s rd T->¬(0<=j/\j<p.AA)->
  Calls prog 88 #[pP C,iI j] w λe w'=>e=rT (tU #[iI 0,.bool false,dG 2])/\bW w w'
theorem aUm(n:Nat)(h:n<=16):1<=(2:Int)^n/\(2:Int)^n<=65536:=by have:n=0\/n=1\/n=2\/n=3\/n=4\/n=5\/n=6\/n=7\/n=8\/n=9\/n=10\/n=11\/n=12\/n=13\/n=14\/n=15\/n=16:=od;rcases this with rfl|rfl|rfl|rfl|rfl|rfl|rfl|rfl|rfl|rfl|rfl|rfl|rfl|rfl|rfl|rfl|rfl<;>decide
theorem zV(k:Nat)(hk:k<=16)(w:WA):Calls prog 102 #[iI k] w λe w'=>e=rT (iI (2^k))/\w'=w:=by have p:=aUm k hk;go_enter func102,ntmps102;exact W5
theorem vC(x:Int)(j:Nat)(hj:j<=16)(w:WA):Calls prog 119 #[iI x,iI j] w λe w'=>e=rT (.bool (aX x j))/\w'=w:=by have p:=aUm j hj;have hb:=aMg x (j:=j) od;have HB:=zV j hj w;generalize(2:Int)^j=T at *;go_enter func119,ntmps119;go_wp2_with fail;refine HB.mono ?_;rintro e w1 ⟨rfl,h⟩;replace h:=h.symm;subst h;clear HB;exact W5
theorem Tryz.makesFunc9(fn:Fn)(first cap:Array WB)(w:WA):(Instr.makeFunc fn first cap).run prog w=.ok (.func fn first cap) w:=rfl
theorem aGa(most:Int)(w:WA):Calls prog 142 #[iI most] w λe w'=>e=rT (.func (.func 177) #[] #[pP w.1.size])/\w'=w.alloc (.cells #[iI most] 3):=by have L8:=Tryz.makesFunc9;go_enter func142,ntmps142;exact W5
theorem cT{w:WA}{X i:Nat}{v:WB}(h:w.cell? (aA X i)=some v):X<w.1.size:=by
 rcases jB X w.1.size with g|g
 .exact g
 .simp[World.cell?,Array.getElem?_eq_none g]at h
theorem wP(x most:Int)(B:Nat)(h0:0<=most)(h1:most<=1099511627776)(w:WA)(hc:w.cell? (aA B 0)=some (iI most)):
  Calls prog 177 #[iI x,pP B] w λe w'=>e=rT (iI (cutV x most))/\w'=w:=by
 have hl:B<w.1.size:=cT hc;unfold cutV;by_cases k1:x< -most
 .rw[show max (-most) (min most x)=-most by omega];exact zBj
 .have k1':=kD k1;by_cases k2:most<x
  .rw[show max (-most) (min most x)=most by omega];exact zBj
  .rw[show max (-most) (min most x)=x by omega];have k2':=kD k2;exact zBj
def fP(x:Int):Bool:=decide (x< -274877906944\/274877906944<x)
theorem aGg(x:Int)(w:WA):Calls prog 106 #[iI x] w λe w'=>e=rT (.bool (fP x))/\bW w w':=by
 have HC:=aGa 274877906944 w;have H1:=wP x 274877906944 w.1.size og og (w.alloc (.cells #[iI 274877906944] 3)) oe;have hb:bW w (w.alloc (.cells #[iI 274877906944] 3)):=(jD _ _).alloc (kG _) _;have HB:Hid _:=hb;clear hb;have he:(cutV x 274877906944 !=x)=fP x:=by
  unfold cutV fP;by_cases h:x< -274877906944\/274877906944<x
  .rw[kF h];simp;omega
  .rw[kD h];simp;omega
 generalize cutV x 274877906944=y at *;generalize fP x=b at *;go_enter func106,ntmps106;go_wp2_with fail;refine HC.mono ?_;rintro e w1 ⟨rfl,rfl⟩;go_wp2_with fail;refine H1.mono ?_;rintro e w1 ⟨rfl,rfl⟩;go_wp2;go_ret;exact⟨rfl,HB.out⟩
def uX(l:List Int)(i:Int):Prop:=
 (i=-1/\∀j,j<l.length->fP (l.getD j 0)=false)\/∃k:Nat,k<l.length/\i=k/\fP (l.getD k 0)=true
theorem uX.is{l:List Int}{i:Int}(h:uX l i):decide (0<=i)=l.any fP:=by
 rcases h with⟨rfl,h⟩|⟨k,hk,rfl,h⟩
 .rw[kD od];symm;rw[Bool.eq_false_iff];intro h2;obtain⟨x,hx,h3⟩:=List.any_eq_true.1 h2;obtain⟨j,hj,rfl⟩:=List.getElem_of_mem hx;have:=h j hj;simp[List.getD,hj]at this;rw[this]at h3;cases h3
 .rw[kF od];symm;refine List.any_eq_true.2 ⟨l[k],List.getElem_mem hk,?_⟩;simpa[List.getD,hk]using h
theorem aO5(a:Option WT)(cap n:Nat)(l:List Int)(hl:l.length=n)(w:WA)(hr:bI w a l)(hn:n<=1000):
  Calls prog 141 #[sV a n cap,.func (.func 106) #[] #[]] w λe w'=>∃i,e=rT (iI i)/\uX l i/\bW w w':=by
 have HR:Hid (bI w a l):=hr;have HL:Hid (l.length=n):=hl;clear hr hl;go_enter func141,ntmps141;go_wp2_with fail;go_loopw[8] (λt wr=>∃k:Nat,k<=n/\t=iI k/\Hid (∀j,j<k->fP (l.getD j 0)=false)/\Hid (bW w wr)) (λt _=>n-(intOf t).toNat);case atStart=>exact⟨0,kI _,rfl,λj hj=>absurd hj (kV _),jD _ _⟩
 case round=>
  obtain⟨k,hk,rfl,h0,eG⟩:=hrel;by_cases hlt:k<n
  .obtain⟨b,off,rfl,hb,hc⟩:=HR.out j6;have y0:=bc eG.out hb (hc k j6);clear hc;have hz:b<wr.1.size:=kC hb eG.out.size;have kk:(k:Int)<(n:Int):=od;have uU:=aGg (l.getD k 0) wr;have HLT:Hid (k<n):=hlt;by_cases hit:fP (l.getD k 0)=true
   .rw[hit]at uU;have bIj:Hid (uX l k):=.inr ⟨k,j6,rfl,hit⟩;clear hit;exact zH9
   .have bBi:fP (l.getD k 0)=false:=by simpa using hit
    rw[bBi]at uU;have HN:Hid (∀j,j<k+1->fP (l.getD j 0)=false):=λj hj=>by
     rcases jB j k with q|q
     .exact h0.out j q
     .obtain rfl:j=k:=by omega
      exact bBi
    clear hit bBi h0;have m78:=0;exact zH9
  .have hkn:k=n:=by omega
   have HM:Hid (uX l (-1)):=.inl ⟨rfl,λj hj=>h0.out j j6⟩;have kk:decide (k<n)=false:=kD od;clear hkn hlt;go_wp2;go_ret;exact⟨_,rfl,HM.out,eG.out⟩
theorem aGb(a:Option WT)(cap n:Nat)(l:List Int)(hl:l.length=n)(w:WA)(hr:bI w a l)(hn:n<=1000):
  Calls prog 105 #[sV a n cap,.func (.func 106) #[] #[]] w λe w'=>e=rT (.bool (l.any fP))/\bW w w':=by have HF:=aO5 a cap n l hl w hr hn;clear hr hl;obtain⟨B,hB⟩:∃B,l.any fP=B:=⟨_,rfl⟩;have HB:Hid (l.any fP=B):=hB;rw[hB];clear hB;go_enter func105,ntmps105;go_wp2_with fail;refine HF.mono ?_;rintro e w1 ⟨i,rfl,hi,hb⟩;have he:=hi.is;rw[HB.out]at he;clear hi HF;go_wp2;go_ret;exact⟨rfl,hb⟩
def on1(x:Int):Int:=IntKind.u64.wrap (bits .and .u64 (x/2) 6148914691236517205+bits .and .u64 x 6148914691236517205)
def on2(x:Int):Int:=IntKind.u64.wrap (bits .and .u64 (x/4) 3689348814741910323+bits .and .u64 x 3689348814741910323)
def on3(x:Int):Int:=bits .and .u64 (IntKind.u64.wrap (x/16+x)) 1085102592571150095
def on4(x:Int):Int:=IntKind.u64.wrap (x+x/256)
def on5(x:Int):Int:=IntKind.u64.wrap (x+x/65536)
def on6(x:Int):Int:=IntKind.u64.wrap (x+x/4294967296)
def on7(x:Int):Int:=bits .and .i64 (wrap64 x) 127
def M4(x:Int):Int:=on7 (on6 (on5 (on4 (on3 (on2 (on1 x))))))
theorem u64_in(y:Int):0<=IntKind.u64.wrap y/\IntKind.u64.wrap y<=18446744073709551615:=zB5
theorem aRp(y z:Int):0<=bits .and .u64 y z/\bits .and .u64 y z<=18446744073709551615:=u64_in _
theorem aUd(x:Int)(h01:0<=x/\x<=18446744073709551615)(w:WA):Calls prog 101 #[.int .u64 x] w λe w'=>e=rT (iI (M4 x))/\w'=w:=by obtain⟨h0,h1⟩:=h01;have HE:Hid (M4 x=on7 (on6 (on5 (on4 (on3 (on2 (on1 x))))))):=rfl;have e1:IntKind.u64.wrap (bits .and .u64 (x/2) 6148914691236517205+bits .and .u64 x 6148914691236517205)=on1 x:=rfl;have b1:0<=on1 x/\on1 x<=18446744073709551615:=u64_in _;generalize on1 x=y1 at *;have e2:IntKind.u64.wrap (bits .and .u64 (y1/4) 3689348814741910323+bits .and .u64 y1 3689348814741910323)=on2 y1:=rfl;have b2:0<=on2 y1/\on2 y1<=18446744073709551615:=u64_in _;generalize on2 y1=y2 at *;have e3:bits .and .u64 (IntKind.u64.wrap (y2/16+y2)) 1085102592571150095=on3 y2:=rfl;have b3:0<=on3 y2/\on3 y2<=18446744073709551615:=aRp _ _;generalize on3 y2=y3 at *;have e4:IntKind.u64.wrap (y3+y3/256)=on4 y3:=rfl;have b4:0<=on4 y3/\on4 y3<=18446744073709551615:=u64_in _;generalize on4 y3=y4 at *;have e5:IntKind.u64.wrap (y4+y4/65536)=on5 y4:=rfl;have b5:0<=on5 y4/\on5 y4<=18446744073709551615:=u64_in _;generalize on5 y4=y5 at *;have e6:IntKind.u64.wrap (y5+y5/4294967296)=on6 y5:=rfl;have b6:0<=on6 y5/\on6 y5<=18446744073709551615:=u64_in _;generalize on6 y5=y6 at *;have e7:bits .and .i64 (wrap64 y6) 127=on7 y6:=rfl;generalize on7 y6=y7 at *;rw[HE.out];go_enter func101,ntmps101;exact W5
def pcN:Nat->Nat->Nat
 |0,_=>0
 |d+1,x=>x%2+pcN d (x/2)
theorem aYj:∀(d x:Nat),pcN (d+1) x=pcN d x+x/2^d%2:=by
 intro d
 induction d with
 |zero=>intro x;show x%2+0=0+x/1%2;rw[Nat.div_one];omega
 |succ d ih=>
  intro x
  show x%2+pcN (d+1) (x/2)=x%2+pcN d (x/2)+_
  rw[ih (x/2),Nat.div_div_eq_div_mul,Nat.pow_succ,Nat.mul_comm 2]
  omega
def onN(x:Nat):Nat:=
 let n1:=((x/2)&&&6148914691236517205)+(x&&&6148914691236517205)
 let n2:=((n1/4)&&&3689348814741910323)+(n1&&&3689348814741910323)
 let n3:=(n2/16+n2)&&&1085102592571150095
 let n4:=n3+n3/256
 let n5:=n4+n4/65536
 let n6:=n5+n5/4294967296
 n6&&&127
def onL(x:Nat):Nat:=(λn1=>(λn2=>(λn3=>(λn4=>(λn5=>Nat.land (Nat.add n5 (Nat.div n5 4294967296)) 127) (Nat.add n4 (Nat.div n4 65536))) (Nat.add n3 (Nat.div n3 256))) (Nat.land (Nat.add (Nat.div n2 16) n2) 1085102592571150095)) (Nat.add (Nat.land (Nat.div n1 4) 3689348814741910323) (Nat.land n1 3689348814741910323))) (Nat.add (Nat.land (Nat.div x 2) 6148914691236517205) (Nat.land x 6148914691236517205))
def w7:Nat->Nat->Nat->Bool
 |0,x,c=>Nat.beq (onL x) c
 |d+1,x,c=>cond (w7 d (Nat.mul 2 x) c) (w7 d (Nat.succ (Nat.mul 2 x)) (Nat.succ c)) false
theorem aQ0:w7 16 0 0=true:=oh
theorem aUb:∀d b c,w7 d b c=true->∀x,x/2^d=b->onL x=c+pcN d x:=by
 intro d
 induction d with
 |zero=>
  intro b c h x hx
  rw[Nat.pow_zero,Nat.div_one]at hx
  subst hx
  exact Nat.eq_of_beq_eq_true h
 |succ d ih=>
  intro b c h x hx
  have h2:w7 d (2*b) c=true/\w7 d (2*b+1) (c+1)=true:=by
   have h':cond (w7 d (2*b) c) (w7 d (2*b+1) (c+1)) false=true:=h
   cases q:w7 d (2*b) c
   .rw[q]at h';cases h'
   .rw[q]at h';exact⟨rfl,h'⟩
  have e:x/2^(d+1)=x/2^d/2:=by rw[Nat.pow_succ,Nat.div_div_eq_div_mul]
  rw[e]at hx
  rw[aYj]
  rcases Nat.mod_two_eq_zero_or_one (x/2^d)with q|q
  .rw[q,ih (2*b) c h2.1 x od]
   omega
  .rw[q,ih (2*b+1) (c+1) h2.2 x od]
   omega
theorem bCn{x:Nat}(h:x<65536):onN x=pcN 16 x:=by have:=aUb 16 0 0 aQ0 x (Nat.div_eq_of_lt h);rw[Nat.zero_add]at this;exact this
theorem aD3{n:Nat}(h:n<18446744073709551616):IntKind.u64.wrap (n:Int)=(n:Int):=zB5
theorem aQ1{x:Nat}(h:x<65536):M4 x=(onN x:Nat):=by
 have a1:((x/2)&&&6148914691236517205)<=x/2:=Nat.and_le_left;have a2:(x&&&6148914691236517205)<=x:=Nat.and_le_left;have c1:on1 x=((((x/2)&&&6148914691236517205)+(x&&&6148914691236517205):Nat):Int):=by unfold on1;rw[show((x:Int)/2)=((x/2:Nat):Int)by omega,show(6148914691236517205:Int)=((6148914691236517205:Nat):Int)from rfl,u64_and_nat _ _ od og,u64_and_nat _ _ od og,<-Int.natCast_add];exact aD3 od
 unfold M4 onN;rw[c1];have iU:(x/2&&&6148914691236517205)+(x&&&6148914691236517205)<=131072:=od;generalize((x/2)&&&6148914691236517205)+(x&&&6148914691236517205)=n1 at *;have b1:((n1/4)&&&3689348814741910323)<=n1/4:=Nat.and_le_left;have b2:(n1&&&3689348814741910323)<=n1:=Nat.and_le_left;have c2:on2 n1=((((n1/4)&&&3689348814741910323)+(n1&&&3689348814741910323):Nat):Int):=by unfold on2;rw[show((n1:Int)/4)=((n1/4:Nat):Int)by omega,show(3689348814741910323:Int)=((3689348814741910323:Nat):Int)from rfl,u64_and_nat _ _ od og,u64_and_nat _ _ od og,<-Int.natCast_add];exact aD3 od
 rw[c2];simp only[];have hn2:(n1/4&&&3689348814741910323)+(n1&&&3689348814741910323)<=262144:=od;generalize((n1/4)&&&3689348814741910323)+(n1&&&3689348814741910323)=n2 at *;have d1:((n2/16+n2)&&&1085102592571150095)<=n2/16+n2:=Nat.and_le_left;have c3:on3 n2=(((n2/16+n2)&&&1085102592571150095:Nat):Int):=by unfold on3;rw[show((n2:Int)/16+n2)=((n2/16+n2:Nat):Int)by omega,aD3 od,show(1085102592571150095:Int)=((1085102592571150095:Nat):Int)from rfl,u64_and_nat _ _ od og]
 rw[c3];generalize(n2/16+n2)&&&1085102592571150095=n3 at *;have c4:on4 n3=((n3+n3/256:Nat):Int):=by unfold on4;rw[show((n3:Int)+n3/256)=((n3+n3/256:Nat):Int)by omega];exact aD3 od
 rw[c4];obtain⟨n4,hn4⟩:∃n4,n3+n3/256=n4:=⟨_,rfl⟩;rw[hn4];have c5:on5 n4=((n4+n4/65536:Nat):Int):=by unfold on5;rw[show((n4:Int)+n4/65536)=((n4+n4/65536:Nat):Int)by omega];exact aD3 od
 rw[c5];obtain⟨n5,hn5⟩:∃n5,n4+n4/65536=n5:=⟨_,rfl⟩;rw[hn5];have c6:on6 n5=((n5+n5/4294967296:Nat):Int):=by unfold on6;rw[show((n5:Int)+n5/4294967296)=((n5+n5/4294967296:Nat):Int)by omega];exact aD3 od
 rw[c6];obtain⟨n6,hn6⟩:∃n6,n5+n5/4294967296=n6:=⟨_,rfl⟩;rw[hn6];unfold on7;rw[show wrap64 ((n6:Nat):Int)=((n6:Nat):Int)by unfold wrap64;omega,show(127:Int)=((127:Nat):Int)from rfl,aGu _ _ od og]
theorem aQ8:∀(n x:Nat),(List.range n).countP (aX (x:Int))=pcN n x:=by
 intro n
 induction n with
 |zero=>intro x;rfl
 |succ n ih=>
  intro x
  rw[List.range_succ_eq_map,List.countP_cons,List.countP_map]
  have e:(aX (x:Int)∘Nat.succ)=aX ((x/2:Nat):Int):=by
   funext j
   show aX (x:Int) (j+1)=aX ((x/2:Nat):Int) j
   unfold aX
   have:(x:Int)/2^(j+1)=((x/2:Nat):Int)/2^j:=by
    rw[show((x/2:Nat):Int)=(x:Int)/2 by omega,Int.pow_succ,Int.mul_comm,<-Int.ediv_ediv_of_nonneg og]
   rw[this]
  rw[e,ih]
  show pcN n (x/2)+_=x%2+pcN n (x/2)
  have:aX (x:Int) 0=decide (x%2=1):=by
   unfold aX
   rw[Int.pow_zero,Int.ediv_one]
   congr 1
   apply propext
   omega
  rw[this]
  rcases Nat.mod_two_eq_zero_or_one x with q|q
  .rw[q];simp
  .rw[q];simp;omega
theorem aUk:∀(d n x:Nat),x<2^n->pcN (n+d) x=pcN n x:=by
 intro d n
 induction n with
 |zero=>
  intro x hx
  have:x=0:=by simpa using hx
  subst this
  rw[Nat.zero_add]
  show pcN d 0=0
  induction d with
  |zero=>rfl
  |succ d ih=>show 0%2+pcN d (0/2)=0;rw[Nat.zero_div,ih]
 |succ n ih=>
  intro x hx
  rw[show n+1+d=(n+d)+1 by omega]
  show x%2+pcN (n+d) (x/2)=x%2+pcN n (x/2)
  rw[ih (x/2) (by rw[Nat.pow_succ]at hx;omega)]
theorem aKt{x n:Nat}(hn:n<=16)(h:x<2^n):M4 x=((List.range n).countP (aX (x:Int)):Nat):=by have hx:x<65536:=kC h (Nat.pow_le_pow_right (n:=2) og hn);have:=aUk (16-n) n x h;rw[show n+(16-n)=16 by omega]at this;rw[aQ1 hx,bCn hx,aQ8,this]
