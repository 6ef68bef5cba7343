import Derived.Test.YtknimkfdnanejaaGreatDoorZT7
import Derived.Test.YtknimkfdnanejaaGreatDoorZW4
namespace Go.Proofs.YtknimkfdnanejaaGreatDoor
open Go.RowKit Go.Proofs.Tryz
set_option maxRecDepth 100000
set_option maxHeartbeats 16000000
def pO:Nat->Nat->List Int
 |0,n=>[(n:Int)]
 |k+1,n=>if n<128 then[(n:Int)]else((n%128:Nat)+128:Int)::pO k (n/128)
theorem uF:∀k n,1<=(pO k n).length/\(pO k n).length<=k+1
 |0,n=>by simp[pO]
 |k+1,n=>by
  unfold pO;split
  ·simp
  ·have:=uF k (n/128);simp;omega
theorem Tryz.infoByte:(Tryz.prog.info? 5).map (fun i=>(i.zero,i.size,i.bytes))=some (some (.int .u8 0),1,1):=by kernel_rfl
def bX(nd fr tq:Nat->Int)(k:Nat):List Int:=(List.range k).flatMap fun j=>[nd j,fr j,tq j]
theorem tI(nd fr tq:Nat->Int)(k:Nat):bX nd fr tq (k+1)=bX nd fr tq k++[nd k,fr k,tq k]:=by simp[bX,List.range_succ,List.flatMap_append]
theorem sA(nd fr tq:Nat->Int)(k:Nat):(bX nd fr tq k).length=3*k:=by
 induction k with
 |zero=>simp[bX]
 |succ k ih=>rw[tI,List.length_append,ih];simp;omega
def fN(lf lt lb lq:Nat->Int)(k:Nat):List Int:=(List.range k).flatMap fun j=>[lf j,lt j,lb j,lq j]
theorem yU(lf lt lb lq:Nat->Int)(k:Nat):fN lf lt lb lq (k+1)=fN lf lt lb lq k++[lf k,lt k,lb k,lq k]:=by simp[fN,List.range_succ,List.flatMap_append]
theorem F6(lf lt lb lq:Nat->Int)(k:Nat):(fN lf lt lb lq k).length=4*k:=by
 induction k with
 |zero=>simp[fN]
 |succ k ih=>rw[yU,List.length_append,ih];simp;omega
def dL(L:List Int)(k:Nat):List Int:=(L.take k).flatMap fun x=>pO 5 x.toNat
theorem tB(L:List Int)(k:Nat)(h:k<L.length):dL L (k+1)=dL L k++pO 5 (L[k]).toNat:=by unfold dL;rw[List.take_succ_eq_append_getElem h,List.flatMap_append];simp
theorem uV(L:List Int):∀k,k<=L.length->(dL L k).length<=6*k:=by
 intro k
 induction k with
 |zero=>simp[dL]
 |succ k ih=>
  intro h
  rw[tB L k od,List.length_append]
  have:=uF 5 (L[k]).toNat
  have:=ih od
  omega
theorem aGd(L:List Int)(k:Nat)(h:k<L.length):1<=(dL L (k+1)).length:=by rw[tB L k h,List.length_append];have:=uF 5 (L[k]).toNat;omega
theorem aOm(l:List Int):∀u∈l.map (Value.int .u8),u.oneCell'=true:=fun u hu=>by simp at hu;obtain⟨a,_,rfl⟩:=hu;rfl
def dP(nodes aF aJ aC aH round frame:Int)(ns nl nw:Nat)(nd fr tq lf lt lb lq wp wf wt:Nat->Int):List Int:=((([nodes,aF,aJ,aC,aH,round,(ns:Int)]++bX nd fr tq ns++[(nl:Int)])++fN lf lt lb lq nl)++[frame,(nw:Int)]++bX wp wf wt nw)
theorem qM(nodes aF aJ aC aH round frame:Int)(ns nl nw:Nat)(nd fr tq lf lt lb lq wp wf wt:Nat->Int):(dP nodes aF aJ aC aH round frame ns nl nw nd fr tq lf lt lb lq wp wf wt).length=10+3*ns+4*nl+3*nw:=by simp[dP,sA,F6];omega
theorem aF4(f s n d:Int)(w:World)(k1:f<0):
  Calls prog 108 #[.agg #[iI f,iI s,iI n,iI d]] w fun e w'=>e=rT (.bool false)/\bW w w':=by have hn:decide (0<=f)=false:=kC od;exact zGq
theorem aF5(f s n d:Int)(w:World)(h1:0<=f)(k2:1099511627776<f):
  Calls prog 108 #[.agg #[iI f,iI s,iI n,iI d]] w fun e w'=>e=rT (.bool false)/\bW w w':=by have hn:decide (f<=1099511627776)=false:=kC od;exact zGq
theorem aF6(f s n d:Int)(w:World)(h1:0<=f)(h2:f<=1099511627776)(k3:s< -1099511627776):
  Calls prog 108 #[.agg #[iI f,iI s,iI n,iI d]] w fun e w'=>e=rT (.bool false)/\bW w w':=by have hn:decide (-1099511627776<=s)=false:=kC od;exact zGq
theorem aF7(f s n d:Int)(w:World)(h1:0<=f)(h2:f<=1099511627776)(h3:-1099511627776<=s)(k4:1099511627776<s):
  Calls prog 108 #[.agg #[iI f,iI s,iI n,iI d]] w fun e w'=>e=rT (.bool false)/\bW w w':=by have hn:decide (s<=1099511627776)=false:=kC od;exact zGq
theorem aF8(f s n d:Int)(w:World)(h1:0<=f)(h2:f<=1099511627776)(h3:-1099511627776<=s)(h4:s<=1099511627776)(k5:n<1):
  Calls prog 108 #[.agg #[iI f,iI s,iI n,iI d]] w fun e w'=>e=rT (.bool false)/\bW w w':=by have hn:decide (1<=n)=false:=kC od;exact zGq
theorem aF9(f s n d:Int)(w:World)(h1:0<=f)(h2:f<=1099511627776)(h3:-1099511627776<=s)(h4:s<=1099511627776)(h5:1<=n)(k6:1000000<n):
  Calls prog 108 #[.agg #[iI f,iI s,iI n,iI d]] w fun e w'=>e=rT (.bool false)/\bW w w':=by have hn:decide (n<=1000000)=false:=kC od;exact zGq
theorem aFa(f s n d:Int)(w:World)(h1:0<=f)(h2:f<=1099511627776)(h3:-1099511627776<=s)(h4:s<=1099511627776)(h5:1<=n)(h6:n<=1000000)(k7:d<1):
  Calls prog 108 #[.agg #[iI f,iI s,iI n,iI d]] w fun e w'=>e=rT (.bool false)/\bW w w':=by have hn:decide (1<=d)=false:=kC od;exact zGq
theorem aFb(f s n d:Int)(w:World)(h1:0<=f)(h2:f<=1099511627776)(h3:-1099511627776<=s)(h4:s<=1099511627776)(h5:1<=n)(h6:n<=1000000)(h7:1<=d)(k8:1000000<d):
  Calls prog 108 #[.agg #[iI f,iI s,iI n,iI d]] w fun e w'=>e=rT (.bool false)/\bW w w':=by have hn:decide (d<=1000000)=false:=kC od;exact zGq
theorem aFc(f s n d:Int)(w:World)(h1:0<=f)(h2:f<=1099511627776)(h3:-1099511627776<=s)(h4:s<=1099511627776)(h5:1<=n)(h6:n<=1000000)(h7:1<=d)(h8:d<=1000000)(k9:2*d<n):
  Calls prog 108 #[.agg #[iI f,iI s,iI n,iI d]] w fun e w'=>e=rT (.bool false)/\bW w w':=by have hn:decide (n<=2*d)=false:=kC od;exact zGq
theorem aBz(f s n d:Int)(w:World)(h1:0<=f)(h2:f<=1099511627776)(h3:-1099511627776<=s)(h4:s<=1099511627776)(h5:1<=n)(h6:n<=1000000)(h7:1<=d)(h8:d<=1000000)(h9:n<=2*d)(k10:2*n<d):
  Calls prog 108 #[.agg #[iI f,iI s,iI n,iI d]] w fun e w'=>e=rT (.bool false)/\bW w w':=by have hn:decide (d<=2*n)=false:=kC od;have wC:decide (d<=n*2)=false:=kC od;exact zGq
theorem aFd(f s n d:Int)(w:World)(h:cV f s n d=true):
  Calls prog 108 #[.agg #[iI f,iI s,iI n,iI d]] w fun e w'=>e=rT (.bool true)/\bW w w':=by obtain⟨h1,h2,h3,h4,h5,h6,h7,h8,h9,h10⟩:=iK h;clear h;have wC:decide (d<=n*2)=true:=kD od;exact zGq
theorem aIj(f s n d:Int)(w:World)(h:cV f s n d=false):
  Calls prog 108 #[.agg #[iI f,iI s,iI n,iI d]] w fun e w'=>e=rT (.bool false)/\bW w w':=zJ5
section
variable{E:Value}{i k:Int}
abbrev fX(k:Int):Ending:=.panicked [{ v:=.iface 25 (iI k),recovered:=false }]
theorem sY(k:Int)(w:World):Calls prog 45 #[.bool true,iI k] w fun e w'=>e=rT (tU #[])/\w'=w:=by go_enter func45,ntmps45;go_wp2;exact bodyPost_end (v:=tU #[]) (by simp[results,results45,go_sem]) rfl ⟨rfl,rfl⟩
theorem tZ(k:Int)(w:World):Calls prog 45 #[.bool false,iI k] w fun e w'=>e=fX k/\w'=w:=by go_enter func45,ntmps45;go_wp2;exact⟨rfl,rfl,rfl⟩
theorem fR{w u:World}{q:Nat}(h:Below (w.drewN q).heap.size (w.drewN q) u):bW w u:=⟨h.os,h.tape,h.output,h.size,h.block⟩
theorem aW6(w:World)(hg:Told w)(h:jK w E k i):Calls prog 120 #[E] w fun e w'=>e=rT (iI k)/\bW w w':=by
 rcases h with⟨rfl,rfl,_⟩|⟨rfl,_⟩|⟨b,rfl,_,h1,_⟩
 ·exact aJd w
 ·exact bDx k w hg
 ·exact aZu k _ w hg h1
theorem rA(w:World):Calls prog 70 #[.nilIface] w fun e w'=>e=rT (tU #[])/\bW w w':=by
 have ht:=fun u=>aJd u;have ha:=fun u=>sY 0 u;go_enter func70,ntmps70;go_wp2_with fail;go_region_held3(fun _=>True) (exact trivial) (first
  |(go_at_call 120;refine(ht _).mono ?_;rintro ev u1 ⟨rfl,C1⟩)
  |(go_at_call 45;refine(ha _).mono ?_;rintro ev u2 ⟨rfl,rfl⟩))
 exact bodyPost_end (v:=tU #[]) (by simp[results,results70,go_sem]) rfl ⟨rfl,fR (q:=1) C1⟩
theorem oH(w:World)(hg:Told w)(h:jK w E k i)(hk:k≠0):Calls prog 70 #[E] w fun e w'=>e=fX k/\bW w w':=by
 have ha:=fun u=>tZ k u;obtain⟨t,x,rfl⟩:∃t x,E=.iface t x:=by
  rcases h with⟨_,h,_⟩|⟨h,_⟩|⟨b,h,_⟩
  ·exact absurd h hk
  ·exact⟨_,_,h⟩
  ·exact⟨_,_,h⟩
 have ht:=fun(q:Nat)=>aW6 (w.drewN q) hg h;go_enter func70,ntmps70;go_wp2_with fail;exact zOb
theorem Q0(w:World)(hg:Told w)(h:jK w E k i):Calls prog 70 #[E] w fun e w'=>e=(if k=0 then rT (tU #[])else fX k)/\bW w w':=by
 by_cases hk:k=0
 ·rw[kJ hk];rcases h with⟨rfl,_,_⟩|⟨_,h,_⟩|⟨b,_,h,_⟩
  ·exact rA w
  ·exact absurd hk h
  ·exact absurd hk h
 ·rw[kI hk];exact oH w hg h hk
theorem aAt(v:Value)(w:World):Calls prog 66 #[v,.nilIface] w fun e w'=>e=rT v/\bW w w':=by have ha:=rA w;go_enter func66,ntmps66;exact zCa
theorem aC4(v:Value)(w:World)(hg:Told w)(h:jK w E k i)(hk:k≠0):Calls prog 66 #[v,E] w fun e w'=>e=fX k/\bW w w':=by have ha:=oH w hg h hk;go_enter func66,ntmps66;exact zCw
theorem aFh(v:Value)(w:World):Calls prog 68 #[v,.nilIface] w fun e w'=>e=rT v/\bW w w':=by have ha:=rA w;go_enter func68,ntmps68;exact zCa
theorem aIr(v:Value)(w:World)(hg:Told w)(h:jK w E k i)(hk:k≠0):Calls prog 68 #[v,E] w fun e w'=>e=fX k/\bW w w':=by have ha:=oH w hg h hk;go_enter func68,ntmps68;exact zCw
theorem aFj(v:Value)(w:World):Calls prog 72 #[v,.nilIface] w fun e w'=>e=rT v/\bW w w':=by have ha:=rA w;go_enter func72,ntmps72;exact zCa
theorem aIt(v:Value)(w:World)(hg:Told w)(h:jK w E k i)(hk:k≠0):Calls prog 72 #[v,E] w fun e w'=>e=fX k/\bW w w':=by have ha:=oH w hg h hk;go_enter func72,ntmps72;exact zCw
theorem aFi(v:Value)(w:World):Calls prog 79 #[v,.nilIface] w fun e w'=>e=rT v/\bW w w':=by have ha:=rA w;go_enter func79,ntmps79;exact zCa
theorem aIs(v:Value)(w:World)(hg:Told w)(h:jK w E k i)(hk:k≠0):Calls prog 79 #[v,E] w fun e w'=>e=fX k/\bW w w':=by have ha:=oH w hg h hk;go_enter func79,ntmps79;exact zCw
end
def qJ(tq:Nat->Int)(aJ:Int)(k:Nat):Int:=if k=0 then 0 else tq (k-1)+aJ+1
theorem xM(nd fr tq:Nat->Int)(nodes aJ round:Int)(k:Nat):
  dH nd fr tq nodes aJ round k=if nK (fr k) (tq k) (qJ tq aJ k) (round-aJ-1)≠0 then nK (fr k) (tq k) (qJ tq aJ k) (round-aJ-1)else if nd k<0\/nodes-1<nd k then 7 else 0:=by
 have e:((k=0/\fr k<0)\/(0<k/\fr k<=tq (k-1)+aJ))↔fr k<qJ tq aJ k:=by unfold qJ;exact zCj
 unfold dH nK;by_cases h1:tq k<=fr k
 ·simp[h1]
 ·rw[kI h1];by_cases h2:fr k<qJ tq aJ k
  ·simp[e,h1,h2]
  ·simp only[e];rw[kI h2];by_cases h3:round-aJ-1<tq k
   ·simp[h1,h2,h3]
   ·simp[h1,h2,h3]
theorem aRs{fr tq least most:Int}(h:nK fr tq least most=0):fr<tq/\least<=fr/\tq<=most:=by
 unfold nK at h;by_cases h1:tq<=fr
 ·simp[h1]at h
 ·rw[kI h1]at h;by_cases h2:fr<least
  ·simp[h2]at h
  ·rw[kI h2]at h;by_cases h3:most<tq
   ·simp[h3]at h
   ·omega
theorem aBm{nd fr tq:Nat->Int}{nodes aJ round:Int}(hsk:0<=aJ){k:Nat}(h:∀j,j<k->dH nd fr tq nodes aJ round j=0):0<=qJ tq aJ k/\qJ tq aJ k<=max 0 round:=by
 unfold qJ;by_cases h0:k=0
 ·rw[kJ h0];omega
 ·rw[kI h0];have:=K5 hsk h (k-1) od;omega
theorem aRr(nodes aF aJ aC aH round frame:Int)(sa la wa:Option Addr)(ns sc nl lc nw wc:Nat)(w:World)
  (a1:1<=nodes)(a2:nodes<=16)(b1:0<=aJ)(b2:aJ<=137438953472)(c1:1<=round)(c2:round<=137438953472)(d1:ns<=32)
  (nd fr tq:Nat->Int)(hs:dX w sa ns nd fr tq)(e i:Int)(hF:bY (dH nd fr tq nodes aJ round) ns e i):
  Calls prog 156 #[.agg #[iI nodes,iI aF,iI aJ,iI aC,iI aH,iI round,sV sa ns sc,sV la nl lc,iI frame,sV wa nw wc]] w fun ev w'=>∃E,ev=rT E/\U3 w' E e i/\bW w w':=by have HF:Hid (bY (dH nd fr tq nodes aJ round) ns e i):=hF;exact zIx
def aD9(b:Nat)(p q r s:Int)(u:World):Prop:=
 u.cell? (aA b 0)=some (iI p)/\u.cell? (aA b 1)=some (iI q)/\u.cell? (aA b 2)=some (iI r)/\u.cell? (aA b 3)=some (iI s)
theorem aD9.below{b:Nat}{p q r s:Int}{u u':World}(h:aD9 b p q r s u)(hb:bW u u'):aD9 b p q r s u':=by obtain⟨h0,h1,h2,h3⟩:=h;exact⟨aO h0 hb,aO h1 hb,aO h2 hb,aO h3 hb⟩
theorem bIu(p q r s:Int)(w:World)(t:TypeId):aD9 w.heap.size p q r s (w.alloc (.cells #[iI p,iI q,iI r,iI s] t))/\bW w (w.alloc (.cells #[iI p,iI q,iI r,iI s] t)):=
 ⟨⟨oh,oh,oh,oh⟩,(kX _ _).alloc (kF _) _⟩
theorem aTy(lf lt lb lq nodes pw:Int)(hit:Bool)(w:World)(n1:1<=nodes)(n2:nodes<=16)(hpw:(2:Int)^nodes.toNat=pw)(p1:2<=pw)(p2:pw<=65536)(N4:0<=lf->lf<=15->hit=(bits BinOp.and .i64 lt (2^lf.toNat) !=0)):
  Calls prog 199 #[.agg #[iI lf,iI lt,iI lb,iI lq],iI nodes] w fun ev w'=>ev=rT (iI (dC (fun _=>lf) (fun _=>lt) (fun _=>lb) (fun _=>lq) (fun _=>hit) nodes pw 0))/\bW w w':=by
 have HE:Hid (∀c,dC (fun _=>lf) (fun _=>lt) (fun _=>lb) (fun _=>lq) (fun _=>hit) nodes pw 0=c->Ending.returned (iI c)=rT (iI (dC (fun _=>lf) (fun _=>lt) (fun _=>lb) (fun _=>lq) (fun _=>hit) nodes pw 0))):=fun c h=>by rw[h]
 have HH:Hid (0<=lf->lf<=15->hit=(bits BinOp.and .i64 lt (2^lf.toNat) !=0)):=N4;have HPW:Hid ((2:Int)^nodes.toNat=pw):=hpw;clear N4 hpw;obtain⟨hc,hV⟩:=bIu lf lt lb lq w 96;go_enter func199,ntmps199;go_wp2_with fail;generalize w.alloc (.cells #[iI lf,iI lt,iI lb,iI lq] 96)=V at hc hV⊢;have hW:bW V V:=kX _ _;obtain⟨c0,c1,c2,c3⟩:=hc.below hW;have wn:IntKind.i64.wrap (nodes-1)=nodes-1:=vK _ od od;by_cases a1:0<=lf/\lf<=nodes-1;rotate_left
 ·have hd:decide (0<=lf/\lf<=nodes-1)=false:=kC a1;have hE:Hid (dC (fun _=>lf) (fun _=>lt) (fun _=>lb) (fun _=>lq) (fun _=>hit) nodes pw 0=7):=N7 od;clear a1;refine wp_region_held_drew (S:=fun u=>u.cell? (aA w.heap.size 0)=some (iI lf)) og On (fun aG=>?_);refine tk 0 aG ?_;refine tk 1 aG ?_;refine tk 3 aG ?_;refine tk 4 aG ?_;refine Y5 2 5 (fun K hK=>?_) fun K hK=>?_
  ·exact zNr
  ·exact zKj
 have hd1:decide (0<=lf/\lf<=nodes-1)=true:=kD a1;obtain⟨a2,a3⟩:=a1;rename_i Q1 K2 k2 K1 k1;have aSo:∀(t5 t6 t7 t8 t9 P5 t11:Value)(u:World),bW V u->Exit.then K1 (Exit.then K2 Q1) .normal ⟨#[.agg #[iI lf,iI lt,iI lb,iI lq],iI nodes,pP w.heap.size,undef,iI 0,t5,t6,t7,t8,t9,P5,t11,.bool false,undef,undef,undef,undef,undef,undef,undef,undef,undef,undef,undef,undef,undef,undef,undef,undef,undef,undef,undef,undef,undef,undef,undef,undef,undef,undef,undef,undef,undef,undef,undef,undef],[]⟩ u:=by
  intro t5 t6 t7 t8 t9 P5 t11 u hW;clear c0 c1 c2 c3 hd1;obtain⟨c0,c1,c2,c3⟩:=hc.below hW;go_wp2_with fail;have pe:=HPW.out;have wpw:IntKind.i64.wrap pw=pw:=vK _ od od;have wp1:IntKind.i64.wrap (pw-1)=pw-1:=vK _ od od;by_cases b1:1<=lt/\lt<=pw-1;rotate_left
  ·have hd:decide (1<=lt/\lt<=pw-1)=false:=kC b1;have hE:Hid (dC (fun _=>lf) (fun _=>lt) (fun _=>lb) (fun _=>lq) (fun _=>hit) nodes pw 0=1):=N6 a2 a3 od;clear b1;exact zJe
  have hd1:decide (1<=lt/\lt<=pw-1)=true:=kD b1;have w2:=HH.out a2 od;have w3:=aLu lf.toNat od;obtain⟨pf,hpf⟩:∃pf,(2:Int)^lf.toNat=pf:=⟨_,rfl⟩;rw[hpf]at w2 w3;have u5:IntKind.i64.wrap pf=pf:=vK pf od od;cases u6:(bits BinOp.and .i64 lt pf !=0);rotate_left
  ·rw[u6]at w2;have hE:Hid (dC (fun _=>lf) (fun _=>lt) (fun _=>lb) (fun _=>lq) (fun _=>hit) nodes pw 0=1):=N6 a2 a3 (.inr (.inr w2));clear b1 w2 w3;have m26:=0;exact zJe
  rw[u6]at w2;have w1:Hid (¬(lt<1\/pw-1<lt\/hit=true)):=by show ¬_;rw[w2];simp;omega
  clear b1 w2 w3;rename_i K3 k3 K4 k4;have aSp:∀(t5 t6 t7 t8 t9 P5 t11 t12 t13 Y8 t15 t16 t17 t18 t19 t20 t21 t22 t23 t24 t25 t26 t27 t28 t29:Value)(u:World),bW V u->Exit.then K4 (Exit.then K3 Q1) .normal ⟨#[.agg #[iI lf,iI lt,iI lb,iI lq],iI nodes,pP w.heap.size,undef,iI 0,t5,t6,t7,t8,t9,P5,t11,t12,t13,Y8,t15,t16,t17,t18,t19,t20,t21,t22,t23,t24,t25,t26,t27,t28,t29,.bool false,undef,undef,undef,undef,undef,undef,undef,undef,undef,undef,undef,undef,undef,undef],[]⟩ u:=by
   clear hd1 c0 c1 c2 c3 hW pe wpw wp1 hpf u5 u6 wn;intro t5 t6 t7 t8 t9 P5 t11 t12 t13 Y8 t15 t16 t17 t18 t19 t20 t21 t22 t23 t24 t25 t26 t27 t28 t29 u hW;obtain⟨c0,c1,c2,c3⟩:=hc.below hW;go_wp2_with fail;by_cases e1:1<=lb/\lb<=137438953472;rotate_left
   ·have hd:decide (1<=lb/\lb<=137438953472)=false:=kC e1;exact zJa
   have hd1:decide (1<=lb/\lb<=137438953472)=true:=kD e1;by_cases e2:1<=lq/\lq<=16;rotate_left
   ·have J1:decide (1<=lq/\lq<=16)=false:=kC e2;have m22:=0;exact zJa
   have J1:decide (1<=lq/\lq<=16)=true:=kD e2;have hE:Hid (dC (fun _=>lf) (fun _=>lt) (fun _=>lb) (fun _=>lq) (fun _=>hit) nodes pw 0=0):=aCp a2 a3 w1.out e1 e2;clear e1 e2;exact zPh
  exact zM5
 refine wp_region_held_drew (S:=fun u=>u.cell? (aA w.heap.size 0)=some (iI lf)) og On (fun aG=>?_);refine tk 0 aG ?_;refine tk 1 aG ?_;refine tk 3 aG ?_;refine tk 4 aG ?_;refine Y5 2 5 (fun K hK=>?_) fun K hK=>?_
 ·have m77:=0;exact zNr
 ·have m67:=0;exact zKj
section
variable{I aC aF aH aJ frame nodes pw round:Int}{fr lb lf lq lt nd tq wf wp wt:Nat->Int}{j nl ns nw:Nat}
theorem P7(h:fH wp wf wt frame j=0):wf j<wt j/\wt j<=frame/\(j=0->0<=wf j)/\(0<j->wt (j-1)<=wf j)/\0<=wp j/\wp j<=5:=by
 unfold fH at h;by_cases h1:wt j<=wf j
 ·simp[h1]at h
 ·rw[kI h1]at h;by_cases h2:(j=0/\wf j<0)\/(0<j/\wf j<wt (j-1))
  ·simp[h2]at h
  ·rw[kI h2]at h;by_cases h3:frame<wt j
   ·simp[h3]at h
   ·rw[kI h3]at h;by_cases h4:wp j<0\/5<wp j
    ·simp[h4]at h
    ·omega
theorem bA3{k:Nat}(h:∀j,j<k->fH wp wf wt frame j=0):∀j,j<k->0<=wf j/\wf j<wt j/\wt j<=frame:=by
 intro j
 induction j with
 |zero=>
  intro hj
  have g:=P7 (h 0 hj)
  exact⟨g.2.2.1 rfl,g.1,g.2.1⟩
 |succ j ih=>
  intro hj
  have g:=P7 (h (j+1) hj)
  have g2:=ih od
  have g3:=g.2.2.2.1 od
  simp at g3
  exact⟨od,g.1,g.2.1⟩
theorem aL1{hit:Nat->Bool}(h:dC lf lt lb lq hit nodes pw j=0):(0<=lf j/\lf j<=nodes-1)/\(1<=lt j/\lt j<=pw-1)/\(1<=lb j/\lb j<=137438953472)/\1<=lq j/\lq j<=16:=by
 unfold dC at h;by_cases h1:lf j<0\/nodes-1<lf j
 ·simp[h1]at h
 ·rw[kI h1]at h;by_cases h2:lt j<1\/pw-1<lt j\/hit j=true
  ·simp[h2]at h
  ·rw[kI h2]at h;by_cases h3:(lb j<1\/137438953472<lb j)\/lq j<1\/16<lq j
   ·simp[h3]at h
   ·omega
theorem aBk(h:dJ nodes aF aJ aC aH round frame ns nl nw=0):
  1<=nodes/\nodes<=16/\0<=aF/\aF<=5/\(0<=aJ/\aJ<=137438953472)/\(0<=aC/\aC<=137438953472)/\(0<=aH/\aH<=137438953472)/\(1<=round/\round<=137438953472)/\(1<=frame/\frame<=137438953472)/\ns<=32/\nl<=8/\nw<=32:=zBs
theorem lS.zero{hit:Nat->Bool}(h:lS nodes aF aJ aC aH round frame ns nl nw nd fr tq lf lt lb lq hit pw wp wf wt 0 I):
  I=-1/\dJ nodes aF aJ aC aH round frame ns nl nw=0/\(∀j,j<ns->dH nd fr tq nodes aJ round j=0)/\(∀j,j<nl->dC lf lt lb lq hit nodes pw j=0)/\(∀j,j<nw->fH wp wf wt frame j=0):=by
 rcases h with⟨h1,h2,_⟩|⟨h0,e1,i1,e2,i2,e3,i3,g1,g2,g3,g4,g5,g6,g7⟩
 ·exact absurd h2.symm h1
 ·have z1:e1=0:=by
   by_cases z:e1=0
   ·exact z
   ·exact absurd ((g4 z).1.symm) z
  have z2:e2=0:=by
   by_cases z:e2=0
   ·exact z
   ·exact absurd ((g5 z1 z).1.symm) z
  have z3:e3=0:=by
   by_cases z:e3=0
   ·exact z
   ·exact absurd ((g6 z1 z2 z).1.symm) z
  have all:∀{f:Nat->Int}{n:Nat}{e i:Int},bY f n e i->e=0->∀j,j<n->f j=0:=by
   intro f n e i hf he;rcases hf with⟨ha,_⟩|⟨_,_,_,_,dM,_⟩
   ·exact ha
   ·exact absurd he dM
  exact⟨(g7 z1 z2 z3).2,h0,all g1 z1,all g2 z2,all g3 z3⟩
theorem aEk{hit:Nat->Bool}(hp:(2:Int)^nodes.toNat=pw)(h:lS nodes aF aJ aC aH round frame ns nl nw nd fr tq lf lt lb lq hit pw wp wf wt 0 I):
  (ns<=32/\nl<=8/\nw<=32)/\∀x∈dP nodes aF aJ aC aH round frame ns nl nw nd fr tq lf lt lb lq wp wf wt,0<=x/\x<=1099511627776:=by
 obtain⟨_,h0,h1,h2,h3⟩:=h.zero;obtain⟨a1,a2,a3,a4,⟨b1,b2⟩,⟨b3,b4⟩,⟨b5,b6⟩,⟨c1,c2⟩,⟨c3,c4⟩,d1,d2,d3⟩:=aBk h0;have hpw:pw<=65536:=by rw[<-hp];exact zGt
 refine⟨⟨d1,d2,d3⟩,fun x hx=>?_⟩;unfold dP at hx;simp only[List.mem_append]at hx;rcases hx with(((hx|hx)|hx)|hx)|hx
 ·rcases hx with hx|hx
  ·simp at hx;omega
  ·exact zMm
 ·simp at hx;omega
 ·obtain⟨j,hj,hx⟩:=List.mem_flatMap.1 hx;have hj:=List.mem_range.1 hj;have g2:=aL1 (h2 j hj);simp at hx;rcases hx with rfl|rfl|rfl|rfl<;>omega
 ·simp at hx;omega
 ·have bKk:=0;exact zMm
end
theorem aEz(f s n d r:Int)(w:World)(h:cV f s n d=false):
  Calls prog 60 #[.agg #[iI f,iI s,iI n,iI d],iI r] w fun e w'=>e=rT (tU #[iI 0,iI 1])/\bW w w':=by have HR:Hid (cV f s n d=false):=h;clear h;go_enter func60,ntmps60;exact zEk
theorem aAq(f s n d r:Int)(w:World)(h:cV f s n d=true)(hr:r<f):
  Calls prog 60 #[.agg #[iI f,iI s,iI n,iI d],iI r] w fun e w'=>e=rT (tU #[iI 0,iI 2])/\bW w w':=by have HR:Hid (cV f s n d=true):=h;clear h;have hn:decide (f<=r)=false:=kC od;go_enter func60,ntmps60;exact zPj
theorem aBy(f s n d r:Int)(w:World)(h:cV f s n d=true)(hr:1099511627776<r):
  Calls prog 60 #[.agg #[iI f,iI s,iI n,iI d],iI r] w fun e w'=>e=rT (tU #[iI 0,iI 2])/\bW w w':=have bGn:=0;zMi
theorem aBx(f s n d r:Int)(w:World)(h:cV f s n d=true)(hr:f<=r)(pE:r<=1099511627776)(hv:1099511627776<s+(r-f)*n/d):
  Calls prog 60 #[.agg #[iI f,iI s,iI n,iI d],iI r] w fun e w'=>e=rT (tU #[iI 0,iI 2])/\bW w w':=zK8
theorem aId(f s n d r:Int)(w:World)(h:cV f s n d=true)(hr:f<=r)(pE:r<=1099511627776)(hv:s+(r-f)*n/d<=1099511627776):
  Calls prog 60 #[.agg #[iI f,iI s,iI n,iI d],iI r] w fun e w'=>e=rT (tU #[iI (s+(r-f)*n/d),iI 0])/\bW w w':=zNv
theorem aPu(nodes aF aJ aC aH round frame:Int)(sa la wa:Option Addr)(ns sc nl lc nw wc:Nat)(w:World)
  (a1:1<=nodes)(a2:nodes<=16)(d2:nl<=8)(lf lt lb lq:Nat->Int)(hs:vY w la nl lf lt lb lq)(hit:Nat->Bool)(pw:Int)(hpw:(2:Int)^nodes.toNat=pw)(p1:2<=pw)(p2:pw<=65536)(N4:∀j,0<=lf j->lf j<=15->hit j=(bits BinOp.and .i64 (lt j) (2^(lf j).toNat) !=0))
  (e i:Int)(hF:bY (dC lf lt lb lq hit nodes pw) nl e i):
  Calls prog 157 #[.agg #[iI nodes,iI aF,iI aJ,iI aC,iI aH,iI round,sV sa ns sc,sV la nl lc,iI frame,sV wa nw wc]] w fun ev w'=>∃E,ev=rT E/\U3 w' E e (1000+i)/\bW w w':=by
 have HF:Hid (bY (dC lf lt lb lq hit nodes pw) nl e i):=hF;have HL:Hid (∀j (u:World),Calls prog 199 #[.agg #[iI (lf j),iI (lt j),iI (lb j),iI (lq j)],iI nodes] u fun ev w'=>ev=rT (iI (dC lf lt lb lq hit nodes pw j))/\bW u w'):=
  fun j u=>aTy (lf j) (lt j) (lb j) (lq j) nodes pw (hit j) u a1 a2 hpw p1 p2 (N4 j)
 clear hF N4 hpw p1 p2;exact zNh
theorem aIh(f s n d l:Int)(w:World)(h:cV f s n d=false):
  Calls prog 61 #[.agg #[iI f,iI s,iI n,iI d],iI l] w fun e w'=>e=rT (tU #[iI 0,iI 1])/\bW w w':=by have HR:Hid (cV f s n d=false):=h;clear h;go_enter func61,ntmps61;exact zEk
theorem aIi(f s n d l:Int)(w:World)(h:cV f s n d=true)(hl:l< -1099511627776):
  Calls prog 61 #[.agg #[iI f,iI s,iI n,iI d],iI l] w fun e w'=>e=rT (tU #[iI 0,iI 2])/\bW w w':=by have HR:Hid (cV f s n d=true):=h;clear h;have hn:decide (-1099511627776<=l)=false:=kC od;go_enter func61,ntmps61;exact zPj
theorem aF3(f s n d l:Int)(w:World)(h:cV f s n d=true)(hl:1099511627776<l):
  Calls prog 61 #[.agg #[iI f,iI s,iI n,iI d],iI l] w fun e w'=>e=rT (tU #[iI 0,iI 2])/\bW w w':=have bKg:=0;zMb
theorem aF2(f s n d l:Int)(w:World)(h:cV f s n d=true)(hl:-1099511627776<=l)(J2:l<=1099511627776)(hv:s+(1099511627776-f)*n/d<l):
  Calls prog 61 #[.agg #[iI f,iI s,iI n,iI d],iI l] w fun e w'=>e=rT (tU #[iI 0,iI 2])/\bW w w':=by have hf:=(iK h).2.1;have m92:=0;exact zK8
theorem aM9(f s n d l T:Int)(w:World)(h:cV f s n d=true)(hl:-1099511627776<=l)(J2:l<=1099511627776)(hT1:f<=T)(hT2:T<=1099511627776)
  (bBt:∀t,f<=t->t<=1099511627776->(l<=s+(t-f)*n/d↔T<=t)):
  Calls prog 61 #[.agg #[iI f,iI s,iI n,iI d],iI l] w fun e w'=>e=rT (tU #[iI T,iI 0])/\bW w w':=by have hf:=(iK h).2.1;have hf0:=(iK h).1;have hM:l<=s+(1099511627776-f)*n/d:=(bBt 1099511627776 hf (Int.le_refl _)).2 hT2;have m46:=0;exact zNv
