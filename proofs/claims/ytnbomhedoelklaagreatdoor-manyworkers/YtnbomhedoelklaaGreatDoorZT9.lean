import Derived.Test.YtnbomhedoelklaaGreatDoorZShelf
import Derived.Test.YtnbomhedoelklaaGreatDoorZT3
import Derived.Test.YtnbomhedoelklaaGreatDoorZW10
import Derived.Lib.OwnBridge
namespace Go.Proofs.YtnbomhedoelklaaGreatDoor
open Go.RowKit Go.Proofs.Tryz
set_option maxRecDepth 99999
set_option maxHeartbeats 0
theorem aMo{w:World}{B g n cap:Nat}{xs:List ByteArray}(own:w.ownsRow B 9 1 (sL g n cap) n (xs.map Value.string))(n0:0<n):
  Calls prog 146 #[sL g n cap,iI 0,iI 1] w λe w'=>e=rT (sL g (n-1) cap)/\w'.ownsRow B 9 1 (sL g (n-1) cap) (n-1) ((xs.drop 1).map Value.string)/\aW g g w w':=by
 rw[<-Lib.map_encStr]at own;obtain⟨g',cap',hv,hg,C3,hcap,hm,hlen,hH⟩:=Lib.holds_of_ownsRow own oe;injection hv with e1 _ e3;injection e1 with e1;injection e1 with e1;subst e1;subst e3;have hc:=Tryz.slices_Delete_string g 0 cap 0 1 (xs.map (λx:ByteArray=>x.data.toList)) w hH od hm od od;rw[hlen]at hc;refine hc.mono ?_;rintro e w' ⟨rfl,q,rfl⟩;refine⟨by rw[Nat.sub_zero],?_,?_⟩
 .have hy:=Lib.ownsRow_putRow (q:=q) (k:=n-1) (ys:=(xs.map (λx:ByteArray=>x.data.toList)).take 0++(xs.map (λx:ByteArray=>x.data.toList)).drop 1++List.replicate (1-0) []) own (by simp at hlen⊢;omega) od;have e2:((xs.map (λx:ByteArray=>x.data.toList)).take 0++(xs.map (λx:ByteArray=>x.data.toList)).drop 1++List.replicate (1-0) []).take (n-1)=(xs.drop 1).map (λx:ByteArray=>x.data.toList):=by rw[List.take_zero,List.nil_append,List.take_append_of_le_length (by simp at hlen⊢;omega),List.take_of_length_le (by simp at hlen⊢;omega),List.map_drop]
  rw[e2,Lib.map_encStr]at hy;exact hy
 .exact⟨rfl,rfl,rfl,by simp[Sort.putRow,Sort.mapBlock,Sort.ahead],λc hc h1 _=>by simp[Sort.putRow,Sort.mapBlock,Sort.ahead,Array.getElem?_modify,Ne.symm h1]⟩
section
variable{B P aQ:Nat}{bag last now queue:Int}
theorem eT.keep{w':WA}{w:WA}{all:List WG}{v:WB}(h:eT w B P bag queue all v aQ last now)(k:Same (P::v.ownBlock.toList) w w'):eT w' B P bag queue all v aQ last now:=by have hp:P∈P::v.ownBlock.toList:=kO (.inl rfl);exact⟨(k.cell (p:=(aA P 0)) hp).trans h.c0,(k.cell (p:=(aA P 1)) hp).trans h.c1,(k.cell (p:=(aA P 2)) hp).trans h.c2,(k.cell (p:=(aA P 3)) hp).trans h.c3,(k.cell (p:=(aA P 4)) hp).trans h.c4,(k.cell (p:=(aA P 5)) hp).trans h.c5,λi=>(k.frozen (p:=(aA P i)) hp).trans (h.z i),sX h.own k (λg hg=>kO (.inr (by simpa using hg))),h.lp,kH h.lb k.1,h.we⟩
theorem aQ4(k:Nat):Int.tmod (mR k) 255+1=mR (k+1):=by have h:=aN9 k;rw[Int.tmod_eq_emod_of_nonneg h.1,<-aCp];unfold N9;split<;>omega
theorem aHz{w:WA}{all:List WG}{v:WB}(h:eT w B P bag queue all v aQ last now)(t:Int)(ht0:0<=t)(ht:t<=1099511627776)(hb0:0<=bag)(hb:bag<=1099511627776)(hw:aQ<all.length)(ha:all.length<=10000000):
  Calls prog 219 #[pP P,iI t] w λe w'=>e=rT (.agg #[iI (mR aQ),sT (all.getD aQ AU)])/\∃v',eT w' B P bag queue all v' (aQ+1) t now/\aW P (v.ownBlock.getD P) w w'/\v'.ownBlock=v.ownBlock:=by
 obtain⟨c0,c1,c2,c3,c4,c5,z,own,lp,lb,we⟩:=h;have hv:v≠sV none 0 0:=by
  rintro rfl;have:=own.1;rcases own.2 with⟨_,e⟩|⟨g,cap,cur,e,_⟩
  .omega
  .cases e
 rw[<-Lib.map_encStr]at own;obtain⟨g,cap,rfl,hg,C3,hcap,hm,hlen,hH⟩:=Lib.holds_of_ownsRow own hv;have g0:w.cell? (aA g 0)=some (sT (all.getD aQ AU)):=by
  have:=(hH 0 ol).1;rw[Nat.zero_add]at this;rw[this];have e1:(List.map (λx:WG=>x.data.toList) (List.drop aQ all)).toArray[0]! =(all.getD aQ AU).data.toList:=by rw[getElem!_pos _ _ ol];simp[List.getD,AT hw]
  rw[e1]
 have aJ4:Hid (w.ownsRow B 9 1 (sL g (all.length-aQ) cap) (all.length-aQ) ((all.drop aQ).map Value.string)):=by rw[<-Lib.map_encStr];exact own
 have HZ:Hid (∀i,w.frozen? (aA P i)=false):=z;obtain⟨n,hn⟩:∃n,all.length-aQ=n:=⟨_,rfl⟩;have HN:Hid (all.length-aQ=n/\aQ<all.length):=⟨hn,hw⟩;rw[hn]at c2 hcap aJ4⊢;have n0:0<n:=od;have n1:n<=10000000:=od;have hgP:g≠P:=od;generalize all.getD aQ AU=D at *;obtain⟨V,hV⟩:∃V,w.alloc (.cells #[iI 0,sT ⟨#[]⟩] 270)=V:=⟨_,rfl⟩;have hB:bW w V:=jy;have hVs:V.1.size=w.1.size+1:=Ov;have r0:V.cell? (aA w.1.size 0)=some (iI 0):=Ov;have r1:V.cell? (aA w.1.size 1)=some (sT ⟨#[]⟩):=Ov;have rz:∀i,V.frozen? (aA w.1.size i)=false:=λi=>by rw[<-hV];simp
 have cc:∀i,V.cell? (aA P i)=w.cell? (aA P i):=λi=>hB.cell (p:=(aA P i)) (show P<w.1.size by omega);have y0:=(cc 0).trans c0;have y1:=(cc 1).trans c1;have y2:=(cc 2).trans c2;have y3:=(cc 3).trans c3;have y5:=(cc 5).trans c5;have yg:=(hB.cell (p:=(aA g 0)) C3).trans g0;have HB:Hid (bW w V):=hB;have lP:P<w.1.size:=od;obtain⟨U,hU⟩:∃U,(V.alloc (.cells #[iI (mR aQ),sT D] 270)).drew=U:=⟨_,rfl⟩;have hUB:bW V U:=by rw[<-hU];exact⟨rfl,rfl,rfl,oe,λc hc=>((jD V.1.size V).alloc (kG _) _).block c hc⟩
 have hUs:U.1.size=w.1.size+1+1:=by rw[<-hU,<-hVs];simp
 have x0:U.cell? (aA (w.1.size+1) 0)=some (iI (mR aQ)):=by rw[<-hU,<-hVs];simp
 have x1:U.cell? (aA (w.1.size+1) 1)=some (sT D):=by rw[<-hU,<-hVs];simp
 have hOU:U.ownsRow B 9 1 (sL g n cap) n ((all.drop aQ).map Value.string):=by
  refine sX (X:=[g]) aJ4.out ⟨od,λc hc=>?_⟩ (λg' oH=>?_)
  .have:c=g:=by simpa using hc
   subst this;exact(hUB.block c od).trans (hB.block c C3)
  .have:g=g':=by simpa[Value.ownBlock]using oH
   simp[this]
 have hD:=aMo hOU n0;have HUB:Hid (bW V U):=hUB;have uc:∀i,U.cell? (aA P i)=w.cell? (aA P i):=λi=>(hUB.cell (p:=(aA P i)) (show P<V.1.size by omega)).trans (cc i);have u2:=(uc 2).trans c2;have HU:Hid (∀i,U.cell? (aA P i)=w.cell? (aA P i)):=uc;have HUZ:Hid (∀i,U.frozen? (aA P i)=false):=λi=>((hUB.frozen (p:=(aA P i)) (show P<V.1.size by omega)).trans (hB.frozen (p:=(aA P i)) lP)).trans (HZ.out i);have HU0:Hid (U.cell? (aA w.1.size 0)=some (iI 0)):=(hUB.cell (p:=(aA w.1.size 0)) (show w.1.size<V.1.size by omega)).trans r0;have HU1:Hid (U.cell? (aA w.1.size 1)=some (sT ⟨#[]⟩)):=(hUB.cell (p:=(aA w.1.size 1)) (show w.1.size<V.1.size by omega)).trans r1;have HRZ:Hid (∀i,U.frozen? (aA w.1.size i)=false):=λi=>(hUB.frozen (p:=(aA w.1.size i)) (show w.1.size<V.1.size by omega)).trans (rz i);have HX0:Hid (U.cell? (aA (w.1.size+1) 0)=some (iI (mR aQ))):=x0;have HX1:Hid (U.cell? (aA (w.1.size+1) 1)=some (sT D)):=x1;have HC:Hid (w.cell? (aA P 0)=some (iI bag)/\w.cell? (aA P 1)=some (iI queue)/\w.cell? (aA P 3)=some (iI now)/\w.cell? (aA P 4)=some (iI (d6 aQ last bag))/\w.cell? (aA P 5)=some (iI (mR aQ))):=⟨c0,c1,c3,c4,c5⟩;have HWU:Hid (aW P g w U):=⟨hUB.os.trans hB.os,hUB.tape.trans hB.tape,hUB.output.trans hB.output,od,λc hc _ _=>(hUB.block c od).trans (hB.block c hc)⟩;have o1:=aN9 aQ;have hnx:=aQ4 aQ;generalize mR aQ=Y at *;have hX:0<=Int.tmod Y 255/\Int.tmod Y 255<255:=by rw[Int.tmod_eq_emod_of_nonneg o1.1];omega
 generalize hXe:Int.tmod Y 255=X at *;have HNX:Hid (X+1=mR (aQ+1)):=hnx;clear own hH z hn hw ha we hlen hv cc c0 c1 c2 c3 c4 c5 g0 hB hUB uc x0 x1 rz hnx;go_enter func219,ntmps219;go_wp2_with fail;go_region;go_wp2_with fail;refine hD.mono ?_;rintro e W ⟨rfl,hOW,hT⟩;have lU:P<U.1.size:=od;have wc:∀i,W.cell? (aA P i)=w.cell? (aA P i):=λi=>(hT.cell (p:=(aA P i)) lU (Ne.symm hgP) (Ne.symm hgP)).trans (HU.out i);have w0:=(wc 0).trans HC.out.1;have w1:=(wc 1).trans HC.out.2.1;have w2:=(hT.cell (p:=(aA P 2)) lU (Ne.symm hgP) (Ne.symm hgP)).trans u2;have w3:=(wc 3).trans HC.out.2.2.1;have w4:=(wc 4).trans HC.out.2.2.2.1;have w5:=(wc 5).trans HC.out.2.2.2.2;have wz:∀i,W.frozen? (aA P i)=false:=λi=>(hT.frozen (p:=(aA P i)) lU (Ne.symm hgP) (Ne.symm hgP)).trans (HUZ.out i);have z2:=wz 2;have z4:=wz 4;have z5:=wz 5;have hr:w.1.size≠g:=od;have hx:w.1.size+1≠g:=od;have lr:w.1.size<U.1.size:=od;have lx:w.1.size+1<U.1.size:=od;have q0:=(hT.cell (p:=(aA w.1.size 0)) lr hr hr).trans HU0.out;have q1:=(hT.cell (p:=(aA w.1.size 1)) lr hr hr).trans HU1.out;have qz:∀i,W.frozen? (aA w.1.size i)=false:=λi=>(hT.frozen (p:=(aA w.1.size i)) lr hr hr).trans (HRZ.out i);have qz0:=qz 0;have qz1:=qz 1;have x0:=(hT.cell (p:=(aA (w.1.size+1) 0)) lx hx hx).trans HX0.out;have x1:=(hT.cell (p:=(aA (w.1.size+1) 1)) lx hx hx).trans HX1.out;have lW:w.1.size+1+1<=W.1.size:=by have:=hT.size;omega
 have HT:Hid (aW g g U W):=hT;have HOW:Hid (W.ownsRow B 9 1 (sL g (n-1) cap) (n-1) ((all.drop (aQ+1)).map Value.string)):=by rw[List.drop_drop]at hOW;exact hOW
 have HWZ:Hid (∀i,W.frozen? (aA P i)=false):=wz;clear wc wz qz hT hOW hD hOU hU hV;go_wp2;obtain⟨W3,T7⟩:∃W3,((W.setCell (aA P 2) (sL g (n-1) cap)).setCell (aA P 4) (iI (t+bag))).setCell (aA P 5) (iI (X+1))=W3:=⟨_,rfl⟩;rw[T7];have hS3:W3.1.size=W.1.size:=by rw[<-T7];simp
 have fin:eT W3 B P bag queue all (sL g (n-1) cap) (aQ+1) t now:=by
  have e0:=HN.out;refine⟨?_,?_,?_,?_,?_,?_,λi=>?_,?_,lp,od,od⟩
  .rw[<-T7];exact(aB (.inr og)).trans ((aB (.inr og)).trans ((aB (.inr og)).trans w0))
  .rw[<-T7];exact(aB (.inr og)).trans ((aB (.inr og)).trans ((aB (.inr og)).trans w1))
  .rw[<-T7];exact(aB (.inr og)).trans ((aB (.inr og)).trans (aZ w2))
  .rw[<-T7];exact(aB (.inr og)).trans ((aB (.inr og)).trans ((aB (.inr og)).trans w3))
  .rw[<-T7,show d6 (aQ+1) t bag=t+bag from kJ od];exact(aB (.inr og)).trans (aZ ((aB (.inr og)).trans w4))
  .rw[<-T7,<-HNX.out];exact aZ ((aB (.inr og)).trans ((aB (.inr og)).trans w5))
  .rw[<-T7];exact bJ.trans (bJ.trans (bJ.trans (HWZ.out i)))
  .rw[show all.length-(aQ+1)=n-1 by omega,<-T7];exact fL (fL (fL HOW.out lp) lp) lp
 have t3:aW P g w W3:=by refine HWU.out.trans (aW.trans ⟨HT.out.os,HT.out.tape,HT.out.output,HT.out.size,λc hc _ h2=>HT.out.block c hc h2 h2⟩ ?_);rw[<-T7];exact(((aW.refl P g W).set (p:=(aA P 2)) (.inl rfl) _).set (p:=(aA P 4)) (.inl rfl) _).set (p:=(aA P 5)) (.inl rfl) _
 have q0':W3.cell? (aA w.1.size 0)=some (iI 0):=by rw[<-T7];exact(aB (.inl od)).trans ((aB (.inl od)).trans ((aB (.inl od)).trans q0))
 have q1':W3.cell? (aA w.1.size 1)=some (sT ⟨#[]⟩):=by rw[<-T7];exact(aB (.inl od)).trans ((aB (.inl od)).trans ((aB (.inl od)).trans q1))
 have s0:((W3.setCell (aA w.1.size 0) (iI Y)).setCell (aA w.1.size 1) (sT D)).cell? (aA w.1.size 0)=some (iI Y):=(aB (.inr og)).trans (aZ q0');have s1:((W3.setCell (aA w.1.size 0) (iI Y)).setCell (aA w.1.size 1) (sT D)).cell? (aA w.1.size 1)=some (sT D):=aZ ((aB (.inr og)).trans q1');have ht5:aW w.1.size w.1.size W3 ((W3.setCell (aA w.1.size 0) (iI Y)).setCell (aA w.1.size 1) (sT D)):=((aW.refl _ _ _).set (p:=(aA w.1.size 0)) (.inl rfl) _).set (p:=(aA w.1.size 1)) (.inl rfl) _;have bB7:=fin.keep (w':=(W3.setCell (aA w.1.size 0) (iI Y)).setCell (aA w.1.size 1) (sT D)) ⟨ht5.size,λc hc=>by
  have:c=P\/c=g:=by simpa[Value.ownBlock]using hc
  exact ht5.block c od od od⟩
 refine bodyPost_ret (v:=.agg #[iI Y,sT D]) (by simp[results,results219,go_sem,s0,s1]) rfl ⟨rfl,_,bB7,?_,rfl⟩;exact⟨ht5.os.trans t3.os,ht5.tape.trans t3.tape,ht5.output.trans t3.output,kH t3.size ht5.size,λc hc h1 h2=>(ht5.block c (by have:=t3.size;omega) od od).trans (t3.block c hc h1 h2)⟩
end
section
variable{B P:Nat}{all:List WG}{lost most:Int}{w w':WA}
theorem Tryz.infoStr8:(Tryz.prog.info? 9).map (λi=>(i.zero,i.size,i.bytes))=some (some (sT AU),1,16):=oh
structure mH(w:WA)(B P:Nat)(most:Int)(all:List WG)(lost:Int)(v:WB):Prop where
 c0:w.cell? (aA P 0)=some (iI most)
 c1:w.cell? (aA P 1)=some v
 c2:w.cell? (aA P 2)=some (iI lost)
 z:∀i,w.frozen? (aA P i)=false
 own:w.ownsRow B 9 1 v all.length (all.map Value.string)
 lp:P<B
 lb:B<=w.1.size
def Que(w:WA)(O:List Nat)(P:Nat)(most:Int)(all:List WG)(lost:Int):Prop:=
 ∃v,mH w (P+1) P most all lost v/\O=P::v.ownBlock.toList
theorem mH.keep{v:WB}(h:mH w B P most all lost v)(k:Same (P::v.ownBlock.toList) w w'):mH w' B P most all lost v:=by have hp:P∈P::v.ownBlock.toList:=kO (.inl rfl);exact⟨(k.cell (p:=(aA P 0)) hp).trans h.c0,(k.cell (p:=(aA P 1)) hp).trans h.c1,(k.cell (p:=(aA P 2)) hp).trans h.c2,λi=>(k.frozen (p:=(aA P i)) hp).trans (h.z i),sX h.own k (λg hg=>kO (.inr (by simpa using hg))),h.lp,kH h.lb k.1⟩
theorem Que.lt{O:List Nat}(h:Que w O P most all lost):∀c,c∈O->c<w.1.size:=zC3
theorem Que.keep{O:List Nat}(h:Que w O P most all lost)(k:Same O w w'):Que w' O P most all lost:=by obtain⟨v,h,rfl⟩:=h;exact⟨v,h.keep k,rfl⟩
theorem aHu(most:Int)(w:WA)(hb:1<=most/\most<=16):
  Calls prog 182 #[iI most] w λe w'=>∃O P,e=rT (tU #[pP P,.nilIface])/\Que w' O P most [] 0/\bW w w'/\∀c,c∈O->w.1.size<=c:=by
 have k1:decide (most<1)=false:=kD od;have k2:decide (16<most)=false:=kD od;clear hb;have fin:Que (w.alloc (.cells #[iI most,sV none 0 0,iI 0] 225)) [w.1.size] w.1.size most [] 0:=
  ⟨sV none 0 0,⟨oe,oe,oe,λi=>by simp,World.ownsRow_nil _ _ _ _,od,oe⟩,rfl⟩
 have HF:Hid _:=fin;clear fin;go_enter func182,ntmps182;go_wp2;go_ret2;exact⟨_,_,rfl,HF.out,(jD _ _).alloc (kG _) _,λc hc=>by
  simp only[List.mem_cons,List.not_mem_nil,or_false]at hc
  omega⟩
theorem aL6{v:WB}(h:mH w B P most all lost v)(d:WG)(hd:d.size<=40)(hq:most<=(all.length:Int))(hl:0<=lost/\lost<=10000000):
  Calls prog 194 #[pP P,sT d] w λe w'=>e=rT (dG 12)/\mH w' B P most all (lost+1) v/\aW P P w w':=by
 have HH:Hid (mH w B P most all lost v):=h;have HF:Hid (∀q:Nat,mH ((w.drewN q).setCell (aA P 2) (iI (lost+1))) B P most all (lost+1) v/\aW P P w ((w.drewN q).setCell (aA P 2) (iI (lost+1)))):=λq=>⟨⟨(aB (.inr og)).trans HH.out.c0,(aB (.inr og)).trans HH.out.c1,aZ HH.out.c2,λi=>bJ.trans (HH.out.z i),fL HH.out.own HH.out.lp,HH.out.lp,by have:=HH.out.lb;simp;omega⟩,(aW.drawn q).set (p:=(aA P 2)) (.inl rfl) _⟩
 obtain⟨c0,c1,c2,z,own,lp,lb⟩:=h;exact zI7
theorem aUt{v:WB}(h:mH w B P most all lost v)(d:WG)(hd:d.size<=40)(hq:(all.length:Int)<most)(ha:all.length<=10000000):
  Calls prog 194 #[pP P,.string d] w λe w'=>e=.returned (dG 0)/\∃v',mH w' B P most (all++[d]) lost v'/\aW P (v.ownBlock.getD P) w w'/\(v'.ownBlock=v.ownBlock\/∃g,w.1.size<=g/\v'.ownBlock=some g):=by obtain⟨c0,c1,c2,z,own,lp,lb⟩:=h;obtain⟨i0,hi,qV,qO,qP⟩:=info_parts Tryz.infoStr8;exact zLi
theorem aHt(P:Nat)(w:WA)(d:WG)(hd:40<d.size):
  Calls prog 194 #[pP P,sT d] w λe w'=>e=rT (dG 4)/\w'=w:=by have k:(40:Int)<(d.size:Int):=od;go_enter func194,ntmps194;exact W5
theorem aYl{O:List Nat}(h:Que w O P most all lost)(d:WG)(ha:all.length<=10000000)(hl:0<=lost/\lost<=10000000):
  Calls prog 194 #[pP P,sT d] w λe w'=>e=rT (dG (putK all.length most d))/\∃O',Que w' O' P most (mN (putK all.length most d) all d) (aTs (putK all.length most d) lost)/\aR O O' w w':=by
 obtain⟨v,h,rfl⟩:=h;have hP:P∈P::v.ownBlock.toList:=kO (.inl rfl);unfold mN aTs putK;by_cases h1:40<d.size
 .simp only[kK h1];refine(aHt P w d h1).mono ?_;exact zEo
 .simp only[kJ h1];by_cases h2:most<=(all.length:Int)
  .simp only[kK h2];refine(aL6 h d od h2 hl).mono ?_;exact zD9
  .simp only[kJ h2];refine(aUt h d od od ha).mono ?_;exact zA0
theorem aQj{v:WB}(h:mH w B P most [] lost v):
  Calls prog 112 #[pP P] w λe w'=>e=rT (tU #[sT AU,dG 8])/\w'=w:=by obtain⟨c0,c1,c2,z,own,lp,lb⟩:=h;obtain⟨a,cap,rfl⟩:=nZ own;have hlp:P<w.1.size:=od;have c1':w.cell? (aA P 1)=some (sV a 0 cap):=c1;clear own z c1;go_enter func112,ntmps112;go_wp2;go_ret2;exact⟨rfl,rfl⟩
theorem aYp{x:WG}{v:WB}(h:mH w B P most (x::all) lost v)(ha:all.length<=10000000):
  Calls prog 112 #[pP P] w λe w'=>e=rT (tU #[sT x,dG 0])/\∃v',mH w' B P most all lost v'/\aW P (v.ownBlock.getD P) w w'/\v'.ownBlock=v.ownBlock:=by
 obtain⟨c0,c1,c2,z,own,lp,lb⟩:=h;obtain⟨g,cap,rfl,hg,C3⟩:=own.form oe;have g0:w.cell? (aA g 0)=some (sT x):=by have:=own.cells (g:=g) rfl 0 (sT x) rfl;simpa[Addr.add]using this
 have hD:=aMo (xs:=x::all) own oe;have HO:Hid _:=hD;have hgP:g≠P:=od;have hlp:P<w.1.size:=od;have fN:(x::all).length=all.length+1:=rfl;have n1:=ha;rw[fN]at c1 hD HO own;have HZ:Hid (∀i,w.frozen? (aA P i)=false):=z;obtain⟨n,hn⟩:∃n,all.length=n:=⟨_,rfl⟩;have HN:Hid (all.length=n):=hn;rw[hn]at c1 hD n1;rw[fN,hn];clear own z hn HO ha fN;go_enter func112,ntmps112;go_wp2_with fail;refine hD.mono ?_;rintro e W ⟨rfl,hOW,hT⟩;have wc:∀i,W.cell? (aA P i)=w.cell? (aA P i):=λi=>hT.cell (p:=(aA P i)) hlp (Ne.symm hgP) (Ne.symm hgP);have w0:=(wc 0).trans c0;have w1:=(wc 1).trans c1;have w2:=(wc 2).trans c2;have wz:∀i,W.frozen? (aA P i)=false:=λi=>(hT.frozen (p:=(aA P i)) hlp (Ne.symm hgP) (Ne.symm hgP)).trans (HZ.out i);have z1:=wz 1;have lW:P<W.1.size:=kC hlp hT.size;have fin:mH (W.setCell (aA P 1) (sL g n cap)) B P most all lost (sL g n cap):=
  ⟨(aB (.inr og)).trans w0,aZ w1,(aB (.inr og)).trans w2,λi=>bJ.trans (wz i),by
   rw[HN.out]
   exact fL hOW lp,lp,by have:=hT.size;simp;omega⟩
 have aWg:Hid _:=fin;have HTT:Hid (aW P g w (W.setCell (aA P 1) (sL g n cap))):=aW.set (aW.trans (aW.refl P g w) ⟨hT.os,hT.tape,hT.output,hT.size,λc hc _ h2=>hT.block c hc h2 h2⟩) (p:=(aA P 1)) (.inl rfl) _;clear fin wc wz hOW hT hD;go_wp2;go_ret2;exact⟨rfl,_,aWg.out,HTT.out,rfl⟩
theorem aL7{O:List Nat}(h:Que w O P most all lost)(ha:all.length<=10000000):
  Calls prog 112 #[pP P] w λe w'=>e=rT (tU #[sT (recvD all),dG (yA all)])/\∃O',Que w' O' P most all.tail lost/\aR O O' w w':=by
 obtain⟨v,h,rfl⟩:=h;have hP:P∈P::v.ownBlock.toList:=kO (.inl rfl)
 cases all with
 |nil=>
  refine(aQj h).mono ?_
  rintro e w' ⟨rfl,rfl⟩
  exact⟨rfl,_,⟨v,h,rfl⟩,aR.refl _ _⟩
 |cons x all=>
  refine(aYp h (by simp at ha;omega)).mono ?_
  rintro e w' ⟨rfl,v',h',ht,oX⟩
  refine⟨rfl,_,⟨v',h',rfl⟩,?_⟩
  rw[oX]
  refine aR.qF ht hP ?_
  cases e:v.ownBlock with
  |none=>exact kO (.inl rfl)
  |some g=>exact kO (.inr (List.mem_singleton.2 rfl))
end
section
variable{B P aQ:Nat}{all:List WG}{bag last now queue:Int}{w:WA}
theorem aLk(P:Nat)(t:Int)(w:WA)(h1:¬(0<=t/\t<=1099511627776)):
  Calls prog 191 #[pP P,iI t] w λe w'=>e=rT (tU #[.agg #[iI 0,aJr],dG 2])/\bW w w':=by
 by_cases k1:t<0
 .clear h1;exact zB9
 .have k1':=kD k1;have k2:1099511627776<t:=od;clear h1 k1;exact zB9
theorem aLj{v:WB}(h:eT w B P bag queue all v aQ last now)(t:Int)(h1:0<=t/\t<=1099511627776)(h2:t<now):
  Calls prog 191 #[pP P,iI t] w λe w'=>e=rT (tU #[.agg #[iI 0,aJr],dG 10])/\bW w w':=zKy
theorem eT.bAl{w':WA}{v:WB}(h:eT w B P bag queue all v aQ last now)(k:bW w w')(t:Int):eT (w'.setCell (aA P 3) (iI t)) B P bag queue all v aQ last t:=by
 have lP:P<w.1.size:=by have:=h.lp;have:=h.lb;omega
 have cc:∀i,w'.cell? (aA P i)=w.cell? (aA P i):=λi=>k.cell (p:=(aA P i)) lP;exact⟨(aB (.inr og)).trans ((cc 0).trans h.c0),(aB (.inr og)).trans ((cc 1).trans h.c1),(aB (.inr og)).trans ((cc 2).trans h.c2),aZ ((cc 3).trans h.c3),(aB (.inr og)).trans ((cc 4).trans h.c4),(aB (.inr og)).trans ((cc 5).trans h.c5),λi=>bJ.trans ((k.frozen (p:=(aA P i)) lP).trans (h.z i)),fL (sX (X:=v.ownBlock.toList) h.own ⟨k.size,λc hc=>k.block c (h.own.lt c El).2⟩ (λg hg=>by simpa using hg)) h.lp,h.lp,by have:=k.size;have:=h.lb;simp;omega,h.we⟩
theorem eT.asked{v:WB}(h:eT w B P bag queue all v aQ last now)(t:Int):eT ((w.setCell (aA P 3) (iI t)).alloc (.cells #[iI 0,sT ⟨#[]⟩] 270)) B P bag queue all v aQ last t/\aW P P w ((w.setCell (aA P 3) (iI t)).alloc (.cells #[iI 0,sT ⟨#[]⟩] 270)):=by
 have h':=h.bAl (jD _ _) t;have ha:Below (w.setCell (aA P 3) (iI t)).1.size (w.setCell (aA P 3) (iI t)) ((w.setCell (aA P 3) (iI t)).alloc (.cells #[iI 0,sT ⟨#[]⟩] 270)):=(jD _ _).alloc (kG _) _;refine⟨h'.keep (Same.of_below ha λc hc=>?_),((aW.refl P P w).set (p:=(aA P 3)) (.inl rfl) _).trans (aW.of_below ha)⟩;rcases kQ hc with y|y
 .have:=h'.lp;have:=h'.lb;omega
 .exact(h'.own.lt c Ep).2
theorem aR1{v:WB}(h:eT w B P bag queue all v aQ last now)(t:Int)(h1:0<=t/\t<=1099511627776)(h2:now<=t)(h3:aAc all.length aQ t last bag=true)(ha:all.length<=10000000):
  Calls prog 191 #[pP P,iI t] w λe w'=>e=rT (tU #[.agg #[iI 0,aJr],dG 8])/\eT w' B P bag queue all v aQ last t/\aW P P w w':=zHd
theorem aYy{v:WB}(h:eT w B P bag queue all v aQ last now)(t:Int)(h1:0<=t/\t<=1099511627776)(h2:now<=t)(h3:aAc all.length aQ t last bag=false)(ha:all.length<=10000000)(hb0:0<=bag)(hb:bag<=1099511627776):
  Calls prog 191 #[.pointer (some ⟨P,0,none⟩),.int .i64 t] w λe w'=>e=.returned (.tuple #[.agg #[.int .i64 (mR aQ),.string (all.getD aQ AU)],dG 0])/\∃v',eT w' B P bag queue all v' (aQ+1) t t/\aW P (v.ownBlock.getD P) w w'/\v'.ownBlock=v.ownBlock:=by
 have we0:=h.we;have hgb:∀c,v.ownBlock=some c->B<=c:=λc hc=>(h.own.lt c hc).1;have C3:∀c,v.ownBlock=some c->c<w.1.size:=λc hc=>(h.own.lt c hc).2;unfold aAc at h3;rw[Bool.or_eq_false_iff,Bool.and_eq_false_iff,decide_eq_false_iff_not,decide_eq_false_iff_not,decide_eq_false_iff_not]at h3;have hw:aQ<all.length:=od;have h5:¬t<d6 aQ last bag:=by
  unfold d6;split
  .omega
  .omega
 have m46:=0;exact zHd
theorem aYx{O:List Nat}(h:Sdr w O P bag queue all aQ last now)(t:Int)(ha:all.length<=10000000)(xR:0<=last)(hl:last<=1099511627776)(hb0:0<=bag)(hb:bag<=1099511627776):
  Calls prog 191 #[pP P,iI t] w λe w'=>e=rT (tU #[.agg #[iI (jY (gV all.length aQ t now last bag) aQ),sT (jX (gV all.length aQ t now last bag) all aQ)],dG (gV all.length aQ t now last bag)])/\
   ∃O',Sdr w' O' P bag queue all (aAt (gV all.length aQ t now last bag) aQ) (tE (gV all.length aQ t now last bag) t last) (aFa (gV all.length aQ t now last bag) t now)/\aR O O' w w':=by
 let _:=xR;let _:=hl;have hlt:=h.lt;have hS:=h;obtain⟨v,h,rfl⟩:=h;have hP:P∈P::v.ownBlock.toList:=kO (.inl rfl);unfold jY jX aAt tE aFa gV;by_cases h1:0<=t/\t<=1099511627776
 .simp only[h1];by_cases h2:t<now
  .simp only[kK h2];refine(aLj h t h1 h2).mono ?_;exact zDy
  .simp only[kJ h2];by_cases h3:aAc all.length aQ t last bag=true
   .simp only[kK h3];refine(aR1 h t h1 od h3 ha).mono ?_;exact zD9
   .have h3':aAc all.length aQ t last bag=false:=by simpa using h3
    simp only[h3',Bool.false_eq_true,if_false];refine(aYy h t h1 od h3' ha hb0 hb).mono ?_;rintro e w' ⟨rfl,v',h',ht,oX⟩;refine⟨rfl,_,⟨v',h',rfl⟩,?_⟩;rw[oX];refine aR.qF ht hP ?_
    cases e:v.ownBlock with
    |none=>exact kO (.inl rfl)
    |some g=>exact kO (.inr (List.mem_singleton.2 rfl))
 .simp only[h1,not_false_eq_true,if_true];refine(aLk P t w h1).mono ?_;exact zDy
end
section
variable{j k:Nat}
abbrev Q9:=Nat×Nat×Nat
abbrev iB:Q9:=(0,0,0)
abbrev iN(j:Nat):Q9:=(1,j,0)
abbrev iS(k:Nat):Q9:=(2,k,0)
abbrev iR(k j:Nat):Q9:=(3,k,j)
abbrev iQ(k j:Nat):Q9:=(4,k,j)
structure tH where
 X:List Nat
 cb:Nat
 fK:Nat
 sa:Option WT
 sF:Nat
 nb:Nat
 aAb:Nat
 la:Option WT
 lb:Nat
 aBn:Nat
 P:WN
 S:WN
 E:WN
 D:Nat->Nat->Nat
 R:Nat->Nat->Nat
 Q:Nat->Nat->Nat
structure W7(w:WA)(C:Nat)(p:aP)(fa:Int)(cs:List Int)(rd:Int)(m:tH):Prop where
 c0:w.cell? (aA C 0)=some (iI p.AA)
 c1:w.cell? (aA C 1)=some (iI p.aG)
 c3:w.cell? (aA C 3)=some (iI p.aC)
 c4:w.cell? (aA C 4)=some (iI p.aJ)
 c5:w.cell? (aA C 5)=some (iI p.round)
 c6:w.cell? (aA C 6)=some (sV m.sa p.ns m.sF)
 c10:w.cell? (aA C 10)=some (iI fa)
 c11:w.cell? (aA C 11)=some (sL m.cb cs.length m.fK)
 c12:w.cell? (aA C 12)=some (iI rd)
 c13:w.cell? (aA C 13)=some (sL m.nb p.n m.aAb)
 c14:w.cell? (aA C 14)=some (sV m.la p.nl m.aBn)
 z:∀i,w.frozen? (aA C i)=false
 lc:C<w.1.size
 nC:C∉m.X
 lx:∀c,c∈m.X->c<w.1.size
 ck:∀j,j<cs.length->w.cell? (aA m.cb j)=some (iI (cs.getD j 0))
 ckX:m.cb∈m.X
 sl:0<p.ns->∃b off,m.sa=some (aA b off)/\b∈m.X/\∀i,i<p.ns->w.cell? ⟨b,off+i*3,none⟩=some (iI (p.nd i))/\w.cell? ⟨b,off+i*3+1,none⟩=some (iI (p.fr i))/\w.cell? ⟨b,off+i*3+2,none⟩=some (iI (p.td i))
 nd:∀j,j<p.n->w.cell? (aA m.nb j)=some (.pointer (some ⟨m.P j,0,none⟩))
 ndX:m.nb∈m.X
 la:0<p.nl->m.la=some (aA m.lb 0)/\m.lb∈m.X
 lk:∀k,k<p.nl->w.cell? ⟨m.lb,k*3,none⟩=some (iI (p.lf k))/\w.cell? ⟨m.lb,k*3+1,none⟩=some (.pointer (some ⟨m.S k,0,none⟩))/\w.cell? ⟨m.lb,k*3+2,none⟩=some (sV (some ⟨m.E k,0,none⟩) p.n p.n)
 en:∀k,k<p.nl->m.E k∈m.X/\∀j,j<p.n->w.cell? ⟨m.E k,j,none⟩=some (.pointer (if aX (p.lt k) j=true then some ⟨m.D k j,0,none⟩else none))
 dn:∀k j,k<p.nl->j<p.n->aX (p.lt k) j=true->m.D k j∈m.X/\w.cell? ⟨m.D k j,0,none⟩=some (.pointer (some ⟨m.R k j,0,none⟩))/\w.cell? ⟨m.D k j,1,none⟩=some (.pointer (some ⟨m.Q k j,0,none⟩))
theorem W7.keep{w w':WA}{C:Nat}{p:aP}{fa:Int}{cs:List Int}{rd:Int}{m:tH}(h:W7 w C p fa cs rd m)(k:Same (C::m.X) w w'):W7 w' C p fa cs rd m:=by
 have cc:∀i,w'.cell? (aA C i)=w.cell? (aA C i):=λi=>k.cell (p:=(aA C i)) kT;have cx:∀b i,b∈m.X->w'.cell? (aA b i)=w.cell? (aA b i):=λb i hb=>k.cell (p:=(aA b i)) (kR _ hb);refine⟨(cc 0).trans h.c0,(cc 1).trans h.c1,(cc 3).trans h.c3,(cc 4).trans h.c4,(cc 5).trans h.c5,(cc 6).trans h.c6,(cc 10).trans h.c10,(cc 11).trans h.c11,(cc 12).trans h.c12,(cc 13).trans h.c13,(cc 14).trans h.c14,λi=>(k.frozen (p:=(aA C i)) kT).trans (h.z i),kC h.lc k.1,h.nC,λc hc=>kC (h.lx c hc) k.1,λj hj=>(cx _ _ h.ckX).trans (h.ck j hj),h.ckX,λh0=>?_,λj hj=>(cx _ _ h.ndX).trans (h.nd j hj),h.ndX,h.la,λi hi=>?_,λi hi=>⟨(h.en i hi).1,λj hj=>(cx _ _ (h.en i hi).1).trans ((h.en i hi).2 j hj)⟩,λi j hi hj hb=>?_⟩
 .obtain⟨b,off,e,hb,hc⟩:=h.sl h0;exact⟨b,off,e,hb,λi hi=>⟨(cx _ _ hb).trans (hc i hi).1,(cx _ _ hb).trans (hc i hi).2.1,(cx _ _ hb).trans (hc i hi).2.2⟩⟩
 .have hl:=(h.la od).2;obtain⟨a,b,c⟩:=h.lk i hi;exact⟨(cx _ _ hl).trans a,(cx _ _ hl).trans b,(cx _ _ hl).trans c⟩
 .obtain⟨a,b,c⟩:=h.dn i j hi hj hb;exact⟨a,(cx _ _ a).trans b,(cx _ _ a).trans c⟩
def yG(B:Nat)(N:vA):Prop:=(0<=N.g/\N.g<=B)/\0<=N.b/\N.b<=B
def X6(B:Nat)(S:lN):Prop:=S.all.length<=B/\(0<=S.last/\S.last<=1099511627776)/\∀d∈S.all,d.size<=40
structure CM(w:WA)(O:List Nat)(Of:Q9->List Nat)(C:Nat)(p:aP)(fa:Int)(cs:List Int)(s:cJ)(rd:Int)(B:Nat)(m:tH):Prop where
 base:W7 w C p fa cs rd m
 ob:Of iB=C::m.X
 fam:C0 w Of
 sub:∀i c,c∈Of i->c∈O
 lo:∀c,c∈O->c<w.1.size
 node:∀j,j<p.n->(aU w (m.P j) j p.n (bA (s.AA j).t p.n) (s.AA j).g (s.AA j).b (s.AA j).fz/\Of (iN j)=[m.P j])/\yG B (s.AA j)
 snd:∀k,k<p.nl->Sdr w (Of (iS k)) (m.S k) (p.lb k) (p.lq k) (s.aK k).all (s.aK k).aQ (s.aK k).last (s.aK k).now/\X6 B (s.aK k)
 rcv:∀k j,k<p.nl->j<p.n->aX (p.lt k) j=true->∃a b,Rcv w (Of (iR k j)) (m.R k j) (s.aV k j) a b/\((0<=a/\a<=B)/\0<=b/\b<=B)/\s.aV k j<=255
 que:∀k j,k<p.nl->j<p.n->aX (p.lt k) j=true->∃lost,Que w (Of (iQ k j)) (m.Q k j) 16 (s.aT k j) lost/\(0<=lost/\lost<=B)/\(s.aT k j).length<=16
def Cl(w:WA)(O:List Nat)(C:Nat)(p:aP)(fa:Int)(cs:List Int)(s:cJ)(rd:Int)(B:Nat)(m:tH):Prop:=∃Of,CM w O Of C p fa cs s rd B m
section
variable{w w':WA}{O:List Nat}{Of:Q9->List Nat}{C:Nat}{p:aP}{fa:Int}{cs:List Int}{s:cJ}{rd:Int}{B:Nat}{m:tH}
theorem aU.same{P:Nat}{id:Int}{n:Nat}{mm g b:Int}{fz:Bool}(h:aU w P id n mm g b fz)(k:Same [P] w w'):aU w' P id n mm g b fz:=
 have c:∀i,w'.cell? (aA P i)=w.cell? (aA P i):=λi=>k.cell (p:=(aA P i)) kT
 ⟨(c 0).trans h.c0,(c 1).trans h.c1,(c 2).trans h.c2,(c 3).trans h.c3,(c 4).trans h.c4,(c 5).trans h.c5,λi=>(k.frozen (p:=(aA P i)) kT).trans (h.z i),kC h.lp k.1⟩
theorem Cl.base(h:Cl w O C p fa cs s rd B m):W7 w C p fa cs rd m:=by obtain⟨_,h⟩:=h;exact h.base
theorem Cl.lt(h:Cl w O C p fa cs s rd B m):∀c,c∈O->c<w.1.size:=by obtain⟨_,h⟩:=h;exact h.lo
theorem Cl.mem(h:Cl w O C p fa cs s rd B m):C∈O:=by obtain⟨_,h⟩:=h;exact h.sub iB C o9
theorem Cl.keep(h:Cl w O C p fa cs s rd B m)(k:Same O w w'):Cl w' O C p fa cs s rd B m:=by
 obtain⟨Of,h⟩:=h;have hs:∀i,Same (Of i) w w':=λi=>k.part (h.sub i);refine⟨Of,h.base.keep (h.ob▸hs iB),h.ob,⟨λi c hc=>kC (h.fam.lt i c hc) k.1,h.fam.ap⟩,h.sub,λc hc=>kC (h.lo c hc) k.1,λj hj=>?_,λi hi=>⟨(h.snd i hi).1.keep (hs _),(h.snd i hi).2⟩,λi j hi hj hb=>?_,λi j hi hj hb=>?_⟩
 .obtain⟨⟨a,b⟩,c⟩:=h.node j hj;exact⟨⟨a.same (b▸hs (iN j)),b⟩,c⟩
 .obtain⟨a,b,q,r⟩:=h.rcv i j hi hj hb;exact⟨a,b,q.keep (hs _),r⟩
 .obtain⟨l,q,r⟩:=h.que i j hi hj hb;exact⟨l,q.keep (hs _),r⟩
theorem Cl.below(h:Cl w O C p fa cs s rd B m)(k:bW w w'):Cl w' O C p fa cs s rd B m:=h.keep (Same.of_below k h.lt)
theorem Cl.more{B':Nat}(h:Cl w O C p fa cs s rd B m)(hB:B<=B'):Cl w O C p fa cs s rd B' m:=by
 obtain⟨Of,h⟩:=h;refine⟨Of,h.base,h.ob,h.fam,h.sub,h.lo,λj hj=>⟨(h.node j hj).1,?_⟩,λi hi=>⟨(h.snd i hi).1,?_⟩,λi j hi hj hb=>?_,λi j hi hj hb=>?_⟩
 .obtain⟨⟨a,b⟩,c,d⟩:=(h.node j hj).2;exact⟨⟨a,od⟩,c,od⟩
 .obtain⟨a,b⟩:=(h.snd i hi).2;exact⟨od,b⟩
 .obtain⟨a,b,q,⟨⟨r1,r2⟩,r3,r4⟩,t⟩:=h.rcv i j hi hj hb;exact⟨a,b,q,⟨⟨r1,od⟩,r3,od⟩,t⟩
 .obtain⟨l,q,⟨r1,r2⟩,t⟩:=h.que i j hi hj hb;exact⟨l,q,⟨r1,od⟩,t⟩
theorem Cl.agree{s':cJ}(h:Cl w O C p fa cs s rd B m)(h1:∀j,j<p.n->s'.AA j=s.AA j)(h2:∀k,k<p.nl->s'.aK k=s.aK k)(h3:∀k j,k<p.nl->j<p.n->aX (p.lt k) j=true->s'.aV k j=s.aV k j/\s'.aT k j=s.aT k j):Cl w O C p fa cs s' rd B m:=by
 obtain⟨Of,h⟩:=h;refine⟨Of,h.base,h.ob,h.fam,h.sub,h.lo,λj hj=>?_,λi hi=>?_,λi j hi hj hb=>?_,λi j hi hj hb=>?_⟩
 .rw[h1 j hj];exact h.node j hj
 .rw[h2 i hi];exact h.snd i hi
 .rw[(h3 i j hi hj hb).1];exact h.rcv i j hi hj hb
 .rw[(h3 i j hi hj hb).2];exact h.que i j hi hj hb
theorem CM.aRa(h:CM w O Of C p fa cs s rd B m){i:Q9}{Y:List Nat}(hi:i≠iB)(k:aR (Of i) Y w w')(hY:∀c,c∈Y->c<w'.1.size):
  (aR O (O++Y) w w'/\W7 w' C p fa cs rd m/\gH Of i Y iB=C::m.X)/\C0 w' (gH Of i Y)/\(∀i' c,c∈gH Of i Y i'->c∈O++Y)/\(∀c,c∈O++Y->c<w'.1.size)/\∀i',i'≠i->Same (Of i') w w'/\gH Of i Y i'=Of i':=by
 have hs:∀i',i'≠i->Same (Of i') w w':=λi' h'=>h.fam.same k h';refine⟨⟨⟨k.os,k.tape,k.output,k.size,λc hc hn=>k.block c hc (λy=>hn (h.sub i c y)),λc hc=>?_⟩,h.base.keep (h.ob▸hs iB (Ne.symm hi)),by rw[bG _ _ (Ne.symm hi)];exact h.ob⟩,h.fam.step k hY,λi' c hc=>?_,λc hc=>?_,λi' h'=>⟨hs i' h',bG _ _ h'⟩⟩
 .rcases kN hc with q|q
  .exact .inl q
  .rcases k.fresh c q with r|r
   .exact .inl (h.sub i c r)
   .exact .inr r
 .by_cases e:i'=i
  .subst e;rw[eE]at hc;exact kL (.inr hc)
  .rw[bG _ _ e]at hc;exact kL (.inl (h.sub i' c hc))
 .rcases kN hc with q|q
  .exact kC (h.lo c q) k.size
  .exact hY c q
def cJ.setNode(s:cJ)(j:Nat)(N:vA):cJ:=⟨λx=>if x=j then N else s.AA x,s.aK,s.aV,s.aT⟩
def cJ.U6(s:cJ)(k:Nat)(S:lN):cJ:=⟨s.AA,λx=>if x=k then S else s.aK x,s.aV,s.aT⟩
def cJ.uA(s:cJ)(k j:Nat)(v:Int):cJ:=⟨s.AA,s.aK,λx y=>if x=k/\y=j then v else s.aV x y,s.aT⟩
def cJ.setPort(s:cJ)(k j:Nat)(v:List WG):cJ:=⟨s.AA,s.aK,s.aV,λx y=>if x=k/\y=j then v else s.aT x y⟩
theorem Cl.nod(h:Cl w O C p fa cs s rd B m)(hj:j<p.n):aU w (m.P j) j p.n (bA (s.AA j).t p.n) (s.AA j).g (s.AA j).b (s.AA j).fz/\yG B (s.AA j)/\
  ∀(w':WA)(B':Nat)(N:vA),aU w' (m.P j) j p.n (bA N.t p.n) N.g N.b N.fz->aW (m.P j) (m.P j) w w'->yG B' N->B<=B'->∃O',aR O O' w w'/\Cl w' O' C p fa cs (s.setNode j N) rd B' m:=by
 have h0:=h;obtain⟨Of,h⟩:=h;obtain⟨⟨a,b⟩,c⟩:=h.node j hj;refine⟨a,c,λw' B' N hN hT hB Z9=>?_⟩;obtain⟨Of,h⟩:=h0.more Z9;obtain⟨⟨a,b⟩,_⟩:=h.node j hj;have kf:aR (Of (iN j)) [m.P j] w w':=by rw[b];exact aR.qF hT kT kT
 obtain⟨⟨t1,t2,t3⟩,t4,t5,t6,t7⟩:=h.aRa (by intro e;cases e) kf (by intro c hc;simp only[List.mem_cons,List.not_mem_nil,or_false]at hc;subst hc;exact hN.lp);exact zIa
theorem Cl.sdr(h:Cl w O C p fa cs s rd B m)(hk:k<p.nl):∃OS,Sdr w OS (m.S k) (p.lb k) (p.lq k) (s.aK k).all (s.aK k).aQ (s.aK k).last (s.aK k).now/\X6 B (s.aK k)/\
  ∀(w':WA)(OS':List Nat)(B':Nat)(S:lN),Sdr w' OS' (m.S k) (p.lb k) (p.lq k) S.all S.aQ S.last S.now->aR OS OS' w w'->X6 B' S->B<=B'->∃O',aR O O' w w'/\Cl w' O' C p fa cs (s.U6 k S) rd B' m:=by obtain⟨Of,h⟩:=h;refine⟨Of (iS k),(h.snd k hk).1,(h.snd k hk).2,λw' OS' B' S hS hF hB Z9=>?_⟩;exact zHn
theorem Cl.rcv(h:Cl w O C p fa cs s rd B m)(hk:k<p.nl)(hj:j<p.n)(hb:aX (p.lt k) j=true):∃OR a b,Rcv w OR (m.R k j) (s.aV k j) a b/\((0<=a/\a<=B)/\0<=b/\b<=B)/\s.aV k j<=255/\
  ∀(w':WA)(OR':List Nat)(B':Nat)(v a' b':Int),Rcv w' OR' (m.R k j) v a' b'->aR OR OR' w w'->((0<=a'/\a'<=B')/\0<=b'/\b'<=B')->v<=255->B<=B'->∃O',aR O O' w w'/\Cl w' O' C p fa cs (s.uA k j v) rd B' m:=by obtain⟨Of,h⟩:=h;obtain⟨a,b,q,r,t⟩:=h.rcv k j hk hj hb;refine⟨Of (iR k j),a,b,q,r,t,λw' OR' B' v a' b' hS hF hB hv Z9=>?_⟩;obtain⟨⟨t1,t2,t3⟩,t4,t5,t6,t7⟩:=h.aRa (by intro e;cases e) hF hS.lt;have m79:=0;exact zIa
theorem Cl.que(h:Cl w O C p fa cs s rd B m)(hk:k<p.nl)(hj:j<p.n)(hb:aX (p.lt k) j=true):∃OQ lost,Que w OQ (m.Q k j) 16 (s.aT k j) lost/\(0<=lost/\lost<=B)/\(s.aT k j).length<=16/\
  ∀(w':WA)(OQ':List Nat)(B':Nat)(v:List WG)(aTr:Int),Que w' OQ' (m.Q k j) 16 v aTr->aR OQ OQ' w w'->(0<=aTr/\aTr<=B')->v.length<=16->B<=B'->∃O',aR O O' w w'/\Cl w' O' C p fa cs (s.setPort k j v) rd B' m:=by obtain⟨Of,h⟩:=h;obtain⟨l,q,r,t⟩:=h.que k j hk hj hb;refine⟨Of (iQ k j),l,q,r,t,λw' OQ' B' v l' hS hF hB hv Z9=>?_⟩;have m56:=0;exact zHn
end
end
theorem aX7:∀(l:List Int)(y lo hi:Int),(lo<=y/\y<=hi)->(∀x∈l,lo<=x/\x<=hi)->(lo<=l.foldl max y/\l.foldl max y<=hi)/\lo<=l.foldl min y/\l.foldl min y<=hi:=by
 intro l
 induction l with
 |nil=>intro y lo hi hy _;exact⟨hy,hy⟩
 |cons a l ih=>
  intro y lo hi hy h
  have ha:=h a kT
  exact⟨(ih (max y a) lo hi od (λx hx=>h x (kR _ hx))).1,(ih (min y a) lo hi od (λx hx=>h x (kR _ hx))).2⟩
theorem aHr(a:Option WT)(cap:Nat)(l:List Int)(w:WA)(hr:bI w a l)(hn:l.length<=1000)(jT:∀x∈l,-2199023255552<=x/\x<=2199023255552):
  Calls prog 120 #[sV a l.length cap] w λe w'=>e=rT (iI (eF l))/\w'=w:=by
 rcases Nat.eq_zero_or_pos l.length with h0|h0
 .have:l=[]:=List.length_eq_zero_iff.1 h0;subst this;clear hr jT hn h0;go_enter func120,ntmps120;exact W5
 obtain⟨b,off,rfl,hb,hc⟩:=hr h0;have eH:l≠[]:=by rintro rfl;simp at h0
 have hm0:∃y,l.headD 0=y/\-2199023255552<=y/\y<=2199023255552:=by
  cases l with
  |nil=>exact absurd rfl eH
  |cons y l=>exact⟨y,rfl,jT y kT⟩
 obtain⟨y0,hy0,hyb⟩:=hm0;obtain⟨⟨m1,m2⟩,m3,m4⟩:=aX7 l y0 (-2199023255552) 2199023255552 hyb jT;have hM:=Tryz.slices_Max_int b off l.length cap l w h0 (kG _) od hc;have hm:=Tryz.slices_Min_int b off l.length cap l w h0 (kG _) od hc;rw[List.take_length]at hM hm;have eM:Lib.maxOf l=l.foldl max y0:=by rw[<-hy0];rfl
 have em:Lib.minOf l=l.foldl min y0:=by rw[<-hy0];rfl
 rw[eM]at hM;rw[em]at hm;have HS:Hid (eF l=l.foldl max y0-l.foldl min y0):=by show _=_;rw[<-hy0];rfl
 rw[HS.out];have k1:((l.length:Int)==0)=false:=by simp;intro e;exact eH e
 generalize l.foldl max y0=x at *;generalize l.foldl min y0=y at *;generalize l.length=n at *;clear hc jT hr eH eM em HS hy0;go_enter func120,ntmps120;go_wp2_with fail;refine hM.mono ?_;rintro e w1 ⟨rfl,rfl⟩;go_wp2_with fail;refine hm.mono ?_;rintro e w1 ⟨rfl,rfl⟩;exact W5
def jV(fa:Int)(cs:List Int)(k:Nat):List Int:=((List.range k).filter λi=>!aX fa i).map λi=>cs.getD i 0
theorem aF6(fa:Int)(cs:List Int)(k:Nat):jV fa cs (k+1)=jV fa cs k++(if aX fa k=true then[]else[cs.getD k 0]):=by unfold jV;rw[List.range_succ,List.filter_append,List.map_append];congr 1;cases h:aX fa k<;>simp[h]
theorem M8(fa:Int)(cs:List Int)(k:Nat):(jV fa cs k).length<=k:=by unfold jV;rw[List.length_map];exact kH (List.length_filter_le _ _) oe
theorem pN{l:List Int}{a:Nat}(h:a<l.length):l.getD a 0∈l:=by simp[List.getD,AT h]
theorem aI5{fa:Int}{cs:List Int}{k:Nat}(hk:k<=cs.length){x:Int}(h:x∈jV fa cs k):x∈cs:=by obtain⟨i,hi,rfl⟩:=List.mem_map.1 h;have:=List.mem_range.1 (List.mem_filter.1 hi).1;exact pN od
theorem aEu{w:WA}{base n:Nat}{v:WB}{l:List Int}(h:w.ownsRow base 3 1 v n (l.map (Value.int .i64))):∃a cap,v=sV a l.length cap/\bI w a l/\l.length=n:=by
 have hl:l.length=n:=by have:=h.1;simpa using this
 rcases h.2 with⟨rfl,h0⟩|⟨g,cap,cur,rfl,hg,hh,_⟩
 .refine⟨none,0,by rw[hl,h0],λq=>absurd q od,hl⟩
 .have hlt:g<w.1.size:=by exact zEz
  refine⟨_,cap,by rw[hl],λ_=>⟨g,0,rfl,hlt,λj hj=>?_⟩,hl⟩;have:=h.cells (g:=g) rfl j (iI (l.getD j 0)) (by simp[List.getD,AT hj]);rw[mJ]at this;exact this
theorem L4(C:Nat)(fa:Int)(a:Option WT)(cap:Nat)(cs:List Int)(w:WA)(c10:w.cell? (aA C 10)=some (iI fa))(c11:w.cell? (aA C 11)=some (sV a cs.length cap))(hr:bI w a cs)(hn:cs.length<=16)(jT:∀x∈cs,-274877906944<=x/\x<=274877906944):
  Calls prog 87 #[pP C] w λe w'=>e=rT (iI (eF (fG fa cs)))/\bW w w':=by
 obtain⟨n,hln⟩:∃n,cs.length=n:=⟨_,rfl⟩;have HL:Hid (cs.length=n):=hln;have HIn:Hid (∀x∈cs,-274877906944<=x/\x<=274877906944):=jT;have HR:Hid (bI w a cs):=hr;have qN:C<w.1.size:=cT c10;obtain⟨i0,hi,qV,qO,qP⟩:=info_parts Tryz.aEh;rw[hln]at hn c11;clear jT hr hln;go_enter func87,ntmps87;go_wp2_with fail;go_loopw[3,11] (λlv t wr=>∃k:Nat,k<=n/\t=iI k/\Hid (wr.ownsRow w.1.size 3 1 lv (jV fa cs k).length ((jV fa cs k).map (Value.int .i64)))/\Hid (bW w wr)) (λ_ t _=>n-(intOf t).toNat);case atStart=>exact⟨0,kI _,rfl,World.ownsRow_nil _ _ _ _,jD _ _⟩
 case round=>
  obtain⟨k,hk,rfl,cP,eG⟩:=hrel;have y10:=bc eG.out qN c10;have aEe:C<wr.1.size:=kC qN eG.out.size;by_cases hlt:k<n
  .have kk:(k:Int)<(n:Int):=by omega
   obtain⟨b,off,rfl,hb,hc⟩:=HR.out (by rw[HL.out];omega);have y0:=bc eG.out hb (hc k (by rw[HL.out];exact hlt));have T9:b<wr.1.size:=kC hb eG.out.size;have HS:Hid (jV fa cs (k+1)=jV fa cs k++(if aX fa k=true then[]else[cs.getD k 0])):=aF6 fa cs k;have hrl:=M8 fa cs k;have hli:=vC fa k od wr;have hs0:=eG.out.size;generalize cs.getD k 0=CK at *;generalize hRT:jV fa cs k=RT at *;clear hc hRT;cases iT:aX fa k
   .rw[iT]at hli;rw[iT,kJ og]at HS;exact zJx
   .rw[iT]at hli;rw[iT,kK rfl,List.append_nil]at HS;have bGe:=0;exact zJx
  .have hkn:k=n:=by omega
   obtain⟨va,bMa,rfl,hir,bF7⟩:=aEu cP.out;have hsp:=aHr va bMa (jV fa cs k) wr hir (kH (M8 fa cs k) od) (λx hx=>by have:=HIn.out x (aI5 (by rw[HL.out];exact hk) hx);omega);have HE:Hid (jV fa cs k=fG fa cs):=by show _=_;rw[hkn,<-HL.out];rfl
   have kk:decide (k<n)=false:=kD hlt;clear hkn hlt cP hir bF7;go_wp2_with fail;refine hsp.mono ?_;rintro ev w2 ⟨rfl,h⟩;replace h:=h.symm;subst h;clear hsp;go_wp2;go_ret;exact⟨jA (λx=>Ending.returned (iI (eF x))) HE.out,eG.out⟩
theorem aGe(C:Nat)(rd:Int)(w:WA)(c12:w.cell? (aA C 12)=some (iI rd)):
  Calls prog 84 #[pP C] w λe w'=>e=rT (iI rd)/\w'=w:=by have qN:C<w.1.size:=cT c12;go_enter func84,ntmps84;exact W5
theorem oJ(C:Nat)(AA x:Int)(w:WA)(c0:w.cell? (aA C 0)=some (iI AA)):
  Calls prog 111 #[pP C,iI x] w λe w'=>e=rT (.bool (decide (0<=x/\x<AA)))/\w'=w:=by
 have qN:C<w.1.size:=cT c0;by_cases k1:0<=x
 .by_cases k2:x<AA
  .rw[kF (show 0<=x/\x<AA from⟨k1,k2⟩)];exact zFv
  .rw[kD (show ¬(0<=x/\x<AA)by omega)];have k2':decide (x<AA)=false:=kD k2;clear k2;exact zFv
 .rw[kD (show ¬(0<=x/\x<AA)by omega)];have k2':decide (0<=x)=false:=kD k1;clear k1;exact zFv
theorem vF(C:Nat)(la:Option WT)(nl cap:Nat)(x:Int)(w:WA)(c14:w.cell? (aA C 14)=some (sV la nl cap)):
  Calls prog 109 #[pP C,iI x] w λe w'=>e=rT (.bool (decide (0<=x/\x<nl)))/\w'=w:=by
 have qN:C<w.1.size:=cT c14;by_cases k1:0<=x
 .by_cases k2:x<(nl:Int)
  .rw[kF (show 0<=x/\x<(nl:Int)from⟨k1,k2⟩)];exact zFw
  .rw[kD (show ¬(0<=x/\x<(nl:Int))by omega)];have k2':decide (x<(nl:Int))=false:=kD k2;clear k2;exact zFw
 .rw[kD (show ¬(0<=x/\x<(nl:Int))by omega)];have k2':decide (0<=x)=false:=kD k1;clear k1;exact zFw
section
variable{Bi I R base i j n:Nat}{G cap:WN}{aC x:Int}{w w':WA}
theorem aJg(C cb:Nat)(n fK:Nat)(cs:List Int)(fN:cs.length=n)(w:WA)(c11:w.cell? (aA C 11)=some (sL cb n fK))(ck:∀j,j<cs.length->w.cell? (aA cb j)=some (iI (cs.getD j 0)))(jT:∀x∈cs,-274877906944<=x/\x<=274877906944)(i j:Nat)(hi:i<n)(hj:j<n):
  Calls prog 189 #[pP C,iI i,iI j] w λe w'=>e=rT (iI (cs.getD i 0-cs.getD j 0))/\∃q,w'=w.drewN q:=by have qN:=cT c11;have k0:=ck i od;have k1:=ck j od;have hlb:=cT k0;have b0:=jT _ (pN (show i<cs.length by omega));have b1:=jT _ (pN (show j<cs.length by omega));have ii:(i:Int)<(n:Int):=od;have jj:(j:Int)<(n:Int):=od;generalize cs.getD i 0=X at *;generalize cs.getD j 0=Y at *;clear ck jT;go_enter func189,ntmps189;go_wp2_with fail;go_quiet(fail);exact zFq
theorem Tryz.infoRow9:(Tryz.prog.info? 87).map (λi=>(i.zero,i.size,i.bytes))=some (some (sV none 0 0),1,24):=oh
structure RTab(w:WA)(base R n I:Nat)(f:Nat->Nat->Int)(G cap:WN)(Bi:Nat)(v:WB):Prop where
 row:∀i,i<I->w.cell? (aA R i)=some (.slice (some ⟨G i,0,none⟩) n (cap i))
 cel:∀i j,i<I->j<n->w.cell? ⟨G i,j,none⟩=some (iI (f i j))
 zG:∀i j,i<I->w.frozen? ⟨G i,j,none⟩=false
 cur:I<n->w.cell? (aA R I)=some v
 rest:∀i,I<i->i<n->w.cell? (aA R i)=some (.slice none 0 0)
 zR:∀i,w.frozen? (aA R i)=false
 lt:∀i,i<I->G i<Bi
 lo:∀i,i<I->base<=G i/\G i≠R
 ne:∀i i',i<I->i'<I->i≠i'->G i≠G i'
 lR:R<Bi
 bR:base<=R
 lB:Bi<=w.1.size
theorem RTab.grow{f:Nat->Nat->Int}{v:WB}(h:RTab w base R n I f G cap Bi v)(hI:I<n)(k:Below Bi w w')(v':WB):RTab (w'.setCell (aA R I) v') base R n I f G cap Bi v':=by
 have cR:∀i,w'.cell? (aA R i)=w.cell? (aA R i):=λi=>k.cell (p:=(aA R i)) h.lR;have cG:∀i j,i<I->w'.cell? ⟨G i,j,none⟩=w.cell? ⟨G i,j,none⟩:=λi j hi=>k.cell (p:=⟨G i,j,none⟩) (h.lt i hi);refine⟨λi hi=>?_,λi j hi hj=>?_,λi j hi=>?_,λ_=>?_,λi h1 h2=>?_,λi=>?_,h.lt,h.lo,h.ne,h.lR,h.bR,?_⟩
 .have:i≠I:=by omega
  exact(aB (.inr this)).trans ((cR i).trans (h.row i hi))
 .exact(aB (.inl (h.lo i hi).2)).trans ((cG i j hi).trans (h.cel i j hi hj))
 .exact bJ.trans ((k.frozen (p:=⟨G i,j,none⟩) (h.lt i hi)).trans (h.zG i j hi))
 .exact aZ ((cR I).trans (h.cur hI))
 .have:i≠I:=by omega
  exact(aB (.inr this)).trans ((cR i).trans (h.rest i h1 h2))
 .exact bJ.trans ((k.frozen (p:=(aA R i)) h.lR).trans (h.zR i))
 .have:=h.lB;have:=k.size;simp;omega
theorem RTab.next{f:Nat->Nat->Int}{v:WB}(h:RTab w base R n I f G cap Bi v)(hI:I<n)(hb:base<=Bi)(ho:w.ownsRow Bi 3 1 v n ((List.range n).map λj=>iI (f I j))):∃G' cap',RTab w base R n (I+1) f G' cap' w.1.size (.slice none 0 0):=by
 rcases ho.2 with⟨_,e⟩|⟨g,c,cur,hv,hg,hh,_⟩
 .omega
 .have C3:g<w.1.size:=by exact zEz
  have vI:∀j,j<n->w.cell? (aA g j)=some (iI (f I j)):=λj hj=>by have:=ho.cells (g:=g) (by rw[hv];rfl) j (iI (f I j)) (by simp[hj]);exact zEa
  have hz:∀j,w.frozen? (aA g j)=false:=λj=>by simp[World.frozen?,hh]
  have old:∀i,i<I->i≠I:=λi hi=>by omega
  refine⟨λi=>if i=I then g else G i,λi=>if i=I then c else cap i,⟨λi hi=>?_,λi j hi hj=>?_,λi j hi=>?_,λhI2=>h.rest (I+1) od hI2,λi h1 h2=>h.rest i od h2,h.zR,λi hi=>?_,λi hi=>?_,λi i' hi dN eH=>?_,kC h.lR h.lB,h.bR,kG _⟩⟩
  .by_cases e:i=I
   .subst e;rw[kK rfl,kK rfl,<-hv];exact h.cur hI
   .rw[kJ e,kJ e];exact h.row i od
  .by_cases e:i=I
   .subst e;rw[kK rfl];exact vI j hj
   .rw[kJ e];exact h.cel i j od hj
  .by_cases e:i=I
   .subst e;rw[kK rfl];exact hz j
   .rw[kJ e];exact h.zG i j od
  .by_cases e:i=I
   .rw[kK e];exact C3
   .rw[kJ e];have:=h.lt i od;have:=h.lB;omega
  .by_cases e:i=I
   .rw[kK e];have:=h.lR;exact⟨od,od⟩
   .rw[kJ e];exact h.lo i od
  .by_cases e:i=I
   .rw[kK e,kJ (show ¬i'=I by omega)];have:=h.lt i' od;omega
   .rw[kJ e];by_cases e':i'=I
    .rw[kK e'];have:=h.lt i od;omega
    .rw[kJ e'];exact h.ne i i' od od eH
theorem bD0{wr w2 w3:WA}{gq cq:Nat}{v:WB}{cs:List Int}{X:Int}(h1:w2.ownsRow Bi 3 1 v j ((List.range j).map λj=>iI (cs.getD j 0-cs.getD i 0)))(h2:Below Bi wr w2)(h3:Bi<=w2.1.size)(hX:cs.getD j 0-cs.getD i 0=X)(ho:w3.ownsRow Bi 3 1 (sL gq (j+1) cq) (j+1) (((List.range j).map λj=>iI (cs.getD j 0-cs.getD i 0))++[iI X]))(hg:(w2.alloc (.cells #[iI X] 3)).grownBy w3 v.ownBlock):Below Bi wr w3/\w3.ownsRow Bi 3 1 (sL gq (j+1) cq) (j+1) ((List.range (j+1)).map λj=>iI (cs.getD j 0-cs.getD i 0)):=by refine⟨(h2.alloc h3 _).grown hg ol (λg hg=>(h1.lt g hg).1),?_⟩;rw[List.range_succ,List.map_append];show w3.ownsRow Bi 3 1 _ (j+1) (_++[iI (cs.getD j 0-cs.getD i 0)]);rw[hX];exact ho
theorem RTab.below{f:Nat->Nat->Int}{v:WB}(h:RTab w base R n n f G cap Bi v)(k:Below Bi w w'):RTab w' base R n n f G cap Bi v:=
 ⟨λi hi=>bc k h.lR (h.row i hi),λi j hi hj=>(k.cell (p:=⟨G i,j,none⟩) (h.lt i hi)).trans (h.cel i j hi hj),λi j hi=>(k.frozen (p:=⟨G i,j,none⟩) (h.lt i hi)).trans (h.zG i j hi),λhn=>absurd hn (kW _),λi h1 h2=>absurd h2 od,λi=>(k.frozen (p:=(aA R i)) h.lR).trans (h.zR i),h.lt,h.lo,h.ne,h.lR,h.bR,kH h.lB k.size⟩
theorem RTab.set{f g:Nat->Nat->Int}{v:WB}(h:RTab w base R n n f G cap Bi v)(hi:i<n)(hj:j<n)(hg:∀i' j',i'<n->j'<n->g i' j'=if i'=i/\j'=j then x else f i' j'):RTab (w.setCell ⟨G i,j,none⟩ (iI x)) base R n n g G cap Bi v:=by
 refine⟨λi' dN=>(aB (.inl (Ne.symm (h.lo i hi).2))).trans (h.row i' dN),λi' j' dN hj'=>?_,λi' j' dN=>bJ.trans (h.zG i' j' dN),λhn=>absurd hn (kW _),λi' h1 h2=>absurd h2 od,λi'=>bJ.trans (h.zR i'),h.lt,h.lo,h.ne,h.lR,h.bR,?_⟩
 .rw[hg i' j' dN hj'];by_cases e:i'=i/\j'=j
  .obtain⟨rfl,rfl⟩:=e;rw[kK ⟨rfl,rfl⟩];exact aZ (h.cel i' j' hi hj)
  .rw[kJ e];by_cases e1:i'=i
   .have e2:j'≠j:=λy=>e ⟨e1,y⟩;exact(aB (.inr e2)).trans (h.cel i' j' dN hj')
   .exact(aB (.inl (h.ne i' i dN hi e1))).trans (h.cel i' j' dN hj')
 .have:=h.lB;simpa using this
def oB(r:cB)(n:Nat)(fa aC:Int)(cs:List Int)(k:Nat):Nat->Nat->Int:=readAll n (aX fa) aC (λi=>cs.getD i 0) ((List.range k).map λi=>⟨r.rn i,r.ro i,r.ri i⟩)
theorem aHw(r:cB)(n:Nat)(fa aC:Int)(cs:List Int)(k:Nat):oB r n fa aC cs (k+1)=gG n (aX fa) aC (λi=>cs.getD i 0) ⟨r.rn k,r.ro k,r.ri k⟩ (oB r n fa aC cs k):=by unfold oB readAll;rw[List.range_succ,List.map_append,List.foldl_append];rfl
theorem aL9{lies:Nat->Bool}{now:Nat->Int}{row:Nat->Nat->Int}(hi:i<n)(hj:j<n)(eH:(i:Int)≠(j:Int))(i2 j2:Nat):gG n lies aC now ⟨i,j,x⟩ row i2 j2=if i2=i/\j2=j then(if lies j=true then cutV x 549755813888 else now j-now i+cutV x aC)else row i2 j2:=by
 unfold gG;by_cases e:i2=i/\j2=j
 .obtain⟨rfl,rfl⟩:=e;rw[kK (show(0<=(i2:Int)/\(i2:Int)<n)/\(0<=(j2:Int)/\(j2:Int)<n)/\(i2:Int)≠(j2:Int)/\(i2:Int)=(i2:Int)/\(j2:Int)=(j2:Int)from⟨⟨od,od⟩,⟨od,od⟩,eH,rfl,rfl⟩),kK (show i2=i2/\j2=j2 from⟨rfl,rfl⟩)]
 .rw[kJ e,kJ];rintro⟨_,_,_,e1,e2⟩;have e1':(i2:Int)=(i:Int):=e1;have e2':(j2:Int)=(j:Int):=e2;exact e ⟨od,od⟩
theorem aHv{lies:Nat->Bool}{now:Nat->Int}{a b:Int}{row:Nat->Nat->Int}(h:¬((0<=a/\a<n)/\(0<=b/\b<n)/\a≠b)):gG n lies aC now ⟨a,b,x⟩ row=row:=by funext i2 j2;unfold gG;rw[kJ];rintro⟨e1,e2,e3,_⟩;exact h ⟨e1,e2,e3⟩
theorem aRz(most:Int)(v:WA):Calls prog 142 #[iI most] v λe w'=>∃L,e=rT (.func (.func 177) #[] #[pP L])/\v.1.size<=L/\w'.cell? (aA L 0)=some (iI most)/\L<w'.1.size/\bW v w':=by refine(aGa most v).mono ?_;rintro e w' ⟨he,rfl⟩;exact⟨_,he,kG _,oe,oe,(jD _ _).alloc (kG _) _⟩
theorem aZy(w:WA)(a b c:WB)(t:WI):(w.alloc (.cells #[a,b,c] t)).cell? (aA w.1.size 0)=some a/\(w.alloc (.cells #[a,b,c] t)).cell? (aA w.1.size 1)=some b/\(w.alloc (.cells #[a,b,c] t)).cell? (aA w.1.size 2)=some c/\bW w (w.alloc (.cells #[a,b,c] t))/\(w.alloc (.cells #[a,b,c] t)).1.size=w.1.size+1:=
 ⟨oe,oe,oe,(jD _ _).alloc (kG _) _,oe⟩
theorem aOf(C cb n fK:Nat)(fa aC:Int)(cs:List Int)(fN:cs.length=n)(w:WA)(c0:w.cell? ⟨C,0,none⟩=some (.int .i64 n))(c3:w.cell? ⟨C,3,none⟩=some (.int .i64 aC))(c10:w.cell? ⟨C,10,none⟩=some (.int .i64 fa))(c11:w.cell? ⟨C,11,none⟩=some (.slice (some ⟨cb,0,none⟩) n fK))(ck:∀j,j<cs.length->w.cell? ⟨cb,j,none⟩=some (.int .i64 (cs.getD j 0)))(jT:∀x∈cs,-274877906944<=x/\x<=274877906944)(hn0:1<=n)(hn:n<=16)(aGo:0<=aC)(hji:aC<=137438953472)(r:cB)(a:Option WT)(cap:Nat)(hr:jH w a r.nR r.rn r.ro r.ri)(hnR:r.nR<=9223372036854775807):
  Calls prog 148 #[.pointer (some ⟨C,0,none⟩),.slice a r.nR cap] w λe w'=>∃R G rW Bi,e=.returned (.slice (some ⟨R,0,none⟩) n n)/\RTab w' w.1.size R n n (readAll n (aX fa) aC (λi=>cs.getD i 0) r.reads) G rW Bi (.slice none 0 0)/\Below w.1.size w w':=by
 have qN:=cT c11;obtain⟨i0,hi,qV,qO,qP⟩:=info_parts Tryz.infoRow9;have hmk:=run_makeSlice (P:=prog) w 228 87 i0 _ underlying228 hi qV .i64 .i64 (n:Int) (n:Int) od (Int.le_refl _) (by rw[qO];simp;omega) O8 od;rw[Int.toNat_natCast,qO,Nat.mul_one]at hmk;clear hi qV qO qP;obtain⟨i1,hiI,hy0,hy1,hy2⟩:=info_parts Tryz.aEh;have aT2:=cT (ck 0 od);have hap:=λ(v:WA)(hv:Below w.1.size w v)(i j:Nat)(hi:i<n)(hj:j<n)=>aJg C cb n fK cs fN v ((hv.cell (p:=⟨C,11,none⟩) qN).trans c11) (λj hj=>(hv.cell (p:=⟨cb,j,none⟩) aT2).trans (ck j hj)) jT i j hi hj;have HAP:Hid _:=hap;have HT0:Hid ((∃G cap,RTab (w.alloc (.cells (madeCells #[.slice none 0 0] n) 87)) w.1.size w.1.size n 0 (λi j=>cs.getD j 0-cs.getD i 0) G cap (w.alloc (.cells (madeCells #[.slice none 0 0] n) 87)).1.size (.slice none 0 0))/\Below w.1.size w (w.alloc (.cells (madeCells #[.slice none 0 0] n) 87))):=by
  have hc:∀i,i<n->(w.alloc (.cells (madeCells #[.slice none 0 0] n) 87)).cell? ⟨w.1.size,i,none⟩=some (.slice none 0 0):=λi hi=>by simp[madeCells,hi,Nat.mod_one]
  exact⟨⟨λ_=>0,λ_=>0,λi hi=>absurd hi (kV _),λi _ hi=>absurd hi (kV _),λi _ hi=>absurd hi (kV _),λh=>hc 0 h,λi _ h2=>hc i h2,λi=>by simp,λi hi=>absurd hi (kV _),λi hi=>absurd hi (kV _),λi _ hi=>absurd hi (kV _),oe,kG _,kG _⟩,(jD _ _).alloc (kG _) _⟩
 have HRR:Hid (jH w a r.nR r.rn r.ro r.ri):=hr;obtain⟨nR,bBj⟩:∃nR,r.nR=nR:=⟨_,rfl⟩;have HNR:Hid (r.nR=nR):=bBj;rw[bBj]at hnR⊢;have HJI:Hid (0<=aC/\aC<=137438953472):=⟨aGo,hji⟩;clear hr bBj;have HCS:Hid (cs.length=n/\(∀j,j<cs.length->w.cell? ⟨cb,j,none⟩=some (.int .i64 (cs.getD j 0)))/\∀x∈cs,-274877906944<=x/\x<=274877906944):=⟨fN,ck,jT⟩;clear fN ck jT hap;go_enter func148,ntmps148;go_wp2_with fail;clear hmk;generalize w.alloc (.cells (madeCells #[.slice none 0 0] n) 87)=V at *;go_loopw[20] (λt wr=>∃i:Nat,i<=n/\t=.int .i64 i/\Hid ((∃G cap,RTab wr w.1.size w.1.size n i (λi j=>cs.getD j 0-cs.getD i 0) G cap wr.1.size (.slice none 0 0))/\Below w.1.size w wr)) (λt _=>n-(intOf t).toNat);case atStart=>exact⟨0,kI _,rfl,HT0⟩
 case round=>
  obtain⟨i,hi,rfl,HI⟩:=hrel;clear HT0;by_cases hlt:i<n
  .have ii:(i:Int)<(n:Int):=by omega
   have y11:=(HI.out.2.cell (p:=⟨C,11,none⟩) qN).trans c11;have aEe:C<wr.1.size:=kC qN HI.out.2.size;obtain⟨G,rW,d7⟩:=HI.out.1;have vH:=HI.out.2;obtain⟨Bi,hBi⟩:∃Bi,wr.1.size=Bi:=⟨_,rfl⟩;rw[hBi]at d7;have HJ0:Hid (∃v,RTab wr w.1.size w.1.size n i (λi j=>cs.getD j 0-cs.getD i 0) G rW Bi v/\wr.ownsRow Bi 3 1 v 0 ((List.range 0).map λj=>.int .i64 (cs.getD j 0-cs.getD i 0))/\Below w.1.size w wr):=⟨_,d7,World.ownsRow_nil _ _ _ _,vH⟩;have HBi:Hid (w.1.size<=Bi):=by show w.1.size<=Bi;rw[<-hBi];exact vH.size
   clear d7 vH HI hBi;go_wp2_with fail;clear y11 aEe;rename WA=>wq
   go_loopw[28] (λt wr=>∃j:Nat,j<=n/\t=.int .i64 j/\Hid (∃v,RTab wr w.1.size w.1.size n i (λi j=>cs.getD j 0-cs.getD i 0) G rW Bi v/\wr.ownsRow Bi 3 1 v j ((List.range j).map λj=>.int .i64 (cs.getD j 0-cs.getD i 0))/\Below w.1.size w wr)) (λt _=>n-(intOf t).toNat);case atStart=>exact⟨0,kI _,rfl,HJ0⟩
   case round=>
    obtain⟨j,hj,rfl,HJ⟩:=hrel;clear HJ0;by_cases hlj:j<n
    .have jj:(j:Int)<(n:Int):=by omega
     obtain⟨v,d7,cP,vH⟩:=HJ.out;have yR:=d7.cur hlt;have zR:=d7.zR i;have hlR:w.1.size<wr.1.size:=kC d7.lR d7.lB;have bBb:=HAP.out wr.drew ⟨vH.os,vH.tape,vH.output,vH.size,vH.block⟩ j i hlj hlt;generalize hXe:cs.getD j 0-cs.getD i 0=X at bBb;have HXe:Hid (cs.getD j 0-cs.getD i 0=X):=hXe;have HTB:Hid _:=d7;have HOW:Hid (wr.ownsRow Bi 3 1 v j ((List.range j).map λj=>.int .i64 (cs.getD j 0-cs.getD i 0))):=cP;have HBW:Hid (Below w.1.size w wr):=vH;have HLT:Hid (i<n):=hlt;clear hXe HJ d7 cP vH;go_wp2_with fail;refine wp_region_noPanic ?_;have bKw:=0;exact zK5
    .have hjn:j=n:=by omega
     have HN:Hid ((∃G cap,RTab wr w.1.size w.1.size n (i+1) (λi j=>cs.getD j 0-cs.getD i 0) G cap wr.1.size (.slice none 0 0))/\Below w.1.size w wr):=by obtain⟨v,h1,h2,h3⟩:=HJ.out;rw[hjn]at h2;exact⟨h1.next hlt HBi.out h2,h3⟩
     have kk:decide (j<n)=false:=kD hlj;clear HJ hjn hlj;go_wp2;go_roundw;case rel=>exact⟨i+1,od,Od,HN⟩
     case measure=>simp[intOf];omega
  .have jT:i=n:=by omega
   obtain⟨G,rW,d7⟩:=HI.out.1;have HT1:Hid (RTab wr w.1.size w.1.size n n (λi j=>cs.getD j 0-cs.getD i 0) G rW wr.1.size (.slice none 0 0)):=by rw[<-jT];rw[<-jT]at d7;exact d7
   have oZ:Hid (Below w.1.size w wr):=HI.out.2;have kk:decide (i<n)=false:=kD hlt;have y3:=(oZ.out.cell (p:=⟨C,3,none⟩) qN).trans c3;have aEe:C<wr.1.size:=kC qN oZ.out.size;have L6:=λv=>aRz 549755813888 v;have hc2:=λv=>aRz aC v;clear d7 HI jT hlt;go_wp2_with fail;go_region_held3(λu=>u.cell? ⟨C,3,none⟩=some (.int .i64 aC)) (go_keep) (first
    |(go_at_call 142;refine(hc2 _).mono ?_;rintro e v2 ⟨L2,rfl,q1,q2,q3,q4⟩;have HL2:Hid ((wr.1.size<=L1/\L1<v2.1.size/\v2.cell? ⟨L1,0,none⟩=some (.int .i64 549755813888))/\(wr.1.size<=L2/\L2<v2.1.size/\v2.cell? ⟨L2,0,none⟩=some (.int .i64 aC))/\Below wr.1.size wr v2):=(by obtain⟨a1,a2,a3,a4⟩:=HL1.out;exact⟨⟨a1,kC a2 q4.size,(q4.cell (p:=⟨L1,0,none⟩) a2).trans a3⟩,⟨kH a4.size q1,q3,q2⟩,a4.trans (q4.mono a4.size)⟩);have z3:=(HL2.out.2.2.cell (p:=⟨C,3,none⟩) aEe).trans y3;clear q1 q2 q3 q4)
    |(go_at_call 142;refine(L6 _).mono ?_;rintro e v1 ⟨L1,rfl,q1,q2,q3,q4⟩;have HL1:Hid (wr.1.size<=L1/\L1<v1.1.size/\v1.cell? ⟨L1,0,none⟩=some (.int .i64 549755813888)/\Below wr.1.size wr v1):=⟨q1,q3,q2,⟨q4.os,q4.tape,q4.output,q4.size,q4.block⟩⟩;have z3:=(HL1.out.2.2.2.cell (p:=⟨C,3,none⟩) aEe).trans y3;clear q1 q2 q3 q4))
   obtain⟨Bi,hBi⟩:∃Bi,wr.1.size=Bi:=⟨_,rfl⟩;have HST:Hid (RTab v2 w.1.size w.1.size n n (oB r n fa aC cs 0) G rW Bi (.slice none 0 0)/\((Bi<=L1/\v2.cell? ⟨L1,0,none⟩=some (.int .i64 549755813888))/\Bi<=L2/\v2.cell? ⟨L2,0,none⟩=some (.int .i64 aC))/\Below w.1.size w v2):=by obtain⟨⟨a1,a2,a3⟩,⟨a4,a5,a6⟩,a7⟩:=HL2.out;rw[hBi]at a1 a4 a7;have h1:=HT1.out;rw[hBi]at h1;exact⟨h1.below a7,⟨⟨a1,a3⟩,a4,a6⟩,oZ.out.trans (a7.mono (by rw[<-hBi];exact oZ.out.size))⟩
   have HBi:Hid (w.1.size<=Bi):=by show w.1.size<=Bi;rw[<-hBi];exact oZ.out.size
   clear HL1 HL2 HT1 oZ y3 aEe L6 hc2 z3 kk hBi;go_wp2_with fail;rename WA=>wq
   go_loopw[55] (λt wr=>∃k:Nat,k<=nR/\t=.int .i64 k/\Hid (RTab wr w.1.size w.1.size n n (oB r n fa aC cs k) G rW Bi (.slice none 0 0)/\((Bi<=L1/\wr.cell? ⟨L1,0,none⟩=some (.int .i64 549755813888))/\Bi<=L2/\wr.cell? ⟨L2,0,none⟩=some (.int .i64 aC))/\Below w.1.size w wr)) (λt _=>nR-(intOf t).toNat);case atStart=>exact⟨0,kI _,rfl,HST⟩
   case round=>
    clear HST;obtain⟨k,hk,rfl,HI⟩:=hrel;by_cases hlt:k<nR
    .obtain⟨b,off,rfl,hb,hc⟩:=HRR.out (by rw[HNR.out];omega);obtain⟨x0,x1,x2⟩:=hc k (by rw[HNR.out];exact hlt);have y0:=(HI.out.2.2.cell (p:=⟨b,off+k*3,none⟩) hb).trans x0;have y1:=(HI.out.2.2.cell (p:=⟨b,off+k*3+1,none⟩) hb).trans x1;have y2:=(HI.out.2.2.cell (p:=⟨b,off+k*3+2,none⟩) hb).trans x2;have T9:b<wr.1.size:=kC hb HI.out.2.2.size;have kk:(k:Int)<(nR:Int):=od;have HSU:Hid (oB r n fa aC cs (k+1)=gG n (aX fa) aC (λi=>cs.getD i 0) ⟨r.rn k,r.ro k,r.ri k⟩ (oB r n fa aC cs k)):=aHw ..;generalize r.rn k=NX at *;generalize r.ro k=OX at *;generalize r.ri k=IX at *;obtain⟨q0,q1,q2,qB,qS⟩:=aZy wr (.int .i64 NX) (.int .i64 OX) (.int .i64 IX) 140;have aEe:C<wr.1.size:=kC qN HI.out.2.2.size;have qK:Hid (Below wr.1.size wr (wr.alloc (.cells #[.int .i64 NX,.int .i64 OX,.int .i64 IX] 140))):=qB;have d0:=(qB.cell (p:=⟨C,0,none⟩) aEe).trans ((HI.out.2.2.cell (p:=⟨C,0,none⟩) qN).trans c0);have d10:=(qB.cell (p:=⟨C,10,none⟩) aEe).trans ((HI.out.2.2.cell (p:=⟨C,10,none⟩) qN).trans c10);have xR:C<(wr.alloc (.cells #[.int .i64 NX,.int .i64 OX,.int .i64 IX] 140)).1.size:=O0;have hl1:wr.1.size<(wr.alloc (.cells #[.int .i64 NX,.int .i64 OX,.int .i64 IX] 140)).1.size:=O0;have hnd:=λ(x:Int)=>oJ C n x (wr.alloc (.cells #[.int .i64 NX,.int .i64 OX,.int .i64 IX] 140)) d0;clear x0 x1 x2 hc qS qB;by_cases hv:(0<=NX/\NX<n)/\(0<=OX/\OX<n)/\NX≠OX
     .obtain⟨⟨v1,v2'⟩,⟨v3,v4⟩,v5⟩:=hv;obtain⟨i',rfl⟩:∃i':Nat,NX=i':=⟨NX.toNat,od⟩;obtain⟨j',rfl⟩:∃j':Nat,OX=j':=⟨OX.toNat,od⟩;have hii:i'<n:=od;have hjj:j'<n:=od;have iU:=hnd (i':Int);have hn2:=hnd (j':Int);rw[kF (show 0<=(i':Int)/\(i':Int)<n from⟨v1,v2'⟩)]at iU;rw[kF (show 0<=(j':Int)/\(j':Int)<n from⟨v3,v4⟩)]at hn2;have k5:((i':Int)==(j':Int))=false:=by simpa using v5
      have vK:=λv=>vC fa j' od v;have HG:Hid (∀i2 j2,oB r n fa aC cs (k+1) i2 j2=if i2=i'/\j2=j' then(if aX fa j'=true then cutV IX 549755813888 else cs.getD j' 0-cs.getD i' 0+cutV IX aC)else oB r n fa aC cs k i2 j2):=λi2 j2=>by rw[HSU.out];exact aL9 hii hjj v5 i2 j2
      have gR:=(qK.out.cell (p:=⟨w.1.size,i',none⟩) (kC HI.out.1.lR HI.out.1.lB)).trans (HI.out.1.row i' hii);have gC:=(qK.out.cell (p:=⟨G i',j',none⟩) (kC (HI.out.1.lt i' hii) HI.out.1.lB)).trans (HI.out.1.cel i' j' hii hjj);have gZ:=(qK.out.frozen (p:=⟨G i',j',none⟩) (kC (HI.out.1.lt i' hii) HI.out.1.lB)).trans (HI.out.1.zG i' j' hii);have hGl:G i'<(wr.alloc (.cells #[.int .i64 i',.int .i64 j',.int .i64 IX] 140)).1.size:=by have:=HI.out.1.lt i' hii;have:=HI.out.1.lB;omega
      have hRl:w.1.size<(wr.alloc (.cells #[.int .i64 i',.int .i64 j',.int .i64 IX] 140)).1.size:=by have:=HI.out.1.lR;have:=HI.out.1.lB;omega
      have hGR:G i'≠w.1.size:=(HI.out.1.lo i' hii).2;have hGb:G i'≠wr.1.size:=by have:=HI.out.1.lt i' hii;have:=HI.out.1.lB;omega
      have hGC:G i'≠C:=by have:=(HI.out.1.lo i' hii).1;omega
      have hL1:L1<wr.1.size:=cT HI.out.2.1.1.2;have hL2:L2<wr.1.size:=cT HI.out.2.1.2.2;have l1:=(qK.out.cell (p:=⟨L1,0,none⟩) hL1).trans HI.out.2.1.1.2;have l2:=(qK.out.cell (p:=⟨L2,0,none⟩) hL2).trans HI.out.2.1.2.2;have hG1:G i'≠L1:=by have:=HI.out.1.lt i' hii;have:=HI.out.2.1.1.1;omega
      have hG2:G i'≠L2:=by have:=HI.out.1.lt i' hii;have:=HI.out.2.1.2.1;omega
      have HNX:Hid (∀x:Int,∀u:Nat,(∀i2 j2,oB r n fa aC cs (k+1) i2 j2=if i2=i'/\j2=j' then x else oB r n fa aC cs k i2 j2)->RTab (((wr.alloc (.cells #[.int .i64 i',.int .i64 j',.int .i64 IX] 140)).drewN u).setCell ⟨G i',j',none⟩ (.int .i64 x)) w.1.size w.1.size n n (oB r n fa aC cs (k+1)) G rW Bi (.slice none 0 0)/\((Bi<=L1/\(((wr.alloc (.cells #[.int .i64 i',.int .i64 j',.int .i64 IX] 140)).drewN u).setCell ⟨G i',j',none⟩ (.int .i64 x)).cell? ⟨L1,0,none⟩=some (.int .i64 549755813888))/\Bi<=L2/\(((wr.alloc (.cells #[.int .i64 i',.int .i64 j',.int .i64 IX] 140)).drewN u).setCell ⟨G i',j',none⟩ (.int .i64 x)).cell? ⟨L2,0,none⟩=some (.int .i64 aC))/\Below w.1.size w (((wr.alloc (.cells #[.int .i64 i',.int .i64 j',.int .i64 IX] 140)).drewN u).setCell ⟨G i',j',none⟩ (.int .i64 x))):=λx u hg=>by obtain⟨t1,⟨⟨t2,t3⟩,t4,t5⟩,t6⟩:=HI.out;have hb':Below wr.1.size wr ((wr.alloc (.cells #[.int .i64 i',.int .i64 j',.int .i64 IX] 140)).drewN u):=⟨qK.out.os,qK.out.tape,qK.out.output,qK.out.size,qK.out.block⟩;refine⟨(t1.below (hb'.mono t1.lB)).set hii hjj (λi2 j2 _ _=>hg i2 j2),⟨⟨t2,(aB (.inl (Ne.symm hG1))).trans l1⟩,t4,(aB (.inl (Ne.symm hG2))).trans l2⟩,?_⟩;exact(t6.trans (hb'.mono t6.size)).trans (((aW.refl (G i') (G i') _).set (p:=⟨G i',j',none⟩) (.inl rfl) _).below (by have:=t6.size;have:=hb'.size;omega) (t1.lo i' hii).1 (t1.lo i' hii).1)
      have bMm:-549755813888<=cutV IX 549755813888/\cutV IX 549755813888<=549755813888:=wQ og;have bMn:-aC<=cutV IX aC/\cutV IX aC<=aC:=wQ aGo;have gI:(i':Int)<(n:Int):=od;have gJ:(j':Int)<(n:Int):=od;clear hnd HSU v5;exact zHz
     .have HNN:Hid (RTab (wr.alloc (.cells #[.int .i64 NX,.int .i64 OX,.int .i64 IX] 140)) w.1.size w.1.size n n (oB r n fa aC cs (k+1)) G rW Bi (.slice none 0 0)/\((Bi<=L1/\(wr.alloc (.cells #[.int .i64 NX,.int .i64 OX,.int .i64 IX] 140)).cell? ⟨L1,0,none⟩=some (.int .i64 549755813888))/\Bi<=L2/\(wr.alloc (.cells #[.int .i64 NX,.int .i64 OX,.int .i64 IX] 140)).cell? ⟨L2,0,none⟩=some (.int .i64 aC))/\Below w.1.size w (wr.alloc (.cells #[.int .i64 NX,.int .i64 OX,.int .i64 IX] 140))):=by obtain⟨t1,⟨⟨t2,t3⟩,t4,t5⟩,t6⟩:=HI.out;rw[HSU.out,aHv hv];exact⟨t1.below (qK.out.mono t1.lB),⟨⟨t2,(qK.out.cell (p:=⟨L1,0,none⟩) (cT t3)).trans t3⟩,t4,(qK.out.cell (p:=⟨L2,0,none⟩) (cT t5)).trans t5⟩,t6.trans (qK.out.mono t6.size)⟩
      clear HI HSU qK;by_cases w1:0<=NX/\NX<(n:Int)
      .by_cases w2:0<=OX/\OX<(n:Int)
       .obtain rfl:NX=OX:=by
         by_cases e:NX=OX
         .exact e
         .exact absurd ⟨w1,w2,e⟩ hv
        have iU:=hnd NX;rw[kF w1]at iU;clear hv hnd;go_wp2_with fail;clear y0 y1 y2;refine iU.mono ?_;rintro e v7 ⟨rfl,hv7⟩;replace hv7:=hv7.symm;subst hv7;go_wp2_with fail;exact zCf
       .have iU:=hnd NX;have hn2:=hnd OX;rw[kF w1]at iU;rw[kD w2]at hn2;clear hv hnd w1 w2;have m68:=0;exact zHz
      .have iU:=hnd NX;rw[kD w1]at iU;clear hv hnd w1;go_wp2_with fail;clear y0 y1 y2;exact zCf
    .have hkn:k=nR:=by omega
     have HD:Hid (RTab wr w.1.size w.1.size n n (readAll n (aX fa) aC (λi=>cs.getD i 0) r.reads) G rW Bi (.slice none 0 0)/\Below w.1.size w wr):=by obtain⟨t1,_,t6⟩:=HI.out;rw[hkn,<-HNR.out]at t1;exact⟨t1,t6⟩
     have kk:decide (k<nR)=false:=kD hlt;clear hkn hlt HI;go_wp2;go_ret;exact⟨_,_,_,_,rfl,HD.out.1,HD.out.2⟩
end
