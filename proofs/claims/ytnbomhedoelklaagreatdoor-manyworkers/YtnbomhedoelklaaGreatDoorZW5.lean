import Derived.Test.YtnbomhedoelklaaGreatDoorZW2
import Derived.Deep.QuietTactic
set_option maxRecDepth 100000
namespace Go.Proofs.YtnbomhedoelklaaGreatDoor
variable {p:Prop}
theorem zB0(h:p:=by go_enter func151,ntmps151;go_wp2_with fail;go_quiet(first|(go_at_call 178;refine Calls.quiet_of_same (hK _))|(go_at_call 192;refine Calls.quiet_of_same (HBt _)));exact zFq):p:=h
theorem zG9(h:p:=by
 obtain⟨b,off,rfl,hb,hc⟩:=hr od;have hfa:=aX5 b off cap l.length l rfl hn w hb hc;rw[jT]at hfa
 first
 |let _:=m42;obtain⟨n,hl⟩:∃n,l.length=n:=⟨_,rfl⟩;have hA:=U3 jT (k:=f) od;have hZ:=U3 jT (k:=n-1-f) od;have HM:Hid (xU l f=(nK l f+nK l (n-1-f))/2):=by show _=_;rw[xU,hl]
  rw[hl]at hfa hn h⊢;have HC:Hid (∀W:WA,bW w W->Calls prog 103 #[sV (some (aA b off)) n cap] W λe w'=>∃g cp,e=rT (sL g n cp)/\W.1.size<=g/\g<w'.1.size/\Holds (Value.int .i64) w' g 0 l.toArray/\bW W w'):=λW hW=>by refine(Tryz.slices_Clone_int b off n cap l W od od (λj hj=>bc hW hb (hc j hj))).mono ?_;rintro e w1 ⟨v1,rfl,cP,pA,bBc⟩;rw[List.take_of_length_le od]at cP;obtain⟨g,cp,rfl,hbg,C3,_,_,_,hH⟩:=Lib.holds_of_ownsRow cP pA;exact⟨g,cp,rfl,hbg,C3,hH,bBc⟩
 |generalize l.length=n at *
 have k1:decide ((f:Int)<0)=false:=kD od;have k2:((n:Int)==0)=false:=ol;have k3:decide (((n:Int)-1)/2<(f:Int))=false:=kD od
 first|let _:=m42;obtain⟨k,hk⟩:∃k,n-1-f=k:=⟨_,rfl⟩;rw[hk]at hZ HM;have k4:(n:Int)-1-(f:Int)=(k:Int):=od;have hkn:k<n:=od;have hfn:f<n:=od;have HL:Hid (l.length=n):=hl;clear hc jT hr hl hk;obtain⟨p,hp⟩:∃p,nK l f=p:=⟨_,rfl⟩;obtain⟨q,hq⟩:∃q,nK l k=q:=⟨_,rfl⟩;rw[hp]at hA HM;rw[hq]at hZ HM;have HP:Hid (nK l f=p):=hp;have HQ:Hid (nK l k=q):=hq;clear hp hq;rw[HM.out]|clear hc jT hr
 go_enter func90,ntmps90;go_wp2_with fail;refine(Y4 _).mono ?_;rintro e w1 ⟨rfl,rfl⟩;go_wp2_with fail;refine hfa.mono ?_;rintro e w2 ⟨rfl,iT⟩
 first
 |let _:=m42;go_wp2_with fail;refine(HC.out _ iT).mono ?_;rintro e w3 ⟨g,cp,rfl,hg,C3,hH,sN⟩;have bJa:bW w w3:=Y3 iT sN;have hS:=Tryz.slices_Sort_int g 0 cp l w3 hH C3 (by rw[HL.out];omega);rw[HL.out]at hS;have HX:Hid (w.1.size<=g/\Holds (Value.int .i64) w3 g 0 l.toArray):=⟨kH iT.size hg,hH⟩;clear hH iT sN hfa HC;go_wp2_with fail;refine hS.mono ?_;rintro e w4 ⟨rfl,nn,os,hw4⟩;obtain⟨fO,hb4⟩:=aLq bJa HX.out.1 C3 HX.out.2 hw4;have c1:w4.cell? (aA g f)=some (iI p):=by rw[fO f (by rw[HL.out];exact hfn),HP.out]
  have c2:w4.cell? (aA g k)=some (iI q):=by rw[fO k (by rw[HL.out];exact hkn),HQ.out]
  clear fO hw4 HX hS;have k5:(f:Int)<(n:Int):=od;have k6:(k:Int)<(n:Int):=od;go_wp2_with fail;go_quiet(fail);all_goals go_wp2
  all_goals go_ret2
  all_goals exact⟨rfl,below_drewN' hb4 _⟩
 |go_wp2;go_ret2;exact⟨rfl,iT⟩):p:=h
theorem zIk(h:p:=by
 go_wp2_with(first|(go_at_call 125;refine(aQv f s n d _ HR.out).mono ?_;rintro e w1 ⟨rfl,hb⟩;obtain⟨c0,c1,c2,c3,hz⟩:=bEb hb)|go_in)
 first|let _:=m89;go_quiet(fail);go_wp2;go_ret2;refine⟨rfl,below_drewN ?_ _⟩|go_ret2;refine⟨rfl,?_⟩
 exact zFn):p:=h
theorem zI2(h:p:=by
 have hi:=Tryz.stringslite_Index_one s 10;rw[h]at hi
 first|let _:=bG4;have c1:(0:Int)<=↑k:=od;have c2:(↑k:Int)<=↑s.size:=od;have c3:(0:Int)<=↑k+1:=od;have c4:(↑k+1:Int)<=↑s.size:=od|skip
 go_enter func94,ntmps94;go_wp2_with(go_at_call 127;refine(hi _).mono ?_;rintro e w' ⟨rfl,rfl⟩)
 first|let _:=bG4;go_quiet(fail);go_wp2;refine bodyPost_ret (v:=tU #[sT (s.extract 0 k),sT (s.extract (k+1) s.size),.bool true]) (by simp[results,results94,go_sem]) rfl ⟨rfl,rfl,rfl,rfl,kG _,λ_ _=>rfl⟩|refine bodyPost_ret (v:=tU #[sT s,sT ⟨#[]⟩,.bool false]) (by simp[results,results94,go_sem]) rfl ⟨rfl,jD _ _⟩):p:=h
theorem zLi(h:p:=by
 obtain⟨a,cap,rfl⟩:=nZ own;have G6:decide (40<(d.size:Int))=false:=kD od
 first
 |let _:=bCa
 |first|let _:=m6;have hq2:decide (queue<=((all.length-aQ:Nat):Int))=false:=kD od;have z2:=z 2|have hq2:decide (most<=(all.length:Int))=false:=kD od;have z1:=z 1
  have HZ:Hid (∀i,w.frozen? (aA P i)=false):=z
 have hlp:P<w.1.size:=od
 first
 |let _:=bCa
  first|let _:=bG6;have hn:all.length-aQ<=10000000:=od;clear own z we;generalize all.length-aQ=n at *;go_enter func110,ntmps110|have z2:=z 2;clear own z HH;obtain⟨n,hn⟩:∃n,all.length=n:=⟨_,rfl⟩;rw[hn]at c1 hq HF⊢;clear hn;go_enter func194,ntmps194
 |let _:=m6;obtain⟨n,hn⟩:∃n,all.length-aQ=n:=⟨_,rfl⟩;have HN:Hid (all.length-aQ=n/\aQ<=all.length):=⟨hn,we⟩;rw[hn]at own hq2 c2;have aJ4:Hid (w.ownsRow B 9 1 (.slice a n cap) n ((all.drop aQ).map Value.string)):=own;have iU:n<=10000000:=od;rw[hn];clear own hq z hn we ha;go_enter func110,ntmps110
 |obtain⟨n,hn⟩:∃n,all.length=n:=⟨_,rfl⟩;have HN:Hid (all.length=n):=hn;rw[hn]at own hq2 c1 ha;have aJ4:Hid (w.ownsRow B 9 1 (.slice a n cap) n (all.map Value.string)):=own;rw[hn];clear own hq z hn;go_enter func194,ntmps194
 go_wp2_with fail;go_quiet(fail)
 first
 |let _:=bCa
  first|let _:=bG6;exact zFq|go_wp2;go_ret;exact⟨rfl,HF.out _⟩
 |first|let _:=m6;have hOq:(w.drewN nq).ownsRow B 9 1 (.slice a n cap) n ((all.drop aQ).map Value.string):=aJ4.out|have hOq:(w.drewN nq).ownsRow B 9 1 (.slice a n cap) n (all.map Value.string):=aJ4.out
  go_wp2_with(at_builtin;refine wpList_append_own_at _ rfl _ _ 22 rfl B 9 i0 (.string AU) 1 16 underlying22 hi qV qO qP rfl og (.slice a n cap) n _ rfl (hOq.alloc _) (aA w.1.size 0) 1 1 [.string d] rfl rfl (cell_one_new _ _ _) Oi ot od ol ?_;apply Hid.out);unfold Hid;intro v' w3 dI bT _ oX;have nJ:∀g,(Value.slice a n cap).ownBlock=some g->B<=g/\g<w.1.size:=λg hg=>aJ4.out.lt g hg;have hD:∀C,Below C w (w.drewN nq):=λ_=>⟨rfl,rfl,rfl,kG _,λ_ _=>rfl⟩;have qT:Below B w w3:=(((hD B).alloc lb _).grown bT ol (λg hg=>(nJ g hg).1));have HT3:Hid (aW P ((Value.slice a n cap).ownBlock.getD P) w w3):=by exact zBm
  have HAt:Hid (v'.ownBlock=(Value.slice a n cap).ownBlock\/∃g,w.1.size<=g/\v'.ownBlock=some g):=by
   rcases oX with y|y
   .exact .inl y
   .exact .inr ⟨_,od,y⟩
  obtain⟨a3,aG8,rfl⟩:=nZ dI
  first|(let _:=m6;have HO3:Hid (w3.ownsRow B 9 1 (.slice a3 (n+1) aG8) (n+1) ((all.drop aQ).map Value.string++[.string d])):=by rw[List.map_drop];exact dI)|have HO3:Hid (w3.ownsRow B 9 1 (.slice a3 (n+1) aG8) (n+1) (all.map Value.string++[.string d])):=dI
  have cc:∀i,w3.cell? (aA P i)=w.cell? (aA P i):=λi=>qT.cell (p:=(aA P i)) lp;have HZ3:Hid (∀i,w3.frozen? (aA P i)=false):=λi=>(qT.frozen (p:=(aA P i)) lp).trans (HZ.out i)
  first|let _:=m6;have y2:=(cc 2).trans c2;have zz2:=HZ3.out 2|have y1:=(cc 1).trans c1;have zz1:=HZ3.out 1
  have hs3:=qT.size;have hl3:P<w3.1.size:=od
  first
  |let _:=m6;have fin:eT (w3.setCell (aA P 2) (.slice a3 (n+1) aG8)) B P bag queue (all++[d]) (.slice a3 (n+1) aG8) aQ last now:=
    ⟨(aB (.inr og)).trans ((cc 0).trans c0),(aB (.inr og)).trans ((cc 1).trans c1),aZ y2,(aB (.inr og)).trans ((cc 3).trans c3),(aB (.inr og)).trans ((cc 4).trans c4),(aB (.inr og)).trans ((cc 5).trans c5),λi=>bJ.trans (HZ3.out i),by
     have e0:=HN.out
     have e1:(all++[d]).length-aQ=n+1:=ol
     have e2:((all++[d]).drop aQ).map Value.string=(all.drop aQ).map Value.string++[.string d]:=by
      rw[List.drop_append_of_le_length e0.2,List.map_append];rfl
     rw[e1,e2]
     exact fL HO3.out lp,lp,ol,by have:=HN.out;simp;omega⟩
   have aWg:Hid _:=fin;have HTT:Hid _:=HT3.out.set (p:=(aA P 2)) (.inl rfl) (.slice a3 (n+1) aG8);clear fin cc dI bT oX qT nJ hOq c0 c1 c2 c3 c4 c5
  |have fin:mH (w3.setCell (aA P 1) (.slice a3 (n+1) aG8)) B P most (all++[d]) lost (.slice a3 (n+1) aG8):=
    ⟨(aB (.inr og)).trans ((cc 0).trans c0),aZ y1,(aB (.inr og)).trans ((cc 2).trans c2),λi=>bJ.trans (HZ3.out i),by
     have e0:=HN.out
     have e1:(all++[d]).length=n+1:=ol
     rw[e1,List.map_append]
     exact fL HO3.out lp,lp,ol⟩
   have aWg:Hid _:=fin;have HTT:Hid _:=HT3.out.set (p:=(aA P 1)) (.inl rfl) (.slice a3 (n+1) aG8);clear fin cc dI bT oX qT nJ hOq c0 c1 c2
  go_wp2;go_ret;exact⟨rfl,_,aWg.out,HTT.out,HAt.out⟩):p:=h
theorem zLr(h:p:=by
 have n0:V.cell? (aA b off)=some (iI (n.getD 0 0)):=bc hB oF (hc 0 og);have n1:V.cell? (aA b (off+1))=some (iI (n.getD 1 0)):=bc hB oF (hc 1 og);have n2:V.cell? (aA b (off+2))=some (iI (n.getD 2 0)):=bc hB oF (hc 2 og)
 first
 |let _:=bL5
  first
  |let _:=aKe
   first|let _:=m20;have n3:V.cell? (aA b (off+3))=some (iI (n.getD 3 0)):=bc hB oF (hc 3 og)|skip
  |have hs:=h.below hB
   first|let _:=m3;have c0:=aN hs.blk (i:=12) rfl;have z0:=bE hs.blk (i:=12)|have c0:=aN hs.blk (i:=11) rfl;have z0:=bE hs.blk (i:=11)
   have hSl:=hs.r.hi S hs.r.s
  have xC:b<V.1.size:=kC oF hB.size
  first
  |let _:=aKe;have hs:=h.below (hB.trans ((bdN V 1).mono hB.size));have HBO:Hid (b∉M++O):=hbo
   first
   |let _:=m20;have HC:Hid (Calls prog 74 #[.pointer (some (aA S 7)),iI 8,.agg #[iI (n.getD 0 0),iI (n.getD 1 0),iI (n.getD 2 0),iI (n.getD 3 0)]] (V.drewN 1) (bK base S M O st N .oP n tx (V.drewN 1))):=by
     by_cases hns:st.aO.nl<8
     .exact aB9 (V.drewN 1) hs hc0 hns n hi tx
     .exact aB8 (V.drewN 1) hs hns n tx
    have HP:Hid (∀e w',bK base S M O st N .oP n tx (V.drewN 1) e w'->bK base S M O st N .oP n tx w e w'):=λe w' q=>q.aNo.pre hB
   |have HC:Hid (Calls prog 73 #[.pointer (some (aA S 6)),iI 32,.agg #[iI (n.getD 0 0),iI (n.getD 1 0),iI (n.getD 2 0)]] (V.drewN 1) (bK base S M O st N .oV n tx (V.drewN 1))):=by
     by_cases hns:st.aO.ns<32
     .exact aBb (V.drewN 1) hs hc0 hns n tx
     .exact aBa (V.drewN 1) hs hns n tx
    have HP:Hid (∀e w',bK base S M O st N .oV n tx (V.drewN 1) e w'->bK base S M O st N .oV n tx w e w'):=λe w' q=>q.aNo.pre hB
  |have bBe:V.1[b]?=some (.cells bcs 3 bfr):=(hB.block b oF).trans hbt
   first|let _:=m3;have pA:=hs.r.nR|have pA:=hs.r.nL
   have HNE:Hid (b≠S):=eH;have HLO:Hid (base<=V.1.size):=kH (hs.r.lo S hs.r.s) (kX hSl)
   first
   |let _:=m3;have aDd:Hid (∀w3 g c,(V.alloc (.cells #[iI (n.getD 0 0),iI (n.getD 1 0),iI (n.getD 2 0)] 140)).grownBy w3 A.vR.ownBlock->w3.ownsRow base 140 3 (sL g (st.next.nR+1) c) (st.next.nR+1) (bN st.next.rn st.next.ro st.next.ri st.next.nR++[iI (n.getD 0 0),iI (n.getD 1 0),iI (n.getD 2 0)])->(A.vR.ownBlock=some g\/g=V.1.size+1)->g<w3.1.size->bK base S M O st N .qG n tx w (rT (sT Kd.qG.name)) (w3.setCell (aA S 12) (sL g (st.next.nR+1) c))):=λw3 g c hg cP oX hlt=>by obtain⟨e1,e2⟩:=aV4 hs hB n _ g c hg cP oX hlt;exact⟨_,.ok Kd.qG.name,_,_,_,⟨rfl,rfl⟩,rfl,e1,e2⟩
    have hvb:A.vR.ownBlock≠some b:=λe=>by obtain⟨_,_,q⟩:=lS hs.r.oR e;exact F5 q bBe og rfl
    have hvS:A.vR.ownBlock≠some S:=λe=>jE hs.r.oR hs.blk og e rfl;have HOW:Hid ((V.alloc (.cells #[iI (n.getD 0 0),iI (n.getD 1 0),iI (n.getD 2 0)] 140)).ownsRow base 140 3 A.vR st.next.nR (bN st.next.rn st.next.ro st.next.ri st.next.nR)):=hs.r.oR.alloc _;have aJ3:Hid (∀(j:Nat) (u:WB),[iI (n.getD 0 0),iI (n.getD 1 0),iI (n.getD 2 0)][j]?=some u->(V.alloc (.cells #[iI (n.getD 0 0),iI (n.getD 1 0),iI (n.getD 2 0)] 140)).drew.cell? (((aA V.1.size 0):WT).add j)=some u):=aFk V _ _ _ _;have aNt:Hid (∀w3,(V.alloc (.cells #[iI (n.getD 0 0),iI (n.getD 1 0),iI (n.getD 2 0)] 140)).grownBy w3 A.vR.ownBlock->w3.cell? (aA b off)=some (iI (n.getD 0 0))/\w3.cell? (aA b (off+1))=some (iI (n.getD 1 0))/\w3.cell? (aA b (off+2))=some (iI (n.getD 2 0))/\w3.cell? (aA S 12)=some A.vR/\w3.frozen? (aA S 12)=false):=λw3 hg=>by exact zMf
   |have aDd:Hid (∀w3 g c,(V.alloc (.cells #[iI (n.getD 0 0),iI (n.getD 1 0),iI (n.getD 2 0)] 138)).grownBy w3 A.vO.ownBlock->w3.ownsRow base 138 3 (sL g (st.next.nL+1) c) (st.next.nL+1) (bN st.next.ls st.next.lc st.next.lt st.next.nL++[iI (n.getD 0 0),iI (n.getD 1 0),iI (n.getD 2 0)])->(A.vO.ownBlock=some g\/g=V.1.size+1)->g<w3.1.size->bK base S M O st N .qD n tx w (rT (sT Kd.qD.name)) (w3.setCell (aA S 11) (sL g (st.next.nL+1) c))):=λw3 g c hg cP oX hlt=>by obtain⟨e1,e2⟩:=aTp hs hB n _ g c hg cP oX hlt hi;exact⟨_,.ok Kd.qD.name,_,_,_,⟨rfl,rfl⟩,rfl,e1,e2⟩
    have hvb:A.vO.ownBlock≠some b:=λe=>by obtain⟨_,_,q⟩:=lS hs.r.oO e;exact F5 q bBe og rfl
    have hvS:A.vO.ownBlock≠some S:=λe=>jE hs.r.oO hs.blk og e rfl;have HOW:Hid ((V.alloc (.cells #[iI (n.getD 0 0),iI (n.getD 1 0),iI (n.getD 2 0)] 138)).ownsRow base 138 3 A.vO st.next.nL (bN st.next.ls st.next.lc st.next.lt st.next.nL)):=hs.r.oO.alloc _;have aJ3:Hid (∀(j:Nat) (u:WB),[iI (n.getD 0 0),iI (n.getD 1 0),iI (n.getD 2 0)][j]?=some u->(V.alloc (.cells #[iI (n.getD 0 0),iI (n.getD 1 0),iI (n.getD 2 0)] 138)).drew.cell? (((aA V.1.size 0):WT).add j)=some u):=aFk V _ _ _ _;have aNt:Hid (∀w3,(V.alloc (.cells #[iI (n.getD 0 0),iI (n.getD 1 0),iI (n.getD 2 0)] 138)).grownBy w3 A.vO.ownBlock->w3.cell? (aA b off)=some (iI (n.getD 0 0))/\w3.cell? (aA b (off+1))=some (iI (n.getD 1 0))/\w3.cell? (aA b (off+2))=some (iI (n.getD 2 0))/\w3.cell? (aA S 11)=some A.vO/\w3.frozen? (aA S 11)=false):=λw3 hg=>by have bLk:=0;exact zMf
   have m0:∀o:Obj,(V.alloc o).cell? (aA b off)=some (iI (n.getD 0 0)):=λo=>(((jD _ V).alloc (kG _) o).cell (p:=(aA b off)) xC).trans n0;have m1:∀o:Obj,(V.alloc o).cell? (aA b (off+1))=some (iI (n.getD 1 0)):=λo=>(((jD _ V).alloc (kG _) o).cell (p:=(aA b (off+1))) xC).trans n1;have m2:∀o:Obj,(V.alloc o).cell? (aA b (off+2))=some (iI (n.getD 2 0)):=λo=>(((jD _ V).alloc (kG _) o).cell (p:=(aA b (off+2))) xC).trans n2
   first|let _:=m3;have mc:∀o:Obj,(V.alloc o).cell? (aA S 12)=some A.vR:=λo=>(((jD _ V).alloc (kG _) o).cell (p:=(aA S 12)) hSl).trans c0;generalize bN st.next.rn st.next.ro st.next.ri st.next.nR=cells at HOW aDd|have mc:∀o:Obj,(V.alloc o).cell? (aA S 11)=some A.vO:=λo=>(((jD _ V).alloc (kG _) o).cell (p:=(aA S 11)) hSl).trans c0;generalize bN st.next.ls st.next.lc st.next.lt st.next.nL=cells at HOW aDd
  generalize n.getD 0 0=y0 at *;generalize n.getD 1 0=y1 at *;generalize n.getD 2 0=y2 at *
  first
  |let _:=aKe
   first|let _:=m20;generalize n.getD 3 0=y3 at *|skip
   clear hs h hr hc hB hbo hc0 hn
   first|let _:=m20;go_enter func39,ntmps39;go_wp2_with fail;refine wp_region_held_drew (S:=λv=>v.cell? (aA b off)=some (iI y0)/\v.cell? (aA b (off+1))=some (iI y1)/\v.cell? (aA b (off+2))=some (iI y2)/\v.cell? (aA b (off+3))=some (iI y3)) oh ⟨n0,n1,n2,n3⟩ (λaF=>?_)|go_enter func38,ntmps38;go_wp2_with fail;refine wp_region_held_drew (S:=λv=>v.cell? (aA b off)=some (iI y0)/\v.cell? (aA b (off+1))=some (iI y1)/\v.cell? (aA b (off+2))=some (iI y2)) oh ⟨n0,n1,n2⟩ (λaF=>?_)
  |first|let _:=m3;replace c0:V.cell? (aA S 12)=some A.vR:=c0;generalize A.vR=vv at *;generalize st.next.nR=nn at *|replace c0:V.cell? (aA S 11)=some A.vO:=c0;generalize A.vO=vv at *;generalize st.next.nL=nn at *
   clear hs h hr hc hB hbt bBe hvb hvS hn
   first|let _:=m3;go_enter func45,ntmps45|go_enter func44,ntmps44
   go_wp2_with fail;refine wp_region_held_drew (S:=λu=>u.cell? (aA b off)=some (iI y0)/\u.cell? (aA b (off+1))=some (iI y1)/\u.cell? (aA b (off+2))=some (iI y2)) oh ⟨n0,n1,n2⟩ (λaF=>?_)
  refine tk 0 aF ?_;refine tk 1 aF ?_;refine tk 2 aF ?_;refine tk 3 aF ?_;refine tk 4 aF ?_
  first|let _:=aKe;refine tk 5 aF ?_|skip
  refine tk 6 aF ?_;refine tk 7 aF ?_;have bLu:=0;exact zMr
 |have n3:V.cell? (aA b (off+3))=some (iI (n.getD 3 0)):=bc hB oF (hc 3 og);have n4:V.cell? (aA b (off+4))=some (iI (n.getD 4 0)):=bc hB oF (hc 4 og)
  first|let _:=m41;have n5:V.cell? (aA b (off+5))=some (iI (n.getD 5 0)):=bc hB oF (hc 5 og);have hs:=h.below hB;have hblk:=hs.blk;have c0:=aN hblk (i:=0) rfl;have c1:=aN hblk (i:=1) rfl;have c2:=aN hblk (i:=2) rfl;have c3:=aN hblk (i:=3) rfl;have c4:=aN hblk (i:=4) rfl;have c5:=aN hblk (i:=5) rfl;have z0:=bE hblk (i:=0);have z1:=bE hblk (i:=1);have z2:=bE hblk (i:=2);have z3:=bE hblk (i:=3);have z4:=bE hblk (i:=4);have z5:=bE hblk (i:=5);have HS:Hid (fV V base S M O st A N):=hs;have HB:Hid (bW w V):=hB;have HC:Hid (st.clu=none):=hc0;generalize hy0:n.getD 0 0=y0 at n0;generalize hy1:n.getD 1 0=y1 at n1;generalize hy2:n.getD 2 0=y2 at n2;generalize hy3:n.getD 3 0=y3 at n3;generalize hy4:n.getD 4 0=y4 at n4;generalize hy5:n.getD 5 0=y5 at n5;have HY:Hid (n.getD 0 0=y0/\n.getD 1 0=y1/\n.getD 2 0=y2/\n.getD 3 0=y3/\n.getD 4 0=y4/\n.getD 5 0=y5):=⟨hy0,hy1,hy2,hy3,hy4,hy5⟩;clear hblk hs hc h hr hn hc0 hB hy0 hy1 hy2 hy3 hy4 hy5;go_enter func37,ntmps37;go_wp2_with fail;go_quiet(fail)|have cV:b≠w.1.size+1:=od;have HB:Hid (∀q x0 x1 x2 x3,bW w (((((V.drewN q).setCell (aA (w.1.size+1) 0) x0).setCell (aA (w.1.size+1) 1) x1).setCell (aA (w.1.size+1) 2) x2).setCell (aA (w.1.size+1) 3) x3)):=λq x0 x1 x2 x3=>((((tM hB q).setCell (p:=(aA (w.1.size+1) 0)) oy _).setCell (p:=(aA (w.1.size+1) 1)) oy _).setCell (p:=(aA (w.1.size+1) 2)) oy _).setCell (p:=(aA (w.1.size+1) 3)) oy _;clear hc hr hn hB;generalize n.getD 0 0=y0 at *;generalize n.getD 1 0=y1 at *;generalize n.getD 2 0=y2 at *;generalize n.getD 3 0=y3 at *;generalize n.getD 4 0=y4 at *;go_enter func91,ntmps91
  go_wp2_with fail;go_region;go_wp2_with fail
  first
  |let _:=m41;refine bodyPost_ret (v:=sT Kd.qZ.name) (by simp[results,results37,go_sem];rfl) rfl ?_;obtain⟨e0,e1,e2,e3,e4,e5⟩:=HY.out;subst e0 e1 e2 e3 e4 e5;have hd:=HS.out.below (bdN V (nq+1));have hS:S∈M++O:=kL (.inl hd.r.s);refine⟨{ st with aO:=st.aO.head n },.ok Kd.qZ.name,M,O,A,⟨rfl,rfl⟩,rfl,?_,?_,?_⟩
   .exact(((((((aJy (aR.of_below HB.out)).trans (cD hS _)).trans (cD hS _)).trans (cD hS _)).trans (cD hS _)).trans (cD hS _)).trans (cD hS _))
   .have hr:=hd.rest (w':=(((((((V.drewN (nq+1)).setCell (aA S 0) (iI (n.getD 0 0))).setCell (aA S 1) (iI (n.getD 1 0))).setCell (aA S 2) (iI (n.getD 2 0))).setCell (aA S 3) (iI (n.getD 3 0))).setCell (aA S 4) (iI (n.getD 4 0))).setCell (aA S 5) (iI (n.getD 5 0)))) oe (λc hc=>by simp only[cH hc]);exact { hr.later (kU N)with clu:=λfa cs c rd T e=>by rw[HC.out]at e;cases e }
   .exact bU (bU (bU (bU (bU (bU hd.blk _) _) _) _) _) _
  |refine bodyPost_ret (v:=tU #[.agg #[iI y0,iI y1,iI y2,iI y3],iI y4]) (by simp[results,results91,go_sem,k0,k1,k2,k3]) rfl ⟨rfl,?_⟩;exact(HB.out 0 _ _ _ _).drew):p:=h
theorem zL1(h:p:=by
 generalize p.lf k=LF at *
 first|let _:=bH1;clear HI HS hw la1|clear hw la1
 go_wp2_with fail;generalize(wr.alloc (.cells #[.int .i64 LF,.pointer (some ⟨m.S k,0,none⟩),.slice (some ⟨m.E k,0,none⟩) n n] 178))=V1 at *;go_quiet(fail)
 first
 |let _:=bH1;go_wp2;go_roundw;case rel=>exact⟨k+1,od,Od,HI2.out _ ⟨HBB.out.os,HBB.out.tape,HBB.out.output,HBB.out.size,HBB.out.block⟩⟩
  case measure=>simp[intOf];omega
 |go_wp2_with fail;refine(C6.out _ _ HBB.out).mono ?_;rintro e v2 ⟨rfl,hI2⟩;have HI2:Hid (dC O w v2 C p fa cs (cJ.U6 ⟨s.AA,(aH p.S AE t s.aK k).1,s.aV,s.aT⟩ k (((aH p.S AE t s.aK k).1 k).asked t (p.lb k))) rd B m):=hI2;clear hI2 C6;have HKZ:Hid (gV ((aH p.S AE t s.aK k).1 k).all.length ((aH p.S AE t s.aK k).1 k).aQ t ((aH p.S AE t s.aK k).1 k).now ((aH p.S AE t s.aK k).1 k).last (p.lb k)=0\/gV ((aH p.S AE t s.aK k).1 k).all.length ((aH p.S AE t s.aK k).1 k).aQ t ((aH p.S AE t s.aK k).1 k).now ((aH p.S AE t s.aK k).1 k).last (p.lb k)≠0):=by show _\/_;exact Classical.em _
  have HSN:Hid (gV ((aH p.S AE t s.aK k).1 k).all.length ((aH p.S AE t s.aK k).1 k).aQ t ((aH p.S AE t s.aK k).1 k).now ((aH p.S AE t s.aK k).1 k).last (p.lb k)≠0->∀v,dC O w v C p fa cs (cJ.U6 ⟨s.AA,(aH p.S AE t s.aK k).1,s.aV,s.aT⟩ k (((aH p.S AE t s.aK k).1 k).asked t (p.lb k))) rd B m->(aH p.S AE t s.aK (k+1)).2=none/\dC O w v C p fa cs ⟨s.AA,(aH p.S AE t s.aK (k+1)).1,s.aV,s.aT⟩ rd B m):=λhK v hv=>by rw[HS.out];exact⟨kJ hK,hv⟩
  have HSY:Hid (gV ((aH p.S AE t s.aK k).1 k).all.length ((aH p.S AE t s.aK k).1 k).aQ t ((aH p.S AE t s.aK k).1 k).now ((aH p.S AE t s.aK k).1 k).last (p.lb k)=0->aH p.S AE t s.aK p.nl=(λj=>if j=k then(((aH p.S AE t s.aK k).1 k).asked t (p.lb k))else(aH p.S AE t s.aK k).1 j,some (k,jY 0 ((aH p.S AE t s.aK k).1 k).aQ,jX 0 ((aH p.S AE t s.aK k).1 k).all ((aH p.S AE t s.aK k).1 k).aQ))):=λhK=>by have hK':gV ((aH p.S AE t s.aK k).1 k).all.length ((aH p.S AE t s.aK k).1 k).aQ t ((aH p.S AE t s.aK k).1 k).now ((aH p.S AE t s.aK k).1 k).last (p.S.lb k)=0:=hK;have e0:aH p.S AE t s.aK (k+1)=_:=HS.out;rw[kK hK']at e0;have e1:=aH7 (P:=p.S) (AE:=AE) (t:=t) (L:=s.aK) (k:=k+1) (by rw[e0];rfl) p.nl (by have:=HKL.out;omega);rw[e1,e0];rfl
  clear HS HI;generalize hKK:gV ((aH p.S AE t s.aK k).1 k).all.length ((aH p.S AE t s.aK k).1 k).aQ t ((aH p.S AE t s.aK k).1 k).now ((aH p.S AE t s.aK k).1 k).last (p.lb k)=K at *;clear hKK;generalize((aH p.S AE t s.aK k).1 k).aQ=WE at *;generalize((aH p.S AE t s.aK k).1 k).all=AL at *;rcases HKZ.out with hK|hK
  .subst hK;have hFv:F<v2.1.size:=kC hF HI2.out.size;obtain⟨x0,x1,xB,xS⟩:=bE9 v2 (.int .i64 (jY 0 WE)) (.string (jX 0 AL WE)) 270;have HXB:Hid (Below v2.1.size v2 (v2.alloc (.cells #[.int .i64 (jY 0 WE),.string (jX 0 AL WE)] 270))):=xB;have z:∀j,(v2.alloc (.cells #[.int .i64 (jY 0 WE),.string (jX 0 AL WE)] 270)).frozen? ⟨F,j,none⟩=false:=λj=>by obtain⟨O2,q1,q2⟩:=HI2.out;exact(xB.frozen (p:=⟨F,j,none⟩) hFv).trans ((q1.frozen (p:=⟨F,j,none⟩) hF HFx.out.2.1).trans (HFx.out.1 j))
   have cF:∀j,(v2.alloc (.cells #[.int .i64 (jY 0 WE),.string (jX 0 AL WE)] 270)).cell? ⟨F,j,none⟩=w.cell? ⟨F,j,none⟩:=λj=>(xB.cell (p:=⟨F,j,none⟩) hFv).trans (HI2.out.box hF HFx.out.2.1 j);have z3:=z 3;have z4:=z 4;have z5:=z 5;have HcF:Hid _:=cF;have q3:=(cF 3).trans HFx.out.2.2.2.2.2.1;have q4:=(cF 4).trans HFx.out.2.2.2.2.2.2.1;have q5:=(cF 5).trans HFx.out.2.2.2.2.2.2.2;have hFx:F<(v2.alloc (.cells #[.int .i64 (jY 0 WE),.string (jX 0 AL WE)] 270)).1.size:=by rw[xS];omega
   have hxx:v2.1.size<(v2.alloc (.cells #[.int .i64 (jY 0 WE),.string (jX 0 AL WE)] 270)).1.size:=by rw[xS];omega
   have eH:v2.1.size≠F:=od;have bBk:F≠v2.1.size:=od;have uU:=HSY.out rfl;have bIl:Hid (aH p.S AE t s.aK p.nl=(λj=>if j=k then(((aH p.S AE t s.aK k).1 k).asked t (p.lb k))else(aH p.S AE t s.aK k).1 j,some (k,jY 0 WE,jX 0 AL WE))):=uU;rw[aE0];generalize jY 0 WE=SQ at *;generalize jX 0 AL WE=SD at *;clear z cF xB xS uU HSY HSN HKZ;go_wp2_with fail;generalize(v2.alloc (.cells #[.int .i64 SQ,.string SD] 270))=V2 at *;have HD:Hid (aC0 O F w (((V2.setCell ⟨F,3,none⟩ (.int .i64 k)).setCell ⟨F,4,none⟩ (.int .i64 SQ)).setCell ⟨F,5,none⟩ (.string SD)).drew C p fa cs ⟨s.AA,(aH p.S AE t s.aK p.nl).1,s.aV,s.aT⟩ rd B m/\((((V2.setCell ⟨F,3,none⟩ (.int .i64 k)).setCell ⟨F,4,none⟩ (.int .i64 SQ)).setCell ⟨F,5,none⟩ (.string SD)).drew.cell? ⟨F,0,none⟩=some (.int .i64 AE)/\(((V2.setCell ⟨F,3,none⟩ (.int .i64 k)).setCell ⟨F,4,none⟩ (.int .i64 SQ)).setCell ⟨F,5,none⟩ (.string SD)).drew.cell? ⟨F,1,none⟩=some (.int .i64 i)/\(((V2.setCell ⟨F,3,none⟩ (.int .i64 k)).setCell ⟨F,4,none⟩ (.int .i64 SQ)).setCell ⟨F,5,none⟩ (.string SD)).drew.cell? ⟨F,2,none⟩=some (.int .i64 mem)/\(((V2.setCell ⟨F,3,none⟩ (.int .i64 k)).setCell ⟨F,4,none⟩ (.int .i64 SQ)).setCell ⟨F,5,none⟩ (.string SD)).drew.cell? ⟨F,3,none⟩=some (.int .i64 (iA (aH p.S AE t s.aK p.nl).2))/\(((V2.setCell ⟨F,3,none⟩ (.int .i64 k)).setCell ⟨F,4,none⟩ (.int .i64 SQ)).setCell ⟨F,5,none⟩ (.string SD)).drew.cell? ⟨F,4,none⟩=some (.int .i64 (dT (aH p.S AE t s.aK p.nl).2))/\(((V2.setCell ⟨F,3,none⟩ (.int .i64 k)).setCell ⟨F,4,none⟩ (.int .i64 SQ)).setCell ⟨F,5,none⟩ (.string SD)).drew.cell? ⟨F,5,none⟩=some (.string (cW (aH p.S AE t s.aK p.nl).2)))):=by obtain⟨hz,hFO,f0,f1,f2,f3,f4,f5⟩:=HFx.out;obtain⟨d1,d2,d3,d4,d5⟩:=(HI2.out.below HXB.out).store3 hF hFO ⟨_,_,_,q3,q4,q5⟩ (.int .i64 k) (.int .i64 SQ) (.string SD);rw[bIl.out];refine⟨?_,(d2 0 og).trans ((HcF.out 0).trans f0),(d2 1 og).trans ((HcF.out 1).trans f1),(d2 2 og).trans ((HcF.out 2).trans f2),d3,d4,d5⟩;obtain⟨O',y1,y2,y3⟩:=d1;exact⟨O',y1.trans (aR.drawn _ _ 1),y2,y3.below ⟨rfl,rfl,rfl,kG _,λ_ _=>rfl⟩⟩
   go_region;go_wp2;exact bodyPost_ret (v:=.tuple #[]) o5 rfl ⟨rfl,HD.out⟩
  .have hev:dG K=.iface 30 (.int .i64 K):=by unfold dG;rw[kJ hK]
   have HI3:Hid (∀v,Below v2.1.size v2 v->(aH p.S AE t s.aK (k+1)).2=none/\dC O w v C p fa cs ⟨s.AA,(aH p.S AE t s.aK (k+1)).1,s.aV,s.aT⟩ rd B m):=λv hv=>HSN.out hK v (HI2.out.below hv);rw[hev];generalize jY K WE=SQ at *;generalize jX K AL WE=SD at *;clear hev HKZ HSN HSY HI2 hK;go_wp2;go_roundw;case rel=>exact⟨k+1,od,Od,HI3.out _ ((jD _ _).alloc (kG _) _)⟩
   case measure=>simp[intOf];omega):p:=h
