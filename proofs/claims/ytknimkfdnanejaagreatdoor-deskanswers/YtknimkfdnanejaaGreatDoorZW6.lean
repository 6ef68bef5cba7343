import Derived.Test.YtknimkfdnanejaaGreatDoorZW2
import Derived.Deep.QuietTactic
import Derived.Deep.RegionHeld3
set_option maxRecDepth 100000
namespace Go.Proofs.YtknimkfdnanejaaGreatDoor
variable {p:Prop}
theorem zJm(h:p:=by
 unfold iJ;obtain⟨la1,la2⟩:=h.base.la od;obtain⟨hbx,hV,hF⟩:=bIt w (iI nd) (iI i) (iI mem) (iI k) (iI q) (sT d) 221;have h2:=h.below hV;have f3:(w.alloc (.cells #[iI nd,iI i,iI mem,iI k,iI q,sT d] 221)).cell? (aA w.heap.size 3)=some (iI k):=hbx 3 _ rfl
 first|have _:=m34;have f4:(w.alloc (.cells #[iI nd,iI i,iI mem,iI k,iI q,sT d] 221)).cell? (aA w.heap.size 4)=some (iI q):=hbx 4 _ rfl;have f5:(w.alloc (.cells #[iI nd,iI i,iI mem,iI k,iI q,sT d] 221)).cell? (aA w.heap.size 5)=some (sT d):=hbx 5 _ rfl|skip
 have HV:Hid (bW w (w.alloc (.cells #[iI nd,iI i,iI mem,iI k,iI q,sT d] 221))):=hV
 first|have _:=m34;have HL:Hid (∀c,c∈O->c<w.heap.size):=h.lt|skip
 obtain⟨l0,l1,l2⟩:=h2.base.lk k hk;obtain⟨e1,e2⟩:=h2.base.en k hk;have e3:=e2 j hj
 first|have _:=m34;rw[hb,kJ rfl]at e3|rw[hb,kI oe]at e3
 have c14:=h2.base.c14;rw[la1]at c14;have hll:=h2.base.lx _ la2;have hel:=h2.base.lx _ e1;have sG:=h2.base.lc
 first|have _:=m34;obtain⟨d1,d2,d3⟩:=h2.base.dn k j hk hj hb;have hdl:=h2.base.lx _ d1|skip
 have kk:(k:Int)<(p.nl:Int):=od;have jj:(j:Int)<(p.n:Int):=od;have k1:((k:Int)==-1)=false:=oh;obtain⟨n,hn⟩:∃n,p.n=n:=⟨_,rfl⟩
 first|have _:=m34;have HN:Hid (j<p.n/\k<p.nl/\aW (p.lt k) j=true):=⟨hj,hk,hb⟩;rw[hn]at l2 jj;have HC2:Hid (Cl (w.alloc (.cells #[iI nd,iI i,iI mem,iI k,iI q,sT d] 221)) O C p fa cs s rd B m):=h2|rw[hn]at l2 jj
 clear h h2 la1 la2 e2 hb hbx hV hj hn;go_enter func172,ntmps172;go_wp2_with fail;generalize w.alloc (.cells #[iI nd,iI i,iI mem,iI k,iI q,sT d] 221)=V at *;go_quiet(fail)
 first
 |have _:=m34;clear c14 l0 l1 l2 e3;have HTk:Hid (∀(u:Nat) ,Calls prog 216 #[.pointer (some ⟨m.R k j,0,none⟩),.agg #[iI q,sT d]] (V.drewN u) fun e w'=>e=rT (.bool (takeB (s.aV k j) q))/\∃O',aS O O' V w'/\Cl w' O' C p fa cs (s.fW k j (uK (takeB (s.aV k j) q) q (s.aV k j))) rd (B+1) m):=by intro u;obtain⟨hj,hk,hb⟩:=HN.out;have hcd:Cl (V.drewN u) O C p fa cs s rd B m:=HC2.out.below ⟨rfl,rfl,rfl,kF _,fun _ _=>rfl⟩;obtain⟨OR,a,b,r1,⟨⟨r2,r3⟩,r4,r5⟩,r6,r7⟩:=hcd.rcv hk hj hb;refine(aYy r1 q d r6 r2 od r4 od).mono ?_;rintro e w' ⟨he,OR',t1,t2⟩;refine⟨he,?_⟩;obtain⟨O',y1,y2⟩:=r7 w' OR' (B+1) _ _ _ t1 t2 (by unfold aFu aO8;split<;>omega) (aW8 r6) (kR _);exact⟨O',(aS.drawn O V u).trans y1,y2⟩
  have HSt:Hid (takeB (s.aV k j) q=true->s.take1 k j q d=(s.fW k j q).setPort k j (if(s.aR k j).length<16 then s.aR k j++[d]else s.aR k j)):=fun hT=>kJ hT;have HSf:Hid (takeB (s.aV k j) q=false->s.take1 k j q d=s):=fun hT=>kI (by rw[hT];decide);cases hT:takeB (s.aV k j) q
  ·rw[hT]at HTk;have HSF:Hid (s.take1 k j q d=s):=HSf.out hT;clear HSt HSf hT;go_wp2_with fail;go_region_held3(fun u=>u.cell? (aA w.heap.size 4)=some (iI q)/\u.cell? (aA w.heap.size 5)=some (sT d)/\u.cell? ⟨m.D k j,0,none⟩=some (.pointer (some ⟨m.R k j,0,none⟩))) (go_keep) (first
    |(go_at_call 216;refine(HTk.out _).mono ?_;rintro ev v1 ⟨rfl,O1,zY,rH⟩;have HC3:Hid (Cl v1 O1 C p fa cs (s.fW k j (uK false q (s.aV k j))) rd (B+1) m):=rH;have HF1:Hid (aS O O1 V v1):=zY;have g4:=(zY.box hF HL.out 4).trans f4;have g5:=(zY.box hF HL.out 5).trans f5;have g0:=(rH.base.dn k j HN.out.2.1 HN.out.1 HN.out.2.2).2.1))
   have HD:Hid (∃O',aS O O' w v1/\Cl v1 O' C p fa cs (s.take1 k j q d) rd (B+2) m):=by
    refine⟨O1,(aS.of_below HV.out).trans HF1.out,?_⟩;rw[HSF.out];refine(HC3.out.more (kR _)).agree (fun _ _=>rfl) (fun _ _=>rfl) (fun k' j' _ _ _=>⟨?_,rfl⟩);show s.aV k' j'=if k'=k/\j'=j then uK false q (s.aV k j)else s.aV k' j';split
    ·next e=>obtain⟨rfl,rfl⟩:=e;rfl
    ·rfl
   clear HC3 HF1 zY rH g0 g4 g5;go_wp2;exact bodyPost_end (v:=tU #[]) O8 rfl ⟨rfl,HD.out⟩
  ·rw[hT]at HTk;have HST:Hid (s.take1 k j q d=(s.fW k j q).setPort k j (if(s.aR k j).length<16 then s.aR k j++[d]else s.aR k j)):=HSt.out hT;clear HSt HSf hT;go_wp2_with fail;go_region_held3(fun u=>u.cell? (aA w.heap.size 4)=some (iI q)/\u.cell? (aA w.heap.size 5)=some (sT d)/\u.cell? ⟨m.D k j,0,none⟩=some (.pointer (some ⟨m.R k j,0,none⟩))) (go_keep) (first
    |(go_at_call 216;refine(HTk.out _).mono ?_;rintro ev v1 ⟨rfl,O1,zY,rH⟩;have HC3:Hid (Cl v1 O1 C p fa cs (s.fW k j (uK true q (s.aV k j))) rd (B+1) m):=rH;have HF1:Hid (aS O O1 V v1):=zY;have g4:=(zY.box hF HL.out 4).trans f4;have g5:=(zY.box hF HL.out 5).trans f5;have g0:=(rH.base.dn k j HN.out.2.1 HN.out.1 HN.out.2.2).2.1))
   have HN1:Hid (w.heap.size∉O1):=fun y=>by
    rcases HF1.out.fresh _ y with z|z
    ·exact kU _ (HL.out _ z)
    ·omega
   have HQ:Hid (∀(u:Nat),Calls prog 217 #[.pointer (some ⟨m.Q k j,0,none⟩),sT d] (v1.drewN u) fun e w'=>(∃E,e=rT E)/\∃O',aS O1 O' v1 w'/\Cl w' O' C p fa cs (s.take1 k j q d) rd (B+2) m):=by
    intro u;obtain⟨hj,hk,hb⟩:=HN.out;have hcd:Cl (v1.drewN u) O1 C p fa cs (s.fW k j (uK true q (s.aV k j))) rd (B+1) m:=HC3.out.below ⟨rfl,rfl,rfl,kF _,fun _ _=>rfl⟩;obtain⟨OQ,lost,r1,⟨r2,r3⟩,r4,r5⟩:=hcd.que hk hj hb;refine(aYx r1 d od od).mono ?_;rintro e w' ⟨he,OQ',t1,t2⟩;refine⟨⟨_,he⟩,?_⟩;have r4':(s.aR k j).length<=16:=r4;have e1:=bHs (s.aR k j) d hd;obtain⟨O',y1,y2⟩:=r5 w' OQ' (B+2) _ _ t1 t2 (by unfold aU3;split<;>omega) (by
     show(oY (putK (s.aR k j).length 16 d) (s.aR k j) d).length<=16
     rw[e1]
     split
     ·simp only[List.length_append,List.length_cons,List.length_nil];omega
     ·omega) (kR _)
    refine⟨O',(aS.drawn O1 v1 u).trans y1,?_⟩;rw[HST.out,<-e1];exact y2
   have g1:=(HC3.out.base.dn k j HN.out.2.1 HN.out.1 HN.out.2.2).2.2;have bNq:=HC3.out.base.lx _ d1;have bJk:w.heap.size<v1.heap.size:=kB hF HF1.out.size;have Z1:Hid (aS O O1 w v1):=(aS.of_below HV.out).trans HF1.out;clear HC3 HF1 zY rH g0 g4 HTk;go_wp2_with fail;go_region_held3(fun u=>u.cell? (aA w.heap.size 5)=some (sT d)/\u.cell? ⟨m.D k j,1,none⟩=some (.pointer (some ⟨m.Q k j,0,none⟩))) (go_keep) (first
    |(go_at_call 217;refine(HQ.out _).mono ?_;rintro ev v2 ⟨⟨E,rfl⟩,O2,hf2,R2⟩;have HD:Hid (∃O',aS O O' w v2/\Cl v2 O' C p fa cs (s.take1 k j q d) rd (B+2) m):=⟨O2,Z1.out.trans hf2,R2⟩;have y5:=(hf2.cell (p:=(aA w.heap.size 5)) bJk HN1.out).trans g5;have y1:=(R2.base.dn k j HN.out.2.1 HN.out.1 HN.out.2.2).2.2))
   go_wp2;exact bodyPost_end (v:=tU #[]) O8 rfl ⟨rfl,HD.out⟩
 |go_wp2_with fail;go_quiet(fail);go_wp2;exact bodyPost_end (v:=tU #[]) O8 rfl ⟨rfl,⟨HV.out.os,HV.out.tape,HV.out.output,HV.out.size,HV.out.block⟩⟩):p:=h
theorem zLa(h:p:=by
 go_wp2_with fail;clear y0 y1 y2
 first|have _:=m94|generalize(wr.alloc (.cells #[.int .i64 i',.int .i64 j',.int .i64 IX] 146))=V1 at *
 refine lK.mono ?_;rintro e v7 ⟨rfl,hv7⟩;replace hv7:=hv7.symm;subst hv7;clear lK;go_wp2_with fail;refine wC.mono ?_;rintro e v7 ⟨rfl,hv7⟩;replace hv7:=hv7.symm;subst hv7;clear wC
 first
 |have _:=m94;exact zH2
 |go_wp2_with fail;go_quiet(first|(go_at_call 130;refine Calls.quiet_of_same (yO _)));have HBV:Hid (Below w.heap.size w V1):=HI.out.2.2.trans (uO.out.mono HI.out.2.2.size);cases dQ:aW fa j'
  ·rw[dQ]at HG;have hap:=fun(u:Nat)=>HAP.out (V1.drewN u) ⟨HBV.out.os,HBV.out.tape,HBV.out.output,HBV.out.size,HBV.out.block⟩ j' i' hjj hii;have dI:=fun(u:Nat)=>zU IX aC L2 aH0 od (V1.drewN u) l2;have b1:=HCS.out.2.2 _ (tM (show i'<cs.length by rw[HCS.out.1];exact hii));have b2:=HCS.out.2.2 _ (tM (show j'<cs.length by rw[HCS.out.1];exact hjj));have HN:=HNX.out (cs.getD j' 0-cs.getD i' 0+cutV IX aC);have HNN:Hid _:=fun u=>HN u (fun i2 j2=>by rw[HG.out i2 j2,kI (show ¬false=true by decide)]);clear HN HG HNX yO;generalize cs.getD j' 0=XJ at *;generalize cs.getD i' 0=XI at *;generalize cutV IX aC=CV at *;go_wp2_with fail;go_region_held3(fun u=>u.cell? ⟨wr.heap.size,0,none⟩=some (.int .i64 i')/\u.cell? ⟨wr.heap.size,1,none⟩=some (.int .i64 j')/\u.cell? ⟨wr.heap.size,2,none⟩=some (.int .i64 IX)/\u.cell? ⟨w.heap.size,i',none⟩=some (.slice (some ⟨G i',0,none⟩) n (rF i'))/\u.cell? ⟨L2,0,none⟩=some (.int .i64 aC)) (go_keep) (first
    |(go_at_call 212;refine(hap _).mono ?_;rintro e v8 ⟨rfl,q8,rfl⟩)
    |(go_at_call 200;refine(dI _).mono ?_;rintro e v9 ⟨rfl,rfl⟩))
   exact zFj
  ·rw[dQ]at HG;have dI:=fun(u:Nat)=>zU IX 549755813888 L1 oe oe (V1.drewN u) l1;have HN:=HNX.out (cutV IX 549755813888);have HNN:Hid _:=fun u=>HN u (fun i2 j2=>by rw[HG.out i2 j2,kJ rfl]);clear HN HG HNX yO;generalize cutV IX 549755813888=CV at *;go_wp2_with fail;go_region_held3(fun u=>u.cell? ⟨wr.heap.size,0,none⟩=some (.int .i64 i')/\u.cell? ⟨wr.heap.size,1,none⟩=some (.int .i64 j')/\u.cell? ⟨wr.heap.size,2,none⟩=some (.int .i64 IX)/\u.cell? ⟨w.heap.size,i',none⟩=some (.slice (some ⟨G i',0,none⟩) n (rF i'))/\u.cell? ⟨L1,0,none⟩=some (.int .i64 549755813888)) (go_keep) (first
    |(go_at_call 200;refine(dI _).mono ?_;rintro e v9 ⟨rfl,rfl⟩))
   exact zFj):p:=h
theorem zM1(h:p:=by
 go_enter func127,ntmps127;go_wp2_with fail;rw[<-HVE.out];clear HVE c6 s0 s1 s2 hsl sG;go_region_held3(fun u=>u.cell? (aA C 13)=some (sL m.nb n m.vQ)/\u.cell? (aA (w.heap.size+1) 0)=some (iI who)/\u.cell? (aA m.nb who)=some (.pointer (some ⟨m.P who,0,none⟩))) (go_keep) (first
  |(go_at_call 169;refine(H4.out _).mono ?_;rintro ev v1 ⟨rfl,hI1⟩;have A8:Hid (dZ O V v1 C p fa cs (s.setNode who (s.nodes who).aT) rd B m):=hI1;have y13:=hI1.base.c13;rw[L8.out]at y13;have y0:=(hI1.box hsw HX.out.1.2.1 0).trans b0;have ynd:=hI1.base.nd who HN.out.2.1))
 have c10:=A8.out.base.c10;have bFg:=A8.out.base.lc;have bNu:w.heap.size+1<v1.heap.size:=kB hsw A8.out.size;have cR:∀(j:Nat) (u:Value),(#[iI 0,iI 0,iI 0,iI 0,iI 0,sT ⟨#[]⟩]:Array Value)[j]?=some u->v1.cell? (aA w.heap.size j)=some u:=fun j u hu=>(A8.out.box Ov HX.out.1.1 j).trans (HBR.out j u hu);have cF:∀(j:Nat) (u:Value),(#[iI who,iI i,iI 0,iI (-1),iI 0,sT ⟨#[]⟩]:Array Value)[j]?=some u->v1.cell? (aA (w.heap.size+1+1) j)=some u:=fun j u hu=>(A8.out.box Ov HX.out.1.2.2 j).trans (HBF.out j u hu);have HcR:Hid _:=cR;have HcF:Hid _:=cF;have yO:=fun v=>yJ fa who Eu v;clear hI1 y13 ynd cR cF c13 cnd b0;rw[hb]at yO;go_wp2_with fail;go_quiet(first|(go_at_call 130;refine Calls.quiet_of_same (yO _)));have hFl:w.heap.size+1+1<v1.heap.size:=Eg;have hRl:w.heap.size<v1.heap.size:=od;have zr:∀j,v1.frozen? (aA w.heap.size j)=false:=fun j=>by exact zG9
 have zf:∀j,v1.frozen? (aA (w.heap.size+1+1) j)=false:=fun j=>by exact zG8
 have f0:v1.cell? (aA (w.heap.size+1+1) 0)=some (iI who):=HcF.out 0 _ rfl;have f1:v1.cell? (aA (w.heap.size+1+1) 1)=some (iI i):=HcF.out 1 _ rfl;have f2:v1.cell? (aA (w.heap.size+1+1) 2)=some (iI 0):=HcF.out 2 _ rfl;have f3:v1.cell? (aA (w.heap.size+1+1) 3)=some (iI (-1)):=HcF.out 3 _ rfl;have f4:v1.cell? (aA (w.heap.size+1+1) 4)=some (iI 0):=HcF.out 4 _ rfl;have f5:v1.cell? (aA (w.heap.size+1+1) 5)=some (sT ⟨#[]⟩):=HcF.out 5 _ rfl
 first
 |have _:=bKt
  first
  |have _:=m3;have HLD:Hid (∀u,Calls prog 170 #[pP C,.pointer (some (aA (w.heap.size+1+1) 0)),iI FR] ((v1.drewN u).setCell (aA (w.heap.size+1+1) 2) (iI M)) fun e w'=>e=rT (tU #[])/\∃LK SQ SD,(LK=gS (aK p.S who (rd*p.round+p.fr i) s.aN p.nl).2/\SQ=dN (aK p.S who (rd*p.round+p.fr i) s.aN p.nl).2/\SD=dE (aK p.S who (rd*p.round+p.fr i) s.aN p.nl).2)/\
     (∃O2,aS O O2 w w'/\w.heap.size∉O2/\Cl w' O2 C p fa cs ⟨(s.setNode who (s.nodes who).aT).nodes,(aK p.S who (rd*p.round+p.fr i) s.aN p.nl).1,s.aV,s.aR⟩ rd B m)/\w.heap.size+1+1<w'.heap.size/\
     (w'.cell? (aA (w.heap.size+1+1) 0)=some (iI who)/\w'.cell? (aA (w.heap.size+1+1) 1)=some (iI i)/\w'.cell? (aA (w.heap.size+1+1) 2)=some (iI M)/\w'.cell? (aA (w.heap.size+1+1) 3)=some (iI LK)/\w'.cell? (aA (w.heap.size+1+1) 4)=some (iI SQ)/\w'.cell? (aA (w.heap.size+1+1) 5)=some (sT SD))/\
     ∀j,w'.cell? (aA w.heap.size j)=v1.cell? (aA w.heap.size j)/\w'.frozen? (aA w.heap.size j)=false):=by
    intro u
    obtain⟨⟨g1,g2,g3,g4,g5,g6,g7⟩,g8⟩:=HB9.out
    obtain⟨O1,q1,q2⟩:=A8.out
    have lK:w.heap.size+1+1∉O1:=fun y=>by
     rcases q1.fresh _ y with z|z
     ·exact HX.out.1.2.2 z
     ·have:=HX.out.2;omega
    have hn0:w.heap.size∉O1:=fun y=>by
     rcases q1.fresh _ y with z|z
     ·exact HX.out.1.1 z
     ·have:=HX.out.2;omega
    have hT:aU (w.heap.size+1+1) (w.heap.size+1+1) v1 ((v1.drewN u).setCell (aA (w.heap.size+1+1) 2) (iI M)):=(aU.drawn u).set (p:=(aA (w.heap.size+1+1) 2)) (.inl rfl) _
    have q3:=q2.aside hT lK
    have cc:∀j,j≠2->((v1.drewN u).setCell (aA (w.heap.size+1+1) 2) (iI M)).cell? (aA (w.heap.size+1+1) j)=v1.cell? (aA (w.heap.size+1+1) j):=fun j hj=>aB (.inr hj)
    refine(aCd q3 (w.heap.size+1+1) who i M FR (kB hFl hT.size) lK (fun j=>bI.trans (zf j)) ((cc 0 oe).trans f0) ((cc 1 oe).trans f1) (aY f2) ((cc 3 oe).trans f3) ((cc 4 oe).trans f4) ((cc 5 oe).trans f5) g1 g2 g3 (HFR.out▸g4) (HFR.out▸g5) g6 g7 g8).mono ?_
    rintro e w' ⟨he,⟨O2,k1,k2,k3⟩,d0,d1,d2,d3,d4,d5⟩
    rw[<-HFR.out]at k3 d3 d4 d5
    have hsz:v1.heap.size<=w'.heap.size:=kG hT.size k1.size
    refine⟨he,_,_,_,⟨rfl,rfl,rfl⟩,⟨O2,?_,?_,k3⟩,od,⟨d0,d1,d2,d3,d4,d5⟩,fun j=>⟨?_,?_⟩⟩
    ·have q4:=HV0.out.trans q1
     have q5:=q4.aside hT od
     refine⟨k1.os.trans q5.os,k1.tape.trans q5.tape,k1.output.trans q5.output,kG q5.size k1.size,fun c hc hnc=>?_,fun c hc=>?_⟩
     ·refine(k1.block c (kB hc q5.size) (fun y=>?_)).trans (q5.block c hc hnc)
      rcases kN y with z|z
      ·omega
      ·rcases q5.fresh c z with z|z
       ·exact hnc z
       ·omega
     ·rcases k1.fresh c (kO _ hc)with y|y
      ·rcases kN y with z|z
       ·exact absurd (z▸hc) k2
       ·exact q5.fresh c z
      ·exact .inr (kG q5.size y)
    ·intro y
     rcases k1.fresh _ (kO _ y)with z|z
     ·rcases kN z with z|z
      ·omega
      ·exact hn0 z
     ·have:=hT.size;omega
    ·exact(k1.cell (p:=(aA w.heap.size j)) (kB hRl hT.size) (fun y=>by
      rcases kN y with z|z
      ·exact absurd z eu
      ·exact hn0 z)).trans (aB (.inl eu))
    ·exact(k1.frozen (p:=(aA w.heap.size j)) (kB hRl hT.size) (fun y=>by
      rcases kN y with z|z
      ·exact absurd z eu
      ·exact hn0 z)).trans (bI.trans (zr j))
  |have c0:v1.cell? (aA C 0)=some (iI (n:Int)):=by have:=A8.out.base.c0;rw[HN.out.2.2.1,L8.out]at this;exact this
   obtain⟨nx,hnx⟩:∃nx,(who+1)%n=nx:=⟨_,rfl⟩;have bJt:Int.tmod ((who:Int)+1) (n:Int)=(nx:Int):=by rw[Int.tmod_eq_emod_of_nonneg od,<-hnx];exact_mod_cast rfl
   have hnz:((n:Int)==0)=false:=ol;have mR:n<=16:=by have:=HN.out.1;rw[L8.out]at this;exact this
   have hxn:nx<n:=by rw[<-hnx];exact Nat.mod_lt _ od
   have dB:=fun v=>I5 who od v;have dQ:=fun v=>I5 nx od v;have HXE:Hid (bits BinOp.xor .i64 M (bits BinOp.or .i64 (2^who) (2^nx))=aZ (fun j=>if j=who\/j=(who+1)%p.n then !(s.nodes who).t j else(s.nodes who).t j) p.n):=by show _=_;rw[<-HM.out,L8.out,hnx];exact aNe _ mR od hxn
   obtain⟨XM,hXM⟩:∃XM,bits BinOp.xor .i64 M (bits BinOp.or .i64 (2^who) (2^nx))=XM:=⟨_,rfl⟩;have HXM:Hid (XM=aZ (fun j=>if j=who\/j=(who+1)%p.n then !(s.nodes who).t j else(s.nodes who).t j) p.n):=hXM.symm.trans HXE.out;generalize(2:Int)^who=PW1 at *;generalize(2:Int)^nx=PW2 at *;obtain⟨OV,hOV⟩:∃OV,bits BinOp.or .i64 PW1 PW2=OV:=⟨_,rfl⟩;rw[hOV]at hXM;clear HXE hnx;go_wp2_with fail;go_quiet(first|(go_at_call 114;first|refine(dB _).mono (fun e w' hh=>⟨hh.1,_,hh.2⟩)|refine(dQ _).mono (fun e w' hh=>⟨hh.1,_,hh.2⟩)));clear dB dQ hOV hXM bJt hnz c0;have HLD:Hid (∀u,Calls prog 170 #[pP C,.pointer (some (aA (w.heap.size+1+1) 0)),iI FR] ((v1.drewN u).setCell (aA (w.heap.size+1+1) 2) (iI XM)) fun e w'=>e=rT (tU #[])/\∃LK SQ SD,(LK=gS (aK p.S who (rd*p.round+p.fr i) s.aN p.nl).2/\SQ=dN (aK p.S who (rd*p.round+p.fr i) s.aN p.nl).2/\SD=dE (aK p.S who (rd*p.round+p.fr i) s.aN p.nl).2)/\
     (∃O2,aS O O2 w w'/\w.heap.size∉O2/\Cl w' O2 C p fa cs ⟨(s.setNode who (s.nodes who).aT).nodes,(aK p.S who (rd*p.round+p.fr i) s.aN p.nl).1,s.aV,s.aR⟩ rd B m)/\w.heap.size+1+1<w'.heap.size/\
     (w'.cell? (aA (w.heap.size+1+1) 0)=some (iI who)/\w'.cell? (aA (w.heap.size+1+1) 1)=some (iI i)/\w'.cell? (aA (w.heap.size+1+1) 2)=some (iI XM)/\w'.cell? (aA (w.heap.size+1+1) 3)=some (iI LK)/\w'.cell? (aA (w.heap.size+1+1) 4)=some (iI SQ)/\w'.cell? (aA (w.heap.size+1+1) 5)=some (sT SD))/\
     ∀j,w'.cell? (aA w.heap.size j)=v1.cell? (aA w.heap.size j)/\w'.frozen? (aA w.heap.size j)=false):=by
    intro u
    obtain⟨⟨g1,g2,g3,g4,g5,g6,g7⟩,g8⟩:=HB9.out
    obtain⟨O1,q1,q2⟩:=A8.out
    have lK:w.heap.size+1+1∉O1:=fun y=>by
     rcases q1.fresh _ y with z|z
     ·exact HX.out.1.2.2 z
     ·have:=HX.out.2;omega
    have hn0:w.heap.size∉O1:=fun y=>by
     rcases q1.fresh _ y with z|z
     ·exact HX.out.1.1 z
     ·have:=HX.out.2;omega
    have hT:aU (w.heap.size+1+1) (w.heap.size+1+1) v1 ((v1.drewN u).setCell (aA (w.heap.size+1+1) 2) (iI XM)):=(aU.drawn u).set (p:=(aA (w.heap.size+1+1) 2)) (.inl rfl) _
    have q3:=q2.aside hT lK
    have cc:∀j,j≠2->((v1.drewN u).setCell (aA (w.heap.size+1+1) 2) (iI XM)).cell? (aA (w.heap.size+1+1) j)=v1.cell? (aA (w.heap.size+1+1) j):=fun j hj=>aB (.inr hj)
    refine(aCd q3 (w.heap.size+1+1) who i XM FR (kB hFl hT.size) lK (fun j=>bI.trans (zf j)) ((cc 0 oe).trans f0) ((cc 1 oe).trans f1) (aY f2) ((cc 3 oe).trans f3) ((cc 4 oe).trans f4) ((cc 5 oe).trans f5) g1 g2 g3 (HFR.out▸g4) (HFR.out▸g5) g6 g7 g8).mono ?_
    rintro e w' ⟨he,⟨O2,k1,k2,k3⟩,d0,d1,d2,d3,d4,d5⟩
    rw[<-HFR.out]at k3 d3 d4 d5
    have hsz:v1.heap.size<=w'.heap.size:=kG hT.size k1.size
    refine⟨he,_,_,_,⟨rfl,rfl,rfl⟩,⟨O2,?_,?_,k3⟩,od,⟨d0,d1,d2,d3,d4,d5⟩,fun j=>⟨?_,?_⟩⟩
    ·have q4:=HV0.out.trans q1
     have q5:=q4.aside hT od
     refine⟨k1.os.trans q5.os,k1.tape.trans q5.tape,k1.output.trans q5.output,kG q5.size k1.size,fun c hc hnc=>?_,fun c hc=>?_⟩
     ·refine(k1.block c (kB hc q5.size) (fun y=>?_)).trans (q5.block c hc hnc)
      rcases kN y with z|z
      ·omega
      ·rcases q5.fresh c z with z|z
       ·exact hnc z
       ·omega
     ·rcases k1.fresh c (kO _ hc)with y|y
      ·rcases kN y with z|z
       ·exact absurd (z▸hc) k2
       ·exact q5.fresh c z
      ·exact .inr (kG q5.size y)
    ·intro y
     rcases k1.fresh _ (kO _ y)with z|z
     ·rcases kN z with z|z
      ·omega
      ·exact hn0 z
     ·have:=hT.size;omega
    ·exact(k1.cell (p:=(aA w.heap.size j)) (kB hRl hT.size) (fun y=>by
      rcases kN y with z|z
      ·exact absurd z eu
      ·exact hn0 z)).trans (aB (.inl eu))
    ·exact(k1.frozen (p:=(aA w.heap.size j)) (kB hRl hT.size) (fun y=>by
      rcases kN y with z|z
      ·exact absurd z eu
      ·exact hn0 z)).trans (bI.trans (zr j))
  have y1:v1.cell? (aA (w.heap.size+1) 1)=some (iI FR):=(A8.out.box hsw HX.out.1.2.1 1).trans (HBS.out 1 _ rfl);have zf2:=zf 2;clear zr zf HBR HBS HBF HcF;go_wp2_with fail;refine(HLD.out _).mono ?_;rintro e v2 ⟨rfl,LK,SQ,SD,aXy,dI,J2,⟨d0,d1,d2,d3,d4,d5⟩,hRR⟩;have aOc:Hid _:=aXy;have HCL:Hid _:=dI;have r0:=(hRR 0).1.trans (HcR.out 0 _ rfl);have r1:=(hRR 1).1.trans (HcR.out 1 _ rfl);have r2:=(hRR 2).1.trans (HcR.out 2 _ rfl);have r3:=(hRR 3).1.trans (HcR.out 3 _ rfl);have r4:=(hRR 4).1.trans (HcR.out 4 _ rfl);have r5:=(hRR 5).1.trans (HcR.out 5 _ rfl);have zr0:=(hRR 0).2;have zr1:=(hRR 1).2;have zr2:=(hRR 2).2;have zr3:=(hRR 3).2;have zr4:=(hRR 4).2;have zr5:=(hRR 5).2;have hl3:w.heap.size<v2.heap.size:=od
  first|have _:=m3;have H6:Hid _:=G5 r0 r1 r2 r3 r4 r5 (iI who) (iI i) (iI M) (iI LK) (iI SQ) (sT SD)|have H6:Hid _:=G5 r0 r1 r2 r3 r4 r5 (iI who) (iI i) (iI XM) (iI LK) (iI SQ) (sT SD)
  clear hRR aXy dI HLD HcR f0 f1 f2 f3 f4 f5 y0 y1 c10;go_wp2_with fail;obtain⟨⟨w0,w1,w2,w3,w4,w5⟩,hT⟩:=H6.out;obtain⟨rfl,rfl,rfl⟩:=aOc.out;obtain⟨O2,k1,k2,k3⟩:=HCL.out
  first|have _:=m3;exact bodyPost_ret (v:=tU #[iJ who i M (gS (aK p.S who (rd*p.round+p.fr i) s.aN p.nl).2) (dN (aK p.S who (rd*p.round+p.fr i) s.aN p.nl).2) (dE (aK p.S who (rd*p.round+p.fr i) s.aN p.nl).2),.bool true]) Ox rfl ⟨(by rw[HM.out]),O2,k1.aside hT (kF _),k3.aside hT k2⟩|exact bodyPost_ret (v:=tU #[iJ who i XM (gS (aK p.S who (rd*p.round+p.fr i) s.aN p.nl).2) (dN (aK p.S who (rd*p.round+p.fr i) s.aN p.nl).2) (dE (aK p.S who (rd*p.round+p.fr i) s.aN p.nl).2),.bool true]) Ox rfl ⟨(by rw[HXM.out]),O2,k1.aside hT (kF _),k3.aside hT k2⟩
 |have r0:v1.cell? (aA w.heap.size 0)=some (iI 0):=HcR.out 0 _ rfl;have r1:v1.cell? (aA w.heap.size 1)=some (iI 0):=HcR.out 1 _ rfl;have r2:v1.cell? (aA w.heap.size 2)=some (iI 0):=HcR.out 2 _ rfl;have r3:v1.cell? (aA w.heap.size 3)=some (iI 0):=HcR.out 3 _ rfl;have r4:v1.cell? (aA w.heap.size 4)=some (iI 0):=HcR.out 4 _ rfl;have r5:v1.cell? (aA w.heap.size 5)=some (sT ⟨#[]⟩):=HcR.out 5 _ rfl;have zr0:=zr 0;have zr1:=zr 1;have zr2:=zr 2;have zr3:=zr 3;have zr4:=zr 4;have zr5:=zr 5;have h6:=fun u:Nat=>G5 (v:=v1.drewN u) r0 r1 r2 r3 r4 r5 (iI who) (iI i) (iI 0) (iI (-1)) (iI 0) (sT ⟨#[]⟩);have H6:Hid _:=h6;clear h6 zr zf HcR HcF HBR HBS HBF;go_wp2_with fail;obtain⟨⟨w0,w1,w2,w3,w4,w5⟩,hT⟩:=H6.out _;have HD:Hid (∃O',_):=(A8.out.drawn _).beside hT Ov HX.out.1.1 HV0.out (kF _);exact bodyPost_ret (v:=tU #[iJ who i 0 (-1) 0 ByteArray.empty,.bool false]) Ox rfl ⟨rfl,HD.out⟩):p:=h
theorem zNb(h:p:=by
 have c5:=h.base.c5;have c12:=h.base.c12;have sG:=h.base.lc;have e1:Int.tdiv 1099511627776 p.round=1099511627776/p.round:=Int.tdiv_eq_ediv_of_nonneg oe;have hq0:0<=1099511627776/p.round:=Int.ediv_nonneg oe od;have hq1:1099511627776/p.round<=1099511627776:=Int.ediv_le_self _ oe;have k0:(p.round==0)=false:=ol
 first
 |have _:=bCc;have k1:decide (1099511627776/p.round<rd)=false:=kC od
  first
  |have _:=m48;have HA:Hid (∀v,Calls prog 213 #[.int .i64 (rd*p.round),.int .i64 fr] v fun e w'=>e=.returned (.tuple #[.int .i64 t,.nilIface])/\Below v.heap.size v w'):=fun v=>by have:=bIs (rd*p.round) fr v od hM1 od zY od od;rw[ht]at this;exact this
   have HC0:Hid (Cl w O C p fa cs s rd B m):=h;have HFx:Hid ((∀i,w.frozen? ⟨F,i,none⟩=false)/\F∉O/\w.cell? ⟨F,0,none⟩=some (.int .i64 who)/\w.cell? ⟨F,1,none⟩=some (.int .i64 i)/\w.cell? ⟨F,2,none⟩=some (.int .i64 mem)/\w.cell? ⟨F,3,none⟩=some (.int .i64 (-1))/\w.cell? ⟨F,4,none⟩=some (.int .i64 0)/\w.cell? ⟨F,5,none⟩=some (.string ByteArray.empty)):=⟨hz,hFO,f0,f1,f2,f3,f4,f5⟩;have HLK:Hid (∀k,k<p.nl->0<=p.lf k/\0<=p.lb k/\p.lb k<=1099511627776):=qF;have HTB:Hid (0<=t/\t<=1099511627776/\B<=9999990):=⟨od,bT,hB⟩
  |have HA:Hid (∀v,Calls prog 213 #[iI (rd*p.round),iI fr] v fun e w'=>e=rT (tU #[iI 0,.iface 25 (iI 2)])/\bW v w'):=fun v=>bIr _ _ v od hM1 od zY bT
  generalize hXe:rd*p.round=X at *;have hwX:IntKind.i64.wrap X=X:=jf
 |skip
 generalize 1099511627776/p.round=Q at *
 first
 |have _:=bCc
  first|have _:=m48;obtain⟨R,hR⟩:∃R,p.round=R:=⟨_,rfl⟩;rw[hR]at c5 e1 k0 hXe xU pE;obtain⟨nl,hNL⟩:∃nl,p.nl=nl:=⟨_,rfl⟩;have HNL:Hid (p.nl=nl):=hNL;rw[hNL]at qO;clear h hz hFO f0 f1 f2 f3 f4 f5 qF ht hNL hR|generalize p.round=R at *;clear h
 |generalize p.round=R at *;clear h
 go_enter func170,ntmps170;go_wp2_with fail;go_quiet(fail)
 first
 |have _:=bCc;go_wp2_with fail
  first
  |have _:=m48;go_region_held3(fun u=>u.cell? ⟨C,5,none⟩=some (.int .i64 R)/\u.cell? ⟨C,12,none⟩=some (.int .i64 rd)) (go_keep) (first
    |(go_at_call 213;refine(HA.out _).mono ?_;rintro ev v1 ⟨rfl,dB⟩;have oP:Hid (Below w.heap.size w v1):=⟨dB.os,dB.tape,dB.output,dB.size,dB.block⟩;have y5:=(oP.out.cell (p:=⟨C,5,none⟩) sG).trans c5;have y12:=(oP.out.cell (p:=⟨C,12,none⟩) sG).trans c12))
   have HI0:Hid (dZ O w v1 C p fa cs s rd B m):=⟨O,aS.of_below oP.out,HC0.out.below oP.out⟩;have c14:=HI0.out.base.c14;rw[HNL.out]at c14;have bFg:=HI0.out.base.lc;clear c5 c12 sG oP dB y5 y12 HA;go_wp2_with fail;clear c14 bFg e1 k0 k1 hwX hXe;go_loopw[45] (fun x wr=>∃k:Nat,k<=nl/\x=.int .i64 k/\Hid ((aK p.S who t s.aN k).2=none/\dZ O w wr C p fa cs ⟨s.nodes,(aK p.S who t s.aN k).1,s.aV,s.aR⟩ rd B m)) (fun x _=>nl-(intOf x).toNat);case atStart=>exact⟨0,kH _,rfl,rfl,HI0.out⟩
   case round=>
    obtain⟨k,hk,rfl,HI⟩:=hrel;clear HI0;by_cases hlt:k<nl
    ·have HKL:Hid (k<p.nl):=by show k<p.nl;rw[HNL.out];exact hlt
     obtain⟨la1,la2⟩:=HI.out.2.base.la (by have:=HKL.out;omega);obtain⟨l0,l1,l2⟩:=HI.out.2.base.lk k HKL.out;have hll:=HI.out.2.base.lx _ la2;have hFw:F<wr.heap.size:=kB hF HI.out.2.size;have g0:wr.cell? ⟨F,0,none⟩=some (.int .i64 who):=(HI.out.2.box hF HFx.out.2.1 0).trans HFx.out.2.2.1;have kk:(k:Int)<(nl:Int):=od;rw[la1];obtain⟨n,hpn⟩:∃n,p.n=n:=⟨_,rfl⟩;rw[hpn]at l2;obtain⟨b0,b1,b2,bB,bS⟩:=bAz wr (.int .i64 (p.lf k)) (.pointer (some ⟨m.S k,0,none⟩)) (.slice (some ⟨m.E k,0,none⟩) n n) 208;have g0':=(bB.cell (p:=⟨F,0,none⟩) hFw).trans g0;have bNg:F<(wr.alloc (.cells #[.int .i64 (p.lf k),.pointer (some ⟨m.S k,0,none⟩),.slice (some ⟨m.E k,0,none⟩) n n] 208)).heap.size:=by rw[bS];omega
     have hwl:wr.heap.size<(wr.alloc (.cells #[.int .i64 (p.lf k),.pointer (some ⟨m.S k,0,none⟩),.slice (some ⟨m.E k,0,none⟩) n n] 208)).heap.size:=by rw[bS];omega
     have HBB:Hid (Below wr.heap.size wr (wr.alloc (.cells #[.int .i64 (p.lf k),.pointer (some ⟨m.S k,0,none⟩),.slice (some ⟨m.E k,0,none⟩) n n] 208))):=bB;clear bB bS hpn;by_cases hw:p.lf k=who
     ·have kw:(p.lf k !=(who:Int))=false:=by simpa using hw
      have HS:Hid _:=rX (P:=p.S) (who:=who) (t:=t) (L:=s.aN) (k:=k) (by show(p.lf k).toNat=who;omega) HI.out.1;have R7:=fun v (u:Nat) (hv:Below wr.heap.size wr v)=>bB2 ((HI.out.2.below hv).drawn u) k HKL.out t HTB.out.1 HTB.out.2.1 (HLK.out k HKL.out).2.1 (HLK.out k HKL.out).2.2 HTB.out.2.2;have H4:Hid _:=R7;clear R7;exact zPc
     ·have HS:Hid (aK p.S who t s.aN (k+1)=aK p.S who t s.aN k):=qK (by
       show(p.lf k).toNat≠who
       have:=(HLK.out k HKL.out).1
       omega)
      have kw:(p.lf k !=(who:Int))=true:=by simpa using hw
      have L6:Hid (∀v,Below wr.heap.size wr v->(aK p.S who t s.aN (k+1)).2=none/\dZ O w v C p fa cs ⟨s.nodes,(aK p.S who t s.aN (k+1)).1,s.aV,s.aR⟩ rd B m):=fun v hv=>by rw[HS.out];exact⟨HI.out.1,HI.out.2.below hv⟩
      have bHf:=0;exact zPc
    ·have M2:k=nl:=by omega
     have HD:Hid (aC8 O F w wr C p fa cs ⟨s.nodes,(aK p.S who t s.aN p.nl).1,s.aV,s.aR⟩ rd B m/\(wr.cell? ⟨F,0,none⟩=some (.int .i64 who)/\wr.cell? ⟨F,1,none⟩=some (.int .i64 i)/\wr.cell? ⟨F,2,none⟩=some (.int .i64 mem)/\wr.cell? ⟨F,3,none⟩=some (.int .i64 (gS (aK p.S who t s.aN p.nl).2))/\wr.cell? ⟨F,4,none⟩=some (.int .i64 (dN (aK p.S who t s.aN p.nl).2))/\wr.cell? ⟨F,5,none⟩=some (.string (dE (aK p.S who t s.aN p.nl).2)))):=by
      obtain⟨e1,h2⟩:=HI.out;obtain⟨hz,hFO,f0,f1,f2,f3,f4,f5⟩:=HFx.out;rw[M2,<-HNL.out]at e1 h2;rw[e1];have bx:=fun j=>h2.box hF hFO j;obtain⟨O',q1,q2⟩:=h2;exact⟨⟨O',q1.under F,fun y=>by
       rcases q1.fresh F y with q|q
       ·exact hFO q
       ·omega,q2⟩,(bx 0).trans f0,(bx 1).trans f1,(bx 2).trans f2,(bx 3).trans f3,(bx 4).trans f4,(bx 5).trans f5⟩
     have kk:decide (k<nl)=false:=kC od;clear M2 hlt HI;go_wp2;exact bodyPost_end (v:=.tuple #[]) E0 rfl ⟨rfl,HD.out⟩
  |go_region_held3(fun u=>u.cell? (aA C 5)=some (iI R)/\u.cell? (aA C 12)=some (iI rd)) (go_keep) (first
    |(go_at_call 213;refine(HA.out _).mono ?_;rintro ev v1 ⟨rfl,dB⟩;have oP:Hid (bW w v1):=⟨dB.os,dB.tape,dB.output,dB.size,dB.block⟩;have y5:=bc oP.out sG c5;have y12:=bc oP.out sG c12))
   go_wp2;exact bodyPost_ret (v:=tU #[]) E0 rfl ⟨rfl,oP.out⟩
 |go_wp2;exact bodyPost_ret (v:=tU #[]) E0 rfl ⟨rfl,⟨rfl,rfl,rfl,kF _,fun _ _=>rfl⟩⟩):p:=h
theorem zNp(h:p:=by
 go_enter func55,ntmps55;go_wp2_with fail;go_quiet((go_at_call 53;first|(refine Calls.quiet_of_same (H1.out _ _ _ ?_);exact⟨rfl,by first|rfl|go_num⟩)|(refine Calls.quiet_of_same (H2.out _ _ _ ?_);exact⟨rfl,by first|rfl|go_num⟩)))
 first
 |have _:=bL0;have HQ:Hid (jJ (w.drewN nq) O Z C p fa cs s rd B m):=HH.out.below ⟨rfl,rfl,rfl,kF _,fun _ _=>rfl⟩;obtain⟨PX,hP,hpb,hpl,hlen,qD⟩:=HQ.out.prt;obtain⟨v,xT,fE⟩:=hP.look hk8 bFf;have aTc:(Instr.lookup 107 (.map (some m.pb)) (.agg #[iI k,iI j]) false).run prog (w.drewN nq)=.ok v (w.drewN nq):=xT;clear xT
  cases hq:s.aR k j with
  |nil=>
   rw[hq]at fE
   obtain⟨a,cap,rfl,_,_,_⟩:=fE
   have HF:Hid (jJ (w.drewN nq) O Z C p fa cs (s.recv k j) rd B m):=HQ.out.agree (fun _ _=>rfl) (fun _ _=>rfl) (fun _ _ _ _=>rfl) (fun k' j'=>by
    show(if k'=k/\j'=j then(s.aR k j).tail else s.aR k' j')=s.aR k' j'
    split
    ·next e=>rw[e.1,e.2,hq];rfl
    ·rfl)
   have HE:Hid (s.aR k j=[]):=hq
   clear qD hP hq
   go_wp2
   go_ret2
   exact⟨Jb,O,aS.of_below ⟨rfl,rfl,rfl,kF _,fun _ _=>rfl⟩,HF.out⟩
  |cons d l=>
   rw[hq]at fE
   obtain⟨a,cap,rfl,hcp,hcm,tN⟩:=id fE
   obtain⟨b2,vT,rfl,dQ,bBn,hcells⟩:=tN oh
   have y0:(w.drewN nq).cell? (aA b2 vT)=some (sT d):=by simpa using hcells 0 oh
   have bJ7:b2<w.heap.size:=bBn
   have y0w:w.cell? (aA b2 vT)=some (sT d):=y0
   have aH3:=mZ.rest fE
   simp only[List.length_cons]at *
   clear hcells tN
   have bNd:(w.drewN nq).cell? (aA C 15)=some (.map (some m.pb)):=c15
   have hPd:jT (w.drewN (nq+1)) PX m.pb s.aR:=hP.keep ⟨kF _,fun _ _=>rfl⟩
   have aTl:mZ (w.drewN (nq+1)) PX (sV (some ⟨b2,if cap=1 then vT else vT+1,none⟩) l.length (cap-1)) l:=aH3.keep ⟨kF _,fun _ _=>rfl⟩ (fun _ h=>h)
   obtain⟨w3,hrun,hP3,hT3⟩:=hPd.put hpb hk8 bFf aTl
   have aNu:(Instr.mapUpdate 107 (.map (some m.pb)) (.agg #[iI k,iI j]) (sV (some ⟨b2,if cap=1 then vT else vT+1,none⟩) l.length (cap-1))).run prog (w.drewN (nq+1))=.ok () w3:=hrun
   have dM:b2≠m.pb:=fun e=>hpb (e▸dQ)
   have y03:w3.cell? (aA b2 vT)=some (sT d):=(hT3.cell (p:=(aA b2 vT)) bBn dM dM).trans y0
   have aG6:Hid (∃O',aS O O' w w3/\jJ w3 O' Z C p fa cs (s.recv k j) rd B m):=by
    have hF0:aS (m.pb::PX) (m.pb::PX) (w.drewN nq) w3:=(aS.of_below ⟨rfl,rfl,rfl,kF _,fun _ _=>rfl⟩:aS (m.pb::PX) (m.pb::PX) (w.drewN nq) (w.drewN (nq+1))).trans (aS.jD hT3 kQ kQ)
    have e:s.recv k j=s.setPort k j l:=by
     unfold cA.recv cA.setPort
     congr 1
     funext k' j'
     rw[hq]
     rfl
    rw[e]
    obtain⟨O',hF,hR⟩:=qD w3 PX k j l hP3 hpb hF0 (fun c hc=>kB (hpl c hc) hT3.size) (by have:=hlen k j;rw[hq]at this;simp at this;omega)
    exact⟨O',(aS.of_below ⟨rfl,rfl,rfl,kF _,fun _ _=>rfl⟩:aS O O w (w.drewN nq)).trans hF,hR⟩
   have bNc:w3.cell? (aA C 15)=some (.map (some m.pb)):=(hT3.cell (p:=(aA C 15)) lc HH.out.bCw HH.out.bCw).trans c15
   have jN:b2<w3.heap.size:=kB bBn hT3.size
   have HE:Hid (s.aR k j=d::l):=hq
   clear hP qD hPd aTl aH3 fE hrun hP3 hT3 hq hlen
   generalize l.length=ln at *
   have g1:(1:Int)<=(ln:Int)+1:=od
   have g2:(ln:Int)+1<=(cap:Int):=od
   by_cases rH:cap=1
   ·have tQ:ln=0:=by omega
    subst tQ
    subst rH
    rw[kJ rfl]at aNu
    go_wp2_with fail
    go_region_held3(fun u=>u.cell? (aA C 15)=some (.map (some m.pb))) (go_keep) (first
     |(refine zL oq _ _ _ _ oq _ _ _ oq oq oq aNu ?_))
    go_wp2
    go_ret2
    exact⟨Jb,aG6.out⟩
   ·rw[kI rH]at aNu
    go_wp2_with fail
    go_region_held3(fun u=>u.cell? (aA C 15)=some (.map (some m.pb))) (go_keep) (first
     |(refine zL oq _ _ _ _ oq _ _ _ oq oq oq aNu ?_))
    go_wp2
    go_ret2
    exact⟨Jb,aG6.out⟩
  skip
 |exact zIc):p:=h
theorem zP2(h:p:=by
 obtain rfl:=dQ;clear mP;conv=>arg 2;arg 1;whnf
 have wW:Hid _:=cN;obtain⟨fL,rfl⟩:=lit L 452 tC;replace s0:=aX s0
 first
 |have _:=bMb
  first
  |have _:=bHc
   first|have _:=m76;replace s13:=aX s13;replace s14:=aX s14;replace s51:=aX s51;replace s52:=aX s52;simp only[List.range,List.range.loop,List.map_cons,List.map_nil,s0,s13,s14,s51,s52]|replace P4:=aX P4;replace s12:=aX s12;replace s79:=aX s79;replace s80:=aX s80;replace s81:=aX s81;simp only[List.range,List.range.loop,List.map_cons,List.map_nil,s0,P4,s12,s79,s80,s81]
  |replace P4:=aX P4;replace s12:=aX s12;replace s47:=aX s47;replace s48:=aX s48;simp only[List.range,List.range.loop,List.map_cons,List.map_nil,s0,P4,s12,s47,s48]
  have HCK:Hid (∀j,j<n->w.cell? (aA ca (off+j))=some (iI (cs.getD j 0))):=M1
  first
  |have _:=bHc;have HIN:Hid (∀j,j<n->-274877906944<=cs.getD j 0/\cs.getD j 0<=274877906944):=fun j hj=>eE _ (rG od)
   first
   |have _:=m76;have sG:C<w.heap.size:=lt_of_cell y11;have hlc:ca<w.heap.size:=lt_of_cell (M1 i hi);clear cN M1 eE hlen;go_loopw[52,14] (fun a V wr=>∃k:Nat,k<=n/\a=iI k/\Hid (wr.ownsRow w.heap.size 3 1 V k ((List.range k).map fun j=>iI (cs.getD j 0-cs.getD i 0)))/\Hid (bW w wr)) (fun a _ _=>n-(intOf a).toNat);case atStart=>exact⟨0,kH _,rfl,World.ownsRow_nil _ _ _ _,kX _ _⟩
    case round=>
     obtain⟨k,hk,rfl,bK,bT⟩:=hrel;by_cases hlt:k<n
     ·have kk:(k:Int)<(n:Int):=by omega
      have ii:(i:Int)<(n:Int):=od;have z11:=aO y11 bT.out;have zk:=aO (HCK.out k hlt) bT.out;have zi:=aO (HCK.out i hi) bT.out;have q0:=HIN.out i hi;have q1:=HIN.out k hlt;have HLS:Hid ((List.range (k+1)).map (fun j=>iI (cs.getD j 0-cs.getD i 0))=(List.range k).map (fun j=>iI (cs.getD j 0-cs.getD i 0))++[iI (cs.getD k 0-cs.getD i 0)]):=by show _=_;rw[List.range_succ,List.map_append];rfl
      have hsz:=bT.out.size;generalize cs.getD k 0=a1 at *;generalize cs.getD i 0=a0 at *;go_wp2_with fail;refine aZa _ oq _ C i k n ca off cI w.heap.size a0 a1 _ u14 wr ii kk hn z11 zk zi q0 q1 bK.out hsz sG hlc rfl rfl rfl rfl rfl ?_;intro L2 gq cq w3 ho3 jN pC pD Y8;obtain⟨gL,rfl⟩:=pD.over (pC.trans rfl);clear pD pC;simp(decide:=true) only[ov,if_true,if_false,Nat.reduceAdd]at Y8⊢;replace Y8:=kW Y8;rw[Y8];clear Y8;clear z11 zk zi;have HO3:Hid _:=ho3;have HB3:Hid (bW w w3):=bT.out.trans jN;clear ho3 jN;go_wp2;exact⟨⟨k+1,od,ow,by rw[HLS.out];exact HO3.out,HB3.out⟩,ot⟩
     ·obtain rfl:k=n:=by omega
      go_wp2;exact wW.out _ _ _ bK.out bT.out rfl (Rest.of rfl) rfl rfl
   |have bIl:Hid (RT w base (sL uX n c12) n n (fV r n fa aC cs 0) G cap):=hRT;have HR:Hid (dX w ra r.nR r.rn r.ro r.ri):=hr;have HRB:Hid (∀b off,ra=some (aA b off)->0<r.nR->b<base):=hrb;clear cN M1 eE hRT hr hrb hlen;go_loopw[81] (fun a wr=>∃x:Nat,x<=r.nR/\a=iI x/\Hid (RT wr base (sL uX n c12) n n (fV r n fa aC cs x) G cap)/\Hid (Below base w wr)) (fun a _=>r.nR-(intOf a).toNat);case atStart=>exact⟨0,kH _,rfl,bIl.out,kX _ _⟩
    case round=>
     obtain⟨x,hx,rfl,hRT,bT⟩:=hrel;by_cases hlt:x<r.nR
     ·have xx:(x:Int)<(r.nR:Int):=by omega
      obtain⟨b,vT,rfl,gX,hc⟩:=HR.out od;have hbb:=HRB.out b vT rfl od;obtain⟨x0,x1,x2⟩:=hc x hlt;replace x0:=(bT.out.cell (p:=⟨b,vT+x*3,none⟩) hbb).trans x0;replace x1:=(bT.out.cell (p:=⟨b,vT+x*3+1,none⟩) hbb).trans x1;replace x2:=(bT.out.cell (p:=⟨b,vT+x*3+2,none⟩) hbb).trans x2;have hsz:=bT.out.size;have HSC:Hid (fV r n fa aC cs (x+1)=jG n (aW fa) aC (fun i=>cs.getD i 0) ⟨r.rn x,r.ro x,r.ri x⟩ (fV r n fa aC cs x)):=T1 ..;have HAB:Hid (bW wr (wr.alloc (.cells #[iI (r.rn x),iI (r.ro x),iI (r.ri x)] 116))):=(kX _ _).alloc (kF _) _;have aSa:Hid (RT (wr.alloc (.cells #[iI (r.rn x),iI (r.ro x),iI (r.ri x)] 116)) base (sL uX n c12) n n (fV r n fa aC cs x) G cap):=hRT.out.below HAB.out;have bAq:Hid (Below base w (wr.alloc (.cells #[iI (r.rn x),iI (r.ro x),iI (r.ri x)] 116))):=bT.out.trans (HAB.out.mono (kG qV hsz));clear hc;generalize r.rn x=A at *;generalize r.ro x=D at *;generalize r.ri x=E at *;by_cases k1:0<=A/\A<n;rotate_left
      ·have HE:Hid (fV r n fa aC cs (x+1)=fV r n fa aC cs x):=by show _=_;rw[HSC.out];exact vC (fun y=>k1 y.1)
       have rH:=wG A 0 ((n:Int)-1) (wr.alloc (.cells #[iI A,iI D,iI E] 116));rw[kC od]at rH;clear k1;go_wp2_with fail;refine rH.mono ?_;rintro ev w2 ⟨rfl,qP⟩;replace qP:=qP.symm;subst qP;clear rH;exact zIa
      ·obtain⟨a,ha⟩:∃a:Nat,A=(a:Int):=⟨A.toNat,od⟩;subst ha;have han:a<n:=od;have aa:(a:Int)<(n:Int):=od;obtain⟨W1,R0⟩:∃W1,W1=wr.alloc (.cells #[iI (a:Int),iI D,iI E] 116):=⟨_,rfl⟩;have HW1:Hid (W1=wr.alloc (.cells #[iI (a:Int),iI D,iI E] 116)):=R0;have rH:=wG (a:Int) 0 ((n:Int)-1) W1;rw[kD (show 0<=(a:Int)/\(a:Int)<=(n:Int)-1 by omega)]at rH;by_cases k2:0<=D/\D<n;rotate_left
       ·have HE:Hid (fV r n fa aC cs (x+1)=fV r n fa aC cs x):=by show _=_;rw[HSC.out];exact vC (fun y=>k2 y.2.1)
        have R2:=wG D 0 ((n:Int)-1) W1;rw[kC od]at R2;rw[R0]at rH R2;clear k1 k2 R0;exact zNt
       ·obtain⟨d,hd⟩:∃d:Nat,D=(d:Int):=⟨D.toNat,od⟩;subst hd;have hdn:d<n:=od;have dd:(d:Int)<(n:Int):=od;have R2:=wG (d:Int) 0 ((n:Int)-1) W1;rw[kD (show 0<=(d:Int)/\(d:Int)<=(n:Int)-1 by omega)]at R2;by_cases k3:(a:Int)=(d:Int)
        ·have HE:Hid (fV r n fa aC cs (x+1)=fV r n fa aC cs x):=by show _=_;rw[HSC.out];exact vC (fun y=>y.2.2 k3)
         have k4:((a:Int)==(d:Int))=true:=by simpa using k3
         rw[R0]at rH R2;clear k1 k2 R0 k3;exact zNt
        ·have k4:((a:Int)==(d:Int))=false:=by simpa using k3
         have HRO:Hid (∀i2 j2:Nat,fV r n fa aC cs (x+1) i2 j2=if i2=a/\j2=d then(if aW fa d=true then cutV E 549755813888 else cs.getD d 0-cs.getD a 0+cutV E aC)else fV r n fa aC cs x i2 j2):=fun i2 j2=>by rw[HSC.out];exact aAo han hdn k3 i2 j2
         have dB:Below base w W1:=by rw[R0];exact bAq.out
         have bA9:W1.cell? (aA C 10)=some (iI fa):=bc dB hCb bIz;have hli:=vF C fa d od W1 bA9;obtain⟨z0,z1,z2⟩:=bAi wr (iI (a:Int)) (iI (d:Int)) (iI E) 116;rw[<-R0]at z0 z1 z2;have aOe:Hid (RT W1 base (sL uX n c12) n n (fV r n fa aC cs x) G cap):=by rw[R0];exact aSa.out
         have oP:Hid (Below base w W1):=dB;have hXs:wr.heap.size<W1.heap.size:=by rw[R0];simp
         rw[R0]at rH R2 hli;clear k1 k2 k3 R0 dB bA9 aSa bAq HAB;have bL2:=0;exact zNt
     ·obtain rfl:x=r.nR:=by omega
      go_wp2;exact wW.out _ _ hRT.out bT.out rfl (Rest.of rfl) rfl
  |have HIN:Hid (∀x∈cs,-274877906944<=x/\x<=274877906944):=eE;have C8:Hid (cs.length=n):=hlen;obtain⟨i1,hiI,R8,hy1,M3⟩:=info_parts Tryz.aTq;clear cN M1 eE hlen;go_loopw[48,12] (fun a V wr=>∃I:Nat,I<=n/\a=iI I/\Hid (∃G cap,RT wr w.heap.size V I n (fun i k=>cs.getD k 0-cs.getD i 0) G cap)/\Hid (bW w wr)) (fun a _ _=>n-(intOf a).toNat);case atStart=>exact⟨0,kH _,rfl,⟨fun _=>0,fun _=>0,World.ownsRow_nil _ _ _ _,fun _ _ h=>absurd h (kT _),fun _ _ h=>absurd h (kT _),fun _ h=>absurd h (kT _),fun _ _ h=>absurd h (kT _),fun _ h=>absurd h (kT _)⟩,kX _ _⟩
   case round=>
    obtain⟨I,hI,rfl,hRT,bT⟩:=hrel;by_cases hlt:I<n
    ·have ii:(I:Int)<(n:Int):=by omega
     have z11:=aO y11 bT.out;have HZK:Hid (∀j,j<n->wr.cell? (aA ca (off+j))=some (iI (cs.getD j 0))):=fun j hj=>aO (HCK.out j hj) bT.out;go_wp2_with fail;refine bDa _ oq _ C I n ca off cI cs wr C8.out hlt hn z11 HZK.out HIN.out rfl rfl rfl rfl rfl rfl ?_;intro L2 V14 w1 ho1 dB pC pD Y8 t52;obtain⟨gL,rfl⟩:=pD.over (pC.trans rfl);clear pD pC;simp(decide:=true) only[ov,if_true,if_false,Nat.reduceAdd]at Y8 t52⊢;replace Y8:=kW Y8;replace t52:=kW t52;rw[Y8,t52];clear Y8 t52;obtain⟨g,c,rfl,hg0,hg1⟩:=ho1.form hn0;obtain⟨G,cap,hR⟩:=hRT.out;obtain⟨a12,c12,h12⟩:=eY hR.own;clear hRT;subst h12;have hR1:=hR.below dB;have aXr:bW w w1:=bT.out.trans (dB.mono bT.out.size);have bFe:∀i,i<I->g≠G i:=fun i hi e=>by have:=(hR.lt i hi).2;omega
     have hgV:(Value.slice a12 I c12).ownBlock≠some g:=fun e=>by have:=(hR.own.lt g e).2;omega
     have HNX:Hid (∀(V':Value) (w3:World),w3.ownsRow w.heap.size 55 1 V' (I+1) (((List.range I).map fun i=>Value.slice (some ⟨G i,0,none⟩) n (cap i))++[sL g n c])->(w1.alloc (.cells #[sL g n c] 55)).grownBy w3 (Value.slice a12 I c12).ownBlock->(V'.ownBlock=(Value.slice a12 I c12).ownBlock\/V'.ownBlock=some (w1.heap.size+1))->(∃G cap,RT w3 w.heap.size V' (I+1) n (fun i k=>cs.getD k 0-cs.getD i 0) G cap)/\bW w w3):=fun V' w3 h1 h2 h3=>⟨⟨_,_,hR1.next (d6 ho1 bT.out.size) hn0 bFe hgV h1 h2 h3⟩,(aXr.alloc aXr.size _).grown h2 (by have:=aXr.size;simp;omega) (fun b hb=>(hR.own.lt b hb).1)⟩;have hOw:w1.ownsRow w.heap.size 55 1 (sV a12 I c12) I ((List.range I).map fun i=>Value.slice (some ⟨G i,0,none⟩) n (cap i)):=hR1.own;have HOw:Hid _:=hOw;have hs1:=aXr.size;clear hR hR1 ho1 hOw bFe hgV z11 hg0 hg1 dB;go_wp2_with(at_builtin;refine wpList_append_own_at _ rfl _ _ 179 rfl w.heap.size 55 i1 (sV none 0 0) 1 24 underlying179 hiI R8 hy1 M3 rfl oe (sV a12 I c12) I _ rfl (World.ownsRow.alloc HOw.out _) (aA w1.heap.size 0) 1 1 [sL g n c] rfl rfl (cell_one_new _ _ _) Oc oo od ol ?_;apply Hid.out);unfold Hid;intro V' w3 cD bP _ jW;have HN3:Hid _:=HNX.out V' w3 cD bP (by simpa using jW);clear cD bP jW HNX HOw;go_wp2;exact⟨⟨I+1,od,ow,HN3.out.1,HN3.out.2⟩,ot⟩
    ·obtain rfl:I=n:=by omega
     obtain⟨G,cap,hR⟩:=hRT.out;have HR:Hid _:=hR;clear hR;go_wp2;exact wW.out _ _ _ _ _ HR.out bT.out rfl (Rest.of rfl) rfl rfl
 |first
  |have _:=bH1
   first|have _:=bGd;replace s1:=aX s1;replace s4:=aX s4;replace P4:=aX P4;replace xJ:=aX xJ;replace xK:=aX xK;replace xL:=aX xL;simp only[List.range,List.range.loop,List.map_cons,List.map_nil,s0,s1,s4,P4,xJ,xK,xL]|replace s22:=aX s22;replace s25:=aX s25;replace s27:=aX s27;replace s28:=aX s28;replace s29:=aX s29;replace bDm:=aX bDm;replace bDn:=aX bDn;replace bDo:=aX bDo;simp only[List.range,List.range.loop,List.map_cons,List.map_nil,s0,s22,s25,s27,s28,s29,bDm,bDn,bDo]
  |replace s1:=aX s1;replace s21:=aX s21;replace s22:=aX s22;replace s24:=aX s24;replace s25:=aX s25;replace s27:=aX s27;replace s28:=aX s28;replace s29:=aX s29
   first|have _:=m47;replace bDp:=aX bDp;replace bDq:=aX bDq;simp only[List.range,List.range.loop,List.map_cons,List.map_nil,s0,s1,s21,s22,s24,s25,s27,s28,s29,bDp,bDq]|replace s35:=aX s35;replace s36:=aX s36;replace bDr:=aX bDr;simp only[List.range,List.range.loop,List.map_cons,List.map_nil,s0,s1,s21,s22,s24,s25,s27,s28,s29,s35,s36,bDr]
   have HR:Hid (dX w la nL ls oJ lt):=hr;have HRO:Hid (∀b off,la=some (aA b off)->b∉O):=hrO
   first|have _:=m47;have HRL:Hid (∀b off,la=some (aA b off)->b<w.heap.size):=hrL;have HLO:Hid (∀j,j<p.n->∀c,c<2->mS ls oJ lt nL i c j=aW (if c=0 then l0 else l1) j):=X9|have HLO:Hid (∀c,c<2->mS ls oJ lt nL i c j=aW (if c=0 then l0 else l1) j):=X9
   have HMK:Hid (tY p mk):=hmk;have HLK:Hid (LK=gS mk/\SQ=dN mk/\SD=dE mk):=hLK
  have HH:Hid (jJ w O Z C p fa cs s rd B m):=h
  first
  |have _:=bH1
   first
   |have _:=bGd;have HR:Hid (dX w la nL ls oJ lt):=hr;have HRO:Hid (∀b off,la=some (aA b off)->b∉O):=hrO;have HRL:Hid (∀b off,la=some (aA b off)->b<w.heap.size):=hrL;have HM:Hid (bE w ma bH):=hm;have HMO:Hid (∀b off,ma=some (aA b off)->0<bH.length->b∉O):=hmO;exact zQl
   |have HSO:Hid (SB∉O):=hSO;have HLA:Hid (LA=m.la):=hLA;have HLK:Hid (∀k,k<p.nl->0<=p.lf k/\0<=p.lb k/\p.lb k<=1099511627776):=qF;have hm0:0<=rd*p.round:=Int.mul_nonneg sH od;have hm1:rd*p.round<=1000000*137438953472:=Int.mul_le_mul uT pE od od;clear cN h hSO qF hLA;go_loopw[274,27,28,29] (fun a b c d wr=>∃k:Nat,k<=p.nl/\a=iI k/\b=iI (gS (uP p s aT who t k).2)/\c=iI (dN (uP p s aT who t k).2)/\d=sT (dE (uP p s aT who t k).2)/\Hid (cP O w wr Z C p fa cs (goS p s aT who t k) rd B m)) (fun a _ _ _ _=>p.nl-(intOf a).toNat);case atStart=>
     have e:uP p s aT who t 0=(s.aN,none):=by unfold uP;split<;>rfl
     refine⟨0,kH _,rfl,by rw[e];rfl,by rw[e];rfl,by rw[e];rfl,O,aS.refl _ _,?_⟩;have e2:goS p s aT who t 0=s:=by unfold goS;rw[e]
     rw[e2];exact HH.out
    case round=>
     obtain⟨k,hk,rfl,rfl,rfl,rfl,eE⟩:=hrel;have hs0:=eE.out.size;by_cases hlt:k<p.nl
     ·have kk:(k:Int)<(p.nl:Int):=by omega
      obtain⟨b,off,e,hbZ,hc⟩:=eE.out.rows.lk od;have gX:=eE.out.rows.zl b hbZ;obtain⟨x0,x1,x2,x3⟩:=hc k hlt;obtain⟨g0,g1,g2⟩:=HLK.out k hlt;obtain⟨LF,hLF⟩:∃LF:Nat,p.lf k=(LF:Int):=⟨(p.lf k).toNat,od⟩;have HSF:Hid (p.S.lf k=LF):=by show(p.lf k).toNat=LF;omega
      obtain⟨z0,z1,z2⟩:=bG5 wr (iI (p.lf k)) (iI (p.lt k)) (iI (p.lb k)) (iI (p.lq k)) 96;have A8:Hid (cP O w (wr.alloc (.cells #[iI (p.lf k),iI (p.lt k),iI (p.lb k),iI (p.lq k)] 96)) Z C p fa cs (goS p s aT who t k) rd B m):=eE.out.below z1;have bJ0:LA=some (aA b off):=HLA.out.trans e;have aC7:(wr.alloc (.cells #[iI (p.lf k),iI (p.lt k),iI (p.lb k),iI (p.lq k)] 96)).cell? (aA SB 0)=some (iI who):=(A8.out.box hSB HSO.out 0).trans sb0;have bF4:SB<wr.heap.size:=od;clear HLA hc;subst bJ0;rw[hLF]at x0 z0 z1 z2 aC7 A8;cases aT
      ·have HE:Hid (uP p s false who t (k+1)=uP p s false who t k):=aT1;have HE2:Hid (goS p s false who t (k+1)=goS p s false who t k):=rfl;rw[show(uP p s false who t k).2=none from rfl,show gS (none:Option (Nat×Int×ByteArray))=-1 from rfl,show dN (none:Option (Nat×Int×ByteArray))=0 from rfl,show dE (none:Option (Nat×Int×ByteArray))=ByteArray.empty from rfl];go_wp2;refine⟨⟨k+1,od,ow,Jb,Jb,Jb,?_⟩,ot⟩;rw[HE2.out];exact A8.out
      ·obtain⟨mkv,aBl⟩:∃mkv,(uP p s true who t k).2=mkv:=⟨_,rfl⟩;rcases mkv with _|⟨k',q',d'⟩
       ·rw[aBl,show gS (none:Option (Nat×Int×ByteArray))=-1 from rfl,show dN (none:Option (Nat×Int×ByteArray))=0 from rfl,show dE (none:Option (Nat×Int×ByteArray))=ByteArray.empty from rfl];by_cases hw:LF=who
        ·have bAp:=aXm (p:=p) (s:=s) (who:=who) (t:=t) (k:=k) (by rw[HSF.out];exact hw) aBl;obtain⟨S0,hS0⟩:∃S0,(uP p s true who t k).1 k=S0:=⟨_,rfl⟩;have hS1:(goS p s true who t k).aN k=S0:=hS0;obtain⟨W1,R0⟩:∃W1,wr.alloc (.cells #[iI (LF:Int),iI (p.lt k),iI (p.lb k),iI (p.lq k)] 96)=W1:=⟨_,rfl⟩;rw[R0]at A8 aC7 z0 z1 z2;have HSD:Hid (Calls prog 102 #[.pointer (some ⟨m.S k,0,none⟩),iI (rd*p.round+fr)] W1.drew fun e w'=>e=rT (tU #[iI (jZ (fU S0.all.length S0.aP t S0.now S0.last (p.lb k)) S0.aP),sT (jY (fU S0.all.length S0.aP t S0.now S0.last (p.lb k)) S0.all S0.aP),iI (fU S0.all.length S0.aP t S0.now S0.last (p.lb k))])/\cP O w w' Z C p fa cs ((goS p s true who t k).tH k (S0.asked t (p.lb k))) rd B m):=by have q:=bDd (A8.out.drawn 1) k hlt t g1 g2 od;rw[hS1]at q;rw[<-ht];exact q
         rw[hS0]at bAp;have HAS:Hid _:=bAp;have HY:Hid (∀(w':World) (s':cA) (B':Nat),cP O w w' Z C p fa cs s' rd B' m->((w'.cell? (aA C 13)=some (sL m.kb p.nl m.aKw)/\w'.cell? (aA m.kb k)=some (.pointer (some ⟨m.S k,0,none⟩)))/\w'.cell? (aA C 16)=some (iI rd)/\w'.cell? (aA C 5)=some (iI p.round))/\w'.cell? (aA SB 1)=some (iI fr)/\m.kb<w'.heap.size/\C<w'.heap.size/\SB<w'.heap.size):=fun w' s' B' hi=>by have y13:=hi.base.c13;obtain⟨ka1,ka2⟩:=hi.base.ka od;rw[ka1]at y13;exact⟨⟨⟨y13,hi.base.kk k hlt⟩,hi.base.c16,hi.base.c5⟩,(hi.box hSB HSO.out 1).trans sb1,hi.base.lx _ ka2,hi.base.lc,kB hSB hi.size⟩
         obtain⟨⟨⟨y13,ykb⟩,y16,y5⟩,aWl,lkb,lc1,bO1⟩:=HY.out _ _ _ A8.out;have w1:IntKind.i64.wrap (rd*p.round)=rd*p.round:=by rw[IntKind.wrap_i64];generalize rd*p.round=X at *;omega
         have w2:IntKind.i64.wrap (rd*p.round+fr)=rd*p.round+fr:=by rw[IntKind.wrap_i64];generalize rd*p.round=X at *;omega
         have HMV:Hid ((uP p s true who t k).2=none):=aBl;have bBe:W1=wr.alloc (.cells #[iI (LF:Int),iI (p.lt k),iI (p.lb k),iI (p.lq k)] 96):=R0.symm;obtain⟨K,hK⟩:∃K,fU S0.all.length S0.aP t S0.now S0.last (p.lb k)=K:=⟨_,rfl⟩;rw[hK]at HSD HAS;clear aBl bAp hS0 hS1 hK R0;have HW1:Hid (W1=wr.alloc (.cells #[iI (LF:Int),iI (p.lt k),iI (p.lb k),iI (p.lq k)] 96)):=bBe;rw[bBe]at z0 aC7;clear bBe;subst hw;go_wp2_with fail;rw[<-HW1.out];go_region_held3(fun u=>u.cell? (aA C 13)=some (sL m.kb p.nl m.aKw)/\u.cell? (aA m.kb k)=some (.pointer (some ⟨m.S k,0,none⟩))/\u.cell? (aA C 16)=some (iI rd)/\u.cell? (aA C 5)=some (iI p.round)/\u.cell? (aA SB 1)=some (iI fr)) (go_keep) (first
          |(go_at_call 102;refine HSD.out.mono ?_;rintro ev w2' ⟨rfl,hI2⟩;obtain⟨⟨⟨bMv,bN1⟩,bN0,y5b⟩,bI1,_,_,_⟩:=HY.out w2' _ _ hI2))
         have L6:Hid (cP O w w2' Z C p fa cs ((goS p s true LF t k).tH k (S0.asked t (p.lb k))) rd B m):=hI2;clear hI2 bMv bN1 bN0 y5b bI1 y13 ykb y16 y5 aWl z0 aC7;have HE2:Hid (goS p s true LF t (k+1)=(goS p s true LF t k).tH k (S0.asked t (p.lb k))):=by show goS _ _ _ _ _ _=_;unfold goS;rw[HAS.out];rfl
         by_cases hK0:K=0
         ·have HV:Hid ((uP p s true LF t (k+1)).2=some (k,mH S0.aP,S0.all.getD S0.aP ByteArray.empty)):=by show _=_;rw[HAS.out];simp only[kJ hK0]
          subst hK0;exact zF3
         ·have HV:Hid ((uP p s true LF t (k+1)).2=none):=by show _=_;rw[HAS.out];simp only[kI hK0]
          have k1:(K==0)=false:=by simpa using hK0
          clear hK0;exact zF3
        ·have HE:Hid (uP p s true who t (k+1)=uP p s true who t k):=aT2 (by rw[HSF.out];exact hw);exact zPm
       ·have HE:Hid (uP p s true who t (k+1)=uP p s true who t k):=aXn aBl;have bLy:=0;exact zPm
     ·obtain rfl:k=p.nl:=by omega
      go_wp2;exact wW.out _ _ eE.out rfl (Rest.of rfl) rfl rfl rfl rfl
  |have HSO:Hid (SB∉O):=hSO
   first
   |have _:=m47;clear cN hr hrO hrL X9 hmk h hSO hLK;go_loopw[325] (fun t wr=>∃J:Nat,J<=p.n/\t=iI J/\Hid (cP O w wr Z C p fa cs (s.cK p who mem mk aT l0 l1 J) rd (B+4*J) m)) (fun t _=>p.n-(intOf t).toNat);case atStart=>exact⟨0,kH _,rfl,O,aS.refl _ _,HH.out⟩
    case round=>
     obtain⟨J,hJ,rfl,eE⟩:=hrel;have hs0:=eE.out.size;have hsb:wr.cell? (aA SB 0)=some (iI who):=(eE.out.box hSB HSO.out 0).trans sb0;have bF4:SB<wr.heap.size:=od;by_cases hlt:J<p.n
     ·have jj:(J:Int)<(p.n:Int):=by omega
      by_cases hw:J=who
      ·have HST:Hid (s.cK p who mem mk aT l0 l1 (J+1)=s.cK p who mem mk aT l0 l1 J):=aGx hw;subst hw;go_wp2;refine⟨⟨J+1,od,ow,?_⟩,ot⟩;rw[HST.out];exact eE.out.more od
      ·have HST:Hid (s.cK p who mem mk aT l0 l1 (J+1)=(if cQ aT l0 l1 J 2=true then(s.cK p who mem mk aT l0 l1 J).dT p mk J else s.cK p who mem mk aT l0 l1 J).setNode J ((s.nodes J).hears J p.n who (if cQ aT l0 l1 J 2=true then eV p.n (s.nodes J).t (tb mem) who mem else 0))):=aGy hw;have HRN:Hid ((s.cK p who mem mk aT l0 l1 J).nodes J=s.nodes J):=tD J J (kF _);have k1:((J:Int)==(who:Int))=false:=ol;have pE:=eE.out.rows3 HR.out HRO.out;obtain⟨O1,rH,hap,qD⟩:=eE.out.part2;have HBK:Hid (∀(w':World) (s2:cA) (B2:Nat),cP O1 wr w' Z C p fa cs s2 rd B2 m->cP O w w' Z C p fa cs s2 rd B2 m):=qD;have bIk:Hid (∀b off,la=some (aA b off)->b∉O1):=fun b off e=>hap b (HRL.out b off e) (HRO.out b off e);have bIo:Hid (SB∉O1):=hap SB hSB HSO.out;clear qD hap hw;generalize s.cK p who mem mk aT l0 l1 J=R at *;go_wp2_with fail;refine aZb _ oq _ rH i J who mem mk LK SQ SD HLK.out aT l0 l1 SB la nL lc ls oJ lt hlt lK hn qO od HMK.out bF4 bIo.out hsb pE bIk.out hL (HLO.out J hlt) rfl rfl rfl rfl rfl rfl rfl rfl rfl rfl rfl rfl rfl ?_;intro L2 w5 hI5 pC pD t36 aW2;obtain⟨gL,rfl⟩:=pD.over (pC.trans rfl);clear pD pC;simp(decide:=true) only[ov,if_true,if_false,Nat.reduceAdd]at t36 aW2⊢;replace t36:=kW t36;replace aW2:=kW aW2;rw[t36,aW2];clear t36 aW2;have HI5:Hid (cP O w w5 Z C p fa cs (if cQ aT l0 l1 J 2=true then R.dT p mk J else R) rd (B+4*J+2) m):=HBK.out _ _ _ hI5;rw[HRN.out];obtain⟨WV,hWV⟩:∃WV,(if cQ aT l0 l1 J 2=true then eV p.n (s.nodes J).t (tb mem) who mem else 0)=WV:=⟨_,rfl⟩;have HN5:Hid ((if cQ aT l0 l1 J 2=true then R.dT p mk J else R).nodes J=s.nodes J):=by
        show _=_;split
        ·rw[sD];exact HRN.out
        ·exact HRN.out
       rw[hWV]at HST;rw[hWV];clear hWV hI5 rH pE eE;generalize(if cQ aT l0 l1 J 2=true then R.dT p mk J else R)=R5 at *;have hs5:=HI5.out.size;have y12:=HI5.out.base.c12;have ynd:=HI5.out.base.nd J hlt;have ynl:=HI5.out.base.lx _ HI5.out.base.ndX;have lc5:=HI5.out.base.lc;have ysb:w5.cell? (aA SB 0)=some (iI who):=(HI5.out.box hSB HSO.out 0).trans sb0;have bNh:SB<w5.heap.size:=od;have HHE:Hid (Calls prog 105 #[.pointer (some ⟨m.P J,0,none⟩),iI who,iI WV] w5.drew fun e w'=>e=rT (tU #[])/\cP O w w' Z C p fa cs (R5.setNode J ((s.nodes J).hears J p.n who WV)) rd (B+4*J+2+1) m):=by have:=aZ3 (HI5.out.drawn 1) J hlt who WV lK hn od;rw[HN5.out]at this;exact this
       have HY:Hid (∀(w':World) (s':cA) (B':Nat),cP O w w' Z C p fa cs s' rd B' m->(w'.cell? (aA C 12)=some (sL m.nb p.n m.vQ)/\w'.cell? (aA m.nb J)=some (.pointer (some ⟨m.P J,0,none⟩)))/\w'.cell? (aA SB 0)=some (iI who)):=fun w' s' B' hi=>⟨⟨hi.base.c12,hi.base.nd J hlt⟩,(hi.box hSB HSO.out 0).trans sb0⟩;go_wp2_with fail;go_region_held3(fun u=>u.cell? (aA C 12)=some (sL m.nb p.n m.vQ)/\u.cell? (aA m.nb J)=some (.pointer (some ⟨m.P J,0,none⟩))/\u.cell? (aA SB 0)=some (iI who)) (go_keep) (first
        |(go_at_call 105;refine HHE.out.mono ?_;rintro ev w6 ⟨rfl,hI6⟩;obtain⟨⟨bHy,bI0⟩,bO5⟩:=HY.out w6 _ _ hI6))
       have HI6:Hid _:=hI6;clear hI6;go_wp2;refine⟨⟨J+1,od,ow,?_⟩,ot⟩;rw[HST.out];exact cP.more HI6.out od
     ·obtain rfl:J=p.n:=by omega
      go_wp2;exact wW.out _ _ eE.out rfl (Rest.of rfl) rfl
   |obtain⟨JV,hJV⟩:∃JV,eV p.n (s.nodes j).t (tb mem) who mem=JV:=⟨_,rfl⟩;have HJV:Hid (eV p.n (s.nodes j).t (tb mem) who mem=JV):=hJV;rw[hJV]at wW;clear cN hr hrO X9 hmk h hSO hJV hLK;go_loopw[332,36] (fun t v wr=>∃c:Nat,c<=2/\t=iI c/\v=iI (if cQ aT l0 l1 j c=true then JV else 0)/\Hid (cP O w wr Z C p fa cs (if cQ aT l0 l1 j c=true then s.dT p mk j else s) rd (B+c) m)) (fun t _ _=>2-(intOf t).toNat);case atStart=>refine⟨0,od,rfl,by rw[xA];rfl,?_⟩;rw[xA,kI oe];exact⟨O,aS.refl _ _,HH.out⟩
    case round=>
     obtain⟨c,R2,rfl,rfl,eE⟩:=hrel;by_cases hlt:c<2
     ·have cc:(c:Int)<2:=by omega
      have aOg:=aA2 aT l0 l1 j c hlt;rw[<-HLO.out c hlt]at aOg;obtain⟨LB,hLB⟩:∃LB,mS ls oJ lt nL i c j=LB:=⟨_,rfl⟩;rw[hLB]at aOg;have HLB:Hid (mS ls oJ lt nL i c j=LB):=hLB;have HS:Hid (cQ aT l0 l1 j (c+1)=(cQ aT l0 l1 j c||(aT&& !LB))):=aOg;have pE:=eE.out.rows3 HR.out HRO.out;obtain⟨R,hR⟩:∃R,(if cQ aT l0 l1 j c=true then s.dT p mk j else s)=R:=⟨_,rfl⟩;have HRR:Hid ((if cQ aT l0 l1 j c=true then s.dT p mk j else s)=R):=hR;have HI:Hid (cP O w wr Z C p fa cs R rd (B+c) m):=by rw[<-hR];exact eE.out
      clear eE aOg hLB hR;obtain⟨CB,hCB⟩:∃CB,cQ aT l0 l1 j c=CB:=⟨_,rfl⟩;rw[hCB]at HS HRR;rw[hCB];clear hCB;obtain⟨WV,hWV⟩:∃WV,(if CB=true then JV else 0)=WV:=⟨_,rfl⟩;have HWV:Hid ((if CB=true then JV else 0)=WV):=hWV;rw[hWV];clear hWV;go_wp2_with fail;refine aZc _ oq _ i j c aT la nL lc ls oJ lt wr pE hL od rfl rfl rfl rfl rfl rfl rfl rfl ?_;intro L2 w4 yN pC pD t38 aW3;obtain⟨gL,rfl⟩:=pD.over (pC.trans rfl);clear pD pC;simp(decide:=true) only[ov,if_true,if_false,Nat.reduceAdd]at t38 aW3⊢;replace t38:=kW t38;replace aW3:=kW aW3;rw[t38,aW3];clear t38 aW3;clear pE;have HI4:Hid (cP O w w4 Z C p fa cs R rd (B+c) m):=HI.out.below yN;rw[HLB.out];have hs4:=HI4.out.size;have y12:=HI4.out.base.c12;have ynd:=HI4.out.base.nd j hj;have ynl:=HI4.out.base.lx _ HI4.out.base.ndX;have lc4:=HI4.out.base.lc;have ysb:w4.cell? (aA SB 0)=some (iI who):=(HI4.out.box hSB HSO.out 0).trans sb0;have aT4:SB<w4.heap.size:=od;have jj:(j:Int)<(p.n:Int):=od;cases hcome:(aT&& !LB)
      ·rw[hcome,Bool.or_false]at HS;clear hcome HI ynd y12 ysb;go_wp2;refine⟨⟨c+1,od,ow,by rw[HS.out,HWV.out],?_⟩,ot⟩;rw[HS.out,HRR.out];exact HI4.out.more od
      ·rw[hcome,Bool.or_true]at HS;have HRN:Hid (R.nodes=s.nodes):=by
        show R.nodes=s.nodes;rw[<-HRR.out];split
        ·exact sD _ _ _ _
        ·rfl
       have HRT:Hid (R.dT p mk j=s.dT p mk j):=by
        show R.dT p mk j=s.dT p mk j;rw[<-HRR.out];split
        ·exact U1 _ _ _ _
        ·rfl
       have hRJ:∀n,Calls prog 103 #[.pointer (some ⟨m.P j,0,none⟩),iI who,iI mem] (w4.drewN n) fun e w'=>e=rT (iI JV)/\w'=w4.drewN n:=fun n=>by have:=aZ4 (HI4.out.drawn n) j hj who mem lK hn;rw[HRN.out,HJV.out]at this;exact this
       have HRJ:Hid _:=hRJ;clear hRJ hcome HI;go_wp2_with fail;go_quiet((go_at_call 103;refine Calls.quiet_of_same (HRJ.out _)));have HI5:Hid (cP O w (w4.drewN nq) Z C p fa cs R rd (B+c) m):=HI4.out.drawn nq;have hsq:w.heap.size<=(w4.drewN nq).heap.size:=hs4;generalize w4.drewN nq=w5 at *;clear HI4 ysb y12 ynd;have lT:Hid (∀(w':World) (s':cA),cP O w w' Z C p fa cs s' rd (B+c+1) m->s'=R.dT p mk j->cP O w w' Z C p fa cs (if cQ aT l0 l1 j (c+1)=true then s.dT p mk j else s) rd (B+(c+1)) m):=fun w' s' q1 q2=>by rw[HS.out,kJ rfl,<-HRT.out,<-q2];exact q1
       rcases mk with _|⟨k,q,d⟩
       ·obtain⟨h1,_,_⟩:=HLK.out;have Q8:LK=-1:=h1;clear HLK h1;subst Q8;go_wp2_with fail;go_quiet(fail);go_wp2;exact⟨⟨c+1,od,ow,Jp,lT.out _ R ((HI5.out.more od).drawn _) rfl⟩,ot⟩
       ·obtain⟨hk,hd⟩:=HMK.out k q d rfl;obtain⟨h1,h2,h3⟩:=HLK.out;have Q8:LK=(k:Int):=h1;have h2':SQ=q:=h2;have h3':SD=d:=h3;clear HLK h1 h2 h3;subst Q8 h2' h3';have kk:(k:Int)<(p.nl:Int):=od;cases C0:aW (p.lt k) j
        ·have c7:=HI5.out.base.c7;have lc5:=HI5.out.base.lc;obtain⟨b,off,e,hbZ,hc⟩:=HI5.out.rows.lk od;have gX:=HI5.out.rows.zl b hbZ;rw[e]at c7;obtain⟨x0,x1,x2,x3⟩:=hc k hk;have hpw:=T0 j od;have hba:=zT (p.lt k) (j:=j) od;rw[C0]at hba;have e1:wrap64 ((2:Int)^j)=2^j:=by exact zEi
         have HTN:Hid (R.dT p (some (k,SQ,SD)) j=R):=aW5 C0;clear hc e C0;generalize p.lt k=LT at *;go_wp2_with fail;go_quiet(fail);go_wp2;exact⟨⟨c+1,od,ow,Jp,lT.out _ R ((HI5.out.more od).drawn _) HTN.out.symm⟩,ot⟩
        ·obtain⟨O1,rH,aT6⟩:=HI5.out.part;have HBK:Hid (∀(w':World) (s2:cA) (B2:Nat),(∃O2,aS O1 O2 w5 w'/\jJ w' O2 Z C p fa cs s2 rd B2 m)->cP O w w' Z C p fa cs s2 rd B2 m):=aT6;clear aT6;go_wp2_with fail;refine aZm _ oq _ rH k j SQ hk hj qO hn od C0 rfl rfl rfl rfl rfl ?_;intro L2 w6 hI6 pC pD aW4;obtain⟨gL,rfl⟩:=pD.over (pC.trans rfl);clear pD pC;simp(decide:=true) only[ov,if_true,if_false,Nat.reduceAdd]at aW4⊢;replace aW4:=kW aW4;rw[aW4];clear aW4;obtain⟨O6,hF6,hc6⟩:=hI6;have HI6:Hid (cP O w w6 Z C p fa cs (R.fW k j (uK (takeB (R.aV k j) SQ) SQ (R.aV k j))) rd (B+c+1) m):=HBK.out _ _ _ ⟨O6,hF6,hc6⟩;have HTK:Hid (R.dT p (some (k,SQ,SD)) j=R.take1 k j SQ SD):=aMz C0;clear rH C0;cases hT:takeB (R.aV k j) SQ
         ·rw[hT]at HI6;have HE:Hid (R.fW k j (uK false SQ (R.aV k j))=R.dT p (some (k,SQ,SD)) j):=by show _=_;rw[HTK.out];unfold cA.take1;rw[hT,kI oe];exact aJ5 R k j
          clear hT hF6 hc6;go_wp2;exact⟨⟨c+1,od,ow,Jp,lT.out _ _ HI6.out HE.out⟩,ot⟩
         ·rw[hT]at HI6;have e0:R.fW k j (uK (takeB (R.aV k j) SQ) SQ (R.aV k j))=R.fW k j SQ:=by rw[hT];rfl
          rw[e0]at hc6;have hPP:=hc6.prt;obtain⟨PX,hP,_,_,hlen,_⟩:=hPP;obtain⟨v,xT,fE⟩:=hP.look (show k<8 by omega) (show j<16 by omega);obtain⟨va,vc,rfl,hvl,hvm,_⟩:=fE;have aTc:(Instr.lookup 107 (.map (some m.pb)) (.agg #[iI k,iI j]) false).run prog w6=.ok (.slice va ((R.fW k j SQ).aR k j).length vc) w6:=xT;have c15:=hc6.base.c15;have lc6:=hc6.base.lc;have aXw:=hlen k j;have hT1:R.take1 k j SQ SD=(R.fW k j SQ).setPort k j (if(R.aR k j).length<16 then R.aR k j++[SD]else R.aR k j):=kJ hT;have bE4:Hid (∀(w':World) (s2:cA),(∃O2,aS O6 O2 w6 w'/\jJ w' O2 Z C p fa cs s2 rd (B+c+1) m)->cP O w w' Z C p fa cs s2 rd (B+c+1) m):=fun w' s2 ⟨O2,h1,h2⟩=>HBK.out _ _ _ ⟨O2,hF6.trans h1,h2⟩;have bEa:Hid ((Instr.lookup 107 (.map (some m.pb)) (.agg #[iI k,iI j]) false).run prog w6=.ok (.slice va ((R.fW k j SQ).aR k j).length vc) w6):=xT;clear hP xT hlen hF6 HI6;by_cases h16:((R.fW k j SQ).aR k j).length<16
          ·have HE:Hid ((R.fW k j SQ).setPort k j ((R.fW k j SQ).aR k j++[SD])=R.dT p (some (k,SQ,SD)) j):=by show _=_;rw[HTK.out,hT1,kJ (show(R.aR k j).length<16 from h16)];rfl
           have bI9:Hid (((R.fW k j SQ).aR k j).length<16):=h16;have HC6:Hid (jJ w6 O6 Z C p fa cs (R.fW k j SQ) rd (B+c+1) m):=hc6;have bIy:(((R.fW k j SQ).aR k j).length:Int)<16:=od;clear hT hT1 e0 hc6 h16;go_wp2_with fail;refine aVm _ oq _ HC6.out k j SD va _ vc hk hj qO hn bEa.out bI9.out rfl rfl rfl rfl rfl rfl ?_;intro L2 w7 oX pC pD;exact zPo
          ·have HE:Hid (R.fW k j SQ=R.dT p (some (k,SQ,SD)) j):=by show _=_;rw[HTK.out,hT1,kI (show ¬(R.aR k j).length<16 from h16)];exact(aFq (R.fW k j SQ) k j).symm
           have bIy:decide ((((R.fW k j SQ).aR k j).length:Int)<16)=false:=kC od;have HI7:Hid (cP O w w6 Z C p fa cs (R.dT p (some (k,SQ,SD)) j) rd (B+c+1) m):=by rw[<-HE.out];exact bE4.out _ _ ⟨O6,aS.refl _ _,hc6⟩
           clear hT hT1 e0 hc6 h16;go_wp2;exact⟨⟨c+1,od,ow,Jp,lT.out _ _ HI7.out rfl⟩,ot⟩
     ·obtain rfl:c=2:=by omega
      obtain⟨WV,hWV⟩:∃WV,(if cQ aT l0 l1 j 2=true then JV else 0)=WV:=⟨_,rfl⟩;rw[hWV]at wW;rw[hWV];clear hWV;go_wp2;exact wW.out _ _ eE.out rfl (Rest.of rfl) rfl rfl):p:=h
