import Derived.Test.YtnbomhedoelklaaGreatDoorZW2
import Derived.Deep.QuietTactic
import Derived.Deep.RegionHeld3
set_option maxRecDepth 100000
namespace Go.Proofs.YtnbomhedoelklaaGreatDoor
variable {p:Prop}
theorem zGt(h:p:=by
 unfold fI;obtain⟨la1,la2⟩:=h.base.la od;obtain⟨hbx,hV,hF⟩:=bIz w (iI nd) (iI i) (iI mem) (iI k) (iI q) (sT d) 191;have h2:=h.below hV;have f3:(w.alloc (.cells #[iI nd,iI i,iI mem,iI k,iI q,sT d] 191)).cell? (aA w.1.size 3)=some (iI k):=hbx 3 _ rfl
 first|let _:=m26;have f4:(w.alloc (.cells #[iI nd,iI i,iI mem,iI k,iI q,sT d] 191)).cell? (aA w.1.size 4)=some (iI q):=hbx 4 _ rfl;have f5:(w.alloc (.cells #[iI nd,iI i,iI mem,iI k,iI q,sT d] 191)).cell? (aA w.1.size 5)=some (sT d):=hbx 5 _ rfl|skip
 have HV:Hid (bW w (w.alloc (.cells #[iI nd,iI i,iI mem,iI k,iI q,sT d] 191))):=hV
 first|let _:=m26;have HL:Hid (∀c,c∈O->c<w.1.size):=h.lt|skip
 obtain⟨l0,l1,l2⟩:=h2.base.lk k hk;obtain⟨e1,e2⟩:=h2.base.en k hk;have e3:=e2 j hj
 first|let _:=m26;rw[hb,kK rfl]at e3|rw[hb,kJ og]at e3
 have c14:=h2.base.c14;rw[la1]at c14;have hll:=h2.base.lx _ la2;have hel:=h2.base.lx _ e1;have qN:=h2.base.lc
 first|let _:=m26;obtain⟨d1,d2,d3⟩:=h2.base.dn k j hk hj hb;have hdl:=h2.base.lx _ d1|skip
 have kk:(k:Int)<(p.nl:Int):=od;have jj:(j:Int)<(p.n:Int):=od;have k1:((k:Int)==-1)=false:=oe;obtain⟨n,hn⟩:∃n,p.n=n:=⟨_,rfl⟩
 first|let _:=m26;have HN:Hid (j<p.n/\k<p.nl/\aX (p.lt k) j=true):=⟨hj,hk,hb⟩;rw[hn]at l2 jj;have HC2:Hid (Cl (w.alloc (.cells #[iI nd,iI i,iI mem,iI k,iI q,sT d] 191)) O C p fa cs s rd B m):=h2|rw[hn]at l2 jj
 clear h h2 la1 la2 e2 hb hbx hV hj hn;go_enter func152,ntmps152;go_wp2_with fail;generalize w.alloc (.cells #[iI nd,iI i,iI mem,iI k,iI q,sT d] 191)=V at *;go_quiet(fail)
 first
 |let _:=m26;clear c14 l0 l1 l2 e3;have HTk:Hid (∀(u:Nat) ,Calls prog 193 #[.pointer (some ⟨m.R k j,0,none⟩),.agg #[iI q,sT d]] (V.drewN u) λe w'=>e=rT (.bool (takeB (s.aV k j) q))/\∃O',aR O O' V w'/\Cl w' O' C p fa cs (s.uA k j (P4 (takeB (s.aV k j) q) q (s.aV k j))) rd (B+1) m):=by intro u;obtain⟨hj,hk,hb⟩:=HN.out;have hcd:Cl (V.drewN u) O C p fa cs s rd B m:=HC2.out.below ⟨rfl,rfl,rfl,kG _,λ_ _=>rfl⟩;obtain⟨OR,a,b,r1,⟨⟨r2,r3⟩,r4,r5⟩,r6,r7⟩:=hcd.rcv hk hj hb;refine(aYm r1 q d r6 r2 od r4 od).mono ?_;rintro e w' ⟨he,OR',t1,t2⟩;refine⟨he,?_⟩;obtain⟨O',y1,y2⟩:=r7 w' OR' (B+1) _ _ _ t1 t2 (by unfold aVt bA9;split<;>omega) (bDe r6) (kU _);exact⟨O',(aR.drawn O V u).trans y1,y2⟩
  have HSt:Hid (takeB (s.aV k j) q=true->s.take1 k j q d=(s.uA k j q).setPort k j (if(s.aT k j).length<16 then s.aT k j++[d]else s.aT k j)):=λhT=>kK hT;have HSf:Hid (takeB (s.aV k j) q=false->s.take1 k j q d=s):=λhT=>kJ (by rw[hT];decide);cases hT:takeB (s.aV k j) q
  .rw[hT]at HTk;have HSF:Hid (s.take1 k j q d=s):=HSf.out hT;clear HSt HSf hT;go_wp2_with fail;go_region_held3(λu=>u.cell? (aA w.1.size 4)=some (iI q)/\u.cell? (aA w.1.size 5)=some (sT d)/\u.cell? ⟨m.D k j,0,none⟩=some (.pointer (some ⟨m.R k j,0,none⟩))) (go_keep) (first
    |(go_at_call 193;refine(HTk.out _).mono ?_;rintro ev v1 ⟨rfl,O1,d9,L6⟩;have HC3:Hid (Cl v1 O1 C p fa cs (s.uA k j (P4 false q (s.aV k j))) rd (B+1) m):=L6;have HF1:Hid (aR O O1 V v1):=d9;have g4:=(d9.box hF HL.out 4).trans f4;have g5:=(d9.box hF HL.out 5).trans f5;have g0:=(L6.base.dn k j HN.out.2.1 HN.out.1 HN.out.2.2).2.1))
   have HD:Hid (∃O',aR O O' w v1/\Cl v1 O' C p fa cs (s.take1 k j q d) rd (B+2) m):=by
    refine⟨O1,(aR.of_below HV.out).trans HF1.out,?_⟩;rw[HSF.out];refine(HC3.out.more (kU _)).agree (λ_ _=>rfl) (λ_ _=>rfl) (λk' j' _ _ _=>⟨?_,rfl⟩);show s.aV k' j'=if k'=k/\j'=j then P4 false q (s.aV k j)else s.aV k' j';split
    .next e=>obtain⟨rfl,rfl⟩:=e;rfl
    .rfl
   clear HC3 HF1 d9 L6 g0 g4 g5;go_wp2;exact bodyPost_end (v:=tU #[]) o4 rfl ⟨rfl,HD.out⟩
  .rw[hT]at HTk;have HST:Hid (s.take1 k j q d=(s.uA k j q).setPort k j (if(s.aT k j).length<16 then s.aT k j++[d]else s.aT k j)):=HSt.out hT;clear HSt HSf hT;go_wp2_with fail;go_region_held3(λu=>u.cell? (aA w.1.size 4)=some (iI q)/\u.cell? (aA w.1.size 5)=some (sT d)/\u.cell? ⟨m.D k j,0,none⟩=some (.pointer (some ⟨m.R k j,0,none⟩))) (go_keep) (first
    |(go_at_call 193;refine(HTk.out _).mono ?_;rintro ev v1 ⟨rfl,O1,d9,L6⟩;have HC3:Hid (Cl v1 O1 C p fa cs (s.uA k j (P4 true q (s.aV k j))) rd (B+1) m):=L6;have HF1:Hid (aR O O1 V v1):=d9;have g4:=(d9.box hF HL.out 4).trans f4;have g5:=(d9.box hF HL.out 5).trans f5;have g0:=(L6.base.dn k j HN.out.2.1 HN.out.1 HN.out.2.2).2.1))
   have HN1:Hid (w.1.size∉O1):=λy=>by
    rcases HF1.out.fresh _ y with z|z
    .exact kW _ (HL.out _ z)
    .omega
   have HQ:Hid (∀(u:Nat),Calls prog 194 #[.pointer (some ⟨m.Q k j,0,none⟩),sT d] (v1.drewN u) λe w'=>(∃E,e=rT E)/\∃O',aR O1 O' v1 w'/\Cl w' O' C p fa cs (s.take1 k j q d) rd (B+2) m):=by
    intro u;obtain⟨hj,hk,hb⟩:=HN.out;have hcd:Cl (v1.drewN u) O1 C p fa cs (s.uA k j (P4 true q (s.aV k j))) rd (B+1) m:=HC3.out.below ⟨rfl,rfl,rfl,kG _,λ_ _=>rfl⟩;obtain⟨OQ,lost,r1,⟨r2,r3⟩,r4,r5⟩:=hcd.que hk hj hb;refine(aYl r1 d od od).mono ?_;rintro e w' ⟨he,OQ',t1,t2⟩;refine⟨⟨_,he⟩,?_⟩;have r4':(s.aT k j).length<=16:=r4;have e1:=bI1 (s.aT k j) d hd;obtain⟨O',y1,y2⟩:=r5 w' OQ' (B+2) _ _ t1 t2 (by unfold aTs;split<;>omega) (by
     show(mN (putK (s.aT k j).length 16 d) (s.aT k j) d).length<=16
     rw[e1]
     split
     .simp only[List.length_append,List.length_cons,List.length_nil];omega
     .omega) (kU _)
    refine⟨O',(aR.drawn O1 v1 u).trans y1,?_⟩;rw[HST.out,<-e1];exact y2
   have g1:=(HC3.out.base.dn k j HN.out.2.1 HN.out.1 HN.out.2.2).2.2;have bMs:=HC3.out.base.lx _ d1;have bJg:w.1.size<v1.1.size:=kC hF HF1.out.size;have HF0:Hid (aR O O1 w v1):=(aR.of_below HV.out).trans HF1.out;clear HC3 HF1 d9 L6 g0 g4 HTk;go_wp2_with fail;go_region_held3(λu=>u.cell? (aA w.1.size 5)=some (sT d)/\u.cell? ⟨m.D k j,1,none⟩=some (.pointer (some ⟨m.Q k j,0,none⟩))) (go_keep) (first
    |(go_at_call 194;refine(HQ.out _).mono ?_;rintro ev v2 ⟨⟨E,rfl⟩,O2,hf2,hc2⟩;have HD:Hid (∃O',aR O O' w v2/\Cl v2 O' C p fa cs (s.take1 k j q d) rd (B+2) m):=⟨O2,HF0.out.trans hf2,hc2⟩;have y5:=(hf2.cell (p:=(aA w.1.size 5)) bJg HN1.out).trans g5;have y1:=(hc2.base.dn k j HN.out.2.1 HN.out.1 HN.out.2.2).2.2))
   go_wp2;exact bodyPost_end (v:=tU #[]) o4 rfl ⟨rfl,HD.out⟩
 |go_wp2_with fail;go_quiet(fail);go_wp2;exact bodyPost_end (v:=tU #[]) o4 rfl ⟨rfl,⟨HV.out.os,HV.out.tape,HV.out.output,HV.out.size,HV.out.block⟩⟩):p:=h
theorem zHz(h:p:=by
 go_wp2_with fail;clear y0 y1 y2
 first|let _:=m68|generalize(wr.alloc (.cells #[.int .i64 i',.int .i64 j',.int .i64 IX] 140))=V1 at *
 refine iU.mono ?_;rintro e v7 ⟨rfl,hv7⟩;replace hv7:=hv7.symm;subst hv7;clear iU;go_wp2_with fail;refine hn2.mono ?_;rintro e v7 ⟨rfl,hv7⟩;replace hv7:=hv7.symm;subst hv7;clear hn2
 first
 |let _:=m68;exact zFs
 |go_wp2_with fail;go_quiet(first|(go_at_call 119;refine Calls.quiet_of_same (vK _)));have HBV:Hid (Below w.1.size w V1):=HI.out.2.2.trans (qK.out.mono HI.out.2.2.size);cases iT:aX fa j'
  .rw[iT]at HG;have hap:=λ(u:Nat)=>HAP.out (V1.drewN u) ⟨HBV.out.os,HBV.out.tape,HBV.out.output,HBV.out.size,HBV.out.block⟩ j' i' hjj hii;have fN:=λ(u:Nat)=>wP IX aC L2 aGo od (V1.drewN u) l2;have b1:=HCS.out.2.2 _ (pN (show i'<cs.length by rw[HCS.out.1];exact hii));have b2:=HCS.out.2.2 _ (pN (show j'<cs.length by rw[HCS.out.1];exact hjj));have HN:=HNX.out (cs.getD j' 0-cs.getD i' 0+cutV IX aC);have HNN:Hid _:=λu=>HN u (λi2 j2=>by rw[HG.out i2 j2,kJ (show ¬false=true by decide)]);clear HN HG HNX vK;generalize cs.getD j' 0=XJ at *;generalize cs.getD i' 0=XI at *;generalize cutV IX aC=CV at *;go_wp2_with fail;go_region_held3(λu=>u.cell? ⟨wr.1.size,0,none⟩=some (.int .i64 i')/\u.cell? ⟨wr.1.size,1,none⟩=some (.int .i64 j')/\u.cell? ⟨wr.1.size,2,none⟩=some (.int .i64 IX)/\u.cell? ⟨w.1.size,i',none⟩=some (.slice (some ⟨G i',0,none⟩) n (rW i'))/\u.cell? ⟨L2,0,none⟩=some (.int .i64 aC)) (go_keep) (first
    |(go_at_call 189;refine(hap _).mono ?_;rintro e v8 ⟨rfl,q8,rfl⟩)
    |(go_at_call 177;refine(fN _).mono ?_;rintro e v9 ⟨rfl,rfl⟩))
   exact zD0
  .rw[iT]at HG;have fN:=λ(u:Nat)=>wP IX 549755813888 L1 og og (V1.drewN u) l1;have HN:=HNX.out (cutV IX 549755813888);have HNN:Hid _:=λu=>HN u (λi2 j2=>by rw[HG.out i2 j2,kK rfl]);clear HN HG HNX vK;generalize cutV IX 549755813888=CV at *;go_wp2_with fail;go_region_held3(λu=>u.cell? ⟨wr.1.size,0,none⟩=some (.int .i64 i')/\u.cell? ⟨wr.1.size,1,none⟩=some (.int .i64 j')/\u.cell? ⟨wr.1.size,2,none⟩=some (.int .i64 IX)/\u.cell? ⟨w.1.size,i',none⟩=some (.slice (some ⟨G i',0,none⟩) n (rW i'))/\u.cell? ⟨L1,0,none⟩=some (.int .i64 549755813888)) (go_keep) (first
    |(go_at_call 177;refine(fN _).mono ?_;rintro e v9 ⟨rfl,rfl⟩))
   exact zD0):p:=h
theorem zJ7(h:p:=by
 go_enter func115,ntmps115;go_wp2_with fail;rw[<-HVE.out];clear HVE c6 s0 s1 s2 hsl qN;go_region_held3(λu=>u.cell? (aA C 13)=some (sL m.nb n m.aAb)/\u.cell? (aA (w.1.size+1) 0)=some (iI AE)/\u.cell? (aA m.nb AE)=some (.pointer (some ⟨m.P AE,0,none⟩))) (go_keep) (first
  |(go_at_call 149;refine(C6.out _).mono ?_;rintro ev v1 ⟨rfl,hI1⟩;have HI1:Hid (dC O V v1 C p fa cs (s.setNode AE (s.AA AE).aI) rd B m):=hI1;have y13:=hI1.base.c13;rw[C1.out]at y13;have y0:=(hI1.box hsw HX.out.1.2.1 0).trans b0;have ynd:=hI1.base.nd AE HN.out.2.1))
 have c10:=HI1.out.base.c10;have bF6:=HI1.out.base.lc;have bMv:w.1.size+1<v1.1.size:=kC hsw HI1.out.size;have cR:∀(j:Nat) (u:WB),(#[iI 0,iI 0,iI 0,iI 0,iI 0,sT ⟨#[]⟩]:Array WB)[j]?=some u->v1.cell? (aA w.1.size j)=some u:=λj u hu=>(HI1.out.box Og HX.out.1.1 j).trans (HBR.out j u hu);have cF:∀(j:Nat) (u:WB),(#[iI AE,iI i,iI 0,iI (-1),iI 0,sT ⟨#[]⟩]:Array WB)[j]?=some u->v1.cell? (aA (w.1.size+1+1) j)=some u:=λj u hu=>(HI1.out.box Og HX.out.1.2.2 j).trans (HBF.out j u hu);have HcR:Hid _:=cR;have HcF:Hid _:=cF;have vK:=λv=>vC fa AE Et v;clear hI1 y13 ynd cR cF c13 cnd b0;rw[hb]at vK;go_wp2_with fail;go_quiet(first|(go_at_call 119;refine Calls.quiet_of_same (vK _)));have hFl:w.1.size+1+1<v1.1.size:=ey;have hRl:w.1.size<v1.1.size:=od;have zr:∀j,v1.frozen? (aA w.1.size j)=false:=λj=>by exact zFc
 have zf:∀j,v1.frozen? (aA (w.1.size+1+1) j)=false:=λj=>by exact zFa
 have f0:v1.cell? (aA (w.1.size+1+1) 0)=some (iI AE):=HcF.out 0 _ rfl;have f1:v1.cell? (aA (w.1.size+1+1) 1)=some (iI i):=HcF.out 1 _ rfl;have f2:v1.cell? (aA (w.1.size+1+1) 2)=some (iI 0):=HcF.out 2 _ rfl;have f3:v1.cell? (aA (w.1.size+1+1) 3)=some (iI (-1)):=HcF.out 3 _ rfl;have f4:v1.cell? (aA (w.1.size+1+1) 4)=some (iI 0):=HcF.out 4 _ rfl;have f5:v1.cell? (aA (w.1.size+1+1) 5)=some (sT ⟨#[]⟩):=HcF.out 5 _ rfl
 first
 |let _:=bKn
  first
  |let _:=m0;have HLD:Hid (∀u,Calls prog 150 #[pP C,.pointer (some (aA (w.1.size+1+1) 0)),iI FR] ((v1.drewN u).setCell (aA (w.1.size+1+1) 2) (iI M)) λe w'=>e=rT (tU #[])/\∃LK SQ SD,(LK=iA (aH p.S AE (rd*p.round+p.fr i) s.aK p.nl).2/\SQ=dT (aH p.S AE (rd*p.round+p.fr i) s.aK p.nl).2/\SD=cW (aH p.S AE (rd*p.round+p.fr i) s.aK p.nl).2)/\
     (∃O2,aR O O2 w w'/\w.1.size∉O2/\Cl w' O2 C p fa cs ⟨(s.setNode AE (s.AA AE).aI).AA,(aH p.S AE (rd*p.round+p.fr i) s.aK p.nl).1,s.aV,s.aT⟩ rd B m)/\w.1.size+1+1<w'.1.size/\
     (w'.cell? (aA (w.1.size+1+1) 0)=some (iI AE)/\w'.cell? (aA (w.1.size+1+1) 1)=some (iI i)/\w'.cell? (aA (w.1.size+1+1) 2)=some (iI M)/\w'.cell? (aA (w.1.size+1+1) 3)=some (iI LK)/\w'.cell? (aA (w.1.size+1+1) 4)=some (iI SQ)/\w'.cell? (aA (w.1.size+1+1) 5)=some (sT SD))/\
     ∀j,w'.cell? (aA w.1.size j)=v1.cell? (aA w.1.size j)/\w'.frozen? (aA w.1.size j)=false):=by
    intro u
    obtain⟨⟨g1,g2,g3,g4,g5,g6,g7⟩,g8⟩:=HB9.out
    obtain⟨O1,q1,q2⟩:=HI1.out
    have iU:w.1.size+1+1∉O1:=λy=>by
     rcases q1.fresh _ y with z|z
     .exact HX.out.1.2.2 z
     .have:=HX.out.2;omega
    have hn0:w.1.size∉O1:=λy=>by
     rcases q1.fresh _ y with z|z
     .exact HX.out.1.1 z
     .have:=HX.out.2;omega
    have hT:aW (w.1.size+1+1) (w.1.size+1+1) v1 ((v1.drewN u).setCell (aA (w.1.size+1+1) 2) (iI M)):=(aW.drawn u).set (p:=(aA (w.1.size+1+1) 2)) (.inl rfl) _
    have q3:=q2.aside hT iU
    have cc:∀j,j≠2->((v1.drewN u).setCell (aA (w.1.size+1+1) 2) (iI M)).cell? (aA (w.1.size+1+1) j)=v1.cell? (aA (w.1.size+1+1) j):=λj hj=>aB (.inr hj)
    refine(aC6 q3 (w.1.size+1+1) AE i M FR (kC hFl hT.size) iU (λj=>bJ.trans (zf j)) ((cc 0 og).trans f0) ((cc 1 og).trans f1) (aZ f2) ((cc 3 og).trans f3) ((cc 4 og).trans f4) ((cc 5 og).trans f5) g1 g2 g3 (HFR.out▸g4) (HFR.out▸g5) g6 g7 g8).mono ?_
    rintro e w' ⟨he,⟨O2,k1,k2,k3⟩,d0,d1,d2,d3,d4,d5⟩
    rw[<-HFR.out]at k3 d3 d4 d5
    have hsz:v1.1.size<=w'.1.size:=kH hT.size k1.size
    refine⟨he,_,_,_,⟨rfl,rfl,rfl⟩,⟨O2,?_,?_,k3⟩,od,⟨d0,d1,d2,d3,d4,d5⟩,λj=>⟨?_,?_⟩⟩
    .have q4:=HV0.out.trans q1
     have q5:=q4.aside hT od
     refine⟨k1.os.trans q5.os,k1.tape.trans q5.tape,k1.output.trans q5.output,kH q5.size k1.size,λc hc hnc=>?_,λc hc=>?_⟩
     .refine(k1.block c (kC hc q5.size) (λy=>?_)).trans (q5.block c hc hnc)
      rcases kQ y with z|z
      .omega
      .rcases q5.fresh c z with z|z
       .exact hnc z
       .omega
     .rcases k1.fresh c (kR _ hc)with y|y
      .rcases kQ y with z|z
       .exact absurd (z▸hc) k2
       .exact q5.fresh c z
      .exact .inr (kH q5.size y)
    .intro y
     rcases k1.fresh _ (kR _ y)with z|z
     .rcases kQ z with z|z
      .omega
      .exact hn0 z
     .have:=hT.size;omega
    .exact(k1.cell (p:=(aA w.1.size j)) (kC hRl hT.size) (λy=>by
      rcases kQ y with z|z
      .exact absurd z Ow
      .exact hn0 z)).trans (aB (.inl Ow))
    .exact(k1.frozen (p:=(aA w.1.size j)) (kC hRl hT.size) (λy=>by
      rcases kQ y with z|z
      .exact absurd z Ow
      .exact hn0 z)).trans (bJ.trans (zr j))
  |have c0:v1.cell? (aA C 0)=some (iI (n:Int)):=by have:=HI1.out.base.c0;rw[HN.out.2.2.1,C1.out]at this;exact this
   obtain⟨nx,hnx⟩:∃nx,(AE+1)%n=nx:=⟨_,rfl⟩;have bJm:Int.tmod ((AE:Int)+1) (n:Int)=(nx:Int):=by rw[Int.tmod_eq_emod_of_nonneg od,<-hnx];exact_mod_cast rfl
   have hnz:((n:Int)==0)=false:=ol;have sS:n<=16:=by have:=HN.out.1;rw[C1.out]at this;exact this
   have hxn:nx<n:=by rw[<-hnx];exact Nat.mod_lt _ od
   have cV:=λv=>zV AE od v;have iT:=λv=>zV nx od v;have HXE:Hid (bits BinOp.xor .i64 M (bits BinOp.or .i64 (2^AE) (2^nx))=bA (λj=>if j=AE\/j=(AE+1)%p.n then !(s.AA AE).t j else(s.AA AE).t j) p.n):=by show _=_;rw[<-HM.out,C1.out,hnx];exact aM1 _ sS od hxn
   obtain⟨XM,hXM⟩:∃XM,bits BinOp.xor .i64 M (bits BinOp.or .i64 (2^AE) (2^nx))=XM:=⟨_,rfl⟩;have HXM:Hid (XM=bA (λj=>if j=AE\/j=(AE+1)%p.n then !(s.AA AE).t j else(s.AA AE).t j) p.n):=hXM.symm.trans HXE.out;generalize(2:Int)^AE=PW1 at *;generalize(2:Int)^nx=PW2 at *;obtain⟨OV,hOV⟩:∃OV,bits BinOp.or .i64 PW1 PW2=OV:=⟨_,rfl⟩;rw[hOV]at hXM;clear HXE hnx;go_wp2_with fail;go_quiet(first|(go_at_call 102;first|refine(cV _).mono (λe w' hh=>⟨hh.1,_,hh.2⟩)|refine(iT _).mono (λe w' hh=>⟨hh.1,_,hh.2⟩)));clear cV iT hOV hXM bJm hnz c0;have HLD:Hid (∀u,Calls prog 150 #[pP C,.pointer (some (aA (w.1.size+1+1) 0)),iI FR] ((v1.drewN u).setCell (aA (w.1.size+1+1) 2) (iI XM)) λe w'=>e=rT (tU #[])/\∃LK SQ SD,(LK=iA (aH p.S AE (rd*p.round+p.fr i) s.aK p.nl).2/\SQ=dT (aH p.S AE (rd*p.round+p.fr i) s.aK p.nl).2/\SD=cW (aH p.S AE (rd*p.round+p.fr i) s.aK p.nl).2)/\
     (∃O2,aR O O2 w w'/\w.1.size∉O2/\Cl w' O2 C p fa cs ⟨(s.setNode AE (s.AA AE).aI).AA,(aH p.S AE (rd*p.round+p.fr i) s.aK p.nl).1,s.aV,s.aT⟩ rd B m)/\w.1.size+1+1<w'.1.size/\
     (w'.cell? (aA (w.1.size+1+1) 0)=some (iI AE)/\w'.cell? (aA (w.1.size+1+1) 1)=some (iI i)/\w'.cell? (aA (w.1.size+1+1) 2)=some (iI XM)/\w'.cell? (aA (w.1.size+1+1) 3)=some (iI LK)/\w'.cell? (aA (w.1.size+1+1) 4)=some (iI SQ)/\w'.cell? (aA (w.1.size+1+1) 5)=some (sT SD))/\
     ∀j,w'.cell? (aA w.1.size j)=v1.cell? (aA w.1.size j)/\w'.frozen? (aA w.1.size j)=false):=by
    intro u
    obtain⟨⟨g1,g2,g3,g4,g5,g6,g7⟩,g8⟩:=HB9.out
    obtain⟨O1,q1,q2⟩:=HI1.out
    have iU:w.1.size+1+1∉O1:=λy=>by
     rcases q1.fresh _ y with z|z
     .exact HX.out.1.2.2 z
     .have:=HX.out.2;omega
    have hn0:w.1.size∉O1:=λy=>by
     rcases q1.fresh _ y with z|z
     .exact HX.out.1.1 z
     .have:=HX.out.2;omega
    have hT:aW (w.1.size+1+1) (w.1.size+1+1) v1 ((v1.drewN u).setCell (aA (w.1.size+1+1) 2) (iI XM)):=(aW.drawn u).set (p:=(aA (w.1.size+1+1) 2)) (.inl rfl) _
    have q3:=q2.aside hT iU
    have cc:∀j,j≠2->((v1.drewN u).setCell (aA (w.1.size+1+1) 2) (iI XM)).cell? (aA (w.1.size+1+1) j)=v1.cell? (aA (w.1.size+1+1) j):=λj hj=>aB (.inr hj)
    refine(aC6 q3 (w.1.size+1+1) AE i XM FR (kC hFl hT.size) iU (λj=>bJ.trans (zf j)) ((cc 0 og).trans f0) ((cc 1 og).trans f1) (aZ f2) ((cc 3 og).trans f3) ((cc 4 og).trans f4) ((cc 5 og).trans f5) g1 g2 g3 (HFR.out▸g4) (HFR.out▸g5) g6 g7 g8).mono ?_
    rintro e w' ⟨he,⟨O2,k1,k2,k3⟩,d0,d1,d2,d3,d4,d5⟩
    rw[<-HFR.out]at k3 d3 d4 d5
    have hsz:v1.1.size<=w'.1.size:=kH hT.size k1.size
    refine⟨he,_,_,_,⟨rfl,rfl,rfl⟩,⟨O2,?_,?_,k3⟩,od,⟨d0,d1,d2,d3,d4,d5⟩,λj=>⟨?_,?_⟩⟩
    .have q4:=HV0.out.trans q1
     have q5:=q4.aside hT od
     refine⟨k1.os.trans q5.os,k1.tape.trans q5.tape,k1.output.trans q5.output,kH q5.size k1.size,λc hc hnc=>?_,λc hc=>?_⟩
     .refine(k1.block c (kC hc q5.size) (λy=>?_)).trans (q5.block c hc hnc)
      rcases kQ y with z|z
      .omega
      .rcases q5.fresh c z with z|z
       .exact hnc z
       .omega
     .rcases k1.fresh c (kR _ hc)with y|y
      .rcases kQ y with z|z
       .exact absurd (z▸hc) k2
       .exact q5.fresh c z
      .exact .inr (kH q5.size y)
    .intro y
     rcases k1.fresh _ (kR _ y)with z|z
     .rcases kQ z with z|z
      .omega
      .exact hn0 z
     .have:=hT.size;omega
    .exact(k1.cell (p:=(aA w.1.size j)) (kC hRl hT.size) (λy=>by
      rcases kQ y with z|z
      .exact absurd z Ow
      .exact hn0 z)).trans (aB (.inl Ow))
    .exact(k1.frozen (p:=(aA w.1.size j)) (kC hRl hT.size) (λy=>by
      rcases kQ y with z|z
      .exact absurd z Ow
      .exact hn0 z)).trans (bJ.trans (zr j))
  have y1:v1.cell? (aA (w.1.size+1) 1)=some (iI FR):=(HI1.out.box hsw HX.out.1.2.1 1).trans (HBS.out 1 _ rfl);have zf2:=zf 2;clear zr zf HBR HBS HBF HcF;go_wp2_with fail;refine(HLD.out _).mono ?_;rintro e v2 ⟨rfl,LK,SQ,SD,aXg,fN,R7,⟨d0,d1,d2,d3,d4,d5⟩,hRR⟩;have bIm:Hid _:=aXg;have HCL:Hid _:=fN;have r0:=(hRR 0).1.trans (HcR.out 0 _ rfl);have r1:=(hRR 1).1.trans (HcR.out 1 _ rfl);have r2:=(hRR 2).1.trans (HcR.out 2 _ rfl);have r3:=(hRR 3).1.trans (HcR.out 3 _ rfl);have r4:=(hRR 4).1.trans (HcR.out 4 _ rfl);have r5:=(hRR 5).1.trans (HcR.out 5 _ rfl);have zr0:=(hRR 0).2;have zr1:=(hRR 1).2;have zr2:=(hRR 2).2;have zr3:=(hRR 3).2;have zr4:=(hRR 4).2;have zr5:=(hRR 5).2;have hl3:w.1.size<v2.1.size:=od
  first|let _:=m0;have H6:Hid _:=zD r0 r1 r2 r3 r4 r5 (iI AE) (iI i) (iI M) (iI LK) (iI SQ) (sT SD)|have H6:Hid _:=zD r0 r1 r2 r3 r4 r5 (iI AE) (iI i) (iI XM) (iI LK) (iI SQ) (sT SD)
  clear hRR aXg fN HLD HcR f0 f1 f2 f3 f4 f5 y0 y1 c10;go_wp2_with fail;obtain⟨⟨w0,w1,w2,w3,w4,w5⟩,hT⟩:=H6.out;obtain⟨rfl,rfl,rfl⟩:=bIm.out;obtain⟨O2,k1,k2,k3⟩:=HCL.out
  first|let _:=m0;exact bodyPost_ret (v:=tU #[fI AE i M (iA (aH p.S AE (rd*p.round+p.fr i) s.aK p.nl).2) (dT (aH p.S AE (rd*p.round+p.fr i) s.aK p.nl).2) (cW (aH p.S AE (rd*p.round+p.fr i) s.aK p.nl).2),.bool true]) Oh rfl ⟨(by rw[HM.out]),O2,k1.aside hT (kG _),k3.aside hT k2⟩|exact bodyPost_ret (v:=tU #[fI AE i XM (iA (aH p.S AE (rd*p.round+p.fr i) s.aK p.nl).2) (dT (aH p.S AE (rd*p.round+p.fr i) s.aK p.nl).2) (cW (aH p.S AE (rd*p.round+p.fr i) s.aK p.nl).2),.bool true]) Oh rfl ⟨(by rw[HXM.out]),O2,k1.aside hT (kG _),k3.aside hT k2⟩
 |have r0:v1.cell? (aA w.1.size 0)=some (iI 0):=HcR.out 0 _ rfl;have r1:v1.cell? (aA w.1.size 1)=some (iI 0):=HcR.out 1 _ rfl;have r2:v1.cell? (aA w.1.size 2)=some (iI 0):=HcR.out 2 _ rfl;have r3:v1.cell? (aA w.1.size 3)=some (iI 0):=HcR.out 3 _ rfl;have r4:v1.cell? (aA w.1.size 4)=some (iI 0):=HcR.out 4 _ rfl;have r5:v1.cell? (aA w.1.size 5)=some (sT ⟨#[]⟩):=HcR.out 5 _ rfl;have zr0:=zr 0;have zr1:=zr 1;have zr2:=zr 2;have zr3:=zr 3;have zr4:=zr 4;have zr5:=zr 5;have h6:=λu:Nat=>zD (v:=v1.drewN u) r0 r1 r2 r3 r4 r5 (iI AE) (iI i) (iI 0) (iI (-1)) (iI 0) (sT ⟨#[]⟩);have H6:Hid _:=h6;clear h6 zr zf HcR HcF HBR HBS HBF;go_wp2_with fail;obtain⟨⟨w0,w1,w2,w3,w4,w5⟩,hT⟩:=H6.out _;have HD:Hid (∃O',_):=(HI1.out.drawn _).beside hT Og HX.out.1.1 HV0.out (kG _);exact bodyPost_ret (v:=tU #[fI AE i 0 (-1) 0 AU,.bool false]) Oh rfl ⟨rfl,HD.out⟩):p:=h
theorem zKi(h:p:=by
 have c5:=h.base.c5;have c12:=h.base.c12;have qN:=h.base.lc;have e1:Int.tdiv 1099511627776 p.round=1099511627776/p.round:=Int.tdiv_eq_ediv_of_nonneg og;have hq0:0<=1099511627776/p.round:=Int.ediv_nonneg og od;have hq1:1099511627776/p.round<=1099511627776:=Int.ediv_le_self _ og;have k0:(p.round==0)=false:=ol
 first
 |let _:=bC6;have k1:decide (1099511627776/p.round<rd)=false:=kD od
  first
  |let _:=m33;have HA:Hid (∀v,Calls prog 190 #[.int .i64 (rd*p.round),.int .i64 fr] v λe w'=>e=.returned (.tuple #[.int .i64 t,.nilIface])/\Below v.1.size v w'):=λv=>by have:=bIs (rd*p.round) fr v od hM1 od d9 od od;rw[ht]at this;exact this
   have HC0:Hid (Cl w O C p fa cs s rd B m):=h;have HFx:Hid ((∀i,w.frozen? ⟨F,i,none⟩=false)/\F∉O/\w.cell? ⟨F,0,none⟩=some (.int .i64 AE)/\w.cell? ⟨F,1,none⟩=some (.int .i64 i)/\w.cell? ⟨F,2,none⟩=some (.int .i64 mem)/\w.cell? ⟨F,3,none⟩=some (.int .i64 (-1))/\w.cell? ⟨F,4,none⟩=some (.int .i64 0)/\w.cell? ⟨F,5,none⟩=some (.string AU)):=⟨hz,hFO,f0,f1,f2,f3,f4,f5⟩;have HLK:Hid (∀k,k<p.nl->0<=p.lf k/\0<=p.lb k/\p.lb k<=1099511627776):=uU;have HTB:Hid (0<=t/\t<=1099511627776/\B<=9999990):=⟨od,eG,hB⟩
  |have HA:Hid (∀v,Calls prog 190 #[iI (rd*p.round),iI fr] v λe w'=>e=rT (tU #[iI 0,.iface 30 (iI 2)])/\bW v w'):=λv=>bIr _ _ v od hM1 od d9 eG
  generalize hXe:rd*p.round=X at *;have hwX:IntKind.i64.wrap X=X:=O4
 |skip
 generalize 1099511627776/p.round=Q at *
 first
 |let _:=bC6
  first|let _:=m33;obtain⟨R,hR⟩:∃R,p.round=R:=⟨_,rfl⟩;rw[hR]at c5 e1 k0 hXe C4 pF;obtain⟨nl,hNL⟩:∃nl,p.nl=nl:=⟨_,rfl⟩;have HNL:Hid (p.nl=nl):=hNL;rw[hNL]at hnl;clear h hz hFO f0 f1 f2 f3 f4 f5 uU ht hNL hR|generalize p.round=R at *;clear h
 |generalize p.round=R at *;clear h
 go_enter func150,ntmps150;go_wp2_with fail;go_quiet(fail)
 first
 |let _:=bC6;go_wp2_with fail
  first
  |let _:=m33;go_region_held3(λu=>u.cell? ⟨C,5,none⟩=some (.int .i64 R)/\u.cell? ⟨C,12,none⟩=some (.int .i64 rd)) (go_keep) (first
    |(go_at_call 190;refine(HA.out _).mono ?_;rintro ev v1 ⟨rfl,cV⟩;have oZ:Hid (Below w.1.size w v1):=⟨cV.os,cV.tape,cV.output,cV.size,cV.block⟩;have y5:=(oZ.out.cell (p:=⟨C,5,none⟩) qN).trans c5;have y12:=(oZ.out.cell (p:=⟨C,12,none⟩) qN).trans c12))
   have HI0:Hid (dC O w v1 C p fa cs s rd B m):=⟨O,aR.of_below oZ.out,HC0.out.below oZ.out⟩;have c14:=HI0.out.base.c14;rw[HNL.out]at c14;have bF6:=HI0.out.base.lc;clear c5 c12 qN oZ cV y5 y12 HA;go_wp2_with fail;clear c14 bF6 e1 k0 k1 hwX hXe;go_loopw[45] (λx wr=>∃k:Nat,k<=nl/\x=.int .i64 k/\Hid ((aH p.S AE t s.aK k).2=none/\dC O w wr C p fa cs ⟨s.AA,(aH p.S AE t s.aK k).1,s.aV,s.aT⟩ rd B m)) (λx _=>nl-(intOf x).toNat);case atStart=>exact⟨0,kI _,rfl,rfl,HI0.out⟩
   case round=>
    obtain⟨k,hk,rfl,HI⟩:=hrel;clear HI0;by_cases hlt:k<nl
    .have HKL:Hid (k<p.nl):=by show k<p.nl;rw[HNL.out];exact hlt
     obtain⟨la1,la2⟩:=HI.out.2.base.la (by have:=HKL.out;omega);obtain⟨l0,l1,l2⟩:=HI.out.2.base.lk k HKL.out;have hll:=HI.out.2.base.lx _ la2;have hFw:F<wr.1.size:=kC hF HI.out.2.size;have g0:wr.cell? ⟨F,0,none⟩=some (.int .i64 AE):=(HI.out.2.box hF HFx.out.2.1 0).trans HFx.out.2.2.1;have kk:(k:Int)<(nl:Int):=od;rw[la1];obtain⟨n,hpn⟩:∃n,p.n=n:=⟨_,rfl⟩;rw[hpn]at l2;obtain⟨b0,b1,b2,bB,bS⟩:=bAo wr (.int .i64 (p.lf k)) (.pointer (some ⟨m.S k,0,none⟩)) (.slice (some ⟨m.E k,0,none⟩) n n) 178;have g0':=(bB.cell (p:=⟨F,0,none⟩) hFw).trans g0;have bMk:F<(wr.alloc (.cells #[.int .i64 (p.lf k),.pointer (some ⟨m.S k,0,none⟩),.slice (some ⟨m.E k,0,none⟩) n n] 178)).1.size:=by rw[bS];omega
     have hwl:wr.1.size<(wr.alloc (.cells #[.int .i64 (p.lf k),.pointer (some ⟨m.S k,0,none⟩),.slice (some ⟨m.E k,0,none⟩) n n] 178)).1.size:=by rw[bS];omega
     have HBB:Hid (Below wr.1.size wr (wr.alloc (.cells #[.int .i64 (p.lf k),.pointer (some ⟨m.S k,0,none⟩),.slice (some ⟨m.E k,0,none⟩) n n] 178))):=bB;clear bB bS hpn;by_cases hw:p.lf k=AE
     .have kw:(p.lf k !=(AE:Int))=false:=by simpa using hw
      have HS:Hid _:=qW (P:=p.S) (AE:=AE) (t:=t) (L:=s.aK) (k:=k) (by show(p.lf k).toNat=AE;omega) HI.out.1;have hse:=λv (u:Nat) (hv:Below wr.1.size wr v)=>bAu ((HI.out.2.below hv).drawn u) k HKL.out t HTB.out.1 HTB.out.2.1 (HLK.out k HKL.out).2.1 (HLK.out k HKL.out).2.2 HTB.out.2.2;have C6:Hid _:=hse;clear hse;exact zL1
     .have HS:Hid (aH p.S AE t s.aK (k+1)=aH p.S AE t s.aK k):=pI (by
       show(p.lf k).toNat≠AE
       have:=(HLK.out k HKL.out).1
       omega)
      have kw:(p.lf k !=(AE:Int))=true:=by simpa using hw
      have HI2:Hid (∀v,Below wr.1.size wr v->(aH p.S AE t s.aK (k+1)).2=none/\dC O w v C p fa cs ⟨s.AA,(aH p.S AE t s.aK (k+1)).1,s.aV,s.aT⟩ rd B m):=λv hv=>by rw[HS.out];exact⟨HI.out.1,HI.out.2.below hv⟩
      have bH1:=0;exact zL1
    .have hkn:k=nl:=by omega
     have HD:Hid (aC0 O F w wr C p fa cs ⟨s.AA,(aH p.S AE t s.aK p.nl).1,s.aV,s.aT⟩ rd B m/\(wr.cell? ⟨F,0,none⟩=some (.int .i64 AE)/\wr.cell? ⟨F,1,none⟩=some (.int .i64 i)/\wr.cell? ⟨F,2,none⟩=some (.int .i64 mem)/\wr.cell? ⟨F,3,none⟩=some (.int .i64 (iA (aH p.S AE t s.aK p.nl).2))/\wr.cell? ⟨F,4,none⟩=some (.int .i64 (dT (aH p.S AE t s.aK p.nl).2))/\wr.cell? ⟨F,5,none⟩=some (.string (cW (aH p.S AE t s.aK p.nl).2)))):=by
      obtain⟨e1,h2⟩:=HI.out;obtain⟨hz,hFO,f0,f1,f2,f3,f4,f5⟩:=HFx.out;rw[hkn,<-HNL.out]at e1 h2;rw[e1];have bx:=λj=>h2.box hF hFO j;obtain⟨O',q1,q2⟩:=h2;exact⟨⟨O',q1.under F,λy=>by
       rcases q1.fresh F y with q|q
       .exact hFO q
       .omega,q2⟩,(bx 0).trans f0,(bx 1).trans f1,(bx 2).trans f2,(bx 3).trans f3,(bx 4).trans f4,(bx 5).trans f5⟩
     have kk:decide (k<nl)=false:=kD od;clear hkn hlt HI;go_wp2;exact bodyPost_end (v:=.tuple #[]) o5 rfl ⟨rfl,HD.out⟩
  |go_region_held3(λu=>u.cell? (aA C 5)=some (iI R)/\u.cell? (aA C 12)=some (iI rd)) (go_keep) (first
    |(go_at_call 190;refine(HA.out _).mono ?_;rintro ev v1 ⟨rfl,cV⟩;have oZ:Hid (bW w v1):=⟨cV.os,cV.tape,cV.output,cV.size,cV.block⟩;have y5:=bc oZ.out qN c5;have y12:=bc oZ.out qN c12))
   go_wp2;exact bodyPost_ret (v:=tU #[]) o5 rfl ⟨rfl,oZ.out⟩
 |go_wp2;exact bodyPost_ret (v:=tU #[]) o5 rfl ⟨rfl,⟨rfl,rfl,rfl,kG _,λ_ _=>rfl⟩⟩):p:=h
