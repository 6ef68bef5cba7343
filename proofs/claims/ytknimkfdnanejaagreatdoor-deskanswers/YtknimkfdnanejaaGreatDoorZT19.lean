import Derived.Test.YtknimkfdnanejaaGreatDoorZT11
namespace Go.Proofs.YtknimkfdnanejaaGreatDoor
open Go.RowKit Go.Proofs.Tryz
set_option maxRecDepth 100000
set_option maxHeartbeats 16000000
theorem aBt(nodes aF aJ aC aH round frame:Int)(sa la wa:Option Addr)(ns sc nl lc nw wc:Nat)(E I:Int)(w:World)(hE:E≠0)
  (hc:∀v:World,bW w v->Calls prog 94 #[.agg #[iI nodes,iI aF,iI aJ,iI aC,iI aH,iI round,sV sa ns sc,sV la nl lc,iI frame,sV wa nw wc]] v fun ev w'=>ev=rT (.agg #[iI E,iI I])/\bW v w'):
  Calls prog 51 #[.agg #[iI nodes,iI aF,iI aJ,iI aC,iI aH,iI round,sV sa ns sc,sV la nl lc,iI frame,sV wa nw wc]] w fun ev w'=>ev=rT (tU #[sV none 0 0,.agg #[iI E,iI I]])/\bW w w':=by
 have hEb:(E !=0)=true:=by simp[hE]
 exact zJs
theorem aEw(nodes aF aJ aC aH round frame:Int)(sa la wa:Option Addr)(ns sc nl lc nw wc:Nat)(nd fr tq lf lt lb lq wp wf wt:Nat->Int)(w:World)
  (hs:dX w sa ns nd fr tq)(hl:vY w la nl lf lt lb lq)(hw:dX w wa nw wp wf wt)(d1:ns<=32)(d2:nl<=8)(d3:nw<=32)(mQ:pT w)
  (jB:∀x∈dP nodes aF aJ aC aH round frame ns nl nw nd fr tq lf lt lb lq wp wf wt,0<=x/\x<=1099511627776)
  (hc:∀v:World,bW w v->Calls prog 94 #[.agg #[iI nodes,iI aF,iI aJ,iI aC,iI aH,iI round,sV sa ns sc,sV la nl lc,iI frame,sV wa nw wc]] v fun ev w'=>ev=rT (.agg #[iI 0,iI (-1)])/\bW v w'):
  Calls prog 51 #[.agg #[iI nodes,iI aF,iI aJ,iI aC,iI aH,iI round,sV sa ns sc,sV la nl lc,iI frame,sV wa nw wc]] w fun ev w'=>∃v,ev=rT (tU #[v,.agg #[iI 0,iI (-1)]])/\w'.ownsRow w.heap.size 5 1 v (dL (dP nodes aF aJ aC aH round frame ns nl nw nd fr tq lf lt lb lq wp wf wt) (10+3*ns+4*nl+3*nw)).length ((dL (dP nodes aF aJ aC aH round frame ns nl nw nd fr tq lf lt lb lq wp wf wt) (10+3*ns+4*nl+3*nw)).map (Value.int .u8))/\bW w w':=by
 obtain⟨L,hL⟩:∃L,L=dP nodes aF aJ aC aH round frame ns nl nw nd fr tq lf lt lb lq wp wf wt:=⟨_,rfl⟩;have hLl:L.length=10+3*ns+4*nl+3*nw:=by rw[hL];exact qM ..
 rw[<-hL]at jB⊢;have HL:Hid (L=dP nodes aF aJ aC aH round frame ns nl nw nd fr tq lf lt lb lq wp wf wt):=hL;have HLL:Hid (L.length=10+3*ns+4*nl+3*nw):=hLl;have HNN:Hid (∀x∈L,0<=x/\x<=1099511627776):=jB;clear hL hLl jB;have m40:=0;exact zJs
section
theorem aKi(nodes aF aJ aC aH round frame:Int)(sa la wa:Option Addr)(ns sc nl lc nw wc:Nat)(E I:Int)(w:World)(hE:E≠0)
  (hc:∀v:World,bW w v->Calls prog 111 #[.agg #[iI nodes,iI aF,iI aJ,iI aC,iI aH,iI round,sV sa ns sc,sV la nl lc,iI frame,sV wa nw wc]] v fun ev w'=>∃X,ev=rT X/\jK w' X E I/\bW v w'):
  Calls prog 67 #[.agg #[iI nodes,iI aF,iI aJ,iI aC,iI aH,iI round,sV sa ns sc,sV la nl lc,iI frame,sV wa nw wc]] w fun ev w'=>∃X,ev=rT (tU #[sV none 0 0,X])/\jK w' X E I/\bW w w':=zN7
theorem aGc(L:List Int)(h:1<=L.length):1<=(bytesOf L).length:=by
 cases L with
 |nil=>simp at h
 |cons x r=>
  have:=uF 5 x.toNat
  simp[bytesOf];omega
section
variable{nodes aF aJ aC aH round frame:Int}{ns nl nw:Nat}{nd fr tq lf lt lb lq wp wf wt:Nat->Int}{k:Nat}{x:Int}
theorem S5{f g h:Nat->Int}{n:Nat}(hk:k<n)(hx:x∈[f k,g k,h k]):x∈bX f g h n:=by unfold bX;exact List.mem_flatMap.2 ⟨k,List.mem_range.2 hk,hx⟩
theorem aHn{f g h i:Nat->Int}{n:Nat}(hk:k<n)(hx:x∈[f k,g k,h k,i k]):x∈fN f g h i n:=by unfold fN;exact List.mem_flatMap.2 ⟨k,List.mem_range.2 hk,hx⟩
theorem aU6(hk:k<ns)(hx:x∈[nd k,fr k,tq k]):x∈dP nodes aF aJ aC aH round frame ns nl nw nd fr tq lf lt lb lq wp wf wt:=by unfold dP;simp only[List.mem_append];exact .inl (.inl (.inl (.inl (.inr (S5 hk hx)))))
theorem aU5(hk:k<nl)(hx:x∈[lf k,lt k,lb k,lq k]):x∈dP nodes aF aJ aC aH round frame ns nl nw nd fr tq lf lt lb lq wp wf wt:=by unfold dP;simp only[List.mem_append];exact .inl (.inl (.inr (aHn hk hx)))
theorem aYn(hk:k<nw)(hx:x∈[wp k,wf k,wt k]):x∈dP nodes aF aJ aC aH round frame ns nl nw nd fr tq lf lt lb lq wp wf wt:=by unfold dP;simp only[List.mem_append];exact .inr (S5 hk hx)
theorem aQ1(hx:x∈[(nl:Int),frame,(nw:Int)]):x∈dP nodes aF aJ aC aH round frame ns nl nw nd fr tq lf lt lb lq wp wf wt:=by
 unfold dP;simp only[List.mem_append];simp at hx;rcases hx with rfl|rfl|rfl
 ·exact .inl (.inl (.inl (.inr oh)))
 ·exact .inl (.inr oh)
 ·exact .inl (.inr oh)
end
theorem aP5(nodes aF aJ aC aH round frame:Int)(sa la wa:Option Addr)(ns sc nl lc nw wc:Nat)(nd fr tq lf lt lb lq wp wf wt:Nat->Int)(w:World)
  (hs:dX w sa ns nd fr tq)(hl:vY w la nl lf lt lb lq)(hw:dX w wa nw wp wf wt)(d1:ns<=32)(d2:nl<=8)(d3:nw<=32)
  (jB:∀x∈dP nodes aF aJ aC aH round frame ns nl nw nd fr tq lf lt lb lq wp wf wt,0<=x/\x<=1099511627776)
  (hc:∀v:World,bW w v->Calls prog 111 #[.agg #[iI nodes,iI aF,iI aJ,iI aC,iI aH,iI round,sV sa ns sc,sV la nl lc,iI frame,sV wa nw wc]] v fun ev w'=>∃X,ev=rT X/\jK w' X 0 (-1)/\bW v w'):
  Calls prog 67 #[.agg #[iI nodes,iI aF,iI aJ,iI aC,iI aH,iI round,sV sa ns sc,sV la nl lc,iI frame,sV wa nw wc]] w fun ev w'=>∃v,ev=rT (tU #[v,.nilIface])/\
   w'.ownsRow w.heap.size 5 1 v (bytesOf (dP nodes aF aJ aC aH round frame ns nl nw nd fr tq lf lt lb lq wp wf wt)).length ((bytesOf (dP nodes aF aJ aC aH round frame ns nl nw nd fr tq lf lt lb lq wp wf wt)).map (Value.int .u8))/\bW w w':=have aYf:=0;zN7
end
