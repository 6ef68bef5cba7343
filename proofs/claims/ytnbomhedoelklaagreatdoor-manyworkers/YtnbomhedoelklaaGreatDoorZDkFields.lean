import Derived.Test.YtnbomhedoelklaaGreatDoorZT13
namespace Go.Proofs.YtnbomhedoelklaaGreatDoor
open Go.RowKit Go.Proofs.Tryz
set_option maxRecDepth 99999
set_option maxHeartbeats 0
open Go.Lib
theorem aGx(x:Nat)(W:WA):FnGives prog 63 #[] #[encR x] (.bool (decide (x=32))) W:=by
 unfold FnGives encR;by_cases h:x=32
 .subst h;exact zEt
 .have h2:((x:Int)==32)=false:=by simp;omega
  have h3:decide ((x:Int)=32)=false:=kD od;have h4:decide (x=32)=false:=kD h;rw[h4];exact zEt
theorem tF(p:Nat->Bool)(s:WG):∀(f pos:Nat)(st:Option Nat)(acc:List (Nat×Nat)),(spansFromP p s f pos st acc).1.length<=acc.length+f
 |0,_,_,_=>kG _
 |f+1,pos,st,acc=>by
  unfold spansFromP;split
  .split
   .split
    .rename_i a;have:=tF p s f (pos+(Utf8.decode s pos).2) none (acc++[(a,pos)]);rw[List.length_append]at this;simp only[List.length_cons,List.length_nil]at this;omega
    .have:=tF p s f (pos+(Utf8.decode s pos).2) none acc;omega
   .split
    .rename_i a;have:=tF p s f (pos+(Utf8.decode s pos).2) (some a) acc;omega
    .have:=tF p s f (pos+(Utf8.decode s pos).2) (some pos) acc;omega
  .show acc.length<=_;omega
theorem aIv(l:WG):(fH l).length<=l.size+1:=by
 unfold fH goFieldsP spansOfP;rw[List.length_map];have:=tF (λx=>decide (x=32)) l l.size 0 none [];unfold closeSpans;split
 .rw[List.length_append];simp only[List.length_cons,List.length_nil]at this⊢;omega
 .simp only[List.length_nil]at this;omega
theorem Q7{l x:WG}(h:x∈fH l):x.size<=l.size:=by unfold fH goFieldsP at h;obtain⟨p,_,rfl⟩:=List.mem_map.1 h;rw[ByteArray.size_extract];omega
theorem Tryz.aGi(args:Array WB)(w:WA):(callFunc 63 args).run prog w=.ok (.enter 63 args) w:=enters_of func63 oh rfl args w
theorem aJw(l:WG)(hl:l.size<=20000)(w:WA):Calls prog 62 #[sT l,.func (.func 63) #[] #[]] w λe w'=>∃A,e=rT (sL A (fH l).length (fH l).length)/\A<w'.1.size/\(∀j x,(fH l)[j]?=some x->w'.cell? (aA A j)=some (sT x))/\bW w w':=by refine(Tryz.strings_FieldsFunc 63 #[] Tryz.aGi (λx=>decide (x=32)) l w od (λW x _=>aGx x W)).mono ?_;rintro e w' ⟨A,rfl,hA,ho,hb⟩;refine⟨A,rfl,(ho.lt A rfl).2,λj x hj=>?_,hb⟩;have:=ho.cells (g:=A) rfl j (sT x) (by rw[List.getElem?_map];unfold fH at hj;rw[hj];rfl);rw[mJ]at this;exact zCk
