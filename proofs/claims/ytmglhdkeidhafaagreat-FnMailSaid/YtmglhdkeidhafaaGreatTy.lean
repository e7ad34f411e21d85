/- The proof's texts, part 34. -/
import Derived.Test.YtmglhdkeidhafaaGreatT8
import Derived.Test.YtmglhdkeidhafaaGreatT6
import Derived.Test.YtmglhdkeidhafaaGreatT7
namespace Go.Proofs.YtmglhdkeidhafaaGreat
set_option linter.unusedVariables false
set_option linter.unusedSimpArgs false
set_option maxHeartbeats 4000000
set_option maxRecDepth 100000
/- What slices.DeleteFunc does at keys. -/
open Go.RowKit Go.Shelf
theorem abN (g:Nat) (lb:Array Value) (p:(Int × Int)→Bool) (oa:Option Addr) (gk cap:Nat) (xs:List (Int × Int)) (w:World) (hoa:xs≠[]→oa=some ⟨gk,0,none⟩∧bP 103 2 fB w gk cap [] xs 0) (hlc:xs.length≤cap) (hcm:cap≤maxLen) (eg:∀ args w,(callFunc g args).run Tryz.prog w=.ok (.enter g args) w)
  (hp:∀ wi x,w.grownBy wi (some gk)→x ∈ xs→Calls Tryz.prog g (#[.agg #[.int .i64 x.1,.int .i64 x.2]] ++ lb) wi fun e w'=>e=.returned (.bool (p x))∧Below wi.heap.size wi w') :
  Calls Tryz.prog 102 #[.slice oa xs.length cap,.func (.func g) #[] lb] w fun e w'=>e=.returned (.int .i64 (bC p xs))∧Below w.heap.size w w':=by
 have HP:=ak hp
 have HO:=ak hoa
 have hml:(xs.length:Int)≤9223372036854775807:=by unfold maxLen at hcm;omega
 clear hp hoa
 go_enter Tryz.func102,Tryz.ntmps102
 go_wp2
 go_loopw [5,8] (fun _ i wr=>∃ k:Nat,k≤xs.length∧i=.int .i64 k∧Hid (∀ j x,j < k→xs[j]?=some x→p x=false)∧Hid (Below w.heap.size w wr)) (fun _ i _=>xs.length - (intOf i).toNat)
 case atStart=>exact ⟨0,Nat.zero_le _,rfl,(fun j x hj=>absurd hj (Nat.not_lt_zero _)),Below.refl _ _⟩
 case round =>
  obtain ⟨k,hk,rfl,hA,hB⟩:=hrel
  by_cases hlt:k < xs.length
  ·obtain ⟨x,hx⟩:∃ x,xs[k]?=some x:=⟨xs[k],aL hlt⟩
   obtain ⟨rfl,hD0⟩:=HO.out (fun e=>by rw [e] at hlt;simp at hlt)
   have hD:=hD0.same (hB.out.block gk hD0.lt)
   have hlb:=hD.lt
   have hki:(k:Int) < xs.length:=by omega
   have d0:wr.cell? ⟨gk,k * 2,none⟩=some (.int .i64 x.1):=hD.at hx (k:=0) rfl
   have d1:wr.cell? ⟨gk,k * 2+1,none⟩=some (.int .i64 x.2):=hD.at hx (k:=1) rfl
   have hcall:=HP.out wr x ⟨hB.out.os,hB.out.tape,hB.out.output,hB.out.size,fun k hk _=>hB.out.block k hk⟩ (List.mem_of_getElem? hx)
   have HX:Hid (xs[k]?=some x):=hx
   clear hx hD hD0
   cases hq:p x with
   | true =>
    rw [hq] at hcall
    have HQ:Hid (p x=true):=hq
    clear hq
    go_wp2_with (go_at_fn g;refine hcall.mono ?_;rintro e w1 ⟨rfl,B⟩)
    go_ret
    exact ⟨kG (yT hlt HX.out HQ.out hA.out).symm,Below.step hB.out B⟩
   | false =>
    rw [hq] at hcall
    have HQ:Hid (p x=false):=hq
    clear hq
    go_wp2_with (go_at_fn g;refine hcall.mono ?_;rintro e w1 ⟨rfl,B⟩)
    have HB2:Hid (Below w.heap.size w w1):=Below.step hB.out B
    clear B hB
    go_roundw
    case rel =>
     refine ⟨k+1,by omega,by go_num,(show Hid _ from fun j y hj hy=>?_),HB2⟩
     by_cases e:j=k
     ·subst e;rw [HX.out] at hy;cases hy;exact HQ.out
     ·exact hA.out j y (by omega) hy
    case measure=>simp [intOf];omega
  ·obtain rfl:k=xs.length:=by omega
   go_wp2
   go_ret
   exact ⟨kG (yU hA.out).symm,hB.out⟩
theorem abO (g:Nat) (lb:Array Value) (p:(Int × Int)→Bool) (oa:Option Addr) (gk cap:Nat) (xs:List (Int × Int)) (w:World) (hoa:xs≠[]→oa=some ⟨gk,0,none⟩∧bP 103 2 fB w gk cap [] xs 0) (hlc:xs.length≤cap) (hcm:cap≤maxLen) (eg:∀ args w,(callFunc g args).run Tryz.prog w=.ok (.enter g args) w)
  (hp:∀ wi x,w.grownBy wi (some gk)→x ∈ xs→Calls Tryz.prog g (#[.agg #[.int .i64 x.1,.int .i64 x.2]] ++ lb) wi fun e w'=>e=.returned (.bool (p x))∧Below wi.heap.size wi w')
  (hi:Calls Tryz.prog 102 #[.slice oa xs.length cap,.func (.func g) #[] lb] w fun e w'=>e=.returned (.int .i64 (bC p xs))∧Below w.heap.size w w') :
  Calls Tryz.prog 76 #[.slice oa xs.length cap,.func (.func g) #[] lb] w fun e w'=>e=.returned (.slice oa (xs.filter fun x=>!p x).length cap)∧(xs≠[]→bP 103 2 fB w' gk cap (xs.filter fun x=>!p x) [] 0)∧w.grownBy w' (some gk):=by
 have HP:=ak hp
 have HO:=ak hoa
 have hml:(xs.length:Int)≤9223372036854775807:=by unfold maxLen at hcm;omega
 clear hp hoa
 unfold bC at hi
 cases hf:xs.findIdx? p with
 | none =>
  have uo:Hid (xs.filter (fun x=>!p x)=xs):=by
   show _=_
   rw [List.filter_eq_self]
   intro y hy
   rw [List.findIdx?_eq_none_iff] at hf
   simpa using hf y hy
  rw [hf] at hi
  have HI:=ak hi
  clear hi hf
  go_enter Tryz.func76,Tryz.ntmps76
  go_wp2_with (go_at_call 102;refine HI.out.mono ?_;rintro e w1 ⟨rfl,B⟩)
  go_ret
  rw [uo.out]
  exact ⟨rfl,fun hne=>((HO.out hne).2.same (B.block gk (HO.out hne).2.lt)).all,⟨B.os,B.tape,B.output,B.size,fun k hk _=>B.block k hk⟩⟩
 | some k0 =>
  obtain ⟨f1,f2,hk0⟩:=Ol hf
  obtain ⟨rfl,hD0⟩:=HO.out (fun e=>by rw [e] at hk0;simp at hk0)
  have HD0:=ak hD0
  have HF:=ak f2
  have Bu:=ak (show (xs.take k0).length=k0 by rw [List.length_take];omega)
  rw [hf] at hi
  have HI:=ak hi
  clear hi hf f1 f2 hD0 HO
  have hk1:((k0:Int) == -1)=false:=by simp
  go_enter Tryz.func76,Tryz.ntmps76
  go_wp2_with (go_at_call 102;refine HI.out.mono ?_;rintro e w1 ⟨rfl,B⟩)
  have gN:Hid (w.grownBy w1 (some gk)):=⟨B.os,B.tape,B.output,B.size,fun k hk _=>B.block k hk⟩
  have HD1:=ak (HD0.out.same (B.block gk HD0.out.lt))
  clear HD0 B HI
  go_loopw [5,6,7] (fun s5 s6 _ wr=>∃ i j:Nat,s5=.int .i64 i∧s6=.int .i64 j∧j≤xs.length∧i < j∧Hid (((xs.take j).filter fun x=>!p x).length=i)∧Hid (bP 103 2 fB wr gk cap ((xs.take j).filter fun x=>!p x) xs j)∧Hid (w.grownBy wr (some gk))) (fun _ s6 _ _=>xs.length - (intOf s6).toNat)
  case atStart=>exact ⟨k0,k0+1,rfl,by go_num,by omega,by omega,(show _=_ by rw [HF.out];exact Bu.out),(show bP _ _ _ _ _ _ _ _ _ by rw [HF.out];exact HD1.out.first k0),gN.out⟩
  case round =>
   obtain ⟨i,j,rfl,rfl,hjl,hij,hL,hD,hG⟩:=hrel
   by_cases hlt:j < xs.length
   ·obtain ⟨x,hx⟩:∃ x,xs[j]?=some x:=⟨xs[j],aL hlt⟩
    have hji:(j:Int) < xs.length:=by omega
    have hii:(i:Int) < xs.length:=by omega
    have hlb:=hD.out.lt
    have d0:wr.cell? ⟨gk,j * 2,none⟩=some (.int .i64 x.1):=hD.out.cell hx (k:=0) rfl
    have d1:wr.cell? ⟨gk,j * 2+1,none⟩=some (.int .i64 x.2):=hD.out.cell hx (k:=1) rfl
    have hcall:=HP.out _ x (xC hG.out ((Below.refl wr.heap.size wr).alloc (Nat.le_refl _) (.cells #[.int .i64 x.1,.int .i64 x.2] 103))) (List.mem_of_getElem? hx)
    have A1:Below wr.heap.size wr (wr.alloc (.cells #[.int .i64 x.1,.int .i64 x.2] 103)):=bn _ _
    have HA1:=ak A1
    have HX:=ak hx
    clear hx A1
    cases hq:p x with
    | true =>
     rw [hq] at hcall
     have HQ:=ak hq
     clear hq
     go_wp2_with (go_at_fn g;refine hcall.mono ?_;rintro e w2 ⟨rfl,B⟩)
     have HE:Hid ((xs.take (j+1)).filter (fun x=>!p x)=(xs.take j).filter fun x=>!p x):=by
      show _=_
      rw [Bb HX.out,HQ.out]
      simp
     have HB2:=ak (Below.step HA1.out B)
     clear B
     go_roundw
     case rel=>exact ⟨i,j+1,rfl,by go_num,by omega,by omega,(show _=_ by rw [HE.out];exact hL.out),(show bP _ _ _ _ _ _ _ _ _ by rw [HE.out];exact (hD.out.same (HB2.out.block gk hlb)).skip),xC hG.out HB2.out⟩
     case measure=>simp [intOf];omega
    | false =>
     rw [hq] at hcall
     have HQ:=ak hq
     clear hq
     go_wp2_with fail
     go_at_fn g
     refine hcall.mono ?_
     rintro e w2 ⟨rfl,B⟩
     have HE:Hid ((xs.take (j+1)).filter (fun x=>!p x)=(xs.take j).filter (fun x=>!p x) ++ [x]):=by
      show _=_
      rw [Bb HX.out,HQ.out]
      simp
     have B2:=Below.step HA1.out B
     have HD2:=ak (hD.out.same (B2.block gk hlb))
     have HG2:=ak (xC hG.out B2)
     have hcells:=(aB B (aW wr (.cells #[.int .i64 x.1,.int .i64 x.2] 103)))
     have hlv:=lt_of_heap hcells
     obtain ⟨v0,v1⟩:=qy hcells
     have fz:∀ o,w2.frozen? ⟨gk,o,none⟩=false:=HD2.out.fz
     have hlk:=HD2.out.lt
     have hcz:=Nat.mul_le_mul_right 2 (show i+1≤cap by omega)
     have HR:Hid (bP 103 2 fB (w2.setCells gk (i * 2) (fB x)) gk cap ((xs.take j).filter (fun x=>!p x) ++ [x]) xs (j+1)):=by
      have:=HD2.out.keep (by rw [hL.out];exact hij) (by omega) (fun _=>rfl) x
      rwa [hL.out] at this
     have xI:=ak (Eu HG2.out (i * 2) (fB x))
     obtain ⟨o0,q0⟩:=HD2.out.some (o:=i * 2) (by omega)
     obtain ⟨o1,q1⟩:=HD2.out.some (o:=i * 2+1) (by omega)
     clear B B2 hD hG HA1 d0 d1 hcells hlb hcz
     go_wp2
     go_roundw
     case rel=>exact ⟨i+1,j+1,by go_num,by go_num,by omega,by omega,(show _=_ by rw [HE.out,List.length_append,hL.out];rfl),(show bP _ _ _ _ _ _ _ _ _ by rw [HE.out];exact HR.out),xI.out⟩
     case measure=>simp [intOf];omega
   ·obtain rfl:j=xs.length:=by omega
    have hji:¬ (xs.length:Int) < xs.length:=by omega
    have hcc:=Nat.mul_le_mul_right 2 hlc
    obtain ⟨zs,hzs,hcl⟩:∃ zs:List Value,zs.length=(xs.length - i) * 2∧∀ ty,(Builtin.clear_ #[107] ty #[.slice (some ⟨gk,i * 2,none⟩) (xs.length - i) (cap - i)]).run Tryz.prog wr=.ok (.tuple #[]) (wr.setCells gk (i * 2) zs):=by
     obtain ⟨zs,e1,e2⟩:=Oj (P:=Tryz.prog) wr 107 103 0 (.agg #[.int .i64 0,.int .i64 0]) Tryz.underlying107 (fun w=>Tryz.zeroValue103 w) (by decide) (by decide) gk (i * 2) (xs.length - i) (cap - i) (by omega) (fun o ho=>by
      have ho:o < (xs.length - i) * 2:=ho
      obtain ⟨u,hu⟩:=hD.out.some (o:=i * 2+o) (by rw [Nat.sub_mul] at ho;omega)
      rw [hu];rfl) (fun o=>hD.out.fz _)
     exact ⟨zs,e1,fun _=>e2⟩
    have uo:Hid ((xs.take xs.length).filter (fun x=>!p x)=xs.filter fun x=>!p x):=by show _=_;rw [List.take_length]
    have HR:Hid (bP 103 2 fB (wr.setCells gk (i * 2) zs) gk cap (xs.filter fun x=>!p x) [] xs.length):=by
     have:=hD.out.cleared (fun _=>rfl) (zs:=zs) (by rw [hL.out,hzs,Nat.sub_mul];omega)
     rw [hL.out,uo.out] at this
     exact this
    have xI:=ak (Eu hG.out (i * 2) zs)
    have HL2:Hid ((xs.filter fun x=>!p x).length=i):=by show _=_;rw [← uo.out];exact hL.out
    have h1:(i:Int)≤xs.length:=by omega
    have h2:(i:Int)≤cap:=by omega
    have h3:¬ cap=i:=by omega
    clear hcc hzs
    go_wp2
    go_ret
    rw [HL2.out]
    refine ⟨rfl,fun _=>?_,xI.out⟩
    obtain ⟨cur,k1,k2,k3,-⟩:=HR.out
    exact ⟨cur,k1,k2,k3,fun i x _ hx=>by simp at hx⟩
end Go.Proofs.YtmglhdkeidhafaaGreat
