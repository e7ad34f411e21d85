/- The proof's texts, part 22. -/
import Derived.Test.YtlneebmlhblleaaGreatTk
namespace Go.Proofs.YtlneebmlhblleaaGreat
open Go.RowKit
set_option linter.unusedVariables false
set_option linter.unusedSimpArgs false
set_option maxHeartbeats 8000000
set_option maxRecDepth 100000
/- What slices.DeleteFunc does at keys. -/
open Go.RowKit Go.Shelf
theorem aaM (g:Nat) (lb:Array Value) (p:(Int × Int)→Bool) (oa:Option Addr) (gk cap:Nat) (xs:List (Int × Int)) (w:World) (hoa:xs≠[]→oa=some ⟨gk,0,none⟩∧bS 135 2 eX w gk cap [] xs 0) (hlc:xs.length≤cap) (hcm:cap≤maxLen) (eg:∀ args w,(callFunc g args).run Tryz.prog w=.ok (.enter g args) w)
  (hp:∀ wi x,w.grownBy wi (some gk)→x ∈ xs→Calls Tryz.prog g (#[.agg #[.int .i64 x.1,.int .i64 x.2]] ++ lb) wi fun e w'=>e=.returned (.bool (p x))∧Below wi.heap.size wi w') :
  Calls Tryz.prog 140 #[.slice oa xs.length cap,.func (.func g) #[] lb] w fun e w'=>e=.returned (.int .i64 (bB p xs))∧Below w.heap.size w w':=by
 have HP:=ak hp
 have HO:=ak hoa
 have hml:(xs.length:Int)≤9223372036854775807:=by unfold maxLen at hcm;omega
 clear hp hoa
 go_enter Tryz.func140,Tryz.ntmps140
 go_wp2
 go_loopw [5,8] (fun _ i wr=>∃ k:Nat,k≤xs.length∧i=.int .i64 k∧Hid (∀ j x,j < k→xs[j]?=some x→p x=false)∧Hid (Below w.heap.size w wr)) (fun _ i _=>xs.length - (intOf i).toNat)
 case atStart=>exact ⟨0,Nat.zero_le _,rfl,(fun j x hj=>absurd hj (Nat.not_lt_zero _)),Below.refl _ _⟩
 case round =>
  obtain ⟨k,hk,rfl,hA,hB⟩:=hrel
  by_cases hlt:k < xs.length
  ·obtain ⟨x,hx⟩:∃ x,xs[k]?=some x:=⟨xs[k],aK hlt⟩
   obtain ⟨rfl,hD0⟩:=HO.out (fun e=>by rw [e] at hlt;simp at hlt)
   have hD:=hD0.same (hB.out.block gk hD0.lt)
   have hlb:=hD.lt
   have hki:(k:Int) < xs.length:=by omega
   have d0:wr.cell? ⟨gk,k * 2,none⟩=some (.int .i64 x.1):=hD.at hx (k:=0) rfl
   have d1:wr.cell? ⟨gk,k * 2+1,none⟩=some (.int .i64 x.2):=hD.at hx (k:=1) rfl
   have hcall:=HP.out wr x ⟨hB.out.os,hB.out.tape,hB.out.output,hB.out.size,fun k hk _=>hB.out.block k hk⟩ (List.mem_of_getElem? hx)
   have HX:Hid (xs[k]?=some x):=hx
   clear hx hD hD0
   cases hq:p x with
   | true =>
    rw [hq] at hcall
    have HQ:Hid (p x=true):=hq
    clear hq
    go_wp2_with (go_at_fn g;refine hcall.mono ?_;rintro e w1 ⟨rfl,B⟩)
    go_ret
    exact ⟨lI (zV hlt HX.out HQ.out hA.out).symm,Below.step hB.out B⟩
   | false =>
    rw [hq] at hcall
    have HQ:Hid (p x=false):=hq
    clear hq
    go_wp2_with (go_at_fn g;refine hcall.mono ?_;rintro e w1 ⟨rfl,B⟩)
    have HB2:Hid (Below w.heap.size w w1):=Below.step hB.out B
    clear B hB
    go_roundw
    case rel =>
     refine ⟨k+1,by omega,by go_num,(show Hid _ from fun j y hj hy=>?_),HB2⟩
     by_cases e:j=k
     ·subst e;rw [HX.out] at hy;cases hy;exact HQ.out
     ·exact hA.out j y (by omega) hy
    case measure=>simp [intOf];omega
  ·obtain rfl:k=xs.length:=by omega
   go_wp2
   go_ret
   exact ⟨lI (zW hA.out).symm,hB.out⟩
theorem aaN (g:Nat) (lb:Array Value) (p:(Int × Int)→Bool) (oa:Option Addr) (gk cap:Nat) (xs:List (Int × Int)) (w:World) (hoa:xs≠[]→oa=some ⟨gk,0,none⟩∧bS 135 2 eX w gk cap [] xs 0) (hlc:xs.length≤cap) (hcm:cap≤maxLen) (eg:∀ args w,(callFunc g args).run Tryz.prog w=.ok (.enter g args) w)
  (hp:∀ wi x,w.grownBy wi (some gk)→x ∈ xs→Calls Tryz.prog g (#[.agg #[.int .i64 x.1,.int .i64 x.2]] ++ lb) wi fun e w'=>e=.returned (.bool (p x))∧Below wi.heap.size wi w')
  (hi:Calls Tryz.prog 140 #[.slice oa xs.length cap,.func (.func g) #[] lb] w fun e w'=>e=.returned (.int .i64 (bB p xs))∧Below w.heap.size w w') :
  Calls Tryz.prog 118 #[.slice oa xs.length cap,.func (.func g) #[] lb] w fun e w'=>e=.returned (.slice oa (xs.filter fun x=>!p x).length cap)∧(xs≠[]→bS 135 2 eX w' gk cap (xs.filter fun x=>!p x) [] 0)∧w.grownBy w' (some gk):=by
 have HP:=ak hp
 have HO:=ak hoa
 have hml:(xs.length:Int)≤9223372036854775807:=by unfold maxLen at hcm;omega
 clear hp hoa
 unfold bB at hi
 cases hf:xs.findIdx? p with
 | none =>
  have uV:Hid (xs.filter (fun x=>!p x)=xs):=by
   show _=_
   rw [List.filter_eq_self]
   intro y hy
   rw [List.findIdx?_eq_none_iff] at hf
   simpa using hf y hy
  rw [hf] at hi
  have HI:=ak hi
  clear hi hf
  go_enter Tryz.func118,Tryz.ntmps118
  go_wp2_with (go_at_call 140;refine HI.out.mono ?_;rintro e w1 ⟨rfl,B⟩)
  go_ret
  rw [uV.out]
  exact ⟨rfl,fun hne=>((HO.out hne).2.same (B.block gk (HO.out hne).2.lt)).all,⟨B.os,B.tape,B.output,B.size,fun k hk _=>B.block k hk⟩⟩
 | some k0 =>
  obtain ⟨f1,f2,hk0⟩:=O0 hf
  obtain ⟨rfl,hD0⟩:=HO.out (fun e=>by rw [e] at hk0;simp at hk0)
  have HD0:=ak hD0
  have HF:=ak f2
  have CJ:=ak (show (xs.take k0).length=k0 by rw [List.length_take];omega)
  rw [hf] at hi
  have HI:=ak hi
  clear hi hf f1 f2 hD0 HO
  have hk1:((k0:Int) == -1)=false:=by simp
  go_enter Tryz.func118,Tryz.ntmps118
  go_wp2_with (go_at_call 140;refine HI.out.mono ?_;rintro e w1 ⟨rfl,B⟩)
  have tF:Hid (w.grownBy w1 (some gk)):=⟨B.os,B.tape,B.output,B.size,fun k hk _=>B.block k hk⟩
  have HD1:=ak (HD0.out.same (B.block gk HD0.out.lt))
  clear HD0 B HI
  go_loopw [5,6,7] (fun s5 s6 _ wr=>∃ i j:Nat,s5=.int .i64 i∧s6=.int .i64 j∧j≤xs.length∧i < j∧Hid (((xs.take j).filter fun x=>!p x).length=i)∧Hid (bS 135 2 eX wr gk cap ((xs.take j).filter fun x=>!p x) xs j)∧Hid (w.grownBy wr (some gk))) (fun _ s6 _ _=>xs.length - (intOf s6).toNat)
  case atStart=>exact ⟨k0,k0+1,rfl,by go_num,by omega,by omega,(show _=_ by rw [HF.out];exact CJ.out),(show bS _ _ _ _ _ _ _ _ _ by rw [HF.out];exact HD1.out.first k0),tF.out⟩
  case round =>
   obtain ⟨i,j,rfl,rfl,hjl,hij,hL,hD,hG⟩:=hrel
   by_cases hlt:j < xs.length
   ·obtain ⟨x,hx⟩:∃ x,xs[j]?=some x:=⟨xs[j],aK hlt⟩
    have hji:(j:Int) < xs.length:=by omega
    have hii:(i:Int) < xs.length:=by omega
    have hlb:=hD.out.lt
    have d0:wr.cell? ⟨gk,j * 2,none⟩=some (.int .i64 x.1):=hD.out.cell hx (k:=0) rfl
    have d1:wr.cell? ⟨gk,j * 2+1,none⟩=some (.int .i64 x.2):=hD.out.cell hx (k:=1) rfl
    have hcall:=HP.out _ x (xZ hG.out ((Below.refl wr.heap.size wr).alloc (Nat.le_refl _) (.cells #[.int .i64 x.1,.int .i64 x.2] 135))) (List.mem_of_getElem? hx)
    have A1:Below wr.heap.size wr (wr.alloc (.cells #[.int .i64 x.1,.int .i64 x.2] 135)):=bn _ _
    have HA1:=ak A1
    have HX:=ak hx
    clear hx A1
    cases hq:p x with
    | true =>
     rw [hq] at hcall
     have HQ:=ak hq
     clear hq
     go_wp2_with (go_at_fn g;refine hcall.mono ?_;rintro e w2 ⟨rfl,B⟩)
     have HE:Hid ((xs.take (j+1)).filter (fun x=>!p x)=(xs.take j).filter fun x=>!p x):=by
      show _=_
      rw [Bc HX.out,HQ.out]
      simp
     have HB2:=ak (Below.step HA1.out B)
     clear B
     go_roundw
     case rel=>exact ⟨i,j+1,rfl,by go_num,by omega,by omega,(show _=_ by rw [HE.out];exact hL.out),(show bS _ _ _ _ _ _ _ _ _ by rw [HE.out];exact (hD.out.same (HB2.out.block gk hlb)).skip),xZ hG.out HB2.out⟩
     case measure=>simp [intOf];omega
    | false =>
     rw [hq] at hcall
     have HQ:=ak hq
     clear hq
     go_wp2_with fail
     go_at_fn g
     refine hcall.mono ?_
     rintro e w2 ⟨rfl,B⟩
     have HE:Hid ((xs.take (j+1)).filter (fun x=>!p x)=(xs.take j).filter (fun x=>!p x) ++ [x]):=by
      show _=_
      rw [Bc HX.out,HQ.out]
      simp
     have B2:=Below.step HA1.out B
     have HD2:=ak (hD.out.same (B2.block gk hlb))
     have HG2:=ak (xZ hG.out B2)
     have hcells:=(ay B (aV wr (.cells #[.int .i64 x.1,.int .i64 x.2] 135)))
     have hlv:=lt_of_heap hcells
     obtain ⟨v0,v1⟩:=oI hcells
     have fz:∀ o,w2.frozen? ⟨gk,o,none⟩=false:=HD2.out.fz
     have hlk:=HD2.out.lt
     have hcz:=Nat.mul_le_mul_right 2 (show i+1≤cap by omega)
     have HR:Hid (bS 135 2 eX (w2.setCells gk (i * 2) (eX x)) gk cap ((xs.take j).filter (fun x=>!p x) ++ [x]) xs (j+1)):=by
      have:=HD2.out.keep (by rw [hL.out];exact hij) (by omega) (fun _=>rfl) x
      rwa [hL.out] at this
     have yO:=ak (FE HG2.out (i * 2) (eX x))
     obtain ⟨o0,q0⟩:=HD2.out.some (o:=i * 2) (by omega)
     obtain ⟨o1,q1⟩:=HD2.out.some (o:=i * 2+1) (by omega)
     clear B B2 hD hG HA1 d0 d1 hcells hlb hcz
     go_wp2
     go_roundw
     case rel=>exact ⟨i+1,j+1,by go_num,by go_num,by omega,by omega,(show _=_ by rw [HE.out,List.length_append,hL.out];rfl),(show bS _ _ _ _ _ _ _ _ _ by rw [HE.out];exact HR.out),yO.out⟩
     case measure=>simp [intOf];omega
   ·obtain rfl:j=xs.length:=by omega
    have hji:¬ (xs.length:Int) < xs.length:=by omega
    have hcc:=Nat.mul_le_mul_right 2 hlc
    obtain ⟨zs,hzs,hcl⟩:∃ zs:List Value,zs.length=(xs.length - i) * 2∧∀ ty,(Builtin.clear_ #[139] ty #[.slice (some ⟨gk,i * 2,none⟩) (xs.length - i) (cap - i)]).run Tryz.prog wr=.ok (.tuple #[]) (wr.setCells gk (i * 2) zs):=by
     obtain ⟨zs,e1,e2⟩:=OZ (P:=Tryz.prog) wr 139 135 0 (.agg #[.int .i64 0,.int .i64 0]) Tryz.underlying139 (fun w=>Tryz.zeroValue135 w) (by decide) (by decide) gk (i * 2) (xs.length - i) (cap - i) (by omega) (fun o ho=>by
      have ho:o < (xs.length - i) * 2:=ho
      obtain ⟨u,hu⟩:=hD.out.some (o:=i * 2+o) (by rw [Nat.sub_mul] at ho;omega)
      rw [hu];rfl) (fun o=>hD.out.fz _)
     exact ⟨zs,e1,fun _=>e2⟩
    have uV:Hid ((xs.take xs.length).filter (fun x=>!p x)=xs.filter fun x=>!p x):=by show _=_;rw [List.take_length]
    have HR:Hid (bS 135 2 eX (wr.setCells gk (i * 2) zs) gk cap (xs.filter fun x=>!p x) [] xs.length):=by
     have:=hD.out.cleared (fun _=>rfl) (zs:=zs) (by rw [hL.out,hzs,Nat.sub_mul];omega)
     rw [hL.out,uV.out] at this
     exact this
    have yO:=ak (FE hG.out (i * 2) zs)
    have HL2:Hid ((xs.filter fun x=>!p x).length=i):=by show _=_;rw [← uV.out];exact hL.out
    have h1:(i:Int)≤xs.length:=by omega
    have h2:(i:Int)≤cap:=by omega
    have h3:¬ cap=i:=by omega
    clear hcc hzs
    go_wp2
    go_ret
    rw [HL2.out]
    refine ⟨rfl,fun _=>?_,yO.out⟩
    obtain ⟨cur,k1,k2,k3,-⟩:=HR.out
    exact ⟨cur,k1,k2,k3,fun i x _ hx=>by simp at hx⟩
/- Gr of package o9 gH. -/
theorem aaO:(Tryz.f119.body.bind (bQ 1)).all (fun o=>dQ o 10 [0,1,2,3,4,5,6,7,8,9] [] [10] 0)=true:=by kernel_rfl
theorem aaP (x:Int):0≤bits .and .i64 x 8:=by
 show 0≤IntKind.i64.wrap ((BitVec.ofInt 64 x &&& BitVec.ofInt 64 8).toNat:Nat)
 have:(BitVec.ofInt 64 x &&& BitVec.ofInt 64 8).toNat≤8:=by
  rw [BitVec.toNat_and]
  exact Nat.le_trans Nat.and_le_right (by decide)
 rw [IntKind.wrap_i64]
 omega
/-- Does the fQ with this key stay? -/
def tJ (E:aX) (x:Int × Int):Bool:=match cB E x.1 x.2 with
 | some m=>bits .and .i64 m.flags 8 == 0
 | none=>true
theorem aaQ {E:aX} {v:Int} {ms:List aF} (h:dB E v ms) {m:aF} (hm:m ∈ ms):tJ E (v,m.uid) = !eZ m:=by
 unfold tJ
 rw [show cB E (v,m.uid).1 (v,m.uid).2=some m from h.get hm]
 unfold eZ
 have:=aaP m.flags
 rw [Bool.eq_iff_iff]
 simp
 omega
theorem aaR {E:aX} {v:Int} {ms:List aF} (h:dB E v ms):(((ms.map fun m=>m.uid).map fun u=>(v,u)).filter fun x=>!tJ E x)=((ms.filter eZ).map fun m=>m.uid).map fun u=>(v,u):=by
 rw [List.map_map,List.map_map,List.filter_map]
 congr 1
 refine List.filter_congr fun m hm=>?_
 show (!tJ E (v,m.uid))=eZ m
 rw [aaQ h hm,Bool.not_not]
theorem RB {w w':World} {kv:Value} {v:Int} {us:List Int} (hK:xY w' kv (us.map fun u=>(v,u))) (hB:Below w.heap.size w w') (h:us=[]∨∃ gk cap,kv=.slice (some ⟨gk,0,none⟩) (us.map fun u=>(v,u)).length cap∧w.heap.size≤gk∧bS 135 2 eX w' gk cap [] (us.map fun u=>(v,u)) 0) :
  ∃ oa gk cp,kv=.slice oa (us.map fun u=>(v,u)).length cp∧w.heap.size≤gk∧(us.map fun u=>(v,u)).length≤cp∧cp≤maxLen∧((us.map fun u=>(v,u))≠[]→oa=some ⟨gk,0,none⟩∧bS 135 2 eX w' gk cp [] (us.map fun u=>(v,u)) 0):=by
 obtain ⟨oa,cp,rfl,h1,h2⟩:=hK.form
 rcases h with rfl | ⟨gk,cap,e,h3,h4⟩
 ·exact ⟨oa,w.heap.size,cp,rfl,Nat.le_refl _,h1,h2,fun h=>absurd rfl h⟩
 ·simp only [Value.slice.injEq,true_and] at e
  obtain ⟨rfl,rfl⟩:=e
  exact ⟨_,gk,cp,rfl,h3,h1,h2,fun _=>⟨rfl,h4⟩⟩
theorem aaS (a b c:Int) (d:Value) (w:World):(Instr.field 124 (.agg #[.int .i64 a,.int .i64 b,.int .i64 c,d]) 1).run Tryz.prog w=.ok (.int .i64 b) w:=by kernel_rfl
theorem aaT (wi:World) (bv gd g n:Nat) (E:aX) (v:Int) (ms:List aF) (m:aF) (h0:wi.cell? ⟨bv,0,none⟩=some (.pointer (some ⟨gd,0,none⟩))) (h2:∀ w',Below wi.heap.size wi w'→w'.cell? ⟨gd,2,none⟩=some (.map (some g))∧w'.cell? ⟨bv,0,none⟩=some (.pointer (some ⟨gd,0,none⟩))∧MM w' g n E) (hE:dB E v ms) (hm:m ∈ ms) :
  Calls Tryz.prog 119 #[.agg #[.int .i64 v,.int .i64 m.uid],.pointer (some ⟨bv,0,none⟩)] wi fun e w'=>e=.returned (.bool (tJ E (v,m.uid)))∧Below wi.heap.size wi w':=by
 have A1:Below wi.heap.size wi (wi.alloc (.cells #[.int .i64 v,.int .i64 m.uid] 135)).drew:=(bn _ _).drew
 obtain ⟨d2,d0,RI⟩:=h2 _ A1
 obtain ⟨x,⟨tx,rfl,hbt,i0,i1,i2⟩,hrun⟩:=RI.get (hE.get hm)
 obtain ⟨ta,tn,tc,rfl⟩:=hbt.aG
 have hk:=aV wi (.cells #[.int .i64 v,.int .i64 m.uid] 135)
 have k0:(wi.alloc (.cells #[.int .i64 v,.int .i64 m.uid] 135)).drew.cell? ⟨wi.heap.size,0,none⟩=some (.int .i64 v):=(cell_of_row (wi.alloc (.cells #[.int .i64 v,.int .i64 m.uid] 135)) _ 0 _ _ (0,0) hk).trans rfl
 have k1:(wi.alloc (.cells #[.int .i64 v,.int .i64 m.uid] 135)).drew.cell? ⟨wi.heap.size,1,none⟩=some (.int .i64 m.uid):=(cell_of_row (wi.alloc (.cells #[.int .i64 v,.int .i64 m.uid] 135)) _ 1 _ _ (0,0) hk).trans rfl
 have hfl:=aaS m.uid m.flags m.seq (.slice ta tn tc) (wi.alloc (.cells #[.int .i64 v,.int .i64 m.uid] 135)).drew
 have HG:Hid (tJ E (v,m.uid)=(bits .and .i64 m.flags 8 == 0)):=by
  show _=_
  unfold tJ
  rw [show cB E (v,m.uid).1 (v,m.uid).2=some m from hE.get hm]
 have HA:=ak A1
 clear RI hbt i0 i1 i2 h2 hE hm A1
 have HS:Hid ((wi.alloc (.cells #[.int .i64 v,.int .i64 m.uid] 135)).drew |> fun w'=>w'.cell? ⟨bv,0,none⟩=some (.pointer (some ⟨gd,0,none⟩))∧w'.cell? ⟨gd,2,none⟩=some (.map (some g))∧w'.rangeAt wi.heap.size 0 [.int .i64 v,.int .i64 m.uid]∧(Instr.lookup 106 (.map (some g)) (.agg #[.int .i64 v,.int .i64 m.uid]) false).run Tryz.prog w'=.ok (.agg #[.int .i64 m.uid,.int .i64 m.flags,.int .i64 m.seq,.slice ta tn tc]) w'∧(Instr.field 124 (.agg #[.int .i64 m.uid,.int .i64 m.flags,.int .i64 m.seq,.slice ta tn tc]) 1).run Tryz.prog w'=.ok (.int .i64 m.flags) w'):=⟨d0,d2,fC (w:=(wi.alloc (.cells #[.int .i64 v,.int .i64 m.uid] 135)).drew) hk,hrun,hfl⟩
 clear hk d0 d2 hrun hfl k0 k1
 go_enter Tryz.func119,Tryz.ntmps119
 go_upto_region 1 with fail
 refine eF 10 (S:=fun w'=>w'.cell? ⟨bv,0,none⟩=some (.pointer (some ⟨gd,0,none⟩))∧w'.cell? ⟨gd,2,none⟩=some (.map (some g))∧w'.rangeAt wi.heap.size 0 [.int .i64 v,.int .i64 m.uid]∧(Instr.lookup 106 (.map (some g)) (.agg #[.int .i64 v,.int .i64 m.uid]) false).run Tryz.prog w'=.ok (.agg #[.int .i64 m.uid,.int .i64 m.flags,.int .i64 m.seq,.slice ta tn tc]) w'∧(Instr.field 124 (.agg #[.int .i64 m.uid,.int .i64 m.flags,.int .i64 m.seq,.slice ta tn tc]) 1).run Tryz.prog w'=.ok (.int .i64 m.flags) w') (eB (by kernel_rfl) aaO) (by kernel_rfl) HS.out (fun aj aks=>?_)
 refine tks 0 0 4 aj aks ?_
 refine tks 1 1 5 aj aks ?_
 refine tks 2 2 6 aj aks ?_
 refine tks 3 3 7 aj aks ?_
 refine pq 4 4 8 135 (.tmp 2) wi.heap.size 0 [.int .i64 v,.int .i64 m.uid] aj aks (fun w h=>h.2.2.1) pW ?_
 refine tks 5 5 9 aj aks ?_
 refine tks 6 6 10 aj aks ?_
 refine tks 7 7 11 aj aks ?_
 refine tks 8 8 12 aj aks ?_
 refine tks 9 9 3 aj aks ?_
 refine eG aj ?_
 go_wp2
 go_ret
 exact ⟨aR HG.out,HA.out⟩
/- remove of package o9 gH. -/
theorem aaU:(Tryz.f78.body.bind (bQ 4)).all (fun o=>dQ o 6 [0,1,2,3,4,5] [5] [5,6] 8)=true:=by kernel_rfl
theorem aaV (wt w:World) (S:Nat→Prop) (gd g n k gb cap:Nat) (a:aJ) (b:aD) (u0 u1:Value) (E:aX) (h:aW wt w S gd g n a u0 u1 E) (hb:a.boxes[k]?=some b) (hn:n≤1000000) (h12:b.ah.length≤12) (res:aJ × cO) (hres:res=(⟨a.valid,a.boxes.take k ++ a.boxes.drop (k+1),a.seen⟩,aQ 0 0)) :
  Calls Tryz.prog 78 #[.pointer (some ⟨gd,0,none⟩),.int .i64 b.valid] w fun e w'=>∃ v,e=.returned v∧dD w' w.heap.size w'.heap.size v res.2∧Left wt w w' S gd g n u1 res.1:=by
 obtain ⟨kV,kR,A2⟩:=gJ w (.cells #[.int .i64 b.valid] 3) (.cells #[.int .i64 0,.int .i64 0,.slice none 0 0,.int .i64 0,.int .i64 0,.int .i64 0,.slice none 0 0,.slice none 0 0,.int .i64 0,.slice none 0 0] 40)
 have bI:=ak hres
 have HD:=ak (h.below A2)
 have HA:=ak A2
 have mP:=ak kV
 have aO:=ak kR
 have HSL:Hid (∀ k,S k→k < w.heap.size):=fun k hk=>(h.low k hk).2.1
 have yK:Hid (gd < w.heap.size∧g < w.heap.size):=⟨lt_of_heap h.cells,h.map.lt⟩
 have hw0:=h.base.size
 have hkl:=(gs1 hb).1
 obtain ⟨_,_,_,_,_,-,-,-,-,-,-,-,-,-,-,j0,-⟩:=h.read hb
 have HJ:=ak j0
 have hzz:w.heap.size+2≤((w.alloc (.cells #[.int .i64 b.valid] 3)).alloc (.cells #[.int .i64 0,.int .i64 0,.slice none 0 0,.int .i64 0,.int .i64 0,.int .i64 0,.slice none 0 0,.slice none 0 0,.int .i64 0,.slice none 0 0] 40)).heap.size:=by simp
 clear h A2 kV kR hres j0
 go_enter Tryz.func78,Tryz.ntmps78
 go_upto_region 1 with fail
 generalize (w.alloc (.cells #[.int .i64 b.valid] 3)).alloc (.cells #[.int .i64 0,.int .i64 0,.slice none 0 0,.int .i64 0,.int .i64 0,.int .i64 0,.slice none 0 0,.slice none 0 0,.int .i64 0,.slice none 0 0] 40)=w1 at HD HA mP aO hzz ⊢
 have hE:=HD.out.ents b (List.mem_of_getElem? hb)
 have DR:Below w1.heap.size w1 w1.drew:=bd _ _
 have HS:Hid (∀ w',Below w1.heap.size w1 w'→w'.cell? ⟨gd,2,none⟩=some (.map (some g))∧w'.cell? ⟨w.heap.size,0,none⟩=some (.int .i64 b.valid)):=fun w' hw=>⟨(cell_of_row _ gd 2 _ _ (0,0) (HD.out.below hw).cells).trans rfl,(cell_of_row _ _ 0 _ _ (0,0) (ay hw mP.out)).trans rfl⟩
 have HC:Hid (Calls Tryz.prog 112 #[.map (some g),.int .i64 b.valid] w1.drew fun e w'=>∃ oa gk cp,e=.returned (.slice oa b.ah.length cp)∧Below w1.heap.size w1 w'∧(b.ah≠[]→oa=some ⟨gk,0,none⟩∧bS 135 2 eX w' gk cp [] ((b.ah.map fun m=>m.uid).map fun u=>(b.valid,u)) 0)):=by
  refine (Ja g n E b.valid (b.ah.map fun m=>m.uid) w1.drew ((HD.out.below DR).map.mm (HD.out.below DR).base) (by omega) HJ.out (List.pairwise_map.2 hE.sorted) hE.mem (by simpa using h12)).mono ?_
  rintro e w' ⟨kv,rfl,zM,B2,hown⟩
  obtain ⟨oa,gk,cp,rfl,-,-,-,hoa⟩:=RB zM B2 hown
  exact ⟨oa,gk,cp,by simp,Below.step DR B2,fun hne=>hoa (by simpa using hne)⟩
 clear hE
 have hl1:gd < w1.drew.heap.size:=lt_of_heap HD.out.cells
 have hl2:w.heap.size < w1.drew.heap.size:=lt_of_heap mP.out
 go_region_held3 (fun w'=>w'.cell? ⟨gd,2,none⟩=some (.map (some g))∧w'.cell? ⟨w.heap.size,0,none⟩=some (.int .i64 b.valid))
  (first | exact HS.out _ DR | exact HS.out _ B1 | go_keep)
  ((go_at_call 112;refine HC.out.mono ?_;rintro e w2 ⟨oa,gk,cp,rfl,B1,hoa⟩))
 have HD2:=ak (HD.out.below B1)
 have HA2:=ak (Below.step HA.out B1)
 have aaW:=ak (ay B1 mP.out)
 have bV:=ak (ay B1 aO.out)
 have CR:=ak hoa
 have hs2:=B1.size
 clear hoa B1 HC HS HD HA mP aO hl1 hl2 DR
 go_wp2
 go_loopw [6,14] (fun _ iv wr=>∃ j:Nat,j≤b.ah.length∧iv=.int .i64 j∧Hid (∃ E',aW wt wr S gd g n (aL a k ⟨b.name,b.valid,b.next,b.seq,b.ah.drop j,b.au,b.lost⟩) u0 u1 E')∧Hid (w2.grownBy wr (some g))) (fun _ iv _=>b.ah.length - (intOf iv).toNat)
 case atStart=>exact ⟨0,Nat.zero_le _,rfl,⟨E,(show aW _ _ _ _ _ _ _ _ _ _ by rw [show aL a k ⟨b.name,b.valid,b.next,b.seq,b.ah.drop 0,b.au,b.lost⟩=a from Gg hb];exact HD2.out)⟩,World.grownBy.refl _ _⟩
 case round =>
  obtain ⟨j,hj,rfl,hX,hG⟩:=hrel
  by_cases hlt:j < b.ah.length
  ·obtain ⟨m,hm⟩:∃ m,b.ah[j]?=some m:=⟨_,aK hlt⟩
   obtain ⟨rfl,rD⟩:=CR.out (fun e=>by rw [e] at hlt;simp at hlt)
   obtain ⟨E',hD⟩:=hX.out
   have tK:gk≠g:=by
    obtain ⟨cur,hc,-⟩:=rD
    exact (HD2.out.off hc (by decide) (by decide)).2.1
   have yQ:=rD.same (hG.out.block gk rD.lt (fun e=>tK (Option.some.inj e)))
   have hK1:((b.ah.map fun m=>m.uid).map fun u=>(b.valid,u))[j]?=some (b.valid,m.uid):=by rw [List.map_map,List.getElem?_map,hm];rfl
   have q0:wr.cell? ⟨gk,j * 2,none⟩=some (.int .i64 b.valid):=yQ.at hK1 (k:=0) rfl
   have q1:wr.cell? ⟨gk,j * 2+1,none⟩=some (.int .i64 m.uid):=yQ.at hK1 (k:=1) rfl
   have hlr:=yQ.lt
   have hji:(j:Int) < b.ah.length:=by omega
   have A5:Below wr.heap.size wr (wr.alloc (.cells #[.int .i64 b.valid,.int .i64 m.uid] 135)).drew:=(bn _ _).drew
   have h5:=hD.below A5
   have hkk:(wr.alloc (.cells #[.int .i64 b.valid,.int .i64 m.uid] 135)).drew.heap[wr.heap.size]?=some (.cells #[.int .i64 b.valid,.int .i64 m.uid] 135 (0,0)):=aV wr _
   have rE:Hid ((wr.alloc (.cells #[.int .i64 b.valid,.int .i64 m.uid] 135)).drew |> fun w'=>w'.cell? ⟨gd,2,none⟩=some (.map (some g))∧w'.rangeAt wr.heap.size 0 [.int .i64 b.valid,.int .i64 m.uid]):=⟨(cell_of_row _ gd 2 _ _ (0,0) h5.cells).trans rfl,fC hkk⟩
   have hbj:(aL a k ⟨b.name,b.valid,b.next,b.seq,b.ah.drop j,b.au,b.lost⟩).boxes[k]?=some ⟨b.name,b.valid,b.next,b.seq,b.ah.drop j,b.au,b.lost⟩:=List.getElem?_set_self hkl
   have Kz:=h5.ents _ (List.mem_of_getElem? hbj)
   have hm0:(b.ah.drop j)[0]?=some m:=by rw [List.getElem?_drop];simpa using hm
   obtain ⟨w6,hrun,hM,fE⟩:=h5.map.drop HJ.out (Kz.i64 m (List.mem_of_getElem? hm0)) 0
   have sV:=ak hrun
   have h6:=h5.mapped hbj fE hM (ms:=b.ah.drop (j+1)) (by have:=Kz.del hm0;simpa using this) (fun v ms hne he=>he.Qm hne) (fun e he=>h5.high e (List.mem_filter.1 he).1)
   have wD:Hid (∃ E',aW wt w6 S gd g n (aL a k ⟨b.name,b.valid,b.next,b.seq,b.ah.drop (j+1),b.au,b.lost⟩) u0 u1 E'):=⟨_,by
    have e:aL (aL a k ⟨b.name,b.valid,b.next,b.seq,b.ah.drop j,b.au,b.lost⟩) k ⟨b.name,b.valid,b.next,b.seq,b.ah.drop (j+1),b.au,b.lost⟩=aL a k ⟨b.name,b.valid,b.next,b.seq,b.ah.drop (j+1),b.au,b.lost⟩:=by simp only [aL,List.set_set]
    rw [← e]
    exact h6⟩
   have FX:=ak (((xZ hG.out A5)).trans fE)
   have bM:=lt_of_heap h5.cells
   have Q5:gd < (wr.alloc (.cells #[.int .i64 b.valid,.int .i64 m.uid] 135)).heap.size:=bM
   clear hX hD rD yQ hK1 tK h5 hkk hbj Kz hm0 hrun hM fE h6 A5 hm
   go_upto_region 4 with fail
   refine eF 5 (S:=fun w'=>w'.cell? ⟨gd,2,none⟩=some (.map (some g))∧w'.rangeAt wr.heap.size 0 [.int .i64 b.valid,.int .i64 m.uid]) (eB (by kernel_rfl) aaU) (by kernel_rfl) rE.out (fun aj hHeld=>?_)
   refine tks 0 0 18 aj hHeld ?_
   refine tks 1 1 19 aj hHeld ?_
   refine tks 2 2 20 aj hHeld ?_
   refine tks 3 3 21 aj hHeld ?_
   refine pq 4 4 22 135 (.tmp 6) wr.heap.size 0 [.int .i64 b.valid,.int .i64 m.uid] aj hHeld (fun w h=>h.2) pW ?_
   refine gL (S':=fun w'=>True) 5 6 aj (by decide) trivial (fun hHeld=>?_)
   refine cls 5 5 aj (by decide) rfl rfl (fun K hK=>?_)
   refine QX _ _ rfl rfl rfl rfl sV.out ?_
   refine hK.out _ _ trivial (fun hHeld=>?_)
   clear hK K
   refine eG aj ?_
   clear rE sV q0 q1 hlr bM Q5
   go_wp2
   go_roundw
   case rel=>exact ⟨j+1,by omega,by go_num,wD.out,FX.out⟩
   case measure=>simp [intOf];omega
  ·obtain rfl:j=b.ah.length:=by omega
   obtain ⟨E',hD⟩:=hX.out
   generalize hbL:(⟨b.name,b.valid,b.next,b.seq,b.ah.drop b.ah.length,b.au,b.lost⟩:aD)=bL at hD
   have hv:bL.valid=b.valid:=by rw [← hbL]
   have hbk:(aL a k bL).boxes[k]?=some bL:=List.getElem?_set_self hkl
   have hfl:((aL a k bL).boxes.filter fun x=>!(x.valid == b.valid))=a.boxes.take k ++ a.boxes.drop (k+1):=by
    have:=aar hD.dist hbk
    rw [hv] at this
    rw [this]
    simp only [aL]
    rw [← List.eraseIdx_eq_take_drop_succ,← List.eraseIdx_eq_take_drop_succ,List.eraseIdx_set_eq]
   have RJ:=p8 hG.out aaW.out (by have:=yK.out.2;omega)
   have RL:=p8 hG.out bV.out (by have:=yK.out.2;omega)
   obtain ⟨fF,cap',hu0,iW,KH⟩:=aap wr S u0 (aL a k bL).boxes b.valid w.heap.size hD.boxes (fun e=>by rw [e] at hbk;simp at hbk) (fun q hq=>(hD.low q hq).2.1) RJ (fun hq=>by have:=HSL.out _ hq;omega)
   rw [hfl] at KH
   have hlow:=hD.low fF iW
   have hgw:=HSL.out _ iW
   have d1:wr.cell? ⟨gd,1,none⟩=some u0:=(cell_of_row _ gd 1 _ _ (0,0) hD.cells).trans rfl
   have bM:=lt_of_heap hD.cells
   have hll:(aL a k bL).boxes.length=a.boxes.length:=by simp [aL]
   rw [hll] at hu0
   subst hu0
   have CS:=ak KH
   have HD:=ak hD
   have yG:=ak hfl
   have HT:=ak (Gf (fT HA2.out (S:=S) (gd:=gd) (g:=g)) hG.out)
   have bX:=ak RL
   have hji:¬ (b.ah.length:Int) < b.ah.length:=by omega
   clear hX hD hbL hv hbk hfl RJ RL KH CR
   go_wp2_with fail
   refine CS.out.mono ?_
   rintro e w5 ⟨rfl,iV,qH⟩
   have CU:=p8 qH HD.out.cells (fun e=>hlow.2.2.1 e.symm)
   obtain ⟨x0,x1,x2,x3⟩:=gF CU
   have xz:=(bR CU).1
   have xl:=lt_of_heap CU
   generalize hNL:a.boxes.take k ++ a.boxes.drop (k+1)=NL at bI yG iV ⊢
   clear hNL
   generalize hNN:NL.length=NN at iV ⊢
   clear hNN
   have fE:∀ q,q≠gd→(w5.setCell ⟨gd,1,none⟩ (.slice (some ⟨fF,0,none⟩) NN cap')).heap[q]?=w5.heap[q]?:=fun q hq=>Below.heap_setCell _ _ _ _ hq
   have hty:=HD.out.ty.2
   have hb5:Below wt.heap.size wt w5:=HD.out.base.grown qH HD.out.base.size (fun q hq=>by cases hq;exact hlow.1)
   have HD6:=ak (HD.out.CK (w':=w5.setCell ⟨gd,1,none⟩ (.slice (some ⟨fF,0,none⟩) NN cap')) (S':=S) (u2:=(.slice (some ⟨fF,0,none⟩) NN cap')) (v:=a.valid) (l:=NL) (hb5.setCell (p:=⟨gd,1,none⟩) HD.out.nY.1 (.slice (some ⟨fF,0,none⟩) NN cap')) (by rw [aZ];exact qH.size) (aP (i:=1) (v:=(.slice (some ⟨fF,0,none⟩) NN cap')) CU)
    (iV.frame nA fun q hq _=>fE q (fun e=>(HD.out.low q hq).2.2.1 e))
    ((fE g (fun e=>hty e.symm)).trans (qH.block g HD.out.map.lt (fun e=>hlow.2.2.2.1 (Option.some.inj e).symm)))
    (fun q hq hlt=>(fE q (fun e=>by
     subst e
     rcases yD HD.out.seen with ⟨e',-⟩ | ⟨gs,e',_,_,ht⟩
     ·rw [e'] at hq;simp [Value.ownBlock] at hq
     ·rw [e'] at hq
      cases hq
      rw [HD.out.cells] at ht
      cases ht)).trans (qH.block q hlt (fun e=>by cases e;exact hlow.2.2.2.2 hq)))
    (fun q hq=>.inl hq) (fun x hx=>HD.out.ents x (by rw [← yG.out] at hx;exact (List.mem_filter.1 hx).1)) HD.out.high (by rw [← yG.out];exact HD.out.dist.sublist List.filter_sublist) HD.out.i64)
   have lS:Hid (iU w (w5.setCell ⟨gd,1,none⟩ (.slice (some ⟨fF,0,none⟩) NN cap')) S gd g):=⟨by rw [aZ];exact Nat.le_trans HT.out.1 qH.size,fun q h1 h2 h3 h4=>(fE q h2).trans ((qH.block q (Nat.lt_of_lt_of_le h1 HT.out.1) (fun e=>h4 (by cases e;exact iW))).trans (HT.out.2.1 q h1 h2 h3 h4)),qH.os.trans HT.out.2.2.1,qH.tape.trans HT.out.2.2.2.1,qH.output.trans HT.out.2.2.2.2⟩
   have iQ:=ak ((fE _ (by have:=yK.out.1;omega)).trans (p8 qH bX.out (by omega)))
   clear fE hty hb5 iV qH CU CS HD HT bX
   go_upto_region 7 with fail
   clear x0 x1 x2 x3 xz xl d1
   generalize w5.setCell ⟨gd,1,none⟩ (.slice (some ⟨fF,0,none⟩) NN cap')=w6 at HD6 lS iQ ⊢
   have HF:=ak (HD6.out.done (n:=n) (fun k hk=>.inl hk) lS.out (by omega) iQ.out (fun hS=>by have:=HSL.out _ hS;omega) hw0 (by omega) (c:=0) (x:=0) ⟨by decide,by decide⟩ aI)
   obtain ⟨yz,yl,y0,y1,y2,y3,y4,y5,y6,y7,y8,y9⟩:=eT iQ.out
   go_wp2
   have ff:=aM HF.out.1
   refine bodyPost_ret (v:=aY 0 0) (by simp [results,Tryz.results78,aY,go_sem,ff]) rfl ⟨aY 0 0,rfl,?_⟩
   rw [bI.out]
   exact HF.out.2
/- What a store makes of flags is a number of 64 bits. -/
theorem RN (op:BinOp) (x y:Int):aB (bits op IntKind.i64 x y):=by
 unfold bits
 simp only [IntKind.wrap_i64]
 unfold aB
 omega
theorem RP {was mode fl:Int} (h:aB fl):aB (gy was mode fl):=by
 unfold gy
 split
 ·exact RN _ _ _
 ·split
  ·exact RN _ _ _
  ·exact h
/- store of package o9 gH. -/
theorem aW.bs {wt w:World} {S:Nat→Prop} {gd g n:Nat} {a:aJ} {u0 u1 v:Value} {E:aX} {l:List Int} (h:aW wt w S gd g n a u0 u1 E) (hb:Bs wt v l):Bs w v l:=hb.below h.base
theorem aaZ:(Tryz.f80.body.bind (bQ 1)).all (fun o=>dQ o 9 [0,1,2,3,4,5,6,7,8] [7,8] [8,9] 8)=true:=by kernel_rfl
theorem aa0:(Tryz.f80.body.bind (bQ 2)).all (fun o=>dQ o 12 [0,1,2,3,4,5,6,7,8,9,10,11] [9,10] [12] 0)=true:=by kernel_rfl
theorem aa1:(Tryz.f80.body.bind (bQ 15)).all (fun o=>dQ o 7 [0,1,2,3,4,5,6] [6] [6,7] 8)=true:=by kernel_rfl
theorem aa2 (wt w:World) (S:Nat→Prop) (gd g n i gb cap:Nat) (a:aJ) (b:aD) (u0 u1 cv:Value) (E:aX) (c:iC) (h:aW wt w S gd g n a u0 u1 E) (hb:a.boxes[i]?=some b) (hu:u0=.slice (some ⟨gb,0,none⟩) a.boxes.length cap) (hn:n≤1000000) (hv:b.valid≤a.valid) (hc:ig wt cv c.k c.bx c.tt c.uid c.mode c.fl c.si c.tx) (wN:b.seq≤1000000) (res:aD × cO) (hres:res=j6 b c.uid c.mode c.fl c.si) :
  Calls Tryz.prog 80 #[.pointer (some ⟨gd,0,none⟩),.pointer (some ⟨gb,i * 7,none⟩),cv] w fun e w'=>∃ v,e=.returned v∧dD w' w.heap.size w'.heap.size v res.2∧Left wt w w' S gd g n u1 (aL a i res.1):=by
 have lT:=ak hc
 obtain ⟨q0,q1,q2,rfl,g0,g1,g2,i0,i1,i2,i3,i4⟩:=hc
 obtain ⟨x0,m0,z0,rfl⟩:=g0.aG
 obtain ⟨x1,m1,z1,rfl⟩:=g1.aG
 obtain ⟨x2,m2,z2,rfl⟩:=g2.aG
 obtain ⟨kC,kR,A2⟩:=gJ w (.cells #[.int .i64 c.k,.slice x0 m0 z0,.slice x1 m1 z1,.int .i64 c.uid,.int .i64 c.mode,.int .i64 c.fl,.int .i64 c.si,.slice x2 m2 z2] 44) (.cells #[.int .i64 0,.int .i64 0,.slice none 0 0,.int .i64 0,.int .i64 0,.int .i64 0,.slice none 0 0,.slice none 0 0,.int .i64 0,.slice none 0 0] 40)
 have h1:=h.below A2
 have bN:=ak hres
 clear hres
 have HD:=ak h1
 have HA:=ak A2
 have bC:=ak kC
 have aO:=ak kR
 have wR:=ak (And.intro i1 i3)
 have HSL:Hid (∀ k,S k→k < w.heap.size):=fun k hk=>(h.low k hk).2.1
 have hw0:=h.base.size
 have hzz:w.heap.size+2≤((w.alloc (.cells #[.int .i64 c.k,.slice x0 m0 z0,.slice x1 m1 z1,.int .i64 c.uid,.int .i64 c.mode,.int .i64 c.fl,.int .i64 c.si,.slice x2 m2 z2] 44)).alloc (.cells #[.int .i64 0,.int .i64 0,.slice none 0 0,.int .i64 0,.int .i64 0,.int .i64 0,.slice none 0 0,.slice none 0 0,.int .i64 0,.slice none 0 0] 40)).heap.size:=by simp
 clear h h1 A2 kC kR g0 g1 g2 i0 i1 i2 i3 i4
 go_enter Tryz.func80,Tryz.ntmps80
 go_upto_region 1 with fail
 generalize (w.alloc (.cells #[.int .i64 c.k,.slice x0 m0 z0,.slice x1 m1 z1,.int .i64 c.uid,.int .i64 c.mode,.int .i64 c.fl,.int .i64 c.si,.slice x2 m2 z2] 44)).alloc (.cells #[.int .i64 0,.int .i64 0,.slice none 0 0,.int .i64 0,.int .i64 0,.int .i64 0,.slice none 0 0,.slice none 0 0,.int .i64 0,.slice none 0 0] 40)=w1 at HD HA bC aO hzz ⊢
 have D1:Below w1.heap.size w1 w1.drew:=bd _ _
 have A3:Below w1.heap.size w1 (w1.drew.alloc (.cells #[.int .i64 0,.int .i64 0] 135)):=D1.alloc (Nat.le_refl _) _
 obtain ⟨fF,cap',v0,v5,f,e1,-,-,hlb,-,-,⟨-,c1,-⟩,-,-,-,j0,j1,j2,-⟩:=HD.out.read hb
 rw [hu] at e1
 simp only [Value.slice.injEq,Option.some.injEq,Addr.mk.injEq,and_true,true_and] at e1
 obtain ⟨rfl,rfl⟩:=e1
 have hlc:=lt_of_heap bC.out
 have cu:w1.cell? ⟨w.heap.size,3,none⟩=some (.int .i64 c.uid):=(cell_of_row _ _ 3 _ _ (0,0) bC.out).trans rfl
 have dA:Hid (w1.drew.cell? ⟨gb,i * 7+1,none⟩=some (.int .i64 b.valid)∧w1.drew.cell? ⟨w.heap.size,3,none⟩=some (.int .i64 c.uid)):=⟨(D1.cell (p:=⟨gb,_,none⟩) hlb).trans c1,(D1.cell (p:=⟨_,3,none⟩) hlc).trans cu⟩
 have RQ:Hid ((w1.drew.alloc (.cells #[.int .i64 0,.int .i64 0] 135)).cell? ⟨gb,i * 7+1,none⟩=some (.int .i64 b.valid)∧(w1.drew.alloc (.cells #[.int .i64 0,.int .i64 0] 135)).cell? ⟨w.heap.size,3,none⟩=some (.int .i64 c.uid)):=⟨(A3.cell (p:=⟨gb,_,none⟩) hlb).trans c1,(A3.cell (p:=⟨_,3,none⟩) hlc).trans cu⟩
 have HJ:=ak (And.intro j0 (And.intro j1 j2))
 clear c1 cu A3 j0 j1 j2
 refine eF 8 (S:=fun w'=>w'.cell? ⟨gb,i * 7+1,none⟩=some (.int .i64 b.valid)∧w'.cell? ⟨w.heap.size,3,none⟩=some (.int .i64 c.uid)) (eB (by kernel_rfl) aaZ) (by kernel_rfl) dA.out (fun aj aks=>?_)
 refine tks 0 0 11 aj aks ?_
 refine tks 1 1 12 aj aks ?_
 refine tks 2 2 13 aj aks ?_
 refine tks 3 3 14 aj aks ?_
 refine tks 4 4 15 aj aks ?_
 refine tks 5 5 16 aj aks ?_
 refine tks 6 6 17 aj aks ?_
 refine cls 7 7 aj (by decide) rfl rfl (fun K hK=>?_)
 go_simp
 refine hK.out _ _ RQ.out (fun aks=>?_)
 clear hK K
 refine gL (S':=fun w'=>True) 8 9 aj (by decide) trivial (fun aks=>?_)
 refine cls 8 8 aj (by decide) rfl rfl (fun K hK=>?_)
 go_simp
 refine hK.out _ _ trivial (fun aks=>?_)
 clear hK K
 refine eG aj ?_
 go_upto_region 2 with fail
 have A5:Below w1.heap.size w1 (w1.alloc (.cells #[.int .i64 b.valid,.int .i64 c.uid] 135)).drew:=(bn _ _).drew
 have HD2:=ak (HD.out.below A5)
 have HA2:=ak (Below.step HA.out A5)
 have jv:=ak (ay A5 bC.out)
 have bV:=ak (ay A5 aO.out)
 have HKK:Hid ((w1.alloc (.cells #[.int .i64 b.valid,.int .i64 c.uid] 135)).drew.heap[w1.heap.size]?=some (.cells #[.int .i64 b.valid,.int .i64 c.uid] 135 (0,0))):=aV w1 _
 have hz2:(w1.alloc (.cells #[.int .i64 b.valid,.int .i64 c.uid] 135)).drew.heap.size=w1.heap.size+1:=(show (w1.alloc (.cells #[.int .i64 b.valid,.int .i64 c.uid] 135)).heap.size=_ by simp)
 clear dA RQ HD HA bC aO A5 D1 hlc
 generalize (w1.alloc (.cells #[.int .i64 b.valid,.int .i64 c.uid] 135)).drew=w2 at HD2 HA2 jv bV HKK hz2 ⊢
 obtain ⟨p,qY,uT⟩:=HD2.out.map.looks HJ.out.1 wR.out.1
 obtain ⟨⟨p0,p1,p2⟩,p3,p4,p5⟩:=p
 simp only [pX] at qY uT
 have qZ:=ak uT
 have HS2:Hid (∀ w',Below w2.heap.size w2 w'→w'.cell? ⟨gd,2,none⟩=some (.map (some g))∧w'.rangeAt w1.heap.size 0 [.int .i64 b.valid,.int .i64 c.uid]∧(Instr.lookup 106 (.map (some g)) (.agg #[.int .i64 b.valid,.int .i64 c.uid]) true).run Tryz.prog w'=.ok (.tuple #[.agg #[.int .i64 p0,.int .i64 p1,.int .i64 p2,.slice p3 p4 p5],.bool (cB E b.valid c.uid).isSome]) w'):=fun w' hb=>⟨(cell_of_row _ gd 2 _ _ (0,0) (HD2.out.below hb).cells).trans rfl,fC (ay hb HKK.out),qY w' (hb.block g HD2.out.map.lt)⟩
 have D2:Below w2.heap.size w2 w2.drew:=bd _ _
 have A4:Below w2.heap.size w2 (w2.drew.alloc (.cells #[.int .i64 0,.int .i64 0,.int .i64 0,.slice none 0 0] 124)):=D2.alloc (Nat.le_refl _) _
 have nE:Below w2.heap.size w2 (w2.alloc (.cells #[.int .i64 p0,.int .i64 p1,.int .i64 p2,.slice p3 p4 p5] 124)).drew:=(bn _ _).drew
 have bM:=lt_of_heap HD2.out.cells
 clear uT qY
 refine eF 12 (S:=fun w'=>w'.cell? ⟨gd,2,none⟩=some (.map (some g))∧w'.rangeAt w1.heap.size 0 [.int .i64 b.valid,.int .i64 c.uid]∧(Instr.lookup 106 (.map (some g)) (.agg #[.int .i64 b.valid,.int .i64 c.uid]) true).run Tryz.prog w'=.ok (.tuple #[.agg #[.int .i64 p0,.int .i64 p1,.int .i64 p2,.slice p3 p4 p5],.bool (cB E b.valid c.uid).isSome]) w') (eB (by kernel_rfl) aa0) (by kernel_rfl) (HS2.out _ D2) (fun aj aks=>?_)
 refine tks 0 0 19 aj aks ?_
 refine tks 1 1 20 aj aks ?_
 refine tks 2 2 21 aj aks ?_
 refine tks 3 3 22 aj aks ?_
 refine pq 4 4 23 135 (.tmp 7) w1.heap.size 0 [.int .i64 b.valid,.int .i64 c.uid] aj aks (fun w h=>h.2.1) pW ?_
 refine tks 5 5 24 aj aks ?_
 refine tks 6 6 18 aj aks ?_
 refine tks 7 7 25 aj aks ?_
 refine tks 8 8 26 aj aks ?_
 refine cls 9 9 aj (by decide) rfl rfl (fun K hK=>?_)
 go_simp
 refine hK.out _ _ (HS2.out _ A4) (fun aks=>?_)
 clear hK K
 refine cls 10 10 aj (by decide) rfl rfl (fun K hK=>?_)
 go_simp
 refine hK.out _ _ (HS2.out _ nE) (fun aks=>?_)
 clear hK K
 refine tks 11 11 9 aj aks ?_
 refine eG aj ?_
 go_upto_region 3 with fail
 have HD3:=ak (HD2.out.below nE)
 have fH:=ak (Below.step HA2.out nE)
 have lQ:=ak (ay nE jv.out)
 have bX:=ak (ay nE bV.out)
 have yL:=ak (ay nE HKK.out)
 have jH:Hid ((w2.alloc (.cells #[.int .i64 p0,.int .i64 p1,.int .i64 p2,.slice p3 p4 p5] 124)).drew.heap[w1.heap.size+1]?=some (.cells #[.int .i64 p0,.int .i64 p1,.int .i64 p2,.slice p3 p4 p5] 124 (0,0))):=by rw [← hz2];exact aV w2 _
 have hz3:w1.heap.size+2≤(w2.alloc (.cells #[.int .i64 p0,.int .i64 p1,.int .i64 p2,.slice p3 p4 p5] 124)).drew.heap.size:=by rw [← show w2.heap.size+1=w1.heap.size+2 by omega];exact (show w2.heap.size+1≤(w2.alloc (.cells #[.int .i64 p0,.int .i64 p1,.int .i64 p2,.slice p3 p4 p5] 124)).heap.size by simp)
 clear HS2 A4 nE D2 HD2 HA2 jv bV HKK hz2 bM
 generalize (w2.alloc (.cells #[.int .i64 p0,.int .i64 p1,.int .i64 p2,.slice p3 p4 p5] 124)).drew=w3 at HD3 fH lQ bX yL jH hz3 ⊢
 have KI:=ak ((HD3.out.ents b (List.mem_of_getElem? hb)).find c.uid wR.out.1)
 have Gt:=ak ((HD3.out.ents b (List.mem_of_getElem? hb)).sorted)
 have hab:aL a i b=a:=Gg hb
 have eH:=ak hab
 clear hab
 cases hfe:cB E b.valid c.uid with
 | none =>
  have bI:Hid (res=(b,aQ 1 0)):=by
   have h0:b.ah.findIdx? (fun m=>decide (m.uid=c.uid))=none:=by
    rw [List.findIdx?_eq_none_iff]
    rw [KI.out] at hfe
    intro x hx
    simpa using List.find?_eq_none.1 hfe x hx
   show _=_
   rw [bN.out,j6,h0]
  clear hfe
  have HF:=ak (HD3.out.done (n:=n) (fun k hk=>.inl hk) (fT fH.out) (by omega) bX.out (fun hS=>by have:=HSL.out _ hS;omega) hw0 (by omega) (c:=1) (x:=0) ⟨by decide,by decide⟩ aI)
  obtain ⟨yz,yl,y0,y1,y2,y3,y4,y5,y6,y7,y8,y9⟩:=eT bX.out
  go_wp2
  have ff:=aM HF.out.1
  refine bodyPost_ret (v:=aY 1 0) (by simp [results,Tryz.results80,aY,go_sem,ff]) rfl ⟨aY 1 0,rfl,?_⟩
  rw [bI.out]
  rw [show aL a i (b,aQ 1 0).1=a from eH.out]
  exact HF.out.2
 | some m =>
  obtain ⟨tu,htu,htb,k0,k1,k2⟩:=qZ.out m hfe
  simp only [Value.agg.injEq,Array.mk.injEq,List.cons.injEq,Value.int.injEq,true_and,and_true] at htu
  obtain ⟨rfl,rfl,rfl,rfl⟩:=htu
  rw [KI.out] at hfe
  obtain ⟨hmm,hmu⟩:=(JR Gt.out c.uid m).1 hfe
  obtain ⟨j,hj⟩:=List.mem_iff_getElem?.1 hmm
  have qI:=Qn Gt.out hj
  rw [hmu] at qI
  have HST:Hid (res=if 0 < c.si∧c.si < m.seq then (b,aQ 4 m.seq) else if gy m.flags c.mode c.fl=m.flags then (b,aQ 0 m.seq) else if 1000000≤b.seq then (b,aQ 3 0) else (⟨b.name,b.valid,b.next,b.seq+1,b.ah.set j ⟨m.uid,gy m.flags c.mode c.fl,b.seq+1,m.text⟩,b.au,b.lost⟩,aQ 0 (b.seq+1))):=by
   show _=_
   rw [bN.out,j6,qI]
   simp only [hj]
  have HJM:=ak hj
  have Kj:=ak hmu
  have pI:=ak htb
  have dw:=ak (And.intro k0 (And.intro k1 k2))
  clear hfe hmm hj qI bN htb k0 k1 k2 hmu KI qZ
  obtain ⟨w0,w01,w02,w03,w04,w05,w06,w07,w08⟩:=l5 lQ.out
  obtain ⟨n0,n1,n2,n3⟩:=gF jH.out
  have nl:=lt_of_heap jH.out
  by_cases hst:0 < c.si∧c.si < m.seq
  ·have bI:Hid (res=(b,aQ 4 m.seq)):=by show _=_;rw [HST.out,if_pos hst]
   obtain ⟨h1,h2⟩:=hst
   have HF:=ak (HD3.out.done (n:=n) (fun k hk=>.inl hk) (fT fH.out) (by omega) bX.out (fun hS=>by have:=HSL.out _ hS;omega) hw0 (by omega) (c:=4) (x:=m.seq) ⟨by decide,by decide⟩ dw.out.2.2)
   obtain ⟨yz,yl,y0,y1,y2,y3,y4,y5,y6,y7,y8,y9⟩:=eT bX.out
   go_wp2
   have ff:=aM HF.out.1
   refine bodyPost_ret (v:=aY 4 m.seq) (by simp [results,Tryz.results80,aY,go_sem,ff]) rfl ⟨aY 4 m.seq,rfl,?_⟩
   rw [bI.out]
   rw [show aL a i (b,aQ 4 m.seq).1=a from eH.out]
   exact HF.out.2
  ·have Gy:Hid (res=if gy m.flags c.mode c.fl=m.flags then (b,aQ 0 m.seq) else if 1000000≤b.seq then (b,aQ 3 0) else (⟨b.name,b.valid,b.next,b.seq+1,b.ah.set j ⟨m.uid,gy m.flags c.mode c.fl,b.seq+1,m.text⟩,b.au,b.lost⟩,aQ 0 (b.seq+1))):=by show _=_;rw [HST.out,if_neg hst]
   have RS:=ak (ZP m.flags c.k c.bx c.tt c.uid c.mode c.fl c.si c.tx _ w3 (let ⟨_,_,_,e,b0,b1,b2,r⟩:=lT.out;⟨_,_,_,e,HD3.out.bs b0,HD3.out.bs b1,HD3.out.bs b2,r⟩))
   have hc2:(¬ 0 < c.si)∨(0 < c.si∧¬ c.si < m.seq):=by omega
   clear hst HST
   obtain h1 | ⟨h1,h2⟩:=hc2
   all_goals
    go_wp2_with fail
    refine RS.out.mono ?_
    rintro e w4 ⟨rfl,B4⟩
    have HD4:=ak (HD3.out.below B4)
    have gN:=ak (Below.step fH.out B4)
    have dW:=ak (ay B4 bX.out)
    have CB:=ak (ay B4 yL.out)
    have pG:=ak (ay B4 jH.out)
    have hs4:=B4.size
    clear RS B4 w0 w01 w02 w03 w04 w05 w06 w07 w08 n0 n1 n2 n3 nl HD3 fH lQ bX yL jH
    generalize hfl:gy m.flags c.mode c.fl=fx at Gy ⊢
    have HFX:=ak hfl
    clear hfl
    obtain ⟨n0,n1,n2,n3⟩:=gF pG.out
    have nl:=lt_of_heap pG.out
    by_cases hf1:fx=m.flags
    ·have bI:Hid (res=(b,aQ 0 m.seq)):=by show _=_;rw [Gy.out,if_pos hf1]
     have hf2:(fx == m.flags)=true:=by simpa using hf1
     clear hf1
     have HF:=ak (HD4.out.done (n:=n) (fun k hk=>.inl hk) (fT gN.out) (by omega) dW.out (fun hS=>by have:=HSL.out _ hS;omega) hw0 (by omega) (c:=0) (x:=m.seq) ⟨by decide,by decide⟩ dw.out.2.2)
     obtain ⟨yz,yl,y0,y1,y2,y3,y4,y5,y6,y7,y8,y9⟩:=eT dW.out
     go_wp2
     have ff:=aM HF.out.1
     refine bodyPost_ret (v:=aY 0 m.seq) (by simp [results,Tryz.results80,aY,go_sem,ff]) rfl ⟨aY 0 m.seq,rfl,?_⟩
     rw [bI.out]
     rw [show aL a i (b,aQ 0 m.seq).1=a from eH.out]
     exact HF.out.2
    ·have RU:Hid (res=if 1000000≤b.seq then (b,aQ 3 0) else (⟨b.name,b.valid,b.next,b.seq+1,b.ah.set j ⟨m.uid,fx,b.seq+1,m.text⟩,b.au,b.lost⟩,aQ 0 (b.seq+1))):=by show _=_;rw [Gy.out,if_neg hf1]
     have hf2:(fx == m.flags)=false:=by simpa using hf1
     obtain ⟨fF,cap',yF,wI,f',gM,-,-,Cw,hgs,fz4,⟨-,-,-,c3,-⟩,-⟩:=HD4.out.read hb
     rw [hu] at gM
     simp only [Value.slice.injEq,Option.some.injEq,Addr.mk.injEq,and_true,true_and] at gM
     obtain ⟨rfl,rfl⟩:=gM
     clear hf1 Gy
     by_cases hq:b.seq=1000000
     ·have bI:Hid (res=(b,aQ 3 0)):=by show _=_;rw [RU.out,if_pos (by omega)]
      have hq2:(b.seq == 1000000)=true:=by simpa using hq
      clear hq
      have HF:=ak (HD4.out.done (n:=n) (fun k hk=>.inl hk) (fT gN.out) (by omega) dW.out (fun hS=>by have:=HSL.out _ hS;omega) hw0 (by omega) (c:=3) (x:=0) ⟨by decide,by decide⟩ aI)
      obtain ⟨yz,yl,y0,y1,y2,y3,y4,y5,y6,y7,y8,y9⟩:=eT dW.out
      go_wp2
      have ff:=aM HF.out.1
      refine bodyPost_ret (v:=aY 3 0) (by simp [results,Tryz.results80,aY,go_sem,ff]) rfl ⟨aY 3 0,rfl,?_⟩
      rw [bI.out]
      rw [show aL a i (b,aQ 3 0).1=a from eH.out]
      exact HF.out.2
     ·have bI:Hid (res=(⟨b.name,b.valid,b.next,b.seq+1,b.ah.set j ⟨m.uid,fx,b.seq+1,m.text⟩,b.au,b.lost⟩,aQ 0 (b.seq+1))):=by show _=_;rw [RU.out,if_neg (by omega)]
      have hq2:(b.seq == 1000000)=false:=by simpa using hq
      have hil:=(gs1 hb).1
      have j2':=HJ.out.2.2.1
      have j3:aB (b.seq+1):=⟨by omega,by omega⟩
      have hgw:=HSL.out _ hgs
      have hn1:w.heap.size+1≠gb:=by omega
      have hn2:w1.heap.size≠gb:=by omega
      have Ag:w1.heap.size+1≠gb:=by omega
      have J9:w.heap.size+1≠w1.heap.size+1:=by omega
      have h5:=HD4.out.uN hb hu j3
      have T5:=yE (v:=.int .i64 (b.seq+1)) (j:=i * 7+3) HD4.out hu hil (fun k hk=>.inl hk) (fT gN.out (S:=S) (gd:=gd) (g:=g))
      have KJ:=bP (i:=i * 7+3) (v:=.int .i64 (b.seq+1)) pG.out Ag
      have hoth:∀ k,k≠w1.heap.size+1→(((w4.setCell ⟨gb,i * 7+3,none⟩ (.int .i64 (b.seq+1))).setCell ⟨w1.heap.size+1,1,none⟩ (.int .i64 fx)).setCell ⟨w1.heap.size+1,2,none⟩ (.int .i64 (b.seq+1))).heap[k]?=(w4.setCell ⟨gb,i * 7+3,none⟩ (.int .i64 (b.seq+1))).heap[k]?:=fun k hk=>(Below.heap_setCell _ _ _ _ (show k≠w1.heap.size+1 from hk)).trans (Below.heap_setCell _ _ _ _ (show k≠w1.heap.size+1 from hk))
      have HD7:=ak (h5.aside (r:=w1.heap.size+1) (w':=((w4.setCell ⟨gb,i * 7+3,none⟩ (.int .i64 (b.seq+1))).setCell ⟨w1.heap.size+1,1,none⟩ (.int .i64 fx)).setCell ⟨w1.heap.size+1,2,none⟩ (.int .i64 (b.seq+1))) (by rw [aZ,aZ]) ⟨rfl,rfl,rfl⟩ hoth (by omega) (fun hS=>by have:=HSL.out _ hS;omega) (h5.off KJ (by decide) (by decide)))
      have iF:=ak (Cr (r:=w1.heap.size+1) (w':=((w4.setCell ⟨gb,i * 7+3,none⟩ (.int .i64 (b.seq+1))).setCell ⟨w1.heap.size+1,1,none⟩ (.int .i64 fx)).setCell ⟨w1.heap.size+1,2,none⟩ (.int .i64 (b.seq+1))) T5 (by rw [aZ,aZ]) ⟨rfl,rfl,rfl⟩ hoth (by omega))
      have nV:=ak ((hoth _ J9).trans (bP (i:=i * 7+3) (v:=.int .i64 (b.seq+1)) dW.out hn1))
      have KL:=ak ((hoth _ (by omega)).trans (bP (i:=i * 7+3) (v:=.int .i64 (b.seq+1)) CB.out hn2))
      have Ae:Hid ((((w4.setCell ⟨gb,i * 7+3,none⟩ (.int .i64 (b.seq+1))).setCell ⟨w1.heap.size+1,1,none⟩ (.int .i64 fx)).setCell ⟨w1.heap.size+1,2,none⟩ (.int .i64 (b.seq+1))).heap[w1.heap.size+1]?=some (.cells #[.int .i64 m.uid,.int .i64 fx,.int .i64 (b.seq+1),.slice p3 p4 p5] 124 (0,0))):=aP (i:=2) (v:=.int .i64 (b.seq+1)) (aP (i:=1) (v:=.int .i64 fx) KJ)
      have nz:=(bR pG.out).1
      clear h5 T5 KJ hoth HD4 gN dW CB pG hq
      go_upto_region 15 with fail
      clear c3 fz4 Cw nz n0 n1 n2 n3 nl hgs
      generalize ((w4.setCell ⟨gb,i * 7+3,none⟩ (.int .i64 (b.seq+1))).setCell ⟨w1.heap.size+1,1,none⟩ (.int .i64 fx)).setCell ⟨w1.heap.size+1,2,none⟩ (.int .i64 (b.seq+1))=w7 at HD7 iF nV KL Ae ⊢
      have DR:Below w7.heap.size w7 w7.drew:=bd _ _
      have h8:=HD7.out.below DR
      have T8:=iF.out.trans (fT DR) (S':=S) (fun k hk=>.inl hk)
      have Ah:=ay DR nV.out
      have bM:=lt_of_heap h8.cells
      have KN:(aL a i ⟨b.name,b.valid,b.next,b.seq+1,b.ah,b.au,b.lost⟩).boxes[i]?=some ⟨b.name,b.valid,b.next,b.seq+1,b.ah,b.au,b.lost⟩:=List.getElem?_set_self hil
      have abg:Hid (w7.drew.cell? ⟨gd,2,none⟩=some (.map (some g))∧w7.drew.rangeAt w1.heap.size 0 [.int .i64 b.valid,.int .i64 c.uid]∧w7.drew.rangeAt (w1.heap.size+1) 0 [.int .i64 m.uid,.int .i64 fx,.int .i64 (b.seq+1),.slice p3 p4 p5]):=⟨(cell_of_row _ gd 2 _ _ (0,0) h8.cells).trans rfl,fC (ay DR KL.out),fC (ay DR Ae.out)⟩
      obtain ⟨w9,hrun,hM,hG⟩:=h8.map.store (md:=⟨m.uid,fx,b.seq+1,m.text⟩) (v:=b.valid) (u:=c.uid) (x:=.agg #[.int .i64 m.uid,.int .i64 fx,.int .i64 (b.seq+1),.slice p3 p4 p5]) (by unfold maxLen;omega) HJ.out.1 wR.out.1 ⟨_,rfl,pI.out,dw.out.1,by rw [← HFX.out];exact RP wR.out.2,j3⟩
      have sV:=ak hrun
      have hes:=(h8.ents _ (List.mem_of_getElem? KN)).set (m':=⟨m.uid,fx,b.seq+1,m.text⟩) HJM.out rfl
      have hes':dB (j4 E b.valid c.uid ⟨m.uid,fx,b.seq+1,m.text⟩) b.valid (b.ah.set j ⟨m.uid,fx,b.seq+1,m.text⟩):=by rw [← Kj.out];exact hes
      have Gz:=ak (h8.mapped KN hG hM (ms:=b.ah.set j ⟨m.uid,fx,b.seq+1,m.text⟩) hes' (fun v ms hne he=>he.JU hne) (fun e he=>by
       rcases List.mem_append.1 he with he | he
       ·exact h8.high e (List.mem_filter.1 he).1
       ·rw [List.mem_singleton] at he;subst he;exact hv))
      have pJ:=ak (Gf T8 hG)
      have qp:=ak (p8 hG Ah (h8.off Ah (by decide) (by decide)).2.1)
      have KO:=ay DR Ae.out
      have RV:=ak (p8 hG KO (h8.off KO (by decide) (by decide)).2.1)
      have RZ:aL (aL a i ⟨b.name,b.valid,b.next,b.seq+1,b.ah,b.au,b.lost⟩) i ⟨b.name,b.valid,b.next,b.seq+1,b.ah.set j ⟨m.uid,fx,b.seq+1,m.text⟩,b.au,b.lost⟩=aL a i ⟨b.name,b.valid,b.next,b.seq+1,b.ah.set j ⟨m.uid,fx,b.seq+1,m.text⟩,b.au,b.lost⟩:=by
       simp only [aL,List.set_set]
      have HAE:=ak RZ
      have qw:=hG.size
      have hsr:=iF.out.1
      clear h8 T8 Ah KO RZ hrun hM hG hes hes' KN DR HD7 iF nV KL Ae
      refine eF 6 (S:=fun w'=>w'.cell? ⟨gd,2,none⟩=some (.map (some g))∧w'.rangeAt w1.heap.size 0 [.int .i64 b.valid,.int .i64 c.uid]∧w'.rangeAt (w1.heap.size+1) 0 [.int .i64 m.uid,.int .i64 fx,.int .i64 (b.seq+1),.slice p3 p4 p5]) (eB (by kernel_rfl) aa1) (by kernel_rfl) abg.out (fun aj aks=>?_)
      refine tks 0 0 74 aj aks ?_
      refine tks 1 1 75 aj aks ?_
      refine tks 2 2 76 aj aks ?_
      refine tks 3 3 77 aj aks ?_
      refine pq 4 4 78 135 (.tmp 7) w1.heap.size 0 [.int .i64 b.valid,.int .i64 c.uid] aj aks (fun w h=>h.2.1) pW ?_
      refine pq 5 5 79 124 (.tmp 8) (w1.heap.size+1) 0 [.int .i64 m.uid,.int .i64 fx,.int .i64 (b.seq+1),.slice p3 p4 p5] aj aks (fun w h=>h.2.2) Tryz.underlying124 ?_
      refine gL (S':=fun w'=>True) 6 7 aj (by decide) trivial (fun aks=>?_)
      refine cls 6 6 aj (by decide) rfl rfl (fun K hK=>?_)
      refine QC _ _ _ _ rfl rfl rfl rfl rfl sV.out ?_
      refine hK.out _ _ trivial (fun aks=>?_)
      clear hK K
      refine eG aj ?_
      rw [HAE.out] at Gz
      obtain ⟨n0,n1,n2,n3⟩:=gF RV.out
      have nl:=lt_of_heap RV.out
      have HF:=ak (Gz.out.done (n:=n) (fun k hk=>.inl hk) pJ.out (by omega) qp.out (fun hS=>by have:=HSL.out _ hS;omega) hw0 (by omega) (c:=0) (x:=(b.seq+1)) ⟨by decide,by decide⟩ j3)
      obtain ⟨yz,yl,y0,y1,y2,y3,y4,y5,y6,y7,y8,y9⟩:=eT qp.out
      go_wp2
      have ff:=aM HF.out.1
      refine bodyPost_ret (v:=aY 0 (b.seq+1)) (by simp [results,Tryz.results80,aY,go_sem,ff]) rfl ⟨aY 0 (b.seq+1),rfl,?_⟩
      rw [bI.out]
      exact HF.out.2
end Go.Proofs.YtlneebmlhblleaaGreat
