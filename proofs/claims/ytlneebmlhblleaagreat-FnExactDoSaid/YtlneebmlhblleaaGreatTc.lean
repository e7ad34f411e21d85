/- The proof's texts, part 12. -/
import Derived.Shelf.Abstract
import Derived.Test.YtlneebmlhblleaaGreatTb
namespace Go.Proofs.YtlneebmlhblleaaGreat
open Go.RowKit
set_option linter.unusedVariables false
set_option linter.unusedSimpArgs false
set_option maxHeartbeats 4000000
set_option maxRecDepth 100000
/- What slices.IndexFunc and slices.ContainsFunc of ah and of what went do. -/
open Go.RowKit Go.Shelf
theorem zV {α:Type} {p:α→Bool} {l:List α} {k:Nat} {x:α} (hk:k < l.length) (hx:l[k]?=some x) (h:p x=true) (hA:∀ j x,j < k→l[j]?=some x→p x=false):bB p l=k:=by
 have:l.findIdx? p=some k:=by
  rw [List.findIdx?_eq_some_iff_getElem]
  refine ⟨hk,by rw [aK hk] at hx;cases hx;exact h,fun j hj=>?_⟩
  rw [hA j _ hj (aK (by omega))];simp
 simp [bB,this]
theorem zW {α:Type} {p:α→Bool} {l:List α} (hA:∀ j x,j < l.length→l[j]?=some x→p x=false):bB p l = -1:=by
 have:l.findIdx? p=none:=by
  rw [List.findIdx?_eq_none_iff]
  intro x hx
  obtain ⟨j,hj,rfl⟩:=List.getElem_of_mem hx
  exact hA j _ hj (aK hj)
 simp [bB,this]
def Ce (_:World) (v:Value) (x:bf):Prop:=v=.agg #[.int .i64 x.uid,.int .i64 x.seq]
theorem Y2 (g:Nat) (lb:Array Value) (p:aF→Bool) (v:Value) (l:List aF) (w:World) (hv:bY w v l) (eg:∀ args w,(callFunc g args).run Tryz.prog w=.ok (.enter g args) w)
  (hp:∀ wi x u,Below w.heap.size w wi→gK wi u x→Calls Tryz.prog g (#[u] ++ lb) wi fun e w'=>e=.returned (.bool (p x))∧Below wi.heap.size wi w') :
  Calls Tryz.prog 141 #[v,.func (.func g) #[] lb] w fun e w'=>e=.returned (.int .i64 (bB p l))∧Below w.heap.size w w':=by
 have HV:Hid (∀ wi,Below w.heap.size w wi→bY wi v l):=fun wi h=>hv.below eU h
 have HP:Hid (∀ wi x u,Below w.heap.size w wi→gK wi u x→Calls Tryz.prog g (#[u] ++ lb) wi fun e w'=>e=.returned (.bool (p x))∧Below wi.heap.size wi w'):=hp
 obtain ⟨a,cap,rfl,hlc,hcm⟩:=hv.form
 clear hv hp
 go_enter Tryz.func141,Tryz.ntmps141
 go_wp2
 go_loopw [5,8] (fun _ i wr=>∃ k:Nat,k≤l.length∧i=.int .i64 k∧Hid (∀ j x,j < k→l[j]?=some x→p x=false)∧Hid (Below w.heap.size w wr)) (fun _ i _=>l.length - (intOf i).toNat)
 case atStart=>exact ⟨0,Nat.zero_le _,rfl,(fun j x hj=>absurd hj (Nat.not_lt_zero _)),Below.refl _ _⟩
 case round =>
  obtain ⟨k,hk,rfl,hA,hB⟩:=hrel
  by_cases hlt:k < l.length
  ·obtain ⟨x,hx⟩:∃ x,l[k]?=some x:=⟨l[k],aK hlt⟩
   obtain ⟨b,off,cap',u,hv',hlb,d0,d1,d2,d3,hu,i0,i1,i2⟩:=bY.cell (HV.out wr hB.out) k x hx
   simp only [Value.slice.injEq,true_and] at hv'
   obtain ⟨rfl,rfl⟩:=hv'
   obtain ⟨ua,un,uc,rfl⟩:=hu.aG
   have hcall:=HP.out wr x (.agg #[.int .i64 x.uid,.int .i64 x.flags,.int .i64 x.seq,.slice ua un uc]) hB.out ⟨_,rfl,hu,i0,i1,i2⟩
   have HX:Hid (l[k]?=some x):=hx
   clear hx
   cases hq:p x with
   | true =>
    rw [hq] at hcall
    have HQ:Hid (p x=true):=hq
    clear hq
    go_wp2_with (go_at_fn g;refine hcall.mono ?_;rintro e w1 ⟨rfl,B⟩)
    go_ret
    exact ⟨lI (zV hlt HX.out HQ.out hA.out).symm,Below.step hB.out B⟩
   | false =>
    rw [hq] at hcall
    have HQ:Hid (p x=false):=hq
    clear hq
    go_wp2_with (go_at_fn g;refine hcall.mono ?_;rintro e w1 ⟨rfl,B⟩)
    have HB2:Hid (Below w.heap.size w w1):=Below.step hB.out B
    clear B hB
    go_roundw
    case rel =>
     refine ⟨k+1,by omega,by go_num,(show Hid _ from fun j y hj hy=>?_),HB2⟩
     by_cases e:j=k
     ·subst e;rw [HX.out] at hy;cases hy;exact HQ.out
     ·exact hA.out j y (by omega) hy
    case measure=>simp [intOf];omega
  ·obtain rfl:k=l.length:=by omega
   go_wp2
   go_ret
   exact ⟨lI (zW hA.out).symm,hB.out⟩
theorem Qd (g:Nat) (lb:Array Value) (p:aF→Bool) (v:Value) (l:List aF) (w:World) (hv:bY w v l) (eg:∀ args w,(callFunc g args).run Tryz.prog w=.ok (.enter g args) w)
  (hp:∀ wi x u,Below w.heap.size w wi→gK wi u x→Calls Tryz.prog g (#[u] ++ lb) wi fun e w'=>e=.returned (.bool (p x))∧Below wi.heap.size wi w') :
  Calls Tryz.prog 129 #[v,.func (.func g) #[] lb] w fun e w'=>e=.returned (.bool (l.any p))∧Below w.heap.size w w':=by
 have hi:=Y2 g lb p v l w hv eg hp
 have HF:Hid (l.any p=decide (0≤bB p l)):=Bu p l
 generalize bB p l=i at hi HF
 obtain ⟨a,cap,rfl,-⟩:=hv.form
 clear hp hv
 go_enter Tryz.func129,Tryz.ntmps129
 go_wp2_with (go_at_call 141;refine hi.mono ?_;rintro e w1 ⟨rfl,B⟩)
 go_ret
 exact ⟨aR HF.out,B⟩
theorem Y3 (g:Nat) (lb:Array Value) (p:bf→Bool) (v:Value) (l:List bf) (w:World) (hv:bO w v l) (eg:∀ args w,(callFunc g args).run Tryz.prog w=.ok (.enter g args) w)
  (hp:∀ wi x u,Below w.heap.size w wi→Ce wi u x→Calls Tryz.prog g (#[u] ++ lb) wi fun e w'=>e=.returned (.bool (p x))∧Below wi.heap.size wi w') :
  Calls Tryz.prog 142 #[v,.func (.func g) #[] lb] w fun e w'=>e=.returned (.int .i64 (bB p l))∧Below w.heap.size w w':=by
 have HV:Hid (∀ wi,Below w.heap.size w wi→bO wi v l):=fun wi h=>hv.below dY h
 have HP:Hid (∀ wi x u,Below w.heap.size w wi→Ce wi u x→Calls Tryz.prog g (#[u] ++ lb) wi fun e w'=>e=.returned (.bool (p x))∧Below wi.heap.size wi w'):=hp
 obtain ⟨a,cap,rfl,hlc,hcm⟩:=hv.form
 clear hv hp
 go_enter Tryz.func142,Tryz.ntmps142
 go_wp2
 go_loopw [5,8] (fun _ i wr=>∃ k:Nat,k≤l.length∧i=.int .i64 k∧Hid (∀ j x,j < k→l[j]?=some x→p x=false)∧Hid (Below w.heap.size w wr)) (fun _ i _=>l.length - (intOf i).toNat)
 case atStart=>exact ⟨0,Nat.zero_le _,rfl,(fun j x hj=>absurd hj (Nat.not_lt_zero _)),Below.refl _ _⟩
 case round =>
  obtain ⟨k,hk,rfl,hA,hB⟩:=hrel
  by_cases hlt:k < l.length
  ·obtain ⟨x,hx⟩:∃ x,l[k]?=some x:=⟨l[k],aK hlt⟩
   obtain ⟨b,off,cap',hv',hlb,d0,d1,i0,i1⟩:=bO.cell (HV.out wr hB.out) k x hx
   simp only [Value.slice.injEq,true_and] at hv'
   obtain ⟨rfl,rfl⟩:=hv'
   have hcall:=HP.out wr x (.agg #[.int .i64 x.uid,.int .i64 x.seq]) hB.out rfl
   have HX:Hid (l[k]?=some x):=hx
   clear hx
   cases hq:p x with
   | true =>
    rw [hq] at hcall
    have HQ:Hid (p x=true):=hq
    clear hq
    go_wp2_with (go_at_fn g;refine hcall.mono ?_;rintro e w1 ⟨rfl,B⟩)
    go_ret
    exact ⟨lI (zV hlt HX.out HQ.out hA.out).symm,Below.step hB.out B⟩
   | false =>
    rw [hq] at hcall
    have HQ:Hid (p x=false):=hq
    clear hq
    go_wp2_with (go_at_fn g;refine hcall.mono ?_;rintro e w1 ⟨rfl,B⟩)
    have HB2:Hid (Below w.heap.size w w1):=Below.step hB.out B
    clear B hB
    go_roundw
    case rel =>
     refine ⟨k+1,by omega,by go_num,(show Hid _ from fun j y hj hy=>?_),HB2⟩
     by_cases e:j=k
     ·subst e;rw [HX.out] at hy;cases hy;exact HQ.out
     ·exact hA.out j y (by omega) hy
    case measure=>simp [intOf];omega
  ·obtain rfl:k=l.length:=by omega
   go_wp2
   go_ret
   exact ⟨lI (zW hA.out).symm,hB.out⟩
theorem Qe (g:Nat) (lb:Array Value) (p:bf→Bool) (v:Value) (l:List bf) (w:World) (hv:bO w v l) (eg:∀ args w,(callFunc g args).run Tryz.prog w=.ok (.enter g args) w)
  (hp:∀ wi x u,Below w.heap.size w wi→Ce wi u x→Calls Tryz.prog g (#[u] ++ lb) wi fun e w'=>e=.returned (.bool (p x))∧Below wi.heap.size wi w') :
  Calls Tryz.prog 131 #[v,.func (.func g) #[] lb] w fun e w'=>e=.returned (.bool (l.any p))∧Below w.heap.size w w':=by
 have hi:=Y3 g lb p v l w hv eg hp
 have HF:Hid (l.any p=decide (0≤bB p l)):=Bu p l
 generalize bB p l=i at hi HF
 obtain ⟨a,cap,rfl,-⟩:=hv.form
 clear hp hv
 go_enter Tryz.func131,Tryz.ntmps131
 go_wp2_with (go_at_call 142;refine hi.mono ?_;rintro e w1 ⟨rfl,B⟩)
 go_ret
 exact ⟨aR HF.out,B⟩
/- What ahO and ahP of package spec do. -/
theorem sI (v:Value) (x:aD) (uid:Int) (w:World) (hv:bK w v x) :
  Calls Tryz.prog 62 #[v,.int .i64 uid] w fun e w'=>e=.returned (.int .i64 (bB (fun m=>decide (m.uid=uid)) x.ah))∧Below w.heap.size w w':=by
 obtain ⟨u0,u1,u2,rfl,g0,g1,g2,i0,i1,i2,i3⟩:=hv
 have H0:Hid (∀ wi,Below w.heap.size w wi→Bs wi u0 x.name∧bY wi u1 x.ah∧bO wi u2 x.au):=fun wi h=>⟨g0.below h,g1.below eU h,g2.below dY h⟩
 obtain ⟨a0,n0,c0,rfl⟩:=g0.aG
 obtain ⟨a1,c1,rfl,m0,m1⟩:=g1.form
 obtain ⟨a2,c2,rfl,m2,m3⟩:=g2.form
 clear g0 g1 g2
 have HX:Hid (Below w.heap.size w (w.alloc (.cells #[.slice a0 n0 c0,.int .i64 x.valid,.int .i64 x.next,.int .i64 x.seq,.slice a1 x.ah.length c1,.slice a2 x.au.length c2,.int .i64 x.lost] 37))):=bn _ _
 go_enter Tryz.func62,Tryz.ntmps62
 go_wp2
 go_loop [5] (fun i=>∃ k:Nat,k≤x.ah.length∧i=.int .i64 k∧Hid (∀ j m,j < k→x.ah[j]?=some m→decide (m.uid=uid)=false)) (fun i=>x.ah.length - (intOf i).toNat)
 case atStart=>exact ⟨0,Nat.zero_le _,rfl,fun j m hj=>absurd hj (Nat.not_lt_zero _)⟩
 case round =>
  obtain ⟨k,hk,rfl,hA⟩:=hrel
  by_cases hlt:k < x.ah.length
  ·obtain ⟨m,hm⟩:∃ m,x.ah[k]?=some m:=⟨x.ah[k],aK hlt⟩
   obtain ⟨b,off,cap',u,hv',hlb,d0,d1,d2,d3,hu,j0,j1,j2⟩:=bY.cell (H0.out _ HX.out).2.1 k m hm
   simp only [Value.slice.injEq,true_and] at hv'
   obtain ⟨rfl,rfl⟩:=hv'
   have HM:Hid (x.ah[k]?=some m):=hm
   clear hm hu d1 d2 d3
   by_cases he:m.uid=uid
   ·have he':(m.uid == uid)=true:=by simpa using he
    have HE:Hid (m.uid=uid):=he
    clear he
    go_wp2
    go_ret
    exact ⟨lI (zV hlt HM.out (by simpa using HE.out) hA.out).symm,HX.out⟩
   ·have he':(m.uid == uid)=false:=by simpa using he
    have HE:Hid (m.uid≠uid):=he
    clear he
    go_wp2
    go_round
    case rel =>
     refine ⟨k+1,by omega,by go_num,(show Hid _ from fun j y hj hy=>?_)⟩
     by_cases e:j=k
     ·subst e;rw [HM.out] at hy;cases hy;simpa using HE.out
     ·exact hA.out j y (by omega) hy
    case measure=>simp [intOf];omega
  ·obtain rfl:k=x.ah.length:=by omega
   go_wp2
   go_ret
   exact ⟨lI (zW hA.out).symm,HX.out⟩
theorem Y4 (v:Value) (l:List bf) (uid:Int) (w:World) (hv:bO w v l) :
  Calls Tryz.prog 96 #[v,.int .i64 uid] w fun e w'=>e=.returned (.bool (l.any fun o=>decide (o.uid=uid)))∧w'=w:=by
 have HV:Hid (bO w v l):=hv
 obtain ⟨a,cap,rfl,hlc,hcm⟩:=hv.form
 clear hv
 go_enter Tryz.func96,Tryz.ntmps96
 go_wp2
 go_loop [5] (fun i=>∃ k:Nat,k≤l.length∧i=.int .i64 k∧Hid (∀ j m,j < k→l[j]?=some m→m.uid≠uid)) (fun i=>l.length - (intOf i).toNat)
 case atStart=>exact ⟨0,Nat.zero_le _,rfl,fun j m hj=>absurd hj (Nat.not_lt_zero _)⟩
 case round =>
  obtain ⟨k,hk,rfl,hA⟩:=hrel
  by_cases hlt:k < l.length
  ·obtain ⟨m,hm⟩:∃ m,l[k]?=some m:=⟨l[k],aK hlt⟩
   obtain ⟨b,off,cap',hv',hlb,d0,d1,j0,j1⟩:=bO.cell HV.out k m hm
   simp only [Value.slice.injEq,true_and] at hv'
   obtain ⟨rfl,rfl⟩:=hv'
   have HM:Hid (l[k]?=some m):=hm
   clear hm d1
   by_cases he:m.uid=uid
   ·have he':(m.uid == uid)=true:=by simpa using he
    have HE:Hid (m.uid=uid):=he
    clear he
    go_wp2
    go_ret
    exact ⟨aR (List.any_eq_true.2 ⟨m,List.mem_of_getElem? HM.out,by simpa using HE.out⟩),rfl⟩
   ·have he':(m.uid == uid)=false:=by simpa using he
    have HE:Hid (m.uid≠uid):=he
    clear he
    go_wp2
    go_round
    case rel =>
     refine ⟨k+1,by omega,by go_num,(show Hid _ from fun j y hj hy=>?_)⟩
     by_cases e:j=k
     ·subst e;rw [HM.out] at hy;cases hy;exact HE.out
     ·exact hA.out j y (by omega) hy
    case measure=>simp [intOf];omega
  ·obtain rfl:k=l.length:=by omega
   go_wp2
   go_ret
   refine ⟨aR (List.any_eq_false.2 fun m hm=>?_),rfl⟩
   obtain ⟨j,hj,rfl⟩:=List.getElem_of_mem hm
   simpa using hA.out j _ hj (aK hj)
/- What ahQ, ahR, ahS of package spec, Qf of package impl do. -/
/-- A box can take one more change, and so many ah more. -/
def dx (b:aD) (n:Int):Bool:=decide (b.seq < 1000000) && (decide (b.next < 1000000) && decide ((b.ah.length:Int)+n≤12))
/-- What a store makes of flags. -/
def gy (was mode fl:Int):Int:=if mode=1 then bits .or .i64 was fl else if mode=2 then bits .andNot .i64 was fl else fl
theorem zX (v:Value) (b:aD) (n:Int) (w:World) (hv:bK w v b) (hn0:0≤n) (hn1:n≤1) (hm:b.ah.length≤2000000) :
  Calls Tryz.prog 56 #[v,.int .i64 n] w fun e w'=>e=.returned (.bool (dx b n))∧Below w.heap.size w w':=by
 obtain ⟨u0,u1,u2,rfl,g0,g1,g2,-⟩:=hv
 obtain ⟨a0,n0,c0,rfl⟩:=g0.aG
 obtain ⟨a1,c1,rfl,-⟩:=g1.form
 obtain ⟨a2,c2,rfl,-⟩:=g2.form
 clear g0 g1 g2
 have X:Below w.heap.size w (w.alloc (.cells #[.slice a0 n0 c0,.int .i64 b.valid,.int .i64 b.next,.int .i64 b.seq,.slice a1 b.ah.length c1,.slice a2 b.au.length c2,.int .i64 b.lost] 37)):=bn _ _
 have HX:Hid _:=X
 clear X
 have HD:Hid (dx b n=(decide (b.seq < 1000000) && (decide (b.next < 1000000) && decide ((b.ah.length:Int)+n≤12)))):=rfl
 by_cases h1:b.seq < 1000000
 ·by_cases h2:b.next < 1000000
  ·by_cases h3:(b.ah.length:Int)+n≤12
   ·have HF:Hid (dx b n=true):=by show _=_;rw [HD.out];simp [h1,h2,h3]
    go_enter Tryz.func56,Tryz.ntmps56
    go_wp2
    go_ret
    exact ⟨aR HF.out,HX.out⟩
   ·have HF:Hid (dx b n=false):=by show _=_;rw [HD.out];simp [h3]
    go_enter Tryz.func56,Tryz.ntmps56
    go_wp2
    go_ret
    exact ⟨aR HF.out,HX.out⟩
  ·have HF:Hid (dx b n=false):=by show _=_;rw [HD.out];simp [h2]
   go_enter Tryz.func56,Tryz.ntmps56
   go_wp2
   go_ret
   exact ⟨aR HF.out,HX.out⟩
 ·have HF:Hid (dx b n=false):=by show _=_;rw [HD.out];simp [h1]
  go_enter Tryz.func56,Tryz.ntmps56
  go_wp2
  go_ret
  exact ⟨aR HF.out,HX.out⟩
theorem Qg (was mode fl:Int) (w:World) :
  Calls Tryz.prog 97 #[.int .i64 was,.int .i64 mode,.int .i64 fl] w fun e w'=>e=.returned (.int .i64 (gy was mode fl))∧w'=w:=by
 by_cases h1:mode=1
 ·subst h1
  go_enter Tryz.func97,Tryz.ntmps97
  go_wp2
  go_ret
  exact ⟨rfl,rfl⟩
 ·by_cases h2:mode=2
  ·subst h2
   go_enter Tryz.func97,Tryz.ntmps97
   go_wp2
   go_ret
   exact ⟨rfl,rfl⟩
  ·have HF:Hid (gy was mode fl=fl):=by show _=_;unfold gy;rw [if_neg h1,if_neg h2]
   have e1:(mode == 1)=false:=by simpa using h1
   have e2:(mode == 2)=false:=by simpa using h2
   clear h1 h2
   go_enter Tryz.func97,Tryz.ntmps97
   go_wp2
   go_ret
   exact ⟨lI HF.out.symm,rfl⟩
theorem uM (v u:Value) (a:aJ) (nm:List Int) (w:World) (hv:dM w v a) (hu:Bs w u nm) (hbl:a.boxes.length≤2000000) :
  Calls Tryz.prog 55 #[v,u] w fun e w'=>e=.returned (.int .i64 (bB (fun x=>decide (x.name=nm)) a.boxes))∧Below w.heap.size w w':=by
 obtain ⟨u0,u1,rfl,g0,g1,-⟩:=hv
 have HV:Hid (∀ wi,Below w.heap.size w wi→cK wi u0 a.boxes∧Bs wi u nm):=fun wi h=>⟨g0.below lq h,hu.below h⟩
 have Y5:Hid (Oct nm):=hu.1
 obtain ⟨a0,c0,rfl,-⟩:=g0.form
 obtain ⟨a1,c1,rfl,-⟩:=g1.form
 obtain ⟨na,nn,nc,rfl⟩:=hu.aG
 clear g0 g1 hu
 have HX:Hid (Below w.heap.size w (w.alloc (.cells #[.int .i64 a.valid,.slice a0 a.boxes.length c0,.slice a1 a.seen.length c1] 33))):=bn _ _
 have HK:Hid _:=aV w (.cells #[.int .i64 a.valid,.slice a0 a.boxes.length c0,.slice a1 a.seen.length c1] 33)
 go_enter Tryz.func55,Tryz.ntmps55
 go_wp2
 go_loopw [5] (fun i wr=>∃ k:Nat,k≤a.boxes.length∧i=.int .i64 k∧Hid (∀ j m,j < k→a.boxes[j]?=some m→decide (m.name=nm)=false)∧Hid (Below w.heap.size w wr)∧Hid (wr.heap[w.heap.size]?=some (.cells #[.int .i64 a.valid,.slice a0 a.boxes.length c0,.slice a1 a.seen.length c1] 33 (0,0)))) (fun i _=>a.boxes.length - (intOf i).toNat)
 case atStart=>exact ⟨0,Nat.zero_le _,rfl,(fun j m hj=>absurd hj (Nat.not_lt_zero _)),HX.out,HK.out⟩
 case round =>
  obtain ⟨k,hk,rfl,hA,hB,dw⟩:=hrel
  clear HX HK
  obtain ⟨d0,d1,d2⟩:=bD dw.out
  have ld:=lt_of_heap dw.out
  by_cases hlt:k < a.boxes.length
  ·obtain ⟨x,hx⟩:∃ x,a.boxes[k]?=some x:=⟨a.boxes[k],aK hlt⟩
   obtain ⟨b,off,cp,t,q1,q2,hv',hlb,f0,f1,f2,f3,f4,f5,f6,ht,-⟩:=cK.cell (HV.out wr hB.out).1 k x hx
   simp only [Value.slice.injEq,true_and] at hv'
   obtain ⟨rfl,rfl⟩:=hv'
   have HC:Hid (∀ WB,Below wr.heap.size wr WB→(convert 26 9 t).run Tryz.prog WB=.ok (.string (strOfNums x.name)) WB∧(convert 26 9 (.slice na nn nc)).run Tryz.prog WB=.ok (.string (strOfNums nm)) WB):=fun WB h=>⟨wm (ht.below h),wm ((HV.out wr hB.out).2.below h)⟩
   have HE:Hid (((strOfNums x.name).toList == (strOfNums nm).toList)=decide (x.name=nm)):=str_eq ht.1 Y5.out
   obtain ⟨ta,tn,tc,rfl⟩:=ht.aG
   have lK:Hid (a.boxes[k]?=some x):=hx
   have HS:Hid (∀ w',Below wr.heap.size wr w'→(w'.cell? ⟨w.heap.size,1,none⟩=some (.slice (some ⟨b,off,none⟩) a.boxes.length c0)∧w'.cell? ⟨b,off+k * 7,none⟩=some (.slice ta tn tc))∧(convert 26 9 (.slice ta tn tc)).run Tryz.prog w'=.ok (.string (strOfNums x.name)) w'∧(convert 26 9 (.slice na nn nc)).run Tryz.prog w'=.ok (.string (strOfNums nm)) w'):=fun w' h=>⟨⟨cell_later h d1,cell_later h f0⟩,HC.out w' h⟩
   have hki:(k:Int) < a.boxes.length:=by omega
   clear ht hx f1 f2 f3 f4 f5 f6
   cases z:decide (x.name=nm) with
   | true =>
    have e3:=HE.out.trans z
    have HZ:Hid (decide (x.name=nm)=true):=z
    clear z HE
    go_wp2
    refine wp_region_held_drew (S:=fun w'=>(w'.cell? ⟨w.heap.size,1,none⟩=some (.slice (some ⟨b,off,none⟩) a.boxes.length c0)∧w'.cell? ⟨b,off+k * 7,none⟩=some (.slice ta tn tc))∧(convert 26 9 (.slice ta tn tc)).run Tryz.prog w'=.ok (.string (strOfNums x.name)) w'∧(convert 26 9 (.slice na nn nc)).run Tryz.prog w'=.ok (.string (strOfNums nm)) w') (by kernel_rfl) (HS.out _ (bd _ _)) (fun aks=>(show wpAnyH _ _ _ _ _ 10 #[false,false,false,false,false,false,false,false,false,false] _ _ from ?_))
    refine tq 0 13 aks ?_
    refine tq 1 14 aks ?_
    refine tq 2 15 aks ?_
    refine tq 3 16 aks ?_
    refine tq 4 17 aks ?_
    refine tq 5 18 aks ?_
    refine tq 6 19 aks ?_
    refine tq 7 20 aks ?_
    refine tq 8 21 aks ?_
    refine tq 9 22 aks ?_
    refine wpAnyH_done (by kernel_rfl) ?_ _
    go_wp2
    go_ret
    exact ⟨lI (zV hlt lK.out HZ.out hA.out).symm,hB.out.drew⟩
   | false =>
    have e3:=HE.out.trans z
    have HZ:Hid (decide (x.name=nm)=false):=z
    have HB2:Hid (Below w.heap.size w wr.drew):=hB.out.drew
    have F8:Hid (wr.drew.heap[w.heap.size]?=some _):=dw.out
    clear z HE
    go_wp2
    refine wp_region_held_drew (S:=fun w'=>(w'.cell? ⟨w.heap.size,1,none⟩=some (.slice (some ⟨b,off,none⟩) a.boxes.length c0)∧w'.cell? ⟨b,off+k * 7,none⟩=some (.slice ta tn tc))∧(convert 26 9 (.slice ta tn tc)).run Tryz.prog w'=.ok (.string (strOfNums x.name)) w'∧(convert 26 9 (.slice na nn nc)).run Tryz.prog w'=.ok (.string (strOfNums nm)) w') (by kernel_rfl) (HS.out _ (bd _ _)) (fun aks=>(show wpAnyH _ _ _ _ _ 10 #[false,false,false,false,false,false,false,false,false,false] _ _ from ?_))
    refine tq 0 13 aks ?_
    refine tq 1 14 aks ?_
    refine tq 2 15 aks ?_
    refine tq 3 16 aks ?_
    refine tq 4 17 aks ?_
    refine tq 5 18 aks ?_
    refine tq 6 19 aks ?_
    refine tq 7 20 aks ?_
    refine tq 8 21 aks ?_
    refine tq 9 22 aks ?_
    refine wpAnyH_done (by kernel_rfl) ?_ _
    go_wp2
    go_roundw
    case rel =>
     refine ⟨k+1,by omega,by go_num,(show Hid _ from fun j y hj hy=>?_),HB2,F8⟩
     by_cases e:j=k
     ·subst e;rw [lK.out] at hy;cases hy;exact HZ.out
     ·exact hA.out j y (by omega) hy
    case measure=>simp [intOf];omega
  ·obtain rfl:k=a.boxes.length:=by omega
   go_wp2
   go_ret
   exact ⟨lI (zW hA.out).symm,hB.out⟩
/- Commands as data. -/
structure iC where
 k:Int
 bx:List Int
 tt:List Int
 uid:Int
 mode:Int
 fl:Int
 si:Int
 tx:List Int
theorem iN.set {w:World} {g i B T:Nat} {v x:Value} {k:Int} {bx tt:List Int} {uid mode fl si:Int} {tx:List Int} (h:iN w B T v k bx tt uid mode fl si tx) (hd:g < B∨T≤g):iN (w.setCell ⟨g,i,none⟩ x) B T v k bx tt uid mode fl si tx :=
 let ⟨u0,u1,u2,T0,T1,hv,h0,h1,h2,r0,r1,r2,r⟩:=h;⟨u0,u1,u2,T0,T1,hv,h0.set (by omega),h1.set (by omega),h2.set (by omega),r0,r1,r2,r⟩
/- What a command does to an account, on lists: after Qh of package spec. -/
/-- The oldest au fall out; the last that fell tells what is lost. -/
def dX (lost:Int):List bf→Int × List bf
 | []=>(lost,[])
 | x :: l=>if 40 < l.length+1 then dX x.seq l else (lost,x :: l)
theorem Qi {lost:Int} {l:List bf} (h:l.length≤40):dX lost l=(lost,l):=by
 cases l with
 | nil=>rfl
 | cons x l=>rw [dX,if_neg (by simp only [List.length_cons] at h;omega)]
theorem Y6 {lost:Int} {l:List bf} {x:bf} (h:40 < (x :: l).length):dX lost (x :: l)=dX x.seq l:=by
 rw [dX,if_pos (by simpa only [List.length_cons] using h)]
theorem Y7 (l:List bf):∀ lost:Int,(dX lost l).2.length≤l.length:=by
 induction l with
 | nil=>intro _;exact Nat.le_refl _
 | cons x l ih =>
  intro lost
  rw [dX]
  split
  ·exact Nat.le_trans (ih x.seq) (Nat.le_succ _)
  ·exact Nat.le_refl _
/-- The suffix that the loop holds after i turns, and what is lost then. -/
theorem Qj {l:List bf} {i:Nat} {lost:Int} {x:bf} (hx:l[i]?=some x) (h:40 < l.length - i):dX lost (l.drop i)=dX x.seq (l.drop (i+1)):=by
 obtain ⟨hi,rfl⟩:=List.getElem?_eq_some_iff.mp hx
 rw [List.drop_eq_getElem_cons hi,Y6 (by simp only [List.length_cons,List.length_drop];omega)]
/-- A fQ falls out of a box. -/
def bG (b:aD) (i:Nat):aD:=match b.ah[i]? with
 | some m=>⟨b.name,b.valid,b.next,b.seq,b.ah.take i ++ b.ah.drop (i+1),(dX b.lost (b.au ++ [⟨m.uid,b.seq⟩])).2,(dX b.lost (b.au ++ [⟨m.uid,b.seq⟩])).1⟩
 | none=>b
/-- A fQ comes into a box. -/
def jR (b:aD) (fl:Int) (tx:List Int):aD:=⟨b.name,b.valid,b.next+1,b.seq+1,b.ah ++ [⟨b.next,fl,b.seq+1,tx⟩],b.au,b.lost⟩
def bH (b:aD):aD:=⟨b.name,b.valid,b.next,b.seq+1,b.ah,b.au,b.lost⟩
def aQ (c n:Int):cO:=⟨c,n,jQ,[]⟩
def qx (a:aJ) (nm:List Int):aJ × cO :=
 if 0≤bB (fun x:aD=>decide (x.name=nm)) a.boxes then (a,aQ 2 0)
 else if 4≤a.boxes.length∨1000000≤a.valid then (a,aQ 3 0)
 else (⟨a.valid+1,a.boxes.takeWhile (fun x:aD=>dH x.name nm) ++ (⟨nm,a.valid+1,1,0,[],[],0⟩ :: a.boxes.dropWhile (fun x:aD=>dH x.name nm)),a.seen⟩,aQ 0 (a.valid+1))
def j6 (b:aD) (uid mode fl si:Int):aD × cO :=
 match b.ah.findIdx? (fun m:aF=>decide (m.uid=uid)) with
 | none=>(b,aQ 1 0)
 | some i=>match b.ah[i]? with
  | none=>(b,aQ 1 0)
  | some m =>
   if 0 < si∧si < m.seq then (b,aQ 4 m.seq)
   else if gy m.flags mode fl=m.flags then (b,aQ 0 m.seq)
   else if 1000000≤b.seq then (b,aQ 3 0)
   else (⟨b.name,b.valid,b.next,b.seq+1,b.ah.set i ⟨m.uid,gy m.flags mode fl,b.seq+1,m.text⟩,b.au,b.lost⟩,aQ 0 (b.seq+1))
/-- A fQ bears the flag that marks it as to be ahT. -/
def eZ (m:aF):Bool:=decide (0 < bits .and .i64 m.flags 8)
/-- From the i-th fQ on, every one that is marked falls out; n: how many ah are still to be looked at. -/
def iR:Nat→aD→Nat→aD
 | 0,b,_=>b
 | n+1,b,i=>match b.ah[i]? with
  | none=>b
  | some m=>if eZ m then iR n (bG b i) i else iR n b (i+1)
def iD (b:aD):aD × cO :=
 if b.ah.countP eZ=0 then (b,aQ 0 0)
 else if 1000000≤b.seq then (b,aQ 3 0)
 else (iR b.ah.length (bH b) 0,aQ 0 (b.ah.countP eZ:Nat))
def aL (a:aJ) (k:Nat) (b:aD):aJ:=⟨a.valid,a.boxes.set k b,a.seen⟩
def lN (a:aJ) (k:Nat) (b:aD) (tt:List Int) (uid mode:Int):aJ × cO :=
 match b.ah.findIdx? (fun m:aF=>decide (m.uid=uid)),a.boxes.findIdx? (fun x:aD=>decide (x.name=tt)) with
 | some i,some t=>match b.ah[i]?,a.boxes[t]? with
  | some m,some bt =>
   if dx bt (if mode=1∧t=k then 0 else 1)=false∨(mode=1∧999999≤b.seq) then (a,aQ 3 0)
   else
    let a1:=if mode=1 then aL a k (bG (bH b) i) else a
    match a1.boxes[t]? with
    | some bu=>(aL a1 t (jR bu m.flags m.text),aQ 0 bu.next)
    | none=>(a1,aQ 1 0)
  | _,_=>(a,aQ 1 0)
 | _,_=>(a,aQ 1 0)
/-- What a command does: the account behind it, and the reply. -/
def dz (a:aJ) (c:iC):aJ × cO :=
 if c.k=0 then qx a c.bx
 else if c.k=9 then (a,⟨0,0,jQ,a.boxes.map fun x:aD=>x.name⟩)
 else match a.boxes.findIdx? (fun x:aD=>decide (x.name=c.bx)) with
  | none=>(a,aQ 1 0)
  | some k=>match a.boxes[k]? with
   | none=>(a,aQ 1 0)
   | some b =>
    if c.k=1 then (⟨a.valid,a.boxes.take k ++ a.boxes.drop (k+1),a.seen⟩,aQ 0 0)
    else if c.k=2 then (if dx b 1 then (aL a k (jR b c.fl c.tx),aQ 0 b.next) else (a,aQ 3 0))
    else if c.k=3 then (aL a k (j6 b c.uid c.mode c.fl c.si).1,(j6 b c.uid c.mode c.fl c.si).2)
    else if c.k=4 then (aL a k (iD b).1,(iD b).2)
    else if c.k=6 then lN a k b c.tt c.uid c.mode
    else if c.k=8 then (a,ni b c.si)
    else if c.k=7 then (a,⟨0,(b.ah.length:Nat),⟨b.name,b.valid,b.next,b.seq,[],[],b.lost⟩,[]⟩)
    else match b.ah.findIdx? (fun m:aF=>decide (m.uid=c.uid)) with
     | none=>(a,aQ 1 0)
     | some i=>(a,⟨0,c.uid,⟨b.name,b.valid,b.next,b.seq,(b.ah.drop i).take 1,[],b.lost⟩,[]⟩)
/- A sJ map beside an JQ boxes, on lists: what a put, a delete, a fQ that comes or goes make of it. -/
abbrev nk (l:List aF):Prop:=l.Pairwise (fun x y=>x.uid < y.uid)
theorem Qk {l:List aF} (hs:nk l) {i j:Nat} {x y:aF} (hi:l[i]?=some x) (hj:l[j]?=some y) (h:i < j):x.uid < y.uid:=by
 obtain ⟨hi',rfl⟩:=gs1 hi
 obtain ⟨hj',rfl⟩:=gs1 hj
 exact List.pairwise_iff_getElem.1 hs i j hi' hj' h
theorem Ql {l:List aF} (hs:nk l) {i j:Nat} {x y:aF} (hi:l[i]?=some x) (hj:l[j]?=some y) (h:x.uid=y.uid):i=j:=by
 rcases Nat.lt_trichotomy i j with h1 | h1 | h1
 ·have:=Qk hs hi hj h1;omega
 ·exact h1
 ·have:=Qk hs hj hi h1;omega
theorem JR {l:List aF} (hs:nk l) (u:Int) (y:aF):l.find? (fun m=>decide (m.uid=u))=some y↔y ∈ l∧y.uid=u:=by
 constructor
 ·intro h
  exact ⟨List.mem_of_find?_eq_some h,by simpa using List.find?_some h⟩
 ·rintro ⟨h1,rfl⟩
  exact Pf hs h1
theorem dB.iff {E:aX} {v:Int} {ms:List aF} (h:dB E v ms) {u:Int} (hu:aB u) (y:aF):cB E v u=some y↔y ∈ ms∧y.uid=u:=by
 rw [h.find u hu]
 exact JR h.sorted u y
theorem Y8 {α:Type} {a b:Option α} (h:∀ y,a=some y↔b=some y):a=b:=by
 cases a with
 | none =>
  cases b with
  | none=>rfl
  | some y=>exact absurd ((h y).2 rfl) (by simp)
 | some x=>exact ((h x).1 rfl).symm
theorem dB.of {E:aX} {v:Int} {ms:List aF} (hs:nk ms) (hi:∀ m ∈ ms,aB m.uid) (h:∀ u,aB u→∀ y,cB E v u=some y↔y ∈ ms∧y.uid=u):dB E v ms :=
 ⟨hs,hi,fun u hu=>Y8 fun y=>(h u hu y).trans (JR hs u y).symm⟩
theorem dB.JU {E:aX} {v v' u:Int} {m:aF} {ms:List aF} (h:dB E v' ms) (hne:v'≠v):dB (j4 E v u m) v' ms :=
 ⟨h.sorted,h.i64,fun x hx=>(zL fun e=>hne e.1).trans (h.find x hx)⟩
theorem dB.Qm {E:aX} {v v' u:Int} {ms:List aF} (h:dB E v' ms) (hne:v'≠v):dB (kJ E v u) v' ms :=
 ⟨h.sorted,h.i64,fun x hx=>(Ba fun e=>hne e.1).trans (h.find x hx)⟩
theorem dB.Y9 {E:aX} {v v':Int} {ms ns:List aF} (h:dB E v' ms) (hne:v'≠v):dB (lD E v ns) v' ms:=by
 unfold lD
 induction ns generalizing E with
 | nil=>exact h
 | cons m ns ih=>exact ih (h.JU hne)
/-- A fQ comes. -/
theorem dB.add {E:aX} {v:Int} {m:aF} {ms:List aF} (h:dB E v ms) (hi:aB m.uid) (hlt:∀ x ∈ ms,x.uid < m.uid):dB (j4 E v m.uid m) v (ms ++ [m]):=by
 refine .of ?_ ?_ fun u hu y=>?_
 ·refine List.pairwise_append.2 ⟨h.sorted,List.pairwise_singleton _ _,fun a ha b hb=>?_⟩
  rw [List.mem_singleton] at hb
  subst hb
  exact hlt a ha
 ·intro x hx
  rcases List.mem_append.1 hx with hx | hx
  ·exact h.i64 x hx
  ·rw [List.mem_singleton] at hx;subst hx;exact hi
 ·by_cases e:u=m.uid
  ·subst e
   rw [Bb]
   constructor
   ·intro h1
    cases h1
    exact ⟨by simp,rfl⟩
   ·rintro ⟨h1,h2⟩
    rcases List.mem_append.1 h1 with h1 | h1
    ·have:=hlt y h1;omega
    ·rw [List.mem_singleton] at h1;rw [h1]
  ·rw [zL fun x=>e x.2,h.iff hu]
   constructor
   ·exact fun ⟨h1,h2⟩=>⟨List.mem_append_left _ h1,h2⟩
   ·rintro ⟨h1,h2⟩
    rcases List.mem_append.1 h1 with h1 | h1
    ·exact ⟨h1,h2⟩
    ·rw [List.mem_singleton] at h1;subst h1;exact absurd h2.symm e
/-- A fQ is put in another's place, with its number. -/
theorem dB.set {E:aX} {v:Int} {m m':aF} {ms:List aF} {i:Nat} (h:dB E v ms) (hm:ms[i]?=some m) (hu:m'.uid=m.uid):dB (j4 E v m.uid m') v (ms.set i m'):=by
 have hil:=(gs1 hm).1
 have hmap:(ms.set i m').map (fun x=>x.uid)=ms.map (fun x=>x.uid):=by
  refine List.ext_getElem? fun j=>?_
  rw [List.getElem?_map,List.getElem?_map]
  by_cases e:j=i
  ·subst e
   rw [List.getElem?_set_self hil,hm]
   simp [hu]
  ·rw [List.getElem?_set_ne (Ne.symm e)]
 have hs:nk (ms.set i m'):=by
  have:=List.pairwise_map.2 h.sorted
  rw [← hmap] at this
  exact List.pairwise_map.1 this
 have qU:aB m.uid:=h.i64 m (List.mem_of_getElem? hm)
 refine .of hs ?_ fun u hu' y=>?_
 ·intro x hx
  obtain ⟨j,hj⟩:=List.mem_iff_getElem?.1 hx
  by_cases e:j=i
  ·subst e
   rw [List.getElem?_set_self hil] at hj
   cases hj
   rw [hu];exact qU
  ·rw [List.getElem?_set_ne (Ne.symm e)] at hj
   exact h.i64 x (List.mem_of_getElem? hj)
 ·by_cases e:u=m.uid
  ·subst e
   rw [Bb]
   constructor
   ·intro h1
    cases h1
    exact ⟨List.mem_of_getElem? (List.getElem?_set_self hil),hu⟩
   ·rintro ⟨h1,h2⟩
    obtain ⟨j,hj⟩:=List.mem_iff_getElem?.1 h1
    have:=Ql hs hj (List.getElem?_set_self hil) (h2.trans hu.symm)
    subst this
    rw [List.getElem?_set_self hil] at hj
    exact hj
  ·rw [zL fun x=>e x.2,h.iff hu']
   constructor
   ·rintro ⟨h1,h2⟩
    obtain ⟨j,hj⟩:=List.mem_iff_getElem?.1 h1
    refine ⟨List.mem_of_getElem? (i:=j) ?_,h2⟩
    rw [List.getElem?_set_ne]
    ·exact hj
    ·intro e2
     subst e2
     rw [hm] at hj
     cases hj
     exact e h2.symm
   ·rintro ⟨h1,h2⟩
    obtain ⟨j,hj⟩:=List.mem_iff_getElem?.1 h1
    by_cases e2:j=i
    ·subst e2
     rw [List.getElem?_set_self hil] at hj
     cases hj
     exact absurd (h2.symm.trans hu) e
    ·rw [List.getElem?_set_ne (Ne.symm e2)] at hj
     exact ⟨List.mem_of_getElem? hj,h2⟩
/-- A fQ goes. -/
theorem dB.del {E:aX} {v:Int} {m:aF} {ms:List aF} {i:Nat} (h:dB E v ms) (hm:ms[i]?=some m):dB (kJ E v m.uid) v (ms.take i ++ ms.drop (i+1)):=by
 rw [← List.eraseIdx_eq_take_drop_succ]
 refine .of (h.sorted.sublist (List.eraseIdx_sublist _ _)) (fun x hx=>h.i64 x (List.mem_of_mem_eraseIdx hx)) fun u hu y=>?_
 by_cases e:u=m.uid
 ·subst e
  rw [Fv]
  constructor
  ·intro h1;cases h1
  ·rintro ⟨h1,h2⟩
   obtain ⟨j,hj,hy⟩:=List.mem_eraseIdx_iff_getElem?.1 h1
   exact absurd (Ql h.sorted hy hm h2) hj
 ·rw [Ba fun x=>e x.2,h.iff hu]
  constructor
  ·rintro ⟨h1,h2⟩
   obtain ⟨j,hj⟩:=List.mem_iff_getElem?.1 h1
   refine ⟨List.mem_eraseIdx_iff_getElem?.2 ⟨j,?_,hj⟩,h2⟩
   intro e2
   subst e2
   rw [hm] at hj
   cases hj
   exact e h2.symm
  ·exact fun ⟨h1,h2⟩=>⟨List.mem_of_mem_eraseIdx h1,h2⟩
theorem dB.lay {E:aX} {v:Int} {ms:List aF} (hs:nk ms) (hi:∀ m ∈ ms,aB m.uid) (h0:∀ u,aB u→cB E v u=none):dB (lD E v ms) v ms :=
 ⟨hs,hi,fun u hu=>by rw [Yi hs u,h0 u hu,Option.or_none];rfl⟩
/-- The fQ with a number goes out of a box. -/
def yC (b:aD) (u:Int):aD:=match b.ah.findIdx? (fun m=>decide (m.uid=u)) with
 | some i=>bG b i
 | none=>b
theorem Qn {ms:List aF} (hs:nk ms) {i:Nat} {m:aF} (hm:ms[i]?=some m):ms.findIdx? (fun x=>decide (x.uid=m.uid))=some i:=by
 obtain ⟨hi,rfl⟩:=gs1 hm
 refine List.findIdx?_eq_some_iff_getElem.2 ⟨hi,by simp,fun j hj=>?_⟩
 have:=List.pairwise_iff_getElem.1 hs j i (by omega) hi hj
 simp only [decide_eq_true_eq]
 omega
theorem Qo {b:aD} (hs:nk b.ah) {i:Nat} {m:aF} (hm:b.ah[i]?=some m):yC b m.uid=bG b i:=by
 unfold yC
 rw [Qn hs hm]
theorem JV {b:aD} {i:Nat} {m:aF} (hm:b.ah[i]?=some m):(bG b i).ah=b.ah.take i ++ b.ah.drop (i+1):=by
 unfold bG
 rw [hm]
theorem Za {l:List aF} (hs:nk l) (i:Nat):nk (l.take i ++ l.drop (i+1)):=by
 rw [← List.eraseIdx_eq_take_drop_succ]
 exact hs.sublist (List.eraseIdx_sublist _ _)
/-- ahU: the marked ones go, one behind the other. -/
theorem JW:∀ (n:Nat) (b:aD) (i:Nat),nk b.ah→n+i=b.ah.length→iR n b i=(((b.ah.drop i).filter eZ).map fun m=>m.uid).foldl yC b
 | 0,b,i,hs,hn=>by
  rw [List.drop_eq_nil_of_le (by omega)]
  rfl
 | n+1,b,i,hs,hn=>by
  have hi:i < b.ah.length:=by omega
  have hm:=aK hi
  rw [iR,hm,List.drop_eq_getElem_cons hi]
  generalize b.ah[i]=m at hm
  cases hd:eZ m with
  | true =>
   have e1:=JV hm
   rw [List.filter_cons_of_pos hd,List.map_cons,List.foldl_cons,Qo hs hm]
   show (if eZ m=true then _ else _)=_
   rw [if_pos hd,JW n (bG b i) i (by rw [e1];exact Za hs i) (by rw [e1];simp;omega),e1]
   rw [List.drop_left' (by simp;omega)]
  | false =>
   rw [List.filter_cons_of_neg (by simp [hd])]
   show (if eZ m=true then _ else _)=_
   rw [if_neg (by simp [hd])]
   exact JW n b (i+1) hs (by omega)
/- An account that is turned in place: boxes, ah apart by blocks; texts and au, which nobody turns, by the type of their cells. -/
def Any:Nat→Prop:=fun _=>True
/-- Blocks of a type stay. -/
def bT (w w':World) (t:TypeId):Prop:=∀ k,Ty w k t→w'.heap[k]?=w.heap[k]?
theorem bT.refl (w:World) (t:TypeId):bT w w t:=fun _ _=>rfl
theorem Zb {w w':World} {t:TypeId} {k:Nat} (h:bT w w' t) (hk:Ty w k t):Ty w' k t:=by
 obtain ⟨cs,fz,e⟩:=hk
 exact ⟨cs,fz,(h k ⟨cs,fz,e⟩).trans e⟩
theorem bT.trans {w w' w'':World} {t:TypeId} (h:bT w w' t) (h':bT w' w'' t):bT w w'' t:=fun k hk=>(h' k (Zb h hk)).trans (h k hk)
theorem mq {w:World} {k:Nat} {t:TypeId} (h:Ty w k t):k < w.heap.size:=by
 obtain ⟨cs,fz,e⟩:=h
 exact lt_of_heap e
theorem gG {w w':World} {t:TypeId} (h:Below w.heap.size w w'):bT w w' t:=fun k hk=>h.block k (mq hk)
theorem iT {w:World} {t e:TypeId} {g i:Nat} {x:Value} (ht:Ty w g e) (hne:t≠e):bT w (w.setCell ⟨g,i,none⟩ x) t:=by
 intro k ⟨cs,fz,hk⟩
 exact Below.heap_setCell _ _ _ _ (show k≠g from fun e2=>by subst e2;exact kN hk ht hne)
/-- Fj whose texts lie in blocks of bytes, any. -/
def sK (w:World) (c:List Value) (m:aF) (_:Nat→Prop):Prop:=je w c m Any
abbrev ji:=Ow 124 4 sK
theorem wH {w w':World} {c:List Value} {m:aF} {S S':Nat→Prop} (h:sK w c m S) (ht:bT w w' 5):sK w' c m S' :=
 let ⟨u,h0,h1,r⟩:=h;⟨u,h0,mR h1 ht,r⟩
theorem JX {w w':World} {S:Nat→Prop} {v:Value} {l:List aF} (h:ji w S v l) (hm:∀ k,S k→k < w.heap.size→w'.heap[k]?=w.heap[k]?) (ht:bT w w' 5):ji w' S v l:=by
 rcases h with h | ⟨g,cap,cur,cs,fs,hv,hh,h1,h2,h3,h4,h5,h6,h7⟩
 ·exact .inl h
 ·exact .inr ⟨g,cap,cur,cs,fs,hv,(hm g h4 (lt_of_heap hh)).trans hh,h1,h2,h3,h4,fun i x hx=>⟨wH (h5 i x hx).1 ht,(h5 i x hx).2⟩,h6,h7⟩
theorem Zc {w:World} {S:Nat→Prop} {v:Value} {l:List aF} (h:jO w S v l):ji w S v l:=by
 rcases h with h | ⟨g,cap,cur,cs,fs,hv,hh,h1,h2,h3,h4,h5,h6,h7⟩
 ·exact .inl h
 ·exact .inr ⟨g,cap,cur,cs,fs,hv,hh,h1,h2,h3,h4,fun i x hx=>⟨let ⟨u,e0,e1,r⟩:=(h5 i x hx).1;⟨u,e0,e1.mono fun _ _=>trivial,r⟩,(h5 i x hx).2⟩,h6,h7⟩
theorem ji.v {w:World} {S:Nat→Prop} {v:Value} {l:List aF} (h:ji w S v l):bY w v l:=Ow.rd (fun _ _ _ _ h=>je.rd h) h
/-- ahV that are read, in a block of au that nobody has closed: a slice from its middle may be. -/
def fP (w:World) (S:Nat→Prop) (v:Value) (l:List bf):Prop:=bO w v l∧∀ a n c,v=.slice (some a) n c→S a.block∧∃ cur,w.heap[a.block]?=some (.cells cur 126 (0,0))∧a.spot=none∧a.off+c * 2≤cur.size
theorem F9 {w:World} {S:Nat→Prop} {v:Value} {l:List bf} (h:fB w S v l):fP w S v l:=by
 refine ⟨Ow.rd (fun _ _ _ _ h=>h) h,fun a n c hv=>?_⟩
 rcases h with ⟨h,-⟩ | ⟨g,cap,cur,cs,fs,hv',hh,-,-,hs,hS,-⟩
 ·rw [hv] at h;cases h
 ·rw [hv] at hv'
  simp only [Value.slice.injEq,Option.some.injEq] at hv'
  obtain ⟨rfl,-,rfl⟩:=hv'
  exact ⟨hS,cur,hh,rfl,by simp only;omega⟩
theorem fP.mono {w:World} {S S':Nat→Prop} {v:Value} {l:List bf} (h:fP w S v l) (hS:∀ k,S k→S' k):fP w S' v l:=⟨h.1,fun a n c e=>⟨hS _ (h.2 a n c e).1,(h.2 a n c e).2⟩⟩
theorem Ga {w:World} {S:Nat→Prop} {v:Value} {l:List bf} (h:fP w S v l):fP w (fun k=>S k∧k < w.heap.size) v l:=⟨h.1,fun a n c e=>let ⟨h1,cur,hh,r⟩:=h.2 a n c e;⟨⟨h1,lt_of_heap hh⟩,cur,hh,r⟩⟩
theorem zY {w w':World} {S:Nat→Prop} {v:Value} {l:List bf} (h:fP w S v l) (ht:bT w w' 126):fP w' S v l:=by
 obtain ⟨⟨a,cap,cs,hv,h1,h2,h3,h4,h5⟩,hty⟩:=h
 refine ⟨⟨a,cap,cs,hv,h1,h2,h3,h4,fun hp=>?_⟩,fun a n c e=>let ⟨h1,cur,hh,r⟩:=hty a n c e;⟨h1,cur,(ht _ ⟨_,_,hh⟩).trans hh,r⟩⟩
 obtain ⟨b,off,ha,hb,hc⟩:=h5 hp
 obtain ⟨-,cells,hh,-⟩:=hty ⟨b,off,none⟩ l.length cap (by rw [hv,ha])
 have hh':=(ht b ⟨_,_,hh⟩).trans hh
 refine ⟨b,off,ha,lt_of_heap hh',fun i j u hi hu=>?_⟩
 have:=hc i j u hi hu
 rw [cell_of_row w b _ cells _ (0,0) hh] at this
 rw [cell_of_row w' b _ cells _ (0,0) hh']
 exact this
/-- A box whose ah are the JQ own. -/
def gT (w:World) (c:List Value) (b:aD) (S:Nat→Prop):Prop :=
 ∃ u0 u1 u2,c=[u0,.int .i64 b.valid,.int .i64 b.next,.int .i64 b.seq,u1,u2,.int .i64 b.lost]∧RO w Any u0 b.name∧ji w S u1 b.ah∧fP w S u2 b.au∧aB b.valid∧aB b.next∧aB b.seq∧aB b.lost
abbrev jS:=Ow 37 7 gT
theorem JY {w w':World} {c:List Value} {b:aD} {S:Nat→Prop} (h:gT w c b S) (hm:∀ k,S k→k < w.heap.size→w'.heap[k]?=w.heap[k]?) (ht:bT w w' 5) (hg:bT w w' 126):gT w' c b S :=
 let ⟨u0,u1,u2,h0,h1,h2,h3,r⟩:=h;⟨u0,u1,u2,h0,mR h1 ht,JX h2 hm ht,zY h3 hg,r⟩
theorem Zd {w:World} {c:List Value} {b:aD} {S:Nat→Prop} (h:dh w c b S):gT w c b S :=
 let ⟨u0,u1,u2,_,_,_,h0,h1,h2,h3,_,d1,d2,r⟩:=h;⟨u0,u1,u2,h0,h1.mono fun _ _=>trivial,(Zc h2).mono fun x hx=>(d1 x hx).1,(F9 h3).mono d2,r⟩
theorem gT.rd {w:World} {c:List Value} {b:aD} {S:Nat→Prop} (h:gT w c b S):vU w c b :=
 let ⟨u0,u1,u2,h0,h1,h2,h3,r⟩:=h;⟨u0,u1,u2,h0,h1.bs,h2.v,h3.1,r⟩
theorem Ze {w:World} {S:Nat→Prop} {v:Value} {l:List aD} (h:l7 w S v l):jS w S v l:=by
 rcases h with h | ⟨g,cap,cur,cs,fs,hv,hh,h1,h2,h3,h4,h5,h6,h7⟩
 ·exact .inl h
 ·exact .inr ⟨g,cap,cur,cs,fs,hv,hh,h1,h2,h3,h4,fun i x hx=>⟨Zd (h5 i x hx).1,(h5 i x hx).2⟩,h6,h7⟩
theorem Gb {w w':World} {S:Nat→Prop} {v:Value} {l:List aD} (h:jS w S v l) (hm:∀ k,S k→k < w.heap.size→w'.heap[k]?=w.heap[k]?) (ht:bT w w' 5) (hg:bT w w' 126):jS w' S v l:=by
 rcases h with h | ⟨g,cap,cur,cs,fs,hv,hh,h1,h2,h3,h4,h5,h6,h7⟩
 ·exact .inl h
 ·refine .inr ⟨g,cap,cur,cs,fs,hv,(hm g h4 (lt_of_heap hh)).trans hh,h1,h2,h3,h4,fun i x hx=>⟨?_,(h5 i x hx).2⟩,h6,h7⟩
  have hi:i < l.length:=(gs1 hx).1
  exact JY (h5 i x hx).1 (fun k hk hlt=>hm k (h6 i k hi hk).1 hlt) ht hg
theorem jS.v {w:World} {S:Nat→Prop} {v:Value} {l:List aD} (h:jS w S v l):cK w v l:=Ow.rd (fun _ _ _ _ h=>gT.rd h) h
/-- One box behind a pointer: cells from o on in the block g; its ahW block lies in S. -/
def aN (w:World) (S:Nat→Prop) (g o:Nat) (b:aD):Prop :=
 ∃ cur c,w.heap[g]?=some (.cells cur 37 (0,0))∧gT w c b S∧∀ j u,c[j]?=some u→cur[o+j]?=some u
/-- What a call turns that is given one box: that rV seven cells, and blocks in S; nothing else that is old. -/
def Turns (w w':World) (S:Nat→Prop) (g o:Nat):Prop :=
 w.heap.size≤w'.heap.size∧(∀ k,k < w.heap.size→k≠g→¬ S k→w'.heap[k]?=w.heap[k]?)∧bT w w' 5∧bT w w' 126 ∧
  (∀ cur,w.heap[g]?=some (.cells cur 37 (0,0))→∃ cur',w'.heap[g]?=some (.cells cur' 37 (0,0))∧cur'.size=cur.size∧∀ i,(i < o∨o+7≤i)→cur'[i]?=cur[i]?)∧w'.os=w.os∧w'.tape=w.tape∧w'.output=w.output
/-- The i-th box out of the list, behind its pointer; the blocks of its ah are none of the others'. -/
theorem jS.at {w:World} {S:Nat→Prop} {v:Value} {l:List aD} (h:jS w S v l) {i:Nat} {b:aD} (hb:l[i]?=some b) :
  ∃ g cap S1,v=.slice (some ⟨g,0,none⟩) l.length cap∧S g∧aN w S1 g (i * 7) b∧(∀ k,S1 k→S k∧k≠g) ∧
   ∀ (w':World) (b':aD) (sM:Nat→Prop),Turns w w' S1 g (i * 7)→aN w' sM g (i * 7) b'→(∀ k,sM k→S1 k∨w.heap.size≤k)→jS w' (fun k=>S k∨w.heap.size≤k) v (l.set i b'):=by
 rcases h with ⟨_,h⟩ | ⟨g,cap,cur,cs,fs,hv,hh,h1,h2,h3,h4,h5,h6,h7⟩
 ·subst h;simp at hb
 have hi:i < l.length:=(gs1 hb).1
 refine ⟨g,cap,fun k=>fs i k,hv,h4,⟨cur,cs i,hh,(h5 i b hb).1,(h5 i b hb).2.2⟩,fun k hk=>h6 i k hi hk,fun w' b' sM ht hp hs0=>?_⟩
 have hs:∀ k,sM k→(fs i k∨w.heap.size≤k)∧k≠g:=fun k h=>⟨hs0 k h,fun e=>by subst e;exact (hs0 _ h).elim (fun h'=>(h6 i _ hi h').2 rfl) fun h'=>by have:=lt_of_heap hh;omega⟩
 obtain ⟨t0,t1,t2,t3,t4,-⟩:=ht
 obtain ⟨cur',hh',hsz',hout⟩:=t4 cur hh
 obtain ⟨Qp,c,e2,hq,hc⟩:=hp
 rw [hh'] at e2
 cases e2
 -- ahX of the others,held to blocks that were there
 refine .inr ⟨g,cap,cur',fun j=>if j=i then c else cs j,fun j=>if j=i then sM else fun k=>fs j k∧k < w.heap.size,by rw [List.length_set];exact hv,hh',by rw [List.length_set];exact h1,h2,hsz'.trans h3,.inl h4,fun j x hx=>?_,fun j k hj hk=>?_,fun j m k hj hm hne hk=>?_⟩
 ·by_cases e:j=i
  ·subst e
   rw [List.getElem?_set_self hi] at hx
   cases hx
   simp only [if_pos]
   exact ⟨hq,by obtain ⟨u0,u1,u2,rfl,_⟩:=hq;rfl,hc⟩
  ·rw [List.getElem?_set_ne (Ne.symm e)] at hx
   simp only [if_neg e]
   have hj:j < l.length:=(gs1 hx).1
   obtain ⟨q0,q1,q2⟩:=h5 j x hx
   refine ⟨?_,q1,fun m u hu=>?_⟩
   ·obtain ⟨u0,u1,u2,e0,e1,em,eg,er⟩:=q0
    refine ⟨u0,u1,u2,e0,mR e1 t2,?_,zY (Ga eg) t3,er⟩
    have hk:ji w' (fs j) u1 x.ah:=JX em (fun k hk hlt=>t1 k hlt (h6 j k hj hk).2 (fun hk2=>h7 j i k hj hi e hk hk2)) t2
    rcases em with ⟨n1,n2⟩ | ⟨g',cap',cur',cs',fs',m0,m1,m2,m3,m4,m5,m6,m7⟩
    ·exact .inl ⟨n1,n2⟩
    ·exact .inr ⟨g',cap',cur',cs',fun _ _=>False,m0,(t1 g' (lt_of_heap m1) (h6 j g' hj m5).2 (fun hk2=>h7 j i g' hj hi e m5 hk2)).trans m1,m2,m3,m4,⟨m5,lt_of_heap m1⟩,fun p y hy=>⟨wH (m6 p y hy).1 t2,(m6 p y hy).2⟩,fun _ _ _ hF=>hF.elim,fun _ _ _ _ _ _ hF=>hF.elim⟩
   ·have ahY:m < 7:=by
     have:=(gs1 hu).1
     omega
    rw [hout (j * 7+m) (by rcases Nat.lt_or_gt_of_ne e with e | e <;> omega)]
    exact q2 m u hu
 ·rw [List.length_set] at hj
  by_cases e:j=i
  ·simp only [if_pos e] at hk
   obtain ⟨hk1,hk2⟩:=hs k hk
   exact ⟨hk1.elim (fun h=>.inl (h6 i k hi h).1) .inr,hk2⟩
  ·simp only [if_neg e] at hk
   exact ⟨.inl (h6 j k hj hk.1).1,(h6 j k hj hk.1).2⟩
 ·rw [List.length_set] at hj hm
  by_cases e:j=i
  ·have e2:m≠i:=fun e2=>hne (e.trans e2.symm)
   simp only [if_pos e,if_neg e2] at hk ⊢
   intro hk2
   rcases (hs k hk).1 with h | h
   ·exact h7 m i k hm hi e2 hk2.1 h
   ·exact absurd hk2.2 (by omega)
  ·simp only [if_neg e] at hk
   by_cases e2:m=i
   ·simp only [if_pos e2]
    intro hk2
    rcases (hs k hk2).1 with h | h
    ·exact h7 j i k hj hi e hk.1 h
    ·exact absurd hk.2 (by omega)
   ·simp only [if_neg e2]
    exact fun hk2=>h7 j m k hj hm hne hk.1 hk2.1
/- A box behind a pointer: what it reads, what a call that turns it leaves. -/
section
variable {w w' w'' : World} {S S' S1 : Nat → Prop} {g o : Nat} {b : aD}
theorem Turns.refl (w:World) (S:Nat→Prop) (g o:Nat):Turns w w S g o:=⟨Nat.le_refl _,fun _ _ _ _=>rfl,bT.refl _ _,bT.refl _ _,fun cur h=>⟨cur,h,rfl,fun _ _=>rfl⟩,rfl,rfl,rfl⟩
/-- One call behind the other; what is new behind the first may be turned by the second. -/
theorem Turns.trans (h:Turns w w' S g o) (h':Turns w' w'' S' g o) (hS:∀ k,S' k→S k∨w.heap.size≤k):Turns w w'' S g o:=by
 refine ⟨Nat.le_trans h.1 h'.1,fun k hk hg hs=>?_,h.2.2.1.trans h'.2.2.1,h.2.2.2.1.trans h'.2.2.2.1,fun cur hc=>?_,h'.2.2.2.2.2.1.trans h.2.2.2.2.2.1,h'.2.2.2.2.2.2.1.trans h.2.2.2.2.2.2.1,h'.2.2.2.2.2.2.2.trans h.2.2.2.2.2.2.2⟩
 ·exact (h'.2.1 k (Nat.lt_of_lt_of_le hk h.1) hg (fun h2=>(hS k h2).elim hs (fun h3=>by omega))).trans (h.2.1 k hk hg hs)
 ·obtain ⟨c1,e1,z1,o1⟩:=h.2.2.2.2.1 cur hc
  obtain ⟨c2,e2,z2,o2⟩:=h'.2.2.2.2.1 c1 e1
  exact ⟨c2,e2,z2.trans z1,fun i hi=>(o2 i hi).trans (o1 i hi)⟩
theorem oU (h:Below w.heap.size w w'):Turns w w' S g o :=
 ⟨h.size,fun k hk _ _=>h.block k hk,gG h,gG h,fun cur hc=>⟨cur,(h.block g (lt_of_heap hc)).trans hc,rfl,fun _ _=>rfl⟩,h.os,h.tape,h.output⟩
/-- A field of the box is written. -/
theorem Zf {i:Nat} {x:Value} (ht:Ty w g 37) (hi:o≤i) (hi2:i < o+7):Turns w (w.setCell ⟨g,i,none⟩ x) S g o:=by
 refine ⟨by rw [aZ];exact Nat.le_refl _,fun k _ hg _=>Below.heap_setCell _ _ _ _ hg,iT ht (by decide),iT ht (by decide),fun cur hc=>⟨_,aP hc,by rw [Array.size_setIfInBounds],fun j hj=>?_⟩,rfl,rfl,rfl⟩
 rw [Array.getElem?_setIfInBounds_ne (by omega)]
/-- A field of a fQ is written, in a block of ah. -/
theorem Qq {m i:Nat} {x:Value} (ht:Ty w m 124) (hm:S m∨w.heap.size≤m):Turns w (w.setCell ⟨m,i,none⟩ x) S g o:=by
 have hlt:=mq ht
 refine ⟨by rw [aZ];exact Nat.le_refl _,fun k _ _ hs=>Below.heap_setCell _ _ _ _ (show k≠m from fun e=>hm.elim (fun h=>hs (e ▸ h)) (fun h=>by omega)),iT ht (by decide),iT ht (by decide),fun cur hc=>⟨cur,?_,rfl,fun _ _=>rfl⟩,rfl,rfl,rfl⟩
 exact bP hc (fun e=>by subst e;exact kN hc ht (by decide))
theorem aN.ty (h:aN w S g o b):Ty w g 37:=let ⟨_,_,h,_⟩:=h;⟨_,_,h⟩
/-- Its seven cells. -/
theorem aN.cells (h:aN w S g o b):∃ u0 u1 u2,RO w Any u0 b.name∧ji w S u1 b.ah∧fP w S u2 b.au∧(aB b.valid∧aB b.next∧aB b.seq∧aB b.lost) ∧
  w.cell? ⟨g,o,none⟩=some u0∧w.cell? ⟨g,o+1,none⟩=some (.int .i64 b.valid)∧w.cell? ⟨g,o+2,none⟩=some (.int .i64 b.next)∧w.cell? ⟨g,o+3,none⟩=some (.int .i64 b.seq) ∧
  w.cell? ⟨g,o+4,none⟩=some u1∧w.cell? ⟨g,o+5,none⟩=some u2∧w.cell? ⟨g,o+6,none⟩=some (.int .i64 b.lost):=by
 obtain ⟨cur,c,hh,⟨u0,u1,u2,rfl,h1,h2,h3,hi⟩,hc⟩:=h
 have hw:=fun j=>cell_of_row w g j cur _ (0,0) hh
 exact ⟨u0,u1,u2,h1,h2,h3,hi,(hw _).trans (hc 0 _ rfl),(hw _).trans (hc 1 _ rfl),(hw _).trans (hc 2 _ rfl),(hw _).trans (hc 3 _ rfl),(hw _).trans (hc 4 _ rfl),(hw _).trans (hc 5 _ rfl),(hw _).trans (hc 6 _ rfl)⟩
/-- None of its block is frozen. -/
theorem aN.open (h:aN w S g o b) (i:Nat):w.frozen? ⟨g,i,none⟩=false:=by
 obtain ⟨cur,c,hh,_⟩:=h
 simp [World.frozen?,hh]
/-- A box stays while another call turns nothing of it. -/
theorem aN.qy (h:aN w S g o b) (hg:w'.heap[g]?=w.heap[g]?) (hm:∀ k,S k→k < w.heap.size→w'.heap[k]?=w.heap[k]?) (ht:bT w w' 5) (hq:bT w w' 126):aN w' S g o b :=
 let ⟨cur,c,hh,h1,h2⟩:=h;⟨cur,c,hg.trans hh,JY h1 hm ht hq,h2⟩
theorem aN.below (h:aN w S g o b) (hb:Below w.heap.size w w'):aN w' S g o b :=
 h.qy (let ⟨_,_,hh,_⟩:=h;hb.block g (lt_of_heap hh)) (fun k _ hk=>hb.block k hk) (gG hb) (gG hb)
/-- As a value. -/
theorem aN.v (h:aN w S g o b):∃ u0 u1 u2,bK w (.agg #[u0,.int .i64 b.valid,.int .i64 b.next,.int .i64 b.seq,u1,u2,.int .i64 b.lost]) b∧w.cell? ⟨g,o,none⟩=some u0∧w.cell? ⟨g,o+4,none⟩=some u1∧w.cell? ⟨g,o+5,none⟩=some u2:=by
 obtain ⟨u0,u1,u2,h1,h2,h3,hi,c0,-,-,-,c4,c5,-⟩:=h.cells
 exact ⟨u0,u1,u2,⟨u0,u1,u2,rfl,h1.bs,h2.v,h3.1,hi⟩,c0,c4,c5⟩
/-- The rV number is written. -/
theorem aN.seq {n:Int} (h:aN w S g o b) (hS:¬ S g) (hn:aB n) (ho:∀ cur t,w.heap[g]?=some (.cells cur t (0,0))→o+7≤cur.size):aN (w.setCell ⟨g,o+3,none⟩ (.int .i64 n)) S g o ⟨b.name,b.valid,b.next,n,b.ah,b.au,b.lost⟩:=by
 have hty:=h.ty
 obtain ⟨cur,c,hh,⟨u0,u1,u2,rfl,h1,h2,h3,i0,i1,i2,i3⟩,hc⟩:=h
 have hsz:=ho cur _ hh
 refine ⟨_,_,aP hh,⟨u0,u1,u2,rfl,mR h1 (iT hty (by decide)),JX h2 (fun k hk _=>Below.heap_setCell _ _ _ _ (show k≠g from fun e=>hS (e ▸ hk))) (iT hty (by decide)),zY h3 (iT hty (by decide)),i0,i1,hn,i3⟩,fun j u hj=>?_⟩
 by_cases e:j=3
 ·subst e
  cases hj
  rw [Array.getElem?_setIfInBounds_self_of_lt (by omega)]
 ·rw [Array.getElem?_setIfInBounds_ne (by omega)]
  refine hc j u ?_
  match j,hj with
  | 0,hj=>exact hj
  | 1,hj=>exact hj
  | 2,hj=>exact hj
  | 3,_=>exact absurd rfl e
  | 4,hj=>exact hj
  | 5,hj=>exact hj
  | 6,hj=>exact hj
  | j+7,hj=>simp at hj
end
end Go.Proofs.YtlneebmlhblleaaGreat
