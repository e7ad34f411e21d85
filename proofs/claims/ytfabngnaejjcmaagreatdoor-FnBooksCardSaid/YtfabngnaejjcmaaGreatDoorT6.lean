/- The proof's texts, part 6. -/
import Derived.Test.YtfabngnaejjcmaaGreatDoorT2
import Derived.Test.YtfabngnaejjcmaaGreatDoorT3
import Derived.Test.YtfabngnaejjcmaaGreatDoorT5
namespace Go.Proofs.YtfabngnaejjcmaaGreatDoor
open Go.RowKit
set_option linter.unusedVariables false
set_option linter.unusedSimpArgs false
set_option maxHeartbeats 4000000
set_option maxRecDepth 100000
/- What ajG of package spec answers. -/
theorem ZX {l:List Int} (h:Oct l) (i:Nat) (x:Int) (hx:0<=x/\x<=255):Oct (l.set i x):=by
 intro y hy;rcases List.mem_or_eq_of_mem_set hy with h' | rfl
 ·exact h y h'
 ·exact hx
/-- A byte of a row that the call owns is written. -/
theorem Own.set {w:World} {gb n cap i:Nat} {l:List Int} {x:Int} (h:Own w gb (.slice (some ⟨gb,0,none⟩) n cap) l) (hx:0<=x/\x<=255) :
  Own (w.setCell ⟨gb,i,none⟩ (.int .u8 x)) gb (.slice (some ⟨gb,0,none⟩) n cap) (l.set i x):=by
 rcases h.2 with⟨h',_⟩ | ⟨cap',cur,hv,hh,h1,h2,h3,h4⟩
 ·simp at h'
 ·simp only[Value.slice.injEq,true_and] at hv
  obtain⟨rfl,rfl⟩:=hv;refine⟨ZX h.1 i x hx,.inr ⟨cap,_,by simp,heap_setCell_same w gb i cur _ _ hh,by simpa using h1,h2,by simpa using h3,?_⟩⟩;rw[Array.toList_setIfInBounds,List.length_set,List.take_set,h4];simp[vals,List.map_set]
theorem Own.cut {w:World} {gb n cap:Nat} {l:List Int} (h:Own w gb (.slice (some ⟨gb,0,none⟩) n cap) l) (i:Nat) (hi:i<=l.length) :
  Own w gb (.slice (some ⟨gb,0,none⟩) i cap) (l.take i):=by
 rcases h.2 with⟨h',_⟩ | ⟨cap',cur,hv,hh,h1,h2,h3,h4⟩
 ·simp at h'
 ·simp only[Value.slice.injEq,true_and] at hv
  obtain⟨rfl,rfl⟩:=hv;have hl:(l.take i).length=i:=by simp;omega
  refine⟨Y6 h.1 i,.inr ⟨cap,cur,by rw[hl],hh,by rw[hl];omega,h2,h3,?_⟩⟩;rw[hl];have:=congrArg (List.take i) h4;rw[List.take_take,Nat.min_eq_left hi] at this;rw[this];simp[vals,List.map_take]
theorem aS.set {w0 w:World} {g gb i:Nat} {cv x:Value} {L:List Int} (h:aS w0 w g cv L) (h1:w0.heap.size<=gb) (hne:g≠gb):aS w0 (w.setCell ⟨gb,i,none⟩ x) g cv L:=by
 obtain⟨hg,hB,hbs,j,q,h0,h2,hh⟩:=h;exact⟨hg,hB.setCell h1 _,hbs,j,q,h0,h2,(Below.heap_setCell w ⟨gb,i,none⟩ x g hne).trans hh⟩
theorem aS.drew {w0 w:World} {g:Nat} {cv:Value} {L:List Int} (h:aS w0 w g cv L):aS w0 w.drew g cv L :=
 let ⟨hg,hB,hbs,j,q,h0,h2,hh⟩:=h;⟨hg,hB.drew,hbs,j,q,h0,h2,hh⟩
/- What slices.IndexFunc and slices.ContainsFunc of ah and of what went do. -/
open Go.RowKit Go.Shelf
theorem Al {α:Type} {p:α->Bool} {l:List α} {k:Nat} {x:α} (hk:k < l.length) (hx:l[k]?=some x) (h:p x=true) (hA:∀j x,j < k->l[j]?=some x->p x=false):bD p l=k:=by
 have:l.findIdx? p=some k:=by
  rw[List.findIdx?_eq_some_iff_getElem];refine⟨hk,by rw[bK hk] at hx;cases hx;exact h,λj hj=>?_⟩;rw[hA j _ hj (bK (by omega))];simp
 simp[bD,this]
theorem Am {α:Type} {p:α->Bool} {l:List α} (hA:∀j x,j < l.length->l[j]?=some x->p x=false):bD p l = -1:=by
 have:l.findIdx? p=none:=by
  rw[List.findIdx?_eq_none_iff];intro x hx;obtain⟨j,hj,rfl⟩:=List.getElem_of_mem hx;exact hA j _ hj (bK hj)
 simp[bD,this]
def Dl (_:World) (v:Value) (x:bE):Prop:=v=.agg #[.int .i64 x.uid,.int .i64 x.seq]
theorem ZY (g:Nat) (lb:Array Value) (p:aL->Bool) (v:Value) (l:List aL) (w:World) (hv:jE w v l) (eg:∀args w,(callFunc g args).run Tryz.prog w=.ok (.enter g args) w)
  (hp:∀wi x u,Below w.heap.size w wi->yh wi u x->Calls Tryz.prog g (#[u] ++ lb) wi λe w'=>e=.returned (.bool (p x))/\Below wi.heap.size wi w') :
  Calls Tryz.prog 192 #[v,.func (.func g) #[] lb] w λe w'=>e=.returned (.int .i64 (bD p l))/\Below w.heap.size w w':=by
 have HV:Hid (∀wi,Below w.heap.size w wi->jE wi v l):=λwi h=>hv.below kP h;have HP:Hid (∀wi x u,Below w.heap.size w wi->yh wi u x->Calls Tryz.prog g (#[u] ++ lb) wi λe w'=>e=.returned (.bool (p x))/\Below wi.heap.size wi w'):=hp;obtain⟨a,cap,rfl,hlc,hcm⟩:=hv.form;clear hv hp
 go_enter Tryz.func192,Tryz.ntmps192;go_wp2
 go_loopw [5,8] (λ_ i wr=>∃k:Nat,k<=l.length/\i=.int .i64 k/\Hid (∀j x,j < k->l[j]?=some x->p x=false)/\Hid (Below w.heap.size w wr)) (λ_ i _=>l.length - (intOf i).toNat)
 case atStart=>exact⟨0,Nat.zero_le _,rfl,(λj x hj=>absurd hj (Nat.not_lt_zero _)),Below.refl _ _⟩
 case round =>
  obtain⟨k,hk,rfl,hA,hB⟩:=hrel
  by_cases hlt:k < l.length
  ·obtain⟨x,hx⟩:∃x,l[k]?=some x:=⟨l[k],bK hlt⟩
   obtain⟨b,off,cap',u,hv',hlb,d0,d1,d2,d3,hu,i0,i1,i2⟩:=jE.cell (HV.out wr hB.out) k x hx;simp only[Value.slice.injEq,true_and] at hv';obtain⟨rfl,rfl⟩:=hv';obtain⟨ua,un,uc,rfl⟩:=hu.aP;have hcall:=HP.out wr x (.agg #[.int .i64 x.uid,.int .i64 x.flags,.int .i64 x.seq,.slice ua un uc]) hB.out ⟨_,rfl,hu,i0,i1,i2⟩;have HX:Hid (l[k]?=some x):=hx;clear hx;cases hq:p x with
   | true =>
    rw[hq] at hcall;have HQ:Hid (p x=true):=hq;clear hq;go_wp2_with (go_at_fn g;refine hcall.mono ?_;rintro e w1 ⟨rfl,B⟩)
    go_ret;exact⟨ng (Al hlt HX.out HQ.out hA.out).symm,Below.step hB.out B⟩
   | false =>
    rw[hq] at hcall;have HQ:Hid (p x=false):=hq;clear hq;go_wp2_with (go_at_fn g;refine hcall.mono ?_;rintro e w1 ⟨rfl,B⟩)
    have HB2:Hid (Below w.heap.size w w1):=Below.step hB.out B;clear B hB;go_roundw
    case rel =>
     refine⟨k+1,by omega,by go_num,(show Hid _ from λj y hj hy=>?_),HB2⟩
     by_cases e:j=k
     ·subst e;rw[HX.out] at hy;cases hy;exact HQ.out
     ·exact hA.out j y (by omega) hy
    case measure=>simp[intOf];omega
  ·obtain rfl:k=l.length:=by omega
   go_wp2;go_ret;exact⟨ng (Am hA.out).symm,hB.out⟩
theorem QX (g:Nat) (lb:Array Value) (p:aL->Bool) (v:Value) (l:List aL) (w:World) (hv:jE w v l) (eg:∀args w,(callFunc g args).run Tryz.prog w=.ok (.enter g args) w)
  (hp:∀wi x u,Below w.heap.size w wi->yh wi u x->Calls Tryz.prog g (#[u] ++ lb) wi λe w'=>e=.returned (.bool (p x))/\Below wi.heap.size wi w') :
  Calls Tryz.prog 167 #[v,.func (.func g) #[] lb] w λe w'=>e=.returned (.bool (l.any p))/\Below w.heap.size w w':=by
 have hi:=ZY g lb p v l w hv eg hp;have HF:Hid (l.any p=decide (0<=bD p l)):=CR p l;generalize bD p l=i at hi HF;obtain⟨a,cap,rfl,-⟩:=hv.form;clear hp hv
 go_enter Tryz.func167,Tryz.ntmps167;go_wp2_with (go_at_call 192;refine hi.mono ?_;rintro e w1 ⟨rfl,B⟩)
 go_ret;exact⟨aN HF.out,B⟩
theorem Z0 (g:Nat) (lb:Array Value) (p:bE->Bool) (v:Value) (l:List bE) (w:World) (hv:jF w v l) (eg:∀args w,(callFunc g args).run Tryz.prog w=.ok (.enter g args) w)
  (hp:∀wi x u,Below w.heap.size w wi->Dl wi u x->Calls Tryz.prog g (#[u] ++ lb) wi λe w'=>e=.returned (.bool (p x))/\Below wi.heap.size wi w') :
  Calls Tryz.prog 193 #[v,.func (.func g) #[] lb] w λe w'=>e=.returned (.int .i64 (bD p l))/\Below w.heap.size w w':=by
 have HV:Hid (∀wi,Below w.heap.size w wi->jF wi v l):=λwi h=>hv.below kN h;have HP:Hid (∀wi x u,Below w.heap.size w wi->Dl wi u x->Calls Tryz.prog g (#[u] ++ lb) wi λe w'=>e=.returned (.bool (p x))/\Below wi.heap.size wi w'):=hp;obtain⟨a,cap,rfl,hlc,hcm⟩:=hv.form;clear hv hp
 go_enter Tryz.func193,Tryz.ntmps193;go_wp2
 go_loopw [5,8] (λ_ i wr=>∃k:Nat,k<=l.length/\i=.int .i64 k/\Hid (∀j x,j < k->l[j]?=some x->p x=false)/\Hid (Below w.heap.size w wr)) (λ_ i _=>l.length - (intOf i).toNat)
 case atStart=>exact⟨0,Nat.zero_le _,rfl,(λj x hj=>absurd hj (Nat.not_lt_zero _)),Below.refl _ _⟩
 case round =>
  obtain⟨k,hk,rfl,hA,hB⟩:=hrel
  by_cases hlt:k < l.length
  ·obtain⟨x,hx⟩:∃x,l[k]?=some x:=⟨l[k],bK hlt⟩
   obtain⟨b,off,cap',hv',hlb,d0,d1,i0,i1⟩:=jF.cell (HV.out wr hB.out) k x hx;simp only[Value.slice.injEq,true_and] at hv';obtain⟨rfl,rfl⟩:=hv';have hcall:=HP.out wr x (.agg #[.int .i64 x.uid,.int .i64 x.seq]) hB.out rfl;have HX:Hid (l[k]?=some x):=hx;clear hx;cases hq:p x with
   | true =>
    rw[hq] at hcall;have HQ:Hid (p x=true):=hq;clear hq;go_wp2_with (go_at_fn g;refine hcall.mono ?_;rintro e w1 ⟨rfl,B⟩)
    go_ret;exact⟨ng (Al hlt HX.out HQ.out hA.out).symm,Below.step hB.out B⟩
   | false =>
    rw[hq] at hcall;have HQ:Hid (p x=false):=hq;clear hq;go_wp2_with (go_at_fn g;refine hcall.mono ?_;rintro e w1 ⟨rfl,B⟩)
    have HB2:Hid (Below w.heap.size w w1):=Below.step hB.out B;clear B hB;go_roundw
    case rel =>
     refine⟨k+1,by omega,by go_num,(show Hid _ from λj y hj hy=>?_),HB2⟩
     by_cases e:j=k
     ·subst e;rw[HX.out] at hy;cases hy;exact HQ.out
     ·exact hA.out j y (by omega) hy
    case measure=>simp[intOf];omega
  ·obtain rfl:k=l.length:=by omega
   go_wp2;go_ret;exact⟨ng (Am hA.out).symm,hB.out⟩
theorem QY (g:Nat) (lb:Array Value) (p:bE->Bool) (v:Value) (l:List bE) (w:World) (hv:jF w v l) (eg:∀args w,(callFunc g args).run Tryz.prog w=.ok (.enter g args) w)
  (hp:∀wi x u,Below w.heap.size w wi->Dl wi u x->Calls Tryz.prog g (#[u] ++ lb) wi λe w'=>e=.returned (.bool (p x))/\Below wi.heap.size wi w') :
  Calls Tryz.prog 169 #[v,.func (.func g) #[] lb] w λe w'=>e=.returned (.bool (l.any p))/\Below w.heap.size w w':=by
 have hi:=Z0 g lb p v l w hv eg hp;have HF:Hid (l.any p=decide (0<=bD p l)):=CR p l;generalize bD p l=i at hi HF;obtain⟨a,cap,rfl,-⟩:=hv.form;clear hp hv
 go_enter Tryz.func169,Tryz.ntmps169;go_wp2_with (go_at_call 193;refine hi.mono ?_;rintro e w1 ⟨rfl,B⟩)
 go_ret;exact⟨aN HF.out,B⟩
/- What ajH and ajI of package spec do. -/
theorem uh (v:Value) (x:aB) (uid:Int) (w:World) (hv:bT w v x) :
  Calls Tryz.prog 73 #[v,.int .i64 uid] w λe w'=>e=.returned (.int .i64 (bD (λm=>decide (m.uid=uid)) x.ah))/\Below w.heap.size w w':=by
 obtain⟨u0,u1,u2,rfl,g0,g1,g2,i0,i1,i2,i3⟩:=hv;have H0:Hid (∀wi,Below w.heap.size w wi->Bs wi u0 x.name/\jE wi u1 x.ah/\jF wi u2 x.au):=λwi h=>⟨g0.below h,g1.below kP h,g2.below kN h⟩;obtain⟨a0,n0,c0,rfl⟩:=g0.aP;obtain⟨a1,c1,rfl,m0,m1⟩:=g1.form;obtain⟨a2,c2,rfl,m2,m3⟩:=g2.form;clear g0 g1 g2;have HX:Hid (Below w.heap.size w (w.alloc (.cells #[.slice a0 n0 c0,.int .i64 x.valid,.int .i64 x.next,.int .i64 x.seq,.slice a1 x.ah.length c1,.slice a2 x.au.length c2,.int .i64 x.lost] 70))):=bn _ _
 go_enter Tryz.func73,Tryz.ntmps73;go_wp2
 go_loop [5] (λi=>∃k:Nat,k<=x.ah.length/\i=.int .i64 k/\Hid (∀j m,j < k->x.ah[j]?=some m->decide (m.uid=uid)=false)) (λi=>x.ah.length - (intOf i).toNat)
 case atStart=>exact⟨0,Nat.zero_le _,rfl,λj m hj=>absurd hj (Nat.not_lt_zero _)⟩
 case round =>
  obtain⟨k,hk,rfl,hA⟩:=hrel
  by_cases hlt:k < x.ah.length
  ·obtain⟨m,hm⟩:∃m,x.ah[k]?=some m:=⟨x.ah[k],bK hlt⟩
   obtain⟨b,off,cap',u,hv',hlb,d0,d1,d2,d3,hu,j0,j1,j2⟩:=jE.cell (H0.out _ HX.out).2.1 k m hm;simp only[Value.slice.injEq,true_and] at hv';obtain⟨rfl,rfl⟩:=hv';have HM:Hid (x.ah[k]?=some m):=hm;clear hm hu d1 d2 d3
   by_cases he:m.uid=uid
   ·have he':(m.uid == uid)=true:=by simpa using he
    have HE:Hid (m.uid=uid):=he;clear he;go_wp2;go_ret;exact⟨ng (Al hlt HM.out (by simpa using HE.out) hA.out).symm,HX.out⟩
   ·have he':(m.uid == uid)=false:=by simpa using he
    have HE:Hid (m.uid≠uid):=he;clear he;go_wp2
    go_round
    case rel =>
     refine⟨k+1,by omega,by go_num,(show Hid _ from λj y hj hy=>?_)⟩
     by_cases e:j=k
     ·subst e;rw[HM.out] at hy;cases hy;simpa using HE.out
     ·exact hA.out j y (by omega) hy
    case measure=>simp[intOf];omega
  ·obtain rfl:k=x.ah.length:=by omega
   go_wp2;go_ret;exact⟨ng (Am hA.out).symm,HX.out⟩
/- What ajJ, ajK, ajL of package spec, ajM of package impl do. -/
/-- A box can take one more change, and so many ah more. -/
def fJ (b:aB) (n:Int):Bool:=decide (b.seq < 1000000) && (decide (b.next < 1000000) && decide ((b.ah.length:Int)+n<=12))
/-- What a store makes of flags. -/
def jI (was mode fl:Int):Int:=if mode=1 then bits .or .i64 was fl else if mode=2 then bits .andNot .i64 was fl else fl
theorem Ao (v:Value) (b:aB) (n:Int) (w:World) (hv:bT w v b) (hn0:0<=n) (hn1:n<=1) (hm:b.ah.length<=2000000) :
  Calls Tryz.prog 67 #[v,.int .i64 n] w λe w'=>e=.returned (.bool (fJ b n))/\Below w.heap.size w w':=by
 obtain⟨u0,u1,u2,rfl,g0,g1,g2,-⟩:=hv;obtain⟨a0,n0,c0,rfl⟩:=g0.aP;obtain⟨a1,c1,rfl,-⟩:=g1.form;obtain⟨a2,c2,rfl,-⟩:=g2.form;clear g0 g1 g2;have X:Below w.heap.size w (w.alloc (.cells #[.slice a0 n0 c0,.int .i64 b.valid,.int .i64 b.next,.int .i64 b.seq,.slice a1 b.ah.length c1,.slice a2 b.au.length c2,.int .i64 b.lost] 70)):=bn _ _;have HX:Hid _:=X;clear X;have HD:Hid (fJ b n=(decide (b.seq < 1000000) && (decide (b.next < 1000000) && decide ((b.ah.length:Int)+n<=12)))):=rfl
 by_cases h1:b.seq < 1000000
 ·by_cases h2:b.next < 1000000
  ·by_cases h3:(b.ah.length:Int)+n<=12
   ·have HF:Hid (fJ b n=true):=by show _=_;rw[HD.out];simp[h1,h2,h3]
    go_enter Tryz.func67,Tryz.ntmps67;go_wp2;go_ret;exact⟨aN HF.out,HX.out⟩
   ·have HF:Hid (fJ b n=false):=by show _=_;rw[HD.out];simp[h3]
    go_enter Tryz.func67,Tryz.ntmps67;go_wp2;go_ret;exact⟨aN HF.out,HX.out⟩
  ·have HF:Hid (fJ b n=false):=by show _=_;rw[HD.out];simp[h2]
   go_enter Tryz.func67,Tryz.ntmps67;go_wp2;go_ret;exact⟨aN HF.out,HX.out⟩
 ·have HF:Hid (fJ b n=false):=by show _=_;rw[HD.out];simp[h1]
  go_enter Tryz.func67,Tryz.ntmps67;go_wp2;go_ret;exact⟨aN HF.out,HX.out⟩
theorem QZ (was mode fl:Int) (w:World) :
  Calls Tryz.prog 101 #[.int .i64 was,.int .i64 mode,.int .i64 fl] w λe w'=>e=.returned (.int .i64 (jI was mode fl))/\w'=w:=by
 by_cases h1:mode=1
 ·subst h1
  go_enter Tryz.func101,Tryz.ntmps101;go_wp2;go_ret;exact⟨rfl,rfl⟩
 ·by_cases h2:mode=2
  ·subst h2
   go_enter Tryz.func101,Tryz.ntmps101;go_wp2;go_ret;exact⟨rfl,rfl⟩
  ·have HF:Hid (jI was mode fl=fl):=by show _=_;unfold jI;rw[if_neg h1,if_neg h2]
   have e1:(mode == 1)=false:=by simpa using h1
   have e2:(mode == 2)=false:=by simpa using h2
   clear h1 h2
   go_enter Tryz.func101,Tryz.ntmps101;go_wp2;go_ret;exact⟨ng HF.out.symm,rfl⟩
theorem uj (v u:Value) (a:aT) (nm:List Int) (w:World) (hv:mF w v a) (hu:Bs w u nm) (hbl:a.boxes.length<=2000000) :
  Calls Tryz.prog 66 #[v,u] w λe w'=>e=.returned (.int .i64 (bD (λx=>decide (x.name=nm)) a.boxes))/\Below w.heap.size w w':=by
 obtain⟨u0,u1,rfl,g0,g1,-⟩:=hv;have HV:Hid (∀wi,Below w.heap.size w wi->lH wi u0 a.boxes/\Bs wi u nm):=λwi h=>⟨g0.below CV h,hu.below h⟩;have Z4:Hid (Oct nm):=hu.1;obtain⟨a0,c0,rfl,-⟩:=g0.form;obtain⟨a1,c1,rfl,-⟩:=g1.form;obtain⟨na,nn,nc,rfl⟩:=hu.aP;clear g0 g1 hu;have HX:Hid (Below w.heap.size w (w.alloc (.cells #[.int .i64 a.valid,.slice a0 a.boxes.length c0,.slice a1 a.seen.length c1] 39))):=bn _ _;have HK:Hid _:=aW w (.cells #[.int .i64 a.valid,.slice a0 a.boxes.length c0,.slice a1 a.seen.length c1] 39)
 go_enter Tryz.func66,Tryz.ntmps66;go_wp2
 go_loopw [5] (λi wr=>∃k:Nat,k<=a.boxes.length/\i=.int .i64 k/\Hid (∀j m,j < k->a.boxes[j]?=some m->decide (m.name=nm)=false)/\Hid (Below w.heap.size w wr)/\Hid (wr.heap[w.heap.size]?=some (.cells #[.int .i64 a.valid,.slice a0 a.boxes.length c0,.slice a1 a.seen.length c1] 39 (0,0)))) (λi _=>a.boxes.length - (intOf i).toNat)
 case atStart=>exact⟨0,Nat.zero_le _,rfl,(λj m hj=>absurd hj (Nat.not_lt_zero _)),HX.out,HK.out⟩
 case round =>
  obtain⟨k,hk,rfl,hA,hB,jJ⟩:=hrel;clear HX HK;obtain⟨d0,d1,d2⟩:=fU jJ.out;have ld:=lt_of_heap jJ.out
  by_cases hlt:k < a.boxes.length
  ·obtain⟨x,hx⟩:∃x,a.boxes[k]?=some x:=⟨a.boxes[k],bK hlt⟩
   obtain⟨b,off,cp,t,q1,q2,hv',hlb,f0,f1,f2,f3,f4,f5,f6,ht,-⟩:=lH.cell (HV.out wr hB.out).1 k x hx;simp only[Value.slice.injEq,true_and] at hv';obtain⟨rfl,rfl⟩:=hv';have HC:Hid (∀WB,Below wr.heap.size wr WB->(convert 22 9 t).run Tryz.prog WB=.ok (.string (strOfNums x.name)) WB/\(convert 22 9 (.slice na nn nc)).run Tryz.prog WB=.ok (.string (strOfNums nm)) WB):=λWB h=>⟨GI (ht.below h),GI ((HV.out wr hB.out).2.below h)⟩;have HE:Hid (((strOfNums x.name).toList == (strOfNums nm).toList)=decide (x.name=nm)):=str_eq ht.1 Z4.out;obtain⟨ta,tn,tc,rfl⟩:=ht.aP
   have nA:Hid (a.boxes[k]?=some x):=hx;have HS:Hid (∀w',Below wr.heap.size wr w'->(w'.cell? ⟨w.heap.size,1,none⟩=some (.slice (some ⟨b,off,none⟩) a.boxes.length c0)/\w'.cell? ⟨b,off+k * 7,none⟩=some (.slice ta tn tc))/\(convert 22 9 (.slice ta tn tc)).run Tryz.prog w'=.ok (.string (strOfNums x.name)) w'/\(convert 22 9 (.slice na nn nc)).run Tryz.prog w'=.ok (.string (strOfNums nm)) w'):=λw' h=>⟨⟨cell_later h d1,cell_later h f0⟩,HC.out w' h⟩;have hki:(k:Int) < a.boxes.length:=by omega
   clear ht hx f1 f2 f3 f4 f5 f6;cases z:decide (x.name=nm) with
   | true =>
    have e3:=HE.out.trans z;have HZ:Hid (decide (x.name=nm)=true):=z;clear z HE;go_wp2;refine wp_region_held_drew (S:=λw'=>(w'.cell? ⟨w.heap.size,1,none⟩=some (.slice (some ⟨b,off,none⟩) a.boxes.length c0)/\w'.cell? ⟨b,off+k * 7,none⟩=some (.slice ta tn tc))/\(convert 22 9 (.slice ta tn tc)).run Tryz.prog w'=.ok (.string (strOfNums x.name)) w'/\(convert 22 9 (.slice na nn nc)).run Tryz.prog w'=.ok (.string (strOfNums nm)) w') (by kernel_rfl) (HS.out _ ((bd _ _))) (λal3=>(show wpAnyH _ _ _ _ _ 10 #[false,false,false,false,false,false,false,false,false,false] _ _ from ?_))
    refine tq 0 13 al3 ?_;refine tq 1 14 al3 ?_;refine tq 2 15 al3 ?_;refine tq 3 16 al3 ?_;refine tq 4 17 al3 ?_;refine tq 5 18 al3 ?_;refine tq 6 19 al3 ?_;refine tq 7 20 al3 ?_;refine tq 8 21 al3 ?_;refine tq 9 22 al3 ?_;refine wpAnyH_done (by kernel_rfl) ?_ _;go_wp2;go_ret;exact⟨ng (Al hlt nA.out HZ.out hA.out).symm,hB.out.drew⟩
   | false =>
    have e3:=HE.out.trans z;have HZ:Hid (decide (x.name=nm)=false):=z;have HB2:Hid (Below w.heap.size w wr.drew):=hB.out.drew;have rY:Hid (wr.drew.heap[w.heap.size]?=some _):=jJ.out;clear z HE;go_wp2
    refine wp_region_held_drew (S:=λw'=>(w'.cell? ⟨w.heap.size,1,none⟩=some (.slice (some ⟨b,off,none⟩) a.boxes.length c0)/\w'.cell? ⟨b,off+k * 7,none⟩=some (.slice ta tn tc))/\(convert 22 9 (.slice ta tn tc)).run Tryz.prog w'=.ok (.string (strOfNums x.name)) w'/\(convert 22 9 (.slice na nn nc)).run Tryz.prog w'=.ok (.string (strOfNums nm)) w') (by kernel_rfl) (HS.out _ ((bd _ _))) (λal3=>(show wpAnyH _ _ _ _ _ 10 #[false,false,false,false,false,false,false,false,false,false] _ _ from ?_));refine tq 0 13 al3 ?_;refine tq 1 14 al3 ?_;refine tq 2 15 al3 ?_;refine tq 3 16 al3 ?_
    refine tq 4 17 al3 ?_;refine tq 5 18 al3 ?_;refine tq 6 19 al3 ?_;refine tq 7 20 al3 ?_;refine tq 8 21 al3 ?_;refine tq 9 22 al3 ?_;refine wpAnyH_done (by kernel_rfl) ?_ _;go_wp2;go_roundw
    case rel =>
     refine⟨k+1,by omega,by go_num,(show Hid _ from λj y hj hy=>?_),HB2,rY⟩
     by_cases e:j=k
     ·subst e;rw[nA.out] at hy;cases hy;exact HZ.out
     ·exact hA.out j y (by omega) hy
    case measure=>simp[intOf];omega
  ·obtain rfl:k=a.boxes.length:=by omega
   go_wp2;go_ret;exact⟨ng (Am hA.out).symm,hB.out⟩
/- What a store makes of flags is a number of 64 bits. -/
theorem Q0 (op:BinOp) (x y:Int):av (bits op IntKind.i64 x y):=by
 unfold bits;simp only[IntKind.wrap_i64];unfold av;omega
theorem Z5 {was mode fl:Int} (h:av fl):av (jI was mode fl):=by
 unfold jI
 split
 ·exact Q0 _ _ _
 ·split
  ·exact Q0 _ _ _
  ·exact h
/- One element of a list of the call's own is written anew. -/
/-- What is known of element i, and what gives the list back behind a write to it. -/
theorem Ow.upd {α:Type} {t:TypeId} {sz:Nat} {E:World->List Value->α->(Nat->Prop)->Prop} {w:World} {S:Nat->Prop} {v:Value} {l:List α} (hE:Frames E) (h:Ow t sz E w S v l) (i:Nat) (x:α) (hx:l[i]?=some x) :
  ∃(g cap:Nat) (cur:Array Value) (c:List Value) (f:Nat->Prop),v=.slice (some ⟨g,0,none⟩) l.length cap/\l.length<=cap/\cap<=maxLen/\w.heap[g]?=some (.cells cur t (0,0))/\i * sz+sz<=cur.size/\S g/\E w c x f/\c.length=sz /\
   (∀j u,c[j]?=some u->cur[i * sz+j]?=some u)/\(∀b,f b->S b/\b≠g) /\
   ∀(w':World) (cur':Array Value) (c':List Value) (x':α),w'.heap[g]?=some (.cells cur' t (0,0))->cur'.size=cur.size->(∀j u,c'[j]?=some u->cur'[i * sz+j]?=some u)->(∀m,m < i * sz\/i * sz+sz<=m->cur'[m]?=cur[m]?)->c'.length=sz ->
    (∀b,S b->b≠g->¬f b->b < w.heap.size->w'.heap[b]?=w.heap[b]?)->E w' c' x' f->Ow t sz E w' S v (l.set i x'):=by
 have hi:i < l.length:=(gs1 hx).1;rcases h with⟨-,rfl⟩ | ⟨g,cap,cur,cs,fs,hv,hh,h1,h2,h3,h4,h5,h6,h7⟩
 ·simp at hi
 ·obtain⟨e1,e2,e3⟩:=h5 i x hx
  have hroom:i * sz+sz<=cur.size:=by
   have:=Nat.mul_le_mul_right sz (show i+1<=cap by omega);rw[Nat.add_mul,Nat.one_mul] at this;omega
  refine⟨g,cap,cur,cs i,fs i,hv,h1,h2,hh,hroom,h4,e1,e2,e3,λb hb=>h6 i b hi hb,?_⟩;intro w' cur' c' x' k1 k2 k3 k4 k5 k6 k7;refine .inr ⟨g,cap,cur',λn=>if n=i then c' else cs n,fs,by rw[List.length_set];exact hv,k1,by rw[List.length_set];exact h1,h2,by omega,h4,λn y hy=>?_,by rw[List.length_set];exact h6,by rw[List.length_set];exact h7⟩
  by_cases hni:n=i
  ·subst hni
   rw[List.getElem?_set_self hi] at hy;cases hy
   simp only[if_true];exact⟨k7,k5,k3⟩
  ·rw[List.getElem?_set_ne (λe=>hni e.symm)] at hy
   simp only[if_neg hni];have hn:n < l.length:=(gs1 hy).1;obtain⟨q1,q2,q3⟩:=h5 n y hy;refine⟨hE _ _ _ _ _ q1 λb hb hlt=>k6 b (h6 n b hn hb).1 (h6 n b hn hb).2 (λhf=>h7 n i b hn hi hni hb hf) hlt,q2,λj u hu=>?_⟩;have hj:j < sz:=by have:=(gs1 hu).1;omega
   rw[k4]
   ·exact q3 j u hu
   ·rcases Nat.lt_or_gt_of_ne hni with hlt | hgt
    ·have:=Nat.mul_le_mul_right sz (show n+1<=i by omega)
     rw[Nat.add_mul,Nat.one_mul] at this;exact .inl (by omega)
    ·have:=Nat.mul_le_mul_right sz (show i+1<=n by omega)
     rw[Nat.add_mul,Nat.one_mul] at this;exact .inr (by omega)
/- What ajN and ajO of package impl do. -/
open Go.RowKit Go.Shelf
theorem Z6 (v:Value) (l:List Int) (w:World) (hv:xY w v l) :
  Calls Tryz.prog 106 #[v] w λe w'=>e=.returned (.bool (vV l))/\w'=w:=by
 have HV:Hid (xY w v l):=hv;obtain⟨a,cap,rfl,hlc,hcm⟩:=hv.form;clear hv
 by_cases h0:l.length<=60
 ·have HS:Hid (vV l=(List.range l.length).all (seenAt l)):=by simp[Hid,vV,h0]
  go_enter Tryz.func106,Tryz.ntmps106;go_wp2
  go_loop [3,5,11] (λq _ i=>∃k:Nat,k<=l.length/\i=.int .i64 k/\q=.int .i64 (rR l k)/\Hid (∀j,j < k->seenAt l j=true)) (λ_ _ i=>l.length - (intOf i).toNat)
  case atStart=>exact⟨0,Nat.zero_le _,rfl,rfl,λj hj=>absurd hj (Nat.not_lt_zero _)⟩
  case round =>
   obtain⟨k,hk,rfl,rfl,hA⟩:=hrel
   by_cases hlt:k < l.length
   ·obtain⟨x,hx⟩:∃x,l[k]?=some x:=⟨l[k],bK hlt⟩
    obtain⟨b,off,cap',hv',hlb,d0,i0⟩:=xY.cell HV.out k x hx;simp only[Value.slice.injEq,true_and] at hv';obtain⟨rfl,rfl⟩:=hv';have hp:=Zx hk hA.out;have HD:Hid (l.getD k 0=x):=by simp[Hid,List.getD,hx]
    have HE:Hid (seenAt l k=aQ x (rR l k+1) 1000000):=by show seenAt l k=_;unfold seenAt;rw[HD.out]
    generalize hQ:rR l k=q at hp HE;clear hQ;obtain⟨hp0,hp1,-⟩:=hp;have hcall:=gW x (q+1) 1000000;generalize hX:aQ x (q+1) 1000000=X at hcall HE;clear hX hx;cases X with
    | true =>
     go_wp2_with (go_at_call 13;refine(hcall _).mono ?_;rintro e w' ⟨rfl,rfl⟩)
     go_round
     case rel =>
      refine⟨k+1,by omega,by go_num,by simp only[rR];rw[HD.out],(show Hid _ from λj hj=>?_)⟩
      by_cases e:j=k
      ·subst e;exact HE.out
      ·exact hA.out j (by omega)
     case measure=>simp[intOf];omega
    | false =>
     go_wp2_with (go_at_call 13;refine(hcall _).mono ?_;rintro e w' ⟨rfl,rfl⟩)
     go_ret;exact⟨aN (by rw[HS.out];exact lJ k hlt HE.out),rfl⟩
   ·obtain rfl:k=l.length:=by omega
    go_wp2;go_ret;exact⟨aN (by rw[HS.out];exact CZ hA.out),rfl⟩
 ·have HS:Hid (vV l=false):=by simp[Hid,vV,h0]
  go_enter Tryz.func106,Tryz.ntmps106;go_wp2;go_ret;exact⟨aN HS.out,rfl⟩
theorem Z7 (v:Value) (x:aB) (w:World) (hv:bT w v x) (hn0:1<=x.next) (hn1:x.next<=1000000) :
  Calls Tryz.prog 134 #[v] w λe w'=>e=.returned (.bool (vW x))/\Below w.heap.size w w':=by
 obtain⟨u0,u1,u2,rfl,g0,g1,g2,i0,i1,i2,i3⟩:=hv;have H0:Hid (∀wi,Below w.heap.size w wi->Bs wi u0 x.name/\jE wi u1 x.ah/\jF wi u2 x.au):=λwi h=>⟨g0.below h,g1.below kP h,g2.below kN h⟩;obtain⟨a0,n0,c0,rfl⟩:=g0.aP;obtain⟨a1,c1,rfl,m0,m1⟩:=g1.form;obtain⟨a2,c2,rfl,m2,m3⟩:=g2.form;clear g0 g1 g2;have kA:=aW w (.cells #[.slice a0 n0 c0,.int .i64 x.valid,.int .i64 x.next,.int .i64 x.seq,.slice a1 x.ah.length c1,.slice a2 x.au.length c2,.int .i64 x.lost] 70)
 have X:Below w.heap.size w (w.alloc (.cells #[.slice a0 n0 c0,.int .i64 x.valid,.int .i64 x.next,.int .i64 x.seq,.slice a1 x.ah.length c1,.slice a2 x.au.length c2,.int .i64 x.lost] 70)):=bn _ _
 by_cases h0:x.ah.length<=12
 ·have HS:Hid (vW x=(List.range x.ah.length).all (yj x)):=by simp[Hid,vW,h0]
  have HK:Hid ((w.alloc (.cells #[.slice a0 n0 c0,.int .i64 x.valid,.int .i64 x.next,.int .i64 x.seq,.slice a1 x.ah.length c1,.slice a2 x.au.length c2,.int .i64 x.lost] 70)).heap[w.heap.size]?=some (.cells #[.slice a0 n0 c0,.int .i64 x.valid,.int .i64 x.next,.int .i64 x.seq,.slice a1 x.ah.length c1,.slice a2 x.au.length c2,.int .i64 x.lost] 70)):=kA;have HX:Hid (Below w.heap.size w (w.alloc (.cells #[.slice a0 n0 c0,.int .i64 x.valid,.int .i64 x.next,.int .i64 x.seq,.slice a1 x.ah.length c1,.slice a2 x.au.length c2,.int .i64 x.lost] 70))):=X;clear kA X
  go_enter Tryz.func134,Tryz.ntmps134;go_wp2
  go_loopw [3,5,13] (λq _ i wr=>∃k:Nat,k<=x.ah.length/\i=.int .i64 k/\q=.int .i64 (rT x.ah k)/\Hid (∀j,j < k->yj x j=true)/\Hid (wr.heap[w.heap.size]?=some (.cells #[.slice a0 n0 c0,.int .i64 x.valid,.int .i64 x.next,.int .i64 x.seq,.slice a1 x.ah.length c1,.slice a2 x.au.length c2,.int .i64 x.lost] 70))/\Hid (Below w.heap.size w wr)) (λ_ _ i _=>x.ah.length - (intOf i).toNat)
  case atStart=>exact⟨0,Nat.zero_le _,rfl,rfl,(λj hj=>absurd hj (Nat.not_lt_zero _)),HK,HX⟩
  case round =>
   obtain⟨k,hk,rfl,rfl,hA,hK,hB⟩:=hrel
   by_cases hlt:k < x.ah.length
   ·obtain⟨m,hm⟩:∃m,x.ah[k]?=some m:=⟨x.ah[k],bK hlt⟩
    obtain⟨b,off,cap',u,hv',hlb,d0,d1,d2,d3,hu,j0,j1,j2⟩:=jE.cell (H0.out wr hB.out).2.1 k m hm;simp only[Value.slice.injEq,true_and] at hv';obtain⟨rfl,rfl⟩:=hv';obtain⟨ua,un,uc,rfl⟩:=hu.aP;have hp:=Zy hn1 hk hA.out;have HE:Hid (yj x k=(aQ m.uid (rT x.ah k+1) (x.next - 1) && (aQ m.flags 0 31 && (aQ m.seq 1 x.seq && jP m.text)))):=by simp[Hid,yj,hm]
    have gT:Hid (rT x.ah (k+1)=m.uid):=by simp[Hid,rT,hm]
    generalize hQ:rT x.ah k=q at hp HE;clear hQ hm;obtain⟨hp0,hp1⟩:=hp;obtain⟨uid,flags,seq,text⟩:=m;simp only at d0 d1 d2 d3 hu j0 j1 j2 HE gT;have c1':=gW uid (q+1) (x.next - 1);have c2':=gW flags 0 31;have c3':=gW seq 1 x.seq;generalize aQ uid (q+1) (x.next - 1)=X1 at c1' HE;generalize aQ flags 0 31=X2 at c2' HE;generalize aQ seq 1 x.seq=X3 at c3' HE;have ab:Below wr.heap.size wr (wr.alloc (.cells #[.int .i64 uid,.int .i64 flags,.int .i64 seq,.slice ua un uc] 77)):=bn _ _;have Ap:=Qx _ text _ (hu.below ab);generalize jP text=X4 at Ap HE;have Hl:=hK.out
    obtain⟨e0,e1,e2,e3,e4,e5,e6⟩:=fV Hl;have hlA:=lt_of_heap Hl;have Q5:Hid ((wr.alloc (.cells #[.int .i64 uid,.int .i64 flags,.int .i64 seq,.slice ua un uc] 77)).heap[wr.heap.size]?=some (.cells #[.int .i64 uid,.int .i64 flags,.int .i64 seq,.slice ua un uc] 77)):=aW wr _;have mJ:Hid ((wr.alloc (.cells #[.int .i64 uid,.int .i64 flags,.int .i64 seq,.slice ua un uc] 77)).heap[w.heap.size]?=some (.cells #[.slice a0 n0 c0,.int .i64 x.valid,.int .i64 x.next,.int .i64 x.seq,.slice (some ⟨b,off,none⟩) x.ah.length c1,.slice a2 x.au.length c2,.int .i64 x.lost] 70)):=vR Hl _
    have HB1:Hid (Below w.heap.size w (wr.alloc (.cells #[.int .i64 uid,.int .i64 flags,.int .i64 seq,.slice ua un uc] 77))):=Below.step hB.out ab;clear Hl hu ab hK hB;go_wp2_with fail
    refine(c1' _).mono ?_;rintro e w' ⟨rfl,rfl⟩;cases X1 with
    | false =>
     go_wp2;go_ret;exact⟨aN (by rw[HS.out];exact lJ k hlt HE.out),HB1.out⟩
    | true =>
    go_wp2_with fail
    refine(c2' _).mono ?_;rintro e w' ⟨rfl,rfl⟩;cases X2 with
    | false =>
     go_wp2;go_ret;exact⟨aN (by rw[HS.out];exact lJ k hlt HE.out),HB1.out⟩
    | true =>
    go_wp2_with fail
    refine(c3' _).mono ?_;rintro e w' ⟨rfl,rfl⟩;cases X3 with
    | false =>
     go_wp2;go_ret;exact⟨aN (by rw[HS.out];exact lJ k hlt HE.out),HB1.out⟩
    | true =>
    go_wp2_with fail
    refine Ap.mono ?_;rintro e w2 ⟨rfl,B⟩;have HB2:Hid (Below w.heap.size w w2):=Below.step HB1.out B;have nC:Hid (w2.heap[w.heap.size]?=some (.cells #[.slice a0 n0 c0,.int .i64 x.valid,.int .i64 x.next,.int .i64 x.seq,.slice (some ⟨b,off,none⟩) x.ah.length c1,.slice a2 x.au.length c2,.int .i64 x.lost] 70)):=aA B mJ.out;obtain⟨t0,t1,t2,t3⟩:=Ac (aA B Q5.out);clear B HB1 mJ Q5;cases X4 with
    | false =>
     go_wp2;go_ret;exact⟨aN (by rw[HS.out];exact lJ k hlt HE.out),HB2.out⟩
    | true =>
    go_wp2;go_roundw
    case rel =>
     refine⟨k+1,by omega,by go_num,by rw[gT.out],(show Hid _ from λj hj=>?_),nC,HB2⟩
     by_cases e:j=k
     ·subst e;exact HE.out
     ·exact hA.out j (by omega)
    case measure=>simp[intOf];omega
   ·obtain rfl:k=x.ah.length:=by omega
    go_wp2;go_ret;exact⟨aN (by rw[HS.out];exact CZ hA.out),hB.out⟩
 ·have HS:Hid (vW x=false):=by simp[Hid,vW,h0]
  go_enter Tryz.func134,Tryz.ntmps134;go_wp2;go_ret;exact⟨aN HS.out,X⟩
/- What ajP of package impl do. -/
open Go.RowKit Go.Shelf
theorem Rd.Ho {α:Type} {sz:Nat} {E:World->List Value->α->Prop} {w:World} {a:Option Addr} {n cap:Nat} {l:List α} (h:Rd sz E w (.slice a n cap) l) (k:Nat) (hk:k<=l.length):Rd sz E w (.slice a k cap) (l.take k):=by
 obtain⟨a',cap',cs,hv,h1,h2,h3,h4,h5⟩:=h;simp only[Value.slice.injEq] at hv;obtain⟨rfl,-,rfl⟩:=hv;have hl:(l.take k).length=k:=by simp;omega
 refine⟨a,cap,cs,by rw[hl],by rw[hl];omega,h2,h3,λi x hx=>?_,λhp=>?_⟩
 ·rw[List.getElem?_take] at hx
  split at hx
  ·exact h4 i x hx
  ·cases hx
 ·rw[hl] at hp
  obtain⟨b,off,ha,hlt,hc⟩:=h5 (by omega);exact⟨b,off,ha,hlt,λi j u hi hu=>hc i j u (by rw[hl] at hi;omega) hu⟩
theorem Q6 (u:Value) (m:aL) (bg:Nat) (Dm:Int) (w:World) (hu:yh w u m) (hc:w.cell? ⟨bg,0,none⟩=some (.int .i64 Dm)) (hb:bg < w.heap.size) :
  Calls Tryz.prog 168 #[u,.pointer (some ⟨bg,0,none⟩)] w λe w'=>e=.returned (.bool (decide (m.uid=Dm)))/\Below w.heap.size w w':=by
 obtain⟨u,rfl,h,-⟩:=hu;obtain⟨ua,un,uc,rfl⟩:=h.aP;clear h;obtain⟨uid,flags,seq,text⟩:=m;simp only
 go_enter Tryz.func168,Tryz.ntmps168;go_wp2;go_ret;exact⟨aN (by rw[Bool.eq_iff_iff];simp),bn _ _⟩
theorem Q7 (u:Value) (m:bE) (bg:Nat) (Dm:Int) (w:World) (hu:Dl w u m) (hc:w.cell? ⟨bg,0,none⟩=some (.int .i64 Dm)) (hb:bg < w.heap.size) :
  Calls Tryz.prog 170 #[u,.pointer (some ⟨bg,0,none⟩)] w λe w'=>e=.returned (.bool (decide (m.uid=Dm)))/\Below w.heap.size w w':=by
 unfold Dl at hu;subst hu;obtain⟨uid,seq⟩:=m;simp only
 go_enter Tryz.func170,Tryz.ntmps170;go_wp2;go_ret;exact⟨aN (by rw[Bool.eq_iff_iff];simp),bn _ _⟩
theorem Z8 (v:Value) (x:aB) (w:World) (hv:bT w v x) (hn0:1<=x.next) (hn1:x.next<=1000000) :
  Calls Tryz.prog 135 #[v] w λe w'=>e=.returned (.bool (vY x))/\Below w.heap.size w w':=by
 obtain⟨u0,u1,u2,rfl,g0,g1,g2,i0,i1,i2,i3⟩:=hv;have H0:Hid (∀wi,Below w.heap.size w wi->Bs wi u0 x.name/\jE wi u1 x.ah/\jF wi u2 x.au):=λwi h=>⟨g0.below h,g1.below kP h,g2.below kN h⟩;obtain⟨a0,n0,c0,rfl⟩:=g0.aP;obtain⟨a1,c1,rfl,m0,m1⟩:=g1.form;obtain⟨a2,c2,rfl,m2,m3⟩:=g2.form;clear g0 g1 g2;have kA:=aW w (.cells #[.slice a0 n0 c0,.int .i64 x.valid,.int .i64 x.next,.int .i64 x.seq,.slice a1 x.ah.length c1,.slice a2 x.au.length c2,.int .i64 x.lost] 70)
 have X:Below w.heap.size w (w.alloc (.cells #[.slice a0 n0 c0,.int .i64 x.valid,.int .i64 x.next,.int .i64 x.seq,.slice a1 x.ah.length c1,.slice a2 x.au.length c2,.int .i64 x.lost] 70)):=bn _ _
 by_cases h0:x.au.length<=40
 ·have HS:Hid (vY x=(List.range x.au.length).all (vX x)):=by simp[Hid,vY,h0]
  have HK:Hid ((w.alloc (.cells #[.slice a0 n0 c0,.int .i64 x.valid,.int .i64 x.next,.int .i64 x.seq,.slice a1 x.ah.length c1,.slice a2 x.au.length c2,.int .i64 x.lost] 70)).heap[w.heap.size]?=some (.cells #[.slice a0 n0 c0,.int .i64 x.valid,.int .i64 x.next,.int .i64 x.seq,.slice a1 x.ah.length c1,.slice a2 x.au.length c2,.int .i64 x.lost] 70)):=kA;have HX:Hid (Below w.heap.size w (w.alloc (.cells #[.slice a0 n0 c0,.int .i64 x.valid,.int .i64 x.next,.int .i64 x.seq,.slice a1 x.ah.length c1,.slice a2 x.au.length c2,.int .i64 x.lost] 70))):=X;clear kA X
  by_cases hml:1 < x.lost
  ·have ajQ:Hid True:=trivial
   go_enter Tryz.func135,Tryz.ntmps135;go_wp2
   go_loopw [3,4,5,16] (λq _ _ i wr=>∃k:Nat,k<=x.au.length/\i=.int .i64 k/\q=.int .i64 (minS x k)/\Hid (∀j,j < k->vX x j=true)/\Hid (wr.heap[w.heap.size]?=some (.cells #[.slice a0 n0 c0,.int .i64 x.valid,.int .i64 x.next,.int .i64 x.seq,.slice a1 x.ah.length c1,.slice a2 x.au.length c2,.int .i64 x.lost] 70))/\Hid (Below w.heap.size w wr)) (λ_ _ _ i _=>x.au.length - (intOf i).toNat)
   case atStart=>exact⟨0,Nat.zero_le _,rfl,by simp[minS] <;> omega,(λj hj=>absurd hj (Nat.not_lt_zero _)),HK,HX⟩
   case round =>
    obtain⟨k,hk,rfl,rfl,hA,hK,hB⟩:=hrel
    by_cases hlt:k < x.au.length
    ·obtain⟨m,hm⟩:∃m,x.au[k]?=some m:=⟨x.au[k],bK hlt⟩
     obtain⟨b,off,cap',hv',hlb,d0,d1,j0,j1⟩:=jF.cell (H0.out wr hB.out).2.2 k m hm;simp only[Value.slice.injEq,true_and] at hv';obtain⟨rfl,rfl⟩:=hv';have HE:Hid (vX x k=(aQ m.uid 1 (x.next - 1) && (aQ m.seq (minS x k) x.seq && (!(x.ah.any λo=>decide (o.uid=m.uid)) && !((x.au.take k).any λo=>decide (o.uid=m.uid)))))):=by simp[Hid,vX,hm]
     have gT:Hid (minS x (k+1)=m.seq):=by simp[Hid,minS,hm]
     generalize hQ:minS x k=q at HE;clear hQ hm;obtain⟨uid,seq⟩:=m;simp only at d0 d1 j0 j1 HE gT;have c1':=gW uid 1 (x.next - 1);have c2':=gW seq q x.seq;generalize aQ uid 1 (x.next - 1)=X1 at c1' HE;generalize aQ seq q x.seq=X2 at c2' HE;have kD:Hid ((wr.alloc (.cells #[.int .i64 uid,.int .i64 seq] 115)).heap[wr.heap.size]?=some (.cells #[.int .i64 uid,.int .i64 seq] 115)):=aW wr _
     have mJ:Hid ((wr.alloc (.cells #[.int .i64 uid,.int .i64 seq] 115)).heap[w.heap.size]?=some (.cells #[.slice a0 n0 c0,.int .i64 x.valid,.int .i64 x.next,.int .i64 x.seq,.slice a1 x.ah.length c1,.slice (some ⟨b,off,none⟩) x.au.length c2,.int .i64 x.lost] 70)):=vR hK.out _;have HB1:Hid (Below w.heap.size w (wr.alloc (.cells #[.int .i64 uid,.int .i64 seq] 115))):=Below.step hB.out (bn _ _)
     have c3':=QX 168 #[.pointer (some ⟨wr.heap.size,0,none⟩)] (λo=>decide (o.uid=uid)) _ x.ah _ (H0.out _ HB1.out).2.1 (λargs w=>by kernel_rfl) (λwi o u hbi hu=>Q6 u o wr.heap.size uid wi hu (vT (aA hbi kD.out)).1 (lt_of_heap (aA hbi kD.out)))
     have qC:Hid (∀wi,Below (wr.alloc (.cells #[.int .i64 uid,.int .i64 seq] 115)).heap.size (wr.alloc (.cells #[.int .i64 uid,.int .i64 seq] 115)) wi->Calls Tryz.prog 169 #[.slice (some ⟨b,off,none⟩) k c2,.func (.func 170) #[] #[.pointer (some ⟨wr.heap.size,0,none⟩)]] wi λe w'=>e=.returned (.bool ((x.au.take k).any λo=>decide (o.uid=uid)))/\Below wi.heap.size wi w'):=λwi hbi =>
      QY 170 #[.pointer (some ⟨wr.heap.size,0,none⟩)] (λo=>decide (o.uid=uid)) _ (x.au.take k) _ (((H0.out _ (Below.step HB1.out hbi)).2.2).Ho k hk) (λargs w=>by kernel_rfl) (λwj o u hbj hu=>Q7 u o wr.heap.size uid wj hu (vT (aA hbj (aA hbi kD.out))).1 (lt_of_heap (aA hbj (aA hbi kD.out))))
     generalize (x.ah.any λo=>decide (o.uid=uid))=X3 at c3' HE;generalize ((x.au.take k).any λo=>decide (o.uid=uid))=X4 at qC HE;obtain⟨e0,e1,e2,e3,e4,e5,e6⟩:=fV hK.out;have hlA:=lt_of_heap hK.out;clear hK hB;go_wp2_with fail
     refine(c1' _).mono ?_;rintro e w' ⟨rfl,rfl⟩;cases X1 with
     | false =>
      go_wp2;go_ret;exact⟨aN (by rw[HS.out];exact lJ k hlt HE.out),HB1.out⟩
     | true =>
     go_wp2_with fail
     refine(c2' _).mono ?_;rintro e w' ⟨rfl,rfl⟩;cases X2 with
     | false =>
      go_wp2;go_ret;exact⟨aN (by rw[HS.out];exact lJ k hlt HE.out),HB1.out⟩
     | true =>
     go_wp2_with fail
     refine c3'.mono ?_;rintro e w2 ⟨rfl,B⟩;have HB2:Hid (Below w.heap.size w w2):=Below.step HB1.out B;have nC:Hid (w2.heap[w.heap.size]?=some (.cells #[.slice a0 n0 c0,.int .i64 x.valid,.int .i64 x.next,.int .i64 x.seq,.slice a1 x.ah.length c1,.slice (some ⟨b,off,none⟩) x.au.length c2,.int .i64 x.lost] 70)):=aA B mJ.out;have yB:Hid (w2.heap[wr.heap.size]?=some (.cells #[.int .i64 uid,.int .i64 seq] 115)):=aA B kD.out;have Ap:=qC.out w2 B;obtain⟨t0,t1⟩:=vT yB.out;obtain⟨s0,s1,s2,s3,s4,s5,s6⟩:=fV nC.out;clear B HB1 mJ kD qC e0 e1 e2 e3 e4 e5 e6;cases X3 with
     | true =>
      go_wp2;go_ret;exact⟨aN (by rw[HS.out];exact lJ k hlt HE.out),HB2.out⟩
     | false =>
     go_wp2_with fail
     refine Ap.mono ?_;rintro e w3 ⟨rfl,B⟩;have HB3:Hid (Below w.heap.size w w3):=Below.step HB2.out B;have yC:Hid (w3.heap[w.heap.size]?=some (.cells #[.slice a0 n0 c0,.int .i64 x.valid,.int .i64 x.next,.int .i64 x.seq,.slice a1 x.ah.length c1,.slice (some ⟨b,off,none⟩) x.au.length c2,.int .i64 x.lost] 70)):=aA B nC.out;clear t0 t1 s0 s1 s2 s3 s4 s5 s6;obtain⟨t0,t1⟩:=vT (aA B yB.out);clear B HB2 nC yB;cases X4 with
     | true =>
      go_wp2;go_ret;exact⟨aN (by rw[HS.out];exact lJ k hlt HE.out),HB3.out⟩
     | false =>
     go_wp2;go_roundw
     case rel =>
      refine⟨k+1,by omega,by go_num,by rw[gT.out],(show Hid _ from λj hj=>?_),yC,HB3⟩
      by_cases e:j=k
      ·subst e;exact HE.out
      ·exact hA.out j (by omega)
     case measure=>simp[intOf];omega
    ·obtain rfl:k=x.au.length:=by omega
     go_wp2;go_ret;exact⟨aN (by rw[HS.out];exact CZ hA.out),hB.out⟩
  ·have hml':x.lost<=1:=by omega
   clear hml
   go_enter Tryz.func135,Tryz.ntmps135;go_wp2
   go_loopw [3,4,5,16] (λq _ _ i wr=>∃k:Nat,k<=x.au.length/\i=.int .i64 k/\q=.int .i64 (minS x k)/\Hid (∀j,j < k->vX x j=true)/\Hid (wr.heap[w.heap.size]?=some (.cells #[.slice a0 n0 c0,.int .i64 x.valid,.int .i64 x.next,.int .i64 x.seq,.slice a1 x.ah.length c1,.slice a2 x.au.length c2,.int .i64 x.lost] 70))/\Hid (Below w.heap.size w wr)) (λ_ _ _ i _=>x.au.length - (intOf i).toNat)
   case atStart=>exact⟨0,Nat.zero_le _,rfl,by simp[minS] <;> omega,(λj hj=>absurd hj (Nat.not_lt_zero _)),HK,HX⟩
   case round =>
    obtain⟨k,hk,rfl,rfl,hA,hK,hB⟩:=hrel
    by_cases hlt:k < x.au.length
    ·obtain⟨m,hm⟩:∃m,x.au[k]?=some m:=⟨x.au[k],bK hlt⟩
     obtain⟨b,off,cap',hv',hlb,d0,d1,j0,j1⟩:=jF.cell (H0.out wr hB.out).2.2 k m hm;simp only[Value.slice.injEq,true_and] at hv';obtain⟨rfl,rfl⟩:=hv';have HE:Hid (vX x k=(aQ m.uid 1 (x.next - 1) && (aQ m.seq (minS x k) x.seq && (!(x.ah.any λo=>decide (o.uid=m.uid)) && !((x.au.take k).any λo=>decide (o.uid=m.uid)))))):=by simp[Hid,vX,hm]
     have gT:Hid (minS x (k+1)=m.seq):=by simp[Hid,minS,hm]
     generalize hQ:minS x k=q at HE;clear hQ hm;obtain⟨uid,seq⟩:=m;simp only at d0 d1 j0 j1 HE gT;have c1':=gW uid 1 (x.next - 1);have c2':=gW seq q x.seq;generalize aQ uid 1 (x.next - 1)=X1 at c1' HE;generalize aQ seq q x.seq=X2 at c2' HE;have kD:Hid ((wr.alloc (.cells #[.int .i64 uid,.int .i64 seq] 115)).heap[wr.heap.size]?=some (.cells #[.int .i64 uid,.int .i64 seq] 115)):=aW wr _
     have mJ:Hid ((wr.alloc (.cells #[.int .i64 uid,.int .i64 seq] 115)).heap[w.heap.size]?=some (.cells #[.slice a0 n0 c0,.int .i64 x.valid,.int .i64 x.next,.int .i64 x.seq,.slice a1 x.ah.length c1,.slice (some ⟨b,off,none⟩) x.au.length c2,.int .i64 x.lost] 70)):=vR hK.out _;have HB1:Hid (Below w.heap.size w (wr.alloc (.cells #[.int .i64 uid,.int .i64 seq] 115))):=Below.step hB.out (bn _ _)
     have c3':=QX 168 #[.pointer (some ⟨wr.heap.size,0,none⟩)] (λo=>decide (o.uid=uid)) _ x.ah _ (H0.out _ HB1.out).2.1 (λargs w=>by kernel_rfl) (λwi o u hbi hu=>Q6 u o wr.heap.size uid wi hu (vT (aA hbi kD.out)).1 (lt_of_heap (aA hbi kD.out)))
     have qC:Hid (∀wi,Below (wr.alloc (.cells #[.int .i64 uid,.int .i64 seq] 115)).heap.size (wr.alloc (.cells #[.int .i64 uid,.int .i64 seq] 115)) wi->Calls Tryz.prog 169 #[.slice (some ⟨b,off,none⟩) k c2,.func (.func 170) #[] #[.pointer (some ⟨wr.heap.size,0,none⟩)]] wi λe w'=>e=.returned (.bool ((x.au.take k).any λo=>decide (o.uid=uid)))/\Below wi.heap.size wi w'):=λwi hbi =>
      QY 170 #[.pointer (some ⟨wr.heap.size,0,none⟩)] (λo=>decide (o.uid=uid)) _ (x.au.take k) _ (((H0.out _ (Below.step HB1.out hbi)).2.2).Ho k hk) (λargs w=>by kernel_rfl) (λwj o u hbj hu=>Q7 u o wr.heap.size uid wj hu (vT (aA hbj (aA hbi kD.out))).1 (lt_of_heap (aA hbj (aA hbi kD.out))))
     generalize (x.ah.any λo=>decide (o.uid=uid))=X3 at c3' HE;generalize ((x.au.take k).any λo=>decide (o.uid=uid))=X4 at qC HE;obtain⟨e0,e1,e2,e3,e4,e5,e6⟩:=fV hK.out;have hlA:=lt_of_heap hK.out;clear hK hB;go_wp2_with fail
     refine(c1' _).mono ?_;rintro e w' ⟨rfl,rfl⟩;cases X1 with
     | false =>
      go_wp2;go_ret;exact⟨aN (by rw[HS.out];exact lJ k hlt HE.out),HB1.out⟩
     | true =>
     go_wp2_with fail
     refine(c2' _).mono ?_;rintro e w' ⟨rfl,rfl⟩;cases X2 with
     | false =>
      go_wp2;go_ret;exact⟨aN (by rw[HS.out];exact lJ k hlt HE.out),HB1.out⟩
     | true =>
     go_wp2_with fail
     refine c3'.mono ?_;rintro e w2 ⟨rfl,B⟩;have HB2:Hid (Below w.heap.size w w2):=Below.step HB1.out B;have nC:Hid (w2.heap[w.heap.size]?=some (.cells #[.slice a0 n0 c0,.int .i64 x.valid,.int .i64 x.next,.int .i64 x.seq,.slice a1 x.ah.length c1,.slice (some ⟨b,off,none⟩) x.au.length c2,.int .i64 x.lost] 70)):=aA B mJ.out;have yB:Hid (w2.heap[wr.heap.size]?=some (.cells #[.int .i64 uid,.int .i64 seq] 115)):=aA B kD.out;have Ap:=qC.out w2 B;obtain⟨t0,t1⟩:=vT yB.out;obtain⟨s0,s1,s2,s3,s4,s5,s6⟩:=fV nC.out;clear B HB1 mJ kD qC e0 e1 e2 e3 e4 e5 e6;cases X3 with
     | true =>
      go_wp2;go_ret;exact⟨aN (by rw[HS.out];exact lJ k hlt HE.out),HB2.out⟩
     | false =>
     go_wp2_with fail
     refine Ap.mono ?_;rintro e w3 ⟨rfl,B⟩;have HB3:Hid (Below w.heap.size w w3):=Below.step HB2.out B;have yC:Hid (w3.heap[w.heap.size]?=some (.cells #[.slice a0 n0 c0,.int .i64 x.valid,.int .i64 x.next,.int .i64 x.seq,.slice a1 x.ah.length c1,.slice (some ⟨b,off,none⟩) x.au.length c2,.int .i64 x.lost] 70)):=aA B nC.out;clear t0 t1 s0 s1 s2 s3 s4 s5 s6;obtain⟨t0,t1⟩:=vT (aA B yB.out);clear B HB2 nC yB;cases X4 with
     | true =>
      go_wp2;go_ret;exact⟨aN (by rw[HS.out];exact lJ k hlt HE.out),HB3.out⟩
     | false =>
     go_wp2;go_roundw
     case rel =>
      refine⟨k+1,by omega,by go_num,by rw[gT.out],(show Hid _ from λj hj=>?_),yC,HB3⟩
      by_cases e:j=k
      ·subst e;exact HE.out
      ·exact hA.out j (by omega)
     case measure=>simp[intOf];omega
    ·obtain rfl:k=x.au.length:=by omega
     go_wp2;go_ret;exact⟨aN (by rw[HS.out];exact CZ hA.out),hB.out⟩
 ·have HS:Hid (vY x=false):=by simp[Hid,vY,h0]
  go_enter Tryz.func135,Tryz.ntmps135;go_wp2;go_ret;exact⟨aN HS.out,X⟩
end Go.Proofs.YtfabngnaejjcmaaGreatDoor
