/- The proof's texts, part 7. -/
import Derived.Test.YtlneebmlhblleaaGreatT6
import Derived.Deep.RegionHeld3
namespace Go.Proofs.YtlneebmlhblleaaGreat
open Go.RowKit
set_option linter.unusedVariables false
set_option maxHeartbeats 1000000
set_option maxRecDepth 100000
/- A cursor that is written while all else stays: what lies elsewhere, and what is new. -/
section
variable {w w' w'' : World} {g b : Nat}
theorem uG {o:Obj} (h:w.grownBy w' (some g)) (hb:w.heap[b]?=some o) (hne:b≠g):w'.heap[b]?=some o:=(h.block b (lt_of_heap hb) fun e=>hne (by simpa using e)).trans hb
theorem Row.gr {B T:Nat} {v:Value} {l:List Int} (h:Row w B T v l) (hw:w.grownBy w' (some g)) (hd:g < B∨T≤g):Row w' B T v l:=h.drawn hw hd
variable {α : Type} {t : TypeId} {sz B T : Nat} {E : World → List Value → α → (Nat → Prop) → Prop} {v : Value} {l : List α}
theorem bE.gr [Fr E] (h:bE t sz E w B T v l) (hw:w.grownBy w' (some g)) (hd:g < B∨T≤g):bE t sz E w' B T v l :=
 Ow.frame Fr.out h fun b hb hlt=>hw.block b hlt fun e=>by have:=hb.1;have:=hb.2;simp only [Option.some.injEq] at e;omega
theorem bE.Jk [Fr E] {row:Option Nat} (h:bE t sz E w B T v l) (hw:w.grownBy w' row) (hd:∀ j,row=some j→T≤j):bE t sz E w' B T v l :=
 Ow.frame Fr.out h fun b hb hlt=>hw.block b hlt fun e=>by have:=hd b e.symm;have:=hb.2;omega
end
theorem Row.Jk {w w':World} {B T:Nat} {v:Value} {l:List Int} {row:Option Nat} (h:Row w B T v l) (hw:w.grownBy w' row) (hd:∀ j,row=some j→T≤j):Row w' B T v l:=by
 refine ⟨h.1,⟨h.2.1.1,?_⟩,h.2.2⟩
 rcases h.2.1.2 with hn | ⟨g,cap,cur,hv,hg,hh,r⟩
 ·exact .inl hn
 ·have hlt:g < T:=h.2.2 g (by rw [hv];rfl)
  exact .inr ⟨g,cap,cur,hv,hg,(hw.block g (lt_of_heap hh) fun e=>by have:=hd g e.symm;omega).trans hh,r⟩
/- What ahA, ahB of package laws do. -/
theorem Yk (x:bf) (w:World) :
  Calls Tryz.prog 128 #[.agg #[.int .i64 x.uid,.int .i64 x.seq]] w fun e w'=>e=.returned (.agg #[.int .i64 x.uid,.int .i64 x.seq])∧Below w.heap.size w w':=by
 obtain ⟨uid,seq⟩:=x
 simp only
 go_enter Tryz.func128,Tryz.ntmps128
 go_wp2
 exact bodyPost_ret (v:=.agg #[.int .i64 uid,.int .i64 seq]) (by simp [results,Tryz.results128,go_sem]) rfl ⟨rfl,uw w _ _ _⟩
theorem yt:(Tryz.prog.info? 126).map (fun i=>(i.zero,i.size,i.bytes))=some (some (.agg #[.int .i64 0,.int .i64 0]),2,16):=by kernel_rfl
theorem Yl (v:Value) (l:List bf) (w:World) (hv:bO w v l) (hl:l.length≤2000000) :
  Calls Tryz.prog 100 #[v] w fun e w'=>∃ u,e=.returned u∧l8 w' w.heap.size w'.heap.size u l∧Below w.heap.size w w':=by
 have HV:Hid (∀ wi,Below w.heap.size w wi→bO wi v l):=fun wi h=>hv.below dY h
 obtain ⟨a,cap,rfl,hlc,hcm⟩:=hv.form
 have hll:l.length≤2000000:=by have:=Nat.le_refl l.length;omega
 clear hv
 obtain ⟨i0,hi,hz0,hz1,hz2⟩:=info_parts yt
 go_enter Tryz.func100,Tryz.ntmps100
 go_wp2_with (at_make;refine wpList_make_full _ rfl _ _ 35 rfl w.heap.size 126 i0 (.agg #[.int .i64 0,.int .i64 0]) 2 Tryz.underlying35 hi hz0 hz1 _ _ _ _ l.length rfl rfl rfl rfl ?b1 ?b2 ?b3 ?_)
 case b1=>rw [hz2];omega
 case b2=>unfold maxLen;omega
 case b3=>exact Nat.le_refl _
 intro w1 hown hgrow
 have HB:Hid (Below w.heap.size w w1):=(Below.refl w.heap.size w).grown hgrow (Nat.le_refl _) (by simp)
 have HP:Hid (Part 126 2 vV w1 w.heap.size l.length 0 l):=by obtain ⟨cur,h1,h2⟩:=Fx hown;exact Part.start h1 h2
 clear hown hgrow hi hz0 hz1 hz2
 go_wp2
 go_loopw [4] (fun i wr=>∃ k:Nat,k≤l.length∧i=.int .i64 k∧Hid (Part 126 2 vV wr w.heap.size l.length k l)∧Hid (Below w.heap.size w wr)) (fun i _=>l.length - (intOf i).toNat)
 case atStart=>exact ⟨0,Nat.zero_le _,rfl,HP,HB⟩
 case round =>
  obtain ⟨k,hk,rfl,hP,hB⟩:=hrel
  by_cases hlt:k < l.length
  ·obtain ⟨x,hx⟩:∃ x,l[k]?=some x:=⟨l[k],aK hlt⟩
   obtain ⟨b,off,cap',hv',hlb,d0,d1,i0,i1⟩:=bO.cell (HV.out wr hB.out) k x hx
   simp only [Value.slice.injEq,true_and] at hv'
   obtain ⟨rfl,rfl⟩:=hv'
   go_wp2_with fail
   refine (Yk x _).mono ?_
   rintro e w2 ⟨rfl,B⟩
   clear d0 d1
   have hs2:=B.size
   have HS:Hid (Part 126 2 vV (put w2 w.heap.size (k * 2) [.int .i64 x.uid,.int .i64 x.seq]) w.heap.size l.length (k+1) l):=Part.step jB hP.out B x hx hlt _ rfl ⟨rfl,i0,i1⟩
   have HB2:Hid (Below w.heap.size w w2):=Below.step hB.out B
   have hgl:=hP.out.lt
   have zP:w.heap.size < w2.heap.size:=by omega
   obtain ⟨q0,t0⟩:=(show ∃ u,w2.cell? ⟨w.heap.size,k * 2,none⟩=some u from by obtain ⟨⟨u,hu⟩,-⟩:=hP.out.cell (k * 2) (by omega);exact ⟨u,(B.cell (p:=⟨w.heap.size,k * 2,none⟩) hgl).trans hu⟩)
   obtain ⟨q1,t1⟩:=(show ∃ u,w2.cell? ⟨w.heap.size,k * 2+1,none⟩=some u from by obtain ⟨⟨u,hu⟩,-⟩:=hP.out.cell (k * 2+1) (by omega);exact ⟨u,(B.cell (p:=⟨w.heap.size,k * 2+1,none⟩) hgl).trans hu⟩)
   have fz:∀ i,w2.frozen? ⟨w.heap.size,i,none⟩=false:=by
    intro i
    obtain ⟨cur,cs,fs,hh,-⟩:=hP.out
    exact frozen_of_row w2 w.heap.size i cur 126 (ay B hh)
   clear hP hB B 
   go_wp2
   go_roundw
   case rel=>exact ⟨k+1,by omega,by go_num,HS,Fh HB2.out (Nat.le_refl _) (k * 2) [.int .i64 x.uid,.int .i64 x.seq]⟩
   case measure=>simp [intOf];omega
  ·obtain rfl:k=l.length:=by omega
   go_wp2
   go_ret
   exact ⟨_,rfl,Part.done hP.out rfl (by unfold maxLen;omega) (Nat.le_refl _),hB.out⟩
/- What ahC, ahD of package laws do. -/
theorem Jl {B B0 T0 T1 T2:Nat} (h0:B≤B0) (h1:B0≤T0) (h2:T0≤T1) (h3:T1≤T2) :
  (∀ x,In B0 T0 x→In B T2 x∧¬ In T0 T1 x∧¬ In T1 T2 x)∧(∀ x,In T0 T1 x→In B T2 x∧¬ In T1 T2 x)∧(∀ x,In T1 T2 x→In B T2 x):=by
 unfold In
 refine ⟨fun x h=>⟨by omega,by omega,by omega⟩,fun x h=>⟨by omega,by omega⟩,fun x h=>by omega⟩
theorem Ym (v:Value) (x:aD) (w:World) (hv:bK w v x) (h0:bA x≤2000000) :
  Calls Tryz.prog 63 #[v] w fun e w'=>∃ u,e=.returned u∧(∃ a n c p q r s t y,u=.agg #[.slice a n c,.int .i64 x.valid,.int .i64 x.next,.int .i64 x.seq,.slice p q r,.slice s t y,.int .i64 x.lost]∧dh w' [.slice a n c,.int .i64 x.valid,.int .i64 x.next,.int .i64 x.seq,.slice p q r,.slice s t y,.int .i64 x.lost] x (In w.heap.size w'.heap.size))∧Below w.heap.size w w':=by
 obtain ⟨u0,u1,u2,rfl,g0,g1,g2,i0,i1,i2,i3⟩:=hv
 obtain ⟨name,valid,next,seq,ah,au,lost⟩:=x
 simp only at g0 g1 g2 i0 i1 i2 i3
 have hs:name.length≤2000000∧dG ah≤2000000∧au.length≤2000000:=by unfold bA at h0;simp only at h0;omega
 clear h0
 have H0:Hid (∀ wi,Below w.heap.size w wi→Bs wi u0 name∧bY wi u1 ah∧bO wi u2 au):=fun wi h=>⟨g0.below h,g1.below eU h,g2.below dY h⟩
 obtain ⟨a0,n0,c0,rfl⟩:=g0.aG
 obtain ⟨a1,c1,rfl,-⟩:=g1.form
 obtain ⟨a2,c2,rfl,-⟩:=g2.form
 have HI:Hid (aB valid∧aB next∧aB seq∧aB lost):=⟨i0,i1,i2,i3⟩
 clear g0 g1 g2 i0 i1 i2 i3
 simp only
 go_enter Tryz.func63,Tryz.ntmps63
 go_wp2_with fail
 refine (Bj _ name _ (H0.out _ (uw w _ _ _)).1 hs.1).mono ?_
 rintro e w1 ⟨u0,rfl,R0,B⟩
 obtain ⟨x0,m0,y0,rfl⟩:=R0.bs.aG
 have b3:=Fe w (.cells #[.slice a0 n0 c0,.int .i64 valid,.int .i64 next,.int .i64 seq,.slice a1 ah.length c1,.slice a2 au.length c2,.int .i64 lost] 80) (.cells #[.slice none 0 0,.int .i64 0,.int .i64 0,.int .i64 0,.slice none 0 0,.slice none 0 0,.int .i64 0] 37) (.cells #[.slice none 0 0,.int .i64 0,.int .i64 0,.int .i64 0,.slice none 0 0,.slice none 0 0,.int .i64 0] 37)
 have kA:=ay B b3.1
 have kR:=ay B b3.2.1
 have kO:=ay B b3.2.2
 have s1:w.heap.size+3≤w1.heap.size:=by have:=B.size;simp at this;omega
 have X:=Below.step (uw w _ _ _) B
 replace R0:=R0.wide (B':=w.heap.size+3) (T':=w1.heap.size) (by simp) (Nat.le_refl _)
 clear b3 B
 obtain ⟨-,f1,f2,f3,f4,-,-⟩:=bF kA
 obtain ⟨oz,ol⟩:=bR kO
 obtain ⟨o0,o1,o2,o3,o4,o5,o6⟩:=bF kO
 go_wp2_with fail
 clear f1 f2 f3 f4 oz ol o0 o1 o2 o3 o4 o5 o6
 replace X:=X.setCell (p:=⟨w.heap.size+1+1,0,none⟩) (by simp;omega) (.slice x0 m0 y0)
 replace R0:=R0.set (g:=w.heap.size+1+1) (i:=0) (x:=.slice x0 m0 y0) (.inl (by omega))
 replace kA:=bP (i:=0) (v:=.slice x0 m0 y0) kA (show w.heap.size≠w.heap.size+1+1 by omega)
 replace kR:=bP (i:=0) (v:=.slice x0 m0 y0) kR (show w.heap.size+1≠w.heap.size+1+1 by omega)
 replace kO:(World.setCell _ _ _).heap[w.heap.size+1+1]?=some (Obj.cells #[.slice x0 m0 y0,.int .i64 0,.int .i64 0,.int .i64 0,.slice none 0 0,.slice none 0 0,.int .i64 0] 37):=aP (i:=0) (v:=.slice x0 m0 y0) kO
 replace X:=X.setCell (p:=⟨w.heap.size+1+1,1,none⟩) (by simp;omega) (.int .i64 valid)
 replace R0:=R0.set (g:=w.heap.size+1+1) (i:=1) (x:=.int .i64 valid) (.inl (by omega))
 replace kA:=bP (i:=1) (v:=.int .i64 valid) kA (show w.heap.size≠w.heap.size+1+1 by omega)
 replace kR:=bP (i:=1) (v:=.int .i64 valid) kR (show w.heap.size+1≠w.heap.size+1+1 by omega)
 replace kO:(World.setCell _ _ _).heap[w.heap.size+1+1]?=some (Obj.cells #[.slice x0 m0 y0,.int .i64 valid,.int .i64 0,.int .i64 0,.slice none 0 0,.slice none 0 0,.int .i64 0] 37):=aP (i:=1) (v:=.int .i64 valid) kO
 replace X:=X.setCell (p:=⟨w.heap.size+1+1,2,none⟩) (by simp;omega) (.int .i64 next)
 replace R0:=R0.set (g:=w.heap.size+1+1) (i:=2) (x:=.int .i64 next) (.inl (by omega))
 replace kA:=bP (i:=2) (v:=.int .i64 next) kA (show w.heap.size≠w.heap.size+1+1 by omega)
 replace kR:=bP (i:=2) (v:=.int .i64 next) kR (show w.heap.size+1≠w.heap.size+1+1 by omega)
 replace kO:(World.setCell _ _ _).heap[w.heap.size+1+1]?=some (Obj.cells #[.slice x0 m0 y0,.int .i64 valid,.int .i64 next,.int .i64 0,.slice none 0 0,.slice none 0 0,.int .i64 0] 37):=aP (i:=2) (v:=.int .i64 next) kO
 replace X:=X.setCell (p:=⟨w.heap.size+1+1,3,none⟩) (by simp;omega) (.int .i64 seq)
 replace R0:=R0.set (g:=w.heap.size+1+1) (i:=3) (x:=.int .i64 seq) (.inl (by omega))
 replace kA:=bP (i:=3) (v:=.int .i64 seq) kA (show w.heap.size≠w.heap.size+1+1 by omega)
 replace kR:=bP (i:=3) (v:=.int .i64 seq) kR (show w.heap.size+1≠w.heap.size+1+1 by omega)
 replace kO:(World.setCell _ _ _).heap[w.heap.size+1+1]?=some (Obj.cells #[.slice x0 m0 y0,.int .i64 valid,.int .i64 next,.int .i64 seq,.slice none 0 0,.slice none 0 0,.int .i64 0] 37):=aP (i:=3) (v:=.int .i64 seq) kO
 refine (Ya _ ah _ (H0.out _ X).2.1 hs.2.1).mono ?_
 rintro e w2 ⟨u1,rfl,R1,B⟩
 obtain ⟨x1,m1,y1,rfl⟩:=R1.aG
 simp only [aZ] at R1
 have s2:w1.heap.size≤w2.heap.size:=by have:=B.size;simpa only [aZ] using this
 replace X:=Below.step X B
 replace R0:=R0.below B
 replace kA:=ay B kA
 replace kR:=ay B kR
 replace kO:=ay B kO
 clear B
 obtain ⟨-,-,-,-,-,f5,-⟩:=bF kA
 obtain ⟨oz,ol⟩:=bR kO
 obtain ⟨o0,o1,o2,o3,o4,o5,o6⟩:=bF kO
 go_wp2_with fail
 clear f5 oz ol o0 o1 o2 o3 o4 o5 o6
 replace X:=X.setCell (p:=⟨w.heap.size+1+1,4,none⟩) (by simp;omega) (.slice x1 m1 y1)
 replace R0:=R0.set (g:=w.heap.size+1+1) (i:=4) (x:=.slice x1 m1 y1) (.inl (by omega))
 replace R1:=R1.set (g:=w.heap.size+1+1) (i:=4) (x:=.slice x1 m1 y1) (.inl (by omega))
 replace kA:=bP (i:=4) (v:=.slice x1 m1 y1) kA (show w.heap.size≠w.heap.size+1+1 by omega)
 replace kR:=bP (i:=4) (v:=.slice x1 m1 y1) kR (show w.heap.size+1≠w.heap.size+1+1 by omega)
 replace kO:(World.setCell _ _ _).heap[w.heap.size+1+1]?=some (Obj.cells #[.slice x0 m0 y0,.int .i64 valid,.int .i64 next,.int .i64 seq,.slice x1 m1 y1,.slice none 0 0,.int .i64 0] 37):=aP (i:=4) (v:=.slice x1 m1 y1) kO
 refine (Yl _ au _ (H0.out _ X).2.2 hs.2.2).mono ?_
 rintro e w3 ⟨u2,rfl,R2,B⟩
 obtain ⟨x2,m2,y2,rfl⟩:=R2.aG
 simp only [aZ] at R2
 have s3:w2.heap.size≤w3.heap.size:=by have:=B.size;simpa only [aZ] using this
 replace X:=Below.step X B
 replace R0:=R0.below B
 replace R1:=R1.below B
 replace kA:=ay B kA
 replace kR:=ay B kR
 replace kO:=ay B kO
 clear B
 obtain ⟨-,-,-,-,-,-,f6⟩:=bF kA
 obtain ⟨oz,ol⟩:=bR kO
 obtain ⟨o0,o1,o2,o3,o4,o5,o6⟩:=bF kO
 obtain ⟨rz,rl⟩:=bR kR
 obtain ⟨r0,r1,r2,r3,r4,r5,r6⟩:=bF kR
 go_wp2
 refine bodyPost_ret (v:=.agg #[.slice x0 m0 y0,.int .i64 valid,.int .i64 next,.int .i64 seq,.slice x1 m1 y1,.slice x2 m2 y2,.int .i64 lost]) (by simp [results,Tryz.results63,go_sem,r0,r1,r2,r3,r4,r5,r6]) rfl ⟨_,rfl,?_,?_⟩
 ·simp only [aZ]
  exact ⟨_,_,_,_,_,_,_,_,_,rfl,_,_,_,In (w.heap.size+3) w1.heap.size,In w1.heap.size w2.heap.size,In w2.heap.size w3.heap.size,rfl,Row.ro ((((((((((R0.set (g:=w.heap.size+1+1) (i:=5) (x:=.slice x2 m2 y2) (.inl (by omega))).set (g:=w.heap.size+1+1) (i:=6) (x:=.int .i64 lost) (.inl (by omega))).set (g:=w.heap.size+1) (i:=0) (x:=.slice x0 m0 y0) (.inl (by omega))).set (g:=w.heap.size+1) (i:=1) (x:=.int .i64 valid) (.inl (by omega))).set (g:=w.heap.size+1) (i:=2) (x:=.int .i64 next) (.inl (by omega))).set (g:=w.heap.size+1) (i:=3) (x:=.int .i64 seq) (.inl (by omega))).set (g:=w.heap.size+1) (i:=4) (x:=.slice x1 m1 y1) (.inl (by omega))).set (g:=w.heap.size+1) (i:=5) (x:=.slice x2 m2 y2) (.inl (by omega))).set (g:=w.heap.size+1) (i:=6) (x:=.int .i64 lost) (.inl (by omega)))),bE.ow ((((((((((R1.set (g:=w.heap.size+1+1) (i:=5) (x:=.slice x2 m2 y2) (.inl (by omega))).set (g:=w.heap.size+1+1) (i:=6) (x:=.int .i64 lost) (.inl (by omega))).set (g:=w.heap.size+1) (i:=0) (x:=.slice x0 m0 y0) (.inl (by omega))).set (g:=w.heap.size+1) (i:=1) (x:=.int .i64 valid) (.inl (by omega))).set (g:=w.heap.size+1) (i:=2) (x:=.int .i64 next) (.inl (by omega))).set (g:=w.heap.size+1) (i:=3) (x:=.int .i64 seq) (.inl (by omega))).set (g:=w.heap.size+1) (i:=4) (x:=.slice x1 m1 y1) (.inl (by omega))).set (g:=w.heap.size+1) (i:=5) (x:=.slice x2 m2 y2) (.inl (by omega))).set (g:=w.heap.size+1) (i:=6) (x:=.int .i64 lost) (.inl (by omega)))),bE.ow ((((((((((R2.set (g:=w.heap.size+1+1) (i:=5) (x:=.slice x2 m2 y2) (.inl (by omega))).set (g:=w.heap.size+1+1) (i:=6) (x:=.int .i64 lost) (.inl (by omega))).set (g:=w.heap.size+1) (i:=0) (x:=.slice x0 m0 y0) (.inl (by omega))).set (g:=w.heap.size+1) (i:=1) (x:=.int .i64 valid) (.inl (by omega))).set (g:=w.heap.size+1) (i:=2) (x:=.int .i64 next) (.inl (by omega))).set (g:=w.heap.size+1) (i:=3) (x:=.int .i64 seq) (.inl (by omega))).set (g:=w.heap.size+1) (i:=4) (x:=.slice x1 m1 y1) (.inl (by omega))).set (g:=w.heap.size+1) (i:=5) (x:=.slice x2 m2 y2) (.inl (by omega))).set (g:=w.heap.size+1) (i:=6) (x:=.int .i64 lost) (.inl (by omega)))),(Jl (by omega) (by omega) (by omega) (by omega)).1,(Jl (B0:=w.heap.size+3) (by omega) (by omega) (by omega) (by omega)).2.1,(Jl (B0:=w.heap.size+3) (T0:=w1.heap.size) (by omega) (by omega) (by omega) (by omega)).2.2,HI.out⟩
 ·exact (((((((((X.setCell (p:=⟨w.heap.size+1+1,5,none⟩) (by simp <;> omega) (.slice x2 m2 y2)).setCell (p:=⟨w.heap.size+1+1,6,none⟩) (by simp <;> omega) (.int .i64 lost)).setCell (p:=⟨w.heap.size+1,0,none⟩) (by simp <;> omega) (.slice x0 m0 y0)).setCell (p:=⟨w.heap.size+1,1,none⟩) (by simp <;> omega) (.int .i64 valid)).setCell (p:=⟨w.heap.size+1,2,none⟩) (by simp <;> omega) (.int .i64 next)).setCell (p:=⟨w.heap.size+1,3,none⟩) (by simp <;> omega) (.int .i64 seq)).setCell (p:=⟨w.heap.size+1,4,none⟩) (by simp <;> omega) (.slice x1 m1 y1)).setCell (p:=⟨w.heap.size+1,5,none⟩) (by simp <;> omega) (.slice x2 m2 y2)).setCell (p:=⟨w.heap.size+1,6,none⟩) (by simp <;> omega) (.int .i64 lost))
theorem uH:(Tryz.prog.info? 37).map (fun i=>(i.zero,i.size,i.bytes))=some (some (.agg #[.slice none 0 0,.int .i64 0,.int .i64 0,.int .i64 0,.slice none 0 0,.slice none 0 0,.int .i64 0]),7,104):=by kernel_rfl
theorem Yn (v:Value) (l:List aD) (w:World) (hv:cK w v l) (hl:jf l≤2000000) :
  Calls Tryz.prog 25 #[v] w fun e w'=>∃ u,e=.returned u∧xV w' w.heap.size w'.heap.size u l∧Below w.heap.size w w':=by
 have HV:Hid (∀ wi,Below w.heap.size w wi→cK wi v l):=fun wi h=>hv.below lq h
 obtain ⟨a,cap,rfl,hlc,hcm⟩:=hv.form
 have hll:l.length≤2000000:=by have:=Fu l;omega
 clear hv
 obtain ⟨i0,hi,hz0,hz1,hz2⟩:=info_parts uH
 go_enter Tryz.func25,Tryz.ntmps25
 go_wp2_with (at_make;refine wpList_make_full _ rfl _ _ 31 rfl w.heap.size 37 i0 (.agg #[.slice none 0 0,.int .i64 0,.int .i64 0,.int .i64 0,.slice none 0 0,.slice none 0 0,.int .i64 0]) 7 Tryz.underlying31 hi hz0 hz1 _ _ _ _ l.length rfl rfl rfl rfl ?b1 ?b2 ?b3 ?_)
 case b1=>rw [hz2];omega
 case b2=>unfold maxLen;omega
 case b3=>exact Nat.le_refl _
 intro w1 hown hgrow
 have HB:Hid (Below w.heap.size w w1):=(Below.refl w.heap.size w).grown hgrow (Nat.le_refl _) (by simp)
 have HP:Hid (Part 37 7 dh w1 w.heap.size l.length 0 l):=by obtain ⟨cur,h1,h2⟩:=Fx hown;exact Part.start h1 h2
 clear hown hgrow hi hz0 hz1 hz2
 go_wp2
 go_loopw [4] (fun i wr=>∃ k:Nat,k≤l.length∧i=.int .i64 k∧Hid (Part 37 7 dh wr w.heap.size l.length k l)∧Hid (Below w.heap.size w wr)) (fun i _=>l.length - (intOf i).toNat)
 case atStart=>exact ⟨0,Nat.zero_le _,rfl,HP,HB⟩
 case round =>
  obtain ⟨k,hk,rfl,hP,hB⟩:=hrel
  by_cases hlt:k < l.length
  ·obtain ⟨x,hx⟩:∃ x,l[k]?=some x:=⟨l[k],aK hlt⟩
   obtain ⟨b,off,cap',u0,u1,u2,hv',hlb,d0,d1,d2,d3,d4,d5,d6,hu0,hu1,hu2,i0,i1,i2,i3⟩:=cK.cell (HV.out wr hB.out) k x hx
   simp only [Value.slice.injEq,true_and] at hv'
   obtain ⟨rfl,rfl⟩:=hv'
   obtain ⟨ua,un,uc,rfl⟩:=hu0.aG
   obtain ⟨va,vc,rfl,-⟩:=hu1.form
   obtain ⟨wa,wc,rfl,-⟩:=hu2.form
   go_wp2_with fail
   refine (Ym _ x _ ⟨_,_,_,rfl,hu0,hu1,hu2,i0,i1,i2,i3⟩ (by have:=Fq (List.mem_of_getElem? hx);omega)).mono ?_
   rintro e w2 ⟨_,rfl,⟨ya,yn,yc,za,zn,zc,ta,tn,tc,rfl,he⟩,B⟩
   clear d0 d1 d2 d3 d4 d5 d6
   have hs2:=B.size
   have HS:Hid (Part 37 7 dh (put w2 w.heap.size (k * 7) [.slice ya yn yc,.int .i64 x.valid,.int .i64 x.next,.int .i64 x.seq,.slice za zn zc,.slice ta tn tc,.int .i64 x.lost]) w.heap.size l.length (k+1) l):=Part.step gq hP.out B x hx hlt _ rfl he
   have HB2:Hid (Below w.heap.size w w2):=Below.step hB.out B
   have hgl:=hP.out.lt
   have zP:w.heap.size < w2.heap.size:=by omega
   obtain ⟨q0,t0⟩:=(show ∃ u,w2.cell? ⟨w.heap.size,k * 7,none⟩=some u from by obtain ⟨⟨u,hu⟩,-⟩:=hP.out.cell (k * 7) (by omega);exact ⟨u,(B.cell (p:=⟨w.heap.size,k * 7,none⟩) hgl).trans hu⟩)
   obtain ⟨q1,t1⟩:=(show ∃ u,w2.cell? ⟨w.heap.size,k * 7+1,none⟩=some u from by obtain ⟨⟨u,hu⟩,-⟩:=hP.out.cell (k * 7+1) (by omega);exact ⟨u,(B.cell (p:=⟨w.heap.size,k * 7+1,none⟩) hgl).trans hu⟩)
   obtain ⟨q2,t2⟩:=(show ∃ u,w2.cell? ⟨w.heap.size,k * 7+2,none⟩=some u from by obtain ⟨⟨u,hu⟩,-⟩:=hP.out.cell (k * 7+2) (by omega);exact ⟨u,(B.cell (p:=⟨w.heap.size,k * 7+2,none⟩) hgl).trans hu⟩)
   obtain ⟨q3,t3⟩:=(show ∃ u,w2.cell? ⟨w.heap.size,k * 7+3,none⟩=some u from by obtain ⟨⟨u,hu⟩,-⟩:=hP.out.cell (k * 7+3) (by omega);exact ⟨u,(B.cell (p:=⟨w.heap.size,k * 7+3,none⟩) hgl).trans hu⟩)
   obtain ⟨q4,t4⟩:=(show ∃ u,w2.cell? ⟨w.heap.size,k * 7+4,none⟩=some u from by obtain ⟨⟨u,hu⟩,-⟩:=hP.out.cell (k * 7+4) (by omega);exact ⟨u,(B.cell (p:=⟨w.heap.size,k * 7+4,none⟩) hgl).trans hu⟩)
   obtain ⟨q5,t5⟩:=(show ∃ u,w2.cell? ⟨w.heap.size,k * 7+5,none⟩=some u from by obtain ⟨⟨u,hu⟩,-⟩:=hP.out.cell (k * 7+5) (by omega);exact ⟨u,(B.cell (p:=⟨w.heap.size,k * 7+5,none⟩) hgl).trans hu⟩)
   obtain ⟨q6,t6⟩:=(show ∃ u,w2.cell? ⟨w.heap.size,k * 7+6,none⟩=some u from by obtain ⟨⟨u,hu⟩,-⟩:=hP.out.cell (k * 7+6) (by omega);exact ⟨u,(B.cell (p:=⟨w.heap.size,k * 7+6,none⟩) hgl).trans hu⟩)
   have fz:∀ i,w2.frozen? ⟨w.heap.size,i,none⟩=false:=by
    intro i
    obtain ⟨cur,cs,fs,hh,-⟩:=hP.out
    exact frozen_of_row w2 w.heap.size i cur 37 (ay B hh)
   clear hP hB B he
   go_wp2
   go_roundw
   case rel=>exact ⟨k+1,by omega,by go_num,HS,Fh HB2.out (Nat.le_refl _) (k * 7) [.slice ya yn yc,.int .i64 x.valid,.int .i64 x.next,.int .i64 x.seq,.slice za zn zc,.slice ta tn tc,.int .i64 x.lost]⟩
   case measure=>simp [intOf];omega
  ·obtain rfl:k=l.length:=by omega
   go_wp2
   go_ret
   exact ⟨_,rfl,Part.done hP.out rfl (by unfold maxLen;omega) (Nat.le_refl _),hB.out⟩
/- In a region that draws its order: operations whose guards are not met are passed by together. -/
/-- These operations may come up one behind the other, and none is wanted; ds: the slots that they would fill. -/
def BH (md:Region.Mode) (ops:Array Oper):List Nat→List Nat→Array Bool→Array Value→Bool
 | [],[],_,_=>true
 | i :: is,d :: ds,l,tm=>match ops[i]? with
  | some o=>(o.dst == some d) && (Region.free md ops l i && ((Region.ready md ops l).contains i && (!(Region.wanted o (yielded ops tm)) && BH md ops is ds (l.setIfInBounds i true) (tm.setIfInBounds d undef))))
  | none=>false
 | _,_,_,_=>false
theorem BI {P:Program} {md:Region.Mode} {ops:Array Oper} {Q:Exit→Act→World→Prop} {S:World→Prop} {w:World} (hs:Region.noSelect ops=true)
  (hQ:∀ (d:Nat) v c a w,Q (.panic c) (a.put (some d) v) w→Q (.panic c) a w) (hS:S w) :
  ∀ (is ds:List Nat) (l:Array Bool) (a:Act) (fuel:Nat),BH md ops is ds l a.tmps=true →
   wpAnyH P md ops Q S fuel (is.foldl (fun l i=>l.setIfInBounds i true) l) (ds.foldl (fun a d=>a.put (some d) undef) a) w→wpAnyH P md ops Q S (fuel+is.length) l a w
 | [],[],_,_,_,_,h=>h
 | [],_ :: _,_,_,_,hk,_=>by simp [BH] at hk
 | _ :: _,[],_,_,_,hk,_=>by simp [BH] at hk
 | i :: is,d :: ds,l,a,fuel,hk,h=>by
  unfold BH at hk
  split at hk
  ·rename_i o ho
   simp only [Bool.and_eq_true,beq_iff_eq,Bool.not_eq_true'] at hk
   obtain ⟨h1,h2,h3,h4,h5⟩:=hk
   refine wpAnyH_take (fuel:=fuel+is.length) (i:=i) (oi:=o) (v:=undef) ho hs h2 h3 (fun c a w=>by rw [h1];exact hQ d _ c a w) (Or.inr ⟨h4,rfl⟩) hS ?_
   rw [h1]
   exact BI hs hQ hS is ds _ _ fuel (by simpa [Act.put] using h5) h
  ·cases hk
/-- One operation is taken first; the slot that it fills is named. -/
theorem Yo {P:Program} {md:Region.Mode} {ops:Array Oper} {Q:Exit→Act→World→Prop} {S:World→Prop} {i:Nat} (d:Nat) {oi:Oper} {v:Value} {fuel:Nat} {listed:Array Bool} {a:Act} {w:World} (hi:ops[i]?=some oi)
  (hd:oi.dst=some d) (hs:Region.noSelect ops=true) (hf:Region.free md ops listed i=true) (hr:(Region.ready md ops listed).contains i=true)
  (hQ:∀ c a w,Q (.panic c) (a.put (some d) v) w→Q (.panic c) a w) (hy:YieldsIf P ops S oi v a) (hS:S w)
  (h:wpAnyH P md ops Q S fuel (listed.setIfInBounds i true) (a.put (some d) v) w):wpAnyH P md ops Q S (fuel+1) listed a w :=
 wpAnyH_take hi hs hf hr (by rw [hd];exact hQ) hy hS (by rw [hd];exact h)
/-- The same, its side conditions in one Bool; short, for it is written often. -/
theorem tk {P:Program} {md:Region.Mode} {ops:Array Oper} {Q:Exit→Act→World→Prop} {S:World→Prop} (i d:Nat) {oi:Oper} (v:Value) {fuel:Nat} {listed:Array Bool} {a:Act} {w:World}
  (hy:∀ w,S w→(execOp a.eval oi).run P w=.ok (.value v) w) (hS:S w) (h:wpAnyH P md ops Q S fuel (listed.setIfInBounds i true) (a.put (some d) v) w)
  (hi:ops[i]?=some oi:=by rfl)
  (hc:(Region.noSelect ops && (Region.free md ops listed i && (Region.ready md ops listed).contains i))=true:=by decide +kernel)
  (hg:(oi.dst == some d && Region.wanted oi (yielded ops a.tmps))=true:=by kernel_rfl)
  (hQ:∀ c a w,Q (.panic c) (a.put (some d) v) w→Q (.panic c) a w:=by exact fun _ _ _ h=>h):wpAnyH P md ops Q S (fuel+1) listed a w:=by
 simp only [Bool.and_eq_true,beq_iff_eq] at hc hg
 obtain ⟨h2,h3,h4⟩:=hc
 obtain ⟨h1,h5⟩:=hg
 exact Yo d hi h1 h2 h3 h4 hQ (Or.inl ⟨h5,hy⟩) hS h
theorem sA {α:Type} (l:List α) (i:Nat) (a:α):l.toArray.setIfInBounds i a=(l.set i a).toArray:=by simp
theorem s0 {α:Type} (x:α) (l:List α) (a:α):(x :: l).set 0 a=a :: l:=rfl
theorem sS {α:Type} (x:α) (l:List α) (i:Nat) (a:α):(x :: l).set (i+1) a=x :: l.set i a:=rfl
/-- The same, what it yields and the state behind it found by themselves. -/
theorem tq {P:Program} {md:Region.Mode} {ops:Array Oper} {Q:Exit→Act→World→Prop} {S:World→Prop} (i d:Nat) {oi:Oper} {v:Value} {fuel:Nat} {listed:Array Bool} {a a':Act} {w:World}
  (hS:S w) (h:wpAnyH P md ops Q S fuel (listed.setIfInBounds i true) a' w)
  (hi:ops[i]?=some oi:=by rfl)
  (hc:(Region.noSelect ops && (Region.free md ops listed i && (Region.ready md ops listed).contains i))=true:=by decide +kernel)
  (hg:(oi.dst == some d && Region.wanted oi (yielded ops a.tmps))=true:=by kernel_rfl)
  (hy:∀ w,S w→(execOp a.eval oi).run P w=.ok (.value v) w:=by (intro w s;(try dsimp only at s);go_simp <;> with_reducible rfl))
  (ha:a.put (some d) v=a':=by (conv=>lhs;simp only [Act.put,sA,s0,sS]))
  (hQ:∀ c a w,Q (.panic c) (a.put (some d) v) w→Q (.panic c) a w:=by exact fun _ _ _ h=>h):wpAnyH P md ops Q S (fuel+1) listed a w :=
 tk i d v hy hS (by rw [ha];exact h) hi hc hg hQ
/- Yp and rows of names in memory: what they read as, and those of the call's own. -/
structure cO where
 code:Int
 num:Int
 box:aD
 names:List (List Int)
def Jm (w:World) (c:List Value) (l:List Int):Prop:=∃ u,c=[u]∧Bs w u l
abbrev mQ:=Rd 1 Jm
theorem BJ:Keeps Jm:=fun _ _ _ _ hb h=>let ⟨u,h0,h1⟩:=h;⟨u,h0,h1.below hb⟩
def qQ (w:World) (c:List Value) (l:List Int) (S:Nat→Prop):Prop:=∃ u,c=[u]∧RO w S u l
theorem kL:Frames qQ:=fun _ _ _ _ _ h hw=>let ⟨u,h0,h1⟩:=h;⟨u,h0,h1.frame hw⟩
instance:Fr qQ:=⟨kL⟩
abbrev kM:=Ow 26 1 qQ
theorem qQ.rd {w:World} {c:List Value} {l:List Int} {S:Nat→Prop} (h:qQ w c l S):Jm w c l:=let ⟨u,h0,h1⟩:=h;⟨u,h0,h1.bs⟩
theorem mQ.cell {w:World} {v:Value} {l:List (List Int)} (h:mQ w v l) (k:Nat) (x:List Int) (hx:l[k]?=some x):∃ b off cap u,v=.slice (some ⟨b,off,none⟩) l.length cap∧b < w.heap.size∧w.cell? ⟨b,off+k,none⟩=some u∧Bs w u x:=by
 obtain ⟨b,off,cap,c,hv,hlt,⟨u,rfl,hi⟩,-,hc⟩:=h.get k x hx
 exact ⟨b,off,cap,u,hv,hlt,by simpa using hc 0 _ rfl,hi⟩
def oM (l:List (List Int)):Nat:=(l.map fun m=>m.length+1).sum
theorem Pv {l:List (List Int)} {m:List Int} (h:m ∈ l):m.length+1≤oM l:=by
 induction l with
 | nil=>cases h
 | cons x l ih =>
  simp only [oM,List.map_cons,List.sum_cons] at ih ⊢
  rcases List.mem_cons.1 h with rfl | h
  ·omega
  ·have:=ih h;omega
theorem Pw (l:List (List Int)):l.length≤oM l:=by
 induction l with
 | nil=>simp [oM]
 | cons x l ih=>simp only [oM,List.map_cons,List.sum_cons,List.length_cons] at ih ⊢;omega
/-- The value v reads as a reply. -/
def iO (w:World) (v:Value) (x:cO):Prop:=∃ u0 u1 u2 u3,v=.agg #[.int .i64 x.code,.int .i64 x.num,u0,.int .i64 x.box.valid,.int .i64 x.box.next,.int .i64 x.box.seq,u1,u2,.int .i64 x.box.lost,u3]∧bK w (.agg #[u0,.int .i64 x.box.valid,.int .i64 x.box.next,.int .i64 x.box.seq,u1,u2,.int .i64 x.box.lost]) x.box∧mQ w u3 x.names∧aB x.code∧aB x.num
theorem iO.below {w w':World} {v:Value} {x:cO} (h:iO w v x) (hb:Below w.heap.size w w'):iO w' v x :=
 let ⟨u0,u1,u2,u3,h0,h1,h2,i⟩:=h;⟨u0,u1,u2,u3,h0,h1.below hb,h2.below BJ hb,i⟩
/-- A reply of the call's own in blocks from B on and below T. -/
def dD (w:World) (B T:Nat) (v:Value) (x:cO):Prop :=
 ∃ u0 u1 u2 u3 T0,v=.agg #[.int .i64 x.code,.int .i64 x.num,u0,.int .i64 x.box.valid,.int .i64 x.box.next,.int .i64 x.box.seq,u1,u2,.int .i64 x.box.lost,u3]∧dh w [u0,.int .i64 x.box.valid,.int .i64 x.box.next,.int .i64 x.box.seq,u1,u2,.int .i64 x.box.lost] x.box (In B T0)∧kM w (In T0 T) u3 x.names∧B≤T0∧T0≤T∧aB x.code∧aB x.num
theorem dh.wide {w:World} {c:List Value} {b:aD} {S S':Nat→Prop} (h:dh w c b S) (hS:∀ x,S x→S' x):dh w c b S' :=
 let ⟨u0,u1,u2,S0,S1,S2,h0,h1,h2,h3,d0,d1,d2,r⟩:=h
 ⟨u0,u1,u2,S0,S1,S2,h0,h1,h2,h3,fun x hx=>⟨hS x (d0 x hx).1,(d0 x hx).2⟩,fun x hx=>⟨hS x (d1 x hx).1,(d1 x hx).2⟩,fun x hx=>hS x (d2 x hx),r⟩
theorem dh.set {w:World} {g i B T:Nat} {c:List Value} {x:Value} {b:aD} (h:dh w c b (In B T)) (hd:g < B∨T≤g):dh (w.setCell ⟨g,i,none⟩ x) c b (In B T) :=
 gq _ _ _ _ _ h fun b hb hlt=>Below.heap_setCell _ _ _ _ (by have:=hb.1;have:=hb.2;show b≠g;omega)
section
variable {w w' : World} {B T B' T' : Nat} {v : Value} {y : cO}
theorem dD.rv (h:dD w B T v y):iO w v y:=by
 obtain ⟨u0,u1,u2,u3,T0,h0,h1,h2,-,-,i⟩:=h
 obtain ⟨p0,p1,p2,e,q⟩:=h1.rd
 simp only [List.cons.injEq,and_true,true_and] at e
 obtain ⟨rfl,rfl,rfl⟩:=e
 exact ⟨u0,u1,u2,u3,h0,⟨_,_,_,rfl,q⟩,h2.rd fun _ _ _ _=>qQ.rd,i⟩
theorem dD.below (h:dD w B T v y) (hb:Below w.heap.size w w'):dD w' B T v y :=
 let ⟨u0,u1,u2,u3,T0,h0,h1,h2,r⟩:=h;⟨u0,u1,u2,u3,T0,h0,gq _ _ _ _ _ h1 fun b _ hlt=>hb.block b hlt,h2.below kL hb,r⟩
theorem dD.wide (h:dD w B T v y) (hB:B'≤B) (hT:T≤T'):dD w B' T' v y :=
 let ⟨u0,u1,u2,u3,T0,h0,h1,h2,j0,j1,i⟩:=h
 ⟨u0,u1,u2,u3,T0,h0,h1.wide fun x hx=>⟨Nat.le_trans hB hx.1,hx.2⟩,h2.mono fun x hx=>⟨hx.1,Nat.lt_of_lt_of_le hx.2 hT⟩,by omega,by omega,i⟩
theorem dD.gZ (h:dD w B T v y) (hw:Within B' T' w w') (hd:T≤B'∨T'≤B):dD w' B T v y :=
 let ⟨u0,u1,u2,u3,T0,h0,h1,h2,j0,j1,i⟩:=h
 ⟨u0,u1,u2,u3,T0,h0,gq _ _ _ _ _ h1 fun b hb hlt=>hw.block b hlt (by have:=hb.1;have:=hb.2;omega),h2.frame kL fun b hb hlt=>hw.block b hlt (by have:=hb.1;have:=hb.2;omega),j0,j1,i⟩
end
theorem aM {w:World} {g:Nat} {t:TypeId} {c0 c1 c2 c3 c4 c5 c6 c7 c8 c9:Value} (h:w.heap[g]?=some (.cells #[c0,c1,c2,c3,c4,c5,c6,c7,c8,c9] t (0,0))) :
  w.cell? ⟨g,0,none⟩=some c0∧w.cell? ⟨g,1,none⟩=some c1∧w.cell? ⟨g,2,none⟩=some c2∧w.cell? ⟨g,3,none⟩=some c3∧w.cell? ⟨g,4,none⟩=some c4∧w.cell? ⟨g,5,none⟩=some c5∧w.cell? ⟨g,6,none⟩=some c6∧w.cell? ⟨g,7,none⟩=some c7∧w.cell? ⟨g,8,none⟩=some c8∧w.cell? ⟨g,9,none⟩=some c9 :=
 ⟨by rw [cell_of_row w g 0 _ t (0,0) h];rfl,by rw [cell_of_row w g 1 _ t (0,0) h];rfl,by rw [cell_of_row w g 2 _ t (0,0) h];rfl,by rw [cell_of_row w g 3 _ t (0,0) h];rfl,by rw [cell_of_row w g 4 _ t (0,0) h];rfl,by rw [cell_of_row w g 5 _ t (0,0) h];rfl,by rw [cell_of_row w g 6 _ t (0,0) h];rfl,by rw [cell_of_row w g 7 _ t (0,0) h];rfl,by rw [cell_of_row w g 8 _ t (0,0) h];rfl,by rw [cell_of_row w g 9 _ t (0,0) h];rfl⟩
/-- A Yq shape laid open, and its parts. -/
theorem iO.form {w:World} {v:Value} {x:cO} (h:iO w v x):∃ a0 n0 c0 a1 c1 a2 c2 a3 c3,v=.agg #[.int .i64 x.code,.int .i64 x.num,.slice a0 n0 c0,.int .i64 x.box.valid,.int .i64 x.box.next,.int .i64 x.box.seq,.slice a1 x.box.ah.length c1,.slice a2 x.box.au.length c2,.int .i64 x.box.lost,.slice a3 x.names.length c3]:=by
 obtain ⟨u0,u1,u2,u3,rfl,⟨p0,p1,p2,e,q0,q1,q2,-⟩,q3,-⟩:=h
 simp only [Value.agg.injEq,Array.mk.injEq,List.cons.injEq,and_true,true_and] at e
 obtain ⟨rfl,rfl,rfl⟩:=e
 obtain ⟨a0,n0,c0,rfl⟩:=q0.aG
 obtain ⟨a1,c1,rfl,-⟩:=q1.form
 obtain ⟨a2,c2,rfl,-⟩:=q2.form
 obtain ⟨a3,c3,rfl,-⟩:=q3.form
 exact ⟨_,_,_,_,_,_,_,_,_,rfl⟩
theorem iO.parts {w:World} {z0 z1 z2 z3:Value} {x:cO} (h:iO w (.agg #[.int .i64 x.code,.int .i64 x.num,z0,.int .i64 x.box.valid,.int .i64 x.box.next,.int .i64 x.box.seq,z1,z2,.int .i64 x.box.lost,z3]) x):bK w (.agg #[z0,.int .i64 x.box.valid,.int .i64 x.box.next,.int .i64 x.box.seq,z1,z2,.int .i64 x.box.lost]) x.box∧mQ w z3 x.names∧aB x.code∧aB x.num:=by
 obtain ⟨u0,u1,u2,u3,e,h1,h2,i⟩:=h
 simp only [Value.agg.injEq,Array.mk.injEq,List.cons.injEq,and_true,true_and] at e
 obtain ⟨rfl,rfl,rfl,rfl⟩:=e
 exact ⟨h1,h2,i⟩
end Go.Proofs.YtlneebmlhblleaaGreat
