/- The proof's texts, part 40. -/
import Derived.Test.YtlneebmlhblleaaGreatTs
namespace Go.Proofs.YtlneebmlhblleaaGreat
open Go.RowKit
set_option linter.unusedVariables false
set_option maxHeartbeats 4000000
set_option maxRecDepth 100000
/- What ajL, ajM, ajN of package laws do. -/
theorem IE (v:Value) (k:Int) (bx tt:List Int) (uid mode fl si:Int) (tx:List Int) (w:World) (hv:ig w v k bx tt uid mode fl si tx) (h0:bx.length≤2000000) (h1:tt.length≤2000000) (h2:tx.length≤2000000) :
  Calls Tryz.prog 8 #[v] w fun e w'=>∃ u,e=.returned u∧iN w' w.heap.size w'.heap.size u k bx tt uid mode fl si tx∧Below w.heap.size w w':=by
 obtain ⟨u0,u1,u2,rfl,g0,g1,g2,i0,i1,i2,i3,i4⟩:=hv
 have H0:Hid (∀ wi,Below w.heap.size w wi→Bs wi u0 bx∧Bs wi u1 tt∧Bs wi u2 tx):=fun wi h=>⟨g0.below h,g1.below h,g2.below h⟩
 obtain ⟨a0,n0,c0,rfl⟩:=g0.aG
 obtain ⟨a1,n1,c1,rfl⟩:=g1.aG
 obtain ⟨a2,n2,c2,rfl⟩:=g2.aG
 have HI:Hid (aB k∧aB uid∧aB mode∧aB fl∧aB si):=⟨i0,i1,i2,i3,i4⟩
 clear g0 g1 g2 i0 i1 i2 i3 i4
 go_enter Tryz.func8,Tryz.ntmps8
 go_wp2_with fail
 refine (Bj _ bx _ (H0.out _ (uw w _ _ _)).1 h0).mono ?_
 rintro e w1 ⟨u0,rfl,R0,B⟩
 obtain ⟨x0,m0,y0,rfl⟩:=R0.bs.aG
 have b3:=Fe w (.cells #[.int .i64 k,.slice a0 n0 c0,.slice a1 n1 c1,.int .i64 uid,.int .i64 mode,.int .i64 fl,.int .i64 si,.slice a2 n2 c2] 28) (.cells #[.int .i64 0,.slice none 0 0,.slice none 0 0,.int .i64 0,.int .i64 0,.int .i64 0,.int .i64 0,.slice none 0 0] 44) (.cells #[.int .i64 k,.slice none 0 0,.slice none 0 0,.int .i64 0,.int .i64 0,.int .i64 0,.int .i64 0,.slice none 0 0] 44)
 have kA:=ay B b3.1
 have kR:=ay B b3.2.1
 have kO:=ay B b3.2.2
 have s1:w.heap.size+3≤w1.heap.size:=by have:=B.size;simp at this;omega
 have X:=Below.step (uw w _ _ _) B
 replace R0:=R0.wide (B':=w.heap.size+3) (T':=w1.heap.size) (by simp) (Nat.le_refl _)
 clear b3 B
 obtain ⟨-,-,f2,-,-,-,-,-⟩:=jd kA
 obtain ⟨oz,ol⟩:=bR kO
 obtain ⟨o0,o1,o2,o3,o4,o5,o6,o7⟩:=jd kO
 go_wp2_with fail
 clear f2 oz ol o0 o1 o2 o3 o4 o5 o6 o7
 replace X:=X.setCell (p:=⟨w.heap.size+1+1,1,none⟩) (by simp;omega) (.slice x0 m0 y0)
 replace R0:=R0.set (g:=w.heap.size+1+1) (i:=1) (x:=.slice x0 m0 y0) (.inl (by omega))
 replace kA:=bP (i:=1) (v:=.slice x0 m0 y0) kA (show w.heap.size≠w.heap.size+1+1 by omega)
 replace kR:=bP (i:=1) (v:=.slice x0 m0 y0) kR (show w.heap.size+1≠w.heap.size+1+1 by omega)
 replace kO:(World.setCell _ _ _).heap[w.heap.size+1+1]?=some (Obj.cells #[.int .i64 k,.slice x0 m0 y0,.slice none 0 0,.int .i64 0,.int .i64 0,.int .i64 0,.int .i64 0,.slice none 0 0] 44):=aP (i:=1) (v:=.slice x0 m0 y0) kO
 refine (Bj _ tt _ (H0.out _ X).2.1 h1).mono ?_
 rintro e w2 ⟨u1,rfl,R1,B⟩
 obtain ⟨x1,m1,y1,rfl⟩:=R1.bs.aG
 simp only [aZ] at R1
 have s2:w1.heap.size≤w2.heap.size:=by have:=B.size;simpa only [aZ] using this
 replace X:=Below.step X B
 replace R0:=R0.below B
 replace kA:=ay B kA
 replace kR:=ay B kR
 replace kO:=ay B kO
 clear B
 obtain ⟨-,-,-,f3,f4,f5,f6,f7⟩:=jd kA
 obtain ⟨oz,ol⟩:=bR kO
 obtain ⟨o0,o1,o2,o3,o4,o5,o6,o7⟩:=jd kO
 go_wp2_with fail
 clear f3 f4 f5 f6 f7 oz ol o0 o1 o2 o3 o4 o5 o6 o7
 replace X:=X.setCell (p:=⟨w.heap.size+1+1,2,none⟩) (by simp;omega) (.slice x1 m1 y1)
 replace R0:=R0.set (g:=w.heap.size+1+1) (i:=2) (x:=.slice x1 m1 y1) (.inl (by omega))
 replace R1:=R1.set (g:=w.heap.size+1+1) (i:=2) (x:=.slice x1 m1 y1) (.inl (by omega))
 replace kA:=bP (i:=2) (v:=.slice x1 m1 y1) kA (show w.heap.size≠w.heap.size+1+1 by omega)
 replace kR:=bP (i:=2) (v:=.slice x1 m1 y1) kR (show w.heap.size+1≠w.heap.size+1+1 by omega)
 replace kO:(World.setCell _ _ _).heap[w.heap.size+1+1]?=some (Obj.cells #[.int .i64 k,.slice x0 m0 y0,.slice x1 m1 y1,.int .i64 0,.int .i64 0,.int .i64 0,.int .i64 0,.slice none 0 0] 44):=aP (i:=2) (v:=.slice x1 m1 y1) kO
 replace X:=X.setCell (p:=⟨w.heap.size+1+1,3,none⟩) (by simp;omega) (.int .i64 uid)
 replace R0:=R0.set (g:=w.heap.size+1+1) (i:=3) (x:=.int .i64 uid) (.inl (by omega))
 replace R1:=R1.set (g:=w.heap.size+1+1) (i:=3) (x:=.int .i64 uid) (.inl (by omega))
 replace kA:=bP (i:=3) (v:=.int .i64 uid) kA (show w.heap.size≠w.heap.size+1+1 by omega)
 replace kR:=bP (i:=3) (v:=.int .i64 uid) kR (show w.heap.size+1≠w.heap.size+1+1 by omega)
 replace kO:(World.setCell _ _ _).heap[w.heap.size+1+1]?=some (Obj.cells #[.int .i64 k,.slice x0 m0 y0,.slice x1 m1 y1,.int .i64 uid,.int .i64 0,.int .i64 0,.int .i64 0,.slice none 0 0] 44):=aP (i:=3) (v:=.int .i64 uid) kO
 replace X:=X.setCell (p:=⟨w.heap.size+1+1,4,none⟩) (by simp;omega) (.int .i64 mode)
 replace R0:=R0.set (g:=w.heap.size+1+1) (i:=4) (x:=.int .i64 mode) (.inl (by omega))
 replace R1:=R1.set (g:=w.heap.size+1+1) (i:=4) (x:=.int .i64 mode) (.inl (by omega))
 replace kA:=bP (i:=4) (v:=.int .i64 mode) kA (show w.heap.size≠w.heap.size+1+1 by omega)
 replace kR:=bP (i:=4) (v:=.int .i64 mode) kR (show w.heap.size+1≠w.heap.size+1+1 by omega)
 replace kO:(World.setCell _ _ _).heap[w.heap.size+1+1]?=some (Obj.cells #[.int .i64 k,.slice x0 m0 y0,.slice x1 m1 y1,.int .i64 uid,.int .i64 mode,.int .i64 0,.int .i64 0,.slice none 0 0] 44):=aP (i:=4) (v:=.int .i64 mode) kO
 replace X:=X.setCell (p:=⟨w.heap.size+1+1,5,none⟩) (by simp;omega) (.int .i64 fl)
 replace R0:=R0.set (g:=w.heap.size+1+1) (i:=5) (x:=.int .i64 fl) (.inl (by omega))
 replace R1:=R1.set (g:=w.heap.size+1+1) (i:=5) (x:=.int .i64 fl) (.inl (by omega))
 replace kA:=bP (i:=5) (v:=.int .i64 fl) kA (show w.heap.size≠w.heap.size+1+1 by omega)
 replace kR:=bP (i:=5) (v:=.int .i64 fl) kR (show w.heap.size+1≠w.heap.size+1+1 by omega)
 replace kO:(World.setCell _ _ _).heap[w.heap.size+1+1]?=some (Obj.cells #[.int .i64 k,.slice x0 m0 y0,.slice x1 m1 y1,.int .i64 uid,.int .i64 mode,.int .i64 fl,.int .i64 0,.slice none 0 0] 44):=aP (i:=5) (v:=.int .i64 fl) kO
 replace X:=X.setCell (p:=⟨w.heap.size+1+1,6,none⟩) (by simp;omega) (.int .i64 si)
 replace R0:=R0.set (g:=w.heap.size+1+1) (i:=6) (x:=.int .i64 si) (.inl (by omega))
 replace R1:=R1.set (g:=w.heap.size+1+1) (i:=6) (x:=.int .i64 si) (.inl (by omega))
 replace kA:=bP (i:=6) (v:=.int .i64 si) kA (show w.heap.size≠w.heap.size+1+1 by omega)
 replace kR:=bP (i:=6) (v:=.int .i64 si) kR (show w.heap.size+1≠w.heap.size+1+1 by omega)
 replace kO:(World.setCell _ _ _).heap[w.heap.size+1+1]?=some (Obj.cells #[.int .i64 k,.slice x0 m0 y0,.slice x1 m1 y1,.int .i64 uid,.int .i64 mode,.int .i64 fl,.int .i64 si,.slice none 0 0] 44):=aP (i:=6) (v:=.int .i64 si) kO
 refine (Bj _ tx _ (H0.out _ X).2.2 h2).mono ?_
 rintro e w3 ⟨u2,rfl,R2,B⟩
 obtain ⟨x2,m2,y2,rfl⟩:=R2.bs.aG
 simp only [aZ] at R2
 have s3:w2.heap.size≤w3.heap.size:=by have:=B.size;simpa only [aZ] using this
 replace X:=Below.step X B
 replace R0:=R0.below B
 replace R1:=R1.below B
 replace kA:=ay B kA
 replace kR:=ay B kR
 replace kO:=ay B kO
 clear B
 obtain ⟨-,-,-,-,-,-,-,-⟩:=jd kA
 obtain ⟨oz,ol⟩:=bR kO
 obtain ⟨o0,o1,o2,o3,o4,o5,o6,o7⟩:=jd kO
 obtain ⟨rz,rl⟩:=bR kR
 obtain ⟨r0,r1,r2,r3,r4,r5,r6,r7⟩:=jd kR
 go_wp2
 refine bodyPost_ret (v:=.agg #[.int .i64 k,.slice x0 m0 y0,.slice x1 m1 y1,.int .i64 uid,.int .i64 mode,.int .i64 fl,.int .i64 si,.slice x2 m2 y2]) (by simp [results,Tryz.results8,go_sem,r0,r1,r2,r3,r4,r5,r6,r7]) rfl ⟨_,rfl,?_,?_⟩
 ·simp only [aZ]
  exact ⟨_,_,_,w1.heap.size,w2.heap.size,rfl,((((((((((R0.set (g:=w.heap.size+1+1) (i:=7) (x:=.slice x2 m2 y2) (.inl (by omega))).set (g:=w.heap.size+1) (i:=0) (x:=.int .i64 k) (.inl (by omega))).set (g:=w.heap.size+1) (i:=1) (x:=.slice x0 m0 y0) (.inl (by omega))).set (g:=w.heap.size+1) (i:=2) (x:=.slice x1 m1 y1) (.inl (by omega))).set (g:=w.heap.size+1) (i:=3) (x:=.int .i64 uid) (.inl (by omega))).set (g:=w.heap.size+1) (i:=4) (x:=.int .i64 mode) (.inl (by omega))).set (g:=w.heap.size+1) (i:=5) (x:=.int .i64 fl) (.inl (by omega))).set (g:=w.heap.size+1) (i:=6) (x:=.int .i64 si) (.inl (by omega))).set (g:=w.heap.size+1) (i:=7) (x:=.slice x2 m2 y2) (.inl (by omega)))).wide (by omega) (Nat.le_refl _),(((((((((R1.set (g:=w.heap.size+1+1) (i:=7) (x:=.slice x2 m2 y2) (.inl (by omega))).set (g:=w.heap.size+1) (i:=0) (x:=.int .i64 k) (.inl (by omega))).set (g:=w.heap.size+1) (i:=1) (x:=.slice x0 m0 y0) (.inl (by omega))).set (g:=w.heap.size+1) (i:=2) (x:=.slice x1 m1 y1) (.inl (by omega))).set (g:=w.heap.size+1) (i:=3) (x:=.int .i64 uid) (.inl (by omega))).set (g:=w.heap.size+1) (i:=4) (x:=.int .i64 mode) (.inl (by omega))).set (g:=w.heap.size+1) (i:=5) (x:=.int .i64 fl) (.inl (by omega))).set (g:=w.heap.size+1) (i:=6) (x:=.int .i64 si) (.inl (by omega))).set (g:=w.heap.size+1) (i:=7) (x:=.slice x2 m2 y2) (.inl (by omega))),(((((((((R2.set (g:=w.heap.size+1+1) (i:=7) (x:=.slice x2 m2 y2) (.inl (by omega))).set (g:=w.heap.size+1) (i:=0) (x:=.int .i64 k) (.inl (by omega))).set (g:=w.heap.size+1) (i:=1) (x:=.slice x0 m0 y0) (.inl (by omega))).set (g:=w.heap.size+1) (i:=2) (x:=.slice x1 m1 y1) (.inl (by omega))).set (g:=w.heap.size+1) (i:=3) (x:=.int .i64 uid) (.inl (by omega))).set (g:=w.heap.size+1) (i:=4) (x:=.int .i64 mode) (.inl (by omega))).set (g:=w.heap.size+1) (i:=5) (x:=.int .i64 fl) (.inl (by omega))).set (g:=w.heap.size+1) (i:=6) (x:=.int .i64 si) (.inl (by omega))).set (g:=w.heap.size+1) (i:=7) (x:=.slice x2 m2 y2) (.inl (by omega))),by omega,by omega,by omega,HI.out⟩
 ·exact (((((((((X.setCell (p:=⟨w.heap.size+1+1,7,none⟩) (by simp <;> omega) (.slice x2 m2 y2)).setCell (p:=⟨w.heap.size+1,0,none⟩) (by simp <;> omega) (.int .i64 k)).setCell (p:=⟨w.heap.size+1,1,none⟩) (by simp <;> omega) (.slice x0 m0 y0)).setCell (p:=⟨w.heap.size+1,2,none⟩) (by simp <;> omega) (.slice x1 m1 y1)).setCell (p:=⟨w.heap.size+1,3,none⟩) (by simp <;> omega) (.int .i64 uid)).setCell (p:=⟨w.heap.size+1,4,none⟩) (by simp <;> omega) (.int .i64 mode)).setCell (p:=⟨w.heap.size+1,5,none⟩) (by simp <;> omega) (.int .i64 fl)).setCell (p:=⟨w.heap.size+1,6,none⟩) (by simp <;> omega) (.int .i64 si)).setCell (p:=⟨w.heap.size+1,7,none⟩) (by simp <;> omega) (.slice x2 m2 y2))
theorem agh (v u:Value) (k:Int) (bx tt:List Int) (uid mode fl si:Int) (tx:List Int) (w:World) (hv:ig w v k bx tt uid mode fl si tx) (hu:ig w u k bx tt uid mode fl si tx) :
  Calls Tryz.prog 12 #[v,u] w fun e w'=>e=.returned (.bool true)∧Below w.heap.size w w':=by
 obtain ⟨u0,u1,u2,rfl,g0,g1,g2,i0,i1,i2,i3,i4⟩:=hv
 obtain ⟨v0,v1,v2,rfl,g3,g4,g5,-⟩:=hu
 have H0:Hid (∀ wi,Below w.heap.size w wi→(Bs wi u0 bx∧Bs wi v0 bx)∧(Bs wi u1 tt∧Bs wi v1 tt)∧(Bs wi u2 tx∧Bs wi v2 tx)):=fun wi h=>⟨⟨g0.below h,g3.below h⟩,⟨g1.below h,g4.below h⟩,⟨g2.below h,g5.below h⟩⟩
 obtain ⟨a0,n0,c0,rfl⟩:=g0.aG
 obtain ⟨a1,n1,c1,rfl⟩:=g1.aG
 obtain ⟨a2,n2,c2,rfl⟩:=g2.aG
 obtain ⟨p0,m0,q0,rfl⟩:=g3.aG
 obtain ⟨p1,m1,q1,rfl⟩:=g4.aG
 obtain ⟨p2,m2,q2,rfl⟩:=g5.aG
 clear g0 g1 g2 g3 g4 g5 i0 i1 i2 i3 i4
 have oI:=gJ w (.cells #[.int .i64 k,.slice a0 n0 c0,.slice a1 n1 c1,.int .i64 uid,.int .i64 mode,.int .i64 fl,.int .i64 si,.slice a2 n2 c2] 44) (.cells #[.int .i64 k,.slice p0 m0 q0,.slice p1 m1 q1,.int .i64 uid,.int .i64 mode,.int .i64 fl,.int .i64 si,.slice p2 m2 q2] 44)
 obtain ⟨kA,kB,X⟩:=oI
 go_enter Tryz.func12,Tryz.ntmps12
 go_wp2_with fail
 refine (zN _ _ bx _ (H0.out _ X).1.1 (H0.out _ X).1.2).mono ?_
 rintro e w1 ⟨rfl,B⟩
 replace X:=Below.step X B
 replace kA:=ay B kA
 replace kB:=ay B kB
 clear B
 obtain ⟨f0,f1,f2,f3,f4,f5,f6,f7⟩:=jd kA
 obtain ⟨d0,d1,d2,d3,d4,d5,d6,d7⟩:=jd kB
 go_wp2_with fail
 refine (zN _ _ tt _ (H0.out _ X).2.1.1 (H0.out _ X).2.1.2).mono ?_
 rintro e w2 ⟨rfl,B⟩
 clear f0 f1 f2 f3 f4 f5 f6 f7 d0 d1 d2 d3 d4 d5 d6 d7
 replace X:=Below.step X B
 replace kA:=ay B kA
 replace kB:=ay B kB
 clear B
 obtain ⟨f0,f1,f2,f3,f4,f5,f6,f7⟩:=jd kA
 obtain ⟨d0,d1,d2,d3,d4,d5,d6,d7⟩:=jd kB
 go_wp2_with fail
 refine (zN _ _ tx _ (H0.out _ X).2.2.1 (H0.out _ X).2.2.2).mono ?_
 rintro e w3 ⟨rfl,B⟩
 clear f0 f1 f2 f3 f4 f5 f6 f7 d0 d1 d2 d3 d4 d5 d6 d7
 replace X:=Below.step X B
 replace kA:=ay B kA
 replace kB:=ay B kB
 clear B
 obtain ⟨f0,f1,f2,f3,f4,f5,f6,f7⟩:=jd kA
 obtain ⟨d0,d1,d2,d3,d4,d5,d6,d7⟩:=jd kB
 go_wp2
 go_ret
 exact ⟨rfl,X⟩
theorem agi (v:Value) (k:Int) (bx tt:List Int) (uid mode fl si:Int) (tx:List Int) (left:Int) (w:World) (hv:ig w v k bx tt uid mode fl si tx) (h0:0≤left) (h1:left≤4000000) :
  Calls Tryz.prog 5 #[v,.int .i64 left] w fun e w'=>∃ x:Int,e=.returned (.int .i64 x)∧(x = -1∨(0≤x∧x+bx.length+tt.length+tx.length=left))∧Below w.heap.size w w':=by
 obtain ⟨u0,u1,u2,rfl,g0,g1,g2,-⟩:=hv
 have HB:Hid (Below w.heap.size w (w.alloc (.cells #[.int .i64 k,u0,u1,.int .i64 uid,.int .i64 mode,.int .i64 fl,.int .i64 si,u2] 28))):=bn _ _
 have H0:Hid (∀ wi,Below w.heap.size w wi→Bs wi u0 bx∧Bs wi u1 tt∧Bs wi u2 tx):=fun wi h=>⟨g0.below h,g1.below h,g2.below h⟩
 obtain ⟨a0,n0,c0,rfl⟩:=g0.aG
 obtain ⟨a1,n1,c1,rfl⟩:=g1.aG
 obtain ⟨a2,n2,c2,rfl⟩:=g2.aG
 clear g0 g1 g2
 have S0:=Gv left bx.length
 go_enter Tryz.func5,Tryz.ntmps5
 go_wp2_with fail
 refine (Gu _ bx left _ (H0.out _ HB.out).1 h0 h1).mono ?_
 rintro e w1 ⟨rfl,rfl⟩
 generalize qF left bx.length=x0 at S0
 rcases S0 with rfl | ⟨q0,q1⟩
 ·go_wp2
  go_ret
  exact ⟨-1,rfl,.inl rfl,HB.out⟩
 have S1:=Gv x0 tt.length
 go_wp2_with fail
 refine (Gu _ tt x0 _ (H0.out _ HB.out).2.1 q0 (by omega)).mono ?_
 rintro e w1 ⟨rfl,rfl⟩
 generalize qF x0 tt.length=x1 at S1
 rcases S1 with rfl | ⟨q2,q3⟩
 ·go_wp2
  go_ret
  exact ⟨-1,rfl,.inl rfl,HB.out⟩
 have S2:=Gv x1 tx.length
 go_wp2_with fail
 refine (Gu _ tx x1 _ (H0.out _ HB.out).2.2 q2 (by omega)).mono ?_
 rintro e w1 ⟨rfl,rfl⟩
 generalize qF x1 tx.length=x2 at S2
 rcases S2 with rfl | ⟨q4,q5⟩
 ·go_wp2
  go_ret
  exact ⟨-1,rfl,.inl rfl,HB.out⟩
 go_wp2
 go_ret
 exact ⟨x2,rfl,.inr ⟨q4,by omega⟩,HB.out⟩
/- What ajO of package laws does. -/
/-- An element is written anew, cell by cell. -/
theorem Ow.put {α:Type} {t:TypeId} {sz:Nat} {E:World→List Value→α→(Nat→Prop)→Prop} {w:World} {S:Nat→Prop} {v:Value} {l:List α} (hE:Frames E) (h:Ow t sz E w S v l) (i:Nat) (x:α) (hx:l[i]?=some x) :
  ∃ (g cap:Nat) (c:List Value) (f:Nat→Prop),v=.slice (some ⟨g,0,none⟩) l.length cap∧l.length≤cap∧cap≤maxLen∧g < w.heap.size∧S g∧E w c x f∧c.length=sz∧(∀ b,f b→S b∧b≠g) ∧
   (∀ j u,c[j]?=some u→w.cell? ⟨g,i * sz+j,none⟩=some u)∧(∀ j,w.frozen? ⟨g,j,none⟩=false)∧(∃ cur,w.heap[g]?=some (.cells cur t (0,0))∧i * sz+sz≤cur.size) ∧
   ∀ (c':List Value) (x':α),c'.length=sz→(∀ w',(∀ b,f b→b < w.heap.size→w'.heap[b]?=w.heap[b]?)→E w' c' x' f)→Ow t sz E (put w g (i * sz) c') S v (l.set i x')∧Wr S w (put w g (i * sz) c'):=by
 obtain ⟨g,cap,cur,c,f,hv,h1,h2,hh,h3,h4,h5,h6,h7,h8,h9⟩:=h.upd hE i x hx
 refine ⟨g,cap,c,f,hv,h1,h2,lt_of_heap hh,h4,h5,h6,h8,fun j u hu=>?_,fun j=>frozen_of_row w g j cur t hh,⟨cur,hh,h3⟩,fun c' x' hc he=>?_⟩
 ·rw [cell_of_row w g _ cur t (0,0) hh]
  exact h7 j u hu
 ·obtain ⟨cur',e1,e2,e3,e4,e5⟩:=uy g t c' w (i * sz) cur hh (by omega)
  refine ⟨h9 _ cur' c' x' e1 e2 e3 (fun m hm=>e4 m (by omega)) hc (fun b hb hne _ hlt=>e5.block b hlt (by omega)) (he _ fun b hb hlt=>e5.block b hlt (by have:=(h8 b hb).2;omega)),Wr.put h4 _ _ t cur hh (by omega)⟩
theorem Wy (S:Nat→Prop) (v:Value) (l:List bf) (k:Int) (w:World) (hv:fB w S v l) (hl:l.length≤2000000) (hk0:0≤k) (hk1:k≤100000000000) :
  Calls Tryz.prog 90 #[v,.int .i64 k] w fun e w'=>e=.returned (.int .i64 (k+fZ l))∧fB w' S v (pK k l)∧Wr S w w':=by
 have HV:Hid (fB w S v l):=hv
 obtain ⟨a,cap,rfl,hlc,hcm⟩:=(hv.rd fun _ _ _ _ h=>h:bO w v l).form
 clear hv
 have hw:=Aq l
 have hlen:(pK k l).length=l.length:=tN
 go_enter Tryz.func90,Tryz.ntmps90
 go_wp2
 go_loopw [1,5] (fun q i wr=>∃ j:Nat,j≤l.length∧i=.int .i64 j∧q=.int .i64 (k+(pre (bJ oo nK l) j:Nat))∧Hid (fB wr S (.slice a l.length cap) (mix (pK k l) l j))∧Hid (Wr S w wr)) (fun _ i _=>l.length - (intOf i).toNat)
 case atStart=>exact ⟨0,Nat.zero_le _,rfl,by simp [pre],by rw [Dw];exact HV,Wr.refl _ _⟩
 case round =>
  obtain ⟨j,hj,rfl,rfl,hO,hW⟩:=hrel
  by_cases hlt:j < l.length
  ·obtain ⟨x,hx⟩:∃ x,l[j]?=some x:=⟨l[j],aK hlt⟩
   obtain ⟨g,cap',c,f,hv',-,-,hgl,hS,⟨rfl,-,-⟩,-,-,hc,fz,-,hput⟩:=hO.out.put jB j x ((Dy hlen hlt).trans hx)
   simp only [Value.slice.injEq] at hv'
   obtain ⟨rfl,-,rfl⟩:=hv'
   have kG:pre (bJ oo nK l) j≤fZ l:=tT (Nat.le_of_lt hlt)
   have hp1:pre (bJ oo nK l) (j+1)=pre (bJ oo nK l) j+2:=tQ hx
   have hn:=tO (z:=oo) (mk:=zf) (wt:=nK) (k:=k) hx
   generalize pre (bJ oo nK l) j=P at kG hp1 hn
   have hP:(P:Int)≤4000000:=by omega
   have d0:=hc 0 _ rfl
   have d1:=hc 1 _ rfl
   simp only [Nat.add_zero] at d0
   have HS:Hid (fB (put wr g (j * 2) [.int .i64 (k+P),.int .i64 (k+P+1)]) S (.slice (some ⟨g,0,none⟩) l.length cap) (mix (pK k l) l (j+1))∧Wr S w (put wr g (j * 2) [.int .i64 (k+P),.int .i64 (k+P+1)])):=by
    obtain ⟨h1,h2⟩:=hput [.int .i64 (k+P),.int .i64 (k+P+1)] (zf x (k+P)) rfl (fun w' _=>⟨rfl,by constructor <;> simp only [zf] <;> omega,by constructor <;> simp only [zf] <;> omega⟩)
    rw [Dz hlen hn] at h1
    exact ⟨h1,hW.out.trans h2⟩
   clear hput hc hn hO hW hx hw
   go_wp2
   go_roundw
   case rel=>exact ⟨j+1,by omega,by go_num,by rw [hp1];go_num,HS.out.1,HS.out.2⟩
   case measure=>simp [intOf];omega
  ·go_wp2
   go_ret
   obtain rfl:j=l.length:=by omega
   exact ⟨rfl,by rw [← Dx hlen];exact hO.out,hW.out⟩
/- What ajP of package laws does. -/
theorem Wz (S:Nat→Prop) (v:Value) (l:List aF) (k:Int) (w:World) (hv:jO w S v l) (hs:dG l≤2000000) (hk0:0≤k) (hk1:k≤100000000000) :
  Calls Tryz.prog 89 #[v,.int .i64 k] w fun e w'=>e=.returned (.int .i64 (k+dL l))∧jO w' S v (mF k l)∧Wr S w w':=by
 have HV:Hid (jO w S v l):=hv
 obtain ⟨a,cap,rfl,hlc,hcm⟩:=(hv.rd fun _ _ _ _=>je.rd:bY w v l).form
 clear hv
 have hl:l.length≤2000000:=Nat.le_trans (jZ l) hs
 have hb:dL l≤6000000:=by have:=zh l;omega
 have hlen:(mF k l).length=l.length:=tN
 go_enter Tryz.func89,Tryz.ntmps89
 go_wp2
 go_loopw [1,5] (fun q i wr=>∃ j:Nat,j≤l.length∧i=.int .i64 j∧q=.int .i64 (k+(pre (bJ om nL l) j:Nat))∧Hid (jO wr S (.slice a l.length cap) (mix (mF k l) l j))∧Hid (Wr S w wr)) (fun _ i _=>l.length - (intOf i).toNat)
 case atStart=>exact ⟨0,Nat.zero_le _,rfl,by simp [pre],by rw [Dw];exact HV,Wr.refl _ _⟩
 case round =>
  obtain ⟨j,hj,rfl,rfl,hO,hW⟩:=hrel
  by_cases hlt:j < l.length
  ·obtain ⟨x,hx⟩:∃ x,l[j]?=some x:=⟨l[j],aK hlt⟩
   obtain ⟨g,cap',cur,c,f,hv',-,-,hh,hroom,hS,⟨u,rfl,hu,-,-,-⟩,-,hcs,hf,xR⟩:=hO.out.upd kI j x ((Dy hlen hlt).trans hx)
   simp only [Value.slice.injEq] at hv'
   obtain ⟨rfl,-,rfl⟩:=hv'
   have hp1:pre (bJ om nL l) (j+1)=pre (bJ om nL l) j+(3+x.text.length):=tQ hx
   have kG:pre (bJ om nL l) (j+1)≤dL l:=tT hlt
   have hn:=tO (z:=om) (mk:=vg) (wt:=nL) (k:=k) hx
   generalize pre (bJ om nL l) j=P at kG hp1 hn
   have hP:(P:Int)≤6000000:=by omega
   have hxt:x.text.length≤2000000:=by have:=zI (List.mem_of_getElem? hx);omega
   have d0:=(cell_of_row wr g (j * 4) cur _ (0,0) hh).trans (hcs 0 _ rfl)
   have d1:=(cell_of_row wr g (j * 4+1) cur _ (0,0) hh).trans (hcs 1 _ rfl)
   have d2:=(cell_of_row wr g (j * 4+2) cur _ (0,0) hh).trans (hcs 2 _ rfl)
   have fz:∀ i,wr.frozen? ⟨g,i,none⟩=false:=fun i=>frozen_of_row wr g i cur _ hh
   have hgl:=lt_of_heap hh
   obtain ⟨ua,un,uc,rfl⟩:=hu.bs.aG
   obtain ⟨oF,e1,e2,e3,e4,e5⟩:=uy g _ [.int .i64 (k+P),.int .i64 (k+P+1),.int .i64 (k+P+1+1)] wr (j * 4) cur hh (by simp;omega)
   have d3:(((wr.setCell ⟨g,j * 4,none⟩ (.int .i64 (k+P))).setCell ⟨g,j * 4+1,none⟩ (.int .i64 (k+P+1))).setCell ⟨g,j * 4+2,none⟩ (.int .i64 (k+P+1+1))).cell? ⟨g,j * 4+3,none⟩=some (.slice ua un uc):=(cell_of_row _ g (j * 4+3) oF _ (0,0) e1).trans ((e4 (j * 4+3) (.inr (by simp))).trans (hcs 3 _ rfl))
   have HU:Hid (RO (put wr g (j * 4) [.int .i64 (k+P),.int .i64 (k+P+1),.int .i64 (k+P+1+1)]) f (.slice ua un uc) x.text):=hu.frame fun b hb hlt=>e5.block b hlt (by have:=(hf b hb).2;omega)
   have HS:Hid (∀ w',Wr f (put wr g (j * 4) [.int .i64 (k+P),.int .i64 (k+P+1),.int .i64 (k+P+1+1)]) w'→RO w' f (.slice ua un uc) (marks (k+P+1+1+1) x.text.length)→jO w' S (.slice (some ⟨g,0,none⟩) l.length cap) (mix (mF k l) l (j+1))∧Wr S w w'):=by
    intro w' hw' hr
    have hsz:=e5.size
    have hg':w'.heap[g]?=_:=(hw'.block g (by omega) fun h=>(hf g h).2 rfl).trans e1
    have hE:je w' [.int .i64 (k+P),.int .i64 (k+P+1),.int .i64 (k+P+1+1),.slice ua un uc] (vg x (k+P)) f:=by
     refine ⟨.slice ua un uc,?_,?_,?_,?_,?_⟩
     ·simp only [vg];rw [show k+P+1+1=k+(P:Int)+2 by omega]
     ·simp only [vg];rw [show k+(P:Int)+3=k+P+1+1+1 by omega];exact hr
     all_goals (constructor <;> simp only [vg] <;> omega)
    have h1:=xR w' oF _ (vg x (k+P)) hg' e2 (fun i u hi=>?_) (fun m hm=>e4 m (by simp;omega)) rfl (fun b hb hne hnf hlt=>(hw'.block b (by omega) hnf).trans (e5.block b hlt (by omega))) hE
    ·rw [Dz hlen hn] at h1
     refine ⟨h1,hW.out.trans ⟨hw'.os.trans e5.os,hw'.tape.trans e5.tape,hw'.output.trans e5.output,Nat.le_trans hsz hw'.size,fun b hb hns=>?_⟩⟩
     have hbg:b≠g:=fun e=>hns (e ▸ hS)
     exact (hw'.block b (by omega) fun h=>hns (hf b h).1).trans (e5.block b hb (by omega))
    ·match i,hi with
     | 0,hi=>exact e3 0 u (by simpa using hi)
     | 1,hi=>exact e3 1 u (by simpa using hi)
     | 2,hi=>exact e3 2 u (by simpa using hi)
     | 3,hi=>exact (e4 (j * 4+3) (.inr (by simp))).trans (hcs 3 u (by simpa using hi))
   clear xR hcs hn hO hW hx e1 e2 e3 e4 e5 hu hh hroom hf
   go_wp2_with fail
   refine (He f _ x.text _ _ HU.out hxt (by omega) (by omega)).mono ?_
   rintro e w2 ⟨rfl,R,W2⟩
   have HS2:=HS.out w2 W2 R
   have HM:Hid (jO w2 S (.slice (some ⟨g,0,none⟩) l.length cap) (mix (mF k l) l (j+1))):=HS2.1
   have HW:Hid (Wr S w w2):=HS2.2
   clear HS HS2 R W2 HU d0 d1 d2 d3 fz
   go_wp2
   go_roundw
   case rel=>exact ⟨j+1,by omega,by go_num,by rw [hp1];go_num,HM,HW⟩
   case measure=>simp [intOf];omega
  ·go_wp2
   go_ret
   obtain rfl:j=l.length:=by omega
   exact ⟨rfl,by rw [← Dx hlen];exact hO.out,hW.out⟩
/- What ajQ of package laws does. -/
theorem IG {b g:Nat} (h:b≠g):¬ (g≤b∧b < g+1):=by omega
theorem agj (S:Nat→Prop) (v:Value) (l:List aD) (k:Int) (w:World) (hv:l7 w S v l) (hs:jf l≤2000000) (hk0:0≤k) (hk1:k≤10000000000) :
  Calls Tryz.prog 38 #[v,.int .i64 k] w fun e w'=>e=.returned (.int .i64 (k+kF l))∧l7 w' S v (qL k l)∧Wr S w w':=by
 have HV:Hid (l7 w S v l):=hv
 obtain ⟨a,cap,rfl,hlc,hcm⟩:=(hv.rd fun _ _ _ _=>dh.rd:cK w v l).form
 clear hv
 have hl:l.length≤2000000:=Nat.le_trans (Fu l) hs
 have hb:kF l≤8000000:=by have:=Ar l;omega
 have hlen:(qL k l).length=l.length:=tN
 go_enter Tryz.func38,Tryz.ntmps38
 go_wp2
 go_loopw [1,5] (fun q i wr=>∃ j:Nat,j≤l.length∧i=.int .i64 j∧q=.int .i64 (k+(pre (bJ oq jV l) j:Nat))∧Hid (l7 wr S (.slice a l.length cap) (mix (qL k l) l j))∧Hid (Wr S w wr)) (fun _ i _=>l.length - (intOf i).toNat)
 case atStart=>exact ⟨0,Nat.zero_le _,rfl,by simp [pre],by rw [Dw];exact HV,Wr.refl _ _⟩
 case round =>
  obtain ⟨j,hj,rfl,rfl,hO,hW⟩:=hrel
  by_cases hlt:j < l.length
  ·obtain ⟨x,hx⟩:∃ x,l[j]?=some x:=⟨l[j],aK hlt⟩
   obtain ⟨g,cap',cur,c,f,hv',-,-,hh,hroom,hS,⟨u0,u1,u2,S0,S1,S2,rfl,h0,h1,h2,s0,s1,s2,-⟩,-,hcs,hf,xR⟩:=hO.out.upd gq j x ((Dy hlen hlt).trans hx)
   simp only [Value.slice.injEq] at hv'
   obtain ⟨rfl,-,rfl⟩:=hv'
   have hp1:pre (bJ oq jV l) (j+1)=pre (bJ oq jV l) j+jV x:=tQ hx
   have kG:pre (bJ oq jV l) (j+1)≤kF l:=tT hlt
   have hn:=tO (z:=oq) (mk:=tV) (wt:=jV) (k:=k) hx
   generalize pre (bJ oq jV l) j=P at kG hp1 hn
   have hxs:=Fq (List.mem_of_getElem? hx)
   have hx0:x.name.length≤2000000:=by simp only [bA] at hxs;omega
   have hx1:dG x.ah≤2000000:=by simp only [bA] at hxs;omega
   have hx2:x.au.length≤2000000:=by simp only [bA] at hxs;omega
   have hwt:jV x=x.name.length+3+dL x.ah+fZ x.au+1:=rfl
   have hP:(P:Int)≤8000000:=by omega
   have hPn:(x.name.length:Int)≤8000000:=by omega
   have hPm:(dL x.ah:Int)≤8000000:=by omega
   have hPg:(fZ x.au:Int)≤8000000:=by omega
   obtain ⟨a0,n0,c0,rfl⟩:=h0.bs.aG
   obtain ⟨a1,c1,rfl,-⟩:=(h1.rd fun _ _ _ _=>je.rd:bY _ _ _).form
   obtain ⟨a2,c2,rfl,-⟩:=(h2.rd fun _ _ _ _ h=>h:bO _ _ _).form
   have hgl:=lt_of_heap hh
   have hg0:¬ S0 g:=fun h=>(hf g (s0 g h).1).2 rfl
   have hg1:¬ S1 g:=fun h=>(hf g (s1 g h).1).2 rfl
   have hg2:¬ S2 g:=fun h=>(hf g (s2 g h)).2 rfl
   have HH:Hid (wr.heap[g]?=some (.cells cur 37 (0,0))):=hh
   have H0:Hid (RO wr S0 (.slice a0 n0 c0) x.name):=h0
   have H1:Hid (jO wr S1 (.slice a1 x.ah.length c1) x.ah):=h1
   have H2:Hid (fB wr S2 (.slice a2 x.au.length c2) x.au):=h2
   have d0:=(cell_of_row wr g (j * 7) cur _ (0,0) hh).trans (hcs 0 _ rfl)
   have eY:Hid ((∀ y,S0 y→f y∧¬ S1 y∧¬ S2 y)∧(∀ y,S1 y→f y∧¬ S2 y)∧(∀ y,S2 y→f y)):=⟨s0,s1,s2⟩
   have HF:Hid (∀ b,f b→S b∧b≠g):=hf
   have HC:Hid (∀ i u,[Value.slice a0 n0 c0,.int .i64 x.valid,.int .i64 x.next,.int .i64 x.seq,.slice a1 x.ah.length c1,.slice a2 x.au.length c2,.int .i64 x.lost][i]?=some u→cur[j * 7+i]?=some u):=hcs
   have HN:Hid ((mix (qL k l) l j).set j (tV x (k+P))=mix (qL k l) l (j+1)):=Dz hlen hn
   have WA:=(show Hid _ from xR)
   clear xR hcs hn hO h0 h1 h2 s0 s1 s2 hf hh hx hxs
   go_wp2_with fail
   refine (He S0 _ x.name _ _ H0.out hx0 (by omega) (by omega)).mono ?_
   rintro e w1 ⟨rfl,R1,W1⟩
   have hs1:=W1.size
   have AZ:w1.heap[g]?=some (.cells cur 37 (0,0)):=(W1.block g hgl hg0).trans HH.out
   have fz:∀ i,w1.frozen? ⟨g,i,none⟩=false:=fun i=>frozen_of_row w1 g i cur _ AZ
   clear d0
   have d1:=(cell_of_row w1 g (j * 7+1) cur _ (0,0) AZ).trans (HC.out 1 _ rfl)
   have d2:=(cell_of_row w1 g (j * 7+2) cur _ (0,0) AZ).trans (HC.out 2 _ rfl)
   have d3:=(cell_of_row w1 g (j * 7+3) cur _ (0,0) AZ).trans (HC.out 3 _ rfl)
   obtain ⟨oF,e1,e2,e3,e4,e5⟩:=uy g _ [.int .i64 (k+P+x.name.length),.int .i64 (k+P+x.name.length+1),.int .i64 (k+P+x.name.length+1+1)] w1 (j * 7+1) cur AZ (by simp;omega)
   have d4:(((w1.setCell ⟨g,j * 7+1,none⟩ (.int .i64 (k+P+x.name.length))).setCell ⟨g,j * 7+2,none⟩ (.int .i64 (k+P+x.name.length+1))).setCell ⟨g,j * 7+3,none⟩ (.int .i64 (k+P+x.name.length+1+1))).cell? ⟨g,j * 7+4,none⟩=some (.slice a1 x.ah.length c1):=(cell_of_row _ g (j * 7+4) oF _ (0,0) e1).trans ((e4 (j * 7+4) (.inr (by simp))).trans (HC.out 4 _ rfl))
   have hsp:=e5.size
   have HB1:Hid (∀ b,b≠g→¬ S0 b→b < wr.heap.size→(put w1 g (j * 7+1) [.int .i64 (k+P+x.name.length),.int .i64 (k+P+x.name.length+1),.int .i64 (k+P+x.name.length+1+1)]).heap[b]?=wr.heap[b]?):=fun b hb h0 hlt=>(e5.block b (by omega) (by omega)).trans (W1.block b hlt h0)
   have WC:Hid (jO (put w1 g (j * 7+1) [.int .i64 (k+P+x.name.length),.int .i64 (k+P+x.name.length+1),.int .i64 (k+P+x.name.length+1+1)]) S1 (.slice a1 x.ah.length c1) x.ah) :=
    H1.out.frame kI fun b hb hlt=>HB1.out b (fun e=>hg1 (e ▸ hb)) (fun h=>(eY.out.1 b h).2.1 hb) hlt
   have WE:Hid (fB (put w1 g (j * 7+1) [.int .i64 (k+P+x.name.length),.int .i64 (k+P+x.name.length+1),.int .i64 (k+P+x.name.length+1+1)]) S2 (.slice a2 x.au.length c2) x.au) :=
    H2.out.frame jB fun b hb hlt=>HB1.out b (fun e=>hg2 (e ▸ hb)) (fun h=>(eY.out.1 b h).2.2 hb) hlt
   have WG:Hid (RO (put w1 g (j * 7+1) [.int .i64 (k+P+x.name.length),.int .i64 (k+P+x.name.length+1),.int .i64 (k+P+x.name.length+1+1)]) S0 (.slice a0 n0 c0) (marks (k+P) x.name.length)) :=
    R1.frame fun b hb hlt=>e5.block b hlt (IG fun e=>hg0 (e ▸ hb))
   have yj:Hid ((put w1 g (j * 7+1) [.int .i64 (k+P+x.name.length),.int .i64 (k+P+x.name.length+1),.int .i64 (k+P+x.name.length+1+1)]).os=wr.os∧(put w1 g (j * 7+1) [.int .i64 (k+P+x.name.length),.int .i64 (k+P+x.name.length+1),.int .i64 (k+P+x.name.length+1+1)]).tape=wr.tape∧(put w1 g (j * 7+1) [.int .i64 (k+P+x.name.length),.int .i64 (k+P+x.name.length+1),.int .i64 (k+P+x.name.length+1+1)]).output=wr.output):=⟨e5.os.trans W1.os,e5.tape.trans W1.tape,e5.output.trans W1.output⟩
   have E1:Hid ((put w1 g (j * 7+1) [.int .i64 (k+P+x.name.length),.int .i64 (k+P+x.name.length+1),.int .i64 (k+P+x.name.length+1+1)]).heap[g]?=some (.cells oF 37 (0,0))):=e1
   have E2:Hid (oF.size=cur.size∧(∀ i u,[Value.int .i64 (k+P+x.name.length),.int .i64 (k+P+x.name.length+1),.int .i64 (k+P+x.name.length+1+1)][i]?=some u→oF[j * 7+1+i]?=some u)∧(∀ m,m < j * 7+1∨j * 7+4≤m→oF[m]?=cur[m]?)):=⟨e2,e3,fun m hm=>e4 m (by simp;omega)⟩
   clear e1 e2 e3 e4 e5 R1 W1 AZ HH H0 H1 H2
   go_wp2_with fail
   refine (Wz S1 _ x.ah _ _ WC.out hx1 (by omega) (by omega)).mono ?_
   rintro e w2 ⟨rfl,R2,W2⟩
   have hs2:=W2.size
   have Oq:Hid (w2.heap[g]?=some (.cells oF 37 (0,0))):=(W2.block g (by omega) hg1).trans E1.out
   have HB2:Hid (∀ b,b≠g→¬ S0 b→¬ S1 b→b < wr.heap.size→w2.heap[b]?=wr.heap[b]?):=fun b hb h0 h1 hlt=>(W2.block b (by omega) h1).trans (HB1.out b hb h0 hlt)
   have G2:Hid (fB w2 S2 (.slice a2 x.au.length c2) x.au):=WE.out.frame jB fun b hb hlt=>W2.block b hlt fun h=>(eY.out.2.1 b h).2 hb
   have G0:Hid (RO w2 S0 (.slice a0 n0 c0) (marks (k+P) x.name.length)):=WG.out.frame fun b hb hlt=>W2.block b hlt fun h=>(eY.out.1 b hb).2.1 h
   have G1:Hid (jO w2 S1 (.slice a1 x.ah.length c1) (mF (k+P+x.name.length+1+1+1) x.ah)):=R2
   have wh:Hid (w2.os=wr.os∧w2.tape=wr.tape∧w2.output=wr.output):=⟨W2.os.trans yj.out.1,W2.tape.trans yj.out.2.1,W2.output.trans yj.out.2.2⟩
   have d5:=(cell_of_row w2 g (j * 7+5) oF _ (0,0) Oq.out).trans ((E2.out.2.2 (j * 7+5) (.inr (by omega))).trans (HC.out 5 _ rfl))
   have zP:g < w2.heap.size:=by omega
   have hsz2:wr.heap.size≤w2.heap.size:=by omega
   clear d1 d2 d3 d4 fz R2 W2 WC WE WG HB1 yj E1 hs1 hs2 hsp
   go_wp2_with fail
   refine (Wy S2 _ x.au _ _ G2.out hx2 (by omega) (by omega)).mono ?_
   rintro e w3 ⟨rfl,R3,W3⟩
   have hs3:=W3.size
   have E3:w3.heap[g]?=some (.cells oF 37 (0,0)):=(W3.block g zP hg2).trans Oq.out
   have fz:∀ i,w3.frozen? ⟨g,i,none⟩=false:=fun i=>frozen_of_row w3 g i oF _ E3
   have d6:=(cell_of_row w3 g (j * 7+6) oF _ (0,0) E3).trans ((E2.out.2.2 (j * 7+6) (.inr (by omega))).trans (HC.out 6 _ rfl))
   have ajS:g < w3.heap.size:=by omega
   have WH:Hid (l7 (put w3 g (j * 7+6) [.int .i64 (k+P+x.name.length+1+1+1+dL x.ah+fZ x.au)]) S (.slice (some ⟨g,0,none⟩) l.length cap) (mix (qL k l) l (j+1))∧Wr S w (put w3 g (j * 7+6) [.int .i64 (k+P+x.name.length+1+1+1+dL x.ah+fZ x.au)])):=by
    obtain ⟨Qp,p1,p2,p3,p4,p5⟩:=uy g _ [.int .i64 (k+P+x.name.length+1+1+1+dL x.ah+fZ x.au)] w3 (j * 7+6) oF E3 (by have:=E2.out.1;simp;omega)
    have hsp:=p5.size
    have hB:∀ b,b≠g→¬ S0 b→¬ S1 b→¬ S2 b→b < wr.heap.size→(put w3 g (j * 7+6) [.int .i64 (k+P+x.name.length+1+1+1+dL x.ah+fZ x.au)]).heap[b]?=wr.heap[b]?:=fun b hb h0 h1 h2 hlt=>(p5.block b (by omega) (by omega)).trans ((W3.block b (by omega) h2).trans (HB2.out b hb h0 h1 hlt))
    have hE:dh (put w3 g (j * 7+6) [.int .i64 (k+P+x.name.length+1+1+1+dL x.ah+fZ x.au)]) [Value.slice a0 n0 c0,.int .i64 (k+P+x.name.length),.int .i64 (k+P+x.name.length+1),.int .i64 (k+P+x.name.length+1+1),.slice a1 x.ah.length c1,.slice a2 x.au.length c2,.int .i64 (k+P+x.name.length+1+1+1+dL x.ah+fZ x.au)] (tV x (k+P)) f:=by
     refine ⟨.slice a0 n0 c0,.slice a1 x.ah.length c1,.slice a2 x.au.length c2,S0,S1,S2,?_,?_,?_,?_,eY.out.1,eY.out.2.1,eY.out.2.2,?_,?_,?_,?_⟩
     ·simp only [tV]
      rw [show k+P+x.name.length+1+1+1=k+(P:Int)+x.name.length+3 by omega,show k+P+x.name.length+1+1=k+(P:Int)+x.name.length+2 by omega]
     ·exact G0.out.frame fun b hb hlt=>(p5.block b (by omega) (IG fun e=>hg0 (e ▸ hb))).trans (W3.block b hlt (eY.out.1 b hb).2.2)
     ·simp only [tV]
      rw [show k+(P:Int)+x.name.length+3=k+P+x.name.length+1+1+1 by omega]
      exact G1.out.frame kI fun b hb hlt=>(p5.block b (by omega) (IG fun e=>hg1 (e ▸ hb))).trans (W3.block b hlt (eY.out.2.1 b hb).2)
     ·simp only [tV]
      rw [show k+(P:Int)+x.name.length+3=k+P+x.name.length+1+1+1 by omega]
      exact R3.frame jB fun b hb hlt=>p5.block b hlt (IG fun e=>hg2 (e ▸ hb))
     all_goals (constructor <;> simp only [tV] <;> omega)
    have hfin:=WA.out _ Qp _ (tV x (k+P)) p1 (p2.trans E2.out.1) (fun i u hi=>?_) (fun m hm=>(p4 m (by simp;omega)).trans (E2.out.2.2 m (by omega))) rfl (fun b hb hne hnf hlt=>hB b hne (fun h=>hnf (eY.out.1 b h).1) (fun h=>hnf (eY.out.2.1 b h).1) (fun h=>hnf (eY.out.2.2 b h)) hlt) hE
    ·rw [HN.out] at hfin
     refine ⟨hfin,hW.out.trans ⟨?_,?_,?_,by omega,fun b hb hns=>hB b (fun e=>hns (e ▸ hS)) (fun h=>hns (HF.out b (eY.out.1 b h).1).1) (fun h=>hns (HF.out b (eY.out.2.1 b h).1).1) (fun h=>hns (HF.out b (eY.out.2.2 b h)).1) hb⟩⟩
     ·exact p5.os.trans (W3.os.trans wh.out.1)
     ·exact p5.tape.trans (W3.tape.trans wh.out.2.1)
     ·exact p5.output.trans (W3.output.trans wh.out.2.2)
    ·match i,hi with
     | 0,hi=>exact (p4 (j * 7+0) (.inl (by omega))).trans ((E2.out.2.2 _ (.inl (by omega))).trans (HC.out 0 u (by simpa using hi)))
     | 1,hi=>exact (p4 (j * 7+1) (.inl (by omega))).trans (E2.out.2.1 0 u (by simpa using hi))
     | 2,hi=>exact (p4 (j * 7+2) (.inl (by omega))).trans (E2.out.2.1 1 u (by simpa using hi))
     | 3,hi=>exact (p4 (j * 7+3) (.inl (by omega))).trans (E2.out.2.1 2 u (by simpa using hi))
     | 4,hi=>exact (p4 (j * 7+4) (.inl (by omega))).trans ((E2.out.2.2 _ (.inr (by omega))).trans (HC.out 4 u (by simpa using hi)))
     | 5,hi=>exact (p4 (j * 7+5) (.inl (by omega))).trans ((E2.out.2.2 _ (.inr (by omega))).trans (HC.out 5 u (by simpa using hi)))
     | 6,hi=>exact p3 0 u (by simpa using hi)
   clear WA HN HC HF eY G0 G1 G2 Oq E2 wh HB2 R3 W3 E3 hW hs3 hsz2 d5
   go_wp2
   go_roundw
   case rel=>exact ⟨j+1,by omega,by go_num,by rw [hp1,hwt];go_num,WH.out.1,WH.out.2⟩
   case measure=>simp [intOf];omega
  ·go_wp2
   go_ret
   obtain rfl:j=l.length:=by omega
   exact ⟨rfl,by rw [← Dx hlen];exact hO.out,hW.out⟩
/- What ajT of package laws does. -/
theorem agm (S:Nat→Prop) (v:Value) (l:List Int) (k:Int) (w:World) (hv:gQ w S v l) (hl:l.length≤2000000) (hk0:0≤k) (hk1:k≤100000000000) :
  Calls Tryz.prog 39 #[v,.int .i64 k] w fun e w'=>e=.returned (.int .i64 (k+ou l))∧gQ w' S v (xA k l)∧Wr S w w':=by
 have HV:Hid (gQ w S v l):=hv
 obtain ⟨a,cap,rfl,hlc,hcm⟩:=(hv.rd fun _ _ _ _ h=>h:dS w v l).form
 clear hv
 have hw:=DC l
 have hlen:(xA k l).length=l.length:=tN
 go_enter Tryz.func39,Tryz.ntmps39
 go_wp2
 go_loopw [1,5] (fun q i wr=>∃ j:Nat,j≤l.length∧i=.int .i64 j∧q=.int .i64 (k+(pre (bJ 0 nJ l) j:Nat))∧Hid (gQ wr S (.slice a l.length cap) (mix (xA k l) l j))∧Hid (Wr S w wr)) (fun _ i _=>l.length - (intOf i).toNat)
 case atStart=>exact ⟨0,Nat.zero_le _,rfl,by simp [pre],by rw [Dw];exact HV,Wr.refl _ _⟩
 case round =>
  obtain ⟨j,hj,rfl,rfl,hO,hW⟩:=hrel
  by_cases hlt:j < l.length
  ·obtain ⟨x,hx⟩:∃ x,l[j]?=some x:=⟨l[j],aK hlt⟩
   obtain ⟨g,cap',c,f,hv',-,-,hgl,hS,⟨rfl,-⟩,-,-,hc,fz,-,hput⟩:=hO.out.put oH j x ((Dy hlen hlt).trans hx)
   simp only [Value.slice.injEq] at hv'
   obtain ⟨rfl,-,rfl⟩:=hv'
   have kG:pre (bJ 0 nJ l) j≤ou l:=tT (Nat.le_of_lt hlt)
   have hp1:pre (bJ 0 nJ l) (j+1)=pre (bJ 0 nJ l) j+1:=tQ hx
   have hn:=tO (z:=0) (mk:=mkInt) (wt:=nJ) (k:=k) hx
   generalize pre (bJ 0 nJ l) j=P at kG hp1 hn
   have hP:(P:Int)≤4000000:=by omega
   have d0:=hc 0 _ rfl
   simp only [Nat.add_zero,Nat.mul_one] at d0 hput
   have HS:Hid (gQ (put wr g j [.int .i64 (k+P)]) S (.slice (some ⟨g,0,none⟩) l.length cap) (mix (xA k l) l (j+1))∧Wr S w (put wr g j [.int .i64 (k+P)])):=by
    obtain ⟨h1,h2⟩:=hput [.int .i64 (k+P)] (mkInt x (k+P)) rfl (fun w' _=>⟨rfl,by constructor <;> simp only [mkInt] <;> omega⟩)
    rw [Dz hlen hn] at h1
    exact ⟨h1,hW.out.trans h2⟩
   clear hput hc hn hO hW hx hw
   go_wp2
   go_roundw
   case rel=>exact ⟨j+1,by omega,by go_num,by rw [hp1];go_num,HS.out.1,HS.out.2⟩
   case measure=>simp [intOf];omega
  ·go_wp2
   go_ret
   obtain rfl:j=l.length:=by omega
   exact ⟨rfl,by rw [← Dx hlen];exact hO.out,hW.out⟩
/- What ajU of package laws does. -/
def pU (k:Int) (x:aJ):aJ:=⟨x.valid,qL k x.boxes,xA (k+kF x.boxes) x.seen⟩
theorem WJ (S:Nat→Prop) (v:Value) (x:aJ) (k:Int) (w:World) (hv:jY w S v x) (hS:∀ b,S b→b < w.heap.size) (hs:jf x.boxes≤2000000) (hl:x.seen.length≤2000000) (hk0:0≤k) (hk1:k≤1000000000) :
  Calls Tryz.prog 13 #[v,.int .i64 k] w fun e w'=>e=.returned (.int .i64 (k+kF x.boxes+ou x.seen))∧jY w' S v (pU k x)∧Wr S w w':=by
 obtain ⟨u0,u1,S0,S1,rfl,h0,h1,d0,d1,i0⟩:=hv
 have hb:kF x.boxes≤8000000:=by have:=Ar x.boxes;omega
 obtain ⟨a0,c0,rfl,-⟩:=(h0.rd fun _ _ _ _=>dh.rd:cK _ _ _).form
 obtain ⟨a1,c1,rfl,-⟩:=(h1.rd fun _ _ _ _ h=>h:dS _ _ _).form
 have n0:¬ S0 w.heap.size:=fun h=>by have:=hS _ (d0 _ h).1;omega
 have n1:¬ S1 w.heap.size:=fun h=>by have:=hS _ (d1 _ h);omega
 have AB:Below w.heap.size w (w.alloc (.cells #[.int .i64 x.valid,.slice a0 x.boxes.length c0,.slice a1 x.seen.length c1] 33)):=bn _ _
 have hsz:w.heap.size < (w.alloc (.cells #[.int .i64 x.valid,.slice a0 x.boxes.length c0,.slice a1 x.seen.length c1] 33)).heap.size:=by simp
 have H0:Hid (l7 (w.alloc (.cells #[.int .i64 x.valid,.slice a0 x.boxes.length c0,.slice a1 x.seen.length c1] 33)) S0 (.slice a0 x.boxes.length c0) x.boxes):=h0.below gq AB
 have H1:Hid (gQ (w.alloc (.cells #[.int .i64 x.valid,.slice a0 x.boxes.length c0,.slice a1 x.seen.length c1] 33)) S1 (.slice a1 x.seen.length c1) x.seen):=h1.below oH AB
 have HK:Hid ((w.alloc (.cells #[.int .i64 x.valid,.slice a0 x.boxes.length c0,.slice a1 x.seen.length c1] 33)).heap[w.heap.size]?=some (.cells #[.int .i64 x.valid,.slice a0 x.boxes.length c0,.slice a1 x.seen.length c1] 33)):=aV w _
 have eH:Hid (Below w.heap.size w (w.alloc (.cells #[.int .i64 x.valid,.slice a0 x.boxes.length c0,.slice a1 x.seen.length c1] 33))):=AB
 have HD:Hid ((∀ y,S0 y→S y∧¬ S1 y)∧(∀ y,S1 y→S y)):=⟨d0,d1⟩
 clear h0 h1 d0 d1 AB
 obtain ⟨f0,f1,f2⟩:=bD HK.out
 go_enter Tryz.func13,Tryz.ntmps13
 go_wp2_with fail
 refine (agj S0 _ x.boxes k _ H0.out hs hk0 (by omega)).mono ?_
 rintro e w1 ⟨rfl,R1,W1⟩
 have s1:=W1.size
 have K1:w1.heap[w.heap.size]?=_:=(W1.block _ hsz n0).trans HK.out
 have G1:Hid (gQ w1 S1 (.slice a1 x.seen.length c1) x.seen):=H1.out.frame oH fun b hb hlt=>W1.block b hlt fun h=>(HD.out.1 b h).2 hb
 have G0:Hid (l7 w1 S0 (.slice a0 x.boxes.length c0) (qL k x.boxes)):=R1
 have HW1:Hid (Wr S w w1):=(Wr.of_below eH.out).trans (W1.mono fun b h=>(HD.out.1 b h).1)
 clear f0 f1 f2 R1 H0 H1 HK W1 eH
 obtain ⟨f0,f1,f2⟩:=bD K1
 have hlA:=lt_of_heap K1
 clear K1
 go_wp2_with fail
 refine (agm S1 _ x.seen _ _ G1.out hl (by omega) (by omega)).mono ?_
 rintro e w2 ⟨rfl,R2,W2⟩
 have HF:Hid (jY w2 S (.agg #[.int .i64 x.valid,.slice a0 x.boxes.length c0,.slice a1 x.seen.length c1]) (pU k x)∧Wr S w w2):=by
  have g0:l7 w2 S0 (.slice a0 x.boxes.length c0) (qL k x.boxes):=G0.out.frame gq fun b hb hlt=>W2.block b hlt (HD.out.1 b hb).2
  exact ⟨⟨_,_,S0,S1,rfl,g0,R2,HD.out.1,HD.out.2,i0⟩,HW1.out.trans (W2.mono HD.out.2)⟩
 clear R2 W2 G0 G1 HW1 HD f0 f1 f2 hlA
 go_wp2
 go_ret
 exact ⟨rfl,HF.out.1,HF.out.2⟩
theorem agn (B T:Nat) (v:Value) (x:aJ) (k:Int) (w:World) (hv:jY w (In B T) v x) (hT:T≤w.heap.size) (hs:jf x.boxes≤2000000) (hl:x.seen.length≤2000000) (hk0:0≤k) (hk1:k≤1000000000) :
  Calls Tryz.prog 13 #[v,.int .i64 k] w fun e w'=>e=.returned (.int .i64 (k+kF x.boxes+ou x.seen))∧jY w' (In B T) v (pU k x)∧Within B T w w':=by
 refine (WJ (In B T) v x k w hv (fun b hb=>Nat.lt_of_lt_of_le hb.2 hT) hs hl hk0 hk1).mono ?_
 rintro e w' ⟨rfl,R,W⟩
 exact ⟨rfl,R,W.within⟩
/- What ajV of package laws does. -/
theorem agp (B T:Nat) (v:Value) (k:Int) (bx tt:List Int) (uid mode fl si:Int) (tx:List Int) (q:Int) (w:World) (hv:iN w B T v k bx tt uid mode fl si tx) (hT:T≤w.heap.size)
  (h0:bx.length≤2000000) (h1:tt.length≤2000000) (h2:tx.length≤2000000) (hq0:0≤q) (hq1:q≤1000000000) :
  Calls Tryz.prog 14 #[v,.int .i64 q] w fun e w'=>e=.returned (.int .i64 (q+bx.length+tt.length+tx.length))∧iN w' B T v k (marks q bx.length) (marks (q+bx.length) tt.length) uid mode fl si (marks (q+bx.length+tt.length) tx.length)∧Within B T w w':=by
 obtain ⟨u0,u1,u2,T0,T1,rfl,g0,g1,g2,r0,r1,r2,i0,i1,i2,i3,i4⟩:=hv
 obtain ⟨a0,c0,rfl⟩:=g0.bs.form
 obtain ⟨a1,c1,rfl⟩:=g1.bs.form
 obtain ⟨a2,c2,rfl⟩:=g2.bs.form
 have hB:Below w.heap.size w (w.alloc (.cells #[.int .i64 k,.slice a0 bx.length c0,.slice a1 tt.length c1,.int .i64 uid,.int .i64 mode,.int .i64 fl,.int .i64 si,.slice a2 tx.length c2] 44)):=bn _ _
 have HW:Hid (Row (w.alloc (.cells #[.int .i64 k,.slice a0 bx.length c0,.slice a1 tt.length c1,.int .i64 uid,.int .i64 mode,.int .i64 fl,.int .i64 si,.slice a2 tx.length c2] 44)) B T0 (.slice a0 bx.length c0) bx∧Row (w.alloc (.cells #[.int .i64 k,.slice a0 bx.length c0,.slice a1 tt.length c1,.int .i64 uid,.int .i64 mode,.int .i64 fl,.int .i64 si,.slice a2 tx.length c2] 44)) T0 T1 (.slice a1 tt.length c1) tt∧Row (w.alloc (.cells #[.int .i64 k,.slice a0 bx.length c0,.slice a1 tt.length c1,.int .i64 uid,.int .i64 mode,.int .i64 fl,.int .i64 si,.slice a2 tx.length c2] 44)) T1 T (.slice a2 tx.length c2) tx):=⟨g0.below hB,g1.below hB,g2.below hB⟩
 have bk:=aV w (.cells #[.int .i64 k,.slice a0 bx.length c0,.slice a1 tt.length c1,.int .i64 uid,.int .i64 mode,.int .i64 fl,.int .i64 si,.slice a2 tx.length c2] 44)
 clear g0 g1 g2
 obtain ⟨f0,f1,f2,f3,f4,f5,f6,f7⟩:=jd bk
 go_enter Tryz.func14,Tryz.ntmps14
 go_wp2_with fail
 refine (FM B T0 _ bx q _ HW.out.1 h0 hq0 (by omega)).mono ?_
 rintro e w1 ⟨rfl,R0,G⟩
 have WI:=HW.out.1.within G
 have s1:=WI.size
 have HI:Hid (Within B T w w1):=(Within.OC hB).trans (WI.wide (Nat.le_refl _) (by omega))
 have HR1:Hid (Row w1 T0 T1 (.slice a1 tt.length c1) tt):=HW.out.2.1.gZ WI (by omega)
 have HR2:Hid (Row w1 T1 T (.slice a2 tx.length c2) tx):=HW.out.2.2.gZ WI (by omega)
 have Bg:Hid (Row w1 B T0 (.slice a0 bx.length c0) (marks q bx.length)):=R0
 have bk1:=(WI.block w.heap.size (by simp) (by omega)).trans bk
 clear f0 f1 f2 f3 f4 f5 f6 f7 bk G R0 hB WI
 obtain ⟨f0,f1,f2,f3,f4,f5,f6,f7⟩:=jd bk1
 have hl1:=lt_of_heap bk1
 go_wp2_with fail
 refine (FM T0 T1 _ tt (q+bx.length) _ HR1.out h1 (by omega) (by omega)).mono ?_
 rintro e w2 ⟨rfl,R1,G⟩
 have WI:=HR1.out.within G
 have s2:=WI.size
 have HI2:Hid (Within B T w w2):=HI.out.trans (WI.wide (by omega) (by omega))
 have WK:Hid (Row w2 B T0 (.slice a0 bx.length c0) (marks q bx.length)):=Bg.out.gZ WI (by omega)
 have Ot:Hid (Row w2 T1 T (.slice a2 tx.length c2) tx):=HR2.out.gZ WI (by omega)
 have WL:Hid (Row w2 T0 T1 (.slice a1 tt.length c1) (marks (q+bx.length) tt.length)):=R1
 have bk2:=(WI.block w.heap.size hl1 (by omega)).trans bk1
 clear f0 f1 f2 f3 f4 f5 f6 f7 bk1 G R1 WI HI Bg HR1 HR2
 obtain ⟨f0,f1,f2,f3,f4,f5,f6,f7⟩:=jd bk2
 have hl2:=lt_of_heap bk2
 go_wp2_with fail
 refine (FM T1 T _ tx (q+bx.length+tt.length) _ Ot.out h2 (by omega) (by omega)).mono ?_
 rintro e w3 ⟨rfl,R2,G⟩
 have WI:=Ot.out.within G
 have HI3:Hid (Within B T w w3):=HI2.out.trans (WI.wide (by omega) (Nat.le_refl _))
 have Z0:Hid (Row w3 B T0 (.slice a0 bx.length c0) (marks q bx.length)):=WK.out.gZ WI (by omega)
 have Z1:Hid (Row w3 T0 T1 (.slice a1 tt.length c1) (marks (q+bx.length) tt.length)):=WL.out.gZ WI (by omega)
 have Z2:Hid (Row w3 T1 T (.slice a2 tx.length c2) (marks (q+bx.length+tt.length) tx.length)):=R2
 clear f0 f1 f2 f3 f4 f5 f6 f7 bk2 G R2 WI HI2 WK WL Ot
 go_wp2
 go_ret
 exact ⟨rfl,⟨_,_,_,T0,T1,rfl,Z0.out,Z1.out,Z2.out,r0,r1,r2,i0,i1,i2,i3,i4⟩,HI3.out⟩
/- What ajW of package laws does of rows of names. -/
def mkName (x:List Int) (k:Int):List Int:=marks k x.length
def nO (x:List Int):Nat:=x.length
def qO (l:List (List Int)):Nat:=pre (bJ [] nO l) l.length
def um (k:Int) (l:List (List Int)):List (List Int):=u6 [] mkName nO k l
theorem Ou (l:List (List Int)):qO l≤oM l:=by
 rw [qO,Dv]
 induction l with
 | nil=>simp [oM]
 | cons x l ih=>simp only [oM,List.map_cons,List.sum_cons,nO] at ih ⊢;omega
theorem agq (S:Nat→Prop) (v:Value) (l:List (List Int)) (k:Int) (w:World) (hv:kM w S v l) (hs:oM l≤2000000) (hk0:0≤k) (hk1:k≤100000000000) :
  Calls Tryz.prog 42 #[v,.int .i64 k] w fun e w'=>e=.returned (.int .i64 (k+qO l))∧kM w' S v (um k l)∧Wr S w w':=by
 have HV:Hid (kM w S v l):=hv
 obtain ⟨a,cap,rfl,hlc,hcm⟩:=(hv.rd fun _ _ _ _=>qQ.rd:mQ w v l).form
 clear hv
 have hl:l.length≤2000000:=Nat.le_trans (Pw l) hs
 have hb:qO l≤2000000:=by have:=Ou l;omega
 have hlen:(um k l).length=l.length:=tN
 go_enter Tryz.func42,Tryz.ntmps42
 go_wp2
 go_loopw [1,5] (fun q i wr=>∃ j:Nat,j≤l.length∧i=.int .i64 j∧q=.int .i64 (k+(pre (bJ [] nO l) j:Nat))∧Hid (kM wr S (.slice a l.length cap) (mix (um k l) l j))∧Hid (Wr S w wr)) (fun _ i _=>l.length - (intOf i).toNat)
 case atStart=>exact ⟨0,Nat.zero_le _,rfl,by simp [pre],by rw [Dw];exact HV,Wr.refl _ _⟩
 case round =>
  obtain ⟨j,hj,rfl,rfl,hO,hW⟩:=hrel
  by_cases hlt:j < l.length
  ·obtain ⟨x,hx⟩:∃ x,l[j]?=some x:=⟨l[j],aK hlt⟩
   obtain ⟨g,cap',cur,c,f,hv',-,-,hh,hroom,hS,⟨u,rfl,hu⟩,-,hcs,hf,xR⟩:=hO.out.upd kL j x ((Dy hlen hlt).trans hx)
   simp only [Value.slice.injEq] at hv'
   obtain ⟨rfl,-,rfl⟩:=hv'
   have hp1:pre (bJ [] nO l) (j+1)=pre (bJ [] nO l) j+x.length:=tQ hx
   have kG:pre (bJ [] nO l) (j+1)≤qO l:=tT hlt
   have hn:=tO (z:=[]) (mk:=mkName) (wt:=nO) (k:=k) hx
   generalize pre (bJ [] nO l) j=P at kG hp1 hn
   have hP:(P:Int)≤2000000:=by omega
   have hxt:x.length≤2000000:=by have:=Pv (List.mem_of_getElem? hx);omega
   have d0:=(cell_of_row wr g (j * 1) cur _ (0,0) hh).trans (hcs 0 _ rfl)
   rw [Nat.mul_one] at d0
   have hgl:=lt_of_heap hh
   obtain ⟨ua,un,uc,rfl⟩:=hu.bs.aG
   have HU:Hid (RO wr f (.slice ua un uc) x):=hu
   have HS:Hid (∀ w',Wr f wr w'→RO w' f (.slice ua un uc) (marks (k+P) x.length)→kM w' S (.slice (some ⟨g,0,none⟩) l.length cap) (mix (um k l) l (j+1))∧Wr S w w'):=by
    intro w' hw' hr
    have hg':w'.heap[g]?=_:=(hw'.block g hgl fun h=>(hf g h).2 rfl).trans hh
    have hE:qQ w' [.slice ua un uc] (mkName x (k+P)) f:=⟨_,rfl,hr⟩
    have h1:=xR w' cur _ (mkName x (k+P)) hg' rfl (fun i u hi=>hcs i u hi) (fun m hm=>rfl) rfl (fun b hb hne hnf hlt=>hw'.block b hlt hnf) hE
    rw [Dz hlen hn] at h1
    exact ⟨h1,hW.out.trans (hw'.mono fun b h=>(hf b h).1)⟩
   clear xR hcs hn hO hW hx hu hh hroom hf
   go_wp2_with fail
   refine (He f _ x _ _ HU.out hxt (by omega) (by omega)).mono ?_
   rintro e w2 ⟨rfl,R,W2⟩
   have HS2:=HS.out w2 W2 R
   have HM:Hid (kM w2 S (.slice (some ⟨g,0,none⟩) l.length cap) (mix (um k l) l (j+1))):=HS2.1
   have HW:Hid (Wr S w w2):=HS2.2
   clear HS HS2 R W2 HU d0
   go_wp2
   go_roundw
   case rel=>exact ⟨j+1,by omega,by go_num,by rw [hp1];go_num,HM,HW⟩
   case measure=>simp [intOf];omega
  ·go_wp2
   go_ret
   obtain rfl:j=l.length:=by omega
   exact ⟨rfl,by rw [← Dx hlen];exact hO.out,hW.out⟩
end Go.Proofs.YtlneebmlhblleaaGreat
