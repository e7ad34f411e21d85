/- The proof's texts, part 9. -/
import Derived.Test.YtmglhdkeidhafaaGreatT8
import Derived.Test.YtmglhdkeidhafaaGreatT4
namespace Go.Proofs.YtmglhdkeidhafaaGreat
open Go.RowKit
set_option linter.unusedVariables false
set_option maxHeartbeats 1000000
set_option maxRecDepth 100000
/- What afr of package spec answers. -/
theorem Wv {l:List Int} (h:Oct l) (i:Nat) (x:Int) (hx:0≤x∧x≤255):Oct (l.set i x):=by
 intro y hy
 rcases List.mem_or_eq_of_mem_set hy with h' | rfl
 ·exact h y h'
 ·exact hx
/-- A byte of a row that the call owns is written. -/
theorem Own.set {w:World} {gb n cap i:Nat} {l:List Int} {x:Int} (h:Own w gb (.slice (some ⟨gb,0,none⟩) n cap) l) (hx:0≤x∧x≤255) :
  Own (w.setCell ⟨gb,i,none⟩ (.int .u8 x)) gb (.slice (some ⟨gb,0,none⟩) n cap) (l.set i x):=by
 rcases h.2 with ⟨h',_⟩ | ⟨cap',cur,hv,hh,h1,h2,h3,h4⟩
 ·simp at h'
 ·simp only [Value.slice.injEq,true_and] at hv
  obtain ⟨rfl,rfl⟩:=hv
  refine ⟨Wv h.1 i x hx,.inr ⟨cap,_,by simp,heap_setCell_same w gb i cur _ _ hh,by simpa using h1,h2,by simpa using h3,?_⟩⟩
  rw [Array.toList_setIfInBounds,List.length_set,List.take_set,h4]
  simp [vals,List.map_set]
theorem Own.cut {w:World} {gb n cap:Nat} {l:List Int} (h:Own w gb (.slice (some ⟨gb,0,none⟩) n cap) l) (i:Nat) (hi:i≤l.length) :
  Own w gb (.slice (some ⟨gb,0,none⟩) i cap) (l.take i):=by
 rcases h.2 with ⟨h',_⟩ | ⟨cap',cur,hv,hh,h1,h2,h3,h4⟩
 ·simp at h'
 ·simp only [Value.slice.injEq,true_and] at hv
  obtain ⟨rfl,rfl⟩:=hv
  have hl:(l.take i).length=i:=by simp;omega
  refine ⟨UO h.1 i,.inr ⟨cap,cur,by rw [hl],hh,by rw [hl];omega,h2,h3,?_⟩⟩
  rw [hl]
  have:=congrArg (List.take i) h4
  rw [List.take_take,Nat.min_eq_left hi] at this
  rw [this]
  simp [vals,List.map_take]
theorem bN.set {w0 w:World} {g gb i:Nat} {cv x:Value} {L:List Int} (h:bN w0 w g cv L) (h1:w0.heap.size≤gb) (hne:g≠gb):bN w0 (w.setCell ⟨gb,i,none⟩ x) g cv L:=by
 obtain ⟨hg,hB,hbs,j,q,h0,h2,hh⟩:=h
 exact ⟨hg,hB.setCell h1 _,hbs,j,q,h0,h2,(Below.heap_setCell w ⟨gb,i,none⟩ x g hne).trans hh⟩
theorem bN.drew {w0 w:World} {g:Nat} {cv:Value} {L:List Int} (h:bN w0 w g cv L):bN w0 w.drew g cv L :=
 let ⟨hg,hB,hbs,j,q,h0,h2,hh⟩:=h;⟨hg,hB.drew,hbs,j,q,h0,h2,hh⟩
/- What afs, aft, afu, afv of package laws do. -/
/- What afw, afx, afy of package laws do of rows of names. -/
theorem Ot:(Tryz.prog.info? 22).map (fun i=>(i.zero,i.size,i.bytes))=some (some (.slice none 0 0),1,24):=by kernel_rfl
/- What afz and afA of package impl do. -/
theorem Ou (v:Value) (x:aC) (w:World) (hv:iA w v x) (h0:x.text.length≤2000000) :
  Calls Tryz.prog 79 #[v] w fun e w'=>∃ a n c,e=.returned (.agg #[.int .i64 x.uid,.int .i64 x.flags,.int .i64 x.seq,.slice a n c])∧mQ w' [.int .i64 x.uid,.int .i64 x.flags,.int .i64 x.seq,.slice a n c] x (In w.heap.size w'.heap.size)∧Below w.heap.size w w':=by
 obtain ⟨u,rfl,g0,i0,i1,i2⟩:=hv
 obtain ⟨uid,flags,seq,text⟩:=x
 simp only at g0 i0 i1 i2 h0
 have H0:Hid (∀ wi,Below w.heap.size w wi→Bs wi u text):=fun wi h=>g0.below h
 obtain ⟨a0,n0,c0,rfl⟩:=g0.aG
 have HI:Hid (ay uid∧ay flags∧ay seq):=⟨i0,i1,i2⟩
 clear g0 i0 i1 i2
 simp only
 obtain ⟨kA,kR,X⟩:=iX w (.cells #[.int .i64 uid,.int .i64 flags,.int .i64 seq,.slice a0 n0 c0] 72) (.cells #[.int .i64 0,.int .i64 0,.int .i64 0,.slice none 0 0] 72)
 go_enter Tryz.func79,Tryz.ntmps79
 go_wp2_with fail
 refine (Im _ _ text [] _ (H0.out _ X) (yN _) (by omega) (by simp)).mono ?_
 rintro e w1 ⟨u0,rfl,R0,B⟩
 rw [List.append_nil] at R0
 obtain ⟨x0,m0,y0,rfl⟩:=R0.bs.aG
 replace kA:=aB B kA
 replace kR:=aB B kR
 have s1:w.heap.size+2≤w1.heap.size:=by have:=B.size;simp at this;omega
 replace X:=Below.step X B
 replace R0:=R0.wide (B':=w.heap.size+2) (T':=w1.heap.size) (by simp) (Nat.le_refl _)
 clear B
 obtain ⟨oz,ol⟩:=aZ kA
 obtain ⟨o0,o1,o2,o3⟩:=iZ kA
 obtain ⟨rz,rl⟩:=aZ kR
 obtain ⟨r0,r1,r2,r3⟩:=iZ kR
 go_wp2
 refine bodyPost_ret (v:=.agg #[.int .i64 uid,.int .i64 flags,.int .i64 seq,.slice x0 m0 y0]) (by simp [results,Tryz.results79,go_sem,r0,r1,r2,r3]) rfl ⟨_,_,_,rfl,?_,?_⟩
 ·simp only [bf]
  exact ⟨_,rfl,Row.ro (Row.wide (((((R0.set (g:=w.heap.size) (i:=3) (x:=.slice x0 m0 y0) (.inl (by omega))).set (g:=w.heap.size+1) (i:=0) (x:=.int .i64 uid) (.inl (by omega))).set (g:=w.heap.size+1) (i:=1) (x:=.int .i64 flags) (.inl (by omega))).set (g:=w.heap.size+1) (i:=2) (x:=.int .i64 seq) (.inl (by omega))).set (g:=w.heap.size+1) (i:=3) (x:=.slice x0 m0 y0) (.inl (by omega))) (by omega) (Nat.le_refl _)),HI.out⟩
 ·exact (((((X.setCell (p:=⟨w.heap.size,3,none⟩) (by simp <;> omega) (.slice x0 m0 y0)).setCell (p:=⟨w.heap.size+1,0,none⟩) (by simp <;> omega) (.int .i64 uid)).setCell (p:=⟨w.heap.size+1,1,none⟩) (by simp <;> omega) (.int .i64 flags)).setCell (p:=⟨w.heap.size+1,2,none⟩) (by simp <;> omega) (.int .i64 seq)).setCell (p:=⟨w.heap.size+1,3,none⟩) (by simp <;> omega) (.slice x0 m0 y0))
theorem Bc (v:Value) (x:aA) (w:World) (hv:bI w v x) (h0:x.name.length≤2000000) :
  Calls Tryz.prog 38 #[v] w fun e w'=>∃ a n c,e=.returned (.agg #[.slice a n c,.int .i64 x.valid,.int .i64 x.next,.int .i64 x.seq,.slice none 0 0,.slice none 0 0,.int .i64 x.lost])∧RO w' (In w.heap.size w'.heap.size) (.slice a n c) x.name∧Below w.heap.size w w':=by
 obtain ⟨u0,u1,u2,rfl,g0,g1,g2,-⟩:=hv
 obtain ⟨name,valid,next,seq,ah,au,lost⟩:=x
 simp only at g0 g1 g2 h0
 have H0:Hid (∀ wi,Below w.heap.size w wi→Bs wi u0 name):=fun wi h=>g0.below h
 obtain ⟨a0,n0,c0,rfl⟩:=g0.aG
 obtain ⟨a1,c1,rfl,-⟩:=g1.form
 obtain ⟨a2,c2,rfl,-⟩:=g2.form
 clear g0 g1 g2
 simp only
 obtain ⟨kA,kR,X⟩:=iX w (.cells #[.slice a0 n0 c0,.int .i64 valid,.int .i64 next,.int .i64 seq,.slice a1 ah.length c1,.slice a2 au.length c2,.int .i64 lost] 34) (.cells #[.slice none 0 0,.int .i64 0,.int .i64 0,.int .i64 0,.slice none 0 0,.slice none 0 0,.int .i64 0] 34)
 go_enter Tryz.func38,Tryz.ntmps38
 go_wp2_with fail
 refine (Im _ _ name [] _ (H0.out _ X) (yN _) (by omega) (by simp)).mono ?_
 rintro e w1 ⟨u0,rfl,R0,B⟩
 rw [List.append_nil] at R0
 obtain ⟨x0,m0,y0,rfl⟩:=R0.bs.aG
 replace kA:=aB B kA
 replace kR:=aB B kR
 have s1:w.heap.size+2≤w1.heap.size:=by have:=B.size;simp at this;omega
 replace X:=Below.step X B
 replace R0:=R0.wide (B':=w.heap.size+2) (T':=w1.heap.size) (by simp) (Nat.le_refl _)
 clear B
 obtain ⟨oz,ol⟩:=aZ kA
 obtain ⟨o0,o1,o2,o3,o4,o5,o6⟩:=bU kA
 obtain ⟨rz,rl⟩:=aZ kR
 obtain ⟨r0,r1,r2,r3,r4,r5,r6⟩:=bU kR
 go_wp2
 refine bodyPost_ret (v:=.agg #[.slice x0 m0 y0,.int .i64 valid,.int .i64 next,.int .i64 seq,.slice none 0 0,.slice none 0 0,.int .i64 lost]) (by simp [results,Tryz.results38,go_sem,r0,r1,r2,r3,r4,r5,r6]) rfl ⟨_,_,_,rfl,?_,?_⟩
 ·simp only [bf]
  exact Row.ro (Row.wide ((((((((((R0.set (g:=w.heap.size) (i:=0) (x:=.slice x0 m0 y0) (.inl (by omega))).set (g:=w.heap.size) (i:=4) (x:=.slice none 0 0) (.inl (by omega))).set (g:=w.heap.size) (i:=5) (x:=.slice none 0 0) (.inl (by omega))).set (g:=w.heap.size+1) (i:=0) (x:=.slice x0 m0 y0) (.inl (by omega))).set (g:=w.heap.size+1) (i:=1) (x:=.int .i64 valid) (.inl (by omega))).set (g:=w.heap.size+1) (i:=2) (x:=.int .i64 next) (.inl (by omega))).set (g:=w.heap.size+1) (i:=3) (x:=.int .i64 seq) (.inl (by omega))).set (g:=w.heap.size+1) (i:=4) (x:=.slice none 0 0) (.inl (by omega))).set (g:=w.heap.size+1) (i:=5) (x:=.slice none 0 0) (.inl (by omega))).set (g:=w.heap.size+1) (i:=6) (x:=.int .i64 lost) (.inl (by omega))) (by omega) (Nat.le_refl _))
 ·exact ((((((((((X.setCell (p:=⟨w.heap.size,0,none⟩) (by simp <;> omega) (.slice x0 m0 y0)).setCell (p:=⟨w.heap.size,4,none⟩) (by simp <;> omega) (.slice none 0 0)).setCell (p:=⟨w.heap.size,5,none⟩) (by simp <;> omega) (.slice none 0 0)).setCell (p:=⟨w.heap.size+1,0,none⟩) (by simp <;> omega) (.slice x0 m0 y0)).setCell (p:=⟨w.heap.size+1,1,none⟩) (by simp <;> omega) (.int .i64 valid)).setCell (p:=⟨w.heap.size+1,2,none⟩) (by simp <;> omega) (.int .i64 next)).setCell (p:=⟨w.heap.size+1,3,none⟩) (by simp <;> omega) (.int .i64 seq)).setCell (p:=⟨w.heap.size+1,4,none⟩) (by simp <;> omega) (.slice none 0 0)).setCell (p:=⟨w.heap.size+1,5,none⟩) (by simp <;> omega) (.slice none 0 0)).setCell (p:=⟨w.heap.size+1,6,none⟩) (by simp <;> omega) (.int .i64 lost))
/- What afB and afC of package impl do. -/
open Go.RowKit Go.Shelf
theorem Ww (v:Value) (l:List Int) (w:World) (hv:oZ w v l) :
  Calls Tryz.prog 23 #[v] w fun e w'=>e=.returned (.bool (nU l))∧w'=w:=by
 have HV:Hid (oZ w v l):=hv
 obtain ⟨a,cap,rfl,hlc,hcm⟩:=hv.form
 clear hv
 by_cases h0:l.length≤60
 ·have HS:Hid (nU l=(List.range l.length).all (seenAt l)):=by simp [Hid,nU,h0]
  go_enter Tryz.func23,Tryz.ntmps23
  go_wp2
  go_loop [3,5,11] (fun q _ i=>∃ k:Nat,k≤l.length∧i=.int .i64 k∧q=.int .i64 (mR l k)∧Hid (∀ j,j < k→seenAt l j=true)) (fun _ _ i=>l.length - (intOf i).toNat)
  case atStart=>exact ⟨0,Nat.zero_le _,rfl,rfl,fun j hj=>absurd hj (Nat.not_lt_zero _)⟩
  case round =>
   obtain ⟨k,hk,rfl,rfl,hA⟩:=hrel
   by_cases hlt:k < l.length
   ·obtain ⟨x,hx⟩:∃ x,l[k]?=some x:=⟨l[k],aL hlt⟩
    obtain ⟨b,off,cap',hv',hlb,d0,i0⟩:=oZ.cell HV.out k x hx
    simp only [Value.slice.injEq,true_and] at hv'
    obtain ⟨rfl,rfl⟩:=hv'
    have hp:=M8 hk hA.out
    have HD:Hid (l.getD k 0=x):=by simp [Hid,List.getD,hx]
    have HE:Hid (seenAt l k=aM x (mR l k+1) 1000000):=by show seenAt l k=_;unfold seenAt;rw [HD.out]
    generalize hQ:mR l k=q at hp HE
    clear hQ
    obtain ⟨hp0,hp1,-⟩:=hp
    have hcall:=jy x (q+1) 1000000
    generalize hX:aM x (q+1) 1000000=X at hcall HE
    clear hX hx
    cases X with
    | true =>
     go_wp2_with (go_at_call 22;refine (hcall _).mono ?_;rintro e w' ⟨rfl,rfl⟩)
     go_round
     case rel =>
      refine ⟨k+1,by omega,by go_num,by simp only [mR];rw [HD.out],(show Hid _ from fun j hj=>?_)⟩
      by_cases e:j=k
      ·subst e;exact HE.out
      ·exact hA.out j (by omega)
     case measure=>simp [intOf];omega
    | false =>
     go_wp2_with (go_at_call 22;refine (hcall _).mono ?_;rintro e w' ⟨rfl,rfl⟩)
     go_ret
     exact ⟨aP (by rw [HS.out];exact iH k hlt HE.out),rfl⟩
   ·obtain rfl:k=l.length:=by omega
    go_wp2
    go_ret
    exact ⟨aP (by rw [HS.out];exact tO hA.out),rfl⟩
 ·have HS:Hid (nU l=false):=by simp [Hid,nU,h0]
  go_enter Tryz.func23,Tryz.ntmps23
  go_wp2
  go_ret
  exact ⟨aP HS.out,rfl⟩
theorem Wx (v:Value) (x:aA) (w:World) (hv:bI w v x) (hn0:1≤x.next) (hn1:x.next≤1000000) :
  Calls Tryz.prog 54 #[v] w fun e w'=>e=.returned (.bool (mU x))∧Below w.heap.size w w':=by
 obtain ⟨u0,u1,u2,rfl,g0,g1,g2,i0,i1,i2,i3⟩:=hv
 have H0:Hid (∀ wi,Below w.heap.size w wi→Bs wi u0 x.name∧eT wi u1 x.ah∧dD wi u2 x.au):=fun wi h=>⟨g0.below h,g1.below iG h,g2.below gU h⟩
 obtain ⟨a0,n0,c0,rfl⟩:=g0.aG
 obtain ⟨a1,c1,rfl,m0,m1⟩:=g1.form
 obtain ⟨a2,c2,rfl,m2,m3⟩:=g2.form
 clear g0 g1 g2
 have kA:=aW w (.cells #[.slice a0 n0 c0,.int .i64 x.valid,.int .i64 x.next,.int .i64 x.seq,.slice a1 x.ah.length c1,.slice a2 x.au.length c2,.int .i64 x.lost] 34)
 have X:Below w.heap.size w (w.alloc (.cells #[.slice a0 n0 c0,.int .i64 x.valid,.int .i64 x.next,.int .i64 x.seq,.slice a1 x.ah.length c1,.slice a2 x.au.length c2,.int .i64 x.lost] 34)):=bn _ _
 by_cases h0:x.ah.length≤12
 ·have HS:Hid (mU x=(List.range x.ah.length).all (lG x)):=by simp [Hid,mU,h0]
  have HK:Hid ((w.alloc (.cells #[.slice a0 n0 c0,.int .i64 x.valid,.int .i64 x.next,.int .i64 x.seq,.slice a1 x.ah.length c1,.slice a2 x.au.length c2,.int .i64 x.lost] 34)).heap[w.heap.size]?=some (.cells #[.slice a0 n0 c0,.int .i64 x.valid,.int .i64 x.next,.int .i64 x.seq,.slice a1 x.ah.length c1,.slice a2 x.au.length c2,.int .i64 x.lost] 34)):=kA
  have HX:Hid (Below w.heap.size w (w.alloc (.cells #[.slice a0 n0 c0,.int .i64 x.valid,.int .i64 x.next,.int .i64 x.seq,.slice a1 x.ah.length c1,.slice a2 x.au.length c2,.int .i64 x.lost] 34))):=X
  clear kA X
  go_enter Tryz.func54,Tryz.ntmps54
  go_wp2
  go_loopw [3,5,13] (fun q _ i wr=>∃ k:Nat,k≤x.ah.length∧i=.int .i64 k∧q=.int .i64 (jW x.ah k)∧Hid (∀ j,j < k→lG x j=true)∧Hid (wr.heap[w.heap.size]?=some (.cells #[.slice a0 n0 c0,.int .i64 x.valid,.int .i64 x.next,.int .i64 x.seq,.slice a1 x.ah.length c1,.slice a2 x.au.length c2,.int .i64 x.lost] 34))∧Hid (Below w.heap.size w wr)) (fun _ _ i _=>x.ah.length - (intOf i).toNat)
  case atStart=>exact ⟨0,Nat.zero_le _,rfl,rfl,(fun j hj=>absurd hj (Nat.not_lt_zero _)),HK,HX⟩
  case round =>
   obtain ⟨k,hk,rfl,rfl,hA,hK,hB⟩:=hrel
   by_cases hlt:k < x.ah.length
   ·obtain ⟨m,hm⟩:∃ m,x.ah[k]?=some m:=⟨x.ah[k],aL hlt⟩
    obtain ⟨b,off,cap',u,hv',hlb,d0,d1,d2,d3,hu,j0,j1,j2⟩:=eT.cell (H0.out wr hB.out).2.1 k m hm
    simp only [Value.slice.injEq,true_and] at hv'
    obtain ⟨rfl,rfl⟩:=hv'
    obtain ⟨ua,un,uc,rfl⟩:=hu.aG
    have hp:=M9 hn1 hk hA.out
    have HE:Hid (lG x k=(aM m.uid (jW x.ah k+1) (x.next - 1) && (aM m.flags 0 31 && (aM m.seq 1 x.seq && dU m.text)))):=by simp [Hid,lG,hm]
    have gV:Hid (jW x.ah (k+1)=m.uid):=by simp [Hid,jW,hm]
    generalize hQ:jW x.ah k=q at hp HE
    clear hQ hm
    obtain ⟨hp0,hp1⟩:=hp
    obtain ⟨uid,flags,seq,text⟩:=m
    simp only at d0 d1 d2 d3 hu j0 j1 j2 HE gV
    have c1':=jy uid (q+1) (x.next - 1)
    have c2':=jy flags 0 31
    have c3':=jy seq 1 x.seq
    generalize aM uid (q+1) (x.next - 1)=X1 at c1' HE
    generalize aM flags 0 31=X2 at c2' HE
    generalize aM seq 1 x.seq=X3 at c3' HE
    have ab:Below wr.heap.size wr (wr.alloc (.cells #[.int .i64 uid,.int .i64 flags,.int .i64 seq,.slice ua un uc] 72)):=bn _ _
    have zi:=Oq _ text _ (hu.below ab)
    generalize dU text=X4 at zi HE
    have Ev:=hK.out
    obtain ⟨e0,e1,e2,e3,e4,e5,e6⟩:=bU Ev
    have hlA:=lt_of_heap Ev
    have rX:Hid ((wr.alloc (.cells #[.int .i64 uid,.int .i64 flags,.int .i64 seq,.slice ua un uc] 72)).heap[wr.heap.size]?=some (.cells #[.int .i64 uid,.int .i64 flags,.int .i64 seq,.slice ua un uc] 72)):=aW wr _
    have iy:Hid ((wr.alloc (.cells #[.int .i64 uid,.int .i64 flags,.int .i64 seq,.slice ua un uc] 72)).heap[w.heap.size]?=some (.cells #[.slice a0 n0 c0,.int .i64 x.valid,.int .i64 x.next,.int .i64 x.seq,.slice (some ⟨b,off,none⟩) x.ah.length c1,.slice a2 x.au.length c2,.int .i64 x.lost] 34)):=yL Ev _
    have HB1:Hid (Below w.heap.size w (wr.alloc (.cells #[.int .i64 uid,.int .i64 flags,.int .i64 seq,.slice ua un uc] 72))):=Below.step hB.out ab
    clear Ev hu ab hK hB
    go_wp2_with fail
    refine (c1' _).mono ?_
    rintro e w' ⟨rfl,rfl⟩
    cases X1 with
    | false =>
     go_wp2
     go_ret
     exact ⟨aP (by rw [HS.out];exact iH k hlt HE.out),HB1.out⟩
    | true =>
    go_wp2_with fail
    refine (c2' _).mono ?_
    rintro e w' ⟨rfl,rfl⟩
    cases X2 with
    | false =>
     go_wp2
     go_ret
     exact ⟨aP (by rw [HS.out];exact iH k hlt HE.out),HB1.out⟩
    | true =>
    go_wp2_with fail
    refine (c3' _).mono ?_
    rintro e w' ⟨rfl,rfl⟩
    cases X3 with
    | false =>
     go_wp2
     go_ret
     exact ⟨aP (by rw [HS.out];exact iH k hlt HE.out),HB1.out⟩
    | true =>
    go_wp2_with fail
    refine zi.mono ?_
    rintro e w2 ⟨rfl,B⟩
    have HB2:Hid (Below w.heap.size w w2):=Below.step HB1.out B
    have l8:Hid (w2.heap[w.heap.size]?=some (.cells #[.slice a0 n0 c0,.int .i64 x.valid,.int .i64 x.next,.int .i64 x.seq,.slice (some ⟨b,off,none⟩) x.ah.length c1,.slice a2 x.au.length c2,.int .i64 x.lost] 34)):=aB B iy.out
    obtain ⟨t0,t1,t2,t3⟩:=iZ (aB B rX.out)
    clear B HB1 iy rX
    cases X4 with
    | false =>
     go_wp2
     go_ret
     exact ⟨aP (by rw [HS.out];exact iH k hlt HE.out),HB2.out⟩
    | true =>
    go_wp2
    go_roundw
    case rel =>
     refine ⟨k+1,by omega,by go_num,by rw [gV.out],(show Hid _ from fun j hj=>?_),l8,HB2⟩
     by_cases e:j=k
     ·subst e;exact HE.out
     ·exact hA.out j (by omega)
    case measure=>simp [intOf];omega
   ·obtain rfl:k=x.ah.length:=by omega
    go_wp2
    go_ret
    exact ⟨aP (by rw [HS.out];exact tO hA.out),hB.out⟩
 ·have HS:Hid (mU x=false):=by simp [Hid,mU,h0]
  go_enter Tryz.func54,Tryz.ntmps54
  go_wp2
  go_ret
  exact ⟨aP HS.out,X⟩
end Go.Proofs.YtmglhdkeidhafaaGreat
