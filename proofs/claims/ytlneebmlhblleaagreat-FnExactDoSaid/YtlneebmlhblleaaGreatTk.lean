/- The proof's texts, part 20. -/
import Derived.Test.YtlneebmlhblleaaGreatTj
import Derived.Lib.BytesEntry
namespace Go.Proofs.YtlneebmlhblleaaGreat
open Go.RowKit
set_option linter.unusedSimpArgs false
set_option linter.unusedVariables false
set_option maxHeartbeats 4000000
set_option maxRecDepth 100000
/- What commands leave of an account has numbers of changes above 0, on lists. -/
structure iG (b:aD):Prop where
 seq:0≤b.seq
 ms:∀ m ∈ b.ah,0 < m.seq
 gs:∀ x ∈ b.au,0 < x.seq
def sZ (a:aJ):Prop:=∀ b ∈ a.boxes,iG b
theorem sZ.set {a:aJ} {k:Nat} {b:aD} (h:sZ a) (hb:iG b):sZ (aL a k b):=fun x hx=>by
 rcases List.mem_or_eq_of_mem_set hx with hx | rfl
 ·exact h x hx
 ·exact hb
theorem Z5 (l:List bf):∀ (lost:Int) (x:bf),x ∈ (dX lost l).2→x ∈ l:=by
 induction l with
 | nil=>intro _ x h;simp [dX] at h
 | cons y l ih =>
  intro lost x h
  rw [dX] at h
  split at h
  ·exact List.mem_cons_of_mem _ (ih _ _ h)
  ·exact h
theorem iG.bH {b:aD} (h:iG b):iG (bH b):=⟨by show 0≤b.seq+1;have:=h.seq;omega,h.ms,h.gs⟩
theorem iG.drop {b:aD} {i:Nat} (h:iG b) (hs:0 < b.seq):iG (bG b i)∧(bG b i).seq=b.seq:=by
 unfold bG
 cases hm:b.ah[i]? with
 | none=>exact ⟨h,rfl⟩
 | some m =>
  refine ⟨⟨h.seq,fun x hx=>?_,fun x hx=>?_⟩,rfl⟩
  ·rcases List.mem_append.1 hx with hx | hx
   ·exact h.ms x (List.mem_of_mem_take hx)
   ·exact h.ms x (List.mem_of_mem_drop hx)
  ·rcases List.mem_append.1 (Z5 _ _ _ hx) with hx | hx
   ·exact h.gs x hx
   ·rw [List.mem_singleton] at hx
    subst hx
    exact hs
theorem iG.add {b:aD} {fl:Int} {tx:List Int} (h:iG b):iG (jR b fl tx):=by
 have:=h.seq
 refine ⟨by show 0≤b.seq+1;omega,fun m hx=>?_,h.gs⟩
 simp only [jR,List.mem_append,List.mem_singleton] at hx
 rcases hx with hx | rfl
 ·exact h.ms m hx
 ·show 0 < b.seq+1
  omega
theorem iG.store {b:aD} {uid mode fl si:Int} (h:iG b):iG (j6 b uid mode fl si).1:=by
 have h0:=h.seq
 unfold j6
 split
 ·exact h
 ·split
  ·exact h
  ·split
   ·exact h
   ·split
    ·exact h
    ·split
     ·exact h
     ·refine ⟨by show 0≤b.seq+1;omega,fun m hx=>?_,h.gs⟩
      rcases List.mem_or_eq_of_mem_set hx with hx | rfl
      ·exact h.ms m hx
      ·show 0 < b.seq+1
       omega
theorem iG.exp:∀ (n:Nat) (b:aD) (i:Nat),iG b→0 < b.seq→iG (iR n b i)
 | 0,b,i,h,_=>h
 | n+1,b,i,h,hs=>by
  unfold iR
  split
  ·exact h
  ·split
   ·obtain ⟨h1,h2⟩:=h.drop (i:=i) hs
    exact iG.exp n _ i h1 (by rw [h2];exact hs)
   ·exact iG.exp n b (i+1) h hs
theorem iG.Gr {b:aD} (h:iG b):iG (iD b).1:=by
 have h0:=h.seq
 unfold iD
 split
 ·exact h
 ·split
  ·exact h
  ·exact iG.exp _ _ _ h.bH (show 0 < b.seq+1 by omega)
theorem Z6 {a:aJ} {k:Nat} {b:aD} {tt:List Int} {uid mode:Int} (h:sZ a) (hb:iG b):sZ (lN a k b tt uid mode).1:=by
 have h0:=hb.seq
 cases h1:b.ah.findIdx? (fun m=>decide (m.uid=uid)) with
 | none=>rw [Q7 h1];exact h
 | some i =>
  cases h2:a.boxes.findIdx? (fun x=>decide (x.name=tt)) with
  | none=>rw [Q8 h2];exact h
  | some t =>
   have h3:=aK (List.findIdx?_eq_some_iff_getElem.1 h1).1
   have h4:=aK (List.findIdx?_eq_some_iff_getElem.1 h2).1
   generalize a.boxes[t]'(List.findIdx?_eq_some_iff_getElem.1 h2).1=bt at h4
   obtain ⟨rm,hrm⟩:∃ rm,rm=dx bt (if decide (mode=1)=true∧t=k then 0 else 1):=⟨_,rfl⟩
   obtain ⟨fu,hfu⟩:∃ fu,fu=(decide (mode=1) && decide (999999≤b.seq)):=⟨_,rfl⟩
   rw [copy_eq h1 h2 h3 h4 rfl hrm hfu]
   by_cases hc:rm=false∨fu=true
   ·rw [if_pos hc]
    exact h
   ·rw [if_neg hc]
    have ha1:sZ (if decide (mode=1)=true then aL a k (bG (Go.Proofs.YtlneebmlhblleaaGreat.bH b) i) else a):=by
     split
     ·exact h.set (hb.bH.drop (show 0 < b.seq+1 by omega)).1
     ·exact h
    generalize (if decide (mode=1)=true then aL a k (bG (Go.Proofs.YtlneebmlhblleaaGreat.bH b) i) else a)=a1 at ha1
    cases hbu:a1.boxes[t]? with
    | none=>exact ha1
    | some bu=>exact ha1.set (ha1 bu (List.mem_of_getElem? hbu)).add
theorem Z7 {a:aJ} {c:iC} (h:sZ a):sZ (dz a c).1:=by
 unfold dz
 split
 ·unfold qx
  split
  ·exact h
  ·split
   ·exact h
   ·intro x hx
    rcases List.mem_append.1 hx with hx | hx
    ·exact h x (List.takeWhile_sublist _ |>.mem hx)
    ·rcases List.mem_cons.1 hx with rfl | hx
     ·exact ⟨Int.le_refl _,by simp,by simp⟩
     ·exact h x (List.dropWhile_sublist _ |>.mem hx)
 ·split
  ·exact h
  ·split
   ·exact h
   ·split
    ·exact h
    ·rename_i k _ b hb
     have hbx:=h b (List.mem_of_getElem? hb)
     split
     ·intro x hx
      rcases List.mem_append.1 hx with hx | hx
      ·exact h x (List.mem_of_mem_take hx)
      ·exact h x (List.mem_of_mem_drop hx)
     ·split
      ·split
       ·exact h.set hbx.add
       ·exact h
      ·split
       ·exact h.set hbx.store
       ·split
        ·exact h.set hbx.Gr
        ·split
         ·exact Z6 h hbx
         ·split
          ·exact h
          ·split
           ·exact h
           ·split <;> exact h
/- A command's reply is handed on: it is laid into the caller's variable. -/
theorem dD.form {w:World} {B T:Nat} {v:Value} {y:cO} (h:dD w B T v y):∃ a0 n0 k0 a1 n1 k1 a2 n2 k2 a3 n3 k3,v=.agg #[.int .i64 y.code,.int .i64 y.num,.slice a0 n0 k0,.int .i64 y.box.valid,.int .i64 y.box.next,.int .i64 y.box.seq,.slice a1 n1 k1,.slice a2 n2 k2,.int .i64 y.box.lost,.slice a3 n3 k3]:=by
 obtain ⟨u0,u1,u2,u3,rfl,⟨p0,p1,p2,e,g0,g1,g2,-⟩,hn,-⟩:=h.rv
 simp only [Value.agg.injEq,Array.mk.injEq,List.cons.injEq,and_true,true_and] at e
 obtain ⟨rfl,rfl,rfl⟩:=e
 obtain ⟨a0,n0,k0,rfl⟩:=g0.aG
 obtain ⟨a1,k1,rfl,-⟩:=g1.form
 obtain ⟨a2,k2,rfl,-⟩:=g2.form
 obtain ⟨a3,k3,rfl,-⟩:=hn.form
 exact ⟨_,_,_,_,_,_,_,_,_,_,_,_,rfl⟩
theorem Gs {wt w w1 w2:World} {S:Nat→Prop} {gd g n r:Nat} {a a':aJ} {u0 u1 v:Value} {E:aX} {y:cO} {d0 d1 d2 d3 d4 d5 d6 d7 d8 d9:Value} (hD:aW wt w1 S gd g n a u0 u1 E) (hS:∀ k,S k→k < w.heap.size) (hA:Below w.heap.size w w1) (hr:w1.heap[r]?=some (.cells #[d0,d1,d2,d3,d4,d5,d6,d7,d8,d9] 40 (0,0))) (hrw:w.heap.size≤r) (hw:wt.heap.size≤w.heap.size) (hR:dD w2 w1.heap.size w2.heap.size v y) (hL:Left wt w1 w2 S gd g n u1 a') :
  ∃ a0 n0 k0 a1 n1 k1 a2 n2 k2 a3 n3 k3,v=.agg #[.int .i64 y.code,.int .i64 y.num,.slice a0 n0 k0,.int .i64 y.box.valid,.int .i64 y.box.next,.int .i64 y.box.seq,.slice a1 n1 k1,.slice a2 n2 k2,.int .i64 y.box.lost,.slice a3 n3 k3] ∧
   w2.heap[r]?=some (.cells #[d0,d1,d2,d3,d4,d5,d6,d7,d8,d9] 40 (0,0)) ∧
   ∀ W,W=iE w2 r (.int .i64 y.code) (.int .i64 y.num) (.slice a0 n0 k0) (.int .i64 y.box.valid) (.int .i64 y.box.next) (.int .i64 y.box.seq) (.slice a1 n1 k1) (.slice a2 n2 k2) (.int .i64 y.box.lost) (.slice a3 n3 k3) →
    W.heap[r]?=some (.cells #[.int .i64 y.code,.int .i64 y.num,.slice a0 n0 k0,.int .i64 y.box.valid,.int .i64 y.box.next,.int .i64 y.box.seq,.slice a1 n1 k1,.slice a2 n2 k2,.int .i64 y.box.lost,.slice a3 n3 k3] 40 (0,0))∧dD W w.heap.size W.heap.size v y∧Left wt w W S gd g n u1 a':=by
 obtain ⟨a0,n0,k0,a1,n1,k1,a2,n2,k2,a3,n3,k3,rfl⟩:=hR.form
 obtain ⟨S2,u2,Rf,E2,hD2,hS2,hT,hn⟩:=hL
 have hrl:=lt_of_heap hr
 have hof:=hD.off hr (by decide) (by decide)
 have hr2:w2.heap[r]?=some (.cells #[d0,d1,d2,d3,d4,d5,d6,d7,d8,d9] 40 (0,0)):=(hT.2.1 r hrl hof.1 hof.2.1 (fun h=>by have:=hS r h;omega)).trans hr
 refine ⟨a0,n0,k0,a1,n1,k1,a2,n2,k2,a3,n3,k3,rfl,hr2,fun W hW=>?_⟩
 subst hW
 obtain ⟨h1,h2,h3,h4⟩:=nZ hr2 (.int .i64 y.code) (.int .i64 y.num) (.slice a0 n0 k0) (.int .i64 y.box.valid) (.int .i64 y.box.next) (.int .i64 y.box.seq) (.slice a1 n1 k1) (.slice a2 n2 k2) (.int .i64 y.box.lost) (.slice a3 n3 k3)
 have Ko:¬ S2 r:=fun h=>(hS2 r h).elim (fun h=>by have:=hS r h;omega) (by omega)
 have hs1:=hA.size
 have hs2:=hT.1
 refine ⟨h1,?_,S2,u2,Rf,E2,hD2.aside h2 h3 h4 (by omega) Ko (hD2.off hr2 (by decide) (by decide)),fun k hk=>(hS2 k hk).imp id (by omega),Cr ((fT hA).trans hT (fun k hk=>.inl hk)) h2 h3 h4 hrw,hn⟩
 rw [h2]
 obtain ⟨p0,p1,p2,p3,T0,e0,e1,e2,e3,e4,e5⟩:=hR
 refine dD.wide (B:=w1.heap.size) ⟨p0,p1,p2,p3,T0,e0,gq _ _ _ _ _ e1 fun k hk _=>h4 k (by have:=hk.1;omega),e2.frame kL fun k hk _=>h4 k (by have:=hk.1;omega),e3,e4,e5⟩ hs1 (Nat.le_refl _)
theorem Kq {wt w w':World} {S:Nat→Prop} {gd g n:Nat} {a:aJ} {u0 u1:Value} {E:aX} (hD:aW wt w S gd g n a u0 u1 E) (hB:Below w.heap.size w w'):Left wt w w' S gd g n u1 a :=
 ⟨S,u0,n,E,hD.below hB,fun k hk=>.inl hk,fT hB,by omega⟩
/- The order of names, and lists that are sorted by it. -/
theorem Kr:∀ a:List UInt8,Lib.compareBytes a a=0
 | []=>rfl
 | x :: a=>by
  unfold Lib.compareBytes
  rw [if_neg (by simp),if_neg (by simp)]
  exact Kr a
theorem CG:∀ a b c:List UInt8,Lib.compareBytes a b < 0→Lib.compareBytes b c < 0→Lib.compareBytes a c < 0
 | [],b,[],h1,h2=>by cases b <;> simp [Lib.compareBytes] at h1 h2
 | [],b,z :: c,_,_=>by simp [Lib.compareBytes]
 | x :: a,[],c,h1,_=>by simp [Lib.compareBytes] at h1
 | x :: a,y :: b,[],_,h2=>by simp [Lib.compareBytes] at h2
 | x :: a,y :: b,z :: c,h1,h2=>by
  have ih:=CG a b c
  simp only [Lib.compareBytes,UInt8.lt_iff_toNat_lt] at h1 h2 ⊢
  by_cases e1:x.toNat < y.toNat <;> by_cases e2:y.toNat < x.toNat <;> by_cases e3:y.toNat < z.toNat <;> by_cases e4:z.toNat < y.toNat <;> by_cases e5:x.toNat < z.toNat <;> by_cases e6:z.toNat < x.toNat <;> simp [e1,e2,e3,e4,e5,e6] at h1 h2 ⊢ <;> first | omega | exact ih h1 h2
theorem Rh:∀ a b c:List UInt8,0≤Lib.compareBytes a b→0≤Lib.compareBytes b c→0≤Lib.compareBytes a c
 | [],[],c,_,h2=>h2
 | [],y :: b,c,h1,_=>by simp [Lib.compareBytes] at h1
 | x :: a,b,[],_,_=>by simp [Lib.compareBytes]
 | x :: a,[],z :: c,_,h2=>by simp [Lib.compareBytes] at h2
 | x :: a,y :: b,z :: c,h1,h2=>by
  have ih:=Rh a b c
  simp only [Lib.compareBytes,UInt8.lt_iff_toNat_lt] at h1 h2 ⊢
  by_cases e1:x.toNat < y.toNat <;> by_cases e2:y.toNat < x.toNat <;> by_cases e3:y.toNat < z.toNat <;> by_cases e4:z.toNat < y.toNat <;> by_cases e5:x.toNat < z.toNat <;> by_cases e6:z.toNat < x.toNat <;> simp [e1,e2,e3,e4,e5,e6] at h1 h2 ⊢ <;> first | omega | exact ih h1 h2
theorem Ri:∀ a b:List UInt8,0≤Lib.compareBytes a b→0≤Lib.compareBytes b a→a=b
 | [],[],_,_=>rfl
 | [],y :: b,h1,_=>by simp [Lib.compareBytes] at h1
 | x :: a,[],_,h2=>by simp [Lib.compareBytes] at h2
 | x :: a,y :: b,h1,h2=>by
  have ih:=Ri a b
  simp only [Lib.compareBytes,UInt8.lt_iff_toNat_lt] at h1 h2
  by_cases e1:x.toNat < y.toNat <;> by_cases e2:y.toNat < x.toNat <;> simp [e1,e2] at h1 h2
  have e:x=y:=UInt8.toNat_inj.1 (by omega)
  rw [e,ih h1 h2]
/-- A strictly sorted list is known by its elements. -/
theorem Rj {α:Type} {R:α→α→Prop} (has:∀ x y,R x y→¬ R y x):∀ (l m:List α),l.Perm m→l.Pairwise R→m.Pairwise R→l=m
 | [],m,hp,_,_=>(List.Perm.nil_eq hp)
 | x :: l,[],hp,_,_=>by have:=hp.length_eq;simp at this
 | x :: l,y :: m,hp,h1,h2=>by
  rw [List.pairwise_cons] at h1 h2
  have e:x=y:=by
   have hx:x ∈ y :: m:=hp.mem_iff.1 (List.mem_cons_self ..)
   have hy:y ∈ x :: l:=hp.mem_iff.2 (List.mem_cons_self ..)
   rcases List.mem_cons.1 hx with rfl | hx
   ·rfl
   ·rcases List.mem_cons.1 hy with rfl | hy
    ·rfl
    ·exact absurd (h2.1 x hx) (has _ _ (h1.1 y hy))
  subst e
  rw [Rj has l m (List.Perm.cons_inv hp) h1.2 h2.2]
/- What slices.DeleteFunc does at boxes. -/
open Go.RowKit Go.Shelf
/-- A sJ box as its seven cells. -/
structure tC where
 a0:Option Addr
 n0:Nat
 c0:Nat
 vd:Int
 nx:Int
 sq:Int
 a2:Option Addr
 n2:Nat
 c2:Nat
 ls:Int
def fI (x:tC):List Value:=[.slice x.a0 x.n0 x.c0,.int .i64 x.vd,.int .i64 x.nx,.int .i64 x.sq,.slice none 0 0,.slice x.a2 x.n2 x.c2,.int .i64 x.ls]
theorem Z8 (g:Nat) (lb:Array Value) (p:tC→Bool) (oa:Option Addr) (gk cap:Nat) (xs:List tC) (w:World) (hoa:xs≠[]→oa=some ⟨gk,0,none⟩∧bS 37 7 fI w gk cap [] xs 0) (hlc:xs.length≤cap) (hcm:cap≤maxLen) (eg:∀ args w,(callFunc g args).run Tryz.prog w=.ok (.enter g args) w)
  (hp:∀ wi x,w.grownBy wi (some gk)→x ∈ xs→Calls Tryz.prog g (#[.agg #[.slice x.a0 x.n0 x.c0,.int .i64 x.vd,.int .i64 x.nx,.int .i64 x.sq,.slice none 0 0,.slice x.a2 x.n2 x.c2,.int .i64 x.ls]] ++ lb) wi fun e w'=>e=.returned (.bool (p x))∧Below wi.heap.size wi w')
  (hi:Calls Tryz.prog 105 #[.slice oa xs.length cap,.func (.func g) #[] lb] w fun e w'=>e=.returned (.int .i64 (bB p xs))∧Below w.heap.size w w') :
  Calls Tryz.prog 113 #[.slice oa xs.length cap,.func (.func g) #[] lb] w fun e w'=>e=.returned (.slice oa (xs.filter fun x=>!p x).length cap)∧(xs≠[]→bS 37 7 fI w' gk cap (xs.filter fun x=>!p x) [] 0)∧w.grownBy w' (some gk):=by
 have HP:=ak hp
 have HO:=ak hoa
 have hml:(xs.length:Int)≤9223372036854775807:=by unfold maxLen at hcm;omega
 clear hp hoa
 unfold bB at hi
 cases hf:xs.findIdx? p with
 | none =>
  have uV:Hid (xs.filter (fun x=>!p x)=xs):=by
   show _=_
   rw [List.filter_eq_self]
   intro y hy
   rw [List.findIdx?_eq_none_iff] at hf
   simpa using hf y hy
  rw [hf] at hi
  have HI:=ak hi
  clear hi hf
  go_enter Tryz.func113,Tryz.ntmps113
  go_wp2_with (go_at_call 105;refine HI.out.mono ?_;rintro e w1 ⟨rfl,B⟩)
  go_ret
  rw [uV.out]
  exact ⟨rfl,fun hne=>((HO.out hne).2.same (B.block gk (HO.out hne).2.lt)).all,⟨B.os,B.tape,B.output,B.size,fun k hk _=>B.block k hk⟩⟩
 | some k0 =>
  obtain ⟨f1,f2,hk0⟩:=O0 hf
  obtain ⟨rfl,hD0⟩:=HO.out (fun e=>by rw [e] at hk0;simp at hk0)
  have HD0:=ak hD0
  have HF:=ak f2
  have CJ:=ak (show (xs.take k0).length=k0 by rw [List.length_take];omega)
  rw [hf] at hi
  have HI:=ak hi
  clear hi hf f1 f2 hD0 HO
  have hk1:((k0:Int) == -1)=false:=by simp
  go_enter Tryz.func113,Tryz.ntmps113
  go_wp2_with (go_at_call 105;refine HI.out.mono ?_;rintro e w1 ⟨rfl,B⟩)
  have tF:Hid (w.grownBy w1 (some gk)):=⟨B.os,B.tape,B.output,B.size,fun k hk _=>B.block k hk⟩
  have HD1:=ak (HD0.out.same (B.block gk HD0.out.lt))
  clear HD0 B HI
  go_loopw [5,6,7] (fun s5 s6 _ wr=>∃ i j:Nat,s5=.int .i64 i∧s6=.int .i64 j∧j≤xs.length∧i < j∧Hid (((xs.take j).filter fun x=>!p x).length=i)∧Hid (bS 37 7 fI wr gk cap ((xs.take j).filter fun x=>!p x) xs j)∧Hid (w.grownBy wr (some gk))) (fun _ s6 _ _=>xs.length - (intOf s6).toNat)
  case atStart=>exact ⟨k0,k0+1,rfl,by go_num,by omega,by omega,(show _=_ by rw [HF.out];exact CJ.out),(show bS _ _ _ _ _ _ _ _ _ by rw [HF.out];exact HD1.out.first k0),tF.out⟩
  case round =>
   obtain ⟨i,j,rfl,rfl,hjl,hij,hL,hD,hG⟩:=hrel
   by_cases hlt:j < xs.length
   ·obtain ⟨x,hx⟩:∃ x,xs[j]?=some x:=⟨xs[j],aK hlt⟩
    have hji:(j:Int) < xs.length:=by omega
    have hii:(i:Int) < xs.length:=by omega
    have hlb:=hD.out.lt
    have d0:wr.cell? ⟨gk,j * 7,none⟩=some (.slice x.a0 x.n0 x.c0):=hD.out.cell hx (k:=0) rfl
    have d1:wr.cell? ⟨gk,j * 7+1,none⟩=some (.int .i64 x.vd):=hD.out.cell hx (k:=1) rfl
    have d2:wr.cell? ⟨gk,j * 7+2,none⟩=some (.int .i64 x.nx):=hD.out.cell hx (k:=2) rfl
    have d3:wr.cell? ⟨gk,j * 7+3,none⟩=some (.int .i64 x.sq):=hD.out.cell hx (k:=3) rfl
    have d4:wr.cell? ⟨gk,j * 7+4,none⟩=some (.slice none 0 0):=hD.out.cell hx (k:=4) rfl
    have d5:wr.cell? ⟨gk,j * 7+5,none⟩=some (.slice x.a2 x.n2 x.c2):=hD.out.cell hx (k:=5) rfl
    have d6:wr.cell? ⟨gk,j * 7+6,none⟩=some (.int .i64 x.ls):=hD.out.cell hx (k:=6) rfl
    have hcall:=HP.out _ x (xZ hG.out ((Below.refl wr.heap.size wr).alloc (Nat.le_refl _) (.cells #[.slice x.a0 x.n0 x.c0,.int .i64 x.vd,.int .i64 x.nx,.int .i64 x.sq,.slice none 0 0,.slice x.a2 x.n2 x.c2,.int .i64 x.ls] 37))) (List.mem_of_getElem? hx)
    have A1:Below wr.heap.size wr (wr.alloc (.cells #[.slice x.a0 x.n0 x.c0,.int .i64 x.vd,.int .i64 x.nx,.int .i64 x.sq,.slice none 0 0,.slice x.a2 x.n2 x.c2,.int .i64 x.ls] 37)):=bn _ _
    have HA1:=ak A1
    have HX:=ak hx
    clear hx A1
    cases hq:p x with
    | true =>
     rw [hq] at hcall
     have HQ:=ak hq
     clear hq
     go_wp2_with (go_at_fn g;refine hcall.mono ?_;rintro e w2 ⟨rfl,B⟩)
     have HE:Hid ((xs.take (j+1)).filter (fun x=>!p x)=(xs.take j).filter fun x=>!p x):=by
      show _=_
      rw [Bc HX.out,HQ.out]
      simp
     have HB2:=ak (Below.step HA1.out B)
     clear B
     go_roundw
     case rel=>exact ⟨i,j+1,rfl,by go_num,by omega,by omega,(show _=_ by rw [HE.out];exact hL.out),(show bS _ _ _ _ _ _ _ _ _ by rw [HE.out];exact (hD.out.same (HB2.out.block gk hlb)).skip),xZ hG.out HB2.out⟩
     case measure=>simp [intOf];omega
    | false =>
     rw [hq] at hcall
     have HQ:=ak hq
     clear hq
     go_wp2_with fail
     go_at_fn g
     refine hcall.mono ?_
     rintro e w2 ⟨rfl,B⟩
     have HE:Hid ((xs.take (j+1)).filter (fun x=>!p x)=(xs.take j).filter (fun x=>!p x) ++ [x]):=by
      show _=_
      rw [Bc HX.out,HQ.out]
      simp
     have B2:=Below.step HA1.out B
     have HD2:=ak (hD.out.same (B2.block gk hlb))
     have HG2:=ak (xZ hG.out B2)
     have hcells:=(ay B (aV wr (.cells #[.slice x.a0 x.n0 x.c0,.int .i64 x.vd,.int .i64 x.nx,.int .i64 x.sq,.slice none 0 0,.slice x.a2 x.n2 x.c2,.int .i64 x.ls] 37)))
     have hlv:=lt_of_heap hcells
     obtain ⟨v0,v1,v2,v3,v4,v5,v6⟩:=bF hcells
     have fz:∀ o,w2.frozen? ⟨gk,o,none⟩=false:=HD2.out.fz
     have hlk:=HD2.out.lt
     have hcz:=Nat.mul_le_mul_right 7 (show i+1≤cap by omega)
     have HR:Hid (bS 37 7 fI (w2.setCells gk (i * 7) (fI x)) gk cap ((xs.take j).filter (fun x=>!p x) ++ [x]) xs (j+1)):=by
      have:=HD2.out.keep (by rw [hL.out];exact hij) (by omega) (fun _=>rfl) x
      rwa [hL.out] at this
     have yO:=ak (FE HG2.out (i * 7) (fI x))
     obtain ⟨o0,q0⟩:=HD2.out.some (o:=i * 7) (by omega)
     obtain ⟨o1,q1⟩:=HD2.out.some (o:=i * 7+1) (by omega)
     obtain ⟨o2,q2⟩:=HD2.out.some (o:=i * 7+2) (by omega)
     obtain ⟨o3,q3⟩:=HD2.out.some (o:=i * 7+3) (by omega)
     obtain ⟨o4,q4⟩:=HD2.out.some (o:=i * 7+4) (by omega)
     obtain ⟨o5,q5⟩:=HD2.out.some (o:=i * 7+5) (by omega)
     obtain ⟨o6,q6⟩:=HD2.out.some (o:=i * 7+6) (by omega)
     clear B B2 hD hG HA1 d0 d1 d2 d3 d4 d5 d6 hcells hlb hcz
     go_wp2
     go_roundw
     case rel=>exact ⟨i+1,j+1,by go_num,by go_num,by omega,by omega,(show _=_ by rw [HE.out,List.length_append,hL.out];rfl),(show bS _ _ _ _ _ _ _ _ _ by rw [HE.out];exact HR.out),yO.out⟩
     case measure=>simp [intOf];omega
   ·obtain rfl:j=xs.length:=by omega
    have hji:¬ (xs.length:Int) < xs.length:=by omega
    have hcc:=Nat.mul_le_mul_right 7 hlc
    obtain ⟨zs,hzs,hcl⟩:∃ zs:List Value,zs.length=(xs.length - i) * 7∧∀ ty,(Builtin.clear_ #[31] ty #[.slice (some ⟨gk,i * 7,none⟩) (xs.length - i) (cap - i)]).run Tryz.prog wr=.ok (.tuple #[]) (wr.setCells gk (i * 7) zs):=by
     obtain ⟨zs,e1,e2⟩:=OZ (P:=Tryz.prog) wr 31 37 0 (.agg #[.slice none 0 0,.int .i64 0,.int .i64 0,.int .i64 0,.slice none 0 0,.slice none 0 0,.int .i64 0]) Tryz.underlying31 (fun w=>Tryz.zeroValue37 w) (by decide) (by decide) gk (i * 7) (xs.length - i) (cap - i) (by omega) (fun o ho=>by
      have ho:o < (xs.length - i) * 7:=ho
      obtain ⟨u,hu⟩:=hD.out.some (o:=i * 7+o) (by rw [Nat.sub_mul] at ho;omega)
      rw [hu];rfl) (fun o=>hD.out.fz _)
     exact ⟨zs,e1,fun _=>e2⟩
    have uV:Hid ((xs.take xs.length).filter (fun x=>!p x)=xs.filter fun x=>!p x):=by show _=_;rw [List.take_length]
    have HR:Hid (bS 37 7 fI (wr.setCells gk (i * 7) zs) gk cap (xs.filter fun x=>!p x) [] xs.length):=by
     have:=hD.out.cleared (fun _=>rfl) (zs:=zs) (by rw [hL.out,hzs,Nat.sub_mul];omega)
     rw [hL.out,uV.out] at this
     exact this
    have yO:=ak (FE hG.out (i * 7) zs)
    have HL2:Hid ((xs.filter fun x=>!p x).length=i):=by show _=_;rw [← uV.out];exact hL.out
    have h1:(i:Int)≤xs.length:=by omega
    have h2:(i:Int)≤cap:=by omega
    have h3:¬ cap=i:=by omega
    clear hcc hzs
    go_wp2
    go_ret
    rw [HL2.out]
    refine ⟨rfl,fun _=>?_,yO.out⟩
    obtain ⟨cur,k1,k2,k3,-⟩:=HR.out
    exact ⟨cur,k1,k2,k3,fun i x _ hx=>by simp at hx⟩
/- A sJ boxes as a row of cells, each with its box and its blocks: for what cuts or sorts the row. -/
/-- A rV cells, the box, its blocks. -/
abbrev Tr:=tC × aD × (Nat→Prop)
structure yP (w:World) (S:Nat→Prop) (g cap:Nat) (ts:List Tr):Prop where
 row:bS 37 7 fI w g cap (ts.map fun t=>t.1) [] 0
 len:ts.length≤cap
 cap:cap≤maxLen
 own:S g
 el:∀ t ∈ ts,qA w (fI t.1) t.2.1 t.2.2∧t.1.vd=t.2.1.valid∧∀ b,t.2.2 b→S b∧b≠g
 apart:ts.Pairwise (fun s t=>∀ b,s.2.2 b→¬ t.2.2 b)
theorem Rk {α:Type} {P:Nat→α→Prop}:∀ n:Nat,(∀ i,i < n→∃ y,P i y)→∃ xs:List α,xs.length=n∧∀ i y,xs[i]?=some y→P i y
 | 0,_=>⟨[],rfl,fun i y h=>by simp at h⟩
 | n+1,h=>by
  obtain ⟨xs,h1,h2⟩:=Rk n fun i hi=>h i (by omega)
  obtain ⟨y,hy⟩:=h n (by omega)
  refine ⟨xs ++ [y],by simp [h1],fun i z hz=>?_⟩
  by_cases hi:i < n
  ·rw [List.getElem?_append_left (by omega)] at hz
   exact h2 i z hz
  ·have:i=n:=by have:=(gs1 hz).1;simp at this;omega
   subst this
   rw [List.getElem?_append_right (by omega)] at hz
   simp [h1] at hz
   subst hz
   exact hy
theorem Z9 {w:World} {c:List Value} {b:aD} {f:Nat→Prop} (h:qA w c b f):∃ y:tC,c=fI y∧y.vd=b.valid:=by
 obtain ⟨u0,u2,rfl,h1,h2,-⟩:=h
 obtain ⟨a0,n0,c0,rfl⟩:=h1.bs.aG
 obtain ⟨a2,c2,rfl,-⟩:=h2.1.form
 exact ⟨⟨a0,n0,c0,b.valid,b.next,b.seq,a2,_,c2,b.lost⟩,rfl,rfl⟩
section
variable {w w' : World} {S S' : Nat → Prop} {g cap : Nat} {ts : List Tr} {v : Value} {l : List aD}
theorem oV.Rl (h:oV w S v l) (hne:l≠[]):∃ g cap ts,v=.slice (some ⟨g,0,none⟩) l.length cap∧yP w S g cap ts∧(ts.map fun t=>t.2.1)=l:=by
 rcases h with ⟨-,rfl⟩ | ⟨g,cap,cur,cs,fs,hv,hh,h1,h2,h3,h4,h5,h6,h7⟩
 ·exact absurd rfl hne
 ·obtain ⟨ts,e1,e2⟩:=Rk (P:=fun i (t:Tr)=>l[i]?=some t.2.1∧cs i=fI t.1∧t.1.vd=t.2.1.valid∧t.2.2=fs i) l.length (fun i hi=>by
   obtain ⟨k1,k2,k3⟩:=h5 i l[i] (aK hi)
   obtain ⟨y,ey,ev⟩:=Z9 k1
   exact ⟨(y,l[i],fs i),aK hi,ey,ev,rfl⟩)
  have em:(ts.map fun t=>t.2.1)=l:=by
   refine List.ext_getElem? fun i=>?_
   rw [List.getElem?_map]
   cases ht:ts[i]? with
   | none =>
    have:l.length≤i:=by rw [← e1];exact List.getElem?_eq_none_iff.1 ht
    rw [List.getElem?_eq_none this];rfl
   | some t=>rw [(e2 i t ht).1];rfl
  refine ⟨g,cap,ts,hv,⟨⟨cur,hh,h3,fun i x hx k u hu=>?_,fun i x _ hx=>by simp at hx⟩,by omega,h2,h4,fun t ht=>?_,?_⟩,em⟩
  ·rw [List.getElem?_map] at hx
   cases ht:ts[i]? with
   | none=>rw [ht] at hx;cases hx
   | some t =>
    rw [ht] at hx
    cases hx
    obtain ⟨k1,k2,-⟩:=e2 i t ht
    rw [← k2] at hu
    exact (h5 i _ k1).2.2 k u hu
  ·obtain ⟨i,hi⟩:=List.mem_iff_getElem?.1 ht
   obtain ⟨k1,k2,k3,k4⟩:=e2 i t hi
   have hil:i < l.length:=(gs1 k1).1
   rw [← k2,k4]
   exact ⟨(h5 i _ k1).1,k3,fun b hb=>h6 i b hil hb⟩
  ·rw [List.pairwise_iff_getElem]
   intro i j hi hj hij b hb hb'
   obtain ⟨-,-,-,k4⟩:=e2 i _ (aK hi)
   obtain ⟨-,-,-,q4⟩:=e2 j _ (aK hj)
   rw [k4] at hb
   rw [q4] at hb'
   exact h7 i j b (by omega) (by omega) (by omega) hb hb'
theorem yP.Rm (h:yP w S g cap ts):oV w S (.slice (some ⟨g,0,none⟩) ts.length cap) (ts.map fun t=>t.2.1):=by
 obtain ⟨cur,h1,h2,h3,-⟩:=h.row
 refine .inr ⟨g,cap,cur,fun i=>(ts[i]?.map fun t=>fI t.1).getD [],fun i=>(ts[i]?.map fun t=>t.2.2).getD (fun _=>False),by rw [List.length_map],h1,by rw [List.length_map];exact h.len,h.cap,h2,h.own,fun i x hx=>?_,fun i b hi hb=>?_,fun i j b hi hj hne hb hb'=>?_⟩
 ·rw [List.getElem?_map] at hx
  cases ht:ts[i]? with
  | none=>rw [ht] at hx;cases hx
  | some t =>
   rw [ht] at hx
   cases hx
   simp only [ht,Option.map_some,Option.getD_some]
   refine ⟨(h.el t (List.mem_of_getElem? ht)).1,rfl,fun j u hu=>h3 i t.1 (by rw [List.getElem?_map,ht];rfl) j u hu⟩
 ·rw [List.length_map] at hi
  rw [aK hi] at hb
  exact (h.el _ (List.getElem_mem hi)).2.2 b hb
 ·rw [List.length_map] at hi hj
  rw [aK hi] at hb
  rw [aK hj] at hb'
  rcases Nat.lt_or_gt_of_ne hne with hlt | hgt
  ·exact List.pairwise_iff_getElem.1 h.apart i j hi hj hlt b hb hb'
  ·exact List.pairwise_iff_getElem.1 h.apart j i hj hi hgt b hb' hb
theorem yP.frame (h:yP w S g cap ts) {us:List Tr} {t':List tC} (hr:bS 37 7 fI w' g cap t' [] 0) (ht:t'=us.map fun t=>t.1) (hsub:∀ t ∈ us,t ∈ ts) (hap:us.Pairwise (fun s t=>∀ b,s.2.2 b→¬ t.2.2 b)) (hl:us.length≤ts.length) (hw:∀ k,S k→k≠g→k < w.heap.size→w'.heap[k]?=w.heap[k]?):yP w' S g cap us :=
 ⟨ht ▸ hr,Nat.le_trans hl h.len,h.cap,h.own,fun t ht=>let ⟨h1,h2,h3⟩:=h.el t (hsub t ht);⟨nA _ _ _ _ _ h1 fun b hb hlt=>hw b (h3 b hb).1 (h3 b hb).2 hlt,h2,h3⟩,hap⟩
end
/- What bytes.Compare do. -/
open Go.RowKit Go.Shelf
/-- The bytes of a slice, as the model's entries take them. -/
theorem Rn {w:World} {v:Value} {l:List Int} (h:Bs w v l):(Extern.Bytes.bytesOf v).run Tryz.prog w=.ok ⟨(dN l).toArray⟩ w:=by
 obtain ⟨ho,a,cap,rfl,h1,h2,h3,h4⟩:=h
 cases a with
 | none =>
  have hc:=h3 rfl
  have:l=[]:=List.eq_nil_of_length_eq_zero (by omega)
  subst this
  rfl
 | some ad =>
  have key:∀ j x,l[j]?=some x→w.cell? (ad.add j)=some (.int .u8 x):=by
   intro j x hj
   have hjl:j < l.length:=(gs1 hj).1
   obtain ⟨b,off,had,-,hc⟩:=h4 (by omega)
   cases had
   rw [Addr.add_lit,hc j hjl]
   simp [List.getD,hj]
  have:=Lib.run_loadBytesX (P:=Tryz.prog) w l ad .empty key
  simp only [Extern.Bytes.bytesOf]
  rw [this]
  congr 1
  apply ByteArray.ext
  show (#[]:Array UInt8) ++ _=_
  simp only [Array.empty_append]
  rfl
theorem aac {w:World} {v u:Value} {l m:List Int} (hv:Bs w v l) (hu:Bs w u m):(Extern.BytealgCompare.compare #[v,u]).run Tryz.prog w=.ok (.int .i64 (Lib.compareBytes (dN l) (dN m))) w:=by
 change Sem.run Tryz.prog (do pure (goInt (Extern.BytealgCompare.cmp (← Extern.Bytes.bytesOf v) (← Extern.Bytes.bytesOf u)))) w=_
 simp only [Sem.run_bind,Sem.run_pure,Rn hv,Rn hu,Result.andThen]
 rw [Lib.cmp_eq]
 rfl
theorem Ro (v u:Value) (l m:List Int) (w:World) (hv:Bs w v l) (hu:Bs w u m) :
  Calls Tryz.prog 67 #[v,u] w fun e w'=>e=.returned (.int .i64 (Lib.compareBytes (dN l) (dN m)))∧w'=w:=by
 have h8:=@run_callFunc_extern Tryz.prog 104 _ Extern.BytealgCompare.compare Tryz.func104 (by kernel_rfl) (by kernel_rfl) (by kernel_rfl) (by kernel_rfl)
 have hr:=aac hv hu
 obtain ⟨a,n,c,rfl⟩:=hv.aG
 obtain ⟨a',n',c',rfl⟩:=hu.aG
 clear hv hu
 generalize Lib.compareBytes (dN l) (dN m)=r at hr
 go_enter Tryz.func67,Tryz.ntmps67
 go_wp2
 go_ret
 exact ⟨rfl,rfl⟩
/- A sJ boxes are sorted by their names. -/
section
variable {α : Type} [Inhabited α] {enc : α → List Value} {kk : Nat} {w : World} {blk n : Nat} {d : Array α} {os : Array Obj}
theorem Rp {k:Nat} (hk:k < w.heap.size) (hne:k≠blk):(sortWorldK enc kk w blk 0 n d os).heap[k]?=w.heap[k]?:=by
 unfold sortWorldK Go.Sort.grow Go.Sort.putRowK Go.Sort.putRow Go.Sort.mapBlock Go.Sort.ahead
 simp only
 rw [Array.getElem?_append_left (by simpa using hk),Array.getElem?_modify]
 simp [Ne.symm hne]
theorem aad:w.heap.size≤(sortWorldK enc kk w blk 0 n d os).heap.size:=by simp [sortWorldK,Go.Sort.grow,Go.Sort.putRowK,Go.Sort.putRow,Go.Sort.mapBlock,Go.Sort.ahead]
theorem aae {cur:Array Value} {t:TypeId} (h:w.heap[blk]?=some (.cells cur t (0,0))):∃ cur',(sortWorldK enc kk w blk 0 n d os).heap[blk]?=some (.cells cur' t (0,0))∧cur'.size=cur.size:=by
 have hb:=lt_of_heap h
 unfold sortWorldK Go.Sort.grow Go.Sort.putRowK Go.Sort.putRow Go.Sort.mapBlock Go.Sort.ahead
 simp only
 rw [Array.getElem?_append_left (by simpa using hb),Array.getElem?_modify]
 simp only [if_true,h,Option.map_some,Go.Sort.onCells]
 exact ⟨_,rfl,by simp [Go.Sort.putCells]⟩
end
def iH (x y:aD):Int:=Lib.compareBytes (dN x.name) (dN y.name)
theorem aaf (x y:tC) (l m:List Int) (W:World) (hx:Bs W (.slice x.a0 x.n0 x.c0) l) (hy:Bs W (.slice y.a0 y.n0 y.c0) m) :
  Calls Tryz.prog 109 #[.agg (fI x).toArray,.agg (fI y).toArray] W fun e w'=>e=.returned (.int .i64 (Lib.compareBytes (dN l) (dN m)))∧∃ q os',w'=Go.Sort.grow (W.drewN q) os':=by
 obtain ⟨a0,n0,c0,vd,nx,sq,a2,n2,c2,ls⟩:=x
 obtain ⟨b0,p0,d0,vd',nx',sq',b2,p2,d2,ls'⟩:=y
 simp only at hx hy
 have X:=(gJ W (.cells #[.slice a0 n0 c0,.int .i64 vd,.int .i64 nx,.int .i64 sq,.slice none 0 0,.slice a2 n2 c2,.int .i64 ls] 37) (.cells #[.slice b0 p0 d0,.int .i64 vd',.int .i64 nx',.int .i64 sq',.slice none 0 0,.slice b2 p2 d2,.int .i64 ls'] 37)).2.2
 have HC:=ak (Ro _ _ _ _ _ (hx.below X) (hy.below X))
 clear hx hy X
 generalize Lib.compareBytes (dN l) (dN m)=r at HC ⊢
 simp only [fI]
 go_enter Tryz.func109,Tryz.ntmps109
 go_wp2_with (go_at_call 67;refine HC.out.mono ?_;rintro e w' ⟨rfl,rfl⟩)
 go_ret
 exact ⟨rfl,0,_,by rw [Go.Sort.alloc_eq_grow,Go.Sort.alloc_eq_grow,Go.Sort.grow_grow];rfl⟩
theorem aah (w:World):(isAgg 37).run Tryz.prog w=.ok true w:=Tryz.isAgg37 w
theorem aai (w:World):(Go.sizeOf 37).run Tryz.prog w=.ok 7 w:=Tryz.sizeOf37 w
theorem aaj:∀ args w,(callFunc 109 args).run Tryz.prog w=.ok (.enter 109 args) w:=fun args w=>by kernel_rfl
theorem aak (w:World) (S:Nat→Prop) (u0:Value) (l:List aD) (h:oV w S u0 l) (hne:l≠[]) (h12:l.length≤12) (hS:∀ k,S k→k < w.heap.size) :
  ∃ gb cap,u0=.slice (some ⟨gb,0,none⟩) l.length cap∧S gb∧Calls Tryz.prog 108 #[u0,.func (.func 109) #[] #[]] w fun e w'=>e=.returned (.tuple #[])∧∃ l',l'.Perm l∧l'.Pairwise (fun x y=>0≤iH y x)∧oV w' S u0 l'∧w.grownBy w' (some gb):=by
 obtain ⟨gb,cap,ts,rfl,hR,rfl⟩:=h.Rl hne
 have hts:ts≠[]:=fun e=>hne (by rw [e];rfl)
 obtain ⟨t0,ht0⟩:∃ t,t ∈ ts:=by
  cases ts with
  | nil=>exact absurd rfl hts
  | cons t ts=>exact ⟨t,List.mem_cons_self ..⟩
 haveI:Inhabited {t:Tr // t ∈ ts}:=⟨⟨t0,ht0⟩⟩
 obtain ⟨cur,r1,r2,r3,-⟩:=hR.row
 have hlt:gb < w.heap.size:=lt_of_heap r1
 have hds:ts.attach.toArray.size=ts.length:=by simp
 have hH:Go.Sort.HoldsK (fun x:{t:Tr // t ∈ ts}=>fI x.1.1) 7 w gb 0 ts.attach.toArray:=by
  intro j hj
  rw [Go.Sort.size_flatK,hds] at hj
  have hi:j / 7 < ts.length:=by omega
  have hm:j % 7 < 7:=Nat.mod_lt _ (by omega)
  refine ⟨?_,by rw [Nat.zero_add];exact frozen_of_row w gb j cur _ r1⟩
  have hia:j / 7 < ts.attach.length:=by simpa using hi
  rw [Go.Sort.get_flatK _ _ _ _ (by rw [hds];exact hj),O1 hia,Nat.zero_add,cell_of_row w gb j cur _ (0,0) r1]
  have hd:j=j / 7 * 7+j % 7:=by omega
  have hel:(ts.map fun t=>t.1)[j / 7]?=some (ts.attach[j / 7]'hia).1.1:=by rw [List.getElem?_map,aK hi];simp
  have hlen:(fI (ts.attach[j / 7]'hia).1.1).length=7:=rfl
  have:=r3 (j / 7) _ hel (j % 7) ((fI (ts.attach[j / 7]'hia).1.1)[j % 7]!) (by rw [List.getElem!_eq_getElem?_getD,aK (by rw [hlen];exact hm)];rfl)
  rw [← hd] at this
  exact this
 have hcmp:CmpLays Tryz.prog 109 #[] (fun x:{t:Tr // t ∈ ts}=>fI x.1.1) 7 (fun x y=>iH x.1.2.1 y.1.2.1) gb 0 ts.attach.toArray.size w:=by
  intro m os dk hsz x y
  have hb:∀ x:{t:Tr // t ∈ ts},Bs (sortWorldK (fun x:{t:Tr // t ∈ ts}=>fI x.1.1) 7 w gb 0 m dk os) (.slice x.1.1.a0 x.1.1.n0 x.1.1.c0) x.1.2.1.name:=by
   intro x
   obtain ⟨⟨v0,v2,e,q1,-⟩,-,q3⟩:=hR.el x.1 x.2
   have e0:v0=.slice x.1.1.a0 x.1.1.n0 x.1.1.c0:=by
    unfold fI at e
    simp only [List.cons.injEq] at e
    exact e.1.symm
   rw [← e0]
   exact (q1.frame fun k hk hl=>Rp hl (q3 k hk).2).bs
  exact aaf _ _ _ _ _ (hb x) (hb y)
 have aal:Go.Sort.SWO (ltOf fun x y:{t:Tr // t ∈ ts}=>iH x.1.2.1 y.1.2.1):={
  irrefl:=fun x=>by show decide (Lib.compareBytes (dN x.1.2.1.name) (dN x.1.2.1.name) < 0)=false;rw [Kr];rfl
  trans:=fun x y z h1 h2=>by
   unfold ltOf iH at *
   simp only [decide_eq_true_eq] at *
   exact CG _ _ _ h1 h2
  ntrans:=fun x y z h1 h2=>by
   unfold ltOf iH at *
   simp only [decide_eq_false_iff_not,Int.not_lt] at *
   exact Rh _ _ _ h1 h2 }
 have hcall:=AnyQ.slices_SortFunc_small_sorted Tryz.sortBoxes 7 aah aai (fun x:{t:Tr // t ∈ ts}=>fI x.1.1) (fun _=>rfl) (fun x v hv=>by simp [fI] at hv;rcases hv with rfl | rfl | rfl | rfl | rfl | rfl | rfl <;> rfl) (fun x y=>iH x.1.2.1 y.1.2.1) 109 #[] aal gb 0 cap ts.attach.toArray w aaj hcmp hH hlt (by rw [hds];simpa using h12) I7
 refine ⟨gb,cap,rfl,hR.own,?_⟩
 rw [List.length_map]
 rw [hds] at hcall
 refine hcall.mono ?_
 rintro e w' ⟨rfl,d',nn,os,⟨p1,-,p3⟩,hsort,rfl⟩
 have hd':d'.size=ts.length:=by rw [p1,hds]
 have hperm:d'.toList.Perm ts.attach:=by
  have a1:(d'.extract 0 ts.length)=d':=by rw [← hd'];exact Array.extract_size
  have a2:(ts.attach.toArray.extract 0 ts.length)=ts.attach.toArray:=by rw [← hds];exact Array.extract_size
  rw [a1,a2] at p3
  exact p3
 have hpt:(d'.toList.map fun x=>x.1).Perm ts:=by
  have:=hperm.map (fun x=>x.1)
  have e:(ts.attach.map fun x=>x.1)=ts:=List.attach_map_subtype_val ts
  rwa [e] at this
 have hW:Go.Sort.HoldsK (fun x:{t:Tr // t ∈ ts}=>fI x.1.1) 7 (sortWorldK (fun x:{t:Tr // t ∈ ts}=>fI x.1.1) 7 w gb 0 nn d' os) gb 0 d':=by
  unfold sortWorldK
  refine Go.Sort.holdsK_grow _ _ _ _ _ _ _ ?_ (Go.Sort.holdsK_putRowK _ _ _ _ _ ts.attach.toArray d' hH (by rw [hd',hds]))
  simpa [Go.Sort.putRowK,Go.Sort.putRow,Go.Sort.mapBlock,Go.Sort.ahead] using hlt
 obtain ⟨cur',c1,c2⟩:=aae (enc:=fun x:{t:Tr // t ∈ ts}=>fI x.1.1) (kk:=7) (n:=nn) (d:=d') (os:=os) r1
 have hrow:bS 37 7 fI (sortWorldK (fun x:{t:Tr // t ∈ ts}=>fI x.1.1) 7 w gb 0 nn d' os) gb cap ((d'.toList.map fun x=>x.1).map fun t=>t.1) [] 0:=by
  refine ⟨cur',c1,by rw [c2,r2],fun i x hx k u hu=>?_,fun i x _ hx=>by simp at hx⟩
  rw [List.map_map,List.getElem?_map] at hx
  cases hi:d'.toList[i]? with
  | none=>rw [hi] at hx;cases hx
  | some y =>
   rw [hi] at hx
   cases hx
   have hil:i < d'.size:=by have:=(gs1 hi).1;simpa using this
   have hj:k < 7:=by have:=(gs1 hu).1;exact this
   have ey:d'[i]! = y:=by
    rw [yg hil]
    have:=(gs1 hi).2
    simpa using this
   have hc:=(hW.cell hil hj).1
   rw [cell_of_row _ gb _ cur' _ (0,0) c1,ey,List.getElem!_eq_getElem?_getD,show (fI y.1.1)[k]?=some u from hu,Nat.zero_add] at hc
   exact hc
 have hG:w.grownBy (sortWorldK (fun x:{t:Tr // t ∈ ts}=>fI x.1.1) 7 w gb 0 nn d' os) (some gb):=⟨rfl,rfl,rfl,aad,fun k hk hne=>Rp hk (fun e=>hne (by rw [e]))⟩
 have hR':=hR.frame hrow rfl (fun t ht=>hpt.mem_iff.1 ht) ((List.Perm.pairwise_iff (fun {x y} h b hb hb'=>h b hb' hb) hpt).2 hR.apart) (by rw [hpt.length_eq];exact Nat.le_refl _) (fun k hk hne hl=>hG.block k hl (fun e=>hne (Option.some.inj e)))
 refine ⟨rfl,(d'.toList.map fun x=>x.1).map fun t=>t.2.1,hpt.map _,?_,?_,hG⟩
 ·rw [List.map_map,List.pairwise_map,List.pairwise_iff_getElem]
  intro i j hi hj hij
  have:=hsort i j (Nat.zero_le _) hij (by simpa [hd'] using hj)
  simp only [Array.length_toList] at hi hj
  rw [yg hi,yg hj] at this
  unfold ltOf at this
  simpa using this
 ·have:=hR'.Rm
  rw [show (d'.toList.map fun x=>x.1).length=ts.length from hpt.length_eq] at this
  exact this
/- A box that is created stands where its name belongs, on lists. -/
theorem Rq {α:Type} {p:α→Bool}:∀ {l:List α} {x:α},x ∈ l.takeWhile p→p x=true
 | [],x,h=>by cases h
 | y :: l,x,h=>by
  cases hy:p y with
  | true =>
   rw [List.takeWhile_cons_of_pos hy] at h
   rcases List.mem_cons.1 h with rfl | h
   ·exact hy
   ·exact Rq h
  | false =>
   rw [List.takeWhile_cons_of_neg (by simp [hy])] at h
   cases h
theorem Kt {x y:aD}:dH x.name y.name=true↔iH x y < 0:=by
 unfold iH dH
 have:=FP (dN x.name) (dN y.name)
 cases h:Op.bytesLess (dN x.name) (dN y.name) <;> rw [h] at this <;> simp at this ⊢ <;> omega
theorem aam {x y:aD} (h:iH x y < 0):¬ iH y x < 0:=fun h2=>by
 have:=CG _ _ _ h h2
 rw [Kr] at this
 omega
/-- Two boxes with different names are apart. -/
theorem Rs {x y:aD} (hx:Oct x.name) (hy:Oct y.name) (h:x.name≠y.name):iH x y < 0∨iH y x < 0:=by
 by_cases h1:iH x y < 0
 ·exact .inl h1
 ·by_cases h2:iH y x < 0
  ·exact .inr h2
  ·exact absurd (Jf hx hy (Ri _ _ (by unfold iH at h1;omega) (by unfold iH at h2;omega))) h
theorem aan {l l':List aD} {x:aD} (hs:l.Pairwise (fun y z=>dH y.name z.name=true)) (hb:∀ y ∈ l,Oct y.name) (hx:Oct x.name) (hn:∀ y ∈ l,y.name≠x.name) (hp:l'.Perm (l ++ [x])) (ho:l'.Pairwise (fun y z=>0≤iH z y)) :
  l'=l.takeWhile (fun y=>dH y.name x.name) ++ (x :: l.dropWhile (fun y=>dH y.name x.name)):=by
 have hs':l.Pairwise (fun y z=>iH y z < 0):=hs.imp fun h=>Kt.1 h
 have hN:(l ++ [x]).Pairwise (fun y z=>iH y z < 0∨iH z y < 0):=by
  refine List.pairwise_append.2 ⟨hs'.imp .inl,List.pairwise_singleton _ _,fun y hy z hz=>?_⟩
  rw [List.mem_singleton] at hz
  subst hz
  exact Rs (hb y hy) hx (hn y hy)
 have hN':=(List.Perm.pairwise_iff (fun {y z} h=>h.symm) hp).2 hN
 have h1:l'.Pairwise (fun y z=>iH y z < 0):=(ho.and hN').imp fun {y z} ⟨a,b⟩=>b.elim id (fun h=>absurd h (by omega))
 refine Rj (R:=fun y z=>iH y z < 0) (fun y z=>aam) _ _ (hp.trans ?_) h1 ?_
 ·have e:=List.takeWhile_append_dropWhile (p:=fun y:aD=>dH y.name x.name) (l:=l)
  refine (List.perm_append_singleton x l).trans ?_
  conv=>lhs;rw [← e]
  exact List.perm_middle.symm
 ·have e:=List.takeWhile_append_dropWhile (p:=fun y:aD=>dH y.name x.name) (l:=l)
  have hsp:=hs'
  rw [← e] at hsp
  obtain ⟨q1,q2,q3⟩:=List.pairwise_append.1 hsp
  have hdrop:∀ y ∈ l.dropWhile (fun y=>dH y.name x.name),iH x y < 0:=by
   cases hd:l.dropWhile (fun y=>dH y.name x.name) with
   | nil=>intro y hy;cases hy
   | cons e0 r =>
    have he:e0 ∈ l:=by
     rw [← e,hd]
     exact List.mem_append_right _ (List.mem_cons_self ..)
    have hne:dH e0.name x.name=false:=by
     have:=List.head?_dropWhile_not (fun y:aD=>dH y.name x.name) l
     rw [hd] at this
     simpa using this
    have h0:iH x e0 < 0:=(Rs (hb e0 he) hx (hn e0 he)).elim (fun h=>absurd (Kt.2 h) (by rw [hne];simp)) id
    rw [hd] at q2
    intro y hy
    rcases List.mem_cons.1 hy with rfl | hy
    ·exact h0
    ·exact CG _ _ _ h0 ((List.pairwise_cons.1 q2).1 y hy)
  refine List.pairwise_append.2 ⟨q1,List.pairwise_cons.2 ⟨hdrop,q2⟩,fun y hy z hz=>?_⟩
  rcases List.mem_cons.1 hz with rfl | hz
  ·exact Kt.1 (Rq (p:=fun y:aD=>dH y.name _) hy)
  ·exact q3 y hy z hz
/- A gH that gets another list of boxes; ah9 closure. -/
theorem aW.CK {wt w w':World} {S S':Nat→Prop} {gd g n:Nat} {a:aJ} {u0 u1 u2:Value} {E:aX} {v:Int} {l:List aD} (h:aW wt w S gd g n a u0 u1 E) (hb:Below wt.heap.size wt w') (hsz:w.heap.size≤w'.heap.size) (hc:w'.heap[gd]?=some (.cells #[.int .i64 v,u2,.map (some g),u1] 108 (0,0))) (hB:oV w' S' u2 l) (hg:w'.heap[g]?=w.heap[g]?) (hu:∀ k,u1.ownBlock=some k→k < w.heap.size→w'.heap[k]?=w.heap[k]?) (hS:∀ k,S' k→S k∨(w.heap.size≤k∧k < w'.heap.size)) (he:∀ b ∈ l,dB E b.valid b.ah) (hh:∀ e ∈ E,e.1≤v) (hd:l.Pairwise (fun x y=>x.valid≠y.valid)) (hv:aB v):aW wt w' S' gd g n ⟨v,l,a.seen⟩ u2 u1 E where
 base:=hb
 cells:=hc
 boxes:=hB
 map:=h.map.kept hg
 seen:=by
  rcases h.seen with h' | ⟨gs,cp,cu,cs,fs,hv,hh,h1,h2,h3,h4,h5,h6,h7⟩
  ·exact .inl h'
  ·refine .inr ⟨gs,cp,cu,cs,fs,hv,(hu gs (by rw [hv];rfl) (lt_of_heap hh)).trans hh,h1,h2,h3,h4,fun j x hx=>?_,h6,h7⟩
   exact h5 j x hx
 ents:=he
 high:=hh
 dist:=hd
 low:=fun k hk=>by
  rcases hS k hk with hs | ⟨h1,h2⟩
  ·obtain ⟨q1,q2,q3⟩:=h.low k hs
   exact ⟨q1,Nat.lt_of_lt_of_le q2 hsz,q3⟩
  ·have q1:=lt_of_heap h.cells
   have q2:=h.map.lt
   have q3:=h.base.size
   refine ⟨by omega,h2,by omega,by omega,fun e=>?_⟩
   rcases yD h.seen with ⟨e',-⟩ | ⟨gs,e',_,_,ht⟩
   ·rw [e'] at e;simp [Value.ownBlock] at e
   ·rw [e'] at e
    cases e
    have:=lt_of_heap ht
    omega
 nY:=h.nY
 i64:=hv
theorem aao {α:Type} {p q:α→Bool} {l:List α} (h:∀ t ∈ l,p t=q t):l.findIdx? p=l.findIdx? q:=by
 induction l with
 | nil=>rfl
 | cons x l ih =>
  rw [List.findIdx?_cons,List.findIdx?_cons,h x (List.mem_cons_self ..),ih fun t ht=>h t (List.mem_cons_of_mem _ ht)]
theorem Rt (a0 a1 a2:Option Addr) (n0 c0 n1 c1 n2 c2 bv:Nat) (vd nx sq ls v:Int) (w:World) (hk:w.heap[bv]?=some (.cells #[.int .i64 v] 3 (0,0))) :
  Calls Tryz.prog 114 #[.agg #[.slice a0 n0 c0,.int .i64 vd,.int .i64 nx,.int .i64 sq,.slice a1 n1 c1,.slice a2 n2 c2,.int .i64 ls],.pointer (some ⟨bv,0,none⟩)] w fun e w'=>e=.returned (.bool (vd == v))∧Below w.heap.size w w':=by
 have B:=(Below.refl w.heap.size w).alloc (Nat.le_refl _) (.cells #[.slice a0 n0 c0,.int .i64 vd,.int .i64 nx,.int .i64 sq,.slice a1 n1 c1,.slice a2 n2 c2,.int .i64 ls] 37)
 have k0:=(cell_of_row _ _ 0 _ _ (0,0) (ay B hk)).trans rfl
 have hl:=lt_of_heap (ay B hk)
 have HB:=ak B
 clear B hk
 go_enter Tryz.func114,Tryz.ntmps114
 go_wp2
 go_ret
 exact ⟨rfl,HB.out⟩
theorem Ru:∀ args w,(callFunc 114 args).run Tryz.prog w=.ok (.enter 114 args) w:=fun args w=>by kernel_rfl
/-- The box with this Valid is cut out of a sJ row. -/
theorem aap (w:World) (S:Nat→Prop) (u0:Value) (l:List aD) (v:Int) (bv:Nat) (h:oV w S u0 l) (hne:l≠[]) (hS:∀ k,S k→k < w.heap.size) (hk:w.heap[bv]?=some (.cells #[.int .i64 v] 3 (0,0))) (Ko:¬ S bv) :
  ∃ gb cap,u0=.slice (some ⟨gb,0,none⟩) l.length cap∧S gb∧Calls Tryz.prog 113 #[u0,.func (.func 114) #[] #[.pointer (some ⟨bv,0,none⟩)]] w fun e w'=>e=.returned (.slice (some ⟨gb,0,none⟩) (l.filter fun x=>!(x.valid == v)).length cap)∧oV w' S (.slice (some ⟨gb,0,none⟩) (l.filter fun x=>!(x.valid == v)).length cap) (l.filter fun x=>!(x.valid == v))∧w.grownBy w' (some gb):=by
 obtain ⟨gb,cap,ts,rfl,hR,rfl⟩:=h.Rl hne
 have aaq:bv≠gb:=fun e=>Ko (e ▸ hR.own)
 have hkeep:∀ wi,w.grownBy wi (some gb)→wi.heap[bv]?=some (.cells #[.int .i64 v] 3 (0,0)):=fun wi hw=>(hw.block bv (lt_of_heap hk) (fun e=>aaq (Option.some.inj e))).trans hk
 have hi:=Kh 114 #[.pointer (some ⟨bv,0,none⟩)] (fun x=>x.valid == v) _ _ w h.v Ru (fun wi x u hb hu=>by
  obtain ⟨u0,u1,u2,rfl,g0,g1,g2,-⟩:=hu
  obtain ⟨a0,n0,c0,rfl⟩:=g0.aG
  obtain ⟨a1,c1,rfl,-⟩:=g1.form
  obtain ⟨a2,c2,rfl,-⟩:=g2.form
  exact Rt _ _ _ _ _ _ _ _ _ bv _ _ _ _ v wi (ay hb hk))
 have hfi:bB (fun x:aD=>x.valid == v) ((ts.map fun t=>t.2.1).map wQ)=bB (fun y:tC=>y.vd == v) (ts.map fun t=>t.1):=by
  unfold bB
  rw [List.findIdx?_map,List.findIdx?_map,List.findIdx?_map,aao (q:=(fun y:tC=>y.vd == v) ∘ fun t:Tr=>t.1) fun t ht=>?_]
  show (t.2.1.valid == v)=(t.1.vd == v)
  rw [(hR.el t ht).2.1]
 rw [hfi] at hi
 have hlen:(ts.map fun t=>t.2.1).length=(ts.map fun t=>t.1).length:=by simp
 rw [hlen] at hi
 have hrow:bS 37 7 fI w gb cap [] (ts.map fun t=>t.1) 0:=by
  obtain ⟨cur,k1,k2,k3,-⟩:=hR.row
  exact ⟨cur,k1,k2,fun i x hx=>by simp at hx,fun i x _ hx=>k3 i x hx⟩
 have hdel:=Z8 114 #[.pointer (some ⟨bv,0,none⟩)] (fun y:tC=>y.vd == v) (some ⟨gb,0,none⟩) gb cap (ts.map fun t=>t.1) w (fun _=>⟨rfl,hrow⟩) (by rw [List.length_map];exact hR.len) hR.cap Ru (fun wi x hw _=>Rt _ _ _ _ _ _ _ _ _ bv _ _ _ _ v wi (hkeep wi hw))
 replace hdel:=hdel hi
 refine ⟨gb,cap,rfl,hR.own,?_⟩
 rw [hlen]
 refine hdel.mono ?_
 rintro e w' ⟨rfl,hD,hG⟩
 have hts:ts≠[]:=fun e=>hne (by rw [e];rfl)
 have e1:((ts.map fun t=>t.1).filter fun x=>!(x.vd == v))=(ts.filter fun t=>!(t.1.vd == v)).map fun t=>t.1:=by rw [List.filter_map];rfl
 have e2:((ts.map fun t=>t.2.1).filter fun x=>!(x.valid == v))=(ts.filter fun t=>!(t.1.vd == v)).map fun t=>t.2.1:=by
  rw [List.filter_map]
  congr 1
  refine List.filter_congr fun t ht=>?_
  show (!(t.2.1.valid == v))=_
  rw [(hR.el t ht).2.1]
 have hD':=hD (fun e=>hts (List.map_eq_nil_iff.1 e))
 rw [e1] at hD' ⊢
 rw [e2]
 have hR':yP w' S gb cap (ts.filter fun t=>!(t.1.vd == v)):=hR.frame hD' rfl (fun t ht=>(List.mem_filter.1 ht).1) (hR.apart.sublist List.filter_sublist) (List.length_filter_le _ _) (fun k hk hne hlt=>hG.block k hlt (fun e=>hne (Option.some.inj e)))
 have:=hR'.Rm
 rw [List.length_map,List.length_map]
 exact ⟨rfl,this,hG⟩
theorem aar {l:List aD} {k:Nat} {b:aD} (hd:l.Pairwise (fun x y=>x.valid≠y.valid)) (hb:l[k]?=some b):(l.filter fun x=>!(x.valid == b.valid))=l.take k ++ l.drop (k+1):=by
 induction l generalizing k with
 | nil=>simp at hb
 | cons x l ih =>
  rw [List.pairwise_cons] at hd
  cases k with
  | zero =>
   cases hb
   rw [List.filter_cons_of_neg (by simp)]
   simp only [List.take_zero,List.nil_append,Nat.zero_add,List.drop_succ_cons,List.drop_zero]
   rw [List.filter_eq_self]
   intro y hy
   have:=hd.1 y hy
   simp
   exact fun e=>this e.symm
  | succ k =>
   have hb':l[k]?=some b:=by simpa using hb
   have:=hd.1 b (List.mem_of_getElem? hb')
   rw [List.filter_cons_of_pos (by simpa using this),ih hd.2 hb']
   simp
end Go.Proofs.YtlneebmlhblleaaGreat
