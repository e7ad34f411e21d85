/- The proof's texts, part 13. -/
import Derived.Test.YtlneebmlhblleaaGreatTc
import Derived.ArgAppend
namespace Go.Proofs.YtlneebmlhblleaaGreat
open Go.RowKit
set_option linter.unusedVariables false
set_option linter.unusedSimpArgs false
/- A box behind a pointer: its fields are written, one by one. -/
section
variable {w w' : World} {S S' : Nat → Prop} {g o : Nat} {b b' : aD}
theorem aN.fit (h:aN w S g o b):∀ cur t,w.heap[g]?=some (.cells cur t (0,0))→o+7≤cur.size:=by
 obtain ⟨cur,c,hh,⟨u0,u1,u2,rfl,-⟩,hc⟩:=h
 intro cur' t h'
 rw [hh] at h'
 cases h'
 have:=(Array.getElem?_eq_some_iff.1 (hc 6 _ rfl)).1
 omega
theorem aN.lt (h:aN w S g o b):g < w.heap.size:=mq h.ty
/-- A field is written: what the box says with it. -/
theorem aN.put (h:aN w S g o b) (j:Nat) (hj:j < 7) (x:Value) (hq:∀ c,gT w c b S→c.length=7→gT (w.setCell ⟨g,o+j,none⟩ x) (c.set j x) b' S'):aN (w.setCell ⟨g,o+j,none⟩ x) S' g o b':=by
 have hf:=h.fit
 obtain ⟨cur,c,hh,hb,hc⟩:=h
 have hsz:=hf cur _ hh
 have hl:c.length=7:=by obtain ⟨u0,u1,u2,rfl,-⟩:=hb;rfl
 refine ⟨_,_,aP hh,hq c hb hl,fun k u hk=>?_⟩
 by_cases e:k=j
 ·subst e
  rw [List.getElem?_set_self (by omega)] at hk
  cases hk
  rw [Array.getElem?_setIfInBounds_self_of_lt (by omega)]
 ·rw [List.getElem?_set_ne (Ne.symm e)] at hk
  rw [Array.getElem?_setIfInBounds_ne (by omega)]
  exact hc k u hk
theorem Cg {x:Value} {j:Nat} {u:Value} {l:List Int} (ht:Ty w g 37) (h:RO w Any u l):RO (w.setCell ⟨g,j,none⟩ x) Any u l:=mR h (iT ht (by decide))
theorem Ch {x:Value} {j:Nat} {u:Value} {l:List aF} (ht:Ty w g 37) (h:ji w S u l):ji (w.setCell ⟨g,j,none⟩ x) S u l:=by
 rcases h with h | ⟨m,cap,cur,cs,fs,hv,hh,r⟩
 ·exact .inl h
 ·have hne:m≠g:=fun e=>by subst e;exact kN hh ht (by decide)
  obtain ⟨h1,h2,h3,h4,h5,h6,h7⟩:=r
  exact .inr ⟨m,cap,cur,cs,fs,hv,(Below.heap_setCell _ _ _ _ (show m≠g from hne)).trans hh,h1,h2,h3,h4,fun i y hy=>⟨wH (h5 i y hy).1 (iT ht (by decide)),(h5 i y hy).2⟩,h6,h7⟩
theorem Ci {x:Value} {j:Nat} {u:Value} {l:List bf} (ht:Ty w g 37) (h:fP w S u l):fP (w.setCell ⟨g,j,none⟩ x) S u l:=zY h (iT ht (by decide))
theorem aN.JZ (h:aN w S g o b) (n:Int) (hn:aB n):aN (w.setCell ⟨g,o+2,none⟩ (.int .i64 n)) S g o ⟨b.name,b.valid,n,b.seq,b.ah,b.au,b.lost⟩ :=
 h.put 2 (by omega) _ fun c ⟨u0,u1,u2,e,h1,h2,h3,i0,i1,i2,i3⟩ _=>⟨u0,u1,u2,by rw [e];rfl,Cg h.ty h1,Ch h.ty h2,Ci h.ty h3,i0,hn,i2,i3⟩
theorem aN.uN (h:aN w S g o b) (n:Int) (hn:aB n):aN (w.setCell ⟨g,o+3,none⟩ (.int .i64 n)) S g o ⟨b.name,b.valid,b.next,n,b.ah,b.au,b.lost⟩ :=
 h.put 3 (by omega) _ fun c ⟨u0,u1,u2,e,h1,h2,h3,i0,i1,i2,i3⟩ _=>⟨u0,u1,u2,by rw [e];rfl,Cg h.ty h1,Ch h.ty h2,Ci h.ty h3,i0,i1,hn,i3⟩
theorem aN.Qr (h:aN w S g o b) {u:Value} {ms:List aF} (hm:ji w S' u ms) (hS:∀ k,S k→S' k):aN (w.setCell ⟨g,o+4,none⟩ u) S' g o ⟨b.name,b.valid,b.next,b.seq,ms,b.au,b.lost⟩ :=
 h.put 4 (by omega) _ fun c ⟨u0,u1,u2,e,h1,h2,h3,r⟩ _=>⟨u0,u,u2,by rw [e];rfl,Cg h.ty h1,Ch h.ty hm,(Ci h.ty h3).mono hS,r⟩
theorem aN.Qs (h:aN w S g o b) {u:Value} {gs:List bf} (hm:fP w S u gs):aN (w.setCell ⟨g,o+5,none⟩ u) S g o ⟨b.name,b.valid,b.next,b.seq,b.ah,gs,b.lost⟩ :=
 h.put 5 (by omega) _ fun c ⟨u0,u1,u2,e,h1,h2,h3,r⟩ _=>⟨u0,u1,u,by rw [e];rfl,Cg h.ty h1,Ch h.ty h2,Ci h.ty hm,r⟩
theorem aN.J3 (h:aN w S g o b) (n:Int) (hn:aB n):aN (w.setCell ⟨g,o+6,none⟩ (.int .i64 n)) S g o ⟨b.name,b.valid,b.next,b.seq,b.ah,b.au,n⟩ :=
 h.put 6 (by omega) _ fun c ⟨u0,u1,u2,e,h1,h2,h3,i0,i1,i2,i3⟩ _=>⟨u0,u1,u2,by rw [e];rfl,Cg h.ty h1,Ch h.ty h2,Ci h.ty h3,i0,i1,i2,hn⟩
theorem aN.mono (h:aN w S g o b) (hS:∀ k,S k→S' k):aN w S' g o b :=
 let ⟨cur,c,hh,⟨u0,u1,u2,e,h1,h2,h3,r⟩,hc⟩:=h;⟨cur,c,hh,⟨u0,u1,u2,e,h1,h2.mono hS,h3.mono hS,r⟩,hc⟩
theorem sN {j:Nat} {x:Value} (h:aN w S g o b) (hj:j < 7):Turns w (w.setCell ⟨g,o+j,none⟩ x) S' g o:=Zf h.ty (by omega) (by omega)
end
/- A list of those that went, its block among given ones: whatever else turns; one more put behind in place. -/
section
variable {w w' : World} {S : Nat → Prop} {v : Value}
theorem Zg {l:List bf} (h:fP w S v l) (hm:∀ k,S k→k < w.heap.size→w'.heap[k]?=w.heap[k]?):fP w' S v l:=by
 obtain ⟨⟨a,cap,cs,hv,h1,h2,h3,h4,h5⟩,hty⟩:=h
 refine ⟨⟨a,cap,cs,hv,h1,h2,h3,h4,fun hp=>?_⟩,fun a n c e=>let ⟨h1,cur,hh,r⟩:=hty a n c e;⟨h1,cur,(hm _ h1 (lt_of_heap hh)).trans hh,r⟩⟩
 obtain ⟨b,off,ha,hb,hc⟩:=h5 hp
 obtain ⟨k1,cells,hh,-⟩:=hty ⟨b,off,none⟩ l.length cap (by rw [hv,ha])
 have hh':=(hm b k1 (lt_of_heap hh)).trans hh
 refine ⟨b,off,ha,lt_of_heap hh',fun i j u hi hu=>?_⟩
 have:=hc i j u hi hu
 rw [cell_of_row w b _ cells _ (0,0) hh] at this
 rw [cell_of_row w' b _ cells _ (0,0) hh']
 exact this
/-- One more that went, put behind in place. -/
theorem Zh {l:List bf} {q off n c:Nat} {x0 x1:Int} (h:fP w S (.slice (some ⟨q,off,none⟩) n c) l) (hn:n=l.length) (hc:n+1≤c) (i0:aB x0) (i1:aB x1) :
  fP ((w.setCell ⟨q,off+n * 2,none⟩ (.int .i64 x0)).setCell ⟨q,off+n * 2+1,none⟩ (.int .i64 x1)) S (.slice (some ⟨q,off,none⟩) (n+1) c) (l ++ [⟨x0,x1⟩]):=by
 obtain ⟨⟨a,cap,cs,hv,h1,h2,h3,h4,h5⟩,hty⟩:=h
 simp only [Value.slice.injEq] at hv
 obtain ⟨rfl,-,rfl⟩:=hv
 obtain ⟨hS,cur,hh,-,hs⟩:=hty ⟨q,off,none⟩ n c rfl
 simp only at hS hh hs
 have hk:=aP (i:=off+n * 2+1) (v:=.int .i64 x1) (aP (i:=off+n * 2) (v:=.int .i64 x0) hh)
 refine ⟨⟨some ⟨q,off,none⟩,c,fun i=>if i=n then [.int .i64 x0,.int .i64 x1] else cs i,by rw [List.length_append];simp [hn],by rw [List.length_append];simp;omega,h2,(fun e=>by cases e),fun i x hx=>?_,fun _=>⟨q,off,rfl,lt_of_heap hk,fun i j u hi hu=>?_⟩⟩,fun a n' c' e=>?_⟩
 ·by_cases e:i=n
  ·subst e
   rw [hn,List.getElem?_append_right (Nat.le_refl _),Nat.sub_self] at hx
   simp only [List.getElem?_cons_zero,Option.some.injEq] at hx
   subst hx
   simp only [if_pos]
   exact ⟨⟨rfl,i0,i1⟩,rfl⟩
  ·have hlt:i < l.length:=by
    have:=(gs1 hx).1
    rw [List.length_append] at this
    simp at this
    omega
   rw [List.getElem?_append_left hlt] at hx
   simp only [if_neg e]
   exact h4 i x hx
 ·rw [List.length_append] at hi
  simp at hi
  rw [cell_of_row _ q _ _ _ (0,0) hk]
  by_cases e:i=n
  ·subst e
   simp only [if_pos] at hu
   match j,hu with
   | 0,hu =>
    simp only [List.getElem?_cons_zero,Option.some.injEq] at hu
    subst hu
    rw [Array.getElem?_setIfInBounds_ne (by omega),Nat.add_zero,Array.getElem?_setIfInBounds_self_of_lt (by omega)]
   | 1,hu =>
    simp only [List.getElem?_cons_succ,List.getElem?_cons_zero,Option.some.injEq] at hu
    subst hu
    rw [Array.getElem?_setIfInBounds_self_of_lt (by rw [Array.size_setIfInBounds];omega)]
   | j+2,hu=>simp at hu
  ·simp only [if_neg e] at hu
   have hil:i < l.length:=by omega
   obtain ⟨b,off',ha,-,hcell⟩:=h5 (by omega)
   simp only [Option.some.injEq,Addr.mk.injEq,and_true] at ha
   obtain ⟨rfl,rfl⟩:=ha
   have hjl:j < 2:=by
    have h6:=(gs1 hu).1
    have h7:=(h4 i l[i] (aK hil)).2
    omega
   have:=hcell i j u hil hu
   rw [cell_of_row w q _ cur _ (0,0) hh] at this
   rw [Array.getElem?_setIfInBounds_ne (by omega),Array.getElem?_setIfInBounds_ne (by omega)]
   exact this
 ·simp only [Value.slice.injEq,Option.some.injEq] at e
  obtain ⟨rfl,-,rfl⟩:=e
  exact ⟨hS,_,hk,rfl,by simp only [Array.size_setIfInBounds];exact hs⟩
end
/- One more that went, put behind those that went: in place where there is room, else behind a copy. -/
/-- What the append leaves: the same block with one more, or a row of its own. -/
def zZ (w w':World) (v v':Value) (l:List bf) (x0 x1:Int):Prop :=
 (∃ q off n c,v=.slice (some ⟨q,off,none⟩) n c∧n=l.length∧n+1≤c∧v'=.slice (some ⟨q,off,none⟩) (n+1) c∧w'=(w.setCell ⟨q,off+n * 2,none⟩ (.int .i64 x0)).setCell ⟨q,off+n * 2+1,none⟩ (.int .i64 x1)) ∨
 (Below w.heap.size w w'∧fB w' (fun k=>w.heap.size≤k) v' (l ++ [⟨x0,x1⟩]))
theorem Zi {w:World} {S:Nat→Prop} {v:Value} {l:List bf} (h:fP w S v l) (hl:l.length≤1000) (ty:TypeId) (ad:Addr) (cc:Nat) {x0 x1:Int} (hcell:∀ j u,[Value.int .i64 x0,Value.int .i64 x1][j]?=some u→w.cell? (ad.add j)=some u) (i0:aB x0) (i1:aB x1) :
  ∃ v' w',(Builtin.append_ #[35,35] ty #[v,.slice (some ad) 1 cc]).run Tryz.prog w=.ok v' w'∧zZ w w' v v' l x0 x1:=by
 obtain ⟨i,hi,hz0,hz1,hz2⟩:=info_parts yt
 have hone:∀ u ∈ [Value.int .i64 x0,Value.int .i64 x1],u.oneCell'=true:=by simp [Value.oneCell']
 have hb1:l.length+1≤maxLen:=by unfold maxLen;omega
 have hb2:(l.length+1) * 16≤140737488355328:=by omega
 have fin:∀ (v':Value) (w':World) (xs:List Value),w.grownBy w' none→w'.ownsRow w.heap.size 126 2 v' (l.length+1) (xs ++ [.int .i64 x0,.int .i64 x1])→xs.length=l.length * 2→(∀ i x,l[i]?=some x→∃ c,c.length=2∧xS w c x∧∀ j y,c[j]?=some y→xs[i * 2+j]?=some y)→zZ w w' v v' l x0 x1:=fun v' w' xs hG hO hxl hx=>by
  refine .inr ⟨⟨hG.os,hG.tape,hG.output,hG.size,fun k hk=>hG.block k hk (by simp)⟩,FU (w0:=w) (by rw [List.length_append];exact hO) (fun i m h=>?_) (fun k hk=>dJ hO hk)⟩
  by_cases hlt:i < l.length
  ·rw [List.getElem?_append_left hlt] at h
   obtain ⟨c,h1,h2,h3⟩:=hx i m h
   refine ⟨c,h1,h2,fun j y hy=>?_⟩
   have:=h3 j y hy
   rw [List.getElem?_append_left (gs1 this).1]
   exact this
  ·rw [List.getElem?_append_right (by omega)] at h
   have hi0:i=l.length:=by
    have:=(gs1 h).1
    simp at this
    omega
   subst hi0
   simp only [Nat.sub_self,List.getElem?_cons_zero,Option.some.injEq] at h
   subst h
   refine ⟨[.int .i64 x0,.int .i64 x1],rfl,⟨rfl,i0,i1⟩,fun j y hy=>?_⟩
   rw [List.getElem?_append_right (by omega),show l.length * 2+j - xs.length=j by omega]
   exact hy
 obtain ⟨⟨a,cap,cs,hv,h1,h2,h3,h4,h5⟩,hty⟩:=h
 cases a with
 | none =>
  obtain rfl:=h3 rfl
  obtain rfl:l=[]:=List.eq_nil_of_length_eq_zero (by omega)
  subst hv
  obtain ⟨v',w',hr,hO,hG,-⟩:=run_append_own (P:=Tryz.prog) w w.heap.size 35 ty 126 i _ 2 16 Tryz.underlying35 hi hz0 hz1 hz2 rfl (by omega) (.slice none 0 0) 0 [] (World.ownsRow_nil w _ _ _) ad 1 cc [.int .i64 x0,.int .i64 x1] rfl hcell hone (by unfold maxLen;omega) (by omega) (Nat.le_refl _)
  exact ⟨v',w',hr,fin v' w' [] hG hO rfl (fun i x hx=>by simp at hx)⟩
 | some a =>
  obtain ⟨-,cur,hh,hsp,hs⟩:=hty a l.length cap hv
  obtain ⟨q,off,sp⟩:=a
  simp only at hsp hh hs
  subst hsp
  subst hv
  by_cases hroom:l.length+1≤cap
  ·have hsz:i.size=2:=hz1
   have:=run_append_room_cells (P:=Tryz.prog) w 35 ty 126 i Tryz.underlying35 hi q off l.length cap ad 1 cc [.int .i64 x0,.int .i64 x1] (by rw [hsz];rfl) hcell hone hroom (fun j hj=>by
    rw [cell_of_row w q _ cur _ (0,0) hh,hsz]
    simp only [List.length_cons,List.length_nil] at hj
    rw [Array.getElem?_eq_getElem (by omega)]
    rfl) (fun j _=>frozen_of_row w q _ cur _ hh)
   rw [hsz] at this
   exact ⟨_,_,this,.inl ⟨q,off,l.length,cap,rfl,rfl,hroom,rfl,rfl⟩⟩
  ·have hol:((cur.toList.drop off).take (l.length * 2)).length=l.length * 2:=by
    have hcl:cur.toList.length=cur.size:=Array.length_toList
    rw [List.length_take,List.length_drop,hcl]
    omega
   obtain ⟨v',w',hr,hO,hG⟩:=run_append_arg_grows (P:=Tryz.prog) w 35 ty 126 i _ 2 16 Tryz.underlying35 hi hz0 hz1 hz2 rfl (by omega) ⟨q,off,none⟩ l.length cap ((cur.toList.drop off).take (l.length * 2)) hol (fun j u hu=>by
    rw [Addr.add_lit,cell_of_row w q _ cur _ (0,0) hh]
    rw [List.getElem?_take] at hu
    split at hu
    ·rw [List.getElem?_drop] at hu;simpa using hu
    ·cases hu) ad 1 cc [.int .i64 x0,.int .i64 x1] rfl hcell (by omega) hb1 hb2
   refine ⟨v',w',hr,fin v' w' _ hG hO hol (fun p x hx=>?_)⟩
   have hp:=(gs1 hx).1
   obtain ⟨hc,hcl⟩:=h4 p x hx
   refine ⟨cs p,hcl,hc,fun j y hy=>?_⟩
   obtain ⟨b',off',ha,-,hcells⟩:=h5 (by omega)
   simp only [Option.some.injEq,Addr.mk.injEq,and_true] at ha
   obtain ⟨rfl,rfl⟩:=ha
   have hj:=(gs1 hy).1
   have:=hcells p j y hp hy
   rw [cell_of_row w q _ cur _ (0,0) hh] at this
   rw [List.getElem?_take,if_pos (by omega),List.getElem?_drop,← Nat.add_assoc]
   simpa using this
/-- The operation in a region that draws. -/
theorem Zj {w:World} {S:Nat→Prop} {v:Value} {l:List bf} {o:Oper} {a:Act} {K:Act→World→Prop} {Q:Exit→Act→World→Prop} (d:Nat) (hd:o.dst=some d) (s y:Operand)
  (ho:o.op=.call { callee:=.builtin .append,args:=#[s,y],argTypes:=#[35,35] }) (h:fP w S v l) (hl:l.length≤1000) (hs:a.eval s=v) (ad:Addr) (cc:Nat) (hy:a.eval y=.slice (some ad) 1 cc) {x0 x1:Int} (hcell:∀ j u,[Value.int .i64 x0,Value.int .i64 x1][j]?=some u→w.cell? (ad.add j)=some u) (i0:aB x0) (i1:aB x1)
  (k:∀ v' w',zZ w w' v v' l x0 x1→K (a.put (some d) v') w'):o.wp Tryz.prog a w K Q:=by
 obtain ⟨v',w',hr,h2⟩:=Zi h hl o.type ad cc hcell i0 i1
 unfold Oper.wp execOp
 simp only [ho,resolve,invoke,builtin,Sem.run_bind,Sem.run_pure,Result.andThen_ok,List.map_toArray,List.map_cons,List.map_nil,hs,hy,hr]
 have:=k v' w' h2
 rw [← hd] at this
 exact this
/- One element of a list of the call's own is written anew. -/
/-- What is known of element i, and what gives the list back behind a write to it. -/
theorem Ow.upd {α:Type} {t:TypeId} {sz:Nat} {E:World→List Value→α→(Nat→Prop)→Prop} {w:World} {S:Nat→Prop} {v:Value} {l:List α} (hE:Frames E) (h:Ow t sz E w S v l) (i:Nat) (x:α) (hx:l[i]?=some x) :
  ∃ (g cap:Nat) (cur:Array Value) (c:List Value) (f:Nat→Prop),v=.slice (some ⟨g,0,none⟩) l.length cap∧l.length≤cap∧cap≤maxLen∧w.heap[g]?=some (.cells cur t (0,0))∧i * sz+sz≤cur.size∧S g∧E w c x f∧c.length=sz ∧
   (∀ j u,c[j]?=some u→cur[i * sz+j]?=some u)∧(∀ b,f b→S b∧b≠g) ∧
   ∀ (w':World) (cur':Array Value) (c':List Value) (x':α),w'.heap[g]?=some (.cells cur' t (0,0))→cur'.size=cur.size→(∀ j u,c'[j]?=some u→cur'[i * sz+j]?=some u)→(∀ m,m < i * sz∨i * sz+sz≤m→cur'[m]?=cur[m]?)→c'.length=sz →
    (∀ b,S b→b≠g→¬ f b→b < w.heap.size→w'.heap[b]?=w.heap[b]?)→E w' c' x' f→Ow t sz E w' S v (l.set i x'):=by
 have hi:i < l.length:=(gs1 hx).1
 rcases h with ⟨-,rfl⟩ | ⟨g,cap,cur,cs,fs,hv,hh,h1,h2,h3,h4,h5,h6,h7⟩
 ·simp at hi
 ·obtain ⟨e1,e2,e3⟩:=h5 i x hx
  have hroom:i * sz+sz≤cur.size:=by
   have:=Nat.mul_le_mul_right sz (show i+1≤cap by omega)
   rw [Nat.add_mul,Nat.one_mul] at this
   omega
  refine ⟨g,cap,cur,cs i,fs i,hv,h1,h2,hh,hroom,h4,e1,e2,e3,fun b hb=>h6 i b hi hb,?_⟩
  intro w' cur' c' x' k1 k2 k3 k4 k5 k6 k7
  refine .inr ⟨g,cap,cur',fun n=>if n=i then c' else cs n,fs,by rw [List.length_set];exact hv,k1,by rw [List.length_set];exact h1,h2,by omega,h4,fun n y hy=>?_,by rw [List.length_set];exact h6,by rw [List.length_set];exact h7⟩
  by_cases hni:n=i
  ·subst hni
   rw [List.getElem?_set_self hi] at hy
   cases hy
   simp only [if_true]
   exact ⟨k7,k5,k3⟩
  ·rw [List.getElem?_set_ne (fun e=>hni e.symm)] at hy
   simp only [if_neg hni]
   have hn:n < l.length:=(gs1 hy).1
   obtain ⟨q1,q2,q3⟩:=h5 n y hy
   refine ⟨hE _ _ _ _ _ q1 fun b hb hlt=>k6 b (h6 n b hn hb).1 (h6 n b hn hb).2 (fun hf=>h7 n i b hn hi hni hb hf) hlt,q2,fun j u hu=>?_⟩
   have hj:j < sz:=by have:=(gs1 hu).1;omega
   rw [k4]
   ·exact q3 j u hu
   ·rcases Nat.lt_or_gt_of_ne hni with hlt | hgt
    ·have:=Nat.mul_le_mul_right sz (show n+1≤i by omega)
     rw [Nat.add_mul,Nat.one_mul] at this
     exact .inl (by omega)
    ·have:=Nat.mul_le_mul_right sz (show i+1≤n by omega)
     rw [Nat.add_mul,Nat.one_mul] at this
     exact .inr (by omega)
/- A gH: an account that the program's commands work on; its ah lie in a map, whose texts are an earlier world's. -/
/-- A box at the gH: its name and those that went lie in its own blocks; its ah lie in the map alone. -/
def qA (w:World) (c:List Value) (b:aD) (S:Nat→Prop):Prop :=
 ∃ u0 u2,c=[u0,.int .i64 b.valid,.int .i64 b.next,.int .i64 b.seq,.slice none 0 0,u2,.int .i64 b.lost]∧RO w S u0 b.name∧fP w S u2 b.au∧aB b.valid∧aB b.next∧aB b.seq∧aB b.lost
theorem nA:Frames qA:=fun w w' c b S ⟨u0,u2,e,h1,h2,r⟩ hw=>⟨u0,u2,e,h1.frame hw,Zg h2 hw,r⟩
abbrev oV:=Ow 37 7 qA
/-- What a call turns that is given the gH. -/
def iU (w w':World) (S:Nat→Prop) (gd g:Nat):Prop :=
 w.heap.size≤w'.heap.size∧(∀ k,k < w.heap.size→k≠gd→k≠g→¬ S k→w'.heap[k]?=w.heap[k]?)∧w'.os=w.os∧w'.tape=w.tape∧w'.output=w.output
structure aW (wt w:World) (S:Nat→Prop) (gd g n:Nat) (a:aJ) (u0 u1:Value) (E:aX):Prop where
 base:Below wt.heap.size wt w
 cells:w.heap[gd]?=some (.cells #[.int .i64 a.valid,u0,.map (some g),u1] 108 (0,0))
 boxes:oV w S u0 a.boxes
 map:MR wt w g n E
 seen:gQ w (fun k=>wt.heap.size≤k) u1 a.seen
 ents:∀ b ∈ a.boxes,dB E b.valid b.ah
 high:∀ e ∈ E,e.1≤a.valid
 dist:a.boxes.Pairwise (fun x y=>x.valid≠y.valid)
 low:∀ k,S k→wt.heap.size≤k∧k < w.heap.size∧k≠gd∧k≠g∧u1.ownBlock≠some k
 nY:wt.heap.size≤gd∧wt.heap.size≤g
 i64:aB a.valid
section
variable {wt w w' w'' : World} {S S' : Nat → Prop} {gd g n : Nat} {a : aJ} {u0 u1 : Value} {E : aX}
theorem iU.trans (h:iU w w' S gd g) (h':iU w' w'' S' gd g) (hS:∀ k,S' k→S k∨w.heap.size≤k):iU w w'' S gd g :=
 ⟨Nat.le_trans h.1 h'.1,fun k hk h1 h2 h3=>(h'.2.1 k (Nat.lt_of_lt_of_le hk h.1) h1 h2 (fun h4=>(hS k h4).elim h3 (by omega))).trans (h.2.1 k hk h1 h2 h3),h'.2.2.1.trans h.2.2.1,h'.2.2.2.1.trans h.2.2.2.1,h'.2.2.2.2.trans h.2.2.2.2⟩
theorem fT (h:Below w.heap.size w w'):iU w w' S gd g:=⟨h.size,fun k hk _ _ _=>h.block k hk,h.os,h.tape,h.output⟩
theorem yD {l:List Int} (h:gQ w S u1 l):(u1=.slice none 0 0∧l=[])∨∃ gs,u1.ownBlock=some gs∧Ty w gs 3:=by
 rcases h with h | ⟨gs,cap,cur,cs,fs,hv,hh,-⟩
 ·exact .inl h
 ·exact .inr ⟨gs,by rw [hv];rfl,⟨_,_,hh⟩⟩
/-- Whatever turns elsewhere. -/
theorem aW.kept (h:aW wt w S gd g n a u0 u1 E) (hsz:w.heap.size≤w'.heap.size) (hb:Below wt.heap.size wt w') (hk:∀ k,k < w.heap.size→k=gd∨k=g∨S k∨u1.ownBlock=some k→w'.heap[k]?=w.heap[k]?):aW wt w' S gd g n a u0 u1 E where
 base:=hb
 cells:=(hk gd (lt_of_heap h.cells) (.inl rfl)).trans h.cells
 boxes:=h.boxes.frame nA fun k hs hlt=>hk k hlt (.inr (.inr (.inl hs)))
 map:=h.map.kept (hk g h.map.lt (.inr (.inl rfl)))
 seen:=by
  rcases h.seen with h' | ⟨gs,cap,cur,cs,fs,hv,hh,h1,h2,h3,h4,h5,h6,h7⟩
  ·exact .inl h'
  ·refine .inr ⟨gs,cap,cur,cs,fs,hv,(hk gs (lt_of_heap hh) (.inr (.inr (.inr (by rw [hv];rfl))))).trans hh,h1,h2,h3,h4,fun i x hx=>?_,h6,h7⟩
   exact h5 i x hx
 ents:=h.ents
 high:=h.high
 dist:=h.dist
 low:=fun k hs=>let ⟨h1,h2,r⟩:=h.low k hs;⟨h1,Nat.lt_of_lt_of_le h2 hsz,r⟩
 nY:=h.nY
 i64:=h.i64
theorem aW.below (h:aW wt w S gd g n a u0 u1 E) (hb:Below w.heap.size w w'):aW wt w' S gd g n a u0 u1 E :=
 h.kept hb.size (Below.step h.base hb) fun k hk _=>hb.block k hk
end
/- A sJ box is written anew, a fQ comes into the map or goes out of it. -/
/-- One element of a list is written anew; it may get blocks that were not there. -/
theorem Ow.Zk {α:Type} {t:TypeId} {sz:Nat} {E:World→List Value→α→(Nat→Prop)→Prop} {w:World} {S:Nat→Prop} {v:Value} {l:List α} (hE:Frames E) (h:Ow t sz E w S v l) (hS:∀ b,S b→b < w.heap.size) (i:Nat) (x:α) (hx:l[i]?=some x) :
  ∃ (g cap:Nat) (cur:Array Value) (c:List Value) (f:Nat→Prop),v=.slice (some ⟨g,0,none⟩) l.length cap∧l.length≤cap∧cap≤maxLen∧w.heap[g]?=some (.cells cur t (0,0))∧i * sz+sz≤cur.size∧S g∧E w c x f∧c.length=sz ∧
   (∀ j u,c[j]?=some u→cur[i * sz+j]?=some u)∧(∀ b,f b→S b∧b≠g) ∧
   ∀ (w':World) (cur':Array Value) (c':List Value) (x':α) (f':Nat→Prop),w'.heap[g]?=some (.cells cur' t (0,0))→cur'.size=cur.size→(∀ j u,c'[j]?=some u→cur'[i * sz+j]?=some u)→(∀ m,m < i * sz∨i * sz+sz≤m→cur'[m]?=cur[m]?)→c'.length=sz →
    (∀ b,b < w.heap.size→b≠g→¬ f b→w'.heap[b]?=w.heap[b]?)→E w' c' x' f'→(∀ b,f' b→f b∨w.heap.size≤b)→Ow t sz E w' (fun b=>S b∨f' b) v (l.set i x'):=by
 have hi:i < l.length:=(gs1 hx).1
 rcases h with ⟨-,rfl⟩ | ⟨g,cap,cur,cs,fs,hv,hh,h1,h2,h3,h4,h5,h6,h7⟩
 ·simp at hi
 ·obtain ⟨e1,e2,e3⟩:=h5 i x hx
  have hroom:i * sz+sz≤cur.size:=by
   have:=Nat.mul_le_mul_right sz (show i+1≤cap by omega)
   rw [Nat.add_mul,Nat.one_mul] at this
   omega
  refine ⟨g,cap,cur,cs i,fs i,hv,h1,h2,hh,hroom,h4,e1,e2,e3,fun b hb=>h6 i b hi hb,?_⟩
  intro w' cur' c' x' f' k1 k2 k3 k4 k5 k6 k7 k8
  refine .inr ⟨g,cap,cur',fun n=>if n=i then c' else cs n,fun n=>if n=i then f' else fs n,by rw [List.length_set];exact hv,k1,by rw [List.length_set];exact h1,h2,by omega,.inl h4,fun n y hy=>?_,fun n b hn hb=>?_,fun n m b hn hm hne hb hb'=>?_⟩
  ·by_cases hni:n=i
   ·subst hni
    rw [List.getElem?_set_self hi] at hy
    cases hy
    simp only [if_true]
    exact ⟨k7,k5,k3⟩
   ·rw [List.getElem?_set_ne (fun e=>hni e.symm)] at hy
    simp only [if_neg hni]
    have hn:n < l.length:=(gs1 hy).1
    obtain ⟨q1,q2,q3⟩:=h5 n y hy
    refine ⟨hE _ _ _ _ _ q1 fun b hb hlt=>k6 b hlt (h6 n b hn hb).2 (fun hf=>h7 n i b hn hi hni hb hf),q2,fun j u hu=>?_⟩
    have hj:j < sz:=by have:=(gs1 hu).1;omega
    rw [k4]
    ·exact q3 j u hu
    ·rcases Nat.lt_or_gt_of_ne hni with hlt | hgt
     ·have:=Nat.mul_le_mul_right sz (show n+1≤i by omega)
      rw [Nat.add_mul,Nat.one_mul] at this
      exact .inl (by omega)
     ·have:=Nat.mul_le_mul_right sz (show i+1≤n by omega)
      rw [Nat.add_mul,Nat.one_mul] at this
      exact .inr (by omega)
  ·rw [List.length_set] at hn
   by_cases hni:n=i
   ·subst hni
    simp only [if_true] at hb
    refine ⟨.inr hb,fun e=>?_⟩
    subst e
    rcases k8 _ hb with h | h
    ·exact (h6 n _ hn h).2 rfl
    ·have:=lt_of_heap hh;omega
   ·simp only [if_neg hni] at hb
    exact ⟨.inl (h6 n b hn hb).1,(h6 n b hn hb).2⟩
  ·rw [List.length_set] at hn hm
   by_cases hni:n=i
   ·subst hni
    simp only [if_true] at hb
    rw [if_neg (Ne.symm hne)] at hb'
    rcases k8 _ hb with h | h
    ·exact h7 n m b hn hm hne h hb'
    ·have:=hS b (h6 m b hm hb').1;omega
   ·rw [if_neg hni] at hb
    by_cases qU:m=i
    ·subst qU
     simp only [if_true] at hb'
     rcases k8 _ hb' with h | h
     ·exact h7 n m b hn hm hne hb h
     ·have:=hS b (h6 n b hn hb).1;omega
    ·rw [if_neg qU] at hb'
     exact h7 n m b hn hm hne hb hb'
section
variable {wt w w' : World} {S S' : Nat → Prop} {gd g n : Nat} {a : aJ} {u0 u1 : Value} {E : aX} {i : Nat} {b : aD}
theorem Qt {l:List aD} {b b':aD} {i:Nat} (h:l.Pairwise (fun x y=>x.valid≠y.valid)) (hb:l[i]?=some b) (hv:b'.valid=b.valid):(l.set i b').Pairwise (fun x y=>x.valid≠y.valid):=by
 have hmap:(l.set i b').map (fun x=>x.valid)=l.map (fun x=>x.valid):=by
  refine List.ext_getElem? fun j=>?_
  rw [List.getElem?_map,List.getElem?_map]
  by_cases e:j=i
  ·subst e
   rw [List.getElem?_set_self (gs1 hb).1,hb]
   simp [hv]
  ·rw [List.getElem?_set_ne (Ne.symm e)]
 have h2:(l.map fun x=>x.valid).Pairwise (·≠·):=List.pairwise_map.2 h
 rw [← hmap] at h2
 exact List.pairwise_map.1 h2
theorem Zl {α:Type} {l:List α} {i:Nat} {x y:α} (h:y ∈ l.set i x):y=x∨y ∈ l:=(List.mem_or_eq_of_mem_set h).symm
/-- The i-th box: where it lies, and what gives the gH back behind a write to it. -/
theorem aW.box (h:aW wt w S gd g n a u0 u1 E) (hb:a.boxes[i]?=some b) :
  ∃ (gb cap:Nat) (cur:Array Value) (c:List Value) (f:Nat→Prop),u0=.slice (some ⟨gb,0,none⟩) a.boxes.length cap∧a.boxes.length≤cap∧cap≤maxLen∧w.heap[gb]?=some (.cells cur 37 (0,0))∧i * 7+7≤cur.size∧S gb∧qA w c b f∧c.length=7 ∧
   (∀ j u,c[j]?=some u→cur[i * 7+j]?=some u)∧(∀ k,f k→S k∧k≠gb) ∧
   ∀ (w':World) (cur':Array Value) (c':List Value) (b':aD) (f':Nat→Prop),w.heap.size≤w'.heap.size→Below wt.heap.size wt w'→w'.heap[gb]?=some (.cells cur' 37 (0,0))→cur'.size=cur.size→(∀ j u,c'[j]?=some u→cur'[i * 7+j]?=some u)→(∀ m,m < i * 7∨i * 7+7≤m→cur'[m]?=cur[m]?)→c'.length=7 →
    (∀ k,k < w.heap.size→k≠gb→¬ f k→w'.heap[k]?=w.heap[k]?)→qA w' c' b' f'→(∀ k,f' k→f k∨w.heap.size≤k∧k < w'.heap.size)→b'.valid=b.valid→b'.ah=b.ah→aW wt w' (fun k=>S k∨f' k) gd g n (aL a i b') u0 u1 E:=by
 obtain ⟨gb,cap,cur,c,f,e1,e2,e3,e4,e5,e6,e7,e8,e9,e10,e11⟩:=h.boxes.Zk nA (fun k hk=>(h.low k hk).2.1) i b hb
 refine ⟨gb,cap,cur,c,f,e1,e2,e3,e4,e5,e6,e7,e8,e9,e10,?_⟩
 intro w' cur' c' b' f' k0 k1 k2 k3 k4 k5 k6 k7 k8 k9 k10 k11
 have hd:=h.low gb e6
 have hne:∀ k,k < w.heap.size→¬ S k→w'.heap[k]?=w.heap[k]?:=fun k hk hs=>k7 k hk (fun e=>hs (e ▸ e6)) fun hf=>hs (e10 k hf).1
 refine ⟨k1,?_,e11 w' cur' c' b' f' k2 k3 k4 k5 k6 k7 k8 fun k hk=>(k9 k hk).elim .inl fun h=>.inr h.1,?_,?_,?_,h.high,Qt h.dist hb k10,?_,h.nY,h.i64⟩
 ·exact (hne gd (lt_of_heap h.cells) fun hs=>(h.low gd hs).2.2.1 rfl).trans h.cells
 ·exact h.map.kept (hne g h.map.lt fun hs=>(h.low g hs).2.2.2.1 rfl)
 ·rcases h.seen with h' | ⟨gs,cp,cu,cs,fs,hv,hh,h1,h2,h3,h4,h5,h6,h7⟩
  ·exact .inl h'
  ·refine .inr ⟨gs,cp,cu,cs,fs,hv,(hne gs (lt_of_heap hh) fun hs=>(h.low gs hs).2.2.2.2 (by rw [hv];rfl)).trans hh,h1,h2,h3,h4,fun j x hx=>?_,h6,h7⟩
   exact h5 j x hx
 ·intro x hx
  rcases Zl hx with rfl | hx
  ·rw [k10,k11]
   exact h.ents b (List.mem_of_getElem? hb)
  ·exact h.ents x hx
 ·intro k hk
  have hold:S k→wt.heap.size≤k∧k < w'.heap.size∧k≠gd∧k≠g∧u1.ownBlock≠some k:=fun hs=>let ⟨h1,h2,r⟩:=h.low k hs;⟨h1,Nat.lt_of_lt_of_le h2 k0,r⟩
  rcases hk with hk | hk
  ·exact hold hk
  ·rcases k9 k hk with hf | ⟨hf,hlt⟩
   ·exact hold (e10 k hf).1
   ·have q1:=lt_of_heap h.cells
    have q2:=h.map.lt
    have q3:=h.base.size
    refine ⟨by omega,hlt,by omega,by omega,fun e=>?_⟩
    rcases yD h.seen with ⟨e',-⟩ | ⟨gs,e',ht⟩
    ·rw [e'] at e;simp [Value.ownBlock] at e
    ·rw [e'] at e
     cases e
     obtain ⟨_,_,ht⟩:=ht
     have:=lt_of_heap ht
     omega
end
/- A sJ box is read; a field of it is written; a fQ comes into the map or goes out of it. -/
section
variable {wt w w' : World} {S S' : Nat → Prop} {gd g n n' : Nat} {a : aJ} {u0 u1 : Value} {E E' : aX} {i gb cap : Nat} {b b' : aD}
theorem aW.read (h:aW wt w S gd g n a u0 u1 E) (hb:a.boxes[i]?=some b) :
  ∃ (gb cap:Nat) (v0 v5:Value) (f:Nat→Prop),u0=.slice (some ⟨gb,0,none⟩) a.boxes.length cap∧a.boxes.length≤cap∧cap≤maxLen∧gb < w.heap.size∧S gb∧(∀ j,w.frozen? ⟨gb,j,none⟩=false) ∧
   (w.cell? ⟨gb,i * 7,none⟩=some v0∧w.cell? ⟨gb,i * 7+1,none⟩=some (.int .i64 b.valid)∧w.cell? ⟨gb,i * 7+2,none⟩=some (.int .i64 b.next)∧w.cell? ⟨gb,i * 7+3,none⟩=some (.int .i64 b.seq)∧w.cell? ⟨gb,i * 7+4,none⟩=some (.slice none 0 0)∧w.cell? ⟨gb,i * 7+5,none⟩=some v5∧w.cell? ⟨gb,i * 7+6,none⟩=some (.int .i64 b.lost)) ∧
   RO w f v0 b.name∧fP w f v5 b.au∧(∀ k,f k→S k∧k≠gb)∧aB b.valid∧aB b.next∧aB b.seq∧aB b.lost:=by
 obtain ⟨gb,cap,cur,c,f,e1,e2,e3,e4,e5,e6,⟨v0,v5,rfl,r1,r2,r3⟩,e8,e9,e10,-⟩:=h.box hb
 have hc:=fun j=>cell_of_row w gb j cur _ (0,0) e4
 exact ⟨gb,cap,v0,v5,f,e1,e2,e3,lt_of_heap e4,e6,fun j=>frozen_of_row w gb j _ _ e4,⟨(hc _).trans (e9 0 _ rfl),(hc _).trans (e9 1 _ rfl),(hc _).trans (e9 2 _ rfl),(hc _).trans (e9 3 _ rfl),(hc _).trans (e9 4 _ rfl),(hc _).trans (e9 5 _ rfl),(hc _).trans (e9 6 _ rfl)⟩,r1,r2,e10,r3⟩
/-- A field is written. -/
theorem aW.put (h:aW wt w S gd g n a u0 u1 E) (hb:a.boxes[i]?=some b) (hu:u0=.slice (some ⟨gb,0,none⟩) a.boxes.length cap) (j:Nat) (hj:j < 7) (v:Value) (hv:b'.valid=b.valid) (hm:b'.ah=b.ah) (hq:∀ c f,qA w c b f→qA w (c.set j v) b' f) :
  aW wt (w.setCell ⟨gb,i * 7+j,none⟩ v) S gd g n (aL a i b') u0 u1 E:=by
 obtain ⟨fF,cap',cur,c,f,e1,e2,e3,e4,e5,e6,e7,e8,e9,e10,e11⟩:=h.box hb
 rw [hu] at e1
 simp only [Value.slice.injEq,Option.some.injEq,Addr.mk.injEq,and_true,true_and] at e1
 obtain ⟨rfl,rfl⟩:=e1
 have hgb:=h.low gb e6
 have hfr:∀ k,k≠gb→(w.setCell ⟨gb,i * 7+j,none⟩ v).heap[k]?=w.heap[k]?:=fun k hk=>Below.heap_setCell w ⟨gb,i * 7+j,none⟩ v k hk
 have:=e11 (w.setCell ⟨gb,i * 7+j,none⟩ v) (cur.setIfInBounds (i * 7+j) v) (c.set j v) b' f (by rw [aZ];exact Nat.le_refl _) (Below.setCell h.base hgb.1 _) (aP e4) (Array.size_setIfInBounds ..) (fun k u hk=>?_) (fun m hm=>Array.getElem?_setIfInBounds_ne (by omega)) (by rw [List.length_set];exact e8) (fun k _ hk _=>hfr k hk) (nA _ _ _ _ _ (hq c f e7) fun k hk _=>hfr k (e10 k hk).2) (fun k hk=>.inl hk) hv hm
 ·have e:(fun k=>S k∨f k)=S:=funext fun k=>propext ⟨fun h=>h.elim id fun h=>(e10 k h).1,.inl⟩
  rw [e] at this
  exact this
 ·by_cases e:k=j
  ·subst e
   rw [List.getElem?_set_self (by omega)] at hk
   cases hk
   rw [Array.getElem?_setIfInBounds_self_of_lt (by omega)]
  ·rw [List.getElem?_set_ne (Ne.symm e)] at hk
   rw [Array.getElem?_setIfInBounds_ne (by omega)]
   exact e9 k u hk
theorem aW.JZ (h:aW wt w S gd g n a u0 u1 E) (hb:a.boxes[i]?=some b) (hu:u0=.slice (some ⟨gb,0,none⟩) a.boxes.length cap) {x:Int} (hx:aB x):aW wt (w.setCell ⟨gb,i * 7+2,none⟩ (.int .i64 x)) S gd g n (aL a i ⟨b.name,b.valid,x,b.seq,b.ah,b.au,b.lost⟩) u0 u1 E :=
 h.put hb hu 2 (by omega) _ rfl rfl fun c f ⟨v0,v5,e,h1,h2,i0,i1,i2,i3⟩=>⟨v0,v5,by rw [e];rfl,h1,h2,i0,hx,i2,i3⟩
theorem aW.uN (h:aW wt w S gd g n a u0 u1 E) (hb:a.boxes[i]?=some b) (hu:u0=.slice (some ⟨gb,0,none⟩) a.boxes.length cap) {x:Int} (hx:aB x):aW wt (w.setCell ⟨gb,i * 7+3,none⟩ (.int .i64 x)) S gd g n (aL a i ⟨b.name,b.valid,b.next,x,b.ah,b.au,b.lost⟩) u0 u1 E :=
 h.put hb hu 3 (by omega) _ rfl rfl fun c f ⟨v0,v5,e,h1,h2,i0,i1,i2,i3⟩=>⟨v0,v5,by rw [e];rfl,h1,h2,i0,i1,hx,i3⟩
theorem aW.J3 (h:aW wt w S gd g n a u0 u1 E) (hb:a.boxes[i]?=some b) (hu:u0=.slice (some ⟨gb,0,none⟩) a.boxes.length cap) {x:Int} (hx:aB x):aW wt (w.setCell ⟨gb,i * 7+6,none⟩ (.int .i64 x)) S gd g n (aL a i ⟨b.name,b.valid,b.next,b.seq,b.ah,b.au,x⟩) u0 u1 E :=
 h.put hb hu 6 (by omega) _ rfl rfl fun c f ⟨v0,v5,e,h1,h2,i0,i1,i2,i3⟩=>⟨v0,v5,by rw [e];rfl,h1,h2,i0,i1,i2,hx⟩
theorem Zm {v:Value} {l:List aD} (h:oV w S v l) (hb:l[i]?=some b) (ms:List aF):oV w S v (l.set i ⟨b.name,b.valid,b.next,b.seq,ms,b.au,b.lost⟩):=by
 have hi:i < l.length:=(gs1 hb).1
 rcases h with ⟨-,rfl⟩ | ⟨g,cap,cur,cs,fs,hv,hh,h1,h2,h3,h4,h5,h6,h7⟩
 ·simp at hi
 ·refine .inr ⟨g,cap,cur,cs,fs,by rw [List.length_set];exact hv,hh,by rw [List.length_set];exact h1,h2,h3,h4,fun j y hy=>?_,by rw [List.length_set];exact h6,by rw [List.length_set];exact h7⟩
  by_cases e:j=i
  ·subst e
   rw [List.getElem?_set_self hi] at hy
   cases hy
   exact h5 j b hb
  ·rw [List.getElem?_set_ne (Ne.symm e)] at hy
   exact h5 j y hy
/-- The map is turned at one rV ah. -/
theorem aW.mapped (h:aW wt w S gd g n a u0 u1 E) (hb:a.boxes[i]?=some b) (hG:w.grownBy w' (some g)) (hM:MR wt w' g n' E') {ms:List aF} (hE:dB E' b.valid ms) (hO:∀ v ms,v≠b.valid→dB E v ms→dB E' v ms) (hh:∀ e ∈ E',e.1≤a.valid) :
  aW wt w' S gd g n' (aL a i ⟨b.name,b.valid,b.next,b.seq,ms,b.au,b.lost⟩) u0 u1 E':=by
 have hk:∀ k,k < w.heap.size→k≠g→w'.heap[k]?=w.heap[k]?:=fun k hk hne=>hG.block k hk fun e=>hne (Option.some.inj e)
 have hgd:gd≠g:=fun e=>by
  subst e
  obtain ⟨D,⟨es,c,e1,-⟩,-⟩:=h.map
  rw [h.cells] at e1
  cases e1
 refine ⟨I6 h.base hG h.nY.2,(hk gd (lt_of_heap h.cells) hgd).trans h.cells,Zm (h.boxes.frame nA fun k hs hlt=>hk k hlt (h.low k hs).2.2.2.1) hb ms,hM,?_,fun x hx=>?_,hh,Qt h.dist hb rfl,fun k hs=>let ⟨h1,h2,r⟩:=h.low k hs;⟨h1,Nat.lt_of_lt_of_le h2 hG.size,r⟩,h.nY,h.i64⟩
 ·rcases h.seen with h' | ⟨gs,cp,cu,cs,fs,hv,hh,h1,h2,h3,h4,h5,h6,h7⟩
  ·exact .inl h'
  ·refine .inr ⟨gs,cp,cu,cs,fs,hv,(hk gs (lt_of_heap hh) fun e=>?_).trans hh,h1,h2,h3,h4,fun j x hx=>?_,h6,h7⟩
   ·subst e
    obtain ⟨D,⟨es,c,e1,-⟩,-⟩:=h.map
    rw [hh] at e1
    cases e1
   ·exact h5 j x hx
 ·obtain ⟨j,hj⟩:=List.mem_iff_getElem?.1 hx
  by_cases e:j=i
  ·subst e
   rw [aL,List.getElem?_set_self (gs1 hb).1] at hj
   cases hj
   exact hE
  ·rw [aL,List.getElem?_set_ne (Ne.symm e)] at hj
   refine hO _ _ (fun e2=>?_) (h.ents x (List.mem_of_getElem? hj))
   obtain ⟨hi',rfl⟩:=gs1 hb
   obtain ⟨hj',rfl⟩:=gs1 hj
   rcases Nat.lt_or_gt_of_ne e with hlt | hgt
   ·exact List.pairwise_iff_getElem.1 h.dist j i hj' hi' hlt e2
   ·exact List.pairwise_iff_getElem.1 h.dist i j hi' hj' hgt e2.symm
end
/- One more that went, put behind those of a sJ box; the oldest cut off. -/
section
variable {wt w w' : World} {S S' : Nat → Prop} {gd g n n' : Nat} {a : aJ} {u0 u1 : Value} {E E' : aX} {i gb cap : Nat} {b b' : aD}
/-- The row of those that went is another, in blocks of the rV own or new ones; the field is written behind it. -/
theorem aW.au (h:aW wt w S gd g n a u0 u1 E) (hb:a.boxes[i]?=some b) (hu:u0=.slice (some ⟨gb,0,none⟩) a.boxes.length cap) {v5 v:Value} {gs:List bf} (uO:w.cell? ⟨gb,i * 7+5,none⟩=some v5)
  (hw:∀ f:Nat→Prop,fP w f v5 b.au→∃ f':Nat→Prop,fP w' f' v gs∧(∀ k,f' k→f k∨w.heap.size≤k∧k < w'.heap.size)∧(∀ k,f k→f' k)∧(∀ k,k < w.heap.size→¬ (f k∧Ty w k 126)→w'.heap[k]?=w.heap[k]?)) (hsz:w.heap.size≤w'.heap.size) (hbw:Below wt.heap.size wt w') :
  ∃ S':Nat→Prop,aW wt (w'.setCell ⟨gb,i * 7+5,none⟩ v) S' gd g n (aL a i ⟨b.name,b.valid,b.next,b.seq,b.ah,gs,b.lost⟩) u0 u1 E∧(∀ k,S' k→S k∨w.heap.size≤k):=by
 obtain ⟨fF,cap',cur,c,f,e1,e2,e3,e4,e5,e6,⟨v0,wI,rfl,r1,r2,r3⟩,e8,e9,e10,e11⟩:=h.box hb
 rw [hu] at e1
 simp only [Value.slice.injEq,Option.some.injEq,Addr.mk.injEq,and_true,true_and] at e1
 obtain ⟨rfl,rfl⟩:=e1
 have e5':=e9 5 _ rfl
 rw [cell_of_row w gb _ cur _ (0,0) e4,e5'] at uO
 cases uO
 obtain ⟨f',q1,q2,q2',q3⟩:=hw f r2
 have hgb:=h.low gb e6
 have hgt:Ty w gb 37:=⟨_,_,e4⟩
 have k0:w'.heap[gb]?=w.heap[gb]?:=q3 gb hgb.2.1 fun hh=>(e10 gb hh.1).2 rfl
 have k1:w'.heap[gb]?=some (.cells cur 37 (0,0)):=k0.trans e4
 have k2:Ty w' gb 37:=⟨_,_,k1⟩
 have hne:∀ k,k≠gb→(w'.setCell ⟨gb,i * 7+5,none⟩ v).heap[k]?=w'.heap[k]?:=fun k hk=>Below.heap_setCell w' ⟨gb,i * 7+5,none⟩ v k hk
 have k3:RO w' f v0 b.name:=mR r1 fun k ht=>q3 k (mq ht) fun hh=>by
  obtain ⟨_,_,h1⟩:=ht
  exact kN h1 hh.2 (by decide)
 have hD:qA (w'.setCell ⟨gb,i * 7+5,none⟩ v) [v0,.int .i64 b.valid,.int .i64 b.next,.int .i64 b.seq,.slice none 0 0,v,.int .i64 b.lost] ⟨b.name,b.valid,b.next,b.seq,b.ah,gs,b.lost⟩ f' :=
  ⟨v0,v,rfl,mR (k3.mono q2') (iT k2 (by decide)),zY q1 (iT k2 (by decide)),r3⟩
 refine ⟨fun k=>S k∨f' k,e11 (w'.setCell ⟨gb,i * 7+5,none⟩ v) (cur.setIfInBounds (i * 7+5) v) _ _ f' (by rw [aZ];exact hsz) (Below.setCell hbw hgb.1 _) (aP k1) (Array.size_setIfInBounds ..) (fun k u hk=>?_) (fun m hm=>Array.getElem?_setIfInBounds_ne (by omega)) rfl (fun k hk h1 h2=>(hne k h1).trans (q3 k hk fun hh=>h2 hh.1)) hD (fun k hk=>by rw [aZ];exact q2 k hk) rfl rfl,fun k hk=>hk.elim .inl fun h=>(q2 k h).elim (fun h=>.inl (e10 k h).1) fun h=>.inr h.1⟩
 by_cases e:k=5
 ·subst e
  cases hk
  rw [Array.getElem?_setIfInBounds_self_of_lt (by omega)]
 ·rw [Array.getElem?_setIfInBounds_ne (by omega)]
  refine e9 k u ?_
  match k,hk with
  | 0,hk=>exact hk
  | 1,hk=>exact hk
  | 2,hk=>exact hk
  | 3,hk=>exact hk
  | 4,hk=>exact hk
  | 5,hk=>exact absurd rfl e
  | 6,hk=>exact hk
  | k+7,hk=>simp at hk
/-- Behind the append. -/
theorem Qu {v v':Value} {l:List bf} {x0 x1:Int} (hp:zZ w w' v v' l x0 x1) (i0:aB x0) (i1:aB x1) {f:Nat→Prop} (h:fP w f v l) :
  ∃ f':Nat→Prop,fP w' f' v' (l ++ [⟨x0,x1⟩])∧(∀ k,f' k→f k∨w.heap.size≤k∧k < w'.heap.size)∧(∀ k,f k→f' k)∧(∀ k,k < w.heap.size→¬ (f k∧Ty w k 126)→w'.heap[k]?=w.heap[k]?):=by
 rcases hp with ⟨q,off,m,c,rfl,hm,hc,rfl,rfl⟩ | ⟨hb,hO⟩
 ·obtain ⟨hf,cur,hh,-⟩:=h.2 _ _ _ rfl
  refine ⟨f,Zh h hm hc i0 i1,fun k hk=>.inl hk,fun k hk=>hk,fun k _ hk=>?_⟩
  have hne:k≠q:=fun e=>hk (by subst e;exact ⟨hf,_,_,hh⟩)
  rw [Below.heap_setCell _ _ _ _ (show k≠_ from hne),Below.heap_setCell _ _ _ _ (show k≠_ from hne)]
 ·refine ⟨fun k=>f k∨(w.heap.size≤k∧k < w'.heap.size),(Ga (F9 hO)).mono fun k hk=>.inr hk,fun k hk=>hk,fun k hk=>.inl hk,fun k hk _=>hb.block k hk⟩
theorem Zn {v v':Value} {l:List bf} {x0 x1:Int} (hp:zZ w w' v v' l x0 x1) {f:Nat→Prop} (h:fP w f v l) {B:Nat} {wt:World} (hf:∀ k,f k→B≤k) (hB:Below B wt w) (hBw:B≤w.heap.size):Below B wt w'∧w.heap.size≤w'.heap.size:=by
 rcases hp with ⟨q,off,m,c,rfl,hm,hc,rfl,rfl⟩ | ⟨hb,hO⟩
 ·obtain ⟨h1,-⟩:=h.2 _ _ _ rfl
  have h2:B≤q:=hf q h1
  exact ⟨Below.setCell (p:=⟨q,off+m * 2+1,none⟩) (Below.setCell (p:=⟨q,off+m * 2,none⟩) hB h2 _) h2 _,by rw [aZ,aZ];exact Nat.le_refl _⟩
 ·exact ⟨⟨hb.os.trans hB.os,hb.tape.trans hB.tape,hb.output.trans hB.output,Nat.le_trans hB.size hb.size,fun k hk=>(hb.block k (by omega)).trans (hB.block k hk)⟩,hb.size⟩
end
/- Elements with what they lead to, as a list of cells: taken apart and put together in another order of blocks (boxes into a new row). -/
section
variable {α : Type} {sz : Nat} {E : World → List Value → α → (Nat → Prop) → Prop} {w w' : World}
/-- The cells xs are those of the elements l, one behind the other; what they lead to lies in S, apart from one another. -/
def EL (sz:Nat) (E:World→List Value→α→(Nat→Prop)→Prop) (w:World):List α→(Nat→Prop)→List Value→Prop
 | [],_,xs=>xs=[]
 | x :: l,S,xs=>∃ (c ys:List Value) (F S':Nat→Prop),xs=c ++ ys∧c.length=sz∧E w c x F∧EL sz E w l S' ys∧(∀ b,F b→S b)∧(∀ b,S' b→S b)∧∀ b,F b→¬ S' b
theorem EL.len:∀ {l:List α} {S:Nat→Prop} {xs:List Value},EL sz E w l S xs→xs.length=l.length * sz
 | [],_,_,h=>by rw [show _=[] from h];simp
 | _ :: l,_,_,⟨c,ys,_,_,e,hc,_,hl,_⟩=>by rw [e,List.length_append,hc,EL.len hl,List.length_cons,Nat.succ_mul,Nat.add_comm]
theorem EL.mono:∀ {l:List α} {S T:Nat→Prop} {xs:List Value},EL sz E w l S xs→(∀ b,S b→T b)→EL sz E w l T xs
 | [],_,_,_,h,_=>h
 | _ :: _,_,_,_,⟨c,ys,F,S',e,hc,he,hl,h1,h2,h3⟩,hS=>⟨c,ys,F,S',e,hc,he,hl,fun b h=>hS b (h1 b h),fun b h=>hS b (h2 b h),h3⟩
/-- It stays while what it leads to does. -/
theorem EL.keep {w w':World}:∀ {l:List α} {S:Nat→Prop} {xs:List Value},EL sz E w l S xs→(∀ c x F,(∀ b,F b→S b)→E w c x F→E w' c x F)→EL sz E w' l S xs
 | [],_,_,h,_=>h
 | _ :: _,_,_,⟨c,ys,F,S',e,hc,he,hl,h1,h2,h3⟩,hk=>⟨c,ys,F,S',e,hc,hk _ _ _ h1 he,hl.keep fun c x F h=>hk c x F fun b hb=>h2 b (h b hb),h1,h2,h3⟩
theorem EL.one {c:List Value} {x:α} {F:Nat→Prop} (hc:c.length=sz) (he:E w c x F):EL sz E w [x] F c :=
 ⟨c,[],F,fun _=>False,by simp,hc,he,rfl,fun _ h=>h,fun _ h=>h.elim,fun _ _ h=>h⟩
theorem EL.app:∀ {l m:List α} {S T:Nat→Prop} {xs ys:List Value},EL sz E w l S xs→EL sz E w m T ys→(∀ b,S b→¬ T b)→EL sz E w (l ++ m) (fun b=>S b∨T b) (xs ++ ys)
 | [],m,S,T,xs,ys,h,h',_=>by rw [show xs=[] from h];exact h'.mono fun b h=>.inr h
 | x :: l,m,S,T,xs,ys,⟨c,zs,F,S',e,hc,he,hl,h1,h2,h3⟩,h',hd =>
  ⟨c,zs ++ ys,F,fun b=>S' b∨T b,by rw [e,List.append_assoc],hc,he,hl.app h' fun b h=>hd b (h2 b h),fun b h=>.inl (h1 b h),fun b h=>h.elim (fun h=>.inl (h2 b h)) .inr,fun b h h'=>h'.elim (h3 b h) (hd b (h1 b h))⟩
/-- Taken apart. -/
theorem EL.split:∀ (i:Nat) {l:List α} {S:Nat→Prop} {xs:List Value},EL sz E w l S xs→∃ S1 S2:Nat→Prop,EL sz E w (l.take i) S1 (xs.take (i * sz))∧EL sz E w (l.drop i) S2 (xs.drop (i * sz))∧(∀ b,S1 b→S b)∧(∀ b,S2 b→S b)∧∀ b,S1 b→¬ S2 b
 | 0,l,S,xs,h=>⟨fun _=>False,S,by simp [EL],by simpa using h,fun _ h=>h.elim,fun _ h=>h,fun _ h=>h.elim⟩
 | i+1,[],S,xs,h=>⟨fun _=>False,S,by rw [show xs=[] from h];simp [EL],by rw [show xs=[] from h];simp [EL],fun _ h=>h.elim,fun _ h=>h,fun _ h=>h.elim⟩
 | i+1,x :: l,S,xs,⟨c,ys,F,S',e,hc,he,hl,h1,h2,h3⟩=>by
  obtain ⟨S1,S2,a1,a2,a3,a4,a5⟩:=EL.split i hl
  have e1:xs.take ((i+1) * sz)=c ++ ys.take (i * sz):=by
   rw [e,List.take_append,hc,List.take_of_length_le (by rw [hc,Nat.succ_mul];exact Nat.le_add_left _ _)]
   rw [show (i+1) * sz - sz=i * sz by rw [Nat.succ_mul,Nat.add_sub_cancel]]
  have e2:xs.drop ((i+1) * sz)=ys.drop (i * sz):=by
   rw [e,List.drop_append,hc,List.drop_of_length_le (by rw [hc,Nat.succ_mul];exact Nat.le_add_left _ _),List.nil_append]
   rw [show (i+1) * sz - sz=i * sz by rw [Nat.succ_mul,Nat.add_sub_cancel]]
  refine ⟨fun b=>F b∨S1 b,S2,?_,?_,fun b h=>h.elim (h1 b) fun h=>h2 b (a3 b h),fun b h=>h2 b (a4 b h),fun b h h'=>h.elim (fun h=>h3 b h (a4 b h')) fun h=>a5 b h h'⟩
  ·rw [e1]
   exact ⟨c,ys.take (i * sz),F,S1,rfl,hc,he,a1,fun b h=>.inl h,fun b h=>.inr h,fun b h h'=>h3 b h (a3 b h')⟩
  ·rw [e2]
   exact a2
/-- From elements by number. -/
theorem EL.Qv:∀ (l:List α) {S:Nat→Prop} {xs:List Value} (cs:Nat→List Value) (fs:Nat→Nat→Prop),xs.length=l.length * sz →
  (∀ i x,l[i]?=some x→E w (cs i) x (fs i)∧(cs i).length=sz∧∀ j u,(cs i)[j]?=some u→xs[i * sz+j]?=some u)→(∀ i b,i < l.length→fs i b→S b)→(∀ i j b,i < l.length→j < l.length→i≠j→fs i b→¬ fs j b)→EL sz E w l S xs
 | [],S,xs,cs,fs,hl,_,_,_=>by
  show xs=[]
  exact List.length_eq_zero_iff.1 (by simpa using hl)
 | x :: l,S,xs,cs,fs,hl,he,hs,hd=>by
  obtain ⟨e0,e1,e2⟩:=he 0 x rfl
  have hxl:sz≤xs.length:=by rw [hl,List.length_cons,Nat.succ_mul];exact Nat.le_add_left _ _
  have ec:xs.take sz=cs 0:=by
   apply List.ext_getElem?
   intro j
   by_cases hj:j < sz
   ·rw [List.getElem?_take_of_lt hj]
    have:=e2 j (cs 0)[j] (aK (by omega))
    rw [Nat.zero_mul,Nat.zero_add] at this
    rw [this,aK]
   ·rw [List.getElem?_eq_none (by rw [List.length_take];omega),List.getElem?_eq_none (by omega)]
  refine ⟨cs 0,xs.drop sz,fs 0,fun b=>∃ i,i < l.length∧fs (i+1) b,by rw [← ec,List.take_append_drop],e1,e0,?_,fun b h=>hs 0 b (by simp) h,?_,?_⟩
  ·refine EL.Qv l (fun i=>cs (i+1)) (fun i=>fs (i+1)) ?_ (fun i y hy=>?_) (fun i b hi h=>⟨i,hi,h⟩) (fun i j b hi hj hne=>hd (i+1) (j+1) b (by simpa using hi) (by simpa using hj) (by omega))
   ·rw [List.length_drop,hl,List.length_cons,Nat.succ_mul,Nat.add_sub_cancel]
   ·obtain ⟨f0,f1,f2⟩:=he (i+1) y (by simpa using hy)
    refine ⟨f0,f1,fun j u hu=>?_⟩
    have:=f2 j u hu
    rw [List.getElem?_drop]
    rw [Nat.succ_mul] at this
    rw [show sz+(i * sz+j)=i * sz+sz+j by omega]
    exact this
  ·rintro b ⟨i,hi,h⟩
   exact hs (i+1) b (by simpa using hi) h
  ·rintro b h ⟨i,hi,h'⟩
   exact hd 0 (i+1) b (by simp) (by simpa using hi) (by omega) h h'
/-- ahZ to elements by number. -/
theorem EL.idx:∀ {l:List α} {S:Nat→Prop} {xs:List Value},EL sz E w l S xs→∃ (cs:Nat→List Value) (fs:Nat→Nat→Prop),
  (∀ i x,l[i]?=some x→E w (cs i) x (fs i)∧(cs i).length=sz∧∀ j u,(cs i)[j]?=some u→xs[i * sz+j]?=some u)∧(∀ i b,i < l.length→fs i b→S b)∧(∀ i j b,i < l.length→j < l.length→i≠j→fs i b→¬ fs j b)
 | [],_,_,_=>⟨fun _=>[],fun _ _=>False,by simp,by simp,by simp⟩
 | x :: l,S,xs,⟨c,ys,F,S',e,hc,he,hl,h1,h2,h3⟩=>by
  obtain ⟨cs,fs,a1,a2,a3⟩:=EL.idx hl
  refine ⟨fun i=>match i with | 0=>c | i+1=>cs i,fun i=>match i with | 0=>F | i+1=>fs i,?_,?_,?_⟩
  ·intro i y hy
   cases i with
   | zero =>
    cases (by simpa using hy:x=y)
    refine ⟨he,hc,fun j u hu=>?_⟩
    have hj:j < c.length:=(gs1 hu).1
    rw [e,Nat.zero_mul,Nat.zero_add,List.getElem?_append_left hj]
    exact hu
   | succ i =>
    obtain ⟨f0,f1,f2⟩:=a1 i y (by simpa using hy)
    refine ⟨f0,f1,fun j u hu=>?_⟩
    have:=f2 j u hu
    rw [e,Nat.succ_mul,List.getElem?_append_right (by omega),hc,show i * sz+sz+j - sz=i * sz+j by omega]
    exact this
  ·intro i b hi h
   cases i with
   | zero=>exact h1 b h
   | succ i=>exact h2 b (a2 i b (by simpa using hi) h)
  ·intro i j b hi hj hne h h'
   cases i with
   | zero =>
    cases j with
    | zero=>exact hne rfl
    | succ j=>exact h3 b h (a2 j b (by simpa using hj) h')
   | succ i =>
    cases j with
    | zero=>exact h3 b h' (a2 i b (by simpa using hi) h)
    | succ j=>exact a3 i j b (by simpa using hi) (by simpa using hj) (fun e=>hne (by rw [e])) h h'
variable {t : TypeId} {S : Nat → Prop} {v : Value} {l : List α}
/-- Out of a list of the call's own: its cells, and what they lead to, which is not its block. -/
theorem Ow.el (h:Ow t sz E w S v l):(v=.slice none 0 0∧l=[])∨∃ (g cap:Nat) (cur:Array Value),v=.slice (some ⟨g,0,none⟩) l.length cap∧w.heap[g]?=some (.cells cur t (0,0))∧l.length≤cap∧cap≤maxLen∧cur.size=cap * sz∧S g∧EL sz E w l (fun b=>S b∧b≠g) (cur.toList.take (l.length * sz)):=by
 rcases h with h | ⟨g,cap,cur,cs,fs,hv,hh,h1,h2,h3,h4,h5,h6,h7⟩
 ·exact .inl h
 ·have hle:l.length * sz≤cap * sz:=Nat.mul_le_mul_right _ h1
  refine .inr ⟨g,cap,cur,hv,hh,h1,h2,h3,h4,EL.Qv l cs fs ?_ (fun i x hx=>?_) h6 h7⟩
  ·rw [List.length_take,show cur.toList.length=cap * sz from h3];omega
  ·obtain ⟨f0,f1,f2⟩:=h5 i x hx
   refine ⟨f0,f1,fun j u hu=>?_⟩
   have hj:j < sz:=by rw [← f1];exact (gs1 hu).1
   have hi:i < l.length:=(gs1 hx).1
   have hm:(i+1) * sz≤l.length * sz:=Nat.mul_le_mul_right _ hi
   rw [Nat.succ_mul] at hm
   rw [List.getElem?_take_of_lt (by omega),Array.getElem?_toList]
   exact f2 j u hu
/-- Into a block of the call's own. -/
theorem EL.ow {g cap:Nat} {cur:Array Value} (h:EL sz E w l S (cur.toList.take (l.length * sz))) (hh:w.heap[g]?=some (.cells cur t (0,0))) (h1:l.length≤cap) (h2:cap≤maxLen) (h3:cur.size=cap * sz) (hg:¬ S g):Ow t sz E w (fun b=>S b∨b=g) (.slice (some ⟨g,0,none⟩) l.length cap) l:=by
 obtain ⟨cs,fs,a1,a2,a3⟩:=h.idx
 refine .inr ⟨g,cap,cur,cs,fs,rfl,hh,h1,h2,h3,.inr rfl,fun i x hx=>?_,fun i b hi hb=>⟨.inl (a2 i b hi hb),fun e=>hg (e ▸ a2 i b hi hb)⟩,a3⟩
 obtain ⟨f0,f1,f2⟩:=a1 i x hx
 refine ⟨f0,f1,fun j u hu=>?_⟩
 have hj:j < sz:=by rw [← f1];exact (gs1 hu).1
 have hi:i < l.length:=(gs1 hx).1
 have hm:(i+1) * sz≤l.length * sz:=Nat.mul_le_mul_right _ hi
 rw [Nat.succ_mul] at hm
 have:=f2 j u hu
 rw [List.getElem?_take_of_lt (by omega),Array.getElem?_toList] at this
 exact this
end
end Go.Proofs.YtlneebmlhblleaaGreat
