/- The proof's texts, part 16. -/
import Derived.Test.YtmglhdkeidhafaaGreatTf
import Derived.ArgAppend
namespace Go.Proofs.YtmglhdkeidhafaaGreat
open Go.RowKit
set_option linter.unusedVariables false
set_option linter.unusedSimpArgs false
set_option maxHeartbeats 2000000
set_option maxRecDepth 100000
/- A list of those that went, its block among given ones: whatever else turns; one more put behind in place. -/
section
variable {w w' : World} {S : Nat → Prop} {v : Value}
theorem IL {l:List bB} (h:fM w S v l) (hm:∀ k,S k→k < w.heap.size→w'.heap[k]?=w.heap[k]?):fM w' S v l:=by
 obtain ⟨⟨a,cap,cs,hv,h1,h2,h3,h4,h5⟩,hty⟩:=h
 refine ⟨⟨a,cap,cs,hv,h1,h2,h3,h4,fun hp=>?_⟩,fun a n c e=>let ⟨h1,cur,hh,r⟩:=hty a n c e;⟨h1,cur,(hm _ h1 (lt_of_heap hh)).trans hh,r⟩⟩
 obtain ⟨b,off,ha,hb,hc⟩:=h5 hp
 obtain ⟨k1,cells,hh,-⟩:=hty ⟨b,off,none⟩ l.length cap (by rw [hv,ha])
 have hh':=(hm b k1 (lt_of_heap hh)).trans hh
 refine ⟨b,off,ha,lt_of_heap hh',fun i j u hi hu=>?_⟩
 have:=hc i j u hi hu
 rw [cell_of_row w b _ cells _ (0,0) hh] at this
 rw [cell_of_row w' b _ cells _ (0,0) hh']
 exact this
/-- One more that went, put behind in place. -/
theorem Ph {l:List bB} {q off n c:Nat} {x0 x1:Int} (h:fM w S (.slice (some ⟨q,off,none⟩) n c) l) (hn:n=l.length) (hc:n+1≤c) (i0:ay x0) (i1:ay x1) :
  fM ((w.setCell ⟨q,off+n * 2,none⟩ (.int .i64 x0)).setCell ⟨q,off+n * 2+1,none⟩ (.int .i64 x1)) S (.slice (some ⟨q,off,none⟩) (n+1) c) (l ++ [⟨x0,x1⟩]):=by
 obtain ⟨⟨a,cap,cs,hv,h1,h2,h3,h4,h5⟩,hty⟩:=h
 simp only [Value.slice.injEq] at hv
 obtain ⟨rfl,-,rfl⟩:=hv
 obtain ⟨hS,cur,hh,-,hs⟩:=hty ⟨q,off,none⟩ n c rfl
 simp only at hS hh hs
 have hk:=aJ (i:=off+n * 2+1) (v:=.int .i64 x1) (aJ (i:=off+n * 2) (v:=.int .i64 x0) hh)
 refine ⟨⟨some ⟨q,off,none⟩,c,fun i=>if i=n then [.int .i64 x0,.int .i64 x1] else cs i,by rw [List.length_append];simp [hn],by rw [List.length_append];simp;omega,h2,(fun e=>by cases e),fun i x hx=>?_,fun _=>⟨q,off,rfl,lt_of_heap hk,fun i j u hi hu=>?_⟩⟩,fun a n' c' e=>?_⟩
 ·by_cases e:i=n
  ·subst e
   rw [hn,List.getElem?_append_right (Nat.le_refl _),Nat.sub_self] at hx
   simp only [List.getElem?_cons_zero,Option.some.injEq] at hx
   subst hx
   simp only [if_pos]
   exact ⟨⟨rfl,i0,i1⟩,rfl⟩
  ·have hlt:i < l.length:=by
    have:=(gs1 hx).1
    rw [List.length_append] at this
    simp at this
    omega
   rw [List.getElem?_append_left hlt] at hx
   simp only [if_neg e]
   exact h4 i x hx
 ·rw [List.length_append] at hi
  simp at hi
  rw [cell_of_row _ q _ _ _ (0,0) hk]
  by_cases e:i=n
  ·subst e
   simp only [if_pos] at hu
   match j,hu with
   | 0,hu =>
    simp only [List.getElem?_cons_zero,Option.some.injEq] at hu
    subst hu
    rw [Array.getElem?_setIfInBounds_ne (by omega),Nat.add_zero,Array.getElem?_setIfInBounds_self_of_lt (by omega)]
   | 1,hu =>
    simp only [List.getElem?_cons_succ,List.getElem?_cons_zero,Option.some.injEq] at hu
    subst hu
    rw [Array.getElem?_setIfInBounds_self_of_lt (by rw [Array.size_setIfInBounds];omega)]
   | j+2,hu=>simp at hu
  ·simp only [if_neg e] at hu
   have hil:i < l.length:=by omega
   obtain ⟨b,off',ha,-,hcell⟩:=h5 (by omega)
   simp only [Option.some.injEq,Addr.mk.injEq,and_true] at ha
   obtain ⟨rfl,rfl⟩:=ha
   have hjl:j < 2:=by
    have h6:=(gs1 hu).1
    have h7:=(h4 i l[i] (aL hil)).2
    omega
   have:=hcell i j u hil hu
   rw [cell_of_row w q _ cur _ (0,0) hh] at this
   rw [Array.getElem?_setIfInBounds_ne (by omega),Array.getElem?_setIfInBounds_ne (by omega)]
   exact this
 ·simp only [Value.slice.injEq,Option.some.injEq] at e
  obtain ⟨rfl,-,rfl⟩:=e
  exact ⟨hS,_,hk,rfl,by simp only [Array.size_setIfInBounds];exact hs⟩
end
/- One more that went, put behind those that went: in place where there is room, else behind a copy. -/
/-- What the append leaves: the same block with one more, or a row of its own. -/
def xL (w w':World) (v v':Value) (l:List bB) (x0 x1:Int):Prop :=
 (∃ q off n c,v=.slice (some ⟨q,off,none⟩) n c∧n=l.length∧n+1≤c∧v'=.slice (some ⟨q,off,none⟩) (n+1) c∧w'=(w.setCell ⟨q,off+n * 2,none⟩ (.int .i64 x0)).setCell ⟨q,off+n * 2+1,none⟩ (.int .i64 x1)) ∨
 (Below w.heap.size w w'∧iY w' (fun k=>w.heap.size≤k) v' (l ++ [⟨x0,x1⟩]))
theorem Xx {w:World} {S:Nat→Prop} {v:Value} {l:List bB} (h:fM w S v l) (hl:l.length≤1000) (ty:TypeId) (ad:Addr) (cc:Nat) {x0 x1:Int} (hcell:∀ j u,[Value.int .i64 x0,Value.int .i64 x1][j]?=some u→w.cell? (ad.add j)=some u) (i0:ay x0) (i1:ay x1) :
  ∃ v' w',(Builtin.append_ #[32,32] ty #[v,.slice (some ad) 1 cc]).run Tryz.prog w=.ok v' w'∧xL w w' v v' l x0 x1:=by
 obtain ⟨i,hi,hz0,hz1,hz2⟩:=info_parts yS
 have hone:∀ u ∈ [Value.int .i64 x0,Value.int .i64 x1],u.oneCell'=true:=by simp [Value.oneCell']
 have hb1:l.length+1≤maxLen:=by unfold maxLen;omega
 have hb2:(l.length+1) * 16≤140737488355328:=by omega
 have fin:∀ (v':Value) (w':World) (xs:List Value),w.grownBy w' none→w'.ownsRow w.heap.size 70 2 v' (l.length+1) (xs ++ [.int .i64 x0,.int .i64 x1])→xs.length=l.length * 2→(∀ i x,l[i]?=some x→∃ c,c.length=2∧wW w c x∧∀ j y,c[j]?=some y→xs[i * 2+j]?=some y)→xL w w' v v' l x0 x1:=fun v' w' xs hG hO hxl hx=>by
  refine .inr ⟨⟨hG.os,hG.tape,hG.output,hG.size,fun k hk=>hG.block k hk (by simp)⟩,Ed (w0:=w) (by rw [List.length_append];exact hO) (fun i m h=>?_) (fun k hk=>dP hO hk)⟩
  by_cases hlt:i < l.length
  ·rw [List.getElem?_append_left hlt] at h
   obtain ⟨c,h1,h2,h3⟩:=hx i m h
   refine ⟨c,h1,h2,fun j y hy=>?_⟩
   have:=h3 j y hy
   rw [List.getElem?_append_left (gs1 this).1]
   exact this
  ·rw [List.getElem?_append_right (by omega)] at h
   have hi0:i=l.length:=by
    have:=(gs1 h).1
    simp at this
    omega
   subst hi0
   simp only [Nat.sub_self,List.getElem?_cons_zero,Option.some.injEq] at h
   subst h
   refine ⟨[.int .i64 x0,.int .i64 x1],rfl,⟨rfl,i0,i1⟩,fun j y hy=>?_⟩
   rw [List.getElem?_append_right (by omega),show l.length * 2+j - xs.length=j by omega]
   exact hy
 obtain ⟨⟨a,cap,cs,hv,h1,h2,h3,h4,h5⟩,hty⟩:=h
 cases a with
 | none =>
  obtain rfl:=h3 rfl
  obtain rfl:l=[]:=List.eq_nil_of_length_eq_zero (by omega)
  subst hv
  obtain ⟨v',w',hr,hO,hG,-⟩:=run_append_own (P:=Tryz.prog) w w.heap.size 32 ty 70 i _ 2 16 Tryz.underlying32 hi hz0 hz1 hz2 rfl (by omega) (.slice none 0 0) 0 [] (World.ownsRow_nil w _ _ _) ad 1 cc [.int .i64 x0,.int .i64 x1] rfl hcell hone (by unfold maxLen;omega) (by omega) (Nat.le_refl _)
  exact ⟨v',w',hr,fin v' w' [] hG hO rfl (fun i x hx=>by simp at hx)⟩
 | some a =>
  obtain ⟨-,cur,hh,hsp,hs⟩:=hty a l.length cap hv
  obtain ⟨q,off,sp⟩:=a
  simp only at hsp hh hs
  subst hsp
  subst hv
  by_cases hroom:l.length+1≤cap
  ·have hsz:i.size=2:=hz1
   have:=run_append_room_cells (P:=Tryz.prog) w 32 ty 70 i Tryz.underlying32 hi q off l.length cap ad 1 cc [.int .i64 x0,.int .i64 x1] (by rw [hsz];rfl) hcell hone hroom (fun j hj=>by
    rw [cell_of_row w q _ cur _ (0,0) hh,hsz]
    simp only [List.length_cons,List.length_nil] at hj
    rw [Array.getElem?_eq_getElem (by omega)]
    rfl) (fun j _=>frozen_of_row w q _ cur _ hh)
   rw [hsz] at this
   exact ⟨_,_,this,.inl ⟨q,off,l.length,cap,rfl,rfl,hroom,rfl,rfl⟩⟩
  ·have hol:((cur.toList.drop off).take (l.length * 2)).length=l.length * 2:=by
    have hcl:cur.toList.length=cur.size:=Array.length_toList
    rw [List.length_take,List.length_drop,hcl]
    omega
   obtain ⟨v',w',hr,hO,hG⟩:=run_append_arg_grows (P:=Tryz.prog) w 32 ty 70 i _ 2 16 Tryz.underlying32 hi hz0 hz1 hz2 rfl (by omega) ⟨q,off,none⟩ l.length cap ((cur.toList.drop off).take (l.length * 2)) hol (fun j u hu=>by
    rw [Addr.add_lit,cell_of_row w q _ cur _ (0,0) hh]
    rw [List.getElem?_take] at hu
    split at hu
    ·rw [List.getElem?_drop] at hu;simpa using hu
    ·cases hu) ad 1 cc [.int .i64 x0,.int .i64 x1] rfl hcell (by omega) hb1 hb2
   refine ⟨v',w',hr,fin v' w' _ hG hO hol (fun p x hx=>?_)⟩
   have hp:=(gs1 hx).1
   obtain ⟨hc,hcl⟩:=h4 p x hx
   refine ⟨cs p,hcl,hc,fun j y hy=>?_⟩
   obtain ⟨b',off',ha,-,hcells⟩:=h5 (by omega)
   simp only [Option.some.injEq,Addr.mk.injEq,and_true] at ha
   obtain ⟨rfl,rfl⟩:=ha
   have hj:=(gs1 hy).1
   have:=hcells p j y hp hy
   rw [cell_of_row w q _ cur _ (0,0) hh] at this
   rw [List.getElem?_take,if_pos (by omega),List.getElem?_drop,← Nat.add_assoc]
   simpa using this
/-- The operation in a region that draws. -/
theorem Pj {w:World} {S:Nat→Prop} {v:Value} {l:List bB} {o:Oper} {a:Act} {K:Act→World→Prop} {Q:Exit→Act→World→Prop} (d:Nat) (hd:o.dst=some d) (s y:Operand)
  (ho:o.op=.call { callee:=.builtin .append,args:=#[s,y],argTypes:=#[32,32] }) (h:fM w S v l) (hl:l.length≤1000) (hs:a.eval s=v) (ad:Addr) (cc:Nat) (hy:a.eval y=.slice (some ad) 1 cc) {x0 x1:Int} (hcell:∀ j u,[Value.int .i64 x0,Value.int .i64 x1][j]?=some u→w.cell? (ad.add j)=some u) (i0:ay x0) (i1:ay x1)
  (k:∀ v' w',xL w w' v v' l x0 x1→K (a.put (some d) v') w'):o.wp Tryz.prog a w K Q:=by
 obtain ⟨v',w',hr,h2⟩:=Xx h hl o.type ad cc hcell i0 i1
 unfold Oper.wp execOp
 simp only [ho,resolve,invoke,builtin,Sem.run_bind,Sem.run_pure,Result.andThen_ok,List.map_toArray,List.map_cons,List.map_nil,hs,hy,hr]
 have:=k v' w' h2
 rw [← hd] at this
 exact this
/- A box behind a pointer: a dV of its list is written. -/
/-- One cell of a dV in the list's block is written. -/
theorem Xy {w:World} {S:Nat→Prop} {v:Value} {l:List aC} (h:jc w S v l) {i:Nat} {m:aC} (hm:l[i]?=some m) :
  ∃ mb cap,v=.slice (some ⟨mb,0,none⟩) l.length cap∧S mb∧Ty w mb 72∧w.cell? ⟨mb,i * 4+1,none⟩=some (.int .i64 m.flags)∧w.cell? ⟨mb,i * 4+2,none⟩=some (.int .i64 m.seq)∧(∀ j,w.frozen? ⟨mb,j,none⟩=false) ∧
   (∀ fl,ay fl→jc (w.setCell ⟨mb,i * 4+1,none⟩ (.int .i64 fl)) S v (l.set i ⟨m.uid,fl,m.seq,m.text⟩))∧(∀ sq,ay sq→jc (w.setCell ⟨mb,i * 4+2,none⟩ (.int .i64 sq)) S v (l.set i ⟨m.uid,m.flags,sq,m.text⟩)):=by
 have hi:i < l.length:=(gs1 hm).1
 rcases h with ⟨-,h⟩ | ⟨g,cap,cur,cs,fs,hv,hh,h1,h2,h3,h4,h5,h6,h7⟩
 ·subst h;simp at hm
 obtain ⟨⟨u,hc,hu,j0,j1,j2⟩,hl,hcell⟩:=h5 i m hm
 have hty:Ty w g 72:=⟨_,_,hh⟩
 have hsz:i * 4+4≤cur.size:=by rw [h3];omega
 have key:∀ (q:Nat) (x:Value) (m':aC) (c':List Value),q < 4→c'=(cs i).set q x→sj w c' m' Any→jc (w.setCell ⟨g,i * 4+q,none⟩ x) S v (l.set i m'):=by
  intro q x m' c' hq hc' hm'
  refine .inr ⟨g,cap,_,fun j=>if j=i then c' else cs j,fun _ _=>False,by rw [List.length_set];exact hv,aJ hh,by rw [List.length_set];exact h1,h2,by rw [Array.size_setIfInBounds];exact h3,h4,fun j y hy=>?_,by simp,by simp⟩
  by_cases e:j=i
  ·subst e
   rw [List.getElem?_set_self hi] at hy
   cases hy
   simp only [if_pos]
   refine ⟨uq hm' (fV hty (by decide)),by rw [hc',List.length_set];exact hl,fun k z hz=>?_⟩
   rw [hc'] at hz
   by_cases ek:k=q
   ·subst ek
    rw [List.getElem?_set_self (by omega)] at hz
    cases hz
    rw [Array.getElem?_setIfInBounds_self_of_lt (by omega)]
   ·rw [List.getElem?_set_ne (Ne.symm ek)] at hz
    rw [Array.getElem?_setIfInBounds_ne (by omega)]
    exact hcell k z hz
  ·rw [List.getElem?_set_ne (Ne.symm e)] at hy
   simp only [if_neg e]
   obtain ⟨q0,q1,q2⟩:=h5 j y hy
   refine ⟨uq q0 (fV hty (by decide)),q1,fun k z hz=>?_⟩
   have hk:k < 4:=by have:=(gs1 hz).1;omega
   rw [Array.getElem?_setIfInBounds_ne (by rcases Nat.lt_or_gt_of_ne e with e | e <;> omega)]
   exact q2 k z hz
 refine ⟨g,cap,hv,h4,hty,?_,?_,fun j=>by simp [World.frozen?,hh],fun fl hf=>key 1 _ _ [.int .i64 m.uid,.int .i64 fl,.int .i64 m.seq,u] (by omega) (by rw [hc];rfl) ⟨u,rfl,hu,j0,hf,j2⟩,fun sq hs=>key 2 _ _ [.int .i64 m.uid,.int .i64 m.flags,.int .i64 sq,u] (by omega) (by rw [hc];rfl) ⟨u,rfl,hu,j0,j1,hs⟩⟩
 ·rw [cell_of_row w g _ cur _ (0,0) hh];exact hcell 1 _ (by rw [hc];rfl)
 ·rw [cell_of_row w g _ cur _ (0,0) hh];exact hcell 2 _ (by rw [hc];rfl)
/-- .. of a box behind a pointer. -/
theorem aK.dV {w:World} {S:Nat→Prop} {g o i:Nat} {b:aA} {m:aC} (h:aK w S g o b) (hm:b.ah[i]?=some m) :
  ∃ mb cap,w.cell? ⟨g,o+4,none⟩=some (.slice (some ⟨mb,0,none⟩) b.ah.length cap)∧mb < w.heap.size∧mb≠g∧S mb∧Ty w mb 72∧w.cell? ⟨mb,i * 4+1,none⟩=some (.int .i64 m.flags)∧w.cell? ⟨mb,i * 4+2,none⟩=some (.int .i64 m.seq)∧(∀ j,w.frozen? ⟨mb,j,none⟩=false) ∧
   (∀ fl,ay fl→aK (w.setCell ⟨mb,i * 4+1,none⟩ (.int .i64 fl)) S g o ⟨b.name,b.valid,b.next,b.seq,b.ah.set i ⟨m.uid,fl,m.seq,m.text⟩,b.au,b.lost⟩)∧(∀ sq,ay sq→aK (w.setCell ⟨mb,i * 4+2,none⟩ (.int .i64 sq)) S g o ⟨b.name,b.valid,b.next,b.seq,b.ah.set i ⟨m.uid,m.flags,sq,m.text⟩,b.au,b.lost⟩):=by
 have hb:=h.ty
 obtain ⟨cur,c,hh,⟨u0,u1,u2,e,h1,h2,h3,r⟩,hc⟩:=h
 obtain ⟨mb,cap,hv,hS,hty,k1,k2,hz,hf,hs⟩:=Xy h2 hm
 have hne:mb≠g:=fun e2=>by subst e2;obtain ⟨cs,fz,hq⟩:=hty;exact dO hq hb (by decide)
 have go:∀ (q:Nat) (x:Value) (ms:List aC),jc (w.setCell ⟨mb,q,none⟩ x) S u1 ms→aK (w.setCell ⟨mb,q,none⟩ x) S g o ⟨b.name,b.valid,b.next,b.seq,ms,b.au,b.lost⟩:=fun q x ms hms =>
  ⟨cur,c,cO hh (Ne.symm hne),⟨u0,u1,u2,e,jP h1 (fV hty (by decide)),hms,uw h3 (fV hty (by decide)),r⟩,hc⟩
 refine ⟨mb,cap,?_,jS hty,hne,hS,hty,k1,k2,hz,fun fl hf'=>go _ _ _ (hf fl hf'),fun sq hs'=>go _ _ _ (hs sq hs')⟩
 rw [cell_of_row w g _ cur _ (0,0) hh]
 rw [hc 4 u1 (by rw [e];rfl),hv]
/- A command that is read wherever the bytes stay. -/
/-- A text that is read wherever the bytes stay. -/
def oq (w:World) (v:Value) (l:List Int):Prop:=∀ w':World,w.heap.size≤w'.heap.size→bD w w' 5→Bs w' v l
theorem oq.bs {w:World} {v:Value} {l:List Int} (h:oq w v l):Bs w v l:=h w (Nat.le_refl _) (bD.refl _ _)
theorem oq.on {w w':World} {v:Value} {l:List Int} (h:oq w v l) (hs:w.heap.size≤w'.heap.size) (ht:bD w w' 5):oq w' v l:=fun w'' hs' ht'=>h w'' (Nat.le_trans hs hs') (ht.trans ht')
theorem oq.below {w w':World} {v:Value} {l:List Int} (h:oq w v l) (hb:Below w.heap.size w w'):oq w' v l:=h.on hb.size (fU hb)
/-- A command that is read wherever the bytes stay. -/
def qK (w:World) (v:Value) (c:dS):Prop :=
 ∃ u0 u1 u2,v=.agg #[.int .i64 c.k,u0,u1,.int .i64 c.uid,.int .i64 c.mode,.int .i64 c.fl,.int .i64 c.si,u2]∧oq w u0 c.bx∧oq w u1 c.tt∧oq w u2 c.tx∧ay c.k∧ay c.uid∧ay c.mode∧ay c.fl∧ay c.si
theorem qK.on {w w':World} {v:Value} {c:dS} (h:qK w v c) (hs:w.heap.size≤w'.heap.size) (ht:bD w w' 5):qK w' v c :=
 let ⟨u0,u1,u2,e,h0,h1,h2,r⟩:=h;⟨u0,u1,u2,e,h0.on hs ht,h1.on hs ht,h2.on hs ht,r⟩
theorem qK.below {w w':World} {v:Value} {c:dS} (h:qK w v c) (hb:Below w.heap.size w w'):qK w' v c:=h.on hb.size (fU hb)
/- A rY map beside an IB boxes, on lists: what a put, a delete, a dV that comes or goes make of it. -/
abbrev mF (l:List aC):Prop:=l.Pairwise (fun x y=>x.uid < y.uid)
theorem Pk {l:List aC} (hs:mF l) {i j:Nat} {x y:aC} (hi:l[i]?=some x) (hj:l[j]?=some y) (h:i < j):x.uid < y.uid:=by
 obtain ⟨hi',rfl⟩:=gs1 hi
 obtain ⟨hj',rfl⟩:=gs1 hj
 exact List.pairwise_iff_getElem.1 hs i j hi' hj' h
theorem Pm {l:List aC} (hs:mF l) {i j:Nat} {x y:aC} (hi:l[i]?=some x) (hj:l[j]?=some y) (h:x.uid=y.uid):i=j:=by
 rcases Nat.lt_trichotomy i j with h1 | h1 | h1
 ·have:=Pk hs hi hj h1;omega
 ·exact h1
 ·have:=Pk hs hj hi h1;omega
theorem IQ {l:List aC} (hs:mF l) (u:Int) (y:aC):l.find? (fun m=>decide (m.uid=u))=some y↔y ∈ l∧y.uid=u:=by
 constructor
 ·intro h
  exact ⟨List.mem_of_find?_eq_some h,by simpa using List.find?_some h⟩
 ·rintro ⟨h1,rfl⟩
  exact OL hs h1
theorem dG.iff {E:aU} {v:Int} {ms:List aC} (h:dG E v ms) {u:Int} (hu:ay u) (y:aC):bW E v u=some y↔y ∈ ms∧y.uid=u:=by
 rw [h.find u hu]
 exact IQ h.sorted u y
theorem Xz {α:Type} {a b:Option α} (h:∀ y,a=some y↔b=some y):a=b:=by
 cases a with
 | none =>
  cases b with
  | none=>rfl
  | some y=>exact absurd ((h y).2 rfl) (by simp)
 | some x=>exact ((h x).1 rfl).symm
theorem dG.of {E:aU} {v:Int} {ms:List aC} (hs:mF ms) (hi:∀ m ∈ ms,ay m.uid) (h:∀ u,ay u→∀ y,bW E v u=some y↔y ∈ ms∧y.uid=u):dG E v ms :=
 ⟨hs,hi,fun u hu=>Xz fun y=>(h u hu y).trans (IQ hs u y).symm⟩
theorem dG.IU {E:aU} {v v' u:Int} {m:aC} {ms:List aC} (h:dG E v' ms) (hne:v'≠v):dG (jQ E v u m) v' ms :=
 ⟨h.sorted,h.i64,fun x hx=>(zf fun e=>hne e.1).trans (h.find x hx)⟩
theorem dG.Pn {E:aU} {v v' u:Int} {ms:List aC} (h:dG E v' ms) (hne:v'≠v):dG (jY E v u) v' ms :=
 ⟨h.sorted,h.i64,fun x hx=>(AZ fun e=>hne e.1).trans (h.find x hx)⟩
theorem dG.XA {E:aU} {v v':Int} {ms ns:List aC} (h:dG E v' ms) (hne:v'≠v):dG (kP E v ns) v' ms:=by
 unfold kP
 induction ns generalizing E with
 | nil=>exact h
 | cons m ns ih=>exact ih (h.IU hne)
/-- A dV comes. -/
theorem dG.add {E:aU} {v:Int} {m:aC} {ms:List aC} (h:dG E v ms) (hi:ay m.uid) (hlt:∀ x ∈ ms,x.uid < m.uid):dG (jQ E v m.uid m) v (ms ++ [m]):=by
 refine .of ?_ ?_ fun u hu y=>?_
 ·refine List.pairwise_append.2 ⟨h.sorted,List.pairwise_singleton _ _,fun a ha b hb=>?_⟩
  rw [List.mem_singleton] at hb
  subst hb
  exact hlt a ha
 ·intro x hx
  rcases List.mem_append.1 hx with hx | hx
  ·exact h.i64 x hx
  ·rw [List.mem_singleton] at hx;subst hx;exact hi
 ·by_cases e:u=m.uid
  ·subst e
   rw [A8]
   constructor
   ·intro h1
    cases h1
    exact ⟨by simp,rfl⟩
   ·rintro ⟨h1,h2⟩
    rcases List.mem_append.1 h1 with h1 | h1
    ·have:=hlt y h1;omega
    ·rw [List.mem_singleton] at h1;rw [h1]
  ·rw [zf fun x=>e x.2,h.iff hu]
   constructor
   ·exact fun ⟨h1,h2⟩=>⟨List.mem_append_left _ h1,h2⟩
   ·rintro ⟨h1,h2⟩
    rcases List.mem_append.1 h1 with h1 | h1
    ·exact ⟨h1,h2⟩
    ·rw [List.mem_singleton] at h1;subst h1;exact absurd h2.symm e
/-- A dV is put in another's place, with its number. -/
theorem dG.set {E:aU} {v:Int} {m m':aC} {ms:List aC} {i:Nat} (h:dG E v ms) (hm:ms[i]?=some m) (hu:m'.uid=m.uid):dG (jQ E v m.uid m') v (ms.set i m'):=by
 have hil:=(gs1 hm).1
 have hmap:(ms.set i m').map (fun x=>x.uid)=ms.map (fun x=>x.uid):=by
  refine List.ext_getElem? fun j=>?_
  rw [List.getElem?_map,List.getElem?_map]
  by_cases e:j=i
  ·subst e
   rw [List.getElem?_set_self hil,hm]
   simp [hu]
  ·rw [List.getElem?_set_ne (Ne.symm e)]
 have hs:mF (ms.set i m'):=by
  have:=List.pairwise_map.2 h.sorted
  rw [← hmap] at this
  exact List.pairwise_map.1 this
 have ou:ay m.uid:=h.i64 m (List.mem_of_getElem? hm)
 refine .of hs ?_ fun u hu' y=>?_
 ·intro x hx
  obtain ⟨j,hj⟩:=List.mem_iff_getElem?.1 hx
  by_cases e:j=i
  ·subst e
   rw [List.getElem?_set_self hil] at hj
   cases hj
   rw [hu];exact ou
  ·rw [List.getElem?_set_ne (Ne.symm e)] at hj
   exact h.i64 x (List.mem_of_getElem? hj)
 ·by_cases e:u=m.uid
  ·subst e
   rw [A8]
   constructor
   ·intro h1
    cases h1
    exact ⟨List.mem_of_getElem? (List.getElem?_set_self hil),hu⟩
   ·rintro ⟨h1,h2⟩
    obtain ⟨j,hj⟩:=List.mem_iff_getElem?.1 h1
    have:=Pm hs hj (List.getElem?_set_self hil) (h2.trans hu.symm)
    subst this
    rw [List.getElem?_set_self hil] at hj
    exact hj
  ·rw [zf fun x=>e x.2,h.iff hu']
   constructor
   ·rintro ⟨h1,h2⟩
    obtain ⟨j,hj⟩:=List.mem_iff_getElem?.1 h1
    refine ⟨List.mem_of_getElem? (i:=j) ?_,h2⟩
    rw [List.getElem?_set_ne]
    ·exact hj
    ·intro e2
     subst e2
     rw [hm] at hj
     cases hj
     exact e h2.symm
   ·rintro ⟨h1,h2⟩
    obtain ⟨j,hj⟩:=List.mem_iff_getElem?.1 h1
    by_cases e2:j=i
    ·subst e2
     rw [List.getElem?_set_self hil] at hj
     cases hj
     exact absurd (h2.symm.trans hu) e
    ·rw [List.getElem?_set_ne (Ne.symm e2)] at hj
     exact ⟨List.mem_of_getElem? hj,h2⟩
/-- A dV goes. -/
theorem dG.del {E:aU} {v:Int} {m:aC} {ms:List aC} {i:Nat} (h:dG E v ms) (hm:ms[i]?=some m):dG (jY E v m.uid) v (ms.take i ++ ms.drop (i+1)):=by
 rw [← List.eraseIdx_eq_take_drop_succ]
 refine .of (h.sorted.sublist (List.eraseIdx_sublist _ _)) (fun x hx=>h.i64 x (List.mem_of_mem_eraseIdx hx)) fun u hu y=>?_
 by_cases e:u=m.uid
 ·subst e
  rw [Em]
  constructor
  ·intro h1;cases h1
  ·rintro ⟨h1,h2⟩
   obtain ⟨j,hj,hy⟩:=List.mem_eraseIdx_iff_getElem?.1 h1
   exact absurd (Pm h.sorted hy hm h2) hj
 ·rw [AZ fun x=>e x.2,h.iff hu]
  constructor
  ·rintro ⟨h1,h2⟩
   obtain ⟨j,hj⟩:=List.mem_iff_getElem?.1 h1
   refine ⟨List.mem_eraseIdx_iff_getElem?.2 ⟨j,?_,hj⟩,h2⟩
   intro e2
   subst e2
   rw [hm] at hj
   cases hj
   exact e h2.symm
  ·exact fun ⟨h1,h2⟩=>⟨List.mem_of_mem_eraseIdx h1,h2⟩
theorem dG.lay {E:aU} {v:Int} {ms:List aC} (hs:mF ms) (hi:∀ m ∈ ms,ay m.uid) (h0:∀ u,ay u→bW E v u=none):dG (kP E v ms) v ms :=
 ⟨hs,hi,fun u hu=>by rw [Xd hs u,h0 u hu,Option.or_none];rfl⟩
/-- The dV with a number goes out of a box. -/
def xM (b:aA) (u:Int):aA:=match b.ah.findIdx? (fun m=>decide (m.uid=u)) with
 | some i=>aV b i
 | none=>b
theorem Po {ms:List aC} (hs:mF ms) {i:Nat} {m:aC} (hm:ms[i]?=some m):ms.findIdx? (fun x=>decide (x.uid=m.uid))=some i:=by
 obtain ⟨hi,rfl⟩:=gs1 hm
 refine List.findIdx?_eq_some_iff_getElem.2 ⟨hi,by simp,fun j hj=>?_⟩
 have:=List.pairwise_iff_getElem.1 hs j i (by omega) hi hj
 simp only [decide_eq_true_eq]
 omega
theorem Pp {b:aA} (hs:mF b.ah) {i:Nat} {m:aC} (hm:b.ah[i]?=some m):xM b m.uid=aV b i:=by
 unfold xM
 rw [Po hs hm]
theorem IV {b:aA} {i:Nat} {m:aC} (hm:b.ah[i]?=some m):(aV b i).ah=b.ah.take i ++ b.ah.drop (i+1):=by
 unfold aV
 rw [hm]
theorem XB {l:List aC} (hs:mF l) (i:Nat):mF (l.take i ++ l.drop (i+1)):=by
 rw [← List.eraseIdx_eq_take_drop_succ]
 exact hs.sublist (List.eraseIdx_sublist _ _)
/-- afW: the marked ones go, one behind the other. -/
theorem IW:∀ (n:Nat) (b:aA) (i:Nat),mF b.ah→n+i=b.ah.length→gD n b i=(((b.ah.drop i).filter fD).map fun m=>m.uid).foldl xM b
 | 0,b,i,hs,hn=>by
  rw [List.drop_eq_nil_of_le (by omega)]
  rfl
 | n+1,b,i,hs,hn=>by
  have hi:i < b.ah.length:=by omega
  have hm:=aL hi
  rw [gD,hm,List.drop_eq_getElem_cons hi]
  generalize b.ah[i]=m at hm
  cases hd:fD m with
  | true =>
   have e1:=IV hm
   rw [List.filter_cons_of_pos hd,List.map_cons,List.foldl_cons,Pp hs hm]
   show (if fD m=true then _ else _)=_
   rw [if_pos hd,IW n (aV b i) i (by rw [e1];exact XB hs i) (by rw [e1];simp;omega),e1]
   rw [List.drop_left' (by simp;omega)]
  | false =>
   rw [List.filter_cons_of_neg (by simp [hd])]
   show (if fD m=true then _ else _)=_
   rw [if_neg (by simp [hd])]
   exact IW n b (i+1) hs (by omega)
/- A gP: an account that the program's commands work on; its ah lie in a map, whose texts are an earlier world's. -/
/-- A box at the gP: its name and those that went lie in its own blocks; its ah lie in the map alone. -/
def pV (w:World) (c:List Value) (b:aA) (S:Nat→Prop):Prop :=
 ∃ u0 u2,c=[u0,.int .i64 b.valid,.int .i64 b.next,.int .i64 b.seq,.slice none 0 0,u2,.int .i64 b.lost]∧RO w S u0 b.name∧fM w S u2 b.au∧ay b.valid∧ay b.next∧ay b.seq∧ay b.lost
theorem mG:Frames pV:=fun w w' c b S ⟨u0,u2,e,h1,h2,r⟩ hw=>⟨u0,u2,e,h1.frame hw,IL h2 hw,r⟩
abbrev oC:=Ow 34 7 pV
/-- What a call turns that is given the gP. -/
def iV (w w':World) (S:Nat→Prop) (gd g:Nat):Prop :=
 w.heap.size≤w'.heap.size∧(∀ k,k < w.heap.size→k≠gd→k≠g→¬ S k→w'.heap[k]?=w.heap[k]?)∧w'.os=w.os∧w'.tape=w.tape∧w'.output=w.output
structure aT (wt w:World) (S:Nat→Prop) (gd g n:Nat) (a:aF) (u0 u1:Value) (E:aU):Prop where
 base:Below wt.heap.size wt w
 cells:w.heap[gd]?=some (.cells #[.int .i64 a.valid,u0,.map (some g),u1] 80 (0,0))
 boxes:oC w S u0 a.boxes
 map:MR wt w g n E
 seen:eY w (fun k=>wt.heap.size≤k) u1 a.seen
 ents:∀ b ∈ a.boxes,dG E b.valid b.ah
 high:∀ e ∈ E,e.1≤a.valid
 dist:a.boxes.Pairwise (fun x y=>x.valid≠y.valid)
 low:∀ k,S k→wt.heap.size≤k∧k < w.heap.size∧k≠gd∧k≠g∧u1.ownBlock≠some k
 nH:wt.heap.size≤gd∧wt.heap.size≤g
 i64:ay a.valid
section
variable {wt w w' w'' : World} {S S' : Nat → Prop} {gd g n : Nat} {a : aF} {u0 u1 : Value} {E : aU}
theorem iV.trans (h:iV w w' S gd g) (h':iV w' w'' S' gd g) (hS:∀ k,S' k→S k∨w.heap.size≤k):iV w w'' S gd g :=
 ⟨Nat.le_trans h.1 h'.1,fun k hk h1 h2 h3=>(h'.2.1 k (Nat.lt_of_lt_of_le hk h.1) h1 h2 (fun h4=>(hS k h4).elim h3 (by omega))).trans (h.2.1 k hk h1 h2 h3),h'.2.2.1.trans h.2.2.1,h'.2.2.2.1.trans h.2.2.2.1,h'.2.2.2.2.trans h.2.2.2.2⟩
theorem fZ (h:Below w.heap.size w w'):iV w w' S gd g:=⟨h.size,fun k hk _ _ _=>h.block k hk,h.os,h.tape,h.output⟩
theorem xO {l:List Int} (h:eY w S u1 l):(u1=.slice none 0 0∧l=[])∨∃ gs,u1.ownBlock=some gs∧Ty w gs 3:=by
 rcases h with h | ⟨gs,cap,cur,cs,fs,hv,hh,-⟩
 ·exact .inl h
 ·exact .inr ⟨gs,by rw [hv];rfl,⟨_,_,hh⟩⟩
/-- Whatever turns elsewhere. -/
theorem aT.kept (h:aT wt w S gd g n a u0 u1 E) (hsz:w.heap.size≤w'.heap.size) (hb:Below wt.heap.size wt w') (hk:∀ k,k < w.heap.size→k=gd∨k=g∨S k∨u1.ownBlock=some k→w'.heap[k]?=w.heap[k]?):aT wt w' S gd g n a u0 u1 E where
 base:=hb
 cells:=(hk gd (lt_of_heap h.cells) (.inl rfl)).trans h.cells
 boxes:=h.boxes.frame mG fun k hs hlt=>hk k hlt (.inr (.inr (.inl hs)))
 map:=h.map.kept (hk g h.map.lt (.inr (.inl rfl)))
 seen:=by
  rcases h.seen with h' | ⟨gs,cap,cur,cs,fs,hv,hh,h1,h2,h3,h4,h5,h6,h7⟩
  ·exact .inl h'
  ·refine .inr ⟨gs,cap,cur,cs,fs,hv,(hk gs (lt_of_heap hh) (.inr (.inr (.inr (by rw [hv];rfl))))).trans hh,h1,h2,h3,h4,fun i x hx=>?_,h6,h7⟩
   exact h5 i x hx
 ents:=h.ents
 high:=h.high
 dist:=h.dist
 low:=fun k hs=>let ⟨h1,h2,r⟩:=h.low k hs;⟨h1,Nat.lt_of_lt_of_le h2 hsz,r⟩
 nH:=h.nH
 i64:=h.i64
theorem aT.below (h:aT wt w S gd g n a u0 u1 E) (hb:Below w.heap.size w w'):aT wt w' S gd g n a u0 u1 E :=
 h.kept hb.size (Below.step h.base hb) fun k hk _=>hb.block k hk
end
/- A rY box is written anew, a dV comes into the map or goes out of it. -/
/-- One element of a list is written anew; it may get blocks that were not there. -/
theorem Ow.XC {α:Type} {t:TypeId} {sz:Nat} {E:World→List Value→α→(Nat→Prop)→Prop} {w:World} {S:Nat→Prop} {v:Value} {l:List α} (hE:Frames E) (h:Ow t sz E w S v l) (hS:∀ b,S b→b < w.heap.size) (i:Nat) (x:α) (hx:l[i]?=some x) :
  ∃ (g cap:Nat) (cur:Array Value) (c:List Value) (f:Nat→Prop),v=.slice (some ⟨g,0,none⟩) l.length cap∧l.length≤cap∧cap≤maxLen∧w.heap[g]?=some (.cells cur t (0,0))∧i * sz+sz≤cur.size∧S g∧E w c x f∧c.length=sz ∧
   (∀ j u,c[j]?=some u→cur[i * sz+j]?=some u)∧(∀ b,f b→S b∧b≠g) ∧
   ∀ (w':World) (cur':Array Value) (c':List Value) (x':α) (f':Nat→Prop),w'.heap[g]?=some (.cells cur' t (0,0))→cur'.size=cur.size→(∀ j u,c'[j]?=some u→cur'[i * sz+j]?=some u)→(∀ m,m < i * sz∨i * sz+sz≤m→cur'[m]?=cur[m]?)→c'.length=sz →
    (∀ b,b < w.heap.size→b≠g→¬ f b→w'.heap[b]?=w.heap[b]?)→E w' c' x' f'→(∀ b,f' b→f b∨w.heap.size≤b)→Ow t sz E w' (fun b=>S b∨f' b) v (l.set i x'):=by
 have hi:i < l.length:=(gs1 hx).1
 rcases h with ⟨-,rfl⟩ | ⟨g,cap,cur,cs,fs,hv,hh,h1,h2,h3,h4,h5,h6,h7⟩
 ·simp at hi
 ·obtain ⟨e1,e2,e3⟩:=h5 i x hx
  have hroom:i * sz+sz≤cur.size:=by
   have:=Nat.mul_le_mul_right sz (show i+1≤cap by omega)
   rw [Nat.add_mul,Nat.one_mul] at this
   omega
  refine ⟨g,cap,cur,cs i,fs i,hv,h1,h2,hh,hroom,h4,e1,e2,e3,fun b hb=>h6 i b hi hb,?_⟩
  intro w' cur' c' x' f' k1 k2 k3 k4 k5 k6 k7 k8
  refine .inr ⟨g,cap,cur',fun n=>if n=i then c' else cs n,fun n=>if n=i then f' else fs n,by rw [List.length_set];exact hv,k1,by rw [List.length_set];exact h1,h2,by omega,.inl h4,fun n y hy=>?_,fun n b hn hb=>?_,fun n m b hn hm hne hb hb'=>?_⟩
  ·by_cases hni:n=i
   ·subst hni
    rw [List.getElem?_set_self hi] at hy
    cases hy
    simp only [if_true]
    exact ⟨k7,k5,k3⟩
   ·rw [List.getElem?_set_ne (fun e=>hni e.symm)] at hy
    simp only [if_neg hni]
    have hn:n < l.length:=(gs1 hy).1
    obtain ⟨q1,q2,q3⟩:=h5 n y hy
    refine ⟨hE _ _ _ _ _ q1 fun b hb hlt=>k6 b hlt (h6 n b hn hb).2 (fun hf=>h7 n i b hn hi hni hb hf),q2,fun j u hu=>?_⟩
    have hj:j < sz:=by have:=(gs1 hu).1;omega
    rw [k4]
    ·exact q3 j u hu
    ·rcases Nat.lt_or_gt_of_ne hni with hlt | hgt
     ·have:=Nat.mul_le_mul_right sz (show n+1≤i by omega)
      rw [Nat.add_mul,Nat.one_mul] at this
      exact .inl (by omega)
     ·have:=Nat.mul_le_mul_right sz (show i+1≤n by omega)
      rw [Nat.add_mul,Nat.one_mul] at this
      exact .inr (by omega)
  ·rw [List.length_set] at hn
   by_cases hni:n=i
   ·subst hni
    simp only [if_true] at hb
    refine ⟨.inr hb,fun e=>?_⟩
    subst e
    rcases k8 _ hb with h | h
    ·exact (h6 n _ hn h).2 rfl
    ·have:=lt_of_heap hh;omega
   ·simp only [if_neg hni] at hb
    exact ⟨.inl (h6 n b hn hb).1,(h6 n b hn hb).2⟩
  ·rw [List.length_set] at hn hm
   by_cases hni:n=i
   ·subst hni
    simp only [if_true] at hb
    rw [if_neg (Ne.symm hne)] at hb'
    rcases k8 _ hb with h | h
    ·exact h7 n m b hn hm hne h hb'
    ·have:=hS b (h6 m b hm hb').1;omega
   ·rw [if_neg hni] at hb
    by_cases ou:m=i
    ·subst ou
     simp only [if_true] at hb'
     rcases k8 _ hb' with h | h
     ·exact h7 n m b hn hm hne hb h
     ·have:=hS b (h6 n b hn hb).1;omega
    ·rw [if_neg ou] at hb'
     exact h7 n m b hn hm hne hb hb'
section
variable {wt w w' : World} {S S' : Nat → Prop} {gd g n : Nat} {a : aF} {u0 u1 : Value} {E : aU} {i : Nat} {b : aA}
theorem Pq {l:List aA} {b b':aA} {i:Nat} (h:l.Pairwise (fun x y=>x.valid≠y.valid)) (hb:l[i]?=some b) (hv:b'.valid=b.valid):(l.set i b').Pairwise (fun x y=>x.valid≠y.valid):=by
 have hmap:(l.set i b').map (fun x=>x.valid)=l.map (fun x=>x.valid):=by
  refine List.ext_getElem? fun j=>?_
  rw [List.getElem?_map,List.getElem?_map]
  by_cases e:j=i
  ·subst e
   rw [List.getElem?_set_self (gs1 hb).1,hb]
   simp [hv]
  ·rw [List.getElem?_set_ne (Ne.symm e)]
 have h2:(l.map fun x=>x.valid).Pairwise (·≠·):=List.pairwise_map.2 h
 rw [← hmap] at h2
 exact List.pairwise_map.1 h2
theorem XD {α:Type} {l:List α} {i:Nat} {x y:α} (h:y ∈ l.set i x):y=x∨y ∈ l:=(List.mem_or_eq_of_mem_set h).symm
/-- The i-th box: where it lies, and what gives the gP back behind a write to it. -/
theorem aT.box (h:aT wt w S gd g n a u0 u1 E) (hb:a.boxes[i]?=some b) :
  ∃ (gb cap:Nat) (cur:Array Value) (c:List Value) (f:Nat→Prop),u0=.slice (some ⟨gb,0,none⟩) a.boxes.length cap∧a.boxes.length≤cap∧cap≤maxLen∧w.heap[gb]?=some (.cells cur 34 (0,0))∧i * 7+7≤cur.size∧S gb∧pV w c b f∧c.length=7 ∧
   (∀ j u,c[j]?=some u→cur[i * 7+j]?=some u)∧(∀ k,f k→S k∧k≠gb) ∧
   ∀ (w':World) (cur':Array Value) (c':List Value) (b':aA) (f':Nat→Prop),w.heap.size≤w'.heap.size→Below wt.heap.size wt w'→w'.heap[gb]?=some (.cells cur' 34 (0,0))→cur'.size=cur.size→(∀ j u,c'[j]?=some u→cur'[i * 7+j]?=some u)→(∀ m,m < i * 7∨i * 7+7≤m→cur'[m]?=cur[m]?)→c'.length=7 →
    (∀ k,k < w.heap.size→k≠gb→¬ f k→w'.heap[k]?=w.heap[k]?)→pV w' c' b' f'→(∀ k,f' k→f k∨w.heap.size≤k∧k < w'.heap.size)→b'.valid=b.valid→b'.ah=b.ah→aT wt w' (fun k=>S k∨f' k) gd g n (aH a i b') u0 u1 E:=by
 obtain ⟨gb,cap,cur,c,f,e1,e2,e3,e4,e5,e6,e7,e8,e9,e10,e11⟩:=h.boxes.XC mG (fun k hk=>(h.low k hk).2.1) i b hb
 refine ⟨gb,cap,cur,c,f,e1,e2,e3,e4,e5,e6,e7,e8,e9,e10,?_⟩
 intro w' cur' c' b' f' k0 k1 k2 k3 k4 k5 k6 k7 k8 k9 k10 k11
 have hd:=h.low gb e6
 have hne:∀ k,k < w.heap.size→¬ S k→w'.heap[k]?=w.heap[k]?:=fun k hk hs=>k7 k hk (fun e=>hs (e ▸ e6)) fun hf=>hs (e10 k hf).1
 refine ⟨k1,?_,e11 w' cur' c' b' f' k2 k3 k4 k5 k6 k7 k8 fun k hk=>(k9 k hk).elim .inl fun h=>.inr h.1,?_,?_,?_,h.high,Pq h.dist hb k10,?_,h.nH,h.i64⟩
 ·exact (hne gd (lt_of_heap h.cells) fun hs=>(h.low gd hs).2.2.1 rfl).trans h.cells
 ·exact h.map.kept (hne g h.map.lt fun hs=>(h.low g hs).2.2.2.1 rfl)
 ·rcases h.seen with h' | ⟨gs,cp,cu,cs,fs,hv,hh,h1,h2,h3,h4,h5,h6,h7⟩
  ·exact .inl h'
  ·refine .inr ⟨gs,cp,cu,cs,fs,hv,(hne gs (lt_of_heap hh) fun hs=>(h.low gs hs).2.2.2.2 (by rw [hv];rfl)).trans hh,h1,h2,h3,h4,fun j x hx=>?_,h6,h7⟩
   exact h5 j x hx
 ·intro x hx
  rcases XD hx with rfl | hx
  ·rw [k10,k11]
   exact h.ents b (List.mem_of_getElem? hb)
  ·exact h.ents x hx
 ·intro k hk
  have hold:S k→wt.heap.size≤k∧k < w'.heap.size∧k≠gd∧k≠g∧u1.ownBlock≠some k:=fun hs=>let ⟨h1,h2,r⟩:=h.low k hs;⟨h1,Nat.lt_of_lt_of_le h2 k0,r⟩
  rcases hk with hk | hk
  ·exact hold hk
  ·rcases k9 k hk with hf | ⟨hf,hlt⟩
   ·exact hold (e10 k hf).1
   ·have q1:=lt_of_heap h.cells
    have q2:=h.map.lt
    have q3:=h.base.size
    refine ⟨by omega,hlt,by omega,by omega,fun e=>?_⟩
    rcases xO h.seen with ⟨e',-⟩ | ⟨gs,e',ht⟩
    ·rw [e'] at e;simp [Value.ownBlock] at e
    ·rw [e'] at e
     cases e
     obtain ⟨_,_,ht⟩:=ht
     have:=lt_of_heap ht
     omega
end
/- A rY box is read; a field of it is written; a dV comes into the map or goes out of it. -/
section
variable {wt w w' : World} {S S' : Nat → Prop} {gd g n n' : Nat} {a : aF} {u0 u1 : Value} {E E' : aU} {i gb cap : Nat} {b b' : aA}
theorem aT.read (h:aT wt w S gd g n a u0 u1 E) (hb:a.boxes[i]?=some b) :
  ∃ (gb cap:Nat) (v0 v5:Value) (f:Nat→Prop),u0=.slice (some ⟨gb,0,none⟩) a.boxes.length cap∧a.boxes.length≤cap∧cap≤maxLen∧gb < w.heap.size∧S gb∧(∀ j,w.frozen? ⟨gb,j,none⟩=false) ∧
   (w.cell? ⟨gb,i * 7,none⟩=some v0∧w.cell? ⟨gb,i * 7+1,none⟩=some (.int .i64 b.valid)∧w.cell? ⟨gb,i * 7+2,none⟩=some (.int .i64 b.next)∧w.cell? ⟨gb,i * 7+3,none⟩=some (.int .i64 b.seq)∧w.cell? ⟨gb,i * 7+4,none⟩=some (.slice none 0 0)∧w.cell? ⟨gb,i * 7+5,none⟩=some v5∧w.cell? ⟨gb,i * 7+6,none⟩=some (.int .i64 b.lost)) ∧
   RO w f v0 b.name∧fM w f v5 b.au∧(∀ k,f k→S k∧k≠gb)∧ay b.valid∧ay b.next∧ay b.seq∧ay b.lost:=by
 obtain ⟨gb,cap,cur,c,f,e1,e2,e3,e4,e5,e6,⟨v0,v5,rfl,r1,r2,r3⟩,e8,e9,e10,-⟩:=h.box hb
 have hc:=fun j=>cell_of_row w gb j cur _ (0,0) e4
 exact ⟨gb,cap,v0,v5,f,e1,e2,e3,lt_of_heap e4,e6,fun j=>frozen_of_row w gb j _ _ e4,⟨(hc _).trans (e9 0 _ rfl),(hc _).trans (e9 1 _ rfl),(hc _).trans (e9 2 _ rfl),(hc _).trans (e9 3 _ rfl),(hc _).trans (e9 4 _ rfl),(hc _).trans (e9 5 _ rfl),(hc _).trans (e9 6 _ rfl)⟩,r1,r2,e10,r3⟩
/-- A field is written. -/
theorem aT.put (h:aT wt w S gd g n a u0 u1 E) (hb:a.boxes[i]?=some b) (hu:u0=.slice (some ⟨gb,0,none⟩) a.boxes.length cap) (j:Nat) (hj:j < 7) (v:Value) (hv:b'.valid=b.valid) (hm:b'.ah=b.ah) (hq:∀ c f,pV w c b f→pV w (c.set j v) b' f) :
  aT wt (w.setCell ⟨gb,i * 7+j,none⟩ v) S gd g n (aH a i b') u0 u1 E:=by
 obtain ⟨dJ,cap',cur,c,f,e1,e2,e3,e4,e5,e6,e7,e8,e9,e10,e11⟩:=h.box hb
 rw [hu] at e1
 simp only [Value.slice.injEq,Option.some.injEq,Addr.mk.injEq,and_true,true_and] at e1
 obtain ⟨rfl,rfl⟩:=e1
 have hgb:=h.low gb e6
 have hfr:∀ k,k≠gb→(w.setCell ⟨gb,i * 7+j,none⟩ v).heap[k]?=w.heap[k]?:=fun k hk=>Below.heap_setCell w ⟨gb,i * 7+j,none⟩ v k hk
 have:=e11 (w.setCell ⟨gb,i * 7+j,none⟩ v) (cur.setIfInBounds (i * 7+j) v) (c.set j v) b' f (by rw [bf];exact Nat.le_refl _) (Below.setCell h.base hgb.1 _) (aJ e4) (Array.size_setIfInBounds ..) (fun k u hk=>?_) (fun m hm=>Array.getElem?_setIfInBounds_ne (by omega)) (by rw [List.length_set];exact e8) (fun k _ hk _=>hfr k hk) (mG _ _ _ _ _ (hq c f e7) fun k hk _=>hfr k (e10 k hk).2) (fun k hk=>.inl hk) hv hm
 ·have e:(fun k=>S k∨f k)=S:=funext fun k=>propext ⟨fun h=>h.elim id fun h=>(e10 k h).1,.inl⟩
  rw [e] at this
  exact this
 ·by_cases e:k=j
  ·subst e
   rw [List.getElem?_set_self (by omega)] at hk
   cases hk
   rw [Array.getElem?_setIfInBounds_self_of_lt (by omega)]
  ·rw [List.getElem?_set_ne (Ne.symm e)] at hk
   rw [Array.getElem?_setIfInBounds_ne (by omega)]
   exact e9 k u hk
theorem aT.EH (h:aT wt w S gd g n a u0 u1 E) (hb:a.boxes[i]?=some b) (hu:u0=.slice (some ⟨gb,0,none⟩) a.boxes.length cap) {x:Int} (hx:ay x):aT wt (w.setCell ⟨gb,i * 7+2,none⟩ (.int .i64 x)) S gd g n (aH a i ⟨b.name,b.valid,x,b.seq,b.ah,b.au,b.lost⟩) u0 u1 E :=
 h.put hb hu 2 (by omega) _ rfl rfl fun c f ⟨v0,v5,e,h1,h2,i0,i1,i2,i3⟩=>⟨v0,v5,by rw [e];rfl,h1,h2,i0,hx,i2,i3⟩
theorem aT.su (h:aT wt w S gd g n a u0 u1 E) (hb:a.boxes[i]?=some b) (hu:u0=.slice (some ⟨gb,0,none⟩) a.boxes.length cap) {x:Int} (hx:ay x):aT wt (w.setCell ⟨gb,i * 7+3,none⟩ (.int .i64 x)) S gd g n (aH a i ⟨b.name,b.valid,b.next,x,b.ah,b.au,b.lost⟩) u0 u1 E :=
 h.put hb hu 3 (by omega) _ rfl rfl fun c f ⟨v0,v5,e,h1,h2,i0,i1,i2,i3⟩=>⟨v0,v5,by rw [e];rfl,h1,h2,i0,i1,hx,i3⟩
theorem aT.EI (h:aT wt w S gd g n a u0 u1 E) (hb:a.boxes[i]?=some b) (hu:u0=.slice (some ⟨gb,0,none⟩) a.boxes.length cap) {x:Int} (hx:ay x):aT wt (w.setCell ⟨gb,i * 7+6,none⟩ (.int .i64 x)) S gd g n (aH a i ⟨b.name,b.valid,b.next,b.seq,b.ah,b.au,x⟩) u0 u1 E :=
 h.put hb hu 6 (by omega) _ rfl rfl fun c f ⟨v0,v5,e,h1,h2,i0,i1,i2,i3⟩=>⟨v0,v5,by rw [e];rfl,h1,h2,i0,i1,i2,hx⟩
theorem XE {v:Value} {l:List aA} (h:oC w S v l) (hb:l[i]?=some b) (ms:List aC):oC w S v (l.set i ⟨b.name,b.valid,b.next,b.seq,ms,b.au,b.lost⟩):=by
 have hi:i < l.length:=(gs1 hb).1
 rcases h with ⟨-,rfl⟩ | ⟨g,cap,cur,cs,fs,hv,hh,h1,h2,h3,h4,h5,h6,h7⟩
 ·simp at hi
 ·refine .inr ⟨g,cap,cur,cs,fs,by rw [List.length_set];exact hv,hh,by rw [List.length_set];exact h1,h2,h3,h4,fun j y hy=>?_,by rw [List.length_set];exact h6,by rw [List.length_set];exact h7⟩
  by_cases e:j=i
  ·subst e
   rw [List.getElem?_set_self hi] at hy
   cases hy
   exact h5 j b hb
  ·rw [List.getElem?_set_ne (Ne.symm e)] at hy
   exact h5 j y hy
/-- The map is turned at one rV ah. -/
theorem aT.mapped (h:aT wt w S gd g n a u0 u1 E) (hb:a.boxes[i]?=some b) (hG:w.grownBy w' (some g)) (hM:MR wt w' g n' E') {ms:List aC} (hE:dG E' b.valid ms) (hO:∀ v ms,v≠b.valid→dG E v ms→dG E' v ms) (hh:∀ e ∈ E',e.1≤a.valid) :
  aT wt w' S gd g n' (aH a i ⟨b.name,b.valid,b.next,b.seq,ms,b.au,b.lost⟩) u0 u1 E':=by
 have hk:∀ k,k < w.heap.size→k≠g→w'.heap[k]?=w.heap[k]?:=fun k hk hne=>hG.block k hk fun e=>hne (Option.some.inj e)
 have hgd:gd≠g:=fun e=>by
  subst e
  obtain ⟨D,⟨es,c,e1,-⟩,-⟩:=h.map
  rw [h.cells] at e1
  cases e1
 refine ⟨Ig h.base hG h.nH.2,(hk gd (lt_of_heap h.cells) hgd).trans h.cells,XE (h.boxes.frame mG fun k hs hlt=>hk k hlt (h.low k hs).2.2.2.1) hb ms,hM,?_,fun x hx=>?_,hh,Pq h.dist hb rfl,fun k hs=>let ⟨h1,h2,r⟩:=h.low k hs;⟨h1,Nat.lt_of_lt_of_le h2 hG.size,r⟩,h.nH,h.i64⟩
 ·rcases h.seen with h' | ⟨gs,cp,cu,cs,fs,hv,hh,h1,h2,h3,h4,h5,h6,h7⟩
  ·exact .inl h'
  ·refine .inr ⟨gs,cp,cu,cs,fs,hv,(hk gs (lt_of_heap hh) fun e=>?_).trans hh,h1,h2,h3,h4,fun j x hx=>?_,h6,h7⟩
   ·subst e
    obtain ⟨D,⟨es,c,e1,-⟩,-⟩:=h.map
    rw [hh] at e1
    cases e1
   ·exact h5 j x hx
 ·obtain ⟨j,hj⟩:=List.mem_iff_getElem?.1 hx
  by_cases e:j=i
  ·subst e
   rw [aH,List.getElem?_set_self (gs1 hb).1] at hj
   cases hj
   exact hE
  ·rw [aH,List.getElem?_set_ne (Ne.symm e)] at hj
   refine hO _ _ (fun e2=>?_) (h.ents x (List.mem_of_getElem? hj))
   obtain ⟨hi',rfl⟩:=gs1 hb
   obtain ⟨hj',rfl⟩:=gs1 hj
   rcases Nat.lt_or_gt_of_ne e with hlt | hgt
   ·exact List.pairwise_iff_getElem.1 h.dist j i hj' hi' hlt e2
   ·exact List.pairwise_iff_getElem.1 h.dist i j hi' hj' hgt e2.symm
end
/- One more that went, put behind those of a rY box; the oldest cut off. -/
section
variable {wt w w' : World} {S S' : Nat → Prop} {gd g n n' : Nat} {a : aF} {u0 u1 : Value} {E E' : aU} {i gb cap : Nat} {b b' : aA}
/-- The row of those that went is another, in blocks of the rV own or new ones; the field is written behind it. -/
theorem aT.au (h:aT wt w S gd g n a u0 u1 E) (hb:a.boxes[i]?=some b) (hu:u0=.slice (some ⟨gb,0,none⟩) a.boxes.length cap) {v5 v:Value} {gs:List bB} (uy:w.cell? ⟨gb,i * 7+5,none⟩=some v5)
  (hw:∀ f:Nat→Prop,fM w f v5 b.au→∃ f':Nat→Prop,fM w' f' v gs∧(∀ k,f' k→f k∨w.heap.size≤k∧k < w'.heap.size)∧(∀ k,f k→f' k)∧(∀ k,k < w.heap.size→¬ (f k∧Ty w k 70)→w'.heap[k]?=w.heap[k]?)) (hsz:w.heap.size≤w'.heap.size) (hbw:Below wt.heap.size wt w') :
  ∃ S':Nat→Prop,aT wt (w'.setCell ⟨gb,i * 7+5,none⟩ v) S' gd g n (aH a i ⟨b.name,b.valid,b.next,b.seq,b.ah,gs,b.lost⟩) u0 u1 E∧(∀ k,S' k→S k∨w.heap.size≤k):=by
 obtain ⟨dJ,cap',cur,c,f,e1,e2,e3,e4,e5,e6,⟨v0,vJ,rfl,r1,r2,r3⟩,e8,e9,e10,e11⟩:=h.box hb
 rw [hu] at e1
 simp only [Value.slice.injEq,Option.some.injEq,Addr.mk.injEq,and_true,true_and] at e1
 obtain ⟨rfl,rfl⟩:=e1
 have e5':=e9 5 _ rfl
 rw [cell_of_row w gb _ cur _ (0,0) e4,e5'] at uy
 cases uy
 obtain ⟨f',q1,q2,q2',q3⟩:=hw f r2
 have hgb:=h.low gb e6
 have hgt:Ty w gb 34:=⟨_,_,e4⟩
 have k0:w'.heap[gb]?=w.heap[gb]?:=q3 gb hgb.2.1 fun hh=>(e10 gb hh.1).2 rfl
 have k1:w'.heap[gb]?=some (.cells cur 34 (0,0)):=k0.trans e4
 have k2:Ty w' gb 34:=⟨_,_,k1⟩
 have hne:∀ k,k≠gb→(w'.setCell ⟨gb,i * 7+5,none⟩ v).heap[k]?=w'.heap[k]?:=fun k hk=>Below.heap_setCell w' ⟨gb,i * 7+5,none⟩ v k hk
 have k3:RO w' f v0 b.name:=jP r1 fun k ht=>q3 k (jS ht) fun hh=>by
  obtain ⟨_,_,h1⟩:=ht
  exact dO h1 hh.2 (by decide)
 have hD:pV (w'.setCell ⟨gb,i * 7+5,none⟩ v) [v0,.int .i64 b.valid,.int .i64 b.next,.int .i64 b.seq,.slice none 0 0,v,.int .i64 b.lost] ⟨b.name,b.valid,b.next,b.seq,b.ah,gs,b.lost⟩ f' :=
  ⟨v0,v,rfl,jP (k3.mono q2') (fV k2 (by decide)),uw q1 (fV k2 (by decide)),r3⟩
 refine ⟨fun k=>S k∨f' k,e11 (w'.setCell ⟨gb,i * 7+5,none⟩ v) (cur.setIfInBounds (i * 7+5) v) _ _ f' (by rw [bf];exact hsz) (Below.setCell hbw hgb.1 _) (aJ k1) (Array.size_setIfInBounds ..) (fun k u hk=>?_) (fun m hm=>Array.getElem?_setIfInBounds_ne (by omega)) rfl (fun k hk h1 h2=>(hne k h1).trans (q3 k hk fun hh=>h2 hh.1)) hD (fun k hk=>by rw [bf];exact q2 k hk) rfl rfl,fun k hk=>hk.elim .inl fun h=>(q2 k h).elim (fun h=>.inl (e10 k h).1) fun h=>.inr h.1⟩
 by_cases e:k=5
 ·subst e
  cases hk
  rw [Array.getElem?_setIfInBounds_self_of_lt (by omega)]
 ·rw [Array.getElem?_setIfInBounds_ne (by omega)]
  refine e9 k u ?_
  match k,hk with
  | 0,hk=>exact hk
  | 1,hk=>exact hk
  | 2,hk=>exact hk
  | 3,hk=>exact hk
  | 4,hk=>exact hk
  | 5,hk=>exact absurd rfl e
  | 6,hk=>exact hk
  | k+7,hk=>simp at hk
/-- Behind the append. -/
theorem Pt {v v':Value} {l:List bB} {x0 x1:Int} (hp:xL w w' v v' l x0 x1) (i0:ay x0) (i1:ay x1) {f:Nat→Prop} (h:fM w f v l) :
  ∃ f':Nat→Prop,fM w' f' v' (l ++ [⟨x0,x1⟩])∧(∀ k,f' k→f k∨w.heap.size≤k∧k < w'.heap.size)∧(∀ k,f k→f' k)∧(∀ k,k < w.heap.size→¬ (f k∧Ty w k 70)→w'.heap[k]?=w.heap[k]?):=by
 rcases hp with ⟨q,off,m,c,rfl,hm,hc,rfl,rfl⟩ | ⟨hb,hO⟩
 ·obtain ⟨hf,cur,hh,-⟩:=h.2 _ _ _ rfl
  refine ⟨f,Ph h hm hc i0 i1,fun k hk=>.inl hk,fun k hk=>hk,fun k _ hk=>?_⟩
  have hne:k≠q:=fun e=>hk (by subst e;exact ⟨hf,_,_,hh⟩)
  rw [Below.heap_setCell _ _ _ _ (show k≠_ from hne),Below.heap_setCell _ _ _ _ (show k≠_ from hne)]
 ·refine ⟨fun k=>f k∨(w.heap.size≤k∧k < w'.heap.size),(EG (EF hO)).mono fun k hk=>.inr hk,fun k hk=>hk,fun k hk=>.inl hk,fun k hk _=>hb.block k hk⟩
theorem XF {v v':Value} {l:List bB} {x0 x1:Int} (hp:xL w w' v v' l x0 x1) {f:Nat→Prop} (h:fM w f v l) {B:Nat} {wt:World} (hf:∀ k,f k→B≤k) (hB:Below B wt w) (hBw:B≤w.heap.size):Below B wt w'∧w.heap.size≤w'.heap.size:=by
 rcases hp with ⟨q,off,m,c,rfl,hm,hc,rfl,rfl⟩ | ⟨hb,hO⟩
 ·obtain ⟨h1,-⟩:=h.2 _ _ _ rfl
  have h2:B≤q:=hf q h1
  exact ⟨Below.setCell (p:=⟨q,off+m * 2+1,none⟩) (Below.setCell (p:=⟨q,off+m * 2,none⟩) hB h2 _) h2 _,by rw [bf,bf];exact Nat.le_refl _⟩
 ·exact ⟨⟨hb.os.trans hB.os,hb.tape.trans hB.tape,hb.output.trans hB.output,Nat.le_trans hB.size hb.size,fun k hk=>(hb.block k (by omega)).trans (hB.block k hk)⟩,hb.size⟩
end
/- What a gP tells of a box: whether a dV that came would have its numbers; how many ah it has. -/
theorem Pv (gb o:Nat) (b:aA) (w:World) (c2:w.cell? ⟨gb,o+2,none⟩=some (.int .i64 b.next)) (c3:w.cell? ⟨gb,o+3,none⟩=some (.int .i64 b.seq)) (hl:gb < w.heap.size) :
  Calls Tryz.prog 73 #[.pointer (some ⟨gb,o,none⟩)] w fun e w'=>e=.returned (.bool (decide (b.seq < 1000000) && decide (b.next < 1000000)))∧w'=w:=by
 by_cases h1:b.seq < 1000000
 ·go_enter Tryz.func73,Tryz.ntmps73
  go_wp2
  go_ret
  exact ⟨aP (by simp [h1]),rfl⟩
 ·go_enter Tryz.func73,Tryz.ntmps73
  go_wp2
  go_ret
  exact ⟨aP (by rw [decide_eq_false (show ¬ b.seq < 1000000 by omega)];rfl),rfl⟩
theorem IX (wt w:World) (S:Nat→Prop) (gd g n i gb cap:Nat) (a:aF) (b:aA) (u0 u1:Value) (E:aU) (h:aT wt w S gd g n a u0 u1 E) (hb:a.boxes[i]?=some b) (hu:u0=.slice (some ⟨gb,0,none⟩) a.boxes.length cap) (hn:n≤2000000) (h12:b.ah.length≤12) :
  Calls Tryz.prog 48 #[.pointer (some ⟨gd,0,none⟩),.pointer (some ⟨gb,i * 7,none⟩)] w fun e w'=>e=.returned (.int .i64 b.ah.length)∧Below w.heap.size w w':=by
 obtain ⟨dJ,cap',v0,v5,f,e1,-,-,hlb,-,-,⟨-,c1,-⟩,-,-,-,i0,-⟩:=h.read hb
 rw [hu] at e1
 simp only [Value.slice.injEq,Option.some.injEq,Addr.mk.injEq,and_true,true_and] at e1
 obtain ⟨rfl,rfl⟩:=e1
 have hE:=h.ents b (List.mem_of_getElem? hb)
 have bE:=lt_of_heap h.cells
 have d2:w.cell? ⟨gd,2,none⟩=some (.map (some g)):=(cell_of_row w gd 2 _ _ (0,0) h.cells).trans rfl
 have HC:Hid (∀ w',Below w.heap.size w w'→Calls Tryz.prog 70 #[.map (some g),.int .i64 b.valid] w' fun e w''=>∃ kv,e=.returned kv∧xB w'' kv ((b.ah.map fun m=>m.uid).map fun u=>(b.valid,u))∧Below w'.heap.size w' w''):=fun w' hw=>OD g n E b.valid (b.ah.map fun m=>m.uid) w' ((h.below hw).map.mm (h.below hw).base) hn i0 (List.pairwise_map.2 hE.sorted) hE.mem (by simpa using h12)
 have HS:Hid (∀ w',Below w.heap.size w w'→w'.cell? ⟨gd,2,none⟩=some (.map (some g))∧w'.cell? ⟨gb,i * 7+1,none⟩=some (.int .i64 b.valid)):=fun w' hw=>⟨(hw.cell (p:=⟨gd,2,none⟩) bE).trans d2,(hw.cell (p:=⟨gb,i * 7+1,none⟩) hlb).trans c1⟩
 clear h hb hE
 have DR:Below w.heap.size w w.drew:=(bd _ _)
 have hl1:gd < w.drew.heap.size:=bE
 have hl2:gb < w.drew.heap.size:=hlb
 go_enter Tryz.func48,Tryz.ntmps48
 go_wp2
 go_region_held3 (fun w'=>w'.cell? ⟨gd,2,none⟩=some (.map (some g))∧w'.cell? ⟨gb,i * 7+1,none⟩=some (.int .i64 b.valid))
  (first | exact HS.out _ DR | exact HS.out _ (Below.step DR B1) | go_keep)
  ((go_at_call 70;refine (HC.out _ DR).mono ?_;rintro e w1 ⟨kv,rfl,K1,B1⟩;obtain ⟨ka,kc,rfl,-⟩:=K1.form))
 go_wp2
 go_ret
 exact ⟨kG (by simp),Below.step DR B1⟩
end Go.Proofs.YtmglhdkeidhafaaGreat
