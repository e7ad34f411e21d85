/- The proof's texts, part 33. -/
import Derived.Test.YtfabngnaejjcmaaGreatDoorTo
import Derived.ArgAppend
namespace Go.Proofs.YtfabngnaejjcmaaGreatDoor
open Go.RowKit
set_option linter.unusedVariables false
set_option linter.unusedSimpArgs false
/- A box behind a pointer: a jC of its list is written. -/
/-- One cell of a jC in the list's block is written. -/
theorem afC {w:World} {S:Nat->Prop} {v:Value} {l:List aL} (h:jq w S v l) {i:Nat} {m:aL} (hm:l[i]?=some m) :
  ∃mb cap,v=.slice (some ⟨mb,0,none⟩) l.length cap/\S mb/\Ty w mb 77/\w.cell? ⟨mb,i * 4+1,none⟩=some (.int .i64 m.flags)/\w.cell? ⟨mb,i * 4+2,none⟩=some (.int .i64 m.seq)/\(∀j,w.frozen? ⟨mb,j,none⟩=false) /\
   (∀fl,av fl->jq (w.setCell ⟨mb,i * 4+1,none⟩ (.int .i64 fl)) S v (l.set i ⟨m.uid,fl,m.seq,m.text⟩))/\(∀sq,av sq->jq (w.setCell ⟨mb,i * 4+2,none⟩ (.int .i64 sq)) S v (l.set i ⟨m.uid,m.flags,sq,m.text⟩)):=by
 have hi:i < l.length:=(gs1 hm).1;rcases h with⟨-,h⟩ | ⟨g,cap,cur,cs,fs,hv,hh,h1,h2,h3,h4,h5,h6,h7⟩
 ·subst h;simp at hm
 obtain⟨⟨u,hc,hu,j0,j1,j2⟩,hl,hcell⟩:=h5 i m hm;have hty:Ty w g 77:=⟨_,_,hh⟩;have hsz:i * 4+4<=cur.size:=by rw[h3];omega
 have key:∀(q:Nat) (x:Value) (m':aL) (c':List Value),q < 4->c'=(cs i).set q x->tF w c' m' Any->jq (w.setCell ⟨g,i * 4+q,none⟩ x) S v (l.set i m'):=by
  intro q x m' c' hq hc' hm';refine .inr ⟨g,cap,_,λj=>if j=i then c' else cs j,λ_ _=>False,by rw[List.length_set];exact hv,aD hh,by rw[List.length_set];exact h1,h2,by rw[Array.size_setIfInBounds];exact h3,h4,λj y hy=>?_,by simp,by simp⟩
  by_cases e:j=i
  ·subst e
   rw[List.getElem?_set_self hi] at hy;cases hy
   simp only[if_pos];refine⟨vB hm' (gJ hty (by decide)),by rw[hc',List.length_set];exact hl,λk z hz=>?_⟩;rw[hc'] at hz
   by_cases ek:k=q
   ·subst ek
    rw[List.getElem?_set_self (by omega)] at hz;cases hz
    rw[Array.getElem?_setIfInBounds_self_of_lt (by omega)]
   ·rw[List.getElem?_set_ne (Ne.symm ek)] at hz
    rw[Array.getElem?_setIfInBounds_ne (by omega)];exact hcell k z hz
  ·rw[List.getElem?_set_ne (Ne.symm e)] at hy
   simp only[if_neg e];obtain⟨q0,q1,q2⟩:=h5 j y hy;refine⟨vB q0 (gJ hty (by decide)),q1,λk z hz=>?_⟩;have hk:k < 4:=by have:=(gs1 hz).1;omega
   rw[Array.getElem?_setIfInBounds_ne (by rcases Nat.lt_or_gt_of_ne e with e | e <;> omega)];exact q2 k z hz
 refine⟨g,cap,hv,h4,hty,?_,?_,λj=>by simp[World.frozen?,hh],λfl hf=>key 1 _ _ [.int .i64 m.uid,.int .i64 fl,.int .i64 m.seq,u] (by omega) (by rw[hc];rfl) ⟨u,rfl,hu,j0,hf,j2⟩,λsq hs=>key 2 _ _ [.int .i64 m.uid,.int .i64 m.flags,.int .i64 sq,u] (by omega) (by rw[hc];rfl) ⟨u,rfl,hu,j0,j1,hs⟩⟩
 ·rw[cell_of_row w g _ cur _ (0,0) hh];exact hcell 1 _ (by rw[hc];rfl)
 ·rw[cell_of_row w g _ cur _ (0,0) hh];exact hcell 2 _ (by rw[hc];rfl)
/-- .. of a box behind a pointer. -/
theorem aG.jC {w:World} {S:Nat->Prop} {g o i:Nat} {b:aB} {m:aL} (h:aG w S g o b) (hm:b.ah[i]?=some m) :
  ∃mb cap,w.cell? ⟨g,o+4,none⟩=some (.slice (some ⟨mb,0,none⟩) b.ah.length cap)/\mb < w.heap.size/\mb≠g/\S mb/\Ty w mb 77/\w.cell? ⟨mb,i * 4+1,none⟩=some (.int .i64 m.flags)/\w.cell? ⟨mb,i * 4+2,none⟩=some (.int .i64 m.seq)/\(∀j,w.frozen? ⟨mb,j,none⟩=false) /\
   (∀fl,av fl->aG (w.setCell ⟨mb,i * 4+1,none⟩ (.int .i64 fl)) S g o ⟨b.name,b.valid,b.next,b.seq,b.ah.set i ⟨m.uid,fl,m.seq,m.text⟩,b.au,b.lost⟩)/\(∀sq,av sq->aG (w.setCell ⟨mb,i * 4+2,none⟩ (.int .i64 sq)) S g o ⟨b.name,b.valid,b.next,b.seq,b.ah.set i ⟨m.uid,m.flags,sq,m.text⟩,b.au,b.lost⟩):=by
 have hb:=h.ty;obtain⟨cur,c,hh,⟨u0,u1,u2,e,h1,h2,h3,r⟩,hc⟩:=h;obtain⟨mb,cap,hv,hS,hty,k1,k2,hz,hf,hs⟩:=afC h2 hm;have hne:mb≠g:=λe2=>by subst e2;obtain⟨cs,fz,hq⟩:=hty;exact dX hq hb (by decide)
 have go:∀(q:Nat) (x:Value) (ms:List aL),jq (w.setCell ⟨mb,q,none⟩ x) S u1 ms->aG (w.setCell ⟨mb,q,none⟩ x) S g o ⟨b.name,b.valid,b.next,b.seq,ms,b.au,b.lost⟩:=λq x ms hms =>
  ⟨cur,c,eB hh (Ne.symm hne),⟨u0,u1,u2,e,lM h1 (gJ hty (by decide)),hms,xu h3 (gJ hty (by decide)),r⟩,hc⟩
 refine⟨mb,cap,?_,kK hty,hne,hS,hty,k1,k2,hz,λfl hf'=>go _ _ _ (hf fl hf'),λsq hs'=>go _ _ _ (hs sq hs')⟩;rw[cell_of_row w g _ cur _ (0,0) hh];rw[hc 4 u1 (by rw[e];rfl),hv]
/- A command that is read wherever the bytes stay. -/
/-- A text that is read wherever the bytes stay. -/
def qM (w:World) (v:Value) (l:List Int):Prop:=∀w':World,w.heap.size<=w'.heap.size->aY w w' 5->Bs w' v l
theorem qM.bs {w:World} {v:Value} {l:List Int} (h:qM w v l):Bs w v l:=h w (Nat.le_refl _) (aY.refl _ _)
theorem qM.on {w w':World} {v:Value} {l:List Int} (h:qM w v l) (hs:w.heap.size<=w'.heap.size) (ht:aY w w' 5):qM w' v l:=λw'' hs' ht'=>h w'' (Nat.le_trans hs hs') (ht.trans ht')
theorem qM.below {w w':World} {v:Value} {l:List Int} (h:qM w v l) (hb:Below w.heap.size w w'):qM w' v l:=h.on hb.size (fT hb)
/-- A command that is read wherever the bytes stay. -/
def vJ (w:World) (v:Value) (c:gP):Prop :=
 ∃u0 u1 u2,v=.agg #[.int .i64 c.k,u0,u1,.int .i64 c.uid,.int .i64 c.mode,.int .i64 c.fl,.int .i64 c.si,u2]/\qM w u0 c.bx/\qM w u1 c.tt/\qM w u2 c.tx/\av c.k/\av c.uid/\av c.mode/\av c.fl/\av c.si
theorem vJ.on {w w':World} {v:Value} {c:gP} (h:vJ w v c) (hs:w.heap.size<=w'.heap.size) (ht:aY w w' 5):vJ w' v c :=
 let ⟨u0,u1,u2,e,h0,h1,h2,r⟩:=h;⟨u0,u1,u2,e,h0.on hs ht,h1.on hs ht,h2.on hs ht,r⟩
theorem vJ.below {w w':World} {v:Value} {c:gP} (h:vJ w v c) (hb:Below w.heap.size w w'):vJ w' v c:=h.on hb.size (fT hb)
/- What commands leave of an account stays small, on lists. -/
/-- A box as drawn commands leave one. -/
def fI (x:aB):Prop:=x.name.length<=6/\x.ah.length<=12/\(∀m ∈ x.ah,m.text.length<=30)/\x.au.length<=40
def nZ (a:aT):Prop:=a.boxes.length<=4/\∀x ∈ a.boxes,fI x
theorem WZ {l:List aL} (h:∀m ∈ l,m.text.length<=30):iq l<=31 * l.length:=by
 induction l with
 | nil=>simp[iq]
 | cons m l ih =>
  have h1:=h m (by simp);have h2:=ih λm hm=>h m (by simp[hm]);simp only[iq,List.map_cons,List.sum_cons,List.length_cons] at h2 ⊢;omega
theorem fI.sz {x:aB} (h:fI x):bG x<=900000:=by
 have:=WZ h.2.2.1;have h1:=h.1;have h2:=h.2.1;have h4:=h.2.2.2;unfold bG;omega
theorem nZ.set {a:aT} {k:Nat} {b:aB} (h:nZ a) (hb:fI b):nZ (eY a k b):=by
 refine⟨by simpa [eY] using h.1,λx hx=>?_⟩;rcases List.mem_or_eq_of_mem_set hx with hx | rfl
 ·exact h.2 x hx
 ·exact hb
theorem afD (l:List bE):∀lost:Int,(iQ lost l).2.length<=40:=by
 induction l with
 | nil=>intro _;simp[iQ]
 | cons x l ih =>
  intro lost;rw[iQ]
  split
  ·exact ih x.seq
  ·simp only[List.length_cons];omega
theorem fI.seq {b:aB} (h:fI b):fI (eH b):=h
theorem fI.drop {b:aB} {i:Nat} (h:fI b):fI (dK b i)/\(dK b i).ah.length<=b.ah.length/\(i < b.ah.length->(dK b i).ah.length+1=b.ah.length):=by
 unfold dK;cases hm:b.ah[i]? with
 | none =>
  have:=List.getElem?_eq_none_iff.1 hm;exact⟨h,Nat.le_refl _,λh=>by omega⟩
 | some m =>
  have hi:=(gs1 hm).1;have hl:(b.ah.take i ++ b.ah.drop (i+1)).length+1=b.ah.length:=by rw[List.length_append,List.length_take,List.length_drop];omega
  refine⟨⟨h.1,by simp only;have:=h.2.1;omega,λx hx=>?_,afD _ _⟩,by simp only;omega,λ_=>hl⟩;rcases List.mem_append.1 hx with hx | hx
  ·exact h.2.2.1 x (List.mem_of_mem_take hx)
  ·exact h.2.2.1 x (List.mem_of_mem_drop hx)
theorem fI.add {b:aB} {fl:Int} {tx:List Int} (h:fI b) (hm:b.ah.length+1<=12) (ht:tx.length<=30):fI (qK b fl tx):=by
 refine⟨h.1,by simpa [qK] using hm,λm hx=>?_,h.2.2.2⟩;simp only[qK,List.mem_append,List.mem_singleton] at hx;rcases hx with hx | rfl
 ·exact h.2.2.1 m hx
 ·exact ht
theorem fI.store {b:aB} {uid mode fl si:Int} (h:fI b):fI (tC b uid mode fl si).1:=by
 unfold tC
 split
 ·exact h
 ·split
  ·exact h
  ·rename_i i _ m hm
   split
   ·exact h
   ·split
    ·exact h
    ·split
     ·exact h
     ·refine⟨h.1,by simpa using h.2.1,λx hx=>?_,h.2.2.2⟩
      rcases List.mem_or_eq_of_mem_set hx with hx | rfl
      ·exact h.2.2.1 x hx
      ·exact h.2.2.1 m (List.mem_of_getElem? hm)
theorem fI.loop:∀(n:Nat) (b:aB) (i:Nat),fI b->fI (lC n b i)
 | 0,b,_,h=>h
 | n+1,b,i,h=>by
  rw[lC]
  split
  ·exact h
  ·split
   ·exact fI.loop n _ _ h.drop.1
   ·exact fI.loop n _ _ h
theorem fI.exp {b:aB} (h:fI b):fI (mQ b).1:=by
 unfold mQ
 split
 ·exact h
 ·split
  ·exact h
  ·exact fI.loop _ _ _ h.seq
theorem room_le {b:aB} {n:Int} (h:fJ b n=true):(b.ah.length:Int)+n<=12:=by
 simp only[fJ,Bool.and_eq_true,decide_eq_true_eq] at h;exact h.2.2
theorem nZ.copy {a:aT} {k:Nat} {b:aB} {tt:List Int} {uid mode:Int} (h:nZ a) (hb:a.boxes[k]?=some b):nZ (Cb a k b tt uid mode).1:=by
 have hbx:=h.2 b (List.mem_of_getElem? hb);unfold Cb
 split
 ·rename_i i t hi ht
  split
  ·rename_i m bt hm hbt
   have hil:=(gs1 hm).1;have hmt:=hbx.2.2.1 m (List.mem_of_getElem? hm)
   by_cases hno:fJ bt (if mode=1/\t=k then 0 else 1)=false\/(mode=1/\999999<=b.seq)
   ·rw[if_pos hno];exact h
   ·rw[if_neg hno]
    have hroom:fJ bt (if mode=1/\t=k then 0 else 1)=true:=by
     cases hr:fJ bt (if mode=1/\t=k then 0 else 1) with
     | true=>rfl
     | false=>exact absurd (Or.inl hr) hno
    have hle:=room_le hroom;have h1:nZ (if mode=1 then eY a k (dK (eH b) i) else a):=by
     split
     ·exact h.set hbx.seq.drop.1
     ·exact h
    simp only;cases hbu:(if mode=1 then eY a k (dK (eH b) i) else a).boxes[t]? with
    | some bu =>
     refine h1.set (fI.add (h1.2 bu (List.mem_of_getElem? hbu)) ?_ hmt)
     by_cases hm1:mode=1
     ·rw[if_pos hm1] at hbu
      simp only[eY] at hbu
      by_cases htk:t=k
      ·subst htk
       have hkl:=(gs1 hb).1;rw[List.getElem?_set_self hkl] at hbu;cases hbu
       have hd:=(hbx.seq.drop (i:=i)).2.2 hil;have ak7:=hbx.2.1;have xD:(eH b).ah.length=b.ah.length:=rfl;omega
      ·rw[List.getElem?_set_ne (Ne.symm htk),hbt] at hbu
       cases hbu
       rw[if_neg (λh=>htk h.2)] at hle;omega
     ·rw[if_neg hm1,hbt] at hbu
      cases hbu
      rw[if_neg (λh=>hm1 h.1)] at hle;omega
    | none=>exact h1
  ·exact h
 ·exact h
theorem afE {a:aT} {c:gP} (h:nZ a) (hb:c.bx.length<=6) (ht:c.tx.length<=30):nZ (lY a c).1:=by
 unfold lY
 split
 ·unfold ER
  split
  ·exact h
  ·split
   ·exact h
   ·rename_i hf
    have h4:a.boxes.length < 4:=by omega
    refine⟨?_,λx hx=>?_⟩
    ·have:=congrArg List.length (List.takeWhile_append_dropWhile (p:=λx:aB=>ku x.name c.bx) (l:=a.boxes))
     rw[List.length_append] at this;simp only[List.length_append,List.length_cons];omega
    ·simp only[List.mem_append,List.mem_cons] at hx
     rcases hx with hx | rfl | hx
     ·exact h.2 x ((List.takeWhile_sublist _).subset hx)
     ·exact⟨hb,by simp,by simp,by simp⟩
     ·exact h.2 x ((List.dropWhile_sublist _).subset hx)
 ·split
  ·exact h
  ·split
   ·exact h
   ·split
    ·exact h
    ·rename_i k _ b hk
     have hx:=h.2 b (List.mem_of_getElem? hk)
     split
     ·refine⟨?_,λx hx=>?_⟩
      ·have:=h.1
       simp only[List.length_append,List.length_take,List.length_drop];omega
      ·rcases List.mem_append.1 hx with hx | hx
       ·exact h.2 x (List.mem_of_mem_take hx)
       ·exact h.2 x (List.mem_of_mem_drop hx)
     split
     ·split
      ·rename_i hr
       exact h.set (hx.add (by have:=room_le hr;omega) ht)
      ·exact h
     split
     ·exact h.set hx.store
     split
     ·exact h.set hx.exp
     split
     ·exact h.copy hk
     split
     ·exact h
     split
     ·exact h
     split
     ·exact h
     ·exact h
/- A list of those that went, its block among given ones: whatever else turns; one more put behind in place. -/
section
variable {w w' : World} {S : Nat -> Prop} {v : Value}
theorem W9 {l:List bE} (h:iR w S v l) (hm:∀k,S k->k < w.heap.size->w'.heap[k]?=w.heap[k]?):iR w' S v l:=by
 obtain⟨⟨a,cap,cs,hv,h1,h2,h3,h4,h5⟩,hty⟩:=h;refine⟨⟨a,cap,cs,hv,h1,h2,h3,h4,λhp=>?_⟩,λa n c e=>let ⟨h1,cur,hh,r⟩:=hty a n c e;⟨h1,cur,(hm _ h1 (lt_of_heap hh)).trans hh,r⟩⟩;obtain⟨b,off,ha,hb,hc⟩:=h5 hp;obtain⟨k1,cells,hh,-⟩:=hty ⟨b,off,none⟩ l.length cap (by rw[hv,ha]);have hh':=(hm b k1 (lt_of_heap hh)).trans hh;refine⟨b,off,ha,lt_of_heap hh',λi j u hi hu=>?_⟩;have:=hc i j u hi hu;rw[cell_of_row w b _ cells _ (0,0) hh] at this;rw[cell_of_row w' b _ cells _ (0,0) hh'];exact this
/-- One more that went, put behind in place. -/
theorem afF {l:List bE} {q off n c:Nat} {x0 x1:Int} (h:iR w S (.slice (some ⟨q,off,none⟩) n c) l) (hn:n=l.length) (hc:n+1<=c) (i0:av x0) (i1:av x1) :
  iR ((w.setCell ⟨q,off+n * 2,none⟩ (.int .i64 x0)).setCell ⟨q,off+n * 2+1,none⟩ (.int .i64 x1)) S (.slice (some ⟨q,off,none⟩) (n+1) c) (l ++ [⟨x0,x1⟩]):=by
 obtain⟨⟨a,cap,cs,hv,h1,h2,h3,h4,h5⟩,hty⟩:=h;simp only[Value.slice.injEq] at hv;obtain⟨rfl,-,rfl⟩:=hv;obtain⟨hS,cur,hh,-,hs⟩:=hty ⟨q,off,none⟩ n c rfl;simp only at hS hh hs;have hk:=aD (i:=off+n * 2+1) (v:=.int .i64 x1) (aD (i:=off+n * 2) (v:=.int .i64 x0) hh);refine⟨⟨some ⟨q,off,none⟩,c,λi=>if i=n then [.int .i64 x0,.int .i64 x1] else cs i,by rw[List.length_append];simp[hn],by rw[List.length_append];simp;omega,h2,(λe=>by cases e),λi x hx=>?_,λ_=>⟨q,off,rfl,lt_of_heap hk,λi j u hi hu=>?_⟩⟩,λa n' c' e=>?_⟩
 ·by_cases e:i=n
  ·subst e
   rw[hn,List.getElem?_append_right (Nat.le_refl _),Nat.sub_self] at hx;simp only[List.getElem?_cons_zero,Option.some.injEq] at hx;subst hx;simp only[if_pos];exact⟨⟨rfl,i0,i1⟩,rfl⟩
  ·have hlt:i < l.length:=by
    have:=(gs1 hx).1;rw[List.length_append] at this;simp at this;omega
   rw[List.getElem?_append_left hlt] at hx;simp only[if_neg e];exact h4 i x hx
 ·rw[List.length_append] at hi
  simp at hi;rw[cell_of_row _ q _ _ _ (0,0) hk]
  by_cases e:i=n
  ·subst e
   simp only[if_pos] at hu
   match j,hu with
   | 0,hu =>
    simp only[List.getElem?_cons_zero,Option.some.injEq] at hu;subst hu;rw[Array.getElem?_setIfInBounds_ne (by omega),Nat.add_zero,Array.getElem?_setIfInBounds_self_of_lt (by omega)]
   | 1,hu =>
    simp only[List.getElem?_cons_succ,List.getElem?_cons_zero,Option.some.injEq] at hu;subst hu;rw[Array.getElem?_setIfInBounds_self_of_lt (by rw[Array.size_setIfInBounds];omega)]
   | j+2,hu=>simp at hu
  ·simp only[if_neg e] at hu
   have hil:i < l.length:=by omega
   obtain⟨b,off',ha,-,hcell⟩:=h5 (by omega);simp only[Option.some.injEq,Addr.mk.injEq,and_true] at ha;obtain⟨rfl,rfl⟩:=ha;have hjl:j < 2:=by
    have h6:=(gs1 hu).1;have h7:=(h4 i l[i] (bK hil)).2;omega
   have:=hcell i j u hil hu;rw[cell_of_row w q _ cur _ (0,0) hh] at this;rw[Array.getElem?_setIfInBounds_ne (by omega),Array.getElem?_setIfInBounds_ne (by omega)];exact this
 ·simp only[Value.slice.injEq,Option.some.injEq] at e
  obtain⟨rfl,-,rfl⟩:=e;exact⟨hS,_,hk,rfl,by simp only[Array.size_setIfInBounds];exact hs⟩
end
/- One more that went, put behind those that went: in place where there is room, else behind a copy. -/
/-- What the append leaves: the same block with one more, or a row of its own. -/
def JY (w w':World) (v v':Value) (l:List bE) (x0 x1:Int):Prop :=
 (∃q off n c,v=.slice (some ⟨q,off,none⟩) n c/\n=l.length/\n+1<=c/\v'=.slice (some ⟨q,off,none⟩) (n+1) c/\w'=(w.setCell ⟨q,off+n * 2,none⟩ (.int .i64 x0)).setCell ⟨q,off+n * 2+1,none⟩ (.int .i64 x1)) \/
 (Below w.heap.size w w'/\lI w' (λk=>w.heap.size<=k) v' (l ++ [⟨x0,x1⟩]))
theorem afG {w:World} {S:Nat->Prop} {v:Value} {l:List bE} (h:iR w S v l) (hl:l.length<=1000) (ty:TypeId) (ad:Addr) (cc:Nat) {x0 x1:Int} (hcell:∀j u,[Value.int .i64 x0,Value.int .i64 x1][j]?=some u->w.cell? (ad.add j)=some u) (i0:av x0) (i1:av x1) :
  ∃v' w',(Builtin.append_ #[68,68] ty #[v,.slice (some ad) 1 cc]).run Tryz.prog w=.ok v' w'/\JY w w' v v' l x0 x1:=by
 obtain⟨i,hi,hz0,hz1,hz2⟩:=info_parts GQ;have hone:∀u ∈ [Value.int .i64 x0,Value.int .i64 x1],u.oneCell'=true:=by simp[Value.oneCell']
 have hb1:l.length+1<=maxLen:=by unfold maxLen;omega
 have hb2:(l.length+1) * 16<=140737488355328:=by omega
 have fin:∀(v':Value) (w':World) (xs:List Value),w.grownBy w' none->w'.ownsRow w.heap.size 115 2 v' (l.length+1) (xs ++ [.int .i64 x0,.int .i64 x1])->xs.length=l.length * 2->(∀i x,l[i]?=some x->∃c,c.length=2/\Ab w c x/\∀j y,c[j]?=some y->xs[i * 2+j]?=some y)->JY w w' v v' l x0 x1:=λv' w' xs hG hO hxl hx=>by
  refine .inr ⟨⟨hG.os,hG.tape,hG.output,hG.size,λk hk=>hG.block k hk (by simp)⟩,K3 (w0:=w) (by rw[List.length_append];exact hO) (λi m h=>?_) (λk hk=>dS hO hk)⟩
  by_cases hlt:i < l.length
  ·rw[List.getElem?_append_left hlt] at h
   obtain⟨c,h1,h2,h3⟩:=hx i m h;refine⟨c,h1,h2,λj y hy=>?_⟩;have:=h3 j y hy;rw[List.getElem?_append_left (gs1 this).1];exact this
  ·rw[List.getElem?_append_right (by omega)] at h
   have hi0:i=l.length:=by
    have:=(gs1 h).1;simp at this;omega
   subst hi0;simp only[Nat.sub_self,List.getElem?_cons_zero,Option.some.injEq] at h;subst h;refine⟨[.int .i64 x0,.int .i64 x1],rfl,⟨rfl,i0,i1⟩,λj y hy=>?_⟩;rw[List.getElem?_append_right (by omega),show l.length * 2+j - xs.length=j by omega];exact hy
 obtain⟨⟨a,cap,cs,hv,h1,h2,h3,h4,h5⟩,hty⟩:=h;cases a with
 | none =>
  obtain rfl:=h3 rfl;obtain rfl:l=[]:=List.eq_nil_of_length_eq_zero (by omega);subst hv;obtain⟨v',w',hr,hO,hG,-⟩:=run_append_own (P:=Tryz.prog) w w.heap.size 68 ty 115 i _ 2 16 Tryz.underlying68 hi hz0 hz1 hz2 rfl (by omega) (.slice none 0 0) 0 [] (World.ownsRow_nil w _ _ _) ad 1 cc [.int .i64 x0,.int .i64 x1] rfl hcell hone (by unfold maxLen;omega) (by omega) (Nat.le_refl _);exact⟨v',w',hr,fin v' w' [] hG hO rfl (λi x hx=>by simp at hx)⟩
 | some a =>
  obtain⟨-,cur,hh,hsp,hs⟩:=hty a l.length cap hv;obtain⟨q,off,sp⟩:=a;simp only at hsp hh hs;subst hsp;subst hv
  by_cases hroom:l.length+1<=cap
  ·have hsz:i.size=2:=hz1
   have:=run_append_room_cells (P:=Tryz.prog) w 68 ty 115 i Tryz.underlying68 hi q off l.length cap ad 1 cc [.int .i64 x0,.int .i64 x1] (by rw[hsz];rfl) hcell hone hroom (λj hj=>by
    rw[cell_of_row w q _ cur _ (0,0) hh,hsz];simp only[List.length_cons,List.length_nil] at hj;rw[Array.getElem?_eq_getElem (by omega)];rfl) (λj _=>frozen_of_row w q _ cur _ hh)
   rw[hsz] at this;exact⟨_,_,this,.inl ⟨q,off,l.length,cap,rfl,rfl,hroom,rfl,rfl⟩⟩
  ·have hol:((cur.toList.drop off).take (l.length * 2)).length=l.length * 2:=by
    have hcl:cur.toList.length=cur.size:=Array.length_toList;rw[List.length_take,List.length_drop,hcl];omega
   obtain⟨v',w',hr,hO,hG⟩:=run_append_arg_grows (P:=Tryz.prog) w 68 ty 115 i _ 2 16 Tryz.underlying68 hi hz0 hz1 hz2 rfl (by omega) ⟨q,off,none⟩ l.length cap ((cur.toList.drop off).take (l.length * 2)) hol (λj u hu=>by
    rw[Addr.add_lit,cell_of_row w q _ cur _ (0,0) hh];rw[List.getElem?_take] at hu
    split at hu
    ·rw[List.getElem?_drop] at hu;simpa using hu
    ·cases hu) ad 1 cc [.int .i64 x0,.int .i64 x1] rfl hcell (by omega) hb1 hb2
   refine⟨v',w',hr,fin v' w' _ hG hO hol (λp x hx=>?_)⟩;have hp:=(gs1 hx).1;obtain⟨hc,hcl⟩:=h4 p x hx;refine⟨cs p,hcl,hc,λj y hy=>?_⟩;obtain⟨b',off',ha,-,hcells⟩:=h5 (by omega);simp only[Option.some.injEq,Addr.mk.injEq,and_true] at ha;obtain⟨rfl,rfl⟩:=ha;have hj:=(gs1 hy).1;have:=hcells p j y hp hy;rw[cell_of_row w q _ cur _ (0,0) hh] at this;rw[List.getElem?_take,if_pos (by omega),List.getElem?_drop,← Nat.add_assoc];simpa using this
/-- The operation in a region that draws. -/
theorem afH {w:World} {S:Nat->Prop} {v:Value} {l:List bE} {o:Oper} {a:Act} {K:Act->World->Prop} {Q:Exit->Act->World->Prop} (d:Nat) (hd:o.dst=some d) (s y:Operand)
  (ho:o.op=.call { callee:=.builtin .append,args:=#[s,y],argTypes:=#[68,68] }) (h:iR w S v l) (hl:l.length<=1000) (hs:a.eval s=v) (ad:Addr) (cc:Nat) (hy:a.eval y=.slice (some ad) 1 cc) {x0 x1:Int} (hcell:∀j u,[Value.int .i64 x0,Value.int .i64 x1][j]?=some u->w.cell? (ad.add j)=some u) (i0:av x0) (i1:av x1)
  (k:∀v' w',JY w w' v v' l x0 x1->K (a.put (some d) v') w'):o.wp Tryz.prog a w K Q:=by
 obtain⟨v',w',hr,h2⟩:=afG h hl o.type ad cc hcell i0 i1;unfold Oper.wp execOp;simp only[ho,resolve,invoke,builtin,Sem.run_bind,Sem.run_pure,Result.andThen_ok,List.map_toArray,List.map_cons,List.map_nil,hs,hy,hr];have:=k v' w' h2;rw[← hd] at this;exact this
end Go.Proofs.YtfabngnaejjcmaaGreatDoor
