/- The proof's texts, part 50. -/
import Derived.Test.YtmglhdkeidhafaaGreatTM
namespace Go.Proofs.YtmglhdkeidhafaaGreat
open Go.RowKit
set_option linter.unusedSimpArgs false
set_option linter.unusedVariables false
/- A command on an account that may be leaves one that may be, on lists. -/
/-- A dV of a box, one that went. -/
structure MG (b:aA) (m:aC):Prop where
 uid:1≤m.uid∧m.uid < b.next
 flags:0≤m.flags∧m.flags≤31
 seq:1≤m.seq∧m.seq≤b.seq
 text:dU m.text=true
structure XG (b:aA) (x:bB):Prop where
 uid:1≤x.uid∧x.uid < b.next
 seq:1≤x.seq∧b.lost≤x.seq∧x.seq≤b.seq
 off:∀ m ∈ b.ah,m.uid≠x.uid
/-- A box that may be, but for how many au it has. -/
structure BG (b:aA) (v:Int):Prop where
 name:bG b.name=true
 valid:1≤b.valid∧b.valid≤v
 next:1≤b.next∧b.next≤1000000
 seq:0≤b.seq∧b.seq≤1000000
 lost:0≤b.lost∧b.lost≤b.seq
 len:b.ah.length≤12
 ms:∀ m ∈ b.ah,MG b m
 sorted:b.ah.Pairwise (fun x y=>x.uid < y.uid)
 gs:∀ x ∈ b.au,XG b x
 apart:b.au.Pairwise (fun x y=>x.uid≠y.uid)
 order:b.au.Pairwise (fun x y=>x.seq≤y.seq)
theorem yK {α:Type} {R:α→α→Prop} {l:List α} (h:l.Pairwise R) {i j:Nat} {x y:α} (hij:i < j) (hx:l[i]?=some x) (hy:l[j]?=some y):R x y:=by
 obtain ⟨h1,rfl⟩:=gs1 hx
 obtain ⟨h2,rfl⟩:=gs1 hy
 exact List.pairwise_iff_getElem.1 h i j h1 h2 hij
theorem MK {α:Type} {R:α→α→Prop} {l:List α} (h:∀ (i j:Nat) (x y:α),i < j→l[i]?=some x→l[j]?=some y→R x y):l.Pairwise R :=
 List.pairwise_iff_getElem.2 fun i j hi hj hij=>h i j _ _ hij (aL hi) (aL hj)
theorem BG.of {b:aA} {v:Int} (h:gB b v=true):BG b v∧b.au.length≤40:=by
 have ok:=Bo h
 have h0:=h
 simp only [gB,Bool.and_eq_true,aM,decide_eq_true_eq,mU,l7,List.all_eq_true,List.mem_range] at h
 obtain ⟨hn,hv,hx,hs,hl,⟨l1,hm⟩,l2,hg⟩:=h
 have hgs:∀ (k i:Nat) (x y:bB),b.au[i]?=some x→b.au[i+k]?=some y→x.seq≤y.seq:=by
  intro k
  induction k with
  | zero=>intro i x y hx hy;rw [Nat.add_zero] at hy;rw [hx] at hy;cases hy;exact Int.le_refl _
  | succ k ih =>
   intro i x y hx hy
   have hlt:i+k < b.au.length:=by have:=(gs1 hy).1;omega
   have h1:=ih i x _ hx (aL hlt)
   have h2:=hg (i+k+1) (gs1 hy).1
   rw [show i+(k+1)=i+k+1 by omega] at hy
   simp only [jO,hy,aM,Bool.and_eq_true,decide_eq_true_eq,minS,aL hlt] at h2
   omega
 have hgx:∀ i x,b.au[i]?=some x→XG b x∧∀ o ∈ b.au.take i,o.uid≠x.uid:=by
  intro i x hi
  have hil:=(gs1 hi).1
  have h1:=Hf (b:=b) (k:=i) (by omega) (fun j hj=>hg j (by omega))
  have h2:=hg i hil
  simp only [jO,hi,aM,Bool.and_eq_true,decide_eq_true_eq,Bool.not_eq_true',List.any_eq_false] at h2
  exact ⟨⟨by omega,by omega,fun m hm=>h2.2.2.1 m hm⟩,h2.2.2.2⟩
 refine ⟨⟨hn,hv,hx,hs,hl,l1,fun m hm'=>?_,ok.sorted,fun x hx=>?_,MK fun i j x y hij hx hy=>?_,MK fun i j x y hij hx hy=>hgs (j - i) i x y hx (by rw [show i+(j - i)=j by omega];exact hy)⟩,l2⟩
 ·obtain ⟨i,hi⟩:=List.mem_iff_getElem?.1 hm'
  have h2:=hm i (gs1 hi).1
  have h3:=ok.mem m hm'
  simp only [lG,hi,aM,Bool.and_eq_true,decide_eq_true_eq] at h2
  exact ⟨by omega,by omega,by omega,h2.2.2.2⟩
 ·obtain ⟨i,hi⟩:=List.mem_iff_getElem?.1 hx
  exact (hgx i x hi).1
 ·refine (hgx j y hy).2 x ?_
  rw [List.mem_iff_getElem?]
  exact ⟨i,by rw [List.getElem?_take_of_lt hij];exact hx⟩
theorem BG.to {b:aA} {v:Int} (h:BG b v) (hl:b.au.length≤40):gB b v=true:=by
 have hn:=h.next;have hs:=h.seq;have ho:=h.lost;have hv:=h.valid;have hlen:=h.len
 simp only [gB,Bool.and_eq_true,aM,decide_eq_true_eq,mU,l7,List.all_eq_true,List.mem_range]
 refine ⟨h.name,hv,hn,hs,ho,⟨hlen,fun i hi=>?_⟩,hl,fun i hi=>?_⟩
 ·have hm:=h.ms _ (List.getElem_mem hi)
  have h1:=hm.uid;have h2:=hm.flags;have h3:=hm.seq
  simp only [lG,aL hi,aM,Bool.and_eq_true,decide_eq_true_eq]
  refine ⟨⟨?_,by omega⟩,h2,h3,hm.text⟩
  cases i with
  | zero=>simp only [jW];omega
  | succ i =>
   have:=yK h.sorted (Nat.lt_succ_self i) (aL (by omega)) (aL hi)
   simp only [jW,aL (show i < b.ah.length by omega)]
   omega
 ·have hx:=h.gs _ (List.getElem_mem hi)
  have h1:=hx.uid;have h2:=hx.seq
  simp only [jO,aL hi,aM,Bool.and_eq_true,decide_eq_true_eq,Bool.not_eq_true',List.any_eq_false]
  refine ⟨by omega,⟨?_,h2.2.2⟩,fun m hm=>hx.off m hm,fun o ho'=>?_⟩
  ·cases i with
   | zero=>simp only [minS];omega
   | succ i =>
    have:=yK h.order (Nat.lt_succ_self i) (aL (by omega)) (aL hi)
    simp only [minS,aL (show i < b.au.length by omega)]
    exact this
  ·obtain ⟨j,hj⟩:=List.mem_iff_getElem?.1 ho'
   have hji:j < i:=by have:=(gs1 hj).1;rw [List.length_take] at this;omega
   rw [List.getElem?_take_of_lt hji] at hj
   exact yK h.apart hji hj (aL hi)
/-- Later numbers of changes do no harm. -/
theorem BG.aX {b:aA} {v:Int} (h:BG b v) (hs:b.seq < 1000000):BG (aX b) v:=by
 have h1:=h.seq;have h2:=h.lost
 exact ⟨h.name,h.valid,h.next,by show 0≤b.seq+1∧b.seq+1≤1000000;omega,by show 0≤b.lost∧b.lost≤b.seq+1;omega,h.len,
  fun m hm=>let g:=h.ms m hm;⟨g.uid,g.flags,by have:=g.seq;show 1≤m.seq∧m.seq≤b.seq+1;omega,g.text⟩,h.sorted,
  fun x hx=>let g:=h.gs x hx;⟨g.uid,by have:=g.seq;show 1≤x.seq∧b.lost≤x.seq∧x.seq≤b.seq+1;omega,g.off⟩,h.apart,h.order⟩
/-- The oldest fall out. -/
theorem UH {s:Int}:∀ (l:List bB) (lost:Int),l.Pairwise (fun x y=>x.seq≤y.seq)→0≤lost→lost≤s→(∀ x ∈ l,1≤x.seq∧lost≤x.seq∧x.seq≤s) →
  (dw lost l).2.length≤40∧List.Sublist (dw lost l).2 l∧0≤(dw lost l).1∧(dw lost l).1≤s∧∀ x ∈ (dw lost l).2,(dw lost l).1≤x.seq
 | [],lost,_,h0,h1,_=>⟨by simp [dw],by simp [dw],by simpa [dw] using h0,by simpa [dw] using h1,by simp [dw]⟩
 | y :: l,lost,hp,h0,h1,h2=>by
  rw [dw]
  have hy:=h2 y (List.mem_cons_self ..)
  split
  ·have hp':=List.pairwise_cons.1 hp
   obtain ⟨a,b,c,d,e⟩:=UH l y.seq hp'.2 (by omega) hy.2.2 (fun x hx=>let g:=h2 x (List.mem_cons_of_mem _ hx);⟨g.1,hp'.1 x hx,g.2.2⟩)
   exact ⟨a,List.Sublist.cons _ b,c,d,e⟩
  ·rename_i hl
   exact ⟨by simp only [List.length_cons];omega,List.Sublist.refl _,h0,h1,fun x hx=>(h2 x hx).2.1⟩
theorem BG.drop {b:aA} {v:Int} (h:BG b v) (hs:1≤b.seq) (i:Nat):BG (aV b i) v∧(b.au.length≤40→(aV b i).au.length≤40)∧(aV b i).seq=b.seq∧(aV b i).next=b.next:=by
 unfold aV
 cases hm:b.ah[i]? with
 | none=>exact ⟨h,id,rfl,rfl⟩
 | some m =>
  have hmm:=h.ms m (List.mem_of_getElem? hm)
  have hsl:(b.ah.take i ++ b.ah.drop (i+1)).Sublist b.ah:=by
   have:(b.ah.take i ++ b.ah.drop (i+1)).Sublist (b.ah.take i ++ b.ah.drop i):=List.Sublist.append_left (by
    rw [show b.ah.drop (i+1)=(b.ah.drop i).drop 1 by rw [List.drop_drop]];exact List.drop_sublist _ _) _
   rwa [List.take_append_drop] at this
  have hoff:∀ x ∈ b.ah.take i ++ b.ah.drop (i+1),x.uid≠m.uid:=by
   intro x hx
   rcases List.mem_append.1 hx with hx | hx
   ·obtain ⟨j,hj⟩:=List.mem_iff_getElem?.1 hx
    have hji:j < i:=by have:=(gs1 hj).1;rw [List.length_take] at this;omega
    rw [List.getElem?_take_of_lt hji] at hj
    have:=yK h.sorted hji hj hm
    omega
   ·obtain ⟨j,hj⟩:=List.mem_iff_getElem?.1 hx
    rw [List.getElem?_drop] at hj
    have:=yK h.sorted (show i < i+1+j by omega) hm hj
    omega
  have hg:∀ x ∈ b.au ++ [⟨m.uid,b.seq⟩],(1≤x.uid∧x.uid < b.next)∧(1≤x.seq∧b.lost≤x.seq∧x.seq≤b.seq)∧∀ y ∈ b.ah.take i ++ b.ah.drop (i+1),y.uid≠x.uid:=by
   intro x hx
   rcases List.mem_append.1 hx with hx | hx
   ·have g:=h.gs x hx
    exact ⟨g.uid,g.seq,fun y hy=>g.off y (hsl.subset hy)⟩
   ·rw [List.mem_singleton] at hx
    subst hx
    exact ⟨hmm.uid,⟨hs,h.lost.2,Int.le_refl _⟩,hoff⟩
  have ho:(b.au ++ [(⟨m.uid,b.seq⟩:bB)]).Pairwise (fun x y=>x.seq≤y.seq):=List.pairwise_append.2 ⟨h.order,List.pairwise_singleton _ _,fun x hx y hy=>by rw [List.mem_singleton] at hy;subst hy;exact (h.gs x hx).seq.2.2⟩
  have hap:(b.au ++ [(⟨m.uid,b.seq⟩:bB)]).Pairwise (fun x y=>x.uid≠y.uid):=List.pairwise_append.2 ⟨h.apart,List.pairwise_singleton _ _,fun x hx y hy=>by rw [List.mem_singleton] at hy;subst hy;exact fun e=>(h.gs x hx).off m (List.mem_of_getElem? hm) e.symm⟩
  obtain ⟨t1,t2,t3,t4,t5⟩:=UH (s:=b.seq) (b.au ++ [⟨m.uid,b.seq⟩]) b.lost ho h.lost.1 h.lost.2 (fun x hx=>(hg x hx).2.1)
  refine ⟨⟨h.name,h.valid,h.next,h.seq,⟨t3,t4⟩,Nat.le_trans hsl.length_le h.len,fun x hx=>let g:=h.ms x (hsl.subset hx);⟨g.uid,g.flags,g.seq,g.text⟩,h.sorted.sublist hsl,fun x hx=>?_,hap.sublist t2,ho.sublist t2⟩,fun _=>t1,rfl,rfl⟩
  have g:=hg x (t2.subset hx)
  exact ⟨g.1,⟨g.2.1.1,t5 x hx,g.2.1.2.2⟩,g.2.2⟩
theorem BG.add {b:aA} {v fl:Int} {tx:List Int} (h:BG b v) (hn:b.next < 1000000) (hs:b.seq < 1000000) (hl:b.ah.length+1≤12) (hf:0≤fl∧fl≤31) (ht:dU tx=true):BG (jA b fl tx) v:=by
 have n0:=h.next;have s0:=h.seq;have l0:=h.lost
 refine ⟨h.name,h.valid,?_,?_,?_,?_,fun m hm=>?_,?_,fun x hx=>?_,h.apart,h.order⟩
 ·show 1≤b.next+1∧b.next+1≤1000000;omega
 ·show 0≤b.seq+1∧b.seq+1≤1000000;omega
 ·show 0≤b.lost∧b.lost≤b.seq+1;omega
 ·show (b.ah ++ [_]).length≤12;rw [List.length_append];exact hl
 ·have hm':m ∈ b.ah ++ [⟨b.next,fl,b.seq+1,tx⟩]:=hm
  rcases List.mem_append.1 hm' with hm' | hm'
  ·have g:=h.ms m hm'
   have g1:=g.uid;have g2:=g.seq
   exact ⟨by show 1≤m.uid∧m.uid < b.next+1;omega,g.flags,by show 1≤m.seq∧m.seq≤b.seq+1;omega,g.text⟩
  ·rw [List.mem_singleton] at hm'
   subst hm'
   exact ⟨by show 1≤b.next∧b.next < b.next+1;omega,hf,by show 1≤b.seq+1∧b.seq+1≤b.seq+1;omega,ht⟩
 ·show (b.ah ++ [_]).Pairwise _
  exact List.pairwise_append.2 ⟨h.sorted,List.pairwise_singleton _ _,fun x hx y hy=>by rw [List.mem_singleton] at hy;subst hy;exact (h.ms x hx).uid.2⟩
 ·have g:=h.gs x hx
  have g1:=g.uid;have g2:=g.seq
  refine ⟨by show 1≤x.uid∧x.uid < b.next+1;omega,by show 1≤x.seq∧b.lost≤x.seq∧x.seq≤b.seq+1;omega,fun m hm=>?_⟩
  have hm':m ∈ b.ah ++ [⟨b.next,fl,b.seq+1,tx⟩]:=hm
  rcases List.mem_append.1 hm' with hm' | hm'
  ·exact g.off m hm'
  ·rw [List.mem_singleton] at hm'
   subst hm'
   show b.next≠x.uid
   omega
theorem BG.exp {v:Int}:∀ (n:Nat) (b:aA) (i:Nat),BG b v→1≤b.seq→b.au.length≤40→BG (gD n b i) v∧(gD n b i).au.length≤40
 | 0,b,i,h,_,hl=>⟨h,hl⟩
 | n+1,b,i,h,hs,hl=>by
  rw [gD]
  split
  ·exact ⟨h,hl⟩
  ·split
   ·obtain ⟨h1,h2,h3,-⟩:=h.drop hs i
    exact BG.exp n _ i h1 (by rw [h3];exact hs) (h2 hl)
   ·exact BG.exp n b (i+1) h hs hl
/-- What a store leaves of flags. -/
theorem aem:((List.range 32).all fun x=>(List.range 32).all fun y=>aM (bits .or .i64 (x:Int) (y:Int)) 0 31 && aM (bits .andNot .i64 (x:Int) (y:Int)) 0 31)=true:=by decide +kernel
theorem aen {was mode fl:Int} (h0:0≤was∧was≤31) (h1:0≤fl∧fl≤31):0≤fC was mode fl∧fC was mode fl≤31:=by
 have h:=aem
 simp only [List.all_eq_true,List.mem_range,Bool.and_eq_true,aM,decide_eq_true_eq] at h
 have h2:=h was.toNat (by omega) fl.toNat (by omega)
 rw [Int.toNat_of_nonneg h0.1,Int.toNat_of_nonneg h1.1] at h2
 unfold fC
 split
 ·exact h2.1
 ·split
  ·exact h2.2
  ·exact h1
theorem BG.store {b:aA} {v uid mode fl si:Int} (h:BG b v) (hf:0≤fl∧fl≤31):BG (iD b uid mode fl si).1 v∧(iD b uid mode fl si).1.au=b.au:=by
 unfold iD
 split
 ·exact ⟨h,rfl⟩
 ·rename_i i hi
  split
  ·exact ⟨h,rfl⟩
  ·rename_i m hm
   split
   ·exact ⟨h,rfl⟩
   ·split
    ·exact ⟨h,rfl⟩
    ·split
     ·exact ⟨h,rfl⟩
     ·rename_i hs
      have g:=h.ms m (List.mem_of_getElem? hm)
      have hil:=(gs1 hm).1
      have s0:=h.seq;have l0:=h.lost
      have hu:(b.ah.set i ⟨m.uid,fC m.flags mode fl,b.seq+1,m.text⟩).map (·.uid)=b.ah.map (·.uid):=by
       rw [List.map_set]
       refine List.ext_getElem? fun j=>?_
       rw [List.getElem?_set]
       split
       ·rename_i e;subst e
        rw [List.getElem?_map,hm,if_pos (by simpa using hil)];rfl
       ·rfl
      refine ⟨⟨h.name,h.valid,h.next,by show 0≤b.seq+1∧b.seq+1≤1000000;omega,by show 0≤b.lost∧b.lost≤b.seq+1;omega,by show (b.ah.set i _).length≤12;rw [List.length_set];exact h.len,fun y hy=>?_,?_,fun x hx=>?_,h.apart,h.order⟩,rfl⟩
      ·rcases List.mem_or_eq_of_mem_set hy with hy | rfl
       ·have q:=h.ms y hy
        have q2:=q.seq
        exact ⟨q.uid,q.flags,by show 1≤y.seq∧y.seq≤b.seq+1;omega,q.text⟩
       ·exact ⟨g.uid,aen g.flags hf,by show 1≤b.seq+1∧b.seq+1≤b.seq+1;omega,g.text⟩
      ·show (b.ah.set i _).Pairwise _
       have:=h.sorted
       rw [← List.pairwise_map (f:=fun m:aC=>m.uid) (R:=fun x y=>x < y)] at this ⊢
       rw [hu];exact this
      ·have q:=h.gs x hx
       have q2:=q.seq
       refine ⟨q.uid,by show 1≤x.seq∧b.lost≤x.seq∧x.seq≤b.seq+1;omega,fun y hy=>?_⟩
       rcases List.mem_or_eq_of_mem_set hy with hy | rfl
       ·exact q.off y hy
       ·exact q.off m (List.mem_of_getElem? hm)
/-- What a command may not touch. -/
theorem UJ (b:aA) (i:Nat):(aV b i).name=b.name∧(aV b i).valid=b.valid:=by
 unfold aV;split <;> exact ⟨rfl,rfl⟩
theorem ML:∀ (n:Nat) (b:aA) (i:Nat),(gD n b i).name=b.name∧(gD n b i).valid=b.valid
 | 0,_,_=>⟨rfl,rfl⟩
 | n+1,b,i=>by
  rw [gD]
  split
  ·exact ⟨rfl,rfl⟩
  ·split
   ·have h1:=ML n (aV b i) i
    have h2:=UJ b i
    exact ⟨h1.1.trans h2.1,h1.2.trans h2.2⟩
   ·exact ML n b (i+1)
/-- An account that may be. -/
structure AG (a:aF):Prop where
 valid:0≤a.valid∧a.valid≤1000000
 len:a.boxes.length≤4
 seen:nU a.seen=true
 bs:∀ b ∈ a.boxes,BG b a.valid∧b.au.length≤40
 names:a.boxes.Pairwise (fun x y=>bV x.name y.name=true)
 Gy:a.boxes.Pairwise (fun x y=>x.valid≠y.valid)
theorem AG.of {a:aF} (h:fA a=true):AG a:=by
 obtain ⟨v0,v1,l4⟩:=Uc h
 have g:=Ud h
 have h':=h
 simp only [fA,Bool.and_eq_true] at h'
 refine ⟨⟨v0,v1⟩,l4,h'.2.2.1,fun b hb=>?_,MK fun i j x y hij hx hy=>Ms h j i x y hij hx hy,g.2.2.2.1⟩
 obtain ⟨i,hi⟩:=List.mem_iff_getElem?.1 hb
 exact BG.of (Gu h hi).1
theorem AG.to {a:aF} (h:AG a):fA a=true:=by
 have hv:=h.valid;have hl:=h.len
 simp only [fA,Bool.and_eq_true,aM,decide_eq_true_eq,List.all_eq_true,List.mem_range]
 refine ⟨hv,hl,h.seen,fun i hi=>?_⟩
 obtain ⟨g1,g2⟩:=h.bs _ (List.getElem_mem hi)
 simp only [nV,aL hi,Bool.and_eq_true,Bool.not_eq_true',List.any_eq_false,decide_eq_true_eq]
 refine ⟨g1.to g2,?_,fun o ho=>?_⟩
 ·cases i with
  | zero=>rfl
  | succ i =>
   simp only [mV,nameAt,aL (show i < a.boxes.length by omega)]
   exact yK h.names (Nat.lt_succ_self i) (aL (by omega)) (aL hi)
 ·obtain ⟨j,hj⟩:=List.mem_iff_getElem?.1 ho
  have hji:j < i:=by have:=(gs1 hj).1;rw [List.length_take] at this;omega
  rw [List.getElem?_take_of_lt hji] at hj
  exact yK h.Gy hji hj (aL hi)
theorem AG.set {a:aF} {k:Nat} {b b':aA} (h:AG a) (hb:a.boxes[k]?=some b) (g:BG b' a.valid) (gl:b'.au.length≤40) (hs:b'.name=b.name∧b'.valid=b.valid):AG (aH a k b'):=by
 have e:∀ {β:Type} (f:aA→β),f b'=f b→(a.boxes.set k b').map f=a.boxes.map f:=by
  intro β f hf
  rw [List.map_set]
  refine List.ext_getElem? fun j=>?_
  rw [List.getElem?_set]
  split
  ·rename_i e;subst e
   rw [List.getElem?_map,hb,if_pos (by simpa using (gs1 hb).1),hf];rfl
  ·rfl
 refine ⟨h.valid,by show (a.boxes.set k b').length≤4;rw [List.length_set];exact h.len,h.seen,fun x hx=>?_,?_,?_⟩
 ·rcases List.mem_or_eq_of_mem_set hx with hx | rfl
  ·exact h.bs x hx
  ·exact ⟨g,gl⟩
 ·show (a.boxes.set k b').Pairwise _
  have:=h.names
  rw [← List.pairwise_map (f:=fun x:aA=>x.name) (R:=fun x y=>bV x y=true)] at this ⊢
  rw [e _ hs.1];exact this
 ·show (a.boxes.set k b').Pairwise _
  have:=h.Gy
  rw [← List.pairwise_map (f:=fun x:aA=>x.valid) (R:=fun x y=>x≠y)] at this ⊢
  rw [e _ hs.2];exact this
theorem BG.mono {b:aA} {v v':Int} (h:BG b v) (hv:v≤v'):BG b v':=⟨h.name,by have:=h.valid;omega,h.next,h.seq,h.lost,h.len,h.ms,h.sorted,h.gs,h.apart,h.order⟩
theorem UK {l:List Int} (h:bG l=true):Oct l:=by
 intro x hx
 simp only [bG,Bool.and_eq_true,allIn,List.all_eq_true,decide_eq_true_eq] at h
 have:=h.2.2 x hx
 omega
theorem AG.create {a:aF} {nm:List Int} (h:AG a) (hn:bG nm=true):AG (nE a nm).1:=by
 unfold nE
 split
 ·exact h
 ·rename_i hf
  split
  ·exact h
  ·rename_i hr
   have hv:=h.valid;have hl:=h.len
   have hne:∀ y ∈ a.boxes,y.name≠nm:=fun y hy e=>hf (by
    have:=yO (fun x:aA=>decide (x.name=nm)) a.boxes
    rw [show a.boxes.any (fun x:aA=>decide (x.name=nm))=true from List.any_eq_true.2 ⟨y,hy,by simpa using e⟩] at this
    exact of_decide_eq_true this.symm)
   have e:=List.takeWhile_append_dropWhile (p:=fun y:aA=>bV y.name nm) (l:=a.boxes)
   have hmem:∀ y ∈ a.boxes.takeWhile (fun y=>bV y.name nm) ++ (⟨nm,a.valid+1,1,0,[],[],0⟩ :: a.boxes.dropWhile (fun y=>bV y.name nm)),y ∈ a.boxes∨y=⟨nm,a.valid+1,1,0,[],[],0⟩:=fun y hy=>by
    rcases List.mem_append.1 hy with hy | hy
    ·exact .inl ((List.takeWhile_sublist _).mem hy)
    ·rcases List.mem_cons.1 hy with rfl | hy
     ·exact .inr rfl
     ·exact .inl ((List.dropWhile_sublist _).mem hy)
   have hs:=h.names
   rw [← e] at hs
   obtain ⟨q1,q2,q3⟩:=List.pairwise_append.1 hs
   have hdrop:∀ y ∈ a.boxes.dropWhile (fun y=>bV y.name nm),bV nm y.name=true:=by
    cases hd:a.boxes.dropWhile (fun y=>bV y.name nm) with
    | nil=>intro y hy;cases hy
    | cons e0 r =>
     have he:e0 ∈ a.boxes:=(List.dropWhile_sublist _).mem (by rw [hd];exact List.mem_cons_self ..)
     have hne0:bV e0.name nm=false:=by
      have:=List.head?_dropWhile_not (fun y:aA=>bV y.name nm) a.boxes
      rw [hd] at this
      simpa using this
     have h0:bV nm e0.name=true:=(KV (x:=⟨nm,0,0,0,[],[],0⟩) (y:=e0) (UK hn) (UK (h.bs e0 he).1.name) (fun e'=>hne e0 he e'.symm)).elim (fun h=>CQ.2 h) (fun h=>absurd (CQ (x:=e0) (y:=⟨nm,0,0,0,[],[],0⟩) |>.2 h) (by show ¬ bV e0.name nm=true;rw [hne0];simp))
     rw [hd] at q2
     intro y hy
     rcases List.mem_cons.1 hy with rfl | hy
     ·exact h0
     ·exact Ad.2 (zh _ _ _ (Ad.1 h0) (Ad.1 ((List.pairwise_cons.1 q2).1 y hy)))
   have hvs:=h.Gy
   rw [← e] at hvs
   obtain ⟨w1,w2,w3⟩:=List.pairwise_append.1 hvs
   have hold:∀ y ∈ a.boxes,y.valid≠a.valid+1:=fun y hy=>by have:=(h.bs y hy).1.valid;omega
   refine ⟨by show 0≤a.valid+1∧a.valid+1≤1000000;omega,?_,h.seen,fun b hb=>?_,?_,?_⟩
   ·have:=congrArg List.length e
    rw [List.length_append] at this
    simp only [List.length_append,List.length_cons]
    omega
   ·rcases hmem b hb with hb | rfl
    ·exact ⟨(h.bs b hb).1.mono (by show a.valid≤a.valid+1;omega),(h.bs b hb).2⟩
    ·exact ⟨⟨hn,by show 1≤a.valid+1∧a.valid+1≤a.valid+1;omega,by simp,by simp,by simp,by simp,by simp,by simp,by simp,by simp,by simp⟩,by simp⟩
   ·refine List.pairwise_append.2 ⟨q1,List.pairwise_cons.2 ⟨hdrop,q2⟩,fun y hy z hz=>?_⟩
    rcases List.mem_cons.1 hz with rfl | hz
    ·exact KU (p:=fun y:aA=>bV y.name nm) hy
    ·exact q3 y hy z hz
   ·refine List.pairwise_append.2 ⟨w1,List.pairwise_cons.2 ⟨fun y hy=>(hold y ((List.dropWhile_sublist _).mem hy)).symm,w2⟩,fun y hy z hz=>?_⟩
    rcases List.mem_cons.1 hz with rfl | hz
    ·exact hold y ((List.takeWhile_sublist _).mem hy)
    ·exact w3 y hy z hz
theorem AG.remove {a:aF} (h:AG a) (k:Nat):AG ⟨a.valid,a.boxes.take k ++ a.boxes.drop (k+1),a.seen⟩:=by
 have hsl:(a.boxes.take k ++ a.boxes.drop (k+1)).Sublist a.boxes:=by
  have:(a.boxes.take k ++ a.boxes.drop (k+1)).Sublist (a.boxes.take k ++ a.boxes.drop k):=List.Sublist.append_left (by
   rw [show a.boxes.drop (k+1)=(a.boxes.drop k).drop 1 by rw [List.drop_drop]];exact List.drop_sublist _ _) _
  rwa [List.take_append_drop] at this
 exact ⟨h.valid,Nat.le_trans hsl.length_le h.len,h.seen,fun b hb=>h.bs b (hsl.subset hb),h.names.sublist hsl,h.Gy.sublist hsl⟩
theorem UL {b:aA} {n:Int} (h:dh b n=true):b.seq < 1000000∧b.next < 1000000∧(b.ah.length:Int)+n≤12:=by
 simpa only [dh,Bool.and_eq_true,decide_eq_true_eq] using h
theorem AG.copy {a:aF} {k:Nat} {b:aA} {tt:List Int} {uid mode:Int} (h:AG a) (hb:a.boxes[k]?=some b):AG (kS a k b tt uid mode).1:=by
 cases h1:b.ah.findIdx? (fun m=>decide (m.uid=uid)) with
 | none=>rw [FL h1];exact h
 | some i =>
  cases h2:a.boxes.findIdx? (fun x=>decide (x.name=tt)) with
  | none=>rw [FM h2];exact h
  | some t =>
   have hil:=(List.findIdx?_eq_some_iff_getElem.1 h1).1
   have h3:=aL hil
   have h4:=aL (List.findIdx?_eq_some_iff_getElem.1 h2).1
   generalize b.ah[i]'hil=m at h3
   generalize a.boxes[t]'(List.findIdx?_eq_some_iff_getElem.1 h2).1=bt at h4
   obtain ⟨rm,hrm⟩:∃ rm,rm=dh bt (if decide (mode=1)=true∧t=k then 0 else 1):=⟨_,rfl⟩
   obtain ⟨fu,hfu⟩:∃ fu,fu=(decide (mode=1) && decide (999999≤b.seq)):=⟨_,rfl⟩
   rw [copy_eq h1 h2 h3 h4 rfl hrm hfu]
   by_cases hc:rm=false∨fu=true
   ·rw [if_pos hc]
    exact h
   ·rw [if_neg hc]
    obtain ⟨r1,r2,r3⟩:=UL (b:=bt) (hrm.symm.trans (by cases rm with | true=>rfl | false=>exact absurd (.inl rfl) hc))
    have gm:=(h.bs b (List.mem_of_getElem? hb)).1.ms m (List.mem_of_getElem? h3)
    obtain ⟨gb,gl⟩:=h.bs b (List.mem_of_getElem? hb)
    have s0:=gb.seq
    by_cases hm1:mode=1
    ·have hfs:b.seq≤999998:=by
      cases fu with
      | true=>exact absurd (.inr rfl) hc
      | false =>
       rw [hm1] at hfu
       simp only [decide_true,Bool.true_and] at hfu
       have:=of_decide_eq_false hfu.symm
       omega
     obtain ⟨d1,d2,d3,d4⟩:=(gb.aX (by omega)).drop (show 1≤b.seq+1 by omega) i
     have d5:=UJ (Go.Proofs.YtmglhdkeidhafaaGreat.aX b) i
     have ha1:AG (aH a k (aV (Go.Proofs.YtmglhdkeidhafaaGreat.aX b) i)):=h.set hb d1 (d2 gl) d5
     rw [if_pos (by simpa using hm1)]
     by_cases htk:t=k
     ·subst htk
      rw [hb] at h4;cases h4
      have hbu:(aH a t (aV (Go.Proofs.YtmglhdkeidhafaaGreat.aX b) i)).boxes[t]?=some (aV (Go.Proofs.YtmglhdkeidhafaaGreat.aX b) i):=List.getElem?_set_self (gs1 hb).1
      rw [hbu]
      have hlen:(aV (Go.Proofs.YtmglhdkeidhafaaGreat.aX b) i).ah.length+1=b.ah.length:=by
       unfold aV
       rw [show (Go.Proofs.YtmglhdkeidhafaaGreat.aX b).ah[i]?=some m from h3]
       show (b.ah.take i ++ b.ah.drop (i+1)).length+1=b.ah.length
       rw [List.length_append,List.length_take,List.length_drop];omega
      have q4:(aV (Go.Proofs.YtmglhdkeidhafaaGreat.aX b) i).next=b.next:=d4
      have q3:(aV (Go.Proofs.YtmglhdkeidhafaaGreat.aX b) i).seq=b.seq+1:=d3
      have ql:=gb.len
      exact ha1.set hbu (d1.add (by rw [q4];exact r2) (by rw [q3];omega) (by omega) gm.flags gm.text) (d2 gl) ⟨rfl,rfl⟩
     ·have hbu:(aH a k (aV (Go.Proofs.YtmglhdkeidhafaaGreat.aX b) i)).boxes[t]?=some bt:=(List.getElem?_set_ne (Ne.symm htk)).trans h4
      rw [hbu]
      obtain ⟨gt,MN⟩:=h.bs bt (List.mem_of_getElem? h4)
      rw [if_neg (fun e=>htk e.2)] at r3
      exact ha1.set hbu (gt.add r2 r1 (by omega) gm.flags gm.text) MN ⟨rfl,rfl⟩
    ·rw [if_neg (by simpa using hm1),h4]
     obtain ⟨gt,MN⟩:=h.bs bt (List.mem_of_getElem? h4)
     rw [if_neg (fun e=>hm1 (by simpa using e.1))] at r3
     exact h.set h4 (gt.add r2 r1 (by omega) gm.flags gm.text) MN ⟨rfl,rfl⟩
theorem AG.exp {a:aF} {k:Nat} {b:aA} (h:AG a) (hb:a.boxes[k]?=some b):AG (aH a k (gF b).1):=by
 obtain ⟨gb,gl⟩:=h.bs b (List.mem_of_getElem? hb)
 have s0:=gb.seq
 unfold gF
 split
 ·exact h.set hb gb gl ⟨rfl,rfl⟩
 ·split
  ·exact h.set hb gb gl ⟨rfl,rfl⟩
  ·obtain ⟨h1,h2⟩:=BG.exp b.ah.length (Go.Proofs.YtmglhdkeidhafaaGreat.aX b) 0 (gb.aX (by omega)) (show 1≤b.seq+1 by omega) gl
   exact h.set hb h1 h2 (ML _ _ _)
/-- A command leaves an account that may be. -/
theorem aeo {a:aF} {c:dS} (h:AG a) (hc:dK c.k c.bx c.tt c.uid c.mode c.fl c.si c.tx=true):AG (dA a c).1:=by
 simp only [dK,Bool.and_eq_true,aM,decide_eq_true_eq] at hc
 obtain ⟨⟨⟨⟨⟨⟨⟨hk,hn⟩,-⟩,-⟩,-⟩,hfl⟩,-⟩,htx⟩:=hc
 unfold dA
 split
 ·rename_i k0
  rw [if_neg (by omega)] at hn
  exact h.create hn
 ·split
  ·exact h
  ·split
   ·exact h
   ·split
    ·exact h
    ·rename_i k _ _ b hb
     obtain ⟨gb,gl⟩:=h.bs b (List.mem_of_getElem? hb)
     split
     ·exact h.remove k
     ·split
      ·rename_i k2
       rw [if_pos k2] at htx
       rw [if_pos (.inl k2)] at hfl
       split
       ·rename_i hr
        obtain ⟨r1,r2,r3⟩:=UL hr
        exact h.set hb (gb.add r2 r1 (by omega) hfl htx) gl ⟨rfl,rfl⟩
       ·exact h
      ·split
       ·rename_i k3
        rw [if_pos (.inr k3)] at hfl
        obtain ⟨g1,g2⟩:=gb.store (uid:=c.uid) (mode:=c.mode) (si:=c.si) hfl
        exact h.set hb g1 (by rw [g2];exact gl) (by
             unfold iD;repeat' split
             all_goals exact ⟨rfl,rfl⟩)
       ·split
        ·exact h.exp hb
        ·split
         ·exact h.copy hb
         ·split
          ·exact h
          ·split
           ·exact h
           ·split <;> exact h
theorem aep {a:aF} {c:dS} (h:fA a=true) (hc:dK c.k c.bx c.tt c.uid c.mode c.fl c.si c.tx=true):fA (dA a c).1=true:=(aeo (AG.of h) hc).to
/-- Where it is refused, or only asks, it leaves it as it was. -/
theorem set_self {a:aF} {k:Nat} {b:aA} (h:a.boxes[k]?=some b):aH a k b=a:=by
 obtain ⟨hl,rfl⟩:=gs1 h
 unfold aH
 rw [List.set_getElem_self]
theorem aer {a:aF} {c:dS} (h:(dA a c).2.code≠0∨c.k=5∨7≤c.k):(dA a c).1=a:=by
 unfold dA at h ⊢
 split
 ·rename_i k0
  rw [if_pos k0] at h
  unfold nE at h ⊢
  split
  ·rfl
  ·rename_i h1
   rw [if_neg h1] at h
   split
   ·rfl
   ·rename_i h2
    rw [if_neg h2] at h
    rcases h with h | h | h
    ·exact absurd rfl h
    ·omega
    ·omega
 ·rename_i k0
  rw [if_neg k0] at h
  split
  ·rfl
  ·rename_i k9
   rw [if_neg k9] at h
   split
   ·rfl
   ·rename_i k hk
    rw [hk] at h
    simp only at h
    split
    ·rfl
    ·rename_i b hb
     rw [hb] at h
     simp only at h
     have hb':=hb
     split
     ·rename_i k1
      rw [if_pos k1] at h
      rcases h with h | h | h
      ·exact absurd rfl h
      ·omega
      ·omega
     ·rename_i k1
      rw [if_neg k1] at h
      split
      ·rename_i k2
       rw [if_pos k2] at h
       split
       ·rename_i hr
        rw [if_pos hr] at h
        rcases h with h | h | h
        ·exact absurd rfl h
        ·omega
        ·omega
       ·rfl
      ·rename_i k2
       rw [if_neg k2] at h
       split
       ·rename_i k3
        rw [if_pos k3] at h
        have:(iD b c.uid c.mode c.fl c.si).1=b:=by
         have h':(iD b c.uid c.mode c.fl c.si).2.code≠0:=by rcases h with h | h | h <;> first | exact h | omega
         unfold iD at h' ⊢
         split
         ·rfl
         ·rename_i i hi
          rw [hi] at h'
          simp only at h'
          split
          ·rfl
          ·rename_i m hm
           rw [hm] at h'
           simp only at h'
           split
           ·rfl
           ·rename_i h1
            rw [if_neg h1] at h'
            split
            ·rfl
            ·rename_i h2
             rw [if_neg h2] at h'
             split
             ·rfl
             ·rename_i h3
              rw [if_neg h3] at h'
              exact absurd rfl h'
        show aH a k (iD b c.uid c.mode c.fl c.si).1=a
        rw [this];exact set_self hb
       ·rename_i k3
        rw [if_neg k3] at h
        split
        ·rename_i k4
         rw [if_pos k4] at h
         have:(gF b).1=b:=by
          have h':(gF b).2.code≠0:=by rcases h with h | h | h <;> first | exact h | omega
          unfold gF at h' ⊢
          split
          ·rfl
          ·rename_i h1
           rw [if_neg h1] at h'
           split
           ·rfl
           ·rename_i h2
            rw [if_neg h2] at h'
            exact absurd rfl h'
         show aH a k (gF b).1=a
         rw [this];exact set_self hb
        ·rename_i k4
         rw [if_neg k4] at h
         split
         ·rename_i k6
          rw [if_pos k6] at h
          have h':(kS a k b c.tt c.uid c.mode).2.code≠0:=by rcases h with h | h | h <;> first | exact h | omega
          cases h1:b.ah.findIdx? (fun m=>decide (m.uid=c.uid)) with
          | none=>rw [FL h1]
          | some i =>
           cases h2:a.boxes.findIdx? (fun x=>decide (x.name=c.tt)) with
           | none=>rw [FM h2]
           | some t =>
            have htl:=(List.findIdx?_eq_some_iff_getElem.1 h2).1
            have h3:=aL (List.findIdx?_eq_some_iff_getElem.1 h1).1
            have h4:=aL htl
            obtain ⟨rm,hrm⟩:∃ rm,rm=dh (a.boxes[t]'htl) (if decide (c.mode=1)=true∧t=k then 0 else 1):=⟨_,rfl⟩
            obtain ⟨fu,hfu⟩:∃ fu,fu=(decide (c.mode=1) && decide (999999≤b.seq)):=⟨_,rfl⟩
            rw [copy_eq h1 h2 h3 h4 rfl hrm hfu] at h' ⊢
            by_cases hc:rm=false∨fu=true
            ·rw [if_pos hc]
            ·rw [if_neg hc] at h'
             obtain ⟨bu,hbu⟩:∃ bu,(if decide (c.mode=1)=true then aH a k (aV (aX b) i) else a).boxes[t]?=some bu:=by
              split
              ·exact ⟨_,aL (by show t < (a.boxes.set k _).length;rw [List.length_set];exact htl)⟩
              ·exact ⟨_,h4⟩
             rw [hbu] at h'
             exact absurd rfl h'
         ·split
          ·rfl
          ·split
           ·rfl
           ·split <;> rfl
theorem aes (a:aF) (c:dS):(dA a c).1.seen=a.seen:=by
 unfold dA nE kS
 repeat' split
 all_goals first | rfl | (dsimp only;split <;> rfl) | (
  dsimp only [aH];repeat' split
  all_goals rfl)
end Go.Proofs.YtmglhdkeidhafaaGreat
