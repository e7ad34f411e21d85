/- The proof's texts, part 40. -/
import Derived.Test.YtmglhdkeidhafaaGreatTD
import Derived.Deep.Light
namespace Go.Proofs.YtmglhdkeidhafaaGreat
open Go.RowKit
set_option linter.unusedVariables false
set_option maxHeartbeats 4000000
set_option maxRecDepth 100000
/- What ag8, ag9, aha of package spec do. -/
/- What the words of a line may be. -/
/- One element more put behind a list whose blocks are told by a set. -/
/-- The list as a row of cells, with what its elements lead to. -/
theorem Ow.Tg {α:Type} {t:TypeId} {sz:Nat} {E:World→List Value→α→(Nat→Prop)→Prop} {w:World} {B M:Nat} {S:Nat→Prop} {v:Value} {l:List α} (h:Ow t sz E w S v l) (hS:∀ b,S b→B≤b∧b < M) :
  ∃ (xs:List Value) (cs:Nat→List Value) (fs:Nat→Nat→Prop),w.ownsRow B t sz v l.length xs∧(∀ g,v.ownBlock=some g→S g) ∧
   (∀ i x,l[i]?=some x→E w (cs i) x (fs i)∧(cs i).length=sz∧∀ j u,(cs i)[j]?=some u→xs[i * sz+j]?=some u) ∧
   (∀ i b,i < l.length→fs i b→S b∧v.ownBlock≠some b)∧(∀ i j b,i < l.length→j < l.length→i≠j→fs i b→¬ fs j b):=by
 rcases h with ⟨rfl,rfl⟩ | ⟨g,cap,cur,cs,fs,rfl,hh,h1,h2,h3,h4,h5,h6,h7⟩
 ·exact ⟨[],fun _=>[],fun _ _=>False,⟨by simp,.inl ⟨rfl,rfl⟩⟩,fun g hg=>by simp [Value.ownBlock] at hg,by simp,by simp,by simp⟩
 ·have hle:l.length * sz≤cur.size:=by rw [h3];exact Nat.mul_le_mul_right _ h1
  refine ⟨cur.toList.take (l.length * sz),cs,fs,⟨by simp;omega,.inr ⟨g,cap,cur,rfl,(hS g h4).1,hh,h1,h2,h3,rfl⟩⟩,fun q hq=>?_,fun i x hx=>?_,fun i b hi hb=>⟨(h6 i b hi hb).1,?_⟩,h7⟩
  ·simp only [Value.ownBlock,Option.some.injEq] at hq
   subst hq
   exact h4
  ·have hi:i < l.length:=(gs1 hx).1
   obtain ⟨e1,e2,e3⟩:=h5 i x hx
   refine ⟨e1,e2,fun j u hu=>?_⟩
   have hj:j < sz:=by have:=(gs1 hu).1;omega
   have hb:i * sz+j < l.length * sz:=by
    have:=Nat.mul_le_mul_right sz (show i+1≤l.length by omega)
    rw [Nat.add_mul,Nat.one_mul] at this
    omega
   rw [List.getElem?_take,if_pos hb]
   simpa using e3 j u hu
  ·simp only [Value.ownBlock,ne_eq,Option.some.injEq]
   exact fun e=>(h6 i b hi hb).2 e.symm
/-- One element more: its cells stand behind the row, its footprint lies behind the list's. -/
theorem Ow.acT {α:Type} {t:TypeId} {sz:Nat} {E:World→List Value→α→(Nat→Prop)→Prop} {w w':World} {B M:Nat} {S:Nat→Prop} {v v':Value} {l:List α} (hE:Frames E) (h:Ow t sz E w S v l) (hS:∀ b,S b→B≤b∧b < M) (hM:M≤w.heap.size)
  (x:α) (c:List Value) (hc:c.length=sz) (he:E w c x (In M w.heap.size))
  (hr:∀ xs,w.ownsRow B t sz v l.length xs→w'.ownsRow B t sz v' (l.length+1) (xs ++ c)) (hg:w.grownBy w' v.ownBlock)
  (hn:∀ g,v'.ownBlock=some g→v.ownBlock=some g∨w.heap.size≤g):Ow t sz E w' (fun b=>S b∨M≤b∧b < w'.heap.size) v' (l ++ [x]):=by
 obtain ⟨xs,cs,fs,r1,r2,r3,r4,r5⟩:=h.Tg hS
 have hlen:=r1.1
 obtain ⟨k1,k2 | ⟨g,cap,cur,k3,k4,k5,k6,k7,k8,k9⟩⟩:=hr xs r1
 ·exfalso
  have:=k2.2
  omega
 ·have hgl:=lt_of_heap k5
  have DZ:=hg.size
  have hgo:∀ b,b < w.heap.size→v.ownBlock≠some b→w'.heap[b]?=w.heap[b]?:=fun b hb hne=>hg.block b hb fun e=>hne e.symm
  refine .inr ⟨g,cap,cur,fun i=>if i=l.length then c else cs i,fun i=>if i=l.length then In M w.heap.size else fs i,?_,k5,?_,k7,k8,(hn g (by rw [k3];rfl)).elim (fun e=>.inl (r2 g e)) (fun e=>.inr ⟨by omega,hgl⟩),fun i y hy=>?_,fun i b hi hb=>?_,fun i j b hi hj hij hb hb'=>?_⟩
  ·rw [k3];simp
  ·simpa using k6
  ·have hxs:∀ (m:Nat) (u:Value),(xs ++ c)[m]?=some u→cur[m]?=some u:=by
    intro m u hu
    rw [← k9,List.getElem?_take] at hu
    split at hu
    ·simpa using hu
    ·cases hu
   by_cases hi:i=l.length
   ·subst hi
    rw [List.getElem?_append_right (Nat.le_refl _)] at hy
    simp only [Nat.sub_self,List.getElem?_cons_zero,Option.some.injEq] at hy
    subst hy
    simp only [if_true]
    refine ⟨hE _ _ _ _ _ he fun b hb hlt=>hgo b hlt fun e=>?_,hc,fun j u hu=>hxs _ _ ?_⟩
    ·have:=(hS b (r2 b e)).2
     have:=hb.1
     omega
    ·rw [List.getElem?_append_right (by omega),hlen]
     simpa using hu
   ·have hi':i < l.length:=by
     have:=(gs1 hy).1
     simp at this
     omega
    rw [List.getElem?_append_left hi'] at hy
    simp only [if_neg hi]
    obtain ⟨e1,e2,e3⟩:=r3 i y hy
    refine ⟨hE _ _ _ _ _ e1 fun b hb hlt=>hgo b hlt (r4 i b hi' hb).2,e2,fun j u hu=>hxs _ _ ?_⟩
    have h:=e3 j u hu
    have hm:i * sz+j < xs.length:=(gs1 h).1
    rw [List.getElem?_append_left hm]
    exact h
  ·simp only [List.length_append,List.length_cons,List.length_nil] at hi
   by_cases hil:i=l.length
   ·simp only [if_pos hil] at hb
    refine ⟨.inr ⟨hb.1,by have:=hb.2;omega⟩,fun e=>?_⟩
    subst e
    rcases hn b (by rw [k3];rfl) with h | h
    ·have:=(hS b (r2 b h)).2
     have:=hb.1
     omega
    ·have:=hb.2
     omega
   ·simp only [if_neg hil] at hb
    have hi':i < l.length:=by omega
    obtain ⟨q1,q2⟩:=r4 i b hi' hb
    refine ⟨.inl q1,fun e=>?_⟩
    subst e
    rcases hn b (by rw [k3];rfl) with h | h
    ·exact q2 h
    ·have:=(hS b q1).2
     omega
  ·simp only [List.length_append,List.length_cons,List.length_nil] at hi hj
   by_cases hil:i=l.length
   ·have hjl:j≠l.length:=fun e=>hij (hil.trans e.symm)
    simp only [if_pos hil] at hb
    simp only [if_neg hjl] at hb'
    have:=(hS b (r4 j b (by omega) hb').1).2
    have:=hb.1
    omega
   ·simp only [if_neg hil] at hb
    by_cases hjl:j=l.length
    ·simp only [if_pos hjl] at hb'
     have:=(hS b (r4 i b (by omega) hb).1).2
     have:=hb'.1
     omega
    ·simp only [if_neg hjl] at hb'
     exact r5 i j b (by omega) (by omega) hij hb hb'
section
variable {α : Type} {P : Program} {w : World} {e t : TypeId} {sz bytes B M : Nat} {S : Nat → Prop} {E : World → List Value → α → (Nat → Prop) → Prop} {v : Value} {l : List α}
theorem acU (hE:Frames E) (h:Ow e sz E w S v l) (hS:∀ b,S b→B≤b∧b < M) (hM:M≤w.heap.size) (qA:B≤M) (ty:TypeId) {i:TypeInfo} {z:Value} (ht:P.underlying t=some (.slice e)) (hi:P.info? e=some i) (hz:i.zero=some z) (hsize:i.size=sz) (hby:i.bytes=bytes) (hzs:z.cells.size=sz) (hsz:0 < sz)
  (x:α) (c:List Value) (hc:c.length=sz) (he:E w c x (In M w.heap.size)) (ad:Addr) (cc:Nat) (hcell:∀ j u,c[j]?=some u→w.cell? (ad.add j)=some u) (h1:∀ u ∈ c,u.oneCell'=true) (hl:l.length+1≤maxLen) (hb:(l.length+1) * bytes≤140737488355328) :
  ∃ v' w',(Builtin.append_ #[t,t] ty #[v,.slice (some ad) 1 cc]).run P w=.ok v' w'∧Ow e sz E w' (fun b=>S b∨M≤b∧b < w'.heap.size) v' (l ++ [x])∧w.grownBy w' v.ownBlock∧(∀ g,v.ownBlock=some g→S g):=by
 obtain ⟨xs,cs,fs,r1,r2,r3,r4,r5⟩:=h.Tg hS
 obtain ⟨v',w',hr,h2,h3,h4,h5⟩:=run_append_own_at (P:=P) w B t ty e i z sz bytes ht hi hz hsize hby hzs hsz v l.length xs r1 ad 1 cc c (by omega) hcell h1 hl hb (by omega)
 refine ⟨v',w',hr,h.acT hE hS hM x c hc he (fun ys hys=>?_) h3 (fun g hg=>?_),h3,r2⟩
 ·obtain ⟨k1,k2⟩:=hys
  obtain ⟨m1,m2⟩:=r1
  have e:ys=xs:=by
   rcases k2 with ⟨k3,k4⟩ | ⟨g,cap,cur,k3,k4,k5,k6,k7,k8,k9⟩
   ·rw [k4,Nat.zero_mul,List.length_eq_zero_iff] at k1
    rw [k4,Nat.zero_mul,List.length_eq_zero_iff] at m1
    rw [k1,m1]
   ·rcases m2 with ⟨m3,m4⟩ | ⟨g',cap',cur',m3,m4,m5,m6,m7,m8,m9⟩
    ·rw [m3] at k3
     cases k3
    ·rw [m3] at k3
     simp only [Value.slice.injEq,Option.some.injEq,Addr.mk.injEq] at k3
     obtain ⟨⟨rfl,-⟩,-⟩:=k3
     rw [m5] at k5
     simp only [Option.some.injEq,Obj.cells.injEq] at k5
     obtain ⟨rfl,-⟩:=k5
     rw [← k9,← m9]
  rw [e]
  exact h2
 ·rcases h5 with h5 | h5
  ·exact .inl (h5 ▸ hg)
  ·rw [h5] at hg
   exact .inr (by simp only [Option.some.injEq] at hg;omega)
/-- The operation in a region that draws. -/
theorem Ti {o:Oper} {a:Act} {K:Act→World→Prop} {Q:Exit→Act→World→Prop} (d:Nat) (hd:o.dst=some d) (s y:Operand)
  (ho:o.op=.call { callee:=.builtin .append,args:=#[s,y],argTypes:=#[t,t] }) (hE:Frames E) (h:Ow e sz E w S v l) (hS:∀ b,S b→B≤b∧b < M) (hM:M≤w.heap.size) (qA:B≤M) {i:TypeInfo} {z:Value} (ht:P.underlying t=some (.slice e)) (hi:P.info? e=some i) (hz:i.zero=some z) (hsize:i.size=sz) (hby:i.bytes=bytes) (hzs:z.cells.size=sz) (hsz:0 < sz)
  (hs:a.eval s=v) (x:α) (c:List Value) (hc:c.length=sz) (he:E w c x (In M w.heap.size)) (ad:Addr) (cc:Nat) (hy:a.eval y=.slice (some ad) 1 cc) (hcell:∀ j u,c[j]?=some u→w.cell? (ad.add j)=some u) (h1:∀ u ∈ c,u.oneCell'=true) (hl:l.length+1≤maxLen) (hb:(l.length+1) * bytes≤140737488355328)
  (k:∀ v' w',Ow e sz E w' (fun b=>S b∨M≤b∧b < w'.heap.size) v' (l ++ [x])→w.grownBy w' v.ownBlock→(∀ g,v.ownBlock=some g→S g)→K (a.put (some d) v') w'):o.wp P a w K Q:=by
 obtain ⟨v',w',hr,h2,h3,h4⟩:=acU (P:=P) (t:=t) hE h hS hM qA o.type ht hi hz hsize hby hzs hsz x c hc he ad cc hcell h1 hl hb
 unfold Oper.wp execOp
 simp only [ho,resolve,invoke,builtin,Sem.run_bind,Sem.run_pure,Result.andThen_ok,List.map_toArray,List.map_cons,List.map_nil,hs,hy,hr]
 have:=k v' w' h2 h3 h4
 rw [← hd] at this
 exact this
end
/- What Td of package spec does of every account. -/
theorem acV {x:aF} (h:¬ (0≤x.valid∧x.valid≤1000000∧(x.boxes.length:Int)≤4∧(x.seen.length:Int)≤60)):fA x=false:=by
 rw [Bool.eq_false_iff]
 intro e
 simp only [fA,nU,aM,Bool.and_eq_true,decide_eq_true_eq] at e
 exact h ⟨e.1.1,e.1.2,by have:=e.2.1;omega,by have:=e.2.2.1.1;omega⟩
theorem acW (v:Value) (x:aF) (w:World) (hv:iw w v x) :
  Calls Tryz.prog 6 #[v] w fun e w'=>e=.returned (.bool (fA x))∧Below w.heap.size w w':=by
 by_cases hC:0≤x.valid∧x.valid≤1000000∧(x.boxes.length:Int)≤4∧(x.seen.length:Int)≤60
 ·exact acO v x w hv hC.1 hC.2.1 hC.2.2.1 hC.2.2.2
 ·obtain ⟨u0,u1,rfl,g0,g1,-⟩:=hv
  obtain ⟨a0,c0,rfl,m0,m1⟩:=g0.form
  obtain ⟨a1,c1,rfl,m2,m3⟩:=g1.form
  clear g0 g1
  have HX:Hid (∀ o,Below w.heap.size w (w.alloc o)):=fun o=>bn _ o
  have HC:Hid (¬ (0≤x.valid∧x.valid≤1000000∧(x.boxes.length:Int)≤4∧(x.seen.length:Int)≤60)):=hC
  clear hC
  go_enter Tryz.func6,Tryz.ntmps6
  go_wp2
  all_goals first
   | (go_ret;exact ⟨aP (acV HC.out),HX.out _⟩)
   | exact (HC.out ⟨by omega,by omega,by omega,by omega⟩).elim
/- What wM of package spec does of kind 3. -/
theorem acX (a0 a1 a2:Option Addr) (nb nt nx c0 c1 c2:Nat) (bx tt:List Int) (uid mode fl si:Int) (tx:List Int) (w:World) (HN:Hid (bx.length=nb∧tt.length=nt∧tx.length=nx))
  (H0:Hid (∀ o,Bs (w.alloc o) (.slice a0 nb c0) bx∧Bs (w.alloc o) (.slice a1 nt c1) tt∧Bs (w.alloc o) (.slice a2 nx c2) tx)) (lq : -9223372036854775808≤uid) (i11:uid≤9223372036854775807) (i20 : -9223372036854775808≤mode) (i21:mode≤9223372036854775807) (i30 : -9223372036854775808≤fl) (i31:fl≤9223372036854775807) (i40 : -9223372036854775808≤si) (i41:si≤9223372036854775807) :
  Calls Tryz.prog 7 #[.agg #[.int .i64 3,.slice a0 nb c0,.slice a1 nt c1,.int .i64 uid,.int .i64 mode,.int .i64 fl,.int .i64 si,.slice a2 nx c2]] w fun e w'=>e=.returned (.bool (dK 3 bx tt uid mode fl si tx))∧Below w.heap.size w w':=by
 have hp:∀ w,Calls Tryz.prog 19 #[.int .i64 3] w fun e w'=>e=.returned (.tuple #[.bool false,.bool true,.bool true,.bool true,.bool false])∧w'=w:=fun w=>vE 3 w
 have ab:Hid (∀ o,Below w.heap.size w (w.alloc o)):=fun o=>bn _ o
 rcases Nat.eq_zero_or_pos nb with rfl | hnb
 all_goals rcases Nat.eq_zero_or_pos nt with rfl | hnt
 all_goals try have hnb':(nb:Int)≠0:=by omega
 all_goals try have zX:(nt:Int)≠0:=by omega
 all_goals try have zY:(0:Int) < nt:=by omega
 all_goals go_enter Tryz.func7,Tryz.ntmps7
 all_goals go_wp2_with (first
  | (go_at_call 18;(refine (qI _ bx _ (H0.out _).1).mono ?_);rintro e w' ⟨rfl,rfl⟩)
  | (go_at_call 21;refine (pJ _ tx _ (H0.out _).2.2).mono ?_;rintro e w' ⟨rfl,rfl⟩)
  | (go_at_call 19;refine (hp _).mono ?_;rintro e w' ⟨rfl,rfl⟩)
  | (go_at_call 20;refine (qH _ _).mono ?_;rintro e w' ⟨rfl,rfl⟩))
 all_goals go_ret
 all_goals refine ⟨aP ?_,ab.out _⟩
 all_goals clear hp H0
 all_goals have oW:=HN.out
 all_goals (try go_light)
 all_goals obtain ⟨e0,e1,e2⟩:=oW
 all_goals clear HN ab
 all_goals have z0:=lD (l:=bx)
 all_goals have z1:=lD (l:=tt)
 all_goals have z2:=vg (l:=tx)
 all_goals (try have y0:=HX.out)
 all_goals (try have y1:=HY.out)
 all_goals (try clear HX HY)
 all_goals (unfold dK;unfold aM at *;cases hn:bG bx <;> cases hm:bG tt <;> cases ht:dU tx <;> simp [hn,hm,ht,e0,e1,e2] at * <;> first | omega | (rw [Bool.eq_iff_iff];simp;omega))
/- What wM of package spec does of kind 9. -/
theorem acY (a0 a1 a2:Option Addr) (nb nt nx c0 c1 c2:Nat) (bx tt:List Int) (uid mode fl si:Int) (tx:List Int) (w:World) (HN:Hid (bx.length=nb∧tt.length=nt∧tx.length=nx))
  (H0:Hid (∀ o,Bs (w.alloc o) (.slice a0 nb c0) bx∧Bs (w.alloc o) (.slice a1 nt c1) tt∧Bs (w.alloc o) (.slice a2 nx c2) tx)) (lq : -9223372036854775808≤uid) (i11:uid≤9223372036854775807) (i20 : -9223372036854775808≤mode) (i21:mode≤9223372036854775807) (i30 : -9223372036854775808≤fl) (i31:fl≤9223372036854775807) (i40 : -9223372036854775808≤si) (i41:si≤9223372036854775807) :
  Calls Tryz.prog 7 #[.agg #[.int .i64 9,.slice a0 nb c0,.slice a1 nt c1,.int .i64 uid,.int .i64 mode,.int .i64 fl,.int .i64 si,.slice a2 nx c2]] w fun e w'=>e=.returned (.bool (dK 9 bx tt uid mode fl si tx))∧Below w.heap.size w w':=by
 have hp:∀ w,Calls Tryz.prog 19 #[.int .i64 9] w fun e w'=>e=.returned (.tuple #[.bool false,.bool false,.bool false,.bool false,.bool false])∧w'=w:=fun w=>vE 9 w
 have ab:Hid (∀ o,Below w.heap.size w (w.alloc o)):=fun o=>bn _ o
 rcases Nat.eq_zero_or_pos nb with rfl | hnb
 all_goals rcases Nat.eq_zero_or_pos nt with rfl | hnt
 all_goals try have hnb':(nb:Int)≠0:=by omega
 all_goals try have zX:(nt:Int)≠0:=by omega
 all_goals try have zY:(0:Int) < nt:=by omega
 all_goals go_enter Tryz.func7,Tryz.ntmps7
 all_goals go_wp2_with (first
  | (go_at_call 18;(refine (qI _ bx _ (H0.out _).1).mono ?_);rintro e w' ⟨rfl,rfl⟩)
  | (go_at_call 21;refine (pJ _ tx _ (H0.out _).2.2).mono ?_;rintro e w' ⟨rfl,rfl⟩)
  | (go_at_call 19;refine (hp _).mono ?_;rintro e w' ⟨rfl,rfl⟩)
  | (go_at_call 20;refine (qH _ _).mono ?_;rintro e w' ⟨rfl,rfl⟩))
 all_goals go_ret
 all_goals refine ⟨aP ?_,ab.out _⟩
 all_goals clear hp H0
 all_goals have oW:=HN.out
 all_goals (try go_light)
 all_goals obtain ⟨e0,e1,e2⟩:=oW
 all_goals clear HN ab
 all_goals have z0:=lD (l:=bx)
 all_goals have z1:=lD (l:=tt)
 all_goals have z2:=vg (l:=tx)
 all_goals (try have y0:=HX.out)
 all_goals (try have y1:=HY.out)
 all_goals (try clear HX HY)
 all_goals (unfold dK;unfold aM at *;cases hn:bG bx <;> cases hm:bG tt <;> cases ht:dU tx <;> simp [hn,hm,ht,e0,e1,e2] at * <;> first | omega | (rw [Bool.eq_iff_iff];simp;omega))
end Go.Proofs.YtmglhdkeidhafaaGreat
