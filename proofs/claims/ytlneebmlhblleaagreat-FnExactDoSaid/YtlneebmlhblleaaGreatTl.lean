/- The proof's texts, part 21. -/
import Derived.Test.YtlneebmlhblleaaGreatTk
namespace Go.Proofs.YtlneebmlhblleaaGreat
open Go.RowKit
set_option linter.unusedVariables false
set_option linter.unusedSimpArgs false
set_option maxHeartbeats 8000000
set_option maxRecDepth 100000
/- One element more put behind a list whose blocks are told by a set. -/
/-- The list as a row of cells, with what its elements lead to. -/
theorem Ow.Rv {α:Type} {t:TypeId} {sz:Nat} {E:World→List Value→α→(Nat→Prop)→Prop} {w:World} {B M:Nat} {S:Nat→Prop} {v:Value} {l:List α} (h:Ow t sz E w S v l) (hS:∀ b,S b→B≤b∧b < M) :
  ∃ (xs:List Value) (cs:Nat→List Value) (fs:Nat→Nat→Prop),w.ownsRow B t sz v l.length xs∧(∀ g,v.ownBlock=some g→S g) ∧
   (∀ i x,l[i]?=some x→E w (cs i) x (fs i)∧(cs i).length=sz∧∀ j u,(cs i)[j]?=some u→xs[i * sz+j]?=some u) ∧
   (∀ i b,i < l.length→fs i b→S b∧v.ownBlock≠some b)∧(∀ i j b,i < l.length→j < l.length→i≠j→fs i b→¬ fs j b):=by
 rcases h with ⟨rfl,rfl⟩ | ⟨g,cap,cur,cs,fs,rfl,hh,h1,h2,h3,h4,h5,h6,h7⟩
 ·exact ⟨[],fun _=>[],fun _ _=>False,⟨by simp,.inl ⟨rfl,rfl⟩⟩,fun g hg=>by simp [Value.ownBlock] at hg,by simp,by simp,by simp⟩
 ·have hle:l.length * sz≤cur.size:=by rw [h3];exact Nat.mul_le_mul_right _ h1
  refine ⟨cur.toList.take (l.length * sz),cs,fs,⟨by simp;omega,.inr ⟨g,cap,cur,rfl,(hS g h4).1,hh,h1,h2,h3,rfl⟩⟩,fun q hq=>?_,fun i x hx=>?_,fun i b hi hb=>⟨(h6 i b hi hb).1,?_⟩,h7⟩
  ·simp only [Value.ownBlock,Option.some.injEq] at hq
   subst hq
   exact h4
  ·have hi:i < l.length:=(gs1 hx).1
   obtain ⟨e1,e2,e3⟩:=h5 i x hx
   refine ⟨e1,e2,fun j u hu=>?_⟩
   have hj:j < sz:=by have:=(gs1 hu).1;omega
   have hb:i * sz+j < l.length * sz:=by
    have:=Nat.mul_le_mul_right sz (show i+1≤l.length by omega)
    rw [Nat.add_mul,Nat.one_mul] at this
    omega
   rw [List.getElem?_take,if_pos hb]
   simpa using e3 j u hu
  ·simp only [Value.ownBlock,ne_eq,Option.some.injEq]
   exact fun e=>(h6 i b hi hb).2 e.symm
/-- One element more: its cells stand behind the row, its footprint lies behind the list's. -/
theorem Ow.aas {α:Type} {t:TypeId} {sz:Nat} {E:World→List Value→α→(Nat→Prop)→Prop} {w w':World} {B M:Nat} {S:Nat→Prop} {v v':Value} {l:List α} (hE:Frames E) (h:Ow t sz E w S v l) (hS:∀ b,S b→B≤b∧b < M) (hM:M≤w.heap.size)
  (x:α) (c:List Value) (hc:c.length=sz) (he:E w c x (In M w.heap.size))
  (hr:∀ xs,w.ownsRow B t sz v l.length xs→w'.ownsRow B t sz v' (l.length+1) (xs ++ c)) (hg:w.grownBy w' v.ownBlock)
  (hn:∀ g,v'.ownBlock=some g→v.ownBlock=some g∨w.heap.size≤g):Ow t sz E w' (fun b=>S b∨M≤b∧b < w'.heap.size) v' (l ++ [x]):=by
 obtain ⟨xs,cs,fs,r1,r2,r3,r4,r5⟩:=h.Rv hS
 have hlen:=r1.1
 obtain ⟨k1,k2 | ⟨g,cap,cur,k3,k4,k5,k6,k7,k8,k9⟩⟩:=hr xs r1
 ·exfalso
  have:=k2.2
  omega
 ·have hgl:=lt_of_heap k5
  have Fy:=hg.size
  have hgo:∀ b,b < w.heap.size→v.ownBlock≠some b→w'.heap[b]?=w.heap[b]?:=fun b hb hne=>hg.block b hb fun e=>hne e.symm
  refine .inr ⟨g,cap,cur,fun i=>if i=l.length then c else cs i,fun i=>if i=l.length then In M w.heap.size else fs i,?_,k5,?_,k7,k8,(hn g (by rw [k3];rfl)).elim (fun e=>.inl (r2 g e)) (fun e=>.inr ⟨by omega,hgl⟩),fun i y hy=>?_,fun i b hi hb=>?_,fun i j b hi hj hij hb hb'=>?_⟩
  ·rw [k3];simp
  ·simpa using k6
  ·have hxs:∀ (m:Nat) (u:Value),(xs ++ c)[m]?=some u→cur[m]?=some u:=by
    intro m u hu
    rw [← k9,List.getElem?_take] at hu
    split at hu
    ·simpa using hu
    ·cases hu
   by_cases hi:i=l.length
   ·subst hi
    rw [List.getElem?_append_right (Nat.le_refl _)] at hy
    simp only [Nat.sub_self,List.getElem?_cons_zero,Option.some.injEq] at hy
    subst hy
    simp only [if_true]
    refine ⟨hE _ _ _ _ _ he fun b hb hlt=>hgo b hlt fun e=>?_,hc,fun j u hu=>hxs _ _ ?_⟩
    ·have:=(hS b (r2 b e)).2
     have:=hb.1
     omega
    ·rw [List.getElem?_append_right (by omega),hlen]
     simpa using hu
   ·have hi':i < l.length:=by
     have:=(gs1 hy).1
     simp at this
     omega
    rw [List.getElem?_append_left hi'] at hy
    simp only [if_neg hi]
    obtain ⟨e1,e2,e3⟩:=r3 i y hy
    refine ⟨hE _ _ _ _ _ e1 fun b hb hlt=>hgo b hlt (r4 i b hi' hb).2,e2,fun j u hu=>hxs _ _ ?_⟩
    have h:=e3 j u hu
    have hm:i * sz+j < xs.length:=(gs1 h).1
    rw [List.getElem?_append_left hm]
    exact h
  ·simp only [List.length_append,List.length_cons,List.length_nil] at hi
   by_cases hil:i=l.length
   ·simp only [if_pos hil] at hb
    refine ⟨.inr ⟨hb.1,by have:=hb.2;omega⟩,fun e=>?_⟩
    subst e
    rcases hn b (by rw [k3];rfl) with h | h
    ·have:=(hS b (r2 b h)).2
     have:=hb.1
     omega
    ·have:=hb.2
     omega
   ·simp only [if_neg hil] at hb
    have hi':i < l.length:=by omega
    obtain ⟨q1,q2⟩:=r4 i b hi' hb
    refine ⟨.inl q1,fun e=>?_⟩
    subst e
    rcases hn b (by rw [k3];rfl) with h | h
    ·exact q2 h
    ·have:=(hS b q1).2
     omega
  ·simp only [List.length_append,List.length_cons,List.length_nil] at hi hj
   by_cases hil:i=l.length
   ·have hjl:j≠l.length:=fun e=>hij (hil.trans e.symm)
    simp only [if_pos hil] at hb
    simp only [if_neg hjl] at hb'
    have:=(hS b (r4 j b (by omega) hb').1).2
    have:=hb.1
    omega
   ·simp only [if_neg hil] at hb
    by_cases hjl:j=l.length
    ·simp only [if_pos hjl] at hb'
     have:=(hS b (r4 i b (by omega) hb).1).2
     have:=hb'.1
     omega
    ·simp only [if_neg hjl] at hb'
     exact r5 i j b (by omega) (by omega) hij hb hb'
section
variable {α : Type} {P : Program} {w : World} {e t : TypeId} {sz bytes B M : Nat} {S : Nat → Prop} {E : World → List Value → α → (Nat → Prop) → Prop} {v : Value} {l : List α}
theorem aat (hE:Frames E) (h:Ow e sz E w S v l) (hS:∀ b,S b→B≤b∧b < M) (hM:M≤w.heap.size) (uD:B≤M) (ty:TypeId) {i:TypeInfo} {z:Value} (ht:P.underlying t=some (.slice e)) (hi:P.info? e=some i) (hz:i.zero=some z) (hsize:i.size=sz) (hby:i.bytes=bytes) (hzs:z.cells.size=sz) (hsz:0 < sz)
  (x:α) (c:List Value) (hc:c.length=sz) (he:E w c x (In M w.heap.size)) (ad:Addr) (cc:Nat) (hcell:∀ j u,c[j]?=some u→w.cell? (ad.add j)=some u) (h1:∀ u ∈ c,u.oneCell'=true) (hl:l.length+1≤maxLen) (hb:(l.length+1) * bytes≤140737488355328) :
  ∃ v' w',(Builtin.append_ #[t,t] ty #[v,.slice (some ad) 1 cc]).run P w=.ok v' w'∧Ow e sz E w' (fun b=>S b∨M≤b∧b < w'.heap.size) v' (l ++ [x])∧w.grownBy w' v.ownBlock∧(∀ g,v.ownBlock=some g→S g):=by
 obtain ⟨xs,cs,fs,r1,r2,r3,r4,r5⟩:=h.Rv hS
 obtain ⟨v',w',hr,h2,h3,h4,h5⟩:=run_append_own_at (P:=P) w B t ty e i z sz bytes ht hi hz hsize hby hzs hsz v l.length xs r1 ad 1 cc c (by omega) hcell h1 hl hb (by omega)
 refine ⟨v',w',hr,h.aas hE hS hM x c hc he (fun ys hys=>?_) h3 (fun g hg=>?_),h3,r2⟩
 ·obtain ⟨k1,k2⟩:=hys
  obtain ⟨m1,m2⟩:=r1
  have e:ys=xs:=by
   rcases k2 with ⟨k3,k4⟩ | ⟨g,cap,cur,k3,k4,k5,k6,k7,k8,k9⟩
   ·rw [k4,Nat.zero_mul,List.length_eq_zero_iff] at k1
    rw [k4,Nat.zero_mul,List.length_eq_zero_iff] at m1
    rw [k1,m1]
   ·rcases m2 with ⟨m3,m4⟩ | ⟨g',cap',cur',m3,m4,m5,m6,m7,m8,m9⟩
    ·rw [m3] at k3
     cases k3
    ·rw [m3] at k3
     simp only [Value.slice.injEq,Option.some.injEq,Addr.mk.injEq] at k3
     obtain ⟨⟨rfl,-⟩,-⟩:=k3
     rw [m5] at k5
     simp only [Option.some.injEq,Obj.cells.injEq] at k5
     obtain ⟨rfl,-⟩:=k5
     rw [← k9,← m9]
  rw [e]
  exact h2
 ·rcases h5 with h5 | h5
  ·exact .inl (h5 ▸ hg)
  ·rw [h5] at hg
   exact .inr (by simp only [Option.some.injEq] at hg;omega)
/-- The operation in a region that draws. -/
theorem Rw {o:Oper} {a:Act} {K:Act→World→Prop} {Q:Exit→Act→World→Prop} (d:Nat) (hd:o.dst=some d) (s y:Operand)
  (ho:o.op=.call { callee:=.builtin .append,args:=#[s,y],argTypes:=#[t,t] }) (hE:Frames E) (h:Ow e sz E w S v l) (hS:∀ b,S b→B≤b∧b < M) (hM:M≤w.heap.size) (uD:B≤M) {i:TypeInfo} {z:Value} (ht:P.underlying t=some (.slice e)) (hi:P.info? e=some i) (hz:i.zero=some z) (hsize:i.size=sz) (hby:i.bytes=bytes) (hzs:z.cells.size=sz) (hsz:0 < sz)
  (hs:a.eval s=v) (x:α) (c:List Value) (hc:c.length=sz) (he:E w c x (In M w.heap.size)) (ad:Addr) (cc:Nat) (hy:a.eval y=.slice (some ad) 1 cc) (hcell:∀ j u,c[j]?=some u→w.cell? (ad.add j)=some u) (h1:∀ u ∈ c,u.oneCell'=true) (hl:l.length+1≤maxLen) (hb:(l.length+1) * bytes≤140737488355328)
  (k:∀ v' w',Ow e sz E w' (fun b=>S b∨M≤b∧b < w'.heap.size) v' (l ++ [x])→w.grownBy w' v.ownBlock→(∀ g,v.ownBlock=some g→S g)→K (a.put (some d) v') w'):o.wp P a w K Q:=by
 obtain ⟨v',w',hr,h2,h3,h4⟩:=aat (P:=P) (t:=t) hE h hS hM uD o.type ht hi hz hsize hby hzs hsz x c hc he ad cc hcell h1 hl hb
 unfold Oper.wp execOp
 simp only [ho,resolve,invoke,builtin,Sem.run_bind,Sem.run_pure,Result.andThen_ok,List.map_toArray,List.map_cons,List.map_nil,hs,hy,hr]
 have:=k v' w' h2 h3 h4
 rw [← hd] at this
 exact this
end
/- create of package o9 gH. -/
theorem aau:(Tryz.f75.body.bind (bQ 6)).all (fun o=>dQ o 17 [0,1,2,3,4,5,6,7,8,9,10,11,12,13,14,15,16] [11,12,13,16] [14,17] 8)=true:=by kernel_rfl
theorem aav (w:World) (S:Nat→Prop):fP w S (.slice none 0 0) []:=⟨Rd.nil _,fun a n c h=>by cases h⟩
theorem aaw {E:aX} {v:Int} (h:∀ e ∈ E,e.1 < v):dB E v []:=⟨List.Pairwise.nil,by simp,fun u _=>by
 unfold cB
 rw [show E.find? (isK v u)=none from List.find?_eq_none.2 fun e he=>by
  have:=h e he
  unfold isK
  simp
  omega]
 rfl⟩
section
variable {wt w w' : World} {S : Nat → Prop} {gd g n : Nat} {a : aJ} {u0 u1 : Value} {E : aX}
theorem aW.Ku (h:aW wt w S gd g n a u0 u1 E):u1.ownBlock≠some gd:=fun e=>by
 rcases yD h.seen with ⟨e',-⟩ | ⟨gs,e',_,_,ht⟩
 ·rw [e'] at e;simp [Value.ownBlock] at e
 ·rw [e'] at e
  cases e
  rw [h.cells] at ht
  cases ht
theorem aW.J4 (h:aW wt w S gd g n a u0 u1 E) {v:Int} (hv:a.valid≤v) (hi:aB v):aW wt (w.setCell ⟨gd,0,none⟩ (.int .i64 v)) S gd g n ⟨v,a.boxes,a.seen⟩ u0 u1 E:=by
 have hk:∀ q,q≠gd→(w.setCell ⟨gd,0,none⟩ (.int .i64 v)).heap[q]?=w.heap[q]?:=fun q hq=>Below.heap_setCell _ _ _ _ hq
 exact h.CK (h.base.setCell (p:=⟨gd,0,none⟩) h.nY.1 _) (by rw [aZ];exact Nat.le_refl _) (aP (i:=0) (v:=.int .i64 v) h.cells) (h.boxes.frame nA fun q hq _=>hk q (h.low q hq).2.2.1) (hk g (fun e=>h.ty.2 e.symm)) (fun q hq _=>hk q (fun e=>h.Ku (e ▸ hq))) (fun q hq=>.inl hq) h.ents (fun e he=>Int.le_trans (h.high e he) hv) h.dist hi
end
theorem aax (wt w:World) (S:Nat→Prop) (gd g n:Nat) (a:aJ) (u0 u1 nv:Value) (E:aX) (nm:List Int) (h:aW wt w S gd g n a u0 u1 E) (iI:Bs wt nv nm) (hso:a.boxes.Pairwise (fun y z=>dH y.name z.name=true)) (h4:a.boxes.length≤4) (hva:0≤a.valid∧a.valid≤1000000) (hvs:∀ b ∈ a.boxes,b.valid≤a.valid) (hnl:nm.length≤2000000) (res:aJ × cO) (hres:res=qx a nm) :
  Calls Tryz.prog 75 #[.pointer (some ⟨gd,0,none⟩),nv] w fun e w'=>∃ v,e=.returned v∧dD w' w.heap.size w'.heap.size v res.2∧Left wt w w' S gd g n u1 res.1:=by
 have A1:Below w.heap.size w (w.alloc (.cells #[.int .i64 0,.int .i64 0,.slice none 0 0,.int .i64 0,.int .i64 0,.int .i64 0,.slice none 0 0,.slice none 0 0,.int .i64 0,.slice none 0 0] 40)):=bn _ _
 have HK:=ak (aV w (.cells #[.int .i64 0,.int .i64 0,.slice none 0 0,.int .i64 0,.int .i64 0,.int .i64 0,.slice none 0 0,.slice none 0 0,.int .i64 0,.slice none 0 0] 40))
 have HD:=ak (h.below A1)
 have HA:=ak A1
 have bN:=ak hres
 have HSL:Hid (∀ k,S k→k < w.heap.size):=fun k hk=>(h.low k hk).2.1
 have Gt:=ak hso
 have Kv:=ak iI
 have HVS:=ak hvs
 have Kw:=ak h.high
 have HOC:Hid (∀ y ∈ a.boxes,Oct y.name):=fun y hy=>by
  obtain ⟨i,hi⟩:=List.mem_iff_getElem?.1 hy
  obtain ⟨_,_,_,_,_,-,-,-,-,-,-,-,r0,-⟩:=h.read hi
  exact r0.1
 have hw0:=h.base.size
 have hgl:=lt_of_heap h.cells
 obtain ⟨z0,hi,hz0,hz1,hz2⟩:=info_parts uH
 obtain ⟨na,nn,nc,rfl⟩:=iI.aG
 obtain ⟨va,vc,rfl,hm1,hm2⟩:∃ va vc,u0=.slice va a.boxes.length vc∧a.boxes.length≤vc∧vc≤maxLen:=by
  obtain ⟨x,y,e,k1,k2⟩:=h.boxes.v.form
  rw [List.length_map] at e k1
  exact ⟨x,y,e,k1,k2⟩
 have hz:w.heap.size+1≤(w.alloc (.cells #[.int .i64 0,.int .i64 0,.slice none 0 0,.int .i64 0,.int .i64 0,.int .i64 0,.slice none 0 0,.slice none 0 0,.int .i64 0,.slice none 0 0] 40)).heap.size:=by simp
 clear h A1 hres hso iI hvs
 go_enter Tryz.func75,Tryz.ntmps75
 go_upto_region 1 with fail
 generalize w.alloc (.cells #[.int .i64 0,.int .i64 0,.slice none 0 0,.int .i64 0,.int .i64 0,.int .i64 0,.slice none 0 0,.slice none 0 0,.int .i64 0,.slice none 0 0] 40)=w1 at HK HD HA hz ⊢
 have wS:=ak (Ki wt w1 S gd g n a (.slice va a.boxes.length vc) u1 (.slice na nn nc) E nm HD.out (Kv.out.below HD.out.base))
 go_wp2_with fail
 refine wS.out.mono ?_
 rintro e w2 ⟨p,rfl,B2,hp⟩
 have HD2:=ak (HD.out.below B2)
 have HA2:=ak (Below.step HA.out B2)
 have dw:=ak (ay B2 HK.out)
 have hs2:=B2.size
 clear B2 wS HD HA HK
 rcases hp with ⟨rfl,hfn⟩ | ⟨t,bt,gb,cap,rfl,hft,hbt,-⟩
 rotate_left
 ·have bI:Hid (res=(a,aQ 2 0)):=by
   show _=_
   rw [bN.out]
   unfold qx
   rw [if_pos (by unfold bB;rw [hft];simp)]
  clear hft hbt
  have HF:=ak (HD2.out.done (n:=n) (fun k hk=>.inl hk) (fT HA2.out) (by omega) dw.out (fun hS=>by have:=HSL.out _ hS;omega) hw0 (by omega) (c:=2) (x:=0) ⟨by decide,by decide⟩ aI)
  obtain ⟨yz,yl,y0,y1,y2,y3,y4,y5,y6,y7,y8,y9⟩:=eT dw.out
  go_wp2
  have ff:=aM HF.out.1
  refine bodyPost_ret (v:=aY 2 0) (by simp [results,Tryz.results75,aY,go_sem,ff]) rfl ⟨aY 2 0,rfl,?_⟩
  rw [bI.out]
  exact HF.out.2
 ·have HF:Hid (bB (fun x:aD=>decide (x.name=nm)) a.boxes = -1):=by show _=_;unfold bB;rw [hfn]
  have HNN:Hid (∀ y ∈ a.boxes,y.name≠nm):=fun y hy=>by
   have:=List.findIdx?_eq_none_iff.1 hfn y hy
   simpa using this
  clear hfn
  obtain ⟨c0,c1,c2,c3⟩:=gF HD2.out.cells
  have cl:=lt_of_heap HD2.out.cells
  have cz:=(bR HD2.out.cells).1
  by_cases hfu:a.boxes.length=4∨(a.boxes.length≠4∧a.valid=1000000)
  ·have bI:Hid (res=(a,aQ 3 0)):=by
    show _=_
    rw [bN.out]
    unfold qx
    rw [if_neg (by rw [HF.out];decide),if_pos (by omega)]
   obtain h1 | ⟨h1,h2⟩:=hfu
   ·have e1:((a.boxes.length:Int) == 4)=true:=by simp [h1]
    clear h1
    have HF:=ak (HD2.out.done (n:=n) (fun k hk=>.inl hk) (fT HA2.out) (by omega) dw.out (fun hS=>by have:=HSL.out _ hS;omega) hw0 (by omega) (c:=3) (x:=0) ⟨by decide,by decide⟩ aI)
    obtain ⟨yz,yl,y0,y1,y2,y3,y4,y5,y6,y7,y8,y9⟩:=eT dw.out
    go_wp2
    have ff:=aM HF.out.1
    refine bodyPost_ret (v:=aY 3 0) (by simp [results,Tryz.results75,aY,go_sem,ff]) rfl ⟨aY 3 0,rfl,?_⟩
    rw [bI.out]
    exact HF.out.2
   ·have e1:((a.boxes.length:Int) == 4)=false:=by simp;omega
    have e2:(a.valid == 1000000)=true:=by simpa using h2
    clear h1 h2
    have HF:=ak (HD2.out.done (n:=n) (fun k hk=>.inl hk) (fT HA2.out) (by omega) dw.out (fun hS=>by have:=HSL.out _ hS;omega) hw0 (by omega) (c:=3) (x:=0) ⟨by decide,by decide⟩ aI)
    obtain ⟨yz,yl,y0,y1,y2,y3,y4,y5,y6,y7,y8,y9⟩:=eT dw.out
    go_wp2
    have ff:=aM HF.out.1
    refine bodyPost_ret (v:=aY 3 0) (by simp [results,Tryz.results75,aY,go_sem,ff]) rfl ⟨aY 3 0,rfl,?_⟩
    rw [bI.out]
    exact HF.out.2
  ·have e1:((a.boxes.length:Int) == 4)=false:=by simp;omega
   have e2:(a.valid == 1000000)=false:=by simp;omega
   have Rx:Hid (res=(⟨a.valid+1,a.boxes.takeWhile (fun x:aD=>dH x.name nm) ++ (⟨nm,a.valid+1,1,0,[],[],0⟩ :: a.boxes.dropWhile (fun x:aD=>dH x.name nm)),a.seen⟩,aQ 0 (a.valid+1))):=by
    show _=_
    rw [bN.out]
    unfold qx
    rw [if_neg (by rw [HF.out];decide),if_neg (by omega)]
   have wU:Hid (aB (a.valid+1)):=⟨by omega,by omega⟩
   have HD4:=ak (HD2.out.J4 (v:=a.valid+1) (by omega) wU.out)
   have fV:Hid (iU w (w2.setCell ⟨gd,0,none⟩ (.int .i64 (a.valid+1))) S gd g):=⟨by rw [aZ];exact HA2.out.size,fun q h1 h2 h3 h4=>(Below.heap_setCell _ _ _ _ (show q≠gd from h2)).trans (HA2.out.block q h1),HA2.out.os,HA2.out.tape,HA2.out.output⟩
   have jT:=ak (bP (k:=gd) (i:=0) (v:=.int .i64 (a.valid+1)) dw.out (by omega))
   have qE:(w2.setCell ⟨gd,0,none⟩ (.int .i64 (a.valid+1))).heap.size=w2.heap.size:=aZ
   clear hfu bN HF
   go_upto_region 6 with fail
   clear c0 c1 c2 c3 cl cz
   generalize w2.setCell ⟨gd,0,none⟩ (.int .i64 (a.valid+1))=w4 at HD4 fV jT qE ⊢
   have DR:Below w4.heap.size w4 w4.drew:=bd _ _
   have aia:=lt_of_heap HD4.out.cells
   have rA:Hid (∀ w',Below w4.heap.size w4 w'→w'.cell? ⟨gd,0,none⟩=some (.int .i64 (a.valid+1))∧w'.cell? ⟨gd,1,none⟩=some (.slice va a.boxes.length vc)):=fun w' hw=>⟨(cell_of_row _ gd 0 _ _ (0,0) (HD4.out.below hw).cells).trans rfl,(cell_of_row _ gd 1 _ _ (0,0) (HD4.out.below hw).cells).trans rfl⟩
   have hbv:bK w4.drew (.agg #[.slice na nn nc,.int .i64 (a.valid+1),.int .i64 1,.int .i64 0,.slice none 0 0,.slice none 0 0,.int .i64 0]) ⟨nm,a.valid+1,1,0,[],[],0⟩:=⟨_,_,_,rfl,Kv.out.below (HD4.out.below DR).base,Rd.nil _,Rd.nil _,wU.out,(show aB 1 from ⟨by decide,by decide⟩),aI,aI⟩
   have mD:=ak (Bh _ ⟨nm,a.valid+1,1,0,[],[],0⟩ _ hbv hnl)
   clear hbv HD2 HA2 dw
   refine eF 14 (S:=fun w'=>w'.cell? ⟨gd,0,none⟩=some (.int .i64 (a.valid+1))∧w'.cell? ⟨gd,1,none⟩=some (.slice va a.boxes.length vc)) (eB (by kernel_rfl) aau) (by kernel_rfl) (rA.out _ DR) (fun aj aks=>?_)
   refine tks 0 0 31 aj aks ?_
   refine tks 1 1 32 aj aks ?_
   refine tks 2 2 33 aj aks ?_
   refine tks 3 3 34 aj aks ?_
   refine tks 4 4 35 aj aks ?_
   refine tks 5 5 36 aj aks ?_
   refine tks 6 6 37 aj aks ?_
   refine tks 7 7 38 aj aks ?_
   refine tks 8 8 39 aj aks ?_
   refine tks 9 9 40 aj aks ?_
   refine tks 10 10 41 aj aks ?_
   refine cls 11 11 aj (by decide) rfl rfl (fun K hK=>?_)
   go_simp
   refine mD.out.mono ?_
   rintro e w5 ⟨xa,xn,xc,rfl,oh,iV⟩
   have mW:=ak (Below.step DR iV)
   have ko:=ak oh
   have hs5:w4.heap.size≤w5.heap.size:=iV.size
   clear oh iV
   refine hK.out _ _ (rA.out _ mW.out) (fun aks=>?_)
   clear hK K
   refine cls 12 12 aj (by decide) rfl rfl (fun K hK=>?_)
   go_simp
   have AB:Below w5.heap.size w5 (w5.alloc (.cells #[.slice xa xn xc,.int .i64 (a.valid+1),.int .i64 1,.int .i64 0,.slice none 0 0,.slice none 0 0,.int .i64 0] 37)):=bn _ _
   refine hK.out _ _ (rA.out _ (Below.step mW.out AB)) (fun aks=>?_)
   clear hK K
   refine cls 13 13 aj (by decide) rfl rfl (fun K hK=>?_)
   have hMs:w4.heap.size≤(w5.alloc (.cells #[.slice xa xn xc,.int .i64 (a.valid+1),.int .i64 1,.int .i64 0,.slice none 0 0,.slice none 0 0,.int .i64 0] 37)).heap.size:=by simp;omega
   have lM:qA (w5.alloc (.cells #[.slice xa xn xc,.int .i64 (a.valid+1),.int .i64 1,.int .i64 0,.slice none 0 0,.slice none 0 0,.int .i64 0] 37)) [.slice xa xn xc,.int .i64 (a.valid+1),.int .i64 1,.int .i64 0,.slice none 0 0,.slice none 0 0,.int .i64 0] ⟨nm,a.valid+1,1,0,[],[],0⟩ (In w4.heap.size (w5.alloc (.cells #[.slice xa xn xc,.int .i64 (a.valid+1),.int .i64 1,.int .i64 0,.slice none 0 0,.slice none 0 0,.int .i64 0] 37)).heap.size):=⟨_,_,rfl,(ko.out.below AB).mono fun q hq=>⟨hq.1,by have:=hq.2;simp;omega⟩,aav _ _,wU.out,(show aB 1 from ⟨by decide,by decide⟩),aI,aI⟩
   have hl1:a.boxes.length+1≤maxLen:=by unfold maxLen;omega
   have hl2:(a.boxes.length+1) * 104≤140737488355328:=by omega
   refine dO (by kernel_rfl) (Rw 44 rfl (.tmp 35) (.tmp 43) rfl nA (B:=wt.heap.size) (M:=w4.heap.size) (Ow.below nA (Ow.below nA HD4.out.boxes mW.out) AB) (fun q hq=>⟨(HD4.out.low q hq).1,(HD4.out.low q hq).2.1⟩) hMs HD4.out.base.size Tryz.underlying31 hi hz0 hz1 hz2 rfl (by omega) rfl ⟨nm,a.valid+1,1,0,[],[],0⟩ [.slice xa xn xc,.int .i64 (a.valid+1),.int .i64 1,.int .i64 0,.slice none 0 0,.slice none 0 0,.int .i64 0] rfl lM ⟨w5.heap.size,0,none⟩ 1 rfl (mO w5 _ _) (by simp [Value.oneCell']) hl1 hl2 ?_)
   intro DV wz kr hgz eO
   obtain ⟨da,dn,dc,mX⟩:∃ x y z,DV=.slice x y z:=by
    rcases kr with ⟨e,-⟩ | ⟨_,_,_,_,_,e,-⟩
    ·exact ⟨_,_,_,e⟩
    ·exact ⟨_,_,_,e⟩
   subst mX
   have hgn:∀ j,(Value.slice va a.boxes.length vc).ownBlock=some j→j≠gd:=fun j hj=>(HD4.out.low j (eO j hj)).2.2.1
   have KX:=(hgz.block gd (lt_of_heap (ay (Below.step mW.out AB) HD4.out.cells)) (fun e=>hgn gd e.symm rfl)).trans (ay (Below.step mW.out AB) HD4.out.cells)
   have kS:Hid (wz.cell? ⟨gd,0,none⟩=some (.int .i64 (a.valid+1))∧wz.cell? ⟨gd,1,none⟩=some (.slice va a.boxes.length vc)):=⟨(gF KX).1,(gF KX).2.1⟩
   have CO:=ak (And.intro kr (And.intro hgz eO))
   have eH:=ak (Below.step mW.out AB)
   refine hK.out _ _ (kS.out) (fun aks=>?_)
   clear hK K
   refine gL (S':=fun w'=>True) 14 17 aj (by decide) (trivial) (fun aks=>?_)
   obtain ⟨x0,x1,x2,x3⟩:=gF KX
   obtain ⟨xz,xl⟩:=bR KX
   refine tks 14 14 45 aj aks ?_
   refine tks 15 15 46 aj aks ?_
   refine cls 16 16 aj (by decide) rfl rfl (fun K hK=>?_)
   go_simp
   refine hK.out _ _ (trivial) (fun aks=>?_)
   clear hK K
   refine eG aj ?_
   have rC:=ak KX
   clear rA kS mD lM hMs hl1 hl2 AB x0 x1 x2 x3 xz xl kr hgz eO hgn KX
   obtain ⟨kr,hgz,eO⟩:=CO.out
   obtain ⟨S7,uU⟩:∃ S7:Nat→Prop,S7=fun b=>S b∨w4.heap.size≤b∧b < wz.heap.size:=⟨_,rfl⟩
   rw [← uU] at kr
   have kS:Hid (∀ q,S7 q→S q∨(w4.heap.size≤q∧q < wz.heap.size)):=fun q hq=>by rw [uU] at hq;exact hq
   clear uU
   have hsz:=hgz.size
   have hsa:=eH.out.size
   have uW:∀ q,q≠gd→(wz.setCell ⟨gd,1,none⟩ (.slice da dn dc)).heap[q]?=wz.heap[q]?:=fun q hq=>Below.heap_setCell _ _ _ _ hq
   have hkeep:∀ q,q < w4.heap.size→q≠gd→(∀ j,S j→q≠j)→(wz.setCell ⟨gd,1,none⟩ (.slice da dn dc)).heap[q]?=w4.heap[q]?:=fun q hq h1 h2=>(uW q h1).trans ((hgz.block q (by omega) (fun e=>h2 q (eO q e.symm) rfl)).trans (eH.out.block q hq))
   have h7:aW wt (wz.setCell ⟨gd,1,none⟩ (.slice da dn dc)) S7 gd g n ⟨a.valid+1,a.boxes ++ [⟨nm,a.valid+1,1,0,[],[],0⟩],a.seen⟩ (.slice da dn dc) u1 E:=HD4.out.CK
    (((Below.step HD4.out.base eH.out).grown hgz (by have:=HD4.out.base.size;omega) (fun k hk=>(HD4.out.low k (eO k hk)).1)).setCell (p:=⟨gd,1,none⟩) HD4.out.nY.1 _)
    (by rw [aZ];omega) (aP (i:=1) (v:=.slice da dn dc) rC.out)
    (kr.frame nA fun q hq _=>uW q (fun e=>(kS.out q hq).elim (fun h=>(HD4.out.low q h).2.2.1 e) (fun h=>by omega)))
    (hkeep g HD4.out.map.lt (fun e=>HD4.out.ty.2 e.symm) (fun j hj e=>(HD4.out.low j hj).2.2.2.1 e.symm))
    (fun q hq hlt=>hkeep q hlt (fun e=>HD4.out.Ku (e ▸ hq)) (fun j hj e=>(HD4.out.low j hj).2.2.2.2 (e ▸ hq)))
    (fun q hq=>(kS.out q hq).imp id (fun h=>⟨h.1,by rw [aZ];exact h.2⟩))
    (fun b hb=>(List.mem_append.1 hb).elim (HD4.out.ents b) (fun h=>by rw [List.mem_singleton] at h;subst h;exact aaw fun e he=>by have:=Kw.out e he;show e.1 < a.valid+1;omega))
    (fun e he=>by have:=Kw.out e he;omega)
    (List.pairwise_append.2 ⟨HD4.out.dist,List.pairwise_singleton _ _,fun b hb z hz=>by rw [List.mem_singleton] at hz;subst hz;have:=HVS.out b hb;show b.valid≠a.valid+1;omega⟩) wU.out
   have HD7:=ak h7
   clear h7
   have iF:Hid (iU w (wz.setCell ⟨gd,1,none⟩ (.slice da dn dc)) S gd g):=⟨by rw [aZ];have:=fV.out.1;omega,fun q h1 h2 h3 h4=>(hkeep q (by have:=fV.out.1;omega) h2 (fun j hj e=>h4 (e ▸ hj))).trans (fV.out.2.1 q h1 h2 h3 h4),hgz.os.trans (eH.out.os.trans fV.out.2.2.1),hgz.tape.trans (eH.out.tape.trans fV.out.2.2.2.1),hgz.output.trans (eH.out.output.trans fV.out.2.2.2.2)⟩
   have fq:=ak ((hkeep w.heap.size (by omega) (by omega) (fun j hj e=>by have:=HSL.out j hj;omega)).trans jT.out)
   have wV:(wz.setCell ⟨gd,1,none⟩ (.slice da dn dc)).heap.size=wz.heap.size:=aZ
   clear uW hkeep kr hgz eO CO eH rC jT fV HD4 ko mW
   go_upto_region 7 with fail
   generalize wz.setCell ⟨gd,1,none⟩ (.slice da dn dc)=w7 at HD7 iF fq wV ⊢
   obtain ⟨gb,cap,eu,iW,hC⟩:=aak w7 S7 (.slice da dn dc) (a.boxes ++ [⟨nm,a.valid+1,1,0,[],[],0⟩]) HD7.out.boxes (by simp) (by simp;omega) (fun q hq=>(HD7.out.low q hq).2.1)
   have HLO:=ak (HD7.out.low gb iW)
   have HSG:=ak iW
   have HC:=ak hC
   clear eu iW
   obtain ⟨c0,c1,c2,c3⟩:=gF HD7.out.cells
   have cl:=lt_of_heap HD7.out.cells
   clear hC
   go_wp2_with fail
   refine HC.out.mono ?_
   rintro e w8 ⟨rfl,l',hp,ho,Af,kU⟩
   have hlow:=HLO.out
   have iW:=HSG.out
   have hl':=aan Gt.out HOC.out Kv.out.1 HNN.out hp ho
   have K8:=p8 kU HD7.out.cells (fun e=>hlow.2.2.1 e.symm)
   have h8:aW wt w8 S7 gd g n ⟨a.valid+1,l',a.seen⟩ (.slice da dn dc) u1 E:=HD7.out.CK (HD7.out.base.grown kU HD7.out.base.size (fun k hk=>by cases hk;exact hlow.1)) kU.size K8 Af
    (kU.block g HD7.out.map.lt (fun e=>hlow.2.2.2.1 (Option.some.inj e).symm)) (fun q hq hlt=>kU.block q hlt (fun e=>by cases e;exact hlow.2.2.2.2 hq)) (fun q hq=>.inl hq)
    (fun b hb=>HD7.out.ents b (hp.mem_iff.1 hb)) (fun e he=>by have:=Kw.out e he;omega) ((List.Perm.pairwise_iff (fun {x y} h e=>h e.symm) hp).2 HD7.out.dist) wU.out
   have Ky:=ak h8
   clear h8
   have HT8:Hid (iU w w8 S gd g):=⟨Nat.le_trans iF.out.1 kU.size,fun q h1 h2 h3 h4=>(kU.block q (by have:=iF.out.1;omega) (fun e=>by cases e;exact (kS.out gb iW).elim h4 (fun h=>by omega))).trans (iF.out.2.1 q h1 h2 h3 h4),kU.os.trans iF.out.2.2.1,kU.tape.trans iF.out.2.2.2.1,kU.output.trans iF.out.2.2.2.2⟩
   have tH:=ak (p8 kU fq.out (fun e=>(kS.out gb iW).elim (fun h=>by have:=HSL.out gb h;omega) (fun h=>by omega)))
   have bI:Hid (res=(⟨a.valid+1,l',a.seen⟩,aQ 0 (a.valid+1))):=by show _=_;rw [Rx.out,hl']
   clear hl' hp ho Af kU K8 HC hlow iW c0 c1 c2 c3 cl HD7 iF fq Rx
   obtain ⟨c0,c1,c2,c3⟩:=gF Ky.out.cells
   have cl:=lt_of_heap Ky.out.cells
   have HF:=ak (Ky.out.done (n:=n) (fun q hq=>(kS.out q hq).imp id (fun h=>by omega)) HT8.out (by omega) tH.out (fun hS=>(kS.out _ hS).elim (fun h=>by have:=HSL.out _ h;omega) (fun h=>by omega)) hw0 (by omega) (c:=0) (x:=(a.valid+1)) ⟨by decide,by decide⟩ wU.out)
   obtain ⟨yz,yl,y0,y1,y2,y3,y4,y5,y6,y7,y8,y9⟩:=eT tH.out
   go_wp2
   have ff:=aM HF.out.1
   refine bodyPost_ret (v:=aY 0 (a.valid+1)) (by simp [results,Tryz.results75,aY,go_sem,ff]) rfl ⟨aY 0 (a.valid+1),rfl,?_⟩
   rw [bI.out]
   exact HF.out.2
/- What aib of package laws does. -/
/-- What is left of a size when n more are taken; -1: it does not suffice. -/
def qF (left:Int) (n:Nat):Int:=if left - n < 0 then -1 else left - n
theorem Gu (v:Value) (l:List Int) (left:Int) (w:World) (hv:Bs w v l) (h0:0≤left) (h1:left≤4000000) :
  Calls Tryz.prog 20 #[v,.int .i64 left] w fun e w'=>e=.returned (.int .i64 (qF left l.length))∧w'=w:=by
 obtain ⟨ho,a,cap,rfl,hlc,hcm,-⟩:=hv
 unfold maxLen at hcm
 by_cases hb:left - (l.length:Int) < 0
 ·have HZ:Hid (qF left l.length = -1):=by simp [Hid,qF,hb]
  go_enter Tryz.func20,Tryz.ntmps20
  go_wp2
  go_ret
  exact ⟨by rw [HZ.out];rfl,rfl⟩
 ·have HZ:Hid (qF left l.length=left - l.length):=by simp [Hid,qF,hb]
  go_enter Tryz.func20,Tryz.ntmps20
  go_wp2
  go_ret
  exact ⟨by rw [HZ.out];rfl,rfl⟩
theorem Gv (left:Int) (n:Nat):qF left n = -1∨(0≤qF left n∧qF left n+n=left):=by
 unfold qF
 split
 ·exact .inl rfl
 ·exact .inr ⟨by omega,by omega⟩
/- What aic, aie, aif, aii of package laws do. -/
def tot {α:Type} (f:α→Nat) (l:List α):Nat:=(l.map f).sum
theorem Ry {α:Type} (f:α→Nat) {l:List α} {k:Nat} {x:α} (hx:l[k]?=some x):tot f (l.take (k+1))=tot f (l.take k)+f x:=by
 obtain ⟨h,rfl⟩:=gs1 hx
 unfold tot
 rw [List.take_succ_eq_append_getElem h,List.map_append,List.sum_append]
 simp
theorem aaE (l:List aF):dG l=tot (fun m=>m.text.length) l+l.length:=by
 induction l with
 | nil=>rfl
 | cons x l ih=>simp only [dG,tot,List.map_cons,List.sum_cons,List.length_cons] at ih ⊢;omega
theorem aaF (l:List aD):jf l=tot bA l+l.length:=by
 induction l with
 | nil=>rfl
 | cons x l ih=>simp only [jf,tot,List.map_cons,List.sum_cons,List.length_cons] at ih ⊢;omega
theorem Rz (v:Value) (l:List Int) (left:Int) (w:World) (hv:Bs w v l) (h0:0≤left) (h1:left≤4000000) :
  Calls Tryz.prog 20 #[v,.int .i64 left] w fun e w'=>∃ y:Int,e=.returned (.int .i64 y)∧(y = -1∨(0≤y∧y+l.length=left))∧Below w.heap.size w w' :=
 (Gu v l left w hv h0 h1).mono fun _ _ ⟨h,hw⟩=>⟨_,h,Gv left l.length,by rw [hw];exact Below.refl _ _⟩
theorem aaG (v:Value) (x:aF) (left:Int) (w:World) (hv:gK w v x) (h0:0≤left) (h1:left≤4000000) :
  Calls Tryz.prog 126 #[v,.int .i64 left] w fun e w'=>∃ y:Int,e=.returned (.int .i64 y)∧(y = -1∨(0≤y∧y+x.text.length=left))∧Below w.heap.size w w':=by
 obtain ⟨u,rfl,g0,-⟩:=hv
 obtain ⟨uid,flags,seq,text⟩:=x
 simp only at g0
 have H0:Hid (∀ wi,Below w.heap.size w wi→Bs wi u text):=fun wi h=>g0.below h
 obtain ⟨a0,n0,c0,rfl⟩:=g0.aG
 clear g0
 simp only
 have X:Below w.heap.size w (w.alloc (.cells #[.int .i64 uid,.int .i64 flags,.int .i64 seq,.slice a0 n0 c0] 155)):=bn _ _
 have kA:=aV w (.cells #[.int .i64 uid,.int .i64 flags,.int .i64 seq,.slice a0 n0 c0] 155)
 go_enter Tryz.func126,Tryz.ntmps126
 go_wp2_with fail
 refine (Rz _ text left _ (H0.out _ X) h0 h1).mono ?_
 rintro e w1 ⟨y0,rfl,hy,B⟩
 replace X:=Below.step X B
 replace kA:=ay B kA
 clear B
 obtain ⟨f0,f1,f2,f3⟩:=gF kA
 rcases hy with rfl | ⟨q0,p0⟩
 ·go_wp2
  go_ret
  exact ⟨-1,rfl,.inl rfl,X⟩
 go_wp2
 go_ret
 exact ⟨y0,rfl,.inr ⟨q0,by omega⟩,X⟩
theorem aaH (v:Value) (l:List aF) (left:Int) (w:World) (hv:bY w v l) (h0:0≤left) (h1:left≤4000000) :
  Calls Tryz.prog 94 #[v,.int .i64 left] w fun e w'=>∃ y:Int,e=.returned (.int .i64 y)∧(y = -1∨(0≤y∧y+dG l=left))∧Below w.heap.size w w':=by
 have HV:Hid (∀ wi,Below w.heap.size w wi→bY wi v l):=fun wi h=>hv.below eU h
 obtain ⟨a,cap,rfl,hlc,hcm⟩:=hv.form
 clear hv
 by_cases hb:left - (l.length:Int) < 0
 ·go_enter Tryz.func94,Tryz.ntmps94
  go_wp2
  go_ret
  exact ⟨-1,rfl,.inl rfl,Below.refl _ _⟩
 ·go_enter Tryz.func94,Tryz.ntmps94
  go_wp2
  go_loopw [1,5] (fun q i wr=>∃ (k:Nat) (y:Int),k≤l.length∧i=.int .i64 k∧q=.int .i64 y∧0≤y∧Hid (y+l.length+tot (fun m=>m.text.length) (l.take k)=left)∧Hid (Below w.heap.size w wr)) (fun _ i _=>l.length - (intOf i).toNat)
  case atStart=>exact ⟨0,left - l.length,Nat.zero_le _,rfl,rfl,by omega,(show Hid _ from by simp [Hid,tot]),Below.refl _ _⟩
  case round =>
   obtain ⟨k,y,hk,rfl,rfl,hy0,hy1,hB⟩:=hrel
   by_cases hlt:k < l.length
   ·obtain ⟨x,hx⟩:∃ x,l[k]?=some x:=⟨l[k],aK hlt⟩
    obtain ⟨b,off,cap',u,hv',hlb,d0,d1,d2,d3,hu,i0,i1,i2⟩:=bY.cell (HV.out wr hB.out) k x hx
    simp only [Value.slice.injEq,true_and] at hv'
    obtain ⟨rfl,rfl⟩:=hv'
    obtain ⟨ua,un,uc,rfl⟩:=hu.aG
    have HT:Hid (tot (fun m=>m.text.length) (l.take (k+1))=tot (fun m=>m.text.length) (l.take k)+(fun m=>m.text.length) x):=Ry _ hx
    go_wp2_with fail
    refine (aaG _ x _ _ ⟨_,rfl,hu,i0,i1,i2⟩ hy0 (by have:=hy1.out;omega)).mono ?_
    rintro e w2 ⟨y2,rfl,hy2,B⟩
    have HB2:Hid (Below w.heap.size w w2):=Below.step hB.out B
    clear B hB d0 d1 d2 d3
    rcases hy2 with rfl | ⟨q0,q1⟩
    ·go_wp2
     go_ret
     exact ⟨-1,rfl,.inl rfl,HB2.out⟩
    ·have HE:Hid (y2+l.length+tot (fun m=>m.text.length) (l.take (k+1))=left):=by
      have h1:=HT.out
      have h2:=hy1.out
      simp only [Hid]
      omega
     clear q1
     go_wp2
     go_roundw
     case rel=>exact ⟨k+1,y2,by omega,by go_num,rfl,q0,HE,HB2⟩
     case measure=>simp [intOf];omega
   ·obtain rfl:k=l.length:=by omega
    go_wp2
    go_ret
    refine ⟨y,rfl,.inr ⟨hy0,?_⟩,hB.out⟩
    have h2:=hy1.out
    rw [List.take_length] at h2
    have h3:=aaE l
    omega
theorem aaI (v:Value) (l:List bf) (left:Int) (w:World) (hv:bO w v l) (h0:0≤left) (h1:left≤4000000) :
  Calls Tryz.prog 95 #[v,.int .i64 left] w fun e w'=>∃ y:Int,e=.returned (.int .i64 y)∧(y = -1∨(0≤y∧y+l.length=left))∧Below w.heap.size w w':=by
 obtain ⟨a,cap,rfl,hlc,hcm⟩:=hv.form
 clear hv
 by_cases hb:left - (l.length:Int) < 0
 ·go_enter Tryz.func95,Tryz.ntmps95
  go_wp2
  go_ret
  exact ⟨-1,rfl,.inl rfl,Below.refl _ _⟩
 ·go_enter Tryz.func95,Tryz.ntmps95
  go_wp2
  go_ret
  exact ⟨left - l.length,rfl,.inr ⟨by omega,by omega⟩,Below.refl _ _⟩
theorem aaJ (v:Value) (x:aD) (left:Int) (w:World) (hv:bK w v x) (h0:0≤left) (h1:left≤4000000) :
  Calls Tryz.prog 47 #[v,.int .i64 left] w fun e w'=>∃ y:Int,e=.returned (.int .i64 y)∧(y = -1∨(0≤y∧y+bA x=left))∧Below w.heap.size w w':=by
 obtain ⟨u0,u1,u2,rfl,g0,g1,g2,-⟩:=hv
 unfold bA
 obtain ⟨name,valid,next,seq,ah,au,lost⟩:=x
 simp only at g0 g1 g2
 have H0:Hid (∀ wi,Below w.heap.size w wi→Bs wi u0 name∧bY wi u1 ah∧bO wi u2 au):=fun wi h=>⟨g0.below h,g1.below eU h,g2.below dY h⟩
 obtain ⟨a0,n0,c0,rfl⟩:=g0.aG
 obtain ⟨a1,c1,rfl,-⟩:=g1.form
 obtain ⟨a2,c2,rfl,-⟩:=g2.form
 clear g0 g1 g2
 simp only
 have X:Below w.heap.size w (w.alloc (.cells #[.slice a0 n0 c0,.int .i64 valid,.int .i64 next,.int .i64 seq,.slice a1 ah.length c1,.slice a2 au.length c2,.int .i64 lost] 80)):=bn _ _
 have kA:=aV w (.cells #[.slice a0 n0 c0,.int .i64 valid,.int .i64 next,.int .i64 seq,.slice a1 ah.length c1,.slice a2 au.length c2,.int .i64 lost] 80)
 go_enter Tryz.func47,Tryz.ntmps47
 go_wp2_with fail
 refine (Rz _ name left _ (H0.out _ X).1 h0 h1).mono ?_
 rintro e w1 ⟨y0,rfl,hy,B⟩
 replace X:=Below.step X B
 replace kA:=ay B kA
 clear B
 obtain ⟨f0,f1,f2,f3,f4,f5,f6⟩:=bF kA
 rcases hy with rfl | ⟨q0,p0⟩
 ·go_wp2
  go_ret
  exact ⟨-1,rfl,.inl rfl,X⟩
 go_wp2_with fail
 clear f0 f1 f2 f3 f4 f5 f6
 refine (aaH _ ah y0 _ (H0.out _ X).2.1 q0 (by omega)).mono ?_
 rintro e w2 ⟨y1,rfl,hy,B⟩
 replace X:=Below.step X B
 replace kA:=ay B kA
 clear B
 obtain ⟨f0,f1,f2,f3,f4,f5,f6⟩:=bF kA
 rcases hy with rfl | ⟨q1,p1⟩
 ·go_wp2
  go_ret
  exact ⟨-1,rfl,.inl rfl,X⟩
 go_wp2_with fail
 clear f0 f1 f2 f3 f4 f5 f6
 refine (aaI _ au y1 _ (H0.out _ X).2.2 q1 (by omega)).mono ?_
 rintro e w3 ⟨y2,rfl,hy,B⟩
 replace X:=Below.step X B
 replace kA:=ay B kA
 clear B
 obtain ⟨f0,f1,f2,f3,f4,f5,f6⟩:=bF kA
 rcases hy with rfl | ⟨q2,p2⟩
 ·go_wp2
  go_ret
  exact ⟨-1,rfl,.inl rfl,X⟩
 go_wp2
 go_ret
 exact ⟨y2,rfl,.inr ⟨q2,by omega⟩,X⟩
/- What aij, aik, ail of package laws do of rows of names. -/
theorem RA:(Tryz.prog.info? 26).map (fun i=>(i.zero,i.size,i.bytes))=some (some (.slice none 0 0),1,24):=by kernel_rfl
theorem aaK (v u:Value) (l:List (List Int)) (w:World) (hv:mQ w v l) (hu:mQ w u l) :
  Calls Tryz.prog 36 #[v,u] w fun e w'=>e=.returned (.bool true)∧Below w.heap.size w w':=by
 have HV:Hid (∀ wi,Below w.heap.size w wi→mQ wi v l∧mQ wi u l):=fun wi h=>⟨hv.below BJ h,hu.below BJ h⟩
 obtain ⟨a,cap,rfl,hlc,hcm⟩:=hv.form
 obtain ⟨a2,cap2,rfl,CP,hcm2⟩:=hu.form
 clear hv hu
 go_enter Tryz.func36,Tryz.ntmps36
 go_wp2
 go_loopw [5] (fun i wr=>∃ k:Nat,k≤l.length∧i=.int .i64 k∧Hid (Below w.heap.size w wr)) (fun i _=>l.length - (intOf i).toNat)
 case atStart=>exact ⟨0,Nat.zero_le _,rfl,Below.refl _ _⟩
 case round =>
  obtain ⟨k,hk,rfl,hB⟩:=hrel
  by_cases hlt:k < l.length
  ·obtain ⟨x,hx⟩:∃ x,l[k]?=some x:=⟨l[k],aK hlt⟩
   have DR:Below wr.heap.size wr wr.drew:=bd _ _
   obtain ⟨b,off,cap',u0,hv',hlb,d0,hu0⟩:=mQ.cell (HV.out wr hB.out).1 k x hx
   obtain ⟨b2,off2,Gw,u3,hv2,gB,z0,hu3⟩:=mQ.cell (HV.out wr hB.out).2 k x hx
   simp only [Value.slice.injEq,true_and] at hv' hv2
   obtain ⟨rfl,rfl⟩:=hv'
   obtain ⟨rfl,rfl⟩:=hv2
   obtain ⟨ua,un,uc,rfl⟩:=hu0.aG
   obtain ⟨ra,rn,rc,rfl⟩:=hu3.aG
   have HA:Hid (Bs wr.drew (.slice ua un uc) x∧Bs wr.drew (.slice ra rn rc) x):=⟨hu0.below DR,hu3.below DR⟩
   go_wp2
   go_region_held3 (fun w'=>w'.cell? ⟨b,off+k,none⟩=some (.slice ua un uc)∧w'.cell? ⟨b2,off2+k,none⟩=some (.slice ra rn rc))
    (first | go_keep | exact ⟨d0,z0⟩ | exact ⟨(B.cell (p:=⟨_,_,none⟩) (by exact hlb)).trans d0,(B.cell (p:=⟨_,_,none⟩) (by exact gB)).trans z0⟩)
    ((go_at_call 37;refine (zN _ _ x _ HA.out.1 HA.out.2).mono ?_;rintro e w1 ⟨rfl,B⟩))
   have HB2:Hid (Below w.heap.size w w1):=Below.step (Below.step hB.out DR) B
   clear d0 z0 B hB
   go_wp2
   go_roundw
   case rel=>exact ⟨k+1,by omega,by go_num,HB2⟩
   case measure=>simp [intOf];omega
  ·go_wp2
   go_ret
   exact ⟨rfl,hB.out⟩
/- list of package o9 gH. -/
theorem aaL (wt w:World) (S:Nat→Prop) (gd g n:Nat) (a:aJ) (u0 u1:Value) (E:aX) (h:aW wt w S gd g n a u0 u1 E) (hnm:∀ b ∈ a.boxes,b.name.length≤2000000) (hl4:a.boxes.length≤1000) :
  Calls Tryz.prog 76 #[.pointer (some ⟨gd,0,none⟩)] w fun e w'=>∃ v,e=.returned v∧dD w' w.heap.size w'.heap.size v ⟨0,0,jQ,a.boxes.map fun x=>x.name⟩∧Below w.heap.size w w':=by
 have A1:Below w.heap.size w (w.alloc (.cells #[.int .i64 0,.int .i64 0,.slice none 0 0,.int .i64 0,.int .i64 0,.int .i64 0,.slice none 0 0,.slice none 0 0,.int .i64 0,.slice none 0 0] 40)):=bn _ _
 have HK:=ak (aV w (.cells #[.int .i64 0,.int .i64 0,.slice none 0 0,.int .i64 0,.int .i64 0,.int .i64 0,.slice none 0 0,.slice none 0 0,.int .i64 0,.slice none 0 0] 40))
 have HD:=ak (h.below A1)
 have HA:=ak A1
 have mo:=ak hnm
 obtain ⟨z0,hi,hz0,hz1,hz2⟩:=info_parts RA
 obtain ⟨va,vc,rfl,hm1,hm2⟩:∃ va vc,u0=.slice va a.boxes.length vc∧a.boxes.length≤vc∧vc≤maxLen:=by
  obtain ⟨x,y,e,k1,k2⟩:=h.boxes.v.form
  rw [List.length_map] at e k1
  exact ⟨x,y,e,k1,k2⟩
 have d1:(w.alloc (.cells #[.int .i64 0,.int .i64 0,.slice none 0 0,.int .i64 0,.int .i64 0,.int .i64 0,.slice none 0 0,.slice none 0 0,.int .i64 0,.slice none 0 0] 40)).cell? ⟨gd,1,none⟩=some (.slice va a.boxes.length vc):=(cell_of_row _ gd 1 _ _ (0,0) (h.below A1).cells).trans rfl
 have bM:=lt_of_heap (h.below A1).cells
 have CQ:(w.alloc (.cells #[.int .i64 0,.int .i64 0,.slice none 0 0,.int .i64 0,.int .i64 0,.int .i64 0,.slice none 0 0,.slice none 0 0,.int .i64 0,.slice none 0 0] 40)).heap.size=w.heap.size+1:=by simp
 clear h A1 hnm
 go_enter Tryz.func76,Tryz.ntmps76
 go_upto_region 1 with fail
 generalize w.alloc (.cells #[.int .i64 0,.int .i64 0,.slice none 0 0,.int .i64 0,.int .i64 0,.int .i64 0,.slice none 0 0,.slice none 0 0,.int .i64 0,.slice none 0 0] 40)=w1 at HK HD HA d1 bM CQ ⊢
 have hw1:w.heap.size+1≤w1.heap.size:=by omega
 have HZW:=ak CQ
 clear CQ
 go_wp2
 go_loopw [3,11] (fun lv iv wr=>∃ (k:Nat) (la:Option Addr) (ln lc:Nat),k≤a.boxes.length∧iv=.int .i64 k∧lv=.slice la ln lc∧Hid (Below w1.heap.size w1 wr)∧w1.heap.size≤wr.heap.size∧Hid (kM wr (In w1.heap.size wr.heap.size) (.slice la ln lc) ((a.boxes.take k).map fun x=>x.name))) (fun _ iv _=>a.boxes.length - (intOf iv).toNat)
 case atStart=>exact ⟨0,none,0,0,Nat.zero_le _,rfl,rfl,Below.refl _ _,Nat.le_refl _,.inl ⟨rfl,by simp⟩⟩
 case round =>
  obtain ⟨k,la,ln,lc,hk,rfl,rfl,hB,hS,hO⟩:=hrel
  by_cases hlt:k < a.boxes.length
  ·obtain ⟨b,hb⟩:∃ b,a.boxes[k]?=some b:=⟨_,aK hlt⟩
   have yQ:=HD.out.below hB.out
   obtain ⟨gb,cap,v0,v5,f,e1,-,-,hlb,-,-,⟨c0,c1,c2,c3,c4,c5,c6⟩,r0,r5,-,ii⟩:=yQ.read hb
   simp only [Value.slice.injEq,true_and] at e1
   obtain ⟨rfl,rfl⟩:=e1
   have hbs:=r0.bs
   obtain ⟨na,nn,nc,rfl⟩:=r0.bs.aG
   obtain ⟨ga,gc,rfl,-⟩:=r5.1.form
   have AB:Below wr.heap.size wr (wr.alloc (.cells #[.slice na nn nc,.int .i64 b.valid,.int .i64 b.next,.int .i64 b.seq,.slice none 0 0,.slice ga b.au.length gc,.int .i64 b.lost] 37)):=bn _ _
   have HJ:=ak (Jc _ (.slice none 0 0) b.name [] _ (hbs.below AB) (IX _) (by have:=mo.out b (List.mem_of_getElem? hb);omega) (by simp))
   have HX:=ak hb
   have eH:=ak AB
   have hki:(k:Int) < a.boxes.length:=by omega
   obtain ⟨t0,-,-,-,-,-,-⟩:=bF (aV wr (.cells #[.slice na nn nc,.int .i64 b.valid,.int .i64 b.next,.int .i64 b.seq,.slice none 0 0,.slice ga b.au.length gc,.int .i64 b.lost] 37))
   have hzb:(wr.alloc (.cells #[.slice na nn nc,.int .i64 b.valid,.int .i64 b.next,.int .i64 b.seq,.slice none 0 0,.slice ga b.au.length gc,.int .i64 b.lost] 37)).heap.size=wr.heap.size+1:=by simp
   clear yQ r0 r5 ii hbs hb AB
   go_upto_region 5 with fail
   clear c0 c1 c2 c3 c4 c5 c6
   generalize wr.alloc (.cells #[.slice na nn nc,.int .i64 b.valid,.int .i64 b.next,.int .i64 b.seq,.slice none 0 0,.slice ga b.au.length gc,.int .i64 b.lost] 37)=w2 at HJ eH t0 hzb ⊢
   have htl:wr.heap.size < w2.heap.size:=by omega
   go_wp2_with fail
   refine HJ.out.mono ?_
   rintro e w3 ⟨r,rfl,hR,hB3⟩
   rw [List.append_nil] at hR
   obtain ⟨xa,xn,xc,rfl⟩:=hR.bs.aG
   have hs3:=hB3.size
   have AP:Below w3.heap.size w3 (w3.alloc (.cells #[.slice xa xn xc] 26)):=bn _ _
   have Bp:Hid (qQ (w3.alloc (.cells #[.slice xa xn xc] 26)) [.slice xa xn xc] b.name (In wr.heap.size (w3.alloc (.cells #[.slice xa xn xc] 26)).heap.size)):=⟨_,rfl,(hR.ro.below AP).mono fun q hq=>⟨by have:=hq.1;omega,by have:=hq.2;simp;omega⟩⟩
   have hMs:wr.heap.size≤(w3.alloc (.cells #[.slice xa xn xc] 26)).heap.size:=by simp;omega
   have HB3:=ak (Below.step eH.out hB3)
   have nR:=ak (Ow.below kL (Ow.below kL hO.out HB3.out) AP)
   have hone:∀ u ∈ [Value.slice xa xn xc],u.oneCell'=true:=by simp [Value.oneCell']
   have hle:((a.boxes.take k).map fun x=>x.name).length=k:=by simp;omega
   have hp1:((a.boxes.take k).map fun x=>x.name).length+1≤maxLen:=by rw [hle];unfold maxLen;omega
   have hp2:(((a.boxes.take k).map fun x=>x.name).length+1) * 24≤140737488355328:=by rw [hle];omega
   clear hR hB3 t0 HJ hle
   go_wp2_with (at_builtin;refine Bf rfl (.tmp 15) (.tmp 19) rfl kL (B:=w1.heap.size) (M:=wr.heap.size) nR.out hMs hS Tryz.underlying38 hi hz0 hz1 hz2 rfl (by omega) rfl b.name [.slice xa xn xc] rfl Bp.out ⟨w3.heap.size,0,none⟩ 1 rfl (mO w3 _ _) hone hp1 hp2 ?_)
   intro vZ w4 hO4 hG4 qb
   have lG:Hid (kM w4 (In w1.heap.size w4.heap.size) vZ ((a.boxes.take (k+1)).map fun x=>x.name)):=by
    rw [List.map_take,List.take_add_one,List.getElem?_map,HX.out]
    exact hO4
   obtain ⟨Bq,Br,Bt,rfl⟩:∃ a n c,vZ=.slice a n c:=by
    rcases hO4 with ⟨h,-⟩ | ⟨_,_,_,_,_,h,-⟩
    ·exact ⟨_,_,_,h⟩
    ·exact ⟨_,_,_,h⟩
   have hge:∀ j,(Value.slice la ln lc).ownBlock=some j→w1.heap.size≤j:=fun j hj=>(qb j hj).1
   have lH:Hid (Below w1.heap.size w1 w4):=rX (Below.step (Below.step hB.out HB3.out) AP) hG4 hge (Nat.le_refl _) (by have:=AP.size;omega)
   have hs4:w1.heap.size≤w4.heap.size:=lH.out.size
   clear hO4 hG4 qb hge nR Bp AP hMs HB3 hO hB
   go_wp2
   go_roundw
   case rel=>exact ⟨k+1,Bq,Br,Bt,by omega,by go_num,rfl,lH.out,hs4,lG.out⟩
   case measure=>simp [intOf];omega
  ·obtain rfl:k=a.boxes.length:=by omega
   have Gx:=ak (ay hB.out HK.out)
   have yR:=ak (Below.step HA.out hB.out)
   have qG:Hid (kM wr (In w1.heap.size wr.heap.size) (.slice la ln lc) (a.boxes.map fun x=>x.name)):=by
    have:=hO.out
    rwa [List.take_length] at this
   have HF:=ak (nZ Gx.out (.int .i64 0) (.int .i64 0) (.slice none 0 0) (.int .i64 0) (.int .i64 0) (.int .i64 0) (.slice none 0 0) (.slice none 0 0) (.int .i64 0) (.slice la ln lc))
   obtain ⟨yz,yl,y0,y1,y2,y3,y4,y5,y6,y7,y8,y9⟩:=eT Gx.out
   clear hO
   go_wp2
   have ff:=aM HF.out.1
   refine bodyPost_ret (v:=.agg #[.int .i64 0,.int .i64 0,.slice none 0 0,.int .i64 0,.int .i64 0,.int .i64 0,.slice none 0 0,.slice none 0 0,.int .i64 0,.slice la ln lc]) (by simp [results,Tryz.results76,go_sem,ff]) rfl ⟨_,rfl,?_,qB yR.out HF.out.2.1 HF.out.2.2.1 HF.out.2.2.2 (Nat.le_refl _)⟩
   refine ⟨.slice none 0 0,.slice none 0 0,.slice none 0 0,_,w1.heap.size,rfl,⟨_,_,_,fun _=>False,fun _=>False,fun _=>False,rfl,RO.nil _ _,.inl ⟨rfl,rfl⟩,.inl ⟨rfl,rfl⟩,fun _ h=>h.elim,fun _ h=>h.elim,fun _ h=>h.elim,aI,aI,aI,aI⟩,?_,by omega,by rw [HF.out.2.1];exact hS,aI,aI⟩
   rw [HF.out.2.1]
   exact Ow.frame kL qG.out fun q hq _=>HF.out.2.2.2 q (by have:=hq.1;omega)
end Go.Proofs.YtlneebmlhblleaaGreat
