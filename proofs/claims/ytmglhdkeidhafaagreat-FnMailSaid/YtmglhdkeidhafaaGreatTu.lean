/- The proof's texts, part 30. -/
import Derived.Test.YtmglhdkeidhafaaGreatTg
namespace Go.Proofs.YtmglhdkeidhafaaGreat
open Go.RowKit
set_option linter.unusedVariables false
set_option linter.unusedSimpArgs false
set_option maxHeartbeats 1000000
set_option maxRecDepth 100000
/- A dV is looked up in a rY map, in whatever world the map's block is the same; OG of package impl. -/
open Go.RowKit Go.Maps
theorem MR.looks {wt w:World} {b n:Nat} {E:aU} {v u:Int} (h:MR wt w b n E) (hv:ay v) (hu:ay u) :
  ∃ p,(∀ w':World,w'.heap[b]?=w.heap[b]?→(Instr.lookup 78 (.map (some b)) (.agg #[.int .i64 v,.int .i64 u]) true).run Tryz.prog w'=.ok (.tuple #[pF p,.bool (bW E v u).isSome]) w')∧∀ m,bW E v u=some m→iA wt (pF p) m:=by
 obtain ⟨D,h1,h2,h3,h4,h5⟩:=h
 have h6:=h5 v u hv hu
 have step:∀ w':World,w'.heap[b]?=w.heap[b]?→∃ p,(Instr.lookup 78 (.map (some b)) (.agg #[.int .i64 v,.int .i64 u]) true).run Tryz.prog w'=.ok (.tuple #[pF p,.bool (bW E v u).isSome]) w'∧D.atKey (dM v u) (.held (.agg #[.int .i64 0,.int .i64 0,.int .i64 0,.slice none 0 0]))=.held (pF p):=fun w' hb=>by
  obtain ⟨es,c,e1,e2⟩:=h1
  have h1':w'.ownsMap Tryz.prog 103 RM b n D:=⟨es,c,hb.trans e1,e2⟩
  obtain ⟨x,ps,hr,hx⟩:=h1'.look_ok mZ vD (NI w') (zd:=.held (.agg #[.int .i64 0,.int .i64 0,.int .i64 0,.slice none 0 0])) (zp:=[]) rfl (rW hv hu)
  rw [MM.has h6] at hr
  obtain ⟨⟨p,rfl⟩,e⟩:=Ie hx
  simp only [Prod.mk.injEq] at e
  exact ⟨p,hr,e.1⟩
 obtain ⟨p,hp,hd⟩:=step w rfl
 refine ⟨p,fun w' hb=>?_,fun m hm=>?_⟩
 ·obtain ⟨p',hp',hd'⟩:=step w' hb
  rw [hd] at hd'
  have:pF p=pF p':=by simpa using hd'
  rw [this]
  exact hp'
 ·rw [hm] at h6
  obtain ⟨y,hy,hz⟩:=h6
  rw [hz] at hd
  simp only [DataW.held.injEq] at hd
  rw [← hd]
  exact hy
/-- A dV out of the map: its four cells. -/
theorem MR.looked {wt w:World} {b n:Nat} {E:aU} {v u:Int} {ms:List aC} (h:MR wt w b n E) (hv:ay v) (hu:ay u) (hE:dG E v ms) :
  ∃ p0 p1 p2 p3 p4 p5,(∀ w':World,w'.heap[b]?=w.heap[b]?→(Instr.lookup 78 (.map (some b)) (.agg #[.int .i64 v,.int .i64 u]) true).run Tryz.prog w'=.ok (.tuple #[.agg #[.int .i64 p0,.int .i64 p1,.int .i64 p2,.slice p3 p4 p5],.bool (ms.findIdx? fun m=>decide (m.uid=u)).isSome]) w')∧∀ j m,ms.findIdx? (fun m=>decide (m.uid=u))=some j→ms[j]?=some m→p0=m.uid∧p1=m.flags∧p2=m.seq∧m.uid=u∧Bs wt (.slice p3 p4 p5) m.text∧ay m.uid∧ay m.flags∧ay m.seq:=by
 obtain ⟨⟨⟨p0,p1,p2⟩,p3,p4,p5⟩,h1,h2⟩:=h.looks hv hu
 refine ⟨p0,p1,p2,p3,p4,p5,fun w' hw=>?_,fun j m hj hm=>?_⟩
 ·have:=h1 w' hw
  rw [hE.find u hu] at this
  rw [this,show (ms.find? fun m=>decide (m.uid=u)).isSome=(ms.findIdx? fun m=>decide (m.uid=u)).isSome by rw [Bool.eq_iff_iff,List.findIdx?_isSome];simp]
  rfl
 ·have hu':m.uid=u:=by
   obtain ⟨h3,h4,-⟩:=List.findIdx?_eq_some_iff_getElem.1 hj
   rw [aL h3] at hm
   cases hm
   simpa using h4
  obtain ⟨t,e,k⟩:=h2 m ((hE.iff hu m).2 ⟨List.mem_of_getElem? hm,hu'⟩)
  simp only [pF,Value.agg.injEq,Array.mk.injEq,List.cons.injEq,Value.int.injEq,true_and,and_true] at e
  obtain ⟨rfl,rfl,rfl,rfl⟩:=e
  exact ⟨rfl,rfl,rfl,hu',k⟩
theorem aaL (was k:Int) (bx tt:List Int) (uid mode fl si:Int) (tx:List Int) (cv:Value) (w:World) (hc:iQ w cv k bx tt uid mode fl si tx) :
  Calls Tryz.prog 75 #[.int .i64 was,cv] w fun e w'=>e=.returned (.int .i64 (fC was mode fl))∧Below w.heap.size w w':=by
 obtain ⟨q0,q1,q2,rfl,g0,g1,g2,-⟩:=hc
 obtain ⟨x0,m0,z0,rfl⟩:=g0.aG
 obtain ⟨x1,m1,z1,rfl⟩:=g1.aG
 obtain ⟨x2,m2,z2,rfl⟩:=g2.aG
 clear g0 g1 g2
 have HB:Hid (Below w.heap.size w (w.alloc (.cells #[.int .i64 k,.slice x0 m0 z0,.slice x1 m1 z1,.int .i64 uid,.int .i64 mode,.int .i64 fl,.int .i64 si,.slice x2 m2 z2] 28))):=bn _ _
 by_cases h1:mode=1
 ·subst h1
  go_enter Tryz.func75,Tryz.ntmps75
  go_wp2
  go_ret
  exact ⟨rfl,HB.out⟩
 ·by_cases h2:mode=2
  ·subst h2
   go_enter Tryz.func75,Tryz.ntmps75
   go_wp2
   go_ret
   exact ⟨rfl,HB.out⟩
  ·have HF:Hid (fC was mode fl=fl):=by show _=_;unfold fC;rw [if_neg h1,if_neg h2]
   have e1:(mode == 1)=false:=by simpa using h1
   have e2:(mode == 2)=false:=by simpa using h2
   clear h1 h2
   go_enter Tryz.func75,Tryz.ntmps75
   go_wp2
   go_ret
   exact ⟨kG HF.out.symm,HB.out⟩
/- A rY boxes as a row of cells, each with its box and its blocks: for what cuts or sorts the row. -/
/-- A rV cells, the box, its blocks. -/
abbrev Tr:=rZ × aA × (Nat→Prop)
structure yw (w:World) (S:Nat→Prop) (g cap:Nat) (ts:List Tr):Prop where
 row:bP 34 7 fK w g cap (ts.map fun t=>t.1) [] 0
 len:ts.length≤cap
 cap:cap≤maxLen
 own:S g
 el:∀ t ∈ ts,pV w (fK t.1) t.2.1 t.2.2∧t.1.vd=t.2.1.valid∧∀ b,t.2.2 b→S b∧b≠g
 apart:ts.Pairwise (fun s t=>∀ b,s.2.2 b→¬ t.2.2 b)
theorem RQ {α:Type} {P:Nat→α→Prop}:∀ n:Nat,(∀ i,i < n→∃ y,P i y)→∃ xs:List α,xs.length=n∧∀ i y,xs[i]?=some y→P i y
 | 0,_=>⟨[],rfl,fun i y h=>by simp at h⟩
 | n+1,h=>by
  obtain ⟨xs,h1,h2⟩:=RQ n fun i hi=>h i (by omega)
  obtain ⟨y,hy⟩:=h n (by omega)
  refine ⟨xs ++ [y],by simp [h1],fun i z hz=>?_⟩
  by_cases hi:i < n
  ·rw [List.getElem?_append_left (by omega)] at hz
   exact h2 i z hz
  ·have:i=n:=by have:=(gs1 hz).1;simp at this;omega
   subst this
   rw [List.getElem?_append_right (by omega)] at hz
   simp [h1] at hz
   subst hz
   exact hy
theorem aaM {w:World} {c:List Value} {b:aA} {f:Nat→Prop} (h:pV w c b f):∃ y:rZ,c=fK y∧y.vd=b.valid:=by
 obtain ⟨u0,u2,rfl,h1,h2,-⟩:=h
 obtain ⟨a0,n0,c0,rfl⟩:=h1.bs.aG
 obtain ⟨a2,c2,rfl,-⟩:=h2.1.form
 exact ⟨⟨a0,n0,c0,b.valid,b.next,b.seq,a2,_,c2,b.lost⟩,rfl,rfl⟩
section
variable {w w' : World} {S S' : Nat → Prop} {g cap : Nat} {ts : List Tr} {v : Value} {l : List aA}
theorem oC.RS (h:oC w S v l) (hne:l≠[]):∃ g cap ts,v=.slice (some ⟨g,0,none⟩) l.length cap∧yw w S g cap ts∧(ts.map fun t=>t.2.1)=l:=by
 rcases h with ⟨-,rfl⟩ | ⟨g,cap,cur,cs,fs,hv,hh,h1,h2,h3,h4,h5,h6,h7⟩
 ·exact absurd rfl hne
 ·obtain ⟨ts,e1,e2⟩:=RQ (P:=fun i (t:Tr)=>l[i]?=some t.2.1∧cs i=fK t.1∧t.1.vd=t.2.1.valid∧t.2.2=fs i) l.length (fun i hi=>by
   obtain ⟨k1,k2,k3⟩:=h5 i l[i] (aL hi)
   obtain ⟨y,ey,ev⟩:=aaM k1
   exact ⟨(y,l[i],fs i),aL hi,ey,ev,rfl⟩)
  have em:(ts.map fun t=>t.2.1)=l:=by
   refine List.ext_getElem? fun i=>?_
   rw [List.getElem?_map]
   cases ht:ts[i]? with
   | none =>
    have:l.length≤i:=by rw [← e1];exact List.getElem?_eq_none_iff.1 ht
    rw [List.getElem?_eq_none this];rfl
   | some t=>rw [(e2 i t ht).1];rfl
  refine ⟨g,cap,ts,hv,⟨⟨cur,hh,h3,fun i x hx k u hu=>?_,fun i x _ hx=>by simp at hx⟩,by omega,h2,h4,fun t ht=>?_,?_⟩,em⟩
  ·rw [List.getElem?_map] at hx
   cases ht:ts[i]? with
   | none=>rw [ht] at hx;cases hx
   | some t =>
    rw [ht] at hx
    cases hx
    obtain ⟨k1,k2,-⟩:=e2 i t ht
    rw [← k2] at hu
    exact (h5 i _ k1).2.2 k u hu
  ·obtain ⟨i,hi⟩:=List.mem_iff_getElem?.1 ht
   obtain ⟨k1,k2,k3,k4⟩:=e2 i t hi
   have hil:i < l.length:=(gs1 k1).1
   rw [← k2,k4]
   exact ⟨(h5 i _ k1).1,k3,fun b hb=>h6 i b hil hb⟩
  ·rw [List.pairwise_iff_getElem]
   intro i j hi hj hij b hb hb'
   obtain ⟨-,-,-,k4⟩:=e2 i _ (aL hi)
   obtain ⟨-,-,-,q4⟩:=e2 j _ (aL hj)
   rw [k4] at hb
   rw [q4] at hb'
   exact h7 i j b (by omega) (by omega) (by omega) hb hb'
theorem yw.RU (h:yw w S g cap ts):oC w S (.slice (some ⟨g,0,none⟩) ts.length cap) (ts.map fun t=>t.2.1):=by
 obtain ⟨cur,h1,h2,h3,-⟩:=h.row
 refine .inr ⟨g,cap,cur,fun i=>(ts[i]?.map fun t=>fK t.1).getD [],fun i=>(ts[i]?.map fun t=>t.2.2).getD (fun _=>False),by rw [List.length_map],h1,by rw [List.length_map];exact h.len,h.cap,h2,h.own,fun i x hx=>?_,fun i b hi hb=>?_,fun i j b hi hj hne hb hb'=>?_⟩
 ·rw [List.getElem?_map] at hx
  cases ht:ts[i]? with
  | none=>rw [ht] at hx;cases hx
  | some t =>
   rw [ht] at hx
   cases hx
   simp only [ht,Option.map_some,Option.getD_some]
   refine ⟨(h.el t (List.mem_of_getElem? ht)).1,rfl,fun j u hu=>h3 i t.1 (by rw [List.getElem?_map,ht];rfl) j u hu⟩
 ·rw [List.length_map] at hi
  rw [aL hi] at hb
  exact (h.el _ (List.getElem_mem hi)).2.2 b hb
 ·rw [List.length_map] at hi hj
  rw [aL hi] at hb
  rw [aL hj] at hb'
  rcases Nat.lt_or_gt_of_ne hne with hlt | hgt
  ·exact List.pairwise_iff_getElem.1 h.apart i j hi hj hlt b hb hb'
  ·exact List.pairwise_iff_getElem.1 h.apart j i hj hi hgt b hb' hb
theorem yw.frame (h:yw w S g cap ts) {us:List Tr} {t':List rZ} (hr:bP 34 7 fK w' g cap t' [] 0) (ht:t'=us.map fun t=>t.1) (hsub:∀ t ∈ us,t ∈ ts) (hap:us.Pairwise (fun s t=>∀ b,s.2.2 b→¬ t.2.2 b)) (hl:us.length≤ts.length) (hw:∀ k,S k→k≠g→k < w.heap.size→w'.heap[k]?=w.heap[k]?):yw w' S g cap us :=
 ⟨ht ▸ hr,Nat.le_trans hl h.len,h.cap,h.own,fun t ht=>let ⟨h1,h2,h3⟩:=h.el t (hsub t ht);⟨mG _ _ _ _ _ h1 fun b hb hlt=>hw b (h3 b hb).1 (h3 b hb).2 hlt,h2,h3⟩,hap⟩
end
/- A rY boxes are sorted by their names. -/
section
variable {α : Type} [Inhabited α] {enc : α → List Value} {kk : Nat} {w : World} {blk n : Nat} {d : Array α} {os : Array Obj}
theorem RV {k:Nat} (hk:k < w.heap.size) (hne:k≠blk):(sortWorldK enc kk w blk 0 n d os).heap[k]?=w.heap[k]?:=by
 unfold sortWorldK Go.Sort.grow Go.Sort.putRowK Go.Sort.putRow Go.Sort.mapBlock Go.Sort.ahead
 simp only
 rw [Array.getElem?_append_left (by simpa using hk),Array.getElem?_modify]
 simp [Ne.symm hne]
theorem aaN:w.heap.size≤(sortWorldK enc kk w blk 0 n d os).heap.size:=by simp [sortWorldK,Go.Sort.grow,Go.Sort.putRowK,Go.Sort.putRow,Go.Sort.mapBlock,Go.Sort.ahead]
theorem aaO {cur:Array Value} {t:TypeId} (h:w.heap[blk]?=some (.cells cur t (0,0))):∃ cur',(sortWorldK enc kk w blk 0 n d os).heap[blk]?=some (.cells cur' t (0,0))∧cur'.size=cur.size:=by
 have hb:=lt_of_heap h
 unfold sortWorldK Go.Sort.grow Go.Sort.putRowK Go.Sort.putRow Go.Sort.mapBlock Go.Sort.ahead
 simp only
 rw [Array.getElem?_append_left (by simpa using hb),Array.getElem?_modify]
 simp only [if_true,h,Option.map_some,Go.Sort.onCells]
 exact ⟨_,rfl,by simp [Go.Sort.putCells]⟩
end
def iO (x y:aA):Int:=Lib.compareBytes (dN x.name) (dN y.name)
theorem aaP (x y:rZ) (l m:List Int) (W:World) (hx:Bs W (.slice x.a0 x.n0 x.c0) l) (hy:Bs W (.slice y.a0 y.n0 y.c0) m) :
  Calls Tryz.prog 67 #[.agg (fK x).toArray,.agg (fK y).toArray] W fun e w'=>e=.returned (.int .i64 (Lib.compareBytes (dN l) (dN m)))∧∃ q os',w'=Go.Sort.grow (W.drewN q) os':=by
 obtain ⟨a0,n0,c0,vd,nx,sq,a2,n2,c2,ls⟩:=x
 obtain ⟨b0,p0,d0,vd',nx',sq',b2,p2,d2,ls'⟩:=y
 simp only at hx hy
 have X:=(iX W (.cells #[.slice a0 n0 c0,.int .i64 vd,.int .i64 nx,.int .i64 sq,.slice none 0 0,.slice a2 n2 c2,.int .i64 ls] 34) (.cells #[.slice b0 p0 d0,.int .i64 vd',.int .i64 nx',.int .i64 sq',.slice none 0 0,.slice b2 p2 d2,.int .i64 ls'] 34)).2.2
 have HC:=ak (Oa _ _ _ _ _ (hx.below X) (hy.below X))
 clear hx hy X
 generalize Lib.compareBytes (dN l) (dN m)=r at HC ⊢
 simp only [fK]
 go_enter Tryz.func67,Tryz.ntmps67
 go_wp2_with (go_at_call 25;refine HC.out.mono ?_;rintro e w' ⟨rfl,rfl⟩)
 go_ret
 exact ⟨rfl,0,_,by rw [Go.Sort.alloc_eq_grow,Go.Sort.alloc_eq_grow,Go.Sort.grow_grow];rfl⟩
theorem aaR (w:World):(isAgg 34).run Tryz.prog w=.ok true w:=Tryz.isAgg34 w
theorem aaS (w:World):(Go.sizeOf 34).run Tryz.prog w=.ok 7 w:=Tryz.sizeOf34 w
theorem aaT:∀ args w,(callFunc 67 args).run Tryz.prog w=.ok (.enter 67 args) w:=fun args w=>by kernel_rfl
theorem aaU (w:World) (S:Nat→Prop) (u0:Value) (l:List aA) (h:oC w S u0 l) (hne:l≠[]) (h12:l.length≤12) (hS:∀ k,S k→k < w.heap.size) :
  ∃ gb cap,u0=.slice (some ⟨gb,0,none⟩) l.length cap∧S gb∧Calls Tryz.prog 66 #[u0,.func (.func 67) #[] #[]] w fun e w'=>e=.returned (.tuple #[])∧∃ l',l'.Perm l∧l'.Pairwise (fun x y=>0≤iO y x)∧oC w' S u0 l'∧w.grownBy w' (some gb):=by
 obtain ⟨gb,cap,ts,rfl,hR,rfl⟩:=h.RS hne
 have hts:ts≠[]:=fun e=>hne (by rw [e];rfl)
 obtain ⟨t0,ht0⟩:∃ t,t ∈ ts:=by
  cases ts with
  | nil=>exact absurd rfl hts
  | cons t ts=>exact ⟨t,List.mem_cons_self ..⟩
 haveI:Inhabited {t:Tr // t ∈ ts}:=⟨⟨t0,ht0⟩⟩
 obtain ⟨cur,r1,r2,r3,-⟩:=hR.row
 have hlt:gb < w.heap.size:=lt_of_heap r1
 have hds:ts.attach.toArray.size=ts.length:=by simp
 have hH:Go.Sort.HoldsK (fun x:{t:Tr // t ∈ ts}=>fK x.1.1) 7 w gb 0 ts.attach.toArray:=by
  intro j hj
  rw [Go.Sort.size_flatK,hds] at hj
  have hi:j / 7 < ts.length:=by omega
  have hm:j % 7 < 7:=Nat.mod_lt _ (by omega)
  refine ⟨?_,by rw [Nat.zero_add];exact frozen_of_row w gb j cur _ r1⟩
  have hia:j / 7 < ts.attach.length:=by simpa using hi
  rw [Go.Sort.get_flatK _ _ _ _ (by rw [hds];exact hj),Ox hia,Nat.zero_add,cell_of_row w gb j cur _ (0,0) r1]
  have hd:j=j / 7 * 7+j % 7:=by omega
  have hel:(ts.map fun t=>t.1)[j / 7]?=some (ts.attach[j / 7]'hia).1.1:=by rw [List.getElem?_map,aL hi];simp
  have hlen:(fK (ts.attach[j / 7]'hia).1.1).length=7:=rfl
  have:=r3 (j / 7) _ hel (j % 7) ((fK (ts.attach[j / 7]'hia).1.1)[j % 7]!) (by rw [List.getElem!_eq_getElem?_getD,aL (by rw [hlen];exact hm)];rfl)
  rw [← hd] at this
  exact this
 have hcmp:CmpLays Tryz.prog 67 #[] (fun x:{t:Tr // t ∈ ts}=>fK x.1.1) 7 (fun x y=>iO x.1.2.1 y.1.2.1) gb 0 ts.attach.toArray.size w:=by
  intro m os dk hsz x y
  have hb:∀ x:{t:Tr // t ∈ ts},Bs (sortWorldK (fun x:{t:Tr // t ∈ ts}=>fK x.1.1) 7 w gb 0 m dk os) (.slice x.1.1.a0 x.1.1.n0 x.1.1.c0) x.1.2.1.name:=by
   intro x
   obtain ⟨⟨v0,v2,e,q1,-⟩,-,q3⟩:=hR.el x.1 x.2
   have e0:v0=.slice x.1.1.a0 x.1.1.n0 x.1.1.c0:=by
    unfold fK at e
    simp only [List.cons.injEq] at e
    exact e.1.symm
   rw [← e0]
   exact (q1.frame fun k hk hl=>RV hl (q3 k hk).2).bs
  exact aaP _ _ _ _ _ (hb x) (hb y)
 have aaV:Go.Sort.SWO (ltOf fun x y:{t:Tr // t ∈ ts}=>iO x.1.2.1 y.1.2.1):={
  irrefl:=fun x=>by show decide (Lib.compareBytes (dN x.1.2.1.name) (dN x.1.2.1.name) < 0)=false;rw [Ij];rfl
  trans:=fun x y z h1 h2=>by
   unfold ltOf iO at *
   simp only [decide_eq_true_eq] at *
   exact zh _ _ _ h1 h2
  ntrans:=fun x y z h1 h2=>by
   unfold ltOf iO at *
   simp only [decide_eq_false_iff_not,Int.not_lt] at *
   exact NZ _ _ _ h1 h2 }
 have hcall:=AnyQ.slices_SortFunc_small_sorted Tryz.sortBoxes 7 aaR aaS (fun x:{t:Tr // t ∈ ts}=>fK x.1.1) (fun _=>rfl) (fun x v hv=>by simp [fK] at hv;rcases hv with rfl | rfl | rfl | rfl | rfl | rfl | rfl <;> rfl) (fun x y=>iO x.1.2.1 y.1.2.1) 67 #[] aaV gb 0 cap ts.attach.toArray w aaT hcmp hH hlt (by rw [hds];simpa using h12) Ih
 refine ⟨gb,cap,rfl,hR.own,?_⟩
 rw [List.length_map]
 rw [hds] at hcall
 refine hcall.mono ?_
 rintro e w' ⟨rfl,d',nn,os,⟨p1,-,p3⟩,hsort,rfl⟩
 have hd':d'.size=ts.length:=by rw [p1,hds]
 have hperm:d'.toList.Perm ts.attach:=by
  have a1:(d'.extract 0 ts.length)=d':=by rw [← hd'];exact Array.extract_size
  have a2:(ts.attach.toArray.extract 0 ts.length)=ts.attach.toArray:=by rw [← hds];exact Array.extract_size
  rw [a1,a2] at p3
  exact p3
 have hpt:(d'.toList.map fun x=>x.1).Perm ts:=by
  have:=hperm.map (fun x=>x.1)
  have e:(ts.attach.map fun x=>x.1)=ts:=List.attach_map_subtype_val ts
  rwa [e] at this
 have hW:Go.Sort.HoldsK (fun x:{t:Tr // t ∈ ts}=>fK x.1.1) 7 (sortWorldK (fun x:{t:Tr // t ∈ ts}=>fK x.1.1) 7 w gb 0 nn d' os) gb 0 d':=by
  unfold sortWorldK
  refine Go.Sort.holdsK_grow _ _ _ _ _ _ _ ?_ (Go.Sort.holdsK_putRowK _ _ _ _ _ ts.attach.toArray d' hH (by rw [hd',hds]))
  simpa [Go.Sort.putRowK,Go.Sort.putRow,Go.Sort.mapBlock,Go.Sort.ahead] using hlt
 obtain ⟨cur',c1,c2⟩:=aaO (enc:=fun x:{t:Tr // t ∈ ts}=>fK x.1.1) (kk:=7) (n:=nn) (d:=d') (os:=os) r1
 have hrow:bP 34 7 fK (sortWorldK (fun x:{t:Tr // t ∈ ts}=>fK x.1.1) 7 w gb 0 nn d' os) gb cap ((d'.toList.map fun x=>x.1).map fun t=>t.1) [] 0:=by
  refine ⟨cur',c1,by rw [c2,r2],fun i x hx k u hu=>?_,fun i x _ hx=>by simp at hx⟩
  rw [List.map_map,List.getElem?_map] at hx
  cases hi:d'.toList[i]? with
  | none=>rw [hi] at hx;cases hx
  | some y =>
   rw [hi] at hx
   cases hx
   have hil:i < d'.size:=by have:=(gs1 hi).1;simpa using this
   have hj:k < 7:=by have:=(gs1 hu).1;exact this
   have ey:d'[i]! = y:=by
    rw [xD hil]
    have:=(gs1 hi).2
    simpa using this
   have hc:=(hW.cell hil hj).1
   rw [cell_of_row _ gb _ cur' _ (0,0) c1,ey,List.getElem!_eq_getElem?_getD,show (fK y.1.1)[k]?=some u from hu,Nat.zero_add] at hc
   exact hc
 have hG:w.grownBy (sortWorldK (fun x:{t:Tr // t ∈ ts}=>fK x.1.1) 7 w gb 0 nn d' os) (some gb):=⟨rfl,rfl,rfl,aaN,fun k hk hne=>RV hk (fun e=>hne (by rw [e]))⟩
 have hR':=hR.frame hrow rfl (fun t ht=>hpt.mem_iff.1 ht) ((List.Perm.pairwise_iff (fun {x y} h b hb hb'=>h b hb' hb) hpt).2 hR.apart) (by rw [hpt.length_eq];exact Nat.le_refl _) (fun k hk hne hl=>hG.block k hl (fun e=>hne (Option.some.inj e)))
 refine ⟨rfl,(d'.toList.map fun x=>x.1).map fun t=>t.2.1,hpt.map _,?_,?_,hG⟩
 ·rw [List.map_map,List.pairwise_map,List.pairwise_iff_getElem]
  intro i j hi hj hij
  have:=hsort i j (Nat.zero_le _) hij (by simpa [hd'] using hj)
  simp only [Array.length_toList] at hi hj
  rw [xD hi,xD hj] at this
  unfold ltOf at this
  simpa using this
 ·have:=hR'.RU
  rw [show (d'.toList.map fun x=>x.1).length=ts.length from hpt.length_eq] at this
  exact this
/- A box that is created stands where its name belongs, on lists. -/
theorem KU {α:Type} {p:α→Bool}:∀ {l:List α} {x:α},x ∈ l.takeWhile p→p x=true
 | [],x,h=>by cases h
 | y :: l,x,h=>by
  cases hy:p y with
  | true =>
   rw [List.takeWhile_cons_of_pos hy] at h
   rcases List.mem_cons.1 h with rfl | h
   ·exact hy
   ·exact KU h
  | false =>
   rw [List.takeWhile_cons_of_neg (by simp [hy])] at h
   cases h
theorem CQ {x y:aA}:bV x.name y.name=true↔iO x y < 0:=by
 unfold iO bV
 have:=Ea (dN x.name) (dN y.name)
 cases h:Op.bytesLess (dN x.name) (dN y.name) <;> rw [h] at this <;> simp at this ⊢ <;> omega
theorem aaW {x y:aA} (h:iO x y < 0):¬ iO y x < 0:=fun h2=>by
 have:=zh _ _ _ h h2
 rw [Ij] at this
 omega
/-- Two boxes with different names are apart. -/
theorem KV {x y:aA} (hx:Oct x.name) (hy:Oct y.name) (h:x.name≠y.name):iO x y < 0∨iO y x < 0:=by
 by_cases h1:iO x y < 0
 ·exact .inl h1
 ·by_cases h2:iO y x < 0
  ·exact .inr h2
  ·exact absurd (Hy hx hy (N7 _ _ (by unfold iO at h1;omega) (by unfold iO at h2;omega))) h
theorem aaX {l l':List aA} {x:aA} (hs:l.Pairwise (fun y z=>bV y.name z.name=true)) (hb:∀ y ∈ l,Oct y.name) (hx:Oct x.name) (hn:∀ y ∈ l,y.name≠x.name) (hp:l'.Perm (l ++ [x])) (ho:l'.Pairwise (fun y z=>0≤iO z y)) :
  l'=l.takeWhile (fun y=>bV y.name x.name) ++ (x :: l.dropWhile (fun y=>bV y.name x.name)):=by
 have hs':l.Pairwise (fun y z=>iO y z < 0):=hs.imp fun h=>CQ.1 h
 have hN:(l ++ [x]).Pairwise (fun y z=>iO y z < 0∨iO z y < 0):=by
  refine List.pairwise_append.2 ⟨hs'.imp .inl,List.pairwise_singleton _ _,fun y hy z hz=>?_⟩
  rw [List.mem_singleton] at hz
  subst hz
  exact KV (hb y hy) hx (hn y hy)
 have hN':=(List.Perm.pairwise_iff (fun {y z} h=>h.symm) hp).2 hN
 have h1:l'.Pairwise (fun y z=>iO y z < 0):=(ho.and hN').imp fun {y z} ⟨a,b⟩=>b.elim id (fun h=>absurd h (by omega))
 refine N8 (R:=fun y z=>iO y z < 0) (fun y z=>aaW) _ _ (hp.trans ?_) h1 ?_
 ·have e:=List.takeWhile_append_dropWhile (p:=fun y:aA=>bV y.name x.name) (l:=l)
  refine (List.perm_append_singleton x l).trans ?_
  conv=>lhs;rw [← e]
  exact List.perm_middle.symm
 ·have e:=List.takeWhile_append_dropWhile (p:=fun y:aA=>bV y.name x.name) (l:=l)
  have hsp:=hs'
  rw [← e] at hsp
  obtain ⟨q1,q2,q3⟩:=List.pairwise_append.1 hsp
  have hdrop:∀ y ∈ l.dropWhile (fun y=>bV y.name x.name),iO x y < 0:=by
   cases hd:l.dropWhile (fun y=>bV y.name x.name) with
   | nil=>intro y hy;cases hy
   | cons e0 r =>
    have he:e0 ∈ l:=by
     rw [← e,hd]
     exact List.mem_append_right _ (List.mem_cons_self ..)
    have hne:bV e0.name x.name=false:=by
     have:=List.head?_dropWhile_not (fun y:aA=>bV y.name x.name) l
     rw [hd] at this
     simpa using this
    have h0:iO x e0 < 0:=(KV (hb e0 he) hx (hn e0 he)).elim (fun h=>absurd (CQ.2 h) (by rw [hne];simp)) id
    rw [hd] at q2
    intro y hy
    rcases List.mem_cons.1 hy with rfl | hy
    ·exact h0
    ·exact zh _ _ _ h0 ((List.pairwise_cons.1 q2).1 y hy)
  refine List.pairwise_append.2 ⟨q1,List.pairwise_cons.2 ⟨hdrop,q2⟩,fun y hy z hz=>?_⟩
  rcases List.mem_cons.1 hz with rfl | hz
  ·exact CQ.1 (KU (p:=fun y:aA=>bV y.name _) hy)
  ·exact q3 y hy z hz
end Go.Proofs.YtmglhdkeidhafaaGreat
