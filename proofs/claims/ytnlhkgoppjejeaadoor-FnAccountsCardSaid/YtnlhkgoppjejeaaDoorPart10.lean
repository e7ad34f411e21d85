/- The proof's texts, part 10. -/
import Derived.Test.YtnlhkgoppjejeaaDoorPart3
import Derived.Maps.AppendAt
import Derived.Test.YtnlhkgoppjejeaaDoorPart1
import Derived.Lib.ItoaNum
import Derived.Test.YtnlhkgoppjejeaaDoorPart9
import Derived.Test.YtnlhkgoppjejeaaDoorPart2

/- A list of the call's own, and one element more put behind it. -/
namespace Go.Proofs.YtnlhkgoppjejeaaDoor
open Go.RowKit

/-- The list as a row of cells, with what its elements lead to. -/
theorem Ow.row {α:Type} {t:TypeId} {sz:Nat} {E:World→List Value→α→(Nat→Prop)→Prop} {w:World} {B M:Nat} {v:Value} {l:List α} (h:Ow t sz E w (In B M) v l) :
  ∃ (xs:List Value) (cs:Nat→List Value) (fs:Nat→Nat→Prop),w.ownsRow B t sz v l.length xs∧(∀ g,v.ownBlock=some g→g < M) ∧
   (∀ i x,l[i]?=some x→E w (cs i) x (fs i)∧(cs i).length=sz∧∀ j u,(cs i)[j]?=some u→xs[i * sz+j]?=some u) ∧
   (∀ i b,i < l.length→fs i b→In B M b∧v.ownBlock≠some b)∧(∀ i j b,i < l.length→j < l.length→i≠j→fs i b→¬ fs j b):=by
 rcases h with ⟨rfl,rfl⟩ | ⟨g,cap,cur,cs,fs,rfl,hh,h1,h2,h3,h4,h5,h6,h7⟩
 ·exact ⟨[],fun _=>[],fun _ _=>False,⟨by simp,.inl ⟨rfl,rfl⟩⟩,fun g hg=>by simp [Value.ownBlock] at hg,by simp,by simp,by simp⟩
 ·have hle:l.length * sz≤cur.size:=by rw [h3];exact Nat.mul_le_mul_right _ h1
  refine ⟨cur.toList.take (l.length * sz),cs,fs,⟨by simp;omega,.inr ⟨g,cap,cur,rfl,h4.1,hh,h1,h2,h3,rfl⟩⟩,fun q hq=>?_,fun i x hx=>?_,fun i b hi hb=>⟨(h6 i b hi hb).1,?_⟩,h7⟩
  ·simp only [Value.ownBlock,Option.some.injEq] at hq
   subst hq
   exact h4.2
  ·have hi:i < l.length:=(List.getElem?_eq_some_iff.1 hx).1
   obtain ⟨e1,e2,e3⟩:=h5 i x hx
   refine ⟨e1,e2,fun j u hu=>?_⟩
   have hj:j < sz:=by have:=(List.getElem?_eq_some_iff.1 hu).1;omega
   have hb:i * sz+j < l.length * sz:=by
    have:=Nat.mul_le_mul_right sz (show i+1≤l.length by omega)
    rw [Nat.add_mul,Nat.one_mul] at this
    omega
   rw [List.getElem?_take,if_pos hb]
   simpa using e3 j u hu
  ·simp only [Value.ownBlock,ne_eq,Option.some.injEq]
   exact fun e=>(h6 i b hi hb).2 e.symm

/-- One element more: its cells stand behind the row, its footprint lies behind the list's. -/
theorem Ow.push {α:Type} {t:TypeId} {sz:Nat} {E:World→List Value→α→(Nat→Prop)→Prop} {w w':World} {B M:Nat} {v v':Value} {l:List α} (hE:Frames E) (h:Ow t sz E w (In B M) v l) (hM:M≤w.heap.size) (hBM:B≤M)
  (x:α) (c:List Value) (hc:c.length=sz) (he:E w c x (In M w.heap.size))
  (hr:∀ xs,w.ownsRow B t sz v l.length xs→w'.ownsRow B t sz v' (l.length+1) (xs ++ c)) (hg:w.grownBy w' v.ownBlock)
  (hn:∀ g,v'.ownBlock=some g→v.ownBlock=some g∨w.heap.size≤g):Ow t sz E w' (In B w'.heap.size) v' (l ++ [x]):=by
 obtain ⟨xs,cs,fs,r1,r2,r3,r4,r5⟩:=h.row
 have hlen:=r1.1
 obtain ⟨k1,k2 | ⟨g,cap,cur,k3,k4,k5,k6,k7,k8,k9⟩⟩:=hr xs r1
 ·exfalso
  have:=k2.2
  omega
 ·have hgl:=lt_of_heap k5
  have hlw:=hg.size
  have hgo:∀ b,b < w.heap.size→v.ownBlock≠some b→w'.heap[b]?=w.heap[b]?:=fun b hb hne=>hg.block b hb fun e=>hne e.symm
  refine .inr ⟨g,cap,cur,fun i=>if i=l.length then c else cs i,fun i=>if i=l.length then In M w.heap.size else fs i,?_,k5,?_,k7,k8,⟨k4,hgl⟩,fun i y hy=>?_,fun i b hi hb=>?_,fun i j b hi hj hij hb hb'=>?_⟩
  ·rw [k3];simp
  ·simpa using k6
  ·have hxs:∀ (m:Nat) (u:Value),(xs ++ c)[m]?=some u→cur[m]?=some u:=by
    intro m u hu
    rw [← k9,List.getElem?_take] at hu
    split at hu
    ·simpa using hu
    ·cases hu
   by_cases hi:i=l.length
   ·subst hi
    rw [List.getElem?_append_right (Nat.le_refl _)] at hy
    simp only [Nat.sub_self,List.getElem?_cons_zero,Option.some.injEq] at hy
    subst hy
    simp only [if_true]
    refine ⟨hE _ _ _ _ _ he fun b hb hlt=>hgo b hlt fun e=>?_,hc,fun j u hu=>hxs _ _ ?_⟩
    ·have:=r2 b e
     have:=hb.1
     omega
    ·rw [List.getElem?_append_right (by omega),hlen]
     simpa using hu
   ·have hi':i < l.length:=by
     have:=(List.getElem?_eq_some_iff.1 hy).1
     simp at this
     omega
    rw [List.getElem?_append_left hi'] at hy
    simp only [if_neg hi]
    obtain ⟨e1,e2,e3⟩:=r3 i y hy
    refine ⟨hE _ _ _ _ _ e1 fun b hb hlt=>hgo b hlt (r4 i b hi' hb).2,e2,fun j u hu=>hxs _ _ ?_⟩
    have h:=e3 j u hu
    have hm:i * sz+j < xs.length:=(List.getElem?_eq_some_iff.1 h).1
    rw [List.getElem?_append_left hm]
    exact h
  ·simp only [List.length_append,List.length_cons,List.length_nil] at hi
   by_cases hil:i=l.length
   ·simp only [if_pos hil] at hb
    refine ⟨⟨by have:=hb.1;omega,by have:=hb.2;omega⟩,fun e=>?_⟩
    subst e
    rcases hn b (by rw [k3];rfl) with h | h
    ·have:=r2 b h
     have:=hb.1
     omega
    ·have:=hb.2
     omega
   ·simp only [if_neg hil] at hb
    have hi':i < l.length:=by omega
    obtain ⟨q1,q2⟩:=r4 i b hi' hb
    refine ⟨⟨q1.1,by have:=q1.2;omega⟩,fun e=>?_⟩
    subst e
    rcases hn b (by rw [k3];rfl) with h | h
    ·exact q2 h
    ·have:=q1.2
     omega
  ·simp only [List.length_append,List.length_cons,List.length_nil] at hi hj
   by_cases hil:i=l.length
   ·have hjl:j≠l.length:=fun e=>hij (hil.trans e.symm)
    simp only [if_pos hil] at hb
    simp only [if_neg hjl] at hb'
    have:=(r4 j b (by omega) hb').1.2
    have:=hb.1
    omega
   ·simp only [if_neg hil] at hb
    by_cases hjl:j=l.length
    ·simp only [if_pos hjl] at hb'
     have:=(r4 i b (by omega) hb).1.2
     have:=hb'.1
     omega
    ·simp only [if_neg hjl] at hb'
     exact r5 i j b (by omega) (by omega) hij hb hb'

end Go.Proofs.YtnlhkgoppjejeaaDoor

/- One element more put behind a list of the call's own: the operation. -/
namespace Go.Proofs.YtnlhkgoppjejeaaDoor
open Go.RowKit

section
variable {α : Type} {P : Program} {w : World} {e t : TypeId} {sz bytes B M : Nat} {E : World → List Value → α → (Nat → Prop) → Prop} {v : Value} {l : List α}
theorem run_push (hE:Frames E) (h:Ow e sz E w (In B M) v l) (hM:M≤w.heap.size) (hBM:B≤M) (ty:TypeId) {i:TypeInfo} {z:Value} (ht:P.underlying t=some (.slice e)) (hi:P.info? e=some i) (hz:i.zero=some z) (hsize:i.size=sz) (hby:i.bytes=bytes) (hzs:z.cells.size=sz) (hsz:0 < sz)
  (x:α) (c:List Value) (hc:c.length=sz) (he:E w c x (In M w.heap.size)) (ad:Addr) (cc:Nat) (hcell:∀ j u,c[j]?=some u→w.cell? (ad.add j)=some u) (h1:∀ u ∈ c,u.oneCell'=true) (hl:l.length+1≤maxLen) (hb:(l.length+1) * bytes≤140737488355328) :
  ∃ v' w',(Builtin.append_ #[t,t] ty #[v,.slice (some ad) 1 cc]).run P w=.ok v' w'∧Ow e sz E w' (In B w'.heap.size) v' (l ++ [x])∧w.grownBy w' v.ownBlock∧(∀ g,v.ownBlock=some g→B≤g∧g < M):=by
 obtain ⟨xs,cs,fs,r1,r2,r3,r4,r5⟩:=h.row
 obtain ⟨v',w',hr,h2,h3,h4,h5⟩:=run_append_own_at (P:=P) w B t ty e i z sz bytes ht hi hz hsize hby hzs hsz v l.length xs r1 ad 1 cc c (by omega) hcell h1 hl hb (by omega)
 refine ⟨v',w',hr,h.push hE hM hBM x c hc he (fun ys hys=>?_) h3 (fun g hg=>?_),h3,fun g hg=>⟨?_,r2 g hg⟩⟩
 ·obtain ⟨k1,k2⟩:=hys
  obtain ⟨m1,m2⟩:=r1
  have e:ys=xs:=by
   rcases k2 with ⟨k3,k4⟩ | ⟨g,cap,cur,k3,k4,k5,k6,k7,k8,k9⟩
   ·rw [k4,Nat.zero_mul,List.length_eq_zero_iff] at k1
    rw [k4,Nat.zero_mul,List.length_eq_zero_iff] at m1
    rw [k1,m1]
   ·rcases m2 with ⟨m3,m4⟩ | ⟨g',cap',cur',m3,m4,m5,m6,m7,m8,m9⟩
    ·rw [m3] at k3
     cases k3
    ·rw [m3] at k3
     simp only [Value.slice.injEq,Option.some.injEq,Addr.mk.injEq] at k3
     obtain ⟨⟨rfl,-⟩,-⟩:=k3
     rw [m5] at k5
     simp only [Option.some.injEq,Obj.cells.injEq] at k5
     obtain ⟨rfl,-⟩:=k5
     rw [← k9,← m9]
  rw [e]
  exact h2
 ·rcases h5 with h5 | h5
  ·exact .inl (h5 ▸ hg)
  ·rw [h5] at hg
   exact .inr (by simp only [Option.some.injEq] at hg;omega)
 ·obtain ⟨m1,m2⟩:=r1
  rcases m2 with ⟨m3,m4⟩ | ⟨g',cap',cur',m3,m4,m5,m6,m7,m8,m9⟩
  ·rw [m3] at hg
   simp [Value.ownBlock] at hg
  ·rw [m3] at hg
   simp only [Value.ownBlock,Option.some.injEq] at hg
   omega
/-- The operation in a region that draws. -/
theorem wp_push {o:Oper} {a:Act} {K:Act→World→Prop} {Q:Exit→Act→World→Prop} (d:Nat) (hd:o.dst=some d) (s y:Operand)
  (ho:o.op=.call { callee:=.builtin .append,args:=#[s,y],argTypes:=#[t,t] }) (hE:Frames E) (h:Ow e sz E w (In B M) v l) (hM:M≤w.heap.size) (hBM:B≤M) {i:TypeInfo} {z:Value} (ht:P.underlying t=some (.slice e)) (hi:P.info? e=some i) (hz:i.zero=some z) (hsize:i.size=sz) (hby:i.bytes=bytes) (hzs:z.cells.size=sz) (hsz:0 < sz)
  (hs:a.eval s=v) (x:α) (c:List Value) (hc:c.length=sz) (he:E w c x (In M w.heap.size)) (ad:Addr) (cc:Nat) (hy:a.eval y=.slice (some ad) 1 cc) (hcell:∀ j u,c[j]?=some u→w.cell? (ad.add j)=some u) (h1:∀ u ∈ c,u.oneCell'=true) (hl:l.length+1≤maxLen) (hb:(l.length+1) * bytes≤140737488355328)
  (k:∀ v' w',Ow e sz E w' (In B w'.heap.size) v' (l ++ [x])→w.grownBy w' v.ownBlock→(∀ g,v.ownBlock=some g→B≤g∧g < M)→K (a.put (some d) v') w'):o.wp P a w K Q:=by
 obtain ⟨v',w',hr,h2,h3,h4⟩:=run_push (P:=P) (t:=t) hE h hM hBM o.type ht hi hz hsize hby hzs hsz x c hc he ad cc hcell h1 hl hb
 unfold Oper.wp execOp
 simp only [ho,resolve,invoke,builtin,Sem.run_bind,Sem.run_pure,Result.andThen_ok,List.map_toArray,List.map_cons,List.map_nil,hs,hy,hr]
 have:=k v' w' h2 h3 h4
 rw [← hd] at this
 exact this
/-- The operation in a region that goes in the text's order. -/
theorem wpList_push {ops:Array Oper} {rest:List Oper} {o:Oper} {a:Act} {Q:Exit→Act→World→Prop} (hgd:o.guard=none) (s y:Operand)
  (ho:o.op=.call { callee:=.builtin .append,args:=#[s,y],argTypes:=#[t,t] }) (hE:Frames E) (h:Ow e sz E w (In B M) v l) (hM:M≤w.heap.size) (hBM:B≤M) {i:TypeInfo} {z:Value} (ht:P.underlying t=some (.slice e)) (hi:P.info? e=some i) (hz:i.zero=some z) (hsize:i.size=sz) (hby:i.bytes=bytes) (hzs:z.cells.size=sz) (hsz:0 < sz)
  (hs:a.eval s=v) (x:α) (c:List Value) (hc:c.length=sz) (he:E w c x (In M w.heap.size)) (ad:Addr) (cc:Nat) (hy:a.eval y=.slice (some ad) 1 cc) (hcell:∀ j u,c[j]?=some u→w.cell? (ad.add j)=some u) (h1:∀ u ∈ c,u.oneCell'=true) (hl:l.length+1≤maxLen) (hb:(l.length+1) * bytes≤140737488355328)
  (k:∀ v' w',Ow e sz E w' (In B w'.heap.size) v' (l ++ [x])→w.grownBy w' v.ownBlock→(∀ g,v.ownBlock=some g→B≤g∧g < M)→wpList P ops Q rest (a.put o.dst v') w'):wpList P ops Q (o :: rest) a w:=by
 refine wpList_plain hgd fun K hK=>?_
 obtain ⟨v',w',hr,h2,h3,h4⟩:=run_push (P:=P) (t:=t) hE h hM hBM o.type ht hi hz hsize hby hzs hsz x c hc he ad cc hcell h1 hl hb
 unfold Oper.wp execOp
 simp only [ho,resolve,invoke,builtin,Sem.run_bind,Sem.run_pure,Result.andThen_ok,List.map_toArray,List.map_cons,List.map_nil,hs,hy,hr]
 exact hK _ _ (k v' w' h2 h3 h4)
end
theorem ite_w {c:Bool} {A B:Prop} (hc:c=true) (h:A):if c=true then A else B:=by rw [if_pos hc];exact h
/-- What is new by one element stands in its block. -/
theorem cells_new (w:World) (cs:Array Value) (t:TypeId):∀ j u,cs.toList[j]?=some u→(w.alloc (.cells cs t)).cell? ((⟨w.heap.size,0,none⟩:Addr).add j)=some u:=by
 intro j u hu
 have h:=box_new w (.cells cs t)
 rw [Addr.add_lit,Nat.zero_add,cell_of_row _ _ _ _ _ (0,0) h]
 simpa using hu
/-- What lies below the list stays. -/
theorem grown_below {w0 w w':World} {v:Value} {N B:Nat} (h0:Below N w0 w) (hg:w.grownBy w' v.ownBlock) (hv:∀ g,v.ownBlock=some g→B≤g) (hB:N≤B) (hN:N≤w.heap.size):Below N w0 w' :=
 ⟨hg.os.trans h0.os,hg.tape.trans h0.tape,hg.output.trans h0.output,Nat.le_trans h0.size hg.size,fun k hk=>(hg.block k (by omega) fun e=>by have:=hv k e.symm;omega).trans (h0.block k hk)⟩
theorem grown_at {w w':World} {v:Value} {B g:Nat} {o:Obj} (hg:w.grownBy w' v.ownBlock) (hv:∀ g,v.ownBlock=some g→B≤g) (h:w.heap[g]?=some o) (hB:g < B):w'.heap[g]?=some o :=
 (hg.block g (lt_of_heap h) fun e=>by have:=hv g e.symm;omega).trans h

end Go.Proofs.YtnlhkgoppjejeaaDoor

/- Numbers, flags and texts as lines have them, on lists. -/
namespace Go.Proofs.YtnlhkgoppjejeaaDoor
open Go.RowKit

theorem flat_len {α:Type} (f:α→List Int) (c:Nat) (l:List α) (h:∀ x,x ∈ l→(f x).length≤c):(l.flatMap f).length≤c * l.length:=by
 induction l with
 | nil=>simp
 | cons x l ih =>
  have h1:=h x (by simp)
  have h2:=ih fun y hy=>h y (by simp [hy])
  simp only [List.flatMap_cons,List.length_append,List.length_cons,Nat.mul_add]
  omega
theorem flat_step {α:Type} (f:α→List Int) {l:List α} {j:Nat} {x:α} (h:l[j]?=some x):(l.take (j+1)).flatMap f=(l.take j).flatMap f ++ f x:=by
 have hj:j < l.length:=(List.getElem?_eq_some_iff.1 h).1
 rw [List.take_succ_eq_append_getElem hj,(List.getElem?_eq_some_iff.1 h).2]
 simp

end Go.Proofs.YtnlhkgoppjejeaaDoor

/- Accounts as bytes, on lists. -/
namespace Go.Proofs.YtnlhkgoppjejeaaDoor
open Go.RowKit

def numB (n:Int):List Int:=putL [] n
def txB (t:List Int):List Int:=putTL [] t
theorem putL_eq (b:List Int) (n:Int):putL b n=b ++ numB n:=by
 unfold numB putL
 split <;> simp
theorem putTL_eq (b t:List Int):putTL b t=b ++ txB t:=by
 unfold txB putTL
 split
 ·simp
 ·rw [putL_eq b,putL_eq []];simp
theorem numB_len (n:Int):(numB n).length≤5:=by have:=putL_length [] n;simp [numB];simpa using this.2
theorem txB_len (t:List Int):(txB t).length≤35:=by have:=putTL_length [] t;simpa [txB] using this
def numsB (l:List Int):List Int:=l.flatMap numB
def mailBs (m:MailD):List Int:=numB m.uid ++ (numB m.flags ++ (numB m.seq ++ txB m.text))
def goneBs (g:GoneD):List Int:=numB g.uid ++ numB g.seq
def boxBs (x:BoxD):List Int:=txB x.name ++ (numB x.valid ++ (numB x.next ++ (numB x.seq ++ (numB x.lost ++ (numB x.mails.length ++ (x.mails.flatMap mailBs ++ (numB x.gones.length ++ x.gones.flatMap goneBs)))))))
def accBs (a:AccD):List Int:=numB a.valid ++ (numB a.boxes.length ++ (a.boxes.flatMap boxBs ++ (numB a.seen.length ++ numsB a.seen)))
theorem mailBs_len (m:MailD):(mailBs m).length≤50:=by
 have h1:=numB_len m.uid
 have h2:=numB_len m.flags
 have h3:=numB_len m.seq
 have h4:=txB_len m.text
 simp only [mailBs,List.length_append]
 omega
theorem goneBs_len (m:GoneD):(goneBs m).length≤10:=by
 have h1:=numB_len m.uid
 have h3:=numB_len m.seq
 simp only [goneBs,List.length_append]
 omega
theorem mails_len (l:List MailD):(l.flatMap mailBs).length≤50 * l.length:=flat_len _ _ _ fun _ _=>mailBs_len _
theorem gones_len (l:List GoneD):(l.flatMap goneBs).length≤10 * l.length:=flat_len _ _ _ fun _ _=>goneBs_len _
theorem nums_len (l:List Int):(numsB l).length≤5 * l.length:=flat_len _ _ _ fun _ _=>numB_len _
theorem boxBs_len (x:BoxD) (h1:x.mails.length≤12) (h2:x.gones.length≤40):(boxBs x).length≤1100:=by
 have k0:=txB_len x.name
 have k1:=numB_len x.valid
 have k2:=numB_len x.next
 have k3:=numB_len x.seq
 have k4:=numB_len x.lost
 have k5:=numB_len x.mails.length
 have k6:=numB_len x.gones.length
 have k7:=mails_len x.mails
 have k8:=gones_len x.gones
 simp only [boxBs,List.length_append]
 omega
theorem boxes_len (l:List BoxD) (h:∀ x,x ∈ l→x.mails.length≤12∧x.gones.length≤40):(l.flatMap boxBs).length≤1100 * l.length:=flat_len _ _ _ fun x hx=>boxBs_len x (h x hx).1 (h x hx).2
theorem accB_small {a:AccD} (h:accB a=true):a.boxes.length≤4∧(∀ x,x ∈ a.boxes→x.mails.length≤12∧x.gones.length≤40):=by
 simp only [accB,Bool.and_eq_true,decide_eq_true_eq,List.all_eq_true,List.mem_range] at h
 refine ⟨h.2.1,fun x hx=>?_⟩
 obtain ⟨i,hi,rfl⟩:=List.mem_iff_getElem.1 hx
 have:=h.2.2.2 i hi
 simp only [boxAt,List.getElem?_eq_getElem hi,boxB,mailsB,gonesB,Bool.and_eq_true,decide_eq_true_eq] at this
 exact ⟨this.1.2.2.2.2.2.1.1,this.1.2.2.2.2.2.2.1⟩

/-- What AccountBytes answers. -/
def outB (x:AccD):List Int:=match accB x with
 | true=>accBs x
 | false=>[]
theorem accB_seen {a:AccD} (h:accB a=true):a.seen.length≤60:=by
 simp only [accB,seenB,Bool.and_eq_true,decide_eq_true_eq] at h
 exact h.2.2.1.1

end Go.Proofs.YtnlhkgoppjejeaaDoor

/- There and back: numbers and texts come back from their bytes, and bytes that are read are just the bytes of what was read. -/
namespace Go.Proofs.YtnlhkgoppjejeaaDoor
open Go.RowKit

theorem dec_enc (f i:Nat) (n0 sc n:Int) (r:List Int) (h0:0≤n) (h1:n < 128 * 128 ^ f) (hi:0 < i→0 < n) (hm:n0+n * sc≤2147483647) (hn0:0≤n0) (hs:0≤sc) :
  dec (f+1) i n0 sc (enc f n ++ r)=some (n0+n * sc,i+(enc f n).length):=by
 induction f generalizing i n0 sc n with
 | zero =>
  have hx:n < 128:=by simpa using h1
  have e:n % 128=n:=by omega
  simp only [enc,List.singleton_append,dec,e]
  rw [if_pos hx,if_neg (by omega)]
  simp
 | succ f ih =>
  by_cases hb:127 < n
  ·rw [enc_hi f n hb]
   simp only [List.cons_append,dec]
   have e:n0+(n % 128+128) % 128 * sc+n / 128 * (sc * 128)=n0+n * sc:=by
    have h1:(n % 128+128) % 128=n % 128:=by omega
    have h2:n=n % 128+128 * (n / 128):=by omega
    rw [h1]
    generalize n % 128=a at *
    generalize n / 128=b at *
    subst h2
    rw [Int.add_mul,Int.mul_comm sc 128,← Int.mul_assoc,Int.mul_comm b 128,Int.add_assoc]
   have hp:n < 128 * (128 ^ f * 128):=by rw [← Int.pow_succ];exact h1
   rw [if_neg (by omega),ih (i+1) _ (sc * 128) (n / 128) (by omega) (by omega) (fun _=>by omega) (by omega) (by have:=Int.mul_nonneg (show 0≤(n % 128+128) % 128 by omega) hs;omega) (by omega),e]
   simp;omega
  ·have e:n % 128=n:=by omega
   rw [enc_lo _ n hb]
   simp only [List.singleton_append,dec,e]
   rw [if_pos (by omega),if_neg (by omega)]
   simp

theorem enc_dec (f i:Nat) (n sc:Int) (l:List Int) (m:Int) (k:Nat) (ho:Oct l) (h:dec (f+1) i n sc l=some (m,k)) :
  ∃ v,0≤v∧m=n+v * sc∧i < k∧l.take (k - i)=enc f v∧(0 < i→0 < v):=by
 induction f generalizing i n sc l with
 | zero =>
  cases l with
  | nil=>simp [dec] at h
  | cons x r =>
   have hx:=ho x (by simp)
   simp only [dec] at h
   split at h
   ·rename_i hlt
    split at h
    ·simp at h
    ·rename_i hb
     simp only [Option.some.injEq,Prod.mk.injEq] at h
     obtain ⟨rfl,rfl⟩:=h
     refine ⟨x,hx.1,by rw [show x % 128=x by omega],by omega,?_,fun hi=>?_⟩
     ·rw [show i+1 - i=1 by omega,enc_lo _ x (by omega)];simp
     ·by_cases hz:x=0
      ·exact absurd (Or.inl ⟨hz,hi⟩) hb
      ·omega
   ·simp at h
 | succ f ih =>
  cases l with
  | nil=>simp [dec] at h
  | cons x r =>
   have hx:=ho x (by simp)
   rw [dec] at h
   split at h
   ·rename_i hlt
    split at h
    ·simp at h
    ·rename_i hb
     simp only [Option.some.injEq,Prod.mk.injEq] at h
     obtain ⟨rfl,rfl⟩:=h
     refine ⟨x,hx.1,by rw [show x % 128=x by omega],by omega,?_,fun hi=>?_⟩
     ·rw [show i+1 - i=1 by omega,enc_lo _ x (by omega)];simp
     ·by_cases hz:x=0
      ·exact absurd (Or.inl ⟨hz,hi⟩) hb
      ·omega
   ·rename_i hge
    obtain ⟨v,hv0,hv1,hv2,hv3,hv4⟩:=ih (i+1) _ _ r (fun y hy=>ho y (by simp [hy])) h
    have hvp:=hv4 (by omega)
    refine ⟨x % 128+128 * v,by omega,?_,by omega,?_,fun _=>by omega⟩
    ·rw [hv1,Int.add_mul,Int.mul_comm sc 128,← Int.mul_assoc,Int.mul_comm v 128,Int.add_assoc]
    ·rw [show k - i=(k - (i+1))+1 by omega,List.take_succ_cons,hv3,enc_hi f _ (by omega)]
     congr 1
     ·omega
     ·congr 1;omega

theorem drop_len (b r:List Int):(b ++ r).drop b.length=r:=by simp
theorem get_put (b r:List Int) (n:Int) (h0:0≤n) (h1:n≤2147483647):getL (b ++ enc 4 n ++ r) b.length=(n,((b ++ enc 4 n).length:Int)):=by
 unfold getL
 rw [if_neg (by omega),Int.toNat_natCast,List.append_assoc,drop_len,dec_enc 4 0 0 1 n r h0 (by omega) (fun h=>absurd h (by omega)) (by omega) (by omega) (by omega)]
 simp [outOf]
theorem put_get (l:List Int) (at' k stop:Int) (ho:Oct l) (h:getL l at'=(k,stop)) (hs:0≤stop):0≤at'∧at'≤stop∧stop≤l.length∧putL (l.take at'.toNat) k=l.take stop.toNat:=by
 have hbd:=getL_bd l at'
 rw [h] at hbd
 unfold getL at h
 split at h
 ·simp only [Prod.mk.injEq] at h;omega
 ·cases hd:dec 5 0 0 1 (l.drop at'.toNat) with
  | none=>rw [hd] at h;simp only [outOf,Prod.mk.injEq] at h;omega
  | some p =>
   obtain ⟨m,q⟩:=p
   rw [hd] at h
   simp only [outOf,Prod.mk.injEq] at h
   obtain ⟨rfl,rfl⟩:=h
   obtain ⟨v,hv0,hv1,hv2,hv3,-⟩:=enc_dec 4 0 0 1 _ _ _ (oct_drop ho _) hd
   have hmv:m=v:=by omega
   subst hmv
   have hb2:0≤m∧m≤2147483647∧at'+q≤l.length:=by
    rcases hbd with hb | hb
    ·simp only [Prod.mk.injEq] at hb;omega
    ·simp only at hb;omega
   refine ⟨by omega,by omega,hb2.2.2,?_⟩
   unfold putL
   rw [if_pos ⟨hb2.1,hb2.2.1⟩,← hv3,Nat.sub_zero,show (at'+(q:Int)).toNat=at'.toNat+q by omega,List.take_add]

end Go.Proofs.YtnlhkgoppjejeaaDoor
