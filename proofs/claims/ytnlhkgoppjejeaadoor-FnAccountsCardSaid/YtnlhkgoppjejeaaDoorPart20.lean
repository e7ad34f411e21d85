/- The proof's texts, part 20. -/
import Derived.Test.YtnlhkgoppjejeaaDoorPart11
import Derived.Test.YtnlhkgoppjejeaaDoorPart15
import Derived.Test.YtnlhkgoppjejeaaDoorPart3
import Derived.Laws.BytesArg
import Derived.Test.YtnlhkgoppjejeaaDoorPart10
import Derived.Laws.AppendOwnNone

/- Accounts read back from their bytes, on lists. -/
namespace Go.Proofs.YtnlhkgoppjejeaaDoor
open Go.RowKit
set_option linter.unusedVariables false

/-- What i reads where the bytes y stand, ahead of whatever follows. -/
def Rb {α:Type} (i:List Int→Int→Option (α × Int)) (y:List Int) (x:α):Prop:=∀ (l b r:List Int) (p:Int),l=b ++ (y ++ r)→p=b.length→i l p=some (x,p+y.length)
theorem rb_n {n:Int} (h0:0≤n) (h1:n≤2147483647):Rb iN (numB n) n:=by
 intro l b r p hl hp
 have e:numB n=enc 4 n:=by unfold numB putL;rw [if_pos ⟨h0,h1⟩];rfl
 have g:=get_put b r n h0 h1
 rw [List.append_assoc,← e,← hl,← hp] at g
 unfold iN
 rw [g,if_neg (by simp;omega)]
 simp [hp]
theorem rb_t {t:List Int} (ht:t.length≤30):Rb iT (txB t) t:=by
 intro l b r p hl hp
 have e:txB t=enc 4 t.length ++ t:=by unfold txB putTL putL;rw [if_neg (by omega),if_pos (by omega)];rfl
 have g:=get_put b (t ++ r) t.length (by omega) (by omega)
 have hl':l=b ++ enc 4 t.length ++ (t ++ r):=by rw [hl,e];simp
 rw [← hl',← hp] at g
 have hll:(l.length:Int)=(b ++ enc 4 t.length).length+t.length+r.length:=by rw [hl'];simp;omega
 have hd:l.drop (b ++ enc 4 t.length).length=t ++ r:=by rw [hl'];simp
 unfold iT getTL
 rw [g]
 simp only
 rw [if_neg (show ¬ (((b ++ enc 4 (t.length:Int)).length:Int) < 0∨30 < (t.length:Int)∨(l.length:Int) - ((b ++ enc 4 (t.length:Int)).length:Int) < (t.length:Int)) by omega)]
 simp only [Int.toNat_natCast]
 rw [hd,List.take_left]
 rw [if_neg (by omega)]
 simp [hp,e]
 omega
theorem rb_c {n most:Int} (h0:0≤n) (h1:n≤most) (h2:most≤1000):Rb (fun l p=>iC l most p) (numB n) n:=by
 intro l b r p hl hp
 simp only [iC]
 rw [rb_n h0 (by omega) l b r p hl hp]
 simp only [Option.bind_some]
 rw [if_neg (by omega)]
theorem rb_many {α:Type} {i:List Int→Int→Option (α × Int)} {f:α→List Int}:∀ {xs:List α},(∀ x ∈ xs,Rb i (f x) x)→Rb (fun l p=>iMany (i l) xs.length p) (xs.flatMap f) xs
 | [],_=>fun l b r p hl hp=>by simp [iMany]
 | x :: xs,h=>fun l b r p hl hp=>by
  simp only [List.length_cons,iMany,List.flatMap_cons] at hl ⊢
  rw [h x (by simp) l b (xs.flatMap f ++ r) p (by rw [hl];simp) hp]
  simp only [Option.bind_some]
  have:=rb_many (xs:=xs) (fun y hy=>h y (by simp [hy])) l (b ++ f x) r (p+(f x).length) (by rw [hl];simp) (by simp [hp])
  simp only at this
  rw [this]
  simp
  omega
theorem rb_manyN {α:Type} {i:List Int→Int→Option (α × Int)} {f:α→List Int} {xs:List α} (h:∀ x ∈ xs,Rb i (f x) x):Rb (fun l p=>iMany (i l) ((xs.length:Int)).toNat p) (xs.flatMap f) xs:=rb_many h
section
variable {α β : Type} {i : List Int → Int → Option (α × Int)} {k : α → List Int → Int → Option (β × Int)} {y y' : List Int} {x : α} {z : β}
theorem Rb.bind (h:Rb i y x) (h':Rb (k x) y' z):Rb (fun l p=>(i l p).bind fun a=>k a.1 l a.2) (y ++ y') z:=by
 intro l b r p hl hp
 simp only
 rw [h l b (y' ++ r) p (by rw [hl];simp) hp]
 simp only [Option.bind_some]
 rw [h' l (b ++ y) r (p+y.length) (by rw [hl];simp) (by simp [hp])]
 simp
 omega
/-- The last one: what was read is put together. -/
theorem Rb.last {c:α→β} (h:Rb i y x):Rb (fun l p=>(i l p).bind fun a=>some (c a.1,a.2)) y (c x):=by
 intro l b r p hl hp
 simp only
 rw [h l b r p hl hp]
 rfl
end
def okN (n:Int):Prop:=0≤n∧n≤1000000
theorem okN.rb {n:Int} (h:okN n):Rb iN (numB n) n:=rb_n h.1 (by have:=h.2;omega)
def okM (m:MailD):Prop:=okN m.uid∧okN m.flags∧okN m.seq∧m.text.length≤30
def okG (m:GoneD):Prop:=okN m.uid∧okN m.seq
def okX (b:BoxD):Prop:=b.name.length≤30∧okN b.valid∧okN b.next∧okN b.seq∧okN b.lost∧b.mails.length≤12∧(∀ m ∈ b.mails,okM m)∧b.gones.length≤40∧∀ m ∈ b.gones,okG m
theorem rb_mail {m:MailD} (h:okM m):Rb iMail (mailBs m) m :=
 Rb.bind (k:=fun a l p=>(iN l p).bind fun b=>(iN l b.2).bind fun c=>(iT l c.2).bind fun d=>some (MailD.mk a b.1 c.1 d.1,d.2)) h.1.rb
  (Rb.bind (k:=fun b l p=>(iN l p).bind fun c=>(iT l c.2).bind fun d=>some (MailD.mk m.uid b c.1 d.1,d.2)) h.2.1.rb
   (Rb.bind (k:=fun c l p=>(iT l p).bind fun d=>some (MailD.mk m.uid m.flags c d.1,d.2)) h.2.2.1.rb
    (Rb.last (c:=fun d=>(⟨m.uid,m.flags,m.seq,d⟩:MailD)) (rb_t h.2.2.2))))
theorem rb_gone {m:GoneD} (h:okG m):Rb iGone (goneBs m) m :=
 Rb.bind (k:=fun a l p=>(iN l p).bind fun b=>some (GoneD.mk a b.1,b.2)) h.1.rb (Rb.last (c:=fun b=>(⟨m.uid,b⟩:GoneD)) h.2.rb)
theorem rb_box {x:BoxD} (h:okX x):Rb iBox (boxBs x) x :=
 let ⟨h0,h1,h2,h3,h4,h5,h6,h7,h8⟩:=h
 Rb.bind (k:=fun a l p=>(iN l p).bind fun b=>(iN l b.2).bind fun c=>(iN l c.2).bind fun d=>(iN l d.2).bind fun e=>(iC l 12 e.2).bind fun f=>(iMany (iMail l) f.1.toNat f.2).bind fun g=>(iC l 40 g.2).bind fun h=>(iMany (iGone l) h.1.toNat h.2).bind fun i=>some (BoxD.mk a b.1 c.1 d.1 g.1 i.1 e.1,i.2)) (rb_t h0)
 (Rb.bind (k:=fun b l p=>(iN l p).bind fun c=>(iN l c.2).bind fun d=>(iN l d.2).bind fun e=>(iC l 12 e.2).bind fun f=>(iMany (iMail l) f.1.toNat f.2).bind fun g=>(iC l 40 g.2).bind fun h=>(iMany (iGone l) h.1.toNat h.2).bind fun i=>some (BoxD.mk x.name b c.1 d.1 g.1 i.1 e.1,i.2)) h1.rb
 (Rb.bind (k:=fun c l p=>(iN l p).bind fun d=>(iN l d.2).bind fun e=>(iC l 12 e.2).bind fun f=>(iMany (iMail l) f.1.toNat f.2).bind fun g=>(iC l 40 g.2).bind fun h=>(iMany (iGone l) h.1.toNat h.2).bind fun i=>some (BoxD.mk x.name x.valid c d.1 g.1 i.1 e.1,i.2)) h2.rb
 (Rb.bind (k:=fun d l p=>(iN l p).bind fun e=>(iC l 12 e.2).bind fun f=>(iMany (iMail l) f.1.toNat f.2).bind fun g=>(iC l 40 g.2).bind fun h=>(iMany (iGone l) h.1.toNat h.2).bind fun i=>some (BoxD.mk x.name x.valid x.next d g.1 i.1 e.1,i.2)) h3.rb
 (Rb.bind (k:=fun e l p=>(iC l 12 p).bind fun f=>(iMany (iMail l) f.1.toNat f.2).bind fun g=>(iC l 40 g.2).bind fun h=>(iMany (iGone l) h.1.toNat h.2).bind fun i=>some (BoxD.mk x.name x.valid x.next x.seq g.1 i.1 e,i.2)) h4.rb
 (Rb.bind (k:=fun f l p=>(iMany (iMail l) f.toNat p).bind fun g=>(iC l 40 g.2).bind fun h=>(iMany (iGone l) h.1.toNat h.2).bind fun i=>some (BoxD.mk x.name x.valid x.next x.seq g.1 i.1 x.lost,i.2)) (rb_c (most:=12) (n:=x.mails.length) (by omega) (by omega) (by omega))
 (Rb.bind (k:=fun g l p=>(iC l 40 p).bind fun h=>(iMany (iGone l) h.1.toNat h.2).bind fun i=>some (BoxD.mk x.name x.valid x.next x.seq g i.1 x.lost,i.2)) (rb_manyN fun m hm=>rb_mail (h6 m hm))
 (Rb.bind (k:=fun h l p=>(iMany (iGone l) h.toNat p).bind fun i=>some (BoxD.mk x.name x.valid x.next x.seq x.mails i.1 x.lost,i.2)) (rb_c (most:=40) (n:=x.gones.length) (by omega) (by omega) (by omega))
 (Rb.last (c:=fun i=>(⟨x.name,x.valid,x.next,x.seq,x.mails,i,x.lost⟩:BoxD)) (rb_manyN fun m hm=>rb_gone (h8 m hm))))))))))
theorem rb_acc {a:AccD} (h0:okN a.valid) (h1:a.boxes.length≤4) (h2:∀ x ∈ a.boxes,okX x) (h3:a.seen.length≤60) (h4:∀ n ∈ a.seen,okN n):Rb iAcc (accBs a) a :=
 Rb.bind (k:=fun v l p=>(iC l 4 p).bind fun b=>(iMany (iBox l) b.1.toNat b.2).bind fun c=>(iC l 60 c.2).bind fun d=>(iMany (iN l) d.1.toNat d.2).bind fun e=>some (AccD.mk v c.1 e.1,e.2)) h0.rb
 (Rb.bind (k:=fun b l p=>(iMany (iBox l) b.toNat p).bind fun c=>(iC l 60 c.2).bind fun d=>(iMany (iN l) d.1.toNat d.2).bind fun e=>some (AccD.mk a.valid c.1 e.1,e.2)) (rb_c (most:=4) (n:=a.boxes.length) (by omega) (by omega) (by omega))
 (Rb.bind (k:=fun c l p=>(iC l 60 p).bind fun d=>(iMany (iN l) d.1.toNat d.2).bind fun e=>some (AccD.mk a.valid c e.1,e.2)) (rb_manyN fun x hx=>rb_box (h2 x hx))
 (Rb.bind (k:=fun d l p=>(iMany (iN l) d.toNat p).bind fun e=>some (AccD.mk a.valid a.boxes e.1,e.2)) (rb_c (most:=60) (n:=a.seen.length) (by omega) (by omega) (by omega))
 (Rb.last (c:=fun e=>(⟨a.valid,a.boxes,e⟩:AccD)) (rb_manyN fun n hn=>(h4 n hn).rb)))))
theorem okX_of {b:BoxD} {v:Int} (h:boxB b v=true) (hv:v≤1000000):okX b:=by
 simp only [boxB,mailsB,gonesB,inB,Bool.and_eq_true,decide_eq_true_eq,List.all_eq_true,List.mem_range] at h
 obtain ⟨h0,h1,h2,h3,h4,⟨h5,h6⟩,h7,h8⟩:=h
 have hn:=nameB_len h0
 refine ⟨by omega,⟨by omega,by omega⟩,⟨by omega,by omega⟩,⟨by omega,by omega⟩,⟨by omega,by omega⟩,h5,fun m hm=>?_,h7,fun m hm=>?_⟩
 ·obtain ⟨j,hj,rfl⟩:=List.mem_iff_getElem.1 hm
  have hp:=prevU_ok (b:=b) (k:=j) h2.2 (by omega) (fun i hi=>h6 i (by omega))
  have:=h6 j hj
  simp only [mailAt,List.getElem?_eq_getElem hj,textB,inB,Bool.and_eq_true,decide_eq_true_eq] at this
  exact ⟨⟨by omega,by omega⟩,⟨by omega,by omega⟩,⟨by omega,by omega⟩,this.2.2.2.1⟩
 ·obtain ⟨j,hj,rfl⟩:=List.mem_iff_getElem.1 hm
  have hp:=minS_ok (b:=b) (k:=j) (by omega) (fun i hi=>h8 i (by omega))
  have:=h8 j hj
  simp only [goneAt,List.getElem?_eq_getElem hj,inB,Bool.and_eq_true,decide_eq_true_eq] at this
  exact ⟨⟨by omega,by omega⟩,⟨by omega,by omega⟩⟩
/-- An account that may be comes back from its bytes. -/
theorem acc_back {a:AccD} (h:accB a=true):iAcc (accBs a) 0=some (a,((accBs a).length:Int)):=by
 have hs:=accB_seen h
 simp only [accB,seenB,inB,Bool.and_eq_true,decide_eq_true_eq,List.all_eq_true,List.mem_range] at h
 obtain ⟨h0,h1,⟨h2,h3⟩,h4⟩:=h
 have:=rb_acc (a:=a) ⟨h0.1,h0.2⟩ h1 (fun x hx=>?_) h2 (fun n hn=>?_) (accBs a) [] [] 0 (by simp) (by simp)
 ·rw [this];simp
 ·obtain ⟨i,hi,rfl⟩:=List.mem_iff_getElem.1 hx
  have:=h4 i hi
  simp only [boxAt,List.getElem?_eq_getElem hi,Bool.and_eq_true] at this
  exact okX_of this.1 h0.2
 ·obtain ⟨i,hi,rfl⟩:=List.mem_iff_getElem.1 hn
  have hp:=prevI_ok (l:=a.seen) (k:=i+1) (by omega) (fun j hj=>h3 j (by omega))
  have hg:a.seen.getD i 0=a.seen[i]:=by simp [hi]
  simp only [prevI,hg] at hp
  exact ⟨by omega,by omega⟩
theorem acc_back_ok {a:AccD} (h:accB a=true) (ho:Oct (accBs a)):okS (accBs a)=true∧outS (accBs a)=a:=by
 have hk:okI (accBs a)=true:=by unfold okI;rw [acc_back h];simp [h]
 exact ⟨(ok_same ho).trans hk,out_same ho (acc_back h) hk⟩
/-- What is read as an account is just its bytes. -/
theorem acc_just {l:List Int} (h:okS l=true):accB (outS l)=true∧accBs (outS l)=l:=by
 unfold outS
 rw [h]
 simp only [okS,Bool.and_eq_true,decide_eq_true_eq] at h
 exact h.2
theorem acc_room {a:AccD} (h:accB a=true):(accBs a).length≤5980:=by
 have h1:=accB_small h
 have h2:=accB_seen h
 have n1:=numB_len a.valid
 have n2:=numB_len a.boxes.length
 have n3:=numB_len a.seen.length
 have n4:=nums_len a.seen
 have n5:=flat_len boxBs 1100 a.boxes fun x hx=>boxBs_len x (h1.2 x hx).1 (h1.2 x hx).2
 simp only [accBs,List.length_append]
 omega

end Go.Proofs.YtnlhkgoppjejeaaDoor

/- What sameBytes of package laws answers. -/
namespace Go.Proofs.YtnlhkgoppjejeaaDoor
open Go.RowKit
set_option maxRecDepth 100000

set_option maxHeartbeats 400000 in
theorem sameBytes_yes (v u:Value) (l:List Int) (w:World) (hv:Bs w v l) (hu:Bs w u l) :
  Calls Tryd.prog 11 #[v,u] w fun e w'=>e=.returned (.bool true)∧Below w.heap.size w w':=by
 have h1:=run_convert_bs hv
 have h2:=run_convert_bs hu
 go_enter Tryd.func11,Tryd.ntmps11
 go_wp2
 go_ret
 exact ⟨rfl,Below.refl _ _⟩

end Go.Proofs.YtnlhkgoppjejeaaDoor

/- A whole list put behind an empty one of the call's own: what comes back owns the copied cells. -/
namespace Go.Proofs.YtnlhkgoppjejeaaDoor
open Go.RowKit

theorem flatC_len {cs:Nat→List Value} {sz:Nat}:∀ (n:Nat),(∀ i,i < n→(cs i).length=sz)→((List.range n).flatMap cs).length=n * sz
 | 0,_=>by simp
 | n+1,h=>by
  rw [List.range_succ,List.flatMap_append,List.length_append,flatC_len n (fun i hi=>h i (by omega))]
  simp only [List.flatMap_cons,List.flatMap_nil,List.append_nil,h n (by omega),Nat.add_mul,Nat.one_mul]
theorem flatC_get {cs:Nat→List Value} {sz:Nat}:∀ (n:Nat),(∀ i,i < n→(cs i).length=sz)→∀ i j,i < n→j < sz→((List.range n).flatMap cs)[i * sz+j]?=(cs i)[j]?
 | 0,_,_,_,h,_=>absurd h (Nat.not_lt_zero _)
 | n+1,h,i,j,hi,hj=>by
  have hl:=flatC_len n (cs:=cs) (sz:=sz) (fun i hi=>h i (by omega))
  rw [List.range_succ,List.flatMap_append]
  by_cases e:i=n
  ·subst e
   rw [List.getElem?_append_right (by omega),hl]
   simp only [List.flatMap_cons,List.flatMap_nil,List.append_nil]
   congr 1
   omega
  ·have hb:i * sz+j < n * sz:=by
    have:=Nat.mul_le_mul_right sz (show i+1≤n by omega)
    rw [Nat.add_mul,Nat.one_mul] at this
    omega
   rw [List.getElem?_append_left (by omega)]
   exact flatC_get n (fun i hi=>h i (by omega)) i j (by omega) hj

section
variable {α : Type} {P : Program} {w : World} {e t : TypeId} {sz bytes B : Nat} {RE : World → List Value → α → Prop} {v u : Value} {m : List α}
theorem run_cat (h:w.ownsRow B e sz v 0 []) (hu:Rd sz RE w u m) (hone:∀ c x,RE w c x→∀ y ∈ c,y.oneCell'=true) (ty:TypeId) {i:TypeInfo} {z:Value} (ht:P.underlying t=some (.slice e)) (hi:P.info? e=some i) (hz:i.zero=some z) (hsize:i.size=sz) (hby:i.bytes=bytes) (hzs:z.cells.size=sz) (hsz:0 < sz)
  (hl:m.length≤maxLen) (hb:m.length * bytes≤140737488355328) (hB:B≤w.heap.size) :
  ∃ v' w' xs,(Builtin.append_ #[t,t] ty #[v,u]).run P w=.ok v' w'∧w'.ownsRow B e sz v' m.length xs∧(∀ i x,m[i]?=some x→∃ c,c.length=sz∧RE w c x∧∀ j y,c[j]?=some y→xs[i * sz+j]?=some y)∧w.grownBy w' v.ownBlock∧(v'.ownBlock=v.ownBlock∨v'.ownBlock=some w.heap.size):=by
 obtain ⟨a,cap,cs,rfl,h1,h2,h3,h4,h5⟩:=hu
 cases a with
 | none =>
  have hc:=h3 rfl
  have hm:m=[]:=List.eq_nil_of_length_eq_zero (by omega)
  subst hm
  subst hc
  exact ⟨v,w,[],run_append_owned_none (P:=P) (w:=w) B t ty e i sz ht hi v 0 [] h,h,by simp,World.grownBy.refl _ _,.inl rfl⟩
 | some ad =>
  have hlen:∀ i,i < m.length→(cs i).length=sz:=fun i hi=>(h4 i m[i] (List.getElem?_eq_getElem hi)).2
  have hfl:=flatC_len m.length hlen
  have hnews:∀ k y,((List.range m.length).flatMap cs)[k]?=some y→w.cell? (ad.add k)=some y:=by
   intro k y hk
   have hk2:k < m.length * sz:=by have:=(List.getElem?_eq_some_iff.1 hk).1;omega
   have hd:k=k / sz * sz+k % sz:=by have:=Nat.div_add_mod k sz;rw [Nat.mul_comm];omega
   have hi1:k / sz < m.length:=Nat.div_lt_of_lt_mul (by rw [Nat.mul_comm];exact hk2)
   have hj1:k % sz < sz:=Nat.mod_lt _ hsz
   have hk3:=hk
   rw [hd,flatC_get m.length hlen _ _ hi1 hj1] at hk3
   obtain ⟨b,off,hab,-,hcell⟩:=h5 (Nat.lt_of_le_of_lt (Nat.zero_le _) hi1)
   cases hab
   have:=hcell _ _ _ hi1 hk3
   rw [Addr.add_lit]
   rw [Nat.add_assoc,← hd] at this
   exact this
  have hones:∀ y ∈ (List.range m.length).flatMap cs,y.oneCell'=true:=by
   intro y hy
   obtain ⟨i,hi',hy⟩:=List.mem_flatMap.1 hy
   have hil:i < m.length:=by simpa using hi'
   exact hone _ _ (h4 i m[i] (List.getElem?_eq_getElem hil)).1 y hy
  obtain ⟨v',w',hr,k2,k3,k4,k5⟩:=run_append_own_at (P:=P) w B t ty e i z sz bytes ht hi hz hsize hby hzs hsz v 0 [] h ad m.length cap ((List.range m.length).flatMap cs) hfl hnews hones (by omega) (by simpa using hb) hB
  refine ⟨v',w',(List.range m.length).flatMap cs,hr,by simpa using k2,fun i x hx=>?_,k3,k5⟩
  have hil:i < m.length:=(List.getElem?_eq_some_iff.1 hx).1
  refine ⟨cs i,hlen i hil,(h4 i x hx).1,fun j y hy=>?_⟩
  have hj:j < sz:=by have:=(List.getElem?_eq_some_iff.1 hy).1;have:=hlen i hil;omega
  rw [flatC_get m.length hlen i j hil hj]
  exact hy
/-- The operation in a region that draws. -/
theorem wp_cat {o:Oper} {a:Act} {K:Act→World→Prop} {Q:Exit→Act→World→Prop} (d:Nat) (hd:o.dst=some d) (s y:Operand)
  (ho:o.op=.call { callee:=.builtin .append,args:=#[s,y],argTypes:=#[t,t] }) (h:w.ownsRow B e sz v 0 []) (hu:Rd sz RE w u m) (hone:∀ c x,RE w c x→∀ y ∈ c,y.oneCell'=true) {i:TypeInfo} {z:Value} (ht:P.underlying t=some (.slice e)) (hi:P.info? e=some i) (hz:i.zero=some z) (hsize:i.size=sz) (hby:i.bytes=bytes) (hzs:z.cells.size=sz) (hsz:0 < sz)
  (hs:a.eval s=v) (hy:a.eval y=u) (hl:m.length≤maxLen) (hb:m.length * bytes≤140737488355328) (hB:B≤w.heap.size)
  (k:∀ v' w' xs,w'.ownsRow B e sz v' m.length xs→(∀ i x,m[i]?=some x→∃ c,c.length=sz∧RE w c x∧∀ j y,c[j]?=some y→xs[i * sz+j]?=some y)→w.grownBy w' v.ownBlock→(v'.ownBlock=v.ownBlock∨v'.ownBlock=some w.heap.size)→K (a.put (some d) v') w'):o.wp P a w K Q:=by
 obtain ⟨v',w',xs,hr,h2,h3,h4,h5⟩:=run_cat (P:=P) (t:=t) h hu hone o.type ht hi hz hsize hby hzs hsz hl hb hB
 unfold Oper.wp execOp
 simp only [ho,resolve,invoke,builtin,Sem.run_bind,Sem.run_pure,Result.andThen_ok,List.map_toArray,List.map_cons,List.map_nil,hs,hy,hr]
 have:=k v' w' xs h2 h3 h4 h5
 rw [← hd] at this
 exact this
/-- The operation in a region that goes in the text's order. -/
theorem wpList_cat {ops:Array Oper} {rest:List Oper} {o:Oper} {a:Act} {Q:Exit→Act→World→Prop} (hgd:o.guard=none) (s y:Operand)
  (ho:o.op=.call { callee:=.builtin .append,args:=#[s,y],argTypes:=#[t,t] }) (h:w.ownsRow B e sz v 0 []) (hu:Rd sz RE w u m) (hone:∀ c x,RE w c x→∀ y ∈ c,y.oneCell'=true) {i:TypeInfo} {z:Value} (ht:P.underlying t=some (.slice e)) (hi:P.info? e=some i) (hz:i.zero=some z) (hsize:i.size=sz) (hby:i.bytes=bytes) (hzs:z.cells.size=sz) (hsz:0 < sz)
  (hs:a.eval s=v) (hy:a.eval y=u) (hl:m.length≤maxLen) (hb:m.length * bytes≤140737488355328) (hB:B≤w.heap.size)
  (k:∀ v' w' xs,w'.ownsRow B e sz v' m.length xs→(∀ i x,m[i]?=some x→∃ c,c.length=sz∧RE w c x∧∀ j y,c[j]?=some y→xs[i * sz+j]?=some y)→w.grownBy w' v.ownBlock→(v'.ownBlock=v.ownBlock∨v'.ownBlock=some w.heap.size)→wpList P ops Q rest (a.put o.dst v') w'):wpList P ops Q (o :: rest) a w:=by
 refine wpList_plain hgd fun K hK=>?_
 obtain ⟨v',w',xs,hr,h2,h3,h4,h5⟩:=run_cat (P:=P) (t:=t) h hu hone o.type ht hi hz hsize hby hzs hsz hl hb hB
 unfold Oper.wp execOp
 simp only [ho,resolve,invoke,builtin,Sem.run_bind,Sem.run_pure,Result.andThen_ok,List.map_toArray,List.map_cons,List.map_nil,hs,hy,hr]
 exact hK _ _ (k v' w' xs h2 h3 h4 h5)
end
/-- An empty slice that is just made. -/
theorem owns_empty (w:World) (e:TypeId) (sz B:Nat) (hB:B≤w.heap.size):(w.alloc (.cells #[] e)).ownsRow B e sz (.slice (some ⟨w.heap.size,0,none⟩) 0 0) 0 [] :=
 ⟨by simp,.inr ⟨w.heap.size,0,#[],rfl,hB,box_new w _,Nat.le_refl _,by simp [maxLen],by simp,by simp⟩⟩
/-- Bytes as a list of cells. -/
def ByteRE (_:World) (c:List Value) (x:Int):Prop:=c=[.int .u8 x]
theorem Bs.rd1 {w:World} {v:Value} {l:List Int} (h:Bs w v l):Rd 1 ByteRE w v l:=by
 obtain ⟨-,a,cap,hv,h1,h2,h3,h4⟩:=h
 refine ⟨a,cap,fun i=>[.int .u8 (l.getD i 0)],hv,h1,h2,h3,fun i x hx=>⟨?_,rfl⟩,fun hp=>?_⟩
 ·show [Value.int .u8 (l.getD i 0)]=_
  rw [List.getD_eq_getElem?_getD,hx]
  rfl
 ·obtain ⟨b,off,ha,hb,hc⟩:=h4 hp
  refine ⟨b,off,ha,hb,fun i j y hi hy=>?_⟩
  cases j with
  | zero =>
   simp at hy
   subst hy
   have h:=hc i hi
   rw [show off+i * 1+0=off+i by omega]
   exact h
  | succ j=>simp at hy
theorem one_byte:∀ (w:World) (c:List Value) (x:Int),ByteRE w c x→∀ y ∈ c,y.oneCell'=true:=by
 rintro w c x rfl y hy
 simp at hy
 subst hy
 rfl
theorem one_gone:∀ (w:World) (c:List Value) (x:GoneD),GoneRE w c x→∀ y ∈ c,y.oneCell'=true:=by
 rintro w c x ⟨rfl,-⟩ y hy
 simp at hy
 rcases hy with rfl | rfl <;> rfl
/-- What comes back, as bytes of the call's own, as a list of those that went. -/
theorem ro_of {w w0:World} {B:Nat} {v:Value} {l:List Int} {xs:List Value} {S:Nat→Prop} (ho:Oct l) (h:w.ownsRow B 5 1 v l.length xs) (hx:∀ i x,l[i]?=some x→∃ c,c.length=1∧ByteRE w0 c x∧∀ j y,c[j]?=some y→xs[i * 1+j]?=some y) (hS:∀ g,v.ownBlock=some g→S g):RO w S v l:=by
 have e:xs=vals l:=by
  apply List.ext_getElem?
  intro i
  have hlen:=h.1
  by_cases hi:i < l.length
  ·obtain ⟨c,-,hc,hj⟩:=hx i l[i] (List.getElem?_eq_getElem hi)
   have hc':c=[.int .u8 l[i]]:=hc
   subst hc'
   have:=hj 0 _ rfl
   simp only [Nat.mul_one,Nat.add_zero] at this
   rw [this]
   simp [vals,List.getElem?_eq_getElem hi]
  ·rw [List.getElem?_eq_none (by omega),List.getElem?_eq_none (by simp [vals];omega)]
 subst e
 refine ⟨ho,⟨h.1,?_⟩,hS⟩
 rcases h.2 with hn | ⟨g,cap,cur,hv,hg,r⟩
 ·exact .inl hn
 ·exact .inr ⟨g,cap,cur,hv,Nat.zero_le _,r⟩
theorem gones_of {w w0:World} {B:Nat} {v:Value} {l:List GoneD} {xs:List Value} {S:Nat→Prop} (h:w.ownsRow B 65 2 v l.length xs) (hx:∀ i x,l[i]?=some x→∃ c,c.length=2∧GoneRE w0 c x∧∀ j y,c[j]?=some y→xs[i * 2+j]?=some y) (hS:∀ g,v.ownBlock=some g→S g):GonesO w S v l:=by
 rcases h.2 with ⟨hn,hl⟩ | ⟨g,cap,cur,hv,hg,hh,h1,h2,h3,h4⟩
 ·exact .inl ⟨hn,List.eq_nil_of_length_eq_zero hl⟩
 ·refine .inr ⟨g,cap,cur,fun i=>match l[i]? with | some x=>[.int .i64 x.uid,.int .i64 x.seq] | none=>[],fun _ _=>False,hv,hh,h1,h2,h3,hS g (by rw [hv];rfl),fun i x hi=>?_,by simp,by simp⟩
  obtain ⟨c,-,⟨hc,hi6⟩,hj⟩:=hx i x hi
  simp only [hi]
  refine ⟨⟨rfl,hi6⟩,rfl,fun j y hy=>?_⟩
  rw [← hc] at hy
  have:=hj j y hy
  rw [← h4,List.getElem?_take] at this
  split at this
  ·simpa using this
  ·cases this

end Go.Proofs.YtnlhkgoppjejeaaDoor
