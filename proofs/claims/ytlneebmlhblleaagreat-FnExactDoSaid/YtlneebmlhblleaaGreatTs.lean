/- The proof's texts, part 28. -/
import Derived.Test.YtlneebmlhblleaaGreatTr
namespace Go.Proofs.YtlneebmlhblleaaGreat
open Go.RowKit
set_option linter.unusedSimpArgs false
set_option linter.unusedVariables false
/- What Do answers is small. -/
/-- A reply as commands give one. -/
def lW (r:cO):Prop:=fG r.box∧r.names.length≤4∧∀ n ∈ r.names,n.length≤6
theorem lW.code (c n:Int):lW (aQ c n):=⟨⟨by simp [aQ,jQ],by simp [aQ,jQ],by simp [aQ,jQ],by simp [aQ,jQ]⟩,by simp [aQ],by simp [aQ]⟩
theorem acA {b:aD} {uid mode fl si:Int}:lW (j6 b uid mode fl si).2:=by
 unfold j6
 split
 ·exact lW.code _ _
 ·split
  ·exact lW.code _ _
  ·repeat' split
   all_goals exact lW.code _ _
theorem acB {a:aJ} {k:Nat} {b:aD} {tt:List Int} {uid mode:Int}:lW (lN a k b tt uid mode).2:=by
 unfold lN
 repeat' split
 all_goals first
  | exact lW.code _ _
  | (
   simp only;repeat' split
   all_goals exact lW.code _ _)
theorem fG.part {b:aD} {ms:List aF} {gs:List bf} (h:fG b) (hm:ms.Sublist b.ah) (hg:gs.Sublist b.au):fG ⟨b.name,b.valid,b.next,b.seq,ms,gs,b.lost⟩ :=
 ⟨h.1,Nat.le_trans hm.length_le h.2.1,fun m hx=>h.2.2.1 m (hm.subset hx),Nat.le_trans hg.length_le h.2.2.2⟩
theorem acC {a:aJ} {c:iC} (h:qC a):lW (dz a c).2:=by
 unfold dz
 split
 ·unfold qx
  repeat' split
  all_goals exact lW.code _ _
 split
 ·refine ⟨⟨by simp [jQ],by simp [jQ],by simp [jQ],by simp [jQ]⟩,by simpa using h.1,fun n hn=>?_⟩
  obtain ⟨x,hx,rfl⟩:=List.mem_map.1 hn
  exact (h.2 x hx).1
 split
 ·exact lW.code _ _
 split
 ·exact lW.code _ _
 rename_i k _ b hk
 have hb:=h.2 b (List.mem_of_getElem? hk)
 split
 ·exact lW.code _ _
 split
 ·split <;> exact lW.code _ _
 split
 ·exact acA
 split
 ·unfold iD
  repeat' split
  all_goals exact lW.code _ _
 split
 ·exact acB
 split
 ·unfold ni
  split
  ·exact ⟨⟨by simp [jQ],by simp [jQ],by simp [jQ],by simp [jQ]⟩,by simp,by simp⟩
  ·exact ⟨hb.part List.filter_sublist List.filter_sublist,by simp,by simp⟩
 split
 ·exact ⟨hb.part (List.nil_sublist _) (List.nil_sublist _),by simp,by simp⟩
 split
 ·exact lW.code _ _
 ·exact ⟨hb.part ((List.take_sublist _ _).trans (List.drop_sublist _ _)) (List.nil_sublist _),by simp,by simp⟩
theorem acD (a:aJ) (c:iC):(dz a c).1.seen=a.seen:=by
 unfold dz qx lN
 repeat' split
 all_goals first
  | rfl
  | (
   simp only;repeat' split
   all_goals rfl)
theorem LJ {α:Type} {f:α→Nat} {B:Nat}:∀ {l:List α},(∀ x ∈ l,f x≤B)→(l.map f).sum≤B * l.length
 | [],_=>by simp
 | x :: l,h=>by
  have h1:=LJ fun y hy=>h y (List.mem_cons_of_mem _ hy)
  have h2:=h x (by simp)
  simp only [List.map_cons,List.sum_cons,List.length_cons,Nat.mul_add]
  omega
theorem fG.TQ {x:aD} (h:fG x):x.name.length≤6∧dG x.ah≤400∧x.au.length≤40:=by
 have:=QD h.2.2.1
 have:=h.2.1
 exact ⟨h.1,by omega,h.2.2.2⟩
theorem acE (a:aJ) (c:iC):(jf (aH a c).1.boxes≤2000000∧(aH a c).1.seen.length≤2000000)∧(aH a c).2.box.name.length≤2000000∧dG (aH a c).2.box.ah≤2000000∧(aH a c).2.box.au.length≤2000000∧oM (aH a c).2.names≤2000000:=by
 unfold aH
 split
 ·rename_i h
  simp only [Bool.and_eq_true] at h
  obtain ⟨-,-,hI,-,-⟩:=Ll h.1
  obtain ⟨-,c1,c2⟩:=SL h.2
  have i1:=J7 (c:=c) hI c1 c2
  have i2:=acC (c:=c) hI
  refine ⟨⟨?_,?_⟩,?_⟩
  ·have:=i1.1
   have:=LJ (f:=fun b=>bA b+1) (B:=500) fun x hx=>by have:=(i1.2 x hx).TQ;show bA x+1≤500;unfold bA;omega
   show ((dz a c).1.boxes.map fun b=>bA b+1).sum≤_
   omega
  ·have hs:a.seen.length≤60:=by have:=h.1;simp only [jg,qd,Bool.and_eq_true,decide_eq_true_eq] at this;exact this.2.2.1.1
   rw [acD];omega
  ·have:=i2.1.TQ
   have:=LJ (f:=fun m:List Int=>m.length+1) (B:=7) fun x hx=>by have:=i2.2.2 x hx;show x.length+1≤7;omega
   have:=i2.2.1
   refine ⟨by omega,by omega,by omega,?_⟩
   show ((dz a c).2.names.map fun m=>m.length+1).sum≤_
   omega
 ·exact ⟨⟨by decide,by decide⟩,by decide,by decide,by decide,by decide⟩
/- Rows of rows ([][]byte): what one reads as, one of the call's own, its rows apart from each other. -/
/-- The sum of the first sizes. -/
def pre (m:Nat→Nat):Nat→Nat
 | 0=>0
 | j+1=>pre m j+m j
theorem acF (m:Nat→Nat) {i j:Nat} (h:i≤j):pre m i≤pre m j:=by
 induction j with
 | zero=>simp at h;subst h;exact Nat.le_refl _
 | succ j ih =>
  by_cases hj:i=j+1
  ·subst hj;exact Nat.le_refl _
  ·have:=ih (by omega);simp only [pre];omega
theorem acG {m m':Nat→Nat} {n:Nat} (h:∀ i,i < n→m i=m' i):pre m n=pre m' n:=by
 induction n with
 | zero=>rfl
 | succ n ih=>simp only [pre];rw [ih (fun i hi=>h i (by omega)),h n (by omega)]
/-- The slice value v reads as n rows of bytes: the i-th is f i. -/
def xw (w:World) (v:Value) (n:Nat) (f:Nat→List Int):Prop :=
 ∃ a cap,∃ us:Nat→Value,v=.slice a n cap∧n≤cap∧cap≤maxLen ∧
  (0 < n→∃ b off,a=some ⟨b,off,none⟩∧b < w.heap.size∧∀ i,i < n→w.cell? ⟨b,off+i,none⟩=some (us i))∧∀ i,i < n→Bs w (us i) (f i)
theorem xw.below {w w':World} {v:Value} {n:Nat} {f:Nat→List Int} (h:xw w v n f) (hb:Below w.heap.size w w'):xw w' v n f:=by
 obtain ⟨a,cap,us,hv,h1,h2,h3,h4⟩:=h
 refine ⟨a,cap,us,hv,h1,h2,fun hp=>?_,fun i hi=>(h4 i hi).below hb⟩
 obtain ⟨b,off,ha,hlt,hc⟩:=h3 hp
 exact ⟨b,off,ha,Nat.lt_of_lt_of_le hlt hb.size,fun i hi=>(hb.cell (p:=⟨b,off+i,none⟩) hlt).trans (hc i hi)⟩
theorem xw.aG {w:World} {v:Value} {n:Nat} {f:Nat→List Int} (h:xw w v n f):∃ a m cap,v=.slice a m cap:=by obtain ⟨a,cap,_,h,_⟩:=h;exact ⟨a,_,cap,h⟩
theorem xw.congr {w:World} {v:Value} {n:Nat} {f g:Nat→List Int} (h:xw w v n f) (e:∀ i,i < n→f i=g i):xw w v n g:=by
 obtain ⟨a,cap,us,hv,h1,h2,h3,h4⟩:=h
 exact ⟨a,cap,us,hv,h1,h2,h3,fun i hi=>by rw [← e i hi];exact h4 i hi⟩
/-- The row of rows v with the slices us is the call's own, in blocks from B on and below T, no two in one; the i-th row's bytes are f i. -/
structure kY (w:World) (B T:Nat) (v:Value) (us:List Value) (f:Nat→List Int):Prop where
 row:w.ownsRow B 26 1 v us.length us
 top:∀ g,v.ownBlock=some g→g < T
 rows:∀ (i:Nat) (u:Value),us[i]?=some u→Row w B T u (f i)
 distinct:∀ (i j:Nat) (u u':Value) (g:Nat),us[i]?=some u→us[j]?=some u'→u.ownBlock=some g→u'.ownBlock=some g→i=j
/-- The rows of a list. -/
def rJ (w:World) (B T:Nat) (v:Value) (ls:List (List Int)):Prop:=∃ us:List Value,us.length=ls.length∧kY w B T v us (fun i=>ls.getD i [])
theorem Row.heap {w:World} {B T g:Nat} {v:Value} {l:List Int} (h:Row w B T v l) (hg:v.ownBlock=some g):∃ cur,w.heap[g]?=some (.cells cur 5 (0,0)):=by
 rcases h.2.1.2 with ⟨hn,_⟩ | ⟨k,cap,cur,hv,_,hh,_⟩
 ·rw [hn] at hg;simp [Value.ownBlock] at hg
 ·rw [hv] at hg;simp [Value.ownBlock] at hg;subst hg;exact ⟨cur,hh⟩
theorem ownsRow_below {w w':World} {B n:Nat} {e:TypeId} {v:Value} {xs:List Value} (h:w.ownsRow B e 1 v n xs) (hb:Below w.heap.size w w'):w'.ownsRow B e 1 v n xs:=by
 refine ⟨h.1,?_⟩
 rcases h.2 with hn | ⟨g,cap,cur,hv,hg,hh,r⟩
 ·exact .inl hn
 ·exact .inr ⟨g,cap,cur,hv,hg,(hb.block g (lt_of_heap hh)).trans hh,r⟩
theorem acH {w w':World} {B T B' T' n:Nat} {e:TypeId} {v:Value} {xs:List Value} (h:w.ownsRow B e 1 v n xs) (ht:∀ g,v.ownBlock=some g→g < T) (hw:Within B' T' w w') (hd:T≤B'∨T'≤B):w'.ownsRow B e 1 v n xs:=by
 refine ⟨h.1,?_⟩
 rcases h.2 with hn | ⟨g,cap,cur,hv,hg,hh,r⟩
 ·exact .inl hn
 ·have hlt:g < T:=ht g (by rw [hv];rfl)
  exact .inr ⟨g,cap,cur,hv,hg,(hw.block g (lt_of_heap hh) (by omega)).trans hh,r⟩
theorem acI {w:World} {B B' n:Nat} {e:TypeId} {v:Value} {xs:List Value} (h:w.ownsRow B e 1 v n xs) (hB:B'≤B):w.ownsRow B' e 1 v n xs:=by
 refine ⟨h.1,?_⟩
 rcases h.2 with hn | ⟨g,cap,cur,hv,hg,r⟩
 ·exact .inl hn
 ·exact .inr ⟨g,cap,cur,hv,Nat.le_trans hB hg,r⟩
theorem kY.below {w w':World} {B T:Nat} {v:Value} {us:List Value} {f:Nat→List Int} (h:kY w B T v us f) (hb:Below w.heap.size w w'):kY w' B T v us f :=
 ⟨ownsRow_below h.row hb,h.top,fun i u hu=>(h.rows i u hu).below hb,h.distinct⟩
theorem kY.gZ {w w':World} {B T B' T':Nat} {v:Value} {us:List Value} {f:Nat→List Int} (h:kY w B T v us f) (hw:Within B' T' w w') (hd:T≤B'∨T'≤B):kY w' B T v us f :=
 ⟨acH h.row h.top hw hd,h.top,fun i u hu=>(h.rows i u hu).gZ hw hd,h.distinct⟩
theorem kY.wide {w:World} {B T B' T':Nat} {v:Value} {us:List Value} {f:Nat→List Int} (h:kY w B T v us f) (hB:B'≤B) (hT:T≤T'):kY w B' T' v us f :=
 ⟨acI h.row hB,fun g hg=>Nat.lt_of_lt_of_le (h.top g hg) hT,fun i u hu=>(h.rows i u hu).wide hB hT,h.distinct⟩
theorem kY.congr {w:World} {B T:Nat} {v:Value} {us:List Value} {f g:Nat→List Int} (h:kY w B T v us f) (e:∀ i,i < us.length→f i=g i):kY w B T v us g :=
 ⟨h.row,h.top,fun i u hu=>by rw [← e i (gs1 hu).1];exact h.rows i u hu,h.distinct⟩
theorem kY.nil (w:World) (B T:Nat) (f:Nat→List Int):kY w B T (.slice none 0 0) [] f :=
 ⟨World.ownsRow_nil _ _ _ _,fun g hg=>by simp [Value.ownBlock] at hg,fun i u hu=>by simp at hu,fun i j u u' g hu=>by simp at hu⟩
/-- What was written lies within the rows' blocks. -/
theorem kY.within {w w':World} {B T i:Nat} {v u:Value} {us:List Value} {f:Nat→List Int} (h:kY w B T v us f) (hu:us[i]?=some u) (hg:w.grownBy w' u.ownBlock):Within B T w w':=(h.rows i u hu).within hg
theorem rJ.below {w w':World} {B T:Nat} {v:Value} {ls:List (List Int)} (h:rJ w B T v ls) (hb:Below w.heap.size w w'):rJ w' B T v ls:=let ⟨us,e,h⟩:=h;⟨us,e,h.below hb⟩
theorem rJ.gZ {w w':World} {B T B' T':Nat} {v:Value} {ls:List (List Int)} (h:rJ w B T v ls) (hw:Within B' T' w w') (hd:T≤B'∨T'≤B):rJ w' B T v ls:=let ⟨us,e,h⟩:=h;⟨us,e,h.gZ hw hd⟩
theorem rJ.wide {w:World} {B T B' T':Nat} {v:Value} {ls:List (List Int)} (h:rJ w B T v ls) (hB:B'≤B) (hT:T≤T'):rJ w B' T' v ls:=let ⟨us,e,h⟩:=h;⟨us,e,h.wide hB hT⟩
theorem rJ.nil (w:World) (B T:Nat):rJ w B T (.slice none 0 0) []:=⟨[],rfl,kY.nil _ _ _ _⟩
/- What is written into data of the call's own: the world apart from it, and the data as they are then. -/
/-- Apart from the blocks of S the world w' has all that w had. -/
structure Wr (S:Nat→Prop) (w w':World):Prop where
 os:w'.os=w.os
 tape:w'.tape=w.tape
 output:w'.output=w.output
 size:w.heap.size≤w'.heap.size
 block:∀ k,k < w.heap.size→¬ S k→w'.heap[k]?=w.heap[k]?
theorem Wr.refl (S:Nat→Prop) (w:World):Wr S w w:=⟨rfl,rfl,rfl,Nat.le_refl _,fun _ _ _=>rfl⟩
theorem Wr.trans {S:Nat→Prop} {a b c:World} (h:Wr S a b) (k:Wr S b c):Wr S a c :=
 ⟨k.os.trans h.os,k.tape.trans h.tape,k.output.trans h.output,Nat.le_trans h.size k.size,fun i hi hn=>(k.block i (Nat.lt_of_lt_of_le hi h.size) hn).trans (h.block i hi hn)⟩
theorem Wr.mono {S S':Nat→Prop} {a b:World} (h:Wr S a b) (hS:∀ x,S x→S' x):Wr S' a b:=⟨h.os,h.tape,h.output,h.size,fun i hi hn=>h.block i hi fun hs=>hn (hS i hs)⟩
theorem Wr.within {B T:Nat} {a b:World} (h:Wr (In B T) a b):Within B T a b:=⟨h.os,h.tape,h.output,h.size,fun i hi hn=>h.block i hi hn⟩
theorem Wr.below {B:Nat} {S:Nat→Prop} {w0 a b:World} (h:Wr S a b) (h0:Below B w0 a) (hS:∀ x,S x→B≤x) (hB:B≤a.heap.size):Below B w0 b :=
 ⟨h.os.trans h0.os,h.tape.trans h0.tape,h.output.trans h0.output,Nat.le_trans h0.size h.size,fun k hk=>(h.block k (Nat.lt_of_lt_of_le hk hB) fun hs=>by have:=hS k hs;omega).trans (h0.block k hk)⟩
theorem Wr.of_below {S:Nat→Prop} {a b:World} (h:Below a.heap.size a b):Wr S a b:=⟨h.os,h.tape,h.output,h.size,fun k hk _=>h.block k hk⟩
theorem Wr.put {S:Nat→Prop} {w:World} {g:Nat} (hg:S g) (o:Nat) (c:List Value) (t:TypeId) (cur:Array Value) (h:w.heap[g]?=some (.cells cur t (0,0))) (hs:o+c.length≤cur.size):Wr S w (put w g o c):=by
 obtain ⟨cur',_,_,_,_,hw⟩:=uy g t c w o cur h hs
 refine ⟨hw.os,hw.tape,hw.output,hw.size,fun k hk hn=>hw.block k hk fun ⟨h1,h2⟩=>?_⟩
 obtain rfl:k=g:=by omega
 exact hn hg
theorem He (S:Nat→Prop) (v:Value) (l:List Int) (k:Int) (w:World) (hv:RO w S v l) (hl:l.length≤2000000) (hk0:0≤k) (hk1:k≤1000000000000) :
  Calls Tryz.prog 40 #[v,.int .i64 k] w fun e w'=>e=.returned (.int .i64 (k+l.length))∧RO w' S v (marks k l.length)∧Wr S w w':=by
 refine (FM 0 w.heap.size v l k w ⟨hv.1,hv.2.1,fun g hg=>(hv.2.1.lt g hg).2⟩ hl hk0 hk1).mono ?_
 rintro e w' ⟨rfl,r,hg⟩
 exact ⟨rfl,⟨r.1,r.2.1,hv.2.2⟩,⟨hg.os,hg.tape,hg.output,hg.size,fun b hb hn=>hg.block b hb fun e=>hn (hv.2.2 b e.symm)⟩⟩
/-- Lists, marked one element behind the other: each takes as many marks as it has places. -/
def bJ {α:Type} (z:α) (wt:α→Nat) (l:List α) (i:Nat):Nat:=wt (l.getD i z)
def u6 {α:Type} (z:α) (mk:α→Int→α) (wt:α→Nat) (k:Int) (l:List α):List α:=(List.range l.length).map fun i=>mk (l.getD i z) (k+(pre (bJ z wt l) i:Nat))
section
variable {α : Type} {z : α} {mk : α → Int → α} {wt : α → Nat} {k : Int} {l : List α}
theorem tN:(u6 z mk wt k l).length=l.length:=by simp [u6]
theorem tO {i:Nat} {x:α} (h:l[i]?=some x):(u6 z mk wt k l)[i]?=some (mk x (k+(pre (bJ z wt l) i:Nat))):=by
 have hi:i < l.length:=(gs1 h).1
 have hg:l.getD i z=x:=by rw [List.getD_eq_getElem?_getD,h];rfl
 simp only [u6,List.getElem?_map,List.getElem?_range hi,Option.map_some,hg]
theorem acJ {i:Nat} {x:α} (h:l[i]?=some x):bJ z wt l i=wt x:=by
 simp [bJ,List.getD_eq_getElem?_getD,h]
theorem tQ {i:Nat} {x:α} (h:l[i]?=some x):pre (bJ z wt l) (i+1)=pre (bJ z wt l) i+wt x:=by
 show pre (bJ z wt l) i+bJ z wt l i=_
 rw [acJ h]
theorem tT {i:Nat} (h:i≤l.length):pre (bJ z wt l) i≤pre (bJ z wt l) l.length:=acF _ h
end
theorem acK (m:Nat→Nat) (n:Nat):pre m (n+1)=m 0+pre (fun i=>m (i+1)) n:=by
 induction n with
 | zero=>simp [pre]
 | succ n ih=>rw [pre,ih];simp only [pre];omega
theorem Dv {α:Type} (z:α) (wt:α→Nat) (l:List α):pre (bJ z wt l) l.length=(l.map wt).sum:=by
 induction l with
 | nil=>rfl
 | cons x l ih =>
  rw [List.length_cons,acK]
  have:pre (fun i=>bJ z wt (x :: l) (i+1)) l.length=pre (bJ z wt l) l.length:=acG fun i _=>by simp [bJ]
  rw [this,ih]
  simp [bJ]
theorem TR {α:Type} (f g:α→Nat) (c:Nat) (l:List α) (h:∀ x,x ∈ l→f x≤c * g x):(l.map f).sum≤c * (l.map g).sum:=by
 induction l with
 | nil=>simp
 | cons x l ih =>
  have h1:=h x (by simp)
  have h2:=ih fun y hy=>h y (by simp [hy])
  simp only [List.map_cons,List.sum_cons,Nat.mul_add]
  omega
/-- The first i of a, the rest of b. -/
def mix {α:Type} (a b:List α) (i:Nat):List α:=a.take i ++ b.drop i
section
variable {α : Type} {a b : List α} {i : Nat}
theorem Dw:mix a b 0=b:=by simp [mix]
theorem Dx (h:a.length=b.length):mix a b b.length=a:=by simp [mix,← h]
theorem Dy (h:a.length=b.length) (hi:i < b.length):(mix a b i)[i]?=b[i]?:=by
 have hl:(a.take i).length=i:=by rw [List.length_take];omega
 rw [mix,List.getElem?_append_right (by omega),hl]
 simp
theorem Dz (h:a.length=b.length) {x:α} (hx:a[i]?=some x):(mix a b i).set i x=mix a b (i+1):=by
 have hi:i < a.length:=(gs1 hx).1
 have hv:a[i]=x:=(gs1 hx).2
 have hl:(a.take i).length=i:=by rw [List.length_take];omega
 rw [mix,List.set_append_right _ _ (by omega),hl,Nat.sub_self,mix,List.take_succ_eq_append_getElem hi,hv,List.append_assoc]
 congr 1
 rw [List.drop_eq_getElem_cons (show i < b.length by omega)]
 rfl
end
def om:aF:=⟨0,0,0,[]⟩
def oo:bf:=⟨0,0⟩
def oq:aD:=⟨[],0,0,0,[],[],0⟩
def nJ (_:Int):Nat:=1
def mkInt (_:Int) (p:Int):Int:=p
def nK (_:bf):Nat:=2
def zf (_:bf) (p:Int):bf:=⟨p,p+1⟩
def nL (m:aF):Nat:=3+m.text.length
def vg (m:aF) (p:Int):aF:=⟨p,p+1,p+2,marks (p+3) m.text.length⟩
def ou (l:List Int):Nat:=pre (bJ 0 nJ l) l.length
def fZ (l:List bf):Nat:=pre (bJ oo nK l) l.length
def dL (l:List aF):Nat:=pre (bJ om nL l) l.length
def pK (k:Int) (l:List bf):List bf:=u6 oo zf nK k l
def mF (k:Int) (l:List aF):List aF:=u6 om vg nL k l
def xA (k:Int) (l:List Int):List Int:=u6 0 mkInt nJ k l
def jV (b:aD):Nat:=b.name.length+3+dL b.ah+fZ b.au+1
def tV (b:aD) (p:Int):aD :=
 ⟨marks p b.name.length,p+b.name.length,p+b.name.length+1,p+b.name.length+2,mF (p+b.name.length+3) b.ah,pK (p+b.name.length+3+dL b.ah) b.au,p+b.name.length+3+dL b.ah+fZ b.au⟩
def kF (l:List aD):Nat:=pre (bJ oq jV l) l.length
def qL (k:Int) (l:List aD):List aD:=u6 oq tV jV k l
theorem DC (l:List Int):ou l=l.length:=by
 rw [ou,Dv]
 induction l with
 | nil=>rfl
 | cons x l ih=>simp only [List.map_cons,List.sum_cons,ih,nJ,List.length_cons];omega
theorem Aq (l:List bf):fZ l=2 * l.length:=by
 rw [fZ,Dv]
 induction l with
 | nil=>rfl
 | cons x l ih=>simp only [List.map_cons,List.sum_cons,ih,nK,List.length_cons];omega
theorem zh (l:List aF):dL l≤3 * dG l:=by
 rw [dL,Dv,dG]
 exact TR _ _ 3 l fun x _=>by simp only [nL];omega
theorem acL (b:aD):jV b≤4 * (bA b+1):=by
 have h1:=zh b.ah
 have h2:=Aq b.au
 simp only [jV,bA]
 omega
theorem Ar (l:List aD):kF l≤4 * jf l:=by
 rw [kF,Dv,jf]
 exact TR _ _ 4 l fun x _=>acL x
/- Rows, commands, SK of the call's own stay while their blocks do. -/
section
variable {w w' : World} {B T : Nat} {v : Value}
theorem Row.frame {l:List Int} (h:Row w B T v l) (hw:∀ b,B≤b→b < T→b < w.heap.size→w'.heap[b]?=w.heap[b]?):Row w' B T v l:=by
 refine ⟨h.1,⟨h.2.1.1,?_⟩,h.2.2⟩
 rcases h.2.1.2 with hn | ⟨g,cap,cur,hv,hg,hh,r⟩
 ·exact .inl hn
 ·have hlt:g < T:=h.2.2 g (by rw [hv];rfl)
  exact .inr ⟨g,cap,cur,hv,hg,(hw g hg hlt (lt_of_heap hh)).trans hh,r⟩
theorem iN.frame {k:Int} {bx tt:List Int} {uid mode fl si:Int} {tx:List Int} (h:iN w B T v k bx tt uid mode fl si tx) (hw:∀ b,B≤b→b < T→b < w.heap.size→w'.heap[b]?=w.heap[b]?):iN w' B T v k bx tt uid mode fl si tx :=
 let ⟨u0,u1,u2,T0,T1,hv,h0,h1,h2,r0,r1,r2,r⟩:=h;⟨u0,u1,u2,T0,T1,hv,h0.frame fun b q0 q1 q2=>hw b q0 (by omega) q2,h1.frame fun b q0 q1 q2=>hw b (by omega) (by omega) q2,h2.frame fun b q0 q1 q2=>hw b (by omega) q1 q2,r0,r1,r2,r⟩
theorem dD.frame {y:cO} (h:dD w B T v y) (hw:∀ b,B≤b→b < T→b < w.heap.size→w'.heap[b]?=w.heap[b]?):dD w' B T v y :=
 let ⟨u0,u1,u2,u3,T0,h0,h1,h2,j0,j1,i⟩:=h
 ⟨u0,u1,u2,u3,T0,h0,gq _ _ _ _ _ h1 fun b hb hlt=>hw b hb.1 (by have:=hb.2;omega) hlt,h2.frame kL fun b hb hlt=>hw b (by have:=hb.1;omega) hb.2 hlt,j0,j1,i⟩
theorem dD.set {y:cO} {g i:Nat} {x:Value} (h:dD w B T v y) (hd:g < B∨T≤g):dD (w.setCell ⟨g,i,none⟩ x) B T v y :=
 h.frame fun b q0 q1 _=>Below.heap_setCell _ _ _ _ (by show b≠g;omega)
end
/- A command that is read wherever the bytes stay. -/
/-- A text that is read wherever the bytes stay. -/
def qM (w:World) (v:Value) (l:List Int):Prop:=∀ w':World,w.heap.size≤w'.heap.size→bT w w' 5→Bs w' v l
theorem qM.bs {w:World} {v:Value} {l:List Int} (h:qM w v l):Bs w v l:=h w (Nat.le_refl _) (bT.refl _ _)
theorem qM.on {w w':World} {v:Value} {l:List Int} (h:qM w v l) (hs:w.heap.size≤w'.heap.size) (ht:bT w w' 5):qM w' v l:=fun w'' hs' ht'=>h w'' (Nat.le_trans hs hs') (ht.trans ht')
theorem qM.below {w w':World} {v:Value} {l:List Int} (h:qM w v l) (hb:Below w.heap.size w w'):qM w' v l:=h.on hb.size (gG hb)
/-- A command that is read wherever the bytes stay. -/
def tX (w:World) (v:Value) (c:iC):Prop :=
 ∃ u0 u1 u2,v=.agg #[.int .i64 c.k,u0,u1,.int .i64 c.uid,.int .i64 c.mode,.int .i64 c.fl,.int .i64 c.si,u2]∧qM w u0 c.bx∧qM w u1 c.tt∧qM w u2 c.tx∧aB c.k∧aB c.uid∧aB c.mode∧aB c.fl∧aB c.si
theorem tX.on {w w':World} {v:Value} {c:iC} (h:tX w v c) (hs:w.heap.size≤w'.heap.size) (ht:bT w w' 5):tX w' v c :=
 let ⟨u0,u1,u2,e,h0,h1,h2,r⟩:=h;⟨u0,u1,u2,e,h0.on hs ht,h1.on hs ht,h2.on hs ht,r⟩
theorem tX.below {w w':World} {v:Value} {c:iC} (h:tX w v c) (hb:Below w.heap.size w w'):tX w' v c:=h.on hb.size (gG hb)
/- What the law of Do holds of accounts and SK that lie in variables. -/
/-- A row's load is taken first. -/
theorem Hf {P:Program} {md:Region.Mode} {ops:Array Oper} {Q:Exit→Act→World→Prop} {S:World→Prop} (i d:Nat) {oi:Oper} (ty:TypeId) (x:Operand) (b o:Nat) (vs:List Value) {dd:TypeDesc} {fuel:Nat} {listed:Array Bool} {a a':Act} {w:World}
  (hS:S w) (hc:∀ w,S w→w.rangeAt b o vs) (hu:P.underlying ty=some dd) (h:wpAnyH P md ops Q S fuel (listed.setIfInBounds i true) a' w)
  (hi:ops[i]?=some oi:=by rfl) (ho:oi.op=.load ty x:=by rfl) (hx:a.eval x=.pointer (some ⟨b,o,none⟩):=by rfl) (hd:dd.isRow=true:=by rfl) (hz:(P.info? ty).map (·.size)=some vs.length:=by kernel_rfl)
  (hr:(Region.noSelect ops && (Region.free md ops listed i && (Region.ready md ops listed).contains i))=true:=by decide +kernel)
  (hg:(oi.dst == some d && Region.wanted oi (yielded ops a.tmps))=true:=by kernel_rfl)
  (ha:a.put (some d) (.agg vs.toArray)=a':=by (conv=>lhs;simp only [Act.put,sA,s0,sS]))
  (hQ:∀ c a w,Q (.panic c) (a.put (some d) (.agg vs.toArray)) w→Q (.panic c) a w:=by exact fun _ _ _ h=>h):wpAnyH P md ops Q S (fuel+1) listed a w:=by
 simp only [Bool.and_eq_true,beq_iff_eq] at hg hr
 exact wpAnyH_take hi hr.1 hr.2.1 hr.2.2 (by rw [hg.1];exact hQ) (yieldsIf_load_mid hg.2 ty x ho b o hx vs dd hc hu hd hz) hS (by rw [hg.1,ha];exact h)
section
variable {w w' W xc x y : World} {B T b6 b7 : Nat} {u v v1 v2 z0 z1 z2 d0 d1 d2 d3 d4 d5 d6 d7 d8 d9 : Value} {l : List Int} {r : aJ × cO} {a : aJ} {c : iC}
theorem Row.stay (h:Row w B T v l):qM w v l:=fun w' hs ht=>by
 refine Row.bs (B:=B) (T:=T) ⟨h.1,⟨h.2.1.1,?_⟩,h.2.2⟩
 rcases h.2.1.2 with hn | ⟨g,cap,cur,hv,hg,hh,r⟩
 ·exact .inl hn
 ·exact .inr ⟨g,cap,cur,hv,hg,(ht g ⟨_,_,hh⟩).trans hh,r⟩
/-- A command, as its parts. -/
def Au (w:World) (B T:Nat) (v:Value) (c:iC):Prop:=iN w B T v c.k c.bx c.tt c.uid c.mode c.fl c.si c.tx
theorem Au.cs (h:Au w B T v c):tX w v c :=
 let ⟨u0,u1,u2,_,_,e,g0,g1,g2,_,_,_,i⟩:=h;⟨u0,u1,u2,e,g0.stay,g1.stay,g2.stay,i⟩
theorem dM.form' (h:dM w v a):∃ p0 k0 p1 k1,v=.agg #[.int .i64 a.valid,.slice p0 a.boxes.length k0,.slice p1 a.seen.length k1]:=by
 obtain ⟨u0,u1,rfl,g0,g1,-⟩:=h
 obtain ⟨p0,k0,rfl,-⟩:=g0.form
 obtain ⟨p1,k1,rfl,-⟩:=g1.form
 exact ⟨_,_,_,_,rfl⟩
theorem Kept.refl (w w':World):Kept w w' w':=⟨Nat.le_refl _,fun _ _ _=>rfl,fun _ _ _ _ _=>rfl⟩
theorem Dn.kept (h:Dn w w' v1 v2 r) (hk:Kept w w' W):dM W v1 r.1∧iO W v2 r.2:=by
 obtain ⟨bv,sv,T1,T2,rfl,hI,hR,hB,t1,t2,t3,hi⟩:=h
 have hf:=hk.2.1
 exact ⟨⟨_,_,rfl,(hB.frame gq fun b hb hl=>hf b (by have:=hb.1;omega) hl).rd fun _ _ _ _=>dh.rd,(hI.frame oH fun b hb hl=>hf b hb.1 hl).rd fun _ _ _ _ h=>h,hi⟩,(hR.frame fun b h1 h2 hl=>hf b (by omega) hl).rv⟩
theorem Dn.own (h:Dn w w' v1 v2 r):∃ T1 T2,jY w' (fun k=>In w.heap.size T1 k∨In T2 w'.heap.size k) v1 r.1∧dD w' T1 T2 v2 r.2∧w.heap.size≤T1∧T1≤T2∧T2≤w'.heap.size:=by
 obtain ⟨bv,sv,T1,T2,rfl,hI,hR,hB,t1,t2,t3,hi⟩:=h
 exact ⟨T1,T2,⟨bv,sv,_,_,rfl,hB,hI,fun k hk=>⟨.inr hk,fun h=>by have:=hk.1;have:=h.2;omega⟩,fun k hk=>.inl hk,hi⟩,hR,t1,t2,t3⟩
theorem acM (w:World) (av cv:Value) (a:aJ) (c:iC) (hv:dM w av a) (hc:ig w cv c.k c.bx c.tt c.uid c.mode c.fl c.si c.tx) (hs:a.seen.length≤2000000) :
  Calls Tryz.prog 9 #[av,cv] w fun e w'=>∃ v1 v2,e=.returned (.tuple #[v1,v2])∧(∀ W',Kept w w' W'→dM W' v1 (aH a c).1∧iO W' v2 (aH a c).2)∧Below w.heap.size w w' :=
 (TA w av cv a c hv hc hs).mono fun _ _ ⟨v1,v2,e,h,hb⟩=>⟨v1,v2,e,fun _ hk=>h.kept hk,hb⟩
/-- An account and a reply lie in two variables. -/
def DI (w W:World) (s6 s7:Value) (r:aJ × cO):Prop:=∃ (b6 b7:Nat) (p0 p1 a0 a1 a2 a3:Option Addr) (k0 k1 m0 j0 j1 j2 j3:Nat),s6=.pointer (some ⟨b6,0,none⟩)∧s7=.pointer (some ⟨b7,0,none⟩)∧Hid (W.heap[b6]?=some (.cells #[.int .i64 r.1.valid,.slice p0 r.1.boxes.length k0,.slice p1 r.1.seen.length k1] 33 (0,0)))∧Hid (W.heap[b7]?=some (.cells #[.int .i64 r.2.code,.int .i64 r.2.num,.slice a0 m0 j0,.int .i64 r.2.box.valid,.int .i64 r.2.box.next,.int .i64 r.2.box.seq,.slice a1 r.2.box.ah.length j1,.slice a2 r.2.box.au.length j2,.int .i64 r.2.box.lost,.slice a3 r.2.names.length j3] 40 (0,0)))∧Hid (dM W (.agg #[.int .i64 r.1.valid,.slice p0 r.1.boxes.length k0,.slice p1 r.1.seen.length k1]) r.1)∧Hid (iO W (.agg #[.int .i64 r.2.code,.int .i64 r.2.num,.slice a0 m0 j0,.int .i64 r.2.box.valid,.int .i64 r.2.box.next,.int .i64 r.2.box.seq,.slice a1 r.2.box.ah.length j1,.slice a2 r.2.box.au.length j2,.int .i64 r.2.box.lost,.slice a3 r.2.names.length j3]) r.2)∧Hid (Below w.heap.size w W)
theorem acN {w:World} {r:Nat} {d0 d1 d2 d3 d4 d5 d6 d7 d8 d9:Value} (hr:w.heap[r]?=some (.cells #[d0,d1,d2,d3,d4,d5,d6,d7,d8,d9] 40 (0,0))) (c0 c1 c2 c3 c4 c5 c6 c7 c8 c9:Value) :
 (iE w r c0 c1 c2 c3 c4 c5 c6 c7 c8 c9).heap[r]?=some (.cells #[c0,c1,c2,c3,c4,c5,c6,c7,c8,c9] 40 (0,0))∧(iE w r c0 c1 c2 c3 c4 c5 c6 c7 c8 c9).heap.size=w.heap.size∧((iE w r c0 c1 c2 c3 c4 c5 c6 c7 c8 c9).os=w.os∧(iE w r c0 c1 c2 c3 c4 c5 c6 c7 c8 c9).tape=w.tape∧(iE w r c0 c1 c2 c3 c4 c5 c6 c7 c8 c9).output=w.output)∧∀ k,k≠r→(iE w r c0 c1 c2 c3 c4 c5 c6 c7 c8 c9).heap[k]?=w.heap[k]?:=nZ hr c0 c1 c2 c3 c4 c5 c6 c7 c8 c9
theorem acO {p0 p1 a0 a1 a2 a3:Option Addr} {k0 k1' m0 j0 j1 j2 j3:Nat} (R4:∀ W',Kept xc y W'→dM W' (.agg #[.int .i64 r.1.valid,.slice p0 r.1.boxes.length k0,.slice p1 r.1.seen.length k1']) r.1∧iO W' (.agg #[.int .i64 r.2.code,.int .i64 r.2.num,.slice a0 m0 j0,.int .i64 r.2.box.valid,.int .i64 r.2.box.next,.int .i64 r.2.box.seq,.slice a1 r.2.box.ah.length j1,.slice a2 r.2.box.au.length j2,.int .i64 r.2.box.lost,.slice a3 r.2.names.length j3]) r.2) (K4:Below y.heap.size y x) (h6:x.heap[b6]?=some (.cells #[z0,z1,z2] 33 (0,0))) (h7:x.heap[b7]?=some (.cells #[d0,d1,d2,d3,d4,d5,d6,d7,d8,d9] 40 (0,0))) (D:Below w.heap.size w x) (q6:w.heap.size≤b6) (q7:w.heap.size≤b7) (o6:b6 < xc.heap.size∨y.heap.size≤b6) (o7:b7 < xc.heap.size∨y.heap.size≤b7) :
  (jU x b6 (.int .i64 r.1.valid) (.slice p0 r.1.boxes.length k0) (.slice p1 r.1.seen.length k1')).heap[b7]?=some (.cells #[d0,d1,d2,d3,d4,d5,d6,d7,d8,d9] 40 (0,0))∧Below w.heap.size w (iE (jU x b6 (.int .i64 r.1.valid) (.slice p0 r.1.boxes.length k0) (.slice p1 r.1.seen.length k1')) b7 (.int .i64 r.2.code) (.int .i64 r.2.num) (.slice a0 m0 j0) (.int .i64 r.2.box.valid) (.int .i64 r.2.box.next) (.int .i64 r.2.box.seq) (.slice a1 r.2.box.ah.length j1) (.slice a2 r.2.box.au.length j2) (.int .i64 r.2.box.lost) (.slice a3 r.2.names.length j3))∧DI w (iE (jU x b6 (.int .i64 r.1.valid) (.slice p0 r.1.boxes.length k0) (.slice p1 r.1.seen.length k1')) b7 (.int .i64 r.2.code) (.int .i64 r.2.num) (.slice a0 m0 j0) (.int .i64 r.2.box.valid) (.int .i64 r.2.box.next) (.int .i64 r.2.box.seq) (.slice a1 r.2.box.ah.length j1) (.slice a2 r.2.box.au.length j2) (.int .i64 r.2.box.lost) (.slice a3 r.2.names.length j3)) (.pointer (some ⟨b6,0,none⟩)) (.pointer (some ⟨b7,0,none⟩)) r:=by
 have hne:b7≠b6:=fun e=>by subst e;rw [h6] at h7;cases h7
 obtain ⟨g1,g2,g3,g4⟩:=Lm h6 (.int .i64 r.1.valid) (.slice p0 r.1.boxes.length k0) (.slice p1 r.1.seen.length k1')
 have g7:=(g4 b7 hne).trans h7
 have TS:=acN g7 (.int .i64 r.2.code) (.int .i64 r.2.num) (.slice a0 m0 j0) (.int .i64 r.2.box.valid) (.int .i64 r.2.box.next) (.int .i64 r.2.box.seq) (.slice a1 r.2.box.ah.length j1) (.slice a2 r.2.box.au.length j2) (.int .i64 r.2.box.lost) (.slice a3 r.2.names.length j3)
 refine ⟨g7,?_⟩
 generalize iE (jU x b6 (.int .i64 r.1.valid) (.slice p0 r.1.boxes.length k0) (.slice p1 r.1.seen.length k1')) b7 (.int .i64 r.2.code) (.int .i64 r.2.num) (.slice a0 m0 j0) (.int .i64 r.2.box.valid) (.int .i64 r.2.box.next) (.int .i64 r.2.box.seq) (.slice a1 r.2.box.ah.length j1) (.slice a2 r.2.box.au.length j2) (.int .i64 r.2.box.lost) (.slice a3 r.2.names.length j3)=Wf at TS ⊢
 obtain ⟨k1,k2,k3,k4⟩:=TS
 have hD:=qB (qB D g2 g3 g4 q6) k2 k3 k4 q7
 have hK:Kept xc y Wf:=by
  refine ⟨?_,fun k h1 h2=>?_,fun t t1 t2 k ht=>?_⟩
  ·rw [k2,g2];exact K4.size
  ·rw [k4 k (by omega),g4 k (by omega)];exact K4.block k h2
  ·obtain ⟨cs,fz,hh⟩:=ht
   have hx:=(K4.block k (lt_of_heap hh)).trans hh
   have n7:k≠b7:=fun e=>by rw [e,h7] at hx;cases hx;exact t2 rfl
   have n6:k≠b6:=fun e=>by rw [e,h6] at hx;cases hx;exact t1 rfl
   rw [k4 k n7,g4 k n6]
   exact K4.block k (lt_of_heap hh)
 have hR:=R4 _ hK
 exact ⟨hD,b6,b7,p0,p1,a0,a1,a2,a3,k0,k1',m0,j0,j1,j2,j3,rfl,rfl,(k4 b6 hne.symm).trans g1,k1,hR.1,hR.2,hD⟩
end
/- A region that draws its order: one walk an operation, whatever else is done by then, in place of one walk an order. -/
/-- i is done, too. -/
def fK (L:Nat→Bool) (i:Nat):Nat→Bool:=fun j=>cond (Nat.beq j i) true (L j)
def iJ (V:Nat→Value) (i:Nat) (v:Value):Nat→Value:=fun j=>cond (Nat.beq j i) v (V j)
def vk (a:Act) (d:Nat):Value:=(a.tmps.toList.drop d).headD undef
/-- The slots of those that are done are filled. -/
def jy:List (Option Nat)→Nat→(Nat→Bool)→(Nat→Value)→Act→Act
 | [],_,_,_,a=>a
 | none :: ds,k,L,V,a=>jy ds (k+1) L V a
 | some d :: ds,k,L,V,a=>jy ds (k+1) L V (eP a d (cond (L k) (V k) (vk a d)))
theorem zi {L:Nat→Bool} {i j:Nat} (h:j≠i):fK L i j=L j:=by
 unfold fK;rw [show Nat.beq j i=false from Bool.eq_false_iff.2 fun e=>h (Nat.eq_of_beq_eq_true e)];rfl
theorem Hg {L:Nat→Bool} {i:Nat}:fK L i i=true:=by unfold fK;rw [Nat.beq_refl];rfl
theorem LK {V:Nat→Value} {i j:Nat} {v:Value} (h:j≠i):iJ V i v j=V j:=by
 unfold iJ;rw [show Nat.beq j i=false from Bool.eq_false_iff.2 fun e=>h (Nat.eq_of_beq_eq_true e)];rfl
theorem acP {V:Nat→Value} {i:Nat} {v:Value}:iJ V i v i=v:=by unfold iJ;rw [Nat.beq_refl];rfl
def tY (L:Nat→Bool):List Nat→Prop
 | []=>True
 | i :: l=>L i=true∧tY L l
theorem Av {L:Nat→Bool} {l:List Nat}:tY L l↔∀ i ∈ l,L i=true:=by
 induction l with
 | nil=>simp [tY]
 | cons i l ih=>simp [tY,ih]
def TT (o:Oper):List Nat:=(o.after.toList.filter (Region.binds .any)).map (·.on)
def DJ:List Nat→Bool
 | []=>true
 | d :: l=>!l.contains d && DJ l
def Aw (ops:Array Oper) (ds:List (Option Nat)) (ws:List (List Nat)):Bool :=
 (ops.toList.map (·.dst) == ds) && (DJ (ds.filterMap id) && ((ws.length == ds.length) && (List.range ops.size).all fun i=>match ops[i]?,ws[i]? with
  | some o,some l=>(TT o).all (fun j=>Nat.blt j i) && l.all (TT o).contains
  | _,_=>false))
structure LM (ops:Array Oper) (ds:List (Option Nat)) (ws:List (List Nat)):Prop where
 out:Aw ops ds ws=true
theorem TU {ops:Array Oper} {ds:List (Option Nat)} {ws:List (List Nat)} {c:Option Code} {id:Nat} (h:c.bind (bQ id)=some ops) (T:(c.bind (bQ id)).all (fun o=>Aw o ds ws)=true):LM ops ds ws:=by
 rw [h] at T;exact ⟨by simpa using T⟩
theorem acQ (a:Act) (d:Nat) (x v:Value):(eP a d x).put (some d) v=eP a d v:=by
 rw [wF];simp [eP,List.set_set]
theorem acR (a:Act) {d e:Nat} (h:d≠e) (x v:Value):(eP a e x).put (some d) v=eP (a.put (some d) v) e x:=by
 rw [wF,wF];simp [eP,List.set_comm _ _ h.symm]
theorem acS (a:Act) {d e:Nat} (h:d≠e) (v:Value):vk (a.put (some d) v) e=vk a e:=by
 rw [wF];simp [vk,eP,List.headD_eq_head?_getD,List.head?_drop,List.getElem?_set_ne h]
theorem Hl {L L':Nat→Bool} {V V':Nat→Value}:∀ (ds:List (Option Nat)) (k:Nat) (a:Act),(∀ j,k≤j→L j=L' j∧V j=V' j)→jy ds k L V a=jy ds k L' V' a
 | [],_,_,_=>rfl
 | none :: ds,k,a,h=>by unfold jy;exact Hl ds _ a fun j hj=>h j (by omega)
 | some d :: ds,k,a,h=>by unfold jy;rw [(h k (Nat.le_refl _)).1,(h k (Nat.le_refl _)).2];exact Hl ds (k+1) _ fun j hj=>h j (by omega)
theorem LP {L:Nat→Bool} {V:Nat→Value} {d:Nat} {v:Value}:∀ (ds:List (Option Nat)) (k:Nat) (a:Act),¬ d ∈ ds.filterMap id→(jy ds k L V a).put (some d) v=jy ds k L V (a.put (some d) v)
 | [],_,_,_=>rfl
 | none :: ds,k,a,h=>by unfold jy;exact LP ds (k+1) a (by simpa using h)
 | some e :: ds,k,a,h=>by
  have h':d≠e∧¬ d ∈ ds.filterMap id:=by simpa [not_or] using h
  unfold jy
  rw [LP ds (k+1) _ h'.2,acR a h'.1,acS a h'.1]
theorem LQ {L:Nat→Bool} {V:Nat→Value} {v:Value} {o:Option Nat} {i:Nat}:∀ (ds:List (Option Nat)) (k:Nat) (a:Act) (j:Nat),i=k+j→ds[j]?=some o→DJ (ds.filterMap id)=true→(jy ds k L V a).put o v=jy ds k (fK L i) (iJ V i v) a
 | [],_,_,_,_,h,_=>by simp at h
 | none :: ds,k,a,0,e,h,_=>by
  simp only [List.getElem?_cons_zero,Option.some.injEq] at h
  subst h e
  unfold jy
  exact Hl ds _ a fun j hj=>⟨(zi (by omega)).symm,(LK (by omega)).symm⟩
 | some d :: ds,k,a,0,e,h,hd=>by
  simp only [List.getElem?_cons_zero,Option.some.injEq] at h
  subst h e
  simp only [List.filterMap_cons,id,DJ,Bool.and_eq_true,Bool.not_eq_true',List.contains_eq_mem,decide_eq_false_iff_not] at hd
  unfold jy
  rw [LP ds _ _ hd.1,acQ,Hg,acP,cond_true]
  exact Hl ds _ _ fun j hj=>⟨(zi (by omega)).symm,(LK (by omega)).symm⟩
 | none :: ds,k,a,j+1,e,h,hd=>by
  unfold jy
  exact LQ (i:=i) ds (k+1) a j (by omega) (by simpa using h) (by simpa using hd)
 | some d :: ds,k,a,j+1,e,h,hd=>by
  simp only [List.filterMap_cons,id,DJ,Bool.and_eq_true] at hd
  unfold jy
  rw [LQ (i:=i) ds (k+1) _ j (by omega) (by simpa using h) hd.2,zi (show k≠i by omega),LK (show k≠i by omega)]
section
variable {P : Program} {ops : Array Oper} {Q : Exit → Act → World → Prop} {F : (Nat → Bool) → (Nat → Value) → World → Prop} {A : (Nat → Bool) → (Nat → Value) → Act} {ds : List (Option Nat)} {ws : List (List Nat)} {a : Act} {w : World}
/-- Those that a done one waits for are done. -/
def Ay (ws:List (List Nat)) (L:Nat→Bool):Prop:=∀ i wi,ws[i]?=some wi→L i=true→tY L wi
/-- Operation i, whatever else is done by then. -/
def LU (P:Program) (ops:Array Oper) (Q:Exit→Act→World→Prop) (F:(Nat→Bool)→(Nat→Value)→World→Prop) (A:(Nat→Bool)→(Nat→Value)→Act) (ws:List (List Nat)) (i:Nat) (wi:List Nat):Prop :=
 ∀ L V w,F L V w→L i=false→tY L wi→Ay ws L→∀ o,ops[i]?=some o→∀ K:Act→World→Prop,Shut (∀ v w',F (fK L i) (iJ V i v) w'→K ((A L V).put o.dst v) w') →
  if Region.wanted o (yielded ops (A L V).tmps)=true then Oper.wp P o (A L V) w K Q else K ((A L V).put o.dst undef) w
def Ho (P:Program) (ops:Array Oper) (Q:Exit→Act→World→Prop) (F:(Nat→Bool)→(Nat→Value)→World→Prop) (A:(Nat→Bool)→(Nat→Value)→Act) (ws:List (List Nat)):Nat→List (List Nat)→Prop
 | _,[]=>True
 | k,wi :: r=>LU P ops Q F A ws k wi∧Ho P ops Q F A ws (k+1) r
theorem TW:∀ (r:List (List Nat)) (k j:Nat) (wi:List Nat),Ho P ops Q F A ws k r→r[j]?=some wi→LU P ops Q F A ws (k+j) wi
 | [],_,_,_,_,h=>by simp at h
 | _ :: _,_,0,_,H,h=>by simp only [List.getElem?_cons_zero,Option.some.injEq] at h;subst h;exact H.1
 | _ :: r,k,j+1,wi,H,h=>by have:=TW r (k+1) j wi H.2 (by simpa using h);rwa [show k+(j+1)=k+1+j by omega]
def vo (L:Nat→Bool):Nat→Nat
 | 0=>0
 | k+1=>vo L k+cond (L k) 0 1
theorem TY {L:Nat→Bool}:∀ {n:Nat},vo L n=0→∀ i,i < n→L i=true
 | 0,_,_,h=>absurd h (Nat.not_lt_zero _)
 | n+1,h,i,hi=>by
  unfold vo at h
  by_cases e:i=n
  ·subst e;cases hL:L i
   ·rw [hL] at h;simp at h
   ·rfl
  ·exact TY (n:=n) (by omega) i (by omega)
theorem T9 {L:Nat→Bool} {i:Nat} (h:L i=false):∀ n,vo (fK L i) n+(if i < n then 1 else 0)=vo L n
 | 0=>rfl
 | n+1=>by
  have:=T9 h n
  unfold vo
  by_cases e:i=n
  ·subst e;simp [Hg,h] at this ⊢;exact this
  ·rw [zi (show n≠i from fun e'=>e e'.symm)]
   by_cases hi:i < n
   ·rw [if_pos hi] at this;rw [if_pos (by omega)];omega
   ·rw [if_neg hi] at this;rw [if_neg (by omega)];omega
theorem acT (T:LM ops ds ws) (ha:∀ L V,jy ds 0 L V a=A L V) (hs:Ho P ops Q F A ws 0 ws)
  (he:∀ V w,F (fun _=>true) V w→Q .normal (A (fun _=>true) V) w) :
  ∀ (fuel:Nat) (listed:Array Bool) (L:Nat→Bool) (V:Nat→Value) (w:World),listed.size=ops.size→(∀ i,L i=listed.getD i true)→Ay ws L→vo L ops.size≤fuel→F L V w→wpAnyH P .any ops Q (fun _=>True) fuel listed (A L V) w:=by
 have T':=T.out
 simp only [Aw,Bool.and_eq_true,beq_iff_eq,List.all_eq_true,List.mem_range] at T'
 obtain ⟨t1,t2,t3,t4⟩:=T'
 have hn:ops.size=ds.length:=by rw [← t1];simp
 have tw:∀ i o,ops[i]?=some o→∃ wi,ws[i]?=some wi∧(∀ e ∈ o.after,Region.binds .any e=true→e.on < i)∧∀ j ∈ wi,∃ e ∈ o.after,Region.binds .any e=true∧e.on=j:=by
  intro i o ho
  have hlt:=(Array.getElem?_eq_some_iff.1 ho).1
  have h4:=t4 i hlt
  rw [ho] at h4
  obtain ⟨wi,hw⟩:∃ wi,ws[i]?=some wi:=⟨_,aK (by omega)⟩
  rw [hw] at h4
  simp only [Bool.and_eq_true,List.all_eq_true,Nat.blt_eq,List.contains_iff_mem] at h4
  refine ⟨wi,hw,fun e he hb=>h4.1 _ ?_,fun j hj=>?_⟩
  ·exact List.mem_map.2 ⟨e,List.mem_filter.2 ⟨by simpa using he,hb⟩,rfl⟩
  ·obtain ⟨e,he,rfl⟩:=List.mem_map.1 (h4.2 j hj)
   obtain ⟨he,hb⟩:=List.mem_filter.1 he
   exact ⟨e,by simpa using he,hb,rfl⟩
 have Ua:∀ (listed:Array Bool) (L:Nat→Bool) (V:Nat→Value) (w:World),listed.size=ops.size→(∀ i,L i=listed.getD i true)→Region.ready .any ops listed=[]→F L V w→Q .normal (A L V) w:=by
  intro listed L V w hsz hL hr hF
  have hall:∀ i,L i=true:=by
   intro i
   induction i using Nat.strongRecOn with
   | _ i ih =>
    cases Az:L i
    ·exfalso
     have hi:i < ops.size:=by
      rcases Nat.lt_or_ge i ops.size with h | h
      ·exact h
      ·rw [hL i] at Az;simp [Array.getD,show ¬ i < listed.size by omega] at Az
     obtain ⟨o,ho⟩:∃ o,ops[i]?=some o:=⟨_,Array.getElem?_eq_getElem hi⟩
     obtain ⟨wi,hw,hlt,-⟩:=tw i o ho
     have:i ∈ Region.ready .any ops listed:=mem_ready.2 ⟨by rw [← hL i];exact Az,o,ho,fun e hem hb=>by
      have h1:=ih e.on (hlt e hem hb)
      rw [hL] at h1
      have h2:e.on < listed.size:=by have:=hlt e hem hb;omega
      simpa [Array.getD,h2] using h1⟩
     rw [hr] at this;cases this
    ·rfl
  rw [show L=fun _=>true from funext hall] at hF ⊢
  exact he V w hF
 intro fuel
 induction fuel with
 | zero =>
  intro listed L V w hsz hL hC hc hF
  have hall:=TY (Nat.le_zero.1 hc)
  have hr:Region.ready .any ops listed=[]:=List.eq_nil_iff_forall_not_mem.2 fun j hj=>by
   obtain ⟨h1,o,ho,-⟩:=mem_ready.1 hj
   rw [← hL j,hall j (Array.getElem?_eq_some_iff.1 ho).1] at h1
   cases h1
  exact ⟨hr,Ua listed L V w hsz hL hr hF⟩
 | succ fuel ih =>
  intro listed L V w hsz hL hC hc hF
  refine ⟨fun hr=>Ua listed L V w hsz hL hr hF,fun i hi=>?_⟩
  obtain ⟨h1,o,ho,hall⟩:=mem_ready.1 hi
  have hlt:=(Array.getElem?_eq_some_iff.1 ho).1
  obtain ⟨wi,hw,acU,hwi⟩:=tw i o ho
  have Az:L i=false:=by rw [hL i];exact h1
  have Ub:tY L wi:=Av.2 fun j hj=>by
   obtain ⟨e,hem,hb,rfl⟩:=hwi j hj
   have h2:=hall e hem hb
   have h3:=acU e hem hb
   rw [hL]
   have h4:e.on < listed.size:=by omega
   simpa [Array.getD,h4] using h2
  have st:=TW ws 0 i wi hs hw
  rw [Nat.zero_add] at st
  refine wpOp_step ho fun K hK=>st L V w hF Az Ub hC o ho K (fun v w' hF'=>hK _ _ ⟨trivial,?_⟩)
  have hd:ds[i]?=some o.dst:=by rw [← t1];simp [ho]
  rw [← ha L V,LQ (i:=i) ds 0 a i (by omega) hd t2,ha]
  refine ih _ _ _ w' (by simpa using hsz) (fun j=>?_) ?_ ?_ hF'
  ·by_cases e:j=i
   ·subst e;rw [Hg];simp [Array.getD,show j < listed.size by omega]
   ·rw [zi e,hL j,getD_set_ne true (fun h=>e h.symm)]
  ·intro j wj hj Uc
   refine Av.2 fun x hx=>?_
   by_cases e:x=i
   ·subst e;exact Hg
   ·rw [zi e]
    by_cases e':j=i
    ·subst e';rw [hw] at hj;cases hj;exact Av.1 Ub x hx
    ·rw [zi e'] at Uc;exact Av.1 (hC j wj hj Uc) x hx
  ·have:=T9 Az ops.size
   rw [if_pos hlt] at this
   omega
/-- The beginning: nothing is done. -/
theorem Ud {rid:Nat} (T:LM ops ds ws) (hm:P.follows .mixedOrders=true) (hs:Ho P ops Q F A ws 0 ws)
  (h0:∀ V,F (fun i=>Nat.ble ds.length i) V w.drew)
  (he:∀ V w,F (fun _=>true) V w→Q .normal (A (fun _=>true) V) w)
  (ha:∀ L V,jy ds 0 L V a=A L V:=by (intro L V;conv=>lhs;dsimp only [jy,eP,vk,List.toList_toArray,sF,sG,List.drop_zero,List.drop_succ_cons,List.headD_cons])):Code.wp P (.region rid ops true) Q a w:=by
 have T':=T.out
 simp only [Aw,Bool.and_eq_true,beq_iff_eq] at T'
 have hn:ops.size=ds.length:=by rw [← T'.1];simp
 have hw:ws.length=ds.length:=T'.2.2.1
 refine wp_region_held_drew (S:=fun _=>True) hm trivial fun _=>?_
 have hL:∀ i,Nat.ble ds.length i=(Array.replicate ops.size false).getD i true:=by
  intro i
  by_cases h:i < ops.size
  ·rw [show Nat.ble ds.length i=false by rw [Bool.eq_false_iff];intro h';have:=Nat.le_of_ble_eq_true h';omega];simp [Array.getD,h]
  ·rw [show Nat.ble ds.length i=true from Nat.ble_eq_true_of_le (by omega)];simp [Array.getD,h]
 have e:A (fun i=>Nat.ble ds.length i) (fun i=>vk a (((ds[i]?).bind id).getD 0))=a:=by
  rw [← ha]
  have:∀ (l:List (Option Nat)) (k:Nat) (L:Nat→Bool) (V:Nat→Value),(∀ j,k≤j→j < k+l.length→L j=false)→jy l k L V a=a:=by
   intro l
   induction l with
   | nil=>intro k L V _;rfl
   | cons o l ih =>
    intro k L V h
    cases o with
    | none=>unfold jy;exact ih (k+1) L V fun j h1 h2=>h j (by omega) (by simp;omega)
    | some d =>
     unfold jy
     rw [h k (Nat.le_refl _) (by simp),cond_false,show eP a d (vk a d)=a by
      unfold eP vk
      rw [List.headD_eq_head?_getD,List.head?_drop]
      rcases Nat.lt_or_ge d a.tmps.toList.length with hd | hd
      ·rw [aK hd,Option.getD_some,List.set_getElem_self]
      ·rw [List.set_eq_of_length_le hd]]
     exact ih (k+1) L V fun j h1 h2=>h j (by omega) (by simp;omega)
  exact this ds 0 _ _ fun j _ h2=>by rw [Bool.eq_false_iff];intro h';have:=Nat.le_of_ble_eq_true h';omega
 have:=acT T ha hs he ops.size (Array.replicate ops.size false) (fun i=>Nat.ble ds.length i) (fun i=>vk a (((ds[i]?).bind id).getD 0)) w.drew (by simp) hL (fun i wi h1 h2=>by
  have h3:=Nat.le_of_ble_eq_true h2
  have h4:=(gs1 h1).1
  omega) (by
  have:∀ (L:Nat→Bool) n,vo L n≤n:=by
   intro L n
   induction n with
   | zero=>exact Nat.le_refl _
   | succ n ih=>unfold vo;cases L n <;> simp <;> omega
  exact this _ _) (h0 _)
 rwa [e] at this
/-- An operation, its state written out. -/
theorem iK {i:Nat} {wi:List Nat} {oi:Oper}
  (h:∀ L V w,F L V w→L i=false→tY L wi→Ay ws L→∃ (a:Act) (B:Value→Act),A L V=a∧(∀ v,a.put oi.dst v=B v)∧∀ K:Act→World→Prop,Shut (∀ v w',F (fK L i) (iJ V i v) w'→K (B v) w') →
   if Region.wanted oi (yielded ops a.tmps)=true then Oper.wp P oi a w K Q else K (a.put oi.dst undef) w)
  (hi:ops[i]?=some oi:=by rfl):LU P ops Q F A ws i wi:=by
 intro L V w hF hL hw hC o ho K hK
 rw [hi] at ho;cases ho
 obtain ⟨a,B,rfl,hB,H⟩:=h L V w hF hL hw hC
 exact H K fun v w' hF'=>by rw [← hB v];exact hK.out v w' hF'
end
end Go.Proofs.YtlneebmlhblleaaGreat
