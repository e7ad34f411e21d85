/- The proof's texts, part 3. -/
import Derived.Test.YtlneebmlhblleaaGreatT2
import Derived.Laws.CopyOwn
import Derived.Test.YtlneebmlhblleaaGreatRows
import Derived.Deep.QuietTactic
import Derived.BigQuiet
import Derived.Maps.RangeWalk
import Derived.Maps.OwnSet
import Derived.Maps.OwnOps
import Derived.DeepKeys4
import Derived.Test.YtlneebmlhblleaaGreatT1
namespace Go.Proofs.YtlneebmlhblleaaGreat
open Go.RowKit
set_option linter.unusedSimpArgs false
set_option linter.unusedVariables false
set_option maxHeartbeats 2000000
set_option maxRecDepth 100000
/- What ahl answers, on lists. -/
/- copy of bytes into a row of the call's own, as one law for the walk: what is copied may be nil. -/
theorem WZ (cur:List Int) (off:Nat) (m:List Int):vals (splice cur off m)=splice (vals cur) off (vals m):=by simp [splice,vals,List.map_take,List.map_drop]
theorem W9 (Z A B:List Int) (h:Z.length=A.length+B.length):splice (splice Z 0 A) A.length B=A ++ B:=by
 have h1:(A ++ Z.drop A.length).drop (A.length+B.length)=[]:=List.drop_eq_nil_of_le (by simp;omega)
 simp [splice,h1]
theorem IV {P:Program} {w:World} {ops:Array Oper} {rest:List Oper} {o:Oper} {a:Act} {Q:Exit→Act→World→Prop} (hgd:o.guard=none) (d s:Operand) (dT sT:TypeId)
  (ho:o.op=.call { callee:=.builtin .copy,args:=#[d,s],argTypes:=#[dT,sT] }) (hu:P.underlying dT=some (.slice 5)) (hsz:(P.info? 5).map (·.size)=some 1)
  (dp:Option Addr) (dLen dCap:Nat) (hd:a.eval d=.slice dp dLen dCap) (u:Value) (m:List Int) (hs:a.eval s=u) (hm:Bs w u m) (k:Nat) (hk:k=Nat.min m.length dLen)
  (g off:Nat) (cur:List Int) (hg:w.heap[g]?=some (.cells (vals cur).toArray 5 (0,0)))
  (hpos:0 < k→dp=some ⟨g,off,none⟩) (hfit:off+k≤cur.length) (B:Nat) (w0:World) (hb:Below B w0 w) (hBg:B≤g)
  (h:∀ w',Hid (w'.heap[g]?=some (.cells (vals (splice cur off (m.take k))).toArray 5 (0,0)))→Below B w0 w'→wpList P ops Q rest (a.put o.dst (goInt k)) w') :
  wpList P ops Q (o :: rest) a w:=by
 obtain ⟨hmo,ad,cap,hv,h1,h2,h3,h4⟩:=hm
 have hkm:k≤m.length:=by rw [hk];exact Nat.min_le_left ..
 have hl:(m.take k).length=k:=by simp;omega
 refine wpList_copy_splice hgd d s dT sT ho 5 hu hsz dp ad dLen dCap m.length cap hd (by rw [hs,hv]) g off (vals cur) 5 hg (vals (m.take k)) (by rw [uo,hl,hk]) ?_ (by rw [uo,uo,hl];exact hfit) (WY _) B w0 hb hBg ?_
 ·intro hp
  rw [uo,hl] at hp
  obtain ⟨b,off',had,_,hc⟩:=h4 (by omega)
  refine ⟨hpos hp,_,had,fun j v hj=>?_⟩
  have hj':j < k:=by have:=(gs1 hj).1;rw [uo,hl] at this;exact this
  rw [Addr.add_lit,hc j (by omega),← hj,IK _ j (by rw [hl];exact hj')]
  simp [hj']
 ·intro w' hg' hb'
  rw [uo,hl]
  exact h w' (by rw [WZ];exact hg') hb'
/- Closed facts on the program's types that the walks use. -/
theorem info5:(Tryz.prog.info? 5).map (fun i=>(i.zero,i.size,i.bytes))=some (some (.int .u8 0),1,1):=by kernel_rfl
theorem IW:(Tryz.prog.info? 5).map (·.size)=some 1:=by kernel_rfl
theorem IX (w:World):Bs w (.slice none 0 0) []:=⟨Fb,none,0,rfl,by simp,by simp,fun _=>rfl,fun h=>absurd h (by simp)⟩
/- A map of ah, keyed by a rV number and a OD. -/
open Go.RowKit Go.Maps
theorem Xa:laidOutB Tryz.prog=true:=by kernel_rfl
theorem OE:(135:TypeId) < Tryz.prog.types.size:=of_decide_eq_true (by kernel_rfl)
theorem pW:Tryz.prog.underlying 135=some (.array 2 3):=by kernel_rfl
theorem nQ:Keyed Tryz.prog 135:=Keyed.of_law (deep_law_laid Xa (m:=2) (by omega) OE (by kernel_rfl) (by rw [pW]))
theorem vW:Tryz.prog.underlying 106=some (.map 135 124):=by kernel_rfl
theorem OG (w:World):(zeroValue 124).run Tryz.prog w=.ok (.agg #[.int .i64 0,.int .i64 0,.int .i64 0,.slice none 0 0]) w:=by kernel_rfl
theorem IY:Tryz.prog.cellsOf 135=2:=by kernel_rfl
theorem OH:Tryz.prog.cellsOf 3=1:=by kernel_rfl
theorem OI:Tryz.prog.underlying 3=some (.int .i64):=by kernel_rfl
theorem OJ:Tryz.prog.keyType 135=true:=by kernel_rfl
theorem Xb {m k:Nat} (h:k < m):∃ n,m=n+1:=⟨m - 1,by omega⟩
theorem OL:∃ n,Tryz.prog.types.size=n+1:=Xb OE
theorem Xc {α:Type}:∀ {l:List α},l.length=2→∃ a b,l=[a,b]
 | [a,b],_=>⟨a,b,rfl⟩
 | [],h=>by simp at h
 | [_],h=>by simp at h
 | _ :: _ :: _ :: _,h=>by simp at h
def zJ (v u:Int):Value:=.agg #[.int .i64 v,.int .i64 u]
def dI (v u:Int):Lit:=.string (keyBytes [.int .i64 v,.int .i64 u])
theorem rW {v u:Int} (hv:aB v) (hu:aB u):keyOf Tryz.prog 135 (zJ v u)=some (dI v u):=by
 obtain ⟨n,hn⟩:=OL
 have w1:=WalkArith.wf_i64 hv
 have w2:=WalkArith.wf_i64 hu
 have hr:List.range 2=[0,1]:=rfl
 simp [keyOf,pW,OJ,zJ,Value.formed,IY,hn,Program.keyLits,Value.cells,OH,OI,w1,w2,hr,dI]
theorem OM {key:Value} {kl:Lit} (h:keyOf Tryz.prog 135 key=some kl):∃ v u,key=zJ v u∧kl=dI v u∧aB v∧aB u:=by
 obtain ⟨n,hn⟩:=OL
 have hr:List.range 2=[0,1]:=rfl
 have h0:=h
 simp only [keyOf,pW,OJ,Bool.true_and] at h
 split at h
 ·rename_i hf
  cases key with
  | agg cs =>
   simp only [Value.formed,pW,IY,beq_iff_eq] at hf
   obtain ⟨l⟩:=cs
   obtain ⟨a,b,rfl⟩:∃ a b,l=[a,b]:=Xc hf
   ·skip
    simp only [hn,Program.keyLits,pW,Value.cells,IY,OH,hr,OI,List.length_cons,List.length_nil,if_true,List.mapM_cons,List.mapM_nil,Nat.zero_mul,Nat.one_mul,List.drop_zero,List.take_succ_cons,List.take_zero,List.drop_succ_cons,List.drop_nil,List.take_nil] at h
    cases a with
    | int q x =>
     by_cases hq:q=.i64∧(Lit.int .i64 x).wf=true
     ·obtain ⟨rfl,w1⟩:=hq
      cases b with
      | int q y =>
       by_cases hq:q=.i64∧(Lit.int .i64 y).wf=true
       ·obtain ⟨rfl,w2⟩:=hq
        have i1:aB x:=by simpa [Lit.wf,IntKind.min,IntKind.max,IntKind.bits,IntKind.signed,aB] using w1
        have i2:aB y:=by simpa [Lit.wf,IntKind.min,IntKind.max,IntKind.bits,IntKind.signed,aB] using w2
        have hk:=rW i1 i2
        refine ⟨x,y,rfl,?_,i1,i2⟩
        rw [show zJ x y=Value.agg ⟨[.int .i64 x,.int .i64 y]⟩ from rfl,h0] at hk
        exact Option.some.inj hk
       ·simp [hq] at h
      | _=>simp at h
     ·simp [hq] at h
    | _=>simp at h
  | _=>simp [Value.formed,pW] at hf
 ·cases h
theorem zK {v u v' u':Int} (hv:aB v) (hu:aB u) (hv':aB v') (hu':aB u') (h:dI v u=dI v' u'):v=v'∧u=u':=by
 have:=nQ.inj (rW hv hu) (h ▸ rW hv' hu')
 simpa [zJ] using this
theorem IZ {v u:Int} (hv:aB v) (hu:aB u):WideAt.IsKeyLit (dI v u):=nQ.key (rW hv hu)
/-- A OD value in the map: its three numbers and its text. -/
def pX (p:(Int × Int × Int) × (Option Addr × Nat × Nat)):Value:=.agg #[.int .i64 p.1.1,.int .i64 p.1.2.1,.int .i64 p.1.2.2,.slice p.2.1 p.2.2.1 p.2.2.2]
def I4:Value→Bool
 | .agg cs=>match cs.toList with | [.int .i64 _,.int .i64 _,.int .i64 _,.slice _ _ _]=>true | _=>false
 | _=>false
theorem Xd {v:Value} (h:I4 v=true):∃ p,v=pX p:=by
 unfold I4 at h
 split at h
 ·rename_i cs
  split at h
  ·rename_i a b c x y z e
   obtain ⟨l⟩:=cs
   exact ⟨((a,b,c),(x,y,z)),by simp only at e;subst e;rfl⟩
  ·cases h
 ·cases h
/-- How the map's elements are told: as they are. -/
def RM (v:Value):Option (DataW Value × List MemPlace):=if I4 v then some (.held v,[]) else none
theorem I5 {v:Value} {y:DataW Value × List MemPlace} (h:RM v=some y):(∃ p,v=pX p)∧y=(.held v,[]):=by
 unfold RM at h
 split at h
 ·rename_i hs
  exact ⟨Xd hs,(Option.some.inj h).symm⟩
 ·cases h
theorem OO {w:World} {v:Value} {m:aF} (h:gK w v m):RM v=some (.held v,[]):=by
 obtain ⟨u,rfl,hb,-⟩:=h
 obtain ⟨a,n,c,rfl⟩:=hb.aG
 rfl
/-- An element's cells, all cells, stay. -/
def lu (w w':World):Prop:=w.heap.size≤w'.heap.size∧∀ p v,w.cell? p=some v→w'.cell? p=some v
theorem lu.refl (w:World):lu w w:=⟨Nat.le_refl _,fun _ _ h=>h⟩
theorem lu.trans {w w' w'':World} (h:lu w w') (h':lu w' w''):lu w w'':=⟨Nat.le_trans h.1 h'.1,fun p v e=>h'.2 p v (h.2 p v e)⟩
theorem OP {w:World} {p:Addr} {v:Value} (h:w.cell? p=some v):p.block < w.heap.size:=by
 unfold World.cell? at h
 split at h
 ·rename_i e
  exact lt_of_heap e
 ·cases h
theorem OQ {w w':World} (h:Below w.heap.size w w'):lu w w':=⟨h.size,fun _ _ e=>(h.cell (OP e)).trans e⟩
/-- A map is turned: no cell is. -/
theorem OT {w w':World} {b:Nat} {es:Array MapEntry} {c:Nat} (hb:w.heap[b]?=some (.map es c)) (h:w.grownBy w' (some b)):lu w w':=by
 refine ⟨h.size,fun p v e=>?_⟩
 have hne:p.block≠b:=by
  intro e2
  unfold World.cell? at e
  rw [e2,hb] at e
  cases e
 have hk:=h.block p.block (OP e) (fun e2=>hne (Option.some.inj e2))
 unfold World.cell? at e ⊢
 rw [hk]
 exact e
theorem Bs.lC {w w':World} {v:Value} {l:List Int} (h:Bs w v l) (hc:lu w w'):Bs w' v l:=by
 obtain ⟨h0,a,cap,hv,h1,h2,h3,h4⟩:=h
 exact ⟨h0,a,cap,hv,h1,h2,h3,fun hp=>let ⟨b,off,ha,hb,hx⟩:=h4 hp;⟨b,off,ha,Nat.lt_of_lt_of_le hb hc.1,fun i hi=>hc.2 _ _ (hx i hi)⟩⟩
theorem gK.lC {w w':World} {v:Value} {m:aF} (h:gK w v m) (hc:lu w w'):gK w' v m:=let ⟨u,h0,h1,r⟩:=h;⟨u,h0,h1.lC hc,r⟩
theorem Rd.lC {α:Type} {sz:Nat} {E:World→List Value→α→Prop} {w w':World} {v:Value} {l:List α} (hE:∀ c x,E w c x→E w' c x) (h:Rd sz E w v l) (hc:lu w w'):Rd sz E w' v l:=by
 obtain ⟨a,cap,cs,hv,h1,h2,h3,h4,h5⟩:=h
 exact ⟨a,cap,cs,hv,h1,h2,h3,fun i x hx=>⟨hE _ _ (h4 i x hx).1,(h4 i x hx).2⟩,fun hp=>let ⟨b,off,ha,hb,hx⟩:=h5 hp;⟨b,off,ha,Nat.lt_of_lt_of_le hb hc.1,fun i j u hi hu=>hc.2 _ _ (hx i j u hi hu)⟩⟩
theorem bY.lC {w w':World} {v:Value} {l:List aF} (h:bY w v l) (hc:lu w w'):bY w' v l:=Rd.lC (fun _ _ ⟨u,h0,h1,r⟩=>⟨u,h0,h1.lC hc,r⟩) h hc
theorem bO.lC {w w':World} {v:Value} {l:List bf} (h:bO w v l) (hc:lu w w'):bO w' v l:=Rd.lC (w:=w) (E:=xS) (fun _ _ h=>h) h hc
theorem bK.lC {w w':World} {v:Value} {b:aD} (h:bK w v b) (hc:lu w w'):bK w' v b :=
 let ⟨u0,u1,u2,h0,h1,h2,h3,r⟩:=h;⟨u0,u1,u2,h0,h1.lC hc,h2.lC hc,h3.lC hc,r⟩
/-- Entries: a rV number, a OD, the fQ. -/
abbrev aX:=List (Int × Int × aF)
def isK (v u:Int) (e:Int × Int × aF):Bool:=decide (e.1=v∧e.2.1=u)
def cB (E:aX) (v u:Int):Option aF:=(E.find? (isK v u)).map fun e=>e.2.2
def kJ (E:aX) (v u:Int):aX:=E.filter fun e=>!isK v u e
def j4 (E:aX) (v u:Int) (m:aF):aX:=kJ E v u ++ [(v,u,m)]
/-- No key twice. -/
def pY (E:aX):Prop:=E.Pairwise fun e f=>¬ (e.1=f.1∧e.2.1=f.2.1)
/-- Block b is a map of these entries. -/
def MM (w:World) (b n:Nat) (E:aX):Prop :=
 ∃ D:DataW Value,w.ownsMap Tryz.prog 135 RM b n D∧Maps.size D=E.length∧pY E∧(∀ e ∈ E,aB e.1∧aB e.2.1) ∧
  ∀ v u,aB v→aB u→match cB E v u with
   | some m=>∃ x,gK w x m∧∀ z,D.atKey (dI v u) z=.held x
   | none=>∀ z,D.atKey (dI v u) z=z
section
variable {w w' : World} {b n : Nat} {E : aX}
theorem MM.lt (h:MM w b n E):b < w.heap.size:=let ⟨_,h,_⟩:=h;h.lt
theorem MM.block (h:MM w b n E):∃ es c,w.heap[b]?=some (.map es c):=let ⟨_,⟨es,c,hb,_⟩,_⟩:=h;⟨es,c,hb⟩
theorem MM.mono {n':Nat} (h:MM w b n E) (hn:n≤n'):MM w b n' E:=let ⟨D,h1,r⟩:=h;⟨D,h1.mono hn,r⟩
theorem MM.kept (h:MM w b n E) (hb:w'.heap[b]?=w.heap[b]?) (hc:lu w w'):MM w' b n E:=by
 obtain ⟨D,⟨es,c,e1,e2⟩,h2,h3,h4,h5⟩:=h
 refine ⟨D,⟨es,c,hb.trans e1,e2⟩,h2,h3,h4,fun v u hv hu=>?_⟩
 have:=h5 v u hv hu
 split at this
 ·obtain ⟨x,hx,hz⟩:=this
  exact ⟨x,hx.lC hc,hz⟩
 ·exact this
theorem MM.below (h:MM w b n E) (hb:Below w.heap.size w w'):MM w' b n E:=h.kept (hb.block b h.lt) (OQ hb)
theorem MM.has {D:DataW Value} {v u:Int} (h5:match cB E v u with
   | some m=>∃ x,gK w x m∧∀ z,D.atKey (dI v u) z=.held x
   | none=>∀ z,D.atKey (dI v u) z=z):Maps.has D (dI v u)=(cB E v u).isSome:=by
 split at h5
 ·rename_i m e
  obtain ⟨x,-,hz⟩:=h5
  rw [e]
  exact has_true_of_atKey hz
 ·rename_i e
  rw [e]
  exact has_false_of_atKey h5
theorem MM.made (w:World):MM (w.alloc (.map #[] 0)) w.heap.size 0 []:=by
 refine ⟨.map [],World.ownsMap_made _ _ _ _,rfl,List.Pairwise.nil,by simp,fun v u _ _=>?_⟩
 simp [cB,DataW.atKey]
end
/-! ### entries -/
theorem A8 {v u:Int} {e:Int × Int × aF}:isK v u e=true↔e.1=v∧e.2.1=u:=by simp [isK]
theorem Fv (E:aX) (v u:Int):cB (kJ E v u) v u=none:=by
 unfold cB kJ
 rw [List.find?_eq_none.2]
 ·rfl
 ·intro e he
  have:=(List.mem_filter.1 he).2
  simpa using this
theorem Ba {E:aX} {v u v' u':Int} (hne:¬ (v'=v∧u'=u)):cB (kJ E v u) v' u'=cB E v' u':=by
 unfold cB kJ
 rw [List.find?_filter]
 congr 2
 funext e
 by_cases h:isK v' u' e=true
 ·have h':=A8.1 h
  have:isK v u e=false:=by
   simp only [isK,decide_eq_false_iff_not]
   rintro ⟨h1,h2⟩
   exact hne ⟨h'.1.symm.trans h1,h'.2.symm.trans h2⟩
  rw [h,this];rfl
 ·rw [Bool.not_eq_true] at h
  simp [h]
theorem Bb (E:aX) (v u:Int) (m:aF):cB (j4 E v u m) v u=some m:=by
 unfold j4
 have h:=Fv E v u
 unfold cB at h ⊢
 rw [List.find?_append,Option.map_eq_none_iff.1 h]
 simp [isK]
theorem zL {E:aX} {v u v' u':Int} {m:aF} (hne:¬ (v'=v∧u'=u)):cB (j4 E v u m) v' u'=cB E v' u':=by
 rw [← Ba hne (E:=E)]
 unfold j4 cB
 rw [List.find?_append]
 have:List.find? (isK v' u') [(v,u,m)]=none:=by
  simp only [List.find?_cons,List.find?_nil]
  rw [show isK v' u' (v,u,m)=false by simp only [isK,decide_eq_false_iff_not];rintro ⟨h1,h2⟩;exact hne ⟨h1.symm,h2.symm⟩]
 rw [this,Option.or_none]
theorem pY.del {E:aX} (h:pY E) (v u:Int):pY (kJ E v u):=List.Pairwise.filter _ h
theorem pY.put {E:aX} (h:pY E) (v u:Int) (m:aF):pY (j4 E v u m):=by
 unfold j4 pY
 rw [List.pairwise_append]
 refine ⟨h.del v u,List.pairwise_singleton _ _,fun e he f hf=>?_⟩
 rw [List.mem_singleton] at hf
 subst hf
 have:=(List.mem_filter.1 he).2
 rintro ⟨h1,h2⟩
 simp [isK,h1,h2] at this
theorem Xe {E:aX} {v u:Int} {m:aF} (h:cB E v u=some m):(v,u,m) ∈ E:=by
 unfold cB at h
 obtain ⟨e,he,rfl⟩:=Option.map_eq_some_iff.1 h
 obtain ⟨a,b,c⟩:=e
 have h1:=A8.1 (List.find?_some he)
 have h2:=List.mem_of_find?_eq_some he
 simp only at h1
 obtain ⟨rfl,rfl⟩:=h1
 exact h2
theorem pY.find {E:aX} (hd:pY E) {v u:Int} {m:aF} (h:(v,u,m) ∈ E):cB E v u=some m:=by
 induction E with
 | nil=>cases h
 | cons e E ih =>
  obtain ⟨h1,h2⟩:=List.pairwise_cons.1 hd
  unfold cB
  rw [List.find?_cons]
  by_cases hk:isK v u e=true
  ·rw [hk]
   rcases List.mem_cons.1 h with rfl | h
   ·rfl
   ·exact absurd (A8.1 hk) (h1 _ h)
  ·rw [Bool.not_eq_true] at hk
   rw [hk]
   rcases List.mem_cons.1 h with rfl | h
   ·simp [isK] at hk
   ·exact ih h2 h
theorem Fw {E:aX} (hd:pY E) (v u:Int):(kJ E v u).length+(if (cB E v u).isSome then 1 else 0)=E.length:=by
 induction E with
 | nil=>rfl
 | cons e E ih =>
  obtain ⟨h1,h2⟩:=List.pairwise_cons.1 hd
  have ih:=ih h2
  unfold kJ cB at ih ⊢
  rw [List.filter_cons,List.find?_cons]
  by_cases hk:isK v u e=true
  ·have hn:List.find? (isK v u) E=none:=by
    rw [List.find?_eq_none]
    intro f hf hk2
    have a:=A8.1 hk
    have c:=A8.1 hk2
    exact h1 f hf ⟨a.1.trans c.1.symm,a.2.trans c.2.symm⟩
   rw [hn] at ih
   rw [hk]
   simp at ih ⊢
   omega
  ·rw [Bool.not_eq_true] at hk
   rw [hk]
   simp at ih ⊢
   omega
section
variable {w : World} {b n : Nat} {E : aX} {ops : Array Oper} {rest : List Oper} {o : Oper} {a : Act} {Q : Exit → Act → World → Prop}
theorem MM.put {w':World} {D:DataW Value} {v u:Int} {md:aF} {x:Value} (h:MM w b n E) (hown:w.ownsMap Tryz.prog 135 RM b n D) (hv:aB v) (hu:aB u) (hx:gK w x md)
  (ho:w'.ownsMap Tryz.prog 135 RM b (n+1) (D.put (dI v u) (.held x))) (hg:w.grownBy w' (some b)):MM w' b (n+1) (j4 E v u md)∧lu w w':=by
 obtain ⟨es,c,hb⟩:=h.block
 have hc:=OT hb hg
 obtain ⟨D',h1,h2,h3,h4,h5⟩:=h
 have hD:D'=D:=by
  obtain ⟨es1,c1,e1,-,-,e2⟩:=h1
  obtain ⟨es2,c2,f1,-,-,f2⟩:=hown
  rw [e1] at f1
  cases f1
  rw [e2,f2]
 subst hD
 refine ⟨⟨_,ho,?_,h3.put v u md,fun e he=>?_,fun v' u' hv' hu'=>?_⟩,hc⟩
 ·rw [size_put (h1.tidy nQ),MM.has (h5 v u hv hu),h2]
  have:=Fw h3 v u
  unfold j4
  rw [List.length_append,List.length_singleton]
  split <;> simp_all <;> omega
 ·rcases List.mem_append.1 he with he | he
  ·exact h4 e (List.mem_filter.1 he).1
  ·rw [List.mem_singleton] at he
   subst he
   exact ⟨hv,hu⟩
 ·by_cases e:v'=v∧u'=u
  ·obtain ⟨rfl,rfl⟩:=e
   rw [Bb]
   exact ⟨x,hx.lC hc,fun z=>atKey_put_same h1.isMap (IZ hv hu) _ _⟩
  ·rw [zL e]
   have hne:dI v' u'≠dI v u:=fun e2=>e (zK hv' hu' hv hu e2)
   have:=h5 v' u' hv' hu'
   split at this
   ·obtain ⟨y,hy,hz⟩:=this
    exact ⟨y,hy.lC hc,fun z=>(atKey_put_other hne _ _).trans (hz z)⟩
   ·exact fun z=>(atKey_put_other hne _ _).trans (this z)
theorem MM.del {w':World} {D:DataW Value} {v u:Int} (h:MM w b n E) (hown:w.ownsMap Tryz.prog 135 RM b n D) (hv:aB v) (hu:aB u)
  (ho:w'.ownsMap Tryz.prog 135 RM b n (D.del (dI v u))) (hg:w.grownBy w' (some b)):MM w' b n (kJ E v u)∧lu w w':=by
 obtain ⟨es,c,hb⟩:=h.block
 have hc:=OT hb hg
 obtain ⟨D',h1,h2,h3,h4,h5⟩:=h
 have hD:D'=D:=by
  obtain ⟨es1,c1,e1,-,-,e2⟩:=h1
  obtain ⟨es2,c2,f1,-,-,f2⟩:=hown
  rw [e1] at f1
  cases f1
  rw [e2,f2]
 subst hD
 refine ⟨⟨_,ho,?_,h3.del v u,fun e he=>h4 e (List.mem_filter.1 he).1,fun v' u' hv' hu'=>?_⟩,hc⟩
 ·have a1:=size_del (k:=dI v u) (h1.tidy nQ)
  rw [MM.has (h5 v u hv hu)] at a1
  have:=Fw h3 v u
  omega
 ·by_cases e:v'=v∧u'=u
  ·obtain ⟨rfl,rfl⟩:=e
   rw [Fv]
   exact fun z=>atKey_del_same z
  ·rw [Ba e]
   have hne:dI v' u'≠dI v u:=fun e2=>e (zK hv' hu' hv hu e2)
   have:=h5 v' u' hv' hu'
   split at this
   ·obtain ⟨y,hy,hz⟩:=this
    exact ⟨y,hy.lC hc,fun z=>(atKey_del_other hne _).trans (hz z)⟩
   ·exact fun z=>(atKey_del_other hne _).trans (this z)
/-- 'm[key]' of a fQ that is there. -/
theorem MM.get {v u:Int} {md:aF} (h:MM w b n E) (hf:cB E v u=some md):∃ x,gK w x md∧(Instr.lookup 106 (.map (some b)) (.agg #[.int .i64 v,.int .i64 u]) false).run Tryz.prog w=.ok x w:=by
 obtain ⟨D,hown,h2,h3,h4,h5⟩:=h
 have hi:=h4 _ (Xe hf)
 obtain ⟨x,ps,hr,hx⟩:=hown.lookup nQ vW (OG w) (zd:=.held (.agg #[.int .i64 0,.int .i64 0,.int .i64 0,.slice none 0 0])) (zp:=[]) rfl (rW hi.1 hi.2)
 have h6:=h5 v u hi.1 hi.2
 rw [hf] at h6
 obtain ⟨y,hy,hz⟩:=h6
 rw [hz] at hx
 have h7:=(I5 hx).2
 simp only [Prod.mk.injEq,DataW.held.injEq] at h7
 obtain ⟨rfl,-⟩:=h7
 exact ⟨_,hy,hr⟩
/-- The same as equations on the operations' runs. -/
theorem MM.store {v u:Int} {md:aF} {x:Value} (h:MM w b n E) (hn:n < maxLen) (h1:aB v) (h2:aB u) (hx:gK w x md) :
  ∃ w',(Instr.mapUpdate 106 (.map (some b)) (.agg #[.int .i64 v,.int .i64 u]) x).run Tryz.prog w=.ok () w'∧MM w' b (n+1) (j4 E v u md)∧w.grownBy w' (some b):=by
 have h':=h
 obtain ⟨D,hown,-⟩:=h'
 obtain ⟨w',hr,ho,hg⟩:=hown.update nQ vW hn (rW h1 h2) (OO hx)
 exact ⟨w',hr,(h.put hown h1 h2 hx ho hg).1,hg⟩
theorem MM.drop {v u:Int} (h:MM w b n E) (h1:aB v) (h2:aB u) (ty:TypeId) :
  ∃ w',(Builtin.delete_ #[106,135] ty #[.map (some b),.agg #[.int .i64 v,.int .i64 u]]).run Tryz.prog w=.ok (.tuple #[]) w'∧MM w' b n (kJ E v u)∧w.grownBy w' (some b):=by
 have h':=h
 obtain ⟨D,hown,-⟩:=h'
 obtain ⟨w',hr,ho,hg⟩:=hown.drop nQ vW (rW h1 h2) ty
 exact ⟨w',hr,(h.del hown h1 h2 ho hg.grown).1,hg.grown⟩
theorem MM.len (h:MM w b n E) (ty:TypeId):(Builtin.len_ #[106] ty #[.map (some b)]).run Tryz.prog w=.ok (.int .i64 E.length) w:=by
 obtain ⟨D,hown,hs,-⟩:=h
 have:=hown.len vW ty
 rwa [hs] at this
end
/- Lists of the call's own whose blocks lie between two; blocks of two, three, four, seven cells. -/
class Fr {α:Type} (E:World→List Value→α→(Nat→Prop)→Prop):Prop where
 out:Frames E
instance:Fr xU:=⟨oH⟩
instance:Fr je:=⟨kI⟩
instance:Fr vV:=⟨jB⟩
instance:Fr dh:=⟨gq⟩
def bE {α:Type} (t:TypeId) (sz:Nat) (E:World→List Value→α→(Nat→Prop)→Prop) (w:World) (B T:Nat) (v:Value) (l:List α):Prop:=Ow t sz E w (In B T) v l
section
variable {α : Type} {t : TypeId} {sz : Nat} {E : World → List Value → α → (Nat → Prop) → Prop} {w w' : World} {B T B' T' g i : Nat} {v x : Value} {l : List α}
theorem bE.ow (h:bE t sz E w B T v l):Ow t sz E w (In B T) v l:=h
theorem bE.wide (h:bE t sz E w B T v l) (hB:B'≤B) (hT:T≤T'):bE t sz E w B' T' v l:=Ow.mono h fun _ hb=>⟨Nat.le_trans hB hb.1,Nat.lt_of_lt_of_le hb.2 hT⟩
theorem bE.below [Fr E] (h:bE t sz E w B T v l) (hb:Below w.heap.size w w'):bE t sz E w' B T v l:=Ow.below Fr.out h hb
theorem bE.gZ [Fr E] (h:bE t sz E w B T v l) (hw:Within B' T' w w') (hd:T≤B'∨T'≤B):bE t sz E w' B T v l:=Ow.gZ Fr.out h hw fun b hb=>by have:=hb.1;have:=hb.2;omega
theorem bE.set [Fr E] (h:bE t sz E w B T v l) (hd:g < B∨T≤g):bE t sz E (w.setCell ⟨g,i,none⟩ x) B T v l :=
 Ow.frame Fr.out h fun b hb _=>Below.heap_setCell w ⟨g,i,none⟩ x b (show b≠g by have:=hb.1;have:=hb.2;omega)
theorem bE.aG (h:bE t sz E w B T v l):∃ a n cap,v=.slice a n cap:=by
 rcases h with ⟨rfl,_⟩ | ⟨g,cap,cur,cs,fs,hv,_⟩
 ·exact ⟨_,_,_,rfl⟩
 ·exact ⟨_,_,_,hv⟩
theorem Fx {e:TypeId} {n:Nat} {xs:List Value} (h:w.ownsRow B e sz (.slice (some ⟨g,0,none⟩) n n) n xs):∃ cur,w.heap[g]?=some (.cells cur e (0,0))∧cur.size=n * sz:=by
 rcases h.2 with ⟨h,_⟩ | ⟨g',c,cur,h,_,hh,_,_,h3,_⟩
 ·simp at h
 ·simp only [Value.slice.injEq,Option.some.injEq,Addr.mk.injEq,and_true,true_and] at h
  obtain ⟨rfl,rfl⟩:=h
  exact ⟨cur,hh,h3⟩
end
abbrev vX:=bE 3 1 xU
abbrev uz:=bE 124 4 je
abbrev l8:=bE 126 2 vV
abbrev xV:=bE 37 7 dh
theorem oI {w:World} {g:Nat} {t:TypeId} {c0 c1:Value} (h:w.heap[g]?=some (.cells #[c0,c1] t (0,0))):w.cell? ⟨g,0,none⟩=some c0∧w.cell? ⟨g,1,none⟩=some c1 :=
 ⟨by rw [cell_of_row w g 0 _ t (0,0) h];rfl,by rw [cell_of_row w g 1 _ t (0,0) h];rfl⟩
theorem bD {w:World} {g:Nat} {t:TypeId} {c0 c1 c2:Value} (h:w.heap[g]?=some (.cells #[c0,c1,c2] t (0,0))):w.cell? ⟨g,0,none⟩=some c0∧w.cell? ⟨g,1,none⟩=some c1∧w.cell? ⟨g,2,none⟩=some c2 :=
 ⟨by rw [cell_of_row w g 0 _ t (0,0) h];rfl,by rw [cell_of_row w g 1 _ t (0,0) h];rfl,by rw [cell_of_row w g 2 _ t (0,0) h];rfl⟩
theorem gF {w:World} {g:Nat} {t:TypeId} {c0 c1 c2 c3:Value} (h:w.heap[g]?=some (.cells #[c0,c1,c2,c3] t (0,0))):w.cell? ⟨g,0,none⟩=some c0∧w.cell? ⟨g,1,none⟩=some c1∧w.cell? ⟨g,2,none⟩=some c2∧w.cell? ⟨g,3,none⟩=some c3 :=
 ⟨by rw [cell_of_row w g 0 _ t (0,0) h];rfl,by rw [cell_of_row w g 1 _ t (0,0) h];rfl,by rw [cell_of_row w g 2 _ t (0,0) h];rfl,by rw [cell_of_row w g 3 _ t (0,0) h];rfl⟩
theorem bF {w:World} {g:Nat} {t:TypeId} {c0 c1 c2 c3 c4 c5 c6:Value} (h:w.heap[g]?=some (.cells #[c0,c1,c2,c3,c4,c5,c6] t (0,0))) :
   w.cell? ⟨g,0,none⟩=some c0∧w.cell? ⟨g,1,none⟩=some c1∧w.cell? ⟨g,2,none⟩=some c2∧w.cell? ⟨g,3,none⟩=some c3∧w.cell? ⟨g,4,none⟩=some c4∧w.cell? ⟨g,5,none⟩=some c5∧w.cell? ⟨g,6,none⟩=some c6 :=
 ⟨by rw [cell_of_row w g 0 _ t (0,0) h];rfl,by rw [cell_of_row w g 1 _ t (0,0) h];rfl,by rw [cell_of_row w g 2 _ t (0,0) h];rfl,by rw [cell_of_row w g 3 _ t (0,0) h];rfl,
  by rw [cell_of_row w g 4 _ t (0,0) h];rfl,by rw [cell_of_row w g 5 _ t (0,0) h];rfl,by rw [cell_of_row w g 6 _ t (0,0) h];rfl⟩
/- A list of the call's own, and one element more put behind it. -/
/-- The list as a row of cells, with what its elements lead to. -/
theorem Ow.row {α:Type} {t:TypeId} {sz:Nat} {E:World→List Value→α→(Nat→Prop)→Prop} {w:World} {B M:Nat} {v:Value} {l:List α} (h:Ow t sz E w (In B M) v l) :
  ∃ (xs:List Value) (cs:Nat→List Value) (fs:Nat→Nat→Prop),w.ownsRow B t sz v l.length xs∧(∀ g,v.ownBlock=some g→g < M) ∧
   (∀ i x,l[i]?=some x→E w (cs i) x (fs i)∧(cs i).length=sz∧∀ j u,(cs i)[j]?=some u→xs[i * sz+j]?=some u) ∧
   (∀ i b,i < l.length→fs i b→In B M b∧v.ownBlock≠some b)∧(∀ i j b,i < l.length→j < l.length→i≠j→fs i b→¬ fs j b):=by
 rcases h with ⟨rfl,rfl⟩ | ⟨g,cap,cur,cs,fs,rfl,hh,h1,h2,h3,h4,h5,h6,h7⟩
 ·exact ⟨[],fun _=>[],fun _ _=>False,⟨by simp,.inl ⟨rfl,rfl⟩⟩,fun g hg=>by simp [Value.ownBlock] at hg,by simp,by simp,by simp⟩
 ·have hle:l.length * sz≤cur.size:=by rw [h3];exact Nat.mul_le_mul_right _ h1
  refine ⟨cur.toList.take (l.length * sz),cs,fs,⟨by simp;omega,.inr ⟨g,cap,cur,rfl,h4.1,hh,h1,h2,h3,rfl⟩⟩,fun q hq=>?_,fun i x hx=>?_,fun i b hi hb=>⟨(h6 i b hi hb).1,?_⟩,h7⟩
  ·simp only [Value.ownBlock,Option.some.injEq] at hq
   subst hq
   exact h4.2
  ·have hi:i < l.length:=(gs1 hx).1
   obtain ⟨e1,e2,e3⟩:=h5 i x hx
   refine ⟨e1,e2,fun j u hu=>?_⟩
   have hj:j < sz:=by have:=(gs1 hu).1;omega
   have hb:i * sz+j < l.length * sz:=by
    have:=Nat.mul_le_mul_right sz (show i+1≤l.length by omega)
    rw [Nat.add_mul,Nat.one_mul] at this
    omega
   rw [List.getElem?_take,if_pos hb]
   simpa using e3 j u hu
  ·simp only [Value.ownBlock,ne_eq,Option.some.injEq]
   exact fun e=>(h6 i b hi hb).2 e.symm
/-- One element more: its cells stand behind the row, its footprint lies behind the list's. -/
theorem Ow.push {α:Type} {t:TypeId} {sz:Nat} {E:World→List Value→α→(Nat→Prop)→Prop} {w w':World} {B M:Nat} {v v':Value} {l:List α} (hE:Frames E) (h:Ow t sz E w (In B M) v l) (hM:M≤w.heap.size) (uD:B≤M)
  (x:α) (c:List Value) (hc:c.length=sz) (he:E w c x (In M w.heap.size))
  (hr:∀ xs,w.ownsRow B t sz v l.length xs→w'.ownsRow B t sz v' (l.length+1) (xs ++ c)) (hg:w.grownBy w' v.ownBlock)
  (hn:∀ g,v'.ownBlock=some g→v.ownBlock=some g∨w.heap.size≤g):Ow t sz E w' (In B w'.heap.size) v' (l ++ [x]):=by
 obtain ⟨xs,cs,fs,r1,r2,r3,r4,r5⟩:=h.row
 have hlen:=r1.1
 obtain ⟨k1,k2 | ⟨g,cap,cur,k3,k4,k5,k6,k7,k8,k9⟩⟩:=hr xs r1
 ·exfalso
  have:=k2.2
  omega
 ·have hgl:=lt_of_heap k5
  have Fy:=hg.size
  have hgo:∀ b,b < w.heap.size→v.ownBlock≠some b→w'.heap[b]?=w.heap[b]?:=fun b hb hne=>hg.block b hb fun e=>hne e.symm
  refine .inr ⟨g,cap,cur,fun i=>if i=l.length then c else cs i,fun i=>if i=l.length then In M w.heap.size else fs i,?_,k5,?_,k7,k8,⟨k4,hgl⟩,fun i y hy=>?_,fun i b hi hb=>?_,fun i j b hi hj hij hb hb'=>?_⟩
  ·rw [k3];simp
  ·simpa using k6
  ·have hxs:∀ (m:Nat) (u:Value),(xs ++ c)[m]?=some u→cur[m]?=some u:=by
    intro m u hu
    rw [← k9,List.getElem?_take] at hu
    split at hu
    ·simpa using hu
    ·cases hu
   by_cases hi:i=l.length
   ·subst hi
    rw [List.getElem?_append_right (Nat.le_refl _)] at hy
    simp only [Nat.sub_self,List.getElem?_cons_zero,Option.some.injEq] at hy
    subst hy
    simp only [if_true]
    refine ⟨hE _ _ _ _ _ he fun b hb hlt=>hgo b hlt fun e=>?_,hc,fun j u hu=>hxs _ _ ?_⟩
    ·have:=r2 b e
     have:=hb.1
     omega
    ·rw [List.getElem?_append_right (by omega),hlen]
     simpa using hu
   ·have hi':i < l.length:=by
     have:=(gs1 hy).1
     simp at this
     omega
    rw [List.getElem?_append_left hi'] at hy
    simp only [if_neg hi]
    obtain ⟨e1,e2,e3⟩:=r3 i y hy
    refine ⟨hE _ _ _ _ _ e1 fun b hb hlt=>hgo b hlt (r4 i b hi' hb).2,e2,fun j u hu=>hxs _ _ ?_⟩
    have h:=e3 j u hu
    have hm:i * sz+j < xs.length:=(gs1 h).1
    rw [List.getElem?_append_left hm]
    exact h
  ·simp only [List.length_append,List.length_cons,List.length_nil] at hi
   by_cases hil:i=l.length
   ·simp only [if_pos hil] at hb
    refine ⟨⟨by have:=hb.1;omega,by have:=hb.2;omega⟩,fun e=>?_⟩
    subst e
    rcases hn b (by rw [k3];rfl) with h | h
    ·have:=r2 b h
     have:=hb.1
     omega
    ·have:=hb.2
     omega
   ·simp only [if_neg hil] at hb
    have hi':i < l.length:=by omega
    obtain ⟨q1,q2⟩:=r4 i b hi' hb
    refine ⟨⟨q1.1,by have:=q1.2;omega⟩,fun e=>?_⟩
    subst e
    rcases hn b (by rw [k3];rfl) with h | h
    ·exact q2 h
    ·have:=q1.2
     omega
  ·simp only [List.length_append,List.length_cons,List.length_nil] at hi hj
   by_cases hil:i=l.length
   ·have hjl:j≠l.length:=fun e=>hij (hil.trans e.symm)
    simp only [if_pos hil] at hb
    simp only [if_neg hjl] at hb'
    have:=(r4 j b (by omega) hb').1.2
    have:=hb.1
    omega
   ·simp only [if_neg hil] at hb
    by_cases hjl:j=l.length
    ·simp only [if_pos hjl] at hb'
     have:=(r4 i b (by omega) hb).1.2
     have:=hb'.1
     omega
    ·simp only [if_neg hjl] at hb'
     exact r5 i j b (by omega) (by omega) hij hb hb'
/- What lay of impl.OU does. -/
open Go.RowKit Go.Maps
def lD (E:aX) (v:Int) (ms:List aF):aX:=ms.foldl (fun E m=>j4 E v m.uid m) E
theorem Xf {E:aX} {v:Int} {ms:List aF} {k:Nat} {m:aF} (h:ms[k]?=some m):lD E v (ms.take (k+1))=j4 (lD E v (ms.take k)) v m.uid m:=by
 obtain ⟨hk,rfl⟩:=gs1 h
 unfold lD
 rw [List.take_succ_eq_append_getElem hk,List.foldl_append]
 rfl
theorem Xg (w:World) (r:Option Nat):w.grownBy w r:=World.grownBy.refl _ _
theorem OV {w w':World} {r:Option Nat} (h:w.grownBy w' r) (o:Obj):w.grownBy (w'.alloc o) r:=by
 refine ⟨h.os,h.tape,h.output,by simp;exact Nat.le_succ_of_le h.size,fun i hi hne=>?_⟩
 rw [← h.block i hi hne]
 exact ((Below.refl w'.heap.size w').alloc (Nat.le_refl _) o).block i (Nat.lt_of_lt_of_le hi h.size)
theorem Xh {w w' w'':World} {b:Nat} (h:w.grownBy w' (some b)) (k:w'.grownBy w'' (some b)):w.grownBy w'' (some b) :=
 ⟨k.os.trans h.os,k.tape.trans h.tape,k.output.trans h.output,Nat.le_trans h.size k.size,fun i hi hne=>(k.block i (Nat.lt_of_lt_of_le hi h.size) hne).trans (h.block i hi hne)⟩
theorem p8 {w w':World} {g b:Nat} {o:Obj} (h:w.grownBy w' (some g)) (hb:w.heap[b]?=some o) (hne:b≠g):w'.heap[b]?=some o:=(h.block b (lt_of_heap hb) fun e=>hne (by simpa using e)).trans hb
/- The map of ah whose values are read in an earlier world: what lies there stays, so the map is held whatever else turns. -/
open Go.RowKit Go.Maps
def MR (wt w:World) (b n:Nat) (E:aX):Prop :=
 ∃ D:DataW Value,w.ownsMap Tryz.prog 135 RM b n D∧Maps.size D=E.length∧pY E∧(∀ e ∈ E,aB e.1∧aB e.2.1) ∧
  ∀ v u,aB v→aB u→match cB E v u with
   | some m=>∃ x,gK wt x m∧∀ z,D.atKey (dI v u) z=.held x
   | none=>∀ z,D.atKey (dI v u) z=z
section
variable {wt w w' : World} {b n : Nat} {E : aX}
theorem MR.lt (h:MR wt w b n E):b < w.heap.size:=let ⟨_,h,_⟩:=h;h.lt
theorem MR.kept (h:MR wt w b n E) (hb:w'.heap[b]?=w.heap[b]?):MR wt w' b n E :=
 let ⟨D,⟨es,c,e1,e2⟩,r⟩:=h;⟨D,⟨es,c,hb.trans e1,e2⟩,r⟩
theorem MR.mm (h:MR wt w b n E) (hb:Below wt.heap.size wt w):MM w b n E:=by
 obtain ⟨D,h1,h2,h3,h4,h5⟩:=h
 refine ⟨D,h1,h2,h3,h4,fun v u hv hu=>?_⟩
 have:=h5 v u hv hu
 cases hf:cB E v u with
 | some m =>
  rw [hf] at this
  obtain ⟨x,hx,hz⟩:=this
  exact ⟨x,hx.lC (OQ hb),hz⟩
 | none =>
  rw [hf] at this
  exact this
theorem MR.made (wt w:World):MR wt (w.alloc (.map #[] 0)) w.heap.size 0 []:=by
 refine ⟨.map [],World.ownsMap_made _ _ _ _,rfl,List.Pairwise.nil,by simp,fun v u _ _=>?_⟩
 simp [cB,DataW.atKey]
theorem MR.store {v u:Int} {md:aF} {x:Value} (h:MR wt w b n E) (hn:n < maxLen) (hv:aB v) (hu:aB u) (hx:gK wt x md) :
  ∃ w',(Instr.mapUpdate 106 (.map (some b)) (.agg #[.int .i64 v,.int .i64 u]) x).run Tryz.prog w=.ok () w'∧MR wt w' b (n+1) (j4 E v u md)∧w.grownBy w' (some b):=by
 obtain ⟨D,h1,h2,h3,h4,h5⟩:=h
 obtain ⟨w',hr,ho,hg⟩:=h1.update nQ vW hn (rW hv hu) (OO hx)
 refine ⟨w',hr,⟨_,ho,?_,h3.put v u md,fun e he=>?_,fun v' u' hv' hu'=>?_⟩,hg⟩
 ·rw [size_put (h1.tidy nQ),MM.has (h5 v u hv hu),h2]
  have:=Fw h3 v u
  unfold j4
  rw [List.length_append,List.length_singleton]
  split <;> simp_all <;> omega
 ·rcases List.mem_append.1 he with he | he
  ·exact h4 e (List.mem_filter.1 he).1
  ·rw [List.mem_singleton] at he
   subst he
   exact ⟨hv,hu⟩
 ·by_cases e:v'=v∧u'=u
  ·obtain ⟨rfl,rfl⟩:=e
   rw [Bb]
   exact ⟨x,hx,fun z=>atKey_put_same h1.isMap (IZ hv hu) _ _⟩
  ·rw [zL e]
   have hne:dI v' u'≠dI v u:=fun e2=>e (zK hv' hu' hv hu e2)
   have:=h5 v' u' hv' hu'
   split at this
   ·obtain ⟨y,hy,hz⟩:=this
    exact ⟨y,hy,fun z=>(atKey_put_other hne _ _).trans (hz z)⟩
   ·exact fun z=>(atKey_put_other hne _ _).trans (this z)
theorem MR.drop {v u:Int} (h:MR wt w b n E) (hv:aB v) (hu:aB u) (ty:TypeId) :
  ∃ w',(Builtin.delete_ #[106,135] ty #[.map (some b),.agg #[.int .i64 v,.int .i64 u]]).run Tryz.prog w=.ok (.tuple #[]) w'∧MR wt w' b n (kJ E v u)∧w.grownBy w' (some b):=by
 obtain ⟨D,h1,h2,h3,h4,h5⟩:=h
 obtain ⟨w',hr,ho,hg⟩:=h1.drop nQ vW (rW hv hu) ty
 refine ⟨w',hr,⟨_,ho,?_,h3.del v u,fun e he=>h4 e (List.mem_filter.1 he).1,fun v' u' hv' hu'=>?_⟩,hg.grown⟩
 ·have a1:=size_del (k:=dI v u) (h1.tidy nQ)
  rw [MM.has (h5 v u hv hu)] at a1
  have:=Fw h3 v u
  omega
 ·by_cases e:v'=v∧u'=u
  ·obtain ⟨rfl,rfl⟩:=e
   rw [Fv]
   exact fun z=>atKey_del_same z
  ·rw [Ba e]
   have hne:dI v' u'≠dI v u:=fun e2=>e (zK hv' hu' hv hu e2)
   have:=h5 v' u' hv' hu'
   split at this
   ·obtain ⟨y,hy,hz⟩:=this
    exact ⟨y,hy,fun z=>(atKey_del_other hne _).trans (hz z)⟩
   ·exact fun z=>(atKey_del_other hne _).trans (this z)
end
/- ahm lay, the ah being read in an earlier world. -/
open Go.RowKit Go.Maps
theorem I6 {wt w w':World} {g:Nat} (h:Below wt.heap.size wt w) (hg:w.grownBy w' (some g)) (hN:wt.heap.size≤g):Below wt.heap.size wt w' :=
 ⟨hg.os.trans h.os,hg.tape.trans h.tape,hg.output.trans h.output,Nat.le_trans h.size hg.size,fun k hk=>(hg.block k (by have:=h.size;omega) (fun e=>by have:=Option.some.inj e;omega)).trans (h.block k hk)⟩
theorem Xi (wt:World) (g n:Nat) (E:aX) (v:Value) (x:aD) (w:World) (h:MR wt w g n E) (hv:bK wt v x) (hb:Below wt.heap.size wt w) (hg:wt.heap.size≤g) (hn:n≤2000000) (hm:x.ah.length≤2000000) :
  Calls Tryz.prog 73 #[.map (some g),v] w fun e w'=>e=.returned (.tuple #[])∧MR wt w' g (n+x.ah.length) (lD E x.valid x.ah)∧w.grownBy w' (some g):=by
 obtain ⟨u0,u1,u2,rfl,g0,g1,g2,i0,-⟩:=hv
 obtain ⟨a0,n0,c0,rfl⟩:=g0.aG
 obtain ⟨a1,c1,rfl,m0,m1⟩:=g1.form
 obtain ⟨a2,c2,rfl,-⟩:=g2.form
 have ahn:=h.lt
 have HV:Hid (bY wt (.slice a1 x.ah.length c1) x.ah):=g1
 have HB:Hid (∀ wi,w.grownBy wi (some g)→Below wt.heap.size wt wi):=fun wi h=>I6 hb h hg
 have HK:Hid _:=aV w (.cells #[.slice a0 n0 c0,.int .i64 x.valid,.int .i64 x.next,.int .i64 x.seq,.slice a1 x.ah.length c1,.slice a2 x.au.length c2,.int .i64 x.lost] 37)
 have HG:Hid (w.grownBy (w.alloc (.cells #[.slice a0 n0 c0,.int .i64 x.valid,.int .i64 x.next,.int .i64 x.seq,.slice a1 x.ah.length c1,.slice a2 x.au.length c2,.int .i64 x.lost] 37)) (some g)):=OV (Xg _ _) _
 have HM:Hid (MR wt (w.alloc (.cells #[.slice a0 n0 c0,.int .i64 x.valid,.int .i64 x.next,.int .i64 x.seq,.slice a1 x.ah.length c1,.slice a2 x.au.length c2,.int .i64 x.lost] 37)) g n E):=h.kept ((bn _ _).block g h.lt)
 have I0:Hid (aB x.valid):=i0
 clear g0 g1 g2 h i0 hb
 obtain ⟨f0,f1,f2,f3,f4,f5,f6⟩:=bF HK.out
 go_enter Tryz.func73,Tryz.ntmps73
 go_wp2
 clear f0 f1 f2 f3 f4 f5 f6
 go_loopw [9] (fun i wr=>∃ k:Nat,k≤x.ah.length∧i=.int .i64 k∧Hid (MR wt wr g (n+k) (lD E x.valid (x.ah.take k)))∧Hid (w.grownBy wr (some g))∧Hid (wr.heap[w.heap.size]?=some (.cells #[.slice a0 n0 c0,.int .i64 x.valid,.int .i64 x.next,.int .i64 x.seq,.slice a1 x.ah.length c1,.slice a2 x.au.length c2,.int .i64 x.lost] 37 (0,0)))) (fun i _=>x.ah.length - (intOf i).toNat)
 case atStart=>exact ⟨0,Nat.zero_le _,rfl,HM.out,HG.out,HK.out⟩
 case round =>
  obtain ⟨k,hk,rfl,hM,hG,hK⟩:=hrel
  clear HM HG HK
  by_cases hlt2:k < x.ah.length
  ·obtain ⟨m,hx⟩:∃ m,x.ah[k]?=some m:=⟨x.ah[k],aK hlt2⟩
   obtain ⟨b,off,cp,t,hv',hlt,y0,y1,y2,y3,ht,j0,j1,j2⟩:=bY.cell HV.out k m hx
   have hBr:=HB.out wr hG.out
   have hlb:b < wr.heap.size:=Nat.lt_of_lt_of_le hlt hBr.size
   have e0:=(hBr.cell (p:=⟨b,_,none⟩) hlt).trans y0
   have e1:=(hBr.cell (p:=⟨b,_,none⟩) hlt).trans y1
   have e2:=(hBr.cell (p:=⟨b,_,none⟩) hlt).trans y2
   have e3:=(hBr.cell (p:=⟨b,_,none⟩) hlt).trans y3
   clear y0 y1 y2 y3 hBr hlt
   simp only [Value.slice.injEq,true_and] at hv'
   obtain ⟨rfl,rfl⟩:=hv'
   obtain ⟨f0,f1,f2,f3,f4,f5,f6⟩:=bF hK.out
   have ld:=lt_of_heap hK.out
   have hki:(k:Int) < x.ah.length:=by omega
   obtain ⟨ta,tn,tc,rfl⟩:=ht.aG
   have hA:Below wr.heap.size wr (wr.alloc (.cells #[.int .i64 m.uid,.int .i64 m.flags,.int .i64 m.seq,.slice ta tn tc] 124)):=bn _ _
   obtain ⟨w2,hrun,hM2,hG2⟩:=(hM.out.kept (hA.block g hM.out.lt)).store (md:=m) (by unfold maxLen;omega) I0.out j0 ⟨.slice ta tn tc,rfl,ht,j0,j1,j2⟩
   have Xj:Hid (MR wt w2 g (n+(k+1)) (lD E x.valid (x.ah.take (k+1)))):=by
    rw [Xf hx]
    exact hM2
   have HG2:Hid (w.grownBy w2 (some g)):=Xh (OV hG.out _) hG2
   have dw:Hid _:=p8 hG2 (ay hA hK.out) (by omega)
   clear hM2 hG2 hA hM hG
   go_wp2
   go_roundw
   case rel=>exact ⟨k+1,by omega,by simp,Xj.out,HG2.out,dw.out⟩
   case measure=>simp [intOf];omega
  ·have hkk:k=x.ah.length:=by omega
   subst hkk
   go_wp2
   go_end0
   exact ⟨rfl,by simpa using hM.out,hG.out⟩
/- Keys that are sorted by their second number. -/
def eX (x:Int × Int):List Value:=[.int .i64 x.1,.int .i64 x.2]
def xW (x y:Int × Int):Int:=Go.Lib.compareInt x.2 y.2
theorem Fz (x y:Int × Int):ltOf xW x y=decide (x.2 < y.2):=by
 unfold ltOf xW Go.Lib.compareInt
 by_cases h1:x.2 < y.2
 ·simp [h1]
 ·by_cases h2:y.2 < x.2 <;> simp [h1,h2]
theorem Xk:Go.Sort.SWO (ltOf xW) where
 irrefl x:=by rw [Fz];simp
 trans x y z h1 h2:=by rw [Fz] at *;simp at *;omega
 ntrans x y z h1 h2:=by rw [Fz] at *;simp at *;omega
theorem Xl (x y:Int × Int) (W:World):Calls Tryz.prog 138 #[.agg #[.int .i64 x.1,.int .i64 x.2],.agg #[.int .i64 y.1,.int .i64 y.2]] W fun e w'=>e=.returned (.int .i64 (xW x y))∧∃ q os',w'=Go.Sort.grow (W.drewN q) os':=by
 have hcon:=fun W'=>Tryz.cmp_Compare_int x.2 y.2 W'
 have hcf:xW x y=Go.Lib.compareInt x.2 y.2:=rfl
 rw [hcf]
 generalize Go.Lib.compareInt x.2 y.2=r at hcon ⊢
 go_enter Tryz.func138,Tryz.ntmps138
 go_wp2_with (go_at_call 139;refine (hcon _).mono ?_;rintro e w' ⟨rfl,rfl⟩)
 go_ret
 exact ⟨rfl,0,_,by rw [Go.Sort.alloc_eq_grow,Go.Sort.alloc_eq_grow,Go.Sort.grow_grow];rfl⟩
theorem I7 (n:Nat) (W:World) (h:n≤12):Calls Tryz.prog 136 #[.int .u64 n] W fun e w'=>(∃ l:Int,e=.returned (.int .i64 l))∧w'=W :=
 (Tryz.bits_Len n W (by omega) (by omega)).mono fun _ _ ⟨he,hw⟩=>⟨⟨_,he⟩,hw⟩
theorem Xm (w:World):(isAgg 135).run Tryz.prog w=.ok true w:=Tryz.isAgg135 w
theorem Xn (w:World):(Go.sizeOf 135).run Tryz.prog w=.ok 2 w:=Tryz.sizeOf135 w
theorem Xo (blk cap:Nat) (d:Array (Int × Int)) (w:World) (hH:Go.Sort.HoldsK eX 2 w blk 0 d) (hblk:blk < w.heap.size) (h12:d.size≤12) :
  Calls Tryz.prog 137 #[.slice (some ⟨blk,0,none⟩) d.size cap,.func (.func 138) #[] #[]] w
   fun e w'=>e=.returned (.tuple #[])∧∃ d' n os,Go.Sort.PermIn 0 d.size d d'∧Go.Sort.SortedIn (ltOf xW) 0 d.size d'∧w'=sortWorldK eX 2 w blk 0 n d' os:=by
 have eg:∀ args w,(callFunc 138 args).run Tryz.prog w=.ok (.enter 138 args) w:=enters_of Tryz.func138 (by kernel_rfl) rfl
 exact AnyQ.slices_SortFunc_small_sorted Tryz.sortKeys 2 Xm Xn eX (fun _=>rfl) (fun x v hv=>by simp [eX] at hv;rcases hv with rfl | rfl <;> rfl) xW 138 #[] Xk blk 0 cap d w eg (fun _ _ _ _ x y=>Xl x y _) hH hblk h12 I7
/-- Keys as they are read, and as they are the call's own. -/
def I8 (_:World) (c:List Value) (x:Int × Int):Prop:=c=[.int .i64 x.1,.int .i64 x.2]∧aB x.1∧aB x.2
def xX (w:World) (c:List Value) (x:Int × Int) (_:Nat→Prop):Prop:=I8 w c x
abbrev xY:=Rd 2 I8
theorem FB:Frames xX:=fun _ _ _ _ _ h _=>h
theorem Xp:Keeps I8:=fun _ _ _ _ _ h=>h
end Go.Proofs.YtlneebmlhblleaaGreat
