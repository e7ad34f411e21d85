/- The proof's texts, part 7. -/
import Derived.Test.YtmglhdkeidhafaaGreatT4
import Derived.Lib.AppendStr
import Derived.Maps.RangeWalk
import Derived.Maps.OwnSet
import Derived.Maps.OwnOps
import Derived.DeepKeys4
import Derived.Test.YtmglhdkeidhafaaGreatT1
import Derived.Shelf.Abstract
import Derived.Lib.BytesEntry
namespace Go.Proofs.YtmglhdkeidhafaaGreat
open Go.RowKit
set_option linter.unusedVariables false
set_option linter.unusedSimpArgs false
set_option maxHeartbeats 2000000
set_option maxRecDepth 100000
/- What bytes.Equal and ae2 of package impl do. -/
theorem Hy:∀ {l m:List Int},Oct l→Oct m→dN l=dN m→l=m
 | [],[],_,_,_=>rfl
 | [],_ :: _,_,_,h=>by simp [dN] at h
 | _ :: _,[],_,_,h=>by simp [dN] at h
 | x :: l,y :: m,hl,hm,h=>by
  simp only [dN,List.map_cons,List.cons.injEq] at h
  have hx:=hl x (by simp)
  have hy:=hm y (by simp)
  have h1:x=y:=by
   have:=congrArg UInt8.toNat h.1
   simp only [UInt8.toNat_ofNat'] at this
   rw [Nat.mod_eq_of_lt (by omega),Nat.mod_eq_of_lt (by omega)] at this
   omega
  rw [h1,Hy (fun z hz=>hl z (by simp [hz])) (fun z hz=>hm z (by simp [hz])) h.2]
theorem Hz (l:List Int):(strOfNums l).toList=dN l:=by
 rw [ByteArray.toList_eq]
 rfl
theorem str_eq {l m:List Int} (hl:Oct l) (hm:Oct m):((strOfNums l).toList == (strOfNums m).toList)=decide (l=m):=by
 rw [Hz,Hz,Bool.eq_iff_iff]
 simp only [beq_iff_eq,decide_eq_true_eq]
 exact ⟨Hy hl hm,fun h=>by rw [h]⟩
theorem VK (v u:Value) (l m:List Int) (w:World) (hv:Bs w v l) (hu:Bs w u m) :
  Calls Tryz.prog 69 #[v,u] w fun e w'=>e=.returned (.bool (decide (l=m)))∧w'=w:=by
 have h1:=rA hv
 have h2:=rA hu
 have HE:Hid (((strOfNums l).toList == (strOfNums m).toList)=decide (l=m)):=str_eq hv.1 hu.1
 obtain ⟨a,n,c,rfl⟩:=hv.aG
 obtain ⟨a',n',c',rfl⟩:=hu.aG
 clear hv hu
 go_enter Tryz.func69,Tryz.ntmps69
 go_wp2
 go_ret
 exact ⟨aP HE.out.symm,rfl⟩
/- Strings put behind bytes of the call's own. -/
theorem VL {s:List Int} (h:Oct s):Lib.strCells (strOfNums s)=vals s:=by
 unfold Lib.strCells vals
 rw [strOfNums_data,List.map_map]
 refine List.map_congr_left fun x hx=>?_
 have:=h x hx
 simp only [Function.comp]
 rw [UInt8.toNat_ofNat']
 congr 1
 omega
/- Commands as texts, on lists. -/
/- What ae3 of package spec does. -/
/- A map of ah, keyed by a rV number and a H9. -/
open Go.RowKit Go.Maps
theorem VN:laidOutB Tryz.prog=true:=by kernel_rfl
theorem NH:(103:TypeId) < Tryz.prog.types.size:=of_decide_eq_true (by kernel_rfl)
theorem pE:Tryz.prog.underlying 103=some (.array 2 3):=by kernel_rfl
theorem mZ:Keyed Tryz.prog 103:=Keyed.of_law (deep_law_laid VN (m:=2) (by omega) NH (by kernel_rfl) (by rw [pE]))
theorem vD:Tryz.prog.underlying 78=some (.map 103 72):=by kernel_rfl
theorem NI (w:World):(zeroValue 72).run Tryz.prog w=.ok (.agg #[.int .i64 0,.int .i64 0,.int .i64 0,.slice none 0 0]) w:=by kernel_rfl
theorem Ia:Tryz.prog.cellsOf 103=2:=by kernel_rfl
theorem NJ:Tryz.prog.cellsOf 3=1:=by kernel_rfl
theorem NK:Tryz.prog.underlying 3=some (.int .i64):=by kernel_rfl
theorem NM:Tryz.prog.keyType 103=true:=by kernel_rfl
theorem VO {m k:Nat} (h:k < m):∃ n,m=n+1:=⟨m - 1,by omega⟩
theorem NP:∃ n,Tryz.prog.types.size=n+1:=VO NH
theorem VP {α:Type}:∀ {l:List α},l.length=2→∃ a b,l=[a,b]
 | [a,b],_=>⟨a,b,rfl⟩
 | [],h=>by simp at h
 | [_],h=>by simp at h
 | _ :: _ :: _ :: _,h=>by simp at h
def za (v u:Int):Value:=.agg #[.int .i64 v,.int .i64 u]
def dM (v u:Int):Lit:=.string (keyBytes [.int .i64 v,.int .i64 u])
theorem rW {v u:Int} (hv:ay v) (hu:ay u):keyOf Tryz.prog 103 (za v u)=some (dM v u):=by
 obtain ⟨n,hn⟩:=NP
 have w1:=WalkArith.wf_i64 hv
 have w2:=WalkArith.wf_i64 hu
 have hr:List.range 2=[0,1]:=rfl
 simp [keyOf,pE,NM,za,Value.formed,Ia,hn,Program.keyLits,Value.cells,NJ,NK,w1,w2,hr,dM]
theorem NQ {key:Value} {kl:Lit} (h:keyOf Tryz.prog 103 key=some kl):∃ v u,key=za v u∧kl=dM v u∧ay v∧ay u:=by
 obtain ⟨n,hn⟩:=NP
 have hr:List.range 2=[0,1]:=rfl
 have h0:=h
 simp only [keyOf,pE,NM,Bool.true_and] at h
 split at h
 ·rename_i hf
  cases key with
  | agg cs =>
   simp only [Value.formed,pE,Ia,beq_iff_eq] at hf
   obtain ⟨l⟩:=cs
   obtain ⟨a,b,rfl⟩:∃ a b,l=[a,b]:=VP hf
   ·skip
    simp only [hn,Program.keyLits,pE,Value.cells,Ia,NJ,hr,NK,List.length_cons,List.length_nil,if_true,List.mapM_cons,List.mapM_nil,Nat.zero_mul,Nat.one_mul,List.drop_zero,List.take_succ_cons,List.take_zero,List.drop_succ_cons,List.drop_nil,List.take_nil] at h
    cases a with
    | int q x =>
     by_cases hq:q=.i64∧(Lit.int .i64 x).wf=true
     ·obtain ⟨rfl,w1⟩:=hq
      cases b with
      | int q y =>
       by_cases hq:q=.i64∧(Lit.int .i64 y).wf=true
       ·obtain ⟨rfl,w2⟩:=hq
        have i1:ay x:=by simpa [Lit.wf,IntKind.min,IntKind.max,IntKind.bits,IntKind.signed,ay] using w1
        have i2:ay y:=by simpa [Lit.wf,IntKind.min,IntKind.max,IntKind.bits,IntKind.signed,ay] using w2
        have hk:=rW i1 i2
        refine ⟨x,y,rfl,?_,i1,i2⟩
        rw [show za x y=Value.agg ⟨[.int .i64 x,.int .i64 y]⟩ from rfl,h0] at hk
        exact Option.some.inj hk
       ·simp [hq] at h
      | _=>simp at h
     ·simp [hq] at h
    | _=>simp at h
  | _=>simp [Value.formed,pE] at hf
 ·cases h
theorem ze {v u v' u':Int} (hv:ay v) (hu:ay u) (hv':ay v') (hu':ay u') (h:dM v u=dM v' u'):v=v'∧u=u':=by
 have:=mZ.inj (rW hv hu) (h ▸ rW hv' hu')
 simpa [za] using this
theorem Ib {v u:Int} (hv:ay v) (hu:ay u):WideAt.IsKeyLit (dM v u):=mZ.key (rW hv hu)
/-- A H9 value in the map: its three numbers and its text. -/
def pF (p:(Int × Int × Int) × (Option Addr × Nat × Nat)):Value:=.agg #[.int .i64 p.1.1,.int .i64 p.1.2.1,.int .i64 p.1.2.2,.slice p.2.1 p.2.2.1 p.2.2.2]
def Ic:Value→Bool
 | .agg cs=>match cs.toList with | [.int .i64 _,.int .i64 _,.int .i64 _,.slice _ _ _]=>true | _=>false
 | _=>false
theorem VQ {v:Value} (h:Ic v=true):∃ p,v=pF p:=by
 unfold Ic at h
 split at h
 ·rename_i cs
  split at h
  ·rename_i a b c x y z e
   obtain ⟨l⟩:=cs
   exact ⟨((a,b,c),(x,y,z)),by simp only at e;subst e;rfl⟩
  ·cases h
 ·cases h
/-- How the map's elements are told: as they are. -/
def RM (v:Value):Option (DataW Value × List MemPlace):=if Ic v then some (.held v,[]) else none
theorem Ie {v:Value} {y:DataW Value × List MemPlace} (h:RM v=some y):(∃ p,v=pF p)∧y=(.held v,[]):=by
 unfold RM at h
 split at h
 ·rename_i hs
  exact ⟨VQ hs,(Option.some.inj h).symm⟩
 ·cases h
theorem NR {w:World} {v:Value} {m:aC} (h:iA w v m):RM v=some (.held v,[]):=by
 obtain ⟨u,rfl,hb,-⟩:=h
 obtain ⟨a,n,c,rfl⟩:=hb.aG
 rfl
/-- An element's cells, all cells, stay. -/
def kM (w w':World):Prop:=w.heap.size≤w'.heap.size∧∀ p v,w.cell? p=some v→w'.cell? p=some v
theorem kM.refl (w:World):kM w w:=⟨Nat.le_refl _,fun _ _ h=>h⟩
theorem kM.trans {w w' w'':World} (h:kM w w') (h':kM w' w''):kM w w'':=⟨Nat.le_trans h.1 h'.1,fun p v e=>h'.2 p v (h.2 p v e)⟩
theorem NS {w:World} {p:Addr} {v:Value} (h:w.cell? p=some v):p.block < w.heap.size:=by
 unfold World.cell? at h
 split at h
 ·rename_i e
  exact lt_of_heap e
 ·cases h
theorem NU {w w':World} (h:Below w.heap.size w w'):kM w w':=⟨h.size,fun _ _ e=>(h.cell (NS e)).trans e⟩
/-- A map is turned: no cell is. -/
theorem NV {w w':World} {b:Nat} {es:Array MapEntry} {c:Nat} (hb:w.heap[b]?=some (.map es c)) (h:w.grownBy w' (some b)):kM w w':=by
 refine ⟨h.size,fun p v e=>?_⟩
 have hne:p.block≠b:=by
  intro e2
  unfold World.cell? at e
  rw [e2,hb] at e
  cases e
 have hk:=h.block p.block (NS e) (fun e2=>hne (Option.some.inj e2))
 unfold World.cell? at e ⊢
 rw [hk]
 exact e
theorem Bs.kN {w w':World} {v:Value} {l:List Int} (h:Bs w v l) (hc:kM w w'):Bs w' v l:=by
 obtain ⟨h0,a,cap,hv,h1,h2,h3,h4⟩:=h
 exact ⟨h0,a,cap,hv,h1,h2,h3,fun hp=>let ⟨b,off,ha,hb,hx⟩:=h4 hp;⟨b,off,ha,Nat.lt_of_lt_of_le hb hc.1,fun i hi=>hc.2 _ _ (hx i hi)⟩⟩
theorem iA.kN {w w':World} {v:Value} {m:aC} (h:iA w v m) (hc:kM w w'):iA w' v m:=let ⟨u,h0,h1,r⟩:=h;⟨u,h0,h1.kN hc,r⟩
theorem Rd.kN {α:Type} {sz:Nat} {E:World→List Value→α→Prop} {w w':World} {v:Value} {l:List α} (hE:∀ c x,E w c x→E w' c x) (h:Rd sz E w v l) (hc:kM w w'):Rd sz E w' v l:=by
 obtain ⟨a,cap,cs,hv,h1,h2,h3,h4,h5⟩:=h
 exact ⟨a,cap,cs,hv,h1,h2,h3,fun i x hx=>⟨hE _ _ (h4 i x hx).1,(h4 i x hx).2⟩,fun hp=>let ⟨b,off,ha,hb,hx⟩:=h5 hp;⟨b,off,ha,Nat.lt_of_lt_of_le hb hc.1,fun i j u hi hu=>hc.2 _ _ (hx i j u hi hu)⟩⟩
theorem eT.kN {w w':World} {v:Value} {l:List aC} (h:eT w v l) (hc:kM w w'):eT w' v l:=Rd.kN (fun _ _ ⟨u,h0,h1,r⟩=>⟨u,h0,h1.kN hc,r⟩) h hc
theorem dD.kN {w w':World} {v:Value} {l:List bB} (h:dD w v l) (hc:kM w w'):dD w' v l:=Rd.kN (w:=w) (E:=wW) (fun _ _ h=>h) h hc
theorem bI.kN {w w':World} {v:Value} {b:aA} (h:bI w v b) (hc:kM w w'):bI w' v b :=
 let ⟨u0,u1,u2,h0,h1,h2,h3,r⟩:=h;⟨u0,u1,u2,h0,h1.kN hc,h2.kN hc,h3.kN hc,r⟩
/-- Entries: a rV number, a H9, the dV. -/
abbrev aU:=List (Int × Int × aC)
def isK (v u:Int) (e:Int × Int × aC):Bool:=decide (e.1=v∧e.2.1=u)
def bW (E:aU) (v u:Int):Option aC:=(E.find? (isK v u)).map fun e=>e.2.2
def jY (E:aU) (v u:Int):aU:=E.filter fun e=>!isK v u e
def jQ (E:aU) (v u:Int) (m:aC):aU:=jY E v u ++ [(v,u,m)]
/-- No key twice. -/
def pG (E:aU):Prop:=E.Pairwise fun e f=>¬ (e.1=f.1∧e.2.1=f.2.1)
/-- Block b is a map of these entries. -/
def MM (w:World) (b n:Nat) (E:aU):Prop :=
 ∃ D:DataW Value,w.ownsMap Tryz.prog 103 RM b n D∧Maps.size D=E.length∧pG E∧(∀ e ∈ E,ay e.1∧ay e.2.1) ∧
  ∀ v u,ay v→ay u→match bW E v u with
   | some m=>∃ x,iA w x m∧∀ z,D.atKey (dM v u) z=.held x
   | none=>∀ z,D.atKey (dM v u) z=z
section
variable {w w' : World} {b n : Nat} {E : aU}
theorem MM.lt (h:MM w b n E):b < w.heap.size:=let ⟨_,h,_⟩:=h;h.lt
theorem MM.block (h:MM w b n E):∃ es c,w.heap[b]?=some (.map es c):=let ⟨_,⟨es,c,hb,_⟩,_⟩:=h;⟨es,c,hb⟩
theorem MM.mono {n':Nat} (h:MM w b n E) (hn:n≤n'):MM w b n' E:=let ⟨D,h1,r⟩:=h;⟨D,h1.mono hn,r⟩
theorem MM.kept (h:MM w b n E) (hb:w'.heap[b]?=w.heap[b]?) (hc:kM w w'):MM w' b n E:=by
 obtain ⟨D,⟨es,c,e1,e2⟩,h2,h3,h4,h5⟩:=h
 refine ⟨D,⟨es,c,hb.trans e1,e2⟩,h2,h3,h4,fun v u hv hu=>?_⟩
 have:=h5 v u hv hu
 split at this
 ·obtain ⟨x,hx,hz⟩:=this
  exact ⟨x,hx.kN hc,hz⟩
 ·exact this
theorem MM.below (h:MM w b n E) (hb:Below w.heap.size w w'):MM w' b n E:=h.kept (hb.block b h.lt) (NU hb)
theorem MM.has {D:DataW Value} {v u:Int} (h5:match bW E v u with
   | some m=>∃ x,iA w x m∧∀ z,D.atKey (dM v u) z=.held x
   | none=>∀ z,D.atKey (dM v u) z=z):Maps.has D (dM v u)=(bW E v u).isSome:=by
 split at h5
 ·rename_i m e
  obtain ⟨x,-,hz⟩:=h5
  rw [e]
  exact has_true_of_atKey hz
 ·rename_i e
  rw [e]
  exact has_false_of_atKey h5
theorem MM.made (w:World):MM (w.alloc (.map #[] 0)) w.heap.size 0 []:=by
 refine ⟨.map [],World.ownsMap_made _ _ _ _,rfl,List.Pairwise.nil,by simp,fun v u _ _=>?_⟩
 simp [bW,DataW.atKey]
end
/-! ### entries -/
theorem AY {v u:Int} {e:Int × Int × aC}:isK v u e=true↔e.1=v∧e.2.1=u:=by simp [isK]
theorem Em (E:aU) (v u:Int):bW (jY E v u) v u=none:=by
 unfold bW jY
 rw [List.find?_eq_none.2]
 ·rfl
 ·intro e he
  have:=(List.mem_filter.1 he).2
  simpa using this
theorem AZ {E:aU} {v u v' u':Int} (hne:¬ (v'=v∧u'=u)):bW (jY E v u) v' u'=bW E v' u':=by
 unfold bW jY
 rw [List.find?_filter]
 congr 2
 funext e
 by_cases h:isK v' u' e=true
 ·have h':=AY.1 h
  have:isK v u e=false:=by
   simp only [isK,decide_eq_false_iff_not]
   rintro ⟨h1,h2⟩
   exact hne ⟨h'.1.symm.trans h1,h'.2.symm.trans h2⟩
  rw [h,this];rfl
 ·rw [Bool.not_eq_true] at h
  simp [h]
theorem A8 (E:aU) (v u:Int) (m:aC):bW (jQ E v u m) v u=some m:=by
 unfold jQ
 have h:=Em E v u
 unfold bW at h ⊢
 rw [List.find?_append,Option.map_eq_none_iff.1 h]
 simp [isK]
theorem zf {E:aU} {v u v' u':Int} {m:aC} (hne:¬ (v'=v∧u'=u)):bW (jQ E v u m) v' u'=bW E v' u':=by
 rw [← AZ hne (E:=E)]
 unfold jQ bW
 rw [List.find?_append]
 have:List.find? (isK v' u') [(v,u,m)]=none:=by
  simp only [List.find?_cons,List.find?_nil]
  rw [show isK v' u' (v,u,m)=false by simp only [isK,decide_eq_false_iff_not];rintro ⟨h1,h2⟩;exact hne ⟨h1.symm,h2.symm⟩]
 rw [this,Option.or_none]
theorem pG.del {E:aU} (h:pG E) (v u:Int):pG (jY E v u):=List.Pairwise.filter _ h
theorem pG.put {E:aU} (h:pG E) (v u:Int) (m:aC):pG (jQ E v u m):=by
 unfold jQ pG
 rw [List.pairwise_append]
 refine ⟨h.del v u,List.pairwise_singleton _ _,fun e he f hf=>?_⟩
 rw [List.mem_singleton] at hf
 subst hf
 have:=(List.mem_filter.1 he).2
 rintro ⟨h1,h2⟩
 simp [isK,h1,h2] at this
theorem VR {E:aU} {v u:Int} {m:aC} (h:bW E v u=some m):(v,u,m) ∈ E:=by
 unfold bW at h
 obtain ⟨e,he,rfl⟩:=Option.map_eq_some_iff.1 h
 obtain ⟨a,b,c⟩:=e
 have h1:=AY.1 (List.find?_some he)
 have h2:=List.mem_of_find?_eq_some he
 simp only at h1
 obtain ⟨rfl,rfl⟩:=h1
 exact h2
theorem pG.find {E:aU} (hd:pG E) {v u:Int} {m:aC} (h:(v,u,m) ∈ E):bW E v u=some m:=by
 induction E with
 | nil=>cases h
 | cons e E ih =>
  obtain ⟨h1,h2⟩:=List.pairwise_cons.1 hd
  unfold bW
  rw [List.find?_cons]
  by_cases hk:isK v u e=true
  ·rw [hk]
   rcases List.mem_cons.1 h with rfl | h
   ·rfl
   ·exact absurd (AY.1 hk) (h1 _ h)
  ·rw [Bool.not_eq_true] at hk
   rw [hk]
   rcases List.mem_cons.1 h with rfl | h
   ·simp [isK] at hk
   ·exact ih h2 h
theorem En {E:aU} (hd:pG E) (v u:Int):(jY E v u).length+(if (bW E v u).isSome then 1 else 0)=E.length:=by
 induction E with
 | nil=>rfl
 | cons e E ih =>
  obtain ⟨h1,h2⟩:=List.pairwise_cons.1 hd
  have ih:=ih h2
  unfold jY bW at ih ⊢
  rw [List.filter_cons,List.find?_cons]
  by_cases hk:isK v u e=true
  ·have hn:List.find? (isK v u) E=none:=by
    rw [List.find?_eq_none]
    intro f hf hk2
    have a:=AY.1 hk
    have c:=AY.1 hk2
    exact h1 f hf ⟨a.1.trans c.1.symm,a.2.trans c.2.symm⟩
   rw [hn] at ih
   rw [hk]
   simp at ih ⊢
   omega
  ·rw [Bool.not_eq_true] at hk
   rw [hk]
   simp at ih ⊢
   omega
section
variable {w : World} {b n : Nat} {E : aU} {ops : Array Oper} {rest : List Oper} {o : Oper} {a : Act} {Q : Exit → Act → World → Prop}
theorem MM.put {w':World} {D:DataW Value} {v u:Int} {md:aC} {x:Value} (h:MM w b n E) (hown:w.ownsMap Tryz.prog 103 RM b n D) (hv:ay v) (hu:ay u) (hx:iA w x md)
  (ho:w'.ownsMap Tryz.prog 103 RM b (n+1) (D.put (dM v u) (.held x))) (hg:w.grownBy w' (some b)):MM w' b (n+1) (jQ E v u md)∧kM w w':=by
 obtain ⟨es,c,hb⟩:=h.block
 have hc:=NV hb hg
 obtain ⟨D',h1,h2,h3,h4,h5⟩:=h
 have hD:D'=D:=by
  obtain ⟨es1,c1,e1,-,-,e2⟩:=h1
  obtain ⟨es2,c2,f1,-,-,f2⟩:=hown
  rw [e1] at f1
  cases f1
  rw [e2,f2]
 subst hD
 refine ⟨⟨_,ho,?_,h3.put v u md,fun e he=>?_,fun v' u' hv' hu'=>?_⟩,hc⟩
 ·rw [size_put (h1.tidy mZ),MM.has (h5 v u hv hu),h2]
  have:=En h3 v u
  unfold jQ
  rw [List.length_append,List.length_singleton]
  split <;> simp_all <;> omega
 ·rcases List.mem_append.1 he with he | he
  ·exact h4 e (List.mem_filter.1 he).1
  ·rw [List.mem_singleton] at he
   subst he
   exact ⟨hv,hu⟩
 ·by_cases e:v'=v∧u'=u
  ·obtain ⟨rfl,rfl⟩:=e
   rw [A8]
   exact ⟨x,hx.kN hc,fun z=>atKey_put_same h1.isMap (Ib hv hu) _ _⟩
  ·rw [zf e]
   have hne:dM v' u'≠dM v u:=fun e2=>e (ze hv' hu' hv hu e2)
   have:=h5 v' u' hv' hu'
   split at this
   ·obtain ⟨y,hy,hz⟩:=this
    exact ⟨y,hy.kN hc,fun z=>(atKey_put_other hne _ _).trans (hz z)⟩
   ·exact fun z=>(atKey_put_other hne _ _).trans (this z)
theorem MM.del {w':World} {D:DataW Value} {v u:Int} (h:MM w b n E) (hown:w.ownsMap Tryz.prog 103 RM b n D) (hv:ay v) (hu:ay u)
  (ho:w'.ownsMap Tryz.prog 103 RM b n (D.del (dM v u))) (hg:w.grownBy w' (some b)):MM w' b n (jY E v u)∧kM w w':=by
 obtain ⟨es,c,hb⟩:=h.block
 have hc:=NV hb hg
 obtain ⟨D',h1,h2,h3,h4,h5⟩:=h
 have hD:D'=D:=by
  obtain ⟨es1,c1,e1,-,-,e2⟩:=h1
  obtain ⟨es2,c2,f1,-,-,f2⟩:=hown
  rw [e1] at f1
  cases f1
  rw [e2,f2]
 subst hD
 refine ⟨⟨_,ho,?_,h3.del v u,fun e he=>h4 e (List.mem_filter.1 he).1,fun v' u' hv' hu'=>?_⟩,hc⟩
 ·have a1:=size_del (k:=dM v u) (h1.tidy mZ)
  rw [MM.has (h5 v u hv hu)] at a1
  have:=En h3 v u
  omega
 ·by_cases e:v'=v∧u'=u
  ·obtain ⟨rfl,rfl⟩:=e
   rw [Em]
   exact fun z=>atKey_del_same z
  ·rw [AZ e]
   have hne:dM v' u'≠dM v u:=fun e2=>e (ze hv' hu' hv hu e2)
   have:=h5 v' u' hv' hu'
   split at this
   ·obtain ⟨y,hy,hz⟩:=this
    exact ⟨y,hy.kN hc,fun z=>(atKey_del_other hne _).trans (hz z)⟩
   ·exact fun z=>(atKey_del_other hne _).trans (this z)
/-- 'm[key]' of a dV that is there. -/
theorem MM.get {v u:Int} {md:aC} (h:MM w b n E) (hf:bW E v u=some md):∃ x,iA w x md∧(Instr.lookup 78 (.map (some b)) (.agg #[.int .i64 v,.int .i64 u]) false).run Tryz.prog w=.ok x w:=by
 obtain ⟨D,hown,h2,h3,h4,h5⟩:=h
 have hi:=h4 _ (VR hf)
 obtain ⟨x,ps,hr,hx⟩:=hown.lookup mZ vD (NI w) (zd:=.held (.agg #[.int .i64 0,.int .i64 0,.int .i64 0,.slice none 0 0])) (zp:=[]) rfl (rW hi.1 hi.2)
 have h6:=h5 v u hi.1 hi.2
 rw [hf] at h6
 obtain ⟨y,hy,hz⟩:=h6
 rw [hz] at hx
 have h7:=(Ie hx).2
 simp only [Prod.mk.injEq,DataW.held.injEq] at h7
 obtain ⟨rfl,-⟩:=h7
 exact ⟨_,hy,hr⟩
/-- The same as equations on the operations' runs. -/
theorem MM.store {v u:Int} {md:aC} {x:Value} (h:MM w b n E) (hn:n < maxLen) (h1:ay v) (h2:ay u) (hx:iA w x md) :
  ∃ w',(Instr.mapUpdate 78 (.map (some b)) (.agg #[.int .i64 v,.int .i64 u]) x).run Tryz.prog w=.ok () w'∧MM w' b (n+1) (jQ E v u md)∧w.grownBy w' (some b):=by
 have h':=h
 obtain ⟨D,hown,-⟩:=h'
 obtain ⟨w',hr,ho,hg⟩:=hown.update mZ vD hn (rW h1 h2) (NR hx)
 exact ⟨w',hr,(h.put hown h1 h2 hx ho hg).1,hg⟩
theorem MM.drop {v u:Int} (h:MM w b n E) (h1:ay v) (h2:ay u) (ty:TypeId) :
  ∃ w',(Builtin.delete_ #[78,103] ty #[.map (some b),.agg #[.int .i64 v,.int .i64 u]]).run Tryz.prog w=.ok (.tuple #[]) w'∧MM w' b n (jY E v u)∧w.grownBy w' (some b):=by
 have h':=h
 obtain ⟨D,hown,-⟩:=h'
 obtain ⟨w',hr,ho,hg⟩:=hown.drop mZ vD (rW h1 h2) ty
 exact ⟨w',hr,(h.del hown h1 h2 ho hg.grown).1,hg.grown⟩
theorem MM.len (h:MM w b n E) (ty:TypeId):(Builtin.len_ #[78] ty #[.map (some b)]).run Tryz.prog w=.ok (.int .i64 E.length) w:=by
 obtain ⟨D,hown,hs,-⟩:=h
 have:=hown.len vD ty
 rwa [hs] at this
end
/- What lay of impl.NW does. -/
open Go.RowKit Go.Maps
def kP (E:aU) (v:Int) (ms:List aC):aU:=ms.foldl (fun E m=>jQ E v m.uid m) E
theorem VT {E:aU} {v:Int} {ms:List aC} {k:Nat} {m:aC} (h:ms[k]?=some m):kP E v (ms.take (k+1))=jQ (kP E v (ms.take k)) v m.uid m:=by
 obtain ⟨hk,rfl⟩:=gs1 h
 unfold kP
 rw [List.take_succ_eq_append_getElem hk,List.foldl_append]
 rfl
theorem VU (w:World) (r:Option Nat):w.grownBy w r:=World.grownBy.refl _ _
theorem NY {w w':World} {r:Option Nat} (h:w.grownBy w' r) (o:Obj):w.grownBy (w'.alloc o) r:=by
 refine ⟨h.os,h.tape,h.output,by simp;exact Nat.le_succ_of_le h.size,fun i hi hne=>?_⟩
 rw [← h.block i hi hne]
 exact ((Below.refl w'.heap.size w').alloc (Nat.le_refl _) o).block i (Nat.lt_of_lt_of_le hi h.size)
theorem VW {w w' w'':World} {b:Nat} (h:w.grownBy w' (some b)) (k:w'.grownBy w'' (some b)):w.grownBy w'' (some b) :=
 ⟨k.os.trans h.os,k.tape.trans h.tape,k.output.trans h.output,Nat.le_trans h.size k.size,fun i hi hne=>(k.block i (Nat.lt_of_lt_of_le hi h.size) hne).trans (h.block i hi hne)⟩
theorem pI {w w':World} {g b:Nat} {o:Obj} (h:w.grownBy w' (some g)) (hb:w.heap[b]?=some o) (hne:b≠g):w'.heap[b]?=some o:=(h.block b (lt_of_heap hb) fun e=>hne (by simpa using e)).trans hb
/- The map of ah whose values are read in an earlier world: what lies there stays, so the map is held whatever else turns. -/
open Go.RowKit Go.Maps
def MR (wt w:World) (b n:Nat) (E:aU):Prop :=
 ∃ D:DataW Value,w.ownsMap Tryz.prog 103 RM b n D∧Maps.size D=E.length∧pG E∧(∀ e ∈ E,ay e.1∧ay e.2.1) ∧
  ∀ v u,ay v→ay u→match bW E v u with
   | some m=>∃ x,iA wt x m∧∀ z,D.atKey (dM v u) z=.held x
   | none=>∀ z,D.atKey (dM v u) z=z
section
variable {wt w w' : World} {b n : Nat} {E : aU}
theorem MR.lt (h:MR wt w b n E):b < w.heap.size:=let ⟨_,h,_⟩:=h;h.lt
theorem MR.kept (h:MR wt w b n E) (hb:w'.heap[b]?=w.heap[b]?):MR wt w' b n E :=
 let ⟨D,⟨es,c,e1,e2⟩,r⟩:=h;⟨D,⟨es,c,hb.trans e1,e2⟩,r⟩
theorem MR.mm (h:MR wt w b n E) (hb:Below wt.heap.size wt w):MM w b n E:=by
 obtain ⟨D,h1,h2,h3,h4,h5⟩:=h
 refine ⟨D,h1,h2,h3,h4,fun v u hv hu=>?_⟩
 have:=h5 v u hv hu
 cases hf:bW E v u with
 | some m =>
  rw [hf] at this
  obtain ⟨x,hx,hz⟩:=this
  exact ⟨x,hx.kN (NU hb),hz⟩
 | none =>
  rw [hf] at this
  exact this
theorem MR.made (wt w:World):MR wt (w.alloc (.map #[] 0)) w.heap.size 0 []:=by
 refine ⟨.map [],World.ownsMap_made _ _ _ _,rfl,List.Pairwise.nil,by simp,fun v u _ _=>?_⟩
 simp [bW,DataW.atKey]
theorem MR.store {v u:Int} {md:aC} {x:Value} (h:MR wt w b n E) (hn:n < maxLen) (hv:ay v) (hu:ay u) (hx:iA wt x md) :
  ∃ w',(Instr.mapUpdate 78 (.map (some b)) (.agg #[.int .i64 v,.int .i64 u]) x).run Tryz.prog w=.ok () w'∧MR wt w' b (n+1) (jQ E v u md)∧w.grownBy w' (some b):=by
 obtain ⟨D,h1,h2,h3,h4,h5⟩:=h
 obtain ⟨w',hr,ho,hg⟩:=h1.update mZ vD hn (rW hv hu) (NR hx)
 refine ⟨w',hr,⟨_,ho,?_,h3.put v u md,fun e he=>?_,fun v' u' hv' hu'=>?_⟩,hg⟩
 ·rw [size_put (h1.tidy mZ),MM.has (h5 v u hv hu),h2]
  have:=En h3 v u
  unfold jQ
  rw [List.length_append,List.length_singleton]
  split <;> simp_all <;> omega
 ·rcases List.mem_append.1 he with he | he
  ·exact h4 e (List.mem_filter.1 he).1
  ·rw [List.mem_singleton] at he
   subst he
   exact ⟨hv,hu⟩
 ·by_cases e:v'=v∧u'=u
  ·obtain ⟨rfl,rfl⟩:=e
   rw [A8]
   exact ⟨x,hx,fun z=>atKey_put_same h1.isMap (Ib hv hu) _ _⟩
  ·rw [zf e]
   have hne:dM v' u'≠dM v u:=fun e2=>e (ze hv' hu' hv hu e2)
   have:=h5 v' u' hv' hu'
   split at this
   ·obtain ⟨y,hy,hz⟩:=this
    exact ⟨y,hy,fun z=>(atKey_put_other hne _ _).trans (hz z)⟩
   ·exact fun z=>(atKey_put_other hne _ _).trans (this z)
theorem MR.drop {v u:Int} (h:MR wt w b n E) (hv:ay v) (hu:ay u) (ty:TypeId) :
  ∃ w',(Builtin.delete_ #[78,103] ty #[.map (some b),.agg #[.int .i64 v,.int .i64 u]]).run Tryz.prog w=.ok (.tuple #[]) w'∧MR wt w' b n (jY E v u)∧w.grownBy w' (some b):=by
 obtain ⟨D,h1,h2,h3,h4,h5⟩:=h
 obtain ⟨w',hr,ho,hg⟩:=h1.drop mZ vD (rW hv hu) ty
 refine ⟨w',hr,⟨_,ho,?_,h3.del v u,fun e he=>h4 e (List.mem_filter.1 he).1,fun v' u' hv' hu'=>?_⟩,hg.grown⟩
 ·have a1:=size_del (k:=dM v u) (h1.tidy mZ)
  rw [MM.has (h5 v u hv hu)] at a1
  have:=En h3 v u
  omega
 ·by_cases e:v'=v∧u'=u
  ·obtain ⟨rfl,rfl⟩:=e
   rw [Em]
   exact fun z=>atKey_del_same z
  ·rw [AZ e]
   have hne:dM v' u'≠dM v u:=fun e2=>e (ze hv' hu' hv hu e2)
   have:=h5 v' u' hv' hu'
   split at this
   ·obtain ⟨y,hy,hz⟩:=this
    exact ⟨y,hy,fun z=>(atKey_del_other hne _).trans (hz z)⟩
   ·exact fun z=>(atKey_del_other hne _).trans (this z)
end
/- ae4 lay, the ah being read in an earlier world. -/
open Go.RowKit Go.Maps
theorem Ig {wt w w':World} {g:Nat} (h:Below wt.heap.size wt w) (hg:w.grownBy w' (some g)) (hN:wt.heap.size≤g):Below wt.heap.size wt w' :=
 ⟨hg.os.trans h.os,hg.tape.trans h.tape,hg.output.trans h.output,Nat.le_trans h.size hg.size,fun k hk=>(hg.block k (by have:=h.size;omega) (fun e=>by have:=Option.some.inj e;omega)).trans (h.block k hk)⟩
theorem VX (wt:World) (g n:Nat) (E:aU) (v:Value) (x:aA) (w:World) (h:MR wt w g n E) (hv:bI wt v x) (hb:Below wt.heap.size wt w) (hg:wt.heap.size≤g) (hn:n≤2000000) (hm:x.ah.length≤2000000) :
  Calls Tryz.prog 37 #[.map (some g),v] w fun e w'=>e=.returned (.tuple #[])∧MR wt w' g (n+x.ah.length) (kP E x.valid x.ah)∧w.grownBy w' (some g):=by
 obtain ⟨u0,u1,u2,rfl,g0,g1,g2,i0,-⟩:=hv
 obtain ⟨a0,n0,c0,rfl⟩:=g0.aG
 obtain ⟨a1,c1,rfl,m0,m1⟩:=g1.form
 obtain ⟨a2,c2,rfl,-⟩:=g2.form
 have ae5:=h.lt
 have HV:Hid (eT wt (.slice a1 x.ah.length c1) x.ah):=g1
 have HB:Hid (∀ wi,w.grownBy wi (some g)→Below wt.heap.size wt wi):=fun wi h=>Ig hb h hg
 have HK:Hid _:=aW w (.cells #[.slice a0 n0 c0,.int .i64 x.valid,.int .i64 x.next,.int .i64 x.seq,.slice a1 x.ah.length c1,.slice a2 x.au.length c2,.int .i64 x.lost] 34)
 have HG:Hid (w.grownBy (w.alloc (.cells #[.slice a0 n0 c0,.int .i64 x.valid,.int .i64 x.next,.int .i64 x.seq,.slice a1 x.ah.length c1,.slice a2 x.au.length c2,.int .i64 x.lost] 34)) (some g)):=NY (VU _ _) _
 have HM:Hid (MR wt (w.alloc (.cells #[.slice a0 n0 c0,.int .i64 x.valid,.int .i64 x.next,.int .i64 x.seq,.slice a1 x.ah.length c1,.slice a2 x.au.length c2,.int .i64 x.lost] 34)) g n E):=h.kept ((bn _ _).block g h.lt)
 have I0:Hid (ay x.valid):=i0
 clear g0 g1 g2 h i0 hb
 obtain ⟨f0,f1,f2,f3,f4,f5,f6⟩:=bU HK.out
 go_enter Tryz.func37,Tryz.ntmps37
 go_wp2
 clear f0 f1 f2 f3 f4 f5 f6
 go_loopw [9] (fun i wr=>∃ k:Nat,k≤x.ah.length∧i=.int .i64 k∧Hid (MR wt wr g (n+k) (kP E x.valid (x.ah.take k)))∧Hid (w.grownBy wr (some g))∧Hid (wr.heap[w.heap.size]?=some (.cells #[.slice a0 n0 c0,.int .i64 x.valid,.int .i64 x.next,.int .i64 x.seq,.slice a1 x.ah.length c1,.slice a2 x.au.length c2,.int .i64 x.lost] 34 (0,0)))) (fun i _=>x.ah.length - (intOf i).toNat)
 case atStart=>exact ⟨0,Nat.zero_le _,rfl,HM.out,HG.out,HK.out⟩
 case round =>
  obtain ⟨k,hk,rfl,hM,hG,hK⟩:=hrel
  clear HM HG HK
  by_cases hlt2:k < x.ah.length
  ·obtain ⟨m,hx⟩:∃ m,x.ah[k]?=some m:=⟨x.ah[k],aL hlt2⟩
   obtain ⟨b,off,cp,t,hv',hlt,y0,y1,y2,y3,ht,j0,j1,j2⟩:=eT.cell HV.out k m hx
   have hBr:=HB.out wr hG.out
   have hlb:b < wr.heap.size:=Nat.lt_of_lt_of_le hlt hBr.size
   have e0:=(hBr.cell (p:=⟨b,_,none⟩) hlt).trans y0
   have e1:=(hBr.cell (p:=⟨b,_,none⟩) hlt).trans y1
   have e2:=(hBr.cell (p:=⟨b,_,none⟩) hlt).trans y2
   have e3:=(hBr.cell (p:=⟨b,_,none⟩) hlt).trans y3
   clear y0 y1 y2 y3 hBr hlt
   simp only [Value.slice.injEq,true_and] at hv'
   obtain ⟨rfl,rfl⟩:=hv'
   obtain ⟨f0,f1,f2,f3,f4,f5,f6⟩:=bU hK.out
   have ld:=lt_of_heap hK.out
   have hki:(k:Int) < x.ah.length:=by omega
   obtain ⟨ta,tn,tc,rfl⟩:=ht.aG
   have hA:Below wr.heap.size wr (wr.alloc (.cells #[.int .i64 m.uid,.int .i64 m.flags,.int .i64 m.seq,.slice ta tn tc] 72)):=bn _ _
   obtain ⟨w2,hrun,hM2,hG2⟩:=(hM.out.kept (hA.block g hM.out.lt)).store (md:=m) (by unfold maxLen;omega) I0.out j0 ⟨.slice ta tn tc,rfl,ht,j0,j1,j2⟩
   have VY:Hid (MR wt w2 g (n+(k+1)) (kP E x.valid (x.ah.take (k+1)))):=by
    rw [VT hx]
    exact hM2
   have HG2:Hid (w.grownBy w2 (some g)):=VW (NY hG.out _) hG2
   have dB:Hid _:=pI hG2 (aB hA hK.out) (by omega)
   clear hM2 hG2 hA hM hG
   go_wp2
   go_roundw
   case rel=>exact ⟨k+1,by omega,by simp,VY.out,HG2.out,dB.out⟩
   case measure=>simp [intOf];omega
  ·have hkk:k=x.ah.length:=by omega
   subst hkk
   go_wp2
   go_end0
   exact ⟨rfl,by simpa using hM.out,hG.out⟩
/- Keys that are sorted by their second number. -/
def fB (x:Int × Int):List Value:=[.int .i64 x.1,.int .i64 x.2]
def xw (x y:Int × Int):Int:=Go.Lib.compareInt x.2 y.2
theorem Eo (x y:Int × Int):ltOf xw x y=decide (x.2 < y.2):=by
 unfold ltOf xw Go.Lib.compareInt
 by_cases h1:x.2 < y.2
 ·simp [h1]
 ·by_cases h2:y.2 < x.2 <;> simp [h1,h2]
theorem VZ:Go.Sort.SWO (ltOf xw) where
 irrefl x:=by rw [Eo];simp
 trans x y z h1 h2:=by rw [Eo] at *;simp at *;omega
 ntrans x y z h1 h2:=by rw [Eo] at *;simp at *;omega
theorem V5 (x y:Int × Int) (W:World):Calls Tryz.prog 100 #[.agg #[.int .i64 x.1,.int .i64 x.2],.agg #[.int .i64 y.1,.int .i64 y.2]] W fun e w'=>e=.returned (.int .i64 (xw x y))∧∃ q os',w'=Go.Sort.grow (W.drewN q) os':=by
 have hcon:=fun W'=>Tryz.cmp_Compare_int x.2 y.2 W'
 have hcf:xw x y=Go.Lib.compareInt x.2 y.2:=rfl
 rw [hcf]
 generalize Go.Lib.compareInt x.2 y.2=r at hcon ⊢
 go_enter Tryz.func100,Tryz.ntmps100
 go_wp2_with (go_at_call 101;refine (hcon _).mono ?_;rintro e w' ⟨rfl,rfl⟩)
 go_ret
 exact ⟨rfl,0,_,by rw [Go.Sort.alloc_eq_grow,Go.Sort.alloc_eq_grow,Go.Sort.grow_grow];rfl⟩
theorem Ih (n:Nat) (W:World) (h:n≤12):Calls Tryz.prog 98 #[.int .u64 n] W fun e w'=>(∃ l:Int,e=.returned (.int .i64 l))∧w'=W :=
 (Tryz.bits_Len n W (by omega) (by omega)).mono fun _ _ ⟨he,hw⟩=>⟨⟨_,he⟩,hw⟩
theorem V9 (w:World):(isAgg 103).run Tryz.prog w=.ok true w:=Tryz.isAgg103 w
theorem Wd (w:World):(Go.sizeOf 103).run Tryz.prog w=.ok 2 w:=Tryz.sizeOf103 w
theorem Wh (blk cap:Nat) (d:Array (Int × Int)) (w:World) (hH:Go.Sort.HoldsK fB 2 w blk 0 d) (hblk:blk < w.heap.size) (h12:d.size≤12) :
  Calls Tryz.prog 99 #[.slice (some ⟨blk,0,none⟩) d.size cap,.func (.func 100) #[] #[]] w
   fun e w'=>e=.returned (.tuple #[])∧∃ d' n os,Go.Sort.PermIn 0 d.size d d'∧Go.Sort.SortedIn (ltOf xw) 0 d.size d'∧w'=sortWorldK fB 2 w blk 0 n d' os:=by
 have eg:∀ args w,(callFunc 100 args).run Tryz.prog w=.ok (.enter 100 args) w:=enters_of Tryz.func100 (by kernel_rfl) rfl
 exact AnyQ.slices_SortFunc_small_sorted Tryz.sortKeys 2 V9 Wd fB (fun _=>rfl) (fun x v hv=>by simp [fB] at hv;rcases hv with rfl | rfl <;> rfl) xw 100 #[] VZ blk 0 cap d w eg (fun _ _ _ _ x y=>V5 x y _) hH hblk h12 Ih
/-- Keys as they are read, and as they are the call's own. -/
def Ii (_:World) (c:List Value) (x:Int × Int):Prop:=c=[.int .i64 x.1,.int .i64 x.2]∧ay x.1∧ay x.2
def xA (w:World) (c:List Value) (x:Int × Int) (_:Nat→Prop):Prop:=Ii w c x
abbrev xB:=Rd 2 Ii
theorem Ep:Frames xA:=fun _ _ _ _ _ h _=>h
theorem Wi:Keeps Ii:=fun _ _ _ _ _ h=>h
/- One element of a list of the call's own is written anew. -/
/- The order of names, and lists that are sorted by it. -/
theorem Ij:∀ a:List UInt8,Lib.compareBytes a a=0
 | []=>rfl
 | x :: a=>by
  unfold Lib.compareBytes
  rw [if_neg (by simp),if_neg (by simp)]
  exact Ij a
theorem zh:∀ a b c:List UInt8,Lib.compareBytes a b < 0→Lib.compareBytes b c < 0→Lib.compareBytes a c < 0
 | [],b,[],h1,h2=>by cases b <;> simp [Lib.compareBytes] at h1 h2
 | [],b,z :: c,_,_=>by simp [Lib.compareBytes]
 | x :: a,[],c,h1,_=>by simp [Lib.compareBytes] at h1
 | x :: a,y :: b,[],_,h2=>by simp [Lib.compareBytes] at h2
 | x :: a,y :: b,z :: c,h1,h2=>by
  have ih:=zh a b c
  simp only [Lib.compareBytes,UInt8.lt_iff_toNat_lt] at h1 h2 ⊢
  by_cases e1:x.toNat < y.toNat <;> by_cases e2:y.toNat < x.toNat <;> by_cases e3:y.toNat < z.toNat <;> by_cases e4:z.toNat < y.toNat <;> by_cases e5:x.toNat < z.toNat <;> by_cases e6:z.toNat < x.toNat <;> simp [e1,e2,e3,e4,e5,e6] at h1 h2 ⊢ <;> first | omega | exact ih h1 h2
theorem NZ:∀ a b c:List UInt8,0≤Lib.compareBytes a b→0≤Lib.compareBytes b c→0≤Lib.compareBytes a c
 | [],[],c,_,h2=>h2
 | [],y :: b,c,h1,_=>by simp [Lib.compareBytes] at h1
 | x :: a,b,[],_,_=>by simp [Lib.compareBytes]
 | x :: a,[],z :: c,_,h2=>by simp [Lib.compareBytes] at h2
 | x :: a,y :: b,z :: c,h1,h2=>by
  have ih:=NZ a b c
  simp only [Lib.compareBytes,UInt8.lt_iff_toNat_lt] at h1 h2 ⊢
  by_cases e1:x.toNat < y.toNat <;> by_cases e2:y.toNat < x.toNat <;> by_cases e3:y.toNat < z.toNat <;> by_cases e4:z.toNat < y.toNat <;> by_cases e5:x.toNat < z.toNat <;> by_cases e6:z.toNat < x.toNat <;> simp [e1,e2,e3,e4,e5,e6] at h1 h2 ⊢ <;> first | omega | exact ih h1 h2
theorem N7:∀ a b:List UInt8,0≤Lib.compareBytes a b→0≤Lib.compareBytes b a→a=b
 | [],[],_,_=>rfl
 | [],y :: b,h1,_=>by simp [Lib.compareBytes] at h1
 | x :: a,[],_,h2=>by simp [Lib.compareBytes] at h2
 | x :: a,y :: b,h1,h2=>by
  have ih:=N7 a b
  simp only [Lib.compareBytes,UInt8.lt_iff_toNat_lt] at h1 h2
  by_cases e1:x.toNat < y.toNat <;> by_cases e2:y.toNat < x.toNat <;> simp [e1,e2] at h1 h2
  have e:x=y:=UInt8.toNat_inj.1 (by omega)
  rw [e,ih h1 h2]
/-- A strictly sorted list is known by its elements. -/
theorem N8 {α:Type} {R:α→α→Prop} (has:∀ x y,R x y→¬ R y x):∀ (l m:List α),l.Perm m→l.Pairwise R→m.Pairwise R→l=m
 | [],m,hp,_,_=>(List.Perm.nil_eq hp)
 | x :: l,[],hp,_,_=>by have:=hp.length_eq;simp at this
 | x :: l,y :: m,hp,h1,h2=>by
  rw [List.pairwise_cons] at h1 h2
  have e:x=y:=by
   have hx:x ∈ y :: m:=hp.mem_iff.1 (List.mem_cons_self ..)
   have hy:y ∈ x :: l:=hp.mem_iff.2 (List.mem_cons_self ..)
   rcases List.mem_cons.1 hx with rfl | hx
   ·rfl
   ·rcases List.mem_cons.1 hy with rfl | hy
    ·rfl
    ·exact absurd (h2.1 x hx) (has _ _ (h1.1 y hy))
  subst e
  rw [N8 has l m (List.Perm.cons_inv hp) h1.2 h2.2]
/- What bytes.Compare do. -/
open Go.RowKit Go.Shelf
/-- The bytes of a slice, as the model's entries take them. -/
theorem N9 {w:World} {v:Value} {l:List Int} (h:Bs w v l):(Extern.Bytes.bytesOf v).run Tryz.prog w=.ok ⟨(dN l).toArray⟩ w:=by
 obtain ⟨ho,a,cap,rfl,h1,h2,h3,h4⟩:=h
 cases a with
 | none =>
  have hc:=h3 rfl
  have:l=[]:=List.eq_nil_of_length_eq_zero (by omega)
  subst this
  rfl
 | some ad =>
  have key:∀ j x,l[j]?=some x→w.cell? (ad.add j)=some (.int .u8 x):=by
   intro j x hj
   have hjl:j < l.length:=(gs1 hj).1
   obtain ⟨b,off,had,-,hc⟩:=h4 (by omega)
   cases had
   rw [Addr.add_lit,hc j hjl]
   simp [List.getD,hj]
  have:=Lib.run_loadBytesX (P:=Tryz.prog) w l ad .empty key
  simp only [Extern.Bytes.bytesOf]
  rw [this]
  congr 1
  apply ByteArray.ext
  show (#[]:Array UInt8) ++ _=_
  simp only [Array.empty_append]
  rfl
theorem Wj {w:World} {v u:Value} {l m:List Int} (hv:Bs w v l) (hu:Bs w u m):(Extern.BytealgCompare.compare #[v,u]).run Tryz.prog w=.ok (.int .i64 (Lib.compareBytes (dN l) (dN m))) w:=by
 change Sem.run Tryz.prog (do pure (goInt (Extern.BytealgCompare.cmp (← Extern.Bytes.bytesOf v) (← Extern.Bytes.bytesOf u)))) w=_
 simp only [Sem.run_bind,Sem.run_pure,N9 hv,N9 hu,Result.andThen]
 rw [Lib.cmp_eq]
 rfl
theorem Oa (v u:Value) (l m:List Int) (w:World) (hv:Bs w v l) (hu:Bs w u m) :
  Calls Tryz.prog 25 #[v,u] w fun e w'=>e=.returned (.int .i64 (Lib.compareBytes (dN l) (dN m)))∧w'=w:=by
 have h8:=@run_callFunc_extern Tryz.prog 56 _ Extern.BytealgCompare.compare Tryz.func56 (by kernel_rfl) (by kernel_rfl) (by kernel_rfl) (by kernel_rfl)
 have hr:=Wj hv hu
 obtain ⟨a,n,c,rfl⟩:=hv.aG
 obtain ⟨a',n',c',rfl⟩:=hu.aG
 clear hv hu
 generalize Lib.compareBytes (dN l) (dN m)=r at hr
 go_enter Tryz.func25,Tryz.ntmps25
 go_wp2
 go_ret
 exact ⟨rfl,rfl⟩
/- Rows, commands, Ob of the call's own stay while their blocks do. -/
section
variable {w w' : World} {B T : Nat} {v : Value}
theorem Row.frame {l:List Int} (h:Row w B T v l) (hw:∀ b,B≤b→b < T→b < w.heap.size→w'.heap[b]?=w.heap[b]?):Row w' B T v l:=by
 refine ⟨h.1,⟨h.2.1.1,?_⟩,h.2.2⟩
 rcases h.2.1.2 with hn | ⟨g,cap,cur,hv,hg,hh,r⟩
 ·exact .inl hn
 ·have hlt:g < T:=h.2.2 g (by rw [hv];rfl)
  exact .inr ⟨g,cap,cur,hv,hg,(hw g hg hlt (lt_of_heap hh)).trans hh,r⟩
theorem lV.frame {k:Int} {bx tt:List Int} {uid mode fl si:Int} {tx:List Int} (h:lV w B T v k bx tt uid mode fl si tx) (hw:∀ b,B≤b→b < T→b < w.heap.size→w'.heap[b]?=w.heap[b]?):lV w' B T v k bx tt uid mode fl si tx :=
 let ⟨u0,u1,u2,T0,T1,hv,h0,h1,h2,r0,r1,r2,r⟩:=h;⟨u0,u1,u2,T0,T1,hv,h0.frame fun b q0 q1 q2=>hw b q0 (by omega) q2,h1.frame fun b q0 q1 q2=>hw b (by omega) (by omega) q2,h2.frame fun b q0 q1 q2=>hw b (by omega) q1 q2,r0,r1,r2,r⟩
theorem dX.frame {y:dI} (h:dX w B T v y) (hw:∀ b,B≤b→b < T→b < w.heap.size→w'.heap[b]?=w.heap[b]?):dX w' B T v y :=
 let ⟨u0,u1,u2,u3,T0,h0,h1,h2,j0,j1,i⟩:=h
 ⟨u0,u1,u2,u3,T0,h0,jN _ _ _ _ _ h1 fun b hb hlt=>hw b hb.1 (by have:=hb.2;omega) hlt,h2.frame mW fun b hb hlt=>hw b (by have:=hb.1;omega) hb.2 hlt,j0,j1,i⟩
theorem dX.set {y:dI} {g i:Nat} {x:Value} (h:dX w B T v y) (hd:g < B∨T≤g):dX (w.setCell ⟨g,i,none⟩ x) B T v y :=
 h.frame fun b q0 q1 _=>Below.heap_setCell _ _ _ _ (by show b≠g;omega)
end
end Go.Proofs.YtmglhdkeidhafaaGreat
