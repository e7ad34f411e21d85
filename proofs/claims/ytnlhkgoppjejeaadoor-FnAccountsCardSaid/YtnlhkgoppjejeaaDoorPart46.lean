/- The proof's texts, part 46. -/
import Derived.Test.YtnlhkgoppjejeaaDoorPart45
import Derived.Test.YtnlhkgoppjejeaaDoorPart12
import Derived.ArgAppend

/- One more that went, put behind those that went: in place where there is room, else behind a copy. -/
namespace Go.Proofs.YtnlhkgoppjejeaaDoor
open Go.RowKit
set_option linter.unusedVariables false

/-- What the append leaves: the same block with one more, or a row of its own. -/
def GoneP (w w':World) (v v':Value) (l:List GoneD) (x0 x1:Int):Prop :=
 (∃ q off n c,v=.slice (some ⟨q,off,none⟩) n c∧n=l.length∧n+1≤c∧v'=.slice (some ⟨q,off,none⟩) (n+1) c∧w'=(w.setCell ⟨q,off+n * 2,none⟩ (.int .i64 x0)).setCell ⟨q,off+n * 2+1,none⟩ (.int .i64 x1)) ∨
 (Below w.heap.size w w'∧GonesO w' (fun k=>w.heap.size≤k) v' (l ++ [⟨x0,x1⟩]))
theorem run_gone {w:World} {S:Nat→Prop} {v:Value} {l:List GoneD} (h:GonesQ w S v l) (hl:l.length≤1000) (ty:TypeId) (ad:Addr) (cc:Nat) {x0 x1:Int} (hcell:∀ j u,[Value.int .i64 x0,Value.int .i64 x1][j]?=some u→w.cell? (ad.add j)=some u) (i0:I64 x0) (i1:I64 x1) :
  ∃ v' w',(Builtin.append_ #[42,42] ty #[v,.slice (some ad) 1 cc]).run Tryd.prog w=.ok v' w'∧GoneP w w' v v' l x0 x1:=by
 obtain ⟨i,hi,hz0,hz1,hz2⟩:=info_parts infoGone
 have hone:∀ u ∈ [Value.int .i64 x0,Value.int .i64 x1],u.oneCell'=true:=by simp [Value.oneCell']
 have hb1:l.length+1≤maxLen:=by unfold maxLen;omega
 have hb2:(l.length+1) * 16≤140737488355328:=by omega
 have fin:∀ (v':Value) (w':World) (xs:List Value),w.grownBy w' none→w'.ownsRow w.heap.size 65 2 v' (l.length+1) (xs ++ [.int .i64 x0,.int .i64 x1])→xs.length=l.length * 2→(∀ i x,l[i]?=some x→∃ c,c.length=2∧GoneRE w c x∧∀ j y,c[j]?=some y→xs[i * 2+j]?=some y)→GoneP w w' v v' l x0 x1:=fun v' w' xs hG hO hxl hx=>by
  refine .inr ⟨⟨hG.os,hG.tape,hG.output,hG.size,fun k hk=>hG.block k hk (by simp)⟩,gones_of (w0:=w) (by rw [List.length_append];exact hO) (fun i m h=>?_) (fun k hk=>own_ge hO hk)⟩
  by_cases hlt:i < l.length
  ·rw [List.getElem?_append_left hlt] at h
   obtain ⟨c,h1,h2,h3⟩:=hx i m h
   refine ⟨c,h1,h2,fun j y hy=>?_⟩
   have:=h3 j y hy
   rw [List.getElem?_append_left (List.getElem?_eq_some_iff.1 this).1]
   exact this
  ·rw [List.getElem?_append_right (by omega)] at h
   have hi0:i=l.length:=by
    have:=(List.getElem?_eq_some_iff.1 h).1
    simp at this
    omega
   subst hi0
   simp only [Nat.sub_self,List.getElem?_cons_zero,Option.some.injEq] at h
   subst h
   refine ⟨[.int .i64 x0,.int .i64 x1],rfl,⟨rfl,i0,i1⟩,fun j y hy=>?_⟩
   rw [List.getElem?_append_right (by omega),show l.length * 2+j - xs.length=j by omega]
   exact hy
 obtain ⟨⟨a,cap,cs,hv,h1,h2,h3,h4,h5⟩,hty⟩:=h
 cases a with
 | none =>
  obtain rfl:=h3 rfl
  obtain rfl:l=[]:=List.eq_nil_of_length_eq_zero (by omega)
  subst hv
  obtain ⟨v',w',hr,hO,hG,-⟩:=run_append_own (P:=Tryd.prog) w w.heap.size 42 ty 65 i _ 2 16 Tryd.underlying42 hi hz0 hz1 hz2 rfl (by omega) (.slice none 0 0) 0 [] (World.ownsRow_nil w _ _ _) ad 1 cc [.int .i64 x0,.int .i64 x1] rfl hcell hone (by unfold maxLen;omega) (by omega) (Nat.le_refl _)
  exact ⟨v',w',hr,fin v' w' [] hG hO rfl (fun i x hx=>by simp at hx)⟩
 | some a =>
  obtain ⟨-,cur,hh,hsp,hs⟩:=hty a l.length cap hv
  obtain ⟨q,off,sp⟩:=a
  simp only at hsp hh hs
  subst hsp
  subst hv
  by_cases hroom:l.length+1≤cap
  ·have hsz:i.size=2:=hz1
   have:=run_append_room_cells (P:=Tryd.prog) w 42 ty 65 i Tryd.underlying42 hi q off l.length cap ad 1 cc [.int .i64 x0,.int .i64 x1] (by rw [hsz];rfl) hcell hone hroom (fun j hj=>by
    rw [cell_of_row w q _ cur _ (0,0) hh,hsz]
    simp only [List.length_cons,List.length_nil] at hj
    rw [Array.getElem?_eq_getElem (by omega)]
    rfl) (fun j _=>frozen_of_row w q _ cur _ hh)
   rw [hsz] at this
   exact ⟨_,_,this,.inl ⟨q,off,l.length,cap,rfl,rfl,hroom,rfl,rfl⟩⟩
  ·have hol:((cur.toList.drop off).take (l.length * 2)).length=l.length * 2:=by
    have hcl:cur.toList.length=cur.size:=Array.length_toList
    rw [List.length_take,List.length_drop,hcl]
    omega
   obtain ⟨v',w',hr,hO,hG⟩:=run_append_arg_grows (P:=Tryd.prog) w 42 ty 65 i _ 2 16 Tryd.underlying42 hi hz0 hz1 hz2 rfl (by omega) ⟨q,off,none⟩ l.length cap ((cur.toList.drop off).take (l.length * 2)) hol (fun j u hu=>by
    rw [Addr.add_lit,cell_of_row w q _ cur _ (0,0) hh]
    rw [List.getElem?_take] at hu
    split at hu
    ·rw [List.getElem?_drop] at hu;simpa using hu
    ·cases hu) ad 1 cc [.int .i64 x0,.int .i64 x1] rfl hcell (by omega) hb1 hb2
   refine ⟨v',w',hr,fin v' w' _ hG hO hol (fun p x hx=>?_)⟩
   have hp:=(List.getElem?_eq_some_iff.1 hx).1
   obtain ⟨hc,hcl⟩:=h4 p x hx
   refine ⟨cs p,hcl,hc,fun j y hy=>?_⟩
   obtain ⟨b',off',ha,-,hcells⟩:=h5 (by omega)
   simp only [Option.some.injEq,Addr.mk.injEq,and_true] at ha
   obtain ⟨rfl,rfl⟩:=ha
   have hj:=(List.getElem?_eq_some_iff.1 hy).1
   have:=hcells p j y hp hy
   rw [cell_of_row w q _ cur _ (0,0) hh] at this
   rw [List.getElem?_take,if_pos (by omega),List.getElem?_drop,← Nat.add_assoc]
   simpa using this
/-- The operation in a region that draws. -/
theorem wp_gone {w:World} {S:Nat→Prop} {v:Value} {l:List GoneD} {o:Oper} {a:Act} {K:Act→World→Prop} {Q:Exit→Act→World→Prop} (d:Nat) (hd:o.dst=some d) (s y:Operand)
  (ho:o.op=.call { callee:=.builtin .append,args:=#[s,y],argTypes:=#[42,42] }) (h:GonesQ w S v l) (hl:l.length≤1000) (hs:a.eval s=v) (ad:Addr) (cc:Nat) (hy:a.eval y=.slice (some ad) 1 cc) {x0 x1:Int} (hcell:∀ j u,[Value.int .i64 x0,Value.int .i64 x1][j]?=some u→w.cell? (ad.add j)=some u) (i0:I64 x0) (i1:I64 x1)
  (k:∀ v' w',GoneP w w' v v' l x0 x1→K (a.put (some d) v') w'):o.wp Tryd.prog a w K Q:=by
 obtain ⟨v',w',hr,h2⟩:=run_gone h hl o.type ad cc hcell i0 i1
 unfold Oper.wp execOp
 simp only [ho,resolve,invoke,builtin,Sem.run_bind,Sem.run_pure,Result.andThen_ok,List.map_toArray,List.map_cons,List.map_nil,hs,hy,hr]
 have:=k v' w' h2
 rw [← hd] at this
 exact this

end Go.Proofs.YtnlhkgoppjejeaaDoor
