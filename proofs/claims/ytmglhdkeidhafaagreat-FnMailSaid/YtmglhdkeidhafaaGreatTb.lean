/- The proof's texts, part 11. -/
import Derived.Lib.ConvBytes
import Derived.Test.YtmglhdkeidhafaaGreatT7
import Derived.Test.YtmglhdkeidhafaaGreatT8
import Derived.Test.YtmglhdkeidhafaaGreatTa
namespace Go.Proofs.YtmglhdkeidhafaaGreat
open Go.RowKit
set_option linter.unusedVariables false
set_option linter.unusedSimpArgs false
set_option maxHeartbeats 2000000
set_option maxRecDepth 100000
/- Rows of bytes of the call's own that may have been made of a string: a mark lies behind their last cell. -/
/-- The slice value v lies at the head of block g, whose first cells are the bytes l; what is marked in the block lies behind its cells, or there is none. -/
def bZ (w:World) (g:Nat) (v:Value) (l:List Int):Prop :=
 Oct l∧∃ cap cur fz,v=.slice (some ⟨g,0,none⟩) l.length cap∧w.heap[g]?=some (.cells cur 5 fz)∧(fz.2=0∨cap≤fz.1)∧l.length≤cap∧cap≤maxLen∧cur.size=cap∧cur.toList.take l.length=vals l
theorem bZ.DI {w:World} {g:Nat} {v:Value} {l:List Int} (h:bZ w g v l):Oct l:=h.1
theorem bZ.lt {w:World} {g:Nat} {v:Value} {l:List Int} (h:bZ w g v l):g < w.heap.size:=by
 obtain ⟨_,cap,cur,fz,_,hh,_⟩:=h
 exact lt_of_heap hh
theorem bZ.form {w:World} {g:Nat} {v:Value} {l:List Int} (h:bZ w g v l):∃ cap,v=.slice (some ⟨g,0,none⟩) l.length cap:=by
 obtain ⟨_,cap,_,_,hv,_⟩:=h
 exact ⟨cap,hv⟩
theorem bZ.holds {w:World} {g:Nat} {v:Value} {l:List Int} (h:bZ w g v l):∀ j u,(vals l)[j]?=some u→w.cell? ⟨g,j,none⟩=some u:=by
 obtain ⟨_,cap,cur,fz,_,hh,_,_,_,_,ht⟩:=h
 intro j u hu
 rw [cell_of_row w g j cur _ fz hh]
 rw [← ht,List.getElem?_take] at hu
 split at hu
 ·simpa using hu
 ·cases hu
theorem bZ.bs {w:World} {g:Nat} {v:Value} {l:List Int} (h:bZ w g v l):Bs w v l:=by
 have hl:=h.lt
 have hc:=h.holds
 obtain ⟨ho,cap,cur,fz,hv,hh,_,h1,h2,_⟩:=h
 refine ⟨ho,some ⟨g,0,none⟩,cap,hv,h1,h2,(fun h=>by cases h),fun _=>⟨g,0,rfl,hl,fun i hi=>?_⟩⟩
 rw [Nat.zero_add]
 exact hc i _ (Ae l i hi)
/-- The row stays where its block does. -/
theorem bZ.frame {w w':World} {g:Nat} {v:Value} {l:List Int} (h:bZ w g v l) (hw:w'.heap[g]?=w.heap[g]?):bZ w' g v l:=by
 obtain ⟨ho,cap,cur,fz,hv,hh,r⟩:=h
 exact ⟨ho,cap,cur,fz,hv,hw.trans hh,r⟩
theorem bZ.below {w w':World} {g:Nat} {v:Value} {l:List Int} (h:bZ w g v l) (hb:Below w.heap.size w w'):bZ w' g v l:=h.frame (hb.block g h.lt)
/-- Bytes that lie in another block than g stay. -/
theorem Bs.grown {w w':World} {g:Nat} {v:Value} {l:List Int} (h:Bs w v l) (hg:w.grownBy w' (some g)) (hn:v.ownBlock≠some g):Bs w' v l:=by
 obtain ⟨ho,a,cap,hv,h1,h2,h3,h4⟩:=h
 refine ⟨ho,a,cap,hv,h1,h2,h3,fun hp=>?_⟩
 obtain ⟨b,off,rfl,hb,hc⟩:=h4 hp
 have hne:some b≠some g:=by rw [hv] at hn;simpa [Value.ownBlock] using hn
 refine ⟨b,off,rfl,Nat.lt_of_lt_of_le hb hg.size,fun i hi=>?_⟩
 rw [World.cell?_of_block (hg.block b hb hne)]
 exact hc i hi
theorem WC (P:Program) (g o:Nat) (t:TypeId) (fz:Nat × Nat):∀ (vs:List Value) (i:Nat) (cur:Array Value) (w:World),w.heap[g]?=some (.cells cur t fz)→(fz.2=0∨o+i+vs.length≤fz.1)→o+i+vs.length≤cur.size→(∀ v ∈ vs,v.oneCell'=true) →
  (storeCells ⟨g,o,none⟩ vs i).run P w=.ok () (w.setRow g (cur.toList.take (o+i) ++ vs ++ cur.toList.drop (o+i+vs.length)).toArray):=by
 intro vs
 induction vs with
 | nil =>
  intro i cur w hg _ _ _
  have e:cur.toList.take (o+i) ++ [] ++ cur.toList.drop (o+i+0)=cur.toList:=by simp
  show (storeCells ⟨g,o,none⟩ [] i).run P w=_
  simp only [List.length_nil,e,Array.toArray_toList,storeCells]
  rw [setRow_self w g cur t fz hg]
  rfl
 | cons v rest ih =>
  intro i cur w hg hfz hl h1
  simp only [List.length_cons] at hfz hl
  have hc:w.cell? ⟨g,o+i,none⟩=some (cur[o+i]'(by omega)):=by rw [cell_of_row w g (o+i) cur t fz hg];simp [show o+i < cur.size by omega]
  have hf:w.frozen? ⟨g,o+i,none⟩=false:=by
   simp only [World.frozen?,hg,Bool.and_eq_false_iff,decide_eq_false_iff_not]
   rcases hfz with h | h
   ·right;omega
   ·left;omega
  have hs:(store ((⟨g,o,none⟩:Addr).add i) v).run P w=.ok () (w.setRow g (cur.setIfInBounds (o+i) v)):=by
   rw [Addr.add_lit,run_store P w _ v _ (h1 v (by simp)),hc]
   simp [hf,setCell_eq_setRow w g (o+i) cur t fz v hg]
  have hr:=ih (i+1) (cur.setIfInBounds (o+i) v) (w.setRow g (cur.setIfInBounds (o+i) v)) (setRow_heap w g cur _ t _ hg) (by omega) (by simp;omega) (fun x hx=>h1 x (by simp [hx]))
  simp only [storeCells,Sem.run_bind,hs,Result.andThen_ok,hr,setRow_setRow]
  congr 3
  have e:=list_seg_step cur.toList (o+i) v rest (by simp;omega)
  simpa [Array.toList_setIfInBounds,Nat.add_assoc] using e
/-- What append does behind such a row. -/
theorem WE {P:Program} (w:World) (t ty:TypeId) (i:TypeInfo) (ht:P.underlying t=some (.slice 5)) (hi:P.info? 5=some i) (hz:i.zero=some (.int .u8 0)) (hsize:i.size=1) (hby:i.bytes=1)
  (g:Nat) (v:Value) (l:List Int) (hown:bZ w g v l) (u:Value) (m:List Int) (hm:Bs w u m) (hlen:l.length+m.length≤140737488355328) :
  ∃ v' w' g',(Builtin.append_ #[t,t] ty #[v,u]).run P w=.ok v' w'∧bZ w' g' v' (l ++ m)∧w.grownBy w' (some g)∧(g'=g∨w.heap.size≤g'):=by
 have hold:=hown.holds
 obtain ⟨ho,cap,cur,fz,rfl,hh,hfz,h1,h2,h3,h4⟩:=hown
 obtain ⟨hmo,ad,c,rfl,k1,k2,k3,k4⟩:=hm
 have hlm:(l ++ m).length=l.length+m.length:=by simp
 cases ad with
 | none =>
  have:c=0:=k3 rfl
  subst this
  have hm0:m=[]:=List.eq_nil_of_length_eq_zero (by omega)
  subst hm0
  refine ⟨.slice (some ⟨g,0,none⟩) l.length cap,w,g,?_,⟨by simpa using ho,cap,cur,fz,by simp,hh,hfz,by simpa using h1,h2,h3,by simpa using h4⟩,World.grownBy.refl _ _,.inl rfl⟩
  simp [Builtin.append_,run_underlying ht,sizeOf,typeInfo,hi,Builtin.lenOf,Builtin.firstCells,h1,storeCells]
 | some ad =>
  have hnews:∀ j u,(vals m)[j]?=some u→w.cell? (ad.add j)=some u:=by
   intro j y hy
   have hj:j < m.length:=by have:=(gs1 hy).1;simpa [ig] using this
   obtain ⟨b,off,had,_,hc⟩:=k4 (by omega)
   cases had
   rw [Addr.add_lit,hc j hj,← hy,Ae m j hj]
  by_cases hroom:l.length+m.length≤cap
  ·have hf:=run_firstCells_some (P:=P) w i.size m.length ad m.length c (vals m) (by rw [hsize,ig,Nat.mul_one]) hnews
   have hst:=WC P g (l.length * i.size) 5 fz (vals m) 0 cur w hh (by rw [hsize,ig];rcases hfz with h | h <;> omega) (by rw [hsize,ig];omega) (GJ m)
   rw [hsize] at hf hst
   simp only [Nat.add_zero,Nat.mul_one,ig] at hst hf
   refine ⟨.slice (some ⟨g,0,none⟩) (l.length+m.length) cap,w.setRow g (cur.toList.take l.length ++ vals m ++ cur.toList.drop (l.length+m.length)).toArray,g,?_,⟨Ag ho hmo,cap,_,fz,by rw [hlm],setRow_heap w g cur _ _ _ hh,hfz,by rw [hlm];exact hroom,h2,?_,?_⟩,⟨rfl,rfl,rfl,by simp,fun k _ hk=>setRow_other w g k _ (fun e=>hk (by rw [e]))⟩,.inl rfl⟩
   ·simp [Builtin.append_,run_underlying ht,sizeOf,typeInfo,hi,hsize,Builtin.lenOf,hroom,hf,Addr.add_lit,hst]
   ·simp only [List.size_toArray,List.length_append,List.length_take,List.length_drop,Array.length_toList,ig];omega
   ·have hv:(vals l ++ vals m).length=(l ++ m).length:=by simp [ig]
    show ((cur.toList.take l.length ++ vals m ++ cur.toList.drop (l.length+m.length)).take (l ++ m).length)=_
    rw [h4,GI,← hv]
    exact List.take_left
  ·have hr:=run_append_grow (P:=P) w t ty 5 i (.int .u8 0) ht hi hz ⟨g,0,none⟩ l.length cap (vals l) (by rw [hsize,ig,Nat.mul_one]) (fun j u hu=>by rw [Addr.add_lit,Nat.zero_add];exact hold j u hu) ad m.length c (vals m) (by rw [hsize,ig,Nat.mul_one]) hnews (by omega) (by omega) (by rw [hby];exact growslice_fits (by omega) (by omega))
   have hge:=grownCap_ge w (l.length+m.length) cap 5
   have hcm:grownCap w (l.length+m.length) cap 5≤maxLen:=grownCap_le_maxLen w (l.length+m.length) cap _ (by unfold maxLen;omega)
   refine ⟨_,_,w.heap.size,hr,⟨Ag ho hmo,_,_,(0,0),by rw [hlm],heap_alloc_new w.drew _,.inl rfl,by rw [hlm];exact hge,hcm,?_,?_⟩,⟨rfl,rfl,rfl,by simp,fun k hk _=>Below.heap_alloc w.drew _ k hk⟩,.inr (Nat.le_refl _)⟩
   ·have hz1:(Value.int IntKind.u8 0).cells.size=1:=rfl
    simp only [Array.size_append,List.size_toArray,size_zeroCells,hz1,ig]
    omega
   ·have hv:(vals l ++ vals m).length=(l ++ m).length:=by simp [ig]
    simp only [Array.toList_append,List.append_assoc]
    rw [← List.append_assoc,GI,← hv]
    exact List.take_left
theorem WG {P:Program} {w:World} {ops:Array Oper} {rest:List Oper} {o:Oper} {a:Act} {Q:Exit→Act→World→Prop} (hgd:o.guard=none) (s x:Operand) (t:TypeId)
  (ho:o.op=.call { callee:=.builtin .append,args:=#[s,x],argTypes:=#[t,t] })
  (i:TypeInfo) (ht:P.underlying t=some (.slice 5)) (hi:P.info? 5=some i) (hz:i.zero=some (.int .u8 0)) (hsize:i.size=1) (hby:i.bytes=1)
  (g:Nat) (v:Value) (l:List Int) (hs:a.eval s=v) (hown:bZ w g v l) (u:Value) (m:List Int) (hx:a.eval x=u) (hm:Bs w u m) (hlen:l.length+m.length≤140737488355328)
  (h:∀ v' w' g',bZ w' g' v' (l ++ m)→w.grownBy w' (some g)→(g'=g∨w.heap.size≤g')→wpList P ops Q rest (a.put o.dst v') w'):wpList P ops Q (o :: rest) a w:=by
 refine wpList_plain hgd fun K hK=>?_
 obtain ⟨v',w',g',hr,h2,h3,h4⟩:=WE (P:=P) w t o.type i ht hi hz hsize hby g v l hown u m hm hlen
 unfold Oper.wp execOp
 simp only [ho,resolve,invoke,builtin,Sem.run_bind,Sem.run_pure,Result.andThen_ok,List.map_toArray,List.map_cons,List.map_nil,hs,hx,hr]
 exact hK _ _ (h v' w' g' h2 h3 h4)
/-- What '[]byte(s)' answers. -/
theorem l9 (w:World) (s:List Int) (hs:Oct s) (hl:s.length≤1000000) :
  bZ (Lib.bytesWorld w 5 (strOfNums s)) w.heap.size (.slice (some ⟨w.heap.size,0,none⟩) s.length (grownCap w s.length 0 5)) s∧Below w.heap.size w (Lib.bytesWorld w 5 (strOfNums s)):=by
 have hge:=grownCap_ge w s.length 0 5
 have hcm:grownCap w s.length 0 5≤maxLen:=grownCap_le_maxLen w s.length 0 _ (by unfold maxLen;omega)
 have hsz:=strOfNums_size s
 have hcs:(Lib.bytesCells w 5 (strOfNums s)).size=grownCap w s.length 0 5:=by
  have:(strOfNums s).data.size=s.length:=hsz
  simp only [Lib.bytesCells,Array.size_append,Array.size_map,Array.size_replicate,this,hsz]
  omega
 refine ⟨⟨hs,_,_,_,rfl,Lib.bytesWorld_at_new w _ _,.inr (Nat.le_of_eq hcs.symm),hge,hcm,hcs,?_⟩,rfl,rfl,rfl,by rw [Lib.bytesWorld_size];omega,fun k hk=>Lib.bytesWorld_at_old w _ _ k hk⟩
 have e:((strOfNums s).data.map fun b=>Value.int .u8 b.toNat).toList=vals s:=(by rw [Array.toList_map];exact VL hs)
 have hv:(vals s).length=s.length:=ig s
 simp only [Lib.bytesCells,Array.toList_append]
 rw [e,← hv]
 exact List.take_left
/- Keys that are sorted: a list of the call's own, or nil. -/
theorem WH (fv:Value) (w:World):Calls Tryz.prog 125 #[.slice none 0 0,.int .i64 0,.int .i64 0,fv] w fun e w'=>e=.returned (.tuple #[])∧w'=w:=by
 go_enter Tryz.func125,Tryz.ntmps125
 go_wp2
 refine wp_loop_rounds 1 ?_
 rw [rounds_succ]
 go_wp2
 go_end0
 exact ⟨rfl,rfl⟩
theorem WI (lim:Int) (fv:Value) (w:World):Calls Tryz.prog 118 #[.slice none 0 0,.int .i64 0,.int .i64 0,.int .i64 lim,fv] w fun e w'=>e=.returned (.tuple #[])∧w'=w:=by
 go_enter Tryz.func118,Tryz.ntmps118
 go_wp2
 refine wp_loop_rounds 1 ?_
 rw [rounds_succ]
 go_wp2_with (go_at_call 125;refine (WH _ _).mono ?_;rintro e w' ⟨rfl,rfl⟩)
 (try simp only [Exit.inBlock,Exit.then]);refine bodyPost_ret (results_none rfl _ _ _) rfl ?_
 exact ⟨rfl,rfl⟩
theorem WJ (fv:Value) (w:World):Calls Tryz.prog 99 #[.slice none 0 0,fv] w fun e w'=>e=.returned (.tuple #[])∧w'=w:=by
 have hl:=Ih 0 w (by omega)
 go_enter Tryz.func99,Tryz.ntmps99
 go_wp2_with (first | (go_at_call 98;refine hl.mono ?_;rintro e w' ⟨⟨l,rfl⟩,rfl⟩) | (go_at_call 118;refine (WI _ _ _).mono ?_;rintro e w' ⟨rfl,rfl⟩))
 go_end0
 exact ⟨rfl,rfl⟩
theorem Ox {α:Type} [Inhabited α] {l:List α} {i:Nat} (h:i < l.length):l.toArray[i]! = l[i]:=by simp [h]
theorem xD {α:Type} [Inhabited α] {d:Array α} {i:Nat} (h:i < d.size):d[i]! = d[i]:=by simp [h]
theorem WK {w:World} {blk n k:Nat} {d:Array (Int × Int)} {os:Array Obj} (hk:k < w.heap.size) (hne:k≠blk):(sortWorldK fB 2 w blk 0 n d os).heap[k]?=w.heap[k]?:=by
 unfold sortWorldK Go.Sort.grow Go.Sort.putRowK Go.Sort.putRow Go.Sort.mapBlock Go.Sort.ahead
 simp only
 rw [Array.getElem?_append_left (by simpa using hk),Array.getElem?_modify]
 simp [Ne.symm hne]
theorem WL {w:World} {blk n B:Nat} {d:Array (Int × Int)} {os:Array Obj} (hB:B≤blk) (hb:blk < w.heap.size):Below B w (sortWorldK fB 2 w blk 0 n d os) :=
 ⟨rfl,rfl,rfl,by simp [sortWorldK,Go.Sort.grow,Go.Sort.putRowK,Go.Sort.putRow,Go.Sort.mapBlock,Go.Sort.ahead],fun k hk=>WK (by omega) (by omega)⟩
theorem WM {w:World} {blk n:Nat} {d:Array (Int × Int)} {os:Array Obj} {cur:Array Value} {t:TypeId} (h:w.heap[blk]?=some (.cells cur t (0,0))):∃ cur',(sortWorldK fB 2 w blk 0 n d os).heap[blk]?=some (.cells cur' t (0,0))∧cur'.size=cur.size:=by
 have hb:=lt_of_heap h
 unfold sortWorldK Go.Sort.grow Go.Sort.putRowK Go.Sort.putRow Go.Sort.mapBlock Go.Sort.ahead
 simp only
 rw [Array.getElem?_append_left (by simpa using hb),Array.getElem?_modify]
 simp only [if_true,h,Option.map_some,Go.Sort.onCells]
 exact ⟨_,rfl,by simp [Go.Sort.putCells]⟩
/-- A list of keys is sorted. -/
theorem WO (kv:Value) (ks:List (Int × Int)) (B:Nat) (w:World) (h:Ow 103 2 xA w (In B w.heap.size) kv ks) (h12:ks.length≤12) :
  Calls Tryz.prog 99 #[kv,.func (.func 100) #[] #[]] w
   fun e w'=>e=.returned (.tuple #[])∧∃ ks',ks'.Perm ks∧ks'.Pairwise (fun a b=>¬ b.2 < a.2)∧xB w' kv ks'∧Below B w w'∧(ks'=[]∨∃ gk cap,kv=.slice (some ⟨gk,0,none⟩) ks'.length cap∧B≤gk∧bP 103 2 fB w' gk cap [] ks' 0):=by
 rcases h with ⟨rfl,rfl⟩ | ⟨g,cap,cur,cs,fs,hv,hh,h1,h2,h3,h4,h5,h6,h7⟩
 ·refine (WJ _ w).mono ?_
  rintro e w' ⟨rfl,rfl⟩
  exact ⟨rfl,[],List.Perm.refl _,List.Pairwise.nil,Rd.nil _,Below.refl _ _,.inl rfl⟩
 ·have hlt:g < w.heap.size:=lt_of_heap hh
  have hH:Go.Sort.HoldsK fB 2 w g 0 ks.toArray:=by
   intro j hj
   rw [Go.Sort.size_flatK] at hj
   simp only [List.size_toArray] at hj
   have hi:j / 2 < ks.length:=by omega
   obtain ⟨⟨hc,-⟩,-,hx⟩:=h5 (j / 2) ks[j / 2] (aL hi)
   have hm:j % 2=0∨j % 2=1:=by omega
   refine ⟨?_,by rw [Nat.zero_add];exact frozen_of_row w g j cur _ hh⟩
   rw [Go.Sort.get_flatK _ _ _ _ (by simpa using hj),Ox hi,Nat.zero_add,cell_of_row w g j cur _ (0,0) hh]
   have hd:j=j / 2 * 2+j % 2:=by omega
   have:=hx (j % 2) ((fB ks[j / 2])[j % 2]!) (by rw [hc];rcases hm with e | e <;> rw [e] <;> rfl)
   rw [← hd] at this
   exact this
  subst hv
  have hs:ks.toArray.size=ks.length:=by simp
  have:=Wh g cap ks.toArray w hH hlt (by simpa using h12)
  rw [hs] at this
  refine this.mono ?_
  rintro e w' ⟨rfl,d',n,os,⟨p1,-,p3⟩,hsort,rfl⟩
  have hd':d'.size=ks.length:=by rw [p1,hs]
  have hperm:d'.toList.Perm ks:=by
   have a1:(d'.extract 0 ks.length)=d':=by rw [← hd'];exact Array.extract_size
   have a2:(ks.toArray.extract 0 ks.length)=ks.toArray:=by rw [← hs];exact Array.extract_size
   rw [a1,a2] at p3
   exact p3
  have hW:Go.Sort.HoldsK fB 2 (sortWorldK fB 2 w g 0 n d' os) g 0 d':=by
   unfold sortWorldK
   refine Go.Sort.holdsK_grow _ _ _ _ _ _ _ ?_ (Go.Sort.holdsK_putRowK _ _ _ _ _ ks.toArray d' hH (by rw [hd',hs]))
   simpa [Go.Sort.putRowK,Go.Sort.putRow,Go.Sort.mapBlock,Go.Sort.ahead] using hlt
  have hbl:Below B w (sortWorldK fB 2 w g 0 n d' os):=WL h4.1 hlt
  have zk:xB (sortWorldK fB 2 w g 0 n d' os) (.slice (some ⟨g,0,none⟩) ks.length cap) d'.toList:=by
   have hI:∀ x ∈ d'.toList,ay x.1∧ay x.2:=by
    intro x hx
    obtain ⟨i,hi,rfl⟩:=List.getElem_of_mem (hperm.mem_iff.1 hx)
    exact (h5 i _ (aL hi)).1.2
   refine ⟨some ⟨g,0,none⟩,cap,fun i=>fB d'[i]!,by simp [hd'],by simpa [hd'] using h1,h2,(fun h=>by cases h),fun i x hx=>?_,fun _=>⟨g,0,rfl,Nat.lt_of_lt_of_le hlt hbl.size,fun i j u hi hu=>?_⟩⟩
   ·have hi:i < d'.size:=by have:=(gs1 hx).1;simpa using this
    have e:d'[i]! = x:=by
     rw [xD hi]
     have:=(gs1 hx).2
     simpa using this
    refine ⟨⟨?_,hI x (List.mem_of_getElem? hx)⟩,rfl⟩
    show fB d'[i]! = _
    rw [e]
    rfl
   ·have hi':i < d'.size:=by simpa using hi
    have hj:j < 2:=by have:=(gs1 hu).1;simpa [fB] using this
    have:=(hW.cell hi' hj).1
    rw [this]
    congr 1
    rw [List.getElem!_eq_getElem?_getD,hu]
    rfl
  refine ⟨rfl,d'.toList,hperm,?_,zk,hbl,.inr ⟨g,cap,by simp [hd'],h4.1,?_⟩⟩
  ·rw [List.pairwise_iff_getElem]
   intro i j hi hj hij
   have:=hsort i j (Nat.zero_le _) hij (by simpa [hd'] using hj)
   rw [Eo] at this
   simp only [Array.length_toList] at hi hj
   rw [xD hi,xD hj] at this
   simpa using this
  ·obtain ⟨cur',k1,k2⟩:=WM (n:=n) (d:=d') (os:=os) hh
   refine ⟨cur',k1,by rw [k2,h3],fun i x hx=>by simp at hx,fun i x _ hx k u hu=>?_⟩
   have hi:i < d'.size:=by have:=(gs1 hx).1;simpa using this
   have hj:k < 2:=by have:=(gs1 hu).1;simpa [fB] using this
   have e:d'[i]! = x:=by
    rw [xD hi]
    have:=(gs1 hx).2
    simpa using this
   have hc:=(hW.cell hi hj).1
   rw [cell_of_row _ g _ cur' _ (0,0) k1,e,List.getElem!_eq_getElem?_getD,hu,Nat.zero_add] at hc
   exact hc
/- What keysOf of impl.NW does. -/
open Go.RowKit Go.Maps
theorem WQ:(Tryz.prog.info? 103).map (fun i=>(i.zero,i.size,i.bytes))=some (some (.agg #[.int .i64 0,.int .i64 0]),2,16):=by kernel_rfl
/-- What is known of the keys that have come, while others are left. -/
structure xE (E:aU) (v:Int) (left:Lit→Bool) (ks:List Int):Prop where
 mem:∀ u ∈ ks,ay u∧(bW E v u).isSome=true∧left (dM v u)=false
 nodup:ks.Nodup
 all:∀ u,ay u→(bW E v u).isSome=true→left (dM v u)=true∨u ∈ ks
theorem xE.skip {E:aU} {v:Int} {left:Lit→Bool} {ks:List Int} (h:xE E v left ks) (hv:ay v) {x1 x2:Int} (h1:ay x1) (h2:ay x2) (hne:x1≠v):xE E v (fun z=>left z && !z.sameKey (dM x1 x2)) ks:=by
 have hk:∀ u,ay u→(dM v u).sameKey (dM x1 x2)=false:=fun u hu=>sameKey_ne (fun e=>hne (ze hv hu h1 h2 e).1.symm)
 refine ⟨fun u hu=>⟨(h.mem u hu).1,(h.mem u hu).2.1,by simp [(h.mem u hu).2.2]⟩,h.nodup,fun u hu hs=>?_⟩
 rcases h.all u hu hs with h' | h'
 ·left;simp [h',hk u hu]
 ·exact .inr h'
theorem xE.step {E:aU} {v:Int} {left:Lit→Bool} {ks:List Int} (h:xE E v left ks) (hv:ay v) {x2:Int} (h2:ay x2) (hl:left (dM v x2)=true) (hs:(bW E v x2).isSome=true):xE E v (fun z=>left z && !z.sameKey (dM v x2)) (ks ++ [x2]):=by
 have hnot:x2 ∉ ks:=fun hm=>by rw [(h.mem x2 hm).2.2] at hl;cases hl
 have hself:(dM v x2).sameKey (dM v x2)=true:=WideAt.sameKey_self (Ib hv h2)
 refine ⟨fun u hu=>?_,?_,fun u hu hf=>?_⟩
 ·rcases List.mem_append.1 hu with hu | hu
  ·exact ⟨(h.mem u hu).1,(h.mem u hu).2.1,by simp [(h.mem u hu).2.2]⟩
  ·rw [List.mem_singleton] at hu
   subst hu
   exact ⟨h2,hs,by simp [hself]⟩
 ·rw [List.nodup_append]
  exact ⟨h.nodup,by simp,fun a ha b hb=>by rw [List.mem_singleton] at hb;subst hb;exact fun e=>hnot (e ▸ ha)⟩
 ·by_cases e:u=x2
  ·subst e;right;simp
  ·rcases h.all u hu hf with h' | h'
   ·left
    have:(dM v u).sameKey (dM v x2)=false:=sameKey_ne (fun e2=>e (ze hv hu hv h2 e2).2)
    simp [h',this]
   ·right;simp [h']
theorem WR:∀ key kl,keyOf Tryz.prog 103 key=some kl→∃ x,key=(fun p:Int × Int=>Value.agg #[.int .i64 p.1,.int .i64 p.2]) x:=fun key kl h=>by
 obtain ⟨v,u,rfl,-⟩:=NQ h
 exact ⟨(v,u),rfl⟩
theorem WS:∀ v y,RM v=some y→∃ c,v=pF c:=fun v y h=>(Ie h).1
theorem Oy:∀ {l m:List Int},l.Perm m→l.Pairwise (fun a b=>¬ b < a)→m.Pairwise (· < ·)→l=m
 | [],m,hp,_,_=>by simpa using hp.symm.eq_nil.symm
 | a :: l,[],hp,_,_=>by simpa using hp.eq_nil
 | a :: l,b :: m,hp,hl,hm=>by
  obtain ⟨l1,l2⟩:=List.pairwise_cons.1 hl
  obtain ⟨m1,m2⟩:=List.pairwise_cons.1 hm
  have e:a=b:=by
   have ha:a ∈ b :: m:=hp.mem_iff.1 (by simp)
   have hb:b ∈ a :: l:=hp.mem_iff.2 (by simp)
   rcases List.mem_cons.1 ha with h | h
   ·exact h
   ·rcases List.mem_cons.1 hb with h' | h'
    ·exact h'.symm
    ·have:=m1 a h
     have:=l1 b h'
     omega
  subst e
  rw [Oy (List.Perm.cons_inv hp) l2 m2]
theorem WT {v:Int} {us:List Int} {ks:List (Int × Int)} (om:us.Pairwise (· < ·)) (hp:ks.Perm (us.map fun u=>(v,u))) (hs:ks.Pairwise (fun a b=>¬ b.2 < a.2)):ks=us.map fun u=>(v,u):=by
 have h1:ks.map (fun x=>x.2)=us:=by
  refine Oy ?_ (List.pairwise_map.2 hs) om
  have h3:=hp.map (fun x=>x.2)
  have e:(us.map fun u=>(v,u)).map (fun x=>x.2)=us:=by
   rw [List.map_map]
   exact List.map_id us
  rw [e] at h3
  exact h3
 have h2:∀ x ∈ ks,x.1=v:=by
  intro x hx
  obtain ⟨u,-,rfl⟩:=List.mem_map.1 (hp.mem_iff.1 hx)
  rfl
 rw [← h1,List.map_map]
 refine (List.map_id ks).symm.trans (List.map_congr_left fun x hx=>?_)
 obtain ⟨a,b⟩:=x
 have:=h2 _ hx
 simp only at this
 subst this
 rfl
theorem Ip (g n:Nat) (E:aU) (v:Int) (us:List Int) (w:World) (h:MM w g n E) (hn:n≤2000000) (hv:ay v) (om:us.Pairwise (· < ·)) (hmem:∀ u,u ∈ us↔ay u∧(bW E v u).isSome=true) (h12:us.length≤12) :
  Calls Tryz.prog 70 #[.map (some g),.int .i64 v] w fun e w'=>∃ kv,e=.returned kv∧xB w' kv (us.map fun u=>(v,u))∧Below w.heap.size w w'∧(us=[]∨∃ gk cap,kv=.slice (some ⟨gk,0,none⟩) (us.map fun u=>(v,u)).length cap∧w.heap.size≤gk∧bP 103 2 fB w' gk cap [] (us.map fun u=>(v,u)) 0):=by
 obtain ⟨D,hown,hsz,hdist,zm,h5⟩:=h
 have hlt:=hown.lt
 have hle:=hown.size_le
 have HH:Hid (∀ x1 x2,ay x1→ay x2→Maps.has D (dM x1 x2)=(bW E x1 x2).isSome):=fun x1 x2 a b=>MM.has (h5 x1 x2 a b)
 have HU:Hid (us.Pairwise (· < ·)∧(∀ u,u ∈ us↔ay u∧(bW E v u).isSome=true)∧us.length≤12):=⟨om,hmem,h12⟩
 have HV:Hid (ay v):=hv
 obtain ⟨z0,hi,hz0,hz1,hz2⟩:=info_parts WQ
 clear h5 om hmem h12 hdist zm hv
 go_enter Tryz.func70,Tryz.ntmps70
 go_wp2_with (first
  | (at_range;refine wpList_range_own _ rfl _ 78 rfl 103 72 mZ vD RM g n D rfl hown ?_;intro w0 hrg0 hg0 hs0)
  | go_in)
 go_frame
 have Oz:Hid _:=hrg0
 have HB0:Hid (Below w.heap.size w w0):=⟨hg0.os,hg0.tape,hg0.output,hg0.size,fun k hk=>hg0.block k hk (by simp)⟩
 have qB:w.heap.size+1≤w0.heap.size:=by omega
 clear hrg0 hg0 hown hs0
 go_loopw [5] (fun kv wr=>∃ (ks:List Int) (left:Lit→Bool) (cnt:Nat) (ka:Option Addr) (kn kc:Nat),kv=.slice ka kn kc∧ks.length+cnt≤n∧Hid (wr.ranges Tryz.prog 103 RM g w.heap.size n D left cnt)∧Hid (Below w.heap.size w wr)∧w.heap.size+1≤wr.heap.size∧Hid (Ow 103 2 xA wr (In (w.heap.size+1) wr.heap.size) (.slice ka kn kc) (ks.map fun u=>(v,u)))∧Hid (xE E v left ks))
  (fun _ wr=>wr.rangeLeft g w.heap.size)
 case atStart=>exact ⟨[],_,_,none,0,0,rfl,by simp;omega,Oz.out,HB0.out,qB,.inl ⟨rfl,rfl⟩,⟨by simp,List.nodup_nil,fun u hu hs=>.inl ((HH.out v u HV.out hu).trans hs)⟩⟩
 case round =>
  obtain ⟨ks,left,cnt,ka,kn,kc,rfl,hcnt,hR,hB,hS,hO,hK⟩:=hrel
  clear Oz HB0 qB
  have hrg:=hR.out
  go_wp2_with (first
   | (at_next;refine wpList_next_ranges _ rfl _ rfl 103 mZ RM (fun p:Int × Int=>Value.agg #[.int .i64 p.1,.int .i64 p.2]) pF WR WS g w.heap.size n D left cnt rfl hrg ?_ ?_)
   | go_in)
  ·intro _ hl0
   have hall:∀ u,u ∈ ks↔u ∈ us:=fun u=>⟨fun hu=>(HU.out.2.1 u).2 ⟨(hK.out.mem u hu).1,(hK.out.mem u hu).2.1⟩,fun hu=>by
    obtain ⟨a,b⟩:=(HU.out.2.1 u).1 hu
    rcases hK.out.all u a b with h' | h'
    ·rw [hl0] at h';cases h'
    ·exact h'⟩
   have hnd:us.Nodup:=HU.out.1.imp (fun h=>Int.ne_of_lt h)
   have hperm:ks.Perm us:=(List.perm_ext_iff_of_nodup hK.out.nodup hnd).2 hall
   have HP:Hid (ks.Perm us):=hperm
   have hlen:ks.length≤12:=by rw [hperm.length_eq];exact HU.out.2.2
   have hcall:=WO _ _ _ _ hO.out (by simpa using hlen)
   have hsz2:=hO.out
   clear hperm hnd hall hrg hR
   go_wp2_with fail
   refine hcall.mono ?_
   rintro e w' ⟨rfl,ks',p1,p2,p3,p4,p5⟩
   go_wp2
   go_ret
   have hks:=WT HU.out.1 (p1.trans (HP.out.map fun u=>(v,u))) (p2.imp fun h=>Int.not_lt.2 h)
   refine ⟨_,rfl,?_,hB.out.trans (p4.mono (by omega)),?_⟩
   ·rw [← hks]
    exact p3
   ·rw [← hks]
    rcases p5 with p5 | ⟨gk,cp,q1,q2,q3⟩
    ·rw [hks] at p5
     exact .inl (List.map_eq_nil_iff.1 p5)
    ·exact .inr ⟨gk,cp,q1,by omega,q3⟩
  ·intro x1 x2 c1 c2 c3 c4 c5 c6 kl y1 y2 w1 cnt1 hkey hlk WU hat hrg1 hlt1 hg1 hs1 hen
   obtain ⟨v',u',ek,rfl,hx1,hx2⟩:=NQ hkey
   simp only [za,Value.agg.injEq] at ek
   obtain ⟨rfl,rfl⟩:x1=v'∧x2=u':=by simpa using ek
   have hsome:(bW E x1 x2).isSome=true:=by
    rw [← HH.out x1 x2 hx1 hx2]
    exact has_true_of_atKey hat
   have HR1:Hid (w1.ranges Tryz.prog 103 RM g w.heap.size n D (fun z=>left z && !z.sameKey (dM x1 x2)) cnt1):=hrg1
   have dF:Hid (w1.heap.size=wr.heap.size):=hs1
   have hr:w.heap.size < wr.heap.size:=by omega
   have HB1:Hid (Below w.heap.size w w1):=⟨hg1.os.trans hB.out.os,hg1.tape.trans hB.out.tape,hg1.output.trans hB.out.output,Nat.le_trans hB.out.size hg1.size,fun k hk=>(hg1.block k (by omega) (fun e=>by have:=Option.some.inj e;omega)).trans (hB.out.block k hk)⟩
   have OA:Hid (Ow 103 2 xA w1 (In (w.heap.size+1) wr.heap.size) (.slice ka kn kc) (ks.map fun u=>(v,u))):=Ow.frame Ep hO.out fun b hb hlt=>hg1.block b hlt (fun e=>by have:=Option.some.inj e;have:=hb.1;omega)
   have HL:Hid (left (dM x1 x2)=true):=hlk
   have HX:Hid (ay x1∧ay x2∧(bW E x1 x2).isSome=true):=⟨hx1,hx2,hsome⟩
   have A1:Below w1.heap.size w1 (w1.alloc (.cells #[.int .i64 x1,.int .i64 x2] 103)):=bn _ _
   have hs:w.heap.size+1≤w1.heap.size:=by omega
   clear hat hkey WU hlk ek hsome hrg1 hR hO hB hx1 hx2 hs1 hr
   by_cases hx:x1=v
   ·subst hx
    have hp1:(ks.map fun u=>(x1,u)).length+1≤maxLen:=by rw [List.length_map];unfold maxLen;omega
    have hp2:((ks.map fun u=>(x1,u)).length+1) * 16≤140737488355328:=by rw [List.length_map];omega
    have A2:Below w1.heap.size w1 ((w1.alloc (.cells #[.int .i64 x1,.int .i64 x2] 103)).alloc (.cells #[.int .i64 x1,.int .i64 x2] 103)):=A1.alloc (by simp) _
    have HA2:Hid (Below w1.heap.size w1 _):=A2
    have mY:Hid (Ow 103 2 xA _ (In (w.heap.size+1) w1.heap.size) (.slice ka kn kc) (ks.map fun u=>(x1,u))):=Ow.below Ep (by rw [dF.out];exact OA.out) A2
    have HE:Hid (xA ((w1.alloc (.cells #[.int .i64 x1,.int .i64 x2] 103)).alloc (.cells #[.int .i64 x1,.int .i64 x2] 103)) [.int .i64 x1,.int .i64 x2] (x1,x2) (In w1.heap.size ((w1.alloc (.cells #[.int .i64 x1,.int .i64 x2] 103)).alloc (.cells #[.int .i64 x1,.int .i64 x2] 103)).heap.size)):=⟨rfl,HX.out.1,HX.out.2.1⟩
    have HC:Hid (∀ j u,[Value.int .i64 x1,.int .i64 x2][j]?=some u→((w1.alloc (.cells #[.int .i64 x1,.int .i64 x2] 103)).alloc (.cells #[.int .i64 x1,.int .i64 x2] 103)).cell? ((⟨w1.heap.size+1,0,none⟩:Addr).add j)=some u):=by
     intro j u hu
     have h:=kH (w1.alloc (.cells #[.int .i64 x1,.int .i64 x2] 103)) #[.int .i64 x1,.int .i64 x2] 103 j u hu
     rw [show (w1.alloc (.cells #[.int .i64 x1,.int .i64 x2] 103)).heap.size=w1.heap.size+1 by simp] at h
     exact h
    have hMs:=A2.size
    have hone:∀ u ∈ [Value.int .i64 x1,.int .i64 x2],u.oneCell'=true:=by
     intro u hu
     simp at hu
     rcases hu with rfl | rfl <;> rfl
    clear A1 A2
    go_wp2_with (at_builtin;refine yR rfl (.tmp 17) (.tmp 19) rfl Ep (B:=w.heap.size+1) (M:=w1.heap.size) mY.out hMs hs Tryz.underlying107 hi hz0 hz1 hz2 rfl (by omega) rfl (x1,x2) [.int .i64 x1,.int .i64 x2] rfl HE.out ⟨w1.heap.size+1,0,none⟩ 1 rfl HC.out hone hp1 hp2 ?_)
    intro OB w3 hO3 hG3 OC
    have Ew:Hid (Ow 103 2 xA w3 (In (w.heap.size+1) w3.heap.size) OB ((ks ++ [x2]).map fun u=>(x1,u))):=by
     rw [List.map_append]
     exact hO3
    obtain ⟨WV,WW,WX,rfl⟩:∃ a n c,OB=.slice a n c:=by
     rcases hO3 with ⟨h,-⟩ | ⟨_,_,_,_,_,h,-⟩
     ·exact ⟨_,_,_,h⟩
     ·exact ⟨_,_,_,h⟩
    have hge:∀ j,(Value.slice ka kn kc).ownBlock=some j→w.heap.size+1≤j:=fun j hj=>(OC j hj).1
    have Iq:∀ b,b < w.heap.size+1→some b≠(Value.slice ka kn kc).ownBlock:=fun b hb e=>by have:=hge b e.symm;omega
    have HR3:Hid (w3.ranges Tryz.prog 103 RM g w.heap.size n D (fun z=>left z && !z.sameKey (dM x1 x2)) cnt1):=((HR1.out.alloc _).alloc _).kept hG3 (Iq g (by omega)) (Iq _ (by omega))
    have HB3:Hid (Below w.heap.size w w3):=rD (Below.step HB1.out HA2.out) hG3 hge (by omega) (by have:=HA2.out.size;omega)
    have hs3:w.heap.size+1≤w3.heap.size:=by have:=HA2.out.size;have:=hG3.size;omega
    clear hO3 hG3 OC hge Iq mY HE HC HA2 hMs
    go_wp2
    go_roundw
    case rel=>exact ⟨ks ++ [x2],_,cnt1,WV,WW,WX,rfl,by simp;omega,HR3.out,HB3.out,hs3,Ew.out,hK.out.step HV.out HX.out.2.1 HL.out HX.out.2.2⟩
    case measure=>rw [HR3.out.left_eq,hrg.left_eq];omega
   ·have hne:(x1 == v)=false:=by simpa using hx
    have pK:Hid (x1≠v):=hx
    clear hx
    go_wp2
    go_roundw
    case rel=>exact ⟨ks,_,cnt1,ka,kn,kc,rfl,by omega,HR1.out.alloc _,Below.step HB1.out A1,by simp;omega,Ow.mono (Ow.below Ep OA.out A1) (fun b hb=>⟨hb.1,by have:=hb.2;have:=dF.out;simp;omega⟩),hK.out.skip HV.out HX.out.1 HX.out.2.1 pK.out⟩
    case measure=>rw [(HR1.out.alloc _).left_eq,hrg.left_eq];omega
theorem OD (g n:Nat) (E:aU) (v:Int) (us:List Int) (w:World) (h:MM w g n E) (hn:n≤2000000) (hv:ay v) (om:us.Pairwise (· < ·)) (hmem:∀ u,u ∈ us↔ay u∧(bW E v u).isSome=true) (h12:us.length≤12) :
  Calls Tryz.prog 70 #[.map (some g),.int .i64 v] w fun e w'=>∃ kv,e=.returned kv∧xB w' kv (us.map fun u=>(v,u))∧Below w.heap.size w w' :=
 (Ip g n E v us w h hn hv om hmem h12).mono fun _ _ ⟨kv,h1,h2,h3,_⟩=>⟨kv,h1,h2,h3⟩
/- What afE of package impl does. -/
theorem OE (wt:Bool) (v:Value) (l:List Int) (w:World) (hv:Bs w v l) :
  Calls Tryz.prog 35 #[.bool wt,v] w fun e w'=>e=.returned (.bool (bif wt then bG l else decide (l.length=0)))∧Below w.heap.size w w':=by
 have H:Hid (Bs w v l):=hv
 obtain ⟨ho,a,cap,rfl,hlc,hcm,-⟩:=hv
 cases wt with
 | true =>
  go_enter Tryz.func35,Tryz.ntmps35
  go_wp2_with (first | (go_at_call 53;refine (Oo _ l _ H.out).mono ?_;rintro e w1 ⟨rfl,B⟩))
  go_ret
  exact ⟨aP rfl,B⟩
 | false =>
  by_cases h:l.length=0
  ·have h':l=[]:=List.eq_nil_of_length_eq_zero h
   subst h'
   go_enter Tryz.func35,Tryz.ntmps35
   go_wp2
   go_ret
   exact ⟨aP rfl,Below.refl _ _⟩
  ·have h2:(l.length:Int)≠0:=by omega
   have e:Hid ((bif false then bG l else decide (l.length=0))=false):=by simp [Hid];exact fun e=>h (by rw [e];rfl)
   generalize l.length=n at h2 hlc h e
   go_enter Tryz.func35,Tryz.ntmps35
   go_wp2
   go_ret
   exact ⟨aP (e.out.trans (by simp [h])),Below.refl _ _⟩
/-- Which fields a kind of command has. -/
def Ey (k:Int):Value :=
 .agg #[.bool (!decide (k=9)),.bool (decide (k=6)),.int .i64 (if k=3∨k=5∨k=6 then 1 else 0),.int .i64 (if k=3∨k=5∨k=6 then 1000000 else 0),.int .i64 (if k=3 then 2 else if k=6 then 1 else 0),
  .int .i64 (if k=2∨k=3 then 31 else 0),.int .i64 (if k=3∨k=8 then 1000000 else 0),.int .i64 (if k=2 then 30 else 0)]
theorem WY (k:Int) (h:0≤k∧k≤9) (w:World) :
  Calls Tryz.prog 34 #[.int .i64 k] w fun e w'=>e=.returned (Ey k)∧Below w.heap.size w w':=by
 have hk:k=0∨k=1∨k=2∨k=3∨k=4∨k=5∨k=6∨k=7∨k=8∨k=9:=by omega
 clear h
 rcases hk with rfl | rfl | rfl | rfl | rfl | rfl | rfl | rfl | rfl | rfl
 all_goals
  go_enter Tryz.func34,Tryz.ntmps34
  go_wp2
 all_goals refine bodyPost_ret (v:=Ey _) (by simp [results,Tryz.results34,go_sem,Ey]) rfl ⟨rfl,?_⟩
 all_goals exact bn _ _
/- What is written into data of the call's own: the world apart from it, and the data as they are then. -/
/-- Apart from the blocks of S the world w' has all that w had. -/
structure Wr (S:Nat→Prop) (w w':World):Prop where
 os:w'.os=w.os
 tape:w'.tape=w.tape
 output:w'.output=w.output
 size:w.heap.size≤w'.heap.size
 block:∀ k,k < w.heap.size→¬ S k→w'.heap[k]?=w.heap[k]?
theorem Wr.refl (S:Nat→Prop) (w:World):Wr S w w:=⟨rfl,rfl,rfl,Nat.le_refl _,fun _ _ _=>rfl⟩
theorem Wr.trans {S:Nat→Prop} {a b c:World} (h:Wr S a b) (k:Wr S b c):Wr S a c :=
 ⟨k.os.trans h.os,k.tape.trans h.tape,k.output.trans h.output,Nat.le_trans h.size k.size,fun i hi hn=>(k.block i (Nat.lt_of_lt_of_le hi h.size) hn).trans (h.block i hi hn)⟩
theorem Wr.mono {S S':Nat→Prop} {a b:World} (h:Wr S a b) (hS:∀ x,S x→S' x):Wr S' a b:=⟨h.os,h.tape,h.output,h.size,fun i hi hn=>h.block i hi fun hs=>hn (hS i hs)⟩
theorem Wr.below {B:Nat} {S:Nat→Prop} {w0 a b:World} (h:Wr S a b) (h0:Below B w0 a) (hS:∀ x,S x→B≤x) (hB:B≤a.heap.size):Below B w0 b :=
 ⟨h.os.trans h0.os,h.tape.trans h0.tape,h.output.trans h0.output,Nat.le_trans h0.size h.size,fun k hk=>(h.block k (Nat.lt_of_lt_of_le hk hB) fun hs=>by have:=hS k hs;omega).trans (h0.block k hk)⟩
theorem Wr.of_below {S:Nat→Prop} {a b:World} (h:Below a.heap.size a b):Wr S a b:=⟨h.os,h.tape,h.output,h.size,fun k hk _=>h.block k hk⟩
theorem Wr.put {S:Nat→Prop} {w:World} {g:Nat} (hg:S g) (o:Nat) (c:List Value) (t:TypeId) (cur:Array Value) (h:w.heap[g]?=some (.cells cur t (0,0))) (hs:o+c.length≤cur.size):Wr S w (put w g o c):=by
 obtain ⟨cur',_,_,_,_,hw⟩:=Ai g t c w o cur h hs
 refine ⟨hw.os,hw.tape,hw.output,hw.size,fun k hk hn=>hw.block k hk fun ⟨h1,h2⟩=>?_⟩
 obtain rfl:k=g:=by omega
 exact hn hg
section
variable {α : Type} {z : α} {mk : α → Int → α} {wt : α → Nat} {k : Int} {l : List α}
end
section
variable {α : Type} {a b : List α} {i : Nat}
end
end Go.Proofs.YtmglhdkeidhafaaGreat
