/- The proof's texts, part 19. -/
import Derived.Lib.ConvBytes
import Derived.Test.YtfabngnaejjcmaaGreatDoorT4
import Derived.Shelf.Abstract
import Derived.Lib.BytesEntry
import Derived.Laws.MakeOwn
import Derived.Laws.IdiomStrings
import Derived.Laws.BytesString
import Derived.Test.YtfabngnaejjcmaaGreatDoorTi
namespace Go.Proofs.YtfabngnaejjcmaaGreatDoor
open Go.RowKit
set_option linter.unusedVariables false
set_option linter.unusedSimpArgs false
set_option maxHeartbeats 1000000
set_option maxRecDepth 100000
/- Rows of bytes of the call's own that may have been made of a string: a mark lies behind their last cell. -/
/-- The slice value v lies at the head of block g, whose first cells are the bytes l; what is marked in the block lies behind its cells, or there is none. -/
def bL (w:World) (g:Nat) (v:Value) (l:List Int):Prop :=
 Oct l/\∃cap cur fz,v=.slice (some ⟨g,0,none⟩) l.length cap/\w.heap[g]?=some (.cells cur 5 fz)/\(fz.2=0\/cap<=fz.1)/\l.length<=cap/\cap<=maxLen/\cur.size=cap/\cur.toList.take l.length=vals l
theorem bL.KH {w:World} {g:Nat} {v:Value} {l:List Int} (h:bL w g v l):Oct l:=h.1
theorem bL.lt {w:World} {g:Nat} {v:Value} {l:List Int} (h:bL w g v l):g < w.heap.size:=by
 obtain⟨_,cap,cur,fz,_,hh,_⟩:=h;exact lt_of_heap hh
theorem bL.form {w:World} {g:Nat} {v:Value} {l:List Int} (h:bL w g v l):∃cap,v=.slice (some ⟨g,0,none⟩) l.length cap:=by
 obtain⟨_,cap,_,_,hv,_⟩:=h;exact⟨cap,hv⟩
theorem bL.holds {w:World} {g:Nat} {v:Value} {l:List Int} (h:bL w g v l):∀j u,(vals l)[j]?=some u->w.cell? ⟨g,j,none⟩=some u:=by
 obtain⟨_,cap,cur,fz,_,hh,_,_,_,_,ht⟩:=h;intro j u hu;rw[cell_of_row w g j cur _ fz hh];rw[← ht,List.getElem?_take] at hu
 split at hu
 ·simpa using hu
 ·cases hu
theorem bL.bs {w:World} {g:Nat} {v:Value} {l:List Int} (h:bL w g v l):Bs w v l:=by
 have hl:=h.lt;have hc:=h.holds;obtain⟨ho,cap,cur,fz,hv,hh,_,h1,h2,_⟩:=h;refine⟨ho,some ⟨g,0,none⟩,cap,hv,h1,h2,(λh=>by cases h),λ_=>⟨g,0,rfl,hl,λi hi=>?_⟩⟩;rw[Nat.zero_add];exact hc i _ (Gy l i hi)
/-- The row stays where its block does. -/
theorem bL.frame {w w':World} {g:Nat} {v:Value} {l:List Int} (h:bL w g v l) (hw:w'.heap[g]?=w.heap[g]?):bL w' g v l:=by
 obtain⟨ho,cap,cur,fz,hv,hh,r⟩:=h;exact⟨ho,cap,cur,fz,hv,hw.trans hh,r⟩
theorem bL.below {w w':World} {g:Nat} {v:Value} {l:List Int} (h:bL w g v l) (hb:Below w.heap.size w w'):bL w' g v l:=h.frame (hb.block g h.lt)
/-- Bytes that lie in another block than g stay. -/
theorem Bs.grown {w w':World} {g:Nat} {v:Value} {l:List Int} (h:Bs w v l) (hg:w.grownBy w' (some g)) (hn:v.ownBlock≠some g):Bs w' v l:=by
 obtain⟨ho,a,cap,hv,h1,h2,h3,h4⟩:=h;refine⟨ho,a,cap,hv,h1,h2,h3,λhp=>?_⟩;obtain⟨b,off,rfl,hb,hc⟩:=h4 hp;have hne:some b≠some g:=by rw[hv] at hn;simpa [Value.ownBlock] using hn
 refine⟨b,off,rfl,Nat.lt_of_lt_of_le hb hg.size,λi hi=>?_⟩;rw[World.cell?_of_block (hg.block b hb hne)];exact hc i hi
theorem abV (P:Program) (g o:Nat) (t:TypeId) (fz:Nat × Nat):∀(vs:List Value) (i:Nat) (cur:Array Value) (w:World),w.heap[g]?=some (.cells cur t fz)->(fz.2=0\/o+i+vs.length<=fz.1)->o+i+vs.length<=cur.size->(∀v ∈ vs,v.oneCell'=true) ->
  (storeCells ⟨g,o,none⟩ vs i).run P w=.ok () (w.setRow g (cur.toList.take (o+i) ++ vs ++ cur.toList.drop (o+i+vs.length)).toArray):=by
 intro vs
 induction vs with
 | nil =>
  intro i cur w hg _ _ _;have e:cur.toList.take (o+i) ++ [] ++ cur.toList.drop (o+i+0)=cur.toList:=by simp
  show(storeCells ⟨g,o,none⟩ [] i).run P w=_;simp only[List.length_nil,e,Array.toArray_toList,storeCells];rw[setRow_self w g cur t fz hg];rfl
 | cons v rest ih =>
  intro i cur w hg hfz hl h1;simp only[List.length_cons] at hfz hl;have hc:w.cell? ⟨g,o+i,none⟩=some (cur[o+i]'(by omega)):=by rw[cell_of_row w g (o+i) cur t fz hg];simp[show o+i < cur.size by omega]
  have hf:w.frozen? ⟨g,o+i,none⟩=false:=by
   simp only[World.frozen?,hg,Bool.and_eq_false_iff,decide_eq_false_iff_not];rcases hfz with h | h
   ·right;omega
   ·left;omega
  have hs:(store ((⟨g,o,none⟩:Addr).add i) v).run P w=.ok () (w.setRow g (cur.setIfInBounds (o+i) v)):=by
   rw[Addr.add_lit,run_store P w _ v _ (h1 v (by simp)),hc];simp[hf,setCell_eq_setRow w g (o+i) cur t fz v hg]
  have hr:=ih (i+1) (cur.setIfInBounds (o+i) v) (w.setRow g (cur.setIfInBounds (o+i) v)) (setRow_heap w g cur _ t _ hg) (by omega) (by simp;omega) (λx hx=>h1 x (by simp[hx]));simp only[storeCells,Sem.run_bind,hs,Result.andThen_ok,hr,setRow_setRow]
  congr 3
  have e:=list_seg_step cur.toList (o+i) v rest (by simp;omega);simpa [Array.toList_setIfInBounds,Nat.add_assoc] using e
/-- What append does behind such a row. -/
theorem abW {P:Program} (w:World) (t ty:TypeId) (i:TypeInfo) (ht:P.underlying t=some (.slice 5)) (hi:P.info? 5=some i) (hz:i.zero=some (.int .u8 0)) (hsize:i.size=1) (hby:i.bytes=1)
  (g:Nat) (v:Value) (l:List Int) (hown:bL w g v l) (u:Value) (m:List Int) (hm:Bs w u m) (hlen:l.length+m.length<=140737488355328) :
  ∃v' w' g',(Builtin.append_ #[t,t] ty #[v,u]).run P w=.ok v' w'/\bL w' g' v' (l ++ m)/\w.grownBy w' (some g)/\(g'=g\/w.heap.size<=g'):=by
 have hold:=hown.holds;obtain⟨ho,cap,cur,fz,rfl,hh,hfz,h1,h2,h3,h4⟩:=hown;obtain⟨hmo,ad,c,rfl,k1,k2,k3,k4⟩:=hm;have hlm:(l ++ m).length=l.length+m.length:=by simp
 cases ad with
 | none =>
  have:c=0:=k3 rfl;subst this;have hm0:m=[]:=List.eq_nil_of_length_eq_zero (by omega);subst hm0;refine⟨.slice (some ⟨g,0,none⟩) l.length cap,w,g,?_,⟨by simpa using ho,cap,cur,fz,by simp,hh,hfz,by simpa using h1,h2,h3,by simpa using h4⟩,World.grownBy.refl _ _,.inl rfl⟩;simp[Builtin.append_,run_underlying ht,sizeOf,typeInfo,hi,Builtin.lenOf,Builtin.firstCells,h1,storeCells]
 | some ad =>
  have hnews:∀j u,(vals m)[j]?=some u->w.cell? (ad.add j)=some u:=by
   intro j y hy;have hj:j < m.length:=by have:=(gs1 hy).1;simpa [kM] using this
   obtain⟨b,off,had,_,hc⟩:=k4 (by omega);cases had
   rw[Addr.add_lit,hc j hj,← hy,Gy m j hj]
  by_cases hroom:l.length+m.length<=cap
  ·have hf:=run_firstCells_some (P:=P) w i.size m.length ad m.length c (vals m) (by rw[hsize,kM,Nat.mul_one]) hnews
   have hst:=abV P g (l.length * i.size) 5 fz (vals m) 0 cur w hh (by rw[hsize,kM];rcases hfz with h | h <;> omega) (by rw[hsize,kM];omega) (Qm m);rw[hsize] at hf hst;simp only[Nat.add_zero,Nat.mul_one,kM] at hst hf;refine⟨.slice (some ⟨g,0,none⟩) (l.length+m.length) cap,w.setRow g (cur.toList.take l.length ++ vals m ++ cur.toList.drop (l.length+m.length)).toArray,g,?_,⟨KA ho hmo,cap,_,fz,by rw[hlm],setRow_heap w g cur _ _ _ hh,hfz,by rw[hlm];exact hroom,h2,?_,?_⟩,⟨rfl,rfl,rfl,by simp,λk _ hk=>setRow_other w g k _ (λe=>hk (by rw[e]))⟩,.inl rfl⟩
   ·simp[Builtin.append_,run_underlying ht,sizeOf,typeInfo,hi,hsize,Builtin.lenOf,hroom,hf,Addr.add_lit,hst]
   ·simp only[List.size_toArray,List.length_append,List.length_take,List.length_drop,Array.length_toList,kM];omega
   ·have hv:(vals l ++ vals m).length=(l ++ m).length:=by simp[kM]
    show((cur.toList.take l.length ++ vals m ++ cur.toList.drop (l.length+m.length)).take (l ++ m).length)=_;rw[h4,Kz,← hv];exact List.take_left
  ·have hr:=run_append_grow (P:=P) w t ty 5 i (.int .u8 0) ht hi hz ⟨g,0,none⟩ l.length cap (vals l) (by rw[hsize,kM,Nat.mul_one]) (λj u hu=>by rw[Addr.add_lit,Nat.zero_add];exact hold j u hu) ad m.length c (vals m) (by rw[hsize,kM,Nat.mul_one]) hnews (by omega) (by omega) (by rw[hby];exact growslice_fits (by omega) (by omega))
   have hge:=grownCap_ge w (l.length+m.length) cap 5;have hcm:grownCap w (l.length+m.length) cap 5<=maxLen:=grownCap_le_maxLen w (l.length+m.length) cap _ (by unfold maxLen;omega);refine⟨_,_,w.heap.size,hr,⟨KA ho hmo,_,_,(0,0),by rw[hlm],heap_alloc_new w.drew _,.inl rfl,by rw[hlm];exact hge,hcm,?_,?_⟩,⟨rfl,rfl,rfl,by simp,λk hk _=>Below.heap_alloc w.drew _ k hk⟩,.inr (Nat.le_refl _)⟩
   ·have hz1:(Value.int IntKind.u8 0).cells.size=1:=rfl
    simp only[Array.size_append,List.size_toArray,size_zeroCells,hz1,kM];omega
   ·have hv:(vals l ++ vals m).length=(l ++ m).length:=by simp[kM]
    simp only[Array.toList_append,List.append_assoc];rw[← List.append_assoc,Kz,← hv];exact List.take_left
theorem abX {P:Program} {w:World} {ops:Array Oper} {rest:List Oper} {o:Oper} {a:Act} {Q:Exit->Act->World->Prop} (hgd:o.guard=none) (s x:Operand) (t:TypeId)
  (ho:o.op=.call { callee:=.builtin .append,args:=#[s,x],argTypes:=#[t,t] })
  (i:TypeInfo) (ht:P.underlying t=some (.slice 5)) (hi:P.info? 5=some i) (hz:i.zero=some (.int .u8 0)) (hsize:i.size=1) (hby:i.bytes=1)
  (g:Nat) (v:Value) (l:List Int) (hs:a.eval s=v) (hown:bL w g v l) (u:Value) (m:List Int) (hx:a.eval x=u) (hm:Bs w u m) (hlen:l.length+m.length<=140737488355328)
  (h:∀v' w' g',bL w' g' v' (l ++ m)->w.grownBy w' (some g)->(g'=g\/w.heap.size<=g')->wpList P ops Q rest (a.put o.dst v') w'):wpList P ops Q (o :: rest) a w:=by
 refine wpList_plain hgd λK hK=>?_;obtain⟨v',w',g',hr,h2,h3,h4⟩:=abW (P:=P) w t o.type i ht hi hz hsize hby g v l hown u m hm hlen;unfold Oper.wp execOp;simp only[ho,resolve,invoke,builtin,Sem.run_bind,Sem.run_pure,Result.andThen_ok,List.map_toArray,List.map_cons,List.map_nil,hs,hx,hr];exact hK _ _ (h v' w' g' h2 h3 h4)
/-- What '[]byte(s)' answers. -/
theorem nK (w:World) (s:List Int) (hs:Oct s) (hl:s.length<=1000000) :
  bL (Lib.bytesWorld w 5 (strOfNums s)) w.heap.size (.slice (some ⟨w.heap.size,0,none⟩) s.length (grownCap w s.length 0 5)) s/\Below w.heap.size w (Lib.bytesWorld w 5 (strOfNums s)):=by
 have hge:=grownCap_ge w s.length 0 5;have hcm:grownCap w s.length 0 5<=maxLen:=grownCap_le_maxLen w s.length 0 _ (by unfold maxLen;omega);have hsz:=strOfNums_size s;have hcs:(Lib.bytesCells w 5 (strOfNums s)).size=grownCap w s.length 0 5:=by
  have:(strOfNums s).data.size=s.length:=hsz;simp only[Lib.bytesCells,Array.size_append,Array.size_map,Array.size_replicate,this,hsz];omega
 refine⟨⟨hs,_,_,_,rfl,Lib.bytesWorld_at_new w _ _,.inr (Nat.le_of_eq hcs.symm),hge,hcm,hcs,?_⟩,rfl,rfl,rfl,by rw[Lib.bytesWorld_size];omega,λk hk=>Lib.bytesWorld_at_old w _ _ k hk⟩;have e:((strOfNums s).data.map λb=>Value.int .u8 b.toNat).toList=vals s:=(by rw[Array.toList_map];exact ZB hs);have hv:(vals s).length=s.length:=kM s;simp only[Lib.bytesCells,Array.toList_append];rw[e,← hv];exact List.take_left
/- What akb of package spec does behind bytes that may have been made of a string. -/
/- What akc, akd, ake of package spec do. -/
/- What akf of package spec does. -/
/- What the words of a line may be. -/
/- What bytes.Compare do. -/
open Go.RowKit Go.Shelf
/-- The bytes of a slice, as the model's entries take them. -/
theorem Ua {w:World} {v:Value} {l:List Int} (h:Bs w v l):(Extern.Bytes.bytesOf v).run Tryz.prog w=.ok ⟨(jG l).toArray⟩ w:=by
 obtain⟨ho,a,cap,rfl,h1,h2,h3,h4⟩:=h;cases a with
 | none =>
  have hc:=h3 rfl;have:l=[]:=List.eq_nil_of_length_eq_zero (by omega);subst this;rfl
 | some ad =>
  have key:∀j x,l[j]?=some x->w.cell? (ad.add j)=some (.int .u8 x):=by
   intro j x hj;have hjl:j < l.length:=(gs1 hj).1;obtain⟨b,off,had,-,hc⟩:=h4 (by omega);cases had
   rw[Addr.add_lit,hc j hjl];simp[List.getD,hj]
  have:=Lib.run_loadBytesX (P:=Tryz.prog) w l ad .empty key;simp only[Extern.Bytes.bytesOf];rw[this]
  congr 1
  apply ByteArray.ext
  show(#[]:Array UInt8) ++ _=_;simp only[Array.empty_append];rfl
theorem abY {w:World} {v u:Value} {l m:List Int} (hv:Bs w v l) (hu:Bs w u m):(Extern.BytealgCompare.compare #[v,u]).run Tryz.prog w=.ok (.int .i64 (Lib.compareBytes (jG l) (jG m))) w:=by
 change Sem.run Tryz.prog (do pure (goInt (Extern.BytealgCompare.cmp (← Extern.Bytes.bytesOf v) (← Extern.Bytes.bytesOf u)))) w=_
 simp only[Sem.run_bind,Sem.run_pure,Ua hv,Ua hu,Result.andThen];rw[Lib.cmp_eq];rfl
theorem abZ (v u:Value) (l m:List Int) (w:World) (hv:Bs w v l) (hu:Bs w u m) :
  Calls Tryz.prog 108 #[v,u] w λe w'=>e=.returned (.int .i64 (Lib.compareBytes (jG l) (jG m)))/\w'=w:=by
 have h8:=@run_callFunc_extern Tryz.prog 136 _ Extern.BytealgCompare.compare Tryz.func136 (by kernel_rfl) (by kernel_rfl) (by kernel_rfl) (by kernel_rfl);have hr:=abY hv hu;obtain⟨a,n,c,rfl⟩:=hv.aP;obtain⟨a',n',c',rfl⟩:=hu.aP;clear hv hu;generalize Lib.compareBytes (jG l) (jG m)=r at hr
 go_enter Tryz.func108,Tryz.ntmps108;go_wp2;go_ret;exact⟨rfl,rfl⟩
/- Stores, new variables, new slices. -/
section
variable {P : Program} {w0 : World} {φ : Ph} {s s' : Ob} {w : World} {n n' : Nat} {r l1 : Lg} {v : AV}
/-- The machine does S, answers what v says, and the Tg objects say what is there. -/
def Made (P:Program) (w0:World) (φ:Ph) (s':Ob) (w:World) (n n':Nat) (v:AV) (S:Sem Value):Prop :=
 ∃ψ V w',S.run P w=.ok V w'/\Rel P w0 ψ s' w'/\Ext φ ψ n n'/\φ.le ψ/\v.den ψ=some V
theorem ze {S:Sem Value} (h:Rel P w0 φ s w) (k:s'=s/\n'=n/\∃V,v.den φ=some V/\S.run P w=.ok V w):Made P w0 φ s' w n n' v S:=by
 obtain⟨rfl,rfl,V,h1,h2⟩:=k;exact⟨φ,V,w,h2,h,.refl _ _,Ph.le_refl _,h1⟩
def Free (φ:Ph) (n n':Nat):Prop:=∀i,n<=i->i < n'->φ i=none
theorem Ub {t:Nat} {l:List AV} {V:Value} (h:Rel P w0 φ s w) (hL:aH φ l=some V.cells.toList) (e:yO P t l s n=.ok v s' n' r l1) (hf:Free φ n n') :
  Made P w0 φ s' w n n' v (do pure (.pointer (some (← newVar t V)))):=by
 unfold yO at e;obtain⟨k,s1,n1,r1,m1,r2,m2,e1,e2,rfl,rfl⟩:=ak e;obtain⟨rfl,rfl,hsz⟩:=kJ e1;obtain⟨i,s2,n2,r3,m3,r4,m4,e3,e4,rfl,rfl⟩:=ak e2;obtain⟨rfl,rfl,rfl⟩:=aF e4;obtain⟨ψ,b,w',q1,q2,q3,q4,rfl,q5,q6⟩:=TD (w0:=w0) h hL hsz _ _ _ _ _ e3 hf;refine⟨ψ,.pointer (some b),w',?_,q2,q3,q4,by simp[AV.den,q5,← q6]⟩;simp only[newVar,Sem.run_bind];rw[show(newRow t V.cells).run P w=_ from q1];simp
theorem ab0 {t:Nat} (h:Rel P w0 φ s w) (e:Io P t s n=.ok v s' n' r l1) (hf:Free φ n n'):Made P w0 φ s' w n n' v (Instr.alloc t true (.tuple #[])):=by
 unfold Io at e;obtain⟨l,s1,n1,r1,m1,r2,m2,e1,e2,rfl,rfl⟩:=ak e;obtain⟨rfl,rfl,i,z,hi,hz,hL,-⟩:=BN (φ:=φ) e1;obtain⟨ψ,V,w',q1,q2⟩:=Ub (V:=z) h hL e2 hf;exact⟨ψ,V,w',by simp[Instr.alloc,zeroValue,typeInfo,hi,hz];simpa using q1,q2⟩
theorem ab1 {t:Nat} {x u:AV} {X U:Value} (h:Rel P w0 φ s w) (hx:x.den φ=some X) (hu:u.den φ=some U) (e:A8 P t x u s n=.ok v s' n' r l1):MB P w0 φ s' w n n' v (Instr.storeAt t X U):=by
 unfold A8 at e;obtain⟨p,s1,n1,r1,m1,r2,m2,e1,e2,rfl,rfl⟩:=ak e;obtain⟨rfl,rfl,rfl⟩:=BO e1;obtain⟨k,s2,n2,r3,m3,r4,m4,e3,e4,rfl,rfl⟩:=ak e2;obtain⟨rfl,rfl,hsz⟩:=kJ e3;obtain⟨hb,e5⟩:=eG e4;obtain⟨q,s3,n3,r5,m5,r6,m6,e6,e7,rfl,rfl⟩:=ak e5;obtain⟨hg,rfl,rfl⟩:=uV e6;obtain⟨z,s4,n4,r7,m7,r8,m8,e8,e9,rfl,rfl⟩:=ak e7;obtain⟨rfl,rfl,rfl⟩:=aF e9;obtain⟨b,y,hp,rfl⟩:=pK hx;have hc:=Mf hu;obtain⟨rfl,-,k1⟩:=IL hp h hg hc e8;obtain⟨w',k2,k3⟩:=k1 0 (Nat.zero_le _);have hlen:U.cells.size=k:=by
  have:=nI hc;have h2:=Nat.eq_of_beq_eq_true hb;simp at this;omega
 exact⟨rfl,rfl,w',by simp[Instr.storeAt,Instr.sureAddr,storeVar,run_sizeOf hsz,hlen];exact k2,k3⟩
/-- Parts that are laid into cells. -/
theorem ab2 {l:List AV} {L:List Value} {u:AV} {U:Value} {o:Nat} (h:aH φ l=some L) (hu:u.den φ=some U):aH φ (l.set o u)=some (L.set o U):=by
 induction l generalizing L o with
 | nil=>simp only[aH] at h;cases h;simp[aH]
 | cons a l ih =>
  obtain⟨V,L',hv,hl,rfl⟩:=jk h;cases o with
  | zero=>exact lV hu hl
  | succ o=>exact lV hv (ih hl)
theorem ab3 {us:List AV} {US:List Value}:∀ {cs:List AV} {C:Array Value} {o:Nat} (d:Nat),aH φ cs=some C.toList->aH φ us=some US ->
  aH φ (setAt cs (o+d) us)=some ((US.zipIdx d).foldl (λcs (x:Value × Nat)=>cs.setIfInBounds (o+x.2) x.1) C).toList:=by
 induction us generalizing US with
 | nil=>intro cs C o d h hu;simp only[aH] at hu;cases hu;simpa [setAt] using h
 | cons u us ih =>
  intro cs C o d h hu;obtain⟨U,US',hU,hl,rfl⟩:=jk hu;simp only[setAt,List.zipIdx_cons,List.foldl_cons];rw[show Nat.succ (o+d)=o+(d+1) from rfl];exact ih (d+1) (by rw[Array.toList_setIfInBounds];exact ab2 h hU) hl
theorem Uc:∀ {us cs:List AV} {o:Nat},(setAt cs o us).length=cs.length
 | [],cs,o=>rfl
 | u :: us,cs,o=>by simp only[setAt];rw[Uc];simp
def EK (φ:Ph):List (Nat × AV)->List (Nat × Value)->Prop
 | [],[]=>True
 | x :: l,X :: L=>x.1=X.1/\x.2.den φ=some X.2/\EK φ l L
 | _,_=>False
theorem Jb {pl PL:Nat->Option (Nat × Nat)} (hpl:∀i x,pl i=some x->PL i=some x):∀ {ps:List (Nat × AV)} {PS:List (Nat × Value)} {cs cs':List AV} {C:Array Value},EK φ ps PS->aH φ cs=some C.toList->yL pl cs ps=some cs' ->
  ∃C',Instr.fill PL C PS=some C'/\aH φ cs'=some C'.toList/\cs'.length=cs.length
 | [],[],cs,cs',C,_,hc,e=>by simp only[yL] at e;cases e;exact⟨C,rfl,hc,rfl⟩
 | x :: ps,X :: PS,cs,cs',C,hp,hc,e=>by
  obtain⟨i,u⟩:=x;obtain⟨I,U⟩:=X;obtain⟨h1,h2,h3⟩:=hp;cases h1
  simp only[yL] at e;cases hpi:pl i with
  | none=>rw[hpi] at e;cases e
  | some q =>
   rw[hpi] at e;obtain⟨off,size⟩:=q;dsimp only at e;cases hb:and (Nat.beq u.cells.length size) (Nat.ble (off+size) cs.length) with
   | false=>rw[hb] at e;cases e
   | true =>
    rw[hb] at e;simp only[wF] at e;simp only[Bool.and_eq_true] at hb;have b1:=Nat.eq_of_beq_eq_true hb.1;have b2:=Nat.le_of_ble_eq_true hb.2;have hu:=Mf h2;have lu:=nI hu;have lc:=nI hc;have key:=ab3 (o:=off) 0 hc hu;simp only[Nat.add_zero] at key;obtain⟨C',k1,k2,k3⟩:=Jb hpl h3 key e;refine⟨C',?_,k2,by rw[k3,Uc]⟩;simp only[Array.length_toList] at lu lc;simp only[Instr.fill,hpl _ _ hpi];rw[if_neg (by simp;omega),← k1]
    congr 1
    rw[← Array.foldl_toList,Array.toList_zipIdx]
 | [],_ :: _,_,_,_,h,_,_=>h.elim
 | _ :: _,[],_,_,_,h,_,_=>h.elim
theorem Ud:∀ {l:List Field} {pl:List (Nat × Nat)} {s s':Ob} {n n':Nat} {r l1:Lg},Eb P l s n=.ok pl s' n' r l1 ->
  s'=s/\n'=n/\(l.mapM (λf=>do pure (f.offset,← sizeOf f.type):Field->Sem (Nat × Nat))).run P w=.ok pl w
 | [],pl,s,s',n,n',r,l1,e=>by obtain⟨rfl,rfl,rfl⟩:=aF (show(pure []:M _) _ _=_ from e);exact⟨rfl,rfl,by simp⟩
 | f :: l,pl,s,s',n,n',r,l1,e=>by
  obtain⟨x,s1,n1,r1,m1,r2,m2,e1,e2,rfl,rfl⟩:=ak (show((do let k ← iA P f.type;pure (f.offset,k):M _) >>= _) _ _=_ from e);obtain⟨k,s2,n2,r3,m3,r4,m4,e3,e4,rfl,rfl⟩:=ak e1;obtain⟨rfl,rfl,hsz⟩:=kJ e3;obtain⟨rfl,rfl,rfl⟩:=aF e4;obtain⟨y,s3,n3,r5,m5,r6,m6,e5,e6,rfl,rfl⟩:=ak e2;obtain⟨rfl,rfl,q⟩:=Ud (l:=l) e5;obtain⟨rfl,rfl,rfl⟩:=aF e6;refine⟨rfl,rfl,?_⟩;simp only[List.mapM_cons,Sem.run_bind,run_sizeOf hsz,Result.andThen_ok,Sem.run_pure,q]
theorem ab4 {t:Nat} {ps:List (Nat × AV)} {PS:List (Nat × Value)} (hp:EK φ ps PS) (e:AY P t ps s n=.ok v s' n' r l1) :
  s'=s/\n'=n/\∃V,v.den φ=some V/\(Instr.build t PS.toArray).run P w=.ok V w:=by
 unfold AY at e;obtain⟨z,s1,n1,r1,m1,r2,m2,e1,e2,rfl,rfl⟩:=ak e;obtain⟨rfl,rfl,i,Z,hi,hz,hL,-⟩:=BN (φ:=φ) e1;obtain⟨d,s2,n2,r3,m3,r4,m4,e3,e4,rfl,rfl⟩:=ak e2;obtain⟨rfl,rfl,h1⟩:=iO e3;have BP:(zeroValue t).run P w=.ok Z w:=by simp[zeroValue,typeInfo,hi,hz]
 cases d with
 | struct fs =>
  obtain⟨pl,s3,n3,r5,m5,r6,m6,e5,e6,rfl,rfl⟩:=ak (show(Eb P fs.toList >>= _) _ _=_ from e4);obtain⟨rfl,rfl,q⟩:=Ud (w:=w) e5;obtain⟨c,s4,n4,r7,m7,r8,m8,e7,e8,rfl,rfl⟩:=ak e6;obtain⟨hc,rfl,rfl⟩:=bW e7;obtain⟨rfl,rfl,rfl⟩:=aF e8;obtain⟨C',k1,k2,-⟩:=Jb (PL:=(pl.toArray[·]?)) (λi x hx=>by simpa using hx) hp hL hc;refine⟨rfl,rfl,.agg C',by simp[AV.den,k2],?_⟩;simp only[Instr.build,Sem.run_bind,BP,Result.andThen_ok,iZ h1]
  rw[show(fs.mapM (λf=>do pure (f.offset,← sizeOf f.type):Field->Sem (Nat × Nat)))=List.toArray <$> fs.toList.mapM (λf=>do pure (f.offset,← sizeOf f.type):Field->Sem (Nat × Nat)) from Array.mapM_eq_mapM_toList ..];rw[show(List.toArray <$> fs.toList.mapM (λf=>do pure (f.offset,← sizeOf f.type):Field->Sem (Nat × Nat))).run P w=.ok pl.toArray w by rw[← bind_pure_comp,Sem.run_bind,q];simp];simp only[Result.andThen_ok,k1];simp
 | array m el =>
  obtain⟨k,s3,n3,r5,m5,r6,m6,e5,e6,rfl,rfl⟩:=ak (show(iA P el >>= _) _ _=_ from e4);obtain⟨rfl,rfl,hsz⟩:=kJ e5;obtain⟨c,s4,n4,r7,m7,r8,m8,e7,e8,rfl,rfl⟩:=ak e6;obtain⟨hc,rfl,rfl⟩:=bW e7;obtain⟨rfl,rfl,rfl⟩:=aF e8;obtain⟨C',k1,k2,-⟩:=Jb (PL:=λi=>some (i * k,k)) (λi x hx=>hx) hp hL hc;refine⟨rfl,rfl,.agg C',by simp[AV.den,k2],?_⟩;simp only[Instr.build,Sem.run_bind,BP,Result.andThen_ok,iZ h1,run_sizeOf hsz,k1];simp
 | _=>cases e4
end
/- New slices, maps, iterators; conversions. -/
section
variable {P : Program} {w0 : World} {φ : Ph} {s s' : Ob} {w : World} {n n' : Nat} {r l1 : Lg} {v : AV}
theorem ab5 (Z:Array Value) (k:Nat):(madeCells Z ((k+1) * Z.size)).toList=Z.toList ++ (madeCells Z (k * Z.size)).toList:=by
 have h1:(k+1) * Z.size=Z.size+k * Z.size:=by rw[Nat.succ_mul,Nat.add_comm]
 unfold madeCells;rw[h1,Array.toList_map,Array.toList_range,List.range_add,List.map_append,Array.toList_map,Array.toList_range,List.map_map]
 congr 1
 ·apply List.ext_getElem
  ·simp
  ·intro i h1 h2
   simp at h1;simp[Nat.mod_eq_of_lt h1,h1]
 ·apply List.map_congr_left
  intro i _;simp[Nat.add_mod_left]
theorem Jc {z:List AV} {Z:Array Value} (h:aH φ z=some Z.toList):∀k,aH φ (yM z k)=some (madeCells Z (k * z.length)).toList
 | 0=>by simp[yM,madeCells,aH]
 | k+1=>by
  have hl:=nI h;have hl':z.length=Z.size:=by simpa using hl.symm
  simp only[yM];rw[hl',ab5,← hl'];exact wT h (Jc h k)
theorem Ue {t e m c:Nat} {l:List AV} {L:List Value} {S:Sem Value} (h:Rel P w0 φ s w) (hL:aH φ l=some L) (hsz:(P.info? t).map (·.size)=some e) {i:Nat} {s1:Ob} {n1:Nat} (e1:pE t e l false s n=.ok i s1 n1 r l1) (hf:Free φ n n1)
  (hS:∀W b,(newRow t L.toArray).run P w=.ok ⟨b,0,none⟩ W->S.run P w=.ok (.slice (some ⟨b,0,none⟩) m c) W):Made P w0 φ s1 w n n1 (.sl i 0 m c) S:=by
 obtain⟨ψ,b,w',q1,q2,q3,q4,rfl,q5,q6⟩:=TD (w0:=w0) h hL hsz _ _ _ _ _ e1 hf;exact⟨ψ,.slice (some ⟨b.block,0,none⟩) m c,w',hS _ _ (by rw[q1,← q6]),q2,q3,q4,by simp[AV.den,q5]⟩
theorem ab6 {t len:Nat} {ps:List (Nat × AV)} {PS:List (Nat × Value)} (h:Rel P w0 φ s w) (hp:EK φ ps PS) (e:AZ P t len ps s n=.ok v s' n' r l1) (hf:Free φ n n'):Made P w0 φ s' w n n' v (Instr.buildSlice t len PS.toArray):=by
 unfold AZ at e;obtain⟨el,s1,n1,r1,m1,r2,m2,e1,e2,rfl,rfl⟩:=ak e;obtain⟨rfl,rfl,h1⟩:=pJ e1;obtain⟨k,s2,n2,r3,m3,r4,m4,e3,e4,rfl,rfl⟩:=ak e2;obtain⟨rfl,rfl,hsz⟩:=kJ e3;obtain⟨hb,e5⟩:=eG e4;have hb':len * k<=2 ^ 24:=Nat.le_of_ble_eq_true hb;obtain⟨z,s3,n3,r5,m5,r6,m6,e6,e7,rfl,rfl⟩:=ak e5;have hz:s3=s2/\n3=n2/\∃Z:Array Value,aH φ z=some (madeCells Z (len * k)).toList/\((len * k=0/\Z = #[])\/(¬len * k=0/\∃V,(zeroValue el).run P w=.ok V w/\Z=V.cells)):=by
  unfold LH at e6;cases h0:Nat.beq (Nat.mul len k) 0 with
  | true =>
   rw[h0] at e6;obtain⟨rfl,rfl,rfl⟩:=aF (show(pure _:M _) _ _=_ from e6);have h0':len * k=0:=Nat.eq_of_beq_eq_true h0;exact⟨rfl,rfl,#[],by simp[h0',madeCells,aH],.inl ⟨h0',rfl⟩⟩
  | false =>
   rw[h0] at e6;obtain⟨z1,s4,n4,r7,m7,r8,m8,e8,e9,rfl,rfl⟩:=ak (show(sI P el >>= _) _ _=_ from e6);obtain⟨rfl,rfl,i,Z,hi,hz,hL,-⟩:=BN (φ:=φ) e8;obtain⟨hb2,e10⟩:=eG e9;obtain⟨rfl,rfl,rfl⟩:=aF e10;have h0':¬len * k=0:=λh=>by rw[show Nat.mul len k=0 from h] at h0;cases h0
   have hk:=Nat.eq_of_beq_eq_true hb2;subst hk;exact⟨rfl,rfl,Z.cells,Jc hL len,.inr ⟨h0',Z,by simp[zeroValue,typeInfo,hi,hz],rfl⟩⟩
 obtain⟨rfl,rfl,Z,hZ,BP⟩:=hz;obtain⟨c,s4,n4,r7,m7,r8,m8,e8,e9,rfl,rfl⟩:=ak e7;obtain⟨hc,rfl,rfl⟩:=bW e8;obtain⟨C',k1,k2,-⟩:=Jb (PL:=λi=>some (i * k,k)) (λi x hx=>hx) hp hZ hc;obtain⟨i,s5,n5,r9,m9,lg,m10,e10,e11,rfl,rfl⟩:=ak e9;obtain⟨rfl,rfl,rfl⟩:=aF e11;refine Ue h k2 hsz e10 hf λW b hW=>?_;simp only[Instr.buildSlice,Sem.run_bind,iZ h1,Result.andThen_ok,run_sizeOf hsz];rw[if_neg (by omega)];have hW':(newRow el C').run P w=.ok ⟨b,0,none⟩ W:=by simpa using hW
 rcases BP with⟨h0,rfl⟩ | ⟨h0,V,hV,rfl⟩
 ·rw[if_pos h0]
  simp only[Sem.run_bind,Sem.run_pure,Result.andThen_ok];rw[show Instr.fill (λi=>some (i * k,k)) (Array.map (λx=>(#[]:Array Value)[x % (#[]:Array Value).size]!) (Array.range (len * k))) PS=some C' from k1];simp only[Sem.run_bind,hW',Result.andThen_ok,Sem.run_pure]
 ·rw[if_neg h0]
  simp only[Sem.run_bind,Sem.run_pure,Result.andThen_ok,hV];rw[show Instr.fill (λi=>some (i * k,k)) (Array.map (λx=>V.cells[x % V.cells.size]!) (Array.range (len * k))) PS=some C' from k1];simp only[Sem.run_bind,hW',Result.andThen_ok,Sem.run_pure]
theorem ab7 {t:Nat} {l c:AV} {L C:Value} (h:Rel P w0 φ s w) (hl:l.den φ=some L) (hc:c.den φ=some C) (e:Bj P t l c s n=.ok v s' n' r l1) (hf:Free φ n n'):Made P w0 φ s' w n n' v (Instr.makeSlice t L C):=by
 unfold Bj at e;obtain⟨el,s1,n1,r1,m1,r2,m2,e1,e2,rfl,rfl⟩:=ak e;obtain⟨rfl,rfl,h1⟩:=pJ e1;obtain⟨k,s2,n2,r3,m3,r4,m4,e3,e4,rfl,rfl⟩:=ak e2;obtain⟨rfl,rfl,hsz⟩:=kJ e3;obtain⟨jU,s3,n3,r5,m5,r6,m6,e5,e6,rfl,rfl⟩:=ak e4;obtain⟨hby,rfl,rfl⟩:=bW e5;obtain⟨l',s4,n4,r7,m7,r8,m8,e7,e8,rfl,rfl⟩:=ak e6;obtain⟨rfl,rfl,kl,rfl⟩:=EI hl e7;obtain⟨c',s5,n5,r9,m9,lg,m10,e9,e10,rfl,rfl⟩:=ak e8;obtain⟨rfl,rfl,kc,rfl⟩:=EI hc e9;obtain⟨hb,e11⟩:=eG e10;simp only[Bool.and_eq_true] at hb;have b1:=Nat.le_of_ble_eq_true hb.1;have b2:=Nat.le_of_ble_eq_true hb.2.1
 have b3:jU * c'<=1099511627776:=Nat.le_of_ble_eq_true hb.2.2;obtain⟨z,s6,n6,zf,m11,zh,m12,e12,e13,rfl,rfl⟩:=ak e11;obtain⟨rfl,rfl,i,Z,hi,hz,hL,-⟩:=BN (φ:=φ) e12;obtain⟨hb4,e14⟩:=eG e13;have b4:=Nat.eq_of_beq_eq_true hb4;obtain⟨j,s7,n7,BQ,m13,Jd,m14,e15,e16,rfl,rfl⟩:=ak e14;obtain⟨rfl,rfl,rfl⟩:=aF e16;have hsz':i.size=k:=by rw[hi] at hsz;simpa using hsz
 have Je:i.bytes=jU:=by rw[hi] at hby;simpa using hby
 refine Ue h (Jc hL c') hsz e15 hf λW b hW=>?_;have hb3:(i.bytes:Int) * (c':Int)<=281474976710656:=by rw[Je,← Int.natCast_mul];omega
 have hm:=run_make (P:=P) w t el i Z h1 hi hz kl kc (l':Int) (c':Int) (by omega) (by omega) hb3 (by omega);simp only[Int.toNat_natCast] at hm;rw[hm];rw[show newRow el (madeCells Z.cells (c' * z.length)).toList.toArray=newRow el (madeCells Z.cells (c' * i.size)) by rw[b4,hsz']] at hW;simp[newRow] at hW;obtain⟨hW1,hW2⟩:=hW;subst hW1 hW2;rfl
/-- A new object that is no row. -/
theorem Jf {O1:O} {o:Obj} (h:Rel P w0 φ s w) (hn:φ n=none) (hi:n < 16000000)
  (hrow:∀t e n op,O1≠.row t e n op) (hcell:∀u,O1≠.c u)
  (hmap:∀es c,O1=.map es c->∃ES,o=.map ES c/\dU φ es=some ES.toList)
  (hit:∀m since seen last,O1=.it m since seen last->∃m' y,φ m=some (m',y)/\o=.mapIter (some m') since seen.toArray last)
  (hsp:∀k,O1=.sp k->Mc k o):Rel P w0 (kH φ n w.heap.size 0) (s.put n 0 (some O1)) (w.alloc o):=by
 have gp:∀j q,(s.put n 0 (some O1)).get j q=if j=n/\q=0 then some O1 else s.get j q:=λj q=>Ob.get_put hi (by omega)
 have g0:(s.put n 0 (some O1)).get n 0=some O1:=by rw[gp,if_pos ⟨rfl,rfl⟩]
 refine h.but (j:=n) (b:=w.heap.size) (nJ hn) (h.base.alloc h.base.size _) (λk hk _=>IQ _ _ hk) (λi p hi=>by rw[gp,if_neg (λh=>hi h.1)]) (λi hi=>sQ hi) (λi y _=>h.IW i y) (λu hu=>by rw[g0] at hu;cases hu;exact hcell u rfl) (λp _=>by rw[kW];simp) (λc y _ hc=>by rw[kW] at hc;cases hc;rfl)
  (λt' e' k' op' hg'=>by rw[g0] at hg';cases hg';exact absurd rfl (hrow t' e' k' op')) (λes c hg'=>?_) (λm a l c hg'=>?_) (λk hg'=>?_)
 ·rw[g0] at hg';cases hg'
  obtain⟨ES,rfl,h2⟩:=hmap es c rfl;exact⟨_,0,ES,kW,h.base.size,BK _ _,Ma (nJ hn) es h2⟩
 ·rw[g0] at hg';cases hg'
  obtain⟨m',y,h2,rfl⟩:=hit m a l c rfl;exact⟨_,0,m',y,kW,h.base.size,nJ hn _ _ h2,BK _ _⟩
 ·rw[g0] at hg';cases hg'
  exact⟨_,0,o,kW,h.base.size,BK _ _,hsp k rfl⟩
theorem Jg {i:Nat} (h:M.fresh s n=.ok i s' n' r l1):i=n/\s'=s/\n'=n+1:=by cases h;exact⟨rfl,rfl,rfl⟩
theorem ab8 {t:Nat} {h:Option AV} {H:Option Value} (hR:Rel P w0 φ s w) (hh:∀y,h=some y->∃Y,H=some Y/\y.den φ=some Y) (hn:h=none->H=none) (e:Bh P t h s n=.ok v s' n' r l1) (hf:Free φ n n'):Made P w0 φ s' w n n' v (Instr.makeMap t H):=by
 unfold Bh at e;obtain⟨u,s1,n1,r1,m1,r2,m2,e1,e2,rfl,rfl⟩:=ak e;have k1:s1=s/\n1=n/\(Instr.makeMap t H).run P w=.ok (.map (some w.heap.size)) (w.alloc (.map #[] 0)):=by
  cases h with
  | none =>
   obtain⟨rfl,rfl,rfl⟩:=aF (show(pure ():M _) _ _=_ from e1);rw[hn rfl];exact⟨rfl,rfl,by simp[Instr.makeMap]⟩
  | some y =>
   obtain⟨Y,rfl,hY⟩:=hh y rfl;obtain⟨q,s2,n2,r3,m3,r4,m4,e3,e4,rfl,rfl⟩:=ak (show(pF P t >>= _) _ _=_ from e1);obtain⟨rfl,rfl,h1⟩:=BL e3;obtain⟨k,s3,n3,r5,m5,r6,m6,e5,e6,rfl,rfl⟩:=ak e4;obtain⟨rfl,rfl,kd,rfl⟩:=I7 hY e5;obtain⟨-,rfl,rfl⟩:=aF e6;exact⟨rfl,rfl,by simp[Instr.makeMap,iZ h1,asInt,asIntOf]⟩
 obtain⟨rfl,rfl,k2⟩:=k1;obtain⟨i,s2,n2,r3,m3,r4,m4,e3,e4,rfl,rfl⟩:=ak e2;obtain⟨rfl,rfl,rfl⟩:=Jg e3;obtain⟨z,s3,n3,r5,m5,r6,m6,e5,e6,rfl,rfl⟩:=ak e4;obtain⟨rfl,_,rfl,hi,_⟩:=sP e5;obtain⟨rfl,rfl,rfl⟩:=aF e6;have hφ:=hf _ (Nat.le_refl _) (by omega);refine⟨_,.map (some w.heap.size),w.alloc (.map #[] 0),k2,Jf (o:=.map #[] 0) hR hφ hi (by simp) (by simp) (λes c h=>by cases h;exact⟨#[],rfl,rfl⟩) (by simp) (by simp),wU,nJ hφ,by simp[AV.den,kW]⟩
end
/- akh, iterators, assertions, lengths. -/
section
variable {P : Program} {w0 : World} {φ : Ph} {s s' : Ob} {w : World} {n n' : Nat} {r l1 : Lg} {v : AV}
theorem Uf:∀ {L:List Value} {S0 S1:ByteArray},strOf L S0=some S1->∃ns:List Int,L=ns.map (Value.int .u8)/\ns.foldl (λr n=>r.push (UInt8.ofNat n.toNat)) S0=S1
 | [],S0,S1,h=>by simp only[strOf] at h;cases h;exact⟨[],rfl,rfl⟩
 | v :: L,S0,S1,h=>by
  unfold strOf at h
  split at h
  ·cases ‹_ :: _=[]›
  ·rename_i heq
   cases heq
   obtain⟨ns,h1,h2⟩:=Uf h;exact⟨_ :: ns,by rw[h1];rfl,h2⟩
  ·cases h
theorem ab9 {src dst i o k c:Nat} {X:Value} (h:Rel P w0 φ s w) (hx:(AV.sl i o k c).den φ=some X) (e:Ed P src dst i o k s n=.ok v s' n' r l1) :
  s'=s/\n'=n/\∃V,v.den φ=some V/\(convert src dst X).run P w=.ok V w:=by
 unfold Ed at e;obtain⟨b,y,hp,rfl⟩:=pO hx;obtain⟨el,s1,n1,r1,m1,r2,m2,e1,e2,rfl,rfl⟩:=ak e;obtain⟨rfl,rfl,h1⟩:=pJ e1;obtain⟨el2,s0,n0,r0,m0,MC,Ug,e0,uZ,rfl,rfl⟩:=ak e2;obtain⟨rfl,rfl,h0⟩:=iO e0;cases el2 with
 | int kk =>
  cases kk <;> first | (cases uZ;done) | skip
  obtain⟨d,s2,n2,r3,m3,r4,m4,e3,e4,rfl,rfl⟩:=ak uZ;obtain⟨rfl,rfl,h2⟩:=iO e3;cases d <;> first | (cases e4;done) | skip
  obtain⟨q,s3,n3,r5,m5,r6,m6,e5,e6,rfl,rfl⟩:=ak e4;obtain⟨hg,rfl,rfl⟩:=uV e5;obtain⟨l,s4,n4,r7,m7,r8,m8,e7,e8,rfl,rfl⟩:=ak e6;obtain⟨rfl,rfl,hl,hc⟩:=IG e7;obtain⟨L,s5,n5,r9,m9,lg,m10,e9,e10,rfl,rfl⟩:=ak e8;obtain⟨hL,rfl,rfl⟩:=bW e9;obtain⟨S,s6,n6,zf,m11,zh,m12,e11,e12,rfl,rfl⟩:=ak e10;obtain⟨hS,rfl,rfl⟩:=bW e11;obtain⟨rfl,rfl,rfl⟩:=aF e12;obtain⟨b',x',C,fz,R⟩:=h.row _ _ _ _ _ hg;have hp':=R.ph;rw[hp] at hp';cases hp';obtain⟨L',hL',_,h3⟩:=IJ R hc;have:=IY (φ:=φ) hL;rw[hL'] at this;cases this;have hk:=nI hL';obtain⟨ns,rfl,rfl⟩:=Uf hS;have hld:=IK (P:=P) h3;rw[hk,hl] at hld
  exact⟨rfl,rfl,_,rfl,by rw[run_convert_bytes_string w src dst el _ _ _ h1 h0 h2];exact run_bytesToString w _ k _ ns hld⟩
 | _=>cases uZ
theorem acd {src dst el:Nat} {S:ByteArray} (h:Rel P w0 φ s w) (hs:P.underlying src=some .string) (hd:P.underlying dst=some (.slice el)) (hsz:(P.info? el).map (·.size)=some 1) (e:Ee P el S s n=.ok v s' n' r l1) (hf:Free φ n n'):Made P w0 φ s' w n n' v (convert src dst (.string S)):=by
 unfold Ee at e;obtain⟨d,s1,n1,r1,m1,r2,m2,e1,e2,rfl,rfl⟩:=ak e;obtain⟨rfl,rfl,h1⟩:=iO e1;cases d with
 | int kk =>
  cases kk <;> first | (cases e2;done) | skip
  obtain⟨i,s2,n2,r3,m3,r4,m4,e3,e4,rfl,rfl⟩:=ak e2;obtain⟨rfl,rfl,rfl⟩:=aF e4;obtain⟨rfl,rfl,k1,k2,k3,k4⟩:=EF e3;have hφ:=hf _ (Nat.le_refl _) (by omega);obtain⟨hb,hb1⟩:=TJ (φ:=φ) S;have hle:S.size<=grownCap w S.size 0 el:=grownCap_ge ..;obtain⟨x,hx⟩:∃x,grownCap w S.size 0 el=S.size+x:=⟨_,(Nat.add_sub_cancel' hle).symm⟩;have hlen:(wN S).length=S.size:=by unfold wN;rw[List.length_map,Array.length_toList];rfl
  refine⟨kH φ i w.heap.size x,_,_,run_bytes_of_string w src dst el S hs hd h1,?_,wU,nJ hφ,by rw[hx];simp[AV.den,kW]⟩;refine IU (W:=(w.drew.alloc (.cells (bytesRow S (grownCap w S.size 0 el)) el ((bytesRow S (grownCap w S.size 0 el)).size,(bytesRow S (grownCap w S.size 0 el)).size+1)))) (l:=wN S) (e:=1) (C:=bytesRow S (grownCap w S.size 0 el)) h hφ ((h.base.drew).alloc h.base.size _) h.base.size (λj hj _=>IQ w.drew _ hj) h.IW (BK w.drew _) ?_ (λe=>by cases e) (λj hj=>by simp;omega) hsz hb (IV hb1 hb) (λj V e=>?_) k2 k3 k4
  ·rw[hx,hlen]
   unfold bytesRow;rw[Array.size_append,Array.size_map,Array.size_replicate];have:S.data.size=S.size:=rfl;omega
  ·have hlt:=(gs1 e).1
   unfold bytesRow;rw[Array.getElem?_append_left (by simpa using hlt),← Array.getElem?_toList];exact e
 | _=>cases e2
theorem ace {src dst:Nat} {x:AV} {X:Value} (h:Rel P w0 φ s w) (hx:x.den φ=some X) (e:Bf P src dst x s n=.ok v s' n' r l1) (hf:Free φ n n'):Made P w0 φ s' w n n' v (convert src dst X):=by
 unfold Bf at e
 split at e
 ·exact ze h (ab9 h hx e)
 ·obtain⟨u,s1,n1,r1,m1,r2,m2,e1,e2,rfl,rfl⟩:=ak e
  obtain⟨rfl,rfl,rfl⟩:=I8 hx e1
  split at e2
  ·obtain⟨d0,s0,n0,r0,m0,MC,Ug,e0,uZ,rfl,rfl⟩:=ak e2
   obtain⟨rfl,rfl,hd0⟩:=iO e0;obtain⟨d,s2,n2,r3,m3,r4,m4,e3,e4,rfl,rfl⟩:=ak uZ;obtain⟨rfl,rfl,h1⟩:=iO e3
   split at e4
   ·rename_i kk z k
    obtain⟨q1,q2,V,hV,hr⟩:=uX (φ:=φ) (w:=w) e4;refine ze h ⟨q1,q2,V,hV,?_⟩;simp[convert,underlying,hd0,h1,hr]
   ·exact ze h (uX e4)
  ·obtain⟨d,s2,n2,r3,m3,r4,m4,e3,e4,rfl,rfl⟩:=ak e2
   obtain⟨rfl,rfl,h1⟩:=iO e3
   split at e4
   ·obtain⟨d2,s3,n3,r5,m5,r6,m6,e5,e6,rfl,rfl⟩:=ak e4
    obtain⟨rfl,rfl,h2⟩:=iO e5;cases d2 <;> first | (cases e6;done) | skip
    obtain⟨k,s4,n4,r7,m7,r8,m8,e7,e8,rfl,rfl⟩:=ak e6;obtain⟨rfl,rfl,hsz⟩:=kJ e7;obtain⟨hb,e9⟩:=eG e8;cases Nat.eq_of_beq_eq_true hb
    exact acd h h2 h1 hsz e9 hf
   ·exact ze h (uX e4)
  ·exact ze h (uX e2)
theorem acf {t:Nat} {x:AV} {X:Value} (h:Rel P w0 φ s w) (hx:x.den φ=some X) (e:Ej P t x s n=.ok v s' n' r l1) (hf:Free φ n n'):Made P w0 φ s' w n n' v (Instr.range t X):=by
 cases x with
 | mp m =>
  obtain⟨b,y,hp,rfl⟩:=wV hx;obtain⟨kt,s1,n1,r1,m1,r2,m2,e1,e2,rfl,rfl⟩:=ak (show(pF P t >>= _) _ _=_ from e);obtain⟨rfl,rfl,h1⟩:=BL e1;obtain⟨q,s2,n2,r3,m3,r4,m4,e3,e4,rfl,rfl⟩:=ak e2;obtain⟨hg,rfl,rfl⟩:=yX e3;obtain⟨b',y',ES,h2,h3,h4,hE⟩:=h.map _ _ _ hg;rw[hp] at h2;cases h2;obtain⟨i,s3,n3,r5,m5,r6,m6,e5,e6,rfl,rfl⟩:=ak e4;obtain⟨rfl,rfl,rfl⟩:=Jg e5;obtain⟨z,s4,n4,r7,m7,r8,m8,e7,e8,rfl,rfl⟩:=ak e6;obtain⟨rfl,_,rfl,hi,_⟩:=sP e7;obtain⟨rfl,rfl,rfl⟩:=aF e8;have hφ:=hf _ (Nat.le_refl _) (by omega)
  refine⟨_,.pointer (some ⟨w.heap.size,0,none⟩),w.alloc (.mapIter (some b) q.2 #[] q.2),by simp[Instr.range,iZ h1,sV h4,underlying,h1],Jf (o:=.mapIter (some b) q.2 #[] q.2) h hφ hi (by simp) (by simp) (by simp) (λm since seen last h=>by cases h;exact⟨b,y,hp,rfl⟩) (by simp),wU,nJ hφ,by simp[AV.den,kW]⟩
 | _=>cases e
theorem Uh {i:Nat} {x:Nat × Nat × List Nat × Nat} (h:El i s n=.ok x s' n' r l1):s.get i 0=some (.it x.1 x.2.1 x.2.2.1 x.2.2.2)/\s'=s/\n'=n:=by
 obtain⟨a,s1,n1,r1,l1,r2,l2,e1,e2,rfl,rfl⟩:=ak (show(M.get i 0 >>= _) s n=_ from h);obtain⟨g,_,rfl,rfl⟩:=BJ e1;cases a with
 | it m a b c=>obtain⟨rfl,rfl,rfl⟩:=aF e2;exact⟨g,rfl,rfl⟩
 | _=>cases e2
theorem acg {x:AV} {X:Value} (h:Rel P w0 φ s w) (hx:x.den φ=some X) (e:Eo x s n=.ok v s' n' r l1):s'=s/\n'=n/\∃V,v.den φ=some V/\(Instr.entry X).run P w=.ok V w:=by
 unfold Eo at e;obtain⟨p,s1,n1,r1,m1,r2,m2,e1,e2,rfl,rfl⟩:=ak e;obtain⟨rfl,rfl,rfl⟩:=BO e1;obtain⟨t,s2,n2,r3,m3,r4,m4,e3,e4,rfl,rfl⟩:=ak e2;obtain⟨hg,rfl,rfl⟩:=Uh e3;obtain⟨q,s3,n3,r5,m5,r6,m6,e5,e6,rfl,rfl⟩:=ak e4;obtain⟨hg2,rfl,rfl⟩:=yX e5;obtain⟨bb,s4,n4,r7,m7,r8,m8,e7,e8,rfl,rfl⟩:=ak e6;obtain⟨hb,rfl,rfl⟩:=bW e7;obtain⟨y,s5,n5,r9,m9,lg,m10,e9,e10,rfl,rfl⟩:=ak e8;obtain⟨hy,rfl,rfl⟩:=bW e9;obtain⟨hc,e11⟩:=eG e10;obtain⟨rfl,rfl,rfl⟩:=aF e11;simp only[Bool.and_eq_true] at hc;have p0:=Nat.eq_of_beq_eq_true hc.1;have c0:=Nat.eq_of_beq_eq_true hc.2;obtain⟨b,z,hp,rfl⟩:=pK hx
 obtain⟨b',x',m',y',k1,k2,k3,k4⟩:=h.it _ _ _ _ _ hg;rw[hp] at k1;cases k1;obtain⟨b2,x2,ES,j1,j2,j3,hE⟩:=h.map _ _ _ hg2;rw[k3] at j1;cases j1;have key:∀ {es:List (AV × AV × Nat)} {ES:List MapEntry},dU φ es=some ES->es.find? (λe=>Nat.beq e.2.2 bb)=some y->∃E,ES.find? (·.born == bb)=some E/\y.1.den φ=some E.key/\y.2.1.den φ=some E.val:=by
  intro es
  induction es with
  | nil=>intro ES _ hf;cases hf
  | cons e es ih =>
   intro ES hE hf;obtain⟨K,V,L,a1,a2,a3,rfl⟩:=sO hE;rw[List.find?_cons] at hf;cases hq:Nat.beq e.2.2 bb with
   | true=>rw[hq] at hf;cases hf;exact⟨{ key:=K,val:=V,born:=y.2.2 },by simp[Nat.eq_of_beq_eq_true hq],a1,a2⟩
   | false =>
    rw[hq] at hf;obtain⟨E,h1,h2⟩:=ih a3 hf;have hne:¬e.2.2=bb:=λh=>by rw[h,Nat.beq_refl] at hq;cases hq
    exact⟨E,by simp[hne];exact h1,h2⟩
 obtain⟨E,h1,h2,h3⟩:=key hE hy;refine⟨rfl,rfl,.tuple #[E.key,E.val],by simp[AV.den,aH,h2,h3],?_⟩;have hb':t.2.2.1.toArray.back?=some bb:=by simp[hb]
 have h1':ES.find? (·.born == bb)=some E:=by rw[← Array.find?_toList];exact h1
 rw[p0];simp only[Instr.entry,Sem.run_bind,getObj,Sem.run,k4,Result.andThen_ok,hb',j3,c0,h1'];simp[sV j3,h1']
theorem ach {t t0:Nat} {ok:Bool} {x:AV} {X:Value} (hx:x.den φ=some X) (e:Er P t ok x s n=.ok v s' n' r l1):s'=s/\n'=n/\∃V,v.den φ=some V/\(Instr.typeAssert X t0 t ok).run P w=.ok V w:=by
 unfold Er at e;obtain⟨d,s1,n1,r1,m1,r2,m2,e1,e2,rfl,rfl⟩:=ak e;obtain⟨rfl,rfl,h1⟩:=iO e1;have hd:∀ms,d≠.interface ms:=λms h=>by subst h;cases e2
 have e3:Ep P t ok x s1 n1=.ok v s' n' r2 m2:=by
  cases d <;> first | exact absurd rfl (hd _) | exact e2
 have hh : ∀ (u : Nat) (U : Value), (Instr.typeAssert (.iface u U) t0 t ok).run P w = (if u = t then pure (if ok then .tuple #[U, .bool true] else U) else if ok then do pure (.tuple #[← zeroValue t, .bool false]) else runtimePanic (.typeAssertion (some t0) (some u) t "") : Sem Value).run P w := by
  intro u U;cases d <;> first | exact absurd rfl (hd _) | (by_cases h:u=t <;> cases ok <;> simp[Instr.typeAssert,underlying,h1,h])
 have hn : (Instr.typeAssert .nilIface t0 t ok).run P w = (if ok then do pure (.tuple #[← zeroValue t, .bool false]) else runtimePanic (.typeAssertion (some t0) none t "") : Sem Value).run P w := by
  cases d <;> first | exact absurd rfl (hd _) | (cases ok <;> simp[Instr.typeAssert,underlying,h1])
 unfold Ep at e3
 split at e3
 ·rename_i u y
  obtain⟨U,hU,rfl⟩:=yZ hx;rw[hh];cases hb:Nat.beq u t with
  | true =>
   rw[hb] at e3;obtain⟨rfl,rfl,rfl⟩:=aF (show(pure _:M _) _ _=_ from e3);exact⟨rfl,rfl,_,EJ hU,by simp[Nat.eq_of_beq_eq_true hb]⟩
  | false =>
   have hne:¬u=t:=λh=>by rw[h,Nat.beq_refl] at hb;cases hb
   rw[hb] at e3;obtain⟨rfl,e4⟩:=eG (show cd ok _ (M.no 96) _ _=_ from e3);obtain⟨z,s5,n5,r9,m9,lg,m10,e9,e10,rfl,rfl⟩:=ak e4;obtain⟨rfl,rfl,Z,hZ,hz⟩:=Mw (w:=w) e9;obtain⟨rfl,rfl,rfl⟩:=aF e10;exact⟨rfl,rfl,_,EJ hZ,by simp[hne,hz]⟩
 ·cases fE hx
  rw[hn];obtain⟨rfl,e4⟩:=eG (show cd ok _ (M.no 97) _ _=_ from e3);obtain⟨z,s5,n5,r9,m9,lg,m10,e9,e10,rfl,rfl⟩:=ak e4;obtain⟨rfl,rfl,Z,hZ,hz⟩:=Mw (w:=w) e9;obtain⟨rfl,rfl,rfl⟩:=aF e10;exact⟨rfl,rfl,_,EJ hZ,by simp[hz]⟩
 ·cases e3
theorem wW {ts:List Nat} {t:Nat} (e:pG ts s n=.ok t s' n' r l1):s'=s/\n'=n/\ts.toArray[0]?=some t:=by
 obtain⟨h,h2,h3⟩:=bW e;exact⟨h2,h3,by cases ts <;> simp_all⟩
theorem aci {es:List (AV × AV × Nat)} {ES:List MapEntry} (h:dU φ es=some ES):ES.length=es.length:=by
 induction es generalizing ES with
 | nil=>simp only[dU] at h;cases h;rfl
 | cons e es ih=>obtain⟨K,V,L,_,_,hl,rfl⟩:=sO h;simp[ih hl]
theorem acj {ts:List Nat} {ty:Nat} {x:AV} {X:Value} (h:Rel P w0 φ s w) (hx:x.den φ=some X) (e:DY P ts x s n=.ok v s' n' r l1):s'=s/\n'=n/\∃V,v.den φ=some V/\(Builtin.len_ ts.toArray ty #[X]).run P w=.ok V w:=by
 unfold DY at e
 split at e
 ·obtain⟨b,y,hp,rfl⟩:=pO hx
  obtain⟨t,s1,n1,r1,m1,r2,m2,e1,e2,rfl,rfl⟩:=ak e;obtain⟨rfl,rfl,h0⟩:=wW e1;obtain⟨el,s2,n2,r3,m3,r4,m4,e3,e4,rfl,rfl⟩:=ak e2;obtain⟨rfl,rfl,h1⟩:=pJ e3;obtain⟨rfl,rfl,rfl⟩:=aF e4;exact⟨rfl,rfl,_,rfl,by simp[Builtin.len_,h0,underlying,h1]⟩
 ·obtain⟨b,y,hp,rfl⟩:=IZ hx
  obtain⟨t,s1,n1,r1,m1,r2,m2,e1,e2,rfl,rfl⟩:=ak e;obtain⟨rfl,rfl,h0⟩:=wW e1;obtain⟨el,s2,n2,r3,m3,r4,m4,e3,e4,rfl,rfl⟩:=ak e2;obtain⟨rfl,rfl,h1⟩:=pJ e3;obtain⟨rfl,rfl,rfl⟩:=aF e4;exact⟨rfl,rfl,_,rfl,by simp[Builtin.len_,h0,underlying,h1]⟩
 ·obtain⟨b,y,hp,rfl⟩:=wV hx
  obtain⟨t,s1,n1,r1,m1,r2,m2,e1,e2,rfl,rfl⟩:=ak e;obtain⟨rfl,rfl,h0⟩:=wW e1;obtain⟨kt,s2,n2,r3,m3,r4,m4,e3,e4,rfl,rfl⟩:=ak e2;obtain⟨rfl,rfl,h1⟩:=BL e3;obtain⟨q,s3,n3,r5,m5,r6,m6,e5,e6,rfl,rfl⟩:=ak e4;obtain⟨hg,rfl,rfl⟩:=yX e5;obtain⟨rfl,rfl,rfl⟩:=aF e6;obtain⟨b',y',ES,h2,h3,h4,hE⟩:=h.map _ _ _ hg;rw[hp] at h2;cases h2;have:=aci hE;exact⟨rfl,rfl,_,rfl,by simp[Builtin.len_,h0,underlying,h1,sV h4];simpa using congrArg (λn:Nat=>goInt n) this⟩
 ·cases hu:AV.sv x with
  | some u =>
   rw[hu] at e;obtain⟨h1,h2,h3⟩:=bW (show M.opt 35 _ _ _=_ from e);cases za hx hu
   cases hp:pr P (Builtin.len_ ts.toArray 0 #[X]) with
   | none=>rw[hp] at h1;cases h1
   | some V=>rw[hp] at h1;exact⟨h2,h3,V,BM h1,yY hp⟩
  | none =>
   rw[hu] at e;obtain⟨t,s1,n1,r1,m1,r2,m2,e1,e2,rfl,rfl⟩:=ak (show(pG ts >>= _) _ _=_ from e);obtain⟨rfl,rfl,h0⟩:=wW e1;obtain⟨d,s2,n2,r3,m3,r4,m4,e3,e4,rfl,rfl⟩:=ak e2;obtain⟨rfl,rfl,h1⟩:=iO e3;cases d <;> first | (cases e4;done) | skip
   obtain⟨rfl,rfl,rfl⟩:=aF e4;exact⟨rfl,rfl,_,rfl,by simp[Builtin.len_,h0,underlying,h1]⟩
theorem Ui {b:Bool} {ts:Array Nat} {ty:Nat} {xs:List AV} {XS:List Value} (hx:aH φ xs=some XS) (e:AR P b xs s n=.ok v s' n' r l1):s'=s/\n'=n/\∃V,v.den φ=some V/\(if b then Builtin.max_ ts ty XS.toArray else Builtin.min_ ts ty XS.toArray).run P w=.ok V w:=by
 unfold AR at e;cases hs:uJ xs with
 | none=>rw[hs] at e;cases e
 | some l =>
  rw[hs] at e;have:=IY (φ:=φ) hs;rw[hx] at this;cases this;obtain⟨h1,h2,h3⟩:=bW (show M.opt 44 _ _ _=_ from e);cases hp:pr P (cd b (Builtin.max_ #[] 0 XS.toArray) (Builtin.min_ #[] 0 XS.toArray)) with
  | none=>rw[hp] at h1;cases h1
  | some V =>
   rw[hp] at h1;refine⟨h2,h3,V,BM h1,?_⟩;cases b
   ·exact yY (S:=Builtin.min_ #[] 0 XS.toArray) hp
   ·exact yY (S:=Builtin.max_ #[] 0 XS.toArray) hp
end
end Go.Proofs.YtfabngnaejjcmaaGreatDoor
