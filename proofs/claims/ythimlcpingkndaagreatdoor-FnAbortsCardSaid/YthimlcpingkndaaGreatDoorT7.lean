/- The proof's texts, part 7. -/
import Derived.Laws.MakeOwn
import Derived.Laws.IdiomStrings
import Derived.Laws.BytesString
import Derived.Test.YthimlcpingkndaaGreatDoorT6
namespace Go.Proofs.YthimlcpingkndaaGreatDoor
open Go.RowKit
set_option linter.unusedVariables false
set_option linter.unusedSimpArgs false
/- Stores, new variables, new slices. -/
section
variable {P : Program} {w0 : World} {φ : Ph} {s s' : Ob} {w : World} {n n' : Nat} {r l1 : Lg} {v : AV}
/-- The machine does S, answers what v says, and the uL objects say what is there. -/
def Made (P:Program) (w0:World) (φ:Ph) (s':Ob) (w:World) (n n':Nat) (v:AV) (S:Sem Value):Prop :=
 ∃ψ V w',S.run P w=.ok V w'/\Rel P w0 ψ s' w'/\Ext φ ψ n n'/\φ.le ψ/\v.den ψ=some V
theorem jl {S:Sem Value} (h:Rel P w0 φ s w) (k:s'=s/\n'=n/\∃V,v.den φ=some V/\S.run P w=.ok V w):Made P w0 φ s' w n n' v S:=by
 obtain⟨rfl,rfl,V,h1,h2⟩:=k;exact⟨φ,V,w,h2,h,.refl _ _,Ph.le_refl _,h1⟩
def Free (φ:Ph) (n n':Nat):Prop:=∀i,n<=i->i < n'->φ i=none
theorem vO {t:Nat} {l:List AV} {V:Value} (h:Rel P w0 φ s w) (hL:ak φ l=some V.cells.toList) (e:iW P t l s n=.ok v s' n' r l1) (hf:Free φ n n') :
  Made P w0 φ s' w n n' v (do pure (.pointer (some (← newVar t V)))):=by
 unfold iW at e;obtain⟨k,s1,n1,r1,m1,r2,m2,e1,e2,rfl,rfl⟩:=ah e;obtain⟨rfl,rfl,hsz⟩:=dI e1;obtain⟨i,s2,n2,r3,m3,r4,m4,e3,e4,rfl,rfl⟩:=ah e2;obtain⟨rfl,rfl,rfl⟩:=aj e4;obtain⟨ψ,b,w',q1,q2,q3,q4,rfl,q5,q6⟩:=uZ (w0:=w0) h hL hsz _ _ _ _ _ e3 hf;refine⟨ψ,.pointer (some b),w',?_,q2,q3,q4,by simp[AV.den,q5,← q6]⟩;simp only[newVar,Sem.run_bind];rw[show(newRow t V.cells).run P w=_ from q1];simp
theorem zm {t:Nat} (h:Rel P w0 φ s w) (e:oh P t s n=.ok v s' n' r l1) (hf:Free φ n n'):Made P w0 φ s' w n n' v (Instr.alloc t true (.tuple #[])):=by
 unfold oh at e;obtain⟨l,s1,n1,r1,m1,r2,m2,e1,e2,rfl,rfl⟩:=ah e;obtain⟨rfl,rfl,i,z,hi,hz,hL,-⟩:=kL (φ:=φ) e1;obtain⟨ψ,V,w',q1,q2⟩:=vO (V:=z) h hL e2 hf;exact⟨ψ,V,w',by simp[Instr.alloc,zeroValue,typeInfo,hi,hz];simpa using q1,q2⟩
theorem zn {t:Nat} {x u:AV} {X U:Value} (h:Rel P w0 φ s w) (hx:x.den φ=some X) (hu:u.den φ=some U) (e:jK P t x u s n=.ok v s' n' r l1):Turns P w0 φ s' w n n' v (Instr.storeAt t X U):=by
 unfold jK at e;obtain⟨p,s1,n1,r1,m1,r2,m2,e1,e2,rfl,rfl⟩:=ah e;obtain⟨rfl,rfl,rfl⟩:=kM e1;obtain⟨k,s2,n2,r3,m3,r4,m4,e3,e4,rfl,rfl⟩:=ah e2;obtain⟨rfl,rfl,hsz⟩:=dI e3;obtain⟨hb,e5⟩:=bC e4;obtain⟨q,s3,n3,r5,m5,r6,m6,e6,e7,rfl,rfl⟩:=ah e5;obtain⟨hg,rfl,rfl⟩:=gU e6;obtain⟨z,s4,n4,r7,m7,r8,m8,e8,e9,rfl,rfl⟩:=ah e7;obtain⟨rfl,rfl,rfl⟩:=aj e9;obtain⟨b,y,hp,rfl⟩:=eH hx;have hc:=qU hu;obtain⟨rfl,-,k1⟩:=oL hp h hg hc e8;obtain⟨w',k2,k3⟩:=k1 0 (Nat.zero_le _);have hlen:U.cells.size=k:=by
  have:=dV hc;have h2:=Nat.eq_of_beq_eq_true hb;simp at this;omega
 exact⟨rfl,rfl,w',by simp[Instr.storeAt,Instr.sureAddr,storeVar,run_sizeOf hsz,hlen];exact k2,k3⟩
/-- Parts that are laid into cells. -/
theorem zo {l:List AV} {L:List Value} {u:AV} {U:Value} {o:Nat} (h:ak φ l=some L) (hu:u.den φ=some U):ak φ (l.set o u)=some (L.set o U):=by
 induction l generalizing L o with
 | nil=>simp only[ak] at h;cases h;simp[ak]
 | cons a l ih =>
  obtain⟨V,L',hv,hl,rfl⟩:=dx h;cases o with
  | zero=>exact dO hu hl
  | succ o=>exact dO hv (ih hl)
theorem zq {us:List AV} {US:List Value}:∀ {cs:List AV} {C:Array Value} {o:Nat} (d:Nat),ak φ cs=some C.toList->ak φ us=some US ->
  ak φ (setAt cs (o+d) us)=some ((US.zipIdx d).foldl (λcs (x:Value × Nat)=>cs.setIfInBounds (o+x.2) x.1) C).toList:=by
 induction us generalizing US with
 | nil=>intro cs C o d h hu;simp only[ak] at hu;cases hu;simpa [setAt] using h
 | cons u us ih =>
  intro cs C o d h hu;obtain⟨U,Cz,hU,hl,rfl⟩:=dx hu;simp only[setAt,List.zipIdx_cons,List.foldl_cons];rw[show Nat.succ (o+d)=o+(d+1) from rfl];exact ih (d+1) (by rw[Array.toList_setIfInBounds];exact zo h hU) hl
theorem vP:∀ {us cs:List AV} {o:Nat},(setAt cs o us).length=cs.length
 | [],cs,o=>rfl
 | u :: us,cs,o=>by simp only[setAt];rw[vP];simp
def mZ (φ:Ph):List (Nat × AV)->List (Nat × Value)->Prop
 | [],[]=>True
 | x :: l,X :: L=>x.1=X.1/\x.2.den φ=some X.2/\mZ φ l L
 | _,_=>False
theorem pG {pl PL:Nat->Option (Nat × Nat)} (hpl:∀i x,pl i=some x->PL i=some x):∀ {ps:List (Nat × AV)} {PS:List (Nat × Value)} {cs cs':List AV} {C:Array Value},mZ φ ps PS->ak φ cs=some C.toList->iT pl cs ps=some cs' ->
  ∃C',Instr.fill PL C PS=some C'/\ak φ cs'=some C'.toList/\cs'.length=cs.length
 | [],[],cs,cs',C,_,hc,e=>by simp only[iT] at e;cases e;exact⟨C,rfl,hc,rfl⟩
 | x :: ps,X :: PS,cs,cs',C,hp,hc,e=>by
  obtain⟨i,u⟩:=x;obtain⟨I,U⟩:=X;obtain⟨h1,h2,h3⟩:=hp;cases h1
  simp only[iT] at e;cases hpi:pl i with
  | none=>rw[hpi] at e;cases e
  | some q =>
   rw[hpi] at e;obtain⟨off,size⟩:=q;dsimp only at e;cases hb:and (Nat.beq u.cells.length size) (Nat.ble (off+size) cs.length) with
   | false=>rw[hb] at e;cases e
   | true =>
    rw[hb] at e;simp only[cond_true] at e;simp only[Bool.and_eq_true] at hb;have b1:=Nat.eq_of_beq_eq_true hb.1;have b2:=Nat.le_of_ble_eq_true hb.2;have hu:=qU h2;have lu:=dV hu;have lc:=dV hc;have key:=zq (o:=off) 0 hc hu;simp only[Nat.add_zero] at key;obtain⟨C',k1,k2,k3⟩:=pG hpl h3 key e;refine⟨C',?_,k2,by rw[k3,vP]⟩;simp only[Array.length_toList] at lu lc;simp only[Instr.fill,hpl _ _ hpi];rw[if_neg (by simp;omega),← k1]
    congr 1
    rw[← Array.foldl_toList,Array.toList_zipIdx]
 | [],_ :: _,_,_,_,h,_,_=>h.elim
 | _ :: _,[],_,_,_,h,_,_=>h.elim
theorem vQ:∀ {l:List Field} {pl:List (Nat × Nat)} {s s':Ob} {n n':Nat} {r l1:Lg},lQ P l s n=.ok pl s' n' r l1 ->
  s'=s/\n'=n/\(l.mapM (λf=>do pure (f.offset,← sizeOf f.type):Field->Sem (Nat × Nat))).run P w=.ok pl w
 | [],pl,s,s',n,n',r,l1,e=>by obtain⟨rfl,rfl,rfl⟩:=aj (show(pure []:M _) _ _=_ from e);exact⟨rfl,rfl,by simp⟩
 | f :: l,pl,s,s',n,n',r,l1,e=>by
  obtain⟨x,s1,n1,r1,m1,r2,m2,e1,e2,rfl,rfl⟩:=ah (show((do let k ← bW P f.type;pure (f.offset,k):M _) >>= _) _ _=_ from e);obtain⟨k,s2,n2,r3,m3,r4,m4,e3,e4,rfl,rfl⟩:=ah e1;obtain⟨rfl,rfl,hsz⟩:=dI e3;obtain⟨rfl,rfl,rfl⟩:=aj e4;obtain⟨y,s3,n3,r5,m5,r6,m6,e5,e6,rfl,rfl⟩:=ah e2;obtain⟨rfl,rfl,q⟩:=vQ (l:=l) e5;obtain⟨rfl,rfl,rfl⟩:=aj e6;refine⟨rfl,rfl,?_⟩;simp only[List.mapM_cons,Sem.run_bind,run_sizeOf hsz,Result.andThen_ok,Sem.run_pure,q]
theorem zu {t:Nat} {ps:List (Nat × AV)} {PS:List (Nat × Value)} (hp:mZ φ ps PS) (e:jI P t ps s n=.ok v s' n' r l1) :
  s'=s/\n'=n/\∃V,v.den φ=some V/\(Instr.build t PS.toArray).run P w=.ok V w:=by
 unfold jI at e;obtain⟨z,s1,n1,r1,m1,r2,m2,e1,e2,rfl,rfl⟩:=ah e;obtain⟨rfl,rfl,i,Z,hi,hz,hL,-⟩:=kL (φ:=φ) e1;obtain⟨d,s2,n2,r3,m3,r4,m4,e3,e4,rfl,rfl⟩:=ah e2;obtain⟨rfl,rfl,h1⟩:=cK e3;have kN:(zeroValue t).run P w=.ok Z w:=by simp[zeroValue,typeInfo,hi,hz]
 cases d with
 | struct fs =>
  obtain⟨pl,s3,n3,r5,m5,r6,m6,e5,e6,rfl,rfl⟩:=ah (show(lQ P fs.toList >>= _) _ _=_ from e4);obtain⟨rfl,rfl,q⟩:=vQ (w:=w) e5;obtain⟨c,s4,n4,r7,m7,r8,m8,e7,e8,rfl,rfl⟩:=ah e6;obtain⟨hc,rfl,rfl⟩:=aF e7;obtain⟨rfl,rfl,rfl⟩:=aj e8;obtain⟨C',k1,k2,-⟩:=pG (PL:=(pl.toArray[·]?)) (λi x hx=>by simpa using hx) hp hL hc;refine⟨rfl,rfl,.agg C',by simp[AV.den,k2],?_⟩;simp only[Instr.build,Sem.run_bind,kN,Result.andThen_ok,cZ h1]
  rw[show(fs.mapM (λf=>do pure (f.offset,← sizeOf f.type):Field->Sem (Nat × Nat)))=List.toArray <$> fs.toList.mapM (λf=>do pure (f.offset,← sizeOf f.type):Field->Sem (Nat × Nat)) from Array.mapM_eq_mapM_toList ..];rw[show(List.toArray <$> fs.toList.mapM (λf=>do pure (f.offset,← sizeOf f.type):Field->Sem (Nat × Nat))).run P w=.ok pl.toArray w by rw[← bind_pure_comp,Sem.run_bind,q];simp];simp only[Result.andThen_ok,k1];simp
 | array m el =>
  obtain⟨k,s3,n3,r5,m5,r6,m6,e5,e6,rfl,rfl⟩:=ah (show(bW P el >>= _) _ _=_ from e4);obtain⟨rfl,rfl,hsz⟩:=dI e5;obtain⟨c,s4,n4,r7,m7,r8,m8,e7,e8,rfl,rfl⟩:=ah e6;obtain⟨hc,rfl,rfl⟩:=aF e7;obtain⟨rfl,rfl,rfl⟩:=aj e8;obtain⟨C',k1,k2,-⟩:=pG (PL:=λi=>some (i * k,k)) (λi x hx=>hx) hp hL hc;refine⟨rfl,rfl,.agg C',by simp[AV.den,k2],?_⟩;simp only[Instr.build,Sem.run_bind,kN,Result.andThen_ok,cZ h1,run_sizeOf hsz,k1];simp
 | _=>cases e4
end
/- New slices, maps, iterators; conversions. -/
section
variable {P : Program} {w0 : World} {φ : Ph} {s s' : Ob} {w : World} {n n' : Nat} {r l1 : Lg} {v : AV}
theorem zw (Z:Array Value) (k:Nat):(madeCells Z ((k+1) * Z.size)).toList=Z.toList ++ (madeCells Z (k * Z.size)).toList:=by
 have h1:(k+1) * Z.size=Z.size+k * Z.size:=by rw[Nat.succ_mul,Nat.add_comm]
 unfold madeCells;rw[h1,Array.toList_map,Array.toList_range,List.range_add,List.map_append,Array.toList_map,Array.toList_range,List.map_map]
 congr 1
 ·apply List.ext_getElem
  ·simp
  ·intro i h1 h2
   simp at h1;simp[Nat.mod_eq_of_lt h1,h1]
 ·apply List.map_congr_left
  intro i _;simp[Nat.add_mod_left]
theorem pI {z:List AV} {Z:Array Value} (h:ak φ z=some Z.toList):∀k,ak φ (iU z k)=some (madeCells Z (k * z.length)).toList
 | 0=>by simp[iU,madeCells,ak]
 | k+1=>by
  have hl:=dV h;have hl':z.length=Z.size:=by simpa using hl.symm
  simp only[iU];rw[hl',zw,← hl'];exact iL h (pI h k)
theorem vR {t e m c:Nat} {l:List AV} {L:List Value} {S:Sem Value} (h:Rel P w0 φ s w) (hL:ak φ l=some L) (hsz:(P.info? t).map (·.size)=some e) {i:Nat} {s1:Ob} {n1:Nat} (e1:eu t e l false s n=.ok i s1 n1 r l1) (hf:Free φ n n1)
  (hS:∀W b,(newRow t L.toArray).run P w=.ok ⟨b,0,none⟩ W->S.run P w=.ok (.slice (some ⟨b,0,none⟩) m c) W):Made P w0 φ s1 w n n1 (.sl i 0 m c) S:=by
 obtain⟨ψ,b,w',q1,q2,q3,q4,rfl,q5,q6⟩:=uZ (w0:=w0) h hL hsz _ _ _ _ _ e1 hf;exact⟨ψ,.slice (some ⟨b.block,0,none⟩) m c,w',hS _ _ (by rw[q1,← q6]),q2,q3,q4,by simp[AV.den,q5]⟩
theorem zx {t len:Nat} {ps:List (Nat × AV)} {PS:List (Nat × Value)} (h:Rel P w0 φ s w) (hp:mZ φ ps PS) (e:jJ P t len ps s n=.ok v s' n' r l1) (hf:Free φ n n'):Made P w0 φ s' w n n' v (Instr.buildSlice t len PS.toArray):=by
 unfold jJ at e;obtain⟨el,s1,n1,r1,m1,r2,m2,e1,e2,rfl,rfl⟩:=ah e;obtain⟨rfl,rfl,h1⟩:=eG e1;obtain⟨k,s2,n2,r3,m3,r4,m4,e3,e4,rfl,rfl⟩:=ah e2;obtain⟨rfl,rfl,hsz⟩:=dI e3;obtain⟨hb,e5⟩:=bC e4;have hb':len * k<=2 ^ 24:=Nat.le_of_ble_eq_true hb;obtain⟨z,s3,n3,r5,m5,r6,m6,e6,e7,rfl,rfl⟩:=ah e5;have hz:s3=s2/\n3=n2/\∃Z:Array Value,ak φ z=some (madeCells Z (len * k)).toList/\((len * k=0/\Z = #[])\/(¬len * k=0/\∃V,(zeroValue el).run P w=.ok V w/\Z=V.cells)):=by
  unfold qz at e6;cases h0:Nat.beq (Nat.mul len k) 0 with
  | true =>
   rw[h0] at e6;obtain⟨rfl,rfl,rfl⟩:=aj (show(pure _:M _) _ _=_ from e6);have h0':len * k=0:=Nat.eq_of_beq_eq_true h0;exact⟨rfl,rfl,#[],by simp[h0',madeCells,ak],.inl ⟨h0',rfl⟩⟩
  | false =>
   rw[h0] at e6;obtain⟨z1,s4,n4,r7,m7,r8,m8,e8,e9,rfl,rfl⟩:=ah (show(fI P el >>= _) _ _=_ from e6);obtain⟨rfl,rfl,i,Z,hi,hz,hL,-⟩:=kL (φ:=φ) e8;obtain⟨hb2,e10⟩:=bC e9;obtain⟨rfl,rfl,rfl⟩:=aj e10;have h0':¬len * k=0:=λh=>by rw[show Nat.mul len k=0 from h] at h0;cases h0
   have hk:=Nat.eq_of_beq_eq_true hb2;subst hk;exact⟨rfl,rfl,Z.cells,pI hL len,.inr ⟨h0',Z,by simp[zeroValue,typeInfo,hi,hz],rfl⟩⟩
 obtain⟨rfl,rfl,Z,hZ,kN⟩:=hz;obtain⟨c,s4,n4,r7,m7,r8,m8,e8,e9,rfl,rfl⟩:=ah e7;obtain⟨hc,rfl,rfl⟩:=aF e8;obtain⟨C',k1,k2,-⟩:=pG (PL:=λi=>some (i * k,k)) (λi x hx=>hx) hp hZ hc;obtain⟨i,s5,n5,r9,m9,dX,m10,e10,e11,rfl,rfl⟩:=ah e9;obtain⟨rfl,rfl,rfl⟩:=aj e11;refine vR h k2 hsz e10 hf λW b hW=>?_;simp only[Instr.buildSlice,Sem.run_bind,cZ h1,Result.andThen_ok,run_sizeOf hsz];rw[if_neg (by omega)];have hW':(newRow el C').run P w=.ok ⟨b,0,none⟩ W:=by simpa using hW
 rcases kN with⟨h0,rfl⟩ | ⟨h0,V,hV,rfl⟩
 ·rw[if_pos h0]
  simp only[Sem.run_bind,Sem.run_pure,Result.andThen_ok];rw[show Instr.fill (λi=>some (i * k,k)) (Array.map (λx=>(#[]:Array Value)[x % (#[]:Array Value).size]!) (Array.range (len * k))) PS=some C' from k1];simp only[Sem.run_bind,hW',Result.andThen_ok,Sem.run_pure]
 ·rw[if_neg h0]
  simp only[Sem.run_bind,Sem.run_pure,Result.andThen_ok,hV];rw[show Instr.fill (λi=>some (i * k,k)) (Array.map (λx=>V.cells[x % V.cells.size]!) (Array.range (len * k))) PS=some C' from k1];simp only[Sem.run_bind,hW',Result.andThen_ok,Sem.run_pure]
theorem zy {t:Nat} {l c:AV} {L C:Value} (h:Rel P w0 φ s w) (hl:l.den φ=some L) (hc:c.den φ=some C) (e:jT P t l c s n=.ok v s' n' r l1) (hf:Free φ n n'):Made P w0 φ s' w n n' v (Instr.makeSlice t L C):=by
 unfold jT at e;obtain⟨el,s1,n1,r1,m1,r2,m2,e1,e2,rfl,rfl⟩:=ah e;obtain⟨rfl,rfl,h1⟩:=eG e1;obtain⟨k,s2,n2,r3,m3,r4,m4,e3,e4,rfl,rfl⟩:=ah e2;obtain⟨rfl,rfl,hsz⟩:=dI e3;obtain⟨dB,s3,n3,r5,m5,r6,m6,e5,e6,rfl,rfl⟩:=ah e4;obtain⟨hby,rfl,rfl⟩:=aF e5;obtain⟨l',s4,n4,r7,m7,r8,m8,e7,e8,rfl,rfl⟩:=ah e6;obtain⟨rfl,rfl,kl,rfl⟩:=mX hl e7;obtain⟨c',s5,n5,r9,m9,dX,m10,e9,e10,rfl,rfl⟩:=ah e8;obtain⟨rfl,rfl,kc,rfl⟩:=mX hc e9;obtain⟨hb,e11⟩:=bC e10;simp only[Bool.and_eq_true] at hb;have b1:=Nat.le_of_ble_eq_true hb.1;have b2:=Nat.le_of_ble_eq_true hb.2.1
 have b3:dB * c'<=1099511627776:=Nat.le_of_ble_eq_true hb.2.2;obtain⟨z,s6,n6,ng,m11,ni,m12,e12,e13,rfl,rfl⟩:=ah e11;obtain⟨rfl,rfl,i,Z,hi,hz,hL,-⟩:=kL (φ:=φ) e12;obtain⟨hb4,e14⟩:=bC e13;have b4:=Nat.eq_of_beq_eq_true hb4;obtain⟨j,s7,n7,pJ,m13,pK,m14,e15,e16,rfl,rfl⟩:=ah e14;obtain⟨rfl,rfl,rfl⟩:=aj e16;have hsz':i.size=k:=by rw[hi] at hsz;simpa using hsz
 have pO:i.bytes=dB:=by rw[hi] at hby;simpa using hby
 refine vR h (pI hL c') hsz e15 hf λW b hW=>?_;have hb3:(i.bytes:Int) * (c':Int)<=281474976710656:=by rw[pO,← Int.natCast_mul];omega
 have hm:=run_make (P:=P) w t el i Z h1 hi hz kl kc (l':Int) (c':Int) (by omega) (by omega) hb3 (by omega);simp only[Int.toNat_natCast] at hm;rw[hm];rw[show newRow el (madeCells Z.cells (c' * z.length)).toList.toArray=newRow el (madeCells Z.cells (c' * i.size)) by rw[b4,hsz']] at hW;simp[newRow] at hW;obtain⟨hW1,hW2⟩:=hW;subst hW1 hW2;rfl
/-- A new object that is no row. -/
theorem pQ {O1:O} {o:Obj} (h:Rel P w0 φ s w) (hn:φ n=none) (hi:n < 16000000)
  (hrow:∀t e n op,O1≠.row t e n op) (hcell:∀u,O1≠.c u)
  (hmap:∀es c,O1=.map es c->∃ES,o=.map ES c/\bg φ es=some ES.toList)
  (hit:∀m since seen last,O1=.it m since seen last->∃m' y,φ m=some (m',y)/\o=.mapIter (some m') since seen.toArray last)
  (hsp:∀k,O1=.sp k->qP k o):Rel P w0 (dH φ n w.heap.size 0) (s.put n 0 (some O1)) (w.alloc o):=by
 have gp:∀j q,(s.put n 0 (some O1)).get j q=if j=n/\q=0 then some O1 else s.get j q:=λj q=>Ob.get_put hi (by omega)
 have g0:(s.put n 0 (some O1)).get n 0=some O1:=by rw[gp,if_pos ⟨rfl,rfl⟩]
 refine h.but (j:=n) (b:=w.heap.size) (dW hn) (h.base.alloc h.base.size _) (λk hk _=>oM _ _ hk) (λi p hi=>by rw[gp,if_neg (λh=>hi h.1)]) (λi hi=>fT hi) (λi y _=>h.oP i y) (λu hu=>by rw[g0] at hu;cases hu;exact hcell u rfl) (λp _=>by rw[dM];simp) (λc y _ hc=>by rw[dM] at hc;cases hc;rfl)
  (λt' e' k' op' hg'=>by rw[g0] at hg';cases hg';exact absurd rfl (hrow t' e' k' op')) (λes c hg'=>?_) (λm a l c hg'=>?_) (λk hg'=>?_)
 ·rw[g0] at hg';cases hg'
  obtain⟨ES,rfl,h2⟩:=hmap es c rfl;exact⟨_,0,ES,dM,h.base.size,kI _ _,qO (dW hn) es h2⟩
 ·rw[g0] at hg';cases hg'
  obtain⟨m',y,h2,rfl⟩:=hit m a l c rfl;exact⟨_,0,m',y,dM,h.base.size,dW hn _ _ h2,kI _ _⟩
 ·rw[g0] at hg';cases hg'
  exact⟨_,0,o,dM,h.base.size,kI _ _,hsp k rfl⟩
theorem pR {i:Nat} (h:M.fresh s n=.ok i s' n' r l1):i=n/\s'=s/\n'=n+1:=by cases h;exact⟨rfl,rfl,rfl⟩
theorem zA {t:Nat} {h:Option AV} {H:Option Value} (hR:Rel P w0 φ s w) (hh:∀y,h=some y->∃Y,H=some Y/\y.den φ=some Y) (hn:h=none->H=none) (e:jS P t h s n=.ok v s' n' r l1) (hf:Free φ n n'):Made P w0 φ s' w n n' v (Instr.makeMap t H):=by
 unfold jS at e;obtain⟨u,s1,n1,r1,m1,r2,m2,e1,e2,rfl,rfl⟩:=ah e;have k1:s1=s/\n1=n/\(Instr.makeMap t H).run P w=.ok (.map (some w.heap.size)) (w.alloc (.map #[] 0)):=by
  cases h with
  | none =>
   obtain⟨rfl,rfl,rfl⟩:=aj (show(pure ():M _) _ _=_ from e1);rw[hn rfl];exact⟨rfl,rfl,by simp[Instr.makeMap]⟩
  | some y =>
   obtain⟨Y,rfl,hY⟩:=hh y rfl;obtain⟨q,s2,n2,r3,m3,r4,m4,e3,e4,rfl,rfl⟩:=ah (show(eB P t >>= _) _ _=_ from e1);obtain⟨rfl,rfl,h1⟩:=kJ e3;obtain⟨k,s3,n3,r5,m5,r6,m6,e5,e6,rfl,rfl⟩:=ah e4;obtain⟨rfl,rfl,kd,rfl⟩:=pq hY e5;obtain⟨-,rfl,rfl⟩:=aj e6;exact⟨rfl,rfl,by simp[Instr.makeMap,cZ h1,asInt,asIntOf]⟩
 obtain⟨rfl,rfl,k2⟩:=k1;obtain⟨i,s2,n2,r3,m3,r4,m4,e3,e4,rfl,rfl⟩:=ah e2;obtain⟨rfl,rfl,rfl⟩:=pR e3;obtain⟨z,s3,n3,r5,m5,r6,m6,e5,e6,rfl,rfl⟩:=ah e4;obtain⟨rfl,_,rfl,hi,_⟩:=fQ e5;obtain⟨rfl,rfl,rfl⟩:=aj e6;have hφ:=hf _ (Nat.le_refl _) (by omega);refine⟨_,.map (some w.heap.size),w.alloc (.map #[] 0),k2,pQ (o:=.map #[] 0) hR hφ hi (by simp) (by simp) (λes c h=>by cases h;exact⟨#[],rfl,rfl⟩) (by simp) (by simp),iM,dW hφ,by simp[AV.den,dM]⟩
end
/- CB, iterators, assertions, lengths. -/
section
variable {P : Program} {w0 : World} {φ : Ph} {s s' : Ob} {w : World} {n n' : Nat} {r l1 : Lg} {v : AV}
theorem vS:∀ {L:List Value} {S0 S1:ByteArray},strOf L S0=some S1->∃ns:List Int,L=ns.map (Value.int .u8)/\ns.foldl (λr n=>r.push (UInt8.ofNat n.toNat)) S0=S1
 | [],S0,S1,h=>by simp only[strOf] at h;cases h;exact⟨[],rfl,rfl⟩
 | v :: L,S0,S1,h=>by
  unfold strOf at h
  split at h
  ·cases ‹_ :: _=[]›
  ·rename_i heq
   cases heq
   obtain⟨ns,h1,h2⟩:=vS h;exact⟨_ :: ns,by rw[h1];rfl,h2⟩
  ·cases h
theorem zB {src dst i o k c:Nat} {X:Value} (h:Rel P w0 φ s w) (hx:(AV.sl i o k c).den φ=some X) (e:lT P src dst i o k s n=.ok v s' n' r l1) :
  s'=s/\n'=n/\∃V,v.den φ=some V/\(convert src dst X).run P w=.ok V w:=by
 unfold lT at e;obtain⟨b,y,hp,rfl⟩:=eO hx;obtain⟨el,s1,n1,r1,m1,r2,m2,e1,e2,rfl,rfl⟩:=ah e;obtain⟨rfl,rfl,h1⟩:=eG e1;obtain⟨el2,s0,n0,r0,m0,nk,vT,e0,eP,rfl,rfl⟩:=ah e2;obtain⟨rfl,rfl,h0⟩:=cK e0;cases el2 with
 | int kk =>
  cases kk <;> first | (cases eP;done) | skip
  obtain⟨d,s2,n2,r3,m3,r4,m4,e3,e4,rfl,rfl⟩:=ah eP;obtain⟨rfl,rfl,h2⟩:=cK e3;cases d <;> first | (cases e4;done) | skip
  obtain⟨q,s3,n3,r5,m5,r6,m6,e5,e6,rfl,rfl⟩:=ah e4;obtain⟨hg,rfl,rfl⟩:=gU e5;obtain⟨l,s4,n4,r7,m7,r8,m8,e7,e8,rfl,rfl⟩:=ah e6;obtain⟨rfl,rfl,hl,hc⟩:=oH e7;obtain⟨L,s5,n5,r9,m9,dX,m10,e9,e10,rfl,rfl⟩:=ah e8;obtain⟨hL,rfl,rfl⟩:=aF e9;obtain⟨S,s6,n6,ng,m11,ni,m12,e11,e12,rfl,rfl⟩:=ah e10;obtain⟨hS,rfl,rfl⟩:=aF e11;obtain⟨rfl,rfl,rfl⟩:=aj e12;obtain⟨b',x',C,fz,R⟩:=h.row _ _ _ _ _ hg;have hp':=R.ph;rw[hp] at hp';cases hp';obtain⟨L',hL',_,h3⟩:=oJ R hc;have:=oU (φ:=φ) hL;rw[hL'] at this;cases this;have hk:=dV hL';obtain⟨ns,rfl,rfl⟩:=vS hS;have hld:=oK (P:=P) h3;rw[hk,hl] at hld
  exact⟨rfl,rfl,_,rfl,by rw[run_convert_bytes_string w src dst el _ _ _ h1 h0 h2];exact run_bytesToString w _ k _ ns hld⟩
 | _=>cases eP
theorem zC {src dst el:Nat} {S:ByteArray} (h:Rel P w0 φ s w) (hs:P.underlying src=some .string) (hd:P.underlying dst=some (.slice el)) (hsz:(P.info? el).map (·.size)=some 1) (e:lU P el S s n=.ok v s' n' r l1) (hf:Free φ n n'):Made P w0 φ s' w n n' v (convert src dst (.string S)):=by
 unfold lU at e;obtain⟨d,s1,n1,r1,m1,r2,m2,e1,e2,rfl,rfl⟩:=ah e;obtain⟨rfl,rfl,h1⟩:=cK e1;cases d with
 | int kk =>
  cases kk <;> first | (cases e2;done) | skip
  obtain⟨i,s2,n2,r3,m3,r4,m4,e3,e4,rfl,rfl⟩:=ah e2;obtain⟨rfl,rfl,rfl⟩:=aj e4;obtain⟨rfl,rfl,k1,k2,k3,k4⟩:=mR e3;have hφ:=hf _ (Nat.le_refl _) (by omega);obtain⟨hb,hb1⟩:=vw (φ:=φ) S;have hle:S.size<=grownCap w S.size 0 el:=grownCap_ge ..;obtain⟨x,hx⟩:∃x,grownCap w S.size 0 el=S.size+x:=⟨_,(Nat.add_sub_cancel' hle).symm⟩;have hlen:(iE S).length=S.size:=by unfold iE;rw[List.length_map,Array.length_toList];rfl
  refine⟨dH φ i w.heap.size x,_,_,run_bytes_of_string w src dst el S hs hd h1,?_,iM,dW hφ,by rw[hx];simp[AV.den,dM]⟩;refine oN (W:=(w.drew.alloc (.cells (bytesRow S (grownCap w S.size 0 el)) el ((bytesRow S (grownCap w S.size 0 el)).size,(bytesRow S (grownCap w S.size 0 el)).size+1)))) (l:=iE S) (e:=1) (C:=bytesRow S (grownCap w S.size 0 el)) h hφ ((h.base.drew).alloc h.base.size _) h.base.size (λj hj _=>oM w.drew _ hj) h.oP (kI w.drew _) ?_ (λe=>by cases e) (λj hj=>by simp;omega) hsz hb (oO hb1 hb) (λj V e=>?_) k2 k3 k4
  ·rw[hx,hlen]
   unfold bytesRow;rw[Array.size_append,Array.size_map,Array.size_replicate];have:S.data.size=S.size:=rfl;omega
  ·have hlt:=(gs1 e).1
   unfold bytesRow;rw[Array.getElem?_append_left (by simpa using hlt),← Array.getElem?_toList];exact e
 | _=>cases e2
theorem zD {src dst:Nat} {x:AV} {X:Value} (h:Rel P w0 φ s w) (hx:x.den φ=some X) (e:jQ P src dst x s n=.ok v s' n' r l1) (hf:Free φ n n'):Made P w0 φ s' w n n' v (convert src dst X):=by
 unfold jQ at e
 split at e
 ·exact jl h (zB h hx e)
 ·obtain⟨u,s1,n1,r1,m1,r2,m2,e1,e2,rfl,rfl⟩:=ah e
  obtain⟨rfl,rfl,rfl⟩:=pz hx e1
  split at e2
  ·obtain⟨d0,s0,n0,r0,m0,nk,vT,e0,eP,rfl,rfl⟩:=ah e2
   obtain⟨rfl,rfl,hd0⟩:=cK e0;obtain⟨d,s2,n2,r3,m3,r4,m4,e3,e4,rfl,rfl⟩:=ah eP;obtain⟨rfl,rfl,h1⟩:=cK e3
   split at e4
   ·rename_i kk z k
    obtain⟨q1,q2,V,hV,hr⟩:=gW (φ:=φ) (w:=w) e4;refine jl h ⟨q1,q2,V,hV,?_⟩;simp[convert,underlying,hd0,h1,hr]
   ·exact jl h (gW e4)
  ·obtain⟨d,s2,n2,r3,m3,r4,m4,e3,e4,rfl,rfl⟩:=ah e2
   obtain⟨rfl,rfl,h1⟩:=cK e3
   split at e4
   ·obtain⟨d2,s3,n3,r5,m5,r6,m6,e5,e6,rfl,rfl⟩:=ah e4
    obtain⟨rfl,rfl,h2⟩:=cK e5;cases d2 <;> first | (cases e6;done) | skip
    obtain⟨k,s4,n4,r7,m7,r8,m8,e7,e8,rfl,rfl⟩:=ah e6;obtain⟨rfl,rfl,hsz⟩:=dI e7;obtain⟨hb,e9⟩:=bC e8;cases Nat.eq_of_beq_eq_true hb
    exact zC h h2 h1 hsz e9 hf
   ·exact jl h (gW e4)
  ·exact jl h (gW e2)
theorem zF {t:Nat} {x:AV} {X:Value} (h:Rel P w0 φ s w) (hx:x.den φ=some X) (e:lY P t x s n=.ok v s' n' r l1) (hf:Free φ n n'):Made P w0 φ s' w n n' v (Instr.range t X):=by
 cases x with
 | mp m =>
  obtain⟨b,y,hp,rfl⟩:=iN hx;obtain⟨kt,s1,n1,r1,m1,r2,m2,e1,e2,rfl,rfl⟩:=ah (show(eB P t >>= _) _ _=_ from e);obtain⟨rfl,rfl,h1⟩:=kJ e1;obtain⟨q,s2,n2,r3,m3,r4,m4,e3,e4,rfl,rfl⟩:=ah e2;obtain⟨hg,rfl,rfl⟩:=jg e3;obtain⟨b',y',ES,h2,h3,h4,hE⟩:=h.map _ _ _ hg;rw[hp] at h2;cases h2;obtain⟨i,s3,n3,r5,m5,r6,m6,e5,e6,rfl,rfl⟩:=ah e4;obtain⟨rfl,rfl,rfl⟩:=pR e5;obtain⟨z,s4,n4,r7,m7,r8,m8,e7,e8,rfl,rfl⟩:=ah e6;obtain⟨rfl,_,rfl,hi,_⟩:=fQ e7;obtain⟨rfl,rfl,rfl⟩:=aj e8;have hφ:=hf _ (Nat.le_refl _) (by omega)
  refine⟨_,.pointer (some ⟨w.heap.size,0,none⟩),w.alloc (.mapIter (some b) q.2 #[] q.2),by simp[Instr.range,cZ h1,fV h4,underlying,h1],pQ (o:=.mapIter (some b) q.2 #[] q.2) h hφ hi (by simp) (by simp) (by simp) (λm since seen last h=>by cases h;exact⟨b,y,hp,rfl⟩) (by simp),iM,dW hφ,by simp[AV.den,dM]⟩
 | _=>cases e
theorem vU {i:Nat} {x:Nat × Nat × List Nat × Nat} (h:lZ i s n=.ok x s' n' r l1):s.get i 0=some (.it x.1 x.2.1 x.2.2.1 x.2.2.2)/\s'=s/\n'=n:=by
 obtain⟨a,s1,n1,r1,l1,r2,l2,e1,e2,rfl,rfl⟩:=ah (show(M.get i 0 >>= _) s n=_ from h);obtain⟨g,_,rfl,rfl⟩:=kH e1;cases a with
 | it m a b c=>obtain⟨rfl,rfl,rfl⟩:=aj e2;exact⟨g,rfl,rfl⟩
 | _=>cases e2
theorem zG {x:AV} {X:Value} (h:Rel P w0 φ s w) (hx:x.den φ=some X) (e:mh x s n=.ok v s' n' r l1):s'=s/\n'=n/\∃V,v.den φ=some V/\(Instr.entry X).run P w=.ok V w:=by
 unfold mh at e;obtain⟨p,s1,n1,r1,m1,r2,m2,e1,e2,rfl,rfl⟩:=ah e;obtain⟨rfl,rfl,rfl⟩:=kM e1;obtain⟨t,s2,n2,r3,m3,r4,m4,e3,e4,rfl,rfl⟩:=ah e2;obtain⟨hg,rfl,rfl⟩:=vU e3;obtain⟨q,s3,n3,r5,m5,r6,m6,e5,e6,rfl,rfl⟩:=ah e4;obtain⟨hg2,rfl,rfl⟩:=jg e5;obtain⟨bb,s4,n4,r7,m7,r8,m8,e7,e8,rfl,rfl⟩:=ah e6;obtain⟨hb,rfl,rfl⟩:=aF e7;obtain⟨y,s5,n5,r9,m9,dX,m10,e9,e10,rfl,rfl⟩:=ah e8;obtain⟨hy,rfl,rfl⟩:=aF e9;obtain⟨hc,e11⟩:=bC e10;obtain⟨rfl,rfl,rfl⟩:=aj e11;simp only[Bool.and_eq_true] at hc;have p0:=Nat.eq_of_beq_eq_true hc.1;have c0:=Nat.eq_of_beq_eq_true hc.2;obtain⟨b,z,hp,rfl⟩:=eH hx
 obtain⟨b',x',m',y',k1,k2,k3,k4⟩:=h.it _ _ _ _ _ hg;rw[hp] at k1;cases k1;obtain⟨b2,x2,ES,j1,j2,j3,hE⟩:=h.map _ _ _ hg2;rw[k3] at j1;cases j1;have key:∀ {es:List (AV × AV × Nat)} {ES:List MapEntry},bg φ es=some ES->es.find? (λe=>Nat.beq e.2.2 bb)=some y->∃E,ES.find? (·.born == bb)=some E/\y.1.den φ=some E.key/\y.2.1.den φ=some E.val:=by
  intro es
  induction es with
  | nil=>intro ES _ hf;cases hf
  | cons e es ih =>
   intro ES hE hf;obtain⟨K,V,L,a1,a2,a3,rfl⟩:=fP hE;rw[List.find?_cons] at hf;cases hq:Nat.beq e.2.2 bb with
   | true=>rw[hq] at hf;cases hf;exact⟨{ key:=K,val:=V,born:=y.2.2 },by simp[Nat.eq_of_beq_eq_true hq],a1,a2⟩
   | false =>
    rw[hq] at hf;obtain⟨E,h1,h2⟩:=ih a3 hf;have hne:¬e.2.2=bb:=λh=>by rw[h,Nat.beq_refl] at hq;cases hq
    exact⟨E,by simp[hne];exact h1,h2⟩
 obtain⟨E,h1,h2,h3⟩:=key hE hy;refine⟨rfl,rfl,.tuple #[E.key,E.val],by simp[AV.den,ak,h2,h3],?_⟩;have hb':t.2.2.1.toArray.back?=some bb:=by simp[hb]
 have h1':ES.find? (·.born == bb)=some E:=by rw[← Array.find?_toList];exact h1
 rw[p0];simp only[Instr.entry,Sem.run_bind,getObj,Sem.run,k4,Result.andThen_ok,hb',j3,c0,h1'];simp[fV j3,h1']
theorem zH {t t0:Nat} {ok:Bool} {x:AV} {X:Value} (hx:x.den φ=some X) (e:mq P t ok x s n=.ok v s' n' r l1):s'=s/\n'=n/\∃V,v.den φ=some V/\(Instr.typeAssert X t0 t ok).run P w=.ok V w:=by
 unfold mq at e;obtain⟨d,s1,n1,r1,m1,r2,m2,e1,e2,rfl,rfl⟩:=ah e;obtain⟨rfl,rfl,h1⟩:=cK e1;have hd:∀ms,d≠.interface ms:=λms h=>by subst h;cases e2
 have e3:mo P t ok x s1 n1=.ok v s' n' r2 m2:=by
  cases d <;> first | exact absurd rfl (hd _) | exact e2
 have hh : ∀ (u : Nat) (U : Value), (Instr.typeAssert (.iface u U) t0 t ok).run P w = (if u = t then pure (if ok then .tuple #[U, .bool true] else U) else if ok then do pure (.tuple #[← zeroValue t, .bool false]) else runtimePanic (.typeAssertion (some t0) (some u) t "") : Sem Value).run P w := by
  intro u U;cases d <;> first | exact absurd rfl (hd _) | (by_cases h:u=t <;> cases ok <;> simp[Instr.typeAssert,underlying,h1,h])
 have hn : (Instr.typeAssert .nilIface t0 t ok).run P w = (if ok then do pure (.tuple #[← zeroValue t, .bool false]) else runtimePanic (.typeAssertion (some t0) none t "") : Sem Value).run P w := by
  cases d <;> first | exact absurd rfl (hd _) | (cases ok <;> simp[Instr.typeAssert,underlying,h1])
 unfold mo at e3
 split at e3
 ·rename_i u y
  obtain⟨U,hU,rfl⟩:=ji hx;rw[hh];cases hb:Nat.beq u t with
  | true =>
   rw[hb] at e3;obtain⟨rfl,rfl,rfl⟩:=aj (show(pure _:M _) _ _=_ from e3);exact⟨rfl,rfl,_,mY hU,by simp[Nat.eq_of_beq_eq_true hb]⟩
  | false =>
   have hne:¬u=t:=λh=>by rw[h,Nat.beq_refl] at hb;cases hb
   rw[hb] at e3;obtain⟨rfl,e4⟩:=bC (show cond ok _ (M.no 96) _ _=_ from e3);obtain⟨z,s5,n5,r9,m9,dX,m10,e9,e10,rfl,rfl⟩:=ah e4;obtain⟨rfl,rfl,Z,hZ,hz⟩:=rF (w:=w) e9;obtain⟨rfl,rfl,rfl⟩:=aj e10;exact⟨rfl,rfl,_,mY hZ,by simp[hne,hz]⟩
 ·cases bF hx
  rw[hn];obtain⟨rfl,e4⟩:=bC (show cond ok _ (M.no 97) _ _=_ from e3);obtain⟨z,s5,n5,r9,m9,dX,m10,e9,e10,rfl,rfl⟩:=ah e4;obtain⟨rfl,rfl,Z,hZ,hz⟩:=rF (w:=w) e9;obtain⟨rfl,rfl,rfl⟩:=aj e10;exact⟨rfl,rfl,_,mY hZ,by simp[hz]⟩
 ·cases e3
theorem iO {ts:List Nat} {t:Nat} (e:eD ts s n=.ok t s' n' r l1):s'=s/\n'=n/\ts.toArray[0]?=some t:=by
 obtain⟨h,h2,h3⟩:=aF e;exact⟨h2,h3,by cases ts <;> simp_all⟩
theorem zI {es:List (AV × AV × Nat)} {ES:List MapEntry} (h:bg φ es=some ES):ES.length=es.length:=by
 induction es generalizing ES with
 | nil=>simp only[bg] at h;cases h;rfl
 | cons e es ih=>obtain⟨K,V,L,_,_,hl,rfl⟩:=fP h;simp[ih hl]
theorem zJ {ts:List Nat} {ty:Nat} {x:AV} {X:Value} (h:Rel P w0 φ s w) (hx:x.den φ=some X) (e:lJ P ts x s n=.ok v s' n' r l1):s'=s/\n'=n/\∃V,v.den φ=some V/\(Builtin.len_ ts.toArray ty #[X]).run P w=.ok V w:=by
 unfold lJ at e
 split at e
 ·obtain⟨b,y,hp,rfl⟩:=eO hx
  obtain⟨t,s1,n1,r1,m1,r2,m2,e1,e2,rfl,rfl⟩:=ah e;obtain⟨rfl,rfl,h0⟩:=iO e1;obtain⟨el,s2,n2,r3,m3,r4,m4,e3,e4,rfl,rfl⟩:=ah e2;obtain⟨rfl,rfl,h1⟩:=eG e3;obtain⟨rfl,rfl,rfl⟩:=aj e4;exact⟨rfl,rfl,_,rfl,by simp[Builtin.len_,h0,underlying,h1]⟩
 ·obtain⟨b,y,hp,rfl⟩:=oV hx
  obtain⟨t,s1,n1,r1,m1,r2,m2,e1,e2,rfl,rfl⟩:=ah e;obtain⟨rfl,rfl,h0⟩:=iO e1;obtain⟨el,s2,n2,r3,m3,r4,m4,e3,e4,rfl,rfl⟩:=ah e2;obtain⟨rfl,rfl,h1⟩:=eG e3;obtain⟨rfl,rfl,rfl⟩:=aj e4;exact⟨rfl,rfl,_,rfl,by simp[Builtin.len_,h0,underlying,h1]⟩
 ·obtain⟨b,y,hp,rfl⟩:=iN hx
  obtain⟨t,s1,n1,r1,m1,r2,m2,e1,e2,rfl,rfl⟩:=ah e;obtain⟨rfl,rfl,h0⟩:=iO e1;obtain⟨kt,s2,n2,r3,m3,r4,m4,e3,e4,rfl,rfl⟩:=ah e2;obtain⟨rfl,rfl,h1⟩:=kJ e3;obtain⟨q,s3,n3,r5,m5,r6,m6,e5,e6,rfl,rfl⟩:=ah e4;obtain⟨hg,rfl,rfl⟩:=jg e5;obtain⟨rfl,rfl,rfl⟩:=aj e6;obtain⟨b',y',ES,h2,h3,h4,hE⟩:=h.map _ _ _ hg;rw[hp] at h2;cases h2;have:=zI hE;exact⟨rfl,rfl,_,rfl,by simp[Builtin.len_,h0,underlying,h1,fV h4];simpa using congrArg (λn:Nat=>goInt n) this⟩
 ·cases hu:AV.sv x with
  | some u =>
   rw[hu] at e;obtain⟨h1,h2,h3⟩:=aF (show M.opt 35 _ _ _=_ from e);cases jk hx hu
   cases hp:pr P (Builtin.len_ ts.toArray 0 #[X]) with
   | none=>rw[hp] at h1;cases h1
   | some V=>rw[hp] at h1;exact⟨h2,h3,V,kK h1,jh hp⟩
  | none =>
   rw[hu] at e;obtain⟨t,s1,n1,r1,m1,r2,m2,e1,e2,rfl,rfl⟩:=ah (show(eD ts >>= _) _ _=_ from e);obtain⟨rfl,rfl,h0⟩:=iO e1;obtain⟨d,s2,n2,r3,m3,r4,m4,e3,e4,rfl,rfl⟩:=ah e2;obtain⟨rfl,rfl,h1⟩:=cK e3;cases d <;> first | (cases e4;done) | skip
   obtain⟨rfl,rfl,rfl⟩:=aj e4;exact⟨rfl,rfl,_,rfl,by simp[Builtin.len_,h0,underlying,h1]⟩
theorem vV {b:Bool} {ts:Array Nat} {ty:Nat} {xs:List AV} {XS:List Value} (hx:ak φ xs=some XS) (e:jF P b xs s n=.ok v s' n' r l1):s'=s/\n'=n/\∃V,v.den φ=some V/\(if b then Builtin.max_ ts ty XS.toArray else Builtin.min_ ts ty XS.toArray).run P w=.ok V w:=by
 unfold jF at e;cases hs:gF xs with
 | none=>rw[hs] at e;cases e
 | some l =>
  rw[hs] at e;have:=oU (φ:=φ) hs;rw[hx] at this;cases this;obtain⟨h1,h2,h3⟩:=aF (show M.opt 44 _ _ _=_ from e);cases hp:pr P (cond b (Builtin.max_ #[] 0 XS.toArray) (Builtin.min_ #[] 0 XS.toArray)) with
  | none=>rw[hp] at h1;cases h1
  | some V =>
   rw[hp] at h1;refine⟨h2,h3,V,kK h1,?_⟩;cases b
   ·exact jh (S:=Builtin.min_ #[] 0 XS.toArray) hp
   ·exact jh (S:=Builtin.max_ #[] 0 XS.toArray) hp
end
/- 'append', 'copy', 'clear'; the next of a map. -/
section
variable {P : Program} {w0 : World} {φ : Ph} {s s' : Ob} {w : World} {n n' : Nat} {r l1 : Lg} {v : AV}
/-- Cells that are stored into a block, one behind the other. -/
theorem vW {b off t:Nat} {fz:Nat × Nat}:∀(L:List Value) (w:World) (C:Array Value) (i:Nat),w.heap[b]?=some (.cells C t fz)->oG fz C.size->off+i+L.length<=C.size->(∀V ∈ L,V.oneCell'=true) ->
  ∃w' C',(storeCells ⟨b,off,none⟩ L i).run P w=.ok () w'/\w'.heap[b]?=some (.cells C' t fz)/\C'.size=C.size/\(∀(k:Nat) (V:Value),L[k]?=some V->C'[off+i+k]?=some V)/\(∀k,(k < off+i\/off+i+L.length<=k)->C'[k]?=C[k]?)/\(∀k,k≠b->w'.heap[k]?=w.heap[k]?)/\∀(B:Nat) (W:World),B<=b->Below B W w->Below B W w'
 | [],w,C,i,h,hf,hl,h1=>⟨w,C,rfl,h,rfl,by simp,λ_ _=>rfl,λ_ _=>rfl,λ_ _ _ h=>h⟩
 | V :: L,w,C,i,h,hf,hl,h1=>by
  simp only[List.length_cons] at hl;have hlt:off+i < C.size:=by omega
  have hst:(store ⟨b,off+i,none⟩ V).run P w=.ok () (w.setCell ⟨b,off+i,none⟩ V):=by
   rw[run_store P w _ V .plain (h1 V (by simp)),oI (B:=0) h (Array.getElem?_eq_getElem hlt),uX h hf hlt];simp
  obtain⟨w',C',k1,k2,k3,k4,k5,k6,k7⟩:=vW (b:=b) (off:=off) (t:=t) (fz:=fz) L (w.setCell ⟨b,off+i,none⟩ V) (C.setIfInBounds (off+i) V) (i+1) (uW h V) (by simpa using hf) (by simp;omega) (λU hU=>h1 U (by simp[hU]));refine⟨w',C',?_,k2,by simpa using k3,λk U hk=>?_,λk hk=>?_,λk hk=>(k6 k hk).trans (heap_set w _ V hk),λB W hB hW=>k7 B W hB (hW.setCell (p:=⟨b,off+i,none⟩) hB V)⟩
  ·simp only[storeCells,Sem.run_bind,Addr.eZ,hst,Result.andThen_ok]
   exact k1
  ·cases k with
   | zero =>
    simp only[List.getElem?_cons_zero,Option.some.injEq] at hk;subst hk;rw[Nat.add_zero,k5 _ (.inl (by omega))];simp[hlt]
   | succ k=>rw[show off+i+(k+1)=off+(i+1)+k by omega];exact k4 k U (by simpa using hk)
  ·rw[k5 k (by simp only[List.length_cons] at hk;omega),Array.getElem?_setIfInBounds_ne (by simp only[List.length_cons] at hk;omega)]
/-- What is forgotten. -/
theorem Rel.forget {i:Nat} (h:Rel P w0 φ s w) (hi:i < 16000000):Rel P w0 φ (s.put i 0 none) w:=by
 have gp:∀j q,(s.put i 0 none).get j q=if j=i/\q=0 then none else s.get j q:=λj q=>Ob.get_put hi (by omega)
 have g0:∀j o,(s.put i 0 none).get j 0=some o->j≠i/\s.get j 0=some o:=λj o hj=>by
  rw[gp] at hj
  by_cases e:j=i
  ·rw[if_pos ⟨e,rfl⟩] at hj;cases hj
  ·rw[if_neg (λh=>e h.1)] at hj;exact⟨e,hj⟩
 refine⟨h.base,λj t e k op hj=>?_,λj es c hj=>h.map j es c (g0 _ _ hj).2,λj m a l k hj=>h.it j m a l k (g0 _ _ hj).2,λj k hj=>h.sp j k (g0 _ _ hj).2,λj u hj=>h.head j u (g0 _ _ hj).2,λj p hj=>h.dom j p λe=>hj (by rw[gp];split <;> first | rfl | exact e),λj j' b x y h1 h2 h3 h4=>?_⟩
 ·obtain⟨h1,h2⟩:=g0 _ _ hj
  obtain⟨b,x,C,fz,R⟩:=h.row j t e k op h2;exact⟨b,x,C,fz,R.mP (Ph.le_refl _) rfl (λp=>by rw[gp,if_neg (λh=>h1 h.1)])⟩
 ·refine h.inj j j' b x y (λe=>h1 ?_) (λe=>h2 ?_) h3 h4
  ·rw[gp];split <;> first | rfl | exact e
  ·rw[gp];split <;> first | rfl | exact e
theorem vX {x:AV} {m:Nat} (h:iD x s n=.ok m s' n' r l1):∀b,x=.sc (.string b)->m=b.size:=by
 intro b hb;subst hb;obtain⟨rfl,_,_⟩:=aj (show(pure _:M _) _ _=_ from h);rfl
theorem zK {L:List Value} {C:Array Value} {o:Nat} {b:Nat} {t:Nat} {fz:Nat × Nat} (h:w.heap[b]?=some (.cells C t fz)) (hL:∀(j:Nat) (V:Value),L[j]?=some V->w.cell? ⟨b,o+j,none⟩=some V):∀(j:Nat) (V:Value),L[j]?=some V->C[o+j]?=some V:=by
 intro j V hj;have:=hL j V hj;simpa [World.cell?,h] using this
theorem zL {ts:List Nat} {ty:Nat} {x y:AV} {X Y:Value} (h:Rel P w0 φ s w) (hx:x.den φ=some X) (hy:y.den φ=some Y) (e:lH P ts x y s n=.ok v s' n' r l1) (hf:Free φ n n'):Made P w0 φ s' w n n' v (Builtin.append_ ts.toArray ty #[X,Y]):=by
 unfold lH at e;obtain⟨t,sa,na,ra,ma,rb,mb,ea,eb,rfl,rfl⟩:=ah e;obtain⟨rfl,rfl,h0⟩:=iO ea;obtain⟨el,s1,n1,r1,m1,r2,m2,e1,e2,rfl,rfl⟩:=ah eb;obtain⟨rfl,rfl,h1⟩:=eG e1;obtain⟨k,s2,n2,r3,m3,r4,m4,e3,e4,rfl,rfl⟩:=ah e2;obtain⟨rfl,rfl,hsz⟩:=dI e3;obtain⟨dB,s3,n3,r5,m5,r6,m6,e5,e6,rfl,rfl⟩:=ah e4;obtain⟨hby,rfl,rfl⟩:=aF e5;obtain⟨u,s4,n4,r7,m7,r8,m8,e7,e8,rfl,rfl⟩:=ah e6;obtain⟨rfl,rfl,hno⟩:=yB e7;have hno':oZ P ts.toArray[1]?:=by
  rw[show ts.toArray[1]?=(ts.drop 1)[0]? by simp];exact hno
 obtain⟨z,s5,n5,r9,m9,dX,m10,e9,e10,rfl,rfl⟩:=ah e8;obtain⟨rfl,rfl,i,Z,hi,hz,hZ,-⟩:=kL (φ:=φ) e9;obtain⟨m,s6,n6,ng,m11,ni,m12,e11,e12,rfl,rfl⟩:=ah e10;obtain⟨rfl,rfl,hm⟩:=qV (P:=P) (w:=w) hy e11;have hmb:=vX e11;obtain⟨new,s7,n7,pJ,m13,pK,m14,e13,e14,rfl,rfl⟩:=ah e12;obtain⟨rfl,rfl,NW,hN,hN1,jm⟩:=vB h hy e13 hmb;obtain⟨hb,e15⟩:=bC e14;simp only[Bool.and_eq_true] at hb;have ln:new.length=m * k:=Nat.eq_of_beq_eq_true hb.1;have lz:z.length=k:=Nat.eq_of_beq_eq_true hb.2;have hsz':i.size=k:=by rw[hi] at hsz;simpa using hsz
 have pO:i.bytes=dB:=by rw[hi] at hby;simpa using hby
 have hzl:Z.cells.size=k:=by have:=dV hZ;simp at this;omega
 clear e e2 e4 e6 e8 e10 e12 e14 ea eb
 split at e15
 ·-- nil
  rename_i nn cc;cases bF hx
  cases hm0:Nat.beq m 0 with
  | true =>
   rw[hm0] at e15;cases Nat.eq_of_beq_eq_true hm0
   obtain⟨hle,e16⟩:=bC (show cond (Nat.ble nn cc) _ (M.no 27) _ _=_ from e15);obtain⟨rfl,rfl,rfl⟩:=aj e16;have hle':=Nat.le_of_ble_eq_true hle;refine jl h ⟨rfl,rfl,.slice none nn cc,rfl,?_⟩;have hs:=run_sizeOf (w:=w) hsz;have hfw:=jm w rfl;simp only[Builtin.append_,h0,List.getElem?_toArray,List.getElem?_cons_zero,List.getElem?_cons_succ,Sem.run_bind,cZ h1,hs,Result.andThen_ok];rcases hno' with hz' | ⟨u,hz',⟨e,rG⟩ | rG⟩
   ·simp only[List.getElem?_toArray] at hz';rw[hz'];simp[hm,hle',hfw]
   ·simp only[List.getElem?_toArray] at hz';rw[hz'];simp[hm,hle',hfw,underlying,rG]
   ·simp only[List.getElem?_toArray] at hz';rw[hz'];simp[hm,hle',hfw,underlying,rG]
  | false =>
   rw[hm0] at e15;obtain⟨hb2,e16⟩:=bC (show cond _ _ (M.no 28) _ _=_ from e15);simp only[Bool.and_eq_true] at hb2;cases Nat.eq_of_beq_eq_true hb2.1
   cases Nat.eq_of_beq_eq_true hb2.2.1
   have hroom:=vG hb2.2.2;have m0:m≠0:=λh=>by subst h;cases hm0
   obtain⟨j,s8,n8,pU,m15,r16,m16,e17,e18,rfl,rfl⟩:=ah e16;obtain⟨rfl,rfl,rfl⟩:=aj e18;obtain⟨rfl,rfl,k1,k2,k3,k4⟩:=mR e17;have hφ:=hf _ (Nat.le_refl _) (by omega);have hge:=grownCap_ge w (0+m) 0 el;obtain⟨xx,jo⟩:∃xx,grownCap w (0+m) 0 el=0+m+xx:=⟨_,(Nat.add_sub_cancel' hge).symm⟩;have hap:=vF (P:=P) (w:=w) (ts:=ts.toArray) (ty:=ty) (a:=none) (k:=0) (c:=0) (old:=[]) (dB:=dB) (z:=Z) h0 h1 hi hsz' pO hz hno' hm jm (λW _=>rfl) (by omega) (by rw[Nat.zero_add];exact hroom)
   refine⟨_,_,_,hap,rA (k:=0) (m:=m) (c:=0) (x:=xx) (lo:=[]) (ln:=new) h hφ hi hsz' hzl rfl hN (by simp) ln (by simpa using k1) jo (by simpa using k2) (by simpa using k3) (by simpa using k4),iM,dW hφ,?_⟩;rw[jo];simp[AV.den,dM]
 ·rename_i ii oo nn cc
  obtain⟨b,yy,hp,rfl⟩:=eO hx;cases hin:Nat.ble (nn+m) cc with
  | true =>
   rw[hin] at e15;have hle:=Nat.le_of_ble_eq_true hin;obtain⟨q,s8,n8,pU,m15,r16,m16,e16,e17,rfl,rfl⟩:=ah (show(rowAt ii >>= _) _ _=_ from e15);obtain⟨hg,rfl,rfl⟩:=gU e16;obtain⟨q2,s9,n9,zM,m17,zN,m18,e18,e19,rfl,rfl⟩:=ah e17;obtain⟨rfl,rfl,rfl⟩:=aj e19;obtain⟨rfl,-,k1⟩:=oL hp h hg hN e18;obtain⟨w',k2,k3⟩:=k1 0 (Nat.zero_le _);refine⟨φ,_,w',vE (S:=.nilIface) (ty:=ty) (k:=nn) (c:=cc+yy) (sz:=k) h0 h1 hsz hno' hm (jm w rfl) (by omega) (by rw[Addr.eZ];exact k2),k3,.refl _ _,Ph.le_refl _,?_⟩;simp[AV.den,hp]
  | false =>
   rw[hin] at e15;have hgt:cc < nn+m:=Nat.lt_of_not_le λh=>by rw[Nat.ble_eq_true_of_le h] at hin;cases hin
   obtain⟨hb2,e16⟩:=bC (show cond _ _ (M.no 30) _ _=_ from e15);have hroom:=vG hb2;unfold grow at e16;obtain⟨q,s8,n8,pU,m15,r16,m16,e17,e18,rfl,rfl⟩:=ah e16;obtain⟨hg,rfl,rfl⟩:=gU e17;obtain⟨old,s9,n9,zM,m17,zN,m18,e19,e20,rfl,rfl⟩:=ah e18;obtain⟨rfl,rfl,lo,hc⟩:=oH e19;have lo':old.length=nn * k:=lo;obtain⟨b',x',C,fz,R⟩:=h.row _ _ _ _ _ hg;have hp':=R.ph;rw[hp] at hp';cases hp';obtain⟨OL,hO,zO,hO2⟩:=oJ R hc;have lO:=dV hO;have hld:∀W:World,W.heap=w.heap->(Builtin.firstCells k nn (.slice (some ⟨b,oo,none⟩) nn (cc+yy))).run P W=.ok OL.toArray W:=λW hW=>by
    simp only[Builtin.firstCells];rw[show nn * k=OL.length by omega];exact oK λj V e=>by
     have:=hO2 j V e;simpa [World.cell?,hW] using this
   have hge:=grownCap_ge w (nn+m) (cc+yy) el;obtain⟨xx,jo⟩:∃xx,grownCap w (nn+m) (cc+yy) el=nn+m+xx:=⟨_,(Nat.add_sub_cancel' hge).symm⟩;have hap:cc+yy < nn+m->_:=λhlt=>vF (P:=P) (w:=w) (ts:=ts.toArray) (ty:=ty) (a:=some ⟨b,oo,none⟩) (k:=nn) (c:=cc+yy) (old:=OL) (dB:=dB) (z:=Z) h0 h1 hi hsz' pO hz hno' hm jm hld hlt (by omega);cases hop:q.2.2.2 with
   | false =>
    rw[hop] at e20;have y0:=R.shut hop;subst y0;obtain⟨j,s10,n10,zP,m19,zQ,m20,e21,e22,rfl,rfl⟩:=ah (show(eu el k (old ++ new) true >>= _) _ _=_ from e20);obtain⟨rfl,rfl,rfl⟩:=aj e22;obtain⟨rfl,rfl,k1,k2,k3,k4⟩:=mR e21;have hφ:=hf _ (Nat.le_refl _) (by omega);refine⟨_,_,_,hap (by omega),rA (k:=nn) (m:=m) (c:=cc+0) (x:=xx) (lo:=old) (ln:=new) h hφ hi hsz' hzl hO hN lo' ln k1 jo k2 k3 k4,iM,dW hφ,?_⟩;rw[jo];simp[AV.den,dM]
   | true =>
    rw[hop] at e20;obtain⟨hb3,e21⟩:=bC (show cond _ _ (M.no 29) _ _=_ from e20);simp only[Bool.and_eq_true] at hb3;cases Nat.eq_of_beq_eq_true hb3.1
    have c1:q.2.2.1=cc * k:=Nat.eq_of_beq_eq_true hb3.2.1;have c2:q.1=el:=Nat.eq_of_beq_eq_true hb3.2.2.1;have c3:k=q.2.1:=Nat.eq_of_beq_eq_true hb3.2.2.2;obtain⟨q2,s10,n10,zP,m19,zQ,m20,e22,e23,rfl,rfl⟩:=ah e21;obtain⟨rfl,_,rfl,jq,_⟩:=fQ e22;obtain⟨j,s11,n11,CF,m21,CG,m22,e24,e25,rfl,rfl⟩:=ah e23;obtain⟨rfl,rfl,rfl⟩:=aj e25;obtain⟨rfl,rfl,k1,k2,k3,k4⟩:=mR e24;have hφ:=hf _ (Nat.le_refl _) (by omega);have hF:=h.forget jq
    by_cases vY:nn+m<=cc+yy
    ·obtain⟨x2,hx2⟩:∃x2,cc+yy=nn+m+x2:=⟨_,(Nat.add_sub_cancel' vY).symm⟩
     have hCs:C.size=(nn+m+x2) * k:=by rw[← hx2,R.size,c1,← c3,Nat.add_mul]
     have lN:=dV hN;have pV:(nn+m+x2) * k=nn * k+m * k+x2 * k:=by rw[Nat.add_mul,Nat.add_mul]
     obtain⟨w',C',j1,j2,j3,j4,j5,j6,j7⟩:=vW (P:=P) (b:=b) (off:=0+nn * k) NW w C 0 R.heap R.fz (by omega) hN1;refine⟨dH φ j b x2,_,w',vE (S:=.nilIface) (ty:=ty) (k:=nn) (c:=cc+yy) (sz:=k) h0 h1 hsz hno' hm (jm w rfl) vY (by rw[Addr.eZ];exact j1),?_,iM,dW hφ,by rw[hx2];simp[AV.den,dM]⟩;have hL:=iL hO hN;have zR:=zK R.heap hO2;refine oN (W:=w') (l:=old ++ new) (e:=k) (C:=C') (fz:=fz) (L:=OL ++ NW) hF hφ (j7 _ _ R.le h.base) R.le (λkk hk _=>j6 kk hk) (λi' y' hi' hb'=>?_) (c2 ▸ j2) ?_ (λe=>by cases e) (by rw[j3];exact R.fz) hsz hL (λV hV=>?_) (λkk V hk=>?_) k2 k3 k4
     ·have hne:i'≠ii:=λe=>by subst e;rw[Ob.get_put jq (by omega),if_pos ⟨rfl,rfl⟩] at hi';exact hi' rfl
      rw[Ob.get_put jq (by omega),if_neg (λh=>hne h.1)] at hi';exact hne (h.inj i' ii b y' yy hi' (by rw[hg];simp) hb' hp)
     ·rw[j3,hCs,pV];simp only[List.length_append];omega
     ·rcases List.mem_append.1 hV with hV | hV
      ·exact zO V hV
      ·exact hN1 V hV
     ·by_cases hkk:kk < OL.length
      ·rw[List.getElem?_append_left hkk] at hk
       rw[j5 kk (.inl (by omega))];have:=zR kk V hk;simpa using this
      ·rw[List.getElem?_append_right (by omega)] at hk
       have:=j4 _ V hk
       rwa [show 0+nn * k+0+(kk - OL.length)=kk by omega] at this
    ·refine⟨_,_,_,hap (by omega),rA (k:=nn) (m:=m) (c:=cc+yy) (x:=xx) (lo:=old) (ln:=new) hF hφ hi hsz' hzl hO hN lo' ln k1 jo k2 k3 k4,iM,dW hφ,?_⟩
     rw[jo];simp[AV.den,dM]
 ·cases e15
theorem zS {ts:List Nat} {ty:Nat} {x:AV} {X:Value} (h:Rel P w0 φ s w) (hx:x.den φ=some X) (e:lK P ts x s n=.ok v s' n' r l1):n'=n/\v=.bG []/\∃w',(Builtin.clear_ ts.toArray ty #[X]).run P w=.ok (.tuple #[]) w'/\Rel P w0 φ s' w':=by
 unfold lK at e
 split at e
 ·rename_i i o k c
  obtain⟨b,y,hp,rfl⟩:=eO hx;obtain⟨t,s1,n1,r1,m1,r2,m2,e1,e2,rfl,rfl⟩:=ah e;obtain⟨rfl,rfl,h0⟩:=iO e1;obtain⟨el,s2,n2,r3,m3,r4,m4,e3,e4,rfl,rfl⟩:=ah e2;obtain⟨rfl,rfl,h1⟩:=eG e3;cases k with
  | zero =>
   obtain⟨rfl,rfl,rfl⟩:=aj (show(pure _:M _) _ _=_ from e4);exact⟨rfl,rfl,w,by simp[Builtin.clear_,h0,underlying,h1],h⟩
  | succ k =>
   obtain⟨z,s3,n3,r5,m5,r6,m6,e5,e6,rfl,rfl⟩:=ah (show(fI P el >>= _) _ _=_ from e4);obtain⟨rfl,rfl,ii,Z,hi,hz,hZ,-⟩:=kL (φ:=φ) e5;obtain⟨q,s4,n4,r7,m7,r8,m8,e7,e8,rfl,rfl⟩:=ah e6;obtain⟨hg,rfl,rfl⟩:=gU e7;obtain⟨u,s5,n5,r9,m9,dX,m10,e9,e10,rfl,rfl⟩:=ah e8;obtain⟨rfl,rfl,rfl⟩:=aj e10;have hR:=pI hZ (k+1);obtain⟨rfl,-,k1⟩:=oL hp h hg hR e9;obtain⟨w',k2,k3⟩:=k1 0 (Nat.zero_le _);have hzl:z.length=Z.cells.size:=by have:=dV hZ;simp at this;omega
   rw[hzl] at k2;have k4:(storeCells ⟨b,o,none⟩ (Builtin.zeroCells Z.cells (k+1)).toList).run P w=.ok () w':=k2;have kN:(zeroValue el).run P w=.ok Z w:=by simp[zeroValue,typeInfo,hi,hz]
   refine⟨rfl,rfl,w',?_,k3⟩;simp only[Builtin.clear_,h0,List.getElem?_toArray,List.getElem?_cons_zero,Sem.run_bind,cZ h1,Result.andThen_ok,kN,k4];simp
 ·cases bF hx
  obtain⟨t,s1,n1,r1,m1,r2,m2,e1,e2,rfl,rfl⟩:=ah e;obtain⟨rfl,rfl,h0⟩:=iO e1;obtain⟨el,s2,n2,r3,m3,r4,m4,e3,e4,rfl,rfl⟩:=ah e2;obtain⟨rfl,rfl,h1⟩:=eG e3;obtain⟨rfl,rfl,rfl⟩:=aj e4;exact⟨rfl,rfl,w,by simp[Builtin.clear_,h0,underlying,h1],h⟩
 ·cases e
theorem zT {ts:List Nat} {ty:Nat} {d x:AV} {D X:Value} (h:Rel P w0 φ s w) (hd:d.den φ=some D) (hx:x.den φ=some X) (e:nW P ts d x s n=.ok v s' n' r l1):n'=n/\∃V w',v.den φ=some V/\(Builtin.copy_ ts.toArray ty #[D,X]).run P w=.ok V w'/\Rel P w0 φ s' w':=by
 unfold nW at e;obtain⟨t,s1,n1,r1,m1,r2,m2,e1,e2,rfl,rfl⟩:=ah e;obtain⟨rfl,rfl,h0⟩:=iO e1;obtain⟨el,s2,n2,r3,m3,r4,m4,e3,e4,rfl,rfl⟩:=ah e2;obtain⟨rfl,rfl,h1⟩:=eG e3;obtain⟨sz,s3,n3,r5,m5,r6,m6,e5,e6,rfl,rfl⟩:=ah e4;obtain⟨rfl,rfl,hsz⟩:=dI e5;obtain⟨dl,s4,n4,r7,m7,r8,m8,e7,e8,rfl,rfl⟩:=ah e6;obtain⟨rfl,rfl,hdl⟩:=qV (P:=P) (w:=w) hd e7;obtain⟨xl,s5,n5,r9,m9,dX,m10,e9,e10,rfl,rfl⟩:=ah e8;obtain⟨rfl,rfl,hxl⟩:=qV (P:=P) (w:=w) hx e9;have hmin:(cond (Nat.ble xl dl) xl dl)=Nat.min xl dl:=by
  cases hb:Nat.ble xl dl with
  | true=>exact(Nat.min_eq_left (Nat.le_of_ble_eq_true hb)).symm
  | false =>
   have:dl < xl:=Nat.lt_of_not_le λh=>by rw[Nat.ble_eq_true_of_le h] at hb;cases hb
   show dl=Nat.min xl dl;exact(Nat.min_eq_right (by omega)).symm
 rw[hmin] at e10;obtain⟨hstr,e25⟩:=bC (show cond (or (not (isStr x)) (Nat.beq (Nat.min xl dl) xl)) _ (M.no 38) _ _=_ from e10);obtain⟨new,s6,n6,ng,m11,ni,m12,e11,e12,rfl,rfl⟩:=ah e25;have hb0:∀b,x=.sc (.string b)->Nat.min xl dl=b.size:=by
  intro b hb;subst hb;have hxb:=vX e9 b rfl;simp only[isStr,Bool.not_true,Bool.false_or] at hstr;have:=Nat.eq_of_beq_eq_true hstr;omega
 obtain⟨rfl,rfl,NW,hN,hN1,jm⟩:=vB h hx e11 hb0;obtain⟨u,s7,n7,pJ,m13,pK,m14,e13,e14,rfl,rfl⟩:=ah e12;obtain⟨rfl,rfl,rfl⟩:=aj e14;have key:n'=n6/\∃w' a c,D=.slice a dl c/\(match a with | some a=>storeCells a NW | none=>pure ():Sem Unit).run P w=.ok () w'/\Rel P w0 φ s' w':=by
  unfold nV at e13
  split at e13
  ·rename_i i o k c
   obtain⟨b,y,hp,rfl⟩:=eO hd;obtain⟨q,s8,n8,pU,m15,r16,m16,e15,e16,rfl,rfl⟩:=ah e13;obtain⟨hg,rfl,rfl⟩:=gU e15;obtain⟨rfl,-,k1⟩:=oL hp h hg hN e16;obtain⟨w',k2,k3⟩:=k1 0 (Nat.zero_le _);obtain⟨h9,_,_⟩:=aj (show(pure k:M _) _ _=_ from e7);subst h9;exact⟨rfl,w',_,_,rfl,k2,k3⟩
  ·obtain⟨b,y,hp,rfl⟩:=oV hd
   split at e13
   ·obtain⟨-,rfl,rfl⟩:=aj e13
    simp only[ak] at hN;cases hN;obtain⟨h9,_,_⟩:=aj (show(pure 0:M _) _ _=_ from e7);subst h9;exact⟨rfl,w,_,_,rfl,by simp[storeCells],h⟩
   ·cases e13
  ·rename_i k c
   cases bF hd
   obtain⟨-,rfl,rfl⟩:=aj e13;obtain⟨h9,_,_⟩:=aj (show(pure k:M _) _ _=_ from e7);subst h9;exact⟨rfl,w,_,_,rfl,by simp,h⟩
  ·cases e13
 obtain⟨rfl,w',a,c,rfl,k2,k3⟩:=key;refine⟨rfl,goInt (Nat.min xl dl),w',rfl,?_,k3⟩;have hf:=jm w rfl;simp only[Builtin.copy_,h0,List.getElem?_toArray,List.getElem?_cons_zero,List.getElem?_cons_succ,Sem.run_bind,cZ h1,Result.andThen_ok,hxl,run_sizeOf hsz,hf];cases a with
 | none=>simp at k2;subst k2;simp
 | some a=>simp only at k2;simp[k2]
end
end Go.Proofs.YthimlcpingkndaaGreatDoor
