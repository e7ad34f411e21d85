/- The proof's texts, part 18. -/
import Derived.Test.YtfabngnaejjcmaaGreatDoorTh
import Derived.Laws.Strings
namespace Go.Proofs.YtfabngnaejjcmaaGreatDoor
open Go.RowKit
set_option linter.unusedVariables false
set_option linter.unusedSimpArgs false
/- 'append'. -/
section
variable {P : Program} {w0 : World} {φ : Ph} {s : Ob} {w : World} {n : Nat}
def I6 (P:Program) (o:Option Nat):Prop:=o=none\/∃t,o=some t/\((∃e,P.underlying t=some (.slice e))\/P.underlying t=some .string)
theorem abp {ts:List Nat} {b:Unit} {s s':Ob} {n n':Nat} {r l:Lg} (h:DU P ts s n=.ok b s' n' r l):s'=s/\n'=n/\I6 P ts[0]?:=by
 cases ts with
 | nil=>obtain⟨rfl,rfl,rfl⟩:=aF h;exact⟨rfl,rfl,.inl rfl⟩
 | cons t ts =>
  unfold DU at h;obtain⟨d,s1,n1,r1,l1,r2,l2,e1,e2,rfl,rfl⟩:=ak h;obtain⟨rfl,rfl,h1⟩:=iO e1;cases d <;> first | cases e2;done | (obtain⟨-,rfl,rfl⟩:=aF e2;exact⟨rfl,rfl,.inr ⟨t,rfl,by first | exact .inr h1 | exact .inl ⟨_,h1⟩⟩⟩)
/-- 'append' where there is room. -/
theorem TN {ts:Array Nat} {ty el m sz k c:Nat} {S X:Value} {a:Addr} {new:List Value} {w':World} {t:Nat} (h0:ts[0]?=some t) (ht:P.underlying t=some (.slice el)) (hsz:(P.info? el).map (·.size)=some sz)
  (hz:I6 P ts[1]?) (hm:(Builtin.lenOf X).run P w=.ok m w) (hf:(Builtin.firstCells sz m X).run P w=.ok new.toArray w)
  (hroom:k+m<=c) (hst:(storeCells (a.add (k * sz)) new).run P w=.ok () w') :
  (Builtin.append_ ts ty #[.slice (some a) k c,X]).run P w=.ok (.slice (some a) (k+m) c) w':=by
 have hs:=run_sizeOf (w:=w) hsz;simp only[Builtin.append_,h0,List.getElem?_toArray,List.getElem?_cons_zero,List.getElem?_cons_succ,Sem.run_bind,iZ ht,hs,Result.andThen_ok];rcases hz with hz | ⟨u,hz,⟨e,hz'⟩ | hz'⟩
 ·rw[hz];simp[hm,hroom,hf,hst]
 ·rw[hz];simp[hm,hroom,hf,hst,underlying,hz']
 ·rw[hz];simp[hm,hroom,hf,hst,underlying,hz']
/-- 'append' into a new block. -/
theorem TP {ts:Array Nat} {ty el m sz jU k c:Nat} {X:Value} {a:Option Addr} {old new:List Value} {t:Nat} {i:TypeInfo} {z:Value} (h0:ts[0]?=some t) (ht:P.underlying t=some (.slice el)) (hi:P.info? el=some i) (hsz:i.size=sz) (hby:i.bytes=jU) (hz0:i.zero=some z)
  (hz:I6 P ts[1]?) (hm:(Builtin.lenOf X).run P w=.ok m w) (hf:∀W:World,W.heap=w.heap->(Builtin.firstCells sz m X).run P W=.ok new.toArray W)
  (hfo:∀W:World,W.heap=w.heap->(Builtin.firstCells sz k (.slice a k c)).run P W=.ok old.toArray W)
  (hroom:c < k+m) (hfit:(k+m) * (jU+1)<=1000000000) :
  (Builtin.append_ ts ty #[.slice a k c,X]).run P w=.ok (.slice (some ⟨w.heap.size,0,none⟩) (k+m) (grownCap w (k+m) c el)) (w.drew.alloc (.cells (old.toArray ++ (new.toArray ++ Builtin.zeroCells z.cells (grownCap w (k+m) c el - (k+m)))) el)):=by
 have hs:=run_sizeOf (P:=P) (w:=w) (t:=el) (k:=sz) (by rw[hi];exact congrArg some hsz);have hle:(k+m) * jU<=(k+m) * (jU+1):=Nat.mul_le_mul_left _ (by omega);have hle2:(k+m) * 1<=(k+m) * (jU+1):=Nat.mul_le_mul_left _ (by omega);have hn:¬(k+m<=c):=by omega
 have h63':¬(9223372036854775807 < ((k:Int)+(m:Int))):=by omega
 have h48':¬(281474976710656 < Builtin.nextslicecap (k+m) c * i.bytes):=by
  have:=growslice_fits (old:=c) (need:=k+m) (bytes:=jU) (by omega) (by omega);rw[hby];omega
 have f1:=hf w.drew rfl;have f2:=hfo w.drew rfl;simp only[Builtin.append_,h0,List.getElem?_toArray,List.getElem?_cons_zero,List.getElem?_cons_succ,Sem.run_bind,iZ ht,hs,Result.andThen_ok];rcases hz with hz | ⟨u,hz,⟨e,hz'⟩ | hz'⟩
 ·rw[hz];simp[underlying,typeInfo,zeroValue,hi,hz0,hm,hn,h63',h48',Question.forced,f1,f2,newRow,grownCap]
 ·rw[hz];simp[underlying,hz',typeInfo,zeroValue,hi,hz0,hm,hn,h63',h48',Question.forced,f1,f2,newRow,grownCap]
 ·rw[hz];simp[underlying,hz',typeInfo,zeroValue,hi,hz0,hm,hn,h63',h48',Question.forced,f1,f2,newRow,grownCap]
theorem TQ {k b:Nat} (h:Ic k b=true):k * (b+1)<=1000000000:=by
 unfold Ic at h;have:=Nat.le_of_ble_eq_true h;simpa [Nat.succ_eq_add_one] using this
/-- A new block for what was there and what comes behind. -/
theorem Mr {s':Ob} {el sz k m c x:Nat} {i:TypeInfo} {z:Value} {lo ln:List AV} {old new:List Value} (h:Rel P w0 φ s w) (hn:φ n=none) (hi:P.info? el=some i) (hsz:i.size=sz) (hzl:z.cells.size=sz) (ho:aH φ lo=some old) (hnw:aH φ ln=some new) (hlo:lo.length=k * sz) (hln:ln.length=m * sz)
  (h1:∀v ∈ lo ++ ln,v.one=true) (hx:grownCap w (k+m) c el=k+m+x)
  (g1:∀j p,j≠n->s'.get j p=s.get j p) (g2:s'.get n 0=some (.row el sz (lo ++ ln).length true)) (g3:∀p,s'.get n (p+1)=if p < (lo ++ ln).length then ((lo ++ ln)[p]?).map O.c else none) :
  Rel P w0 (kH φ n w.heap.size x) s' (w.drew.alloc (.cells (old.toArray ++ (new.toArray ++ Builtin.zeroCells z.cells (grownCap w (k+m) c el - (k+m)))) el)):=by
 have hL:=wT ho hnw;refine IU (l:=lo ++ ln) (L:=old ++ new) (C:=old.toArray ++ (new.toArray ++ Builtin.zeroCells z.cells (grownCap w (k+m) c el - (k+m)))) (fz:=(0,0)) h hn ((h.base.drew).alloc h.base.size _) h.base.size (λj hj _=>IQ w.drew _ hj) h.IW (BK w.drew _) ?_ (λe=>by cases e) (λj _=>by simp) (by rw[hi];exact congrArg some hsz) hL (IV h1 hL) (λj V e=>?_) g1 g2 g3
 ·rw[Array.size_append,Array.size_append,size_zeroCells,hzl,hx,show k+m+x - (k+m)=x by omega]
  have:=nI hL;simp only[List.length_append] at this;simp only[List.size_toArray,List.length_append];omega
 ·have hlt:j < (old ++ new).length:=(gs1 e).1
  rw[← Array.append_assoc,Array.getElem?_append_left (by simpa using hlt)];rw[List.append_toArray,List.getElem?_toArray];exact e
end
/- What only looks, as the machine does it. -/
section
variable {P : Program} {w0 : World} {φ : Ph} {s s' : Ob} {w : World} {n n' : Nat} {r l1 : Lg} {v : AV}
theorem TR {t i o b x:Nat} (h:Rel P w0 φ s w) (hp:φ i=some (b,x)) (e:DL P t i o s n=.ok v s' n' r l1) :
  s'=s/\n'=n/\∃V,v.den φ=some V/\(loadVar t ⟨b,o,none⟩).run P w=.ok V w:=by
 unfold DL at e;obtain⟨a,s1,n1,r1,m1,r2,m2,e1,e2,rfl,rfl⟩:=ak e;obtain⟨hg,rfl,rfl⟩:=uV e1;obtain⟨b',x',C,fz,R⟩:=h.row _ _ _ _ _ hg;have hp':=R.ph;rw[hp] at hp';cases hp';obtain⟨g,s2,n2,r3,m3,r4,m4,e3,e4,rfl,rfl⟩:=ak e2;obtain⟨rfl,rfl,hagg⟩:=TG (w:=w) e3;cases g with
 | true =>
  obtain⟨k,s3,n3,r5,m5,r6,m6,e5,e6,rfl,rfl⟩:=ak (show(iA P t >>= _) _ _=_ from e4);obtain⟨rfl,rfl,hsz⟩:=kJ e5;obtain⟨l,s4,n4,r7,m7,r8,m8,e7,e8,rfl,rfl⟩:=ak e6;obtain⟨rfl,rfl,hl,hc⟩:=IG e7;obtain⟨rfl,rfl,rfl⟩:=aF e8;obtain⟨L,hL,_,h2⟩:=IJ R hc;have hk:=nI hL;refine⟨rfl,rfl,.agg L.toArray,by simp[AV.den,hL],?_⟩;have:=IK (P:=P) h2;rw[hk,hl] at this;simp[loadVar,hagg,run_sizeOf hsz,this]
 | false =>
  obtain⟨a2,s3,n3,r5,m5,r6,m6,e5,e6,rfl,rfl⟩:=ak (show(M.get i (Nat.succ o) >>= _) _ _=_ from e4);obtain⟨hg2,_,rfl,rfl⟩:=BJ e5;cases a2 with
  | c u =>
   obtain⟨rfl,rfl,rfl⟩:=aF e6;obtain⟨_,V,hV,_,hC⟩:=R.cell o _ hg2;exact⟨rfl,rfl,V,hV,by simp[loadVar,hagg,II (B:=0) R.heap hC]⟩
  | _=>cases e6
theorem abq {t:Nat} {x:AV} {X:Value} (h:Rel P w0 φ s w) (hx:x.den φ=some X) (e:yP P t x s n=.ok v s' n' r l1) :
  s'=s/\n'=n/\∃V,v.den φ=some V/\(Instr.loadAt t X).run P w=.ok V w:=by
 unfold yP at e;obtain⟨p,s1,n1,r1,m1,r2,m2,e1,e2,rfl,rfl⟩:=ak e;obtain⟨rfl,rfl,rfl⟩:=BO e1;obtain⟨b,y,hp,rfl⟩:=pK hx;obtain⟨q1,q2,V,hV,hr⟩:=TR h hp e2;exact⟨q1,q2,V,hV,by simp[Instr.loadAt,Instr.sureAddr,hr]⟩
theorem TS {t o:Nat} {l:List AV} {L:List Value} (hl:aH φ l=some L) (e:DN P t l o s n=.ok v s' n' r l1) :
  s'=s/\n'=n/\∃V,v.den φ=some V/\(part t L.toArray o).run P w=.ok V w:=by
 unfold DN at e;obtain⟨g,s1,n1,r1,m1,r2,m2,e1,e2,rfl,rfl⟩:=ak e;obtain⟨rfl,rfl,hagg⟩:=TG (w:=w) e1;cases g with
 | true =>
  obtain⟨k,s2,n2,r3,m3,r4,m4,e3,e4,rfl,rfl⟩:=ak (show(iA P t >>= _) _ _=_ from e2);obtain⟨rfl,rfl,hsz⟩:=kJ e3;obtain⟨rfl,rfl,rfl⟩:=aF e4;have hd:=Tt (Tq hl o) k;refine⟨rfl,rfl,.agg ((L.drop o).take k).toArray,by simp[AV.den,hd],?_⟩;simp[part,hagg,run_sizeOf hsz,List.extract_toArray,List.extract_eq_take_drop]
 | false =>
  obtain⟨h1,h2,h3⟩:=bW (show M.opt 17 _ _ _=_ from e2);have h4:l[o]?=some v:=by rw[← h1];simp
  obtain⟨V,hV,hL⟩:=EB hl o v h4;exact⟨h2,h3,V,hV,by simp[part,hagg,hL]⟩
theorem abr {t f:Nat} {x:AV} {X:Value} (hx:x.den φ=some X) (e:Ef P t f x s n=.ok v s' n' r l1) :
  s'=s/\n'=n/\∃V,v.den φ=some V/\(Instr.field t X f).run P w=.ok V w:=by
 cases x with
 | agg l =>
  obtain⟨L,hL,rfl⟩:=Me hx;obtain⟨fs,s1,n1,r1,m1,r2,m2,e1,e2,rfl,rfl⟩:=ak (show(yN P t >>= _) _ _=_ from e);obtain⟨rfl,rfl,h1⟩:=TF e1;obtain⟨fl,s2,n2,r3,m3,r4,m4,e3,e4,rfl,rfl⟩:=ak e2;obtain⟨h2,rfl,rfl⟩:=bW e3;obtain⟨q1,q2,V,hV,hr⟩:=TS (w:=w) hL e4;exact⟨q1,q2,V,hV,by simp[Instr.field,iZ h1,h2,asAgg,hr]⟩
 | _=>cases e
theorem abt {t f:Nat} {x:AV} {X:Value} (hx:x.den φ=some X) (e:Bo P t f x s n=.ok v s' n' r l1) :
  s'=s/\n'=n/\∃V,v.den φ=some V/\(Instr.fieldAt t X f).run P w=.ok V w:=by
 unfold Bo at e;obtain⟨fs,s1,n1,r1,m1,r2,m2,e1,e2,rfl,rfl⟩:=ak e;obtain⟨rfl,rfl,h1⟩:=TF e1;obtain⟨fl,s2,n2,r3,m3,r4,m4,e3,e4,rfl,rfl⟩:=ak e2;obtain⟨h2,rfl,rfl⟩:=bW e3;obtain⟨p,s3,n3,r5,m5,r6,m6,e5,e6,rfl,rfl⟩:=ak e4;obtain⟨rfl,rfl,rfl⟩:=BO e5;obtain⟨k,s4,n4,r7,m7,r8,m8,e7,e8,rfl,rfl⟩:=ak e6;obtain⟨rfl,rfl,hsz⟩:=kJ e7;obtain⟨b,y,hp,rfl⟩:=pK hx;cases hk:Nat.beq k 0 with
 | true=>rw[hk] at e8;cases e8
 | false =>
  rw[hk] at e8;obtain⟨rfl,rfl,rfl⟩:=aF (show(pure _:M AV) _ _=_ from e8);have k0:k≠0:=λh=>by subst h;cases hk
  exact⟨rfl,rfl,.pointer (some ⟨b,p.2+fl.offset,none⟩),by simp[AV.den,hp],by simp[Instr.fieldAt,iZ h1,h2,Instr.sureAddr,fieldPlace,run_sizeOf hsz,k0,Addr.qI]⟩
theorem EI {x:AV} {X:Value} {k:Nat} (hx:x.den φ=some X) (e:sJ x s n=.ok k s' n' r l1):s'=s/\n'=n/\∃kd,X=.int kd k:=by
 unfold sJ at e
 split at e
 ·obtain⟨rfl,rfl,rfl⟩:=aF e;cases fE hx;exact⟨rfl,rfl,_,rfl⟩
 ·cases e
theorem I7 {x:AV} {X:Value} {k:Int} (hx:x.den φ=some X) (e:uM x s n=.ok k s' n' r l1):s'=s/\n'=n/\∃kd,X=.int kd k:=by
 unfold uM at e
 split at e
 ·obtain⟨rfl,rfl,rfl⟩:=aF e;cases fE hx;exact⟨rfl,rfl,_,rfl⟩
 ·cases e
theorem mP {a b:Nat} (h:Nat.blt a b=true):a < b:=by simpa [Nat.blt_eq] using h
theorem abu {t:Nat} {x ix:AV} {X I:Value} (hx:x.den φ=some X) (hi:ix.den φ=some I) (e:Eh P t ix x s n=.ok v s' n' r l1) :
  s'=s/\n'=n/\∃V,v.den φ=some V/\(Instr.indexAt t X I).run P w=.ok V w:=by
 cases x with
 | sl i o m c =>
  obtain⟨b,y,hp,rfl⟩:=pO hx;obtain⟨el,s1,n1,r1,m1,r2,m2,e1,e2,rfl,rfl⟩:=ak (show(kU P t >>= _) _ _=_ from e);obtain⟨rfl,rfl,h1⟩:=pJ e1;obtain⟨k,s2,n2,r3,m3,r4,m4,e3,e4,rfl,rfl⟩:=ak e2;obtain⟨rfl,rfl,kd,rfl⟩:=EI hi e3;obtain⟨sz,s3,n3,r5,m5,r6,m6,e5,e6,rfl,rfl⟩:=ak e4;obtain⟨rfl,rfl,hsz⟩:=kJ e5;obtain⟨hb,e7⟩:=eG e6;have hlt:=mP hb;obtain⟨rfl,rfl,rfl⟩:=aF e7;refine⟨rfl,rfl,.pointer (some ⟨b,o+k * sz,none⟩),by simp[AV.den,hp],?_⟩;simp[Instr.indexAt,asIntOf,iZ h1,run_sizeOf hsz,hlt,Addr.qI,underlying,h1]
 | ptr i o =>
  obtain⟨b,y,hp,rfl⟩:=pK hx;obtain⟨k,s2,n2,r3,m3,r4,m4,e3,e4,rfl,rfl⟩:=ak (show(sJ ix >>= _) _ _=_ from e);obtain⟨rfl,rfl,kd,rfl⟩:=EI hi e3;obtain⟨d,s1,n1,r1,m1,r2,m2,e1,e2,rfl,rfl⟩:=ak e4;obtain⟨rfl,rfl,h1⟩:=iO e1;cases d with
  | array m el =>
   obtain⟨sz,s3,n3,r5,m5,r6,m6,e5,e6,rfl,rfl⟩:=ak e2;obtain⟨rfl,rfl,hsz⟩:=kJ e5;obtain⟨hb,e7⟩:=eG e6;have hlt:=mP hb;obtain⟨rfl,rfl,rfl⟩:=aF e7;refine⟨rfl,rfl,.pointer (some ⟨b,o+k * sz,none⟩),by simp[AV.den,hp],?_⟩;simp[Instr.indexAt,asIntOf,iZ h1,run_sizeOf hsz,hlt,Addr.qI,underlying,h1,Instr.sureAddr]
  | _=>cases e2
 | _=>cases e
theorem uX {S:Sem Value} (e:iY P S s n=.ok v s' n' r l1):s'=s/\n'=n/\∃V,v.den φ=some V/\S.run P w=.ok V w:=by
 obtain⟨h1,h2,h3⟩:=bW e;cases hp:pr P S with
 | none=>rw[hp] at h1;cases h1
 | some V=>rw[hp] at h1;exact⟨h2,h3,V,BM h1,yY hp⟩
theorem I8 {x:AV} {X V:Value} (hx:x.den φ=some X) (e:AU x s n=.ok V s' n' r l1):s'=s/\n'=n/\V=X:=by
 obtain⟨h1,h2,h3⟩:=bW e;have:=Md (φ:=φ) h1;rw[hx] at this;exact⟨h2,h3,(Option.some.inj this).symm⟩
theorem abv {t:Nat} {x ix:AV} {X I:Value} (hx:x.den φ=some X) (hi:ix.den φ=some I) (e:Bp P t ix x s n=.ok v s' n' r l1) :
  s'=s/\n'=n/\∃V,v.den φ=some V/\(Instr.index t X I).run P w=.ok V w:=by
 unfold Bp at e
 split at e
 ·rename_i l
  obtain⟨L,hL,rfl⟩:=Me hx;obtain⟨k,s2,n2,r3,m3,r4,m4,e3,e4,rfl,rfl⟩:=ak e;obtain⟨rfl,rfl,kd,rfl⟩:=EI hi e3;obtain⟨d,s1,n1,r1,m1,r2,m2,e1,e2,rfl,rfl⟩:=ak e4;obtain⟨rfl,rfl,h1⟩:=iO e1;cases d with
  | array m el =>
   obtain⟨sz,s3,n3,r5,m5,r6,m6,e5,e6,rfl,rfl⟩:=ak e2;obtain⟨rfl,rfl,hsz⟩:=kJ e5;obtain⟨hb,e7⟩:=eG e6;have hlt:=mP hb;obtain⟨q1,q2,V,hV,hr⟩:=TS (w:=w) hL e7;refine⟨q1,q2,V,hV,?_⟩;simp[Instr.index,asIntOf,iZ h1,run_sizeOf hsz,hlt];exact hr
  | _=>cases e2
 ·obtain⟨u,s1,n1,r1,m1,r2,m2,e1,e2,rfl,rfl⟩:=ak e
  obtain⟨rfl,rfl,rfl⟩:=I8 hx e1;obtain⟨u2,s2,n2,r3,m3,r4,m4,e3,e4,rfl,rfl⟩:=ak e2;obtain⟨rfl,rfl,rfl⟩:=I8 hi e3;exact uX e4
theorem abw {k:Nat} {x:AV} {X:Value} (hx:x.den φ=some X) (e:Es k x s n=.ok v s' n' r l1) :
  s'=s/\n'=n/\∃V,v.den φ=some V/\(Instr.extract X k).run P w=.ok V w:=by
 cases x with
 | fC l =>
  obtain⟨L,hL,rfl⟩:=TI hx;obtain⟨h1,h2,h3⟩:=bW (show M.opt 99 _ _ _=_ from e);obtain⟨V,hV,hk⟩:=EB hL k v h1;exact⟨h2,h3,V,hV,by simp[Instr.extract,hk]⟩
 | _=>cases e
end
/- aj7, cuts, maps that are looked up. -/
section
variable {P : Program} {w0 : World} {φ : Ph} {s s' : Ob} {w : World} {n n' : Nat} {r l1 : Lg} {v : AV}
theorem sU {t:Nat} {A B:Value} {q:Bool} {x y:Operand} {op:BinOp} (g:∀op,(eqGuard op t x y A B).run P w=.ok () w) (b1:binOp .eql t A B=(do pure (.bool (← Op.equal t A B)))) (b2:binOp .neq t A B=(do pure (.bool (!(← Op.equal t A B)))))
  (h:∀d,(Op.equalIn (d+1) t A B).run P w=.ok q w):(op=.eql->(do eqGuard op t x y A B;binOp op t A B:Sem Value).run P w=.ok (.bool q) w)/\(op=.neq->(do eqGuard op t x y A B;binOp op t A B:Sem Value).run P w=.ok (.bool (!q)) w):=by
 have h':(Op.equal t A B).run P w=.ok q w:=h 9999;refine⟨λe=>?_,λe=>?_⟩ <;> subst e
 ·simp only[Sem.run_bind,g,Result.andThen_ok,b1,h'];simp
 ·simp only[Sem.run_bind,g,Result.andThen_ok,b2,h'];simp
theorem abx {t:Nat} {d:TypeDesc} {a b:AV} {A B:Value} {q:Bool} {x y:Operand} {op:BinOp} (h:P.underlying t=some d) (ha:a.den φ=some A) (hb:b.den φ=some B) (e:Ig d a b=some q) :
  (op=.eql->(do eqGuard op t x y A B;binOp op t A B:Sem Value).run P w=.ok (.bool q) w)/\(op=.neq->(do eqGuard op t x y A B;binOp op t A B:Sem Value).run P w=.ok (.bool (!q)) w):=by
 unfold Ig at e;have TT:∀ {f:Fn} {u c:List AV} {V:Value},(AV.fn f u c).den φ=some V->∃U C,V=.func f U C:=by
  intro f u c V hV;simp only[AV.den] at hV
  split at hV <;> first | (cases hV;done) | (cases hV;exact⟨_,_,rfl⟩)
 split at e <;> first | (cases e;done) | skip
 all_goals (cases e)
 case h_1=>obtain⟨b,y,-,rfl⟩:=pK ha;cases fE hb;exact sU (λop=>by cases op <;> rfl) rfl rfl (λd=>by simp[Op.equalIn,underlying,h])
 case h_2=>obtain⟨b,y,-,rfl⟩:=pK hb;cases fE ha;exact sU (λop=>by cases op <;> rfl) rfl rfl (λd=>by simp[Op.equalIn,underlying,h])
 case h_3=>obtain⟨b,y,-,rfl⟩:=pO ha;cases fE hb;exact sU (λop=>by cases op <;> rfl) rfl rfl (λd=>by simp[Op.equalIn,underlying,h])
 case h_4=>obtain⟨b,y,-,rfl⟩:=pO hb;cases fE ha;exact sU (λop=>by cases op <;> rfl) rfl rfl (λd=>by simp[Op.equalIn,underlying,h])
 case h_5=>obtain⟨b,y,-,rfl⟩:=wV ha;cases fE hb;exact sU (λop=>by cases op <;> rfl) rfl rfl (λd=>by simp[Op.equalIn,underlying,h])
 case h_6=>obtain⟨b,y,-,rfl⟩:=wV hb;cases fE ha;exact sU (λop=>by cases op <;> rfl) rfl rfl (λd=>by simp[Op.equalIn,underlying,h])
 case h_7=>obtain⟨U,C,rfl⟩:=TT ha;cases fE hb;exact sU (λop=>by cases op <;> rfl) rfl rfl (λd=>by simp[Op.equalIn,underlying,h])
 case h_8=>obtain⟨U,C,rfl⟩:=TT hb;cases fE ha;exact sU (λop=>by cases op <;> rfl) rfl rfl (λd=>by simp[Op.equalIn,underlying,h])
 case h_9=>obtain⟨U,-,rfl⟩:=yZ ha;cases fE hb;exact sU (λop=>by cases op <;> rfl) rfl rfl (λd=>by simp[Op.equalIn,underlying,h])
 case h_10=>obtain⟨U,-,rfl⟩:=yZ hb;cases fE ha;exact sU (λop=>by cases op <;> rfl) rfl rfl (λd=>by simp[Op.equalIn,underlying,h])
theorem TU {t:Nat} {op:BinOp} {a b:AV} {A B:Value} {x y:Operand} (ha:a.den φ=some A) (hb:b.den φ=some B) (e:A9 P op t a b s n=.ok v s' n' r l1) :
  s'=s/\n'=n/\∃V,v.den φ=some V/\(do eqGuard op t x y A B;binOp op t A B:Sem Value).run P w=.ok V w:=by
 unfold A9 at e;obtain⟨d,s1,n1,r1,m1,r2,m2,e1,e2,rfl,rfl⟩:=ak e;obtain⟨rfl,rfl,h1⟩:=iO e1;cases hq:Ig d a b with
 | none=>rw[hq] at e2;cases e2
 | some q =>
  rw[hq] at e2;dsimp only at e2;obtain⟨k1,k2⟩:=abx (w:=w) (x:=x) (y:=y) (op:=op) h1 ha hb hq
  split at e2
  ·obtain⟨rfl,rfl,rfl⟩:=aF e2;exact⟨rfl,rfl,_,rfl,k1 rfl⟩
  ·obtain⟨rfl,rfl,rfl⟩:=aF e2;exact⟨rfl,rfl,_,rfl,by simpa using k2 rfl⟩
  ·cases e2
theorem za {a:AV} {A V:Value} (ha:a.den φ=some A) (h:a.sv=some V):V=A:=by
 have:=Md (φ:=φ) h;rw[ha] at this;exact(Option.some.inj this).symm
theorem aby {t:Nat} {op:BinOp} {a b:AV} {A B:Value} {x y:Operand} (ha:a.den φ=some A) (hb:b.den φ=some B) (e:uO P op t x y a b s n=.ok v s' n' r l1) :
  s'=s/\n'=n/\∃V,v.den φ=some V/\(do eqGuard op t x y A B;binOp op t A B:Sem Value).run P w=.ok V w:=by
 unfold uO at e;cases hu:a.sv with
 | none=>rw[hu] at e;exact TU ha hb e
 | some u =>
  rw[hu] at e;dsimp only at e;cases hv:b.sv with
  | none=>rw[hv] at e;exact TU ha hb e
  | some u2 =>
   rw[hv] at e;cases za ha hu
   cases za hb hv
   exact uX e
theorem TW:∀ {a b:List UInt8},Bb a b=(a == b)
 | [],[]=>rfl
 | [],_ :: _=>rfl
 | _ :: _,[]=>rfl
 | x :: a,y :: b=>by
  simp only[Bb,List.cons_beq_cons,TW (a:=a) (b:=b)]
  congr 1
  rw[Bool.eq_iff_iff]
  constructor
  ·intro h;simpa [UInt8.toNat_inj] using Nat.eq_of_beq_eq_true h
  ·intro h;have:x=y:=by simpa using h
   rw[this];exact Nat.beq_refl _
theorem abz {k k':IntKind} (h:Nat.beq (Ba k) (Ba k')=true):k'=k:=by cases k <;> cases k' <;> first | rfl | cases h
theorem abA {t:Nat} {op:BinOp} {a b:AV} {A B:Value} {x y:Operand} (ha:a.den φ=some A) (hb:b.den φ=some B) (e:Bc P op t x y a b s n=.ok v s' n' r l1) :
  s'=s/\n'=n/\∃V,v.den φ=some V/\(do eqGuard op t x y A B;binOp op t A B:Sem Value).run P w=.ok V w:=by
 have hz:uO P op t x y a b s n=.ok v s' n' r l1->_:=λe=>aby (w:=w) (x:=x) (y:=y) ha hb e;unfold Bc at e
 split at e
 ·rename_i u
  split at e
  ·rename_i u2
   cases fE ha
   cases fE hb
   unfold Il at e
   split at e
   ·rename_i k p
    split at e
    ·rename_i k' q
     cases hk:Nat.beq (Ba k) (Ba k') with
     | false=>rw[hk] at e;exact hz e
     | true =>
      rw[hk] at e;have:=abz hk;subst this;have g:∀op,(eqGuard op t x y (.int k' p) (.int k' q)).run P w=.ok () w:=λop=>by cases op <;> rfl
      have fin:∀ {S:Sem Value},binOp op t (.int k' p) (.int k' q)=S->iY P S s n=.ok v s' n' r l1->s'=s/\n'=n/\∃V,v.den φ=some V/\(do eqGuard op t x y (.int k' p) (.int k' q);binOp op t (.int k' p) (.int k' q):Sem Value).run P w=.ok V w:=λhS e2=>by
       obtain⟨q1,q2,V,hV,hr⟩:=uX (φ:=φ) (w:=w) e2;exact⟨q1,q2,V,hV,by rw[Sem.run_bind,g,Result.andThen_ok,hS];exact hr⟩
      have e2:Ik P op k' p q (uO P op t x y (.sc (.int k' p)) (.sc (.int k' q))) s n=.ok v s' n' r l1:=e;cases op
      case add=>exact fin (S:=Op.intArith .add k' p q) (by simp[binOp]) e2
      case sub=>exact fin (S:=Op.intArith .sub k' p q) (by simp[binOp]) e2
      case mul=>exact fin (S:=Op.intArith .mul k' p q) (by simp[binOp]) e2
      case quo=>exact fin (S:=Op.intDiv .quo k' p q) (by simp[binOp]) e2
      case rem=>exact fin (S:=Op.intDiv .rem k' p q) (by simp[binOp]) e2
      case eql=>exact fin (S:=Op.intCmp .eql p q) (by simp[binOp]) e2
      case neq=>exact fin (S:=Op.intCmp .neq p q) (by simp[binOp]) e2
      case lss=>exact fin (S:=Op.intCmp .lss p q) (by simp[binOp]) e2
      case leq=>exact fin (S:=Op.intCmp .leq p q) (by simp[binOp]) e2
      case gtr=>exact fin (S:=Op.intCmp .gtr p q) (by simp[binOp]) e2
      case geq=>exact fin (S:=Op.intCmp .geq p q) (by simp[binOp]) e2
      all_goals exact hz e2
    ·exact hz e
   ·rename_i p
    split at e
    ·rename_i q
     have g:∀op,(eqGuard op t x y (.string p) (.string q)).run P w=.ok () w:=λop=>by cases op <;> rfl
     have hb2:∀op,op≠.shl->op≠.shr->binOp op t (.string p) (.string q)=Op.stringOp op p q:=λop _ _=>by cases op <;> rfl
     have he:Bb p.data.toList q.data.toList=(p.toList == q.toList):=by rw[TW,ByteArray.toList_eq,ByteArray.toList_eq]
     have fin:binOp op t (.string p) (.string q)=Op.stringOp op p q->iY P (Op.stringOp op p q) s n=.ok v s' n' r l1->s'=s/\n'=n/\∃V,v.den φ=some V/\(do eqGuard op t x y (.string p) (.string q);binOp op t (.string p) (.string q):Sem Value).run P w=.ok V w:=λhS e2=>by
      obtain⟨q1,q2,V,hV,hr⟩:=uX (φ:=φ) (w:=w) e2;exact⟨q1,q2,V,hV,by rw[Sem.run_bind,g,Result.andThen_ok,hS];exact hr⟩
     cases op
     case eql =>
      obtain⟨rfl,rfl,rfl⟩:=aF (show(pure _:M _) _ _=_ from e);exact⟨rfl,rfl,_,rfl,by rw[Sem.run_bind,g,Result.andThen_ok,show binOp .eql t (.string p) (.string q)=Op.stringOp .eql p q from rfl,he];simp[Op.stringOp]⟩
     case neq =>
      obtain⟨rfl,rfl,rfl⟩:=aF (show(pure _:M _) _ _=_ from e);exact⟨rfl,rfl,_,rfl,by rw[Sem.run_bind,g,Result.andThen_ok,show binOp .neq t (.string p) (.string q)=Op.stringOp .neq p q from rfl,he];simp[Op.stringOp]⟩
     all_goals exact fin rfl e
    ·exact hz e
   ·exact hz e
  ·exact hz e
 ·exact hz e
theorem abB {op:UnOp} {a:AV} {A:Value} (ha:a.den φ=some A) (e:Bd P op a s n=.ok v s' n' r l1) :
  s'=s/\n'=n/\∃V,v.den φ=some V/\(Op.unary op A).run P w=.ok V w:=by
 unfold Bd at e;obtain⟨u,s1,n1,r1,m1,r2,m2,e1,e2,rfl,rfl⟩:=ak e;obtain⟨rfl,rfl,rfl⟩:=I8 ha e1;exact uX e2
theorem abC {t:Nat} {a:AV} {A:Value} (ha:a.den φ=some A) (e:Bg P t a s n=.ok v s' n' r l1) :
  s'=s/\n'=n/\∃V,v.den φ=some V/\(Instr.makeInterface t A).run P w=.ok V w:=by
 unfold Bg at e;obtain⟨d,s1,n1,r1,m1,r2,m2,e1,e2,rfl,rfl⟩:=ak e;obtain⟨rfl,rfl,h1⟩:=iO e1;cases d <;> first | (cases e2;done) | (obtain⟨rfl,rfl,rfl⟩:=aF e2;exact⟨rfl,rfl,.iface t A,by simp[AV.den,ha],by simp[Instr.makeInterface,underlying,h1]⟩)
theorem abD {t:Nat} (hb:qY P t=false):∀e,P.underlying t≠some (.pointer e):=λe h=>by simp[qY,h] at hb
theorem abE {ρ:Operand->Value} {x:Operand} {o:Oper} (ho:o.op=.nilCheck x) {a:AV} {A:Value} (hA:ρ x=A) (ha:a.den φ=some A) (e:Ec P a s n=.ok v s' n' r l1) :
  s'=s/\n'=n/\v.den φ=some A/\(execOp ρ o).run P w=.ok (.value A) w:=by
 obtain⟨d,op,ty,ps,af,gd⟩:=o;subst ho;cases a with
 | ptr i q =>
  obtain⟨rfl,rfl,rfl⟩:=aF (show(pure _:M AV) _ _=_ from e);obtain⟨b,y,-,rfl⟩:=pK ha;exact⟨rfl,rfl,ha,by simp[execOp,hA]⟩
 | kE t u =>
  obtain⟨rfl,rfl,rfl⟩:=aF (show(pure _:M AV) _ _=_ from e);obtain⟨U,-,rfl⟩:=yZ ha;exact⟨rfl,rfl,ha,by simp[execOp,hA]⟩
 | fn f l c =>
  have hV:∃U C,A=.func f U C/\aH φ l=some U.toList:=by
   have ha':=ha;simp only[AV.den] at ha';cases h1:aH φ l with
   | none=>rw[h1] at ha';cases ha'
   | some U =>
    cases h2:aH φ c with
    | none=>rw[h1,h2] at ha';cases ha'
    | some C=>rw[h1,h2] at ha';cases ha';exact⟨_,_,rfl,by simp⟩
  obtain⟨U,C,rfl,hU⟩:=hV;cases f with
  | func f =>
   obtain⟨rfl,rfl,rfl⟩:=aF (show(pure _:M AV) _ _=_ from e);exact⟨rfl,rfl,ha,by simp[execOp,hA]⟩
  | method name =>
   match l,hU,ha,e with
   | [.kE t u],hU,ha,e =>
    obtain⟨X,L',hX,hL,hUU⟩:=jk hU;obtain⟨V,hV,rfl⟩:=yZ hX;simp only[aH] at hL;cases hL;obtain⟨i,s1,n1,r1,m1,r2,m2,e1,e2,rfl,rfl⟩:=ak (show(M.opt 102 (P.info? t) >>= _) _ _=_ from e);obtain⟨h1,rfl,rfl⟩:=bW e1;obtain⟨m,s2,n2,r3,m3,r4,m4,e3,e4,rfl,rfl⟩:=ak e2;obtain⟨h2,rfl,rfl⟩:=bW e3;obtain⟨d,s3,n3,r5,m5,r6,m6,e5,e6,rfl,rfl⟩:=ak e4;obtain⟨rfl,rfl,hu⟩:=iO e5;clear e4;cases hf:m.func with
    | none=>rw[hf] at e6;cases e6
    | some fb =>
    obtain⟨f,b⟩:=fb;cases hp:m.path.toList with
    | cons x l=>rw[hf,hp] at e6;cases e6
    | nil =>
    rw[hf,hp] at e6;obtain⟨hb,e7⟩:=eG e6;obtain⟨rfl,rfl,rfl⟩:=aF e7;refine⟨rfl,rfl,ha,?_⟩;have hU0:U[0]?=some (.iface t V):=by rw[← Array.getElem?_toList,hUU];rfl
    have hna:∀k,(nilAhead (k+1) t V name).run P w=.ok (some false) w:=by
     intro k;rw[nilAhead];simp only[Sem.run_bind,typeInfo,run_program,Result.andThen_ok,h1,Sem.run_pure,h2,hp,followBlind,hf];cases b with
     | true=>simp
     | false =>
      have hpt:=hb;simp only[Bool.false_or,Bool.or_eq_true,Bool.not_eq_true'] at hpt;cases d <;> simp[underlying,hu]
      rename_i el;rcases hpt with hpt | hpt
      ·exact absurd hu (abD hpt el)
      ·cases u <;> first | (cases hpt;done) | skip
       obtain⟨b',y,-,rfl⟩:=pK hV;simp
    have hk:P.types.size+Made.depth=(P.types.size+Made.depth - 1)+1:=by simp[Made.depth]
    simp only[execOp,hA,hU0,Sem.run_bind,run_program,Result.andThen_ok];rw[hk,hna];simp
   | [],_,_,e=>cases e
   | .sc _ :: _,_,_,e=>cases e
   | .ptr _ _ :: _,_,_,e=>cases e
   | .sl _ _ _ _ :: _,_,_,e=>cases e
   | .mp _ :: _,_,_,e=>cases e
   | .fn _ _ _ :: _,_,_,e=>cases e
   | .agg _ :: _,_,_,e=>cases e
   | .fC _ :: _,_,_,e=>cases e
   | .wG _ :: _,_,_,e=>cases e
   | .emp _ _ _ :: _,_,_,e=>cases e
   | .bad :: _,_,_,e=>cases e
   | .kE _ _ :: _ :: _,_,_,e=>cases e
  | _=>cases e
 | _=>cases e
/-- A bound. -/
theorem Ms {a:Int} {m k:Nat} (e:DT a m s n=.ok k s' n' r l1):s'=s/\n'=n/\a=k/\k<=m:=by
 cases a with
 | ofNat j =>
  obtain⟨hb,e1⟩:=eG e;obtain⟨rfl,rfl,rfl⟩:=aF e1;exact⟨rfl,rfl,rfl,Nat.le_of_ble_eq_true hb⟩
 | negSucc j=>cases e
theorem uY {d m k:Nat} {x:Option AV} {X:Option Value} (hx:∀y,x=some y->∃Y,X=some Y/\y.den φ=some Y) (hn:x=none->X=none) (e:bnd d m x s n=.ok k s' n' r l1) :
  s'=s/\n'=n/\((X=none/\k=d)\/∃kd,X=some (.int kd k)/\k<=m):=by
 cases x with
 | none=>obtain⟨rfl,rfl,rfl⟩:=aF e;exact⟨rfl,rfl,.inl ⟨hn rfl,rfl⟩⟩
 | some y =>
  obtain⟨Y,hX,hY⟩:=hx y rfl;obtain⟨u,s1,n1,r1,m1,r2,m2,e1,e2,rfl,rfl⟩:=ak (show(uM y >>= _) _ _=_ from e);obtain⟨rfl,rfl,kd,rfl⟩:=I7 hY e1;obtain⟨rfl,rfl,rfl,hk⟩:=Ms e2;exact⟨rfl,rfl,.inr ⟨kd,hX,hk⟩⟩
theorem I9 {b:Bool} {len cap l h:Nat} {Lo Hi:Option Value} (hh:(Hi=none/\h=len)\/∃kd,Hi=some (.int kd h)/\h<=cap) (hl:(Lo=none/\l=0)\/∃kd,Lo=some (.int kd l)/\l<=h) :
  (Instr.sliceBounds b len cap Lo Hi none).run P w=.ok (l,h,cap) w:=by
 rcases hh with⟨rfl,rfl⟩ | ⟨kd,rfl,h1⟩ <;> rcases hl with⟨rfl,rfl⟩ | ⟨kl,rfl,h2⟩ <;> simp[Instr.sliceBounds,Instr.sliceBound,asIntOf, *]
theorem abH {t:Nat} {lo hi:Option AV} {Lo Hi:Option Value} {x:AV} {X:Value} (hlo:∀y,lo=some y->∃Y,Lo=some Y/\y.den φ=some Y) (hln:lo=none->Lo=none) (hhi:∀y,hi=some y->∃Y,Hi=some Y/\y.den φ=some Y) (hhn:hi=none->Hi=none)
  (h:Rel P w0 φ s w) (hx:x.den φ=some X) (e:Bl P t lo hi x s n=.ok v s' n' r l1):s'=s/\n'=n/\∃V,v.den φ=some V/\(Instr.sliceAt t X Lo Hi none).run P w=.ok V w:=by
 unfold Bl at e
 split at e
 ·rename_i i o k c
  obtain⟨b,y,hp,rfl⟩:=pO hx;obtain⟨el,s1,n1,r1,m1,r2,m2,e1,e2,rfl,rfl⟩:=ak e;obtain⟨rfl,rfl,h1⟩:=pJ e1;obtain⟨sz,s2,n2,r3,m3,r4,m4,e3,e4,rfl,rfl⟩:=ak e2;obtain⟨rfl,rfl,hsz⟩:=kJ e3;obtain⟨hh,s3,n3,r5,m5,r6,m6,e5,e6,rfl,rfl⟩:=ak e4;obtain⟨rfl,rfl,k1⟩:=uY hhi hhn e5;obtain⟨ll,s4,n4,r7,m7,r8,m8,e7,e8,rfl,rfl⟩:=ak e6;obtain⟨rfl,rfl,k2⟩:=uY hlo hln e7;have hr:∀ {cp:Nat},c<=cp->(Instr.sliceBounds true k cp Lo Hi none).run P w=.ok (ll,hh,cp) w:=λhcp=>I9 (k1.imp id λ⟨kd,q1,q2⟩=>⟨kd,q1,by omega⟩) k2;have hr1:=hr (cp:=c+y) (by omega);cases hb:or (Nat.blt ll c) (Nat.beq ll 0) with
  | true =>
   rw[hb] at e8;obtain⟨rfl,rfl,rfl⟩:=aF (show(pure _:M AV) _ _=_ from e8);refine⟨rfl,rfl,.slice (some ⟨b,o+ll * sz,none⟩) (hh - ll) (c - ll+y),by simp[AV.den,hp],?_⟩;simp only[Bool.or_eq_true] at hb;rcases hb with hb | hb
   ·have hlt:=mP hb
    simp[Instr.sliceAt,underlying,h1,Instr.slice,hr1,run_sizeOf hsz,show ¬c+y=ll by omega,Addr.qI,show c+y - ll=c - ll+y by omega]
   ·cases Nat.eq_of_beq_eq_true hb
    simp[Instr.sliceAt,underlying,h1,Instr.slice,hr1,run_sizeOf hsz,Addr.qI]
  | false =>
   rw[hb] at e8;obtain⟨hb2,e9⟩:=eG (show cd _ _ (M.no 71) _ _=_ from e8);obtain⟨rfl,rfl,rfl⟩:=aF e9;simp only[Bool.and_eq_true] at hb2;cases Nat.eq_of_beq_eq_true hb2.1
   cases Nat.eq_of_beq_eq_true hb2.2
   refine⟨rfl,rfl,.slice (some ⟨b,if y=0 then o else o+c * sz,none⟩) 0 y,by simp[AV.den,hp],?_⟩
   by_cases y0:y=0
   ·subst y0;simp only[Nat.add_zero] at hr1;simp[Instr.sliceAt,underlying,h1,Instr.slice,hr1,run_sizeOf hsz]
   ·simp[Instr.sliceAt,underlying,h1,Instr.slice,hr1,run_sizeOf hsz,y0,Addr.qI]
 ·rename_i k c
  cases fE hx
  obtain⟨el,s1,n1,r1,m1,r2,m2,e1,e2,rfl,rfl⟩:=ak e;obtain⟨rfl,rfl,h1⟩:=pJ e1;obtain⟨sz,s2,n2,r3,m3,r4,m4,e3,e4,rfl,rfl⟩:=ak e2;obtain⟨rfl,rfl,hsz⟩:=kJ e3;obtain⟨hh,s3,n3,r5,m5,r6,m6,e5,e6,rfl,rfl⟩:=ak e4;obtain⟨rfl,rfl,k1⟩:=uY hhi hhn e5;obtain⟨ll,s4,n4,r7,m7,r8,m8,e7,e8,rfl,rfl⟩:=ak e6;obtain⟨rfl,rfl,k2⟩:=uY hlo hln e7;obtain⟨rfl,rfl,rfl⟩:=aF e8;have hr:=I9 (P:=P) (w:=w) (b:=true) (cap:=c) k1 k2;refine⟨rfl,rfl,.slice none (hh - ll) (c - ll),rfl,?_⟩;simp[Instr.sliceAt,underlying,h1,Instr.slice,hr,run_sizeOf hsz]
 ·rename_i b
  cases fE hx
  obtain⟨d,s1,n1,r1,m1,r2,m2,e1,e2,rfl,rfl⟩:=ak e;obtain⟨rfl,rfl,h1⟩:=iO e1;cases d <;> first | (cases e2;done) | skip
  obtain⟨hh,s3,n3,r5,m5,r6,m6,e5,e6,rfl,rfl⟩:=ak e2;obtain⟨rfl,rfl,k1⟩:=uY hhi hhn e5;obtain⟨ll,s4,n4,r7,m7,r8,m8,e7,e8,rfl,rfl⟩:=ak e6;obtain⟨rfl,rfl,k2⟩:=uY hlo hln e7;obtain⟨rfl,rfl,rfl⟩:=aF e8;have hr:=I9 (P:=P) (w:=w) (b:=false) (cap:=b.size) k1 k2;exact⟨rfl,rfl,.string (b.extract ll hh),rfl,by simp[Instr.sliceAt,underlying,h1,Instr.slice,hr]⟩
 ·rename_i i o
  obtain⟨b,y,hp,rfl⟩:=pK hx;obtain⟨d,s1,n1,r1,m1,r2,m2,e1,e2,rfl,rfl⟩:=ak e;obtain⟨rfl,rfl,h1⟩:=iO e1;cases d <;> first | (cases e2;done) | skip
  rename_i k el;obtain⟨sz,s2,n2,r3,m3,r4,m4,e3,e4,rfl,rfl⟩:=ak e2;obtain⟨rfl,rfl,hsz⟩:=kJ e3;obtain⟨hh,s3,n3,r5,m5,r6,m6,e5,e6,rfl,rfl⟩:=ak e4;obtain⟨rfl,rfl,k1⟩:=uY hhi hhn e5;obtain⟨ll,s4,n4,r7,m7,r8,m8,e7,e8,rfl,rfl⟩:=ak e6;obtain⟨rfl,rfl,k2⟩:=uY hlo hln e7;obtain⟨q,s5,n5,r9,m9,lg,m10,e9,e10,rfl,rfl⟩:=ak e8;obtain⟨hg,rfl,rfl⟩:=uV e9;obtain⟨b',x',C,fz,R⟩:=h.row _ _ _ _ _ hg;have hp':=R.ph;rw[hp] at hp';cases hp';obtain⟨hq,e11⟩:=eG e10;obtain⟨rfl,rfl,rfl⟩:=aF e11;simp only[Bool.and_eq_true,Bool.not_eq_true'] at hq;have y0:=R.shut hq.1;have hlt:=mP hq.2;subst y0
  have hr:=I9 (P:=P) (w:=w) (b:=false) (cap:=k) k1 k2;refine⟨rfl,rfl,.slice (some ⟨b,o+ll * sz,none⟩) (hh - ll) (k - ll),by simp[AV.den,hp],?_⟩;simp[Instr.sliceAt,underlying,h1,Instr.sureAddr,hr,run_sizeOf hsz,show ¬k=ll by omega,Addr.qI]
 ·cases e
end
/- Maps. -/
section
variable {P : Program} {w0 : World} {φ : Ph} {s s' : Ob} {w : World} {n n' : Nat} {r l1 : Lg} {v : AV}
theorem sV {b c:Nat} {ES:Array MapEntry} (h:w.heap[b]?=some (.map ES c)):(getObj b).run P w=.ok (.map ES c) w:=by simp[getObj,Sem.run,h]
theorem abI {b c:Nat} {ES:Array MapEntry} {o:Obj} (h:w.heap[b]?=some (.map ES c)):(setObj b o).run P w=.ok () { w with heap:=w.heap.setIfInBounds b o }:=by simp[setObj,Sem.run,h]
theorem abJ {t m:Nat} {d:TypeDesc} {V:Value} {b:Bool} (h:P.underlying t=some d) (hd:LC d=true):(Instr.checkKey b (m+1) t V).run P w=.ok () w:=by
 cases d <;> first | (cases hd;done) | simp[Instr.checkKey,underlying,h]
theorem abK {d:TypeDesc} {a b:AV} {A B:Value} {q:Bool} (ha:a.den φ=some A) (hb:b.den φ=some B) (e:AO d a b s n=.ok q s' n' r l1):s'=s/\n'=n/\Instr.sameNow d A B=some q:=by
 unfold AO at e;cases hx:a.sv with
 | none=>rw[hx] at e;cases e
 | some x =>
  cases hy:b.sv with
  | none=>rw[hx,hy] at e;cases e
  | some y =>
   rw[hx,hy] at e;cases za ha hx
   cases za hb hy
   obtain⟨h1,h2,h3⟩:=bW e;exact⟨h2,h3,h1⟩
theorem abL {d:TypeDesc} {A B:Value} {m:Nat} (h:Instr.sameNow d A B=some true):Instr.sameBits m B A=true:=by
 unfold Instr.sameNow at h
 split at h
 ·split at h
  ·rename_i hk;subst hk;simp only[Option.some.injEq,beq_iff_eq] at h;subst h;cases m <;> simp[Instr.sameBits]
  ·cases h
 ·rename_i a b
  have e:a=b:=ByteArray.ext (eq_of_beq (show(a.data == b.data)=true from Option.some.inj h));subst e;have e2:(a == a)=true:=Option.some.inj h;cases m <;> simp[Instr.sameBits,e2]
 ·simp only[Option.some.injEq,beq_iff_eq] at h;subst h;cases m <;> simp[Instr.sameBits]
 ·cases h
/-- What was found. -/
def Mt (φ:Ph) (K:Value) (ES:List MapEntry) (i:Nat) (x:Option (Nat × AV)) (X:Option (Nat × Value)):Prop :=
 (x=none/\X=none)\/∃j v V e,x=some (i+j,v)/\X=some (i+j,V)/\v.den φ=some V/\ES[j]?=some e/\Instr.sameBits 10000 e.key K=true
theorem abM {d:TypeDesc} {k:AV} {K:Value} (hk:k.den φ=some K):∀ {es:List (AV × AV × Nat)} {ES:List MapEntry} {i:Nat} {x:Option (Nat × AV)} {s s':Ob} {n n':Nat} {r l1:Lg},dU φ es=some ES->DX d k es i s n=.ok x s' n' r l1 ->
  s'=s/\n'=n/\∃X,Instr.findNow d K ES i=some X/\Mt φ K ES i x X:=by
 intro es
 induction es with
 | nil =>
  intro ES i x s s' n n' r l1 h e;obtain⟨rfl,rfl,rfl⟩:=aF e;simp only[dU] at h;cases h;exact⟨rfl,rfl,none,rfl,.inl ⟨rfl,rfl⟩⟩
 | cons y es ih =>
  intro ES i x s s' n n' r l1 h e;obtain⟨k',v,b⟩:=y;obtain⟨K',V,L',hk',hv,hl,rfl⟩:=sO h;obtain⟨q,s1,n1,r1,m1,r2,m2,e1,e2,rfl,rfl⟩:=ak (show(AO d k k' >>= _) _ _=_ from e);obtain⟨rfl,rfl,hq⟩:=abK hk hk' e1;cases q with
  | true =>
   obtain⟨rfl,rfl,rfl⟩:=aF (show(pure _:M _) _ _=_ from e2);exact⟨rfl,rfl,some (i,V),by simp[Instr.findNow,hq],.inr ⟨0,v,V,_,rfl,rfl,hv,rfl,abL hq⟩⟩
  | false =>
   obtain⟨q1,q2,X,q3,q4⟩:=ih hl e2;refine⟨q1,q2,X,by simp[Instr.findNow,hq];exact q3,?_⟩;rcases q4 with q4 | ⟨j,v,V,e,h1,h2,h3,h4,h5⟩
   ·exact .inl q4
   ·exact .inr ⟨j+1,v,V,e,by rw[h1];simp;omega,by rw[h2];simp;omega,h3,by simpa using h4,h5⟩
theorem abN {t:Nat} {K:Value}:∀ {es:List (AV × AV × Nat)} {ES:List MapEntry} {i:Nat} {x:Option (Nat × AV)} {s s':Ob} {n n':Nat} {r l1:Lg},dU φ es=some ES->Ie P t K es i s n=.ok x s' n' r l1 ->
  s'=s/\n'=n/\∃X,(Instr.findAsking t K ES i).run P w=.ok X w/\Mt φ K ES i x X:=by
 intro es
 induction es with
 | nil =>
  intro ES i x s s' n n' r l1 h e;obtain⟨rfl,rfl,rfl⟩:=aF e;simp only[dU] at h;cases h;exact⟨rfl,rfl,none,by simp[Instr.findAsking],.inl ⟨rfl,rfl⟩⟩
 | cons y es ih =>
  intro ES i x s s' n n' r l1 h e;obtain⟨k',v,b⟩:=y;obtain⟨K',V,L',hk',hv,hl,rfl⟩:=sO h;obtain⟨u,s1,n1,r1,m1,r2,m2,e1,e2,rfl,rfl⟩:=ak (show(M.opt 47 k'.sv >>= _) _ _=_ from e);obtain⟨hu,rfl,rfl⟩:=bW e1;cases za hk' hu
  obtain⟨q,s2,n2,r3,m3,r4,m4,e3,e4,rfl,rfl⟩:=ak e2;obtain⟨hq,rfl,rfl⟩:=bW e3;have hq':=yY (w:=w) hq;cases q with
  | true =>
   obtain⟨hb,e5⟩:=eG (show cd (Instr.sameBits 10000 K' K) _ (M.no 33) _ _=_ from e4);obtain⟨rfl,rfl,rfl⟩:=aF e5;exact⟨rfl,rfl,some (i,V),by simp[Instr.findAsking,hq'],.inr ⟨0,v,V,_,rfl,rfl,hv,rfl,hb⟩⟩
  | false =>
   obtain⟨q1,q2,X,q3,q4⟩:=ih hl e4;refine⟨q1,q2,X,by simp[Instr.findAsking,hq'];exact q3,?_⟩;rcases q4 with q4 | ⟨j,v,V,e,h1,h2,h3,h4,h5⟩
   ·exact .inl q4
   ·exact .inr ⟨j+1,v,V,e,by rw[h1];simp;omega,by rw[h2];simp;omega,h3,by simpa using h4,h5⟩
theorem abO {d:TypeDesc} (h:LD d=true) {K:Value}:∀ {ES:List MapEntry},Instr.findNow d K ES 0=none\/ES=[]:=by
 intro ES;cases ES with
 | nil=>exact .inr rfl
 | cons e l=>refine .inl ?_;cases d <;> first | (cases h;done) | simp[Instr.findNow,Instr.sameNow]
theorem Mv {b:Bool} {t:Nat} {k:AV} {K:Value} {es:List (AV × AV × Nat)} {ES:List MapEntry} {x:Option (Nat × AV)} (hk:k.den φ=some K) (hE:dU φ es=some ES) (e:AQ P b t k es s n=.ok x s' n' r l1) :
  s'=s/\n'=n/\∃X,(Instr.checkKey b 10000 t K).run P w=.ok () w/\(Instr.findKey t K ES).run P w=.ok X w/\Mt φ K ES 0 x X:=by
 unfold AQ at e;obtain⟨d,s1,n1,r1,m1,r2,m2,e1,e2,rfl,rfl⟩:=ak e;obtain⟨rfl,rfl,hd⟩:=iO e1;cases hs:LC d with
 | true =>
  rw[hs] at e2;obtain⟨rfl,rfl,X,h1,h2⟩:=abM hk hE (show DX d k es 0 _ _=_ from e2);exact⟨rfl,rfl,X,abJ (m:=9999) hd hs,by simp[Instr.findKey,underlying,hd,h1],h2⟩
 | false =>
  rw[hs] at e2;obtain⟨ha,e3⟩:=eG (show cd (LD d) _ (M.no 140) _ _=_ from e2);obtain⟨u,s2,n2,r3,m3,r4,m4,e4,e5,rfl,rfl⟩:=ak e3;obtain⟨hu,rfl,rfl⟩:=bW e4;cases za hk hu
  obtain⟨z,s3,n3,r5,m5,r6,m6,e6,e7,rfl,rfl⟩:=ak e5;obtain⟨hz,rfl,rfl⟩:=bW e6;obtain⟨rfl,rfl,X,h1,h2⟩:=abN (w:=w) hE e7;refine⟨rfl,rfl,X,yY hz,?_,h2⟩;rcases abO ha (K:=K) (ES:=ES) with h3 | rfl
  ·simp[Instr.findKey,underlying,hd,h3,h1]
  ·have:X=none:=by simp[Instr.findAsking] at h1;exact h1.symm
   subst this;simp[Instr.findKey,underlying,hd,Instr.findNow]
theorem TY {es:List (AV × AV × Nat)} {ES:Array MapEntry} (h:dU φ es=some ES.toList):ES.isEmpty=es.isEmpty:=by
 cases es with
 | nil=>simp only[dU,Option.some.injEq] at h;simp[Array.isEmpty,Array.size,← h]
 | cons e l=>obtain⟨K,V,L,_,_,_,h4⟩:=sO h;simp[Array.isEmpty,Array.size,h4]
theorem Mw {t:Nat} (e:zeroV P t s n=.ok v s' n' r l1):s'=s/\n'=n/\∃V,v.den φ=some V/\(zeroValue t).run P w=.ok V w:=by
 obtain⟨h1,h2,h3⟩:=bW e;cases hi:P.info? t with
 | none=>rw[hi] at h1;cases h1
 | some i =>
  rw[hi] at h1;cases hz:i.zero with
  | none=>simp[hz] at h1
  | some z =>
   simp only[Option.bind_some,hz] at h1;exact⟨h2,h3,z,BM h1,by simp[zeroValue,typeInfo,hi,hz]⟩
theorem EJ {ok b:Bool} {V:Value} (h:v.den φ=some V):(yQ ok v b).den φ=some (if ok then .tuple #[V,.bool b] else V):=by
 cases ok
 ·exact h
 ·simp[yQ,AV.den,aH,h]
theorem abP {x:AV} {X:Value} {es:List (AV × AV × Nat)} (h:Rel P w0 φ s w) (hx:x.den φ=some X) (e:Ei x s n=.ok es s' n' r l1) :
  s'=s/\n'=n/\∃ES:Array MapEntry,dU φ es=some ES.toList/\(X=.map none/\ES = #[]\/∃b c,X=.map (some b)/\w.heap[b]?=some (.map ES c)):=by
 unfold Ei at e
 split at e
 ·obtain⟨q,s1,n1,r1,m1,r2,m2,e1,e2,rfl,rfl⟩:=ak e
  obtain⟨hg,rfl,rfl⟩:=yX e1;obtain⟨rfl,rfl,rfl⟩:=aF e2;obtain⟨b,y,hp,rfl⟩:=wV hx;obtain⟨b',y',ES,h1,h2,h3,h4⟩:=h.map _ _ _ hg;rw[hp] at h1;cases h1;exact⟨rfl,rfl,ES,h4,.inr ⟨b,_,rfl,h3⟩⟩
 ·obtain⟨rfl,rfl,rfl⟩:=aF e
  cases fE hx
  exact⟨rfl,rfl,#[],rfl,.inl ⟨rfl,rfl⟩⟩
 ·cases e
theorem abQ {t:Nat} {k x:AV} {K X:Value} {ok:Bool} (h:Rel P w0 φ s w) (hk:k.den φ=some K) (hx:x.den φ=some X) (e:Bq P t k ok x s n=.ok v s' n' r l1) :
  s'=s/\n'=n/\∃V,v.den φ=some V/\(Instr.lookup t X K ok).run P w=.ok V w:=by
 unfold Bq at e;obtain⟨kt,s1,n1,r1,m1,r2,m2,e1,e2,rfl,rfl⟩:=ak e;obtain⟨rfl,rfl,h1⟩:=BL e1;obtain⟨es,s2,n2,r3,m3,r4,m4,e3,e4,rfl,rfl⟩:=ak e2;obtain⟨rfl,rfl,ES,hE,hX⟩:=abP h hx e3;obtain⟨f,s4,n4,r7,m7,r8,m8,e7,e8,rfl,rfl⟩:=ak e4;obtain⟨rfl,rfl,F,c1,c2,hfn⟩:=Mv (w:=w) hk hE e7;rw[← TY hE] at c1;rcases hfn with⟨rfl,rfl⟩ | ⟨j,u,U,en,rfl,rfl,hu,-,-⟩
 ·obtain⟨z,s5,n5,r9,m9,lg,m10,e9,e10,rfl,rfl⟩:=ak e8
  obtain⟨rfl,rfl,Z,hZ,hz⟩:=Mw (w:=w) e9;obtain⟨rfl,rfl,rfl⟩:=aF e10;refine⟨rfl,rfl,_,EJ hZ,?_⟩;rcases hX with⟨rfl,rfl⟩ | ⟨b,c,rfl,hb⟩
  ·have c1':(Instr.checkKey true 10000 kt.1 K).run P w=.ok () w:=c1
   have c2':(Instr.findKey kt.1 K []).run P w=_:=c2;simp[Instr.lookup,iZ h1,c1',c2',hz]
  ·simp[Instr.lookup,iZ h1,c1,c2,hz,sV hb]
 ·obtain⟨rfl,rfl,rfl⟩:=aF e8
  refine⟨rfl,rfl,_,EJ hu,?_⟩;rcases hX with⟨rfl,rfl⟩ | ⟨b,c,rfl,hb⟩
  ·have c1':(Instr.checkKey true 10000 kt.1 K).run P w=.ok () w:=c1
   have c2':(Instr.findKey kt.1 K []).run P w=_:=c2;simp[Instr.lookup,iZ h1,c1',c2']
  ·simp[Instr.lookup,iZ h1,c1,c2,sV hb]
/-- A map turns. -/
theorem Ja {i b x c c':Nat} {es es':List (AV × AV × Nat)} {sW:Array MapEntry} (h:Rel P w0 φ s w) (hg:s.get i 0=some (.map es c)) (hp:φ i=some (b,x)) (hE:dU φ es'=some sW.toList) (hi:i < 16000000) :
  (setObj b (.map sW c')).run P w=.ok () { w with heap:=w.heap.setIfInBounds b (.map sW c') }/\Rel P w0 φ (s.put i 0 (some (.map es' c'))) { w with heap:=w.heap.setIfInBounds b (.map sW c') }:=by
 obtain⟨b',y',ES,h1,h2,h3,h4⟩:=h.map _ _ _ hg;rw[hp] at h1;cases h1;have hlt:b < w.heap.size:=(Array.getElem?_eq_some_iff.1 h3).1;refine⟨abI h3,?_⟩;have gp:∀j q,(s.put i 0 (some (.map es' c'))).get j q=if j=i/\q=0 then some (.map es' c') else s.get j q:=λj q=>Ob.get_put hi (by omega)
 have g0:(s.put i 0 (some (.map es' c'))).get i 0=some (.map es' c'):=by rw[gp,if_pos ⟨rfl,rfl⟩]
 have hW:∀k,k≠b->(w.heap.setIfInBounds b (.map sW c'))[k]?=w.heap[k]?:=λk hk=>by simp[Array.getElem?_setIfInBounds,show ¬b=k from λe=>hk e.symm]
 refine h.but (j:=i) (b:=b) (Ph.le_refl _) ⟨h.base.os,h.base.tape,h.base.output,by have:=h.base.size;simpa using this,λk hk=>(hW k (by omega)).trans (h.base.block k hk)⟩ (λk hk _=>hW k hk) (λi' p hne=>by rw[gp,if_neg (by omega)]) (λ_ _=>rfl)
  (λi' y hne ha hb=>hne (h.inj i' i b y x ha (by rw[hg];simp) hb hp)) (λv' hv'=>by rw[g0] at hv';cases hv') (λp _=>by rw[hp];simp) (λc y _ hc=>by rw[hp] at hc;cases hc;rfl)
  (λt' e' k' op' hg'=>by rw[g0] at hg';cases hg') (λes2 c2 hg'=>?_) (λm a l c hg'=>by rw[g0] at hg';cases hg')
 rw[g0] at hg';cases hg';exact⟨b,x,sW,hp,h2,by simp[hlt],hE⟩
theorem abR {es:List (AV × AV × Nat)} {ES:List MapEntry} {k v:AV} {K V:Value} {c:Nat} (h:dU φ es=some ES) (hk:k.den φ=some K) (hv:v.den φ=some V):dU φ (es ++ [(k,v,c)])=some (ES ++ [{ key:=K,val:=V,born:=c }]):=by
 induction es generalizing ES with
 | nil=>simp only[dU] at h;cases h;exact BH hk hv rfl
 | cons y es ih =>
  obtain⟨k',v',b⟩:=y;obtain⟨K',V',L',hk',hv',hl,rfl⟩:=sO h;exact BH hk' hv' (ih hl)
theorem abS {es:List (AV × AV × Nat)} {ES:List MapEntry} {k v:AV} {K V:Value} {j:Nat} (h:dU φ es=some ES) (hk:k.den φ=some K) (hv:v.den φ=some V):dU φ (es.modify j λe=>(k,v,e.2.2))=some (ES.modify j λe=>{ e with key:=K,val:=V }):=by
 induction es generalizing ES j with
 | nil=>simp only[dU] at h;cases h;simp[dU]
 | cons y es ih =>
  obtain⟨k',v',b⟩:=y;obtain⟨K',V',L',hk',hv',hl,rfl⟩:=sO h;cases j with
  | zero=>simpa using BH hk hv hl
  | succ j=>simpa using BH hk' hv' (ih (j:=j) hl)
theorem abT {es:List (AV × AV × Nat)} {ES:List MapEntry} {j:Nat} (h:dU φ es=some ES):dU φ (es.eraseIdx j)=some (ES.eraseIdx j):=by
 induction es generalizing ES j with
 | nil=>simp only[dU] at h;cases h;simp[dU]
 | cons y es ih =>
  obtain⟨k',v',b⟩:=y;obtain⟨K',V',L',hk',hv',hl,rfl⟩:=sO h;cases j with
  | zero=>simpa using hl
  | succ j=>simpa using BH hk' hv' (ih (j:=j) hl)
/-- What turns: its answer is none. -/
def MB (P:Program) (w0:World) (φ:Ph) (s':Ob) (w:World) (n n':Nat) (v:AV) (S:Sem Unit):Prop :=
 n'=n/\v=.fC []/\∃w',S.run P w=.ok () w'/\Rel P w0 φ s' w'
theorem T9 {t:Nat} {k x u:AV} {K X U:Value} (h:Rel P w0 φ s w) (hk:k.den φ=some K) (hx:x.den φ=some X) (hu:u.den φ=some U) (e:Br P t k u x s n=.ok v s' n' r l1) :
  MB P w0 φ s' w n n' v (Instr.mapUpdate t X K U):=by
 cases x with
 | mp i =>
  obtain⟨b,y,hp,rfl⟩:=wV hx;obtain⟨kt,s1,n1,r1,m1,r2,m2,e1,e2,rfl,rfl⟩:=ak (show(pF P t >>= _) _ _=_ from e);obtain⟨rfl,rfl,h1⟩:=BL e1;obtain⟨q,s2,n2,r3,m3,r4,m4,e3,e4,rfl,rfl⟩:=ak e2;obtain⟨hg,rfl,rfl⟩:=yX e3;obtain⟨b',y',ES,h2,h3,h4,hE⟩:=h.map _ _ _ hg;rw[hp] at h2;cases h2;obtain⟨f,s4,n4,r7,m7,r8,m8,e7,e8,rfl,rfl⟩:=ak e4;obtain⟨rfl,rfl,F,c1,c2,hfn⟩:=Mv (w:=w) hk hE e7;obtain⟨z,s5,n5,r9,m9,lg,m10,e9,e10,rfl,rfl⟩:=ak e8;obtain⟨rfl,_,rfl,hi,_⟩:=sP e9;obtain⟨rfl,rfl,rfl⟩:=aF e10;refine⟨rfl,rfl,?_⟩;rcases hfn with⟨rfl,rfl⟩ | ⟨j,u2,U2,en,rfl,rfl,hu2,hen,hsame⟩
  ·obtain⟨k1,k2⟩:=Ja (c':=Nat.succ q.2) (sW:=ES.push { key:=K,val:=U,born:=q.2 }) h hg hp (by rw[Array.toList_push];exact abR hE hk hu) hi
   exact⟨_,by simp[Instr.mapUpdate,iZ h1,sV h4,c1,c2];exact k1,k2⟩
  ·obtain⟨k1,k2⟩:=Ja (c':=q.2) (sW:=ES.modify (0+j) λe=>{ e with key:=K,val:=U }) h hg hp (by rw[Array.toList_modify];exact abS hE hk hu) hi
   have hkk:(Instr.keyThatStays en.key K).run P w=.ok K w:=by simp[Instr.keyThatStays,hsame]
   have hen':ES[j]?=some en:=by simpa using hen
   refine⟨_,?_,k2⟩;simp only[Nat.zero_add] at k1;simp[Instr.mapUpdate,iZ h1,sV h4,c1,c2,hen',hkk];exact k1
 | _=>cases e
theorem abU {ts:List Nat} {k x:AV} {K X:Value} (ty:Nat) (h:Rel P w0 φ s w) (hk:k.den φ=some K) (hx:x.den φ=some X) (e:Ij P ts k x s n=.ok v s' n' r l1) :
  n'=n/\v=.fC []/\∃w',(Builtin.delete_ ts.toArray ty #[X,K]).run P w=.ok (.tuple #[]) w'/\Rel P w0 φ s' w':=by
 cases x with
 | mp i =>
  obtain⟨b,y,hp,rfl⟩:=wV hx;obtain⟨t,s0,n0,r0,m0,r02,m02,e0,e01,rfl,rfl⟩:=ak (show(pG ts >>= _) _ _=_ from e);obtain⟨ht,rfl,rfl⟩:=bW (show M.opt 141 _ _ _=_ from e0);obtain⟨kt,s1,n1,r1,m1,r2,m2,e1,e2,rfl,rfl⟩:=ak e01;obtain⟨rfl,rfl,h1⟩:=BL e1;obtain⟨q,s2,n2,r3,m3,r4,m4,e3,e4,rfl,rfl⟩:=ak e2;obtain⟨hg,rfl,rfl⟩:=yX e3;obtain⟨b',y',ES,h2,h3,h4,hE⟩:=h.map _ _ _ hg;rw[hp] at h2;cases h2;obtain⟨f,s4,n4,r7,m7,r8,m8,e7,e8,rfl,rfl⟩:=ak e4;obtain⟨rfl,rfl,F,c1,c2,hfn⟩:=Mv (w:=w) hk hE e7;obtain⟨z,s5,n5,r9,m9,lg,m10,e9,e10,rfl,rfl⟩:=ak e8;obtain⟨rfl,_,rfl,hi,_⟩:=sP e9
  obtain⟨rfl,rfl,rfl⟩:=aF e10;rw[← TY hE] at c1;have ht0:ts.toArray[0]?=some t:=by cases ts <;> simp_all
  refine⟨rfl,rfl,?_⟩;rcases hfn with⟨rfl,rfl⟩ | ⟨j,u2,U2,en,rfl,rfl,hu2,hen,hsame⟩
  ·obtain⟨k1,k2⟩:=Ja (c':=q.2) (sW:=ES) h hg hp hE hi
   exact⟨_,by simp[Builtin.delete_,ht0,iZ h1,sV h4,c1,c2,k1],k2⟩
  ·have hlt:0+j < ES.size:=by
    have:=(gs1 hen).1;simpa using this
   obtain⟨k1,k2⟩:=Ja (c':=q.2) (sW:=ES.eraseIdxIfInBounds (0+j)) h hg hp (by rw[Array.toList_eraseIdxIfInBounds];exact abT hE) hi;simp only[Nat.zero_add] at k1;exact⟨_,by simp[Builtin.delete_,ht0,iZ h1,sV h4,c1,c2,k1],k2⟩
 | _=>cases e
end
end Go.Proofs.YtfabngnaejjcmaaGreatDoor
