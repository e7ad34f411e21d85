/- The proof's texts, part 44. -/
import Derived.ProofKit
import Derived.OpenShut
import Derived.ShutString
import Derived.ChangeOld
import Derived.ChangeSame
import Derived.Deep.Light
import Derived.Test.YtlneebmlhblleaaGreatT3
import Derived.Deep.Slices
namespace Go.Proofs.YtlneebmlhblleaaGreat
/- From what a row reads of an argument to what the walks ask: a slice of bytes that came in. -/
open Go.ChangeShapes Go.WideShapes Go.ChangeAt Go.RowKit
theorem ownKnob_none:ownKnob Tryz.prog.godebug=none:=by kernel_rfl
theorem laidOut:laidOutB Tryz.prog=true:=by kernel_rfl
theorem ahc {n:Int} (h:(Lit.int .u8 n).wf=true):0≤n∧n≤255:=bounds_u8 h
theorem ahd {n:Int} (h:(Lit.int .i64 n).wf=true) : -9223372036854775808≤n∧n≤9223372036854775807:=bounds_i64 h
/-- A slice of bytes that came in, as the walks want it. -/
theorem WV {H:Type} {enc:TypeId × Value→H} {W:World} {base:Nat} {a:Option Addr} {len cap:Nat} {d:DataW H} {p:List MemPlace}
  (h:DataW.Trod enc Tryz.prog W base (fun _=>true) true 26 (.slice a len cap) d p):∃ l,Bs W (.slice a len cap) l:=by
 obtain ⟨fuel,hf⟩:=h
 rcases open_ints Tryz.underlying26 Tryz.underlying5 (by kernel_rfl) hf with ⟨hcs,_⟩ | ⟨x,l,c,zs,hcs,_,hl,hm,hz,_,hcell,hwz⟩
 ·simp [Value.cells] at hcs
  obtain ⟨rfl,rfl,rfl⟩:=hcs
  exact ⟨[],Fb,none,0,rfl,by simp,by simp,fun _=>rfl,fun h=>absurd h (by simp)⟩
 ·simp [Value.cells] at hcs
  obtain ⟨rfl,rfl,rfl⟩:=hcs
  simp at hz
  have ht:(zs.take len).length=len:=by simp;omega
  refine ⟨zs.take len,fun x hx=>ahc (hwz x (List.mem_of_mem_take hx)),some x,cap,by rw [ht],by omega,hm,(fun h=>by cases h),fun hp=>?_⟩
  rw [ht] at hp
  obtain ⟨b,off,spot⟩:=x
  have h0:=hcell 0 (by omega)
  have hspot:spot=none:=by simpa [Addr.add] using World.cell?_spot h0
  subst hspot
  refine ⟨b,off,rfl,?_,fun i hi=>?_⟩
  ·have:=World.block_lt_of_cell? W _ h0
   simpa [Addr.add] using this
  ·rw [ht] at hi
   have:=hcell i (by omega)
   rw [Addr.add_lit] at this
   rw [this]
   simp [hi]
/- A struct's fields laid open. -/
open Go.ChangeShapes Go.WideShapes Go.ChangeAt Go.RowKit
/-- One field of a struct that is read; it takes one cell. -/
theorem iM {H:Type} {enc:TypeId × Value→H} {P:Program} {W:World} {base fuel:Nat} {spare:Nat→Bool} {held:Bool} {t:TypeId} {fs:Array Field} {cs:List Value} {x:DataW H × List MemPlace}
  (ht:P.underlying t=some (.struct fs)) (h:DataW.trod enc P W base spare held fuel t cs=some x) (i:Nat) (ty:TypeId) (off:Nat) (c:Value) (hf:fs[i]?.map (fun f=>(f.type,f.offset))=some (ty,off)) (h1:P.cellsOf ty=1) (hc:(cs.drop off).take 1=[c]) :
  ∃ n y,DataW.trod enc P W base spare held n ty [c]=some y:=by
 obtain ⟨f,hf0,hf1⟩:=Option.map_eq_some_iff.1 hf
 simp only [Prod.mk.injEq] at hf1
 obtain ⟨rfl,rfl⟩:=hf1
 obtain ⟨xs,n,_,rfl,hl,hlen,hf'⟩:=DataW.trod_struct ht h
 have:=hf' i f (by simpa using hf0)
 rw [h1,hc] at this
 have hi:i < xs.length:=by rw [hlen];exact (Array.getElem?_eq_some_iff.1 hf0).1
 exact ⟨n,xs[i],by rw [this,aK hi]⟩
/-- One cell that is read as a slice of bytes. -/
theorem E9 {H:Type} {enc:TypeId × Value→H} {W:World} {base fuel:Nat} {c:Value} {y:DataW H × List MemPlace}
  (h:DataW.trod enc Tryz.prog W base (fun _=>true) true fuel 26 [c]=some y):∃ l,Bs W c l:=by
 have h':=h
 rcases open_ints Tryz.underlying26 Tryz.underlying5 (by kernel_rfl) h with ⟨hcs,_⟩ | ⟨x,l,c',zs,hcs,_⟩
 ·obtain rfl:c=.slice none 0 0:=by simpa using hcs
  exact WV (d:=y.1) (p:=y.2) ⟨fuel,by simpa [Value.cells] using h'⟩
 ·obtain rfl:c=.slice (some x) l c':=by simpa using hcs
  exact WV (d:=y.1) (p:=y.2) ⟨fuel,by simpa [Value.cells] using h'⟩
/-- One cell that is read as a number. -/
theorem mK {H:Type} {enc:TypeId × Value→H} {W:World} {base fuel:Nat} {c:Value} {y:DataW H × List MemPlace}
  (h:DataW.trod enc Tryz.prog W base (fun _=>true) true fuel 3 [c]=some y):∃ n,c=.int .i64 n∧aB n:=by
 obtain ⟨n,hc,-,hw⟩:=DataW.trod_int Tryz.underlying3 h
 exact ⟨n,by simpa using hc,ahd hw⟩
theorem Fa:Tryz.prog.cellsOf 26=1:=by kernel_rfl
theorem mM:Tryz.prog.cellsOf 3=1:=by kernel_rfl
/- From what a row reads of an argument to what the walks ask: boxes that came in. -/
open Go.ChangeShapes Go.WideShapes Go.ChangeAt Go.RowKit Go.Deep
theorem WW {α:Type} {p:Nat→α→Prop}:∀ (n:Nat),(∀ i,i < n→∃ x,p i x)→∃ l:List α,l.length=n∧∀ i x,l[i]?=some x→p i x
 | 0,_=>⟨[],rfl,by simp⟩
 | n+1,h=>by
  obtain ⟨l,hl,hp⟩:=WW n (fun i hi=>h i (by omega))
  obtain ⟨x,hx⟩:=h n (by omega)
  refine ⟨l ++ [x],by simp [hl],fun i y hy=>?_⟩
  by_cases hi:i < n
  ·rw [List.getElem?_append_left (by omega)] at hy
   exact hp i y hy
  ·have hlt:i < (l ++ [x]).length:=(gs1 hy).1
   simp at hlt
   obtain rfl:i=n:=by omega
   rw [List.getElem?_append_right (by omega)] at hy
   simp [hl] at hy
   subst hy
   exact hx
/-- One cell that is read as a slice of structs. -/
theorem IJ {α:Type} {E:World→List Value→α→Prop} {H:Type} {enc:TypeId × Value→H} {W:World} {base fuel sz:Nat} {t e:TypeId} {c:Value} {y:DataW H × List MemPlace} (h0:0 < sz)
  (ht:Tryz.prog.underlying t=some (.slice e)) (hc:Tryz.prog.cellsOf e=sz) (hE:∀ n cs' y,cs'.length=sz→DataW.trod enc Tryz.prog W base (fun _=>true) true n e cs'=some y→∃ x,E W cs' x)
  (h:DataW.trod enc Tryz.prog W base (fun _=>true) true fuel t [c]=some y):∃ l,Rd sz E W c l:=by
 rcases open_slice ht h with ⟨hcs,-⟩ | ⟨a,len,cap,m,n,D,Pl,hcs,hb,hl,hm,hmm,-,hel⟩
 ·obtain rfl:c=.slice none 0 0:=by simpa using hcs
  exact ⟨[],Rd.nil W⟩
 ·obtain rfl:c=.slice (some a) len cap:=by simpa using hcs
  simp only [if_true] at hmm
  subst hmm
  rw [hc] at hel
  have key:∀ i,i < len→∃ p:List Value × α,W.cells? base (a.add (i * sz)) sz=some p.1∧p.1.length=sz∧E W p.1 p.2:=by
   intro i hi
   obtain ⟨cs',h1,h2⟩:=hel i (by omega)
   have hlen:=(World.cells?_some h1).2.1
   obtain ⟨x,hx⟩:=hE n cs' _ hlen h2
   exact ⟨(cs',x),h1,hlen,hx⟩
  obtain ⟨ps,hpl,hps⟩:=WW len key
  refine ⟨ps.map (·.2),some a,m,fun i=>((ps[i]?.map (·.1)).getD []),by simp [hpl],by simp [hpl];omega,hm,(fun h=>by cases h),fun i x hx=>?_,fun hp=>?_⟩
  ·rw [List.getElem?_map,Option.map_eq_some_iff] at hx
   obtain ⟨p,hp,rfl⟩:=hx
   obtain ⟨-,q1,q2⟩:=hps i p hp
   simp only [hp,Option.map_some,Option.getD_some]
   exact ⟨q2,q1⟩
  ·simp [hpl] at hp
   obtain ⟨b,off,spot⟩:=a
   obtain ⟨p0,hp0⟩:∃ p,ps[0]?=some p:=⟨ps[0]'(by omega),aK (by omega)⟩
   obtain ⟨k1,k2,-⟩:=hps 0 p0 hp0
   have cell:∀ i p,ps[i]?=some p→∀ j u,p.1[j]?=some u→W.cell? (((⟨b,off,spot⟩:Addr).add (i * sz)).add j)=some u:=by
    intro i p hi j u hu
    obtain ⟨k1,k2,-⟩:=hps i p hi
    have hj:j < sz:=by have:=(gs1 hu).1;omega
    rw [(World.cells?_some k1).2.2 j hj,hu]
   have c0:=cell 0 p0 hp0 0 (p0.1[0]'(by omega)) (aK (by omega))
   have hspot:spot=none:=by simpa [Addr.add] using World.cell?_spot c0
   subst hspot
   refine ⟨b,off,rfl,?_,fun i j u hi hu=>?_⟩
   ·have:=World.block_lt_of_cell? W _ c0
    simpa [Addr.add] using this
   ·obtain ⟨p,hpi⟩:∃ p,ps[i]?=some p:=⟨ps[i]'(by simp at hi;omega),aK (by simp at hi;omega)⟩
    simp only [hpi,Option.map_some,Option.getD_some] at hu
    have:=cell i p hpi j u hu
    simpa [Addr.add_lit,Nat.add_assoc] using this
theorem ahe {H:Type} {enc:TypeId × Value→H} {W:World} {base fuel:Nat} {c:Value} {y:DataW H × List MemPlace}
  (h:DataW.trod enc Tryz.prog W base (fun _=>true) true fuel 77 [c]=some y):∃ l,bY W c l:=by
 refine IJ (by omega) Tryz.underlying77 (by kernel_rfl) (fun n cs' y hl hf=>?_) h
 match cs',hl with
 | [c0,c1,c2,c3],_ =>
  have u:=Tryz.underlying155
  obtain ⟨_,_,h0⟩:=iM u hf 0 3 0 c0 rfl mM rfl
  obtain ⟨_,_,h1⟩:=iM u hf 1 3 1 c1 rfl mM rfl
  obtain ⟨_,_,h2⟩:=iM u hf 2 3 2 c2 rfl mM rfl
  obtain ⟨_,_,h3⟩:=iM u hf 3 26 3 c3 rfl Fa rfl
  obtain ⟨uid,rfl,i0⟩:=mK h0
  obtain ⟨flags,rfl,i1⟩:=mK h1
  obtain ⟨seq,rfl,i2⟩:=mK h2
  obtain ⟨text,b3⟩:=E9 h3
  exact ⟨⟨uid,flags,seq,text⟩,c3,rfl,b3,i0,i1,i2⟩
theorem ahf {H:Type} {enc:TypeId × Value→H} {W:World} {base fuel:Nat} {c:Value} {y:DataW H × List MemPlace}
  (h:DataW.trod enc Tryz.prog W base (fun _=>true) true fuel 78 [c]=some y):∃ l,bO W c l:=by
 refine IJ (by omega) Tryz.underlying78 (by kernel_rfl) (fun n cs' y hl hf=>?_) h
 match cs',hl with
 | [c0,c1],_ =>
  have u:=Tryz.underlying158
  obtain ⟨_,_,h0⟩:=iM u hf 0 3 0 c0 rfl mM rfl
  obtain ⟨_,_,h1⟩:=iM u hf 1 3 1 c1 rfl mM rfl
  obtain ⟨uid,rfl,i0⟩:=mK h0
  obtain ⟨seq,rfl,i1⟩:=mK h1
  exact ⟨⟨uid,seq⟩,rfl,i0,i1⟩
theorem ahg:Tryz.prog.cellsOf 77=1:=by kernel_rfl
theorem ahh:Tryz.prog.cellsOf 78=1:=by kernel_rfl
theorem ahi {H:Type} {enc:TypeId × Value→H} {W:World} {base n:Nat} {cs':List Value} {y:DataW H × List MemPlace} (hl:cs'.length=7)
  (hf:DataW.trod enc Tryz.prog W base (fun _=>true) true n 80 cs'=some y):∃ x,vU W cs' x:=by
 match cs',hl with
 | [c0,c1,c2,c3,c4,c5,c6],_ =>
  have u:=Tryz.underlying80
  obtain ⟨_,_,h0⟩:=iM u hf 0 26 0 c0 rfl Fa rfl
  obtain ⟨_,_,h1⟩:=iM u hf 1 3 1 c1 rfl mM rfl
  obtain ⟨_,_,h2⟩:=iM u hf 2 3 2 c2 rfl mM rfl
  obtain ⟨_,_,h3⟩:=iM u hf 3 3 3 c3 rfl mM rfl
  obtain ⟨_,_,h4⟩:=iM u hf 4 77 4 c4 rfl ahg rfl
  obtain ⟨_,_,h5⟩:=iM u hf 5 78 5 c5 rfl ahh rfl
  obtain ⟨_,_,h6⟩:=iM u hf 6 3 6 c6 rfl mM rfl
  obtain ⟨name,b0⟩:=E9 h0
  obtain ⟨valid,rfl,i1⟩:=mK h1
  obtain ⟨next,rfl,i2⟩:=mK h2
  obtain ⟨seq,rfl,i3⟩:=mK h3
  obtain ⟨ah,b4⟩:=ahe h4
  obtain ⟨au,b5⟩:=ahf h5
  obtain ⟨lost,rfl,i6⟩:=mK h6
  exact ⟨⟨name,valid,next,seq,ah,au,lost⟩,c0,c4,c5,rfl,b0,b4,b5,i1,i2,i3,i6⟩
/- From what a row reads of an argument to what the walks ask: accounts that came in. -/
open Go.ChangeShapes Go.WideShapes Go.ChangeAt Go.RowKit Go.Deep
/-- One cell that is read as a slice of numbers, of ah, of what went, of boxes. -/
theorem open_ints' {H:Type} {enc:TypeId × Value→H} {W:World} {base fuel:Nat} {c:Value} {y:DataW H × List MemPlace}
  (h:DataW.trod enc Tryz.prog W base (fun _=>true) true fuel 23 [c]=some y):∃ l,dS W c l:=by
 refine IJ (by omega) Tryz.underlying23 mM (fun n cs' y hl ht=>?_) h
 match cs',hl with
 | [c0],_ =>
  obtain ⟨k,rfl,i0⟩:=mK ht
  exact ⟨k,rfl,i0⟩
theorem ahj:Tryz.prog.cellsOf 22=1:=by kernel_rfl
theorem ahk:Tryz.prog.cellsOf 23=1:=by kernel_rfl
theorem open_account {H:Type} {enc:TypeId × Value→H} {W:World} {base:Nat} {cs:Array Value} {d:DataW H} {p:List MemPlace} (hs:cs.size=3)
  (h:DataW.Trod enc Tryz.prog W base (fun _=>true) true 25 (.agg cs) d p):∃ x,dM W (.agg cs) x:=by
 obtain ⟨fuel,hf⟩:=h
 obtain ⟨cs⟩:=cs
 match cs,hs with
 | [c0,c1,c2],_ =>
  have u:=Tryz.underlying25
  obtain ⟨_,_,h0⟩:=iM u hf 0 3 0 c0 rfl mM rfl
  obtain ⟨_,_,h1⟩:=iM u hf 1 22 1 c1 rfl ahj rfl
  obtain ⟨_,_,h2⟩:=iM u hf 2 23 2 c2 rfl ahk rfl
  obtain ⟨valid,rfl,i0⟩:=mK h0
  obtain ⟨boxes,b1⟩:=IJ (by omega) Tryz.underlying22 (by kernel_rfl) (fun n cs' y hl hf=>ahi hl hf) h1
  obtain ⟨seen,b2⟩:=open_ints' h2
  exact ⟨⟨valid,boxes,seen⟩,c1,c2,rfl,b1,b2,i0⟩
/- From what a row reads of an argument to what the walks ask: a command that came in. -/
open Go.ChangeShapes Go.WideShapes Go.ChangeAt Go.RowKit
/-- A command that came in, as the walks want it. -/
theorem open_cmd {H:Type} {enc:TypeId × Value→H} {W:World} {base:Nat} {cs:Array Value} {d:DataW H} {p:List MemPlace} (hs:cs.size=8)
  (h:DataW.Trod enc Tryz.prog W base (fun _=>true) true 28 (.agg cs) d p):∃ k bx tt uid mode fl si tx,ig W (.agg cs) k bx tt uid mode fl si tx:=by
 obtain ⟨fuel,hf⟩:=h
 obtain ⟨cs⟩:=cs
 match cs,hs with
 | [c0,c1,c2,c3,c4,c5,c6,c7],_ =>
  have u:=Tryz.underlying28
  obtain ⟨_,_,h0⟩:=iM u hf 0 3 0 c0 rfl mM rfl
  obtain ⟨_,_,h1⟩:=iM u hf 1 26 1 c1 rfl Fa rfl
  obtain ⟨_,_,h2⟩:=iM u hf 2 26 2 c2 rfl Fa rfl
  obtain ⟨_,_,h3⟩:=iM u hf 3 3 3 c3 rfl mM rfl
  obtain ⟨_,_,h4⟩:=iM u hf 4 3 4 c4 rfl mM rfl
  obtain ⟨_,_,h5⟩:=iM u hf 5 3 5 c5 rfl mM rfl
  obtain ⟨_,_,h6⟩:=iM u hf 6 3 6 c6 rfl mM rfl
  obtain ⟨_,_,h7⟩:=iM u hf 7 26 7 c7 rfl Fa rfl
  obtain ⟨k,rfl,i0⟩:=mK h0
  obtain ⟨bx,b1⟩:=E9 h1
  obtain ⟨tt,b2⟩:=E9 h2
  obtain ⟨uid,rfl,i3⟩:=mK h3
  obtain ⟨mode,rfl,i4⟩:=mK h4
  obtain ⟨fl,rfl,i5⟩:=mK h5
  obtain ⟨si,rfl,i6⟩:=mK h6
  obtain ⟨tx,b7⟩:=E9 h7
  exact ⟨k,bx,tt,uid,mode,fl,si,tx,c1,c2,c7,rfl,b1,b2,b7,i0,i3,i4,i5,i6⟩
end Go.Proofs.YtlneebmlhblleaaGreat
