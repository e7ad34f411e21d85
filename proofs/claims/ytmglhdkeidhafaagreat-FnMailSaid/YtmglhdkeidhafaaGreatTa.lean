/- The proof's texts, part 10. -/
import Derived.Test.YtmglhdkeidhafaaGreatT2
import Derived.ProofKit
import Derived.OpenShut
import Derived.ShutString
import Derived.ChangeOld
namespace Go.Proofs.YtmglhdkeidhafaaGreat
open Go.RowKit
set_option linter.unusedVariables false
/- afD cells of a block that are set. -/
section
variable {w : World} {R : Nat} {t : TypeId} {c0 c1 c2 c3 c4 c5 c6 c7 d0 d1 d2 d3 d4 d5 d6 d7 : Value}
theorem Io (h:w.heap[R]?=some (.cells #[c0,c1,c2,c3,c4,c5,c6,c7] t (0,0))):((((((((w.setCell ⟨R,0,none⟩ d0).setCell ⟨R,1,none⟩ d1).setCell ⟨R,2,none⟩ d2).setCell ⟨R,3,none⟩ d3).setCell ⟨R,4,none⟩ d4).setCell ⟨R,5,none⟩ d5).setCell ⟨R,6,none⟩ d6).setCell ⟨R,7,none⟩ d7).heap[R]?=some (.cells #[d0,d1,d2,d3,d4,d5,d6,d7] t (0,0)):=by
 have e0:(w.setCell ⟨R,0,none⟩ d0).heap[R]?=some (.cells #[d0,c1,c2,c3,c4,c5,c6,c7] t (0,0)):=aJ h
 have e1:((w.setCell ⟨R,0,none⟩ d0).setCell ⟨R,1,none⟩ d1).heap[R]?=some (.cells #[d0,d1,c2,c3,c4,c5,c6,c7] t (0,0)):=aJ e0
 have e2:(((w.setCell ⟨R,0,none⟩ d0).setCell ⟨R,1,none⟩ d1).setCell ⟨R,2,none⟩ d2).heap[R]?=some (.cells #[d0,d1,d2,c3,c4,c5,c6,c7] t (0,0)):=aJ e1
 have e3:((((w.setCell ⟨R,0,none⟩ d0).setCell ⟨R,1,none⟩ d1).setCell ⟨R,2,none⟩ d2).setCell ⟨R,3,none⟩ d3).heap[R]?=some (.cells #[d0,d1,d2,d3,c4,c5,c6,c7] t (0,0)):=aJ e2
 have e4:(((((w.setCell ⟨R,0,none⟩ d0).setCell ⟨R,1,none⟩ d1).setCell ⟨R,2,none⟩ d2).setCell ⟨R,3,none⟩ d3).setCell ⟨R,4,none⟩ d4).heap[R]?=some (.cells #[d0,d1,d2,d3,d4,c5,c6,c7] t (0,0)):=aJ e3
 have e5:((((((w.setCell ⟨R,0,none⟩ d0).setCell ⟨R,1,none⟩ d1).setCell ⟨R,2,none⟩ d2).setCell ⟨R,3,none⟩ d3).setCell ⟨R,4,none⟩ d4).setCell ⟨R,5,none⟩ d5).heap[R]?=some (.cells #[d0,d1,d2,d3,d4,d5,c6,c7] t (0,0)):=aJ e4
 have e6:(((((((w.setCell ⟨R,0,none⟩ d0).setCell ⟨R,1,none⟩ d1).setCell ⟨R,2,none⟩ d2).setCell ⟨R,3,none⟩ d3).setCell ⟨R,4,none⟩ d4).setCell ⟨R,5,none⟩ d5).setCell ⟨R,6,none⟩ d6).heap[R]?=some (.cells #[d0,d1,d2,d3,d4,d5,d6,c7] t (0,0)):=aJ e5
 have e7:((((((((w.setCell ⟨R,0,none⟩ d0).setCell ⟨R,1,none⟩ d1).setCell ⟨R,2,none⟩ d2).setCell ⟨R,3,none⟩ d3).setCell ⟨R,4,none⟩ d4).setCell ⟨R,5,none⟩ d5).setCell ⟨R,6,none⟩ d6).setCell ⟨R,7,none⟩ d7).heap[R]?=some (.cells #[d0,d1,d2,d3,d4,d5,d6,d7] t (0,0)):=aJ e6
 exact e7
theorem Wy {k:Nat} {o:Obj} (h:w.heap[k]?=some o) (hne:k≠R):((((((((w.setCell ⟨R,0,none⟩ d0).setCell ⟨R,1,none⟩ d1).setCell ⟨R,2,none⟩ d2).setCell ⟨R,3,none⟩ d3).setCell ⟨R,4,none⟩ d4).setCell ⟨R,5,none⟩ d5).setCell ⟨R,6,none⟩ d6).setCell ⟨R,7,none⟩ d7).heap[k]?=some o :=
 cO (cO (cO (cO (cO (cO (cO (cO h hne) hne) hne) hne) hne) hne) hne) hne
theorem Ov {w0:World} {N:Nat} (h:Below N w0 w) (hN:N≤R):Below N w0 ((((((((w.setCell ⟨R,0,none⟩ d0).setCell ⟨R,1,none⟩ d1).setCell ⟨R,2,none⟩ d2).setCell ⟨R,3,none⟩ d3).setCell ⟨R,4,none⟩ d4).setCell ⟨R,5,none⟩ d5).setCell ⟨R,6,none⟩ d6).setCell ⟨R,7,none⟩ d7) :=
 (((((((h.setCell (p:=⟨R,0,none⟩) hN _).setCell (p:=⟨R,1,none⟩) hN _).setCell (p:=⟨R,2,none⟩) hN _).setCell (p:=⟨R,3,none⟩) hN _).setCell (p:=⟨R,4,none⟩) hN _).setCell (p:=⟨R,5,none⟩) hN _).setCell (p:=⟨R,6,none⟩) hN _).setCell (p:=⟨R,7,none⟩) hN _
end
/- What stays while bytes of the call's own are put behind one another: all below B, and all that are no bytes. -/
structure Tw (B:Nat) (w w':World):Prop where
 below:Below B w w'
 typed:∀ (b:Nat) (c:Array Value) (t:TypeId) (f:Nat × Nat),t≠5→w.heap[b]?=some (Obj.cells c t f)→w'.heap[b]?=some (Obj.cells c t f)
theorem Tw.refl (B:Nat) (w:World):Tw B w w:=⟨Below.refl _ _,fun _ _ _ _ _ h=>h⟩
theorem Tw.trans {B:Nat} {a b c:World} (h:Tw B a b) (k:Tw B b c):Tw B a c:=⟨h.below.trans k.below,fun i cs t f ht hc=>k.typed i cs t f ht (h.typed i cs t f ht hc)⟩
theorem Tw.of_below {B:Nat} {w w':World} (hB:B≤w.heap.size) (h:Below w.heap.size w w'):Tw B w w':=⟨h.mono hB,fun b _ _ _ _ hb=>(h.block b (lt_of_heap hb)).trans hb⟩
theorem Tw.alloc {B:Nat} {w:World} (hB:B≤w.heap.size) (o:Obj):Tw B w (w.alloc o):=Tw.of_below hB (bn _ o)
theorem Tw.grown {B:Nat} {w w':World} {v:Value} {l:List Int} (hv:iq w B v l) (hB:B≤w.heap.size) (hg:w.grownBy w' v.ownBlock):Tw B w w':=by
 refine ⟨(Below.refl B w).grown hg hB (fun k hk=>(hv.row.lt k hk).1),fun b c t f ht hb=>(hg.block b (lt_of_heap hb) fun e=>?_).trans hb⟩
 obtain ⟨g,_,_,⟨rfl,_⟩ | ⟨cap,cur,rfl,hh,_⟩⟩:=hv
 ·simp [Value.ownBlock] at e
 ·simp only [Value.ownBlock,Option.some.injEq] at e
  subst e
  rw [hb] at hh
  simp only [Option.some.injEq,Obj.cells.injEq] at hh
  exact ht hh.2.1
theorem Tw.size {B:Nat} {w w':World} (h:Tw B w w'):w.heap.size≤w'.heap.size:=h.below.size
theorem Tw.box {B g:Nat} {w w':World} {c:Array Value} {t:TypeId} (h:Tw B w w') (ht:t≠5) (hb:w.heap[g]?=some (.cells c t (0,0))):w'.heap[g]?=some (.cells c t (0,0)):=h.typed g c t _ ht hb
/- Rows of rows ([][]byte): what one reads as, one of the call's own, its rows apart from each other. -/
/-- The slice value v reads as n rows of bytes: the i-th is f i. -/
def vF (w:World) (v:Value) (n:Nat) (f:Nat→List Int):Prop :=
 ∃ a cap,∃ us:Nat→Value,v=.slice a n cap∧n≤cap∧cap≤maxLen ∧
  (0 < n→∃ b off,a=some ⟨b,off,none⟩∧b < w.heap.size∧∀ i,i < n→w.cell? ⟨b,off+i,none⟩=some (us i))∧∀ i,i < n→Bs w (us i) (f i)
theorem vF.below {w w':World} {v:Value} {n:Nat} {f:Nat→List Int} (h:vF w v n f) (hb:Below w.heap.size w w'):vF w' v n f:=by
 obtain ⟨a,cap,us,hv,h1,h2,h3,h4⟩:=h
 refine ⟨a,cap,us,hv,h1,h2,fun hp=>?_,fun i hi=>(h4 i hi).below hb⟩
 obtain ⟨b,off,ha,hlt,hc⟩:=h3 hp
 exact ⟨b,off,ha,Nat.lt_of_lt_of_le hlt hb.size,fun i hi=>(hb.cell (p:=⟨b,off+i,none⟩) hlt).trans (hc i hi)⟩
theorem vF.aG {w:World} {v:Value} {n:Nat} {f:Nat→List Int} (h:vF w v n f):∃ a m cap,v=.slice a m cap:=by obtain ⟨a,cap,_,h,_⟩:=h;exact ⟨a,_,cap,h⟩
theorem vF.congr {w:World} {v:Value} {n:Nat} {f g:Nat→List Int} (h:vF w v n f) (e:∀ i,i < n→f i=g i):vF w v n g:=by
 obtain ⟨a,cap,us,hv,h1,h2,h3,h4⟩:=h
 exact ⟨a,cap,us,hv,h1,h2,h3,fun i hi=>by rw [← e i hi];exact h4 i hi⟩
/-- The row of rows v with the slices us is the call's own, in blocks from B on and below T, no two in one; the i-th row's bytes are f i. -/
structure oh (w:World) (B T:Nat) (v:Value) (us:List Value) (f:Nat→List Int):Prop where
 row:w.ownsRow B 22 1 v us.length us
 top:∀ g,v.ownBlock=some g→g < T
 rows:∀ (i:Nat) (u:Value),us[i]?=some u→Row w B T u (f i)
 distinct:∀ (i j:Nat) (u u':Value) (g:Nat),us[i]?=some u→us[j]?=some u'→u.ownBlock=some g→u'.ownBlock=some g→i=j
/-- The rows of a list. -/
def vG (w:World) (B T:Nat) (v:Value) (ls:List (List Int)):Prop:=∃ us:List Value,us.length=ls.length∧oh w B T v us (fun i=>ls.getD i [])
theorem Row.heap {w:World} {B T g:Nat} {v:Value} {l:List Int} (h:Row w B T v l) (hg:v.ownBlock=some g):∃ cur,w.heap[g]?=some (.cells cur 5 (0,0)):=by
 rcases h.2.1.2 with ⟨hn,_⟩ | ⟨k,cap,cur,hv,_,hh,_⟩
 ·rw [hn] at hg;simp [Value.ownBlock] at hg
 ·rw [hv] at hg;simp [Value.ownBlock] at hg;subst hg;exact ⟨cur,hh⟩
theorem ownsRow_below {w w':World} {B n:Nat} {e:TypeId} {v:Value} {xs:List Value} (h:w.ownsRow B e 1 v n xs) (hb:Below w.heap.size w w'):w'.ownsRow B e 1 v n xs:=by
 refine ⟨h.1,?_⟩
 rcases h.2 with hn | ⟨g,cap,cur,hv,hg,hh,r⟩
 ·exact .inl hn
 ·exact .inr ⟨g,cap,cur,hv,hg,(hb.block g (lt_of_heap hh)).trans hh,r⟩
theorem Wz {w:World} {B B' n:Nat} {e:TypeId} {v:Value} {xs:List Value} (h:w.ownsRow B e 1 v n xs) (hB:B'≤B):w.ownsRow B' e 1 v n xs:=by
 refine ⟨h.1,?_⟩
 rcases h.2 with hn | ⟨g,cap,cur,hv,hg,r⟩
 ·exact .inl hn
 ·exact .inr ⟨g,cap,cur,hv,Nat.le_trans hB hg,r⟩
theorem oh.below {w w':World} {B T:Nat} {v:Value} {us:List Value} {f:Nat→List Int} (h:oh w B T v us f) (hb:Below w.heap.size w w'):oh w' B T v us f :=
 ⟨ownsRow_below h.row hb,h.top,fun i u hu=>(h.rows i u hu).below hb,h.distinct⟩
theorem oh.wide {w:World} {B T B' T':Nat} {v:Value} {us:List Value} {f:Nat→List Int} (h:oh w B T v us f) (hB:B'≤B) (hT:T≤T'):oh w B' T' v us f :=
 ⟨Wz h.row hB,fun g hg=>Nat.lt_of_lt_of_le (h.top g hg) hT,fun i u hu=>(h.rows i u hu).wide hB hT,h.distinct⟩
theorem oh.congr {w:World} {B T:Nat} {v:Value} {us:List Value} {f g:Nat→List Int} (h:oh w B T v us f) (e:∀ i,i < us.length→f i=g i):oh w B T v us g :=
 ⟨h.row,h.top,fun i u hu=>by rw [← e i (gs1 hu).1];exact h.rows i u hu,h.distinct⟩
theorem oh.nil (w:World) (B T:Nat) (f:Nat→List Int):oh w B T (.slice none 0 0) [] f :=
 ⟨World.ownsRow_nil _ _ _ _,fun g hg=>by simp [Value.ownBlock] at hg,fun i u hu=>by simp at hu,fun i j u u' g hu=>by simp at hu⟩
theorem vG.below {w w':World} {B T:Nat} {v:Value} {ls:List (List Int)} (h:vG w B T v ls) (hb:Below w.heap.size w w'):vG w' B T v ls:=let ⟨us,e,h⟩:=h;⟨us,e,h.below hb⟩
theorem vG.wide {w:World} {B T B' T':Nat} {v:Value} {ls:List (List Int)} (h:vG w B T v ls) (hB:B'≤B) (hT:T≤T'):vG w B' T' v ls:=let ⟨us,e,h⟩:=h;⟨us,e,h.wide hB hT⟩
theorem vG.nil (w:World) (B T:Nat):vG w B T (.slice none 0 0) []:=⟨[],rfl,oh.nil _ _ _ _⟩
/- From what a row reads of an argument to what the walks ask: a slice of bytes that came in. -/
open Go.ChangeShapes Go.WideShapes Go.ChangeAt Go.RowKit
theorem ownKnob_none:ownKnob Tryz.prog.godebug=none:=by kernel_rfl
theorem laidOut:laidOutB Tryz.prog=true:=by kernel_rfl
theorem WA {n:Int} (h:(Lit.int .u8 n).wf=true):0≤n∧n≤255:=bounds_u8 h
/-- A slice of bytes that came in, as the walks want it. -/
theorem open_bytes {H:Type} {enc:TypeId × Value→H} {W:World} {base:Nat} {a:Option Addr} {len cap:Nat} {d:DataW H} {p:List MemPlace}
  (h:DataW.Trod enc Tryz.prog W base (fun _=>true) true 22 (.slice a len cap) d p):∃ l,Bs W (.slice a len cap) l:=by
 obtain ⟨fuel,hf⟩:=h
 rcases open_ints Tryz.underlying22 Tryz.underlying5 (by kernel_rfl) hf with ⟨hcs,_⟩ | ⟨x,l,c,zs,hcs,_,hl,hm,hz,_,hcell,hwz⟩
 ·simp [Value.cells] at hcs
  obtain ⟨rfl,rfl,rfl⟩:=hcs
  exact ⟨[],Af,none,0,rfl,by simp,by simp,fun _=>rfl,fun h=>absurd h (by simp)⟩
 ·simp [Value.cells] at hcs
  obtain ⟨rfl,rfl,rfl⟩:=hcs
  simp at hz
  have ht:(zs.take len).length=len:=by simp;omega
  refine ⟨zs.take len,fun x hx=>WA (hwz x (List.mem_of_mem_take hx)),some x,cap,by rw [ht],by omega,hm,(fun h=>by cases h),fun hp=>?_⟩
  rw [ht] at hp
  obtain ⟨b,off,spot⟩:=x
  have h0:=hcell 0 (by omega)
  have hspot:spot=none:=by simpa [Addr.add] using World.cell?_spot h0
  subst hspot
  refine ⟨b,off,rfl,?_,fun i hi=>?_⟩
  ·have:=World.block_lt_of_cell? W _ h0
   simpa [Addr.add] using this
  ·rw [ht] at hi
   have:=hcell i (by omega)
   rw [Addr.add_lit] at this
   rw [this]
   simp [hi]
end Go.Proofs.YtmglhdkeidhafaaGreat
