/- The proof's texts, part 4. -/
import Derived.Test.YtfabngnaejjcmaaGreatDoorT3
import Derived.Lib.AppendStr
import Derived.Deep.RegionHeld3
namespace Go.Proofs.YtfabngnaejjcmaaGreatDoor
open Go.RowKit
set_option linter.unusedVariables false
set_option linter.unusedSimpArgs false
/- One byte in a block of its own; flags, one behind the other. -/
/- Strings put behind bytes of the call's own. -/
theorem ZB {s:List Int} (h:Oct s):Lib.strCells (strOfNums s)=vals s:=by
 unfold Lib.strCells vals;rw[strOfNums_data,List.map_map];refine List.map_congr_left λx hx=>?_;have:=h x hx;simp only[Function.comp];rw[UInt8.toNat_ofNat']
 congr 1
 omega
/- Commands as texts, on lists. -/
/- What ajw, ajx, ajy, ajz of package laws do. -/
/- ZC and rows of names in memory: what they read as, and those of the call's own. -/
structure iw where
 code:Int
 num:Int
 box:aB
 names:List (List Int)
def KW (w:World) (c:List Value) (l:List Int):Prop:=∃u,c=[u]/\Bs w u l
abbrev GR:=Rd 1 KW
theorem ZE:Keeps KW:=λ_ _ _ _ hb h=>let ⟨u,h0,h1⟩:=h;⟨u,h0,h1.below hb⟩
def yt (w:World) (c:List Value) (l:List Int) (S:Nat->Prop):Prop:=∃u,c=[u]/\RO w S u l
theorem yu:Frames yt:=λ_ _ _ _ _ h hw=>let ⟨u,h0,h1⟩:=h;⟨u,h0,h1.frame hw⟩
instance:Fr yt:=⟨yu⟩
abbrev yw:=Ow 22 1 yt
theorem yt.rd {w:World} {c:List Value} {l:List Int} {S:Nat->Prop} (h:yt w c l S):KW w c l:=let ⟨u,h0,h1⟩:=h;⟨u,h0,h1.bs⟩
theorem GR.cell {w:World} {v:Value} {l:List (List Int)} (h:GR w v l) (k:Nat) (x:List Int) (hx:l[k]?=some x):∃b off cap u,v=.slice (some ⟨b,off,none⟩) l.length cap/\b < w.heap.size/\w.cell? ⟨b,off+k,none⟩=some u/\Bs w u x:=by
 obtain⟨b,off,cap,c,hv,hlt,⟨u,rfl,hi⟩,-,hc⟩:=h.get k x hx;exact⟨b,off,cap,u,hv,hlt,by simpa using hc 0 _ rfl,hi⟩
/-- The value v reads as a reply. -/
def rU (w:World) (v:Value) (x:iw):Prop:=∃u0 u1 u2 u3,v=.agg #[.int .i64 x.code,.int .i64 x.num,u0,.int .i64 x.box.valid,.int .i64 x.box.next,.int .i64 x.box.seq,u1,u2,.int .i64 x.box.lost,u3]/\bT w (.agg #[u0,.int .i64 x.box.valid,.int .i64 x.box.next,.int .i64 x.box.seq,u1,u2,.int .i64 x.box.lost]) x.box/\GR w u3 x.names/\av x.code/\av x.num
theorem rU.below {w w':World} {v:Value} {x:iw} (h:rU w v x) (hb:Below w.heap.size w w'):rU w' v x :=
 let ⟨u0,u1,u2,u3,h0,h1,h2,i⟩:=h;⟨u0,u1,u2,u3,h0,h1.below hb,h2.below ZE hb,i⟩
/-- A reply of the call's own in blocks from B on and below T. -/
def Af (w:World) (B T:Nat) (v:Value) (x:iw):Prop :=
 ∃u0 u1 u2 u3 T0,v=.agg #[.int .i64 x.code,.int .i64 x.num,u0,.int .i64 x.box.valid,.int .i64 x.box.next,.int .i64 x.box.seq,u1,u2,.int .i64 x.box.lost,u3]/\gG w [u0,.int .i64 x.box.valid,.int .i64 x.box.next,.int .i64 x.box.seq,u1,u2,.int .i64 x.box.lost] x.box (In B T0)/\yw w (In T0 T) u3 x.names/\B<=T0/\T0<=T/\av x.code/\av x.num
theorem gG.wide {w:World} {c:List Value} {b:aB} {S S':Nat->Prop} (h:gG w c b S) (hS:∀x,S x->S' x):gG w c b S' :=
 let ⟨u0,u1,u2,S0,S1,S2,h0,h1,h2,h3,d0,d1,d2,r⟩:=h
 ⟨u0,u1,u2,S0,S1,S2,h0,h1,h2,h3,λx hx=>⟨hS x (d0 x hx).1,(d0 x hx).2⟩,λx hx=>⟨hS x (d1 x hx).1,(d1 x hx).2⟩,λx hx=>hS x (d2 x hx),r⟩
theorem gG.set {w:World} {g i B T:Nat} {c:List Value} {x:Value} {b:aB} (h:gG w c b (In B T)) (hd:g < B\/T<=g):gG (w.setCell ⟨g,i,none⟩ x) c b (In B T) :=
 yg _ _ _ _ _ h λb hb hlt=>Below.heap_setCell _ _ _ _ (by have:=hb.1;have:=hb.2;show b≠g;omega)
section
variable {w w' : World} {B T B' T' : Nat} {v : Value} {y : iw}
theorem Af.below (h:Af w B T v y) (hb:Below w.heap.size w w'):Af w' B T v y :=
 let ⟨u0,u1,u2,u3,T0,h0,h1,h2,r⟩:=h;⟨u0,u1,u2,u3,T0,h0,yg _ _ _ _ _ h1 λb _ hlt=>hb.block b hlt,h2.below yu hb,r⟩
theorem Af.wide (h:Af w B T v y) (hB:B'<=B) (hT:T<=T'):Af w B' T' v y :=
 let ⟨u0,u1,u2,u3,T0,h0,h1,h2,j0,j1,i⟩:=h
 ⟨u0,u1,u2,u3,T0,h0,h1.wide λx hx=>⟨Nat.le_trans hB hx.1,hx.2⟩,h2.mono λx hx=>⟨hx.1,Nat.lt_of_lt_of_le hx.2 hT⟩,by omega,by omega,i⟩
end
theorem bf {w:World} {g:Nat} {t:TypeId} {c0 c1 c2 c3 c4 c5 c6 c7 c8 c9:Value} (h:w.heap[g]?=some (.cells #[c0,c1,c2,c3,c4,c5,c6,c7,c8,c9] t (0,0))) :
  w.cell? ⟨g,0,none⟩=some c0/\w.cell? ⟨g,1,none⟩=some c1/\w.cell? ⟨g,2,none⟩=some c2/\w.cell? ⟨g,3,none⟩=some c3/\w.cell? ⟨g,4,none⟩=some c4/\w.cell? ⟨g,5,none⟩=some c5/\w.cell? ⟨g,6,none⟩=some c6/\w.cell? ⟨g,7,none⟩=some c7/\w.cell? ⟨g,8,none⟩=some c8/\w.cell? ⟨g,9,none⟩=some c9 :=
 ⟨by rw[cell_of_row w g 0 _ t (0,0) h];rfl,by rw[cell_of_row w g 1 _ t (0,0) h];rfl,by rw[cell_of_row w g 2 _ t (0,0) h];rfl,by rw[cell_of_row w g 3 _ t (0,0) h];rfl,by rw[cell_of_row w g 4 _ t (0,0) h];rfl,by rw[cell_of_row w g 5 _ t (0,0) h];rfl,by rw[cell_of_row w g 6 _ t (0,0) h];rfl,by rw[cell_of_row w g 7 _ t (0,0) h];rfl,by rw[cell_of_row w g 8 _ t (0,0) h];rfl,by rw[cell_of_row w g 9 _ t (0,0) h];rfl⟩
/-- A ajA shape laid open, and its parts. -/
theorem rU.form {w:World} {v:Value} {x:iw} (h:rU w v x):∃a0 n0 c0 a1 c1 a2 c2 a3 c3,v=.agg #[.int .i64 x.code,.int .i64 x.num,.slice a0 n0 c0,.int .i64 x.box.valid,.int .i64 x.box.next,.int .i64 x.box.seq,.slice a1 x.box.ah.length c1,.slice a2 x.box.au.length c2,.int .i64 x.box.lost,.slice a3 x.names.length c3]:=by
 obtain⟨u0,u1,u2,u3,rfl,⟨p0,p1,p2,e,q0,q1,q2,-⟩,q3,-⟩:=h;simp only[Value.agg.injEq,Array.mk.injEq,List.cons.injEq,and_true,true_and] at e;obtain⟨rfl,rfl,rfl⟩:=e;obtain⟨a0,n0,c0,rfl⟩:=q0.aP;obtain⟨a1,c1,rfl,-⟩:=q1.form;obtain⟨a2,c2,rfl,-⟩:=q2.form;obtain⟨a3,c3,rfl,-⟩:=q3.form;exact⟨_,_,_,_,_,_,_,_,_,rfl⟩
theorem rU.parts {w:World} {z0 z1 z2 z3:Value} {x:iw} (h:rU w (.agg #[.int .i64 x.code,.int .i64 x.num,z0,.int .i64 x.box.valid,.int .i64 x.box.next,.int .i64 x.box.seq,z1,z2,.int .i64 x.box.lost,z3]) x):bT w (.agg #[z0,.int .i64 x.box.valid,.int .i64 x.box.next,.int .i64 x.box.seq,z1,z2,.int .i64 x.box.lost]) x.box/\GR w z3 x.names/\av x.code/\av x.num:=by
 obtain⟨u0,u1,u2,u3,e,h1,h2,i⟩:=h;simp only[Value.agg.injEq,Array.mk.injEq,List.cons.injEq,and_true,true_and] at e;obtain⟨rfl,rfl,rfl,rfl⟩:=e;exact⟨h1,h2,i⟩
/- What ajB, ajC, ajD of package laws do of rows of names. -/
theorem ZF:(Tryz.prog.info? 22).map (λi=>(i.zero,i.size,i.bytes))=some (some (.slice none 0 0),1,24):=by kernel_rfl
/- A whole list put behind an empty one of the call's own: what comes back owns the copied cells. -/
theorem GU {cs:Nat->List Value} {sz:Nat}:∀(n:Nat),(∀i,i < n->(cs i).length=sz)->((List.range n).flatMap cs).length=n * sz
 | 0,_=>by simp
 | n+1,h=>by
  rw[List.range_succ,List.flatMap_append,List.length_append,GU n (λi hi=>h i (by omega))];simp only[List.flatMap_cons,List.flatMap_nil,List.append_nil,h n (by omega),Nat.add_mul,Nat.one_mul]
theorem Df {cs:Nat->List Value} {sz:Nat}:∀(n:Nat),(∀i,i < n->(cs i).length=sz)->∀i j,i < n->j < sz->((List.range n).flatMap cs)[i * sz+j]?=(cs i)[j]?
 | 0,_,_,_,h,_=>absurd h (Nat.not_lt_zero _)
 | n+1,h,i,j,hi,hj=>by
  have hl:=GU n (cs:=cs) (sz:=sz) (λi hi=>h i (by omega));rw[List.range_succ,List.flatMap_append]
  by_cases e:i=n
  ·subst e
   rw[List.getElem?_append_right (by omega),hl];simp only[List.flatMap_cons,List.flatMap_nil,List.append_nil]
   congr 1
   omega
  ·have hb:i * sz+j < n * sz:=by
    have:=Nat.mul_le_mul_right sz (show i+1<=n by omega);rw[Nat.add_mul,Nat.one_mul] at this;omega
   rw[List.getElem?_append_left (by omega)];exact Df n (λi hi=>h i (by omega)) i j (by omega) hj
section
variable {α : Type} {P : Program} {w : World} {e t : TypeId} {sz bytes B : Nat} {RE : World -> List Value -> α -> Prop} {v u : Value} {m : List α}
theorem QI (h:w.ownsRow B e sz v 0 []) (hu:Rd sz RE w u m) (hone:∀c x,RE w c x->∀y ∈ c,y.oneCell'=true) (ty:TypeId) {i:TypeInfo} {z:Value} (ht:P.underlying t=some (.slice e)) (hi:P.info? e=some i) (hz:i.zero=some z) (hsize:i.size=sz) (hby:i.bytes=bytes) (hzs:z.cells.size=sz) (hsz:0 < sz)
  (hl:m.length<=maxLen) (hb:m.length * bytes<=140737488355328) (hB:B<=w.heap.size) :
  ∃v' w' xs,(Builtin.append_ #[t,t] ty #[v,u]).run P w=.ok v' w'/\w'.ownsRow B e sz v' m.length xs/\(∀i x,m[i]?=some x->∃c,c.length=sz/\RE w c x/\∀j y,c[j]?=some y->xs[i * sz+j]?=some y)/\w.grownBy w' v.ownBlock/\(v'.ownBlock=v.ownBlock\/v'.ownBlock=some w.heap.size):=by
 obtain⟨a,cap,cs,rfl,h1,h2,h3,h4,h5⟩:=hu;cases a with
 | none =>
  have hc:=h3 rfl;have hm:m=[]:=List.eq_nil_of_length_eq_zero (by omega);subst hm;subst hc;exact⟨v,w,[],run_append_owned_none (P:=P) (w:=w) B t ty e i sz ht hi v 0 [] h,h,by simp,World.grownBy.refl _ _,.inl rfl⟩
 | some ad =>
  have hlen:∀i,i < m.length->(cs i).length=sz:=λi hi=>(h4 i m[i] (bK hi)).2;have hfl:=GU m.length hlen;have hnews:∀k y,((List.range m.length).flatMap cs)[k]?=some y->w.cell? (ad.add k)=some y:=by
   intro k y hk;have hk2:k < m.length * sz:=by have:=(gs1 hk).1;omega
   have hd:k=k / sz * sz+k % sz:=by have:=Nat.div_add_mod k sz;rw[Nat.mul_comm];omega
   have hi1:k / sz < m.length:=Nat.div_lt_of_lt_mul (by rw[Nat.mul_comm];exact hk2);have hj1:k % sz < sz:=Nat.mod_lt _ hsz;have hk3:=hk;rw[hd,Df m.length hlen _ _ hi1 hj1] at hk3;obtain⟨b,off,hab,-,hcell⟩:=h5 (Nat.lt_of_le_of_lt (Nat.zero_le _) hi1);cases hab
   have:=hcell _ _ _ hi1 hk3;rw[Addr.add_lit];rw[Nat.add_assoc,← hd] at this;exact this
  have KY:∀y ∈ (List.range m.length).flatMap cs,y.oneCell'=true:=by
   intro y hy;obtain⟨i,hi',hy⟩:=List.mem_flatMap.1 hy;have hil:i < m.length:=by simpa using hi'
   exact hone _ _ (h4 i m[i] (bK hil)).1 y hy
  obtain⟨v',w',hr,k2,k3,k4,k5⟩:=run_append_own_at (P:=P) w B t ty e i z sz bytes ht hi hz hsize hby hzs hsz v 0 [] h ad m.length cap ((List.range m.length).flatMap cs) hfl hnews KY (by omega) (by simpa using hb) hB;refine⟨v',w',(List.range m.length).flatMap cs,hr,by simpa using k2,λi x hx=>?_,k3,k5⟩;have hil:i < m.length:=(gs1 hx).1;refine⟨cs i,hlen i hil,(h4 i x hx).1,λj y hy=>?_⟩;have hj:j < sz:=by have:=(gs1 hy).1;have:=hlen i hil;omega
  rw[Df m.length hlen i j hil hj];exact hy
/-- The operation in a region that draws. -/
theorem mI {o:Oper} {a:Act} {K:Act->World->Prop} {Q:Exit->Act->World->Prop} (d:Nat) (hd:o.dst=some d) (s y:Operand)
  (ho:o.op=.call { callee:=.builtin .append,args:=#[s,y],argTypes:=#[t,t] }) (h:w.ownsRow B e sz v 0 []) (hu:Rd sz RE w u m) (hone:∀c x,RE w c x->∀y ∈ c,y.oneCell'=true) {i:TypeInfo} {z:Value} (ht:P.underlying t=some (.slice e)) (hi:P.info? e=some i) (hz:i.zero=some z) (hsize:i.size=sz) (hby:i.bytes=bytes) (hzs:z.cells.size=sz) (hsz:0 < sz)
  (hs:a.eval s=v) (hy:a.eval y=u) (hl:m.length<=maxLen) (hb:m.length * bytes<=140737488355328) (hB:B<=w.heap.size)
  (k:∀v' w' xs,w'.ownsRow B e sz v' m.length xs->(∀i x,m[i]?=some x->∃c,c.length=sz/\RE w c x/\∀j y,c[j]?=some y->xs[i * sz+j]?=some y)->w.grownBy w' v.ownBlock->(v'.ownBlock=v.ownBlock\/v'.ownBlock=some w.heap.size)->K (a.put (some d) v') w'):o.wp P a w K Q:=by
 obtain⟨v',w',xs,hr,h2,h3,h4,h5⟩:=QI (P:=P) (t:=t) h hu hone o.type ht hi hz hsize hby hzs hsz hl hb hB;unfold Oper.wp execOp;simp only[ho,resolve,invoke,builtin,Sem.run_bind,Sem.run_pure,Result.andThen_ok,List.map_toArray,List.map_cons,List.map_nil,hs,hy,hr];have:=k v' w' xs h2 h3 h4 h5;rw[← hd] at this;exact this
/-- The operation in a region that goes in the text's order. -/
theorem ZG {ops:Array Oper} {rest:List Oper} {o:Oper} {a:Act} {Q:Exit->Act->World->Prop} (hgd:o.guard=none) (s y:Operand)
  (ho:o.op=.call { callee:=.builtin .append,args:=#[s,y],argTypes:=#[t,t] }) (h:w.ownsRow B e sz v 0 []) (hu:Rd sz RE w u m) (hone:∀c x,RE w c x->∀y ∈ c,y.oneCell'=true) {i:TypeInfo} {z:Value} (ht:P.underlying t=some (.slice e)) (hi:P.info? e=some i) (hz:i.zero=some z) (hsize:i.size=sz) (hby:i.bytes=bytes) (hzs:z.cells.size=sz) (hsz:0 < sz)
  (hs:a.eval s=v) (hy:a.eval y=u) (hl:m.length<=maxLen) (hb:m.length * bytes<=140737488355328) (hB:B<=w.heap.size)
  (k:∀v' w' xs,w'.ownsRow B e sz v' m.length xs->(∀i x,m[i]?=some x->∃c,c.length=sz/\RE w c x/\∀j y,c[j]?=some y->xs[i * sz+j]?=some y)->w.grownBy w' v.ownBlock->(v'.ownBlock=v.ownBlock\/v'.ownBlock=some w.heap.size)->wpList P ops Q rest (a.put o.dst v') w'):wpList P ops Q (o :: rest) a w:=by
 refine wpList_plain hgd λK hK=>?_;obtain⟨v',w',xs,hr,h2,h3,h4,h5⟩:=QI (P:=P) (t:=t) h hu hone o.type ht hi hz hsize hby hzs hsz hl hb hB;unfold Oper.wp execOp;simp only[ho,resolve,invoke,builtin,Sem.run_bind,Sem.run_pure,Result.andThen_ok,List.map_toArray,List.map_cons,List.map_nil,hs,hy,hr];exact hK _ _ (k v' w' xs h2 h3 h4 h5)
end
/-- An empty slice that is just made. -/
theorem lK (w:World) (e:TypeId) (sz B:Nat) (hB:B<=w.heap.size):(w.alloc (.cells #[] e)).ownsRow B e sz (.slice (some ⟨w.heap.size,0,none⟩) 0 0) 0 [] :=
 ⟨by simp,.inr ⟨w.heap.size,0,#[],rfl,hB,aW w _,Nat.le_refl _,by simp[maxLen],by simp,by simp⟩⟩
/-- Bytes as a list of cells. -/
def KZ (_:World) (c:List Value) (x:Int):Prop:=c=[.int .u8 x]
theorem Bs.rV {w:World} {v:Value} {l:List Int} (h:Bs w v l):Rd 1 KZ w v l:=by
 obtain⟨-,a,cap,hv,h1,h2,h3,h4⟩:=h;refine⟨a,cap,λi=>[.int .u8 (l.getD i 0)],hv,h1,h2,h3,λi x hx=>⟨?_,rfl⟩,λhp=>?_⟩
 ·show[Value.int .u8 (l.getD i 0)]=_
  rw[List.getD_eq_getElem?_getD,hx];rfl
 ·obtain⟨b,off,ha,hb,hc⟩:=h4 hp
  refine⟨b,off,ha,hb,λi j y hi hy=>?_⟩;cases j with
  | zero =>
   simp at hy;subst hy;have h:=hc i hi;rw[show off+i * 1+0=off+i by omega];exact h
  | succ j=>simp at hy
theorem one_byte:∀(w:World) (c:List Value) (x:Int),KZ w c x->∀y ∈ c,y.oneCell'=true:=by
 rintro w c x rfl y hy;simp at hy;subst hy;rfl
theorem GV:∀(w:World) (c:List Value) (x:bE),Ab w c x->∀y ∈ c,y.oneCell'=true:=by
 rintro w c x ⟨rfl,-⟩ y hy;simp at hy;rcases hy with rfl | rfl <;> rfl
/-- What comes back, as bytes of the call's own, as a list of those that went. -/
theorem rW {w w0:World} {B:Nat} {v:Value} {l:List Int} {xs:List Value} {S:Nat->Prop} (ho:Oct l) (h:w.ownsRow B 5 1 v l.length xs) (hx:∀i x,l[i]?=some x->∃c,c.length=1/\KZ w0 c x/\∀j y,c[j]?=some y->xs[i * 1+j]?=some y) (hS:∀g,v.ownBlock=some g->S g):RO w S v l:=by
 have e:xs=vals l:=by
  apply List.ext_getElem?
  intro i;have hlen:=h.1
  by_cases hi:i < l.length
  ·obtain⟨c,-,hc,hj⟩:=hx i l[i] (bK hi)
   have hc':c=[.int .u8 l[i]]:=hc;subst hc';have:=hj 0 _ rfl;simp only[Nat.mul_one,Nat.add_zero] at this;rw[this];simp[vals,bK hi]
  ·rw[List.getElem?_eq_none (by omega),List.getElem?_eq_none (by simp[vals];omega)]
 subst e;refine⟨ho,⟨h.1,?_⟩,hS⟩;rcases h.2 with hn | ⟨g,cap,cur,hv,hg,r⟩
 ·exact .inl hn
 ·exact .inr ⟨g,cap,cur,hv,Nat.zero_le _,r⟩
theorem K3 {w w0:World} {B:Nat} {v:Value} {l:List bE} {xs:List Value} {S:Nat->Prop} (h:w.ownsRow B 115 2 v l.length xs) (hx:∀i x,l[i]?=some x->∃c,c.length=2/\Ab w0 c x/\∀j y,c[j]?=some y->xs[i * 2+j]?=some y) (hS:∀g,v.ownBlock=some g->S g):lI w S v l:=by
 rcases h.2 with⟨hn,hl⟩ | ⟨g,cap,cur,hv,hg,hh,h1,h2,h3,h4⟩
 ·exact .inl ⟨hn,List.eq_nil_of_length_eq_zero hl⟩
 ·refine .inr ⟨g,cap,cur,λi=>match l[i]? with | some x=>[.int .i64 x.uid,.int .i64 x.seq] | none=>[],λ_ _=>False,hv,hh,h1,h2,h3,hS g (by rw[hv];rfl),λi x hi=>?_,by simp,by simp⟩
  obtain⟨c,-,⟨hc,ZH⟩,hj⟩:=hx i x hi;simp only[hi];refine⟨⟨rfl,ZH⟩,rfl,λj y hy=>?_⟩;rw[← hc] at hy;have:=hj j y hy;rw[← h4,List.getElem?_take] at this
  split at this
  ·simpa using this
  ·cases this
/- Accounts read from bytes, on lists: as the specification reads (a place below 0 says that nothing is there), and as the program reads (none says so); both come to the same. -/
/-- What was read from p up to q stands there as the bytes y. -/
def GX (l:List Int) (p q:Int) (y:List Int):Prop:=p<=q/\q<=l.length/\l.take q.toNat=l.take p.toNat ++ y
theorem GX.trans {l:List Int} {p q r:Int} {y z:List Int} (h:GX l p q y) (k:GX l q r z):GX l p r (y ++ z):=⟨by have:=h.1;have:=k.1;omega,k.2.1,by rw[k.2.2,h.2.2,List.append_assoc]⟩
theorem QJ (C:Nat):∀(l:List aB),(∀b,b ∈ l->bG b<=C)->GK l<=(C+1) * l.length
 | [],_=>by simp[GK]
 | x :: l,h=>by
  have h1:=h x (by simp);have h2:=QJ C l (λm hm=>h m (by simp[hm]));simp only[GK,List.map_cons,List.sum_cons,List.length_cons,Nat.mul_add,Nat.mul_one] at h2 ⊢;omega
/- A cursor that is written while all else stays: what lies elsewhere, and what is new. -/
section
variable {w w' w'' : World} {g b : Nat}
theorem uf {o:Obj} (h:w.grownBy w' (some g)) (hb:w.heap[b]?=some o) (hne:b≠g):w'.heap[b]?=some o:=(h.block b (lt_of_heap hb) λe=>hne (by simpa using e)).trans hb
theorem Row.gr {B T:Nat} {v:Value} {l:List Int} (h:Row w B T v l) (hw:w.grownBy w' (some g)) (hd:g < B\/T<=g):Row w' B T v l:=h.drawn hw hd
variable {α : Type} {t : TypeId} {sz B T : Nat} {E : World -> List Value -> α -> (Nat -> Prop) -> Prop} {v : Value} {l : List α}
theorem aZ.gr [Fr E] (h:aZ t sz E w B T v l) (hw:w.grownBy w' (some g)) (hd:g < B\/T<=g):aZ t sz E w' B T v l :=
 Ow.frame Fr.out h λb hb hlt=>hw.block b hlt λe=>by have:=hb.1;have:=hb.2;simp only[Option.some.injEq] at e;omega
theorem aZ.QK [Fr E] {row:Option Nat} (h:aZ t sz E w B T v l) (hw:w.grownBy w' row) (hd:∀j,row=some j->T<=j):aZ t sz E w' B T v l :=
 Ow.frame Fr.out h λb hb hlt=>hw.block b hlt λe=>by have:=hd b e.symm;have:=hb.2;omega
end
theorem Row.QK {w w':World} {B T:Nat} {v:Value} {l:List Int} {row:Option Nat} (h:Row w B T v l) (hw:w.grownBy w' row) (hd:∀j,row=some j->T<=j):Row w' B T v l:=by
 refine⟨h.1,⟨h.2.1.1,?_⟩,h.2.2⟩;rcases h.2.1.2 with hn | ⟨g,cap,cur,hv,hg,hh,r⟩
 ·exact .inl hn
 ·have hlt:g < T:=h.2.2 g (by rw[hv];rfl)
  exact .inr ⟨g,cap,cur,hv,hg,(hw.block g (lt_of_heap hh) λe=>by have:=hd g e.symm;omega).trans hh,r⟩
/- What ZI of package spec do. -/
end Go.Proofs.YtfabngnaejjcmaaGreatDoor
