/- The proof's texts, part 22. -/
import Derived.Test.YtfabngnaejjcmaaGreatDoorT7
import Derived.Test.YtfabngnaejjcmaaGreatDoorTl
import Derived.Test.YtfabngnaejjcmaaGreatDoorT9
namespace Go.Proofs.YtfabngnaejjcmaaGreatDoor
open Go.RowKit
set_option linter.unusedVariables false
set_option linter.unusedSimpArgs false
set_option maxHeartbeats 2000000
/- What akn of package spec does: an account is copied, with all that it leads to. -/
theorem Uv {w:World} {c:List Value} {b:aB} {S:Nat->Prop} (h:gG w c b S):∃a0 n0 c0 a1 n1 c1 a2 n2 c2,c=[.slice a0 n0 c0,.int .i64 b.valid,.int .i64 b.next,.int .i64 b.seq,.slice a1 n1 c1,.slice a2 n2 c2,.int .i64 b.lost]:=by
 obtain⟨u0,u1,u2,S0,S1,S2,rfl,h0,h1,h2,-⟩:=h;obtain⟨a0,n0,c0,rfl⟩:=h0.bs.aP;obtain⟨a1,n1,c1,rfl⟩:=Aq.aP h1;obtain⟨a2,n2,c2,rfl⟩:=Aq.aP h2;exact⟨_,_,_,_,_,_,_,_,_,rfl⟩
/- GJ of a list of the call's own whose texts lie in memory that was there. -/
theorem Js {i j:Int}:∀u ∈ [Value.int .i64 i,.int .i64 j],Value.oneCell' u=true:=by
 intro u hu;simp only[List.mem_cons,List.not_mem_nil,or_false] at hu;rcases hu with rfl | rfl <;> rfl
/-- GJ whose texts lie where they lay in w. -/
def Jt (w:World) (_:World) (c:List Value) (m:aL) (_:Nat->Prop):Prop:=Aa w c m
theorem EN (w:World):Frames (Jt w):=λ_ _ _ _ _ h _=>h
def nO (w:World) (wr:World) (B T:Nat) (v:Value) (l:List aL):Prop:=Ow 77 4 (Jt w) wr (In B T) v l
theorem nO.v {w wr:World} {B T:Nat} {v:Value} {l:List aL} (h:nO w wr B T v l) (hb:Below w.heap.size w wr):jE wr v l:=by
 rcases h with⟨rfl,rfl⟩ | ⟨g,cap,cur,cs,fs,hv,hh,h1,h2,h3,h4,h5,h6,h7⟩
 ·exact Rd.nil wr
 ·refine⟨some ⟨g,0,none⟩,cap,cs,hv,h1,h2,(λh=>by cases h),λi x hx=>⟨kP _ _ _ _ hb (h5 i x hx).1,(h5 i x hx).2.1⟩,λhp=>⟨g,0,rfl,lt_of_heap hh,λi j u hi hu=>?_⟩⟩
  rw[Nat.zero_add,cell_of_row wr g _ cur _ (0,0) hh];exact(h5 i l[i] (bK hi)).2.2 j u hu
theorem Uw {w wr:World} {B T g i:Nat} {v x:Value} {l:List aL} (h:nO w wr B T v l) (hd:g < B\/T<=g):nO w (wr.setCell ⟨g,i,none⟩ x) B T v l :=
 Ow.frame (EN w) h λb hb _=>Below.heap_setCell _ _ _ _ (show b≠g by have:=hb.1;have:=hb.2;omega)
theorem acM {w wr wr':World} {B T:Nat} {row:Option Nat} {v:Value} {l:List aL} (h:Ow 77 4 (Jt w) wr (In B T) v l) (hw:wr.grownBy wr' row) (hd:∀j,row=some j->T<=j):nO w wr' B T v l :=
 Ow.frame (EN w) h λb hb hlt=>hw.block b hlt λe=>by have:=hd b e.symm;have:=hb.2;omega
theorem aK:av 0:=⟨by decide,by decide⟩
theorem Ux:av 4:=⟨by decide,by decide⟩
theorem nP (w:World):Bs w (.slice none 0 0) []:=(RO.nil w (λ_=>True)).bs
/- Variables that hold no part of what is read. -/
/-- Variables that hold no part of what an account reads. -/
def jM (w:World) (k:Nat):Prop:=Ty w k 39\/Ty w k 81\/Ty w k 35\/Ty w k 41
theorem BU {w:World} {k:Nat} {cs:Array Value} {t:TypeId} {fz:Nat × Nat} (hh:w.heap[k]?=some (.cells cs t fz)) (h:t≠39/\t≠81/\t≠35/\t≠41):¬jM w k:=λe=>by
 rcases e with e | e | e | e
 ·exact dX hh e h.1
 ·exact dX hh e h.2.1
 ·exact dX hh e h.2.2.1
 ·exact dX hh e h.2.2.2
theorem ext_eq {w w':World} {k:Nat} (h:w'.heap[k]?=w.heap[k]?) (he:jM w' k):jM w k:=by
 rcases he with⟨cs,fz,e⟩ | ⟨cs,fz,e⟩ | ⟨cs,fz,e⟩ | ⟨cs,fz,e⟩
 ·exact .inl ⟨cs,fz,h.symm.trans e⟩
 ·exact .inr (.inl ⟨cs,fz,h.symm.trans e⟩)
 ·exact .inr (.inr (.inl ⟨cs,fz,h.symm.trans e⟩))
 ·exact .inr (.inr (.inr ⟨cs,fz,h.symm.trans e⟩))
/-- It reads as an account wherever all but ako variables stay. -/
def pQ (w:World) (u:Value) (a:aT):Prop:=∀w':World,(∀k,k < w.heap.size->¬jM w k->w'.heap[k]?=w.heap[k]?)->mF w' u a
/- A record that is drawn, in a variable. -/
/-- All but variables stays. -/
def Keep (w w':World):Prop:=w.heap.size<=w'.heap.size/\∀k,k < w.heap.size->¬jM w k->w'.heap[k]?=w.heap[k]?
/-- A command that reads so wherever all but variables stays. -/
def ru (w:World) (u:Value) (c:gP):Prop:=∀w':World,(∀k,k < w.heap.size->¬jM w k->w'.heap[k]?=w.heap[k]?)->om w' u c.k c.bx c.tt c.uid c.mode c.fl c.si c.tx
/-- A record that does. -/
def vv (w:World) (u:Value) (r:RecD):Prop:=∀w':World,(∀k,k < w.heap.size->¬jM w k->w'.heap[k]?=w.heap[k]?)->iK w' u r
section
variable {w w1 w' wI : World} {u v : Value} {c : gP} {a : aT} {r : RecD} {g k kr : Nat} {l : List Int}
theorem Keep.then (h:Keep w w1) (h2:∀k,k < w1.heap.size->¬jM w1 k->w'.heap[k]?=w1.heap[k]?):∀k,k < w.heap.size->¬jM w k->w'.heap[k]?=w.heap[k]? :=
 λk hk hn=>(h2 k (Nat.lt_of_lt_of_le hk h.1) λe=>hn (ext_eq (h.2 k hk hn) e)).trans (h.2 k hk hn)
theorem Keep.trans (h:Keep w w1) (h2:Keep w1 w'):Keep w w':=⟨Nat.le_trans h.1 h2.1,h.then h2.2⟩
theorem Keep.below (h:Below w.heap.size w w'):Keep w w':=⟨h.size,λk hk _=>h.block k hk⟩
theorem Keep.gb (h:w.grownBy w' (some g)) (hg:jM w g):Keep w w':=⟨h.size,λk hk hn=>h.block k hk (by simp only[ne_eq,Option.some.injEq];rintro rfl;exact hn hg)⟩
theorem ru.keep (h:ru w u c) (hk:Keep w w1):ru w1 u c:=λw2 h2=>h w2 (hk.then h2)
theorem pQ.keep (h:pQ w u a) (hk:Keep w w1):pQ w1 u a:=λw2 h2=>h w2 (hk.then h2)
theorem Uy {q:Nat} (h:bL w q v l) (hall:∀k,k < w.heap.size->¬jM w k->w'.heap[k]?=w.heap[k]?):Bs w' v l :=
 (h.frame (hall q h.lt (by obtain⟨-,_,_,_,-,hh,-⟩:=h;exact BU hh (by decide)))).bs
theorem Uz (h:nN w v l) (hall:∀k,k < w.heap.size->¬jM w k->w'.heap[k]?=w.heap[k]?):Bs w' v l:=by
 rcases h with⟨rfl,rfl⟩ | ⟨q,h⟩
 ·exact vQ _
 ·exact Uy h hall
theorem UA (h:Jo wI w u c) (hv:om w u c.k c.bx c.tt c.uid c.mode c.fl c.si c.tx):ru w u c:=by
 obtain⟨a0,n0,c0,a1,n1,c1,v2,rfl,-,-,-,-,hx,o0,o1⟩:=h;obtain⟨_,_,_,-,-,-,-,i⟩:=hv;intro w' hall;refine⟨_,_,_,rfl,Uz o0 hall,Uz o1 hall,?_,i⟩;rcases hx with⟨rfl,e⟩ | ⟨q,hq,-⟩
 ·rw[e];exact vQ _
 ·exact Uy hq hall
theorem vw:av 0:=⟨by decide,by decide⟩
theorem UC (w:World):ru w (.agg #[.int .i64 0,.slice none 0 0,.slice none 0 0,.int .i64 0,.int .i64 0,.int .i64 0,.int .i64 0,.slice none 0 0]) ⟨0,[],[],0,0,0,0,[]⟩:=λw' _=>⟨_,_,_,rfl,vQ _,vQ _,vQ _,vw,vw,vw,vw,vw⟩
theorem UD (w:World):pQ w (.agg #[.int .i64 0,.slice none 0 0,.slice none 0 0]) ⟨0,[],[]⟩:=λw' _=>⟨_,_,rfl,Rd.nil _,Rd.nil _,vw⟩
theorem ru.form (h:ru w u c):∃a0 n0 c0 a1 n1 c1 a2 n2 c2,u=.agg #[.int .i64 c.k,.slice a0 n0 c0,.slice a1 n1 c1,.int .i64 c.uid,.int .i64 c.mode,.int .i64 c.fl,.int .i64 c.si,.slice a2 n2 c2]:=by
 obtain⟨_,_,_,rfl,q0,q1,q2,-⟩:=h w λ_ _ _=>rfl;obtain⟨a0,n0,c0,rfl⟩:=q0.aP;obtain⟨a1,n1,c1,rfl⟩:=q1.aP;obtain⟨a2,n2,c2,rfl⟩:=q2.aP;exact⟨_,_,_,_,_,_,_,_,_,rfl⟩
theorem pQ.form (h:pQ w u a):∃a3 n3 c3 a4 n4 c4,u=.agg #[.int .i64 a.valid,.slice a3 n3 c3,.slice a4 n4 c4]:=by
 obtain⟨_,_,rfl,s0,s1,-⟩:=h w λ_ _ _=>rfl;obtain⟨a3,c3,rfl,-⟩:=s0.form;obtain⟨a4,c4,rfl,-⟩:=s1.form;exact⟨_,_,_,_,_,_,rfl⟩
/-- The variable k holds the record r. -/
def dZ (w:World) (k:Nat) (r:RecD):Prop:=∃a0 n0 c0 a1 n1 c1 a2 n2 c2 a3 n3 c3 a4 n4 c4,w.heap[k]?=some (.cells #[.int .i64 r.kind,.int .i64 r.user,.int .i64 r.n,.int .i64 r.cmd.k,.slice a0 n0 c0,.slice a1 n1 c1,.int .i64 r.cmd.uid,.int .i64 r.cmd.mode,.int .i64 r.cmd.fl,.int .i64 r.cmd.si,.slice a2 n2 c2,.int .i64 r.acc.valid,.slice a3 n3 c3,.slice a4 n4 c4] 41 (0,0))/\ru w (.agg #[.int .i64 r.cmd.k,.slice a0 n0 c0,.slice a1 n1 c1,.int .i64 r.cmd.uid,.int .i64 r.cmd.mode,.int .i64 r.cmd.fl,.int .i64 r.cmd.si,.slice a2 n2 c2]) r.cmd/\pQ w (.agg #[.int .i64 r.acc.valid,.slice a3 n3 c3,.slice a4 n4 c4]) r.acc/\av r.kind/\av r.user/\av r.n
theorem MN {cs:Array Value} {fz:Nat × Nat} (h:w.heap[k]?=some (.cells cs 41 fz)):jM w k:=.inr (.inr (.inr ⟨_,_,h⟩))
theorem dZ.lt (h:dZ w k r):k < w.heap.size:=by
 obtain⟨_,_,_,_,_,_,_,_,_,_,_,_,_,_,_,h,-⟩:=h;exact lt_of_heap h
theorem dZ.keep (h:dZ w k r) (hk:Keep w w') (he:w'.heap[k]?=w.heap[k]?):dZ w' k r:=by
 obtain⟨a0,n0,c0,a1,n1,c1,a2,n2,c2,a3,n3,c3,a4,n4,c4,h,hc,ha,hi⟩:=h;exact⟨_,_,_,_,_,_,_,_,_,_,_,_,_,_,_,he.trans h,hc.keep hk,ha.keep hk,hi⟩
theorem dZ.gb (h:dZ w k r) (hG:w.grownBy w' (some g)) (hg:jM w g) (hne:k≠g):dZ w' k r:=h.keep (.gb hG hg) (hG.block k h.lt (by simpa using hne))
theorem dZ.below (h:dZ w k r) (hb:Below w.heap.size w w'):dZ w' k r:=h.keep (.below hb) (hb.block k h.lt)
/-- Stores into a variable that is none of its blocks, or is its own. -/
theorem lW {cs:Array Value} {fz:Nat × Nat} {i:Nat} {x:Value} (h:w.heap[k]?=some (.cells cs 41 fz)):Keep w (w.setCell ⟨k,i,none⟩ x):=⟨by rw[dW];exact Nat.le_refl _,λj _ hn=>Below.heap_setCell _ _ _ _ λe=>hn (e ▸ MN h)⟩
theorem dZ.set0 (h:dZ w k r) {x:Int} (hx:av x):dZ (w.setCell ⟨k,0,none⟩ (.int .i64 x)) k ⟨x,r.user,r.n,r.cmd,r.acc⟩:=by
 obtain⟨a0,n0,c0,a1,n1,c1,a2,n2,c2,a3,n3,c3,a4,n4,c4,h,hc,ha,i0,i1,i2⟩:=h;exact⟨_,_,_,_,_,_,_,_,_,_,_,_,_,_,_,aD (i:=0) (v:=.int .i64 x) h,hc.keep (lW h),ha.keep (lW h),hx,i1,i2⟩
theorem dZ.set1 (h:dZ w k r) {x:Int} (hx:av x):dZ (w.setCell ⟨k,1,none⟩ (.int .i64 x)) k ⟨r.kind,x,r.n,r.cmd,r.acc⟩:=by
 obtain⟨a0,n0,c0,a1,n1,c1,a2,n2,c2,a3,n3,c3,a4,n4,c4,h,hc,ha,i0,i1,i2⟩:=h;exact⟨_,_,_,_,_,_,_,_,_,_,_,_,_,_,_,aD (i:=1) (v:=.int .i64 x) h,hc.keep (lW h),ha.keep (lW h),i0,hx,i2⟩
theorem dZ.set2 (h:dZ w k r) {x:Int} (hx:av x):dZ (w.setCell ⟨k,2,none⟩ (.int .i64 x)) k ⟨r.kind,r.user,x,r.cmd,r.acc⟩:=by
 obtain⟨a0,n0,c0,a1,n1,c1,a2,n2,c2,a3,n3,c3,a4,n4,c4,h,hc,ha,i0,i1,i2⟩:=h;exact⟨_,_,_,_,_,_,_,_,_,_,_,_,_,_,_,aD (i:=2) (v:=.int .i64 x) h,hc.keep (lW h),ha.keep (lW h),i0,i1,hx⟩
theorem dZ.UE {b0 b1 b2:Option Addr} {m0 d0 m1 d1 m2 d2:Nat} (h:dZ w k r) (hn:ru w (.agg #[.int .i64 c.k,.slice b0 m0 d0,.slice b1 m1 d1,.int .i64 c.uid,.int .i64 c.mode,.int .i64 c.fl,.int .i64 c.si,.slice b2 m2 d2]) c):dZ ((((((((w.setCell ⟨k,3,none⟩ (.int .i64 c.k)).setCell ⟨k,4,none⟩ (.slice b0 m0 d0)).setCell ⟨k,5,none⟩ (.slice b1 m1 d1)).setCell ⟨k,6,none⟩ (.int .i64 c.uid)).setCell ⟨k,7,none⟩ (.int .i64 c.mode)).setCell ⟨k,8,none⟩ (.int .i64 c.fl)).setCell ⟨k,9,none⟩ (.int .i64 c.si)).setCell ⟨k,10,none⟩ (.slice b2 m2 d2)) k ⟨r.kind,r.user,r.n,c,r.acc⟩:=by
 obtain⟨a0,n0,c0,a1,n1,c1,a2,n2,c2,a3,n3,c3,a4,n4,c4,h0,hc,ha,hi⟩:=h;have h1:=aD (i:=3) (v:=Value.int .i64 c.k) h0;simp only[List.setIfInBounds_toArray,List.set_cons_succ,List.set_cons_zero] at h1;have h2:=aD (i:=4) (v:=Value.slice b0 m0 d0) h1;simp only[List.setIfInBounds_toArray,List.set_cons_succ,List.set_cons_zero] at h2;have h3:=aD (i:=5) (v:=Value.slice b1 m1 d1) h2;simp only[List.setIfInBounds_toArray,List.set_cons_succ,List.set_cons_zero] at h3;have h4:=aD (i:=6) (v:=Value.int .i64 c.uid) h3;simp only[List.setIfInBounds_toArray,List.set_cons_succ,List.set_cons_zero] at h4
 have h5:=aD (i:=7) (v:=Value.int .i64 c.mode) h4;simp only[List.setIfInBounds_toArray,List.set_cons_succ,List.set_cons_zero] at h5;have h6:=aD (i:=8) (v:=Value.int .i64 c.fl) h5;simp only[List.setIfInBounds_toArray,List.set_cons_succ,List.set_cons_zero] at h6;have h7:=aD (i:=9) (v:=Value.int .i64 c.si) h6;simp only[List.setIfInBounds_toArray,List.set_cons_succ,List.set_cons_zero] at h7;have h8:=aD (i:=10) (v:=Value.slice b2 m2 d2) h7;simp only[List.setIfInBounds_toArray,List.set_cons_succ,List.set_cons_zero] at h8
 have K:Keep w ((((((((w.setCell ⟨k,3,none⟩ (.int .i64 c.k)).setCell ⟨k,4,none⟩ (.slice b0 m0 d0)).setCell ⟨k,5,none⟩ (.slice b1 m1 d1)).setCell ⟨k,6,none⟩ (.int .i64 c.uid)).setCell ⟨k,7,none⟩ (.int .i64 c.mode)).setCell ⟨k,8,none⟩ (.int .i64 c.fl)).setCell ⟨k,9,none⟩ (.int .i64 c.si)).setCell ⟨k,10,none⟩ (.slice b2 m2 d2)):=(((((((lW h0).trans (lW h1)).trans (lW h2)).trans (lW h3)).trans (lW h4)).trans (lW h5)).trans (lW h6)).trans (lW h7);exact⟨b0,m0,d0,b1,m1,d1,b2,m2,d2,a3,n3,c3,a4,n4,c4,h8,hn.keep K,ha.keep K,hi⟩
theorem dZ.UF {b3 b4:Option Addr} {m3 d3 m4 d4:Nat} (h:dZ w k r) (hn:pQ w (.agg #[.int .i64 a.valid,.slice b3 m3 d3,.slice b4 m4 d4]) a):dZ (((w.setCell ⟨k,11,none⟩ (.int .i64 a.valid)).setCell ⟨k,12,none⟩ (.slice b3 m3 d3)).setCell ⟨k,13,none⟩ (.slice b4 m4 d4)) k ⟨r.kind,r.user,r.n,r.cmd,a⟩:=by
 obtain⟨a0,n0,c0,a1,n1,c1,a2,n2,c2,a3,n3,c3,a4,n4,c4,h0,hc,ha,hi⟩:=h;have h1:=aD (i:=11) (v:=Value.int .i64 a.valid) h0;simp only[List.setIfInBounds_toArray,List.set_cons_succ,List.set_cons_zero] at h1;have h2:=aD (i:=12) (v:=Value.slice b3 m3 d3) h1;simp only[List.setIfInBounds_toArray,List.set_cons_succ,List.set_cons_zero] at h2;have h3:=aD (i:=13) (v:=Value.slice b4 m4 d4) h2;simp only[List.setIfInBounds_toArray,List.set_cons_succ,List.set_cons_zero] at h3
 have K:Keep w (((w.setCell ⟨k,11,none⟩ (.int .i64 a.valid)).setCell ⟨k,12,none⟩ (.slice b3 m3 d3)).setCell ⟨k,13,none⟩ (.slice b4 m4 d4)):=((lW h0).trans (lW h1)).trans (lW h2);exact⟨a0,n0,c0,a1,n1,c1,a2,n2,c2,b3,m3,d3,b4,m4,d4,h3,hc.keep K,hn.keep K,hi⟩
theorem dZ.t (h:dZ w k r):∃a0 n0 c0 a1 n1 c1 a2 n2 c2 a3 n3 c3 a4 n4 c4,w.heap[k]?=some (.cells #[.int .i64 r.kind,.int .i64 r.user,.int .i64 r.n,.int .i64 r.cmd.k,.slice a0 n0 c0,.slice a1 n1 c1,.int .i64 r.cmd.uid,.int .i64 r.cmd.mode,.int .i64 r.cmd.fl,.int .i64 r.cmd.si,.slice a2 n2 c2,.int .i64 r.acc.valid,.slice a3 n3 c3,.slice a4 n4 c4] 41 (0,0))/\vv w (.agg #[.int .i64 r.kind,.int .i64 r.user,.int .i64 r.n,.int .i64 r.cmd.k,.slice a0 n0 c0,.slice a1 n1 c1,.int .i64 r.cmd.uid,.int .i64 r.cmd.mode,.int .i64 r.cmd.fl,.int .i64 r.cmd.si,.slice a2 n2 c2,.int .i64 r.acc.valid,.slice a3 n3 c3,.slice a4 n4 c4]) r:=by
 obtain⟨a0,n0,c0,a1,n1,c1,a2,n2,c2,a3,n3,c3,a4,n4,c4,h,hc,ha,hi⟩:=h;exact⟨_,_,_,_,_,_,_,_,_,_,_,_,_,_,_,h,λw' hall=>⟨_,_,_,_,_,rfl,hc w' hall,ha w' hall,hi⟩⟩
theorem vv.keep (h:vv w u r) (hk:Keep w w1):vv w1 u r:=λw2 h2=>h w2 (hk.then h2)
theorem vv.parts (h:vv w u r):∃a0 n0 c0 a1 n1 c1 a2 n2 c2 a3 n3 c3 a4 n4 c4,u=.agg #[.int .i64 r.kind,.int .i64 r.user,.int .i64 r.n,.int .i64 r.cmd.k,.slice a0 n0 c0,.slice a1 n1 c1,.int .i64 r.cmd.uid,.int .i64 r.cmd.mode,.int .i64 r.cmd.fl,.int .i64 r.cmd.si,.slice a2 n2 c2,.int .i64 r.acc.valid,.slice a3 n3 c3,.slice a4 n4 c4]/\ru w (.agg #[.int .i64 r.cmd.k,.slice a0 n0 c0,.slice a1 n1 c1,.int .i64 r.cmd.uid,.int .i64 r.cmd.mode,.int .i64 r.cmd.fl,.int .i64 r.cmd.si,.slice a2 n2 c2]) r.cmd/\pQ w (.agg #[.int .i64 r.acc.valid,.slice a3 n3 c3,.slice a4 n4 c4]) r.acc/\av r.kind/\av r.user/\av r.n:=by
 obtain⟨a0,n0,c0,a1,n1,c1,a2,n2,c2,a3,c3,a4,c4,rfl⟩:=(h w λ_ _ _=>rfl).form;obtain⟨_,_,_,_,_,-,-,-,i0,i1,i2⟩:=h w λ_ _ _=>rfl;refine⟨a0,n0,c0,a1,n1,c1,a2,n2,c2,a3,_,c3,a4,_,c4,rfl,λw' hall=>?_,λw' hall=>?_,i0,i1,i2⟩
 all_goals
  obtain⟨u0,u1,u2,u3,u4,e,hc,ha,-⟩:=h w' hall;simp only[Value.agg.injEq,Array.mk.injEq,List.cons.injEq,and_true,true_and] at e;obtain⟨rfl,rfl,rfl,rfl,rfl⟩:=e
  assumption
theorem dZ.new {a0 a1 a2 a3 a4:Option Addr} {n0 c0 n1 c1 n2 c2 n3 c3 n4 c4:Nat} (hc:ru w (.agg #[.int .i64 r.cmd.k,.slice a0 n0 c0,.slice a1 n1 c1,.int .i64 r.cmd.uid,.int .i64 r.cmd.mode,.int .i64 r.cmd.fl,.int .i64 r.cmd.si,.slice a2 n2 c2]) r.cmd) (ha:pQ w (.agg #[.int .i64 r.acc.valid,.slice a3 n3 c3,.slice a4 n4 c4]) r.acc) (hi:av r.kind/\av r.user/\av r.n):dZ (w.alloc (.cells #[.int .i64 r.kind,.int .i64 r.user,.int .i64 r.n,.int .i64 r.cmd.k,.slice a0 n0 c0,.slice a1 n1 c1,.int .i64 r.cmd.uid,.int .i64 r.cmd.mode,.int .i64 r.cmd.fl,.int .i64 r.cmd.si,.slice a2 n2 c2,.int .i64 r.acc.valid,.slice a3 n3 c3,.slice a4 n4 c4] 41)) w.heap.size r :=
 have B:Below w.heap.size w (w.alloc (.cells #[.int .i64 r.kind,.int .i64 r.user,.int .i64 r.n,.int .i64 r.cmd.k,.slice a0 n0 c0,.slice a1 n1 c1,.int .i64 r.cmd.uid,.int .i64 r.cmd.mode,.int .i64 r.cmd.fl,.int .i64 r.cmd.si,.slice a2 n2 c2,.int .i64 r.acc.valid,.slice a3 n3 c3,.slice a4 n4 c4] 41)):=bn _ _
 ⟨_,_,_,_,_,_,_,_,_,_,_,_,_,_,_,aW w _,hc.keep (.below B),ha.keep (.below B),hi⟩
theorem UG:(Tryz.prog.info? 41).map (·.size)=some 14:=by kernel_rfl
theorem acN {cs:Array Value} {fz:Nat × Nat} {vs:List Value} (h:w.heap[k]?=some (.cells cs 41 fz)):Keep w (w.setCells k 0 vs):=⟨by rw[Qt];exact Nat.le_refl _,λj _ hn=>Qs _ _ (λe=>hn (by rw[e];exact MN h)) _ _ _⟩
theorem aS.ext {w0:World} {cv:Value} (h:aS w0 w g cv l):jM w g:=by
 obtain⟨-,-,-,i,q,-,-,hh⟩:=h;exact .inr (.inl ⟨_,_,hh⟩)
def rA (kd us n:Int):RecD:=⟨kd,us,n,⟨0,[],[],0,0,0,0,[]⟩,⟨0,[],[]⟩⟩
theorem MO (w:World) {kd us n:Int} (i0:av kd) (i1:av us) (i2:av n):vv w (.agg #[.int .i64 kd,.int .i64 us,.int .i64 n,.int .i64 0,.slice none 0 0,.slice none 0 0,.int .i64 0,.int .i64 0,.int .i64 0,.int .i64 0,.slice none 0 0,.int .i64 0,.slice none 0 0,.slice none 0 0]) (rA kd us n):=λw' _=>⟨_,_,_,_,_,rfl,UC w' w' λ_ _ _=>rfl,UD w' w' λ_ _ _=>rfl,i0,i1,i2⟩
theorem MP {kd us n:Int} (h:w.heap[k]?=some (.cells #[.int .i64 kd,.int .i64 us,.int .i64 n,.int .i64 0,.slice none 0 0,.slice none 0 0,.int .i64 0,.int .i64 0,.int .i64 0,.int .i64 0,.slice none 0 0,.int .i64 0,.slice none 0 0,.slice none 0 0] 41 (0,0))) (i0:av kd) (i1:av us) (i2:av n):dZ w k (rA kd us n):=⟨_,_,_,_,_,_,_,_,_,_,_,_,_,_,_,h,UC w,UD w,i0,i1,i2⟩
/-- A record as its cells, whatever they are. -/
def oG (w:World) (cs:List Value) (r:RecD):Prop:=cs.length=14/\(∀v ∈ cs,v.oneCell'=true)/\vv w (.agg cs.toArray) r
theorem oG.keep {cs:List Value} (h:oG w cs r) (hk:Keep w w1):oG w1 cs r:=⟨h.1,h.2.1,h.2.2.keep hk⟩
theorem oG.fin {cs:List Value} {ys:Array Value} (h:oG w cs r) (h0:w.heap[k]?=some (.cells cs.toArray 41 (0,0))) (hr:w.heap[kr]?=some (.cells ys 41 (0,0))) (hy:ys.size=14):w.rangeAt k 0 cs/\w.there kr 0 cs.toArray.size/\(w.setCells kr 0 cs).heap[kr]?=some (.cells cs.toArray 41 (0,0))/\oG (w.setCells kr 0 cs) cs r/\(Tryz.prog.info? 41).map (·.size)=some cs.length/\(Tryz.prog.info? 41).map (·.size)=some cs.toArray.size/\cs.toArray.all (·.oneCell')=true :=
 ⟨by simpa using Zm h0,Zl hr (by rw[hy,List.size_toArray,h.1];exact Nat.le_refl _),Zn hr cs (by rw[hy,h.1]),h.keep (acN hr),h.1 ▸ UG,by rw[List.size_toArray,h.1];exact UG,all_oneCell_toArray h.2.1⟩
theorem dZ.cs (h:dZ w k r):∃cs:List Value,w.heap[k]?=some (.cells cs.toArray 41 (0,0))/\oG w cs r:=by
 obtain⟨a0,n0,c0,a1,n1,c1,a2,n2,c2,a3,n3,c3,a4,n4,c4,h0,ht⟩:=h.t;refine⟨[.int .i64 r.kind,.int .i64 r.user,.int .i64 r.n,.int .i64 r.cmd.k,.slice a0 n0 c0,.slice a1 n1 c1,.int .i64 r.cmd.uid,.int .i64 r.cmd.mode,.int .i64 r.cmd.fl,.int .i64 r.cmd.si,.slice a2 n2 c2,.int .i64 r.acc.valid,.slice a3 n3 c3,.slice a4 n4 c4],h0,rfl,?_,ht⟩;intro v hv;simp only[List.mem_cons,List.not_mem_nil,or_false] at hv;rcases hv with rfl | rfl | rfl | rfl | rfl | rfl | rfl | rfl | rfl | rfl | rfl | rfl | rfl | rfl <;> rfl
theorem oG.parts {cs:List Value} (h:oG w cs r):∃a0 n0 c0 a1 n1 c1 a2 n2 c2 a3 n3 c3 a4 n4 c4,cs=[.int .i64 r.kind,.int .i64 r.user,.int .i64 r.n,.int .i64 r.cmd.k,.slice a0 n0 c0,.slice a1 n1 c1,.int .i64 r.cmd.uid,.int .i64 r.cmd.mode,.int .i64 r.cmd.fl,.int .i64 r.cmd.si,.slice a2 n2 c2,.int .i64 r.acc.valid,.slice a3 n3 c3,.slice a4 n4 c4]:=by
 obtain⟨a0,n0,c0,a1,n1,c1,a2,n2,c2,a3,n3,c3,a4,n4,c4,e,-⟩:=h.2.2.parts;simp only[Value.agg.injEq] at e;exact⟨_,_,_,_,_,_,_,_,_,_,_,_,_,_,_,by simpa using congrArg Array.toList e⟩
theorem oG.new {cs:List Value} (h:oG w cs r):dZ (w.alloc (.cells cs.toArray 41)) w.heap.size r:=by
 obtain⟨a0,n0,c0,a1,n1,c1,a2,n2,c2,a3,n3,c3,a4,n4,c4,e,hc,ha,i⟩:=h.2.2.parts;simp only[Value.agg.injEq] at e;rw[e];exact dZ.new hc ha i
end
/- Records of a book, plain but for one. -/
def EO (_:World) (c:List Value) (r:RecD) (_:Nat->Prop):Prop:=∃kd us n:Int,av kd/\av us/\av n/\r=rA kd us n/\c=[.int .i64 kd,.int .i64 us,.int .i64 n,.int .i64 0,.slice none 0 0,.slice none 0 0,.int .i64 0,.int .i64 0,.int .i64 0,.int .i64 0,.slice none 0 0,.int .i64 0,.slice none 0 0,.slice none 0 0]
/-- Plain, or the one that is told. -/
def EP (c1:List Value) (r1:RecD) (w:World) (c:List Value) (r:RecD) (S:Nat->Prop):Prop:=EO w c r S\/(c=c1/\r=r1)
theorem BX:Frames EO:=λ_ _ _ _ _ h _=>h
theorem MQ (c1:List Value) (r1:RecD):Frames (EP c1 r1):=λ_ _ _ _ _ h _=>h
theorem UH {w:World} {S:Nat->Prop} {v:Value} {l:List RecD} {c1:List Value} {r1:RecD} (h:Ow 41 14 EO w S v l):Ow 41 14 (EP c1 r1) w S v l:=by
 rcases h with h | ⟨g,cap,cur,cs,fs,hv,hh,h1,h2,h3,h4,h5,h6,h7⟩
 ·exact .inl h
 ·exact .inr ⟨g,cap,cur,cs,fs,hv,hh,h1,h2,h3,h4,λi x hx=>⟨.inl (h5 i x hx).1,(h5 i x hx).2⟩,h6,h7⟩
theorem acO {w:World} {S:Nat->Prop} {v:Value} {l:List RecD} {c1:List Value} {r1:RecD} (h:Ow 41 14 (EP c1 r1) w S v l) (h1:iK w (.agg c1.toArray) r1):RecsV w v l:=by
 have:Rd 14 (λ(_:World) c x=>Hu w c x) w v l:=h.rd λw' c x S' he=>by
  rcases he with⟨kd,us,n,i0,i1,i2,rfl,rfl⟩ | ⟨rfl,rfl⟩
  ·exact MO w i0 i1 i2 w λ_ _ _=>rfl
  ·exact h1
 exact this
/- Two rows of books are put into two variables: what is in hand, whatever is done. -/
abbrev UJ (b:Bool) (x:bH):Obj:=cond b (.cells #[.int .i64 x.epoch,.int .i64 x.owner,.bool x.moving,.int .i64 x.tr,.int .i64 x.target] 33) (.cells #[.int .i64 0,.int .i64 0,.bool false,.int .i64 0,.int .i64 0] 33)
abbrev BZ (w:World) (b:Nat) (x:bH):World:=((((w.setCell ⟨b,0,none⟩ (.int .i64 x.epoch)).setCell ⟨b,1,none⟩ (.int .i64 x.owner)).setCell ⟨b,2,none⟩ (.bool x.moving)).setCell ⟨b,3,none⟩ (.int .i64 x.tr)).setCell ⟨b,4,none⟩ (.int .i64 x.target)
structure LB (B0:World) (kx ky:Nat) (xs ys:Value) (px py:Addr) (u:Int) (X Y:bH) (L:Nat->Bool) (V:Nat->Value) (z:World):Prop where
 d:Below B0.heap.size B0 z
 f0:L 0=true->V 0=.pointer (some ⟨kx,0,none⟩)
 f1:L 1=true->V 1=xs
 f2:L 2=true->V 2=.int .i64 u
 f3:L 3=true->V 3=.pointer (some px)
 f4:L 4=true->V 4=.agg #[.int .i64 X.epoch,.int .i64 X.owner,.bool X.moving,.int .i64 X.tr,.int .i64 X.target]
 f5:L 5=true->V 5=.pointer (some ⟨ky,0,none⟩)
 f6:L 6=true->V 6=ys
 f7:L 7=true->V 7=.int .i64 u
 f8:L 8=true->V 8=.pointer (some py)
 f9:L 9=true->V 9=.agg #[.int .i64 Y.epoch,.int .i64 Y.owner,.bool Y.moving,.int .i64 Y.tr,.int .i64 Y.target]
 f10:L 10=true->∃b,V 10=.pointer (some ⟨b,0,none⟩)/\B0.heap.size<=b/\z.heap[b]?=some (UJ (L 12) X)/\(L 11=true->V 11≠.pointer (some ⟨b,0,none⟩))
 f11:L 11=true->∃b,V 11=.pointer (some ⟨b,0,none⟩)/\B0.heap.size<=b/\z.heap[b]?=some (UJ (L 13) Y)
abbrev MR:List (List Nat):=[[],[0],[],[1,2],[3],[],[5],[],[6,7],[8],[],[],[0,1,2,3,4,10,11],[0,1,2,3,4,5,6,7,8,9,10,11,12]]
section
variable {B0 x z : World} {kx ky : Nat} {xs ys v : Value} {px py : Addr} {u : Int} {X Y : bH} {L : Nat -> Bool} {V : Nat -> Value}
theorem UK {w:World} {b:Nat} {y0 y1 y2 y3 y4:Value} (h:w.heap[b]?=some (.cells #[y0,y1,y2,y3,y4] 33 (0,0))):(BZ w b X).heap[b]?=some (.cells #[.int .i64 X.epoch,.int .i64 X.owner,.bool X.moving,.int .i64 X.tr,.int .i64 X.target] 33 (0,0)) :=
 aD (i:=4) (v:=.int .i64 X.target) (aD (i:=3) (v:=.int .i64 X.tr) (aD (i:=2) (v:=.bool X.moving) (aD (i:=1) (v:=.int .i64 X.owner) (aD (i:=0) (v:=.int .i64 X.epoch) h))))
theorem UL {w:World} {b c:Nat} (h:c≠b):(BZ w b X).heap[c]?=w.heap[c]?:=by
 have e:∀(W:World) (i:Nat) (x:Value),(W.setCell ⟨b,i,none⟩ x).heap[c]?=W.heap[c]?:=λW i x=>Below.heap_setCell _ _ _ _ (show c≠b from h);simp only[BZ,e]
theorem UM {w0 w:World} {B b:Nat} (hb:Below B w0 w) (h:B<=b):Below B w0 (BZ w b X):=((((hb.setCell (p:=⟨b,0,none⟩) h _).setCell (p:=⟨b,1,none⟩) h _).setCell (p:=⟨b,2,none⟩) h _).setCell (p:=⟨b,3,none⟩) h _).setCell (p:=⟨b,4,none⟩) h _
theorem UN {i:Nat} (j:Nat) (hC:yJ MR L) (hi:L i=false) {wj:List Nat} (hj:MR[j]?=some wj:=by rfl) (hm:wj.contains i=true:=by rfl):L j=false:=by
 cases h:L j
 ·rfl
 ·rw[uF.1 (hC j _ hj h) i (by simpa using hm)] at hi;cases hi
theorem UO {a b:Nat} (h:a≠b):Value.pointer (some ⟨a,0,none⟩)≠.pointer (some ⟨b,0,none⟩):=λe=>h (by simp only[Value.pointer.injEq,Option.some.injEq,Addr.mk.injEq,and_true] at e;exact e)
theorem LB.nQ (h:LB B0 kx ky xs ys px py u X Y L V x):LB B0 kx ky xs ys px py u X Y (iy L 0) (jf V 0 (.pointer (some ⟨kx,0,none⟩))) x:=⟨h.d,λ_=>rfl,h.f1,h.f2,h.f3,h.f4,h.f5,h.f6,h.f7,h.f8,h.f9,h.f10,h.f11⟩
theorem LB.nR (h:LB B0 kx ky xs ys px py u X Y L V x):LB B0 kx ky xs ys px py u X Y (iy L 1) (jf V 1 (xs)) x:=⟨h.d,h.f0,λ_=>rfl,h.f2,h.f3,h.f4,h.f5,h.f6,h.f7,h.f8,h.f9,h.f10,h.f11⟩
theorem LB.nS (h:LB B0 kx ky xs ys px py u X Y L V x):LB B0 kx ky xs ys px py u X Y (iy L 2) (jf V 2 (.int .i64 u)) x:=⟨h.d,h.f0,h.f1,λ_=>rfl,h.f3,h.f4,h.f5,h.f6,h.f7,h.f8,h.f9,h.f10,h.f11⟩
theorem LB.on3 (h:LB B0 kx ky xs ys px py u X Y L V x):LB B0 kx ky xs ys px py u X Y (iy L 3) (jf V 3 (.pointer (some px))) x:=⟨h.d,h.f0,h.f1,h.f2,λ_=>rfl,h.f4,h.f5,h.f6,h.f7,h.f8,h.f9,h.f10,h.f11⟩
theorem LB.on4 (h:LB B0 kx ky xs ys px py u X Y L V x):LB B0 kx ky xs ys px py u X Y (iy L 4) (jf V 4 (.agg #[.int .i64 X.epoch,.int .i64 X.owner,.bool X.moving,.int .i64 X.tr,.int .i64 X.target])) x:=⟨h.d,h.f0,h.f1,h.f2,h.f3,λ_=>rfl,h.f5,h.f6,h.f7,h.f8,h.f9,h.f10,h.f11⟩
theorem LB.on5 (h:LB B0 kx ky xs ys px py u X Y L V x):LB B0 kx ky xs ys px py u X Y (iy L 5) (jf V 5 (.pointer (some ⟨ky,0,none⟩))) x:=⟨h.d,h.f0,h.f1,h.f2,h.f3,h.f4,λ_=>rfl,h.f6,h.f7,h.f8,h.f9,h.f10,h.f11⟩
theorem LB.on6 (h:LB B0 kx ky xs ys px py u X Y L V x):LB B0 kx ky xs ys px py u X Y (iy L 6) (jf V 6 (ys)) x:=⟨h.d,h.f0,h.f1,h.f2,h.f3,h.f4,h.f5,λ_=>rfl,h.f7,h.f8,h.f9,h.f10,h.f11⟩
theorem LB.on7 (h:LB B0 kx ky xs ys px py u X Y L V x):LB B0 kx ky xs ys px py u X Y (iy L 7) (jf V 7 (.int .i64 u)) x:=⟨h.d,h.f0,h.f1,h.f2,h.f3,h.f4,h.f5,h.f6,λ_=>rfl,h.f8,h.f9,h.f10,h.f11⟩
theorem LB.on8 (h:LB B0 kx ky xs ys px py u X Y L V x):LB B0 kx ky xs ys px py u X Y (iy L 8) (jf V 8 (.pointer (some py))) x:=⟨h.d,h.f0,h.f1,h.f2,h.f3,h.f4,h.f5,h.f6,h.f7,λ_=>rfl,h.f9,h.f10,h.f11⟩
theorem LB.on9 (h:LB B0 kx ky xs ys px py u X Y L V x):LB B0 kx ky xs ys px py u X Y (iy L 9) (jf V 9 (.agg #[.int .i64 Y.epoch,.int .i64 Y.owner,.bool Y.moving,.int .i64 Y.tr,.int .i64 Y.target])) x:=⟨h.d,h.f0,h.f1,h.f2,h.f3,h.f4,h.f5,h.f6,h.f7,h.f8,λ_=>rfl,h.f10,h.f11⟩
theorem LB.acW (h:LB B0 kx ky xs ys px py u X Y L V x) (h12:L 12=false):LB B0 kx ky xs ys px py u X Y (iy L 10) (jf V 10 (.pointer (some ⟨x.heap.size,0,none⟩))) (x.alloc (.cells #[.int .i64 0,.int .i64 0,.bool false,.int .i64 0,.int .i64 0] 33)):=by
 have B:Below x.heap.size x (x.alloc (.cells #[.int .i64 0,.int .i64 0,.bool false,.int .i64 0,.int .i64 0] 33)):=bn _ _;refine⟨Below.step h.d B,h.f0,h.f1,h.f2,h.f3,h.f4,h.f5,h.f6,h.f7,h.f8,h.f9,λ_=>⟨_,rfl,h.d.size,?_,λq=>?_⟩,λq=>let ⟨b,e,r,k⟩:=h.f11 q;⟨b,e,r,aA B k⟩⟩
 ·rw[show iy L 10 12=L 12 from rfl,h12];exact aW _ _
 ·obtain⟨b,e,r,k⟩:=h.f11 q
  rw[show jf V 10 (.pointer (some ⟨x.heap.size,0,none⟩)) 11=V 11 from rfl,e];exact UO (by have:=lt_of_heap k;omega)
theorem LB.acX (h:LB B0 kx ky xs ys px py u X Y L V x) (MS:L 13=false):LB B0 kx ky xs ys px py u X Y (iy L 11) (jf V 11 (.pointer (some ⟨x.heap.size,0,none⟩))) (x.alloc (.cells #[.int .i64 0,.int .i64 0,.bool false,.int .i64 0,.int .i64 0] 33)):=by
 have B:Below x.heap.size x (x.alloc (.cells #[.int .i64 0,.int .i64 0,.bool false,.int .i64 0,.int .i64 0] 33)):=bn _ _;refine⟨Below.step h.d B,h.f0,h.f1,h.f2,h.f3,h.f4,h.f5,h.f6,h.f7,h.f8,h.f9,λq=>?_,λ_=>⟨_,rfl,h.d.size,?_⟩⟩
 ·obtain⟨b,e,r,k,-⟩:=h.f10 q
  exact⟨b,e,r,aA B k,λ_=>UO (by have:=lt_of_heap k;omega)⟩
 ·rw[show iy L 11 13=L 13 from rfl,MS];exact aW _ _
theorem LB.acY (h:LB B0 kx ky xs ys px py u X Y L V x) (hw:pz L [0,1,2,3,4,10,11]) (h12:L 12=false):∃b,V 10=.pointer (some ⟨b,0,none⟩)/\x.heap[b]?=some (.cells #[.int .i64 0,.int .i64 0,.bool false,.int .i64 0,.int .i64 0] 33 (0,0))/\∀v,LB B0 kx ky xs ys px py u X Y (iy L 12) (jf V 12 v) (BZ x b X):=by
 obtain⟨-,-,-,-,-,k10,k11,-⟩:=hw;obtain⟨b,e,r,k,d⟩:=h.f10 k10;obtain⟨c,e',r',k'⟩:=h.f11 k11;rw[h12] at k;refine⟨b,e,k,λv=>⟨UM h.d r,h.f0,h.f1,h.f2,h.f3,h.f4,h.f5,h.f6,h.f7,h.f8,h.f9,λ_=>⟨b,e,r,UK k,λq=>d q⟩,λ_=>⟨c,e',r',(UL λq=>d k11 (by rw[e',q])).trans k'⟩⟩⟩
theorem LB.acZ (h:LB B0 kx ky xs ys px py u X Y L V x) (hw:pz L [0,1,2,3,4,5,6,7,8,9,10,11,12]) (MS:L 13=false):∃b,V 11=.pointer (some ⟨b,0,none⟩)/\x.heap[b]?=some (.cells #[.int .i64 0,.int .i64 0,.bool false,.int .i64 0,.int .i64 0] 33 (0,0))/\∀v,LB B0 kx ky xs ys px py u X Y (iy L 13) (jf V 13 v) (BZ x b Y):=by
 obtain⟨-,-,-,-,-,-,-,-,-,-,k10,k11,-⟩:=hw;obtain⟨b,e,r,k,d⟩:=h.f10 k10;obtain⟨c,e',r',k'⟩:=h.f11 k11;rw[MS] at k';refine⟨c,e',k',λv=>⟨UM h.d r',h.f0,h.f1,h.f2,h.f3,h.f4,h.f5,h.f6,h.f7,h.f8,h.f9,λ_=>⟨b,e,r,(UL λq=>d k11 (by rw[e',q])).trans k,λq=>d q⟩,λ_=>⟨c,e',r',UK k'⟩⟩⟩
theorem LB.start (h:Below B0.heap.size B0 x) {n:Nat} (hm:n=14):LB B0 kx ky xs ys px py u X Y (λi=>Nat.ble n i) V x:=by
 subst hm;have hn:∀i,i < 14->Nat.ble 14 i=false:=λi hi=>Bool.eq_false_iff.2 λq=>by have:=Nat.le_of_ble_eq_true q;omega
 have n:∀i,i < 14->∀ {p:Prop},Nat.ble 14 i=true->p:=λi hi p q=>by rw[hn i hi] at q;cases q
 exact⟨h,n 0 (by decide),n 1 (by decide),n 2 (by decide),n 3 (by decide),n 4 (by decide),n 5 (by decide),n 6 (by decide),n 7 (by decide),n 8 (by decide),n 9 (by decide),n 10 (by decide),n 11 (by decide)⟩
theorem LB.fin (h:LB B0 kx ky xs ys px py u X Y (λ_=>true) V x):∃b c,V 10=.pointer (some ⟨b,0,none⟩)/\V 11=.pointer (some ⟨c,0,none⟩)/\Hid (x.heap[b]?=some (.cells #[.int .i64 X.epoch,.int .i64 X.owner,.bool X.moving,.int .i64 X.tr,.int .i64 X.target] 33 (0,0)))/\Hid (x.heap[c]?=some (.cells #[.int .i64 Y.epoch,.int .i64 Y.owner,.bool Y.moving,.int .i64 Y.tr,.int .i64 Y.target] 33 (0,0)))/\Hid (Below B0.heap.size B0 x):=by
 obtain⟨b,e,-,k,-⟩:=h.f10 rfl;obtain⟨c,e',-,k'⟩:=h.f11 rfl;exact⟨b,c,e,e',k,k',h.d⟩
end
end Go.Proofs.YtfabngnaejjcmaaGreatDoor
