/- The proof's texts, part 42. -/
import Derived.Test.YtfabngnaejjcmaaGreatDoorTl
namespace Go.Proofs.YtfabngnaejjcmaaGreatDoor
open Go.RowKit
set_option linter.unusedVariables false
set_option linter.unusedSimpArgs false
set_option maxHeartbeats 1000000
set_option maxRecDepth 100000
/- What alJ of package impl does. -/
theorem Yc (wt:Bool) (v:Value) (l:List Int) (w:World) (hv:Bs w v l) :
  Calls Tryz.prog 104 #[.bool wt,v] w λe w'=>e=.returned (.bool (bif wt then gF l else decide (l.length=0)))/\Below w.heap.size w w':=by
 have H:Hid (Bs w v l):=hv;obtain⟨ho,a,cap,rfl,hlc,hcm,-⟩:=hv;cases wt with
 | true =>
  go_enter Tryz.func104,Tryz.ntmps104;go_wp2_with (first | (go_at_call 132;refine(Qw _ l _ H.out).mono ?_;rintro e w1 ⟨rfl,B⟩))
  go_ret;exact⟨aN rfl,B⟩
 | false =>
  by_cases h:l.length=0
  ·have h':l=[]:=List.eq_nil_of_length_eq_zero h
   subst h'
   go_enter Tryz.func104,Tryz.ntmps104;go_wp2;go_ret;exact⟨aN rfl,Below.refl _ _⟩
  ·have h2:(l.length:Int)≠0:=by omega
   have e:Hid ((bif false then gF l else decide (l.length=0))=false):=by simp[Hid];exact λe=>h (by rw[e];rfl)
   generalize l.length=n at h2 hlc h e
   go_enter Tryz.func104,Tryz.ntmps104;go_wp2;go_ret;exact⟨aN (e.out.trans (by simp[h])),Below.refl _ _⟩
/-- Which fields a kind of command has. -/
def Kj (k:Int):Value :=
 .agg #[.bool (!decide (k=9)),.bool (decide (k=6)),.int .i64 (if k=3\/k=5\/k=6 then 1 else 0),.int .i64 (if k=3\/k=5\/k=6 then 1000000 else 0),.int .i64 (if k=3 then 2 else if k=6 then 1 else 0),
  .int .i64 (if k=2\/k=3 then 31 else 0),.int .i64 (if k=3\/k=8 then 1000000 else 0),.int .i64 (if k=2 then 30 else 0)]
theorem ag1 (k:Int) (h:0<=k/\k<=9) (w:World) :
  Calls Tryz.prog 103 #[.int .i64 k] w λe w'=>e=.returned (Kj k)/\Below w.heap.size w w':=by
 have hk:k=0\/k=1\/k=2\/k=3\/k=4\/k=5\/k=6\/k=7\/k=8\/k=9:=by omega
 clear h;rcases hk with rfl | rfl | rfl | rfl | rfl | rfl | rfl | rfl | rfl | rfl
 all_goals
  go_enter Tryz.func103,Tryz.ntmps103;go_wp2
 all_goals refine bodyPost_ret (v:=Kj _) (by simp[results,Tryz.results103,go_sem,Kj]) rfl ⟨rfl,?_⟩
 all_goals exact bn _ _
/- A list of operations. -/
section
variable {P : Program} {w0 : World} {φ : Ph} {s s' : Ob} {w : World} {n n' : Nat} {r l1 : Lg} {v : AV}
noncomputable def marksOf (E:Env) (N:Nat):List AV:=match T.get E N with | some (.agg l)=>l | _=>[]
def zS (φ:Ph):List AV->List Deferred->Prop
 | [],[]=>True
 | .ptr i _ :: l,d :: ds=>(∃b x,φ i=some (b,x)/\d = { target:=.collected b,args:=#[] })/\zS φ l ds
 | _,_=>False
theorem zS.le {φ ψ:Ph} (h:φ.le ψ):∀ {l:List AV} {ds:List Deferred},zS φ l ds->zS ψ l ds
 | [],[],_=>trivial
 | v :: l,d :: ds,hm=>by
  cases v with
  | ptr i o=>obtain⟨⟨b,x,h1,h2⟩,h3⟩:=hm;exact⟨⟨b,x,h i _ h1,h2⟩,zS.le h h3⟩
  | _=>exact hm.elim
 | [],_ :: _,hm=>hm.elim
 | v :: l,[],hm=>by cases v <;> exact hm.elim
/-- What the slots say. -/
structure iG (φ:Ph) (N:Nat) (E:Env) (a:Act):Prop where
 size:a.tmps.size=N
 val:∀t v,t < N->T.get E t=some v->∃V,v.den φ=some V/\a.tmps[t]?=some V
 marks:zS φ (marksOf E N) a.defers
theorem iG.le {φ ψ:Ph} {N:Nat} {E:Env} {a:Act} (h:iG φ N E a) (hl:φ.le ψ):iG ψ N E a :=
 ⟨h.size,λt v ht hv=>let ⟨V,h1,h2⟩:=h.val t v ht hv;⟨V,AV.sN hl v h1,h2⟩,h.marks.le hl⟩
theorem Gf {N:Nat} {E:Env} {a:Act} (h:iG φ N E a):sZ φ (env N E) a.eval:=by
 intro x v s n s' n' r l e;cases x with
 | tmp t =>
  obtain⟨hb,e1⟩:=eG e;obtain⟨h1,h2,h3⟩:=bW e1;obtain⟨V,k1,k2⟩:=h.val t v (mP hb) h1;exact⟨h2,h3,by simp[Act.eval,Array.getD_eq_getD_getElem?,k2,k1]⟩
 | const u =>
  obtain⟨h1,h2,h3⟩:=bW e;exact⟨h2,h3,BM h1⟩
 | global g=>cases e
 | func f=>obtain⟨rfl,rfl,rfl⟩:=aF e;exact⟨rfl,rfl,rfl⟩
theorem CB {E:Env} {d t:Nat} {u:AV}:T.get (E.set (some d) u) t=if t=d then (match u with | .bad=>none | u=>some u) else T.get E t:=by
 unfold Env.set;cases u <;> exact T.get_put _ _ _ _
theorem iG.set {N:Nat} {E:Env} {a:Act} {o:Option Nat} {V:Value} (h:iG φ N E a) (ho:SV N o=true) (hv:v=.bad\/v.den φ=some V):iG φ N (E.set o v) (a.put o V):=by
 cases o with
 | none=>exact h
 | some d =>
  have hd:d < N:=mP ho;refine⟨by simp[Act.put,h.size],λt u ht hu=>?_,?_⟩
  ·rw[CB] at hu
   by_cases e:t=d
   ·subst e
    rw[if_pos rfl] at hu;have hlt:t < a.tmps.size:=by rw[h.size];exact hd
    rcases hv with rfl | hv
    ·cases hu
    ·have:u=v:=by cases v <;> cases hu <;> rfl
     subst this;exact⟨V,hv,by simp[Act.put,hlt]⟩
   ·rw[if_neg e] at hu
    obtain⟨U,h1,h2⟩:=h.val t u ht hu;exact⟨U,h1,by simp only[Act.put];rw[Array.getElem?_setIfInBounds_ne (λh=>e h.symm)];exact h2⟩
  ·have:marksOf (E.set (some d) v) N=marksOf E N:=by
    unfold marksOf;rw[CB,if_neg (by omega)]
   rw[this];exact h.marks
theorem ag2 {N:Nat} {ops:Array Oper} {E:Env} {a:Act} {o:Oper} {b:Bool} (h:iG φ N E a) (e:uP N ops.toList E o s n=.ok b s' n' r l1):s'=s/\n'=n/\Region.wanted o (yielded ops a.tmps)=b:=by
 unfold uP at e;unfold Region.wanted;cases hg:o.guard with
 | none=>rw[hg] at e;obtain⟨rfl,rfl,rfl⟩:=aF (show(pure true:M _) _ _=_ from e);exact⟨rfl,rfl,rfl⟩
 | some jb =>
  obtain⟨j,bb⟩:=jb;rw[hg] at e;obtain⟨d,s1,n1,r1,m1,r2,m2,e1,e2,rfl,rfl⟩:=ak (show(M.opt 113 (((ops.toList.drop j).head?).bind (·.dst)) >>= _) _ _=_ from e);obtain⟨hd,rfl,rfl⟩:=bW e1;obtain⟨hb,e3⟩:=eG e2;have hdd:(ops[j]?).bind (·.dst)=some d:=by rw[← hd];simp
  cases hv:T.get E d with
  | none=>rw[hv] at e3;cases e3
  | some u =>
   obtain⟨U,h1,h2⟩:=h.val d u (mP hb) hv;rw[hv] at e3;dsimp only;cases u with
   | sc x =>
    cases x with
    | bool c =>
     obtain⟨rfl,rfl,rfl⟩:=aF (show(pure _:M _) _ _=_ from e3);cases fE h1
     refine⟨rfl,rfl,?_⟩;simp only[yielded,hdd,Option.bind_some,h2];cases c <;> cases bb <;> rfl
    | _=>cases e3
   | fC l =>
    cases l with
    | nil =>
     obtain⟨rfl,rfl,rfl⟩:=aF (show(pure _:M _) _ _=_ from e3);simp only[AV.den,aH] at h1;cases h1;refine⟨rfl,rfl,?_⟩;simp only[yielded,hdd,Option.bind_some,h2];cases bb <;> rfl
    | cons _ _=>cases e3
   | _=>cases e3
theorem Kk {α:Type} {e:Nat} {m:M α} {a:α} (h:M.tag e m s n=.ok a s' n' r l1):m s n=.ok a s' n' r l1:=by
 unfold M.tag at h;cases hm:m s n <;> rw[hm] at h <;> first | exact h | cases h
/-- One operation with its guard. -/
theorem Yd {call:Nat->List AV->M AV} (hc:vo P w0 call) {ρ:Operand->M AV} {g:M Bool} {ops:Array Oper} {a:Act} {o:Oper} {K:Act->World->Prop} {Q:Exit->Act->World->Prop} (h:Rel P w0 φ s w) (hr:sZ φ ρ a.eval)
  (hg:∀b s1 n1 r1 m1,g s n=.ok b s1 n1 r1 m1->s1=s/\n1=n/\Region.wanted o (yielded ops a.tmps)=b) (e:Bu P call ρ g o s n=.ok v s' n' r l1) (hf:Free φ n n') (hK:Post P w0 φ s' n n' v o a K) :
  if Region.wanted o (yielded ops a.tmps)=true then Oper.wp P o a w K Q else K (a.put o.dst undef) w:=by
 obtain⟨b,s1,n1,r1,m1,r2,m2,e1,e2,rfl,rfl⟩:=ak (show(g >>= λb=>cd b (Et P call ρ o.op) (pure (.fC []))) _ _=_ from e);obtain⟨rfl,rfl,hb⟩:=hg _ _ _ _ _ e1;rw[hb];cases b with
 | true=>exact acJ hc h hr e2 hf hK
 | false =>
  obtain⟨rfl,rfl,rfl⟩:=aF (show(pure _:M _) _ _=_ from e2);exact hK φ undef w h (.refl _ _) (Ph.le_refl _) (.inr rfl)
/-- A region in the list's order. -/
theorem Ye {call:Nat->List AV->M AV} (hfc:∀f a,aC (call f a)) (hc:vo P w0 call) {N:Nat} {ops:Array Oper} {Q:Exit->Act->World->Prop}:∀(l:List Oper) (k:Nat) (E E':Env) (a:Act) (φ:Ph) (s s':Ob) (w:World) (n n':Nat) (r l1:Lg),ops.toList.drop k=l ->
  Iq P call N ops.toList l E s n=.ok E' s' n' r l1->Rel P w0 φ s w->iG φ N E a->Free φ n n' ->
  (∀ψ a' w',Rel P w0 ψ s' w'->Ext φ ψ n n'->φ.le ψ->iG ψ N E' a'->Q .normal a' w')->wpOps P ops Q (List.range' k l.length) a w
 | [],k,E,E',a,φ,s,s',w,n,n',r,l1,hl,e,h,hE,hf,hQ=>by
  obtain⟨rfl,rfl,rfl⟩:=aF (show(pure E:M _) _ _=_ from e);exact hQ φ a w h (.refl _ _) (Ph.le_refl _) hE
 | o :: l,k,E,E',a,φ,s,s',w,n,n',r,l1,hl,e,h,hE,hf,hQ=>by
  obtain⟨v,s1,n1,r1,m1,r2,m2,e1,e2,rfl,rfl⟩:=ak (show(M.tag _ (Bu P call (env N E) (uP N ops.toList E o) o) >>= _) _ _=_ from e);have Jk:=Kk e1;obtain⟨hd,e3⟩:=eG e2;have ho:ops[k]?=some o:=by
   rw[← Array.getElem?_toList,← List.head?_drop,hl];rfl
  have hl':ops.toList.drop (k+1)=l:=by rw[← List.drop_drop,hl];rfl
  have PK:=(EG P hfc (uW N E) (Mi _ _ _ _) o _ _ _ _ _ _ _ Jk).le;have xV:=(Mk P hfc N ops.toList l _ _ _ _ _ _ _ _ e3).le;simp only[List.length_cons,List.range'_succ,wpOps,ho];have key:=Yd (Q:=Q) (K:=wpOps P ops Q (List.range' (k+1) l.length)) (ops:=ops) hc h (Gf hE) (λb s2 n2 r2 m2 hg=>ag2 hE hg) Jk (λi h1 h2=>hf i h1 (by omega)) (λψ V w' k1 k2 k3 k4=>?_)
  ·split
   ·rename_i hw;rw[if_pos hw] at key;exact .inl key
   ·rename_i hw;rw[if_neg hw] at key;exact key
  ·exact Ye hfc hc l (k+1) _ E' _ ψ s1 s' w' n1 n' r2 m2 hl' e3 k1 ((hE.le k3).set hd k4) (λi h1 h2=>by rw[k2.out i (by omega)];exact hf i (by omega) h2)
    λχ a' w'' j1 j2 j3 j4=>hQ χ a' w'' j1 (k2.trans j2) (Ph.le_trans k3 j3) j4
end
/- A region that draws its order. -/
theorem Gg (m i:Nat):iB m i=m.testBit i:=by
 unfold iB Nat.testBit;show Nat.beq ((m >>> i) &&& 1) 1=((1 &&& (m >>> i)) != 0);rw[Nat.and_comm 1];have:(m >>> i) &&& 1=(m >>> i) % 2:=Nat.and_one_is_mod _;rw[this];rcases Nat.mod_two_eq_zero_or_one (m >>> i) with h | h <;> rw[h] <;> rfl
theorem ag3 (i:Nat):iB 0 i=false:=by rw[Gg];simp
theorem Yf (a b i:Nat):iB (Nat.lor a b) i=(iB a i || iB b i):=by rw[Gg,Gg,Gg];exact Nat.testBit_or a b i
theorem ag4 (j i:Nat):iB (Nat.shiftLeft 1 j) i=decide (j=i):=by
 rw[Gg,show Nat.shiftLeft 1 j=2 ^ j by show 1 <<< j=_;rw[Nat.one_shiftLeft],Nat.testBit_two_pow]
theorem Lg.PN {i o:Nat}:∀ {x:Lg},x.has i o->x.mem i o=true
 | .e,h=>h.elim
 | .p j q,h=>by obtain⟨rfl,rfl⟩:=h;simp[Lg.mem]
 | .rg j q k,h=>by obtain⟨rfl,h1,h2⟩:=h;simp[Lg.mem,Nat.blt_eq,h1,h2]
 | .ob j,h=>by cases (show i=j from h);simp[Lg.mem]
 | .a x y,h=>by
  rcases h with h | h
  ·simp[Lg.mem,Lg.PN h]
  ·simp[Lg.mem,Lg.PN h]
theorem Lg.PO {i o k q:Nat} (h1:o<=q) (h2:q < o+k):∀ {x:Lg},x.has i q->x.uQ i o k=true
 | .e,h=>h.elim
 | .p j q',h=>by obtain⟨rfl,rfl⟩:=h;simp[Lg.uQ,Nat.blt_eq,h1,h2]
 | .rg j q' m,h=>by
  obtain⟨rfl,h3,h4⟩:=h;have h5:q' < o+k:=by omega
  have h6:o < q'+m:=by omega
  simp[Lg.uQ,Nat.blt_eq,h5,h6]
 | .ob j,h=>by cases (show i=j from h);simp[Lg.uQ]
 | .a x y,h=>by
  rcases h with h | h
  ·simp[Lg.uQ,Lg.PO h1 h2 h]
  ·simp[Lg.uQ,Lg.PO h1 h2 h]
theorem Lg.PU {i o:Nat}:∀ {x:Lg},x.has i o->x.uR i=true
 | .e,h=>h.elim
 | .p j q,h=>by obtain⟨rfl,rfl⟩:=h;simp[Lg.uR]
 | .rg j q k,h=>by obtain⟨rfl,h1,h2⟩:=h;simp[Lg.uR]
 | .ob j,h=>by cases (show i=j from h);simp[Lg.uR]
 | .a x y,h=>by
  rcases h with h | h
  ·simp[Lg.uR,Lg.PU h]
  ·simp[Lg.uR,Lg.PU h]
theorem Lg.Gh {i o:Nat}:∀ {x y:Lg},x.apart y=true->x.has i o->¬y.has i o
 | .e,y,_,h=>h.elim
 | .p j q,y,ha,h=>by
  obtain⟨rfl,rfl⟩:=h;intro h2;simp[Lg.apart,Lg.PN h2] at ha
 | .rg j q k,y,ha,h=>by
  obtain⟨rfl,h3,h4⟩:=h;intro h2;simp[Lg.apart,Lg.PO h3 h4 h2] at ha
 | .ob j,y,ha,h=>by
  cases (show i=j from h)
  intro h2;simp[Lg.apart,Lg.PU h2] at ha
 | .a x x',y,ha,h=>by
  simp only[Lg.apart,Bool.and_eq_true] at ha;rcases h with h | h
  ·exact Lg.Gh ha.1 h
  ·exact Lg.Gh ha.2 h
theorem Lg.Gi {lo hi i o:Nat}:∀ {x:Lg},x.outs lo hi=true->x.has i o->¬(lo<=i/\i < hi)
 | .e,_,h=>h.elim
 | .p j q,ho,h=>by
  obtain⟨rfl,rfl⟩:=h;simp only[Lg.outs,Bool.or_eq_true] at ho;rcases ho with ho | ho
  ·have:=mP ho;omega
  ·have:=Nat.le_of_ble_eq_true ho;omega
 | .rg j q k,ho,h=>by
  obtain⟨rfl,-,-⟩:=h;simp only[Lg.outs,Bool.or_eq_true] at ho;rcases ho with ho | ho
  ·have:=mP ho;omega
  ·have:=Nat.le_of_ble_eq_true ho;omega
 | .ob j,ho,h=>by
  cases (show i=j from h)
  simp only[Lg.outs,Bool.or_eq_true] at ho;rcases ho with ho | ho
  ·have:=mP ho;omega
  ·have:=Nat.le_of_ble_eq_true ho;omega
 | .a x y,ho,h=>by
  simp only[Lg.outs,Bool.and_eq_true] at ho;rcases h with h | h
  ·exact Lg.Gi ho.1 h
  ·exact Lg.Gi ho.2 h
/-- What stands apart from an operation that is done. -/
def Apart (m:Nat) (r w:Lg) (x:Dn):Prop:=iB m x.k=true\/((x.w.apart r=true/\x.w.apart w=true)/\w.apart x.r=true/\(x.lo=x.hi\/(r.outs x.lo x.hi=true/\w.outs x.lo x.hi=true)))
theorem Yg {m:Nat} {r w:Lg}:∀ {D:List Dn},indep m r w D=true->∀x ∈ D,Apart m r w x
 | [],_,x,hx=>by simp at hx
 | y :: D,h,x,hx=>by
  simp only[indep,Bool.and_eq_true,Bool.or_eq_true] at h;rcases List.mem_cons.1 hx with rfl | hx
  ·rcases h.1 with h1 | h1
   ·exact .inl h1
   ·exact .inr ⟨h1.1,h1.2.1,h1.2.2.imp Nat.eq_of_beq_eq_true id⟩
  ·exact Yg h.2 x hx
section
variable {P : Program} {w0 : World}
theorem ag5 {α:Type} {m:M α} {x:α × Lg × Lg × Nat × Nat} {s s':Ob} {n n':Nat} {r l1:Lg} (h:M.log m s n=.ok x s' n' r l1):m s n=.ok x.1 s' n' x.2.1 x.2.2.1/\x.2.2.2.1=n/\x.2.2.2.2=n':=by
 unfold M.log at h;cases hm:m s n with
 | no e=>rw[hm] at h;cases h
 | ok a s1 n1 r1 w1=>rw[hm] at h;cases h;exact⟨rfl,rfl,rfl⟩
/-- The run in the list's order, operation by operation. -/
structure Tr (P:Program) (call:Nat->List AV->M AV) (N:Nat) (ops:List Oper) (dt cl:T Nat) (S:Nat->Ob) (Nn:Nat->Nat) (Rl Wl:Nat->Lg) (Vv:Nat->AV) (En:Nat->Env) (k:Nat) (o:Oper) (m:Nat):Prop where
 op:ops[k]?=some o
 wt:T.get cl k=some m
 run:Bu P call (Bw N dt cl k m (En k)) (BA N ops m (En k) o) o (S k) (Nn k)=.ok (Vv k) (S (k+1)) (Nn (k+1)) (Rl k) (Wl k)
 env:En (k+1)=(En k).set o.dst (Vv k)
theorem Yh {call:Nat->List AV->M AV} {N:Nat} {ops:List Oper} {dt cl:T Nat}:∀(l:List Oper) (k:Nat) (D:List Dn) (E E':Env) (s s':Ob) (n n':Nat) (r w:Lg),ops.drop k=l->Eu P call N ops dt cl l k D E s n=.ok E' s' n' r w ->
  ∃(S:Nat->Ob) (Nn:Nat->Nat) (Rl Wl:Nat->Lg) (Vv:Nat->AV) (En:Nat->Env),(S k=s/\Nn k=n/\En k=E)/\(S (k+l.length)=s'/\Nn (k+l.length)=n'/\En (k+l.length)=E') /\
   ∀j,k<=j->j < k+l.length->∃o m,Tr P call N ops dt cl S Nn Rl Wl Vv En j o m/\(∀x ∈ D,Apart m (Rl j) (Wl j) x)/\∀i,k<=i->i < j->Apart m (Rl j) (Wl j) ⟨i,Nn i,Nn (i+1),Rl i,Wl i⟩
 | [],k,D,E,E',s,s',n,n',r,w,hl,e=>by
  obtain⟨rfl,rfl,rfl⟩:=aF (show(pure E:M _) _ _=_ from e);exact⟨λ_=>s',λ_=>n',λ_=>.e,λ_=>.e,λ_=>.bad,λ_=>E',⟨rfl,rfl,rfl⟩,⟨rfl,rfl,rfl⟩,λj h1 h2=>absurd h2 (by simp;omega)⟩
 | o :: l,k,D,E,E',s,s',n,n',r,w,hl,e=>by
  obtain⟨m,s0,n0,r0,w0',MC,w00,e0,uZ,rfl,rfl⟩:=ak (show(M.opt 133 (T.get cl k) >>= _) _ _=_ from e);obtain⟨hm,rfl,rfl⟩:=bW e0;obtain⟨x,s1,n1,r1,m1,r2,m2,e1,e2,rfl,rfl⟩:=ak uZ;obtain⟨h1,h2,h3⟩:=ag5 e1;have h1':=Kk h1;obtain⟨hi,e3⟩:=eG e2;rw[h2,h3] at e3;have hl':ops.drop (k+1)=l:=by rw[← List.drop_drop,hl];rfl
  have ho:ops[k]?=some o:=by rw[← List.head?_drop,hl];rfl
  obtain⟨S,Nn,Rl,Wl,Vv,En,⟨a1,a2,a3⟩,⟨b1,b2,b3⟩,hh⟩:=Yh l (k+1) _ _ E' s1 s' n1 n' _ _ hl' e3;have hd:=Yg hi;refine⟨λj=>if j=k then s0 else S j,λj=>if j=k then n0 else Nn j,λj=>if j=k then x.2.1 else Rl j,λj=>if j=k then x.2.2.1 else Wl j,λj=>if j=k then x.1 else Vv j,λj=>if j=k then E else En j,by simp,?_,?_⟩
  ·have e1:k+(l.length+1)=k+1+l.length:=by omega
   simp only[List.length_cons,e1,show ¬k+1+l.length=k by omega,if_false];exact⟨b1,b2,b3⟩
  ·intro j hj1 hj2
   simp only[List.length_cons] at hj2
   by_cases hjk:j=k
   ·subst hjk
    refine⟨o,m,⟨ho,hm,?_,?_⟩,?_,λi h4 h5=>absurd h5 (by omega)⟩
    ·simp only[if_true,show ¬j+1=j by omega,if_false,a1,a2];exact h1'
    ·simp only[if_true,show ¬j+1=j by omega,if_false,a3]
    ·simp only[if_true];exact hd
   ·obtain⟨o',m',ht,hD,hI⟩:=hh j (by omega) (by omega)
    refine⟨o',m',⟨ht.op,ht.wt,?_,?_⟩,?_,?_⟩
    ·simp only[hjk,show ¬j+1=k by omega,if_false];exact ht.run
    ·simp only[hjk,show ¬j+1=k by omega,if_false];exact ht.env
    ·simp only[hjk,if_false];exact λy hy=>hD y (by simp[hy])
    ·intro i h4 h5
     simp only[hjk,if_false]
     by_cases hik:i=k
     ·subst hik
      simp only[if_true,show ¬i+1=i by omega,if_false,a2];exact hD _ (by simp)
     ·simp only[hik,show ¬i+1=k by omega,if_false]
      exact hI i (by omega) h5
/-- What an operation waits for. -/
theorem Yi {cl:T Nat}:∀ {l:List Nat} {m:Nat},yR cl l=some m->(∀j ∈ l,∃q,T.get cl j=some q)/\∀i,iB m i=true->i ∈ l\/∃j q,j ∈ l/\T.get cl j=some q/\iB q i=true
 | [],m,h=>by simp only[yR] at h;cases h;exact⟨by simp,λi hi=>by rw[ag3] at hi;cases hi⟩
 | j :: l,m,h=>by
  simp only[yR] at h;cases hj:T.get cl j with
  | none=>rw[hj] at h;cases h
  | some q =>
   cases hl:yR cl l with
   | none=>rw[hj,hl] at h;cases h
   | some k =>
    rw[hj,hl] at h;cases h;obtain⟨h1,h2⟩:=Yi hl;refine⟨λi hi=>?_,λi hi=>?_⟩
    ·rcases List.mem_cons.1 hi with rfl | hi
     ·exact⟨q,hj⟩
     ·exact h1 i hi
    ·rw[Yf,Yf,ag4] at hi
     simp only[Bool.or_eq_true,decide_eq_true_eq] at hi;rcases hi with(hi | rfl) | hi
     ·exact .inr ⟨j,q,by simp,hj,hi⟩
     ·exact .inl (by simp)
     ·rcases h2 i hi with h3 | ⟨j',q',h3,h4,h5⟩
      ·exact .inl (by simp[h3])
      ·exact .inr ⟨j',q',by simp[h3],h4,h5⟩
theorem Yj:∀(l:List Oper) (k:Nat) (zT cl:T Nat),Bv l k zT=some cl->(∀j q,T.get zT j=some q->j < k) ->
  (∀j,j < k->T.get cl j=T.get zT j)/\∀i o,l[i]?=some o->∃m,T.get cl (k+i)=some m/\(∀j ∈ jg o,j < k+i)/\∀x,iB m x=true->x ∈ jg o\/∃j q,j ∈ jg o/\T.get cl j=some q/\iB q x=true
 | [],k,zT,cl,h,h0=>by simp only[Bv] at h;cases h;exact⟨λ_ _=>rfl,by simp⟩
 | o :: l,k,zT,cl,h,h0=>by
  simp only[Bv] at h;cases hm:yR zT (jg o) with
  | none=>rw[hm] at h;cases h
  | some m =>
   rw[hm] at h;obtain⟨h1,h2⟩:=Yj l (k+1) _ cl h (λj q hj=>by
    rw[T.get_put] at hj
    by_cases e:j=k
    ·omega
    ·rw[if_neg e] at hj;have:=h0 j q hj;omega)
   obtain⟨h3,h4⟩:=Yi hm;have hlt:∀j ∈ jg o,j < k:=λj hj=>by obtain⟨q,hq⟩:=h3 j hj;exact h0 j q hq
   have same:∀j,j < k->T.get cl j=T.get zT j:=λj hj=>by rw[h1 j (by omega),T.get_put,if_neg (by omega)]
   refine⟨same,λi o' hi=>?_⟩;cases i with
   | zero =>
    simp only[List.getElem?_cons_zero,Option.some.injEq] at hi;subst hi;refine⟨m,by rw[Nat.add_zero,h1 k (by omega),T.get_put,if_pos rfl],hlt,λx hx=>?_⟩;rcases h4 x hx with h5 | ⟨j,q,h5,h6,h7⟩
    ·exact .inl h5
    ·exact .inr ⟨j,q,h5,by rw[same j (hlt j h5)];exact h6,h7⟩
   | succ i =>
    rw[show k+(i+1)=k+1+i by omega];exact h2 i o' (by simpa using hi)
theorem PV {N:Nat}:∀(l:List Oper) (k:Nat) (t0 dt:T Nat),wO N l k t0=some dt ->
  (∀d i,T.get t0 d=some i->T.get dt d=some i)/\(∀i o d,l[i]?=some o->o.dst=some d->T.get dt d=some (k+i)/\d < N)/\∀d i,T.get dt d=some i->T.get t0 d=some i\/∃j o,i=k+j/\l[j]?=some o/\o.dst=some d
 | [],k,t0,dt,h=>by simp only[wO] at h;cases h;exact⟨λ_ _ h=>h,by simp,λ_ _ h=>.inl h⟩
 | o :: l,k,t0,dt,h=>by
  simp only[wO] at h;cases ho:o.dst with
  | none =>
   rw[ho] at h;obtain⟨h1,h2,h3⟩:=PV l (k+1) t0 dt h;refine⟨h1,λi o' d hi hd=>?_,λd i hi=>?_⟩
   ·cases i with
    | zero=>simp only[List.getElem?_cons_zero,Option.some.injEq] at hi;subst hi;rw[ho] at hd;cases hd
    | succ i=>rw[show k+(i+1)=k+1+i by omega];exact h2 i o' d (by simpa using hi) hd
   ·rcases h3 d i hi with h4 | ⟨j,o',rfl,h5,h6⟩
    ·exact .inl h4
    ·exact .inr ⟨j+1,o',by omega,by simpa using h5,h6⟩
  | some d0 =>
   rw[ho] at h;dsimp only at h;cases hg:T.get t0 d0 with
   | some _=>rw[hg] at h;cases h
   | none =>
    rw[hg] at h;dsimp only at h;cases hb:Nat.blt d0 N with
    | false=>rw[hb] at h;cases h
    | true =>
     rw[hb] at h;obtain⟨h1,h2,h3⟩:=PV l (k+1) _ dt h;refine⟨λd i hi=>h1 d i ?_,λi o' d hi hd=>?_,λd i hi=>?_⟩
     ·rw[T.get_put,if_neg (λe=>by subst e;rw[hg] at hi;cases hi)];exact hi
     ·cases i with
      | zero =>
       simp only[List.getElem?_cons_zero,Option.some.injEq] at hi;subst hi;rw[ho] at hd;cases hd;exact⟨h1 _ _ (by rw[T.get_put,if_pos rfl];rfl),mP hb⟩
      | succ i=>rw[show k+(i+1)=k+1+i by omega];exact h2 i o' d (by simpa using hi) hd
     ·rcases h3 d i hi with h4 | ⟨j,o',rfl,h5,h6⟩
      ·rw[T.get_put] at h4
       by_cases e:d=d0
       ·subst e;rw[if_pos rfl] at h4;cases h4;exact .inr ⟨0,o,rfl,rfl,ho⟩
       ·rw[if_neg e] at h4;exact .inl h4
      ·exact .inr ⟨j+1,o',by omega,by simpa using h5,h6⟩
/-- What is waited for is done. -/
theorem ag6 {ops:List Oper} {cl:T Nat} {L:Nat->Bool} (hcl:∀i o,ops[i]?=some o->∃m,T.get cl i=some m/\(∀j ∈ jg o,j < i)/\∀x,iB m x=true->x ∈ jg o\/∃j q,j ∈ jg o/\T.get cl j=some q/\iB q x=true) (hC:yJ (ops.map jg) L) :
  ∀(i:Nat) (o:Oper) (m x:Nat),ops[i]?=some o->T.get cl i=some m->iB m x=true->pz L (jg o)->L x=true/\x < i:=by
 intro i
 induction i using Nat.strongRecOn with
 | _ i ih =>
  intro o m x ho hm hx hA;obtain⟨m',h1,h2,h3⟩:=hcl i o ho;rw[hm] at h1;cases h1;rcases h3 x hx with h4 | ⟨j,q,h4,h5,h6⟩
  ·exact⟨uF.1 hA x h4,h2 x h4⟩
  ·have hj:=h2 j h4
   have qF:=uF.1 hA j h4;have hi:=(gs1 ho).1;obtain⟨oj,hoj⟩:∃oj,ops[j]?=some oj:=⟨_,bK (by omega)⟩;obtain⟨k1,k2⟩:=ih j hj oj q x hoj h5 h6 (hC j _ (by simp[hoj]) qF);exact⟨k1,by omega⟩
end
/- A region that draws its order: whatever it draws, the objects are as in the list's order. -/
theorem PW (p:Nat->Prop):∀m,(∀q,q < m->¬p q)\/∃q,q < m/\p q/\∀q',q < q'->q' < m->¬p q'
 | 0=>.inl λq h=>absurd h (Nat.not_lt_zero _)
 | m+1=>by
  by_cases h:p m
  ·exact .inr ⟨m,by omega,h,λq' h1 h2=>absurd h2 (by omega)⟩
  ·rcases PW p m with h1 | ⟨q,h1,h2,h3⟩
   ·refine .inl λq hq=>?_
    by_cases e:q=m
    ·subst e;exact h
    ·exact h1 q (by omega)
   ·refine .inr ⟨q,by omega,h2,λq' h4 h5=>?_⟩
    by_cases e:q'=m
    ·subst e;exact h
    ·exact h3 q' h4 (by omega)
/-- One run, operation by operation, with what it looked at and wrote. -/
structure Run (m:Nat) (S:Nat->Ob) (Nn:Nat->Nat) (Rl Wl:Nat->Lg):Prop where
 le:∀k,k < m->Nn k<=Nn (k+1)
 qG:∀k,k < m->∀i o,(Wl k).has i o->i < Nn (k+1)
 old:∀k,k < m->∀i o,i < Nn k->¬(Wl k).has i o->(S (k+1)).get i o=(S k).get i o
 new:∀k,k < m->∀i o,Nn (k+1)<=i->(S (k+1)).get i o=(S k).get i o
def Touch (Nn:Nat->Nat) (Wl:Nat->Lg) (k i o:Nat):Prop:=(Wl k).has i o\/(Nn k<=i/\i < Nn (k+1))
/-- t: what stands where those in L are done. -/
def Ag (m:Nat) (S:Nat->Ob) (Nn:Nat->Nat) (Wl:Nat->Lg) (L:Nat->Bool) (t:Ob):Prop:=∀i o,
 (∀k,k < m->L k=true->Touch Nn Wl k i o->(∀k',k < k'->k' < m->L k'=true->¬Touch Nn Wl k' i o)->t.get i o=(S (k+1)).get i o) /\
 ((∀k,k < m->L k=true->¬Touch Nn Wl k i o)->t.get i o=(S 0).get i o)
section
variable {m : Nat} {S : Nat -> Ob} {Nn : Nat -> Nat} {Rl Wl : Nat -> Lg} {L : Nat -> Bool} {t : Ob}
theorem Run.mono (H:Run m S Nn Rl Wl) {j k:Nat} (hj:j<=k) (hk:k<=m):Nn j<=Nn k:=by
 induction k with
 | zero=>rw[Nat.le_zero.1 hj];exact Nat.le_refl _
 | succ k ih =>
  by_cases e:j=k+1
  ·rw[e];exact Nat.le_refl _
  ·exact Nat.le_trans (ih (by omega) (by omega)) (H.le k (by omega))
theorem Run.same (H:Run m S Nn Rl Wl) {i o j k:Nat} (hj:j<=k) (hk:k<=m) (h:∀q,j<=q->q < k->¬Touch Nn Wl q i o):(S k).get i o=(S j).get i o:=by
 induction k with
 | zero=>rw[Nat.le_zero.1 hj]
 | succ k ih =>
  by_cases e:j=k+1
  ·rw[e]
  ·have hn:=h k (by omega) (by omega)
   have h1:(S (k+1)).get i o=(S k).get i o:=by
    by_cases h2:i < Nn k
    ·exact H.old k (by omega) i o h2 λhw=>hn (.inl hw)
    ·exact H.new k (by omega) i o (Nat.le_of_not_lt λh3=>hn (.inr ⟨by omega,h3⟩))
   rw[h1];exact ih (by omega) (by omega) λq h1 h2=>h q h1 (by omega)
/-- Two that neither waits for the other. -/
def Gj (Nn:Nat->Nat) (Rl Wl:Nat->Lg) (a b:Nat):Prop:=((Wl a).apart (Rl b)=true/\(Wl a).apart (Wl b)=true)/\(Wl b).apart (Rl a)=true/\(Nn a=Nn (a+1)\/((Rl b).outs (Nn a) (Nn (a+1))=true/\(Wl b).outs (Nn a) (Nn (a+1))=true))
theorem Ag.look (H:Run m S Nn Rl Wl) {k:Nat} (hk:k < m) (hL:L k=false) (hA:Ag m S Nn Wl L t) (hup:∀q,k < q->q < m->L q=true->Gj Nn Rl Wl k q) (hdn:∀q,q < k->L q=false->Gj Nn Rl Wl q k) :
  (∀i o,Nn k<=i->i < Nn (k+1)->t.get i o=(S k).get i o)/\∀i o,(Rl k).has i o->i < Nn k->t.get i o=(S k).get i o:=by
 have fin:∀i o,(∀q,k < q->q < m->L q=true->¬Touch Nn Wl q i o)->(∀q,q < k->L q=false->¬Touch Nn Wl q i o)->t.get i o=(S k).get i o:=by
  intro i o h1 h2;rcases PW (λq=>L q=true/\Touch Nn Wl q i o) m with h3 | ⟨q,h3,⟨h4,h5⟩,h6⟩
  ·rw[(hA i o).2 λq hq hl ht=>h3 q hq ⟨hl,ht⟩]
   refine(H.same (Nat.zero_le _) (by omega) λq _ hq ht=>?_).symm;cases hl:L q with
   | true=>exact h3 q (by omega) ⟨hl,ht⟩
   | false=>exact h2 q hq hl ht
  ·have hqk:q < k:=by
    rcases Nat.lt_trichotomy q k with h | h | h
    ·exact h
    ·subst h;rw[hL] at h4;cases h4
    ·exact absurd h5 (h1 q h h3 h4)
   rw[(hA i o).1 q h3 h4 h5 λq' a b c d=>h6 q' a b ⟨c,d⟩];refine(H.same (by omega) (by omega) λq' ha hb ht=>?_).symm;cases hl:L q' with
   | true=>exact h6 q' (by omega) (by omega) ⟨hl,ht⟩
   | false=>exact h2 q' hb hl ht
 refine⟨λi o h1 h2=>fin i o (λq hq hm hl ht=>?_) (λq hq hl ht=>?_),λi o hr hi=>fin i o (λq hq hm hl ht=>?_) (λq hq hl ht=>?_)⟩
 ·obtain⟨-,-,f3⟩:=hup q hq hm hl
  have:=H.mono (j:=k+1) (k:=q) (by omega) (by omega);rcases ht with ht | ht
  ·rcases f3 with f3 | f3
   ·omega
   ·exact Lg.Gi f3.2 ht ⟨h1,h2⟩
  ·omega
 ·have:=H.mono (j:=q+1) (k:=k) (by omega) (by omega)
  rcases ht with ht | ht
  ·have:=H.qG q (by omega) i o ht;omega
  ·omega
 ·obtain⟨-,f2,-⟩:=hup q hq hm hl
  have:=H.mono (j:=k) (k:=q) (by omega) (by omega);rcases ht with ht | ht
  ·exact Lg.Gh f2 ht hr
  ·omega
 ·obtain⟨f1,-,f3⟩:=hdn q hq hl
  rcases ht with ht | ht
  ·exact Lg.Gh f1.1 ht hr
  ·rcases f3 with f3 | f3
   ·omega
   ·exact Lg.Gi f3.1 hr ht
theorem Ag.step (H:Run m S Nn Rl Wl) {k:Nat} (hk:k < m) (hL:L k=false) (hA:Ag m S Nn Wl L t) (hup:∀q,k < q->q < m->L q=true->Gj Nn Rl Wl k q) {t':Ob}
  (h1:∀i o,Nn k<=i->i < Nn (k+1)->t'.get i o=(S (k+1)).get i o) (h2:∀i o,(Wl k).has i o->t'.get i o=(S (k+1)).get i o) (h3:∀i o,(i < Nn k\/Nn (k+1)<=i)->¬(Wl k).has i o->t'.get i o=t.get i o):Ag m S Nn Wl (iy L k) t':=by
 have stay:∀i o,¬Touch Nn Wl k i o->t'.get i o=t.get i o:=λi o hn=>by
  refine h3 i o ?_ λhw=>hn (.inl hw);rcases Nat.lt_or_ge i (Nn k) with h | h
  ·exact .inl h
  ·exact .inr (Nat.le_of_not_lt λh'=>hn (.inr ⟨h,h'⟩))
 have here:∀i o,Touch Nn Wl k i o->t'.get i o=(S (k+1)).get i o:=λi o ht=>ht.elim (h2 i o) λh=>h1 i o h.1 h.2;intro i o;refine⟨λq hq hl ht hlast=>?_,λhno=>?_⟩
 ·by_cases e:q=k
  ·subst e;exact here i o ht
  ·rw[qE e] at hl
   have hnk:¬Touch Nn Wl k i o:=by
    rcases Nat.lt_or_ge k q with hkq | hkq
    ·intro hkt
     obtain⟨f1,f2,f3⟩:=hup q hkq hq hl;have:=H.mono (j:=k+1) (k:=q) (by omega) (by omega);rcases hkt with a | a <;> rcases ht with b | b
     ·exact Lg.Gh f1.2 a b
     ·have:=H.qG k hk i o a;omega
     ·rcases f3 with f3 | f3
      ·omega
      ·exact Lg.Gi f3.2 b a
     ·omega
    ·exact hlast k (by omega) hk sG
   rw[stay i o hnk];exact(hA i o).1 q hq hl ht λq' a b c d=>hlast q' a b (by
          by_cases e':q'=k
          ·subst e';exact sG
          ·rw[qE e'];exact c) d
 ·rw[stay i o (hno k hk sG)]
  exact(hA i o).2 λq hq hl=>hno q hq (by
        by_cases e':q=k
        ·subst e';exact sG
        ·rw[qE e'];exact hl)
theorem Ag.all (H:Run m S Nn Rl Wl) (hA:Ag m S Nn Wl (λ_=>true) t) (i o:Nat):t.get i o=(S m).get i o:=by
 rcases PW (λq=>Touch Nn Wl q i o) m with h3 | ⟨q,h3,h5,h6⟩
 ·rw[(hA i o).2 λq hq _=>h3 q hq]
  exact(H.same (Nat.zero_le _) (Nat.le_refl _) λq _ hq=>h3 q hq).symm
 ·rw[(hA i o).1 q h3 rfl h5 λq' a b _=>h6 q' a b]
  exact(H.same (by omega) (Nat.le_refl _) λq' a b=>h6 q' (by omega) b).symm
end
section
variable {P : Program} {w0 : World}
theorem Rel.congr {φ:Ph} {s t:Ob} {w:World} (h:Rel P w0 φ s w) (ht:∀i o,t.get i o=s.get i o):Rel P w0 φ t w:=by
 refine⟨h.base,λi t' e k op hi=>?_,λi es c hi=>h.map i es c (ht i 0 ▸ hi),λi m a l k hi=>h.it i m a l k (ht i 0 ▸ hi),λi k hi=>h.sp i k (ht i 0 ▸ hi),λi v hv=>h.head i v (ht i 0 ▸ hv),λi p hp=>h.dom i p (ht i p ▸ hp),λi j b x y h1 h2=>h.inj i j b x y (ht i 0 ▸ h1) (ht j 0 ▸ h2)⟩;obtain⟨b,x,C,fz,R⟩:=h.row i t' e k op (ht i 0 ▸ hi);exact⟨b,x,C,fz,R.EC (Ph.le_refl _) rfl λp=>ht i p⟩
theorem Rel.drew {φ:Ph} {s:Ob} {w:World} (h:Rel P w0 φ s w):Rel P w0 φ s w.drew :=
 ⟨h.base.drew,λi t e k op hi=>let ⟨b,x,C,fz,R⟩:=h.row i t e k op hi;⟨b,x,C,fz,R.EC (Ph.le_refl _) rfl λ_=>rfl⟩,h.map,h.it,h.sp,h.head,h.dom,h.inj⟩
/-- The slots. -/
theorem Yk (a:Act) (d t:Nat) (x:Value):(iI a d x).tmps[t]?=if t=d/\t < a.tmps.size then some x else a.tmps[t]?:=by
 unfold iI;simp only[List.getElem?_toArray];rw[List.getElem?_set]
 by_cases h:d=t
 ·subst h
  by_cases h2:d < a.tmps.size
  ·simp[h2]
  ·simp[h2,Array.getElem?_eq_none (Nat.le_of_not_lt h2)]
 ·simp[h,show ¬t=d from λe=>h e.symm]
theorem Yl (a:Act) (d:Nat) (x:Value):(iI a d x).tmps.size=a.tmps.size:=by simp[iI]
theorem CF {L:Nat->Bool} {V:Nat->Value}:∀(ds:List (Option Nat)) (k:Nat) (a:Act),(fK ds k L V a).tmps.size=a.tmps.size/\(fK ds k L V a).defers=a.defers/\∀t:Nat,(∀j:Nat,ds[j]?≠some (some t))->(fK ds k L V a).tmps[t]?=a.tmps[t]?
 | [],k,a=>⟨rfl,rfl,λ_ _=>rfl⟩
 | none :: ds,k,a=>by
  obtain⟨h1,h2,h3⟩:=CF (L:=L) (V:=V) ds (k+1) a;exact⟨h1,h2,λt ht=>h3 t λj hj=>ht (j+1) (by simpa using hj)⟩
 | some d :: ds,k,a=>by
  obtain⟨h1,h2,h3⟩:=CF (L:=L) (V:=V) ds (k+1) (iI a d (cond (L k) (V k) (nE a d)));refine⟨h1.trans (Yl _ _ _),h2,λt ht=>?_⟩;show(fK ds (k+1) L V _).tmps[t]?=_;rw[h3 t λj hj=>ht (j+1) (by simpa using hj),Yk,if_neg λh=>ht 0 (by simp[h.1])]
theorem PX {L:Nat->Bool} {V:Nat->Value}:∀(ds:List (Option Nat)) (k:Nat) (a:Act) (j d:Nat),ds[j]?=some (some d)->sH (ds.filterMap id)=true->d < a.tmps.size->(fK ds k L V a).tmps[d]?=some (cond (L (k+j)) (V (k+j)) (nE a d))
 | [],k,a,j,d,h,_,_=>by simp at h
 | none :: ds,k,a,0,d,h,_,_=>by simp at h
 | none :: ds,k,a,j+1,d,h,hd,hs=>by
  unfold fK;rw[PX ds (k+1) a j d (by simpa using h) (by simpa using hd) hs,show k+1+j=k+(j+1) by omega]
 | some d0 :: ds,k,a,j,d,h,hd,hs=>by
  simp only[List.filterMap_cons,id,sH,Bool.and_eq_true,Bool.not_eq_true',List.contains_eq_mem,decide_eq_false_iff_not] at hd;cases j with
  | zero =>
   simp only[List.getElem?_cons_zero,Option.some.injEq] at h;subst h;unfold fK;rw[(CF ds (k+1) _).2.2 d0 λj hj=>hd.1 (List.mem_filterMap.2 ⟨some d0,List.mem_of_getElem? hj,rfl⟩),Yk,if_pos ⟨rfl,hs⟩];rfl
  | succ j =>
   have h':ds[j]?=some (some d):=by simpa using h
   have hne:d≠d0:=λe=>hd.1 (List.mem_filterMap.2 ⟨some d,List.mem_of_getElem? h',by simp[e]⟩);unfold fK;rw[PX ds (k+1) _ j d h' hd.2 (by rw[Yl];exact hs),show k+1+j=k+(j+1) by omega]
   congr 2
   rw[← yx,R5 a (λe=>hne e.symm)]
theorem ag7 {a:Act} {d:Nat} (h:d < a.tmps.size):a.tmps[d]?=some (nE a d):=by
 unfold nE;rw[List.headD_eq_head?_getD,List.head?_drop,bK (by simpa using h)];simp[h]
end
/- The machine's region, whatever order it draws. -/
section
variable {P : Program} {w0 : World}
theorem PY:∀ {l:List (Option Nat)} {i d:Nat},(l.filterMap id)[i]?=some d->∃j:Nat,l[j]?=some (some d)
 | [],i,d,h=>by simp at h
 | none :: l,i,d,h=>by obtain⟨j,hj⟩:=PY (l:=l) (by simpa using h);exact⟨j+1,by simpa using hj⟩
 | some d0 :: l,0,d,h=>⟨0,by simpa using h⟩
 | some d0 :: l,i+1,d,h=>by obtain⟨j,hj⟩:=PY (l:=l) (by simpa using h);exact⟨j+1,by simpa using hj⟩
theorem PZ:∀ {l:List (Option Nat)},(∀(i j d:Nat),l[i]?=some (some d)->l[j]?=some (some d)->i=j)->sH (l.filterMap id)=true
 | [],_=>rfl
 | none :: l,h=>by
  simp only[List.filterMap_cons,id];exact PZ λi j d hi hj=>by have:=h (i+1) (j+1) d (by simpa using hi) (by simpa using hj);omega
 | some d0 :: l,h=>by
  simp only[List.filterMap_cons,id,sH,Bool.and_eq_true,Bool.not_eq_true',List.contains_eq_mem,decide_eq_false_iff_not];refine⟨λhm=>?_,PZ λi j d hi hj=>by have:=h (i+1) (j+1) d (by simpa using hi) (by simpa using hj);omega⟩;obtain⟨i,hi⟩:=List.getElem?_of_mem hm;obtain⟨j,hj⟩:=PY hi;have:=h 0 (j+1) d0 rfl (by simpa using hj);omega
/-- What the guard says, from the one slot that it looks at. -/
theorem ag8 {φ:Ph} {s s':Ob} {n n':Nat} {r l1:Lg} {N:Nat} {ops:Array Oper} {E:Env} {a:Act} {o:Oper} {b:Bool} (h:∀j q d u,o.guard=some (j,q)->(ops[j]?).bind (·.dst)=some d->d < N->T.get E d=some u->∃V,u.den φ=some V/\a.tmps[d]?=some V) (e:uP N ops.toList E o s n=.ok b s' n' r l1):s'=s/\n'=n/\Region.wanted o (yielded ops a.tmps)=b:=by
 unfold uP at e;unfold Region.wanted;cases hg:o.guard with
 | none=>rw[hg] at e;obtain⟨rfl,rfl,rfl⟩:=aF (show(pure true:M _) _ _=_ from e);exact⟨rfl,rfl,rfl⟩
 | some jb =>
  obtain⟨j,bb⟩:=jb;rw[hg] at e;obtain⟨d,s1,n1,r1,m1,r2,m2,e1,e2,rfl,rfl⟩:=ak (show(M.opt 113 (((ops.toList.drop j).head?).bind (·.dst)) >>= _) _ _=_ from e);obtain⟨hd,rfl,rfl⟩:=bW e1;obtain⟨hb,e3⟩:=eG e2;have hdd:(ops[j]?).bind (·.dst)=some d:=by rw[← hd];simp
  cases hv:T.get E d with
  | none=>rw[hv] at e3;cases e3
  | some u =>
   obtain⟨U,h1,h2⟩:=h j bb d u hg hdd (mP hb) hv;rw[hv] at e3;dsimp only;cases u with
   | sc x =>
    cases x with
    | bool c =>
     obtain⟨rfl,rfl,rfl⟩:=aF (show(pure _:M _) _ _=_ from e3);cases fE h1
     refine⟨rfl,rfl,?_⟩;simp only[yielded,hdd,Option.bind_some,h2];cases c <;> cases bb <;> rfl
    | _=>cases e3
   | fC l =>
    cases l with
    | nil =>
     obtain⟨rfl,rfl,rfl⟩:=aF (show(pure _:M _) _ _=_ from e3);simp only[AV.den,aH] at h1;cases h1;refine⟨rfl,rfl,?_⟩;simp only[yielded,hdd,Option.bind_some,h2];cases bb <;> rfl
    | cons _ _=>cases e3
   | _=>cases e3
theorem ag9 {E:Env} {d t:Nat} {u v:AV} (h:T.get (E.set (some d) u) t=some v) (ht:t=d):v=u/\u≠.bad:=by
 rw[CB,if_pos ht] at h;cases u <;> cases h <;> exact⟨rfl,by simp⟩
theorem aha {call:Nat->List AV->M AV} (hfc:∀f a,aC (call f a)) (hc:vo P w0 call) (hmx:P.follows .mixedOrders=true) {N rid:Nat} {ops:Array Oper} {dt cl:T Nat} {Q:Exit->Act->World->Prop} {E E':Env} {a:Act} {φ:Ph} {s s':Ob} {w:World} {n n':Nat} {r l1:Lg}
  (hdt:wO N ops.toList 0 .e=some dt) (hcl:Bv ops.toList 0 .e=some cl) (e:Eu P call N ops.toList dt cl ops.toList 0 [] E s n=.ok E' s' n' r l1) (h:Rel P w0 φ s w) (hE:iG φ N E a) (hf:Free φ n n')
  (hQ:∀ψ a' w',Rel P w0 ψ s' w'->Ext φ ψ n n'->φ.le ψ->iG ψ N E' a'->Q .normal a' w'):Code.wp P (.region rid ops true) Q a w:=by
 obtain⟨S,Nn,Rl,Wl,Vv,En,⟨a1,a2,a3⟩,⟨b1,b2,b3⟩,htr⟩:=Yh ops.toList 0 [] E E' s s' n n' r l1 rfl e;simp only[Nat.zero_add,Array.length_toList] at b1 b2 b3 htr;generalize hm:ops.size=m at b1 b2 b3 htr;obtain⟨-,P5⟩:=Yj ops.toList 0 .e cl hcl (λj q hq=>by rw[T.BF] at hq;cases hq);simp only[Nat.zero_add] at P5;obtain⟨-,hds,hdt'⟩:=PV ops.toList 0 .e dt hdt;simp only[Nat.zero_add] at hds hdt';have Gl:∀(d i:Nat),T.get dt d=some i->∃o:Oper,ops.toList[i]?=some o/\o.dst=some d:=λd i hi=>by
  rcases hdt' d i hi with h1 | ⟨j,o,rfl,h2,h3⟩
  ·rw[T.BF] at h1;cases h1
  ·exact⟨o,h2,h3⟩
 have tr:∀k,k < m->∃o q,Tr P call N ops.toList dt cl S Nn Rl Wl Vv En k o q/\∀i,i < k->Apart q (Rl k) (Wl k) ⟨i,Nn i,Nn (i+1),Rl i,Wl i⟩:=λk hk=>by
  obtain⟨o,q,h1,-,h3⟩:=htr k (Nat.zero_le _) hk;exact⟨o,q,h1,λi hi=>h3 i (Nat.zero_le _) hi⟩
 have fr:∀k,k < m->∃v,Tc v (S k) (Nn k) (Vv k) (S (k+1)) (Nn (k+1)) (Rl k) (Wl k):=λk hk=>by
  obtain⟨o,q,h1,-⟩:=tr k hk;exact⟨_,EG P hfc (Mh N dt cl k q (En k)) (Mj _ _ _ _ _) o _ _ _ _ _ _ _ h1.run⟩
 have H:Run m S Nn Rl Wl:=⟨λk hk=>(fr k hk).elim λ_ f=>f.le,λk hk=>(fr k hk).elim λ_ f=>f.qG,λk hk=>(fr k hk).elim λ_ f=>f.old,λk hk=>(fr k hk).elim λ_ f=>f.new⟩;have hN0:Nn 0<=Nn m:=H.mono (Nat.zero_le _) (Nat.le_refl _);have Ym:∀(i:Nat) (o:Oper) (d:Nat),ops.toList[i]?=some o->o.dst=some d->d < N:=λi o d h1 h2=>(hds i o d h1 h2).2;have diff:sH ((ops.toList.map (·.dst)).filterMap id)=true:=PZ λi j d hi hj=>by
  simp only[List.getElem?_map,Option.map_eq_some_iff] at hi hj;obtain⟨o,h1,h2⟩:=hi;obtain⟨o',h3,h4⟩:=hj;have:=(hds i o d h1 h2).1;rw[(hds j o' d h3 h4).1] at this;exact(Option.some.inj this).symm
 have hT:H9 ops (ops.toList.map (·.dst)) (ops.toList.map jg):=⟨by
  simp only[Az,Bool.and_eq_true,beq_self_eq_true,true_and,diff,List.length_map,List.all_eq_true,List.mem_range];intro i hi;obtain⟨o,ho⟩:∃o,ops[i]?=some o:=⟨_,Array.getElem?_eq_getElem hi⟩;have ho':ops.toList[i]?=some o:=by simpa using ho
  obtain⟨q,-,h2,-⟩:=P5 i o ho';simp only[ho,List.getElem?_map,ho',Option.map_some,Bool.and_eq_true,List.all_eq_true,Nat.blt_eq,List.contains_iff_mem];exact⟨λj hj=>h2 j hj,λj hj=>hj⟩⟩
 -- the slots in the list's order
 have P6:∀k,k<=m->∀t,T.get dt t=none->T.get (En k) t=T.get E t:=by
  intro k
  induction k with
  | zero=>intro _ t _;rw[a3]
  | succ k ih =>
   intro hk t ht;obtain⟨o,q,h1,-⟩:=tr k (by omega);rw[h1.env];cases hd:o.dst with
   | none=>exact ih (by omega) t ht
   | some d =>
    rw[CB,if_neg (λe=>by subst e;rw[(hds k o t h1.op hd).1] at ht;cases ht)];exact ih (by omega) t ht
 have P7:∀k,k<=m->∀t i,T.get dt t=some i->(k<=i->T.get (En k) t=T.get E t)/\(i < k->∀v,T.get (En k) t=some v->v=Vv i/\Vv i≠.bad):=by
  intro k
  induction k with
  | zero=>intro _ t i _;exact⟨λ_=>by rw[a3],λh=>absurd h (Nat.not_lt_zero _)⟩
  | succ k ih =>
   intro hk t i hi;obtain⟨o,q,h1,-⟩:=tr k (by omega);obtain⟨h2,h3⟩:=ih (by omega) t i hi;rw[h1.env];cases hd:o.dst with
   | none =>
    refine⟨λh4=>h2 (by omega),λh4=>?_⟩
    by_cases e:i=k
    ·subst e
     obtain⟨o',h5,h6⟩:=Gl t i hi;rw[h1.op] at h5;cases h5;rw[hd] at h6;cases h6
    ·exact h3 (by omega)
   | some d =>
    have hdk:=(hds k o d h1.op hd).1
    by_cases e:t=d
    ·subst e
     rw[hi] at hdk;cases hdk;refine⟨λh4=>absurd h4 (by omega),λ_ v hv=>?_⟩;exact ag9 hv rfl
    ·refine⟨λh4=>?_,λh4 v hv=>?_⟩
     ·rw[CB,if_neg e];exact h2 (by omega)
     ·rw[CB,if_neg e] at hv
      by_cases e2:i=k
      ·subst e2
       obtain⟨o',h5,h6⟩:=Gl t i hi;rw[h1.op] at h5;cases h5;rw[hd] at h6;cases h6;exact absurd rfl e
      ·exact h3 (by omega) v hv
 -- what is known where those in L are done
 let A:(Nat->Bool)->(Nat->Value)->Act:=λL V=>fK (ops.toList.map (·.dst)) 0 L V a
 let F:(Nat->Bool)->(Nat->Value)->World->Prop:=λL V w'=>∃ψ t,Rel P w0 ψ t w'/\φ.le ψ/\(∀i,(∀k,k < m->L k=true->¬(Nn k<=i/\i < Nn (k+1)))->ψ i=φ i)/\Ag m S Nn Wl L t/\∀k,k < m->L k=true->Vv k=.bad\/(Vv k).den ψ=some (V k)
 have Yn:∀L V t,T.get dt t=none->(A L V).tmps[t]?=a.tmps[t]?:=λL V t ht=>(CF (L:=L) (V:=V) _ 0 a).2.2 t λj hj=>by
  simp only[List.getElem?_map,Option.map_eq_some_iff] at hj;obtain⟨o,h1,h2⟩:=hj;rw[(hds j o t h1 h2).1] at ht;cases ht
 have Yo:∀L V t i,T.get dt t=some i->(A L V).tmps[t]?=some (cond (L i) (V i) (nE a t))/\a.tmps[t]?=some (nE a t)/\i < m:=λL V t i hi=>by
  obtain⟨o,h1,h2⟩:=Gl t i hi;have hlt:t < a.tmps.size:=by rw[hE.size];exact Ym i o t h1 h2
  have hi2:=(gs1 h1).1;refine⟨?_,ag7 hlt,by rw[← hm];simpa using hi2⟩;have:=PX (L:=L) (V:=V) (ops.toList.map (·.dst)) 0 a i t (by simp[h1,h2]) diff hlt
  rwa [Nat.zero_add] at this
 have P8:∀ {ψ:Ph},φ.le ψ->∀t v,t < N->T.get E t=some v->∃V,v.den ψ=some V/\a.tmps[t]?=some V:=λhl t v ht hv=>by
  obtain⟨V,h1,h2⟩:=hE.val t v ht hv;exact⟨V,AV.sN hl v h1,h2⟩
 have Gm:∀L,yJ (ops.toList.map jg) L->∀(i:Nat) (o:Oper) (q x:Nat),ops.toList[i]?=some o->T.get cl i=some q->iB q x=true->pz L (jg o)->L x=true/\x < i:=λL hC=>ag6 P5 hC;refine Sc (F:=F) (A:=A) hT hmx ?_ ?_ ?_ (λ_ _=>rfl)
 ·-- the steps
  have steps:∀(r:List (List Nat)) (k:Nat),(ops.toList.map jg).drop k=r->Dy P ops Q F A (ops.toList.map jg) k r:=by
   intro r
   induction r with
   | nil=>intro k _;trivial
   | cons wi r ih =>
    intro k hk;refine⟨?_,ih (k+1) (by rw[← List.drop_drop,hk];rfl)⟩;intro L V w' hF hL Dz hC o ho K hK;have ho':ops.toList[k]?=some o:=by simpa using ho
    have hkm:k < m:=by rw[← hm];exact(Array.getElem?_eq_some_iff.1 ho).1
    have hwi:wi=jg o:=by
     have:(ops.toList.map jg)[k]?=some wi:=by rw[← List.head?_drop,hk];rfl
     rw[List.getElem?_map,ho'] at this;exact(Option.some.inj this).symm
    subst hwi;obtain⟨ψ,t,q1,q2,q3,q4,q5⟩:=hF;obtain⟨o2,q,T1,T2⟩:=tr k hkm;have:=T1.op;rw[ho'] at this;cases this;have hup:∀j,k < j->j < m->L j=true->Gj Nn Rl Wl k j:=λj h1 h2 h3=>by
     obtain⟨oj,qj,J1,J2⟩:=tr j h2;rcases J2 k h1 with h4 | h4
     ·have hAj:pz L (jg oj):=hC j _ (by rw[List.getElem?_map,J1.op];rfl) h3
      have:=(Gm L hC j oj qj k J1.op J1.wt h4 hAj).1;rw[hL] at this;cases this
     ·exact h4
    have hdn:∀j,j < k->L j=false->Gj Nn Rl Wl j k:=λj h1 h3=>by
     rcases T2 j h1 with h4 | h4
     ·have:=(Gm L hC k o q j ho' T1.wt h4 Dz).1
      rw[h3] at this;cases this
     ·exact h4
    obtain⟨lk1,lk2⟩:=q4.look H hkm hL hup hdn;have F1:=EG P hfc (Mh N dt cl k q (En k)) (Mj N ops.toList q (En k) o) o _ _ _ _ _ _ _ T1.run;obtain⟨t',z1,z2,z3,z4⟩:=F1.run t lk1 lk2
    -- the slots that it may look at
    have look:∀x u,x < N->(∀i,T.get dt x=some i->iB q i=true\/∃qi,T.get cl i=some qi/\iB qi k=true)->T.get (En k) x=some u->∃U,u.den ψ=some U/\(A L V).tmps[x]?=some U:=by
     intro x u hx hi hu;cases hd:T.get dt x with
     | none =>
      rw[Yn L V x hd];rw[P6 k (by omega) x hd] at hu;exact P8 q2 x u hx hu
     | some i =>
      obtain⟨s1,s2,s3⟩:=Yo L V x i hd;rcases hi i hd with h4 | ⟨qi,h4,h5⟩
      ·obtain⟨qW,hik⟩:=Gm L hC k o q i ho' T1.wt h4 Dz
       obtain⟨rfl,hnb⟩:=(P7 k (by omega) x i hd).2 hik u hu;rw[s1,qW];exact⟨V i,(q5 i (by omega) qW).resolve_left hnb,rfl⟩
      ·obtain⟨oi,hoi,-⟩:=Gl x i hd
       have hki:k < i/\L i=false:=by
        cases qW:L i with
        | true =>
         have:=(Gm L hC i oi qi k hoi h4 h5 (hC i _ (by rw[List.getElem?_map,hoi];rfl) qW)).1;rw[hL] at this;cases this
        | false =>
         -- k lies ahead of i
         have:k < i:=by
          have hC1:yJ (ops.toList.map jg) (λ_=>true):=λ_ wi _ _=>uF.2 λ_ _=>rfl;exact(Gm (λ_=>true) hC1 i oi qi k hoi h4 h5 (uF.2 λ_ _=>rfl)).2
         exact⟨this,rfl⟩
       rw[(P7 k (by omega) x i hd).1 (by omega)] at hu;obtain⟨U,u1,u2⟩:=P8 q2 x u hx hu;rw[s2] at u2;cases u2;rw[s1,hki.2];exact⟨_,u1,rfl⟩
    have hρ:sZ ψ (Bw N dt cl k q (En k)) (A L V).eval:=by
     intro x u s1 n1 s2 n2 r2 l2 e1;have fin:∀y,(∀i,T.get dt y=some i->iB q i=true\/∃qi,T.get cl i=some qi/\iB qi k=true)->env N (En k) (.tmp y) s1 n1=.ok u s2 n2 r2 l2->s2=s1/\n2=n1/\u.den ψ=some ((A L V).eval (.tmp y)):=λy hy e2=>by
      obtain⟨hb,e3⟩:=eG e2;obtain⟨h1,h2,h3⟩:=bW e3;obtain⟨U,k1,k2⟩:=look y u (mP hb) hy h1;exact⟨h2,h3,by simp[Act.eval,Array.getD_eq_getD_getElem?,k2,k1]⟩
     cases x with
     | tmp y =>
      unfold Bw at e1;dsimp only at e1;cases hd:T.get dt y with
      | none=>rw[hd] at e1;exact fin y (λi hi=>by rw[hd] at hi;cases hi) e1
      | some i =>
       rw[hd] at e1;obtain⟨hb,e2⟩:=eG (show cd _ _ (M.no 131) _ _=_ from e1);refine fin y (λi' hi'=>?_) e2;rw[hd] at hi';cases hi';simp only[Bool.or_eq_true] at hb;rcases hb with hb | hb
       ·exact .inl hb
       ·cases hq:T.get cl i with
        | none=>rw[hq] at hb;cases hb
        | some qi=>rw[hq] at hb;exact .inr ⟨qi,rfl,hb⟩
     | const c =>
      obtain⟨h1,h2,h3⟩:=bW (show M.opt 111 (wH c) _ _=_ from e1);exact⟨h2,h3,BM h1⟩
     | global g=>cases e1
     | func f=>obtain⟨rfl,rfl,rfl⟩:=aF (show(pure _:M _) _ _=_ from e1);exact⟨rfl,rfl,rfl⟩
    have hg:∀b s1 n1 r1 m1,BA N ops.toList q (En k) o t (Nn k)=.ok b s1 n1 r1 m1->s1=t/\n1=Nn k/\Region.wanted o (yielded ops (A L V).tmps)=b:=by
     intro b s1 n1 r1 m1 e1;unfold BA at e1;cases hgd:o.guard with
     | none =>
      rw[hgd] at e1;obtain⟨rfl,rfl,rfl⟩:=aF (show(pure true:M _) _ _=_ from e1);exact⟨rfl,rfl,by unfold Region.wanted;rw[hgd]⟩
     | some jb =>
      obtain⟨j,bb⟩:=jb;rw[hgd] at e1;obtain⟨hb,e2⟩:=eG (show cd (iB q j) _ (M.no 132) _ _=_ from e1);refine ag8 (φ:=ψ) (λj' q' d u h1 h2 h3 h4=>?_) e2;rw[hgd] at h1;cases h1;refine look d u h3 (λi hi=>.inl ?_) h4;cases hoj:ops[j]? with
      | none=>rw[hoj] at h2;cases h2
      | some oj =>
       rw[hoj] at h2;have:=(hds j oj d (by simpa using hoj) h2).1;rw[hi] at this;cases this;exact hb
    have hfree:Free ψ (Nn k) (Nn (k+1)):=λi h1 h2=>by
     have e1:ψ i=φ i:=q3 i λj hj qF hr=>by
      have hne:j≠k:=λe=>by subst e;rw[hL] at qF;cases qF
      rcases Nat.lt_or_ge j k with hjk | hjk
      ·have:=H.mono (j:=j+1) (k:=k) (by omega) (by omega);omega
      ·have:=H.mono (j:=k+1) (k:=j) (by omega) (by omega);omega
     rw[e1];have l1:=H.mono (j:=0) (k:=k) (by omega) (by omega);have l2:=H.mono (j:=k+1) (k:=m) (by omega) (Nat.le_refl _);exact hf i (by omega) (by omega)
    refine Yd (Q:=Q) (K:=K) (ops:=ops) hc q1 hρ hg z1 hfree λχ V' w'' p1 p2 p3 p4=>hK.out V' w'' ⟨χ,t',p1,Ph.le_trans q2 p3,λi hi=>?_,q4.step H hkm hL hup z2 z3 z4,λj hj qF=>?_⟩
    ·have hk':=hi k hkm sG
     rw[p2.out i (by omega)];exact q3 i λj hj qF=>hi j hj (by
      by_cases e:j=k
      ·subst e;exact sG
      ·rw[qE e];exact qF)
    ·by_cases e:j=k
     ·subst e;rw[R4];exact p4
     ·rw[qE e] at qF
      rw[H8 e];exact(q5 j hj qF).imp id (AV.sN p3 _)
  exact steps _ 0 rfl
 ·intro V
  refine⟨φ,s,h.drew,Ph.le_refl _,λ_ _=>rfl,λi o=>⟨λk hk hL=>?_,λ_=>by rw[a1]⟩,λk hk hL=>?_⟩
  ·have:=Nat.le_of_ble_eq_true hL;simp at this;omega
  ·have:=Nat.le_of_ble_eq_true hL;simp at this;omega
 ·intro V w' hF
  obtain⟨ψ,t,q1,q2,q3,q4,q5⟩:=hF;refine hQ ψ _ w' (q1.congr λi o=>?_) ⟨?_,λi hi=>q3 i λk hk _ hr=>?_⟩ q2 ⟨?_,λx v hx hv=>?_,?_⟩
  ·rw[← b1];exact(q4.all H i o).symm
  ·rw[← a2,← b2];exact hN0
  ·have l1:=H.mono (j:=0) (k:=k) (by omega) (by omega)
   have l2:=H.mono (j:=k+1) (k:=m) (by omega) (Nat.le_refl _);rw[a2] at l1;rw[b2] at l2;omega
  ·exact((CF (L:=λ_=>true) (V:=V) _ 0 a).1).trans hE.size
  ·rw[← b3] at hv
   cases hd:T.get dt x with
   | none =>
    rw[Yn _ V x hd];rw[P6 m (Nat.le_refl _) x hd] at hv;exact P8 q2 x v hx hv
   | some i =>
    obtain⟨s1,-,s3⟩:=Yo (λ_=>true) V x i hd;obtain⟨rfl,hnb⟩:=(P7 m (Nat.le_refl _) x i hd).2 s3 v hv;rw[s1];exact⟨V i,(q5 i s3 rfl).resolve_left hnb,rfl⟩
  ·have e1:marksOf E' N=marksOf E N:=by
    unfold marksOf;rw[← b3];cases hd:T.get dt N with
    | none=>rw[P6 m (Nat.le_refl _) N hd]
    | some i=>obtain⟨o,h1,h2⟩:=Gl N i hd;have:=Ym i o N h1 h2;omega
   rw[e1,(CF (L:=λ_=>true) (V:=V) _ 0 a).2.1];exact hE.marks.le q2
end
end Go.Proofs.YtfabngnaejjcmaaGreatDoor
