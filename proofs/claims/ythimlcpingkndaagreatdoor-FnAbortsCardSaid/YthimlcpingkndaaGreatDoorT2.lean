/- The proof's texts, part 2. -/
import Derived.Test.YthimlcpingkndaaGreatDoorT1
import Derived.ProofKit
import Derived.OpenShut
import Derived.ShutString
import Derived.ChangeOld
namespace Go.Proofs.YthimlcpingkndaaGreatDoor
open Go.RowKit
set_option linter.unusedVariables false
set_option maxHeartbeats 400000
set_option maxRecDepth 100000
/- An executor over values whose addresses are names: what it answers holds of the machine's own run (Co). -/
noncomputable section
/-- Values; an address is the name of an object and a place in it. 'sc': a value of the machine's own. -/
inductive AV where
 | sc (v:Value)
 | ptr (i o:Nat)
 | sl (i o n c:Nat)
 | mp (i:Nat)
 | fn (f:Fn) (a c:List AV)
 | dF (t:Nat) (v:AV)
 | agg (l:List AV)
 | bG (l:List AV)
 | iy (i:Nat)
 | emp (i o d:Nat)
 | bad
/-- Tables by numbers. -/
inductive T (α:Type) where
 | e:T α
 | n (l:T α) (v:Option α) (r:T α):T α
def T.get {α:Type} (t:T α):Nat->Option α:=T.rec (λ_=>none) (λ_ v _ gl gr k=>cond (Nat.beq k 0) v (cond (Nat.beq (Nat.mod k 2) 1) (gl (Nat.div k 2)) (gr (Nat.pred (Nat.div k 2))))) t
def T.one {α:Type} (f:Nat):Nat->Option α->T α:=Nat.rec (λ_ _=>.e) (λ_ ih k x=>cond (Nat.beq k 0) (.n .e x .e) (cond (Nat.beq (Nat.mod k 2) 1) (.n (ih (Nat.div k 2) x) none .e) (.n .e none (ih (Nat.pred (Nat.div k 2)) x)))) f
def T.put {α:Type} (t:T α):Nat->Option α->T α:=T.rec (λk x=>T.one (Nat.succ k) k x) (λl v r pl pr k x=>cond (Nat.beq k 0) (.n l x r) (cond (Nat.beq (Nat.mod k 2) 1) (.n (pl (Nat.div k 2) x) v r) (.n l v (pr (Nat.pred (Nat.div k 2)) x)))) t
/-- What stands at a point: a cell, or (at place 0) what the object is: a row of cells (its type, cells an element, how many are known, whether there may be more), a map, a walk over one. -/
inductive O where
 | c (v:AV)
 | row (t e n:Nat) (op:Bool)
 | map (es:List (AV × AV × Nat)) (Cq:Nat)
 | it (m since:Nat) (seen:List Nat) (last:Nat)
 | sp (lp:Bool)
/-- An object: its points, one behind the other. -/
abbrev Ol:=List (Option O)
def bP (l:Ol):Nat->Option O:=List.rec (λ_=>none) (λx _ ih k=>Nat.rec x (λk _=>ih k) k) l
def qo (v:Option O) (k:Nat):Ol:=Nat.rec [v] (λ_ r=>none :: r) k
def qp (l:Ol) (v:Option O):Nat->Ol:=List.rec (λk=>qo v k) (λx t ih k=>Nat.rec (v :: t) (λk _=>x :: ih k) k) l
def jA (l:Ol):Nat->Ol:=List.rec (λ_=>[]) (λx t ih k=>Nat.rec (x :: t) (λk _=>ih k) k) l
def fB (x:Option O):Option AV:=match x with
 | some (.c v)=>some v
 | _=>none
def nR (v:AV):Option (List AV)->Option (List AV)
 | some r=>some (v :: r)
 | none=>none
/-- The first k, all of them cells. -/
def takeC (l:Ol):Nat->Option (List AV):=List.rec (λk=>Nat.rec (some []) (λ_ _=>none) k) (λx _ ih k=>Nat.rec (some []) (λk _=>match fB x with | some v=>nR v (ih k) | none=>none) k) l
def kY (x:Option O):Option Ol->Option Ol
 | some r=>some (x :: r)
 | none=>none
abbrev Ob:=T Ol
def Ob.at (s:Ob) (i:Nat):Ol:=match T.get s i with | some l=>l | none=>[]
def Ob.get (s:Ob) (i o:Nat):Option O:=bP (s.at i) o
def Ob.put (s:Ob) (i o:Nat) (v:Option O):Ob:=T.put s i (some (qp (s.at i) v o))
/-- Cr that were looked at. -/
inductive Lg where
 | e
 | p (i o:Nat)
 | rg (i o k:Nat)
 | ob (i:Nat)
 | a (x y:Lg)
def Lg.app:Lg->Lg->Lg
 | .e,y=>y
 | x,.e=>x
 | x,y=>.a x y
inductive Rs (α:Type) where
 | ok (a:α) (s:Ob) (n:Nat) (r w:Lg)
 | no (e:List Nat)
def M (α:Type):Type:=Ob->Nat->Rs α
def M.pure {α:Type} (a:α):M α:=λs n=>.ok a s n .e .e
def M.bind {α β:Type} (m:M α) (f:α->M β):M β:=λs n=>match m s n with
 | .no e=>.no e
 | .ok a s n r w=>match f a s n with
  | .no e=>.no e
  | .ok b s n r' w'=>.ok b s n (r.app r') (w.app w')
instance:Monad M where
 pure:=M.pure
 bind:=M.bind
def M.no {α:Type} (e:Nat):M α:=λ_ _=>.no [e]
def M.tag {α:Type} (e:Nat) (m:M α):M α:=λs n=>match m s n with | .no l=>.no (e :: l) | r=>r
def M.opt {α:Type} (e:Nat):Option α->M α
 | some a=>M.pure a
 | none=>M.no e
def M.get (i o:Nat):M O:=λs n=>match Ob.get s i o with | some v=>cond (Nat.blt i n) (.ok v s n (.p i o) .e) (.no [i,o,3]) | none=>.no [i,o,1]
def M.put (i o:Nat) (v:Option O):M Unit:=λs n=>cond (and (Nat.blt i n) (and (Nat.blt i 16000000) (Nat.blt o 16000000))) (.ok () (Ob.put s i o v) n .e (.p i o)) (.no [i,o,2])
/-- Of what was looked at only what is not one's own. -/
def Lg.cut (n:Nat):Lg->Lg
 | .e=>.e
 | .p i o=>cond (Nat.blt i n) (.p i o) .e
 | .rg i o k=>cond (Nat.blt i n) (.rg i o k) .e
 | .ob i=>cond (Nat.blt i n) (.ob i) .e
 | .a x y=>Lg.app (x.cut n) (y.cut n)
def M.own {α:Type} (m:M α):M α:=λs n=>match m s n with
 | .ok a s n' r w=>.ok a s n' (r.cut n) (w.cut n)
 | .no e=>.no e
def M.fresh:M Nat:=λs n=>.ok n s (Nat.succ n) .e .e
/-- Values without an address. -/
def kZ:Value->Option AV
 | .agg _ | .tuple _ | .iface .. | .func .. | .pointer (some _) | .slice (some _) _ _ | .map (some _) | .chan (some _)=>none
 | v=>some (.sc v)
def gD:List Value->Option (List AV)
 | []=>some []
 | v :: l=>match kZ v,gD l with | some v,some l=>some (v :: l) | _,_=>none
def iA:Value->Option AV
 | .agg cs=>(gD cs.toList).map .agg
 | .tuple cs=>(gD cs.toList).map .bG
 | v=>kZ v
def gF:List AV->Option (List Value)
 | []=>some []
 | .sc v :: l=>match gF l with | some l=>some (v :: l) | none=>none
 | _=>none
def AV.sv:AV->Option Value
 | .sc v=>some v
 | .agg l=>(gF l).map λl=>.agg l.toArray
 | .dF t v=>v.sv.map (.iface t)
 | _=>none
/-- What one cell holds. -/
def AV.one:AV->Bool
 | .agg _=>false
 | .bG _=>false
 | .sc (.agg _)=>false
 | .sc (.tuple _)=>false
 | _=>true
def AV.cells:AV->List AV
 | .agg l=>l
 | .sc (.agg cs)=>cs.toList.map .sc
 | v=>[v]
/-- What a Sem answers that asks for the program alone. -/
def pr {α:Type} (P:Program):Sem α->Option α
 | .pure a=>some a
 | .program k=>pr P (k P)
 | _=>none
section
variable (P : Program)
def bW (t:Nat):M Nat:=M.opt 10 ((P.info? t).map (·.size))
def bT (t:Nat):M TypeDesc:=M.opt 11 (P.underlying t)
def lg (t:Nat):M Bool:=do match ← bT P t with
 | .struct _ | .array _ _=>pure true
 | _=>pure false
def fI (t:Nat):M (List AV):=M.opt 12 ((P.info? t).bind λi=>i.zero.bind λv=>gD v.cells.toList)
/-- k cells, from place o on. -/
def gG (i o k:Nat):M (List AV):=λs n=>match takeC (jA (s.at i) (Nat.succ o)) k with
 | some l=>cond (Nat.blt i n) (.ok l s n (.rg i (Nat.succ o) k) .e) (.no [i,3])
 | none=>.no [i,o,k,13]
/-- Cells that lie there are Ct. -/
def gH:List AV->Ol->Option Ol
 | [],l=>some l
 | v :: vs,x :: l=>cond v.one (match fB x with | some _=>kY (some (.c v)) (gH vs l) | none=>none) none
 | _ :: _,[]=>none
def iB (vs:List AV) (l:Ol):Nat->Option Ol:=List.rec (λk=>Nat.rec (gH vs []) (λ_ _=>none) k) (λx t ih k=>Nat.rec (gH vs (x :: t)) (λk _=>kY x (ih k)) k) l
def iR (i o:Nat) (vs:List AV):M Unit:=λs n=>match iB vs (s.at i) (Nat.succ o) with
 | some l=>cond (and (Nat.blt i n) (Nat.blt i 16000000)) (.ok () (T.put s i (some l)) n (.rg i (Nat.succ o) vs.length) (.rg i (Nat.succ o) vs.length)) (.no [i,2])
 | none=>.no [i,o,14]
def jB (i o:Nat):List AV->M Unit
 | []=>M.pure ()
 | v :: vs=>iR i o (v :: vs)
def laid:List AV->Option Ol
 | []=>some []
 | v :: vs=>cond v.one (kY (some (.c v)) (laid vs)) none
/-- A whole object. -/
def lq (i:Nat) (h:O) (vs:List AV):M Unit:=λs n=>match laid vs with
 | some l=>cond (and (Nat.blt i n) (Nat.blt i 16000000)) (.ok () (T.put s i (some (some h :: l))) n .e (.ob i)) (.no [i,2])
 | none=>.no [i,14]
def rowAt (i:Nat):M (Nat × Nat × Nat × Bool):=do match ← M.get i 0 with
 | .row t e n op=>pure (t,e,n,op)
 | _=>M.no 15
/-- A new row of cells. -/
def eu (t e:Nat) (l:List AV) (op:Bool):M Nat:=do
 let i ← M.fresh
 lq i (.row t e l.length op) l
 pure i
def lC (t i o:Nat):M AV:=do
 let _ ← rowAt i
 cond (← lg P t) (do
  let l ← gG i o (← bW P t)
  pure (.agg l)) (do
  match ← M.get i (Nat.succ o) with
  | .c v=>pure v
  | _=>M.no 16)
def lD (t:Nat) (l:List AV) (o:Nat):M AV:=do
 cond (← lg P t) (do
  let k ← bW P t
  pure (.agg ((l.drop o).take k))) (M.opt 17 (l.drop o).head?)
def iC:AV->M (Nat × Nat)
 | .ptr i o=>pure (i,o)
 | _=>M.no 18
def gI:AV->M Int
 | .sc (.int _ n)=>pure n
 | _=>M.no 19
def setAt (cs:List AV):Nat->List AV->List AV
 | _,[]=>cs
 | o,v :: l=>setAt (cs.set o v) (Nat.succ o) l
def iT (place:Nat->Option (Nat × Nat)):List AV->List (Nat × AV)->Option (List AV)
 | cells,[]=>some cells
 | cells,(i,v) :: rest=>match place i with
  | none=>none
  | some (off,size)=>cond (and (Nat.beq v.cells.length size) (Nat.ble (off+size) cells.length)) (iT place (setAt cells off v.cells) rest) none
def iU (z:List AV):Nat->List AV
 | 0=>[]
 | k+1=>z ++ iU z k
def lF (lo:Int) (n:Nat):M Nat:=match lo with
 | .ofNat k=>cond (Nat.ble k n) (pure k) (M.no 20)
 | _=>M.no 21
def bnd (d n:Nat):Option AV->M Nat
 | none=>pure d
 | some v=>do lF (← gI v) n
def iD:AV->M Nat
 | .sl _ _ n _=>pure n
 | .emp _ _ _=>pure 0
 | .sc (.slice none n _)=>pure n
 | .sc (.string s)=>pure s.size
 | _=>M.no 22
def iE (s:ByteArray):List AV:=s.data.toList.map λb=>.sc (.int .u8 b.toNat)
/-- The first n elements' cells. -/
def jC (e n:Nat):AV->M (List AV)
 | .sl i o _ _=>do
  let _ ← rowAt i
  gG i o (Nat.mul n e)
 | .emp _ _ _=>cond (Nat.beq n 0) (pure []) (M.no 23)
 | .sc (.slice none _ _)=>pure []
 | .sc (.string s)=>pure (iE s)
 | _=>M.no 23
def dK (t:Nat):M Nat:=do match ← bT P t with
 | .slice e=>pure e
 | _=>M.no 24
def eB (t:Nat):M (Nat × Nat):=do match ← bT P t with
 | .map k e=>pure (k,e)
 | _=>M.no 42
def eD (ts:List Nat):M Nat:=M.opt 141 ts.head?
def iV (t:Nat):M (Array Field):=do match ← bT P t with
 | .struct f=>pure f
 | _=>M.no 74
def nS (k b:Nat):Bool:=Nat.ble (Nat.mul k (Nat.succ b)) 1000000000
def lG:List Nat->M Unit
 | []=>pure ()
 | t :: _=>do match ← bT P t with
  | .slice _=>pure ()
  | .string=>pure ()
  | _=>M.no 25
/-- A row in place of another that nobody looks at any more, or beside it. -/
def grow (el e i o n c m:Nat) (new:List AV):M AV:=do
 let r ← rowAt i
 let old ← gG i o (Nat.mul n e)
 cond r.2.2.2 (cond (and (Nat.beq o 0) (and (Nat.beq r.2.2.1 (Nat.mul c e)) (and (Nat.beq r.1 el) (Nat.beq e r.2.1)))) (do
  M.put i 0 none
  let j ← eu el e (old ++ new) true
  pure (.sl j 0 (n+m) (n+m))) (M.no 29)) (do
  let j ← eu el e (old ++ new) true
  pure (.sl j 0 (n+m) (n+m)))
/-- 'append': behind a row that may be greater than known nobody looks at the elder one any more. -/
def lH (ts:List Nat) (s x:AV):M AV:=do
 let el ← dK P (← eD ts)
 let e ← bW P el
 let dB ← M.opt 25 ((P.info? el).map (·.bytes))
 let _ ← lG P (ts.drop 1)
 let z ← fI P el
 let m ← iD x
 let new ← jC e m x
 cond (and (Nat.beq new.length (Nat.mul m e)) (Nat.beq z.length e)) (match s with
 | .sc (.slice none n c) =>
  cond (Nat.beq m 0) (cond (Nat.ble n c) (pure (.sc (.slice none n c))) (M.no 27)) (cond (and (Nat.beq c 0) (and (Nat.beq n 0) (nS m dB))) (do
   let i ← eu el e new true
   pure (.sl i 0 m m)) (M.no 28))
 | .sl i o n c =>
  cond (Nat.ble (n+m) c) (do
   let _ ← rowAt i
   jB i (o+n * e) new
   pure (.sl i o (n+m) c)) (cond (nS (n+m) dB) (grow el e i o n c m new) (M.no 30))
 | _=>M.no 31) (M.no 26)
def jD (d:TypeDesc) (a b:AV):M Bool:=match a.sv with
 | some x=>(match b.sv with
  | some y=>M.opt 32 (Instr.sameNow d x y)
  | none=>M.no 33)
 | none=>M.no 33
def lI (d:TypeDesc) (k:AV):List (AV × AV × Nat)->Nat->M (Option (Nat × AV))
 | [],_=>pure none
 | (k',v,_) :: l,i=>do cond (← jD d k k') (pure (some (i,v))) (lI d k l (Nat.succ i))
/-- Keys that are made of parts. -/
def nT (t:Nat) (k:Value):List (AV × AV × Nat)->Nat->M (Option (Nat × AV))
 | [],_=>pure none
 | (k',v,_) :: l,i=>do
  let u ← M.opt 47 k'.sv
  let q ← M.opt 32 (pr P (Op.equal t k u))
  cond q (cond (Instr.sameBits 10000 u k) (pure (some (i,v))) (M.no 33)) (nT t k l (Nat.succ i))
def qw:TypeDesc->Bool
 | .int _=>true
 | .string=>true
 | .bool=>true
 | _=>false
def qx:TypeDesc->Bool
 | .struct _=>true
 | .array _ _=>true
 | _=>false
def jE (b:Bool) (t:Nat) (k:AV) (es:List (AV × AV × Nat)):M (Option (Nat × AV)):=do
 let d ← bT P t
 cond (qw d) (lI d k es 0) (cond (qx d) (do
  let u ← M.opt 47 k.sv
  let _ ← M.opt 149 (pr P (Instr.checkKey b 10000 t u))
  nT P t u es 0) (M.no 140))
def gJ (i:Nat):M (List (AV × AV × Nat) × Nat):=do match ← M.get i 0 with
 | .map es c=>pure (es,c)
 | _=>M.no 34
def nU:TypeDesc->AV->AV->Option Bool
 | .pointer _,.ptr _ _,.sc (.pointer none) | .pointer _,.sc (.pointer none),.ptr _ _=>some false
 | .slice _,.sl _ _ _ _,.sc (.slice none _ _) | .slice _,.sc (.slice none _ _),.sl _ _ _ _=>some false
 | .map _ _,.mp _,.sc (.map none) | .map _ _,.sc (.map none),.mp _=>some false
 | .func _ _ _,.fn _ _ _,.sc .nilFunc | .func _ _ _,.sc .nilFunc,.fn _ _ _=>some false
 | .interface _,.dF _ _,.sc .nilIface | .interface _,.sc .nilIface,.dF _ _=>some false
 | _,_,_=>none
def lJ (ts:List Nat):AV->M AV
 | .sl _ _ n _=>do
  let _ ← dK P (← eD ts)
  pure (.sc (goInt n))
 | .emp _ _ _=>do
  let _ ← dK P (← eD ts)
  pure (.sc (goInt (0:Nat)))
 | .mp i=>do
  let _ ← eB P (← eD ts)
  let r ← gJ i
  pure (.sc (goInt r.1.length))
 | x=>match x.sv with
  | some v=>M.opt 35 ((pr P (Builtin.len_ ts.toArray 0 #[v])).bind iA)
  | none=>do match ← bT P (← eD ts) with
   | .array n _=>pure (.sc (goInt n))
   | _=>M.no 36
def nV (d:AV) (new:List AV):M Unit:=match d with
 | .sl i o _ _=>do
  let _ ← rowAt i
  jB i o new
 | .emp _ _ _=>match new with
  | []=>pure ()
  | _=>M.no 39
 | .sc (.slice none _ _)=>pure ()
 | _=>M.no 39
def isStr:AV->Bool
 | .sc (.string _)=>true
 | _=>false
def sZ (e:Nat) (d x:AV) (n k:Nat):M AV:=cond (or (not (isStr x)) (Nat.beq k n)) (do
 let new ← jC e k x
 nV d new
 pure (.sc (goInt k))) (M.no 38)
def nW (ts:List Nat) (d x:AV):M AV:=do
 let el ← dK P (← eD ts)
 let e ← bW P el
 let m ← iD d
 let n ← iD x
 sZ e d x n (cond (Nat.ble n m) n m)
def lK (ts:List Nat):AV->M AV
 | .sl i o n _=>do
  let el ← dK P (← eD ts)
  cond (Nat.beq n 0) (pure (.bG [])) (do
   let z ← fI P el
   let _ ← rowAt i
   jB i o (iU z n)
   pure (.bG []))
 | .sc (.slice none _ _)=>do
  let _ ← dK P (← eD ts)
  pure (.bG [])
 | _=>M.no 41
def nX (ts:List Nat) (k:AV):AV->M AV
 | .mp i=>do
  let kt ← eB P (← eD ts)
  let q ← gJ i
  let r ← jE P q.1.isEmpty kt.1 k q.1
  M.put i 0 (some (.map (match r with | some (j,_)=>q.1.eraseIdx j | none=>q.1) q.2))
  pure (.bG [])
 | _=>M.no 43
def jF (b:Bool) (xs:List AV):M AV:=match gF xs with
 | some l=>M.opt 44 ((pr P (cond b (Builtin.max_ #[] 0 l.toArray) (Builtin.min_ #[] 0 l.toArray))).bind iA)
 | none=>M.no 45
def qy (b:Builtin) (ts:List Nat) (args:List AV):M AV:=match b with
 | .len=>(match args with | [x]=>lJ P ts x | _=>M.no 46)
 | .append=>(match args with | [s,x]=>lH P ts s x | _=>M.no 46)
 | .copy=>(match args with | [s,x]=>nW P ts s x | _=>M.no 46)
 | .clear=>(match args with | [x]=>lK P ts x | _=>M.no 46)
 | .delete=>(match args with | [m,k]=>nX P ts k m | _=>M.no 46)
 | .max=>jF P true args
 | .min=>jF P false args
 | _=>M.no 46
def dS {α β:Type} (f:α->M β):List α->M (List β)
 | []=>pure []
 | a :: l=>do
  let b ← f a
  let r ← dS f l
  pure (b :: r)
def jG (x:AV):M Value:=M.opt 47 x.sv
def cO (s:Sem Value):M AV:=M.opt 48 ((pr P s).bind iA)
def lM (a b:M AV):AV->M AV
 | .sc (.bool true)=>a
 | .sc (.bool false)=>b
 | _=>M.no 50
def iW (t:Nat) (l:List AV):M AV:=do
 let i ← eu t (← bW P t) l false
 pure (.ptr i 0)
def jH (ρ:Operand->M AV) (ps:List (Nat × Operand)):M (List (Nat × AV)):=dS (λx=>do
 let v ← ρ x.2
 pure (x.1,v)) ps
def lQ (fs:List Field):M (List (Nat × Nat)):=dS (λf=>do
 let k ← bW P f.type
 pure (f.offset,k)) fs
def jI (t:Nat) (l:List (Nat × AV)):M AV:=do
 let z ← fI P t
 match ← bT P t with
 | .struct fs=>do
  let pl ← lQ P fs.toList
  let c ← M.opt 51 (iT (λi=>(pl.drop i).head?) z l)
  pure (.agg c)
 | .array _ el=>do
  let e ← bW P el
  let c ← M.opt 52 (iT (λi=>some (Nat.mul i e,e)) z l)
  pure (.agg c)
 | _=>M.no 53
def qz (el k e:Nat):M (List AV):=cond (Nat.beq (Nat.mul k e) 0) (pure []) (do
 let z ← fI P el
 cond (Nat.beq z.length e) (pure (iU z k)) (M.no 150))
def jJ (t len:Nat) (l:List (Nat × AV)):M AV:=do
 let el ← dK P t
 let e ← bW P el
 cond (Nat.ble (Nat.mul len e) (2 ^ 24)) (do
  let z ← qz P el len e
  let c ← M.opt 55 (iT (λi=>some (Nat.mul i e,e)) z l)
  let i ← eu el e c false
  pure (.sl i 0 len len)) (M.no 56)
def iX (t:Nat) (x:AV):M AV:=do
 let p ← iC x
 lC P t p.1 p.2
def jK (t:Nat) (x v:AV):M AV:=do
 let p ← iC x
 let k ← bW P t
 cond (Nat.beq v.cells.length k) (do
  let _ ← rowAt p.1
  jB p.1 p.2 v.cells
  pure (.bG [])) (M.no 57)
def fC (t:Nat):Bool:=match P.underlying t with
 | some (.pointer _)=>true
 | _=>false
def xB:AV->Bool
 | .ptr _ _=>true
 | _=>false
def lS:AV->M AV
 | .ptr i o=>pure (.ptr i o)
 | .fn (.func f) a c=>pure (.fn (.func f) a c)
 | .fn (.method name) [.dF t v] c=>do
  let i ← M.opt 102 (P.info? t)
  let m ← M.opt 103 (i.methods.find? (·.name == name))
  let _ ← bT P t
  match m.func,m.path.toList with
  | some (_,b),[]=>cond (or b (or (not (fC P t)) (xB v))) (pure (.fn (.method name) [.dF t v] c)) (M.no 104)
  | _,_=>M.no 106
 | .dF t v=>pure (.dF t v)
 | _=>M.no 58
def jL (op:BinOp) (t:Nat) (a b:AV):M AV:=do match nU (← bT P t) a b with
 | none=>M.no 59
 | some r=>match op with
  | .eql=>pure (.sc (.bool r))
  | .neq=>pure (.sc (.bool (not r)))
  | _=>M.no 59
def gK (op:BinOp) (t:Nat) (x y:Operand) (a b:AV):M AV:=match a.sv with
 | some u=>(match b.sv with
  | some v=>cO P (do eqGuard op t x y u v;binOp op t u v)
  | none=>jL P op t a b)
 | none=>jL P op t a b
def jM (k:IntKind):Nat:=IntKind.rec 0 1 2 3 4 5 6 7 k
def nY (op:BinOp) (k:IntKind) (a b:Int) (z:M AV):M AV:=match op with
 | .add=>cO P (Op.intArith .add k a b)
 | .sub=>cO P (Op.intArith .sub k a b)
 | .mul=>cO P (Op.intArith .mul k a b)
 | .quo=>cO P (Op.intDiv .quo k a b)
 | .rem=>cO P (Op.intDiv .rem k a b)
 | .eql=>cO P (Op.intCmp .eql a b)
 | .neq=>cO P (Op.intCmp .neq a b)
 | .lss=>cO P (Op.intCmp .lss a b)
 | .leq=>cO P (Op.intCmp .leq a b)
 | .gtr=>cO P (Op.intCmp .gtr a b)
 | .geq=>cO P (Op.intCmp .geq a b)
 | _=>z
def jN:List UInt8->List UInt8->Bool
 | [],[]=>true
 | a :: x,b :: y=>and (Nat.beq a.toNat b.toNat) (jN x y)
 | _,_=>false
def qA (op:BinOp) (a b:ByteArray):M AV:=match op with
 | .eql=>pure (.sc (.bool (jN a.data.toList b.data.toList)))
 | .neq=>pure (.sc (.bool (not (jN a.data.toList b.data.toList))))
 | _=>cO P (Op.stringOp op a b)
def nZ (op:BinOp) (z:M AV) (u v:Value):M AV:=match u with
 | .int k a=>(match v with
  | .int k' b=>cond (Nat.beq (jM k) (jM k')) (nY P op k a b z) z
  | _=>z)
 | .string a=>(match v with
  | .string b=>qA P op a b
  | _=>z)
 | _=>z
def jO (op:BinOp) (t:Nat) (x y:Operand) (a b:AV):M AV:=match a with
 | .sc u=>(match b with
  | .sc v=>nZ P op (gK P op t x y a b) u v
  | _=>gK P op t x y a b)
 | _=>gK P op t x y a b
def jP (op:UnOp) (x:AV):M AV:=do
 let u ← jG x
 cO P (Op.unary op u)
def strOf:List Value->ByteArray->Option ByteArray
 | [],s=>some s
 | .int .u8 n :: l,s=>strOf l (s.push (UInt8.ofNat n.toNat))
 | _,_=>none
def lT (src dst i o n:Nat):M AV:=do
 match ← bT P (← dK P src) with
 | .int .u8=>(do
 match ← bT P dst with
 | .string=>do
  let _ ← rowAt i
  let l ← gG i o n
  let c ← M.opt 61 (gF l)
  let b ← M.opt 60 (strOf c .empty)
  pure (.sc (.string b))
 | _=>M.no 62)
 | _=>M.no 62
def lU (el:Nat) (s:ByteArray):M AV:=do match ← bT P el with
 | .int .u8=>do
  let i ← eu el 1 (iE s) true
  pure (.sl i 0 s.size s.size)
 | _=>M.no 63
def jQ (src dst:Nat):AV->M AV
 | .sl i o n _=>lT P src dst i o n
 | x=>do
  let u ← jG x
  match u with
  | .int _ z=>(do
   let _ ← bT P src
   match ← bT P dst with
   | .int k=>cO P (Conv.intToInt k z)
   | _=>cO P (convert src dst u))
  | .string s=>(do match ← bT P dst with
   | .slice el=>(do match ← bT P src with
    | .string=>do cond (Nat.beq (← bW P el) 1) (lU P el s) (M.no 63)
    | _=>M.no 63)
   | _=>cO P (convert src dst u))
  | _=>cO P (convert src dst u)
def jR (t:Nat) (x:AV):M AV:=do match ← bT P t with
 | .interface _=>M.no 64
 | _=>pure (.dF t x)
def jS (t:Nat) (r:Option AV):M AV:=do
 (match r with
  | none=>pure ()
  | some h=>do
   let _ ← eB P t
   let _ ← gI h
   pure ())
 let i ← M.fresh
 M.put i 0 (some (.map [] 0))
 pure (.mp i)
def fJ:AV->M Nat
 | .sc (.int _ (.ofNat k))=>pure k
 | _=>M.no 80
def jT (t:Nat) (l c:AV):M AV:=do
 let el ← dK P t
 let e ← bW P el
 let dB ← M.opt 67 ((P.info? el).map (·.bytes))
 let l ← fJ l
 let c ← fJ c
 cond (and (Nat.ble l c) (and (Nat.ble c 1000000) (Nat.ble (Nat.mul dB c) (2 ^ 40)))) (do
  let z ← fI P el
  cond (Nat.beq z.length e) (do
   let i ← eu el e (iU z c) false
   pure (.sl i 0 l c)) (M.no 150)) (M.no 68)
def jU (t:Nat) (lo hi:Option AV) (x:AV):M AV:=match x with
 | .sl i o n c=>do
  let el ← dK P t
  let e ← bW P el
  let h ← bnd n c hi
  let l ← bnd 0 h lo
  cond (or (Nat.blt l c) (Nat.beq l 0)) (pure (.sl i (o+l * e) (h - l) (c - l))) (cond (and (Nat.beq l c) (Nat.beq h l)) (pure (.emp i o (l * e))) (M.no 71))
 | .sc (.slice none n c)=>do
  let _ ← bW P (← dK P t)
  let h ← bnd n c hi
  let l ← bnd 0 h lo
  pure (.sc (.slice none (h - l) (c - l)))
 | .sc (.string s)=>do match ← bT P t with
  | .string=>do
   let h ← bnd s.size s.size hi
   let l ← bnd 0 h lo
   pure (.sc (.string (s.extract l h)))
  | _=>M.no 70
 | .ptr i o=>do match ← bT P t with
  | .array k el=>do
   let e ← bW P el
   let h ← bnd k k hi
   let l ← bnd 0 h lo
   let r ← rowAt i
   cond (and (not r.2.2.2) (Nat.blt l k)) (pure (.sl i (o+l * e) (h - l) (k - l))) (M.no 72)
  | _=>M.no 73
 | _=>M.no 73
/-- A cut with three places: that it goes through is all that is kept. -/
def jV (t:Nat) (lo:Option AV) (hi mx x:AV):M AV:=match x with
 | .sl _ _ _ c=>do
  let _ ← bW P (← dK P t)
  let m ← lF (← gI mx) c
  let h ← lF (← gI hi) m
  let _ ← bnd 0 h lo
  pure .bad
 | _=>M.no 144
def jW (t f:Nat) (x:AV):M AV:=do
 let fs ← iV P t
 let fl ← M.opt 75 fs[f]?
 let p ← iC x
 let k ← bW P fl.type
 cond (Nat.beq k 0) (M.no 76) (pure (.ptr p.1 (p.2+fl.offset)))
def lV (t f:Nat):AV->M AV
 | .agg l=>do
  let fs ← iV P t
  let fl ← M.opt 78 fs[f]?
  lD P fl.type l fl.offset
 | _=>M.no 79
def lW (t:Nat) (ix:AV):AV->M AV
 | .sl i o n _=>do
  let el ← dK P t
  let k ← fJ ix
  let e ← bW P el
  cond (Nat.blt k n) (pure (.ptr i (o+k * e))) (M.no 81)
 | .ptr i o=>do
  let k ← fJ ix
  match ← bT P t with
  | .array n el=>do
   let e ← bW P el
   cond (Nat.blt k n) (pure (.ptr i (o+k * e))) (M.no 82)
  | _=>M.no 83
 | _=>M.no 83
def jX (t:Nat) (ix:AV):AV->M AV
 | .agg l=>do
  let k ← fJ ix
  match ← bT P t with
  | .array n el=>do
   let e ← bW P el
   cond (Nat.blt k n) (lD P el l (Nat.mul k e)) (M.no 85)
  | _=>M.no 84
 | x=>do
  let u ← jG x
  let v ← jG ix
  cO P (Instr.index t u v)
def zeroV (t:Nat):M AV:=M.opt 86 ((P.info? t).bind λi=>i.zero.bind iA)
def iY (ok:Bool) (v:AV) (b:Bool):AV:=cond ok (.bG [v,.sc (.bool b)]) v
def lX:AV->M (List (AV × AV × Nat))
 | .mp i=>do
  let r ← gJ i
  pure r.1
 | .sc (.map none)=>pure []
 | _=>M.no 87
def jY (t:Nat) (k:AV) (ok:Bool) (x:AV):M AV:=do
 let kt ← eB P t
 let es ← lX x
 let r ← jE P es.isEmpty kt.1 k es
 match r with
 | some (_,v)=>pure (iY ok v true)
 | none=>do
  let z ← zeroV P kt.2
  pure (iY ok z false)
def jZ (t:Nat) (k v:AV):AV->M AV
 | .mp i=>do
  let kt ← eB P t
  let r ← gJ i
  let f ← jE P false kt.1 k r.1
  M.put i 0 (some (match f with | some (j,_)=>.map (r.1.modify j λe=>(k,v,e.2.2)) r.2 | none=>.map (r.1 ++ [(k,v,r.2)]) (Nat.succ r.2)))
  pure (.bG [])
 | _=>M.no 89
def lY (t:Nat):AV->M AV
 | .mp m=>do
  let _ ← eB P t
  let r ← gJ m
  let i ← M.fresh
  M.put i 0 (some (.it m r.2 [] r.2))
  pure (.ptr i 0)
 | _=>M.no 91
def lZ (i:Nat):M (Nat × Nat × List Nat × Nat):=do match ← M.get i 0 with
 | .it m a b c=>pure (m,a,b,c)
 | _=>M.no 92
def qB (i:Nat) (t:Nat × Nat × List Nat × Nat) (c:Nat):List (AV × AV × Nat)->M AV
 | []=>pure (.bG [.sc (.bool false)])
 | [(
  k,v,b)]=>cond (List.elem b t.2.2.1) (cond (Nat.blt b t.2.2.2) (pure (.bG [.sc (.bool false)])) (M.no 93)) (cond (and (Nat.blt b t.2.1) (List.isEmpty t.2.2.1)) (do
  M.put i 0 (some (.it t.1 t.2.1 [b] c))
  pure (.bG [.sc (.bool true),k,v])) (M.no 93))
 | _=>M.no 94
def mg (x:AV):M AV:=do
 let p ← iC x
 cond (Nat.beq p.2 0) (do
  let t ← lZ p.1
  let r ← gJ t.1
  qB p.1 t r.2 r.1) (M.no 148)
def mh (x:AV):M AV:=do
 let p ← iC x
 let t ← lZ p.1
 let r ← gJ t.1
 let b ← M.opt 145 t.2.2.1.getLast?
 let e ← M.opt 146 (r.1.find? λe=>Nat.beq e.2.2 b)
 cond (and (Nat.beq p.2 0) (Nat.beq r.2 t.2.2.2)) (pure (.bG [e.1,e.2.1])) (M.no 147)
def mo (t:Nat) (ok:Bool):AV->M AV
 | .dF d v=>cond (Nat.beq d t) (pure (iY ok v true)) (cond ok (do
  let z ← zeroV P t
  pure (iY true z false)) (M.no 96))
 | .sc .nilIface=>cond ok (do
  let z ← zeroV P t
  pure (iY true z false)) (M.no 97)
 | _=>M.no 98
def mq (t:Nat) (ok:Bool) (x:AV):M AV:=do
 match ← bT P t with
 | .interface _=>M.no 95
 | _=>mo P t ok x
def mD (k:Nat):AV->M AV
 | .bG l=>M.opt 99 l[k]?
 | _=>M.no 100
def kg (call:Nat->List AV->M AV) (args:List AV):AV->M AV
 | .fn (.func g) a c=>call g (a ++ args ++ c)
 | _=>M.no 101
def og (call:Nat->List AV->M AV) (name:String) (args:List AV):AV->M AV
 | .dF t v=>do
  let i ← M.opt 102 (P.info? t)
  let m ← M.opt 103 (i.methods.find? (·.name == name))
  let _ ← bT P t
  match m.func,m.path.toList with
  | some (f,b),[]=>cond (Bool.xor b (fC P t)) (M.no 104) (call f (v :: args))
  | _,_=>M.no 106
 | _=>M.no 107
def fK (ρ:Operand->M AV):Option Operand->M (Option AV)
 | none=>pure none
 | some x=>do
  let v ← ρ x
  pure (some v)
section
variable (ρ : Operand -> M AV)
def tq (c a b:Operand):M AV:=M.bind (ρ c) λv=>lM (ρ a) (ρ b) v
def oh (t:Nat):M AV:=do iW P t (← fI P t)
def tu (t:Nat) (x:Operand):M AV:=do iW P t (← ρ x).cells
def tC (t:Nat) (ps:Array (Nat × Operand)):M AV:=do jI P t (← jH ρ ps.toList)
def tF (t n:Nat) (ps:Array (Nat × Operand)):M AV:=do jJ P t n (← jH ρ ps.toList)
def tH (t:Nat) (x:Operand):M AV:=M.bind (ρ x) λv=>iX P t v
def tJ (t:Nat) (x y:Operand):M AV:=M.bind (ρ x) λu=>M.bind (ρ y) λv=>jK P t u v
def tK (x:Operand):M AV:=do lS P (← ρ x)
def tL (op:BinOp) (t:Nat) (x y:Operand):M AV:=M.bind (ρ x) λu=>M.bind (ρ y) λv=>jO P op t x y u v
def tN (op:UnOp) (x:Operand):M AV:=do jP P op (← ρ x)
def tO (a b:Nat) (x:Operand):M AV:=do jQ P a b (← ρ x)
def tQ (t:Nat) (x:Operand):M AV:=do jR P t (← ρ x)
def tT (f:Fn) (a c:Array Operand):M AV:=do
 let a ← dS ρ a.toList
 let c ← dS ρ c.toList
 pure (.fn f a c)
def tV (t:Nat) (r:Option Operand):M AV:=do jS P t (← fK ρ r)
def tX (t:Nat) (l c:Operand):M AV:=do jT P t (← ρ l) (← ρ c)
def tY (t:Nat) (x:Operand) (lo hi:Option Operand):M AV:=do jU P t (← fK ρ lo) (← fK ρ hi) (← ρ x)
def qC (t:Nat) (x:Operand) (lo:Option Operand):Option Operand->Option Operand->M AV
 | some hi,some mx=>do jV P t (← fK ρ lo) (← ρ hi) (← ρ mx) (← ρ x)
 | _,_=>M.no 108
def tZ (t:Nat) (x:Operand) (f:Nat):M AV:=M.bind (ρ x) λv=>jW P t f v
def uf (t:Nat) (x:Operand) (f:Nat):M AV:=do lV P t f (← ρ x)
def ug (t:Nat) (x ix:Operand):M AV:=M.bind (ρ ix) λu=>M.bind (ρ x) λv=>lW P t u v
def uh (t:Nat) (x ix:Operand):M AV:=do jX P t (← ρ ix) (← ρ x)
def uj (t:Nat) (x ix:Operand) (ok:Bool):M AV:=do jY P t (← ρ ix) ok (← ρ x)
def qD (t:Nat) (m k v:Operand):M AV:=do jZ P t (← ρ k) (← ρ v) (← ρ m)
def um (t:Nat) (x:Operand):M AV:=do lY P t (← ρ x)
def uo (x:Operand) (b:Bool):M AV:=cond b (M.no 108) (do mg (← ρ x))
def uq (x:Operand):M AV:=do mh (← ρ x)
def uw (x:Operand) (t:Nat) (ok:Bool):M AV:=do mq P t ok (← ρ x)
def uy (x:Operand) (k:Nat):M AV:=do mD k (← ρ x)
def om (call:Nat->List AV->M AV) (c:Call):M AV:=match c.callee with
 | .builtin b=>do qy P b c.argTypes.toList (← dS ρ c.args.toList)
 | .value f=>do kg call (← dS ρ c.args.toList) (← ρ f)
 | .invoke r name=>do og P call name (← dS ρ c.args.toList) (← ρ r)
end
abbrev XO:=Program->(Nat->List AV->M AV)->(Operand->M AV)->M AV
def uz (o:Op):XO:=Op.rec (motive:=λ_=>XO)
 (λx P call ρ=>ρ x)
 (λx P call ρ=>ρ x)
 (λc a b P call ρ=>tq ρ c a b)
 (λt P call ρ=>oh P t)
 (λt x P call ρ=>tu P ρ t x)
 (λt ps P call ρ=>tC P ρ t ps)
 (λt len ps P call ρ=>tF P ρ t len ps)
 (λt m k v P call ρ=>qD P ρ t m k v)
 (λt x P call ρ=>tH P ρ t x)
 (λt x y P call ρ=>tJ P ρ t x y)
 (λ_ P call ρ=>M.no 108)
 (λ_ P call ρ=>M.no 108)
 (λx P call ρ=>tK P ρ x)
 (λop t x y _ P call ρ=>tL P ρ op t x y)
 (λop _ x P call ρ=>tN P ρ op x)
 (λsrc dst x P call ρ=>tO P ρ src dst x)
 (λ_ _ P call ρ=>M.no 108)
 (λt x P call ρ=>tQ P ρ t x)
 (λf a c P call ρ=>tT ρ f a c)
 (λt r P call ρ=>tV P ρ t r)
 (λ_ _ P call ρ=>M.no 108)
 (λt l c P call ρ=>tX P ρ t l c)
 (λt x lo hi mx P call ρ=>cond mx.isSome (qC P ρ t x lo hi mx) (tY P ρ t x lo hi))
 (λt x f P call ρ=>tZ P ρ t x f)
 (λt x f P call ρ=>uf P ρ t x f)
 (λt x ix P call ρ=>ug P ρ t x ix)
 (λt x ix P call ρ=>uh P ρ t x ix)
 (λt x ix ok P call ρ=>uj P ρ t x ix ok)
 (λt m k v P call ρ=>qD P ρ t m k v)
 (λ_ _ _ P call ρ=>M.no 108)
 (λ_ _ _ _ P call ρ=>M.no 108)
 (λt x P call ρ=>um P ρ t x)
 (λx b P call ρ=>uo ρ x b)
 (λx P call ρ=>uq ρ x)
 (λx _ t ok P call ρ=>uw P ρ x t ok)
 (λx k P call ρ=>uy ρ x k)
 (λc P call ρ=>om P ρ call c)
 (λ_ P call ρ=>M.no 108)
 (λ_ P call ρ=>M.no 108)
 (λ_ P call ρ=>M.no 108)
 (λ_ _ P call ρ=>M.no 108)
 (λ_ _ _ P call ρ=>M.no 108)
 (λ_ _ P call ρ=>M.no 108) o
def mE (call:Nat->List AV->M AV) (ρ:Operand->M AV) (o:Op):M AV:=uz o P call ρ
abbrev Env:=T AV
def env (N:Nat) (E:Env):Operand->M AV
 | .tmp t=>cond (Nat.blt t N) (M.opt 110 (T.get E t)) (M.no 110)
 | .const v=>M.opt 111 (iA v)
 | .global g=>M.no 112
 | .func f=>pure (.fn (.func f) [] [])
def Env.set (E:Env):Option Nat->AV->Env
 | none,_=>E
 | some d,.bad=>T.put E d none
 | some d,v=>T.put E d (some v)
/-- N: how many slots there are. -/
def uD (N:Nat):Option Nat->Bool
 | none=>true
 | some d=>Nat.blt d N
/-- The blocks of the calls that a range over a function puts off: they stand behind the slots. -/
def Env.mark (E:Env) (N i:Nat):Env:=T.put E N (some (.agg (.ptr i 0 :: match T.get E N with | some (.agg l)=>l | _=>[])))
def leave:List AV->M Unit
 | []=>pure ()
 | .ptr i _ :: l=>do match ← M.get i 0 with
  | .sp false=>do
   M.put i 0 none
   leave l
  | _=>M.no 142
 | _ :: _=>M.no 143
def gL (N:Nat) (ops:List Oper) (E:Env) (o:Oper):M Bool:=match o.guard with
 | none=>M.pure true
 | some (j,b)=>do
  let d ← M.opt 113 (((ops.drop j).head?).bind (·.dst))
  cond (Nat.blt d N) (match T.get E d with
   | some (.sc (.bool c))=>pure (cond c b (not b))
   | some (.bG [])=>pure false
   | _=>M.no 114) (M.no 114)
def ko (call:Nat->List AV->M AV) (ρ:Operand->M AV) (g:M Bool) (o:Oper):M AV:=M.bind g λb=>cond b (mE P call ρ o.op) (M.pure (.bG []))
def mF (call:Nat->List AV->M AV) (N:Nat) (ops:List Oper) (l:List Oper):Env->M Env:=List.rec (λE=>M.pure E) (λo r ih E=>M.bind (M.tag (1000+r.length) (ko P call (env N E) (gL N ops E o) o)) λv=>cond (uD N o.dst) (ih (E.set o.dst v)) (M.no 109)) l
/-- A region that draws its order. -/
def bX (m i:Nat):Bool:=Nat.beq (Nat.land (Nat.shiftRight m i) 1) 1
def Lg.mem (i o:Nat):Lg->Bool
 | .e=>false
 | .p j q=>and (Nat.beq i j) (Nat.beq o q)
 | .rg j q k=>and (Nat.beq i j) (and (Nat.ble q o) (Nat.blt o (q+k)))
 | .ob j=>Nat.beq i j
 | .a x y=>or (x.mem i o) (y.mem i o)
/-- Some point from o on, k of them; some point of an object. -/
def Lg.gM (i o k:Nat):Lg->Bool
 | .e=>false
 | .p j q=>and (Nat.beq i j) (and (Nat.ble o q) (Nat.blt q (o+k)))
 | .rg j q m=>and (Nat.beq i j) (and (Nat.blt q (o+k)) (Nat.blt o (q+m)))
 | .ob j=>Nat.beq i j
 | .a x y=>or (x.gM i o k) (y.gM i o k)
def Lg.gN (i:Nat):Lg->Bool
 | .e=>false
 | .p j _=>Nat.beq i j
 | .rg j _ _=>Nat.beq i j
 | .ob j=>Nat.beq i j
 | .a x y=>or (x.gN i) (y.gN i)
/-- No point in both. -/
def Lg.apart:Lg->Lg->Bool
 | .e,_=>true
 | .p i o,y=>not (y.mem i o)
 | .rg i o k,y=>not (y.gM i o k)
 | .ob i,y=>not (y.gN i)
 | .a x x',y=>and (x.apart y) (x'.apart y)
/-- No point of an object from lo to hi. -/
def Lg.outs (lo hi:Nat):Lg->Bool
 | .e=>true
 | .p i _=>or (Nat.blt i lo) (Nat.ble hi i)
 | .rg i _ _=>or (Nat.blt i lo) (Nat.ble hi i)
 | .ob i=>or (Nat.blt i lo) (Nat.ble hi i)
 | .a x y=>and (x.outs lo hi) (y.outs lo hi)
/-- An operation that is done. -/
structure Dn where
 (k lo hi:Nat) (r w:Lg)
def indep (m:Nat) (r w:Lg):List Dn->Bool
 | []=>true
 | x :: l=>and (or (bX m x.k) (and (and (x.w.apart r) (x.w.apart w)) (and (w.apart x.r) (or (Nat.beq x.lo x.hi) (and (r.outs x.lo x.hi) (w.outs x.lo x.hi)))))) (indep m r w l)
def iZ (cl:T Nat):List Nat->Option Nat
 | []=>some 0
 | j :: l=>match T.get cl j,iZ cl l with
  | some m,some k=>some (Nat.lor (Nat.lor m (Nat.shiftLeft 1 j)) k)
  | _,_=>none
/-- What each operation waits for, as the bits of a number. -/
def kr:List Oper->Nat->T Nat->Option (T Nat)
 | [],_,cl=>some cl
 | o :: l,k,cl=>match iZ cl (dh o) with
  | some m=>kr l (k+1) (T.put cl k (some m))
  | none=>none
def iF (N:Nat):List Oper->Nat->T Nat->Option (T Nat)
 | [],_,t=>some t
 | o :: l,k,t=>match o.dst with
  | none=>iF N l (k+1) t
  | some d=>match T.get t d with
   | some _=>none
   | none=>cond (Nat.blt d N) (iF N l (k+1) (T.put t d (some k))) none
def ku (N:Nat) (dt cl:T Nat) (k m:Nat) (E:Env):Operand->M AV
 | .tmp t=>match T.get dt t with
  | some i=>cond (or (bX m i) (match T.get cl i with | some q=>bX q k | none=>false)) (env N E (.tmp t)) (M.no 131)
  | none=>env N E (.tmp t)
 | x=>env N E x
def kC (N:Nat) (ops:List Oper) (m:Nat) (E:Env) (o:Oper):M Bool:=match o.guard with
 | none=>pure true
 | some (j,_)=>cond (bX m j) (gL N ops E o) (M.no 132)
def M.log {α:Type} (m:M α):M (α × Lg × Lg × Nat × Nat):=λs n=>match m s n with
 | .no e=>.no e
 | .ok a s' n' r w=>.ok (a,r,w,n,n') s' n' r w
def mG (call:Nat->List AV->M AV) (N:Nat) (ops:List Oper) (dt cl:T Nat):List Oper->Nat->List Dn->Env->M Env
 | [],_,_,E=>pure E
 | o :: l,k,D,E=>do
  let m ← M.opt 133 (T.get cl k)
  let x ← M.log (M.tag (1000+l.length) (ko P call (ku N dt cl k m E) (kC N ops m E o) o))
  cond (indep m x.2.1 x.2.2.1 D) (mG call N ops dt cl l (k+1) (⟨k,x.2.2.2.1,x.2.2.2.2,x.2.1,x.2.2.1⟩ :: D) (E.set o.dst x.1)) (M.no 134)
inductive Ex where
 | bA
 | ext (i:Nat)
 | ret
def mH (f:Env->M (Ex × Env)):Nat->Env->M (Ex × Env)
 | 0,_=>M.no 115
 | k+1,E=>do
  let (e,E) ← f E
  match e with
  | .bA=>mH f k E
  | e=>pure (e,E)
def xc (call:Nat->List AV->M AV) (N:Nat):Code->Env->M (Ex × Env)
 | .skip,E=>pure (.bA,E)
 | .label _,E=>pure (.bA,E)
 | .region id ops dr,E=>M.tag (100000+id) (cond dr (do
  let dt ← M.opt 135 (iF N ops.toList 0 .e)
  let cl ← M.opt 136 (kr ops.toList 0 .e)
  let E ← mG P call N ops.toList dt cl ops.toList 0 [] E
  pure (.bA,E)) (do
  let E ← mF P call N ops.toList ops.toList E
  pure (.bA,E)))
 | .seq a b,E=>do
  let (e,E) ← xc call N a E
  match e with
  | .bA=>xc call N b E
  | e=>pure (e,E)
 | .cond c a b,E=>do
  match ← env N E c with
  | .sc (.bool true)=>xc call N a E
  | .sc (.bool false)=>xc call N b E
  | _=>M.no 116
 | .block id b,E=>do
  let (e,E) ← xc call N b E
  match e with
  | .ext j=>cond (Nat.beq j id) (pure (.bA,E)) (pure (.ext j,E))
  | e=>pure (e,E)
 | .loop b,E=>mH (xc call N b) 4000 E
 | .exit id,E=>pure (.ext id,E)
 | .ret,E=>pure (.ret,E)
 | .scope b,E=>xc call N b E
 | .rangeFunc g _ _ _,E=>do
  let i ← M.fresh
  M.put i 0 (some (.sp false))
  let j ← M.fresh
  M.put j 0 (some (.sp true))
  let f ← env N E g
  let _ ← kg call [.iy j] f
  match ← M.get j 0 with
  | .sp true=>do
   M.put j 0 none
   pure (.bA,E.mark N i)
  | _=>M.no 117
 | .goto _,_=>M.no 118
 | .refuse _,_=>M.no 119
def kD (N:Nat) (E:Env):List ResultVar->M (List AV)
 | []=>pure []
 | .tmp t :: l=>do
  let v ← env N E (.tmp t)
  let r ← kD N E l
  pure (v :: r)
 | .cell a t :: l=>do
  let v ← iX P t (← env N E (.tmp a))
  let r ← kD N E l
  pure (v :: r)
def jc:Env->Nat->List AV->Env
 | E,_,[]=>E
 | E,k,v :: l=>jc (T.put E k (some v)) (Nat.succ k) l
def oq (E:Env) (fn:Func):M AV:=do match ← kD P fn.ntmps E fn.results.toList with
 | [v]=>pure v
 | l=>pure (.bG l)
def mI (E:Env) (fn:Func):M AV:=do
 let _ ← leave (match T.get E fn.ntmps with | some (.agg l)=>l | _=>[])
 oq P E fn
def mJ:Nat->Nat->List AV->M AV
 | 0,_,_=>M.no 122
 | d+1,f,args=>M.own (M.tag (1000000+f) (do
  let fn ← M.opt 123 P.funcs[f]?
  let c ← M.opt 124 fn.body
  cond (or (fn.name == "runtime.NumGoroutine") (not (Nat.ble args.length fn.ntmps))) (M.no 126) (do
  let (e,E) ← xc P (mJ d) fn.ntmps c (jc .e 0 args)
  match e with
  | .ext _=>M.no 125
  | _=>mI P E fn)))
end
end
/- What at of package laws answers. -/
theorem xC (v:Value) (M:List Int) (i:Int) (w:World) (hv:Bs w v M) (hi0:0<=i) (hi1:i<=1000) :
  Calls Tryz.prog 6 #[v,.int .i64 i] w λe w'=>∃x,e=.returned (.int .i64 x)/\0<=x/\x<=255/\Below w.heap.size w w':=by
 obtain⟨ho,a,cap,rfl,h1,h2,h3,h4⟩:=hv;unfold maxLen at h2
 by_cases hz:M=[]
 ·subst hz
  go_enter Tryz.func6,Tryz.ntmps6;go_wp2;go_ret;exact⟨0,rfl,by omega,by omega,Below.refl _ _⟩
 ·have hp:0 < M.length:=List.length_pos_iff.2 hz
  have hne:((M.length:Int) == 0)=false:=by simp;omega
  obtain⟨b,off,rfl,hb,hc⟩:=h4 hp;obtain⟨j,hj,hjl⟩:∃j:Nat,i % (M.length:Int)=j/\j < M.length:=⟨(i % (M.length:Int)).toNat,by have:=Int.emod_nonneg i (show(M.length:Int)≠0 by omega);omega,by have:=Int.emod_lt_of_pos i (show(0:Int) < M.length by omega);omega⟩;have hx:=hc j hjl;have hxo:0<=M.getD j 0/\M.getD j 0<=255:=by
   have:=ho (M.getD j 0) (by simp[List.getD,hjl]);omega
  obtain⟨hx0,hx1⟩:=hxo;generalize M.getD j 0=x at hx hx0 hx1;have Cu:(j:Int) < M.length:=by omega
  clear hc h4 h3 hz
  go_enter Tryz.func6,Tryz.ntmps6;go_wp2;go_ret;exact⟨x,rfl,hx0,hx1,Below.refl _ _⟩
/- From what a row reads of an argument to what the walks ask: a slice of bytes that came in. -/
open Go.ChangeShapes Go.WideShapes Go.ChangeAt Go.RowKit
theorem ownKnob_none:ownKnob Tryz.prog.godebug=none:=by kernel_rfl
theorem laidOut:laidOutB Tryz.prog=true:=by kernel_rfl
theorem xD {n:Int} (h:(Lit.int .u8 n).wf=true):0<=n/\n<=255:=bounds_u8 h
/-- A slice of bytes that came in, as the walks want it. -/
theorem open_bytes {H:Type} {enc:TypeId × Value->H} {W:World} {base:Nat} {a:Option Addr} {len cap:Nat} {d:DataW H} {p:List MemPlace}
  (h:DataW.Trod enc Tryz.prog W base (λ_=>true) true 22 (.slice a len cap) d p):∃l,Bs W (.slice a len cap) l:=by
 obtain⟨fuel,hf⟩:=h;rcases open_ints Tryz.underlying22 Tryz.underlying5 (by kernel_rfl) hf with⟨hcs,_⟩ | ⟨x,l,c,zs,hcs,_,hl,hm,hz,_,hcell,hwz⟩
 ·simp[Value.cells] at hcs
  obtain⟨rfl,rfl,rfl⟩:=hcs;exact⟨[],sW,none,0,rfl,by simp,by simp,λ_=>rfl,λh=>absurd h (by simp)⟩
 ·simp[Value.cells] at hcs
  obtain⟨rfl,rfl,rfl⟩:=hcs;simp at hz;have ht:(zs.take len).length=len:=by simp;omega
  refine⟨zs.take len,λx hx=>xD (hwz x (List.mem_of_mem_take hx)),some x,cap,by rw[ht],by omega,hm,(λh=>by cases h),λhp=>?_⟩;rw[ht] at hp;obtain⟨b,off,spot⟩:=x;have h0:=hcell 0 (by omega);have hspot:spot=none:=by simpa [Addr.add] using World.cell?_spot h0
  subst hspot;refine⟨b,off,rfl,?_,λi hi=>?_⟩
  ·have:=World.block_lt_of_cell? W _ h0
   simpa [Addr.add] using this
  ·rw[ht] at hi
   have:=hcell i (by omega);rw[Addr.add_lit] at this;rw[this];simp[hi]
end Go.Proofs.YthimlcpingkndaaGreatDoor
