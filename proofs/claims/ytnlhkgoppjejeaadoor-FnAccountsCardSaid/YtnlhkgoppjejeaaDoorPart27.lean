/- The proof's texts, part 27. -/
import Derived.Test.YtnlhkgoppjejeaaDoorPart3
import Derived.Test.YtnlhkgoppjejeaaDoorPart4
import Derived.Test.YtnlhkgoppjejeaaDoorPart15
import Derived.Test.YtnlhkgoppjejeaaDoorPart17
import Derived.Test.YtnlhkgoppjejeaaDoorPart26
import Derived.Test.YtnlhkgoppjejeaaDoorPart24

/- What l3room, l3flags, l3box of package spec, storedFlags of package impl do. -/
namespace Go.Proofs.YtnlhkgoppjejeaaDoor
open Go.RowKit
set_option maxRecDepth 100000
set_option linter.unusedVariables false
set_option linter.unusedSimpArgs false

/-- A box can take one more change, and so many mails more. -/
def roomB (b:BoxD) (n:Int):Bool:=decide (b.seq < 1000000) && (decide (b.next < 1000000) && decide ((b.mails.length:Int)+n≤12))
/-- What a store makes of flags. -/
def flD (was mode fl:Int):Int:=if mode=1 then bits .or .i64 was fl else if mode=2 then bits .andNot .i64 was fl else fl

set_option maxRecDepth 100000 in
set_option maxHeartbeats 1000000 in
theorem l3room_any (v:Value) (b:BoxD) (n:Int) (w:World) (hv:BoxV w v b) (hn0:0≤n) (hn1:n≤1) (hm:b.mails.length≤2000000) :
  Calls Tryd.prog 69 #[v,.int .i64 n] w fun e w'=>e=.returned (.bool (roomB b n))∧Below w.heap.size w w':=by
 obtain ⟨u0,u1,u2,rfl,g0,g1,g2,-⟩:=hv
 obtain ⟨a0,n0,c0,rfl⟩:=g0.form3
 obtain ⟨a1,c1,rfl,-⟩:=g1.form
 obtain ⟨a2,c2,rfl,-⟩:=g2.form
 clear g0 g1 g2
 have X:Below w.heap.size w (w.alloc (.cells #[.slice a0 n0 c0,.int .i64 b.valid,.int .i64 b.next,.int .i64 b.seq,.slice a1 b.mails.length c1,.slice a2 b.gones.length c2,.int .i64 b.lost] 44)):=(Below.refl _ _).alloc (Nat.le_refl _) _
 have HX:Hid _:=X
 clear X
 have HD:Hid (roomB b n=(decide (b.seq < 1000000) && (decide (b.next < 1000000) && decide ((b.mails.length:Int)+n≤12)))):=rfl
 by_cases h1:b.seq < 1000000
 ·by_cases h2:b.next < 1000000
  ·by_cases h3:(b.mails.length:Int)+n≤12
   ·have HF:Hid (roomB b n=true):=by show _=_;rw [HD.out];simp [h1,h2,h3]
    go_enter Tryd.func69,Tryd.ntmps69
    go_wp2
    go_ret
    exact ⟨ret_b HF.out,HX.out⟩
   ·have HF:Hid (roomB b n=false):=by show _=_;rw [HD.out];simp [h3]
    go_enter Tryd.func69,Tryd.ntmps69
    go_wp2
    go_ret
    exact ⟨ret_b HF.out,HX.out⟩
  ·have HF:Hid (roomB b n=false):=by show _=_;rw [HD.out];simp [h2]
   go_enter Tryd.func69,Tryd.ntmps69
   go_wp2
   go_ret
   exact ⟨ret_b HF.out,HX.out⟩
 ·have HF:Hid (roomB b n=false):=by show _=_;rw [HD.out];simp [h1]
  go_enter Tryd.func69,Tryd.ntmps69
  go_wp2
  go_ret
  exact ⟨ret_b HF.out,HX.out⟩

set_option maxRecDepth 100000 in
set_option maxHeartbeats 1000000 in
theorem l3flags_any (was mode fl:Int) (w:World) :
  Calls Tryd.prog 83 #[.int .i64 was,.int .i64 mode,.int .i64 fl] w fun e w'=>e=.returned (.int .i64 (flD was mode fl))∧w'=w:=by
 by_cases h1:mode=1
 ·subst h1
  go_enter Tryd.func83,Tryd.ntmps83
  go_wp2
  go_ret
  exact ⟨rfl,rfl⟩
 ·by_cases h2:mode=2
  ·subst h2
   go_enter Tryd.func83,Tryd.ntmps83
   go_wp2
   go_ret
   exact ⟨rfl,rfl⟩
  ·have HF:Hid (flD was mode fl=fl):=by show _=_;unfold flD;rw [if_neg h1,if_neg h2]
   have e1:(mode == 1)=false:=by simpa using h1
   have e2:(mode == 2)=false:=by simpa using h2
   clear h1 h2
   go_enter Tryd.func83,Tryd.ntmps83
   go_wp2
   go_ret
   exact ⟨ret_i HF.out.symm,rfl⟩

set_option maxRecDepth 100000 in
set_option maxHeartbeats 2000000 in
theorem l3box_any (v u:Value) (a:AccD) (nm:List Int) (w:World) (hv:AccV w v a) (hu:Bs w u nm) (hbl:a.boxes.length≤2000000) :
  Calls Tryd.prog 68 #[v,u] w fun e w'=>e=.returned (.int .i64 (firstI (fun x=>decide (x.name=nm)) a.boxes))∧Below w.heap.size w w':=by
 obtain ⟨u0,u1,rfl,g0,g1,-⟩:=hv
 have HV:Hid (∀ wi,Below w.heap.size w wi→BoxesV wi u0 a.boxes∧Bs wi u nm):=fun wi h=>⟨g0.below keepsBox h,hu.below h⟩
 have HON:Hid (Oct nm):=hu.1
 obtain ⟨a0,c0,rfl,-⟩:=g0.form
 obtain ⟨a1,c1,rfl,-⟩:=g1.form
 obtain ⟨na,nn,nc,rfl⟩:=hu.form3
 clear g0 g1 hu
 have HX:Hid (Below w.heap.size w (w.alloc (.cells #[.int .i64 a.valid,.slice a0 a.boxes.length c0,.slice a1 a.seen.length c1] 26))):=(Below.refl _ _).alloc (Nat.le_refl _) _
 have HK:Hid _:=box_new w (.cells #[.int .i64 a.valid,.slice a0 a.boxes.length c0,.slice a1 a.seen.length c1] 26)
 go_enter Tryd.func68,Tryd.ntmps68
 go_wp2
 go_loopw [5] (fun i wr=>∃ k:Nat,k≤a.boxes.length∧i=.int .i64 k∧Hid (∀ j m,j < k→a.boxes[j]?=some m→decide (m.name=nm)=false)∧Hid (Below w.heap.size w wr)∧Hid (wr.heap[w.heap.size]?=some (.cells #[.int .i64 a.valid,.slice a0 a.boxes.length c0,.slice a1 a.seen.length c1] 26 (0,0)))) (fun i _=>a.boxes.length - (intOf i).toNat)
 case atStart=>exact ⟨0,Nat.zero_le _,rfl,(fun j m hj=>absurd hj (Nat.not_lt_zero _)),HX.out,HK.out⟩
 case round =>
  obtain ⟨k,hk,rfl,hA,hB,HK2⟩:=hrel
  clear HX HK
  obtain ⟨d0,d1,d2⟩:=bx3 HK2.out
  have ld:=lt_of_heap HK2.out
  by_cases hlt:k < a.boxes.length
  ·obtain ⟨x,hx⟩:∃ x,a.boxes[k]?=some x:=⟨a.boxes[k],List.getElem?_eq_getElem hlt⟩
   obtain ⟨b,off,cp,t,q1,q2,hv',hlb,f0,f1,f2,f3,f4,f5,f6,ht,-⟩:=BoxesV.cell (HV.out wr hB.out).1 k x hx
   simp only [Value.slice.injEq,true_and] at hv'
   obtain ⟨rfl,rfl⟩:=hv'
   have HC:Hid (∀ WB,Below wr.heap.size wr WB→(convert 22 9 t).run Tryd.prog WB=.ok (.string (strOfNums x.name)) WB∧(convert 22 9 (.slice na nn nc)).run Tryd.prog WB=.ok (.string (strOfNums nm)) WB):=fun WB h=>⟨run_convert_bs (ht.below h),run_convert_bs ((HV.out wr hB.out).2.below h)⟩
   have HE:Hid (((strOfNums x.name).toList == (strOfNums nm).toList)=decide (x.name=nm)):=str_eq ht.1 HON.out
   obtain ⟨ta,tn,tc,rfl⟩:=ht.form3
   have HXX:Hid (a.boxes[k]?=some x):=hx
   have HS:Hid (∀ w',Below wr.heap.size wr w'→(w'.cell? ⟨w.heap.size,1,none⟩=some (.slice (some ⟨b,off,none⟩) a.boxes.length c0)∧w'.cell? ⟨b,off+k * 7,none⟩=some (.slice ta tn tc))∧(convert 22 9 (.slice ta tn tc)).run Tryd.prog w'=.ok (.string (strOfNums x.name)) w'∧(convert 22 9 (.slice na nn nc)).run Tryd.prog w'=.ok (.string (strOfNums nm)) w'):=fun w' h=>⟨⟨cell_later h d1,cell_later h f0⟩,HC.out w' h⟩
   have hki:(k:Int) < a.boxes.length:=by omega
   clear ht hx f1 f2 f3 f4 f5 f6
   cases z:decide (x.name=nm) with
   | true =>
    have e3:=HE.out.trans z
    have HZ:Hid (decide (x.name=nm)=true):=z
    clear z HE
    go_wp2
    refine wp_region_held_drew (S:=fun w'=>(w'.cell? ⟨w.heap.size,1,none⟩=some (.slice (some ⟨b,off,none⟩) a.boxes.length c0)∧w'.cell? ⟨b,off+k * 7,none⟩=some (.slice ta tn tc))∧(convert 22 9 (.slice ta tn tc)).run Tryd.prog w'=.ok (.string (strOfNums x.name)) w'∧(convert 22 9 (.slice na nn nc)).run Tryd.prog w'=.ok (.string (strOfNums nm)) w') (by kernel_rfl) (HS.out _ ((Below.refl _ _).drew)) (fun hHeld=>(show wpAnyH _ _ _ _ _ 10 #[false,false,false,false,false,false,false,false,false,false] _ _ from ?_))
    refine tq 0 13 hHeld ?_
    refine tq 1 14 hHeld ?_
    refine tq 2 15 hHeld ?_
    refine tq 3 16 hHeld ?_
    refine tq 4 17 hHeld ?_
    refine tq 5 18 hHeld ?_
    refine tq 6 19 hHeld ?_
    refine tq 7 20 hHeld ?_
    refine tq 8 21 hHeld ?_
    refine tq 9 22 hHeld ?_
    refine wpAnyH_done (by kernel_rfl) ?_ _
    go_wp2
    go_ret
    exact ⟨ret_i (firstI_hit' hlt HXX.out HZ.out hA.out).symm,hB.out.drew⟩
   | false =>
    have e3:=HE.out.trans z
    have HZ:Hid (decide (x.name=nm)=false):=z
    have HB2:Hid (Below w.heap.size w wr.drew):=hB.out.drew
    have HK3:Hid (wr.drew.heap[w.heap.size]?=some _):=HK2.out
    clear z HE
    go_wp2
    refine wp_region_held_drew (S:=fun w'=>(w'.cell? ⟨w.heap.size,1,none⟩=some (.slice (some ⟨b,off,none⟩) a.boxes.length c0)∧w'.cell? ⟨b,off+k * 7,none⟩=some (.slice ta tn tc))∧(convert 22 9 (.slice ta tn tc)).run Tryd.prog w'=.ok (.string (strOfNums x.name)) w'∧(convert 22 9 (.slice na nn nc)).run Tryd.prog w'=.ok (.string (strOfNums nm)) w') (by kernel_rfl) (HS.out _ ((Below.refl _ _).drew)) (fun hHeld=>(show wpAnyH _ _ _ _ _ 10 #[false,false,false,false,false,false,false,false,false,false] _ _ from ?_))
    refine tq 0 13 hHeld ?_
    refine tq 1 14 hHeld ?_
    refine tq 2 15 hHeld ?_
    refine tq 3 16 hHeld ?_
    refine tq 4 17 hHeld ?_
    refine tq 5 18 hHeld ?_
    refine tq 6 19 hHeld ?_
    refine tq 7 20 hHeld ?_
    refine tq 8 21 hHeld ?_
    refine tq 9 22 hHeld ?_
    refine wpAnyH_done (by kernel_rfl) ?_ _
    go_wp2
    go_roundw
    case rel =>
     refine ⟨k+1,by omega,by go_num,(show Hid _ from fun j y hj hy=>?_),HB2,HK3⟩
     by_cases e:j=k
     ·subst e;rw [HXX.out] at hy;cases hy;exact HZ.out
     ·exact hA.out j y (by omega) hy
    case measure=>simp [intOf];omega
  ·obtain rfl:k=a.boxes.length:=by omega
   go_wp2
   go_ret
   exact ⟨ret_i (firstI_none' hA.out).symm,hB.out⟩

end Go.Proofs.YtnlhkgoppjejeaaDoor

/- What a command does to an account, on lists: after l3do of package spec. -/
namespace Go.Proofs.YtnlhkgoppjejeaaDoor
open Go.RowKit

/-- The oldest gones fall out; the last that fell tells what is lost. -/
def trimG (lost:Int):List GoneD→Int × List GoneD
 | []=>(lost,[])
 | x :: l=>if 40 < l.length+1 then trimG x.seq l else (lost,x :: l)
theorem trimG_le {lost:Int} {l:List GoneD} (h:l.length≤40):trimG lost l=(lost,l):=by
 cases l with
 | nil=>rfl
 | cons x l=>rw [trimG,if_neg (by simp only [List.length_cons] at h;omega)]
theorem trimG_gt {lost:Int} {l:List GoneD} {x:GoneD} (h:40 < (x :: l).length):trimG lost (x :: l)=trimG x.seq l:=by
 rw [trimG,if_pos (by simpa only [List.length_cons] using h)]
theorem trimG_len (l:List GoneD):∀ lost:Int,(trimG lost l).2.length≤l.length:=by
 induction l with
 | nil=>intro _;exact Nat.le_refl _
 | cons x l ih =>
  intro lost
  rw [trimG]
  split
  ·exact Nat.le_trans (ih x.seq) (Nat.le_succ _)
  ·exact Nat.le_refl _
/-- The suffix that the loop holds after i turns, and what is lost then. -/
theorem trimG_drop {l:List GoneD} {i:Nat} {lost:Int} {x:GoneD} (hx:l[i]?=some x) (h:40 < l.length - i):trimG lost (l.drop i)=trimG x.seq (l.drop (i+1)):=by
 obtain ⟨hi,rfl⟩:=List.getElem?_eq_some_iff.mp hx
 rw [List.drop_eq_getElem_cons hi,trimG_gt (by simp only [List.length_cons,List.length_drop];omega)]

/-- A mail falls out of a box. -/
def dropX (b:BoxD) (i:Nat):BoxD:=match b.mails[i]? with
 | some m=>⟨b.name,b.valid,b.next,b.seq,b.mails.take i ++ b.mails.drop (i+1),(trimG b.lost (b.gones ++ [⟨m.uid,b.seq⟩])).2,(trimG b.lost (b.gones ++ [⟨m.uid,b.seq⟩])).1⟩
 | none=>b
/-- A mail comes into a box. -/
def addX (b:BoxD) (fl:Int) (tx:List Int):BoxD:=⟨b.name,b.valid,b.next+1,b.seq+1,b.mails ++ [⟨b.next,fl,b.seq+1,tx⟩],b.gones,b.lost⟩
def seqX (b:BoxD):BoxD:=⟨b.name,b.valid,b.next,b.seq+1,b.mails,b.gones,b.lost⟩
def codeR (c n:Int):RepD:=⟨c,n,zeroX,[]⟩

def createA (a:AccD) (nm:List Int):AccD × RepD :=
 if 0≤firstI (fun x:BoxD=>decide (x.name=nm)) a.boxes then (a,codeR 2 0)
 else if 4≤a.boxes.length∨1000000≤a.valid then (a,codeR 3 0)
 else (⟨a.valid+1,a.boxes.takeWhile (fun x:BoxD=>lessB x.name nm) ++ (⟨nm,a.valid+1,1,0,[],[],0⟩ :: a.boxes.dropWhile (fun x:BoxD=>lessB x.name nm)),a.seen⟩,codeR 0 (a.valid+1))

def storeX (b:BoxD) (uid mode fl si:Int):BoxD × RepD :=
 match b.mails.findIdx? (fun m:MailD=>decide (m.uid=uid)) with
 | none=>(b,codeR 1 0)
 | some i=>match b.mails[i]? with
  | none=>(b,codeR 1 0)
  | some m =>
   if 0 < si∧si < m.seq then (b,codeR 4 m.seq)
   else if flD m.flags mode fl=m.flags then (b,codeR 0 m.seq)
   else if 1000000≤b.seq then (b,codeR 3 0)
   else (⟨b.name,b.valid,b.next,b.seq+1,b.mails.set i ⟨m.uid,flD m.flags mode fl,b.seq+1,m.text⟩,b.gones,b.lost⟩,codeR 0 (b.seq+1))

/-- A mail bears the flag that marks it as to be expunged. -/
def delM (m:MailD):Bool:=decide (0 < bits .and .i64 m.flags 8)
/-- From the i-th mail on, every one that is marked falls out; n: how many mails are still to be looked at. -/
def expLoop:Nat→BoxD→Nat→BoxD
 | 0,b,_=>b
 | n+1,b,i=>match b.mails[i]? with
  | none=>b
  | some m=>if delM m then expLoop n (dropX b i) i else expLoop n b (i+1)
def expungeX (b:BoxD):BoxD × RepD :=
 if b.mails.countP delM=0 then (b,codeR 0 0)
 else if 1000000≤b.seq then (b,codeR 3 0)
 else (expLoop b.mails.length (seqX b) 0,codeR 0 (b.mails.countP delM:Nat))

def setB (a:AccD) (k:Nat) (b:BoxD):AccD:=⟨a.valid,a.boxes.set k b,a.seen⟩
def copyA (a:AccD) (k:Nat) (b:BoxD) (tt:List Int) (uid mode:Int):AccD × RepD :=
 match b.mails.findIdx? (fun m:MailD=>decide (m.uid=uid)),a.boxes.findIdx? (fun x:BoxD=>decide (x.name=tt)) with
 | some i,some t=>match b.mails[i]?,a.boxes[t]? with
  | some m,some bt =>
   if roomB bt (if mode=1∧t=k then 0 else 1)=false∨(mode=1∧999999≤b.seq) then (a,codeR 3 0)
   else
    let a1:=if mode=1 then setB a k (dropX (seqX b) i) else a
    match a1.boxes[t]? with
    | some bu=>(setB a1 t (addX bu m.flags m.text),codeR 0 bu.next)
    | none=>(a1,codeR 1 0)
  | _,_=>(a,codeR 1 0)
 | _,_=>(a,codeR 1 0)

/-- What a command does: the account behind it, and the reply. -/
def doD (a:AccD) (c:CmdD):AccD × RepD :=
 if c.k=0 then createA a c.bx
 else if c.k=9 then (a,⟨0,0,zeroX,a.boxes.map fun x:BoxD=>x.name⟩)
 else match a.boxes.findIdx? (fun x:BoxD=>decide (x.name=c.bx)) with
  | none=>(a,codeR 1 0)
  | some k=>match a.boxes[k]? with
   | none=>(a,codeR 1 0)
   | some b =>
    if c.k=1 then (⟨a.valid,a.boxes.take k ++ a.boxes.drop (k+1),a.seen⟩,codeR 0 0)
    else if c.k=2 then (if roomB b 1 then (setB a k (addX b c.fl c.tx),codeR 0 b.next) else (a,codeR 3 0))
    else if c.k=3 then (setB a k (storeX b c.uid c.mode c.fl c.si).1,(storeX b c.uid c.mode c.fl c.si).2)
    else if c.k=4 then (setB a k (expungeX b).1,(expungeX b).2)
    else if c.k=6 then copyA a k b c.tt c.uid c.mode
    else if c.k=8 then (a,chgD b c.si)
    else if c.k=7 then (a,⟨0,(b.mails.length:Nat),⟨b.name,b.valid,b.next,b.seq,[],[],b.lost⟩,[]⟩)
    else match b.mails.findIdx? (fun m:MailD=>decide (m.uid=c.uid)) with
     | none=>(a,codeR 1 0)
     | some i=>(a,⟨0,c.uid,⟨b.name,b.valid,b.next,b.seq,(b.mails.drop i).take 1,[],b.lost⟩,[]⟩)

end Go.Proofs.YtnlhkgoppjejeaaDoor

/- An account that is turned in place: boxes, mails apart by blocks; texts and gones, which nobody turns, by the type of their cells. -/
namespace Go.Proofs.YtnlhkgoppjejeaaDoor
open Go.RowKit

def Any:Nat→Prop:=fun _=>True
/-- Blocks of a type stay. -/
def StayT (w w':World) (t:TypeId):Prop:=∀ k,Ty w k t→w'.heap[k]?=w.heap[k]?
theorem StayT.refl (w:World) (t:TypeId):StayT w w t:=fun _ _=>rfl
theorem ty_stay {w w':World} {t:TypeId} {k:Nat} (h:StayT w w' t) (hk:Ty w k t):Ty w' k t:=by
 obtain ⟨cs,fz,e⟩:=hk
 exact ⟨cs,fz,(h k ⟨cs,fz,e⟩).trans e⟩
theorem StayT.trans {w w' w'':World} {t:TypeId} (h:StayT w w' t) (h':StayT w' w'' t):StayT w w'' t:=fun k hk=>(h' k (ty_stay h hk)).trans (h k hk)
theorem ty_lt {w:World} {k:Nat} {t:TypeId} (h:Ty w k t):k < w.heap.size:=by
 obtain ⟨cs,fz,e⟩:=h
 exact lt_of_heap e
theorem stay_below {w w':World} {t:TypeId} (h:Below w.heap.size w w'):StayT w w' t:=fun k hk=>h.block k (ty_lt hk)
theorem stay_set {w:World} {t e:TypeId} {g i:Nat} {x:Value} (ht:Ty w g e) (hne:t≠e):StayT w (w.setCell ⟨g,i,none⟩ x) t:=by
 intro k ⟨cs,fz,hk⟩
 exact Below.heap_setCell _ _ _ _ (show k≠g from fun e2=>by subst e2;exact ty_ne hk ht hne)

/-- Mails whose texts lie in blocks of bytes, any. -/
def MailQE (w:World) (c:List Value) (m:MailD) (_:Nat→Prop):Prop:=MailE w c m Any
abbrev MailsQ:=Ow 67 4 MailQE
theorem mail_oth {w w':World} {c:List Value} {m:MailD} {S S':Nat→Prop} (h:MailQE w c m S) (ht:StayT w w' 5):MailQE w' c m S' :=
 let ⟨u,h0,h1,r⟩:=h;⟨u,h0,ro_oth h1 ht,r⟩
theorem mails_oth {w w':World} {S:Nat→Prop} {v:Value} {l:List MailD} (h:MailsQ w S v l) (hm:∀ k,S k→k < w.heap.size→w'.heap[k]?=w.heap[k]?) (ht:StayT w w' 5):MailsQ w' S v l:=by
 rcases h with h | ⟨g,cap,cur,cs,fs,hv,hh,h1,h2,h3,h4,h5,h6,h7⟩
 ·exact .inl h
 ·exact .inr ⟨g,cap,cur,cs,fs,hv,(hm g h4 (lt_of_heap hh)).trans hh,h1,h2,h3,h4,fun i x hx=>⟨mail_oth (h5 i x hx).1 ht,(h5 i x hx).2⟩,h6,h7⟩
theorem MailsQ.v {w:World} {S:Nat→Prop} {v:Value} {l:List MailD} (h:MailsQ w S v l):MailsV w v l:=Ow.rd (fun _ _ _ _ h=>MailE.rd h) h

/-- Gones that are read, in a block of gones that nobody has closed: a slice from its middle may be. -/
def GonesQ (w:World) (S:Nat→Prop) (v:Value) (l:List GoneD):Prop:=GonesV w v l∧∀ a n c,v=.slice (some a) n c→S a.block∧∃ cur,w.heap[a.block]?=some (.cells cur 65 (0,0))∧a.spot=none∧a.off+c * 2≤cur.size
theorem gones_q {w:World} {S:Nat→Prop} {v:Value} {l:List GoneD} (h:GonesO w S v l):GonesQ w S v l:=by
 refine ⟨Ow.rd (fun _ _ _ _ h=>h) h,fun a n c hv=>?_⟩
 rcases h with ⟨h,-⟩ | ⟨g,cap,cur,cs,fs,hv',hh,-,-,hs,hS,-⟩
 ·rw [hv] at h;cases h
 ·rw [hv] at hv'
  simp only [Value.slice.injEq,Option.some.injEq] at hv'
  obtain ⟨rfl,-,rfl⟩:=hv'
  exact ⟨hS,cur,hh,rfl,by simp only;omega⟩
theorem GonesQ.mono {w:World} {S S':Nat→Prop} {v:Value} {l:List GoneD} (h:GonesQ w S v l) (hS:∀ k,S k→S' k):GonesQ w S' v l:=⟨h.1,fun a n c e=>⟨hS _ (h.2 a n c e).1,(h.2 a n c e).2⟩⟩
theorem gonesq_in {w:World} {S:Nat→Prop} {v:Value} {l:List GoneD} (h:GonesQ w S v l):GonesQ w (fun k=>S k∧k < w.heap.size) v l:=⟨h.1,fun a n c e=>let ⟨h1,cur,hh,r⟩:=h.2 a n c e;⟨⟨h1,lt_of_heap hh⟩,cur,hh,r⟩⟩
theorem gonesq_oth {w w':World} {S:Nat→Prop} {v:Value} {l:List GoneD} (h:GonesQ w S v l) (ht:StayT w w' 65):GonesQ w' S v l:=by
 obtain ⟨⟨a,cap,cs,hv,h1,h2,h3,h4,h5⟩,hty⟩:=h
 refine ⟨⟨a,cap,cs,hv,h1,h2,h3,h4,fun hp=>?_⟩,fun a n c e=>let ⟨h1,cur,hh,r⟩:=hty a n c e;⟨h1,cur,(ht _ ⟨_,_,hh⟩).trans hh,r⟩⟩
 obtain ⟨b,off,ha,hb,hc⟩:=h5 hp
 obtain ⟨-,cells,hh,-⟩:=hty ⟨b,off,none⟩ l.length cap (by rw [hv,ha])
 have hh':=(ht b ⟨_,_,hh⟩).trans hh
 refine ⟨b,off,ha,lt_of_heap hh',fun i j u hi hu=>?_⟩
 have:=hc i j u hi hu
 rw [cell_of_row w b _ cells _ (0,0) hh] at this
 rw [cell_of_row w' b _ cells _ (0,0) hh']
 exact this

/-- A box whose mails are the account's own. -/
def BoxQE (w:World) (c:List Value) (b:BoxD) (S:Nat→Prop):Prop :=
 ∃ u0 u1 u2,c=[u0,.int .i64 b.valid,.int .i64 b.next,.int .i64 b.seq,u1,u2,.int .i64 b.lost]∧RO w Any u0 b.name∧MailsQ w S u1 b.mails∧GonesQ w S u2 b.gones∧I64 b.valid∧I64 b.next∧I64 b.seq∧I64 b.lost
abbrev BoxesQ:=Ow 44 7 BoxQE
theorem box_oth {w w':World} {c:List Value} {b:BoxD} {S:Nat→Prop} (h:BoxQE w c b S) (hm:∀ k,S k→k < w.heap.size→w'.heap[k]?=w.heap[k]?) (ht:StayT w w' 5) (hg:StayT w w' 65):BoxQE w' c b S :=
 let ⟨u0,u1,u2,h0,h1,h2,h3,r⟩:=h;⟨u0,u1,u2,h0,ro_oth h1 ht,mails_oth h2 hm ht,gonesq_oth h3 hg,r⟩
theorem BoxQE.rd {w:World} {c:List Value} {b:BoxD} {S:Nat→Prop} (h:BoxQE w c b S):BoxRE w c b :=
 let ⟨u0,u1,u2,h0,h1,h2,h3,r⟩:=h;⟨u0,u1,u2,h0,h1.bs,h2.v,h3.1,r⟩
theorem boxes_oth {w w':World} {S:Nat→Prop} {v:Value} {l:List BoxD} (h:BoxesQ w S v l) (hm:∀ k,S k→k < w.heap.size→w'.heap[k]?=w.heap[k]?) (ht:StayT w w' 5) (hg:StayT w w' 65):BoxesQ w' S v l:=by
 rcases h with h | ⟨g,cap,cur,cs,fs,hv,hh,h1,h2,h3,h4,h5,h6,h7⟩
 ·exact .inl h
 ·refine .inr ⟨g,cap,cur,cs,fs,hv,(hm g h4 (lt_of_heap hh)).trans hh,h1,h2,h3,h4,fun i x hx=>⟨?_,(h5 i x hx).2⟩,h6,h7⟩
  have hi:i < l.length:=(List.getElem?_eq_some_iff.1 hx).1
  exact box_oth (h5 i x hx).1 (fun k hk hlt=>hm k (h6 i k hi hk).1 hlt) ht hg
theorem BoxesQ.v {w:World} {S:Nat→Prop} {v:Value} {l:List BoxD} (h:BoxesQ w S v l):BoxesV w v l:=Ow.rd (fun _ _ _ _ h=>BoxQE.rd h) h

/-- One box behind a pointer: cells from o on in the block g; its mails' block lies in S. -/
def BoxP (w:World) (S:Nat→Prop) (g o:Nat) (b:BoxD):Prop :=
 ∃ cur c,w.heap[g]?=some (.cells cur 44 (0,0))∧BoxQE w c b S∧∀ j u,c[j]?=some u→cur[o+j]?=some u
/-- What a call turns that is given one box: that box' seven cells, and blocks in S; nothing else that is old. -/
def Turns (w w':World) (S:Nat→Prop) (g o:Nat):Prop :=
 w.heap.size≤w'.heap.size∧(∀ k,k < w.heap.size→k≠g→¬ S k→w'.heap[k]?=w.heap[k]?)∧StayT w w' 5∧StayT w w' 65 ∧
  (∀ cur,w.heap[g]?=some (.cells cur 44 (0,0))→∃ cur',w'.heap[g]?=some (.cells cur' 44 (0,0))∧cur'.size=cur.size∧∀ i,(i < o∨o+7≤i)→cur'[i]?=cur[i]?)∧w'.os=w.os∧w'.tape=w.tape∧w'.output=w.output

/-- The i-th box out of the list, behind its pointer; the blocks of its mails are none of the others'. -/
theorem BoxesQ.at {w:World} {S:Nat→Prop} {v:Value} {l:List BoxD} (h:BoxesQ w S v l) {i:Nat} {b:BoxD} (hb:l[i]?=some b) :
  ∃ g cap S1,v=.slice (some ⟨g,0,none⟩) l.length cap∧S g∧BoxP w S1 g (i * 7) b∧(∀ k,S1 k→S k∧k≠g) ∧
   ∀ (w':World) (b':BoxD) (S1':Nat→Prop),Turns w w' S1 g (i * 7)→BoxP w' S1' g (i * 7) b'→(∀ k,S1' k→S1 k∨w.heap.size≤k)→BoxesQ w' (fun k=>S k∨w.heap.size≤k) v (l.set i b'):=by
 rcases h with ⟨_,h⟩ | ⟨g,cap,cur,cs,fs,hv,hh,h1,h2,h3,h4,h5,h6,h7⟩
 ·subst h;simp at hb
 have hi:i < l.length:=(List.getElem?_eq_some_iff.1 hb).1
 refine ⟨g,cap,fun k=>fs i k,hv,h4,⟨cur,cs i,hh,(h5 i b hb).1,(h5 i b hb).2.2⟩,fun k hk=>h6 i k hi hk,fun w' b' S1' ht hp hs0=>?_⟩
 have hs:∀ k,S1' k→(fs i k∨w.heap.size≤k)∧k≠g:=fun k h=>⟨hs0 k h,fun e=>by subst e;exact (hs0 _ h).elim (fun h'=>(h6 i _ hi h').2 rfl) fun h'=>by have:=lt_of_heap hh;omega⟩
 obtain ⟨t0,t1,t2,t3,t4,-⟩:=ht
 obtain ⟨cur',hh',hsz',hout⟩:=t4 cur hh
 obtain ⟨cur2,c,e2,hq,hc⟩:=hp
 rw [hh'] at e2
 cases e2
 -- footprints of the others,held to blocks that were there
 refine .inr ⟨g,cap,cur',fun j=>if j=i then c else cs j,fun j=>if j=i then S1' else fun k=>fs j k∧k < w.heap.size,by rw [List.length_set];exact hv,hh',by rw [List.length_set];exact h1,h2,hsz'.trans h3,.inl h4,fun j x hx=>?_,fun j k hj hk=>?_,fun j m k hj hm hne hk=>?_⟩
 ·by_cases e:j=i
  ·subst e
   rw [List.getElem?_set_self hi] at hx
   cases hx
   simp only [if_pos]
   exact ⟨hq,by obtain ⟨u0,u1,u2,rfl,_⟩:=hq;rfl,hc⟩
  ·rw [List.getElem?_set_ne (Ne.symm e)] at hx
   simp only [if_neg e]
   have hj:j < l.length:=(List.getElem?_eq_some_iff.1 hx).1
   obtain ⟨q0,q1,q2⟩:=h5 j x hx
   refine ⟨?_,q1,fun m u hu=>?_⟩
   ·obtain ⟨u0,u1,u2,e0,e1,em,eg,er⟩:=q0
    refine ⟨u0,u1,u2,e0,ro_oth e1 t2,?_,gonesq_oth (gonesq_in eg) t3,er⟩
    have hk:MailsQ w' (fs j) u1 x.mails:=mails_oth em (fun k hk hlt=>t1 k hlt (h6 j k hj hk).2 (fun hk2=>h7 j i k hj hi e hk hk2)) t2
    rcases em with ⟨n1,n2⟩ | ⟨g',cap',cur',cs',fs',m0,m1,m2,m3,m4,m5,m6,m7⟩
    ·exact .inl ⟨n1,n2⟩
    ·exact .inr ⟨g',cap',cur',cs',fun _ _=>False,m0,(t1 g' (lt_of_heap m1) (h6 j g' hj m5).2 (fun hk2=>h7 j i g' hj hi e m5 hk2)).trans m1,m2,m3,m4,⟨m5,lt_of_heap m1⟩,fun p y hy=>⟨mail_oth (m6 p y hy).1 t2,(m6 p y hy).2⟩,fun _ _ _ hF=>hF.elim,fun _ _ _ _ _ _ hF=>hF.elim⟩
   ·have hmlt:m < 7:=by
     have:=(List.getElem?_eq_some_iff.1 hu).1
     omega
    rw [hout (j * 7+m) (by rcases Nat.lt_or_gt_of_ne e with e | e <;> omega)]
    exact q2 m u hu
 ·rw [List.length_set] at hj
  by_cases e:j=i
  ·simp only [if_pos e] at hk
   obtain ⟨hk1,hk2⟩:=hs k hk
   exact ⟨hk1.elim (fun h=>.inl (h6 i k hi h).1) .inr,hk2⟩
  ·simp only [if_neg e] at hk
   exact ⟨.inl (h6 j k hj hk.1).1,(h6 j k hj hk.1).2⟩
 ·rw [List.length_set] at hj hm
  by_cases e:j=i
  ·have e2:m≠i:=fun e2=>hne (e.trans e2.symm)
   simp only [if_pos e,if_neg e2] at hk ⊢
   intro hk2
   rcases (hs k hk).1 with h | h
   ·exact h7 m i k hm hi e2 hk2.1 h
   ·exact absurd hk2.2 (by omega)
  ·simp only [if_neg e] at hk
   by_cases e2:m=i
   ·simp only [if_pos e2]
    intro hk2
    rcases (hs k hk2).1 with h | h
    ·exact h7 j i k hj hi e hk.1 h
    ·exact absurd hk.2 (by omega)
   ·simp only [if_neg e2]
    exact fun hk2=>h7 j m k hj hm hne hk.1 hk2.1

end Go.Proofs.YtnlhkgoppjejeaaDoor

/- A box behind a pointer: what it reads, what a call that turns it leaves. -/
namespace Go.Proofs.YtnlhkgoppjejeaaDoor
open Go.RowKit

section
variable {w w' w'' : World} {S S' S1 : Nat → Prop} {g o : Nat} {b : BoxD}
theorem Turns.refl (w:World) (S:Nat→Prop) (g o:Nat):Turns w w S g o:=⟨Nat.le_refl _,fun _ _ _ _=>rfl,StayT.refl _ _,StayT.refl _ _,fun cur h=>⟨cur,h,rfl,fun _ _=>rfl⟩,rfl,rfl,rfl⟩
/-- One call behind the other; what is new behind the first may be turned by the second. -/
theorem Turns.trans (h:Turns w w' S g o) (h':Turns w' w'' S' g o) (hS:∀ k,S' k→S k∨w.heap.size≤k):Turns w w'' S g o:=by
 refine ⟨Nat.le_trans h.1 h'.1,fun k hk hg hs=>?_,h.2.2.1.trans h'.2.2.1,h.2.2.2.1.trans h'.2.2.2.1,fun cur hc=>?_,h'.2.2.2.2.2.1.trans h.2.2.2.2.2.1,h'.2.2.2.2.2.2.1.trans h.2.2.2.2.2.2.1,h'.2.2.2.2.2.2.2.trans h.2.2.2.2.2.2.2⟩
 ·exact (h'.2.1 k (Nat.lt_of_lt_of_le hk h.1) hg (fun h2=>(hS k h2).elim hs (fun h3=>by omega))).trans (h.2.1 k hk hg hs)
 ·obtain ⟨c1,e1,z1,o1⟩:=h.2.2.2.2.1 cur hc
  obtain ⟨c2,e2,z2,o2⟩:=h'.2.2.2.2.1 c1 e1
  exact ⟨c2,e2,z2.trans z1,fun i hi=>(o2 i hi).trans (o1 i hi)⟩
theorem turns_below (h:Below w.heap.size w w'):Turns w w' S g o :=
 ⟨h.size,fun k hk _ _=>h.block k hk,stay_below h,stay_below h,fun cur hc=>⟨cur,(h.block g (lt_of_heap hc)).trans hc,rfl,fun _ _=>rfl⟩,h.os,h.tape,h.output⟩
/-- A field of the box is written. -/
theorem turns_field {i:Nat} {x:Value} (ht:Ty w g 44) (hi:o≤i) (hi2:i < o+7):Turns w (w.setCell ⟨g,i,none⟩ x) S g o:=by
 refine ⟨by rw [box_size];exact Nat.le_refl _,fun k _ hg _=>Below.heap_setCell _ _ _ _ hg,stay_set ht (by decide),stay_set ht (by decide),fun cur hc=>⟨_,box_set hc,by rw [Array.size_setIfInBounds],fun j hj=>?_⟩,rfl,rfl,rfl⟩
 rw [Array.getElem?_setIfInBounds_ne (by omega)]
/-- A field of a mail is written, in a block of mails. -/
theorem turns_mail {m i:Nat} {x:Value} (ht:Ty w m 67) (hm:S m∨w.heap.size≤m):Turns w (w.setCell ⟨m,i,none⟩ x) S g o:=by
 have hlt:=ty_lt ht
 refine ⟨by rw [box_size];exact Nat.le_refl _,fun k _ _ hs=>Below.heap_setCell _ _ _ _ (show k≠m from fun e=>hm.elim (fun h=>hs (e ▸ h)) (fun h=>by omega)),stay_set ht (by decide),stay_set ht (by decide),fun cur hc=>⟨cur,?_,rfl,fun _ _=>rfl⟩,rfl,rfl,rfl⟩
 exact box_other hc (fun e=>by subst e;exact ty_ne hc ht (by decide))

theorem BoxP.ty (h:BoxP w S g o b):Ty w g 44:=let ⟨_,_,h,_⟩:=h;⟨_,_,h⟩
/-- Its seven cells. -/
theorem BoxP.cells (h:BoxP w S g o b):∃ u0 u1 u2,RO w Any u0 b.name∧MailsQ w S u1 b.mails∧GonesQ w S u2 b.gones∧(I64 b.valid∧I64 b.next∧I64 b.seq∧I64 b.lost) ∧
  w.cell? ⟨g,o,none⟩=some u0∧w.cell? ⟨g,o+1,none⟩=some (.int .i64 b.valid)∧w.cell? ⟨g,o+2,none⟩=some (.int .i64 b.next)∧w.cell? ⟨g,o+3,none⟩=some (.int .i64 b.seq) ∧
  w.cell? ⟨g,o+4,none⟩=some u1∧w.cell? ⟨g,o+5,none⟩=some u2∧w.cell? ⟨g,o+6,none⟩=some (.int .i64 b.lost):=by
 obtain ⟨cur,c,hh,⟨u0,u1,u2,rfl,h1,h2,h3,hi⟩,hc⟩:=h
 have hw:=fun j=>cell_of_row w g j cur _ (0,0) hh
 exact ⟨u0,u1,u2,h1,h2,h3,hi,(hw _).trans (hc 0 _ rfl),(hw _).trans (hc 1 _ rfl),(hw _).trans (hc 2 _ rfl),(hw _).trans (hc 3 _ rfl),(hw _).trans (hc 4 _ rfl),(hw _).trans (hc 5 _ rfl),(hw _).trans (hc 6 _ rfl)⟩
/-- None of its block is frozen. -/
theorem BoxP.open (h:BoxP w S g o b) (i:Nat):w.frozen? ⟨g,i,none⟩=false:=by
 obtain ⟨cur,c,hh,_⟩:=h
 simp [World.frozen?,hh]
/-- A box stays while another call turns nothing of it. -/
theorem BoxP.oth (h:BoxP w S g o b) (hg:w'.heap[g]?=w.heap[g]?) (hm:∀ k,S k→k < w.heap.size→w'.heap[k]?=w.heap[k]?) (ht:StayT w w' 5) (hq:StayT w w' 65):BoxP w' S g o b :=
 let ⟨cur,c,hh,h1,h2⟩:=h;⟨cur,c,hg.trans hh,box_oth h1 hm ht hq,h2⟩
theorem BoxP.below (h:BoxP w S g o b) (hb:Below w.heap.size w w'):BoxP w' S g o b :=
 h.oth (let ⟨_,_,hh,_⟩:=h;hb.block g (lt_of_heap hh)) (fun k _ hk=>hb.block k hk) (stay_below hb) (stay_below hb)
/-- As a value. -/
theorem BoxP.v (h:BoxP w S g o b):∃ u0 u1 u2,BoxV w (.agg #[u0,.int .i64 b.valid,.int .i64 b.next,.int .i64 b.seq,u1,u2,.int .i64 b.lost]) b∧w.cell? ⟨g,o,none⟩=some u0∧w.cell? ⟨g,o+4,none⟩=some u1∧w.cell? ⟨g,o+5,none⟩=some u2:=by
 obtain ⟨u0,u1,u2,h1,h2,h3,hi,c0,-,-,-,c4,c5,-⟩:=h.cells
 exact ⟨u0,u1,u2,⟨u0,u1,u2,rfl,h1.bs,h2.v,h3.1,hi⟩,c0,c4,c5⟩
/-- The box' number is written. -/
theorem BoxP.seq {n:Int} (h:BoxP w S g o b) (hS:¬ S g) (hn:I64 n) (ho:∀ cur t,w.heap[g]?=some (.cells cur t (0,0))→o+7≤cur.size):BoxP (w.setCell ⟨g,o+3,none⟩ (.int .i64 n)) S g o ⟨b.name,b.valid,b.next,n,b.mails,b.gones,b.lost⟩:=by
 have hty:=h.ty
 obtain ⟨cur,c,hh,⟨u0,u1,u2,rfl,h1,h2,h3,i0,i1,i2,i3⟩,hc⟩:=h
 have hsz:=ho cur _ hh
 refine ⟨_,_,box_set hh,⟨u0,u1,u2,rfl,ro_oth h1 (stay_set hty (by decide)),mails_oth h2 (fun k hk _=>Below.heap_setCell _ _ _ _ (show k≠g from fun e=>hS (e ▸ hk))) (stay_set hty (by decide)),gonesq_oth h3 (stay_set hty (by decide)),i0,i1,hn,i3⟩,fun j u hj=>?_⟩
 by_cases e:j=3
 ·subst e
  cases hj
  rw [Array.getElem?_setIfInBounds_self_of_lt (by omega)]
 ·rw [Array.getElem?_setIfInBounds_ne (by omega)]
  refine hc j u ?_
  match j,hj with
  | 0,hj=>exact hj
  | 1,hj=>exact hj
  | 2,hj=>exact hj
  | 3,_=>exact absurd rfl e
  | 4,hj=>exact hj
  | 5,hj=>exact hj
  | 6,hj=>exact hj
  | j+7,hj=>simp at hj
end

end Go.Proofs.YtnlhkgoppjejeaaDoor
