/- The proof's texts, part 9. -/
import Derived.Test.YtnlhkgoppjejeaaDoorPart3
import Derived.Test.YtnlhkgoppjejeaaDoorPart8
import Derived.Laws.BitsAllLaws

/- What numSize and numOf of package impl do. -/
namespace Go.Proofs.YtnlhkgoppjejeaaDoor
open Go.RowKit
set_option maxRecDepth 100000

theorem szL_more (cs:List Int) (t k:Nat) (h:k < t) (hk:k < cs.length) (hx:¬ cs.getD k 0 < 128):szL k ((cs.take t).drop k)=szL (k+1) ((cs.take t).drop (k+1)):=by
 rw [drop_get _ k (by simp;omega)]
 simp only [szL]
 rw [if_neg (by simpa [h] using hx)]
theorem szL_end (cs:List Int) (t k:Nat) (h:t≤k):szL k ((cs.take t).drop k)=0:=by
 rw [List.drop_eq_nil_of_le (by simp;omega)];rfl
theorem szL_bad (cs:List Int) (t k:Nat) (h:k < t) (hk:k < cs.length) (hx:cs.getD k 0=0) (h0:0 < k):szL k ((cs.take t).drop k)=0:=by
 rw [drop_get _ k (by simp;omega)]
 have:(cs.take t).getD k 0=0:=by simpa [h] using hx
 simp only [szL,this]
 simp [h0]
theorem szL_good (cs:List Int) (t k:Nat) (h:k < t) (hk:k < cs.length) (hx:cs.getD k 0 < 128) (h0:¬ (cs.getD k 0=0∧0 < k)):szL k ((cs.take t).drop k)=k+1:=by
 rw [drop_get _ k (by simp;omega)]
 have:(cs.take t).getD k 0=cs.getD k 0:=by simp [h]
 simp only [szL,this]
 rw [if_pos hx,if_neg h0]

set_option maxHeartbeats 1000000 in
theorem numSize_any (c0 c1 c2 c3 c4:Int) (t:Nat) (w:World) (ht:t≤5) (ho:Oct [c0,c1,c2,c3,c4]) :
  Calls Tryd.prog 80 #[.agg #[.int .u8 c0,.int .u8 c1,.int .u8 c2,.int .u8 c3,.int .u8 c4],.int .i64 t] w fun e w'=>e=.returned (.int .i64 (szL 0 ([c0,c1,c2,c3,c4].take t)))∧Below w.heap.size w w':=by
 generalize hG:szL 0 ([c0,c1,c2,c3,c4].take t)=G
 have HG:Hid (szL 0 (([c0,c1,c2,c3,c4].take t).drop 0)=G):=hG
 clear hG
 have hB:Below w.heap.size w (w.alloc (.cells #[.int .u8 c0,.int .u8 c1,.int .u8 c2,.int .u8 c3,.int .u8 c4] 88)):=(Below.refl _ _).alloc (Nat.le_refl _) _
 go_enter Tryd.func80,Tryd.ntmps80
 go_wp2
 go_loop [7] (fun i=>∃ k:Nat,k≤t∧i=.int .i64 k∧Hid (szL k (([c0,c1,c2,c3,c4].take t).drop k)=G)) (fun i=>t - (intOf i).toNat)
 case atStart=>exact ⟨0,Nat.zero_le _,rfl,HG⟩
 case round =>
  obtain ⟨k,hk,rfl,HR⟩:=hrel
  clear HG
  by_cases hlt:k < t
  ·rcases (show k=0∨k=1∨k=2∨k=3∨k=4 by omega) with rfl | rfl | rfl | rfl | rfl
   ·have hc:=ho c0 (by simp)
    by_cases hx:c0 < 128
    ·by_cases hz:c0=0
     ·have hz':(c0 == 0)=true:=by simp [hz]
      have e:G=1:=by rw [← HR.out];exact szL_good [c0,c1,c2,c3,c4] t 0 hlt (by simp) hx (by omega)
      clear hz
      have E:Hid (G=1):=e
      clear e
      go_wp2
      go_ret
      exact ⟨by rw [E.out];rfl,hB⟩
     ·have hz':(c0 == 0)=false:=by simp [hz]
      have E:Hid (G=1):=by rw [← HR.out];exact szL_good [c0,c1,c2,c3,c4] t 0 hlt (by simp) hx (fun h=>hz h.1)
      clear hz
      go_wp2
      go_ret
      exact ⟨by rw [E.out];rfl,hB⟩
    ·have E:Hid (szL 1 (([c0,c1,c2,c3,c4].take t).drop 1)=G):=by rw [← HR.out];exact (szL_more [c0,c1,c2,c3,c4] t 0 hlt (by simp) hx).symm
     go_wp2
     go_round
     case rel=>exact ⟨1,by omega,rfl,E⟩
     case measure=>simp [intOf];omega
   ·have hc:=ho c1 (by simp)
    by_cases hx:c1 < 128
    ·by_cases hz:c1=0
     ·have hz':(c1 == 0)=true:=by simp [hz]
      have e:G=0:=by rw [← HR.out];exact szL_bad [c0,c1,c2,c3,c4] t 1 hlt (by simp) hz (by omega)
      clear hz
      have E:Hid (G=0):=e
      clear e
      go_wp2
      go_ret
      exact ⟨by rw [E.out];rfl,hB⟩
     ·have hz':(c1 == 0)=false:=by simp [hz]
      have E:Hid (G=2):=by rw [← HR.out];exact szL_good [c0,c1,c2,c3,c4] t 1 hlt (by simp) hx (fun h=>hz h.1)
      clear hz
      go_wp2
      go_ret
      exact ⟨by rw [E.out];rfl,hB⟩
    ·have E:Hid (szL 2 (([c0,c1,c2,c3,c4].take t).drop 2)=G):=by rw [← HR.out];exact (szL_more [c0,c1,c2,c3,c4] t 1 hlt (by simp) hx).symm
     go_wp2
     go_round
     case rel=>exact ⟨2,by omega,rfl,E⟩
     case measure=>simp [intOf];omega
   ·have hc:=ho c2 (by simp)
    by_cases hx:c2 < 128
    ·by_cases hz:c2=0
     ·have hz':(c2 == 0)=true:=by simp [hz]
      have e:G=0:=by rw [← HR.out];exact szL_bad [c0,c1,c2,c3,c4] t 2 hlt (by simp) hz (by omega)
      clear hz
      have E:Hid (G=0):=e
      clear e
      go_wp2
      go_ret
      exact ⟨by rw [E.out];rfl,hB⟩
     ·have hz':(c2 == 0)=false:=by simp [hz]
      have E:Hid (G=3):=by rw [← HR.out];exact szL_good [c0,c1,c2,c3,c4] t 2 hlt (by simp) hx (fun h=>hz h.1)
      clear hz
      go_wp2
      go_ret
      exact ⟨by rw [E.out];rfl,hB⟩
    ·have E:Hid (szL 3 (([c0,c1,c2,c3,c4].take t).drop 3)=G):=by rw [← HR.out];exact (szL_more [c0,c1,c2,c3,c4] t 2 hlt (by simp) hx).symm
     go_wp2
     go_round
     case rel=>exact ⟨3,by omega,rfl,E⟩
     case measure=>simp [intOf];omega
   ·have hc:=ho c3 (by simp)
    by_cases hx:c3 < 128
    ·by_cases hz:c3=0
     ·have hz':(c3 == 0)=true:=by simp [hz]
      have e:G=0:=by rw [← HR.out];exact szL_bad [c0,c1,c2,c3,c4] t 3 hlt (by simp) hz (by omega)
      clear hz
      have E:Hid (G=0):=e
      clear e
      go_wp2
      go_ret
      exact ⟨by rw [E.out];rfl,hB⟩
     ·have hz':(c3 == 0)=false:=by simp [hz]
      have E:Hid (G=4):=by rw [← HR.out];exact szL_good [c0,c1,c2,c3,c4] t 3 hlt (by simp) hx (fun h=>hz h.1)
      clear hz
      go_wp2
      go_ret
      exact ⟨by rw [E.out];rfl,hB⟩
    ·have E:Hid (szL 4 (([c0,c1,c2,c3,c4].take t).drop 4)=G):=by rw [← HR.out];exact (szL_more [c0,c1,c2,c3,c4] t 3 hlt (by simp) hx).symm
     go_wp2
     go_round
     case rel=>exact ⟨4,by omega,rfl,E⟩
     case measure=>simp [intOf];omega
   ·have hc:=ho c4 (by simp)
    by_cases hx:c4 < 128
    ·by_cases hz:c4=0
     ·have hz':(c4 == 0)=true:=by simp [hz]
      have e:G=0:=by rw [← HR.out];exact szL_bad [c0,c1,c2,c3,c4] t 4 hlt (by simp) hz (by omega)
      clear hz
      have E:Hid (G=0):=e
      clear e
      go_wp2
      go_ret
      exact ⟨by rw [E.out];rfl,hB⟩
     ·have hz':(c4 == 0)=false:=by simp [hz]
      have E:Hid (G=5):=by rw [← HR.out];exact szL_good [c0,c1,c2,c3,c4] t 4 hlt (by simp) hx (fun h=>hz h.1)
      clear hz
      go_wp2
      go_ret
      exact ⟨by rw [E.out];rfl,hB⟩
    ·have E:Hid (szL 5 (([c0,c1,c2,c3,c4].take t).drop 5)=G):=by rw [← HR.out];exact (szL_more [c0,c1,c2,c3,c4] t 4 hlt (by simp) hx).symm
     go_wp2
     go_round
     case rel=>exact ⟨5,by omega,rfl,E⟩
     case measure=>simp [intOf];omega
  ·go_wp2
   go_ret
   have e:G=0:=by rw [← HR.out];exact szL_end _ _ _ (by omega)
   exact ⟨by rw [e];rfl,hB⟩


theorem andNot128_fin:∀ x:Fin 256,bits BinOp.andNot IntKind.u8 (x.val:Int) 128=(x.val:Int) % 128:=by decide +kernel
theorem andNot128 (x:Int) (h0:0≤x) (h1:x≤255):bits BinOp.andNot IntKind.u8 x 128=x % 128:=by
 have h:=andNot128_fin ⟨x.toNat,by omega⟩
 simp only at h
 rw [show ((x.toNat:Nat):Int)=x by omega] at h
 exact h
theorem or_add (k:Nat) (N x:Int) (hk:k≤28) (h0:0≤N) (h1:N < 2 ^ k) (h2:0≤x) (h3:x < 128):bits BinOp.or IntKind.u64 N (x * 2 ^ k)=N+x * 2 ^ k:=by
 obtain ⟨n,rfl⟩:=Int.eq_ofNat_of_zero_le h0
 obtain ⟨y,rfl⟩:=Int.eq_ofNat_of_zero_le h2
 have hp:(2:Nat) ^ k≤2 ^ 28:=Nat.pow_le_pow_right (by omega) hk
 have h1':n < 2 ^ k:=by
  have:(n:Int) < ((2 ^ k:Nat):Int):=by simpa using h1
  omega
 have e:(y:Int) * 2 ^ k=((y <<< k:Nat):Int):=by rw [Nat.shiftLeft_eq];simp
 have hb:y <<< k < 18446744073709551616:=by
  rw [Nat.shiftLeft_eq]
  exact Nat.lt_of_le_of_lt (Nat.mul_le_mul (show y≤128 by omega) hp) (by decide)
 rw [e,u64_or_nat n _ (by omega) hb,Nat.or_comm,← Nat.shiftLeft_add_eq_or_of_lt h1' y]
 simp [Int.add_comm]

set_option maxHeartbeats 1000000 in
theorem numOf_1 (c0 c1 c2 c3 c4:Int) (w:World) (ho:Oct [c0,c1,c2,c3,c4]) :
  Calls Tryd.prog 81 #[.agg #[.int .u8 c0,.int .u8 c1,.int .u8 c2,.int .u8 c3,.int .u8 c4],.int .i64 1] w fun e w'=>e=.returned (.int .u64 (c0 % 128))∧Below w.heap.size w w':=by
 have n0:=andNot128 c0 (ho c0 (by simp)).1 (ho c0 (by simp)).2
 have b0:=ho c0 (by simp)
 have o0:bits BinOp.or IntKind.u64 0 (c0 % 128)=c0 % 128:=by simpa using or_add 0 0 (c0 % 128) (by omega) (by omega) (by omega) (by omega) (by omega)
 go_enter Tryd.func81,Tryd.ntmps81
 go_wp2
 refine wp_loop_rounds 2 ?_
 rw [rounds_succ]
 go_wp2
 rw [rounds_succ]
 go_wp2
 go_ret
 exact ⟨rfl,(Below.refl _ _).alloc (Nat.le_refl _) _⟩

set_option maxHeartbeats 1000000 in
theorem numOf_2 (c0 c1 c2 c3 c4:Int) (w:World) (ho:Oct [c0,c1,c2,c3,c4]) :
  Calls Tryd.prog 81 #[.agg #[.int .u8 c0,.int .u8 c1,.int .u8 c2,.int .u8 c3,.int .u8 c4],.int .i64 2] w fun e w'=>e=.returned (.int .u64 (c0 % 128+c1 % 128 * 128))∧Below w.heap.size w w':=by
 have n0:=andNot128 c0 (ho c0 (by simp)).1 (ho c0 (by simp)).2
 have b0:=ho c0 (by simp)
 have n1:=andNot128 c1 (ho c1 (by simp)).1 (ho c1 (by simp)).2
 have b1:=ho c1 (by simp)
 have o0:bits BinOp.or IntKind.u64 0 (c0 % 128)=c0 % 128:=by simpa using or_add 0 0 (c0 % 128) (by omega) (by omega) (by omega) (by omega) (by omega)
 have o1:bits BinOp.or IntKind.u64 (c0 % 128) (c1 % 128 * 128)=c0 % 128+c1 % 128 * 128:=or_add 7 (c0 % 128) (c1 % 128) (by omega) (by omega) (by omega) (by omega) (by omega)
 go_enter Tryd.func81,Tryd.ntmps81
 go_wp2
 refine wp_loop_rounds 3 ?_
 rw [rounds_succ]
 go_wp2
 rw [rounds_succ]
 go_wp2
 rw [rounds_succ]
 go_wp2
 go_ret
 exact ⟨rfl,(Below.refl _ _).alloc (Nat.le_refl _) _⟩

set_option maxHeartbeats 1000000 in
theorem numOf_3 (c0 c1 c2 c3 c4:Int) (w:World) (ho:Oct [c0,c1,c2,c3,c4]) :
  Calls Tryd.prog 81 #[.agg #[.int .u8 c0,.int .u8 c1,.int .u8 c2,.int .u8 c3,.int .u8 c4],.int .i64 3] w fun e w'=>e=.returned (.int .u64 (c0 % 128+c1 % 128 * 128+c2 % 128 * 16384))∧Below w.heap.size w w':=by
 have n0:=andNot128 c0 (ho c0 (by simp)).1 (ho c0 (by simp)).2
 have b0:=ho c0 (by simp)
 have n1:=andNot128 c1 (ho c1 (by simp)).1 (ho c1 (by simp)).2
 have b1:=ho c1 (by simp)
 have n2:=andNot128 c2 (ho c2 (by simp)).1 (ho c2 (by simp)).2
 have b2:=ho c2 (by simp)
 have o0:bits BinOp.or IntKind.u64 0 (c0 % 128)=c0 % 128:=by simpa using or_add 0 0 (c0 % 128) (by omega) (by omega) (by omega) (by omega) (by omega)
 have o1:bits BinOp.or IntKind.u64 (c0 % 128) (c1 % 128 * 128)=c0 % 128+c1 % 128 * 128:=or_add 7 (c0 % 128) (c1 % 128) (by omega) (by omega) (by omega) (by omega) (by omega)
 have o2:bits BinOp.or IntKind.u64 (c0 % 128+c1 % 128 * 128) (c2 % 128 * 16384)=c0 % 128+c1 % 128 * 128+c2 % 128 * 16384:=or_add 14 (c0 % 128+c1 % 128 * 128) (c2 % 128) (by omega) (by omega) (by omega) (by omega) (by omega)
 go_enter Tryd.func81,Tryd.ntmps81
 go_wp2
 refine wp_loop_rounds 4 ?_
 rw [rounds_succ]
 go_wp2
 rw [rounds_succ]
 go_wp2
 rw [rounds_succ]
 go_wp2
 rw [rounds_succ]
 go_wp2
 go_ret
 exact ⟨rfl,(Below.refl _ _).alloc (Nat.le_refl _) _⟩

set_option maxHeartbeats 1000000 in
theorem numOf_4 (c0 c1 c2 c3 c4:Int) (w:World) (ho:Oct [c0,c1,c2,c3,c4]) :
  Calls Tryd.prog 81 #[.agg #[.int .u8 c0,.int .u8 c1,.int .u8 c2,.int .u8 c3,.int .u8 c4],.int .i64 4] w fun e w'=>e=.returned (.int .u64 (c0 % 128+c1 % 128 * 128+c2 % 128 * 16384+c3 % 128 * 2097152))∧Below w.heap.size w w':=by
 have n0:=andNot128 c0 (ho c0 (by simp)).1 (ho c0 (by simp)).2
 have b0:=ho c0 (by simp)
 have n1:=andNot128 c1 (ho c1 (by simp)).1 (ho c1 (by simp)).2
 have b1:=ho c1 (by simp)
 have n2:=andNot128 c2 (ho c2 (by simp)).1 (ho c2 (by simp)).2
 have b2:=ho c2 (by simp)
 have n3:=andNot128 c3 (ho c3 (by simp)).1 (ho c3 (by simp)).2
 have b3:=ho c3 (by simp)
 have o0:bits BinOp.or IntKind.u64 0 (c0 % 128)=c0 % 128:=by simpa using or_add 0 0 (c0 % 128) (by omega) (by omega) (by omega) (by omega) (by omega)
 have o1:bits BinOp.or IntKind.u64 (c0 % 128) (c1 % 128 * 128)=c0 % 128+c1 % 128 * 128:=or_add 7 (c0 % 128) (c1 % 128) (by omega) (by omega) (by omega) (by omega) (by omega)
 have o2:bits BinOp.or IntKind.u64 (c0 % 128+c1 % 128 * 128) (c2 % 128 * 16384)=c0 % 128+c1 % 128 * 128+c2 % 128 * 16384:=or_add 14 (c0 % 128+c1 % 128 * 128) (c2 % 128) (by omega) (by omega) (by omega) (by omega) (by omega)
 have o3:bits BinOp.or IntKind.u64 (c0 % 128+c1 % 128 * 128+c2 % 128 * 16384) (c3 % 128 * 2097152)=c0 % 128+c1 % 128 * 128+c2 % 128 * 16384+c3 % 128 * 2097152:=or_add 21 (c0 % 128+c1 % 128 * 128+c2 % 128 * 16384) (c3 % 128) (by omega) (by omega) (by omega) (by omega) (by omega)
 go_enter Tryd.func81,Tryd.ntmps81
 go_wp2
 refine wp_loop_rounds 5 ?_
 rw [rounds_succ]
 go_wp2
 rw [rounds_succ]
 go_wp2
 rw [rounds_succ]
 go_wp2
 rw [rounds_succ]
 go_wp2
 rw [rounds_succ]
 go_wp2
 go_ret
 exact ⟨rfl,(Below.refl _ _).alloc (Nat.le_refl _) _⟩

set_option maxHeartbeats 1000000 in
theorem numOf_5 (c0 c1 c2 c3 c4:Int) (w:World) (ho:Oct [c0,c1,c2,c3,c4]) :
  Calls Tryd.prog 81 #[.agg #[.int .u8 c0,.int .u8 c1,.int .u8 c2,.int .u8 c3,.int .u8 c4],.int .i64 5] w fun e w'=>e=.returned (.int .u64 (c0 % 128+c1 % 128 * 128+c2 % 128 * 16384+c3 % 128 * 2097152+c4 % 128 * 268435456))∧Below w.heap.size w w':=by
 have n0:=andNot128 c0 (ho c0 (by simp)).1 (ho c0 (by simp)).2
 have b0:=ho c0 (by simp)
 have n1:=andNot128 c1 (ho c1 (by simp)).1 (ho c1 (by simp)).2
 have b1:=ho c1 (by simp)
 have n2:=andNot128 c2 (ho c2 (by simp)).1 (ho c2 (by simp)).2
 have b2:=ho c2 (by simp)
 have n3:=andNot128 c3 (ho c3 (by simp)).1 (ho c3 (by simp)).2
 have b3:=ho c3 (by simp)
 have n4:=andNot128 c4 (ho c4 (by simp)).1 (ho c4 (by simp)).2
 have b4:=ho c4 (by simp)
 have o0:bits BinOp.or IntKind.u64 0 (c0 % 128)=c0 % 128:=by simpa using or_add 0 0 (c0 % 128) (by omega) (by omega) (by omega) (by omega) (by omega)
 have o1:bits BinOp.or IntKind.u64 (c0 % 128) (c1 % 128 * 128)=c0 % 128+c1 % 128 * 128:=or_add 7 (c0 % 128) (c1 % 128) (by omega) (by omega) (by omega) (by omega) (by omega)
 have o2:bits BinOp.or IntKind.u64 (c0 % 128+c1 % 128 * 128) (c2 % 128 * 16384)=c0 % 128+c1 % 128 * 128+c2 % 128 * 16384:=or_add 14 (c0 % 128+c1 % 128 * 128) (c2 % 128) (by omega) (by omega) (by omega) (by omega) (by omega)
 have o3:bits BinOp.or IntKind.u64 (c0 % 128+c1 % 128 * 128+c2 % 128 * 16384) (c3 % 128 * 2097152)=c0 % 128+c1 % 128 * 128+c2 % 128 * 16384+c3 % 128 * 2097152:=or_add 21 (c0 % 128+c1 % 128 * 128+c2 % 128 * 16384) (c3 % 128) (by omega) (by omega) (by omega) (by omega) (by omega)
 have o4:bits BinOp.or IntKind.u64 (c0 % 128+c1 % 128 * 128+c2 % 128 * 16384+c3 % 128 * 2097152) (c4 % 128 * 268435456)=c0 % 128+c1 % 128 * 128+c2 % 128 * 16384+c3 % 128 * 2097152+c4 % 128 * 268435456:=or_add 28 (c0 % 128+c1 % 128 * 128+c2 % 128 * 16384+c3 % 128 * 2097152) (c4 % 128) (by omega) (by omega) (by omega) (by omega) (by omega)
 go_enter Tryd.func81,Tryd.ntmps81
 go_wp2
 refine wp_loop_rounds 6 ?_
 rw [rounds_succ]
 go_wp2
 rw [rounds_succ]
 go_wp2
 rw [rounds_succ]
 go_wp2
 rw [rounds_succ]
 go_wp2
 rw [rounds_succ]
 go_wp2
 rw [rounds_succ]
 go_wp2
 go_ret
 exact ⟨rfl,(Below.refl _ _).alloc (Nat.le_refl _) _⟩

theorem numOf_any (c0 c1 c2 c3 c4:Int) (k:Nat) (w:World) (hk0:1≤k) (hk:k≤5) (ho:Oct [c0,c1,c2,c3,c4]) :
  Calls Tryd.prog 81 #[.agg #[.int .u8 c0,.int .u8 c1,.int .u8 c2,.int .u8 c3,.int .u8 c4],.int .i64 k] w fun e w'=>e=.returned (.int .u64 (valL ([c0,c1,c2,c3,c4].take k)))∧Below w.heap.size w w':=by
 rcases (show k=1∨k=2∨k=3∨k=4∨k=5 by omega) with rfl | rfl | rfl | rfl | rfl
 ·exact (numOf_1 c0 c1 c2 c3 c4 w ho).mono fun e w' ⟨h1,h2⟩=>⟨by rw [h1];congr 2;simp [valL],h2⟩
 ·exact (numOf_2 c0 c1 c2 c3 c4 w ho).mono fun e w' ⟨h1,h2⟩=>⟨by rw [h1];congr 2;simp [valL];omega,h2⟩
 ·exact (numOf_3 c0 c1 c2 c3 c4 w ho).mono fun e w' ⟨h1,h2⟩=>⟨by rw [h1];congr 2;simp [valL];omega,h2⟩
 ·exact (numOf_4 c0 c1 c2 c3 c4 w ho).mono fun e w' ⟨h1,h2⟩=>⟨by rw [h1];congr 2;simp [valL];omega,h2⟩
 ·exact (numOf_5 c0 c1 c2 c3 c4 w ho).mono fun e w' ⟨h1,h2⟩=>⟨by rw [h1];congr 2;simp [valL];omega,h2⟩

end Go.Proofs.YtnlhkgoppjejeaaDoor

/- What GetNum of package impl does. -/
namespace Go.Proofs.YtnlhkgoppjejeaaDoor
open Go.RowKit
set_option maxRecDepth 100000

/-- The bytes from A on, five at most, laid over five noughts. -/
theorem five_of (l:List Int) (A:Nat) (ho:Oct l):∃ c0 c1 c2 c3 c4:Int,splice (vals [0,0,0,0,0]) 0 (vals ((l.drop A).take 5))=vals [c0,c1,c2,c3,c4]∧Oct [c0,c1,c2,c3,c4]∧[c0,c1,c2,c3,c4].take (Nat.min (l.length - A) 5)=(l.drop A).take 5:=by
 have hlen:((l.drop A).take 5).length=Nat.min (l.length - A) 5:=by simp [Nat.min_comm]
 have ho':=oct_take (oct_drop ho A) 5
 generalize (l.drop A).take 5=m at *
 rw [← hlen]
 have h5:m.length≤5:=by rw [hlen];exact Nat.min_le_right ..
 match m,h5,ho' with
 | [],_,_=>exact ⟨0,0,0,0,0,rfl,by simp [Oct],rfl⟩
 | [x0],_,h=>exact ⟨x0,0,0,0,0,rfl,by simp [Oct] at h ⊢;exact h,rfl⟩
 | [x0,x1],_,h=>exact ⟨x0,x1,0,0,0,rfl,by simp [Oct] at h ⊢;exact h,rfl⟩
 | [x0,x1,x2],_,h=>exact ⟨x0,x1,x2,0,0,rfl,by simp [Oct] at h ⊢;exact h,rfl⟩
 | [x0,x1,x2,x3],_,h=>exact ⟨x0,x1,x2,x3,0,rfl,by simp [Oct] at h ⊢;exact h,rfl⟩
 | [x0,x1,x2,x3,x4],_,h=>exact ⟨x0,x1,x2,x3,x4,rfl,h,rfl⟩
 | _ :: _ :: _ :: _ :: _ :: _ :: _,h,_=>simp at h
theorem get_bad1 {l:List Int} {A S:Nat} {G:Int × Int} (hG:G=outOf A (dec 5 0 0 1 (l.drop A))) (hS:szL 0 ((l.drop A).take 5)=S) (h0:S=0):G=(0,-1):=by
 rw [hG,dec_two,hS,if_pos h0];rfl
theorem get_bad2 {l:List Int} {A S:Nat} {G:Int × Int} {N:Int} (hG:G=outOf A (dec 5 0 0 1 (l.drop A))) (hS:szL 0 ((l.drop A).take 5)=S) (h0:S≠0) (hN:N=valL ((l.drop A).take S)) (hb:2147483647 < N):G=(0,-1):=by
 rw [hG,dec_two,hS,if_neg h0,if_pos (by rw [Nat.sub_zero,← hN];omega)];rfl
theorem get_good {l:List Int} {A S:Nat} {G:Int × Int} {N:Int} (hG:G=outOf A (dec 5 0 0 1 (l.drop A))) (hS:szL 0 ((l.drop A).take 5)=S) (h0:S≠0) (hN:N=valL ((l.drop A).take S)) (hb:¬ 2147483647 < N):G=(N,(A:Int)+S):=by
 rw [hG,dec_two,hS,if_neg h0,if_neg (by rw [Nat.sub_zero,← hN];omega),Nat.sub_zero,← hN]
 simp [outOf]
theorem take_two {cs r:List Int} {T S:Nat} (h:cs.take T=r.take 5) (hT:S≤T) (hS:S≤5):cs.take S=r.take S:=by
 have:=congrArg (List.take S) h
 rw [List.take_take,List.take_take,Nat.min_eq_left hT,Nat.min_eq_left hS] at this
 exact this
theorem valL_bd (l:List Int) (h:l.length≤5):0≤valL l∧valL l < 34359738368:=by
 match l,h with
 | [],_=>simp [valL]
 | [a],_=>simp [valL];omega
 | [a,b],_=>simp [valL];omega
 | [a,b,c],_=>simp [valL];omega
 | [a,b,c,d],_=>simp [valL];omega
 | [a,b,c,d,e],_=>simp [valL];omega
 | _ :: _ :: _ :: _ :: _ :: _ :: _,h=>simp at h
theorem cells_five {w:World} {g:Nat} {t:TypeId} {c0 c1 c2 c3 c4:Int} (h:w.heap[g]?=some (.cells (vals [c0,c1,c2,c3,c4]).toArray t (0,0))) :
  w.cell? ⟨g,0,none⟩=some (.int .u8 c0)∧w.cell? ⟨g,1,none⟩=some (.int .u8 c1)∧w.cell? ⟨g,2,none⟩=some (.int .u8 c2)∧w.cell? ⟨g,3,none⟩=some (.int .u8 c3)∧w.cell? ⟨g,4,none⟩=some (.int .u8 c4):=by
 refine ⟨?_,?_,?_,?_,?_⟩ <;> (rw [cell_of_row w g _ _ t (0,0) h];simp [vals])

set_option maxHeartbeats 1000000 in
theorem implGetNum_any (v:Value) (l:List Int) (at':Int) (w:World) (hv:Bs w v l) (hl:l.length≤2000000) (hn0 : -9223372036854775808≤at') (hn1:at'≤9223372036854775807) :
  Calls Tryd.prog 60 #[v,.int .i64 at'] w fun e w'=>e=.returned (.tuple #[.int .i64 (getL l at').1,.int .i64 (getL l at').2])∧Below w.heap.size w w':=by
 obtain ⟨ho,a,cap,rfl,hlc,hcm,hnil,hcells⟩:=hv
 unfold maxLen at hcm
 by_cases hneg:at' < 0
 ·have HG:Hid (getL l at'=(0,-1)):=by simp [Hid,getL,hneg]
  go_enter Tryd.func60,Tryd.ntmps60
  go_wp2
  go_ret2
  exact ⟨ret2 HG.out,Below.refl _ _⟩
 ·obtain ⟨A,rfl⟩:=Int.eq_ofNat_of_zero_le (show 0≤at' by omega)
  have hG:getL l (A:Int)=outOf A (dec 5 0 0 1 (l.drop A)):=by unfold getL;rw [if_neg hneg];simp
  obtain ⟨G,hGG⟩:∃ G,G=getL l (A:Int):=⟨_,rfl⟩
  rw [← hGG]
  have HG:Hid (G=outOf A (dec 5 0 0 1 (l.drop A))):=by rw [hGG];exact hG
  clear hG hGG
  by_cases hin:A < l.length
  ·obtain ⟨b,off,rfl,hlb,hc⟩:=hcells (by omega)
   have hA0:(0:Int)≤(A:Int):=by omega
   have hA1:(A:Int)≤(l.length:Int):=by omega
   have hA2:(A:Int)≤(cap:Int):=by omega
   have hA3:¬ cap=A:=by omega
   clear hcells hnil
   go_enter Tryd.func60,Tryd.ntmps60
   obtain ⟨c0,c1,c2,c3,c4,hsp,hoc,htk⟩:=five_of l A ho
   have HSP:Hid (splice (vals [0,0,0,0,0]) 0 (vals ((l.drop A).take 5))=vals [c0,c1,c2,c3,c4]):=hsp
   have HT:Hid ([c0,c1,c2,c3,c4].take (Nat.min (l.length - A) 5)=(l.drop A).take 5):=htk
   have HOC:Hid (Oct [c0,c1,c2,c3,c4]):=hoc
   have HN:Hid ((vals ((l.drop A).take 5)).length=Nat.min (l.length - A) 5):=by simp [Hid,length_vals,Nat.min_comm]
   have HC:Hid (∀ j u,(vals ((l.drop A).take 5))[j]?=some u→w.cell? ((⟨b,off+A,none⟩:Addr).add j)=some u):=by
    intro j u hj
    have hj':j < min 5 (l.length - A):=by have:=(List.getElem?_eq_some_iff.1 hj).1;simpa [length_vals] using this
    have hj1:j < 5:=by omega
    have hj2:A+j < l.length:=by omega
    rw [Addr.add_lit,Nat.add_assoc,hc (A+j) hj2,← hj,vals_get _ j (by simp;omega)]
    simp [hj1,hj2]
   have HH:Hid ((w.alloc (.cells #[.int .u8 0,.int .u8 0,.int .u8 0,.int .u8 0,.int .u8 0] 88)).drew.heap[w.heap.size]?=some (.cells (vals [0,0,0,0,0]).toArray 88 (0,0))):=heap_alloc_new w _
   have HB:Hid (Below w.heap.size w (w.alloc (.cells #[.int .u8 0,.int .u8 0,.int .u8 0,.int .u8 0,.int .u8 0] 88)).drew):=((Below.refl _ _).alloc (Nat.le_refl _) _).drew
   have HCC:Hid (∀ j u,(vals ((l.drop A).take 5))[j]?=some u→(w.alloc (.cells #[.int .u8 0,.int .u8 0,.int .u8 0,.int .u8 0,.int .u8 0] 88)).drew.cell? ((⟨b,off+A,none⟩:Addr).add j)=some u):=fun j u h=>cell_later HB.out (HC.out j u h)
   have HF:Hid (0+(vals ((l.drop A).take 5)).length≤(vals [0,0,0,0,0]).length):=by unfold Hid;rw [HN.out,Nat.zero_add];exact Nat.min_le_right ..
   clear hsp htk hoc hc
   go_wp2
   go_region_law ((refine step_copy_splice rfl (.tmp 18) (.tmp 21) 22 22 rfl 5 Tryd.underlying22 sz5 _ _ _ _ _ _ rfl rfl w.heap.size 0 (vals [0,0,0,0,0]) 88 HH.out (vals ((l.drop A).take 5)) HN.out (fun _=>⟨rfl,_,rfl,HCC.out⟩) HF.out (oneCell_vals _) w.heap.size w HB.out (Nat.le_refl _) ?_;intro w2 hg2 hb2))
   have hg3:=hg2.out
   rw [HSP.out] at hg3
   obtain ⟨f0,f1,f2,f3,f4⟩:=cells_five hg3
   clear hg2 hg3
   go_wp2_with fail
   refine (numSize_any c0 c1 c2 c3 c4 _ _ (by rw [HN.out];exact Nat.min_le_right ..) HOC.out).mono ?_
   rintro e w3 ⟨rfl,hB3⟩
   have hS1:=szL_gt 0 ([c0,c1,c2,c3,c4].take (vals ((l.drop A).take 5)).length)
   generalize hS:szL 0 ([c0,c1,c2,c3,c4].take (vals ((l.drop A).take 5)).length)=S at hS1
   rw [HN.out,HT.out] at hS
   rw [HN.out,HT.out] at hS1
   have HS:Hid (szL 0 ((l.drop A).take 5)=S):=hS
   have HSM:Hid (S≤Nat.min (l.length - A) 5):=by
    have:=HN.out;rw [length_vals] at this;unfold Hid;omega
   have hS5:S≤5:=Nat.le_trans HSM.out (Nat.min_le_right ..)
   have hSA:(S:Int)≤(l.length:Int) - (A:Int):=by have:=Nat.le_trans HSM.out (Nat.min_le_left ..);omega
   clear hS hS1
   have sz2:=hb2.size
   have hlt:w.heap.size < w2.heap.size:=World.block_lt_of_cell? w2 _ f0
   have f0':=cell_later hB3 f0
   have f1':=cell_later hB3 f1
   have f2':=cell_later hB3 f2
   have f3':=cell_later hB3 f3
   have f4':=cell_later hB3 f4
   clear f0 f1 f2 f3 f4
   have HB3:Hid (Below w.heap.size w w3):=hb2.trans (hB3.mono (by omega))
   clear hb2 hB3
   by_cases hS0:S=0
   ·have hS0':((S:Int) == 0)=true:=by simp [hS0]
    have HE:Hid (G=(0,-1)):=get_bad1 HG.out HS.out hS0
    clear hS0
    go_wp2
    go_ret2
    exact ⟨ret2 HE.out,HB3.out⟩
   ·have hS0':((S:Int) == 0)=false:=by simp [hS0]
    go_wp2_with fail
    refine (numOf_any c0 c1 c2 c3 c4 S _ (by omega) hS5 HOC.out).mono ?_
    rintro e w4 ⟨rfl,hB4⟩
    have hb:=valL_bd ([c0,c1,c2,c3,c4].take S) (by simp;omega)
    generalize hN:valL ([c0,c1,c2,c3,c4].take S)=N at hb
    rw [take_two HT.out HSM.out hS5] at hN
    have HNN:Hid (N=valL ((l.drop A).take S)):=hN.symm
    clear hN
    obtain ⟨hb0,hb1⟩:=hb
    have HB4:Hid (Below w.heap.size w w4):=HB3.out.trans (hB4.mono HB3.out.size)
    clear hB4 f0' f1' f2' f3' f4'
    by_cases hbig:2147483647 < N
    ·have HE:Hid (G=(0,-1)):=get_bad2 HG.out HS.out hS0 HNN.out hbig
     clear hS0
     go_wp2
     go_ret2
     exact ⟨ret2 HE.out,HB4.out⟩
    ·have HE:Hid (G=(N,(A:Int)+S)):=get_good HG.out HS.out hS0 HNN.out hbig
     clear hS0
     go_wp2
     go_ret2
     exact ⟨ret2' HE.out (by omega) (by omega),HB4.out⟩
  ·have HE:Hid (G=(0,-1)):=by rw [HG.out,dec_end _ _ _ _ _ _ (by omega)];rfl
   go_enter Tryd.func60,Tryd.ntmps60
   go_wp2
   go_ret2
   exact ⟨ret2 HE.out,Below.refl _ _⟩

end Go.Proofs.YtnlhkgoppjejeaaDoor

/- What joined of package impl does. -/
namespace Go.Proofs.YtnlhkgoppjejeaaDoor
open Go.RowKit
set_option maxRecDepth 100000

set_option maxHeartbeats 400000 in
theorem joined_any (v u:Value) (l m:List Int) (w:World) (hv:Bs w v l) (hu:Bs w u m) (hl:l.length≤4000000) (hm:m.length≤4000000) :
  Calls Tryd.prog 52 #[v,u] w fun e w'=>∃ r,e=.returned r∧OwnB w' w.heap.size r (l ++ m)∧Below w.heap.size w w':=by
 have HV:Hid (Bs w v l):=hv
 have HU:Hid (Bs w u m):=hu
 obtain ⟨ho,a,cap,rfl,-⟩:=hv
 obtain ⟨ho',a',cap',rfl,-⟩:=hu
 obtain ⟨i0,hi,hz0,hz1,hz2⟩:=info_parts info5
 go_enter Tryd.func52,Tryd.ntmps52
 go_wp2_with (at_make;refine wpList_make_full _ rfl _ _ 22 rfl w.heap.size 5 i0 (.int .u8 0) 1 Tryd.underlying22 hi hz0 hz1 _ _ _ _ (l.length+m.length) rfl rfl (by omega) (by omega) (by rw [hz2];omega) (by unfold maxLen;omega) (Nat.le_refl _) ?_)
 intro w1 hown hgrow
 have hB1:=(Below.refl w.heap.size w).grown hgrow (Nat.le_refl _) (by simp)
 have HR1:Hid (w1.heap[w.heap.size]?=some (.cells (vals (List.replicate (l.length+m.length) 0)).toArray 5 (0,0))):=by
  have:=made_heap hown
  simpa [Hid,vals] using this
 clear hown hgrow
 go_wp2_with (refine wpList_copy_bytes rfl (.tmp 12) (.tmp 13) 22 22 rfl Tryd.underlying22 sz5 _ _ _ rfl _ l rfl (HV.out.below hB1) l.length (Nat.min_eq_left (Nat.le_add_right _ _)).symm w.heap.size 0 _ HR1.out (fun _=>rfl) (by simp) w.heap.size w hB1 (Nat.le_refl _) ?_)
 intro w2 HR2 hB2
 have hlen:(splice (List.replicate (l.length+m.length) (0:Int)) 0 l).length=l.length+m.length:=by rw [length_splice _ _ _ (by simp)];simp
 have HL:Hid ((splice (List.replicate (l.length+m.length) (0:Int)) 0 l).length=l.length+m.length):=hlen
 clear hlen
 have HE:Hid (splice (splice (List.replicate (l.length+m.length) (0:Int)) 0 l) l.length m=l ++ m):=splice_two _ _ _ (by simp)
 by_cases hm0:m=[]
 ·subst hm0
  go_wp2_with (refine wpList_copy_bytes rfl (.tmp 18) (.tmp 19) 22 22 rfl Tryd.underlying22 sz5 _ _ _ rfl _ [] rfl (HU.out.below hB2) 0 (Nat.min_eq_left (Nat.zero_le _)).symm w.heap.size l.length _ HR2.out (fun h=>absurd h (by omega)) (by rw [HL.out];omega) w.heap.size w hB2 (Nat.le_refl _) ?_)
  intro w3 HR3 hB3
  have HR4:Hid (w3.heap[w.heap.size]?=some (.cells (vals (l ++ [])).toArray 5 (0,0))):=by
   rw [← HE.out];simpa using HR3
  clear HR3
  go_wp2
  go_ret
  have:=own_made (oct_append ho ho') (by simp [maxLen];omega) HR4.out
  exact ⟨_,rfl,⟨_,Nat.le_refl _,by simpa using this⟩,hB3⟩
 ·have hm1:0 < m.length:=List.length_pos_iff.2 hm0
  go_wp2_with (refine wpList_copy_bytes rfl (.tmp 18) (.tmp 19) 22 22 rfl Tryd.underlying22 sz5 _ _ _ rfl _ m rfl (HU.out.below hB2) m.length (Nat.min_eq_left (by omega)).symm w.heap.size l.length _ HR2.out (fun _=>rfl) (by rw [HL.out];omega) w.heap.size w hB2 (Nat.le_refl _) ?_)
  intro w3 HR3 hB3
  have HR4:Hid (w3.heap[w.heap.size]?=some (.cells (vals (l ++ m)).toArray 5 (0,0))):=by
   rw [← HE.out];exact HR3
  clear HR3
  go_wp2
  go_ret
  have:=own_made (oct_append ho ho') (by simp [maxLen];omega) HR4.out
  exact ⟨_,rfl,⟨_,Nat.le_refl _,by simpa using this⟩,hB3⟩

theorem joined_r (v u:Value) (l m:List Int) (w:World) (hv:Bs w v l) (hu:Bs w u m) (hl:l.length≤4000000) (hm:m.length≤4000000) :
  Calls Tryd.prog 52 #[v,u] w fun e w'=>∃ r,e=.returned r∧Row w' w.heap.size w'.heap.size r (l ++ m)∧Below w.heap.size w w' :=
 (joined_any v u l m w hv hu hl hm).mono fun _ _ ⟨u,h1,h2,h3⟩=>⟨u,h1,h2.toRow,h3⟩

end Go.Proofs.YtnlhkgoppjejeaaDoor

/- What PutText and GetText answer, on lists. -/
namespace Go.Proofs.YtnlhkgoppjejeaaDoor
open Go.RowKit

/-- What PutText answers. -/
def putTL (b t:List Int):List Int:=if 30 < t.length then b else putL b t.length ++ t
theorem putTL_length (b t:List Int):(putTL b t).length≤b.length+35:=by
 unfold putTL
 have:=putL_length b t.length
 split
 ·omega
 ·simp;omega

/-- What GetText answers. -/
def getTL (l:List Int) (at':Int):List Int × Int :=
 if (getL l at').2 < 0∨30 < (getL l at').1∨(l.length:Int) - (getL l at').2 < (getL l at').1 then ([],-1)
 else ((l.drop (getL l at').2.toNat).take (getL l at').1.toNat,(getL l at').2+(getL l at').1)

theorem dec_bd (f i:Nat) (n sc:Int) (l:List Int) (hn:0≤n) (hs:0≤sc):dec f i n sc l=none∨∃ m k,dec f i n sc l=some (m,k)∧0≤m∧m≤2147483647∧i < k∧k≤i+l.length:=by
 induction f generalizing i n sc l with
 | zero=>left;rfl
 | succ f ih =>
  cases l with
  | nil=>left;rfl
  | cons x r =>
   simp only [dec]
   have hx:0≤x % 128 * sc:=Int.mul_nonneg (by omega) hs
   split
   ·split
    ·left;rfl
    ·right;refine ⟨_,_,rfl,by omega,by omega,by omega,by simp⟩
   ·rcases ih (i+1) (n+x % 128 * sc) (sc * 128) r (by omega) (by omega) with h | ⟨m,k,h1,h2,h3,h4,h5⟩
    ·left;exact h
    ·right;exact ⟨m,k,h1,h2,h3,by omega,by simp;omega⟩
theorem getL_bd (l:List Int) (at':Int):getL l at'=(0,-1)∨(0≤(getL l at').1∧(getL l at').1≤2147483647∧1≤(getL l at').2∧(getL l at').2≤l.length):=by
 unfold getL
 split
 ·left;rfl
 ·rcases dec_bd 5 0 0 1 (l.drop at'.toNat) (by omega) (by omega) with h | ⟨m,k,h1,h2,h3,h4,h5⟩
  ·rw [h];left;rfl
  ·right
   rw [h1]
   simp at h5
   simp only [outOf]
   omega
theorem getTL_length (l:List Int) (at':Int):(getTL l at').1.length≤30:=by
 unfold getTL
 split
 ·simp
 ·simp;omega

/-- A cut of a slice of bytes, not at its very end. -/
theorem bs_cut {w:World} {b off cap:Nat} {l:List Int} (hv:Bs w (.slice (some ⟨b,off,none⟩) l.length cap) l) (lo n:Nat) (h:lo+n≤l.length) :
  Bs w (.slice (some ⟨b,off+lo,none⟩) n (cap - lo)) ((l.drop lo).take n):=by
 obtain ⟨ho,a,cap',hv,h1,h2,h3,h4⟩:=hv
 simp only [Value.slice.injEq] at hv
 obtain ⟨rfl,-,rfl⟩:=hv
 have hl:((l.drop lo).take n).length=n:=by simp;omega
 refine ⟨oct_take (oct_drop ho _) _,_,cap - lo,by rw [hl],by rw [hl];omega,by omega,(fun h=>by cases h),fun hp=>?_⟩
 rw [hl] at hp
 obtain ⟨b',off',e,hlt,hc⟩:=h4 (by omega)
 simp only [Option.some.injEq,Addr.mk.injEq,and_true] at e
 obtain ⟨rfl,rfl⟩:=e
 refine ⟨b,off+lo,rfl,hlt,fun i hi=>?_⟩
 rw [hl] at hi
 rw [Nat.add_assoc,hc (lo+i) (by omega)]
 simp [hi]
theorem bs_empty (w:World) (x:Addr) (c:Nat) (hc:c≤maxLen):Bs w (.slice (some x) 0 c) [] :=
 ⟨oct_nil,some x,c,rfl,by simp,hc,(fun h=>by cases h),fun h=>absurd h (by simp)⟩

end Go.Proofs.YtnlhkgoppjejeaaDoor

/- What GetText of package impl does. -/
namespace Go.Proofs.YtnlhkgoppjejeaaDoor
open Go.RowKit
set_option maxRecDepth 100000

set_option maxHeartbeats 400000 in
theorem implGetText_r (v:Value) (l:List Int) (at':Int) (w:World) (hv:Bs w v l) (hl:l.length≤2000000) (hn0 : -9223372036854775808≤at') (hn1:at'≤9223372036854775807) :
  Calls Tryd.prog 82 #[v,.int .i64 at'] w fun e w'=>∃ r,e=.returned (.tuple #[r,.int .i64 (getTL l at').2])∧Row w' w.heap.size w'.heap.size r (getTL l at').1∧Below w.heap.size w w':=by
 have HV:Hid (Bs w v l):=hv
 obtain ⟨a,cap,rfl⟩:∃ a cap,v=.slice a l.length cap:=by obtain ⟨_,a,cap,h,_⟩:=hv;exact ⟨a,cap,h⟩
 have hbd:=getL_bd l at'
 have HT:Hid (getTL l at'=if (getL l at').2 < 0∨30 < (getL l at').1∨(l.length:Int) - (getL l at').2 < (getL l at').1 then ([],-1) else ((l.drop (getL l at').2.toNat).take (getL l at').1.toNat,(getL l at').2+(getL l at').1)):=rfl
 generalize hG:getL l at'=G at hbd HT
 generalize getTL l at'=R at HT
 have HG:Hid (getL l at'=G):=hG
 clear hG
 obtain ⟨n,next⟩:=G
 simp only at hbd HT
 by_cases hx:next < 0
 ·have HR:Hid (R=([],-1)):=by rw [HT.out,if_pos (.inl hx)];rfl
  clear hbd hv
  go_enter Tryd.func82,Tryd.ntmps82
  go_wp2_with fail
  refine (implGetNum_any _ l at' _ HV.out hl hn0 hn1).mono ?_
  rintro e w1 ⟨rfl,B⟩
  rw [HG.out]
  go_wp2
  go_ret2
  rw [HR.out]
  exact ⟨_,rfl,Row.nil _ _ _,B⟩
 ·obtain ⟨hb0,hb1,hb2,hb3⟩:0≤n∧n≤2147483647∧1≤next∧next≤l.length:=by
   rcases hbd with h | h
   ·simp only [Prod.mk.injEq] at h;omega
   ·exact h
  clear hbd
  by_cases hy:30 < n
  ·have HR:Hid (R=([],-1)):=by rw [HT.out,if_pos (.inr (.inl hy))];rfl
   clear hv
   go_enter Tryd.func82,Tryd.ntmps82
   go_wp2_with fail
   refine (implGetNum_any _ l at' _ HV.out hl hn0 hn1).mono ?_
   rintro e w1 ⟨rfl,B⟩
   rw [HG.out]
   go_wp2
   go_ret2
   rw [HR.out]
   exact ⟨_,rfl,Row.nil _ _ _,B⟩
  ·by_cases hz:(l.length:Int) - next < n
   ·have HR:Hid (R=([],-1)):=by rw [HT.out,if_pos (.inr (.inr hz))];rfl
    clear hv
    go_enter Tryd.func82,Tryd.ntmps82
    go_wp2_with fail
    refine (implGetNum_any _ l at' _ HV.out hl hn0 hn1).mono ?_
    rintro e w1 ⟨rfl,B⟩
    rw [HG.out]
    go_wp2
    go_ret2
    rw [HR.out]
    exact ⟨_,rfl,Row.nil _ _ _,B⟩
   ·have HR:Hid (R=((l.drop next.toNat).take n.toNat,next+n)):=by rw [HT.out,if_neg (by omega)];rfl
    obtain ⟨N,rfl⟩:=Int.eq_ofNat_of_zero_le hb0
    obtain ⟨X,rfl⟩:=Int.eq_ofNat_of_zero_le (show 0≤next by omega)
    obtain ⟨b,off,rfl⟩:∃ b off,a=some ⟨b,off,none⟩:=by
     obtain ⟨_,a',cap',h1,_,_,_,h4⟩:=hv
     simp only [Value.slice.injEq] at h1
     obtain ⟨rfl,-,-⟩:=h1
     obtain ⟨b,off,h,_⟩:=h4 (by omega)
     exact ⟨b,off,h⟩
    have hcap:l.length≤cap∧cap≤9223372036854775807:=by
     obtain ⟨_,a',cap',h1,h2,h3,_⟩:=hv
     simp only [Value.slice.injEq] at h1
     obtain ⟨-,-,rfl⟩:=h1
     exact ⟨h2,h3⟩
    obtain ⟨hc0,hc1⟩:=hcap
    clear hv
    go_enter Tryd.func82,Tryd.ntmps82
    go_wp2_with fail
    refine (implGetNum_any _ l at' _ HV.out hl hn0 hn1).mono ?_
    rintro e w1 ⟨rfl,B⟩
    rw [HG.out]
    by_cases hcX:cap=X
    ·subst hcX
     obtain rfl:N=0:=by omega
     have HRR:Hid (R=([],(cap:Int))):=by rw [HR.out];simp [Hid]
     go_wp2_with fail
     refine (joined_r _ _ [] [] _ (bs_nil _) (bs_empty _ _ _ (by simp)) (by simp) (by simp)).mono ?_
     rintro e w2 ⟨r,rfl,R2,B2⟩
     have H2:Hid (Row w2 w.heap.size w2.heap.size r []):=R2.wide B.size (Nat.le_refl _)
     have HB:Hid (Below w.heap.size w w2):=Below.step B B2
     clear R2 B B2
     go_wp2
     go_ret2
     rw [HRR.out]
     exact ⟨_,rfl,H2.out,HB.out⟩
    ·have HC:Hid (Bs w1 (.slice (some ⟨b,off+X,none⟩) N (cap - X)) ((l.drop X).take N)):=bs_cut (HV.out.below B) X N (by omega)
     have HRR:Hid (R=((l.drop X).take N,(X:Int)+N)):=HR.out
     go_wp2_with fail
     refine (joined_r _ _ [] _ _ (bs_nil _) HC.out (by simp) (by simp;omega)).mono ?_
     rintro e w2 ⟨r,rfl,R2,B2⟩
     have H2:Hid (Row w2 w.heap.size w2.heap.size r ((l.drop X).take N)):=R2.wide B.size (Nat.le_refl _)
     have HB:Hid (Below w.heap.size w w2):=Below.step B B2
     clear R2 B B2
     go_wp2
     go_ret2
     rw [HRR.out]
     exact ⟨_,rfl,H2.out,HB.out⟩

end Go.Proofs.YtnlhkgoppjejeaaDoor
