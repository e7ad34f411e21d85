/- The proof's texts, part 5. -/
import Derived.Test.YtlneebmlhblleaaGreatT4
import Derived.Laws.BytesArg
import Derived.Lib.Bytealg
namespace Go.Proofs.YtlneebmlhblleaaGreat
open Go.RowKit
set_option linter.unusedVariables false
set_option linter.unusedSimpArgs false
set_option maxHeartbeats 2000000
set_option maxRecDepth 100000
/- What ahq, ahr, XI, ahs of package laws do. -/
/-- the first k bytes of l laid over noughts -/
def laid (l:List Int) (k:Nat):List Int:=l.take k ++ List.replicate (l.length - k) 0
theorem XJ (l:List Int) (k:Nat) (h:k≤l.length):(laid l k).length=l.length:=by simp [laid];omega
theorem XK (l:List Int):vals (laid l 0)=List.replicate l.length (.int .u8 0):=by simp [laid,vals]
theorem XL (l:List Int):laid l l.length=l:=by simp [laid]
theorem XM (l:List Int) (k:Nat) (h:k < l.length):(vals (laid l k)).set k (.int .u8 (l.getD k 0))=vals (laid l (k+1)):=by
 have e:(laid l k).set k (l.getD k 0)=laid l (k+1):=by
  have ht:(l.take k).length=k:=by simp;omega
  have hr:List.replicate (l.length - k) (0:Int)=0 :: List.replicate (l.length - (k+1)) 0:=by
   rw [show l.length - k=(l.length - (k+1))+1 by omega,List.replicate_succ]
  unfold laid
  have hg:l.getD k 0=l[k]:=by simp [h]
  rw [hr,List.set_append_right k (l.getD k 0) (by omega),ht,Nat.sub_self,List.set_cons_zero,List.take_succ_eq_append_getElem h,List.append_assoc,List.singleton_append,hg]
 rw [← e]
 simp [vals,List.map_set]
theorem XO (v:Value) (l:List Int) (w:World) (hv:Bs w v l) (hl:l.length≤2000000) :
  Calls Tryz.prog 27 #[v] w fun e w'=>∃ u,e=.returned u∧Own w' w.heap.size u l∧Below w.heap.size w w':=by
 obtain ⟨ho,a,cap,rfl,hlc,hcm,hnil,hcells⟩:=hv
 obtain ⟨i0,hi,hz0,hz1,hz2⟩:=info_parts info5
 unfold maxLen at hcm
 go_enter Tryz.func27,Tryz.ntmps27
 go_wp2_with (at_make;refine wpList_make_full _ rfl _ _ 26 rfl w.heap.size 5 i0 (.int .u8 0) 1 Tryz.underlying26 hi hz0 hz1 _ _ _ _ l.length rfl rfl rfl rfl ?b1 ?b2 ?b3 ?_)
 case b1=>rw [hz2];omega
 case b2=>unfold maxLen;omega
 case b3=>exact Nat.le_refl _
 intro w1 hown hgrow
 have hB:=(Below.refl w.heap.size w).grown hgrow (Nat.le_refl _) (by simp)
 have HR:Hid (w1.heap[w.heap.size]?=some (.cells (vals (laid l 0)).toArray 5 (0,0))):=by
  rw [XK]
  exact Oy hown
 clear hown hgrow
 go_wp2
 go_loopw [4] (fun i wr=>∃ k:Nat,k≤l.length∧i=.int .i64 k∧Hid (wr.heap[w.heap.size]?=some (.cells (vals (laid l k)).toArray 5 (0,0)))∧Below w.heap.size w wr) (fun i _=>l.length - (intOf i).toNat)
 case atStart=>exact ⟨0,Nat.zero_le _,rfl,HR,hB⟩
 case round =>
  obtain ⟨k,hk,rfl,hR,hB'⟩:=hrel
  by_cases hlt:k < l.length
  ·obtain ⟨b,off,rfl,hlb,hc⟩:=hcells (by omega)
   have hcx:wr.cell? ⟨b,off+k,none⟩=some (.int .u8 (l.getD k 0)):=(hB'.cell (by exact hlb)).trans (hc k hlt)
   have hd:=cell_of_row wr w.heap.size k _ 5 (0,0) hR.out
   have hd':∃ x,wr.cell? ⟨w.heap.size,k,none⟩=some x:=⟨_,hd.trans (by simp [IK _ _ (show k < (laid l k).length by rw [XJ l k hk];exact hlt)];rfl)⟩
   have hf:=frozen_of_row wr w.heap.size k _ 5 hR.out
   have hR':=heap_setCell_same wr w.heap.size k _ 5 (.int .u8 (l.getD k 0)) hR.out
   have HR':Hid ((wr.setCell ⟨w.heap.size,k,none⟩ (.int .u8 (l.getD k 0))).heap[w.heap.size]?=some (.cells (vals (laid l (k+1))).toArray 5 (0,0))):=by
    rw [← XM l k hlt];simpa [Hid] using hR'
   obtain ⟨x,hx⟩:=hd'
   clear hd hR' hR
   go_wp2
   go_roundw
   case rel=>exact ⟨k+1,by omega,by go_num,by rw [← show l.getD k 0=l[k] by simp [hlt]];exact HR',hB'.setCell (Nat.le_refl _) _⟩
   case measure=>simp [intOf];omega
  ·go_wp2
   go_ret
   obtain rfl:k=l.length:=by omega
   rw [XL] at hR
   exact ⟨_,rfl,IQ ho (by unfold maxLen;omega) hR.out,hB'⟩
theorem XP (l m:List Int) (k:Nat) (hl:l.length=m.length) (h:l.take k=m.take k) (hk:l.length≤k):l=m:=by
 rw [List.take_of_length_le hk,List.take_of_length_le (by omega)] at h;exact h
theorem XQ {l m:List Int} {k:Nat} (hl:k < l.length) (hm:k < m.length) (h:l.take k=m.take k) (e:l[k]=m[k]):l.take (k+1)=m.take (k+1):=by
 rw [List.take_succ_eq_append_getElem hl,List.take_succ_eq_append_getElem hm,h,e]
theorem XR (v u:Value) (l m:List Int) (w:World) (hv:Bs w v l) (hu:Bs w u m) :
  Calls Tryz.prog 37 #[v,u] w fun e w'=>e=.returned (.bool (decide (l=m)))∧∃ n,w'=w.drewN n:=by
 obtain ⟨ho,a,cap,rfl,hlc,hcm,hnil,hcells⟩:=hv
 obtain ⟨ho',a',cap',rfl,aht,hcm',hnil',hcells'⟩:=hu
 unfold maxLen at hcm hcm'
 by_cases hlen:l.length=m.length
 ·have hq:((l.length:Int) == (m.length:Int))=true:=by simp;omega
  have HL:Hid (l.length=m.length):=hlen
  clear hlen
  go_enter Tryz.func37,Tryz.ntmps37
  go_wp2
  go_loopw [5] (fun i wr=>∃ k:Nat,k≤l.length∧i=.int .i64 k∧Hid (l.take k=m.take k)∧Hid (∃ n,wr=w.drewN n)) (fun i _=>l.length - (intOf i).toNat)
  case atStart=>exact ⟨0,Nat.zero_le _,rfl,by simp [Hid],⟨0,rfl⟩⟩
  case round =>
   obtain ⟨k,hk,rfl,hR,hW⟩:=hrel
   by_cases hlt:k < l.length
   ·have hlt':k < m.length:=by rw [← HL.out];exact hlt
    obtain ⟨b,off,rfl,hlb,hc⟩:=hcells (by omega)
    obtain ⟨b',off',rfl,ahu,hc'⟩:=hcells' (by omega)
    obtain ⟨n,rfl⟩:=hW.out
    have hx:=hc k hlt
    have hx':=hc' k hlt'
    clear hc hc' hcells hcells' hW
    by_cases he:(l[k] == m[k])=true
    ·go_wp2
     go_quiet (fail)
     go_wp2
     go_roundw
     case rel=>exact ⟨k+1,by omega,by go_num,XQ hlt hlt' hR.out (by simpa using he),⟨_,rfl⟩⟩
     case measure=>simp [intOf];omega
    ·have he':(l[k] == m[k])=false:=by simpa using he
     have hd:l≠m:=fun h=>he (by subst h;simp)
     clear he
     go_wp2
     go_quiet (fail)
     go_wp2
     go_ret
     exact ⟨by simp [hd],_,World.drewN_drewN _ _ _⟩
   ·go_wp2
    go_ret
    exact ⟨by simp [XP l m k HL.out hR.out (by omega)],hW.out⟩
 ·have hne:((l.length:Int) == (m.length:Int))=false:=by simp;omega
  have hd:l≠m:=fun h=>hlen (by rw [h])
  go_enter Tryz.func37,Tryz.ntmps37
  go_wp2
  go_ret
  exact ⟨by simp [hd],0,rfl⟩
/-- n marks from k on: what XI writes. -/
def marks (k:Int) (n:Nat):List Int:=(List.range n).map fun (i:Nat)=>(k+(i:Int)) % 256
theorem FJ (k:Int) (n:Nat):(marks k n).length=n:=by simp [marks]
theorem XU (k:Int) (n:Nat):marks k (n+1)=marks k n ++ [(k+(n:Int)) % 256]:=by simp [marks,List.range_succ]
theorem XV (k:Int) (n i:Nat) (h:i < n):(marks k n).getD i 0=(k+(i:Int)) % 256:=by simp [marks,h]
theorem XW (k:Int) (cr:Array Value) (j:Nat) (hj:j < cr.size) (h:cr.toList.take j=vals (marks k j)) :
  (cr.setIfInBounds j (.int .u8 ((k+(j:Int)) % 256))).toList.take (j+1)=vals (marks k (j+1)):=by
 rw [Array.toList_setIfInBounds,List.take_succ_eq_append_getElem (by simpa using hj),List.take_set_of_le (Nat.le_refl _),h,XU,WX]
 simp [vals]
theorem O9 (k:Int) (n:Nat):Oct (marks k n):=by
 intro x hx
 obtain ⟨i,_,rfl⟩:=List.mem_map.1 hx
 omega
theorem XY (g:Nat) (v:Value) (l:List Int) (k:Int) (w:World) (hv:Own w g v l) (hl:l.length≤2000000) (hk0:0≤k) (hk1:k≤1000000000000) :
  Calls Tryz.prog 40 #[v,.int .i64 k] w fun e w'=>e=.returned (.int .i64 (k+l.length))∧Own w' g v (marks k l.length)∧w.grownBy w' (some g):=by
 obtain ⟨ho,⟨rfl,rfl⟩ | ⟨cap,cur,rfl,hh,hlc,hcm,hcs,htk⟩⟩:=hv
 ·go_enter Tryz.func40,Tryz.ntmps40
  go_wp2
  refine wp_loop_rounds 1 ?_
  rw [rounds_succ]
  go_wp2
  go_ret
  exact ⟨by simp,⟨O9 _ _,.inl ⟨rfl,rfl⟩⟩,World.grownBy.refl _ _⟩
 ·unfold maxLen at hcm
  go_enter Tryz.func40,Tryz.ntmps40
  go_wp2
  go_loopw [1,5] (fun q i wr=>∃ j:Nat,j≤l.length∧i=.int .i64 j∧q=.int .i64 (k+j)∧Hid (∃ cr,wr.heap[g]?=some (.cells cr 5 (0,0))∧cr.size=cap∧cr.toList.take j=vals (marks k j))∧w.grownBy wr (some g)) (fun _ i _=>l.length - (intOf i).toNat)
  case atStart=>exact ⟨0,Nat.zero_le _,rfl,by simp,⟨cur,hh,hcs,by simp [marks,vals]⟩,World.grownBy.refl _ _⟩
  case round =>
   obtain ⟨j,hj,rfl,rfl,hR,hG⟩:=hrel
   obtain ⟨cr,FK,hR2,Pb⟩:=hR.out
   by_cases hlt:j < l.length
   ·have hd:=cell_of_row wr g j _ 5 (0,0) FK
    have hd':∃ x,wr.cell? ⟨g,j,none⟩=some x:=⟨_,hd.trans (by simp [show j < cr.size by omega];rfl)⟩
    have hf:=frozen_of_row wr g j _ 5 FK
    obtain ⟨x,hx⟩:=hd'
    clear hd
    go_wp2
    go_roundw
    case rel=>exact ⟨j+1,by omega,by go_num,by go_num,⟨_,heap_setCell_same wr g j _ 5 _ FK,by simpa using hR2,XW k cr j (by omega) Pb⟩,grownBy_setCell hG⟩
    case measure=>simp [intOf];omega
   ·go_wp2
    go_ret
    obtain rfl:j=l.length:=by omega
    exact ⟨rfl,⟨O9 _ _,.inr ⟨cap,cr,by rw [FJ],FK,by rw [FJ];exact hlc,by unfold maxLen;omega,hR2,by rw [FJ];exact Pb⟩⟩,hG⟩
theorem XZ (v:Value) (n:Nat) (k:Int) (w:World) (hv:Bs w v (marks k n)) (hl:n≤2000000) (hk0:0≤k) (hk1:k≤1000000000000) :
  Calls Tryz.prog 91 #[v,.int .i64 k] w fun e w'=>e=.returned (.int .i64 (k+n))∧∃ d,w'=w.drewN d:=by
 obtain ⟨ho,a,cap,rfl,hlc,hcm,hnil,hcells⟩:=hv
 rw [FJ] at hlc hcells ⊢
 unfold maxLen at hcm
 go_enter Tryz.func91,Tryz.ntmps91
 go_wp2
 go_loopw [1,5] (fun q i wr=>∃ j:Nat,j≤n∧i=.int .i64 j∧q=.int .i64 (k+j)∧Hid (∃ d,wr=w.drewN d)) (fun _ i _=>n - (intOf i).toNat)
 case atStart=>exact ⟨0,Nat.zero_le _,rfl,by simp,⟨0,rfl⟩⟩
 case round =>
  obtain ⟨j,hj,rfl,rfl,hW⟩:=hrel
  by_cases hlt:j < n
  ·obtain ⟨b,off,rfl,hlb,hc⟩:=hcells (by omega)
   obtain ⟨d,rfl⟩:=hW.out
   have hx:=hc j hlt
   rw [XV k n j hlt] at hx
   clear hc hcells hW
   go_wp2
   go_roundw
   case rel=>exact ⟨j+1,by omega,by go_num,by go_num,⟨d,rfl⟩⟩
   case measure=>simp [intOf];omega
  ·go_wp2
   go_ret
   obtain rfl:j=n:=by omega
   exact ⟨rfl,hW.out⟩
theorem Bj (v:Value) (l:List Int) (w:World) (hv:Bs w v l) (hl:l.length≤2000000) :
  Calls Tryz.prog 27 #[v] w fun e w'=>∃ u,e=.returned u∧Row w' w.heap.size w'.heap.size u l∧Below w.heap.size w w' :=
 (XO v l w hv hl).mono fun _ _ ⟨u,h1,h2,h3⟩=>⟨u,h1,kH.IU ⟨_,Nat.le_refl _,h2⟩,h3⟩
theorem zN (v u:Value) (l:List Int) (w:World) (hv:Bs w v l) (hu:Bs w u l) :
  Calls Tryz.prog 37 #[v,u] w fun e w'=>e=.returned (.bool true)∧Below w.heap.size w w' :=
 (XR v u l l w hv hu).mono fun _ _ ⟨h,hd⟩=>⟨by simpa using h,OB hd⟩
theorem FL (v:Value) (n:Nat) (k:Int) (w:World) (hv:Bs w v (marks k n)) (hl:n≤2000000) (hk0:0≤k) (hk1:k≤1000000000000) :
  Calls Tryz.prog 91 #[v,.int .i64 k] w fun e w'=>e=.returned (.int .i64 (k+n))∧Below w.heap.size w w' :=
 (XZ v n k w hv hl hk0 hk1).mono fun _ _ ⟨h,hd⟩=>⟨h,OB hd⟩
theorem FM (B T:Nat) (v:Value) (l:List Int) (k:Int) (w:World) (hv:Row w B T v l) (hl:l.length≤2000000) (hk0:0≤k) (hk1:k≤1000000000000) :
  Calls Tryz.prog 40 #[v,.int .i64 k] w fun e w'=>e=.returned (.int .i64 (k+l.length))∧Row w' B T v (marks k l.length)∧w.grownBy w' v.ownBlock:=by
 obtain ⟨g,hB,ho⟩:=hv.own
 rcases ho.2 with ⟨rfl,rfl⟩ | ⟨cap,cur,rfl,_⟩
 ·go_enter Tryz.func40,Tryz.ntmps40
  go_wp2
  refine wp_loop_rounds 1 ?_
  rw [rounds_succ]
  go_wp2
  go_ret
  exact ⟨by simp,Row.nil _ _ _,World.grownBy.refl _ _⟩
 ·refine (XY g _ l k w ho hl hk0 hk1).mono fun e w' ⟨h1,h2,h3⟩=>⟨h1,⟨h2.1,kH.row ⟨g,hB,h2⟩,hv.2.2⟩,h3⟩
/- What ahv, ahw of package laws do. -/
theorem X9 (v:Value) (x:aF) (w:World) (hv:gK w v x) (h0:x.text.length≤2000000) :
  Calls Tryz.prog 127 #[v] w fun e w'=>∃ u,e=.returned u∧(∃ a n c,u=.agg #[.int .i64 x.uid,.int .i64 x.flags,.int .i64 x.seq,.slice a n c]∧je w' [.int .i64 x.uid,.int .i64 x.flags,.int .i64 x.seq,.slice a n c] x (In w.heap.size w'.heap.size))∧Below w.heap.size w w':=by
 obtain ⟨u,rfl,g0,i0,i1,i2⟩:=hv
 obtain ⟨uid,flags,seq,text⟩:=x
 simp only at g0 i0 i1 i2 h0
 have H0:Hid (∀ wi,Below w.heap.size w wi→Bs wi u text):=fun wi h=>g0.below h
 obtain ⟨a0,n0,c0,rfl⟩:=g0.aG
 have HI:Hid (aB uid∧aB flags∧aB seq):=⟨i0,i1,i2⟩
 clear g0 i0 i1 i2
 simp only
 go_enter Tryz.func127,Tryz.ntmps127
 go_wp2_with fail
 refine (Bj _ text _ (H0.out _ (uw w _ _ _)) h0).mono ?_
 rintro e w1 ⟨u0,rfl,R0,B⟩
 obtain ⟨x0,m0,y0,rfl⟩:=R0.bs.aG
 have b3:=Fe w (.cells #[.int .i64 uid,.int .i64 flags,.int .i64 seq,.slice a0 n0 c0] 155) (.cells #[.int .i64 0,.int .i64 0,.int .i64 0,.slice none 0 0] 124) (.cells #[.int .i64 uid,.int .i64 flags,.int .i64 seq,.slice none 0 0] 124)
 have kA:=ay B b3.1
 have kR:=ay B b3.2.1
 have kO:=ay B b3.2.2
 have s1:w.heap.size+3≤w1.heap.size:=by have:=B.size;simp at this;omega
 have X:=Below.step (uw w _ _ _) B
 replace R0:=R0.wide (B':=w.heap.size+3) (T':=w1.heap.size) (by simp) (Nat.le_refl _)
 clear b3 B
 obtain ⟨-,-,-,-⟩:=gF kA
 obtain ⟨oz,ol⟩:=bR kO
 obtain ⟨o0,o1,o2,o3⟩:=gF kO
 obtain ⟨rz,rl⟩:=bR kR
 obtain ⟨r0,r1,r2,r3⟩:=gF kR
 go_wp2
 refine bodyPost_ret (v:=.agg #[.int .i64 uid,.int .i64 flags,.int .i64 seq,.slice x0 m0 y0]) (by simp [results,Tryz.results127,go_sem,r0,r1,r2,r3]) rfl ⟨_,rfl,?_,?_⟩
 ·simp only [aZ]
  exact ⟨_,_,_,rfl,_,rfl,Row.ro (Row.wide ((((((R0.set (g:=w.heap.size+1+1) (i:=3) (x:=.slice x0 m0 y0) (.inl (by omega))).set (g:=w.heap.size+1) (i:=0) (x:=.int .i64 uid) (.inl (by omega))).set (g:=w.heap.size+1) (i:=1) (x:=.int .i64 flags) (.inl (by omega))).set (g:=w.heap.size+1) (i:=2) (x:=.int .i64 seq) (.inl (by omega))).set (g:=w.heap.size+1) (i:=3) (x:=.slice x0 m0 y0) (.inl (by omega)))) (by omega) (Nat.le_refl _)),HI.out⟩
 ·exact (((((X.setCell (p:=⟨w.heap.size+1+1,3,none⟩) (by simp <;> omega) (.slice x0 m0 y0)).setCell (p:=⟨w.heap.size+1,0,none⟩) (by simp <;> omega) (.int .i64 uid)).setCell (p:=⟨w.heap.size+1,1,none⟩) (by simp <;> omega) (.int .i64 flags)).setCell (p:=⟨w.heap.size+1,2,none⟩) (by simp <;> omega) (.int .i64 seq)).setCell (p:=⟨w.heap.size+1,3,none⟩) (by simp <;> omega) (.slice x0 m0 y0))
theorem zO:(Tryz.prog.info? 124).map (fun i=>(i.zero,i.size,i.bytes))=some (some (.agg #[.int .i64 0,.int .i64 0,.int .i64 0,.slice none 0 0]),4,48):=by kernel_rfl
theorem Ya (v:Value) (l:List aF) (w:World) (hv:bY w v l) (hl:dG l≤2000000) :
  Calls Tryz.prog 99 #[v] w fun e w'=>∃ u,e=.returned u∧uz w' w.heap.size w'.heap.size u l∧Below w.heap.size w w':=by
 have HV:Hid (∀ wi,Below w.heap.size w wi→bY wi v l):=fun wi h=>hv.below eU h
 obtain ⟨a,cap,rfl,hlc,hcm⟩:=hv.form
 have hll:l.length≤2000000:=by have:=jZ l;omega
 clear hv
 obtain ⟨i0,hi,hz0,hz1,hz2⟩:=info_parts zO
 go_enter Tryz.func99,Tryz.ntmps99
 go_wp2_with (at_make;refine wpList_make_full _ rfl _ _ 34 rfl w.heap.size 124 i0 (.agg #[.int .i64 0,.int .i64 0,.int .i64 0,.slice none 0 0]) 4 Tryz.underlying34 hi hz0 hz1 _ _ _ _ l.length rfl rfl rfl rfl ?b1 ?b2 ?b3 ?_)
 case b1=>rw [hz2];omega
 case b2=>unfold maxLen;omega
 case b3=>exact Nat.le_refl _
 intro w1 hown hgrow
 have HB:Hid (Below w.heap.size w w1):=(Below.refl w.heap.size w).grown hgrow (Nat.le_refl _) (by simp)
 have HP:Hid (Part 124 4 je w1 w.heap.size l.length 0 l):=by obtain ⟨cur,h1,h2⟩:=Fx hown;exact Part.start h1 h2
 clear hown hgrow hi hz0 hz1 hz2
 go_wp2
 go_loopw [4] (fun i wr=>∃ k:Nat,k≤l.length∧i=.int .i64 k∧Hid (Part 124 4 je wr w.heap.size l.length k l)∧Hid (Below w.heap.size w wr)) (fun i _=>l.length - (intOf i).toNat)
 case atStart=>exact ⟨0,Nat.zero_le _,rfl,HP,HB⟩
 case round =>
  obtain ⟨k,hk,rfl,hP,hB⟩:=hrel
  by_cases hlt:k < l.length
  ·obtain ⟨x,hx⟩:∃ x,l[k]?=some x:=⟨l[k],aK hlt⟩
   obtain ⟨b,off,cap',u,hv',hlb,d0,d1,d2,d3,hu,i0,i1,i2⟩:=bY.cell (HV.out wr hB.out) k x hx
   simp only [Value.slice.injEq,true_and] at hv'
   obtain ⟨rfl,rfl⟩:=hv'
   obtain ⟨ua,un,uc,rfl⟩:=hu.aG
   go_wp2_with fail
   refine (X9 _ x _ ⟨_,rfl,hu,i0,i1,i2⟩ (by have:=zI (List.mem_of_getElem? hx);omega)).mono ?_
   rintro e w2 ⟨_,rfl,⟨ya,yn,yc,rfl,he⟩,B⟩
   clear d0 d1 d2 d3
   have hs2:=B.size
   have HS:Hid (Part 124 4 je (put w2 w.heap.size (k * 4) [.int .i64 x.uid,.int .i64 x.flags,.int .i64 x.seq,.slice ya yn yc]) w.heap.size l.length (k+1) l):=Part.step kI hP.out B x hx hlt _ rfl he
   have HB2:Hid (Below w.heap.size w w2):=Below.step hB.out B
   have hgl:=hP.out.lt
   have zP:w.heap.size < w2.heap.size:=by omega
   obtain ⟨q0,t0⟩:=(show ∃ u,w2.cell? ⟨w.heap.size,k * 4,none⟩=some u from by obtain ⟨⟨u,hu⟩,-⟩:=hP.out.cell (k * 4) (by omega);exact ⟨u,(B.cell (p:=⟨w.heap.size,k * 4,none⟩) hgl).trans hu⟩)
   obtain ⟨q1,t1⟩:=(show ∃ u,w2.cell? ⟨w.heap.size,k * 4+1,none⟩=some u from by obtain ⟨⟨u,hu⟩,-⟩:=hP.out.cell (k * 4+1) (by omega);exact ⟨u,(B.cell (p:=⟨w.heap.size,k * 4+1,none⟩) hgl).trans hu⟩)
   obtain ⟨q2,t2⟩:=(show ∃ u,w2.cell? ⟨w.heap.size,k * 4+2,none⟩=some u from by obtain ⟨⟨u,hu⟩,-⟩:=hP.out.cell (k * 4+2) (by omega);exact ⟨u,(B.cell (p:=⟨w.heap.size,k * 4+2,none⟩) hgl).trans hu⟩)
   obtain ⟨q3,t3⟩:=(show ∃ u,w2.cell? ⟨w.heap.size,k * 4+3,none⟩=some u from by obtain ⟨⟨u,hu⟩,-⟩:=hP.out.cell (k * 4+3) (by omega);exact ⟨u,(B.cell (p:=⟨w.heap.size,k * 4+3,none⟩) hgl).trans hu⟩)
   have fz:∀ i,w2.frozen? ⟨w.heap.size,i,none⟩=false:=by
    intro i
    obtain ⟨cur,cs,fs,hh,-⟩:=hP.out
    exact frozen_of_row w2 w.heap.size i cur 124 (ay B hh)
   clear hP hB B he
   go_wp2
   go_roundw
   case rel=>exact ⟨k+1,by omega,by go_num,HS,Fh HB2.out (Nat.le_refl _) (k * 4) [.int .i64 x.uid,.int .i64 x.flags,.int .i64 x.seq,.slice ya yn yc]⟩
   case measure=>simp [intOf];omega
  ·obtain rfl:k=l.length:=by omega
   go_wp2
   go_ret
   exact ⟨_,rfl,Part.done hP.out rfl (by unfold maxLen;omega) (Nat.le_refl _),hB.out⟩
/- What since of impl.OU does. -/
open Go.RowKit Go.Maps
/-- The entries at a rV number are these ah, by their numbers. -/
structure dB (E:aX) (v:Int) (ms:List aF):Prop where
 sorted:ms.Pairwise (fun a b=>a.uid < b.uid)
 i64:∀ m ∈ ms,aB m.uid
 find:∀ u,aB u→cB E v u=ms.find? (fun m=>decide (m.uid=u))
theorem Pf {ms:List aF} (hs:ms.Pairwise (fun a b=>a.uid < b.uid)) {m:aF} (hm:m ∈ ms):ms.find? (fun x=>decide (x.uid=m.uid))=some m:=by
 induction ms with
 | nil=>cases hm
 | cons a ms ih =>
  obtain ⟨h1,h2⟩:=List.pairwise_cons.1 hs
  rw [List.find?_cons]
  rcases List.mem_cons.1 hm with rfl | h
  ·simp
  ·have:=h1 m h
   rw [show decide (a.uid=m.uid)=false by simp;omega]
   exact ih h2 h
theorem dB.get {E:aX} {v:Int} {ms:List aF} (h:dB E v ms) {m:aF} (hm:m ∈ ms):cB E v m.uid=some m:=by
 rw [h.find _ (h.i64 m hm)]
 exact Pf h.sorted hm
theorem dB.mem {E:aX} {v:Int} {ms:List aF} (h:dB E v ms) (u:Int):u ∈ ms.map (fun m=>m.uid)↔aB u∧(cB E v u).isSome=true:=by
 constructor
 ·intro hu
  obtain ⟨m,hm,rfl⟩:=List.mem_map.1 hu
  exact ⟨h.i64 m hm,by rw [h.get hm];rfl⟩
 ·rintro ⟨h1,h2⟩
  rw [h.find u h1] at h2
  obtain ⟨m,hm⟩:=Option.isSome_iff_exists.1 h2
  exact List.mem_map.2 ⟨m,List.mem_of_find?_eq_some hm,by simpa using List.find?_some hm⟩
theorem Pg {α:Type} {p:α→Bool} {l:List α} {k:Nat} {m:α} (h:l[k]?=some m) (hp:p m=true):(l.take (k+1)).filter p=(l.take k).filter p ++ [m]:=by
 obtain ⟨hk,rfl⟩:=gs1 h
 rw [List.take_succ_eq_append_getElem hk,List.filter_append]
 simp [hp]
theorem Ph {α:Type} {p:α→Bool} {l:List α} {k:Nat} {m:α} (h:l[k]?=some m) (hp:p m=false):(l.take (k+1)).filter p=(l.take k).filter p:=by
 obtain ⟨hk,rfl⟩:=gs1 h
 rw [List.take_succ_eq_append_getElem hk,List.filter_append]
 simp [hp]
theorem Yb (a b c:Int) (d:Value) (w:World):(Instr.field 124 (.agg #[.int .i64 a,.int .i64 b,.int .i64 c,d]) 2).run Tryz.prog w=.ok (.int .i64 c) w:=by kernel_rfl
theorem Yc (g n:Nat) (E:aX) (v q:Int) (ms:List aF) (w:World) (h:MM w g n E) (hn:n≤2000000) (hv:aB v) (hE:dB E v ms) (h12:ms.length≤12) (ht:∀ m ∈ ms,m.text.length≤2000000) :
  Calls Tryz.prog 122 #[.map (some g),.int .i64 v,.int .i64 q] w fun e w'=>∃ u,e=.returned u∧jO w' (In w.heap.size w'.heap.size) u (ms.filter fun m=>decide (q < m.seq))∧Below w.heap.size w w':=by
 have hcall:=O7 g n E v (ms.map fun m=>m.uid) w h hn hv (List.pairwise_map.2 hE.sorted) hE.mem (by simpa using h12)
 have HM:Hid (MM w g n E):=h
 have HE:Hid (dB E v ms∧ms.length≤12∧∀ m ∈ ms,m.text.length≤2000000):=⟨hE,h12,ht⟩
 obtain ⟨z0,hi,hz0,hz1,hz2⟩:=info_parts zO
 clear h hE h12 ht
 go_enter Tryz.func122,Tryz.ntmps122
 go_wp2_with fail
 refine hcall.mono ?_
 rintro e w1 ⟨kv,rfl,Jd,hB1⟩
 have mP:Hid (∀ wi,Below w1.heap.size w1 wi→xY wi kv ((ms.map fun m=>m.uid).map fun u=>(v,u))):=fun wi h=>Jd.below Xp h
 have HB1:Hid (Below w.heap.size w w1):=hB1
 have hlen:((ms.map fun m=>m.uid).map fun u=>(v,u)).length=ms.length:=by simp
 obtain ⟨ka,kc,rfl,hk1,hk2⟩:=Jd.form
 rw [hlen] at mP hk1 ⊢
 have HL:Hid (((ms.map fun m=>m.uid).map fun u=>(v,u)).length=ms.length):=hlen
 have hs1:w.heap.size≤w1.heap.size:=hB1.size
 clear Jd hB1 hcall hlen
 go_wp2
 go_loopw [7,14] (fun lv i wr=>∃ (k:Nat) (va:Option Addr) (vn vc:Nat),k≤ms.length∧i=.int .i64 k∧lv=.slice va vn vc∧Hid (Below w1.heap.size w1 wr)∧w1.heap.size≤wr.heap.size∧Hid (jO wr (In w1.heap.size wr.heap.size) (.slice va vn vc) ((ms.take k).filter fun m=>decide (q < m.seq)))) (fun _ i _=>ms.length - (intOf i).toNat)
 case atStart=>exact ⟨0,none,0,0,Nat.zero_le _,rfl,rfl,Below.refl _ _,Nat.le_refl _,.inl ⟨rfl,by simp⟩⟩
 case round =>
  obtain ⟨k,va,vn,vc,hk,rfl,rfl,hB,hS,hO⟩:=hrel
  by_cases hlt:k < ms.length
  ·obtain ⟨m,hx⟩:∃ m,ms[k]?=some m:=⟨ms[k],aK hlt⟩
   have hmem:m ∈ ms:=List.mem_of_getElem? hx
   obtain ⟨b,off,cp,c,hv',hlb,⟨rfl,-,-⟩,-,hcell⟩:=(mP.out wr hB.out).get k (v,m.uid) (by rw [List.map_map,List.getElem?_map,hx];rfl)
   rw [HL.out] at hv'
   simp only [Value.slice.injEq,true_and] at hv'
   obtain ⟨rfl,rfl⟩:=hv'
   have e0:wr.cell? ⟨b,off+k * 2,none⟩=some (.int .i64 v):=hcell 0 _ rfl
   have e1:wr.cell? ⟨b,off+k * 2+1,none⟩=some (.int .i64 m.uid):=hcell 1 _ rfl
   have AB:Below wr.heap.size wr (wr.alloc (.cells #[.int .i64 v,.int .i64 m.uid] 135)):=bn _ _
   have vY:MM (wr.alloc (.cells #[.int .i64 v,.int .i64 m.uid] 135)) g n E:=((HM.out.below HB1.out).below hB.out).below AB
   obtain ⟨x,hxv,hrun⟩:=vY.get (HE.out.1.get hmem)
   have Pj:Hid (gK (wr.alloc (.cells #[.int .i64 v,.int .i64 m.uid] 135)) x m):=hxv
   obtain ⟨t,rfl,hbt,hi0,hi1,hi2⟩:=hxv
   obtain ⟨ta,tn,tc,rfl⟩:=hbt.aG
   have hki:(k:Int) < ms.length:=by omega
   have HX:Hid (ms[k]?=some m):=hx
   have hml:m.text.length≤2000000:=HE.out.2.2 m hmem
   have eH:Hid (Below wr.heap.size wr (wr.alloc (.cells #[.int .i64 v,.int .i64 m.uid] 135))):=AB
   have Bl:Hid (((ms.take k).filter fun m=>decide (q < m.seq)).length≤12):=Nat.le_trans (List.length_filter_le _ _) (by have:=HE.out.2.1;simp;omega)
   clear hcell hx hmem vY hbt hi0 hi1 hi2 AB
   have Yd:=Yb m.uid m.flags m.seq (.slice ta tn tc) (wr.alloc (.cells #[.int .i64 v,.int .i64 m.uid] 135))
   by_cases hq:q < m.seq
   ·have HQ:Hid (q < m.seq):=hq
    go_wp2_with fail
    refine (O8 _ m _ Pj.out hml).mono ?_
    rintro e w3 ⟨xa,xn,xc,rfl,Bn,hB3⟩
    have hs3:wr.heap.size+1≤w3.heap.size:=by have:=hB3.size;simpa using this
    have HB3:Hid (Below wr.heap.size wr w3):=Below.step eH.out hB3
    have Bo:Hid (je w3 [.int .i64 m.uid,.int .i64 m.flags,.int .i64 m.seq,.slice xa xn xc] m (In wr.heap.size w3.heap.size)):=by
     obtain ⟨u',e',r1,r2⟩:=Bn
     exact ⟨u',e',r1.mono fun b hb=>⟨by have:=hb.1;simp at this;omega,hb.2⟩,r2⟩
    clear Bn hB3 Pj hrun e0 e1 hlb Yd
    have AP:Below w3.heap.size w3 (w3.alloc (.cells #[.int .i64 m.uid,.int .i64 m.flags,.int .i64 m.seq,.slice xa xn xc] 124)):=bn _ _
    have Bp:Hid (je (w3.alloc (.cells #[.int .i64 m.uid,.int .i64 m.flags,.int .i64 m.seq,.slice xa xn xc] 124)) [.int .i64 m.uid,.int .i64 m.flags,.int .i64 m.seq,.slice xa xn xc] m (In wr.heap.size (w3.alloc (.cells #[.int .i64 m.uid,.int .i64 m.flags,.int .i64 m.seq,.slice xa xn xc] 124)).heap.size)):=by
     obtain ⟨u',e',r1,r2⟩:=Bo.out
     exact ⟨u',e',(r1.below AP).mono fun b hb=>⟨hb.1,by have:=hb.2;simp;omega⟩,r2⟩
    have hMs:wr.heap.size≤(w3.alloc (.cells #[.int .i64 m.uid,.int .i64 m.flags,.int .i64 m.seq,.slice xa xn xc] 124)).heap.size:=by simp;omega
    have nR:Hid (jO (w3.alloc (.cells #[.int .i64 m.uid,.int .i64 m.flags,.int .i64 m.seq,.slice xa xn xc] 124)) (In w1.heap.size wr.heap.size) (.slice va vn vc) ((ms.take k).filter fun m=>decide (q < m.seq))):=Ow.below kI (Ow.below kI hO.out HB3.out) AP
    have hone:∀ u ∈ [Value.int .i64 m.uid,.int .i64 m.flags,.int .i64 m.seq,.slice xa xn xc],u.oneCell'=true:=by
     intro u hu
     simp at hu
     rcases hu with rfl | rfl | rfl | rfl <;> rfl
    have hp1:((ms.take k).filter fun m=>decide (q < m.seq)).length+1≤maxLen:=by have:=Bl.out;unfold maxLen;omega
    have hp2:(((ms.take k).filter fun m=>decide (q < m.seq)).length+1) * 48≤140737488355328:=by have:=Bl.out;omega
    go_wp2_with (at_builtin;refine Bf rfl (.tmp 24) (.tmp 29) rfl kI (B:=w1.heap.size) (M:=wr.heap.size) nR.out hMs hS Tryz.underlying34 hi hz0 hz1 hz2 rfl (by omega) rfl m [.int .i64 m.uid,.int .i64 m.flags,.int .i64 m.seq,.slice xa xn xc] rfl Bp.out ⟨w3.heap.size,0,none⟩ 1 rfl (mO w3 _ _) hone hp1 hp2 ?_)
    intro vZ w4 hO4 hG4 qb
    have lG:Hid (jO w4 (In w1.heap.size w4.heap.size) vZ ((ms.take (k+1)).filter fun m=>decide (q < m.seq))):=by
     rw [Pg HX.out (by simpa using HQ.out)]
     exact hO4
    obtain ⟨Bq,Br,Bt,rfl⟩:∃ a n c,vZ=.slice a n c:=by
     rcases hO4 with ⟨h,-⟩ | ⟨_,_,_,_,_,h,-⟩
     ·exact ⟨_,_,_,h⟩
     ·exact ⟨_,_,_,h⟩
    have hge:∀ j,(Value.slice va vn vc).ownBlock=some j→w1.heap.size≤j:=fun j hj=>(qb j hj).1
    have lH:Hid (Below w1.heap.size w1 w4):=rX (Below.step (Below.step hB.out HB3.out) AP) hG4 hge (Nat.le_refl _) (by have:=AP.size;omega)
    have hs4:w1.heap.size≤w4.heap.size:=lH.out.size
    clear hO4 hG4 qb hge nR Bp AP hMs HB3 Bo hO hB
    go_wp2
    go_roundw
    case rel=>exact ⟨k+1,Bq,Br,Bt,by omega,by simp,rfl,lH.out,hs4,lG.out⟩
    case measure=>simp [intOf];omega
   ·have HQ:Hid (¬ q < m.seq):=hq
    have wh:Hid (jO (wr.alloc (.cells #[.int .i64 v,.int .i64 m.uid] 135)) (In w1.heap.size (wr.alloc (.cells #[.int .i64 v,.int .i64 m.uid] 135)).heap.size) (.slice va vn vc) ((ms.take (k+1)).filter fun m=>decide (q < m.seq))):=by
     rw [Ph HX.out (by simpa using HQ.out)]
     exact Ow.mono (Ow.below kI hO.out eH.out) fun b hb=>⟨hb.1,by have:=hb.2;simp;omega⟩
    go_wp2
    go_roundw
    case rel=>exact ⟨k+1,va,vn,vc,by omega,by simp,rfl,Below.step hB.out eH.out,by simp;omega,wh.out⟩
    case measure=>simp [intOf];omega
  ·obtain rfl:k=ms.length:=by omega
   go_wp2
   go_ret
   refine ⟨_,rfl,?_,Below.step HB1.out hB.out⟩
   have:=hO.out
   rw [List.take_length] at this
   exact Ow.mono this fun b hb=>⟨by have:=hb.1;omega,hb.2⟩
/- The bytes of a slice as a string. -/
theorem Je:Tryz.prog.underlying 9=some .string:=by kernel_rfl
/-- The bytes of a slice as a string. -/
theorem wm {w:World} {v:Value} {l:List Int} (h:Bs w v l):(convert 26 9 v).run Tryz.prog w=.ok (.string (strOfNums l)) w:=by
 obtain ⟨ho,a,cap,rfl,h1,h2,h3,h4⟩:=h
 cases a with
 | none =>
  have hc:=h3 rfl
  have:l=[]:=List.eq_nil_of_length_eq_zero (by omega)
  subst this
  exact run_convert_bytes_nil w 26 5 Tryz.underlying26 Tryz.underlying5 _ _ 9 Je
 | some x =>
  by_cases h0:l=[]
  ·subst h0
   rw [run_convert_bytes_string w 26 9 5 _ _ _ Tryz.underlying26 Tryz.underlying5 Je]
   exact run_bytesToString w x 0 cap [] (by simp [loadCells,loadCellsFrom])
  ·obtain ⟨b,off,hx,_,hc⟩:=h4 (List.length_pos_iff.2 h0)
   cases hx
   exact run_convert_bytes_arg w 26 5 Tryz.underlying26 Tryz.underlying5 b off l.length cap l rfl hc 9 Je
/- Names, texts and commands as plain lists and numbers: no program is named here. -/
theorem aR {a b:Bool} (h:b=a):Ending.returned (.bool a)=.returned (.bool b):=by rw [h]
/-- Every number of the list lies between two. -/
def allIn (lo hi:Int) (l:List Int):Bool:=l.all fun x=>decide (lo≤x) && decide (x≤hi)
/-- A name: one to six small letters. -/
def bZ (l:List Int):Bool:=decide (1≤l.length) && (decide (l.length≤6) && allIn 97 122 l)
/-- A text: at most thirty bytes that can be seen. -/
def fD (l:List Int):Bool:=decide (l.length≤30) && allIn 32 126 l
/-- A number lies between two. -/
def aS (n lo hi:Int):Bool:=decide (lo≤n) && decide (n≤hi)
theorem Pk {lo hi:Int} {l:List Int} (h:∀ j,j < l.length→lo≤l.getD j 0∧l.getD j 0≤hi):allIn lo hi l=true:=by
 unfold allIn
 rw [List.all_eq_true]
 intro x hx
 obtain ⟨j,hj,rfl⟩:=List.getElem_of_mem hx
 have:=h j hj
 simp [hj] at this
 simp [this]
theorem FN {lo hi:Int} {l:List Int} (j:Nat) (hj:j < l.length) (h:¬ (lo≤l.getD j 0∧l.getD j 0≤hi)):allIn lo hi l=false:=by
 cases e:allIn lo hi l with
 | false=>rfl
 | true =>
  exfalso
  unfold allIn at e
  rw [List.all_eq_true] at e
  have:=e _ (List.getElem_mem hj)
  simp [hj] at h
  simp at this
  omega
theorem lI {k:IntKind} {a b:Int} (h:a=b):Ending.returned (.int k a)=.returned (.int k b):=by rw [h]
/-- The place of the first that fits; -1 where there is none. -/
def bB {α:Type} (p:α→Bool) (l:List α):Int:=match l.findIdx? p with | some i=>i | none=>-1
theorem Ye {p:Int→Bool} {l:List Int} {k:Nat} (hk:k < l.length) (h:p (l.getD k 0)=true) (hA:∀ j,j < k→p (l.getD j 0)=false):bB p l=k:=by
 have:l.findIdx? p=some k:=by
  rw [List.findIdx?_eq_some_iff_getElem]
  refine ⟨hk,by simpa [hk] using h,fun j hj=>?_⟩
  have:=hA j hj
  simp [show j < l.length by omega] at this
  simp [this]
 simp [bB,this]
theorem Yf {p:Int→Bool} {l:List Int} (hA:∀ j,j < l.length→p (l.getD j 0)=false):bB p l = -1:=by
 have:l.findIdx? p=none:=by
  rw [List.findIdx?_eq_none_iff]
  intro x hx
  obtain ⟨j,hj,rfl⟩:=List.getElem_of_mem hx
  have:=hA j hj
  simpa [hj] using this
 simp [bB,this]
theorem Bu {α:Type} (p:α→Bool) (l:List α):l.any p=decide (0≤bB p l):=by
 unfold bB
 cases h:l.findIdx? p with
 | none =>
  rw [List.findIdx?_eq_none_iff] at h
  simp only [show ¬ (0:Int)≤-1 by omega,decide_false]
  rw [List.any_eq_false]
  intro x hx
  simp [h x hx]
 | some i =>
  rw [List.findIdx?_eq_some_iff_getElem] at h
  obtain ⟨hi,hp,-⟩:=h
  simp only [show (0:Int)≤(i:Int) by omega,decide_true]
  rw [List.any_eq_true]
  exact ⟨_,List.getElem_mem hi,hp⟩
/-- Which kinds have a second name, a number of a fQ, flags and how, a number of a change, a text. -/
def toB (k:Int):Bool:=decide (k=6)
def Bv (k:Int):Bool:=decide (k=3) || (decide (k=5) || decide (k=6))
def Bw (k:Int):Bool:=decide (k=2) || (decide (k=3) || decide (k=6))
def BA (k:Int):Bool:=decide (k=3) || decide (k=8)
def BD (k:Int):Bool:=decide (k=2)
/-- A command that may be. -/
def fM (k:Int) (bx tt:List Int) (uid mode fl si:Int) (tx:List Int):Bool :=
 decide (0≤k∧k≤9) && (if k=9 then decide (bx.length=0) else bZ bx) && (if k=6 then bZ tt else decide (tt.length=0)) &&
 (if k=3∨k=5∨k=6 then aS uid 1 1000000 else decide (uid=0)) && aS mode 0 (if k=3 then 2 else if k=6 then 1 else 0) &&
 aS fl 0 (if k=2∨k=3 then 31 else 0) && aS si 0 (if k=3∨k=8 then 1000000 else 0) && (if k=2 then fD tx else decide (tx.length=0))
theorem wo {l:List Int} (h:l.length=0):fD l=true:=by
 have:l=[]:=List.eq_nil_of_length_eq_zero h
 subst this;rfl
theorem l9 {l:List Int} (h:l.length=0):bZ l=false:=by
 have:l=[]:=List.eq_nil_of_length_eq_zero h
 subst this;rfl
/- What may be: boxes and accounts, as plain data. -/
/-- The bytes of a list of numbers; which of two comes first. -/
def dN (l:List Int):List UInt8:=l.map fun n=>UInt8.ofNat n.toNat
def dH (l m:List Int):Bool:=Op.bytesLess (dN l) (dN m)
theorem FP:∀ (a b:List UInt8),decide (0≤Lib.compareBytes a b) = !Op.bytesLess a b
 | [],[]=>rfl
 | [],_ :: _=>rfl
 | _ :: _,[]=>rfl
 | a :: x,b :: y=>by
  have ih:=FP x y
  unfold Lib.compareBytes Op.bytesLess
  by_cases h1:a < b
  ·simp [h1]
  ·by_cases h2:b < a
   ·have hne:(a == b)=false:=by simp;intro e;subst e;exact absurd h2 (UInt8.lt_irrefl _)
    simp [h1,h2,hne]
   ·have he:a=b:=UInt8.le_antisymm (UInt8.not_lt.1 h2) (UInt8.not_lt.1 h1)
    subst he
    simp only [h1,if_false,decide_false,Bool.false_or,BEq.rfl,Bool.true_and]
    exact ih
theorem uE {n:Nat} {f:Nat→Bool} (h:∀ j,j < n→f j=true):(List.range n).all f=true:=by
 rw [List.all_eq_true];intro j hj;exact h j (List.mem_range.1 hj)
theorem iq {n:Nat} {f:Nat→Bool} (j:Nat) (hj:j < n) (h:f j=false):(List.range n).all f=false:=by
 rw [List.all_eq_false];exact ⟨j,List.mem_range.2 hj,by simp [h]⟩
def nS (l:List Int):Nat→Int
 | 0=>0
 | i+1=>l.getD i 0
def seenAt (l:List Int) (i:Nat):Bool:=aS (l.getD i 0) (nS l i+1) 1000000
def qd (l:List Int):Bool:=decide (l.length≤60) && (List.range l.length).all (seenAt l)
theorem Pm {l:List Int} {k:Nat} (hk:k≤l.length) (h:∀ j,j < k→seenAt l j=true):0≤nS l k∧nS l k≤1000000∧(0 < k→1≤nS l k):=by
 induction k with
 | zero=>simp [nS]
 | succ k ih =>
  have h1:=ih (by omega) (fun j hj=>h j (by omega))
  have h2:=h k (by omega)
  simp only [seenAt,aS,Bool.and_eq_true,decide_eq_true_eq] at h2
  simp only [nS]
  omega
def mg (l:List aF):Nat→Int
 | 0=>0
 | i+1=>match l[i]? with | some m=>m.uid | none=>0
def nT (b:aD) (i:Nat):Bool:=match b.ah[i]? with
 | some m=>aS m.uid (mg b.ah i+1) (b.next - 1) && (aS m.flags 0 31 && (aS m.seq 1 b.seq && fD m.text))
 | none=>true
def qg (b:aD):Bool:=decide (b.ah.length≤12) && (List.range b.ah.length).all (nT b)
theorem Pn {b:aD} {k:Nat} (hn:b.next≤1000000) (hk:k≤b.ah.length) (h:∀ j,j < k→nT b j=true):0≤mg b.ah k∧mg b.ah k≤1000000:=by
 induction k with
 | zero=>simp [mg]
 | succ k ih =>
  have h1:=ih (by omega) (fun j hj=>h j (by omega))
  have h2:=h k (by omega)
  obtain ⟨m,hm⟩:∃ m,b.ah[k]?=some m:=⟨b.ah[k]'(by omega),aK (by omega)⟩
  simp only [nT,hm,aS,Bool.and_eq_true,decide_eq_true_eq] at h2
  simp only [mg,hm]
  omega
def minS (b:aD):Nat→Int
 | 0=>max 1 b.lost
 | i+1=>match b.au[i]? with | some g=>g.seq | none=>0
def mh (b:aD) (i:Nat):Bool:=match b.au[i]? with
 | some g=>aS g.uid 1 (b.next - 1) && (aS g.seq (minS b i) b.seq && (!(b.ah.any fun m=>decide (m.uid=g.uid)) && !((b.au.take i).any fun o=>decide (o.uid=g.uid))))
 | none=>true
def oK (b:aD):Bool:=decide (b.au.length≤40) && (List.range b.au.length).all (mh b)
theorem Po {b:aD} {k:Nat} (hk:k≤b.au.length) (h:∀ j,j < k→mh b j=true):1≤minS b k∧b.lost≤minS b k:=by
 induction k with
 | zero=>simp only [minS];omega
 | succ k ih =>
  have h1:=ih (by omega) (fun j hj=>h j (by omega))
  have h2:=h k (by omega)
  obtain ⟨m,hm⟩:∃ m,b.au[k]?=some m:=⟨b.au[k]'(by omega),aK (by omega)⟩
  simp only [mh,hm,aS,Bool.and_eq_true,decide_eq_true_eq] at h2
  simp only [minS,hm]
  omega
def gV (b:aD) (valid:Int):Bool:=bZ b.name && (aS b.valid 1 valid && (aS b.next 1 1000000 && (aS b.seq 0 1000000 && (aS b.lost 0 b.seq && (qg b && oK b)))))
def nameAt (l:List aD) (i:Nat):List Int:=match l[i]? with | some b=>b.name | none=>[]
def oL (l:List aD) (b:aD):Nat→Bool
 | 0=>true
 | i+1=>dH (nameAt l i) b.name
def qh (a:aJ) (i:Nat):Bool:=match a.boxes[i]? with
 | some b=>gV b a.valid && (oL a.boxes b i && !((a.boxes.take i).any fun o=>decide (o.valid=b.valid)))
 | none=>true
def jg (a:aJ):Bool:=aS a.valid 0 1000000 && (decide (a.boxes.length≤4) && (qd a.seen && (List.range a.boxes.length).all (qh a)))
/- What bytes.Equal and ahx of package impl do. -/
theorem Jf:∀ {l m:List Int},Oct l→Oct m→dN l=dN m→l=m
 | [],[],_,_,_=>rfl
 | [],_ :: _,_,_,h=>by simp [dN] at h
 | _ :: _,[],_,_,h=>by simp [dN] at h
 | x :: l,y :: m,hl,hm,h=>by
  simp only [dN,List.map_cons,List.cons.injEq] at h
  have hx:=hl x (by simp)
  have hy:=hm y (by simp)
  have h1:x=y:=by
   have:=congrArg UInt8.toNat h.1
   simp only [UInt8.toNat_ofNat'] at this
   rw [Nat.mod_eq_of_lt (by omega),Nat.mod_eq_of_lt (by omega)] at this
   omega
  rw [h1,Jf (fun z hz=>hl z (by simp [hz])) (fun z hz=>hm z (by simp [hz])) h.2]
theorem Jg (l:List Int):(strOfNums l).toList=dN l:=by
 rw [ByteArray.toList_eq]
 rfl
theorem str_eq {l m:List Int} (hl:Oct l) (hm:Oct m):((strOfNums l).toList == (strOfNums m).toList)=decide (l=m):=by
 rw [Jg,Jg,Bool.eq_iff_iff]
 simp only [beq_iff_eq,decide_eq_true_eq]
 exact ⟨Jf hl hm,fun h=>by rw [h]⟩
theorem Yg (v u:Value) (l m:List Int) (w:World) (hv:Bs w v l) (hu:Bs w u m) :
  Calls Tryz.prog 111 #[v,u] w fun e w'=>e=.returned (.bool (decide (l=m)))∧w'=w:=by
 have h1:=wm hv
 have h2:=wm hu
 have HE:Hid (((strOfNums l).toList == (strOfNums m).toList)=decide (l=m)):=str_eq hv.1 hu.1
 obtain ⟨a,n,c,rfl⟩:=hv.aG
 obtain ⟨a',n',c',rfl⟩:=hu.aG
 clear hv hu
 go_enter Tryz.func111,Tryz.ntmps111
 go_wp2
 go_ret
 exact ⟨aR HE.out.symm,rfl⟩
/- What a merge makes of two boxes, on lists. -/
def Pp (l:List aF) (u:Int):Option aF:=l.find? fun m=>decide (m.uid=u)
/-- What a box that is right says of its ah. -/
structure Yh (b:aD):Prop where
 len:b.ah.length≤12
 FQ:b.au.length≤40
 sorted:b.ah.Pairwise (fun x y=>x.uid < y.uid)
 mem:∀ m ∈ b.ah,1≤m.uid∧m.uid < b.next∧1≤m.seq∧m.text.length≤30
 next:1≤b.next∧b.next≤1000000
theorem FR {b:aD} {v:Int} (h:gV b v=true):Yh b:=by
 simp only [gV,Bool.and_eq_true,aS,decide_eq_true_eq,qg,oK,List.all_eq_true,List.mem_range] at h
 obtain ⟨-,-,⟨n1,n2⟩,-,-,⟨l1,hm⟩,l2,-⟩:=h
 have hat:∀ (i:Nat) (m:aF),b.ah[i]?=some m→mg b.ah i+1≤m.uid∧m.uid≤b.next - 1∧1≤m.seq∧m.text.length≤30:=by
  intro i m hi
  have:=hm i (gs1 hi).1
  simp only [nT,hi,aS,Bool.and_eq_true,decide_eq_true_eq,fD] at this
  obtain ⟨⟨a1,a2⟩,-,⟨a3,-⟩,a4,-⟩:=this
  exact ⟨a1,a2,a3,a4⟩
 have hge:∀ (i:Nat) (m:aF),b.ah[i]?=some m→1≤m.uid:=by
  intro i
  induction i with
  | zero=>intro m hi;have:=(hat 0 m hi).1;simp only [mg] at this;omega
  | succ i ih =>
   intro m hi
   have hl:=(gs1 hi).1
   have h2:=aK (show i < b.ah.length by omega)
   have:=(hat (i+1) m hi).1
   simp only [mg,h2] at this
   have:=ih _ h2
   omega
 have hstep:∀ (k i:Nat) (x y:aF),b.ah[i]?=some x→b.ah[i+k+1]?=some y→x.uid < y.uid:=by
  intro k
  induction k with
  | zero =>
   intro i x y hx hy
   have:=(hat (i+1) y hy).1
   simp only [mg,hx] at this
   omega
  | succ k ih =>
   intro i x y hx hy
   have hl:=(gs1 hy).1
   have h2:=aK (show i+k+1 < b.ah.length by omega)
   have a:=ih i x _ hx h2
   have c:=(hat (i+(k+1)+1) y hy).1
   rw [show i+(k+1)+1=(i+k+1)+1 by omega] at c
   simp only [mg,h2] at c
   omega
 refine ⟨l1,l2,?_,fun m hmem=>?_,n1,n2⟩
 ·rw [List.pairwise_iff_getElem]
  intro i j hi hj hij
  have:=hstep (j - i - 1) i b.ah[i] b.ah[j] (aK hi) (by rw [show i+(j - i - 1)+1=j by omega];exact aK hj)
  exact this
 ·obtain ⟨i,hi,rfl⟩:=List.getElem_of_mem hmem
  have h2:=aK hi
  have a:=hat i _ h2
  exact ⟨hge i _ h2,by omega,a.2.2⟩
/-! ### the entries of the map -/
theorem Yi {E:aX} {v:Int} {ms:List aF} (hs:ms.Pairwise (fun x y=>x.uid < y.uid)) (u:Int):cB (lD E v ms) v u=(Pp ms u).or (cB E v u):=by
 induction ms generalizing E with
 | nil=>rfl
 | cons m ms ih =>
  obtain ⟨h1,h2⟩:=List.pairwise_cons.1 hs
  show cB (lD (j4 E v m.uid m) v ms) v u=_
  rw [ih h2]
  unfold Pp
  rw [List.find?_cons]
  by_cases e:m.uid=u
  ·subst e
   have:List.find? (fun x:aF=>decide (x.uid=m.uid)) ms=none:=by
    rw [List.find?_eq_none]
    intro x hx
    have:=h1 x hx
    simp only [decide_eq_true_eq]
    omega
   rw [this,Bb]
   simp
  ·rw [zL (fun h=>e h.2.symm)]
   simp [e]
def Yj (E:aX) (v:Int) (gs:List bf):aX:=gs.foldl (fun E g=>kJ E v g.uid) E
/-- All entries lie at one rV number. -/
def uF (E:aX) (v:Int):Prop:=∀ e ∈ E,e.1=v
theorem uF.put {E:aX} {v:Int} (h:uF E v) (u:Int) (m:aF):uF (j4 E v u m) v:=by
 intro e he
 rcases List.mem_append.1 he with he | he
 ·exact h e (List.mem_filter.1 he).1
 ·rw [List.mem_singleton] at he;subst he;rfl
theorem uF.lay {E:aX} {v:Int} (h:uF E v) (ms:List aF):uF (lD E v ms) v:=by
 induction ms generalizing E with
 | nil=>exact h
 | cons m ms ih=>exact ih (h.put m.uid m)
theorem uF.del {E:aX} {v:Int} (h:uF E v) (gs:List bf):uF (Yj E v gs) v:=by
 induction gs generalizing E with
 | nil=>exact h
 | cons g gs ih=>exact ih (fun e he=>h e (List.mem_filter.1 he).1)
end Go.Proofs.YtlneebmlhblleaaGreat
