/- The proof's texts, part 18. -/
import Derived.Test.YtnlhkgoppjejeaaDoorPart14
import Derived.Test.YtnlhkgoppjejeaaDoorPart15
import Derived.Test.YtnlhkgoppjejeaaDoorPart17
import Derived.Test.YtnlhkgoppjejeaaDoorPart3
import Derived.Test.YtnlhkgoppjejeaaDoorPart9
import Derived.Test.YtnlhkgoppjejeaaDoorPart2
import Derived.Test.YtnlhkgoppjejeaaDoorPart10

/- What AccountRead of package impl does. -/
namespace Go.Proofs.YtnlhkgoppjejeaaDoor
open Go.RowKit
set_option maxRecDepth 100000
set_option linter.unusedVariables false
set_option linter.unusedSimpArgs false

theorem bx1' {w:World} {g:Nat} {t:TypeId} {c0:Value} (h:w.heap[g]?=some (.cells #[c0] t (0,0))):w.cell? ⟨g,0,none⟩=some c0:=by rw [cell_of_row w g 0 _ t (0,0) h];rfl
theorem rd_none {l:List Int} (ho:Oct l) (e:iAcc l 0=none):okS l=false∧outS l=nilA:=by
 have h:okS l=false:=by rw [ok_same ho];unfold okI;rw [e]
 exact ⟨h,by unfold outS;rw [h]⟩
theorem rd_bad {l:List Int} {y:AccD × Int} (ho:Oct l) (e:iAcc l 0=some y) (hb:y.2≠l.length∨accB y.1=false):okS l=false∧outS l=nilA:=by
 have h:okS l=false:=by
  rw [ok_same ho];unfold okI;rw [e]
  rcases hb with hb | hb
  ·simp [hb]
  ·simp [hb]
 exact ⟨h,by unfold outS;rw [h]⟩
theorem rd_yes {l:List Int} {y:AccD × Int} (ho:Oct l) (e:iAcc l 0=some y) (h1:y.2=l.length) (h2:accB y.1=true):okS l=true∧outS l=y.1:=by
 have h:okI l=true:=by unfold okI;rw [e];simp [h1,h2]
 exact ⟨(ok_same ho).trans h,out_same ho e h⟩

set_option maxRecDepth 100000 in
set_option maxHeartbeats 4000000 in
theorem implAccountRead_r (v:Value) (l:List Int) (ea:Addr) (w:World) (hv:Bs w v l) (hE:Gave w ea) (hl:l.length≤2000000) :
  Calls Tryd.prog 8 #[v] w fun e w'=>∃ u,e=.returned (.tuple #[u,.bool (okS l)])∧AccO w' (In w.heap.size w'.heap.size) u (outS l)∧Below w.heap.size w w':=by
 have hmf:∀ (fn:Fn) (first cap:Array Value) (w:World),(Instr.makeFunc fn first cap).run Tryd.prog w=.ok (.func fn first cap) w:=fun _ _ _ _=>rfl
 have HV:Hid (∀ wi,Below w.heap.size w wi→Bs wi v l):=fun wi h=>hv.below h
 have HOC:Hid (Oct l):=hv.1
 have hlt:=hE.lt
 have HE:Hid (Gave w ea):=hE
 obtain ⟨va,cap,rfl⟩:=hv.form
 have HX:Hid (Below w.heap.size w (((w.alloc (.cells #[.int .i64 0,.slice none 0 0,.slice none 0 0] 26)).alloc (.cells #[.bool false] 4)).alloc (.cells #[.slice va l.length cap,.int .i64 0] 54))):=(((Below.refl _ _).alloc (Nat.le_refl _) _).alloc (by simp) _).alloc (by simp;omega) _
 have HR:Hid ((((w.alloc (.cells #[.int .i64 0,.slice none 0 0,.slice none 0 0] 26)).alloc (.cells #[.bool false] 4)).alloc (.cells #[.slice va l.length cap,.int .i64 0] 54)).heap[w.heap.size]?=some (.cells #[.int .i64 0,.slice none 0 0,.slice none 0 0] 26 (0,0))):=box_below ((Below.refl _ _).alloc (Nat.le_refl _) _) (boxes2 w _ _).1
 have HK:Hid ((((w.alloc (.cells #[.int .i64 0,.slice none 0 0,.slice none 0 0] 26)).alloc (.cells #[.bool false] 4)).alloc (.cells #[.slice va l.length cap,.int .i64 0] 54)).heap[w.heap.size+1]?=some (.cells #[.bool false] 4 (0,0))):=box_below ((Below.refl _ _).alloc (Nat.le_refl _) _) (boxes2 w _ _).2.1
 have HC:Hid ((((w.alloc (.cells #[.int .i64 0,.slice none 0 0,.slice none 0 0] 26)).alloc (.cells #[.bool false] 4)).alloc (.cells #[.slice va l.length cap,.int .i64 0] 54)).heap[w.heap.size+2]?=some (.cells #[.slice va l.length cap,.int .i64 0] 54 (0,0))):=by
  have h:=box_new ((w.alloc (.cells #[.int .i64 0,.slice none 0 0,.slice none 0 0] 26)).alloc (.cells #[.bool false] 4)) (.cells #[.slice va l.length cap,.int .i64 0] 54)
  rw [show ((w.alloc (.cells #[.int .i64 0,.slice none 0 0,.slice none 0 0] 26)).alloc (.cells #[.bool false] 4)).heap.size=w.heap.size+2 by simp] at h
  exact h
 have hsz:(((w.alloc (.cells #[.int .i64 0,.slice none 0 0,.slice none 0 0] 26)).alloc (.cells #[.bool false] 4)).alloc (.cells #[.slice va l.length cap,.int .i64 0] 54)).heap.size=w.heap.size+3:=by simp
 clear hv hE
 go_enter_defers Tryd.func8,Tryd.ntmps8
 go_wp2_with fail
 refine (account_c (w.heap.size+2) _ l 0 ea _ HC.out (fun wi hg=>HV.out wi (below_gr HX.out hg (by omega))) (HE.out.below HX.out) (by omega) hl (by omega) (by omega)).mono ?_
 rintro e w1 ⟨hh,G⟩
 have HB1:Hid (Below w.heap.size w w1):=below_gr HX.out G (by omega)
 have HR1:Hid (w1.heap[w.heap.size]?=some (.cells #[.int .i64 0,.slice none 0 0,.slice none 0 0] 26 (0,0))):=gr_at G HR.out (by omega)
 have HK1:Hid (w1.heap[w.heap.size+1]?=some (.cells #[.bool false] 4 (0,0))):=gr_at G HK.out (by omega)
 have hs1:w.heap.size+3≤w1.heap.size:=by have:=G.size;omega
 rcases hh with ⟨r,u,hr,rfl,R,KC⟩ | ⟨hr,rfl⟩
 rotate_left
 ·have HNO:Hid (okS l=false∧outS l=nilA):=rd_none HOC.out hr
  clear hr G HX HR HK HC hsz
  go_wp2
  refine leaves_cons (f:=23) (args:=#[.pointer (some ⟨w.heap.size,0,none⟩),.pointer (some ⟨w.heap.size+1,0,none⟩)]) (by simp) (by simp [go_sem]) ?_
  refine (catch_panicking w.heap.size _ _ _ _ _ _ [] w1 HR1.out HK1.out).mono ?_
  rintro e u' w'' ⟨rfl,rfl,rfl⟩
  have KRf:((((w1.setCell ⟨w.heap.size,0,none⟩ (.int .i64 0)).setCell ⟨w.heap.size,1,none⟩ (.slice none 0 0)).setCell ⟨w.heap.size,2,none⟩ (.slice none 0 0)).setCell ⟨w.heap.size+1,0,none⟩ (.bool false)).heap[w.heap.size]?=some (.cells #[.int .i64 0,.slice none 0 0,.slice none 0 0] 26 (0,0)):=(box_other (k:=w.heap.size+1) (i:=0) (v:=.bool false) (box_set (i:=2) (v:=.slice none 0 0) (box_set (i:=1) (v:=.slice none 0 0) (box_set (i:=0) (v:=.int .i64 0) HR1.out))) (by omega))
  have KBf:((((w1.setCell ⟨w.heap.size,0,none⟩ (.int .i64 0)).setCell ⟨w.heap.size,1,none⟩ (.slice none 0 0)).setCell ⟨w.heap.size,2,none⟩ (.slice none 0 0)).setCell ⟨w.heap.size+1,0,none⟩ (.bool false)).heap[w.heap.size+1]?=some (.cells #[.bool false] 4 (0,0)):=(box_set (i:=0) (v:=.bool false) (box_other (k:=w.heap.size) (i:=2) (v:=.slice none 0 0) (box_other (k:=w.heap.size) (i:=1) (v:=.slice none 0 0) (box_other (k:=w.heap.size) (i:=0) (v:=.int .i64 0) HK1.out (by omega)) (by omega)) (by omega)))
  have HDf:Hid (Below w.heap.size w ((((w1.setCell ⟨w.heap.size,0,none⟩ (.int .i64 0)).setCell ⟨w.heap.size,1,none⟩ (.slice none 0 0)).setCell ⟨w.heap.size,2,none⟩ (.slice none 0 0)).setCell ⟨w.heap.size+1,0,none⟩ (.bool false))):=((((HB1.out.setCell (p:=⟨w.heap.size,0,none⟩) (Nat.le_refl _) (.int .i64 0)).setCell (p:=⟨w.heap.size,1,none⟩) (Nat.le_refl _) (.slice none 0 0)).setCell (p:=⟨w.heap.size,2,none⟩) (Nat.le_refl _) (.slice none 0 0)).setCell (p:=⟨w.heap.size+1,0,none⟩) (by simp) (.bool false))
  obtain ⟨e0,e1,e2⟩:=bx3 KRf
  have e3:=bx1' KBf
  clear KRf KBf
  refine ⟨.tuple #[.agg #[.int .i64 0,.slice none 0 0,.slice none 0 0],.bool false],by simp [results,Tryd.results8,go_sem,e0,e1,e2,e3],_,ret_ok HNO.out,?_,HDf.out⟩
  rw [HNO.out.2]
  exact ⟨_,_,fun _=>False,fun _=>False,rfl,.inl ⟨rfl,rfl⟩,.inl ⟨rfl,rfl⟩,(fun x hx=>hx.elim),(fun x hx=>hx.elim),⟨by decide,by decide⟩⟩
 ·obtain ⟨A,q⟩:=r
  rw [hsz] at R
  have HO1:Hid (AccO w1 (In (w.heap.size+3) w1.heap.size) u A):=R
  obtain ⟨b0,bn0,bc0,b1,bn1,bc1,rfl⟩:=AccO.form R
  have HRD:Hid (iAcc l 0=some (A,q)):=hr
  have KC1:Hid (w1.heap[w.heap.size+2]?=some (.cells #[.slice va l.length cap,.int .i64 q] 54 (0,0))):=KC
  clear hr R KC G HX HR HK HC hsz
  go_upto_region 4 with fail
  have AB:Below w1.heap.size w1 (w1.alloc (.cells #[.int .i64 A.valid,.slice b0 bn0 bc0,.slice b1 bn1 bc1] 26)):=(Below.refl _ _).alloc (Nat.le_refl _) _
  have KX:=box_new w1 (.cells #[.int .i64 A.valid,.slice b0 bn0 bc0,.slice b1 bn1 bc1] 26)
  have HR2:Hid ((w1.alloc (.cells #[.int .i64 A.valid,.slice b0 bn0 bc0,.slice b1 bn1 bc1] 26)).heap[w.heap.size]?=some (.cells #[.int .i64 0,.slice none 0 0,.slice none 0 0] 26 (0,0))):=box_below AB HR1.out
  have HK2:Hid ((w1.alloc (.cells #[.int .i64 A.valid,.slice b0 bn0 bc0,.slice b1 bn1 bc1] 26)).heap[w.heap.size+1]?=some (.cells #[.bool false] 4 (0,0))):=box_below AB HK1.out
  have HC2:Hid ((w1.alloc (.cells #[.int .i64 A.valid,.slice b0 bn0 bc0,.slice b1 bn1 bc1] 26)).heap[w.heap.size+2]?=some (.cells #[.slice va l.length cap,.int .i64 q] 54 (0,0))):=box_below AB KC1.out
  have HX2:Hid ((w1.alloc (.cells #[.int .i64 A.valid,.slice b0 bn0 bc0,.slice b1 bn1 bc1] 26)).heap[w1.heap.size]?=some (.cells #[.int .i64 A.valid,.slice b0 bn0 bc0,.slice b1 bn1 bc1] 26 (0,0))):=KX
  have HB2:Hid (Below w.heap.size w (w1.alloc (.cells #[.int .i64 A.valid,.slice b0 bn0 bc0,.slice b1 bn1 bc1] 26))):=Below.step HB1.out AB
  have HO2:Hid (AccO (w1.alloc (.cells #[.int .i64 A.valid,.slice b0 bn0 bc0,.slice b1 bn1 bc1] 26)) (In (w.heap.size+3) w1.heap.size) (.agg #[.int .i64 A.valid,.slice b0 bn0 bc0,.slice b1 bn1 bc1]) A):=HO1.out.below AB
  generalize hw2:(w1.alloc (.cells #[.int .i64 A.valid,.slice b0 bn0 bc0,.slice b1 bn1 bc1] 26))=w2 at *
  clear hw2 KX AB HR1 HK1 KC1 HB1 HO1
  obtain ⟨c0,c1⟩:=bx2 HC2.out
  obtain ⟨x0,x1,x2⟩:=bx3 HX2.out
  have lx:=lt_of_heap HX2.out
  have lc:=lt_of_heap HC2.out
  by_cases z0:q=l.length
  case neg =>
   have t0:(q != (l.length:Int))=true:=by simpa using z0
   have HNO:Hid (okS l=false∧outS l=nilA):=rd_bad HOC.out HRD.out (.inl z0)
   obtain ⟨r0,r1,r2⟩:=bx3 HR2.out
   obtain ⟨rz,rl⟩:=box8z HR2.out
   have k0:=bx1' HK2.out
   obtain ⟨kz,kl⟩:=box8z HK2.out
   have KRf:((((w2.setCell ⟨w.heap.size,0,none⟩ (.int .i64 0)).setCell ⟨w.heap.size,1,none⟩ (.slice none 0 0)).setCell ⟨w.heap.size,2,none⟩ (.slice none 0 0)).setCell ⟨w.heap.size+1,0,none⟩ (.bool false)).heap[w.heap.size]?=some (.cells #[.int .i64 0,.slice none 0 0,.slice none 0 0] 26 (0,0)):=(box_other (k:=w.heap.size+1) (i:=0) (v:=.bool false) (box_set (i:=2) (v:=.slice none 0 0) (box_set (i:=1) (v:=.slice none 0 0) (box_set (i:=0) (v:=.int .i64 0) HR2.out))) (by omega))
   have KBf:((((w2.setCell ⟨w.heap.size,0,none⟩ (.int .i64 0)).setCell ⟨w.heap.size,1,none⟩ (.slice none 0 0)).setCell ⟨w.heap.size,2,none⟩ (.slice none 0 0)).setCell ⟨w.heap.size+1,0,none⟩ (.bool false)).heap[w.heap.size+1]?=some (.cells #[.bool false] 4 (0,0)):=(box_set (i:=0) (v:=.bool false) (box_other (k:=w.heap.size) (i:=2) (v:=.slice none 0 0) (box_other (k:=w.heap.size) (i:=1) (v:=.slice none 0 0) (box_other (k:=w.heap.size) (i:=0) (v:=.int .i64 0) HK2.out (by omega)) (by omega)) (by omega)))
   have HDf:Hid (Below w.heap.size w ((((w2.setCell ⟨w.heap.size,0,none⟩ (.int .i64 0)).setCell ⟨w.heap.size,1,none⟩ (.slice none 0 0)).setCell ⟨w.heap.size,2,none⟩ (.slice none 0 0)).setCell ⟨w.heap.size+1,0,none⟩ (.bool false))):=((((HB2.out.setCell (p:=⟨w.heap.size,0,none⟩) (Nat.le_refl _) (.int .i64 0)).setCell (p:=⟨w.heap.size,1,none⟩) (Nat.le_refl _) (.slice none 0 0)).setCell (p:=⟨w.heap.size,2,none⟩) (Nat.le_refl _) (.slice none 0 0)).setCell (p:=⟨w.heap.size+1,0,none⟩) (by simp) (.bool false))
   obtain ⟨e0,e1,e2⟩:=bx3 KRf
   have e3:=bx1' KBf
   clear KRf KBf
   clear z0
   go_wp2
   refine leaves_cons (f:=23) (args:=#[.pointer (some ⟨w.heap.size,0,none⟩),.pointer (some ⟨w.heap.size+1,0,none⟩)]) (by simp) (by simp [go_sem]) ?_
   refine (catch_idle _ _ _).mono ?_
   rintro e u' w'' ⟨rfl,rfl,rfl⟩
   refine ⟨.tuple #[.agg #[.int .i64 0,.slice none 0 0,.slice none 0 0],.bool false],by simp [results,Tryd.results8,go_sem,e0,e1,e2,e3],_,ret_ok HNO.out,?_,HDf.out⟩
   rw [HNO.out.2]
   exact ⟨_,_,fun _=>False,fun _=>False,rfl,.inl ⟨rfl,rfl⟩,.inl ⟨rfl,rfl⟩,(fun x hx=>hx.elim),(fun x hx=>hx.elim),⟨by decide,by decide⟩⟩
  have t0:(q != (l.length:Int))=false:=by simpa using z0
  go_wp2_with fail
  refine (implAccountOk_any _ A _ HO2.out.v).mono ?_
  rintro e w5 ⟨rfl,B5⟩
  have HR5:Hid (w5.heap[w.heap.size]?=some (.cells #[.int .i64 0,.slice none 0 0,.slice none 0 0] 26 (0,0))):=box_below B5 HR2.out
  have HK5:Hid (w5.heap[w.heap.size+1]?=some (.cells #[.bool false] 4 (0,0))):=box_below B5 HK2.out
  have HX5:Hid (w5.heap[w1.heap.size]?=some (.cells #[.int .i64 A.valid,.slice b0 bn0 bc0,.slice b1 bn1 bc1] 26 (0,0))):=box_below B5 HX2.out
  have HB5:Hid (Below w.heap.size w w5):=Below.step HB2.out B5
  have HO5:Hid (AccO w5 (In (w.heap.size+3) w1.heap.size) (.agg #[.int .i64 A.valid,.slice b0 bn0 bc0,.slice b1 bn1 bc1]) A):=HO2.out.below B5
  have l5:w1.heap.size < w5.heap.size:=Nat.lt_of_lt_of_le lx B5.size
  clear B5 HR2 HK2 HX2 HC2 HB2 HO2 c0 c1 x0 x1 x2 lx lc
  obtain ⟨r0,r1,r2⟩:=bx3 HR5.out
  obtain ⟨rz,rl⟩:=box8z HR5.out
  have k0:=bx1' HK5.out
  obtain ⟨kz,kl⟩:=box8z HK5.out
  obtain ⟨x0,x1,x2⟩:=bx3 HX5.out
  cases z1:accB A with
  | false =>
   have HNO:Hid (okS l=false∧outS l=nilA):=rd_bad HOC.out HRD.out (.inr z1)
   have KRf:((((w5.setCell ⟨w.heap.size,0,none⟩ (.int .i64 0)).setCell ⟨w.heap.size,1,none⟩ (.slice none 0 0)).setCell ⟨w.heap.size,2,none⟩ (.slice none 0 0)).setCell ⟨w.heap.size+1,0,none⟩ (.bool false)).heap[w.heap.size]?=some (.cells #[.int .i64 0,.slice none 0 0,.slice none 0 0] 26 (0,0)):=(box_other (k:=w.heap.size+1) (i:=0) (v:=.bool false) (box_set (i:=2) (v:=.slice none 0 0) (box_set (i:=1) (v:=.slice none 0 0) (box_set (i:=0) (v:=.int .i64 0) HR5.out))) (by omega))
   have KBf:((((w5.setCell ⟨w.heap.size,0,none⟩ (.int .i64 0)).setCell ⟨w.heap.size,1,none⟩ (.slice none 0 0)).setCell ⟨w.heap.size,2,none⟩ (.slice none 0 0)).setCell ⟨w.heap.size+1,0,none⟩ (.bool false)).heap[w.heap.size+1]?=some (.cells #[.bool false] 4 (0,0)):=(box_set (i:=0) (v:=.bool false) (box_other (k:=w.heap.size) (i:=2) (v:=.slice none 0 0) (box_other (k:=w.heap.size) (i:=1) (v:=.slice none 0 0) (box_other (k:=w.heap.size) (i:=0) (v:=.int .i64 0) HK5.out (by omega)) (by omega)) (by omega)))
   have HDf:Hid (Below w.heap.size w ((((w5.setCell ⟨w.heap.size,0,none⟩ (.int .i64 0)).setCell ⟨w.heap.size,1,none⟩ (.slice none 0 0)).setCell ⟨w.heap.size,2,none⟩ (.slice none 0 0)).setCell ⟨w.heap.size+1,0,none⟩ (.bool false))):=((((HB5.out.setCell (p:=⟨w.heap.size,0,none⟩) (Nat.le_refl _) (.int .i64 0)).setCell (p:=⟨w.heap.size,1,none⟩) (Nat.le_refl _) (.slice none 0 0)).setCell (p:=⟨w.heap.size,2,none⟩) (Nat.le_refl _) (.slice none 0 0)).setCell (p:=⟨w.heap.size+1,0,none⟩) (by simp) (.bool false))
   obtain ⟨e0,e1,e2⟩:=bx3 KRf
   have e3:=bx1' KBf
   clear KRf KBf
   clear z1 z0
   go_wp2
   refine leaves_cons (f:=23) (args:=#[.pointer (some ⟨w.heap.size,0,none⟩),.pointer (some ⟨w.heap.size+1,0,none⟩)]) (by simp) (by simp [go_sem]) ?_
   refine (catch_idle _ _ _).mono ?_
   rintro e u' w'' ⟨rfl,rfl,rfl⟩
   refine ⟨.tuple #[.agg #[.int .i64 0,.slice none 0 0,.slice none 0 0],.bool false],by simp [results,Tryd.results8,go_sem,e0,e1,e2,e3],_,ret_ok HNO.out,?_,HDf.out⟩
   rw [HNO.out.2]
   exact ⟨_,_,fun _=>False,fun _=>False,rfl,.inl ⟨rfl,rfl⟩,.inl ⟨rfl,rfl⟩,(fun x hx=>hx.elim),(fun x hx=>hx.elim),⟨by decide,by decide⟩⟩
  | true =>
   have HNO:Hid (okS l=true∧outS l=A):=rd_yes HOC.out HRD.out z0 z1
   have KRf:((((w5.setCell ⟨w.heap.size,0,none⟩ (.int .i64 A.valid)).setCell ⟨w.heap.size,1,none⟩ (.slice b0 bn0 bc0)).setCell ⟨w.heap.size,2,none⟩ (.slice b1 bn1 bc1)).setCell ⟨w.heap.size+1,0,none⟩ (.bool true)).heap[w.heap.size]?=some (.cells #[.int .i64 A.valid,.slice b0 bn0 bc0,.slice b1 bn1 bc1] 26 (0,0)):=(box_other (k:=w.heap.size+1) (i:=0) (v:=.bool true) (box_set (i:=2) (v:=.slice b1 bn1 bc1) (box_set (i:=1) (v:=.slice b0 bn0 bc0) (box_set (i:=0) (v:=.int .i64 A.valid) HR5.out))) (by omega))
   have KBf:((((w5.setCell ⟨w.heap.size,0,none⟩ (.int .i64 A.valid)).setCell ⟨w.heap.size,1,none⟩ (.slice b0 bn0 bc0)).setCell ⟨w.heap.size,2,none⟩ (.slice b1 bn1 bc1)).setCell ⟨w.heap.size+1,0,none⟩ (.bool true)).heap[w.heap.size+1]?=some (.cells #[.bool true] 4 (0,0)):=(box_set (i:=0) (v:=.bool true) (box_other (k:=w.heap.size) (i:=2) (v:=.slice b1 bn1 bc1) (box_other (k:=w.heap.size) (i:=1) (v:=.slice b0 bn0 bc0) (box_other (k:=w.heap.size) (i:=0) (v:=.int .i64 A.valid) HK5.out (by omega)) (by omega)) (by omega)))
   have HDf:Hid (Below w.heap.size w ((((w5.setCell ⟨w.heap.size,0,none⟩ (.int .i64 A.valid)).setCell ⟨w.heap.size,1,none⟩ (.slice b0 bn0 bc0)).setCell ⟨w.heap.size,2,none⟩ (.slice b1 bn1 bc1)).setCell ⟨w.heap.size+1,0,none⟩ (.bool true))):=((((HB5.out.setCell (p:=⟨w.heap.size,0,none⟩) (Nat.le_refl _) (.int .i64 A.valid)).setCell (p:=⟨w.heap.size,1,none⟩) (Nat.le_refl _) (.slice b0 bn0 bc0)).setCell (p:=⟨w.heap.size,2,none⟩) (Nat.le_refl _) (.slice b1 bn1 bc1)).setCell (p:=⟨w.heap.size+1,0,none⟩) (by simp) (.bool true))
   obtain ⟨e0,e1,e2⟩:=bx3 KRf
   have e3:=bx1' KBf
   clear KRf KBf
   have HAf:Hid (AccO ((((w5.setCell ⟨w.heap.size,0,none⟩ (.int .i64 A.valid)).setCell ⟨w.heap.size,1,none⟩ (.slice b0 bn0 bc0)).setCell ⟨w.heap.size,2,none⟩ (.slice b1 bn1 bc1)).setCell ⟨w.heap.size+1,0,none⟩ (.bool true)) (In w.heap.size ((((w5.setCell ⟨w.heap.size,0,none⟩ (.int .i64 A.valid)).setCell ⟨w.heap.size,1,none⟩ (.slice b0 bn0 bc0)).setCell ⟨w.heap.size,2,none⟩ (.slice b1 bn1 bc1)).setCell ⟨w.heap.size+1,0,none⟩ (.bool true)).heap.size) (.agg #[.int .i64 A.valid,.slice b0 bn0 bc0,.slice b1 bn1 bc1]) A):=(AccO.frame HO5.out (fun b hb hlt=>by have:=hb.1;rw [Below.heap_setCell _ _ _ _ (show b≠w.heap.size+1 by omega),Below.heap_setCell _ _ _ _ (show b≠w.heap.size by omega),Below.heap_setCell _ _ _ _ (show b≠w.heap.size by omega),Below.heap_setCell _ _ _ _ (show b≠w.heap.size by omega)])).mono (fun b hb=>⟨by have:=hb.1;omega,by have:=hb.2;simp only [box_size];omega⟩)
   clear z1 z0
   go_wp2
   refine leaves_cons (f:=23) (args:=#[.pointer (some ⟨w.heap.size,0,none⟩),.pointer (some ⟨w.heap.size+1,0,none⟩)]) (by simp) (by simp [go_sem]) ?_
   refine (catch_idle _ _ _).mono ?_
   rintro e u' w'' ⟨rfl,rfl,rfl⟩
   refine ⟨.tuple #[.agg #[.int .i64 A.valid,.slice b0 bn0 bc0,.slice b1 bn1 bc1],.bool true],by simp [results,Tryd.results8,go_sem,e0,e1,e2,e3],_,ret_ok HNO.out,?_,HDf.out⟩
   rw [HNO.out.2]
   exact HAf.out

end Go.Proofs.YtnlhkgoppjejeaaDoor

/- What cutNum of package impl does. -/
namespace Go.Proofs.YtnlhkgoppjejeaaDoor
open Go.RowKit
set_option maxRecDepth 100000

theorem or128_fin:∀ x:Fin 256,bits BinOp.or IntKind.u8 (x.val:Int) 128=(x.val:Int) % 128+128:=by decide +kernel
theorem or128 (x:Int):bits BinOp.or IntKind.u8 (x % 256) 128=x % 128+128:=by
 have h:=or128_fin ⟨(x % 256).toNat,by omega⟩
 simp only at h
 rw [show (((x % 256).toNat:Nat):Int)=x % 256 by omega] at h
 rw [h];omega

set_option maxHeartbeats 1000000 in
theorem cutNum_1 (n:Int) (w:World) (h0:0≤n) (h1:n < 128) :
  Calls Tryd.prog 53 #[.int .u32 n] w fun e w'=>e=.returned (.tuple #[.agg #[.int .u8 (n),.int .u8 (0),.int .u8 (0),.int .u8 (0),.int .u8 (0)],.int .i64 1])∧Below w.heap.size w w':=by
 go_enter Tryd.func53,Tryd.ntmps53
 go_wp2
 refine wp_loop_rounds 1 ?_
 rw [rounds_succ]
 go_wp2
 refine bodyPost_ret (v:=.tuple #[.agg #[.int .u8 (n),.int .u8 (0),.int .u8 (0),.int .u8 (0),.int .u8 (0)],.int .i64 1]) (by simp [results,Tryd.results53,go_sem]) rfl ⟨rfl,?_⟩
 exact ((Below.refl _ _).alloc (Nat.le_refl _) _).alloc (by simp) _

set_option maxHeartbeats 1000000 in
theorem cutNum_2 (n:Int) (w:World) (h0:128≤n) (h1:n < 16384) :
  Calls Tryd.prog 53 #[.int .u32 n] w fun e w'=>e=.returned (.tuple #[.agg #[.int .u8 ((n) % 128+128),.int .u8 (n / 128),.int .u8 (0),.int .u8 (0),.int .u8 (0)],.int .i64 2])∧Below w.heap.size w w':=by
 go_enter Tryd.func53,Tryd.ntmps53
 go_wp2
 refine wp_loop_rounds 2 ?_
 rw [rounds_succ]
 go_wp2
 rw [rounds_succ]
 go_wp2
 refine bodyPost_ret (v:=.tuple #[.agg #[.int .u8 (bits BinOp.or IntKind.u8 (n % 256) 128),.int .u8 (n / 128),.int .u8 (0),.int .u8 (0),.int .u8 (0)],.int .i64 2]) (by simp [results,Tryd.results53,go_sem]) rfl ⟨by simp only [or128],?_⟩
 exact ((Below.refl _ _).alloc (Nat.le_refl _) _).alloc (by simp) _

set_option maxHeartbeats 1000000 in
theorem cutNum_3 (n:Int) (w:World) (h0:16384≤n) (h1:n < 2097152) :
  Calls Tryd.prog 53 #[.int .u32 n] w fun e w'=>e=.returned (.tuple #[.agg #[.int .u8 ((n) % 128+128),.int .u8 ((n / 128) % 128+128),.int .u8 (n / 128 / 128),.int .u8 (0),.int .u8 (0)],.int .i64 3])∧Below w.heap.size w w':=by
 go_enter Tryd.func53,Tryd.ntmps53
 go_wp2
 refine wp_loop_rounds 3 ?_
 rw [rounds_succ]
 go_wp2
 rw [rounds_succ]
 go_wp2
 rw [rounds_succ]
 go_wp2
 refine bodyPost_ret (v:=.tuple #[.agg #[.int .u8 (bits BinOp.or IntKind.u8 (n % 256) 128),.int .u8 (bits BinOp.or IntKind.u8 ((n / 128) % 256) 128),.int .u8 (n / 128 / 128),.int .u8 (0),.int .u8 (0)],.int .i64 3]) (by simp [results,Tryd.results53,go_sem]) rfl ⟨by simp only [or128],?_⟩
 exact ((Below.refl _ _).alloc (Nat.le_refl _) _).alloc (by simp) _

set_option maxHeartbeats 1000000 in
theorem cutNum_4 (n:Int) (w:World) (h0:2097152≤n) (h1:n < 268435456) :
  Calls Tryd.prog 53 #[.int .u32 n] w fun e w'=>e=.returned (.tuple #[.agg #[.int .u8 ((n) % 128+128),.int .u8 ((n / 128) % 128+128),.int .u8 ((n / 128 / 128) % 128+128),.int .u8 (n / 128 / 128 / 128),.int .u8 (0)],.int .i64 4])∧Below w.heap.size w w':=by
 go_enter Tryd.func53,Tryd.ntmps53
 go_wp2
 refine wp_loop_rounds 4 ?_
 rw [rounds_succ]
 go_wp2
 rw [rounds_succ]
 go_wp2
 rw [rounds_succ]
 go_wp2
 rw [rounds_succ]
 go_wp2
 refine bodyPost_ret (v:=.tuple #[.agg #[.int .u8 (bits BinOp.or IntKind.u8 (n % 256) 128),.int .u8 (bits BinOp.or IntKind.u8 ((n / 128) % 256) 128),.int .u8 (bits BinOp.or IntKind.u8 ((n / 128 / 128) % 256) 128),.int .u8 (n / 128 / 128 / 128),.int .u8 (0)],.int .i64 4]) (by simp [results,Tryd.results53,go_sem]) rfl ⟨by simp only [or128],?_⟩
 exact ((Below.refl _ _).alloc (Nat.le_refl _) _).alloc (by simp) _

set_option maxHeartbeats 1000000 in
theorem cutNum_5 (n:Int) (w:World) (h0:268435456≤n) (h1:n < 2147483648) :
  Calls Tryd.prog 53 #[.int .u32 n] w fun e w'=>e=.returned (.tuple #[.agg #[.int .u8 ((n) % 128+128),.int .u8 ((n / 128) % 128+128),.int .u8 ((n / 128 / 128) % 128+128),.int .u8 ((n / 128 / 128 / 128) % 128+128),.int .u8 (n / 128 / 128 / 128 / 128)],.int .i64 5])∧Below w.heap.size w w':=by
 go_enter Tryd.func53,Tryd.ntmps53
 go_wp2
 refine wp_loop_rounds 5 ?_
 rw [rounds_succ]
 go_wp2
 rw [rounds_succ]
 go_wp2
 rw [rounds_succ]
 go_wp2
 rw [rounds_succ]
 go_wp2
 rw [rounds_succ]
 go_wp2
 refine bodyPost_ret (v:=.tuple #[.agg #[.int .u8 (bits BinOp.or IntKind.u8 (n % 256) 128),.int .u8 (bits BinOp.or IntKind.u8 ((n / 128) % 256) 128),.int .u8 (bits BinOp.or IntKind.u8 ((n / 128 / 128) % 256) 128),.int .u8 (bits BinOp.or IntKind.u8 ((n / 128 / 128 / 128) % 256) 128),.int .u8 (n / 128 / 128 / 128 / 128)],.int .i64 5]) (by simp [results,Tryd.results53,go_sem]) rfl ⟨by simp only [or128],?_⟩
 exact ((Below.refl _ _).alloc (Nat.le_refl _) _).alloc (by simp) _

/-- The five bytes that cutNum answers hold the number's bytes, as many as it says. -/
theorem cutNum_any (n:Int) (w:World) (h0:0≤n) (h1:n≤2147483647) :
  Calls Tryd.prog 53 #[.int .u32 n] w fun e w'=>∃ (c0 c1 c2 c3 c4:Int) (k:Nat),e=.returned (.tuple #[.agg #[.int .u8 c0,.int .u8 c1,.int .u8 c2,.int .u8 c3,.int .u8 c4],.int .i64 k]) ∧
   k≤5∧Oct [c0,c1,c2,c3,c4]∧enc 4 n=[c0,c1,c2,c3,c4].take k∧Below w.heap.size w w':=by
 by_cases g1:n < 128
 ·refine (cutNum_1 n w (by omega) (by omega)).mono ?_
  rintro e w' ⟨rfl,hb⟩
  exact ⟨_,_,_,_,_,1,rfl,by omega,by simp [Oct];omega,by rw [enc_lo 4 (n) (by omega)];rfl,hb⟩
 by_cases g2:n < 16384
 ·refine (cutNum_2 n w (by omega) (by omega)).mono ?_
  rintro e w' ⟨rfl,hb⟩
  exact ⟨_,_,_,_,_,2,rfl,by omega,by simp [Oct];omega,by rw [enc_hi 3 (n) (by omega),enc_lo 3 (n / 128) (by omega)];rfl,hb⟩
 by_cases g3:n < 2097152
 ·refine (cutNum_3 n w (by omega) (by omega)).mono ?_
  rintro e w' ⟨rfl,hb⟩
  exact ⟨_,_,_,_,_,3,rfl,by omega,by simp [Oct];omega,by rw [enc_hi 3 (n) (by omega),enc_hi 2 (n / 128) (by omega),enc_lo 2 (n / 128 / 128) (by omega)];rfl,hb⟩
 by_cases g4:n < 268435456
 ·refine (cutNum_4 n w (by omega) (by omega)).mono ?_
  rintro e w' ⟨rfl,hb⟩
  exact ⟨_,_,_,_,_,4,rfl,by omega,by simp [Oct];omega,by rw [enc_hi 3 (n) (by omega),enc_hi 2 (n / 128) (by omega),enc_hi 1 (n / 128 / 128) (by omega),enc_lo 1 (n / 128 / 128 / 128) (by omega)];rfl,hb⟩
 refine (cutNum_5 n w (by omega) (by omega)).mono ?_
 rintro e w' ⟨rfl,hb⟩
 exact ⟨_,_,_,_,_,5,rfl,by omega,by simp [Oct];omega,by rw [enc_hi 3 (n) (by omega),enc_hi 2 (n / 128) (by omega),enc_hi 1 (n / 128 / 128) (by omega),enc_hi 0 (n / 128 / 128 / 128) (by omega),enc_lo 0 (n / 128 / 128 / 128 / 128) (by omega)];rfl,hb⟩

end Go.Proofs.YtnlhkgoppjejeaaDoor

/- What PutNum of package impl does. -/
namespace Go.Proofs.YtnlhkgoppjejeaaDoor
open Go.RowKit
set_option maxRecDepth 100000

/-- A cut of an array of five bytes, from its beginning on. -/
theorem run_sliceAt5 (k:Nat) (hk:k≤5) (a:Addr) (W:World):(Instr.sliceAt 88 (.pointer (some a)) none (some (.int .i64 k)) none).run Tryd.prog W=.ok (.slice (some a) k 5) W:=by
 have harr:Tryd.prog.arrayLen 88=5:=by kernel_rfl
 have hel:Tryd.prog.elem 88=5:=by kernel_rfl
 rw [run_sliceAt_array_h (P:=Tryd.prog) W 88 a (by kernel_rfl) .i64 k (by omega) (by rw [harr];omega),hel,size5,harr]
 simp [Result.andThen,slicedAt,Addr.add]
/-- Five bytes in a block of their own, and a cut of them. -/
theorem bs_five (w:World) (c0 c1 c2 c3 c4:Int) (k:Nat) (hk:k≤5) (ho:Oct [c0,c1,c2,c3,c4]) :
  Bs (w.alloc (.cells #[.int .u8 c0,.int .u8 c1,.int .u8 c2,.int .u8 c3,.int .u8 c4] 88)) (.slice (some ⟨w.heap.size,0,none⟩) k 5) ([c0,c1,c2,c3,c4].take k):=by
 have hl:([c0,c1,c2,c3,c4].take k).length=k:=by simp;omega
 refine ⟨oct_take ho k,_,5,by rw [hl],by rw [hl];exact hk,by decide,(fun h=>by cases h),fun _=>⟨w.heap.size,0,rfl,by simp,fun i hi=>?_⟩⟩
 rw [hl] at hi
 have e:(w.alloc (.cells #[.int .u8 c0,.int .u8 c1,.int .u8 c2,.int .u8 c3,.int .u8 c4] 88)).cell? ⟨w.heap.size,0+i,none⟩=(vals [c0,c1,c2,c3,c4])[i]?:=by
  rw [Nat.zero_add,cell_of_row _ _ i _ _ _ (heap_alloc_new w _)];simp [vals]
 rw [e,vals_get _ _ (by simp;omega)]
 simp [hi]

set_option maxHeartbeats 400000 in
theorem implPutNum_any (v:Value) (l:List Int) (n:Int) (w:World) (hv:Bs w v l) (hl:l.length≤2000000) (hn0 : -9223372036854775808≤n) (hn1:n≤9223372036854775807) :
  Calls Tryd.prog 32 #[v,.int .i64 n] w fun e w'=>∃ u,e=.returned u∧OwnB w' w.heap.size u (putL l n)∧Below w.heap.size w w':=by
 have HV:Hid (Bs w v l):=hv
 clear hv
 by_cases hb:0≤n∧n≤2147483647
 ·obtain ⟨hb0,hb1⟩:=hb
  have HP:Hid (putL l n=l ++ enc 4 n):=by simp [Hid,putL,hb0,hb1]
  go_enter Tryd.func32,Tryd.ntmps32
  go_wp2_with fail
  refine (cutNum_any n _ hb0 hb1).mono ?_
  rintro e w1 ⟨c0,c1,c2,c3,c4,k,rfl,hk,ho,he,hB⟩
  have HO:Hid (Oct [c0,c1,c2,c3,c4]):=ho
  have HE:Hid (enc 4 n=[c0,c1,c2,c3,c4].take k):=he
  clear ho he
  have hsl:=run_sliceAt5 k hk
  have hsz:=hB.size
  go_wp2_with fail
  refine (joined_any v _ l _ _ ((HV.out.below hB).alloc _) (bs_five w1 c0 c1 c2 c3 c4 k hk HO.out) (by omega) (by simp;omega)).mono ?_
  rintro e w2 ⟨u,rfl,hO,hB2⟩
  have HO2:Hid (OwnB w2 w.heap.size u (putL l n)):=by
   rw [HP.out,HE.out]
   obtain ⟨g,hg,hg'⟩:=hO
   exact ⟨g,Nat.le_trans (Nat.le_trans hsz (by simp)) hg,hg'⟩
  have HB2:Hid (Below w.heap.size w w2):=(hB.alloc hsz _).trans (hB2.mono (by simp;omega))
  clear hO hB2
  go_wp2
  go_ret
  exact ⟨_,rfl,HO2.out,HB2.out⟩
 ·have HP:Hid (putL l n=l):=by simp [Hid,putL];omega
  by_cases hneg:n < 0
  all_goals
   go_enter Tryd.func32,Tryd.ntmps32
   go_wp2_with fail
   refine (joined_any v _ l [] _ HV.out (bs_nil _) (by omega) (by simp)).mono ?_
   rintro e w1 ⟨u,rfl,hO,hB⟩
   have HO:Hid (OwnB w1 w.heap.size u (putL l n)):=by rw [HP.out];simpa [Hid] using hO
   clear hO
   go_wp2
   go_ret
   exact ⟨_,rfl,HO.out,hB⟩

theorem implPutNum_r (v:Value) (l:List Int) (n:Int) (w:World) (hv:Bs w v l) (hl:l.length≤2000000) (hn0 : -9223372036854775808≤n) (hn1:n≤9223372036854775807) :
  Calls Tryd.prog 32 #[v,.int .i64 n] w fun e w'=>∃ u,e=.returned u∧Row w' w.heap.size w'.heap.size u (putL l n)∧Below w.heap.size w w' :=
 (implPutNum_any v l n w hv hl hn0 hn1).mono fun _ _ ⟨u,h1,h2,h3⟩=>⟨u,h1,h2.toRow,h3⟩

end Go.Proofs.YtnlhkgoppjejeaaDoor

/- What PutText of package impl does. -/
namespace Go.Proofs.YtnlhkgoppjejeaaDoor
open Go.RowKit
set_option maxRecDepth 100000

set_option maxHeartbeats 400000 in
theorem implPutText_r (v u:Value) (l t:List Int) (w:World) (hv:Bs w v l) (hu:Bs w u t) (hl:l.length≤2000000) (ht:t.length≤2000000) :
  Calls Tryd.prog 33 #[v,u] w fun e w'=>∃ r,e=.returned r∧Row w' w.heap.size w'.heap.size r (putTL l t)∧Below w.heap.size w w':=by
 have HV:Hid (Bs w v l):=hv
 have HU:Hid (Bs w u t):=hu
 obtain ⟨a,cap,rfl⟩:∃ a cap,u=.slice a t.length cap:=by obtain ⟨_,a,cap,h,_⟩:=hu;exact ⟨a,cap,h⟩
 clear hv hu
 by_cases hb:30 < t.length
 ·have hb':(30:Int) < (t.length:Int):=by omega
  have HP:Hid (putTL l t=l):=by simp [Hid,putTL,hb]
  go_enter Tryd.func33,Tryd.ntmps33
  go_wp2_with fail
  refine (joined_r v _ l [] _ HV.out (bs_nil _) (by omega) (by simp)).mono ?_
  rintro e w1 ⟨r,rfl,R,B⟩
  have HR:Hid (Row w1 w.heap.size w1.heap.size r (putTL l t)):=by rw [HP.out];simpa [Hid] using R
  clear R
  go_wp2
  go_ret
  exact ⟨_,rfl,HR.out,B⟩
 ·have hb':¬ (30:Int) < (t.length:Int):=by omega
  have HP:Hid (putTL l t=putL l t.length ++ t):=by simp [Hid,putTL,hb]
  have hpl:=putL_length l t.length
  go_enter Tryd.func33,Tryd.ntmps33
  go_wp2_with fail
  refine (implPutNum_r v l t.length _ HV.out hl (by omega) (by omega)).mono ?_
  rintro e w1 ⟨u1,rfl,R1,B1⟩
  have HUU:Hid (Bs w1 (.slice a t.length cap) t):=HU.out.below B1
  go_wp2_with fail
  refine (joined_r u1 _ _ t _ R1.bs HUU.out (by omega) (by omega)).mono ?_
  rintro e w2 ⟨r,rfl,R,B⟩
  have HR:Hid (Row w2 w.heap.size w2.heap.size r (putTL l t)):=by rw [HP.out];exact R.wide B1.size (Nat.le_refl _)
  have HB:Hid (Below w.heap.size w w2):=Below.step B1 B
  clear R R1 B B1
  go_wp2
  go_ret
  exact ⟨_,rfl,HR.out,HB.out⟩

end Go.Proofs.YtnlhkgoppjejeaaDoor

/- What stays while bytes of the call's own are put behind one another: all below B, and all that are no bytes. -/
namespace Go.Proofs.YtnlhkgoppjejeaaDoor
open Go.RowKit

structure Tw (B:Nat) (w w':World):Prop where
 below:Below B w w'
 typed:∀ (b:Nat) (c:Array Value) (t:TypeId) (f:Nat × Nat),t≠5→w.heap[b]?=some (Obj.cells c t f)→w'.heap[b]?=some (Obj.cells c t f)

theorem Tw.refl (B:Nat) (w:World):Tw B w w:=⟨Below.refl _ _,fun _ _ _ _ _ h=>h⟩
theorem Tw.trans {B:Nat} {a b c:World} (h:Tw B a b) (k:Tw B b c):Tw B a c:=⟨h.below.trans k.below,fun i cs t f ht hc=>k.typed i cs t f ht (h.typed i cs t f ht hc)⟩
theorem Tw.of_below {B:Nat} {w w':World} (hB:B≤w.heap.size) (h:Below w.heap.size w w'):Tw B w w':=⟨h.mono hB,fun b _ _ _ _ hb=>(h.block b (lt_of_heap hb)).trans hb⟩
theorem Tw.alloc {B:Nat} {w:World} (hB:B≤w.heap.size) (o:Obj):Tw B w (w.alloc o):=Tw.of_below hB ((Below.refl _ _).alloc (Nat.le_refl _) o)
theorem Tw.grown {B:Nat} {w w':World} {v:Value} {l:List Int} (hv:OwnB w B v l) (hB:B≤w.heap.size) (hg:w.grownBy w' v.ownBlock):Tw B w w':=by
 refine ⟨(Below.refl B w).grown hg hB (fun k hk=>(hv.row.lt k hk).1),fun b c t f ht hb=>(hg.block b (lt_of_heap hb) fun e=>?_).trans hb⟩
 obtain ⟨g,_,_,⟨rfl,_⟩ | ⟨cap,cur,rfl,hh,_⟩⟩:=hv
 ·simp [Value.ownBlock] at e
 ·simp only [Value.ownBlock,Option.some.injEq] at e
  subst e
  rw [hb] at hh
  simp only [Option.some.injEq,Obj.cells.injEq] at hh
  exact ht hh.2.1
theorem Tw.size {B:Nat} {w w':World} (h:Tw B w w'):w.heap.size≤w'.heap.size:=h.below.size
theorem Tw.box {B g:Nat} {w w':World} {c:Array Value} {t:TypeId} (h:Tw B w w') (ht:t≠5) (hb:w.heap[g]?=some (.cells c t (0,0))):w'.heap[g]?=some (.cells c t (0,0)):=h.typed g c t _ ht hb
theorem OwnB.nil' (w:World) (B:Nat):OwnB w B (.slice none 0 0) []:=⟨B,Nat.le_refl _,oct_nil,.inl ⟨rfl,rfl⟩⟩

end Go.Proofs.YtnlhkgoppjejeaaDoor

/- What putNums of package impl does. -/
namespace Go.Proofs.YtnlhkgoppjejeaaDoor
open Go.RowKit
set_option maxRecDepth 100000
set_option linter.unusedVariables false

theorem implPutNum_b (v:Value) (l:List Int) (n:Int) (w:World) (hv:Bs w v l) (hl:l.length≤2000000) (hn:I64 n) :
  Calls Tryd.prog 32 #[v,.int .i64 n] w fun e w'=>∃ u,e=.returned u∧Row w' w.heap.size w'.heap.size u (l ++ numB n)∧Below w.heap.size w w':=by
 refine (implPutNum_r v l n w hv hl hn.1 hn.2).mono ?_
 rintro e w' ⟨u,rfl,R,B⟩
 rw [putL_eq] at R
 exact ⟨u,rfl,R,B⟩
theorem implPutText_b (v u:Value) (l t:List Int) (w:World) (hv:Bs w v l) (hu:Bs w u t) (hl:l.length≤2000000) (ht:t.length≤2000000) :
  Calls Tryd.prog 33 #[v,u] w fun e w'=>∃ r,e=.returned r∧Row w' w.heap.size w'.heap.size r (l ++ txB t)∧Below w.heap.size w w':=by
 refine (implPutText_r v u l t w hv hu hl ht).mono ?_
 rintro e w' ⟨u,rfl,R,B⟩
 rw [putTL_eq] at R
 exact ⟨u,rfl,R,B⟩
theorem bs_none (w:World):Bs w (.slice none 0 0) []:=⟨oct_nil,none,0,rfl,by simp,by simp,fun _=>rfl,fun h=>by simp at h⟩

set_option maxHeartbeats 1000000 in
theorem putNums_b (B:Nat) (v nv:Value) (l ns:List Int) (w:World) (hv:OwnB w B v l) (hB:B≤w.heap.size) (hn:∀ wi,Tw B w wi→IntsV wi nv ns) (hl:l.length≤1000000) (hns:ns.length≤1000) :
  Calls Tryd.prog 14 #[v,nv] w fun e w'=>∃ u,e=.returned u∧OwnB w' B u (l ++ numsB ns)∧Tw B w w':=by
 have HN:Hid (∀ wi,Tw B w wi→IntsV wi nv ns):=hn
 have HV:Hid (OwnB w B v (l ++ numsB (ns.take 0))):=by simpa [Hid,numsB] using hv
 obtain ⟨a,cap,rfl,m0,m1⟩:=(hn w (Tw.refl _ _)).form
 clear hn
 obtain ⟨va,vn,vc,rfl⟩:=hv.bs.form3
 clear hv
 obtain ⟨i0,hi,hz0,hz1,hz2⟩:=info_parts info5
 go_enter Tryd.func14,Tryd.ntmps14
 go_wp2
 go_loopw [0,9] (fun out i wr=>∃ k:Nat,k≤ns.length∧i=.int .i64 k∧Hid (OwnB wr B out (l ++ numsB (ns.take k)))∧Hid (Tw B w wr)) (fun _ i _=>ns.length - (intOf i).toNat)
 case atStart=>exact ⟨0,Nat.zero_le _,rfl,HV,Tw.refl _ _⟩
 case round =>
  clear HV
  obtain ⟨k,hk,rfl,hO,hT⟩:=hrel
  have hsz:=hT.out.size
  by_cases hlt:k < ns.length
  ·obtain ⟨n,hn⟩:∃ n,ns[k]?=some n:=⟨ns[k],List.getElem?_eq_getElem hlt⟩
   obtain ⟨b,off,cap',hv',hlb,d0,j0⟩:=IntsV.cell (HN.out wr hT.out) k n hn
   simp only [Value.slice.injEq,true_and] at hv'
   obtain ⟨rfl,rfl⟩:=hv'
   have HST:Hid (numsB (ns.take (k+1))=numsB (ns.take k) ++ numB n):=flat_step numB hn
   have g0:=numB_len n
   have g1:=nums_len (ns.take k)
   have g2:(ns.take k).length≤1000:=by simp;omega
   clear hn
   go_wp2_with fail
   refine (implPutNum_b _ [] n _ (bs_none _) (by simp) j0).mono ?_
   rintro e w1 ⟨r1,rfl,R1,B1⟩
   have HO1:Hid (OwnB w1 B _ (l ++ numsB (ns.take k))):=hO.out.below B1
   have HT1:Hid (Tw B w w1):=hT.out.trans (Tw.of_below (by omega) B1)
   have HR1:Hid (Bs w1 r1 (numB n)):=by simpa [Hid] using R1.bs
   have s1:=B1.size
   clear R1 B1 d0
   go_wp2_with (at_builtin;refine wpList_append_bytes rfl (.tmp 13) (.tmp 15) 22 rfl i0 Tryd.underlying22 hi hz0 hz1 hz2 B _ _ rfl HO1.out _ (numB n) rfl HR1.out (by simp only [List.length_append];omega) (by omega) w1 (Below.refl _ _) ?_)
   intro v2 w2 hO2 hB2 hG2
   have HO2:Hid (OwnB w2 B v2 (l ++ numsB (ns.take (k+1)))):=by rw [HST.out];exact hO2
   have HT2:Hid (Tw B w w2):=HT1.out.trans (Tw.grown HO1.out (by omega) hG2)
   clear hO2 hB2 hG2 HO1 HT1 HR1 hO hT HST
   go_wp2
   go_roundw
   case rel=>exact ⟨k+1,by omega,by go_num,HO2,HT2⟩
   case measure=>simp [intOf];omega
  ·obtain rfl:k=ns.length:=by omega
   go_wp2
   go_ret
   have ho:=hO.out
   rw [List.take_length] at ho
   exact ⟨_,rfl,ho,hT.out⟩

end Go.Proofs.YtnlhkgoppjejeaaDoor
