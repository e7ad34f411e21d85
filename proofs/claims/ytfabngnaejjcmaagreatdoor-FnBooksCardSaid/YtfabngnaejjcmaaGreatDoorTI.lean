/- The proof's texts, part 44. -/
import Derived.Test.YtfabngnaejjcmaaGreatDoorTG
import Derived.Test.YtfabngnaejjcmaaGreatDoorTH
namespace Go.Proofs.YtfabngnaejjcmaaGreatDoor
open Go.RowKit
set_option linter.unusedVariables false
set_option linter.unusedSimpArgs false
set_option maxHeartbeats 4000000
set_option maxRecDepth 100000
/- What alL, applies, alM of package impl do. -/
theorem ahh (us:Int) (n ck uid mode fl si valid:Int) (a0 a1 a2 a3 a4:Option Addr) (n0 n1 n2 n3 n4 c0 c1 c2 c3 c4:Nat) (w:World) :
  Calls Tryz.prog 31 #[.agg #[.int .i64 6,.int .i64 us,.int .i64 n,.int .i64 ck,.slice a0 n0 c0,.slice a1 n1 c1,.int .i64 uid,.int .i64 mode,.int .i64 fl,.int .i64 si,.slice a2 n2 c2,.int .i64 valid,.slice a3 n3 c3,.slice a4 n4 c4]] w λe w'=>e=.returned (.iface 123 (.agg #[.int .i64 n]))/\Below w.heap.size w w':=by
 have HX:Hid (∀o,Below w.heap.size w (w.alloc o)):=λo=>bn _ o
 go_enter Tryz.func31,Tryz.ntmps31;go_wp2;go_ret;exact⟨rfl,HX.out _⟩
theorem ahi (us:Int) (n ck uid mode fl si valid:Int) (a0 a1 a2 a3 a4:Option Addr) (n0 n1 n2 n3 n4 c0 c1 c2 c3 c4:Nat) (w:World) :
  Calls Tryz.prog 31 #[.agg #[.int .i64 7,.int .i64 us,.int .i64 n,.int .i64 ck,.slice a0 n0 c0,.slice a1 n1 c1,.int .i64 uid,.int .i64 mode,.int .i64 fl,.int .i64 si,.slice a2 n2 c2,.int .i64 valid,.slice a3 n3 c3,.slice a4 n4 c4]] w λe w'=>e=.returned (.iface 125 (.agg #[]))/\Below w.heap.size w w':=by
 have HX:Hid (∀o,Below w.heap.size w (w.alloc o)):=λo=>bn _ o
 go_enter Tryz.func31,Tryz.ntmps31;go_wp2;go_ret;exact⟨rfl,HX.out _⟩
theorem ahj (us:Int) (n ck uid mode fl si valid:Int) (a0 a1 a2 a3 a4:Option Addr) (n0 n1 n2 n3 n4 c0 c1 c2 c3 c4:Nat) (w:World) :
  Calls Tryz.prog 31 #[.agg #[.int .i64 8,.int .i64 us,.int .i64 n,.int .i64 ck,.slice a0 n0 c0,.slice a1 n1 c1,.int .i64 uid,.int .i64 mode,.int .i64 fl,.int .i64 si,.slice a2 n2 c2,.int .i64 valid,.slice a3 n3 c3,.slice a4 n4 c4]] w λe w'=>e=.returned (.iface 126 (.agg #[]))/\Below w.heap.size w w':=by
 have HX:Hid (∀o,Below w.heap.size w (w.alloc o)):=λo=>bn _ o
 go_enter Tryz.func31,Tryz.ntmps31;go_wp2;go_ret;exact⟨rfl,HX.out _⟩
def mD (x:bH) (n:Int):Bool:=(!x.moving) && ((n != x.owner) && (decide (x.tr < 1000000) && decide (x.epoch < 1000000)))
theorem Yp (x:bH) (n:Int) (w:World) :
  Calls Tryz.prog 345 #[.agg #[.int .i64 n],.agg #[.int .i64 x.epoch,.int .i64 x.owner,.bool x.moving,.int .i64 x.tr,.int .i64 x.target]] w λe w'=>e=.returned (.bool (mD x n))/\Below w.heap.size w w':=by
 obtain⟨-,-,X⟩:=mE w (.cells #[.int .i64 n] 123) (.cells #[.int .i64 x.epoch,.int .i64 x.owner,.bool x.moving,.int .i64 x.tr,.int .i64 x.target] 33);have HX:Hid _:=X;clear X;obtain⟨ep,ow,mv,tr,tg⟩:=x;cases mv
 ·by_cases h1:n=ow
  ·have HC:Hid (mD ⟨ep,ow,false,tr,tg⟩ n=false):=by simp[Hid,mD,h1]
   have t1:(n != ow)=false:=by simp[h1]
   clear h1
   go_enter Tryz.func345,Tryz.ntmps345;go_wp2;go_ret;exact⟨aN HC.out,HX.out⟩
  ·by_cases h2:tr < 1000000
   ·by_cases h3:ep < 1000000
    ·have HC:Hid (mD ⟨ep,ow,false,tr,tg⟩ n=true):=by simp[Hid,mD,h1,h2,h3]
     have t1:(n != ow)=true:=by simp[h1]
     clear h1
     go_enter Tryz.func345,Tryz.ntmps345;go_wp2;go_ret;exact⟨aN HC.out,HX.out⟩
    ·have HC:Hid (mD ⟨ep,ow,false,tr,tg⟩ n=false):=by simp[Hid,mD,h3]
     have t1:(n != ow)=true:=by simp[h1]
     clear h1
     go_enter Tryz.func345,Tryz.ntmps345;go_wp2;go_ret;exact⟨aN HC.out,HX.out⟩
   ·have HC:Hid (mD ⟨ep,ow,false,tr,tg⟩ n=false):=by simp[Hid,mD,h2]
    have t1:(n != ow)=true:=by simp[h1]
    clear h1
    go_enter Tryz.func345,Tryz.ntmps345;go_wp2;go_ret;exact⟨aN HC.out,HX.out⟩
 ·have HC:Hid (mD ⟨ep,ow,true,tr,tg⟩ n=false):=by simp[Hid,mD]
  go_enter Tryz.func345,Tryz.ntmps345;go_wp2;go_ret;exact⟨aN HC.out,HX.out⟩
theorem Yq (x:bH) (w:World) :
  Calls Tryz.prog 346 #[.agg #[],.agg #[.int .i64 x.epoch,.int .i64 x.owner,.bool x.moving,.int .i64 x.tr,.int .i64 x.target]] w λe w'=>e=.returned (.bool x.moving)/\Below w.heap.size w w':=by
 obtain⟨-,-,X⟩:=mE w (.cells #[] 125) (.cells #[.int .i64 x.epoch,.int .i64 x.owner,.bool x.moving,.int .i64 x.tr,.int .i64 x.target] 33);have HX:Hid _:=X;clear X
 go_enter Tryz.func346,Tryz.ntmps346;go_wp2;go_ret;exact⟨rfl,HX.out⟩
theorem Yr (x:bH) (w:World) :
  Calls Tryz.prog 347 #[.agg #[],.agg #[.int .i64 x.epoch,.int .i64 x.owner,.bool x.moving,.int .i64 x.tr,.int .i64 x.target]] w λe w'=>e=.returned (.bool x.moving)/\Below w.heap.size w w':=by
 obtain⟨-,-,X⟩:=mE w (.cells #[] 126) (.cells #[.int .i64 x.epoch,.int .i64 x.owner,.bool x.moving,.int .i64 x.tr,.int .i64 x.target] 33);have HX:Hid _:=X;clear X
 go_enter Tryz.func347,Tryz.ntmps347;go_wp2;go_ret;exact⟨rfl,HX.out⟩
theorem Yt (v : Value) (w : World) : (Go.method 532 123 v "loop.example/g00359/impl.applies").run Tryz.prog w = .ok (345, v) w := by kernel_rfl
theorem Yu (v : Value) (w : World) : (Go.method 532 125 v "loop.example/g00359/impl.applies").run Tryz.prog w = .ok (346, v) w := by kernel_rfl
theorem Yv (v : Value) (w : World) : (Go.method 532 126 v "loop.example/g00359/impl.applies").run Tryz.prog w = .ok (347, v) w := by kernel_rfl
theorem ahk (n:Int) (w:World):(Instr.typeAssert (.iface 123 (.agg #[.int .i64 n])) 91 123 true).run Tryz.prog w=.ok (.tuple #[.agg #[.int .i64 n],.bool true]) w:=by kernel_rfl
theorem ahl (w:World):(Instr.typeAssert (.iface 125 (.agg #[])) 91 123 true).run Tryz.prog w=.ok (.tuple #[.agg #[.int .i64 0],.bool false]) w:=by kernel_rfl
theorem ahm (w:World):(Instr.typeAssert (.iface 125 (.agg #[])) 91 125 true).run Tryz.prog w=.ok (.tuple #[.agg #[],.bool true]) w:=by kernel_rfl
theorem ahn (w:World):(Instr.typeAssert (.iface 126 (.agg #[])) 91 123 true).run Tryz.prog w=.ok (.tuple #[.agg #[.int .i64 0],.bool false]) w:=by kernel_rfl
theorem aho (w:World):(Instr.typeAssert (.iface 126 (.agg #[])) 91 125 true).run Tryz.prog w=.ok (.tuple #[.agg #[],.bool false]) w:=by kernel_rfl
theorem ahp (w:World):(Instr.typeAssert (.iface 126 (.agg #[])) 91 126 true).run Tryz.prog w=.ok (.tuple #[.agg #[],.bool true]) w:=by kernel_rfl
theorem gN {w:World} {g:Nat} {t:TypeId} {c0 c1 c2 c3 c4:Value} (h:w.heap[g]?=some (.cells #[c0,c1,c2,c3,c4] t (0,0))) :
  w.cell? ⟨g,0,none⟩=some c0/\w.cell? ⟨g,1,none⟩=some c1/\w.cell? ⟨g,2,none⟩=some c2/\w.cell? ⟨g,3,none⟩=some c3/\w.cell? ⟨g,4,none⟩=some c4 :=
 ⟨by rw[cell_of_row w g 0 _ t (0,0) h];rfl,by rw[cell_of_row w g 1 _ t (0,0) h];rfl,by rw[cell_of_row w g 2 _ t (0,0) h];rfl,by rw[cell_of_row w g 3 _ t (0,0) h];rfl,by rw[cell_of_row w g 4 _ t (0,0) h];rfl⟩
theorem ahq (x:bH) (n:Int) (h:Hid (mD x n=false)) (w:World) :
  Calls Tryz.prog 30 #[.agg #[.int .i64 x.epoch,.int .i64 x.owner,.bool x.moving,.int .i64 x.tr,.int .i64 x.target],.iface 123 (.agg #[.int .i64 n])] w λe w'=>e=.returned (.agg #[.int .i64 x.epoch,.int .i64 x.owner,.bool x.moving,.int .i64 x.tr,.int .i64 x.target])/\Below w.heap.size w w':=by
 obtain⟨kX,kR,X⟩:=mE w (.cells #[.int .i64 x.epoch,.int .i64 x.owner,.bool x.moving,.int .i64 x.tr,.int .i64 x.target] 33) (.cells #[.int .i64 0,.int .i64 0,.bool false,.int .i64 0,.int .i64 0] 33);have hm:=Yt (.agg #[.int .i64 n])
 go_enter Tryz.func30,Tryz.ntmps30;go_wp2_with fail
 refine(Yp x n _).mono ?_;rintro e w1 ⟨rfl,B⟩;replace kX:=aA B kX;replace kR:=aA B kR;replace X:=Below.step X B;clear B hm;obtain⟨x0,x1,x2,x3,x4⟩:=gN kX;obtain⟨r0,r1,r2,r3,r4⟩:=gN kR;obtain⟨xz,xl⟩:=aO kX;obtain⟨rz,rl⟩:=aO kR;rw[h.out];go_wp2;refine bodyPost_ret (v:=.agg #[.int .i64 x.epoch,.int .i64 x.owner,.bool x.moving,.int .i64 x.tr,.int .i64 x.target]) (by simp[results,Tryz.results30,go_sem,r0,r1,r2,r3,r4]) rfl ⟨rfl,?_⟩
 repeat refine Below.setCell ?_ (by simp <;> omega) _
 exact X
theorem ahr (x:bH) (h:Hid (x.moving=false)) (w:World) :
  Calls Tryz.prog 30 #[.agg #[.int .i64 x.epoch,.int .i64 x.owner,.bool x.moving,.int .i64 x.tr,.int .i64 x.target],.iface 125 (.agg #[])] w λe w'=>e=.returned (.agg #[.int .i64 x.epoch,.int .i64 x.owner,.bool x.moving,.int .i64 x.tr,.int .i64 x.target])/\Below w.heap.size w w':=by
 obtain⟨kX,kR,X⟩:=mE w (.cells #[.int .i64 x.epoch,.int .i64 x.owner,.bool x.moving,.int .i64 x.tr,.int .i64 x.target] 33) (.cells #[.int .i64 0,.int .i64 0,.bool false,.int .i64 0,.int .i64 0] 33);have hm:=Yu (.agg #[])
 go_enter Tryz.func30,Tryz.ntmps30;go_wp2_with fail
 refine(Yq x _).mono ?_;rintro e w1 ⟨rfl,B⟩;replace kX:=aA B kX;replace kR:=aA B kR;replace X:=Below.step X B;clear B hm;obtain⟨x0,x1,x2,x3,x4⟩:=gN kX;obtain⟨r0,r1,r2,r3,r4⟩:=gN kR;obtain⟨xz,xl⟩:=aO kX;obtain⟨rz,rl⟩:=aO kR;rw[h.out];go_wp2;refine bodyPost_ret (v:=.agg #[.int .i64 x.epoch,.int .i64 x.owner,.bool x.moving,.int .i64 x.tr,.int .i64 x.target]) (by simp[results,Tryz.results30,go_sem,r0,r1,r2,r3,r4]) rfl ⟨rfl,?_⟩
 repeat refine Below.setCell ?_ (by simp <;> omega) _
 exact X
theorem ahs (x:bH) (h:Hid (x.moving=false)) (w:World) :
  Calls Tryz.prog 30 #[.agg #[.int .i64 x.epoch,.int .i64 x.owner,.bool x.moving,.int .i64 x.tr,.int .i64 x.target],.iface 126 (.agg #[])] w λe w'=>e=.returned (.agg #[.int .i64 x.epoch,.int .i64 x.owner,.bool x.moving,.int .i64 x.tr,.int .i64 x.target])/\Below w.heap.size w w':=by
 obtain⟨kX,kR,X⟩:=mE w (.cells #[.int .i64 x.epoch,.int .i64 x.owner,.bool x.moving,.int .i64 x.tr,.int .i64 x.target] 33) (.cells #[.int .i64 0,.int .i64 0,.bool false,.int .i64 0,.int .i64 0] 33);have hm:=Yv (.agg #[])
 go_enter Tryz.func30,Tryz.ntmps30;go_wp2_with fail
 refine(Yr x _).mono ?_;rintro e w1 ⟨rfl,B⟩;replace kX:=aA B kX;replace kR:=aA B kR;replace X:=Below.step X B;clear B hm;obtain⟨x0,x1,x2,x3,x4⟩:=gN kX;obtain⟨r0,r1,r2,r3,r4⟩:=gN kR;obtain⟨xz,xl⟩:=aO kX;obtain⟨rz,rl⟩:=aO kR;rw[h.out];go_wp2;refine bodyPost_ret (v:=.agg #[.int .i64 x.epoch,.int .i64 x.owner,.bool x.moving,.int .i64 x.tr,.int .i64 x.target]) (by simp[results,Tryz.results30,go_sem,r0,r1,r2,r3,r4]) rfl ⟨rfl,?_⟩
 repeat refine Below.setCell ?_ (by simp <;> omega) _
 exact X
theorem aht (x:bH) (h:Hid (x.moving=true)) (w:World) :
  Calls Tryz.prog 30 #[.agg #[.int .i64 x.epoch,.int .i64 x.owner,.bool x.moving,.int .i64 x.tr,.int .i64 x.target],.iface 125 (.agg #[])] w λe w'=>e=.returned (.agg #[.int .i64 x.tr,.int .i64 x.target,.bool false,.int .i64 x.tr,.int .i64 x.target])/\Below w.heap.size w w':=by
 obtain⟨kX,kR,X⟩:=mE w (.cells #[.int .i64 x.epoch,.int .i64 x.owner,.bool x.moving,.int .i64 x.tr,.int .i64 x.target] 33) (.cells #[.int .i64 0,.int .i64 0,.bool false,.int .i64 0,.int .i64 0] 33);have hm:=Yu (.agg #[])
 go_enter Tryz.func30,Tryz.ntmps30;go_wp2_with fail
 refine(Yq x _).mono ?_;rintro e w1 ⟨rfl,B⟩;replace kX:=aA B kX;replace kR:=aA B kR;replace X:=Below.step X B;clear B hm;obtain⟨x0,x1,x2,x3,x4⟩:=gN kX;obtain⟨r0,r1,r2,r3,r4⟩:=gN kR;obtain⟨xz,xl⟩:=aO kX;obtain⟨rz,rl⟩:=aO kR;rw[h.out];clear h;have t1:=ahl;have t2:=ahm
 have kF:((((((((((w1).setCell ⟨w.heap.size,2,none⟩ (.bool false)).setCell ⟨w.heap.size,1,none⟩ (.int .i64 x.target)).setCell ⟨w.heap.size,0,none⟩ (.int .i64 x.tr)).setCell ⟨w.heap.size+1,0,none⟩ (.int .i64 x.tr)).setCell ⟨w.heap.size+1,1,none⟩ (.int .i64 x.target)).setCell ⟨w.heap.size+1,2,none⟩ (.bool false)).setCell ⟨w.heap.size+1,3,none⟩ (.int .i64 x.tr)).setCell ⟨w.heap.size+1,4,none⟩ (.int .i64 x.target)).alloc (.cells #[] 125)).heap[w.heap.size+1]?=some (.cells #[.int .i64 x.tr,.int .i64 x.target,.bool false,.int .i64 x.tr,.int .i64 x.target] 33):=vR (aD (i:=4) (v:=.int .i64 x.target) (aD (i:=3) (v:=.int .i64 x.tr) (aD (i:=2) (v:=.bool false) (aD (i:=1) (v:=.int .i64 x.target) (aD (i:=0) (v:=.int .i64 x.tr) (eB (i:=0) (v:=.int .i64 x.tr) (eB (i:=1) (v:=.int .i64 x.target) (eB (i:=2) (v:=.bool false) kR (by omega)) (by omega)) (by omega))))))) _
 obtain⟨y0,y1,y2,y3,y4⟩:=gN kF;clear kF;go_wp2;refine bodyPost_ret (v:=.agg #[.int .i64 x.tr,.int .i64 x.target,.bool false,.int .i64 x.tr,.int .i64 x.target]) (by simp[results,Tryz.results30,go_sem,y0,y1,y2,y3,y4]) rfl ⟨rfl,?_⟩;refine Below.alloc ?_ (by simp only[dW];exact X.size) _
 repeat refine Below.setCell ?_ (by simp <;> omega) _
 exact X
theorem ahu (x:bH) (h:Hid (x.moving=true)) (w:World) :
  Calls Tryz.prog 30 #[.agg #[.int .i64 x.epoch,.int .i64 x.owner,.bool x.moving,.int .i64 x.tr,.int .i64 x.target],.iface 126 (.agg #[])] w λe w'=>e=.returned (.agg #[.int .i64 x.epoch,.int .i64 x.owner,.bool false,.int .i64 x.tr,.int .i64 x.target])/\Below w.heap.size w w':=by
 obtain⟨kX,kR,X⟩:=mE w (.cells #[.int .i64 x.epoch,.int .i64 x.owner,.bool x.moving,.int .i64 x.tr,.int .i64 x.target] 33) (.cells #[.int .i64 0,.int .i64 0,.bool false,.int .i64 0,.int .i64 0] 33);have hm:=Yv (.agg #[])
 go_enter Tryz.func30,Tryz.ntmps30;go_wp2_with fail
 refine(Yr x _).mono ?_;rintro e w1 ⟨rfl,B⟩;replace kX:=aA B kX;replace kR:=aA B kR;replace X:=Below.step X B;clear B hm;obtain⟨x0,x1,x2,x3,x4⟩:=gN kX;obtain⟨r0,r1,r2,r3,r4⟩:=gN kR;obtain⟨xz,xl⟩:=aO kX;obtain⟨rz,rl⟩:=aO kR;rw[h.out];clear h;have t1:=ahn;have t2:=aho;have t3:=ahp
 have kF:((((((((w1).setCell ⟨w.heap.size,2,none⟩ (.bool false)).setCell ⟨w.heap.size+1,0,none⟩ (.int .i64 x.epoch)).setCell ⟨w.heap.size+1,1,none⟩ (.int .i64 x.owner)).setCell ⟨w.heap.size+1,2,none⟩ (.bool false)).setCell ⟨w.heap.size+1,3,none⟩ (.int .i64 x.tr)).setCell ⟨w.heap.size+1,4,none⟩ (.int .i64 x.target)).alloc (.cells #[] 126)).heap[w.heap.size+1]?=some (.cells #[.int .i64 x.epoch,.int .i64 x.owner,.bool false,.int .i64 x.tr,.int .i64 x.target] 33):=vR (aD (i:=4) (v:=.int .i64 x.target) (aD (i:=3) (v:=.int .i64 x.tr) (aD (i:=2) (v:=.bool false) (aD (i:=1) (v:=.int .i64 x.owner) (aD (i:=0) (v:=.int .i64 x.epoch) (eB (i:=2) (v:=.bool false) kR (by omega))))))) _
 obtain⟨y0,y1,y2,y3,y4⟩:=gN kF;clear kF;go_wp2;refine bodyPost_ret (v:=.agg #[.int .i64 x.epoch,.int .i64 x.owner,.bool false,.int .i64 x.tr,.int .i64 x.target]) (by simp[results,Tryz.results30,go_sem,y0,y1,y2,y3,y4]) rfl ⟨rfl,?_⟩;refine Below.alloc ?_ (by simp only[dW];exact X.size) _
 repeat refine Below.setCell ?_ (by simp <;> omega) _
 exact X
theorem bx1 {w:World} {g:Nat} {t:TypeId} {c0:Value} (h:w.heap[g]?=some (.cells #[c0] t (0,0))):w.cell? ⟨g,0,none⟩=some c0:=by rw[cell_of_row w g 0 _ t (0,0) h];rfl
theorem ahv:(Tryz.f30.body.bind (eO 6)).all (λo=>jH o 14 [0,1,2,3,4,5,6,7,8,9,10,11,12,13] [9,11,13] [12,14] 0)=true:=by kernel_rfl
theorem ahw (x:bH) (n:Int) (h:Hid (mD x n=true)) (MX:Int) (HMX:Hid ((if x.tr < x.epoch then x.epoch else x.tr)=MX)) (hMX:0<=MX) (alO:MX<=2000000) (w:World) :
  Calls Tryz.prog 30 #[.agg #[.int .i64 x.epoch,.int .i64 x.owner,.bool x.moving,.int .i64 x.tr,.int .i64 x.target],.iface 123 (.agg #[.int .i64 n])] w λe w'=>e=.returned (.agg #[.int .i64 x.epoch,.int .i64 x.owner,.bool true,.int .i64 (MX+1),.int .i64 n])/\Below w.heap.size w w':=by
 obtain⟨kX,kR,X⟩:=mE w (.cells #[.int .i64 x.epoch,.int .i64 x.owner,.bool x.moving,.int .i64 x.tr,.int .i64 x.target] 33) (.cells #[.int .i64 0,.int .i64 0,.bool false,.int .i64 0,.int .i64 0] 33);have hm:=Yt (.agg #[.int .i64 n])
 go_enter Tryz.func30,Tryz.ntmps30;go_wp2_with fail
 refine(Yp x n _).mono ?_;rintro e w1 ⟨rfl,B⟩;replace kX:=aA B kX;replace kR:=aA B kR;replace X:=Below.step X B;clear B hm;obtain⟨x0,x1,x2,x3,x4⟩:=gN kX;obtain⟨r0,r1,r2,r3,r4⟩:=gN kR;obtain⟨xz,xl⟩:=aO kX;obtain⟨rz,rl⟩:=aO kR;rw[h.out];clear h;have t1:=ahk n;have AB:Below w1.heap.size w1 (w1.alloc (.cells #[.int .i64 n] 123)):=bn _ _;have qy:=aA AB kX;have Gp:=aA AB kR;have kY:=aW w1 (.cells #[.int .i64 n] 123);have y0:(w1.alloc (.cells #[.int .i64 n] 123)).cell? ⟨w1.heap.size,0,none⟩=some (.int .i64 n):=by rw[cell_of_row _ _ _ _ _ (0,0) kY];rfl
 clear x0 x1 x2 x3 x4 r0 r1 r2 r3 r4 xz rz;obtain⟨x0,x1,x2,x3,x4⟩:=gN qy;obtain⟨r0,r1,r2,r3,r4⟩:=gN Gp;obtain⟨xz,Yw⟩:=aO qy;obtain⟨rz,rl'⟩:=aO Gp;have hxy:w.heap.size≠w1.heap.size:=by omega
 have hwr:IntKind.i64.wrap (MX+1)=MX+1:=IntWalk.i64_in _ (by omega);have X2:=Below.step X AB;go_wp2;generalize (w1.alloc (.cells #[.int .i64 n] 123))=wy at qy Gp kY y0 x0 x1 x2 x3 x4 r0 r1 r2 r3 r4 xz Yw rz rl' X2 ⊢;generalize hyb:w1.heap.size=yb at kY y0 hxy ⊢;have hyR:w.heap.size+1≠yb:=by omega
 clear AB kX kR X xl rl hyb t1;refine jR 12 (S:=λw'=>w'.cell? ⟨yb,0,none⟩=some (.int .i64 n)/\w'.cell? ⟨w.heap.size,3,none⟩=some (.int .i64 x.tr)/\w'.cell? ⟨w.heap.size,0,none⟩=some (.int .i64 x.epoch)) (jQ (by kernel_rfl) ahv) (by kernel_rfl) (⟨y0,x3,x0⟩) (λaj al3=>?_);refine tks 0 0 17 aj al3 ?_;refine tks 1 1 18 aj al3 ?_;refine tks 2 2 19 aj al3 ?_;refine tks 3 3 20 aj al3 ?_;refine tks 4 4 21 aj al3 ?_;refine tks 5 5 22 aj al3 ?_;refine tks 6 6 23 aj al3 ?_;rw[HMX.out];refine tks 7 7 24 aj al3 ?_;refine tks 8 8 25 aj al3 ?_;refine cls 9 9 aj (by decide) rfl rfl (λK hK=>?_)
 go_simp;refine hK.out _ _ (⟨bx1 (eB (i:=2) (v:=.bool true) kY (by omega)),(gN (aD (i:=2) (v:=.bool true) qy)).2.2.2.1,(gN (aD (i:=2) (v:=.bool true) qy)).1⟩) (λal3=>?_);clear hK K;obtain⟨z2,z2l⟩:=aO (aD (i:=2) (v:=.bool true) qy);obtain⟨p0,p1,p2,p3,p4⟩:=gN (aD (i:=2) (v:=.bool true) qy);refine tks 10 10 26 aj al3 ?_;refine cls 11 11 aj (by decide) rfl rfl (λK hK=>?_);go_simp
 refine hK.out _ _ (⟨bx1 (eB (i:=4) (v:=.int .i64 n) (eB (i:=2) (v:=.bool true) kY (by omega)) (by omega)),(gN (aD (i:=4) (v:=.int .i64 n) (aD (i:=2) (v:=.bool true) qy))).2.2.2.1,(gN (aD (i:=4) (v:=.int .i64 n) (aD (i:=2) (v:=.bool true) qy))).1⟩) (λal3=>?_);clear hK K;obtain⟨z4,z4l⟩:=aO (aD (i:=4) (v:=.int .i64 n) (aD (i:=2) (v:=.bool true) qy));obtain⟨v0,v1,v2,v3,v4⟩:=gN (aD (i:=4) (v:=.int .i64 n) (aD (i:=2) (v:=.bool true) qy));refine kC (S':=λw'=>True) 12 14 aj (by decide) (trivial) (λal3=>?_);refine tks 12 12 27 aj al3 ?_
 refine cls 13 13 aj (by decide) rfl rfl (λK hK=>?_);go_simp;refine hK.out _ _ (trivial) (λal3=>?_);clear hK K;refine jS aj ?_;have kZ:(((wy.setCell ⟨w.heap.size,2,none⟩ (.bool true)).setCell ⟨w.heap.size,4,none⟩ (.int .i64 n)).setCell ⟨w.heap.size,3,none⟩ (.int .i64 (MX+1))).drew.heap[w.heap.size]?=some (.cells #[.int .i64 x.epoch,.int .i64 x.owner,.bool true,.int .i64 (MX+1),.int .i64 n] 33):=aD (i:=3) (v:=.int .i64 (MX+1)) (aD (i:=4) (v:=.int .i64 n) (aD (i:=2) (v:=.bool true) qy))
 have Qa:(((wy.setCell ⟨w.heap.size,2,none⟩ (.bool true)).setCell ⟨w.heap.size,4,none⟩ (.int .i64 n)).setCell ⟨w.heap.size,3,none⟩ (.int .i64 (MX+1))).drew.heap[w.heap.size+1]?=some (.cells #[.int .i64 0,.int .i64 0,.bool false,.int .i64 0,.int .i64 0] 33):=eB (i:=3) (v:=.int .i64 (MX+1)) (eB (i:=4) (v:=.int .i64 n) (eB (i:=2) (v:=.bool true) Gp (by omega)) (by omega)) (by omega)
 have Xz:Below w.heap.size w (((wy.setCell ⟨w.heap.size,2,none⟩ (.bool true)).setCell ⟨w.heap.size,4,none⟩ (.int .i64 n)).setCell ⟨w.heap.size,3,none⟩ (.int .i64 (MX+1))).drew:=(((X2.setCell (p:=⟨w.heap.size,2,none⟩) (by simp) (.bool true)).setCell (p:=⟨w.heap.size,4,none⟩) (by simp) (.int .i64 n)).setCell (p:=⟨w.heap.size,3,none⟩) (by simp) (.int .i64 (MX+1))).drew;generalize (((wy.setCell ⟨w.heap.size,2,none⟩ (.bool true)).setCell ⟨w.heap.size,4,none⟩ (.int .i64 n)).setCell ⟨w.heap.size,3,none⟩ (.int .i64 (MX+1))).drew=wz at kZ Qa Xz ⊢
 clear qy Gp kY y0 x0 x1 x2 x3 x4 r0 r1 r2 r3 r4 xz rz X2 z2 z2l p0 p1 p2 p3 p4 z4 z4l v0 v1 v2 v3 v4 al3 aj Yw rl';obtain⟨x0,x1,x2,x3,x4⟩:=gN kZ;obtain⟨r0,r1,r2,r3,r4⟩:=gN Qa;obtain⟨xz,xl⟩:=aO kZ;obtain⟨rz,rl⟩:=aO Qa;go_wp2;refine bodyPost_ret (v:=.agg #[.int .i64 x.epoch,.int .i64 x.owner,.bool true,.int .i64 (MX+1),.int .i64 n]) (by simp[results,Tryz.results30,go_sem,r0,r1,r2,r3,r4]) rfl ⟨rfl,?_⟩
 repeat refine Below.setCell ?_ (by simp <;> omega) _
 exact Xz
/- What wE of package impl does. -/
theorem ahA (k:Int) (h:0<=k/\k<=9) (bx tt:List Int) (uid mode fl si:Int) (tx:List Int):qO k bx tt uid mode fl si tx =
  ((bif (!decide (k=9)) then gF bx else decide (bx.length=0)) && ((bif decide (k=6) then gF tt else decide (tt.length=0)) && (aQ uid (if k=3\/k=5\/k=6 then 1 else 0) (if k=3\/k=5\/k=6 then 1000000 else 0) && (aQ mode 0 (if k=3 then 2 else if k=6 then 1 else 0) && (aQ fl 0 (if k=2\/k=3 then 31 else 0) && (aQ si 0 (if k=3\/k=8 then 1000000 else 0) && (decide ((tx.length:Int)<=(if k=2 then 30 else 0)) && jP tx))))))):=by
 have hk:k=0\/k=1\/k=2\/k=3\/k=4\/k=5\/k=6\/k=7\/k=8\/k=9:=by omega
 have z:=Zf (l:=tx);have z2:=Zq (l:=tx);unfold qO aQ;generalize jP tx=T at *
 generalize gF bx=NB at *
 generalize gF tt=NT at *
 generalize tx.length=n at *
 generalize bx.length=n1 at *
 generalize tt.length=n2 at *
 clear h;rcases hk with rfl | rfl | rfl | rfl | rfl | rfl | rfl | rfl | rfl | rfl <;> cases T <;> cases NB <;> cases NT <;> rw[Bool.eq_iff_iff] <;> simp at * <;> omega
theorem ahB (k:Int) (hk:0<=k/\k<=9) (W0 W1:Bool) (W2 W3 W4 W5 W6 W7:Int) (hW:Kj k=.agg #[.bool W0,.bool W1,.int .i64 W2,.int .i64 W3,.int .i64 W4,.int .i64 W5,.int .i64 W6,.int .i64 W7]) (a0 a1 a2:Option Addr) (nb nt nx c0 c1 c2:Nat) (bx tt:List Int) (uid mode fl si:Int) (tx:List Int) (w:World)
  (H0:Hid (∀wi,Below w.heap.size w wi->Bs wi (.slice a0 nb c0) bx/\Bs wi (.slice a1 nt c1) tt/\Bs wi (.slice a2 nx c2) tx)) (c:Bool)
  (HC:Hid (c=((bif W0 then gF bx else decide (bx.length=0)) && ((bif W1 then gF tt else decide (tt.length=0)) && (aQ uid W2 W3 && (aQ mode 0 W4 && (aQ fl 0 W5 && (aQ si 0 W6 && (decide ((nx:Int)<=W7) && jP tx))))))))) :
  Calls Tryz.prog 75 #[.agg #[.int .i64 k,.slice a0 nb c0,.slice a1 nt c1,.int .i64 uid,.int .i64 mode,.int .i64 fl,.int .i64 si,.slice a2 nx c2]] w λe w'=>e=.returned (.bool c)/\Below w.heap.size w w':=by
 have hp:∀w,Calls Tryz.prog 103 #[.int .i64 k] w λe w'=>e=.returned (.agg #[.bool W0,.bool W1,.int .i64 W2,.int .i64 W3,.int .i64 W4,.int .i64 W5,.int .i64 W6,.int .i64 W7])/\Below w.heap.size w w':=λw=>by rw[← hW];exact ag1 k hk w
 have ab:∀(x:World) o,Below x.heap.size x (x.alloc o):=λx o=>bn _ o;have hin:∀w,Calls Tryz.prog 13 #[.int .i64 k,.int .i64 0,.int .i64 9] w λe w'=>e=.returned (.bool true)/\w'=w:=λw=>by
  have h:=gW k 0 9 w
  rwa [show aQ k 0 9=true by simp[aQ,hk.1,hk.2]] at h
 clear hW;have hy0:∀w (_:Bs w (.slice a0 nb c0) bx),Calls Tryz.prog 104 #[.bool W0,.slice a0 nb c0] w λe w'=>e=.returned (.bool (bif W0 then gF bx else decide (bx.length=0)))/\Below w.heap.size w w':=λw h=>Yc _ _ bx w h;have hy1:∀w (_:Bs w (.slice a1 nt c1) tt),Calls Tryz.prog 104 #[.bool W1,.slice a1 nt c1] w λe w'=>e=.returned (.bool (bif W1 then gF tt else decide (tt.length=0)))/\Below w.heap.size w w':=λw h=>Yc _ _ tt w h;have hy2:=gW uid W2 W3;have hy3:=gW mode 0 W4;have hy4:=gW fl 0 W5;have Dw:=gW si 0 W6;have Dx:=Qx (.slice a2 nx c2) tx
 generalize (bif W0 then gF bx else decide (bx.length=0))=X0 at HC hy0;generalize (bif W1 then gF tt else decide (tt.length=0))=X1 at HC hy1;generalize aQ uid W2 W3=X2 at HC hy2;generalize aQ mode 0 W4=X3 at HC hy3;generalize aQ fl 0 W5=X4 at HC hy4;generalize aQ si 0 W6=X5 at HC Dw;generalize jP tx=X7 at HC Dx;have bx0:=aW w (.cells #[.int .i64 k,.slice a0 nb c0,.slice a1 nt c1,.int .i64 uid,.int .i64 mode,.int .i64 fl,.int .i64 si,.slice a2 nx c2] 35)
 go_enter Tryz.func75,Tryz.ntmps75;go_wp2_with fail
 refine(hin _).mono ?_;rintro e w' ⟨rfl,rfl⟩;go_wp2_with fail
 refine(hp _).mono ?_;rintro e w1 ⟨rfl,B⟩;have X:=Below.step (ab w _) B;have s1:w.heap.size < w1.heap.size:=by have:=B.size;simp at this;omega
 have kc:=aA B bx0;clear bx0 B hp hin;obtain⟨Kl,c_1,c_2,Km,Kn,Ko,Kq,Kr⟩:=zZ kc;have kw:=aW w1 (.cells #[.bool W0,.bool W1,.int .i64 W2,.int .i64 W3,.int .i64 W4,.int .i64 W5,.int .i64 W6,.int .i64 W7] 193);replace kc:=vR kc (.cells #[.bool W0,.bool W1,.int .i64 W2,.int .i64 W3,.int .i64 W4,.int .i64 W5,.int .i64 W6,.int .i64 W7] 193);replace X:=Below.step X (ab w1 (.cells #[.bool W0,.bool W1,.int .i64 W2,.int .i64 W3,.int .i64 W4,.int .i64 W5,.int .i64 W6,.int .i64 W7] 193));clear ab;go_wp2_with fail
 refine(hy0 _ (H0.out _ X).1).mono ?_;rintro e w2 ⟨rfl,B⟩;clear Kl c_1 c_2 Km Kn Ko Kq Kr hy0 s1;replace kc:=aA B kc;replace kw:=aA B kw;replace X:=Below.step X B;clear B;obtain⟨Kl,c_1,c_2,Km,Kn,Ko,Kq,Kr⟩:=zZ kc;obtain⟨Yx,Yy,Yz,YA,YB,YC,YD,YE⟩:=zZ kw;cases X0 with
 | false =>
  go_wp2;go_ret;exact⟨aN HC.out,X⟩
 | true =>
 go_wp2_with fail
 refine(hy1 _ (H0.out _ X).2.1).mono ?_;rintro e w3 ⟨rfl,B⟩;clear Kl c_1 c_2 Km Kn Ko Kq Kr Yx Yy Yz YA YB YC YD YE hy1;replace kc:=aA B kc;replace kw:=aA B kw;replace X:=Below.step X B;clear B;obtain⟨Kl,c_1,c_2,Km,Kn,Ko,Kq,Kr⟩:=zZ kc;obtain⟨Yx,Yy,Yz,YA,YB,YC,YD,YE⟩:=zZ kw;cases X1 with
 | false =>
  go_wp2;go_ret;exact⟨aN HC.out,X⟩
 | true =>
 go_wp2_with fail
 refine(hy2 _).mono ?_;rintro e w' ⟨rfl,rfl⟩;cases X2 with
 | false =>
  go_wp2;go_ret;exact⟨aN HC.out,X⟩
 | true =>
 go_wp2_with fail
 refine(hy3 _).mono ?_;rintro e w' ⟨rfl,rfl⟩;cases X3 with
 | false =>
  go_wp2;go_ret;exact⟨aN HC.out,X⟩
 | true =>
 go_wp2_with fail
 refine(hy4 _).mono ?_;rintro e w' ⟨rfl,rfl⟩;cases X4 with
 | false =>
  go_wp2;go_ret;exact⟨aN HC.out,X⟩
 | true =>
 go_wp2_with fail
 refine(Dw _).mono ?_;rintro e w' ⟨rfl,rfl⟩;cases X5 with
 | false =>
  go_wp2;go_ret;exact⟨aN HC.out,X⟩
 | true =>
 by_cases h6:(nx:Int)<=W7
 ·rw[decide_eq_true h6] at HC
  go_wp2_with fail
  refine(Dx _ (H0.out _ X).2.2).mono ?_;rintro e w4 ⟨rfl,B⟩;go_wp2;go_ret;exact⟨aN HC.out,Below.step X B⟩
 ·rw[decide_eq_false h6] at HC
  go_wp2;go_ret;exact⟨aN HC.out,X⟩
theorem ahC (v:Value) (k:Int) (bx tt:List Int) (uid mode fl si:Int) (tx:List Int) (w:World) (hv:om w v k bx tt uid mode fl si tx) :
  Calls Tryz.prog 75 #[v] w λe w'=>e=.returned (.bool (qO k bx tt uid mode fl si tx))/\Below w.heap.size w w':=by
 obtain⟨u0,u1,u2,rfl,g0,g1,g2,i0,i1,i2,i3,i4⟩:=hv;have H0:Hid (∀wi,Below w.heap.size w wi->Bs wi u0 bx/\Bs wi u1 tt/\Bs wi u2 tx):=λwi h=>⟨g0.below h,g1.below h,g2.below h⟩;obtain⟨a0,c0,rfl⟩:=g0.form;obtain⟨a1,c1,rfl⟩:=g1.form;obtain⟨a2,c2,rfl⟩:=g2.form
 by_cases h:0<=k/\k<=9
 ·exact ahB k h _ _ _ _ _ _ _ _ rfl a0 a1 a2 _ _ _ c0 c1 c2 bx tt uid mode fl si tx w H0 _ (ahA k h bx tt uid mode fl si tx)
 ·have HZ:Hid (qO k bx tt uid mode fl si tx=false):=by simp[Hid,qO,h]
  have hin:∀w,Calls Tryz.prog 13 #[.int .i64 k,.int .i64 0,.int .i64 9] w λe w'=>e=.returned (.bool false)/\w'=w:=λw=>by
   have h':=gW k 0 9 w
   rwa [show aQ k 0 9=false by simp[aQ];omega] at h'
  go_enter Tryz.func75,Tryz.ntmps75;go_wp2_with fail
  refine(hin _).mono ?_;rintro e w' ⟨rfl,rfl⟩;go_wp2;go_ret;exact⟨aN HZ.out,bn _ _⟩
/- What ahD of package impl does. -/
theorem ahE (k:Int) (a0 a1 a2:Option Addr) (nb nt nx c0 c1 c2:Nat) (uid mode fl si:Int) (w:World) :
  Calls Tryz.prog 44 #[.bool false,.agg #[.int .i64 k,.slice a0 nb c0,.slice a1 nt c1,.int .i64 uid,.int .i64 mode,.int .i64 fl,.int .i64 si,.slice a2 nx c2]] w λe w'=>e=.returned (.bool (zC k nb nt uid mode fl si nx))/\Below w.heap.size w w':=by
 have HX:Hid (∀o,Below w.heap.size w (w.alloc o)):=λo=>bn _ o
 go_enter Tryz.func44,Tryz.ntmps44;go_wp2
 all_goals (go_ret;refine⟨aN ?_,HX.out _⟩;clear HX;unfold zC;(try simp only[beq_iff_eq,beq_eq_false_iff_ne,ne_eq] at *);rw[Bool.eq_iff_iff];simp;omega)
theorem ahF (b:Bool) (v:Value) (c:gP) (w:World) (hv:om w v c.k c.bx c.tt c.uid c.mode c.fl c.si c.tx) :
  Calls Tryz.prog 44 #[.bool b,v] w λe w'=>e=.returned (.bool (bif b then QH c else QG c))/\Below w.heap.size w w':=by
 have H0:Hid (∀wi,Below w.heap.size w wi->om wi v c.k c.bx c.tt c.uid c.mode c.fl c.si c.tx):=λwi h=>hv.below h;obtain⟨u0,u1,u2,rfl,g0,g1,g2,-⟩:=hv;obtain⟨a0,c0,rfl⟩:=g0.form;obtain⟨a1,c1,rfl⟩:=g1.form;obtain⟨a2,c2,rfl⟩:=g2.form;clear g0 g1 g2;cases b with
 | false=>exact ahE _ _ _ _ _ _ _ _ _ _ _ _ _ _ w
 | true =>
  have ab:∀o,Below w.heap.size w (w.alloc o):=λo=>bn _ o
  go_enter Tryz.func44,Tryz.ntmps44;go_wp2_with fail
  refine(ahC _ c.k c.bx c.tt c.uid c.mode c.fl c.si c.tx _ (H0.out _ (ab _))).mono ?_;rintro e w1 ⟨rfl,B⟩;replace B:=Below.step (ab _) B;clear ab H0;go_wp2;go_ret;exact⟨rfl,B⟩
/- What alQ, ahD, alR, RZ of package impl do. -/
theorem ahG (k:Int) (w:World) :
  Calls Tryz.prog 43 #[.int .i64 k] w λe w'=>e=.returned (.tuple #[.int .i64 (Du k),.int .i64 (Dv k)])/\w'=w:=by
 by_cases h0:k=0
 ·subst h0
  go_enter Tryz.func43,Tryz.ntmps43;go_wp2;exact bodyPost_ret (v:=.tuple #[.int .i64 1,.int .i64 1000000]) (by simp[results,Tryz.results43,go_sem]) rfl ⟨rfl,rfl⟩
 by_cases h6:k=6
 ·subst h6
  go_enter Tryz.func43,Tryz.ntmps43;go_wp2;exact bodyPost_ret (v:=.tuple #[.int .i64 0,.int .i64 2]) (by simp[results,Tryz.results43,go_sem]) rfl ⟨rfl,rfl⟩
 by_cases h7:k=7
 ·subst h7
  go_enter Tryz.func43,Tryz.ntmps43;go_wp2;exact bodyPost_ret (v:=.tuple #[.int .i64 0,.int .i64 0]) (by simp[results,Tryz.results43,go_sem]) rfl ⟨rfl,rfl⟩
 by_cases h8:k=8
 ·subst h8
  go_enter Tryz.func43,Tryz.ntmps43;go_wp2;exact bodyPost_ret (v:=.tuple #[.int .i64 0,.int .i64 0]) (by simp[results,Tryz.results43,go_sem]) rfl ⟨rfl,rfl⟩
 have HL:Hid (Du k=0/\Dv k=1000000):=by simp[Hid,Du,Dv,h0,h6,h7,h8]
 have e0:(k == 0)=false:=by simp[h0]
 have e6:(k == 6)=false:=by simp[h6]
 have e7:(k == 7)=false:=by simp[h7]
 have e8:(k == 8)=false:=by simp[h8]
 go_enter Tryz.func43,Tryz.ntmps43;go_wp2;exact bodyPost_ret (v:=.tuple #[.int .i64 0,.int .i64 1000000]) (by simp[results,Tryz.results43,go_sem]) rfl ⟨by rw[HL.out.1,HL.out.2],rfl⟩
theorem ahH (k:Int) (a0 a1:Option Addr) (nb nt c0 c1:Nat) (w:World) :
  Calls Tryz.prog 45 #[.bool false,.agg #[.int .i64 k,.slice a0 nb c0,.slice a1 nt c1]] w λe w'=>e=.returned (.bool (zA k nb nt))/\Below w.heap.size w w':=by
 have HX:Hid (∀o,Below w.heap.size w (w.alloc o)):=λo=>bn _ o
 go_enter Tryz.func45,Tryz.ntmps45;go_wp2
 all_goals (go_ret;refine⟨aN ?_,HX.out _⟩;clear HX;unfold zA;(try simp only[beq_iff_eq,beq_eq_false_iff_ne,ne_eq] at *);rw[Bool.eq_iff_iff];simp;omega)
theorem ahI (b:Bool) (v:Value) (a:aT) (w:World) (hv:mF w v a) :
  Calls Tryz.prog 45 #[.bool b,v] w λe w'=>e=.returned (.bool (bif b then Dc a else RL a))/\Below w.heap.size w w':=by
 have H0:Hid (∀wi,Below w.heap.size w wi->mF wi v a):=λwi h=>hv.below h;obtain⟨u0,u1,rfl,g0,g1,-⟩:=hv;obtain⟨a0,c0,rfl,-⟩:=g0.form;obtain⟨a1,c1,rfl,-⟩:=g1.form;clear g0 g1;cases b with
 | false=>exact ahH _ _ _ _ _ _ _ w
 | true =>
  have ab:∀o,Below w.heap.size w (w.alloc o):=λo=>bn _ o
  go_enter Tryz.func45,Tryz.ntmps45;go_wp2_with fail
  refine(ahg _ a _ (H0.out _ (ab _))).mono ?_;rintro e w1 ⟨rfl,B⟩;replace B:=Below.step (ab _) B;clear ab H0;go_wp2;go_ret;exact⟨rfl,B⟩
theorem ahJ (K U N L M:Int) (b0 b3:Bool) (hb0:(K == 0)=b0) (hb3:(K == 3)=b3) (hd0:decide (K=0)=b0) (hd3:decide (K=3)=b3) (k:Int) (a0 a1 a2 a3 a4:Option Addr) (nb nt nx mb ms c0 c1 c2 c3 c4:Nat) (uid mode fl si valid:Int) (w:World) (c X0 X1 X2 X3 X4:Bool)
  (h0:∀w,Calls Tryz.prog 13 #[.int .i64 K,.int .i64 0,.int .i64 8] w λe w'=>e=.returned (.bool X0)/\w'=w)
  (h1:∀w,Calls Tryz.prog 13 #[.int .i64 U,.int .i64 0,.int .i64 2] w λe w'=>e=.returned (.bool X1)/\w'=w)
  (hl:∀w,Calls Tryz.prog 43 #[.int .i64 K] w λe w'=>e=.returned (.tuple #[.int .i64 L,.int .i64 M])/\w'=w)
  (h2:∀w,Calls Tryz.prog 13 #[.int .i64 N,.int .i64 L,.int .i64 M] w λe w'=>e=.returned (.bool X2)/\w'=w)
  (h3:Hid (∀wi,Below w.heap.size w wi->Calls Tryz.prog 44 #[.bool b0,.agg #[.int .i64 k,.slice a0 nb c0,.slice a1 nt c1,.int .i64 uid,.int .i64 mode,.int .i64 fl,.int .i64 si,.slice a2 nx c2]] wi λe w'=>e=.returned (.bool X3)/\Below wi.heap.size wi w'))
  (h4:Hid (∀wi,Below w.heap.size w wi->Calls Tryz.prog 45 #[.bool b3,.agg #[.int .i64 valid,.slice a3 mb c3,.slice a4 ms c4]] wi λe w'=>e=.returned (.bool X4)/\Below wi.heap.size wi w'))
  (HC:Hid (c=(X0 && (X1 && (X2 && (X3 && X4)))))) :
  Calls Tryz.prog 28 #[.agg #[.int .i64 K,.int .i64 U,.int .i64 N,.int .i64 k,.slice a0 nb c0,.slice a1 nt c1,.int .i64 uid,.int .i64 mode,.int .i64 fl,.int .i64 si,.slice a2 nx c2,.int .i64 valid,.slice a3 mb c3,.slice a4 ms c4]] w λe w'=>e=.returned (.bool c)/\Below w.heap.size w w':=by
 have HX:Hid (∀o,Below w.heap.size w (w.alloc o)):=λo=>bn _ o;have kA:=aW w (.cells #[.int .i64 K,.int .i64 U,.int .i64 N,.int .i64 k,.slice a0 nb c0,.slice a1 nt c1,.int .i64 uid,.int .i64 mode,.int .i64 fl,.int .i64 si,.slice a2 nx c2,.int .i64 valid,.slice a3 mb c3,.slice a4 ms c4] 41)
 go_enter Tryz.func28,Tryz.ntmps28;go_wp2_with fail
 refine(h0 _).mono ?_;rintro e w' ⟨rfl,rfl⟩;clear h0;cases X0 with
 | false =>
  go_wp2;go_ret;exact⟨aN HC.out,HX.out _⟩
 | true =>
 go_wp2_with fail
 refine(h1 _).mono ?_;rintro e w' ⟨rfl,rfl⟩;clear h1;cases X1 with
 | false =>
  go_wp2;go_ret;exact⟨aN HC.out,HX.out _⟩
 | true =>
 go_wp2_with fail
 refine(hl _).mono ?_;rintro e w' ⟨rfl,rfl⟩;clear hl;go_wp2_with fail
 refine(h2 _).mono ?_;rintro e w' ⟨rfl,rfl⟩;clear h2;cases X2 with
 | false =>
  go_wp2;go_ret;exact⟨aN HC.out,HX.out _⟩
 | true =>
 go_wp2_with fail
 (try rw[hb0])
 (try rw[hd0])
 refine(h3.out _ (HX.out _)).mono ?_;rintro e w1 ⟨rfl,B⟩;have X:=Below.step (HX.out _) B;replace kA:=aA B kA;clear B h3 HX;obtain⟨f0,f1,f2,f3,f4,f5,f6,f7,f8,f9,f10,f11,f12,f13⟩:=oC kA;have hlt:=lt_of_heap kA;cases X3 with
 | false =>
  go_wp2;go_ret;exact⟨aN HC.out,X⟩
 | true =>
 go_wp2_with fail
 (try rw[hb3])
 (try rw[hd3])
 refine(h4.out _ X).mono ?_;rintro e w2 ⟨rfl,B⟩;replace X:=Below.step X B;clear B h4 f0 f1 f2 f3 f4 f5 f6 f7 f8 f9 f10 f11 f12 f13 hlt kA;go_wp2;go_ret;exact⟨aN HC.out,X⟩
theorem ahK (v:Value) (r:RecD) (w:World) (hv:iK w v r) :
  Calls Tryz.prog 28 #[v] w λe w'=>e=.returned (.bool (yI r))/\Below w.heap.size w w':=by
 have H0:Hid (∀wi,Below w.heap.size w wi->iK wi v r):=λwi h=>hv.below h;obtain⟨a0,n0,c0,a1,n1,c1,a2,n2,c2,a3,c3,a4,c4,rfl⟩:=hv.form;clear hv;have e0:(r.kind == 0)=decide (r.kind=0):=by rw[Bool.eq_iff_iff];simp
 have e3:(r.kind == 3)=decide (r.kind=3):=by rw[Bool.eq_iff_iff];simp
 exact ahJ r.kind r.user r.n _ _ _ _ e0 e3 rfl rfl _ _ _ _ _ _ _ _ _ _ _ _ _ _ _ _ _ _ _ _ _ w _ _ _ _ _ _ (gW _ _ _) (gW _ _ _) (ahG _) (gW _ _ _)
  (λwi h=>ahF _ _ r.cmd wi (H0.out wi h).parts.1) (λwi h=>ahI _ _ r.acc wi (H0.out wi h).parts.2.1) rfl
/- What slices.IndexFunc and slices.ContainsFunc of records, alS, alT do. -/
open Go.RowKit Go.Shelf
theorem ahL (g:Nat) (lb:Array Value) (p:RecD->Bool) (v:Value) (l:List RecD) (w:World) (hv:RecsV w v l) (eg:∀args w,(callFunc g args).run Tryz.prog w=.ok (.enter g args) w)
  (hp:∀wi x u,Below w.heap.size w wi->iK wi u x->Calls Tryz.prog g (#[u] ++ lb) wi λe w'=>e=.returned (.bool (p x))/\Below wi.heap.size wi w') :
  Calls Tryz.prog 42 #[v,.func (.func g) #[] lb] w λe w'=>e=.returned (.int .i64 (bD p l))/\Below w.heap.size w w':=by
 have HV:Hid (∀wi,Below w.heap.size w wi->RecsV wi v l):=λwi h=>hv.below Dt h;have HP:Hid (∀wi x u,Below w.heap.size w wi->iK wi u x->Calls Tryz.prog g (#[u] ++ lb) wi λe w'=>e=.returned (.bool (p x))/\Below wi.heap.size wi w'):=hp;obtain⟨a,cap,rfl,hlc,hcm⟩:=hv.form;clear hv hp
 go_enter Tryz.func42,Tryz.ntmps42;go_wp2
 go_loopw [5,8] (λ_ i wr=>∃k:Nat,k<=l.length/\i=.int .i64 k/\Hid (∀j x,j < k->l[j]?=some x->p x=false)/\Hid (Below w.heap.size w wr)) (λ_ i _=>l.length - (intOf i).toNat)
 case atStart=>exact⟨0,Nat.zero_le _,rfl,(λj x hj=>absurd hj (Nat.not_lt_zero _)),Below.refl _ _⟩
 case round =>
  obtain⟨k,hk,rfl,hA,hB⟩:=hrel
  by_cases hlt:k < l.length
  ·obtain⟨x,hx⟩:∃x,l[k]?=some x:=⟨l[k],bK hlt⟩
   obtain⟨b,off,cap',a0,n0,c0,a1,n1,c1,a2,n2,c2,a3,c3,a4,c4,hv',hlb,d0,d1,d2,d3,d4,d5,d6,d7,d8,d9,YF,YG,YH,YI,Gq⟩:=RecsV.cell (HV.out wr hB.out) k x hx;simp only[Value.slice.injEq,true_and] at hv';obtain⟨rfl,rfl⟩:=hv';have hcall:=HP.out wr x (.agg #[.int .i64 x.kind,.int .i64 x.user,.int .i64 x.n,.int .i64 x.cmd.k,.slice a0 n0 c0,.slice a1 n1 c1,.int .i64 x.cmd.uid,.int .i64 x.cmd.mode,.int .i64 x.cmd.fl,.int .i64 x.cmd.si,.slice a2 n2 c2,.int .i64 x.acc.valid,.slice a3 x.acc.boxes.length c3,.slice a4 x.acc.seen.length c4]) hB.out Gq;clear Gq;have HX:Hid (l[k]?=some x):=hx;clear hx
   cases hq:p x with
   | true =>
    rw[hq] at hcall;have HQ:Hid (p x=true):=hq;clear hq;go_wp2_with (go_at_fn g;refine hcall.mono ?_;rintro e w1 ⟨rfl,B⟩)
    go_ret;exact⟨ng (Al hlt HX.out HQ.out hA.out).symm,Below.step hB.out B⟩
   | false =>
    rw[hq] at hcall;have HQ:Hid (p x=false):=hq;clear hq;go_wp2_with (go_at_fn g;refine hcall.mono ?_;rintro e w1 ⟨rfl,B⟩)
    have HB2:Hid (Below w.heap.size w w1):=Below.step hB.out B;clear B hB;go_roundw
    case rel =>
     refine⟨k+1,by omega,by go_num,(show Hid _ from λj y hj hy=>?_),HB2⟩
     by_cases e:j=k
     ·subst e;rw[HX.out] at hy;cases hy;exact HQ.out
     ·exact hA.out j y (by omega) hy
    case measure=>simp[intOf];omega
  ·obtain rfl:k=l.length:=by omega
   go_wp2;go_ret;exact⟨ng (Am hA.out).symm,hB.out⟩
theorem YJ (g:Nat) (lb:Array Value) (p:RecD->Bool) (v:Value) (l:List RecD) (w:World) (hv:RecsV w v l) (eg:∀args w,(callFunc g args).run Tryz.prog w=.ok (.enter g args) w)
  (hp:∀wi x u,Below w.heap.size w wi->iK wi u x->Calls Tryz.prog g (#[u] ++ lb) wi λe w'=>e=.returned (.bool (p x))/\Below wi.heap.size wi w') :
  Calls Tryz.prog 26 #[v,.func (.func g) #[] lb] w λe w'=>e=.returned (.bool (l.any p))/\Below w.heap.size w w':=by
 have hi:=ahL g lb p v l w hv eg hp;have HF:Hid (l.any p=decide (0<=bD p l)):=CR p l;generalize bD p l=i at hi HF;obtain⟨a,cap,rfl,-⟩:=hv.form;clear hp hv
 go_enter Tryz.func26,Tryz.ntmps26;go_wp2_with (go_at_call 42;refine hi.mono ?_;rintro e w1 ⟨rfl,B⟩)
 go_ret;exact⟨aN HF.out,B⟩
def rO (lo hi:Int) (r:RecD):Bool:=!yI r || !aQ r.kind lo hi
theorem ahM (lo hi:Int) (g1 g2:Nat) (v:Value) (r:RecD) (w:World) (hv:iK w v r) (h1:w.cell? ⟨g1,0,none⟩=some (.int .i64 lo)) (h2:w.cell? ⟨g2,0,none⟩=some (.int .i64 hi)) (l1:g1 < w.heap.size) (l2:g2 < w.heap.size) :
  Calls Tryz.prog 27 #[v,.pointer (some ⟨g1,0,none⟩),.pointer (some ⟨g2,0,none⟩)] w λe w'=>e=.returned (.bool (rO lo hi r))/\Below w.heap.size w w':=by
 have H0:Hid (∀wi,Below w.heap.size w wi->iK wi v r):=λwi h=>hv.below h;have H1:Hid (∀wi,Below w.heap.size w wi->wi.cell? ⟨g1,0,none⟩=some (.int .i64 lo)/\wi.cell? ⟨g2,0,none⟩=some (.int .i64 hi)):=λwi h=>⟨(h.cell (p:=⟨g1,0,none⟩) l1).trans h1,(h.cell (p:=⟨g2,0,none⟩) l2).trans h2⟩;obtain⟨a0,n0,c0,a1,n1,c1,a2,n2,c2,a3,c3,a4,c4,rfl⟩:=hv.form;clear hv h1 h2
 have X:Below w.heap.size w (w.alloc (.cells #[.int .i64 r.kind,.int .i64 r.user,.int .i64 r.n,.int .i64 r.cmd.k,.slice a0 n0 c0,.slice a1 n1 c1,.int .i64 r.cmd.uid,.int .i64 r.cmd.mode,.int .i64 r.cmd.fl,.int .i64 r.cmd.si,.slice a2 n2 c2,.int .i64 r.acc.valid,.slice a3 r.acc.boxes.length c3,.slice a4 r.acc.seen.length c4] 41)):=bn _ _
 have kA:=aW w (.cells #[.int .i64 r.kind,.int .i64 r.user,.int .i64 r.n,.int .i64 r.cmd.k,.slice a0 n0 c0,.slice a1 n1 c1,.int .i64 r.cmd.uid,.int .i64 r.cmd.mode,.int .i64 r.cmd.fl,.int .i64 r.cmd.si,.slice a2 n2 c2,.int .i64 r.acc.valid,.slice a3 r.acc.boxes.length c3,.slice a4 r.acc.seen.length c4] 41)
 go_enter Tryz.func27,Tryz.ntmps27;go_wp2_with fail
 refine(ahK _ r _ (H0.out _ X)).mono ?_;rintro e w1 ⟨rfl,B⟩;replace X:=Below.step X B;replace kA:=aA B kA;clear B H0;obtain⟨f0,f1,f2,f3,f4,f5,f6,f7,f8,f9,f10,f11,f12,f13⟩:=oC kA;obtain⟨q1,q2⟩:=H1.out _ X;have l3:=lt_of_heap kA;have m1:=Nat.lt_of_lt_of_le l1 X.size;have m2:=Nat.lt_of_lt_of_le l2 X.size;cases hq:yI r with
 | false =>
  have HC:Hid (rO lo hi r=true):=by simp[Hid,rO,hq]
  clear hq;go_wp2;go_ret;exact⟨aN HC.out,X⟩
 | true =>
  have HC:Hid (rO lo hi r = !aQ r.kind lo hi):=by simp[Hid,rO,hq]
  clear hq;go_wp2_with (go_at_call 13;refine(gW _ _ _ _).mono ?_;rintro e w' ⟨rfl,rfl⟩)
  go_ret;exact⟨aN HC.out,X⟩
theorem ahN (lo hi:Int) (v:Value) (l:List RecD) (w:World) (hv:RecsV w v l) :
  Calls Tryz.prog 14 #[v,.int .i64 lo,.int .i64 hi] w λe w'=>e=.returned (.bool (!(l.any (rO lo hi))))/\Below w.heap.size w w':=by
 obtain⟨kA,kB,X⟩:=mE w (.cells #[.int .i64 lo] 3) (.cells #[.int .i64 hi] 3);have hc:=YJ 27 #[.pointer (some ⟨w.heap.size,0,none⟩),.pointer (some ⟨w.heap.size+1,0,none⟩)] (rO lo hi) v l _ (hv.below Dt X) (λ_ _=>by kernel_rfl) (λwi x u hb hu=>by
  have k1:=aA hb kA;have k2:=aA hb kB;exact ahM lo hi w.heap.size (w.heap.size+1) u x wi hu (by rw[cell_of_row _ _ _ _ _ (0,0) k1];rfl) (by rw[cell_of_row _ _ _ _ _ (0,0) k2];rfl) (lt_of_heap k1) (lt_of_heap k2))
 have HC:Hid _:=hc;obtain⟨a,cap,rfl,-⟩:=hv.form;clear hv hc kA kB
 go_enter Tryz.func14,Tryz.ntmps14;go_wp2_with fail
 refine Calls.mono HC.out ?_;rintro e w1 ⟨rfl,B⟩;replace X:=Below.step X B;clear B HC;go_wp2;go_ret;exact⟨rfl,X⟩
def past (h:Int) (r:RecD):Bool:=decide (r.kind=6) && decide (h<=r.n)
theorem ahO (h:Int) (g1:Nat) (v:Value) (r:RecD) (w:World) (hv:iK w v r) (h1:w.cell? ⟨g1,0,none⟩=some (.int .i64 h)) (l1:g1 < w.heap.size) :
  Calls Tryz.prog 29 #[v,.pointer (some ⟨g1,0,none⟩)] w λe w'=>e=.returned (.bool (past h r))/\Below w.heap.size w w':=by
 obtain⟨a0,n0,c0,a1,n1,c1,a2,n2,c2,a3,c3,a4,c4,rfl⟩:=hv.form;have X:Below w.heap.size w (w.alloc (.cells #[.int .i64 r.kind,.int .i64 r.user,.int .i64 r.n,.int .i64 r.cmd.k,.slice a0 n0 c0,.slice a1 n1 c1,.int .i64 r.cmd.uid,.int .i64 r.cmd.mode,.int .i64 r.cmd.fl,.int .i64 r.cmd.si,.slice a2 n2 c2,.int .i64 r.acc.valid,.slice a3 r.acc.boxes.length c3,.slice a4 r.acc.seen.length c4] 41)):=bn _ _;have HX:Hid _:=X;have q1:=(X.cell (p:=⟨g1,0,none⟩) l1).trans h1;clear hv X h1
 by_cases h6:r.kind=6
 ·by_cases hn:h<=r.n
  ·have HC:Hid (past h r=true):=by simp[Hid,past,h6,hn]
   have e6:(r.kind == 6)=true:=by simp[h6]
   clear h6
   go_enter Tryz.func29,Tryz.ntmps29;go_wp2;go_ret;exact⟨aN HC.out,HX.out⟩
  ·have HC:Hid (past h r=false):=by simp[Hid,past,hn]
   have e6:(r.kind == 6)=true:=by simp[h6]
   clear h6
   go_enter Tryz.func29,Tryz.ntmps29;go_wp2;go_ret;exact⟨aN HC.out,HX.out⟩
 ·have HC:Hid (past h r=false):=by simp[Hid,past,h6]
  have e6:(r.kind == 6)=false:=by simp[h6]
  clear h6
  go_enter Tryz.func29,Tryz.ntmps29;go_wp2;go_ret;exact⟨aN HC.out,HX.out⟩
theorem ahP (h:Int) (v:Value) (l:List RecD) (w:World) (hv:RecsV w v l) :
  Calls Tryz.prog 15 #[v,.int .i64 h] w λe w'=>e=.returned (.bool (l.any (past h)))/\Below w.heap.size w w':=by
 have X:Below w.heap.size w (w.alloc (.cells #[.int .i64 h] 3)):=bn _ _;have kA:=aW w (.cells #[.int .i64 h] 3);have hc:=YJ 29 #[.pointer (some ⟨w.heap.size,0,none⟩)] (past h) v l _ (hv.below Dt X) (λ_ _=>by kernel_rfl) (λwi x u hb hu=>by
  have k1:=aA hb kA;exact ahO h w.heap.size u x wi hu (by rw[cell_of_row _ _ _ _ _ (0,0) k1];rfl) (lt_of_heap k1))
 have HC:Hid _:=hc;obtain⟨a,cap,rfl,-⟩:=hv.form;clear hv hc kA
 go_enter Tryz.func15,Tryz.ntmps15;go_wp2_with fail
 refine Calls.mono HC.out ?_;rintro e w1 ⟨rfl,B⟩;replace X:=Below.step X B;clear B HC;go_wp2;go_ret;exact⟨rfl,X⟩
theorem ahQ (h:Int) (l:List RecD):iX h l=(aQ h 1 3 && (!(l.any (rO 6 8)) && !(l.any (past h)))):=by
 rw[Bool.eq_iff_iff];simp only[iX,Ay,aQ,Bool.and_eq_true,decide_eq_true_eq,List.all_eq_true,Bool.not_eq_true',List.any_eq_false,rO,past,Bool.or_eq_true,Bool.and_eq_false_iff,decide_eq_false_iff_not]
 constructor
 ·rintro⟨h0,hA⟩
  refine⟨h0,λr hr=>?_,λr hr=>?_⟩
  ·obtain⟨q0,q1,q2⟩:=hA r hr
   have:=Lj q0;rintro(h | h)
   ·rw[q0] at h;cases h
   ·rcases h with h | h <;> omega
  ·obtain⟨q0,q1,q2⟩:=hA r hr
   rintro⟨h,h'⟩;rcases q2 with q2 | q2
   ·exact q2 h
   ·exact q2 h'
 ·rintro⟨h0,hA,hB⟩
  refine⟨h0,λr hr=>⟨?_,?_,?_⟩⟩
  ·have:=hA r hr
   cases e:yI r
   ·exact absurd (.inl e) this
   ·rfl
  ·have:=hA r hr
   by_cases e:6<=r.kind
   ·exact e
   ·exact absurd (.inr (.inl e)) this
  ·have:=hB r hr
   by_cases e:r.kind=6
   ·exact .inr λh=>this ⟨e,h⟩
   ·exact .inl e
/- Rows of a book, from one record to the next. -/
/-- A move that is under way bears a number above the epoch. -/
def CJ (x:bH):Prop:=x.moving=true->x.epoch < x.tr
/-- How a row may turn by a record of a kind. -/
def Gr (a c:bH) (k:Int):Prop:=¬c.epoch < a.epoch/\¬c.tr < a.tr/\(c.owner≠a.owner->c.epoch≠a.epoch)/\(c.epoch≠a.epoch->k=7)/\(c.moving=true->a.moving=false->¬c.tr<=a.tr/\¬c.tr<=c.epoch)
theorem Kt (a:bH) (k:Int):Gr a a k:=⟨by omega,by omega,λh=>absurd rfl h,λh=>absurd rfl h,λh h'=>by rw[h] at h';cases h'⟩
theorem ahR {x:bH} {kind n:Int} (h:CJ x) (hk:6<=kind/\kind<=8):CJ (bI x kind n)/\Gr x (bI x kind n) kind:=by
 have hk':kind=6\/kind=7\/kind=8:=by omega
 unfold bI;rcases hk' with rfl | rfl | rfl
 ·rw[if_pos rfl]
  split
  ·rename_i q
   obtain⟨q0,-⟩:=q;have e:x.tr < (if x.tr > x.epoch then x.tr else x.epoch)+1/\x.epoch < (if x.tr > x.epoch then x.tr else x.epoch)+1:=by split <;> omega
   exact⟨λ_=>e.2,by simp,by dsimp only;omega,λh=>absurd rfl h,λh=>absurd rfl h,λ_ _=>by dsimp only;omega⟩
  ·exact⟨h,Kt _ _⟩
 ·rw[if_neg (by decide),if_pos rfl]
  split
  ·rename_i q
   have e:=h q;exact⟨λh=>(by cases h),by dsimp only;omega,by simp,λ_=>by dsimp only;omega,λ_=>rfl,λh=>by cases h⟩
  ·exact⟨h,Kt _ _⟩
 ·rw[if_neg (by decide),if_neg (by decide)]
  exact⟨λh=>(by cases h),by simp,by simp,λh=>absurd rfl h,λh=>absurd rfl h,λh=>by cases h⟩
theorem YK {b:List bH} {r:RecD} (hb:∀x ∈ b,CJ x) (hk:6<=r.kind/\r.kind<=8):(∀x ∈ iL b r,CJ x)/\∀(u:Nat) (x y:bH),b[u]?=some x->(iL b r)[u]?=some y->Gr x y r.kind:=by
 unfold iL;cases hu:b[r.user.toNat]? with
 | none=>exact⟨hb,λu x y h1 h2=>by rw[h1] at h2;cases h2;exact Kt _ _⟩
 | some z =>
  have hz:=ahR (n:=r.n) (hb z (List.mem_of_getElem? hu)) hk;refine⟨λx hx=>?_,λu x y h1 h2=>?_⟩
  ·rcases List.mem_or_eq_of_mem_set hx with hx | rfl
   ·exact hb x hx
   ·exact hz.1
  ·have hl:=(gs1 hu).1
   dsimp only at h2
   by_cases e:r.user.toNat=u
   ·subst e
    rw[List.getElem?_set_self hl] at h2;rw[hu] at h1;cases h1;cases h2
    exact hz.2
   ·rw[List.getElem?_set_ne e,h1] at h2
    cases h2
    exact Kt _ _
theorem ahS (l:List RecD) (b:List bH) (hb:∀x ∈ b,CJ x) (hl:∀r ∈ l,6<=r.kind/\r.kind<=8):∀x ∈ l.foldl iL b,CJ x:=by
 induction l generalizing b with
 | nil=>exact hb
 | cons r l ih =>
  rw[List.foldl_cons];exact ih _ (YK hb (hl r (by simp))).1 λr hr=>hl r (by simp[hr])
theorem Ku {h:Int} {l:List RecD} (e:iX h l=true) (i:Nat):iX h (l.take i)=true:=by
 unfold iX at e ⊢;simp only[Bool.and_eq_true,List.all_eq_true] at e ⊢;exact⟨e.1,λr hr=>e.2 r (List.mem_of_mem_take hr)⟩
theorem ahT {h:Int} {l:List RecD} (e:iX h l=true):∀r ∈ l,6<=r.kind/\r.kind<=8:=λr hr=>by
 unfold iX Ay at e;simp only[Bool.and_eq_true,List.all_eq_true,decide_eq_true_eq] at e;have h1:=e.2 r hr;exact⟨h1.2.1,(Lj h1.1).1.2⟩
theorem Qb {h:Int} {l:List RecD} (e:iX h l=true):(nD h l).length=3:=by rw[Lm e,Lp,Ll]
/-- The rows ahead of a record and behind it. -/
theorem ahU {h:Int} {l:List RecD} (e:iX h l=true) {i:Nat} {r:RecD} (hr:l[i]?=some r) {u:Nat} {x y:bH} (hx:(nD h (l.take i))[u]?=some x) (hy:(nD h (l.take (i+1)))[u]?=some y):Gr x y r.kind:=by
 have hk:=ahT e;rw[Lm (Ku e _)] at hx hy;have hi:l.take (i+1)=l.take i ++ [r]:=by rw[List.take_add_one,hr];rfl
 rw[hi,List.foldl_append] at hy;refine(YK (r:=r) (ahS (l.take i) (jK h) (λz hz=>?_) λz hz=>hk z (List.mem_of_mem_take hz)) (hk r (List.mem_of_getElem? hr))).2 u x y hx hy;unfold jK wD at hz;simp only[List.mem_cons,List.not_mem_nil,or_false] at hz;rcases hz with rfl | rfl | rfl <;> exact λh=>by cases h
end Go.Proofs.YtfabngnaejjcmaaGreatDoor
