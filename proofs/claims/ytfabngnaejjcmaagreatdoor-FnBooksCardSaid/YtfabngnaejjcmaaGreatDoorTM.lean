/- The proof's texts, part 48. -/
import Derived.Test.YtfabngnaejjcmaaGreatDoorTd
import Derived.Test.YtfabngnaejjcmaaGreatDoorTL
import Derived.Test.YtfabngnaejjcmaaGreatDoorTJ
namespace Go.Proofs.YtfabngnaejjcmaaGreatDoor
open Go.RowKit
set_option linter.unusedVariables false
set_option linter.unusedSimpArgs false
set_option maxHeartbeats 4000000
set_option maxRecDepth 100000
/- What R3 of package spec does of every account. -/
/- What RZ of package spec does of every record. -/
/- What aaG, YV of package spec do. -/
/- What YV of package spec does. -/
theorem YW {u:Value} {a b:Bool} (h:b=a):Ending.returned (.tuple #[u,.bool a])=.returned (.tuple #[u,.bool b]):=by rw[h]
theorem aic {h:Int} {r:RecD} (e:Ay h r=true):(6<=r.kind/\r.kind<=8)/\(0<=r.user/\r.user<=2)/\(0<=r.n/\r.n<=1000000):=by
 simp only[Ay,Bool.and_eq_true,decide_eq_true_eq] at e;have:=Lj e.1;exact⟨⟨e.2.1,this.1.2⟩,this.2.1,this.2.2⟩
theorem rows_ok {b:List bH} {r:RecD} (hb:∀x,x ∈ b->kT x) (hn:0<=r.n/\r.n<=1000000):∀x,x ∈ iL b r->kT x:=by
 intro x hx;unfold iL at hx
 split at hx
 ·rename_i y hy
  rcases List.mem_or_eq_of_mem_set hx with h | rfl
  ·exact hb x h
  ·exact RQ (hb y (List.mem_of_getElem? hy)) hn.1 hn.2
 ·exact hb x hx
theorem aie {h:Int} (h1:1<=h) (h3:h<=3):∀x,x ∈ jK h->kT x:=by
 intro x hx;simp only[jK,List.mem_cons,List.not_mem_nil,or_false] at hx;rcases hx with rfl | rfl | rfl <;> exact RS h1 h3 (by omega)
theorem aif {l:List RecD} {k:Nat} {x:RecD} (hx:l[k]?=some x) (b:List bH):(l.take (k+1)).foldl iL b=iL ((l.take k).foldl iL b) x:=by
 have hk:k < l.length:=(gs1 hx).1;rw[List.take_succ_eq_append_getElem hk,(gs1 hx).2,List.foldl_append];rfl
/- What apply of the book, YV of package impl do. -/
theorem aii (gb B M:Nat) (uu v:Value) (b:List bH) (r:RecD) (w:World) (hk:w.heap[gb]?=some (.cells #[uu] 28)) (hR:kS w B M uu b) (hM:M<=w.heap.size) (hbl:b.length<=1000) (hu0:0<=r.user) (hu:r.user < b.length) (hok:∀x,x ∈ b->kT x) (hkind:6<=r.kind/\r.kind<=8) (hn:0<=r.n/\r.n<=1000000) (hv:iK w v r) :
  Calls Tryz.prog 17 #[.pointer (some ⟨gb,0,none⟩),v] w λe w'=>(∃z,e=.returned z)/\kS w' B M uu (iL b r)/\Wr (In B M) w w':=by
 obtain⟨a0,n0,c0,a1,n1,c1,a2,n2,c2,a3,c3,a4,c4,rfl⟩:=hv.form;have AB:Below w.heap.size w (w.alloc (.cells #[.int .i64 r.kind,.int .i64 r.user,.int .i64 r.n,.int .i64 r.cmd.k,.slice a0 n0 c0,.slice a1 n1 c1,.int .i64 r.cmd.uid,.int .i64 r.cmd.mode,.int .i64 r.cmd.fl,.int .i64 r.cmd.si,.slice a2 n2 c2,.int .i64 r.acc.valid,.slice a3 r.acc.boxes.length c3,.slice a4 r.acc.seen.length c4] 41)):=bn _ _;obtain⟨j,hju⟩:∃j:Nat,r.user=j:=⟨r.user.toNat,by omega⟩;have hj:j < b.length:=by omega
 have hjt:r.user.toNat=j:=by omega
 obtain⟨x,hx⟩:∃x,b[j]?=some x:=⟨b[j],bK hj⟩;have hox:Hid (kT x):=hok x (List.mem_of_getElem? hx);have hI:=RP (RQ (kind:=r.kind) (n:=r.n) hox.out hn.1 hn.2);obtain⟨g,cap,cur,c,f,hv',-,-,hh,hroom,hS,⟨rfl,-⟩,-,hcs,hf,YX⟩:=Ow.upd Lh (aZ.below hR AB) j x hx;subst hv';have Qh:g≠w.heap.size:=by have:=hS.2;omega
 have hlt:j * 5+5<=100000:=by omega
 have hbw:Hid ((w.alloc (.cells #[.int .i64 r.kind,.int .i64 r.user,.int .i64 r.n,.int .i64 r.cmd.k,.slice a0 n0 c0,.slice a1 n1 c1,.int .i64 r.cmd.uid,.int .i64 r.cmd.mode,.int .i64 r.cmd.fl,.int .i64 r.cmd.si,.slice a2 n2 c2,.int .i64 r.acc.valid,.slice a3 r.acc.boxes.length c3,.slice a4 r.acc.seen.length c4] 41)).heap[gb]?=some (.cells #[.slice (some ⟨g,0,none⟩) b.length cap] 28)):=aA AB hk
 have A0:Hid (At (w.alloc (.cells #[.int .i64 r.kind,.int .i64 r.user,.int .i64 r.n,.int .i64 r.cmd.k,.slice a0 n0 c0,.slice a1 n1 c1,.int .i64 r.cmd.uid,.int .i64 r.cmd.mode,.int .i64 r.cmd.fl,.int .i64 r.cmd.si,.slice a2 n2 c2,.int .i64 r.acc.valid,.slice a3 r.acc.boxes.length c3,.slice a4 r.acc.seen.length c4] 41)) f g 33 cur (j * 5) [.int .i64 x.epoch,.int .i64 x.owner,.bool x.moving,.int .i64 x.tr,.int .i64 x.target] (w.alloc (.cells #[.int .i64 r.kind,.int .i64 r.user,.int .i64 r.n,.int .i64 r.cmd.k,.slice a0 n0 c0,.slice a1 n1 c1,.int .i64 r.cmd.uid,.int .i64 r.cmd.mode,.int .i64 r.cmd.fl,.int .i64 r.cmd.si,.slice a2 n2 c2,.int .i64 r.acc.valid,.slice a3 r.acc.boxes.length c3,.slice a4 r.acc.seen.length c4] 41))):=At.start hh hcs
 have fin:∀(w':World) (cs:List Value),At (w.alloc (.cells #[.int .i64 r.kind,.int .i64 r.user,.int .i64 r.n,.int .i64 r.cmd.k,.slice a0 n0 c0,.slice a1 n1 c1,.int .i64 r.cmd.uid,.int .i64 r.cmd.mode,.int .i64 r.cmd.fl,.int .i64 r.cmd.si,.slice a2 n2 c2,.int .i64 r.acc.valid,.slice a3 r.acc.boxes.length c3,.slice a4 r.acc.seen.length c4] 41)) f g 33 cur (j * 5) cs w'->cs=[.int .i64 (bI x r.kind r.n).epoch,.int .i64 (bI x r.kind r.n).owner,.bool (bI x r.kind r.n).moving,.int .i64 (bI x r.kind r.n).tr,.int .i64 (bI x r.kind r.n).target] ->
   kS w' B M (.slice (some ⟨g,0,none⟩) b.length cap) (iL b r)/\Wr (In B M) w w':=by
  rintro w' cs hA rfl;obtain⟨cur',k1,k2,k3,k4⟩:=hA.blk;refine⟨?_,(Wr.of_below AB).trans (hA.wrote.mono λy hy=>?_)⟩
  ·rw[aaE (x:=x) (by rw[hjt];exact hx),hjt]
   exact YX w' cur' _ _ k1 k2 k3 (λm hm=>k4 m (by simpa using hm)) rfl (λy hy hne hnf hlt=>hA.wrote.block y hlt (λh=>h.elim hne hnf)) ⟨rfl,hI⟩
  ·rcases hy with rfl | hy
   ·exact hS
   ·exact(hf y hy).1
 clear YX hcs hh hf hR hk hv;rw[hju] at hbw A0 fin ⊢;have hkk:r.kind=6\/r.kind=7\/r.kind=8:=by omega
 rcases hkk with hk6 | YZ | rM
 ·rw[hk6] at hbw A0 fin ⊢
  exact(ahY gb g cap b.length j cur f x r.n r.cmd.k r.cmd.uid r.cmd.mode r.cmd.fl r.cmd.si r.acc.valid a0 a1 a2 a3 a4 n0 n1 n2 r.acc.boxes.length r.acc.seen.length c0 c1 c2 c3 c4 w _ rfl hbw A0 hj hbl hroom hox Qh hlt).mono (λe w' ⟨hz,hA⟩=>⟨hz,fin w' _ hA rfl⟩)
 ·rw[YZ] at hbw A0 fin ⊢
  exact(ahZ gb g cap b.length j cur f x r.n r.cmd.k r.cmd.uid r.cmd.mode r.cmd.fl r.cmd.si r.acc.valid a0 a1 a2 a3 a4 n0 n1 n2 r.acc.boxes.length r.acc.seen.length c0 c1 c2 c3 c4 w _ rfl hbw A0 hj hbl hroom hox Qh hlt).mono (λe w' ⟨hz,hA⟩=>⟨hz,fin w' _ hA rfl⟩)
 ·rw[rM] at hbw A0 fin ⊢
  exact(ah0 gb g cap b.length j cur f x r.n r.cmd.k r.cmd.uid r.cmd.mode r.cmd.fl r.cmd.si r.acc.valid a0 a1 a2 a3 a4 n0 n1 n2 r.acc.boxes.length r.acc.seen.length c0 c1 c2 c3 c4 w _ rfl hbw A0 hj hbl hroom hox Qh hlt).mono (λe w' ⟨hz,hA⟩=>⟨hz,fin w' _ hA rfl⟩)
theorem Qi (h:Int) (v:Value) (l:List RecD) (w:World) (hv:RecsV w v l) (hl:l.length<=2000000) :
  Calls Tryz.prog 5 #[.int .i64 h,v] w λe w'=>∃u,e=.returned (.tuple #[u,.bool (iX h l)])/\qV w' w.heap.size w'.heap.size u (nD h l)/\Below w.heap.size w w':=by
 have HV:Hid (∀wi,Below w.heap.size w wi->RecsV wi v l):=λwi h=>hv.below Dt h;obtain⟨a,cap,rfl,hlc,hcm⟩:=hv.form;clear hv;have X0:Below w.heap.size w (w.alloc (.cells #[.slice none 0 0] 28)):=bn _ _;have oP:=aW w (.cells #[.slice none 0 0] 28);have HE:=(show Hid _ from ahQ h l);have NO:Hid (∀W,Below w.heap.size w W->iX h l=false->∃u,Ending.returned (.tuple #[.agg #[.slice none 0 0],.bool false])=.returned (.tuple #[u,.bool (iX h l)])/\qV W w.heap.size W.heap.size u (nD h l)/\Below w.heap.size w W):=by
  intro W hW hn;refine⟨.agg #[.slice none 0 0],YW hn,⟨_,rfl,?_⟩,hW⟩;rw[RN hn];exact .inl ⟨rfl,rfl⟩
 go_enter Tryz.func5,Tryz.ntmps5;go_wp2_with fail
 refine(gW _ _ _ _).mono ?_;rintro e w' ⟨rfl,rfl⟩;cases hin:aQ h 1 3 with
 | false =>
  have Gw:Hid (iX h l=false):=by show _=_;rw[HE.out,hin];rfl
  clear hin HE HV oP;go_wp2;exact bodyPost_ret (v:=.tuple #[.agg #[.slice none 0 0],.bool false]) (by simp[results,Tryz.results5,go_sem]) rfl (NO.out _ X0 Gw.out)
 | true =>
 have zB:Hid (aQ h 1 3=true):=hin;clear hin;go_wp2_with fail
 refine(ahN 6 8 _ l _ (HV.out _ X0)).mono ?_;rintro e w2 ⟨rfl,B⟩;replace X0:=Below.step X0 B;replace oP:=aA B oP;clear B;have z0:w2.cell? ⟨w.heap.size,0,none⟩=some (.slice none 0 0):=by rw[cell_of_row _ _ _ _ _ (0,0) oP];rfl
 obtain⟨oz,ol⟩:=aO oP;cases Kv:l.any (rO 6 8) with
 | true =>
  have Gw:Hid (iX h l=false):=by show _=_;rw[HE.out,Kv];simp
  have HB3:Hid _:=X0.setCell (p:=⟨w.heap.size,0,none⟩) (by simp) (.slice none 0 0);clear Kv HE HV oP;go_wp2;exact bodyPost_ret (v:=.tuple #[.agg #[.slice none 0 0],.bool false]) (by simp[results,Tryz.results5,go_sem,z0]) rfl (NO.out _ HB3.out Gw.out)
 | false =>
 have oN:Hid (l.any (rO 6 8)=false):=Kv;clear Kv z0 oz ol;go_wp2_with fail
 refine(ahP h _ l _ (HV.out _ X0)).mono ?_;rintro e w3 ⟨rfl,B⟩;replace X0:=Below.step X0 B;replace oP:=aA B oP;clear B;cases hmp:l.any (past h) with
 | true =>
  have z0:w3.cell? ⟨w.heap.size,0,none⟩=some (.slice none 0 0):=by rw[cell_of_row _ _ _ _ _ (0,0) oP];rfl
  obtain⟨oz,ol⟩:=aO oP;have Gw:Hid (iX h l=false):=by show _=_;rw[HE.out,hmp];simp
  have HB3:Hid _:=X0.setCell (p:=⟨w.heap.size,0,none⟩) (by simp) (.slice none 0 0);clear hmp HE HV oP;go_wp2;exact bodyPost_ret (v:=.tuple #[.agg #[.slice none 0 0],.bool false]) (by simp[results,Tryz.results5,go_sem,z0]) rfl (NO.out _ HB3.out Gw.out)
 | false =>
 have Qj:Hid (iX h l=true):=by show _=_;rw[HE.out,zB.out,oN.out,hmp];rfl
 obtain⟨h1,h3⟩:1<=h/\h<=3:=by have:=zB.out;simpa [aQ] using this
 have HOK:Hid (∀x,x ∈ l->Ay h x=true):=by
  have:=Qj.out;simp only[iX,Bool.and_eq_true,List.all_eq_true] at this;exact this.2
 clear hmp zB oN HE NO;go_wp2_with fail
 refine(aaM h h1 h3 _).mono ?_;rintro e w1 ⟨uu,rfl,⟨u,rfl,R1⟩,B1⟩;obtain⟨ua,un,uc,rfl⟩:=aZ.aP R1;have Y0:=aA B1 oP;have X1:=Below.step X0 B1;have s0:=lt_of_heap oP;have s1:w3.heap.size<=w1.heap.size:=B1.size;have AB:Below w1.heap.size w1 (w1.alloc (.cells #[.slice ua un uc] 28)):=bn _ _;generalize hN:w3.heap.size=N at R1 s0 s1
 have HW:Hid (∀W,W=(w1.alloc (.cells #[.slice ua un uc] 28))->Below w.heap.size w W/\W.heap[w.heap.size]?=some (.cells #[.slice none 0 0] 28)/\W.heap[w1.heap.size]?=some (.cells #[.slice ua un uc] 28)/\kS W N w1.heap.size (.slice ua un uc) (jK h)/\w1.heap.size < W.heap.size):=by
  rintro W rfl;exact⟨Below.step X1 AB,aA AB Y0,aW w1 _,aZ.below R1 AB,by simp⟩
 clear B1 oP Y0 X0 X1 R1 AB hN;go_wp2
 go_loopw [27] (λi wr=>∃(k:Nat),k<=l.length/\i=.int .i64 k/\Hid (Below w.heap.size w wr)/\Hid (wr.heap[w.heap.size]?=some (.cells #[.slice none 0 0] 28)/\wr.heap[w1.heap.size]?=some (.cells #[.slice ua un uc] 28)/\w1.heap.size < wr.heap.size)/\Hid (kS wr N w1.heap.size (.slice ua un uc) ((l.take k).foldl iL (jK h))/\(∀x,x ∈ (l.take k).foldl iL (jK h)->kT x))) (λi _=>l.length - (intOf i).toNat)
 case atStart =>
  obtain⟨x0,x1,x2,x3,x4⟩:=HW.out _ rfl;exact⟨0,Nat.zero_le _,rfl,x0,⟨x1,x2,x4⟩,⟨by simpa using x3,by simpa using aie h1 h3⟩⟩
 case round =>
  clear HW;obtain⟨k,hk,rfl,HB,HK,HR⟩:=hrel
  by_cases hlt:k < l.length
  ·obtain⟨x,hx⟩:∃x,l[k]?=some x:=⟨l[k],bK hlt⟩
   have HX:Hid (l[k]?=some x):=hx;obtain⟨f0,f1,f2⟩:=aic (HOK.out x (List.mem_of_getElem? hx));obtain⟨b,off,cap',a0,n0,c0,a1,n1,c1,a2,n2,c2,a3,c3,a4,c4,hv',hlb,d0,d1,d2,d3,d4,d5,d6,d7,d8,d9,YF,YG,YH,YI,Gq⟩:=RecsV.cell (HV.out wr HB.out) k x hx;simp only[Value.slice.injEq,true_and] at hv';obtain⟨rfl,rfl⟩:=hv'
   have AB:Below wr.heap.size wr (wr.alloc (.cells #[.int .i64 x.kind,.int .i64 x.user,.int .i64 x.n,.int .i64 x.cmd.k,.slice a0 n0 c0,.slice a1 n1 c1,.int .i64 x.cmd.uid,.int .i64 x.cmd.mode,.int .i64 x.cmd.fl,.int .i64 x.cmd.si,.slice a2 n2 c2,.int .i64 x.acc.valid,.slice a3 x.acc.boxes.length c3,.slice a4 x.acc.seen.length c4] 41)):=bn _ _
   have Y1:Hid (iK (wr.alloc (.cells #[.int .i64 x.kind,.int .i64 x.user,.int .i64 x.n,.int .i64 x.cmd.k,.slice a0 n0 c0,.slice a1 n1 c1,.int .i64 x.cmd.uid,.int .i64 x.cmd.mode,.int .i64 x.cmd.fl,.int .i64 x.cmd.si,.slice a2 n2 c2,.int .i64 x.acc.valid,.slice a3 x.acc.boxes.length c3,.slice a4 x.acc.seen.length c4] 41)) (.agg #[.int .i64 x.kind,.int .i64 x.user,.int .i64 x.n,.int .i64 x.cmd.k,.slice a0 n0 c0,.slice a1 n1 c1,.int .i64 x.cmd.uid,.int .i64 x.cmd.mode,.int .i64 x.cmd.fl,.int .i64 x.cmd.si,.slice a2 n2 c2,.int .i64 x.acc.valid,.slice a3 x.acc.boxes.length c3,.slice a4 x.acc.seen.length c4]) x):=Gq.below AB
   have HB2:Hid (Below w.heap.size w (wr.alloc (.cells #[.int .i64 x.kind,.int .i64 x.user,.int .i64 x.n,.int .i64 x.cmd.k,.slice a0 n0 c0,.slice a1 n1 c1,.int .i64 x.cmd.uid,.int .i64 x.cmd.mode,.int .i64 x.cmd.fl,.int .i64 x.cmd.si,.slice a2 n2 c2,.int .i64 x.acc.valid,.slice a3 x.acc.boxes.length c3,.slice a4 x.acc.seen.length c4] 41))):=Below.step HB.out AB;have zP:Hid _:=aA AB HK.out.1
   have gD:Hid ((wr.alloc (.cells #[.int .i64 x.kind,.int .i64 x.user,.int .i64 x.n,.int .i64 x.cmd.k,.slice a0 n0 c0,.slice a1 n1 c1,.int .i64 x.cmd.uid,.int .i64 x.cmd.mode,.int .i64 x.cmd.fl,.int .i64 x.cmd.si,.slice a2 n2 c2,.int .i64 x.acc.valid,.slice a3 x.acc.boxes.length c3,.slice a4 x.acc.seen.length c4] 41)).heap[w1.heap.size]?=some (.cells #[.slice ua un uc] 28)):=aA AB HK.out.2.1;have hgl:=HK.out.2.2
   have hsz:(wr.alloc (.cells #[.int .i64 x.kind,.int .i64 x.user,.int .i64 x.n,.int .i64 x.cmd.k,.slice a0 n0 c0,.slice a1 n1 c1,.int .i64 x.cmd.uid,.int .i64 x.cmd.mode,.int .i64 x.cmd.fl,.int .i64 x.cmd.si,.slice a2 n2 c2,.int .i64 x.acc.valid,.slice a3 x.acc.boxes.length c3,.slice a4 x.acc.seen.length c4] 41)).heap.size=wr.heap.size+1:=by simp
   have HR2:Hid (kS (wr.alloc (.cells #[.int .i64 x.kind,.int .i64 x.user,.int .i64 x.n,.int .i64 x.cmd.k,.slice a0 n0 c0,.slice a1 n1 c1,.int .i64 x.cmd.uid,.int .i64 x.cmd.mode,.int .i64 x.cmd.fl,.int .i64 x.cmd.si,.slice a2 n2 c2,.int .i64 x.acc.valid,.slice a3 x.acc.boxes.length c3,.slice a4 x.acc.seen.length c4] 41)) N w1.heap.size (.slice ua un uc) ((l.take k).foldl iL (jK h))/\(∀x,x ∈ (l.take k).foldl iL (jK h)->kT x)):=⟨aZ.below HR.out.1 AB,HR.out.2⟩;clear Gq AB HB HK HR hx;go_wp2_with fail
   refine(aii w1.heap.size N w1.heap.size _ _ _ x _ gD.out HR2.out.1 (by omega) (by rw[Lp,Ll];omega) f1.1 (by rw[Lp,Ll];omega) HR2.out.2 f0 f2 Y1.out).mono ?_;rintro e w4 ⟨⟨z,rfl⟩,hr4,hw4⟩;have oh:Hid (Below w.heap.size w w4):=hw4.below HB2.out (λy hy=>by have:=hy.1;omega) (by have:=HB2.out.size;omega)
   have Py:Hid (w4.heap[w.heap.size]?=some (.cells #[.slice none 0 0] 28)/\w4.heap[w1.heap.size]?=some (.cells #[.slice ua un uc] 28)/\w1.heap.size < w4.heap.size):=⟨(hw4.block _ (lt_of_heap zP.out) (λhy=>by have:=hy.1;omega)).trans zP.out,(hw4.block _ (lt_of_heap gD.out) (λhy=>by have:=hy.2;omega)).trans gD.out,by have:=hw4.size;omega⟩;have HR4:Hid (kS w4 N w1.heap.size (.slice ua un uc) ((l.take (k+1)).foldl iL (jK h))/\(∀x,x ∈ (l.take (k+1)).foldl iL (jK h)->kT x)):=by
    show _/\_;rw[aif HX.out];exact⟨hr4,rows_ok HR2.out.2 f2⟩
   clear hr4 hw4 HB2 zP gD HR2 Y1 hsz d0 d1 d2 d3 d4 d5 d6 d7 d8 d9 YF YG YH YI;go_wp2;go_roundw
   case rel=>exact⟨k+1,by omega,by go_num,oh,Py,HR4⟩
   case measure=>simp[intOf];omega
  ·obtain rfl:k=l.length:=by omega
   have z0:wr.cell? ⟨w.heap.size,0,none⟩=some (.slice none 0 0):=by rw[cell_of_row _ _ _ _ _ (0,0) HK.out.1];rfl
   have z1:wr.cell? ⟨w1.heap.size,0,none⟩=some (.slice ua un uc):=by rw[cell_of_row _ _ _ _ _ (0,0) HK.out.2.1];rfl
   obtain⟨oz,ol⟩:=aO HK.out.1;obtain⟨rz,rl⟩:=aO HK.out.2.1;have HB3:Hid _:=HB.out.setCell (p:=⟨w.heap.size,0,none⟩) (by simp) (.slice ua un uc);have HR3:Hid (kS (wr.setCell ⟨w.heap.size,0,none⟩ (.slice ua un uc)) w.heap.size (wr.setCell ⟨w.heap.size,0,none⟩ (.slice ua un uc)).heap.size (.slice ua un uc) (nD h l)):=by
    show kS _ _ _ _ _;rw[Lm Qj.out,dW];have:=HR.out.1;rw[List.take_length] at this;exact aZ.wide (aZ.set this (.inl (by omega))) (by omega) (by omega)
   clear HB HK HR;go_wp2;exact bodyPost_ret (v:=.tuple #[.agg #[.slice ua un uc],.bool true]) (by simp[results,Tryz.results5,go_sem,z0]) rfl ⟨_,YW Qj.out,⟨_,rfl,HR3.out⟩,HB3.out⟩
end Go.Proofs.YtfabngnaejjcmaaGreatDoor
