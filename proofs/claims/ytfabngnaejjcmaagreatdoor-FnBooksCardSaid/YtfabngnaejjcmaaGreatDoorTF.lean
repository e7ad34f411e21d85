/- The proof's texts, part 41. -/
import Derived.Test.YtfabngnaejjcmaaGreatDoorTD
import Derived.Test.YtfabngnaejjcmaaGreatDoorTE
namespace Go.Proofs.YtfabngnaejjcmaaGreatDoor
open Go.RowKit
set_option linter.unusedVariables false
set_option linter.unusedSimpArgs false
set_option maxHeartbeats 8000000
set_option maxRecDepth 100000
/- A record that is drawn and, maybe, alG: alH of package spec. -/
theorem agY (w0 w:World) (g:Nat) (cv:Value) (L:List Int) (hc:aS w0 w g cv L) :
  Calls Tryz.prog 11 #[.pointer (some ⟨g,0,none⟩)] w λe w'=>∃cs:List Value,e=.returned (.agg cs.toArray)/\∃r:RecD,oG w' cs r/\aS w0 w' g cv L/\w.grownBy w' (some g):=by
 have hgl:=hc.lt.2;have AB:Below w.heap.size w (w.alloc (.cells #[.int .i64 0,.int .i64 0,.int .i64 0,.int .i64 0,.slice none 0 0,.slice none 0 0,.int .i64 0,.int .i64 0,.int .i64 0,.int .i64 0,.slice none 0 0,.int .i64 0,.slice none 0 0,.slice none 0 0] 41)):=bn _ _;have HC:=ay (hc.below AB);have HG:=ay (eX (World.grownBy.refl w (some g)) AB);have HK:=ay (aW w (.cells #[.int .i64 0,.int .i64 0,.int .i64 0,.int .i64 0,.slice none 0 0,.slice none 0 0,.int .i64 0,.int .i64 0,.int .i64 0,.int .i64 0,.slice none 0 0,.int .i64 0,.slice none 0 0,.slice none 0 0] 41))
 have hs1:(w.alloc (.cells #[.int .i64 0,.int .i64 0,.int .i64 0,.int .i64 0,.slice none 0 0,.slice none 0 0,.int .i64 0,.int .i64 0,.int .i64 0,.int .i64 0,.slice none 0 0,.int .i64 0,.slice none 0 0,.slice none 0 0] 41)).heap.size=w.heap.size+1:=by simp
 clear hc AB
 go_enter Tryz.func11,Tryz.ntmps11;go_upto_region 1 with fail
 generalize (w.alloc (.cells #[.int .i64 0,.int .i64 0,.int .i64 0,.int .i64 0,.slice none 0 0,.slice none 0 0,.int .i64 0,.int .i64 0,.int .i64 0,.int .i64 0,.slice none 0 0,.int .i64 0,.slice none 0 0,.slice none 0 0] 41))=w1 at HC HG HK hs1 ⊢;go_wp2_with fail
 refine(xX w0 w1 g cv L 3 HC.out (by omega) (by omega)).mono ?_;rintro e w2 ⟨z,rfl,C2,G2⟩;have vP:=ay C2;have HG2:=ay (nM HG.out G2);have jJ:=ay ((G2.block _ (lt_of_heap HK.out) (by simp;omega)).trans HK.out);have hz2:=G2.size;clear HC HG HK C2 G2;go_wp2_with fail
 refine(XK w0 w2 g cv L (!z) vP.out).mono ?_;rintro e w3 ⟨cs,rfl,r,RC,C3,G3,-⟩;obtain⟨a0,n0,c0,a1,n1,c1,a2,n2,c2,a3,n3,c3,a4,n4,c4,rfl⟩:=RC.parts;have qd:Below w3.heap.size w3 (w3.alloc (.cells #[.int .i64 r.kind,.int .i64 r.user,.int .i64 r.n,.int .i64 r.cmd.k,.slice a0 n0 c0,.slice a1 n1 c1,.int .i64 r.cmd.uid,.int .i64 r.cmd.mode,.int .i64 r.cmd.fl,.int .i64 r.cmd.si,.slice a2 n2 c2,.int .i64 r.acc.valid,.slice a3 n3 c3,.slice a4 n4 c4] 41)):=bn _ _
 have HS:Hid (mZ w0 w (w3.alloc (.cells #[.int .i64 r.kind,.int .i64 r.user,.int .i64 r.n,.int .i64 r.cmd.k,.slice a0 n0 c0,.slice a1 n1 c1,.int .i64 r.cmd.uid,.int .i64 r.cmd.mode,.int .i64 r.cmd.fl,.int .i64 r.cmd.si,.slice a2 n2 c2,.int .i64 r.acc.valid,.slice a3 n3 c3,.slice a4 n4 c4] 41)) g cv L w3.heap.size r):=⟨C3.below qd,eX (nM HG2.out G3) qd,RC.new,aA qd ((G3.block _ (lt_of_heap jJ.out) (by simp;omega)).trans jJ.out)⟩;have hz3:=G3.size;clear vP HG2 jJ C3 G3 qd RC;go_upto_region 2 with fail
 generalize w3.alloc (.cells #[.int .i64 r.kind,.int .i64 r.user,.int .i64 r.n,.int .i64 r.cmd.k,.slice a0 n0 c0,.slice a1 n1 c1,.int .i64 r.cmd.uid,.int .i64 r.cmd.mode,.int .i64 r.cmd.fl,.int .i64 r.cmd.si,.slice a2 n2 c2,.int .i64 r.acc.valid,.slice a3 n3 c3,.slice a4 n4 c4] 41)=w4 at HS ⊢;obtain⟨k,hk⟩:∃k,k=w3.heap.size:=⟨_,rfl⟩;rw[← hk] at HS ⊢;have hk1:w.heap.size < k:=by omega
 clear hk hz3 hz2 hs1 w1 w2 w3;go_wp2_with fail
 refine(xX w0 w4 g cv L 7 HS.out.cur (by omega) (by omega)).mono ?_;rintro e w5 ⟨y,rfl,C5,G5⟩;replace HS:=ay (HS.out.draw hgl hk1 C5 G5);clear C5 G5;cases y with
 | false =>
  obtain⟨cs,f,RC⟩:=HS.out.rp.cs;have qN:=ay RC;have oN:=ay f;have HC:=ay HS.out.cur;have HG:=ay HS.out.gb;have HK:=ay HS.out.res;clear f RC HS;obtain⟨f0,f1,f2,f3,f4,f5,f6⟩:=qN.out.fin oN.out HK.out rfl;have HF:=ay (And.intro f2 (And.intro f3 (And.intro (vk HC.out (tZ w.heap.size (Nat.le_refl _) cs 0 w5 (Below.refl _ _)) hgl) (wZ HG.out (tZ w.heap.size (Nat.le_refl _) cs 0 w5 (Below.refl _ _)) (Nat.le_refl _)))));go_upto_region 3 with fail
  refine wp_region_list ?_;refine wpList_load_mid rfl 41 (.tmp 3) rfl k 0 rfl cs _ f0 Tryz.underlying41 rfl f4 ?_;refine wpList_store_mid rfl 41 (.tmp 2) (.tmp 12) rfl w.heap.size 0 cs.toArray rfl rfl f1 f5 f6 ?_;clear f0 f1 f2 f3 qN oN HK HC HG;generalize w5.setCells w.heap.size 0 cs.toArray.toList=w9 at HF ⊢;go_wp2;refine bodyPost_ret (results_cell_row Tryz.results11 _ _ (w.heap.size) _ _ _ _ rfl HF.out.1 Tryz.underlying41 rfl f5) rfl ⟨cs,rfl,_,HF.out.2.1,HF.out.2.2.1,HF.out.2.2.2⟩
 | true =>
  go_upto_region 4 with fail
  go_cut [14] (λPI wx=>∃x:Int,PI=.int .i64 x/\0<=x/\x < 5/\Hid (mZ w0 w wx g cv L k r))
  case first =>
   go_wp2_with fail
   refine(iH w0 _ g cv L 5 HS.out.cur (by omega) (by omega)).mono ?_;rintro e w6 ⟨x,rfl,hx0,hx1,C6,G6⟩;have jB:=ay (HS.out.draw hgl hk1 C6 G6);clear HS C6 G6;go_wp2;go_meet
   case rel=>exact⟨x,rfl,hx0,hx1,jB⟩
  case rest =>
  clear HS;obtain⟨x,rfl,hx0,hx1,HS⟩:=hcut
  rename World=>w6
  go_step
  go_cut [] (λwx=>∃r,Hid (mZ w0 w wx g cv L k r))
  case first =>
   obtain rfl | rfl | rfl | rfl | rfl:x=0\/x=1\/x=2\/x=3\/x=4:=by omega
   ·have AB:Below w6.heap.size w6 (w6.alloc (.cells #[.int .i64 (-1),.int .i64 9,.int .i64 0,.int .i64 7] 3)):=bn _ _
    have HI:Hid (jD (w6.alloc (.cells #[.int .i64 (-1),.int .i64 9,.int .i64 0,.int .i64 7] 3)) (.slice (some ⟨w6.heap.size,0,none⟩) 4 4) g 4 (-1) 9):=by simpa [Hid] using ko w6 g [-1,9,0,7] 3 (-1) 9 HS.out.cur.lt.2 (by simp) (by simp) (by intro x hx;simp at hx;omega)
    have HS2:=ay (HS.out.below AB);clear HS AB;go_wp2_with fail
    refine(kg w0 _ g 4 _ _ L (-1) 9 HS2.out.cur HI.out).mono ?_;rintro e w7 ⟨y,rfl,hy0,hy1,C7,G7⟩;have bQ:=ay (HS2.out.draw hgl hk1 C7 G7);clear HS2 HI C7 G7;obtain⟨a0,n0,c0,a1,n1,c1,a2,n2,c2,a3,n3,c3,a4,n4,c4,aX,-⟩:=bQ.out.rp;have q0:=(oC aX).1;have lk:=lt_of_heap aX;have fk:=(aO aX).1;have lG:=ay (bQ.out.put hgl hk1 ((Below.refl k w7).setCell (p:=⟨k,0,none⟩) (Nat.le_refl _) (.int .i64 y)) (bQ.out.rp.set0 (x:=y) ⟨by omega,by omega⟩));clear aX bQ;go_wp2;go_meet
    case rel=>exact⟨_,lG⟩
   ·have AB:Below w6.heap.size w6 (w6.alloc (.cells #[.int .i64 (-1),.int .i64 3] 3)):=bn _ _
    have HI:Hid (jD (w6.alloc (.cells #[.int .i64 (-1),.int .i64 3] 3)) (.slice (some ⟨w6.heap.size,0,none⟩) 2 2) g 2 (-1) 3):=by simpa [Hid] using ko w6 g [-1,3] 3 (-1) 3 HS.out.cur.lt.2 (by simp) (by simp) (by intro x hx;simp at hx;omega)
    have HS2:=ay (HS.out.below AB);clear HS AB;go_wp2_with fail
    refine(kg w0 _ g 2 _ _ L (-1) 3 HS2.out.cur HI.out).mono ?_;rintro e w7 ⟨y,rfl,hy0,hy1,C7,G7⟩;have bQ:=ay (HS2.out.draw hgl hk1 C7 G7);clear HS2 HI C7 G7;obtain⟨a0,n0,c0,a1,n1,c1,a2,n2,c2,a3,n3,c3,a4,n4,c4,aX,-⟩:=bQ.out.rp;have q0:=(oC aX).2.1;have lk:=lt_of_heap aX;have fk:=(aO aX).1;have lG:=ay (bQ.out.put hgl hk1 ((Below.refl k w7).setCell (p:=⟨k,1,none⟩) (Nat.le_refl _) (.int .i64 y)) (bQ.out.rp.set1 (x:=y) ⟨by omega,by omega⟩));clear aX bQ;go_wp2;go_meet
    case rel=>exact⟨_,lG⟩
   ·have AB:Below w6.heap.size w6 (w6.alloc (.cells #[.int .i64 (-1),.int .i64 0,.int .i64 1000000,.int .i64 1000001] 3)):=bn _ _
    have HI:Hid (jD (w6.alloc (.cells #[.int .i64 (-1),.int .i64 0,.int .i64 1000000,.int .i64 1000001] 3)) (.slice (some ⟨w6.heap.size,0,none⟩) 4 4) g 4 (-1) 1000001):=by simpa [Hid] using ko w6 g [-1,0,1000000,1000001] 3 (-1) 1000001 HS.out.cur.lt.2 (by simp) (by simp) (by intro x hx;simp at hx;omega)
    have HS2:=ay (HS.out.below AB);clear HS AB;go_wp2_with fail
    refine(kg w0 _ g 4 _ _ L (-1) 1000001 HS2.out.cur HI.out).mono ?_;rintro e w7 ⟨y,rfl,hy0,hy1,C7,G7⟩;have bQ:=ay (HS2.out.draw hgl hk1 C7 G7);clear HS2 HI C7 G7;obtain⟨a0,n0,c0,a1,n1,c1,a2,n2,c2,a3,n3,c3,a4,n4,c4,aX,-⟩:=bQ.out.rp;have q0:=(oC aX).2.2.1;have lk:=lt_of_heap aX;have fk:=(aO aX).1;have lG:=ay (bQ.out.put hgl hk1 ((Below.refl k w7).setCell (p:=⟨k,2,none⟩) (Nat.le_refl _) (.int .i64 y)) (bQ.out.rp.set2 (x:=y) ⟨by omega,by omega⟩));clear aX bQ;go_wp2;go_meet
    case rel=>exact⟨_,lG⟩
   ·go_wp2_with fail
    refine(agX w0 _ g cv L HS.out.cur).mono ?_;rintro e w7 ⟨u,rfl,⟨c,hcv,hW⟩,C7,G7⟩;have HT:=ay (UA hW hcv);obtain⟨b0,m0,d0,b1,m1,d1,b2,m2,d2,rfl⟩:=HT.out.form;have bQ:=ay (HS.out.draw hgl hk1 C7 G7);clear hcv C7 G7 hW HS;obtain⟨a0,n0,c0,a1,n1,c1,a2,n2,c2,a3,n3,c3,a4,n4,c4,aX,-⟩:=bQ.out.rp;obtain⟨-,-,-,r3,r4,r5,r6,r7,r8,r9,lg,-,-,-,lk⟩:=yH aX;have fk:=(aO aX).1
    have lG:=ay (bQ.out.put hgl hk1 (((((((((Below.refl k w7).setCell (p:=⟨k,3,none⟩) (Nat.le_refl _) (.int .i64 c.k)).setCell (p:=⟨k,4,none⟩) (Nat.le_refl _) (.slice b0 m0 d0)).setCell (p:=⟨k,5,none⟩) (Nat.le_refl _) (.slice b1 m1 d1)).setCell (p:=⟨k,6,none⟩) (Nat.le_refl _) (.int .i64 c.uid)).setCell (p:=⟨k,7,none⟩) (Nat.le_refl _) (.int .i64 c.mode)).setCell (p:=⟨k,8,none⟩) (Nat.le_refl _) (.int .i64 c.fl)).setCell (p:=⟨k,9,none⟩) (Nat.le_refl _) (.int .i64 c.si)).setCell (p:=⟨k,10,none⟩) (Nat.le_refl _) (.slice b2 m2 d2)) (bQ.out.rp.UE HT.out));clear aX bQ HT;go_wp2;go_meet
    case rel=>exact⟨_,lG⟩
   ·go_wp2_with fail
    refine(agK w0 _ g cv L HS.out.cur).mono ?_;rintro e w7 ⟨u,rfl,a,hT,-,C7,G7⟩;have HT:=ay hT;obtain⟨b3,m3,d3,b4,m4,d4,rfl⟩:=hT.form;have bQ:=ay (HS.out.draw hgl hk1 C7 G7);clear hT C7 G7 HS;obtain⟨a0,n0,c0,a1,n1,c1,a2,n2,c2,a3,n3,c3,a4,n4,c4,aX,-⟩:=bQ.out.rp;obtain⟨-,-,-,-,-,-,-,-,-,-,-,zf,zh,BQ,lk⟩:=yH aX;have fk:=(aO aX).1;have lG:=ay (bQ.out.put hgl hk1 ((((Below.refl k w7).setCell (p:=⟨k,11,none⟩) (Nat.le_refl _) (.int .i64 a.valid)).setCell (p:=⟨k,12,none⟩) (Nat.le_refl _) (.slice b3 m3 d3)).setCell (p:=⟨k,13,none⟩) (Nat.le_refl _) (.slice b4 m4 d4)) (bQ.out.rp.UF HT.out))
    clear aX bQ HT;go_wp2;go_meet
    case rel=>exact⟨_,lG⟩
  case rest =>
  clear HS;obtain⟨r,HS⟩:=hcut;obtain⟨cs,f,RC⟩:=HS.out.rp.cs;have qN:=ay RC;have oN:=ay f;have HC:=ay HS.out.cur;have HG:=ay HS.out.gb;have HK:=ay HS.out.res;clear f RC HS;obtain⟨f0,f1,f2,f3,f4,f5,f6⟩:=qN.out.fin oN.out HK.out rfl;have HF:=ay (And.intro f2 (And.intro f3 (And.intro (vk HC.out (tZ w.heap.size (Nat.le_refl _) cs 0 wc (Below.refl _ _)) hgl) (wZ HG.out (tZ w.heap.size (Nat.le_refl _) cs 0 wc (Below.refl _ _)) (Nat.le_refl _)))));go_upto_region 14 with fail
  refine wp_region_list ?_;refine wpList_load_mid rfl 41 (.tmp 3) rfl k 0 rfl cs _ f0 Tryz.underlying41 rfl f4 ?_;refine wpList_store_mid rfl 41 (.tmp 2) (.tmp 41) rfl w.heap.size 0 cs.toArray rfl rfl f1 f5 f6 ?_;clear f0 f1 f2 f3 qN oN HK HC HG;generalize wc.setCells w.heap.size 0 cs.toArray.toList=w9 at HF ⊢;go_wp2;refine bodyPost_ret (results_cell_row Tryz.results11 _ _ (w.heap.size) _ _ _ _ rfl HF.out.1 Tryz.underlying41 rfl f5) rfl ⟨cs,rfl,_,HF.out.2.1,HF.out.2.2.1,HF.out.2.2.2⟩
/- What alI of package spec draws: a number and a list of records. -/
theorem agZ:(Tryz.prog.info? 41).map (λi=>(i.zero,i.size,i.bytes))=some (some (.agg #[.int .i64 0,.int .i64 0,.int .i64 0,.int .i64 0,.slice none 0 0,.slice none 0 0,.int .i64 0,.int .i64 0,.int .i64 0,.int .i64 0,.slice none 0 0,.int .i64 0,.slice none 0 0,.slice none 0 0]),14,192):=by kernel_rfl
section
variable {w w' w1 : World} {S : Nat -> Prop} {v : Value} {l : List RecD} {E : World -> List Value -> RecD -> (Nat -> Prop) -> Prop} {k g B M : Nat} {cv : Value} {L : List Int} {w0 : World}
theorem ag0 (h:Ow 41 14 E w S v l) (e:v.ownBlock=some k):jM w k:=by
 rcases h with⟨rfl,-⟩ | ⟨q,cap,cur,cs,fs,rfl,hh,-⟩
 ·simp[Value.ownBlock] at e
 ·simp only[Value.ownBlock,Option.some.injEq] at e
  subst e;exact MN hh
theorem Ow.slice3 (h:Ow 41 14 E w S v l):∃a n c,v=.slice a n c:=by
 rcases h with⟨rfl,-⟩ | ⟨q,cap,cur,cs,fs,rfl,-⟩ <;> exact⟨_,_,_,rfl⟩
theorem aS.push (h:aS w0 w g cv L) (hG:w.grownBy w' v.ownBlock) (hv:∀q,v.ownBlock=some q->B<=q/\q < M) (hB:g < B):aS w0 w' g cv L :=
 aS.but (K:=λq=>v.ownBlock=some q) h hG.size hG.os hG.tape hG.output (λq h1 h2=>hG.block q h1 λe=>h2 e.symm) (λe=>by have:=hv _ e;omega) λq e=>by have:=hv _ e;have:=h.lt;omega
theorem Kh (hE:Frames E) (h:Ow 41 14 E w (In B M) v l) (hG:w.grownBy w' (some g)) (hB:g < B):Ow 41 14 E w' (In B M) v l :=
 h.frame hE λb hb hlt=>hG.block b hlt (by have:=hb.1;simp;omega)
end
theorem drawBookOf_any (v:Value) (L:List Int) (w:World) (hv:Bs w v L) :
  Calls Tryz.prog 4 #[v] w λe w'=>∃(n:Int) (u:Value) (l:List RecD),e=.returned (.tuple #[.int .i64 n,u])/\0<=n/\n<=4/\RecsV w' u l/\l.length<=11/\Below w.heap.size w w':=by
 have HV:=ay hv;obtain⟨va,cap,rfl⟩:=hv.form;obtain⟨i0,hi,hz0,hz1,hz2⟩:=info_parts agZ;clear hv
 go_enter Tryz.func4,Tryz.ntmps4;go_wp2_with fail
 refine(Zi _ L w HV.out).mono ?_;rintro e w2 ⟨g,rfl,C2,B2⟩;have HC:=ay C2;clear C2 B2 HV;go_wp2_with fail
 refine(iH w _ g _ L 10 HC.out (by omega) (by omega)).mono ?_;rintro e w3 ⟨n,rfl,hn0,hn1,C3,G3⟩;replace HC:=ay C3;clear C3 G3 w2;have hg3:=HC.out.lt.2;go_wp2
 go_loopw [5,7] (λs i wr=>∃(j:Nat) (l:List RecD) (a:Option Addr) (m c:Nat),s=.slice a m c/\i=.int .i64 j/\j<=n/\l.length=j/\Hid (aS w wr g (.slice va L.length cap) L)/\g+1<=wr.heap.size/\Hid (Ow 41 14 EO wr (In (g+1) wr.heap.size) (.slice a m c) l)) (λ_ i _=>(n - intOf i).toNat)
 case atStart=>exact⟨0,[],none,0,0,rfl,rfl,by omega,rfl,HC,by omega,.inl ⟨rfl,rfl⟩⟩
 case round =>
  obtain⟨j,l,a,m,c,rfl,rfl,hj,hl,HC,hs,HO⟩:=hrel
  by_cases hlt:(j:Int) < n
  ·go_wp2_with fail
   refine(XK w wr g _ L false HC.out).mono ?_;rintro e w4 ⟨cs,rfl,r,RC,C4,G4,hp⟩;obtain⟨kd,us,n',i1,i2,i3,rfl,rfl⟩:=hp rfl;have AB:Below w4.heap.size w4 (w4.alloc (.cells #[.int .i64 kd,.int .i64 us,.int .i64 n',.int .i64 0,.slice none 0 0,.slice none 0 0,.int .i64 0,.int .i64 0,.int .i64 0,.int .i64 0,.slice none 0 0,.int .i64 0,.slice none 0 0,.slice none 0 0] 41)):=bn _ _;have hO:=(Kh BX HO.out G4 (Nat.lt_succ_self g)).below BX AB
   have hM:wr.heap.size<=(w4.alloc (.cells #[.int .i64 kd,.int .i64 us,.int .i64 n',.int .i64 0,.slice none 0 0,.slice none 0 0,.int .i64 0,.int .i64 0,.int .i64 0,.int .i64 0,.slice none 0 0,.int .i64 0,.slice none 0 0,.slice none 0 0] 41)).heap.size:=Nat.le_trans G4.size AB.size
   have hE:EO (w4.alloc (.cells #[.int .i64 kd,.int .i64 us,.int .i64 n',.int .i64 0,.slice none 0 0,.slice none 0 0,.int .i64 0,.int .i64 0,.int .i64 0,.int .i64 0,.slice none 0 0,.int .i64 0,.slice none 0 0,.slice none 0 0] 41)) [.int .i64 kd,.int .i64 us,.int .i64 n',.int .i64 0,.slice none 0 0,.slice none 0 0,.int .i64 0,.int .i64 0,.int .i64 0,.int .i64 0,.slice none 0 0,.int .i64 0,.slice none 0 0,.slice none 0 0] (rA kd us n') (In wr.heap.size (w4.alloc (.cells #[.int .i64 kd,.int .i64 us,.int .i64 n',.int .i64 0,.slice none 0 0,.slice none 0 0,.int .i64 0,.int .i64 0,.int .i64 0,.int .i64 0,.slice none 0 0,.int .i64 0,.slice none 0 0,.slice none 0 0] 41)).heap.size):=⟨kd,us,n',i1,i2,i3,rfl,rfl⟩
   have hone:∀u ∈ ([.int .i64 kd,.int .i64 us,.int .i64 n',.int .i64 0,.slice none 0 0,.slice none 0 0,.int .i64 0,.int .i64 0,.int .i64 0,.int .i64 0,.slice none 0 0,.int .i64 0,.slice none 0 0,.slice none 0 0]:List Value),u.oneCell'=true:=RC.2.1;have hp1:l.length+1<=maxLen:=by unfold maxLen;omega
   have hp2:(l.length+1) * 192<=140737488355328:=by omega
   have Gd:=ay (C4.below AB);clear AB HC HO C4 G4 RC hp;go_wp2_with (at_builtin;refine GL rfl (.tmp 17) (.tmp 20) rfl BX (B:=g+1) (M:=wr.heap.size) hO hM hs Tryz.underlying23 hi hz0 hz1 hz2 rfl (by omega) rfl (rA kd us n') [.int .i64 kd,.int .i64 us,.int .i64 n',.int .i64 0,.slice none 0 0,.slice none 0 0,.int .i64 0,.int .i64 0,.int .i64 0,.int .i64 0,.slice none 0 0,.int .i64 0,.slice none 0 0,.slice none 0 0] rfl hE ⟨w4.heap.size,0,none⟩ 1 rfl (oU w4 _ _) hone hp1 hp2 ?_)
   intro V w6 gH je hv6;obtain⟨oa,on,oc,rfl⟩:=Ow.slice3 gH;have Ki:=ay (Gd.out.push je hv6 (Nat.lt_succ_self g));have pq:=ay gH;have hs6:g+1<=w6.heap.size:=Ki.out.lt.2;clear gH je hv6 hO hE hone Gd hM;go_wp2;go_roundw
   case rel=>exact⟨j+1,_,oa,on,oc,rfl,by go_num,by omega,by simp;omega,Ki,hs6,pq⟩
   case measure=>simp[intOf];omega
  ·have agU:l.length<=10:=by omega
   clear hj hl hn0 hn1;go_wp2_with fail
   refine(xX w wr g _ L 10 HC.out (by omega) (by omega)).mono ?_;rintro e w4 ⟨y,rfl,C4,G4⟩;have tX:=ay (Kh BX HO.out G4 (Nat.lt_succ_self g));have qC:=ay C4;have hs4:=G4.size;clear HC HO C4 G4
   go_upto_if 23 with fail
   go_cut [5] (λs wx=>∃(l:List RecD) (cs:List Value) (r:RecD) (a:Option Addr) (m c:Nat),s=.slice a m c/\l.length<=11/\Hid (aS w wx g (.slice va L.length cap) L)/\Hid (Ow 41 14 (EP cs r) wx (In (g+1) wx.heap.size) (.slice a m c) l)/\Hid (vv wx (.agg cs.toArray) r))
   case first =>
    cases y with
    | false =>
     have wo:=ay (Ow.mono (UH (c1:=[.int .i64 0,.int .i64 0,.int .i64 0,.int .i64 0,.slice none 0 0,.slice none 0 0,.int .i64 0,.int .i64 0,.int .i64 0,.int .i64 0,.slice none 0 0,.int .i64 0,.slice none 0 0,.slice none 0 0]) (r1:=rA 0 0 0) tX.out) (λb h=>(⟨h.1,Nat.lt_of_lt_of_le h.2 hs4⟩:In (g+1) w4.heap.size b)));go_wp2;go_meet
     case rel=>exact⟨l,_,_,a,m,c,rfl,by omega,qC,wo,MO _ vw vw vw⟩
    | true =>
     go_wp2_with fail
     refine(agY w w4 g _ L qC.out).mono ?_;rintro e w5 ⟨cs,rfl,r,RC,C5,G5⟩;obtain⟨a0,n0,c0,a1,n1,c1,a2,n2,c2,a3,n3,c3,a4,n4,c4,rfl⟩:=RC.parts;have AB:Below w5.heap.size w5 (w5.alloc (.cells #[.int .i64 r.kind,.int .i64 r.user,.int .i64 r.n,.int .i64 r.cmd.k,.slice a0 n0 c0,.slice a1 n1 c1,.int .i64 r.cmd.uid,.int .i64 r.cmd.mode,.int .i64 r.cmd.fl,.int .i64 r.cmd.si,.slice a2 n2 c2,.int .i64 r.acc.valid,.slice a3 n3 c3,.slice a4 n4 c4] 41)):=bn _ _
     have hO:=UH (c1:=[.int .i64 r.kind,.int .i64 r.user,.int .i64 r.n,.int .i64 r.cmd.k,.slice a0 n0 c0,.slice a1 n1 c1,.int .i64 r.cmd.uid,.int .i64 r.cmd.mode,.int .i64 r.cmd.fl,.int .i64 r.cmd.si,.slice a2 n2 c2,.int .i64 r.acc.valid,.slice a3 n3 c3,.slice a4 n4 c4]) (r1:=r) ((Kh BX tX.out G5 (Nat.lt_succ_self g)).below BX AB)
     have hM:wr.heap.size<=(w5.alloc (.cells #[.int .i64 r.kind,.int .i64 r.user,.int .i64 r.n,.int .i64 r.cmd.k,.slice a0 n0 c0,.slice a1 n1 c1,.int .i64 r.cmd.uid,.int .i64 r.cmd.mode,.int .i64 r.cmd.fl,.int .i64 r.cmd.si,.slice a2 n2 c2,.int .i64 r.acc.valid,.slice a3 n3 c3,.slice a4 n4 c4] 41)).heap.size:=Nat.le_trans (Nat.le_trans hs4 G5.size) AB.size
     have hE:EP [.int .i64 r.kind,.int .i64 r.user,.int .i64 r.n,.int .i64 r.cmd.k,.slice a0 n0 c0,.slice a1 n1 c1,.int .i64 r.cmd.uid,.int .i64 r.cmd.mode,.int .i64 r.cmd.fl,.int .i64 r.cmd.si,.slice a2 n2 c2,.int .i64 r.acc.valid,.slice a3 n3 c3,.slice a4 n4 c4] r (w5.alloc (.cells #[.int .i64 r.kind,.int .i64 r.user,.int .i64 r.n,.int .i64 r.cmd.k,.slice a0 n0 c0,.slice a1 n1 c1,.int .i64 r.cmd.uid,.int .i64 r.cmd.mode,.int .i64 r.cmd.fl,.int .i64 r.cmd.si,.slice a2 n2 c2,.int .i64 r.acc.valid,.slice a3 n3 c3,.slice a4 n4 c4] 41)) [.int .i64 r.kind,.int .i64 r.user,.int .i64 r.n,.int .i64 r.cmd.k,.slice a0 n0 c0,.slice a1 n1 c1,.int .i64 r.cmd.uid,.int .i64 r.cmd.mode,.int .i64 r.cmd.fl,.int .i64 r.cmd.si,.slice a2 n2 c2,.int .i64 r.acc.valid,.slice a3 n3 c3,.slice a4 n4 c4] r (In wr.heap.size (w5.alloc (.cells #[.int .i64 r.kind,.int .i64 r.user,.int .i64 r.n,.int .i64 r.cmd.k,.slice a0 n0 c0,.slice a1 n1 c1,.int .i64 r.cmd.uid,.int .i64 r.cmd.mode,.int .i64 r.cmd.fl,.int .i64 r.cmd.si,.slice a2 n2 c2,.int .i64 r.acc.valid,.slice a3 n3 c3,.slice a4 n4 c4] 41)).heap.size):=.inr ⟨rfl,rfl⟩
     have hone:∀u ∈ ([.int .i64 r.kind,.int .i64 r.user,.int .i64 r.n,.int .i64 r.cmd.k,.slice a0 n0 c0,.slice a1 n1 c1,.int .i64 r.cmd.uid,.int .i64 r.cmd.mode,.int .i64 r.cmd.fl,.int .i64 r.cmd.si,.slice a2 n2 c2,.int .i64 r.acc.valid,.slice a3 n3 c3,.slice a4 n4 c4]:List Value),u.oneCell'=true:=RC.2.1;have hp1:l.length+1<=maxLen:=by unfold maxLen;omega
     have hp2:(l.length+1) * 192<=140737488355328:=by omega
     have Gd:=ay (C5.below AB);have oZ:=ay (RC.2.2.keep (.below AB));clear AB qC tX C5 G5 RC;go_wp2_with (at_builtin;refine GL rfl (.tmp 24) (.tmp 27) rfl (MQ _ _) (B:=g+1) (M:=wr.heap.size) hO hM hs Tryz.underlying23 hi hz0 hz1 hz2 rfl (by omega) rfl r [.int .i64 r.kind,.int .i64 r.user,.int .i64 r.n,.int .i64 r.cmd.k,.slice a0 n0 c0,.slice a1 n1 c1,.int .i64 r.cmd.uid,.int .i64 r.cmd.mode,.int .i64 r.cmd.fl,.int .i64 r.cmd.si,.slice a2 n2 c2,.int .i64 r.acc.valid,.slice a3 n3 c3,.slice a4 n4 c4] rfl hE ⟨w5.heap.size,0,none⟩ 1 rfl (oU w5 _ _) hone hp1 hp2 ?_)
     intro V w6 gH je hv6;obtain⟨oa,on,oc,rfl⟩:=Ow.slice3 gH;have Ki:=ay (Gd.out.push je hv6 (Nat.lt_succ_self g));have pq:=ay gH;have vF:=ay (oZ.out.keep ⟨je.size,λq h1 h2=>je.block q h1 λe=>h2 (ag0 hO e.symm)⟩);clear gH je hv6 hO hE hone Gd oZ hM;go_wp2;go_meet
     case rel=>exact⟨_,_,_,oa,on,oc,rfl,by simp;omega,Ki,pq,vF⟩
   case rest =>
   clear qC tX hs4;obtain⟨l',cs,r,a',m',c',rfl,hl',HC,HO,HT⟩:=hcut;have AB:Below wc.heap.size wc (wc.alloc (.cells #[.int .i64 1,.int .i64 2,.int .i64 3,.int .i64 3,.int .i64 0,.int .i64 4] 3)):=bn _ _;have HI:Hid (jD (wc.alloc (.cells #[.int .i64 1,.int .i64 2,.int .i64 3,.int .i64 3,.int .i64 0,.int .i64 4] 3)) (.slice (some ⟨wc.heap.size,0,none⟩) 6 6) g 6 0 4):=by simpa [Hid] using ko wc g [1,2,3,3,0,4] 3 0 4 HC.out.lt.2 (by simp) (by simp) (by intro x hx;simp at hx;omega)
   have vP:=ay (HC.out.below AB);have Yb:=ay (HO.out.below (MQ _ _) AB);have HT2:=ay (HT.out.keep (.below AB));clear HC HO HT AB;go_wp2_with fail
   refine(kg w _ g 6 _ _ L 0 4 vP.out HI.out).mono ?_;rintro e w7 ⟨x,rfl,hx0,hx1,C7,G7⟩;have HF:=ay (acO (Kh (MQ _ _) Yb.out G7 (Nat.lt_succ_self g)) ((HT2.out.keep (.gb G7 vP.out.ext)) w7 λ_ _ _=>rfl));have HB:=ay C7.2.1;clear vP Yb HT2 HI C7 G7;go_wp2;exact bodyPost_ret (v:=.tuple #[.int .i64 x,.slice a' m' c']) (by simp[results,Tryz.results4,go_sem]) rfl ⟨x,_,l',rfl,hx0,hx1,HF.out,hl',HB.out⟩
end Go.Proofs.YtfabngnaejjcmaaGreatDoor
