/- The proof's texts, part 51. -/
import Derived.Test.YtfabngnaejjcmaaGreatDoorTF
import Derived.Test.YtfabngnaejjcmaaGreatDoorTM
import Derived.Test.YtfabngnaejjcmaaGreatDoorTO
namespace Go.Proofs.YtfabngnaejjcmaaGreatDoor
open Go.RowKit
set_option linter.unusedVariables false
set_option linter.unusedSimpArgs false
set_option maxHeartbeats 8000000
set_option maxRecDepth 100000
/- The law FnBooks, walked out of the contracts. -/
theorem aiq:(Tryz.f3.body.bind (eO 15)).all (λo=>Az o [some 70,some 71,some 72,some 73,some 74,some 75,some 76,some 77,some 78,some 79,some 13,some 14,none,none] MR)=true:=by kernel_rfl
theorem fnBooks_walk (v:Value) (M:List Int) (w:World) (hv:Bs w v M) :
  Calls Tryz.prog 3 #[v] w λe w'=>e=.returned (.bool true)/\Below w.heap.size w w':=by
 have HV:=ay hv;obtain⟨va,cap,rfl⟩:=hv.form;clear hv
 go_enter Tryz.func3,Tryz.ntmps3;go_wp2_with fail
 refine(drawBookOf_any _ M w HV.out).mono ?_;rintro e w1 ⟨n,u,l,rfl,hn0,hn1,hR,hl,B1⟩;have HR:Hid (∀wi,Below w1.heap.size w1 wi->RecsV wi u l):=λwi h=>hR.below Dt h;have HB1:=ay B1;obtain⟨la,lc,rfl,hlc,hcm⟩:=hR.form;clear hR B1 HV;go_wp2_with fail
 refine(Qi n _ l w1 (HR.out _ (Below.refl _ _)) (by omega)).mono ?_;rintro e w2 ⟨ub,rfl,⟨ur,rfl,RB⟩,B2⟩;obtain⟨ba,bc,rfl,-⟩:=(kS.v RB).form;have hb1:iX n l=true->(nD n l).length=3:=Qb;have hb0:iX n l=false->(nD n l).length=0:=λh=>by rw[RN h];rfl
 clear RB;generalize (nD n l).length=bl at hb1 hb0 ⊢;have AB:Below w2.heap.size w2 (w2.alloc (.cells #[.slice ba bl bc] 28)):=bn _ _;have HB3:=ay (Below.step B2 AB);have rY:=ay (aW w2 (.cells #[.slice ba bl bc] 28));have hk3:=B2.size;clear B2 AB;go_upto_region 3 with fail
 generalize w2.alloc (.cells #[.slice ba bl bc] 28)=w3 at HB3 rY ⊢;generalize w2.heap.size=kb at rY hk3 ⊢;clear w2;rcases Bool.eq_false_or_eq_true (iX n l) with hok | hok
 case inr =>
  cases hb0 hok
  rw[hok];have c0:=bx1 rY.out;have c1:=lt_of_heap rY.out;clear hb0 hb1 hok HR;go_wp2_with fail
  refine(aip _).mono ?_;rintro e w4 ⟨rfl,B4⟩;have HF:=ay (Below.step (Below.step HB1.out HB3.out) B4);clear B4 HB3 rY HB1;go_wp2;go_ret;exact⟨rfl,HF.out⟩
 case inl =>
 cases hb1 hok
 rw[hok];have OK:=ay hok;clear hb0 hb1 hok;go_wp2
 go_loopw [7] (λi wr=>∃k:Nat,k<=l.length/\i=.int .i64 k/\Hid (Below w3.heap.size w3 wr)) (λi _=>l.length - (intOf i).toNat)
 case atStart=>exact⟨0,Nat.zero_le _,rfl,Below.refl _ _⟩
 case round =>
  obtain⟨k,hk,rfl,HO⟩:=hrel
  by_cases hlt:k < l.length
  ·obtain⟨r,hr⟩:∃r,l[k]?=some r:=⟨l[k],bK hlt⟩
   obtain⟨b,off,cap',a0,n0,c0,a1,n1,c1,a2,n2,c2,a3,c3,a4,c4,hv',hlb,-⟩:=RecsV.cell (HR.out wr (Below.step HB3.out HO.out)) k r hr;simp only[Value.slice.injEq,true_and] at hv';obtain⟨rfl,rfl⟩:=hv';have HC:Hid (∀W,Below wr.heap.size wr W->W.cell? ⟨b,off+k * 14,none⟩=some (.int .i64 r.kind)/\b < W.heap.size):=λW hW=>by
    obtain⟨b',off',agS,a0,n0,c0,a1,n1,c1,a2,n2,c2,a3,c3,a4,c4,hv',hlb,d0,-⟩:=RecsV.cell (HR.out W (Below.step HB3.out (Below.step HO.out hW))) k r hr;simp only[Value.slice.injEq,Option.some.injEq,Addr.mk.injEq,true_and,and_true] at hv';obtain⟨⟨rfl,rfl⟩,rfl⟩:=hv';exact⟨d0,hlb⟩
   obtain⟨P,hP⟩:∃P,P=nD n (l.take k):=⟨_,rfl⟩;obtain⟨Q,hQ⟩:∃Q,Q=nD n (l.take (k+1)):=⟨_,rfl⟩;have HG:Hid (∀(q:Nat) (X Y:bH),P[q]?=some X->Q[q]?=some Y->Gr X Y r.kind):=λq X Y h1 h2=>ahU OK.out hr (hP ▸ h1) (hQ ▸ h2);have hP3:P.length=3:=by rw[hP];exact Qb (Ku OK.out _)
   have Y3:Q.length=3:=by rw[hQ];exact Qb (Ku OK.out _)
   have HPQ:=ay (And.intro hP (And.intro hQ (Ku OK.out (k+1))));have JU:Hid (∀W,Below wr.heap.size wr W->∀j,j<=l.length->RecsV W (.slice (some ⟨b,off,none⟩) j lc) (l.take j)):=λW hW j hj=>Rd.Ho (HR.out W (Below.step HB3.out (Below.step HO.out hW))) j hj;have hk1:(l.take k).length<=2000000:=by simp;omega
   have hk2:(l.take (k+1)).length<=2000000:=by simp;omega
   clear hP hQ hr hlb;go_wp2_with fail
   refine(Qi n _ (l.take k) wr (JU.out _ (Below.refl _ _) k hk) hk1).mono ?_;rintro e w4 ⟨ux,rfl,⟨xr,rfl,RX⟩,B4⟩;rw[← HPQ.out.1] at RX;have Kw:=kS.v RX;obtain⟨xa,xc,rfl,-⟩:=Kw.form;rw[hP3] at Kw ⊢;clear RX;have AB:Below w4.heap.size w4 (w4.alloc (.cells #[.slice xa 3 xc] 28)):=bn _ _;have oW:=ay (Below.step B4 AB);have rG:=ay (aW w4 (.cells #[.slice xa 3 xc] 28));have fq:=ay (Kw.below Aw AB);clear B4 AB Kw;go_upto_region 9 with fail
   generalize w4.alloc (.cells #[.slice xa 3 xc] 28)=w5 at oW rG fq ⊢;generalize w4.heap.size=kx at rG ⊢;clear w4;go_wp2_with fail
   refine(Qi n _ (l.take (k+1)) w5 (JU.out _ oW.out (k+1) (by omega)) hk2).mono ?_;rintro e w6 ⟨uy,rfl,⟨yr,rfl,RY⟩,B6⟩;rw[HPQ.out.2.2,← HPQ.out.2.1] at *
   have Ky:=kS.v RY;obtain⟨ya,yc,rfl,-⟩:=Ky.form;rw[Y3] at Ky ⊢;clear RY;have AB:Below w6.heap.size w6 (w6.alloc (.cells #[.slice ya 3 yc] 28)):=bn _ _;have B7:=Below.step B6 AB;have bM:=ay (Below.step oW.out B7);have CO:Hid (∀W,Below (w6.alloc (.cells #[.slice ya 3 yc] 28)).heap.size (w6.alloc (.cells #[.slice ya 3 yc] 28)) W->W.heap[kx]?=some (.cells #[.slice xa 3 xc] 28 (0,0))):=λW h=>aA h (aA B7 rG.out)
   have Gx:Hid (∀W,Below (w6.alloc (.cells #[.slice ya 3 yc] 28)).heap.size (w6.alloc (.cells #[.slice ya 3 yc] 28)) W->W.heap[w6.heap.size]?=some (.cells #[.slice ya 3 yc] 28 (0,0))):=λW h=>aA h (aW w6 _);have CP:Hid (∀W,Below (w6.alloc (.cells #[.slice ya 3 yc] 28)).heap.size (w6.alloc (.cells #[.slice ya 3 yc] 28)) W->qU W (.slice xa 3 xc) P/\qU W (.slice ya 3 yc) Q):=λW h=>⟨(fq.out.below Aw B7).below Aw h,(Ky.below Aw AB).below Aw h⟩;clear B6 AB B7 Ky oW rG fq;go_upto_region 10 with fail
   generalize w6.alloc (.cells #[.slice ya 3 yc] 28)=w7 at bM CO Gx CP ⊢;generalize w6.heap.size=ky at Gx ⊢;clear w5 w6;have x0:=bx1 (CO.out _ (Below.refl _ _));have x1:=lt_of_heap (CO.out _ (Below.refl _ _));go_wp2;clear x0 x1
   go_loopw [12] (λi ws=>∃q:Nat,q<=3/\i=.int .i64 q/\Hid (Below w7.heap.size w7 ws)) (λi _=>3 - (intOf i).toNat)
   case atStart=>exact⟨0,by omega,rfl,Below.refl _ _⟩
   case round =>
    obtain⟨q,hq,rfl,HB⟩:=hrel
    by_cases hq3:q < 3
    ·obtain⟨X,hX⟩:∃X,P[q]?=some X:=⟨P[q]'(by omega),bK _⟩
     obtain⟨Y,hY⟩:∃Y,Q[q]?=some Y:=⟨Q[q]'(by omega),bK _⟩;have G:=HG.out q X Y hX hY;obtain⟨xb,xo,alV,Qk,-⟩:=qU.cell (CP.out w7 (Below.refl _ _)).1 q X hX;obtain⟨yb,yo,alW,Ql,-⟩:=qU.cell (CP.out w7 (Below.refl _ _)).2 q Y hY;rw[hP3] at Qk;rw[Y3] at Ql;simp only[Value.slice.injEq,true_and] at Qk Ql;obtain⟨rfl,rfl⟩:=Qk;obtain⟨rfl,rfl⟩:=Ql
     have Y4:Hid (∀W,Below w7.heap.size w7 W->xb < W.heap.size/\W.cell? ⟨xb,xo+q * 5,none⟩=some (.int .i64 X.epoch)/\W.cell? ⟨xb,xo+q * 5+1,none⟩=some (.int .i64 X.owner)/\W.cell? ⟨xb,xo+q * 5+2,none⟩=some (.bool X.moving)/\W.cell? ⟨xb,xo+q * 5+3,none⟩=some (.int .i64 X.tr)/\W.cell? ⟨xb,xo+q * 5+4,none⟩=some (.int .i64 X.target)):=λW hW=>by
      obtain⟨xb',xo',alZ,hv',c0,c1,c2,c3,c4,c5,-⟩:=qU.cell (CP.out W hW).1 q X hX;simp only[Value.slice.injEq,Option.some.injEq,Addr.mk.injEq,true_and,and_true] at hv';obtain⟨⟨rfl,rfl⟩,-,rfl⟩:=hv';exact⟨c0,c1,c2,c3,c4,c5⟩
     have Y5:Hid (∀W,Below w7.heap.size w7 W->yb < W.heap.size/\W.cell? ⟨yb,yo+q * 5,none⟩=some (.int .i64 Y.epoch)/\W.cell? ⟨yb,yo+q * 5+1,none⟩=some (.int .i64 Y.owner)/\W.cell? ⟨yb,yo+q * 5+2,none⟩=some (.bool Y.moving)/\W.cell? ⟨yb,yo+q * 5+3,none⟩=some (.int .i64 Y.tr)/\W.cell? ⟨yb,yo+q * 5+4,none⟩=some (.int .i64 Y.target)):=λW hW=>by
      obtain⟨yb',yo',al2,hv',c0,c1,c2,c3,c4,c5,-⟩:=qU.cell (CP.out W hW).2 q Y hY;simp only[Value.slice.injEq,Option.some.injEq,Addr.mk.injEq,true_and,and_true] at hv';obtain⟨⟨rfl,rfl⟩,-,rfl⟩:=hv';exact⟨c0,c1,c2,c3,c4,c5⟩
     have DR:Below wr.heap.size wr wr.drew:=(bd _ _);clear hX hY;go_upto_region 15 with fail
     rw[show decide ((q:Int) < 3)=true from decide_eq_true (by omega)]
     go_cut [13,14] (λs13 PI wx=>∃c d,s13=.pointer (some ⟨c,0,none⟩)/\PI=.pointer (some ⟨d,0,none⟩)/\Hid (wx.heap[c]?=some (.cells #[.int .i64 X.epoch,.int .i64 X.owner,.bool X.moving,.int .i64 X.tr,.int .i64 X.target] 33 (0,0)))/\Hid (wx.heap[d]?=some (.cells #[.int .i64 Y.epoch,.int .i64 Y.owner,.bool Y.moving,.int .i64 Y.tr,.int .i64 Y.target] 33 (0,0)))/\Hid (Below wr.heap.size wr wx))
     case first =>
      refine Sc (F:=LB wr kx ky (.slice (some ⟨xb,xo,none⟩) 3 xc) (.slice (some ⟨yb,yo,none⟩) 3 yc) ⟨xb,xo+q * 5,none⟩ ⟨yb,yo+q * 5,none⟩ q X Y) (aaO (by kernel_rfl) aiq) (by kernel_rfl) ⟨?_,?_,?_,?_,?_,?_,?_,?_,?_,?_,?_,?_,?_,?_,trivial⟩ (λV=>LB.start DR rfl) (λV x h=>?_)
      ·refine oD (λL V x h hL hw hC=>?_)
       refine⟨_,_,rfl,λv=>(by conv=>lhs;simp only[Act.put,sA,s0,sS]),λK hK=>?_⟩;go_simp;exact hK.out _ _ h.nQ
      ·refine oD (λL V x h hL hw hC=>?_)
       obtain⟨k0,-⟩:=hw;have e0:=h.f0 k0;have c0:=bx1 (CO.out _ (Below.step HB.out h.d));have c1:=lt_of_heap (CO.out _ (Below.step HB.out h.d));refine⟨_,_,(by conv=>lhs;simp only[k0,e0,cond_true]),λv=>(by conv=>lhs;simp only[Act.put,sA,s0,sS]),λK hK=>?_⟩;go_simp;exact hK.out _ _ h.nR
      ·refine oD (λL V x h hL hw hC=>?_)
       refine⟨_,_,rfl,λv=>(by conv=>lhs;simp only[Act.put,sA,s0,sS]),λK hK=>?_⟩;go_simp;exact hK.out _ _ h.nS
      ·refine oD (λL V x h hL hw hC=>?_)
       obtain⟨k1,k2,-⟩:=hw;have e1:=h.f1 k1;have e2:=h.f2 k2;have hq':=hq3;refine⟨_,_,(by conv=>lhs;simp only[k1,k2,e1,e2,cond_true]),λv=>(by conv=>lhs;simp only[Act.put,sA,s0,sS]),λK hK=>?_⟩;go_simp;exact hK.out _ _ h.on3
      ·refine oD (λL V x h hL hw hC=>?_)
       obtain⟨k3,-⟩:=hw;have e3:=h.f3 k3;obtain⟨cl,c0,c1,c2,c3,c4⟩:=Y4.out _ (Below.step HB.out h.d);refine⟨_,_,(by conv=>lhs;simp only[k3,e3,cond_true]),λv=>(by conv=>lhs;simp only[Act.put,sA,s0,sS]),λK hK=>?_⟩;go_simp;exact hK.out _ _ h.on4
      ·refine oD (λL V x h hL hw hC=>?_)
       refine⟨_,_,rfl,λv=>(by conv=>lhs;simp only[Act.put,sA,s0,sS]),λK hK=>?_⟩;go_simp;exact hK.out _ _ h.on5
      ·refine oD (λL V x h hL hw hC=>?_)
       obtain⟨k5,-⟩:=hw;have e5:=h.f5 k5;have c0:=bx1 (Gx.out _ (Below.step HB.out h.d));have c1:=lt_of_heap (Gx.out _ (Below.step HB.out h.d));refine⟨_,_,(by conv=>lhs;simp only[k5,e5,cond_true]),λv=>(by conv=>lhs;simp only[Act.put,sA,s0,sS]),λK hK=>?_⟩;go_simp;exact hK.out _ _ h.on6
      ·refine oD (λL V x h hL hw hC=>?_)
       refine⟨_,_,rfl,λv=>(by conv=>lhs;simp only[Act.put,sA,s0,sS]),λK hK=>?_⟩;go_simp;exact hK.out _ _ h.on7
      ·refine oD (λL V x h hL hw hC=>?_)
       obtain⟨k6,k7,-⟩:=hw;have e6:=h.f6 k6;have e7:=h.f7 k7;have hq':=hq3;refine⟨_,_,(by conv=>lhs;simp only[k6,k7,e6,e7,cond_true]),λv=>(by conv=>lhs;simp only[Act.put,sA,s0,sS]),λK hK=>?_⟩;go_simp;exact hK.out _ _ h.on8
      ·refine oD (λL V x h hL hw hC=>?_)
       obtain⟨k8,-⟩:=hw;have e8:=h.f8 k8;obtain⟨cl,c0,c1,c2,c3,c4⟩:=Y5.out _ (Below.step HB.out h.d);refine⟨_,_,(by conv=>lhs;simp only[k8,e8,cond_true]),λv=>(by conv=>lhs;simp only[Act.put,sA,s0,sS]),λK hK=>?_⟩;go_simp;exact hK.out _ _ h.on9
      ·refine oD (λL V x h hL hw hC=>?_)
       have hn:=UN 12 hC hL;refine⟨_,_,rfl,λv=>(by conv=>lhs;simp only[Act.put,sA,s0,sS]),λK hK=>?_⟩;go_simp;exact hK.out _ _ (h.acW hn)
      ·refine oD (λL V x h hL hw hC=>?_)
       have hn:=UN 13 hC hL;refine⟨_,_,rfl,λv=>(by conv=>lhs;simp only[Act.put,sA,s0,sS]),λK hK=>?_⟩;go_simp;exact hK.out _ _ (h.acX hn)
      ·refine oD (λL V x h hL hw hC=>?_)
       obtain⟨b,e10,H,G⟩:=h.acY hw hL;obtain⟨-,-,-,-,k4,k10,-,-⟩:=hw;have e4:=h.f4 k4;obtain⟨c0,c1,c2,c3,c4⟩:=gN H;obtain⟨cz,cl⟩:=aO H;refine⟨_,λ_=>_,(by conv=>lhs;simp only[k4,k10,e4,e10,cond_true]),λ_=>rfl,λK hK=>?_⟩;go_simp;exact hK.out undef _ (G undef)
      ·refine oD (λL V x h hL hw hC=>?_)
       obtain⟨b,e11,H,G⟩:=h.acZ hw hL;obtain⟨-,-,-,-,-,-,-,-,-,k9,-,k11,-,-⟩:=hw;have e9:=h.f9 k9;obtain⟨c0,c1,c2,c3,c4⟩:=gN H;obtain⟨cz,cl⟩:=aO H;refine⟨_,λ_=>_,(by conv=>lhs;simp only[k9,k11,e9,e11,cond_true]),λ_=>rfl,λK hK=>?_⟩;go_simp;exact hK.out undef _ (G undef)
      ·simp only[cond_true]
       go_wp2;go_meet
       case rel=>exact h.fin
     case rest =>
      obtain⟨c,d,rfl,rfl,HX,HY,HZ⟩:=hcut;obtain⟨p0,p1,p2,p3,p4⟩:=gN HX.out;obtain⟨q0,q1,q2,q3,q4⟩:=gN HY.out;have pl:=lt_of_heap HX.out;have ql:=lt_of_heap HY.out;obtain⟨d0,d1⟩:=HC.out _ (Below.step bM.out (Below.step HB.out HZ.out));have HN:=ay (Below.step HB.out HZ.out);obtain⟨g0,g1,g2,g3,g4⟩:=G;clear HX HY HZ HB Y4 Y5 DR
      by_cases he:Y.epoch=X.epoch
      ·have ho:Y.owner=X.owner:=Classical.byContradiction λho=>g2 ho he
       clear g2 g3;cases hm:Y.moving
       ·clear g4
        go_wp2;go_roundw
        case rel=>exact⟨q+1,by omega,by go_num,HN⟩
        case measure=>simp[intOf];omega
       ·cases hx:X.moving
        ·have g5:=(g4 hm hx).1
         have g6:=(g4 hm hx).2;clear g4;go_wp2;go_roundw
         case rel=>exact⟨q+1,by omega,by go_num,HN⟩
         case measure=>simp[intOf];omega
        ·clear g4
         go_wp2;go_roundw
         case rel=>exact⟨q+1,by omega,by go_num,HN⟩
         case measure=>simp[intOf];omega
      ·have YZ:=g3 he
       clear g2 g3;have he2:(Y.epoch == X.epoch)=false:=by simpa using he
       by_cases ho:Y.owner=X.owner
       ·cases hm:Y.moving
        ·clear g4
         go_wp2;go_roundw
         case rel=>exact⟨q+1,by omega,by go_num,HN⟩
         case measure=>simp[intOf];omega
        ·cases hx:X.moving
         ·have g5:=(g4 hm hx).1
          have g6:=(g4 hm hx).2;clear g4;go_wp2;go_roundw
          case rel=>exact⟨q+1,by omega,by go_num,HN⟩
          case measure=>simp[intOf];omega
         ·clear g4
          go_wp2;go_roundw
          case rel=>exact⟨q+1,by omega,by go_num,HN⟩
          case measure=>simp[intOf];omega
       ·cases hm:Y.moving
        ·clear g4
         go_wp2;go_roundw
         case rel=>exact⟨q+1,by omega,by go_num,HN⟩
         case measure=>simp[intOf];omega
        ·cases hx:X.moving
         ·have g5:=(g4 hm hx).1
          have g6:=(g4 hm hx).2;clear g4;go_wp2;go_roundw
          case rel=>exact⟨q+1,by omega,by go_num,HN⟩
          case measure=>simp[intOf];omega
         ·clear g4
          go_wp2;go_roundw
          case rel=>exact⟨q+1,by omega,by go_num,HN⟩
          case measure=>simp[intOf];omega
    ·obtain rfl:q=3:=by omega
     have HN:=ay (Below.step (Below.step HO.out bM.out) HB.out);clear HB bM HO HC HG HPQ JU CO Gx CP HR;go_wp2;go_roundw
     case rel=>exact⟨k+1,by omega,by go_num,HN⟩
     case measure=>simp[intOf];omega
  ·obtain rfl:k=l.length:=by omega
   have c0:=bx1 (aA HO.out rY.out);have c1:=lt_of_heap (aA HO.out rY.out);have HF:=ay (Below.step (Below.step HB1.out HB3.out) HO.out);clear HO HB3 rY HB1 HR OK;go_wp2;go_ret;exact⟨rfl,HF.out⟩
end Go.Proofs.YtfabngnaejjcmaaGreatDoor
