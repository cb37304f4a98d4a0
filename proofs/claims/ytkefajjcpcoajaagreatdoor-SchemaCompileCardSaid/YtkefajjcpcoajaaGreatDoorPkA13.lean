/- -/
import Derived.Test.YtkefajjcpcoajaaGreatDoorPkA0
import Derived.Laws.CopyOwn
import Derived.Deep.RegionLaw
import Derived.Laws.AppendOwnNone
import Derived.Test.YtkefajjcpcoajaaGreatDoorPkA10
import Derived.Test.YtkefajjcpcoajaaGreatDoorPkA11
set_option linter.all false
set_option maxRecDepth 100000
set_option maxHeartbeats 6400000
namespace Go.Proofs.YtkefajjcpcoajaaGreatDoor.Q
open Go.RowKit NatMath
variable {e:TypeId}{k:IntKind}{B g n c:Nat}{w:World}{ao:Option Addr}{xs:List Bool}
theorem Own.full{xs:List Int}(h:Own e k B w (some ⟨g,0,none⟩) n n xs):w.heap[g]? = some (.cells (xs.map (Value.int k)).toArray e (0,0)):=by
 have m:=h.len;rcases h.1.2 with ⟨hv,_⟩|⟨g',cap,cur,hv,hg,hh,hn,hc,hsz,ht⟩
 . simp at hv
 . simp only[Value.slice.injEq,Option.some.injEq,Addr.mk.injEq,and_true,true_and] at hv;obtain⟨rfl,rfl⟩:=hv;rw[hh,<- ht,List.take_of_length_le (by simp;omega)]
theorem Own.ofFull{xs:List Int}(h:w.heap[g]? = some (.cells (xs.map (Value.int k)).toArray e (0,0)))(hB:B<=g)(hn:xs.length=n)(hm:n<=maxLen)(hw:∀x∈xs,(Lit.int k x).wf=true) :
    Own e k B w (some ⟨g,0,none⟩) n n xs :=
 ⟨⟨by simpa using hn,.inr ⟨g,n,(xs.map (Value.int k)).toArray,rfl,hB,h,Nat.le_refl _,hm,by simpa using hn,by rw[List.take_of_length_le (by simp;omega)]⟩⟩,hw⟩
theorem Own.made(hz:(Lit.int k 0).wf=true)(h:w.ownsRow B e 1 (.slice (some ⟨g,0,none⟩) n n) n (madeCells #[Value.int k 0] n).toList):Own e k B w (some ⟨g,0,none⟩) n n (List.replicate n 0):=by
 refine⟨?_,λx m=>?_⟩
 . rw[toList_madeCells_one] at h
   rwa [List.map_replicate]
 . rw[List.eq_of_mem_replicate m];exact hz
theorem jy{a w':World}(h:Below B a w)(hg:w.grownBy w' none)(hB:B<=w.heap.size):Below B a w':=h.grown hg hB (λk hk=>by cases hk)
theorem Pl(ao bo:Option Addr)(n c m d:Nat)(xs ys:List Int)(w:World)(h:Lst .u32 w ao n c xs)(k:Lst .u32 w bo m d ys)(hn:n<=1073741824)(hm:m<=1073741824) :
    Calls Tryz.prog 161 #[.slice ao n c,.slice bo m d] w λe w'=>∃ao' n' c',e=.returned (.slice ao' n' c')/\(n'<=n+1\/n'<=m+1)/\Own 144 .u32 w.heap.size w' ao' n' c' (qL (val xs+val ys))/\Below w.heap.size w w':=by
 obtain⟨i0,hi,e8,f3,e7⟩:=info_parts Zf;have d7:=zA h.ok;have e0:=zA k.ok;rw[h.len] at d7;rw[k.len] at e0;go_in;go_wp2_with fail;refine(xC _ _ _ xs _ h).mono ?_;rintro e w' ⟨rfl,a1,n1,c1,rfl,h1,-⟩;go_wp2_with fail;refine(xC _ _ _ ys _ k).mono ?_;rintro e w' ⟨rfl,b1,m1,d1,rfl,k1,-⟩;rw[h1.len] at d7;rw[k1.len] at e0;have f0:n1<=1073741824:=by omega
 have e5:m1<=1073741824:=by omega
 rcases Nat.lt_or_ge n1 m1 with hsw|hsw
 case' inl =>
  obtain⟨qo,rfl⟩:∃x,x=a1:=⟨_,rfl⟩;obtain⟨qn,rfl⟩:∃x,x=n1:=⟨_,rfl⟩;obtain⟨qc,rfl⟩:∃x,x=c1:=⟨_,rfl⟩;obtain⟨po,rfl⟩:∃x,x=b1:=⟨_,rfl⟩;obtain⟨pn,rfl⟩:∃x,x=m1:=⟨_,rfl⟩;obtain⟨pc,rfl⟩:∃x,x=d1:=⟨_,rfl⟩;obtain⟨P,HP⟩:=jx2 (qL (val ys));obtain⟨Q,HQ⟩:=jx2 (qL (val xs));have hP:Lst .u32 w po pn pc P:=by rw[HP.o];exact k1
  have hQ:Lst .u32 w qo qn qc Q:=by rw[HQ.o];exact h1
  have hs:Hid (val P+val Q=val xs+val ys):=by show val P+val Q=_;rw[HP.o,HQ.o,qP,qP,Nat.add_comm]
  have d2:qn<=pn:=by omega
  have Z:∀t,t<=pn+1->t<=n+1\/t<=m+1:=λt ht=>by omega
  have a9:=jA Z;have e1:pn<=1073741824:=e5;clear h1 k1 Z
 case' inr =>
  obtain⟨po,rfl⟩:∃x,x=a1:=⟨_,rfl⟩;obtain⟨pn,rfl⟩:∃x,x=n1:=⟨_,rfl⟩;obtain⟨pc,rfl⟩:∃x,x=c1:=⟨_,rfl⟩;obtain⟨qo,rfl⟩:∃x,x=b1:=⟨_,rfl⟩;obtain⟨qn,rfl⟩:∃x,x=m1:=⟨_,rfl⟩;obtain⟨qc,rfl⟩:∃x,x=d1:=⟨_,rfl⟩;obtain⟨P,HP⟩:=jx2 (qL (val xs));obtain⟨Q,HQ⟩:=jx2 (qL (val ys));have hP:Lst .u32 w po pn pc P:=by rw[HP.o];exact h1
  have hQ:Lst .u32 w qo qn qc Q:=by rw[HQ.o];exact k1
  have hs:Hid (val P+val Q=val xs+val ys):=by show val P+val Q=_;rw[HP.o,HQ.o,qP,qP]
  have d2:qn<=pn:=by omega
  have Z:∀t,t<=pn+1->t<=n+1\/t<=m+1:=λt ht=>by omega
  have a9:=jA Z;have e1:pn<=1073741824:=f0;clear h1 k1 Z
 all_goals
   go_wp2_with (at_make;refine wpList_make_full _ rfl _ _ 30 rfl w.heap.size 144 i0 (.int .u32 0) 1 Tryz.underlying30 hi e8 f3 _ _ _ _ (pn+1) rfl rfl (by omega) (by omega) ?b2 ?b3 (Nat.le_refl _) ?_);(case b2=>rw[e7];omega);(case b3=>unfold maxLen;omega);intro w1 b5 c8;have o1:Own 144 .u32 w.heap.size w1 (some ⟨w.heap.size,0,none⟩) (pn+1) (pn+1) (List.replicate (pn+1) 0):=Own.made (xL (by omega) (by omega)) b5;have b1:Below w.heap.size w w1:=jy (Below.refl _ _) c8 (Nat.le_refl _);have d6:=hP.below b1;have g8:=hQ.below b1;have d3:∀i,i<qn->(pt qo i).block<w.heap.size:=hQ.block;have b4:=jA o1.full;have d8:Hid ((P.map (Value.int .u32)).length=Nat.min pn (pn+1)):=by
    show(P.map (Value.int .u32)).length=Nat.min pn (pn+1);rw[List.length_map,hP.len];exact(Nat.min_eq_left (by omega)).symm
   have b7:Hid (0<(P.map (Value.int .u32)).length->some (⟨w.heap.size,0,none⟩:Addr)=some ⟨w.heap.size,0,none⟩/\∃ad,po=some ad/\∀j v,(P.map (Value.int .u32))[j]? = some v->w1.cell? (ad.add j)=some v):=by
    intro h0;rw[List.length_map,hP.len] at h0;obtain⟨ad,rfl⟩:=hP.isSome h0;exact⟨rfl,ad,rfl,d6.cells⟩
   have b6:Hid (0+(P.map (Value.int .u32)).length<=((List.replicate (pn+1) (0:Int)).map (Value.int .u32)).length):=by
    show 0+(P.map (Value.int .u32)).length<=_;rw[List.length_map,hP.len];simp
   have a0:=jA hP.len;have f4:=jA hQ;have c6:=jA hQ.len;have b0:=jA hP.ok;have a6:=jA hQ.ok;have d9:=jA hP.wf;have g4:=hP.room;have g6:=hQ.room;have g0:=hQ.cap;clear b5 c8 o1 d6 hP hQ;go_wp2_with ((with_reducible refine wpList_copy_splice rfl (.tmp 24) (.tmp 25) 30 30 rfl 144 Tryz.underlying30 XM _ _ _ _ _ _ rfl rfl w.heap.size 0 ((List.replicate (pn+1) (0:Int)).map (Value.int .u32)) 144 b4.o (P.map (Value.int .u32)) d8.o b7.o b6.o (ints_oneCell _ _) w.heap.size w b1 (Nat.le_refl _) ?_));intro w2 a4 b2;have e2:splice (List.replicate (pn+1) (Value.int .u32 0)) 0 (P.map (Value.int .u32))=(P++[0]).map (Value.int .u32):=by
    unfold splice;have e9:=a0.o;rw[List.take_zero,List.nil_append,List.length_map,e9,List.drop_replicate,List.map_append];congr 1;rw[show pn+1-(0+pn)=1 by omega];rfl
   have o2:Own 144 .u32 w.heap.size w2 (some ⟨w.heap.size,0,none⟩) (pn+1) (pn+1) (P++[0]):=by
    have hb:=a4.o;rw[e2] at hb;refine Own.ofFull hb (Nat.le_refl _) (by simp[a0.o]) (by unfold maxLen;omega) (λx hx=>?_);rcases List.mem_append.1 hx with hx|hx
    . exact d9.o x hx
    . simp at hx;subst hx;exact xL (by omega) (by omega)
   have f5:=f4.o.below b2;have e6:=AddInv.start Q b0.o;clear b4 d8 b7 b6 a4 e2 b1;go_wp2_with fail;go_loopw [6,29] (λs6 i wr=>∃ (j:Nat) (r:Int) (D:List Int),j<=qn/\i=.int .i64 j/\s6=.int .u32 r/\AddInv P Q D r j/\Own 144 .u32 w.heap.size wr (some ⟨w.heap.size,0,none⟩) (pn+1) (pn+1) D/\Lst .u32 wr qo qn qc Q/\Below w.heap.size w wr)
     (λ_ i _=>qn-(intOf i).toNat)
   (case atStart=>exact⟨0,0,P++[0],Nat.zero_le _,rfl,rfl,e6,o2,f5,b2⟩);case round =>
    obtain⟨j,r,D,hj,rfl,rfl,a3,ho,hk,hb⟩:=hrel;have g9:=a3.c0;have g1:=a3.c1;by_cases d0:j<qn
    . have b8:=ix ho.lst j (by omega);have f9:=ix hk j d0;obtain⟨x,HX,e3,f2,c7⟩:=ho.lst.at j (by omega);obtain⟨y,HY,g7,g5,g3⟩:=hk.at j d0;have b9:=ho.frozen (i:=j) (by omega);have a7:(Lit.int .u32 ((x+y+r) % 4294967296)).wf=true:=xL (by omega) (by omega);have G:=ho.base (i:=j) (by omega);have R1:=jA (a3.step a6.o (by rw[a0.o];omega) HX.o HY.o);have R2:=jA (ho.set (i:=j) (by omega) a7);have R3:=jA (hk.stored d3 G (.int .u32 ((x+y+r) % 4294967296)));have R4:=jA (hb.setCell G (.int .u32 ((x+y+r) % 4294967296)));rw[jm] at b8 c7 b9 R2 R3 R4;clear a7 G;go_wp2_with fail;(go_region_law ((go_simp;go_at_call 212;refine(WD _ _ _ _ (by omega) (by omega) (by omega) (by omega) (by omega) (by omega)).mono ?_;rintro e w' ⟨rfl,rfl⟩)));all_goals
        go_wp2_with fail;go_roundw;(case rel=>exact⟨j+1,(x+y+r) / 4294967296,_,by omega,by go_num,rfl,R1.o,R2.o,R3.o.drewN 1,R4.o.drew⟩);case measure=>simp[intOf];omega
    . (obtain rfl:j=qn:=by omega);have f8:=jA hk;clear hk;go_wp2_with fail;go_loopw [6,8] (λs6 i wr=>∃ (j':Nat) (r:Int) (D:List Int),j<=j'/\j'<=pn+1/\i=.int .i64 j'/\s6=.int .u32 r/\AddInv P Q D r j'/\Own 144 .u32 w.heap.size wr (some ⟨w.heap.size,0,none⟩) (pn+1) (pn+1) D/\Below w.heap.size w wr)
        (λ_ i _=>pn+1-(intOf i).toNat)
      (case atStart=>exact⟨j,r,D,Nat.le_refl _,by omega,rfl,rfl,a3,ho,hb⟩);case round =>
       obtain⟨j',r',D',d4,f1,rfl,rfl,H,J,d5⟩:=hrel;have f6:=H.c0;have f7:=H.c1;by_cases hz:r'=0
       . subst hz;have hv:=H.done (by rw[c6.o];exact d4);have HV:=jA hv;clear hv;go_wp2_with fail;refine(xC _ _ _ D' _ J.lst).mono ?_;rintro e w' ⟨rfl,a2,n2,c2,rfl,k2,e4⟩;go_wp2_with fail;go_ret;have a5:=k2.len;have a8:=zA J.lst.ok;rw[a5,J.len] at a8;refine⟨a2,n2,c2,rfl,a9.o n2 a8,?_,d5⟩;rw[<- hs.o,<- HV.o,xq J.lst.ok,a5];exact J.head e4 a8
       . have V:j'<pn+1:=by
          have:=H.more b0.o a6.o (by rw[a0.o,c6.o];exact d2) (by rw[a0.o];exact f1) hz
          rwa [a0.o] at this
         (have g2:(r' == 0)=false:=by simpa using hz);have b8:=ix J.lst j' V;obtain⟨x,HX,e3,f2,c7⟩:=J.lst.at j' V;have b9:=J.frozen V;have HY:Hid ((0:Int)=Q.getD j' 0):=by
          show(0:Int)=Q.getD j' 0;rw[List.getD,List.getElem?_eq_none (by rw[c6.o];exact d4)];rfl
         have r1:=H.step a6.o (by rw[a0.o];exact V) HX.o HY.o;rw[Int.add_zero] at r1;have a7:(Lit.int .u32 ((x+r') % 4294967296)).wf=true:=xL (by omega) (by omega);have G:=J.base V;have R1:=jA r1;have R2:=jA (J.set V a7);have R4:=jA (d5.setCell G (.int .u32 ((x+r') % 4294967296)));rw[jm] at b8 c7 b9 R2 R4;clear a7 G r1;go_wp2_with (go_at_call 212;refine(WD _ _ _ _ (by omega) (by omega) (by omega) (by omega) (by omega) (by omega)).mono ?_;rintro e w' ⟨rfl,rfl⟩);go_roundw;(case rel=>exact⟨j'+1,(x+r') / 4294967296,_,by omega,by omega,by go_num,rfl,R1.o,R2.o,R4.o⟩);case measure=>simp[intOf];omega
theorem Df(ao bo:Option Addr)(n c m d:Nat)(xs ys:List Int)(w:World)(h:Lst .u32 w ao n c xs)(k:Lst .u32 w bo m d ys)(hn:n<=1073741824)(hm:m<=1073741824) :
    Calls Tryz.prog 160 #[.slice ao n c,.slice bo m d] w λe w'=>∃ao' n' c',e=.returned (.slice ao' n' c')/\n'<=n+m/\Own 144 .u32 w.heap.size w' ao' n' c' (qL (val xs*val ys))/\Below w.heap.size w w':=by
 obtain⟨i0,hi,e6,e8,e5⟩:=info_parts Zf;have d8:=zA h.ok;have e0:=zA k.ok;rw[h.len] at d8;rw[k.len] at e0;go_in;go_wp2_with fail;refine(xC _ _ _ xs _ h).mono ?_;rintro e w' ⟨rfl,a1,n1,c1,rfl,h1,-⟩;go_wp2_with fail;refine(xC _ _ _ ys _ k).mono ?_;rintro e w' ⟨rfl,b1,m1,d1,rfl,k1,-⟩;rw[h1.len] at d8;rw[k1.len] at e0;have g0:n1<=1073741824:=by omega
 have f6:m1<=1073741824:=by omega
 obtain⟨L,HL⟩:=jx2 (qL (val xs));obtain⟨M,HM⟩:=jx2 (qL (val ys));rw[<- HL.o] at h1;rw[<- HM.o] at k1;have V:=jA h1.len;have Z:=jA k1.len;have f3:=jA h1.ok;have d7:=jA k1.ok;have a4:=jA h1.block;have a6:=jA k1.block;have b6:val L*val M=val xs*val ys:=by rw[HL.o,HM.o,qP,qP]
 have d0:=jA b6;have g2:=h1.room;have f9:=h1.cap;have g1:=k1.room;have f8:=k1.cap;clear b6 h k;go_wp2_with (at_make;refine wpList_make_full _ rfl _ _ 30 rfl w.heap.size 144 i0 (.int .u32 0) 1 Tryz.underlying30 hi e6 e8 _ _ _ _ (n1+m1) rfl rfl (by omega) (by omega) ?b2 ?b3 (Nat.le_refl _) ?_);case b2=>rw[e5];omega
 case b3=>unfold maxLen;omega
 intro w1 b7 d3;have a9:Below w.heap.size w w1:=jy (Below.refl _ _) d3 (Nat.le_refl _);have o1:Own 144 .u32 w.heap.size w1 (some ⟨w.heap.size,0,none⟩) (n1+m1) (n1+m1) (List.replicate (L.length+M.length) 0):=by
  rw[V.o,Z.o];exact Own.made (xL (by omega) (by omega)) b7
 have d4:=OutInv.start L M;have d9:=h1.below a9;have d2:=k1.below a9;clear b7 d3 h1 k1;go_wp2_with fail;go_loopw [24] (λi wr=>∃ (t:Nat) (D:List Int),t<=n1/\i=.int .i64 t/\OutInv L M D t/\Own 144 .u32 w.heap.size wr (some ⟨w.heap.size,0,none⟩) (n1+m1) (n1+m1) D/\Lst .u32 wr a1 n1 c1 L/\Lst .u32 wr b1 m1 d1 M/\Below w.heap.size w wr)
   (λi _=>n1-(intOf i).toNat)
 case atStart=>exact⟨0,_,Nat.zero_le _,rfl,d4,o1,d9,d2,a9⟩
 case round =>
  obtain⟨t,D,ht,rfl,a0,ho,ha,hk,hb⟩:=hrel;clear d4 o1 d9 d2 a9;by_cases b0:t<n1
  . have e4:=ix ha t b0;obtain⟨x,HX,e1,g3,f1⟩:=ha.at t b0;obtain⟨X,rfl⟩:=Int.eq_ofNat_of_zero_le e1;have d6:=InInv.start a0 X;have HK:=jA hk;have HA:=jA ha;obtain⟨wo,rfl⟩:∃wo:World,wo=wr:=⟨_,rfl⟩;go_wp2_with fail;go_loopw [8,31] (λs8 i wr=>∃ (j cy:Nat) (D':List Int),j<=m1/\i=.int .i64 j/\s8=.int .u64 cy/\InInv L M D' X t cy j/\Own 144 .u32 w.heap.size wr (some ⟨w.heap.size,0,none⟩) (n1+m1) (n1+m1) D'/\Lst .u32 wr a1 n1 c1 L/\Lst .u32 wr b1 m1 d1 M/\Below w.heap.size w wr)
      (λ_ i _=>m1-(intOf i).toNat)
    (case atStart=>exact⟨0,0,D,Nat.zero_le _,rfl,rfl,d6,ho,HA.o,HK.o,hb⟩);case round =>
     obtain⟨j,cy,D',hj,rfl,rfl,J,H,b5,a3,b4⟩:=hrel;have e3:=J.cy1;clear e4 f1 d6 HK HA ho hb a0;by_cases c7:j<m1
     . have f5:=ix a3 j c7;obtain⟨y,HY,f0,g4,f2⟩:=a3.at j c7;obtain⟨Y,rfl⟩:=Int.eq_ofNat_of_zero_le f0;have a8:=ix H.lst (t+j) (by omega);rw[show((t+j:Nat):Int)=(t:Int)+(j:Int) from by omega] at a8;obtain⟨p,b9,d5,e9,c8⟩:=H.lst.at (t+j) (by omega);obtain⟨p,rfl⟩:=Int.eq_ofNat_of_zero_le d5;have c6:=H.frozen (i:=t+j) (by omega);have e7:=Zd (show X<=4294967295 by omega) (show Y<=4294967295 by omega) (show p<=4294967295 by omega) e3;(have f4:(0:Int)<=(X:Int)*(Y:Int):=by rw[<- Int.natCast_mul];omega);(have f7:(X:Int)*(Y:Int)<=18446744065119617025:=by rw[<- Int.natCast_mul];omega);(have eM:(((X*Y+p+cy) % 4294967296:Nat):Int)=((X:Int)*(Y:Int)+(p:Int)+(cy:Int)) % 4294967296:=by simp);(have eD:(((X*Y+p+cy) / 4294967296:Nat):Int)=((X:Int)*(Y:Int)+(p:Int)+(cy:Int)) / 4294967296:=by simp);have hs:=J.step (by rw[V.o];exact b0) (by rw[Z.o];exact c7) (show X<=4294967295 by omega) d7.o b9.o HY.o;have a7:(Lit.int .u32 (((X*Y+p+cy) % 4294967296:Nat):Int)).wf=true:=xL (by omega) (by omega);have G:=H.base (i:=t+j) (by omega);have r2:=H.set (i:=t+j) (by omega) a7;have r3:=b5.stored a4.o G (.int .u32 (((X*Y+p+cy) % 4294967296:Nat):Int));have r5:=a3.stored a6.o G (.int .u32 (((X*Y+p+cy) % 4294967296:Nat):Int));have r4:=b4.setCell G (.int .u32 (((X*Y+p+cy) % 4294967296:Nat):Int));rw[eM] at hs r2 r3 r4 r5;rw[jm] at a8 c8 c6 r2 r3 r4 r5;have R1:=jA hs;have R2:=jA r2;have R3:=jA r3;have R4:=jA r4;have R5:=jA r5;have ED:=jA eD;clear e7 eM eD hs a7 G r2 r3 r4 r5 J H b5 a3 b4;go_wp2_with fail;go_roundw;(case rel=>exact⟨j+1,(X*Y+p+cy) / 4294967296,_,by omega,by go_num,by rw[ED.o],R1.o,R2.o,R3.o,R5.o,R4.o⟩);case measure=>simp[intOf];omega
     . (obtain rfl:j=m1:=by omega);rw[<- Z.o] at J;have hs:=J.done (by rw[V.o];exact b0) HX.o;rw[Z.o] at hs;have a8:=ix H.lst (t+j) (by omega);rw[show((t+j:Nat):Int)=(t:Int)+(j:Int) from by omega] at a8;obtain⟨p,b9,d5,e9,c8⟩:=H.lst.at (t+j) (by omega);have c6:=H.frozen (i:=t+j) (by omega);have a7:(Lit.int .u32 (cy:Int)).wf=true:=xL (by omega) (by omega);have G:=H.base (i:=t+j) (by omega);have r2:=H.set (i:=t+j) (by omega) a7;have r3:=b5.stored a4.o G (.int .u32 (cy:Int));have r5:=a3.stored a6.o G (.int .u32 (cy:Int));have r4:=b4.setCell G (.int .u32 (cy:Int));rw[jm] at a8 c8 c6 r2 r3 r4 r5;have R1:=jA hs;have R2:=jA r2;have R3:=jA r3;have R4:=jA r4;have R5:=jA r5;clear hs a7 G r2 r3 r4 r5 J H b5 a3 b4 b9;go_wp2_with fail;go_roundw;(case rel=>exact⟨t+1,_,by omega,by go_num,R1.o,R2.o,R3.o,R5.o,R4.o⟩);case measure=>simp[intOf];omega
  . (obtain rfl:t=n1:=by omega);rw[<- V.o] at a0;have hv:=a0.done;rw[d0.o] at hv;have HV:=jA hv;clear hv a0 ha hk;go_wp2_with fail;refine(xC _ _ _ D _ ho.lst).mono ?_;rintro e w' ⟨rfl,a2,n2,c2,rfl,k2,e2⟩;go_wp2_with fail;go_ret;have a5:=k2.len;have b8:=zA ho.lst.ok;rw[a5,ho.len] at b8;refine⟨a2,n2,c2,rfl,by omega,?_,hb⟩;rw[<- HV.o,xq ho.lst.ok,a5];exact ho.head e2 b8
theorem Zk:(Tryz.prog.info? 4).map (λi=>(i.zero,i.size,i.bytes))=some (some (.bool false),1,1):=by kernel_rfl
theorem Pm:(Tryz.prog.info? 4).map (·.size)=some 1:=by kernel_rfl
structure LstB (w:World) (ao:Option Addr) (n c:Nat) (xs:List Bool):Prop where
 len:xs.length=n
 cap:n<=c
 room:c<=9223372036854775807
 isSome:0<n->∃a,ao=some a
 cell:∀i,i<n->w.cell? (pt ao i)=some (.bool (xs.getD i false))
 nil0:ao=none->c=0
theorem LstB.block(h:LstB w ao n c xs)(i:Nat)(hi:i<n):(pt ao i).block<w.heap.size :=
 World.block_lt_of_cell? w _ (h.cell i hi)
theorem LstB.below{w':World}(h:LstB w ao n c xs)(hb:Below w.heap.size w w'):LstB w' ao n c xs :=
 ⟨h.len,h.cap,h.room,h.isSome,λi hi=>(hb.cell (h.block i hi)).trans (h.cell i hi),h.nil0⟩
theorem LstB.take(h:LstB w ao n c xs){m:Nat}(hm:m<=n):LstB w ao m c (xs.take m):=by
 have H:=h.len;have G:=h.cap;refine⟨by simp;omega,by omega,h.room,λy=>h.isSome (by omega),λi hi=>?_,h.nil0⟩;rw[h.cell i (by omega)];simp[List.getD,hi]
theorem LstB.nil(w:World):LstB w none 0 0 [] :=
 ⟨rfl,Nat.le_refl _,by omega,λh=>absurd h (by omega),λi hi=>absurd hi (by omega),λ_=>rfl⟩
theorem LstB.at(h:LstB w ao n c xs)(i:Nat)(hi:i<n) :
    ∃x:Bool,Hid (x=xs.getD i false)/\w.cell? (pt ao i)=some (.bool x):=⟨_,rfl,h.cell i hi⟩
theorem LstB.cells{a:Addr}(h:LstB w (some a) n c xs):∀j u,(xs.map Value.bool)[j]? = some u->w.cell? (a.add j)=some u:=by
 intro j u m;have y:j<n:=by
  have:=(List.getElem?_eq_some_iff.1 m).1;simpa[h.len] using this
 have:=h.cell j y;simp only[pt,Option.getD_some] at this;rw[this];have G:=h.len;rw[<- m];simp[List.getD,show j<xs.length by omega]
theorem yk(zs:List Bool):∀u∈zs.map Value.bool,u.oneCell'=true:=by
 intro u m;obtain⟨_,_,rfl⟩:=List.mem_map.1 m;rfl
theorem ixB(h:LstB w ao n c xs)(i:Nat)(hi:i<n) :
    ∀W,(Instr.indexAt 156 (.slice ao n c) (.int .i64 (i:Int))).run Tryz.prog W=.ok (.pointer (some (pt ao i))) W:=by
 intro W;obtain⟨a,rfl⟩:=h.isSome (by omega);obtain⟨y,m,G⟩:=Option.map_eq_some_iff.1 Pm;simp[Instr.indexAt,run_underlying Tryz.underlying156,asIntOf,sizeOf,typeInfo,m,G,pt,hi]
def OwnT(B:Nat)(w:World)(ao:Option Addr)(n c:Nat)(xs:List Bool):Prop:=w.ownsRow B 4 1 (.slice ao n c) n (xs.map Value.bool)
section
variable {B : Nat} {w w' : World} {ao : Option Addr} {n c : Nat} {xs : List Bool}
theorem OwnT.len(h:OwnT B w ao n c xs):xs.length=n:=by
 have:=h.1;simpa using this
theorem OwnT.cases(h:OwnT B w ao n c xs):(ao=none/\n=0/\c=0/\xs=[])\/∃g,ao=some ⟨g,0,none⟩/\B<=g/\g<w.heap.size/\n<=c/\c<=maxLen:=by
 have m:=h.len;rcases h.2 with ⟨hv,hn⟩|⟨g,cap,cur,hv,hg,hh,hn,hc,_⟩
 . injection hv with h1 h2 h3;exact Or.inl ⟨h1,hn,h3,List.eq_nil_of_length_eq_zero (by omega)⟩
 . injection hv with h1 h2 h3;subst h3;exact Or.inr ⟨g,h1,hg,(Array.getElem?_eq_some_iff.1 hh).1,hn,hc⟩
theorem OwnT.lst(h:OwnT B w ao n c xs):LstB w ao n c xs:=by
 have m:=h.len;rcases h.cases with ⟨rfl,rfl,rfl,rfl⟩|⟨g,rfl,hg,hgs,hn,hc⟩
 . exact LstB.nil _
 . refine⟨m,hn,by simpa[maxLen] using hc,λ_=>⟨_,rfl⟩,λi hi=>?_,λe=>by cases e⟩;rw[jm,World.ownsRow.cellAt h i (by omega)];simp[List.getD,show i<xs.length by omega]
theorem OwnT.kept(h:OwnT B w ao n c xs)(hb:Below w.heap.size w w'):OwnT B w' ao n c xs :=
 World.ownsRow.kept h (row:=none) ⟨hb.os,hb.tape,hb.output,hb.size,λj hj _=>hb.block j hj⟩ (by cases (Value.slice ao n c).ownBlock<;>simp)
theorem OwnT.nil(B:Nat)(w:World):OwnT B w none 0 0 []:=World.ownsRow_nil _ _ _ _
theorem xR{v:Value}{us:List Value}(h:w.ownsRow B e 1 v n us):∃ao c,v=.slice ao n c:=by
 rcases h.2 with ⟨hv,h0⟩|⟨g,cap,_,hv,_⟩
 . exact⟨none,0,by rw[hv,h0]⟩
 . exact⟨_,cap,hv⟩
theorem OwnT.lt(h:OwnT B w ao n c xs):∀g,(Value.slice ao n c).ownBlock=some g->B<=g/\g<w.heap.size:=World.ownsRow.lt h
end
theorem yF(ao:Option Addr)(n c:Nat)(xs:List Bool)(w:World)(h:LstB w ao n c xs)(hn:n<=1099511627776) :
    Calls Tryz.prog 208 #[.slice ao n c] w λe w'=>∃ao' n' c',e=.returned (.slice ao' n' c')/\OwnT w.heap.size w' ao' n' c' (qZ (qi xs))/\Below w.heap.size w w':=by
 obtain⟨i0,hi,b5,b0,b4⟩:=info_parts Zk;have b1:=h.room;have b6:=h.cap;have hl:=jA h.len;have J:ao=none->n=0:=λe=>by
  rcases Nat.eq_zero_or_pos n with H|H
  . exact H
  . obtain⟨a,ha⟩:=h.isSome H;rw[e] at ha;cases ha
 have HN:=jA J;clear J;go_in;go_wp2_with fail;go_loop [3] (λi=>∃m:Nat,m<=n/\i=.int .i64 m/\∀j,m<=j->xs.getD j false=false) (λi=>(intOf i).toNat)
 case atStart=>exact⟨n,Nat.le_refl _,rfl,λj hj=>by rw[List.getD,List.getElem?_eq_none (by rw[hl.o];exact hj)];rfl⟩
 case round =>
  obtain⟨m,hm,rfl,hz⟩:=hrel;have HZ:=jA hz;clear hz;by_cases y:0<m/\xs.getD (m-1) false=false
  . obtain⟨H,Z⟩:=y;have a3:=ixB h (m-1) (by omega);rw[show((m-1:Nat):Int)=(m:Int)-1 from by omega] at a3;have a2:=h.cell (m-1) (by omega);rw[Z] at a2;have HX:=jA Z;clear Z;go_wp2_with fail;go_round;case rel=>exact⟨m-1,by omega,by go_num,λj hj=>by
     by_cases e:j=m-1
     . rw[e];exact HX.o
     . exact HZ.o j (by omega)⟩
    case measure=>simp[intOf];omega
  . have a0:qZ (qi xs)=xs.take m:=by
     refine Jc m (by rw[hl.o];exact hm) HZ.o ?_;rcases Nat.eq_zero_or_pos m with H|H
     . exact Or.inl H
     . refine Or.inr ?_;cases Z:xs.getD (m-1) false with
       | true=>rfl
       | false=>exact absurd ⟨H,Z⟩ y
    have HF:=jA a0;clear a0;have ht:=h.take hm;have a6:(xs.take m).length=m:=ht.len;have a9:=jA a6;clear a6
    -- the walk from the test on: m is 0, or bit m - 1 is set
    have V:m=0\/(0<m/\xs.getD (m-1) false=true):=by
     rcases Nat.eq_zero_or_pos m with H|H
     . exact Or.inl H
     . refine Or.inr ⟨H,?_⟩;cases Z:xs.getD (m-1) false with
       | true=>rfl
       | false=>exact absurd ⟨H,Z⟩ y
    clear y;cases ao with
    | none =>
     have b3:n=0:=HN.o rfl;have b2:c=0:=h.nil0 rfl;subst b3;subst b2;(obtain rfl:m=0:=by omega);clear V ht;go_wp2_with (at_builtin;refine wpList_append_own_none rfl _ _ 156 rfl w.heap.size 4 i0 1 Tryz.underlying156 hi _ 0 [] rfl (World.ownsRow_nil _ _ _ _) rfl ?_);go_ret;exact⟨none,0,0,rfl,by rw[HF.o];exact OwnT.nil _ _,Below.refl _ _⟩
    | some a =>
     have HC:=jA ht.cells;(have a5:Hid (0+m<=maxLen):=by show 0+m<=maxLen;unfold maxLen;omega);(have a8:Hid ((0+m)*1<=140737488355328):=by show(0+m)*1<=140737488355328;omega);(have a4:Hid (((xs.take m).map Value.bool).length=m*1):=by show _=_;rw[List.length_map,a9.o,Nat.mul_one]);rcases(show m<=0\/(0<m/\xs.getD (m-1) false=true) from by rcases V with h1|h1;exact Or.inl (by omega);exact Or.inr h1) with H|⟨H,Z⟩
     . (obtain rfl:m=0:=by omega);clear ht V HC a4 a5 a8;go_wp2_with fail;go_ret;exact⟨none,0,0,rfl,by rw[HF.o];exact OwnT.nil _ _,Below.refl _ _⟩
     . have a3:=ixB h (m-1) (by omega);rw[show((m-1:Nat):Int)=(m:Int)-1 from by omega] at a3;have a2:=h.cell (m-1) (by omega);rw[Z] at a2;clear Z ht V;go_wp2_with (at_builtin;refine wpList_append_own _ rfl _ _ 156 rfl w.heap.size 4 i0 (.bool false) 1 1 Tryz.underlying156 hi b5 b0 b4 rfl (by decide) (.slice none 0 0) 0 [] rfl (World.ownsRow_nil _ _ _ _) a m c ((xs.take m).map Value.bool) rfl a4.o HC.o (yk _) a5.o a8.o (Nat.le_refl _) ?_);intro v' w1 a1 a7 _;(have G:w1.ownsRow w.heap.size 4 1 v' m ((xs.take m).map Value.bool):=by simpa using a1);obtain⟨ao',c',rfl⟩:=xR G;have hb:Below w.heap.size w w1:=(Below.refl _ _).grown a7 (Nat.le_refl _) (λk hk=>by simp[Value.ownBlock] at hk);have HO:=jA G;clear a1 G a7;go_wp2_with fail;go_ret;refine⟨ao',_,c',rfl,?_,hb⟩;rw[HF.o];exact HO.o
theorem kO{a b d:World}(h:Below B a b)(k:Below b.heap.size b d)(hB:B<=b.heap.size):Below B a d:=h.trans (k.mono hB)
theorem vh{B':Nat}{size:Nat}{v:Value}{us:List Value}(h:w.ownsRow B e size v n us)(hB:B'<=B):w.ownsRow B' e size v n us:=by
 refine⟨h.1,?_⟩;rcases h.2 with h1|⟨g,cap,cur,hv,hg,rest⟩
 . exact Or.inl h1
 . exact Or.inr ⟨g,cap,cur,hv,Nat.le_trans hB hg,rest⟩
theorem OwnT.low{B':Nat}(h:OwnT B w ao n c xs)(hB:B'<=B):OwnT B' w ao n c xs:=vh h hB
theorem Jf(ao:Option Addr)(n c:Nat)(xs:List Bool)(j:Nat)(w:World)(h:LstB w ao n c xs) :
    Calls Tryz.prog 206 #[.slice ao n c,.int .i64 j] w λe w'=>e=.returned (.bool (xs.getD j false))/\w=w':=by
 have G:=h.room;have H:=h.cap;by_cases m:j<n
 . have V:=ixB h j m;obtain⟨x,y,Z⟩:=h.at j m;(have hd:decide ((j:Int)<(n:Int))=true:=by simpa using m);go_in;go_wp2_with fail;go_ret;exact⟨by rw[<- y.o];rfl,rfl⟩
 . (have J:xs.getD j false=false:=by rw[List.getD,List.getElem?_eq_none (by rw[h.len];omega)];rfl);have y:=jA J;clear J;(have hd:decide ((j:Int)<(n:Int))=false:=by simp;omega);go_in;go_wp2_with fail;go_ret;exact⟨by rw[y.o];rfl,rfl⟩
theorem Mm{v i k:Nat}{D:List Int}(hD:Ok D)(hv:val D=v)(hk:k<32){x:Nat}(hx:(x:Int)=D.getD i 0):(bits .and .u32 ((x:Int) / 2 ^ k) 1 == 1)=v.testBit (32*i+k):=by
 have y:=hD.getD i;rw[<- hx] at y;have G:(x:Int) / 2 ^ k=((x / 2 ^ k:Nat):Int):=by simp
 have J:x / 2 ^ k<=x:=Nat.div_le_self _ _;have m:=DW hD i k hk;rw[<- hx,hv,Int.toNat_natCast] at m;have H:bits .and .u32 ((x / 2 ^ k:Nat):Int) 1=((x / 2 ^ k &&& 1:Nat):Int):=u32_and_nat (x / 2 ^ k) 1 (by omega) (by omega);rw[G,H,nat_mask1,Nat.testBit_eq_decide_div_mod_eq,m];generalize v / 2 ^ (32*i+k) % 2=r
 rw[Bool.eq_iff_iff];simp;omega
theorem Mn(ao:Option Addr)(n c:Nat)(xs:List Int)(w:World)(h:Lst .u32 w ao n c xs)(hn:n<=1073741824) :
    Calls Tryz.prog 154 #[.slice ao n c] w λe w'=>∃ao' n' c',e=.returned (.slice ao' n' c')/\OwnT w.heap.size w' ao' n' c' (qZ (val xs))/\Below w.heap.size w w':=by
 obtain⟨i0,hi,b3,b6,b1⟩:=info_parts Zk;have b7:=h.room;have c7:=h.cap;have hl:=jA h.len;have b9:=jA h.ok;obtain⟨v,hv⟩:=jx2 (val xs);have G:v<2 ^ (32*n):=by
  have:=xI h.ok;rw[h.len] at this;rw[hv.o,Nat.pow_mul,show(2 ^ 32:Nat)=4294967296 by decide];exact this
 have b0:=jA G;clear G;have h0:OwnT w.heap.size w none 0 0 (vQ v 0):=OwnT.nil _ _;have H:=jA h;clear h;go_in;go_wp2_with fail;go_loopw [3,4] (λs3 i wr=>∃ (t:Nat) (a:Option Addr) (m d:Nat),t<=n/\i=.int .i64 t/\s3=.slice a m d/\m=32*t/\OwnT w.heap.size wr a m d (vQ v m)/\Below w.heap.size w wr)
   (λ_ i _=>n-(intOf i).toNat)
 case atStart=>exact⟨0,none,0,0,Nat.zero_le _,rfl,rfl,rfl,h0,Below.refl _ _⟩
 case round =>
  obtain⟨t,a,m,d,ht,rfl,rfl,rfl,ho,hb⟩:=hrel;clear h0;by_cases G:t<n
  . obtain⟨wo,rfl⟩:∃wo:World,wo=wr:=⟨_,rfl⟩;go_wp2_with fail;go_loopw [3,5] (λs3 i wr=>∃ (k y:Nat) (a':Option Addr) (d':Nat),k<=32/\i=.int .u64 k/\s3=.slice a' y d'/\Hid (y=32*t+k)/\OwnT w.heap.size wr a' y d' (vQ v y)/\Below w.heap.size w wr)
      (λ_ i _=>32-(intOf i).toNat)
    (case atStart=>exact⟨0,32*t,a,d,by omega,rfl,rfl,rfl,ho,hb⟩);case round =>
     obtain⟨k,y,a',d',hk,rfl,rfl,a0,Z,J⟩:=hrel;by_cases a7:k<32
     . have a3:=(H.o.below J);have d0:=ix a3 t G;obtain⟨x,HX,a8,d1,d4⟩:=a3.at t G;obtain⟨X,rfl⟩:=Int.eq_ofNat_of_zero_le a8;have a1:=Mm b9.o hv.o.symm a7 HX.o;rw[<- a0.o] at a1;(have c8:y<=34359738368:=by rw[a0.o];omega);obtain⟨b,a4⟩:=jx2 (v.testBit y);rw[<- a4.o] at a1;(have d3:decide ((k:Int)<32)=true:=by simp;omega);have HC:=jA (World.ownsRow.alloc Z (.cells #[Value.bool b] 4));have HO:=jA Z;have a9:=J.size;have HB:=jA J;(have b4:Hid (y+1<=maxLen):=by show y+1<=maxLen;unfold maxLen;omega);clear a3 ho hb Z J;go_wp2_with (at_builtin;refine wpList_append_own _ rfl _ _ 156 rfl w.heap.size 4 i0 (.bool false) 1 1 Tryz.underlying156 hi b3 b6 b1 rfl (by decide) _ _ _ rfl HC.o ⟨wr.heap.size,0,none⟩ 1 1 [.bool b] rfl rfl ?c1 ?c2 b4.o ?c4 ?c5 ?_);case c1 =>
        intro t u ht
        match t,ht with
        | 0,ht=>simp at ht;subst ht;simp[Addr.add]
       (case c2=>intro u hu;simp at hu;subst hu;rfl);(case c4=>omega);(case c5=>simp;omega);intro v2 w1 V a5 _;obtain⟨a2,d2,rfl⟩:=xR V;have o2:OwnT w.heap.size w1 a2 (y+1) d2 (vQ v (y+1)):=by
        show w1.ownsRow _ _ _ _ _ _;rw[Qq,List.map_append,<- a4.o];exact V
       have b2:=(HB.o.alloc a9 (.cells #[Value.bool b] 4)).grown a5 (by simp;omega) (λg hg=>(HO.o.lt g hg).1);(have b8:Hid (y+1=32*t+(k+1)):=by show y+1=_;rw[a0.o,Nat.add_assoc]);clear V a5 HC HO HB;go_wp2_with fail;go_roundw;(case rel=>exact⟨k+1,y+1,a2,d2,by omega,by go_num,rfl,b8.o,o2,b2⟩);case measure=>simp[intOf];omega
     . (obtain rfl:k=32:=by omega);(have c6:y=32*(t+1):=by rw[a0.o];omega);subst c6;clear ho hb;go_wp2_with fail;go_roundw;(case rel=>exact⟨t+1,a',_,d',by omega,by go_num,rfl,rfl,Z,J⟩);case measure=>simp[intOf];omega
  . (obtain rfl:t=n:=by omega);(have a6:qi (vQ v (32*t))=val xs:=by rw[VX,Nat.mod_eq_of_lt b0.o,hv.o]);have ht:=yF a (32*t) d (vQ v (32*t)) wr ho.lst (by omega);rw[a6] at ht;have b5:=jA ht;have HB:=jA hb;clear a6 ht ho hb;go_wp2_with fail;refine b5.o.mono ?_;rintro e w2 ⟨a2,n2,c2,rfl,o2,b2⟩;go_wp2_with fail;go_ret;exact⟨a2,n2,c2,rfl,o2.low HB.o.size,kO HB.o b2 HB.o.size⟩
