/- -/
import Derived.Test.YtkefajjcpcoajaaGreatDoorPkA0
import Derived.Test.YtkefajjcpcoajaaGreatDoorPkA25
import Derived.Test.YtkefajjcpcoajaaGreatDoorPkA32
import Derived.Test.YtkefajjcpcoajaaGreatDoorPkA35
set_option linter.all false
set_option maxRecDepth 100000
set_option maxHeartbeats 12800000
namespace Go.Proofs.YtkefajjcpcoajaaGreatDoor
open Go.RowKit Lx
namespace Lx
def eqC(x y:Cst):Bool:=decide (x.name=y.name)&&decide (x.cands=y.cands)&&decide (x.method=y.method)&&decide (x.seats=y.seats)&&decide (x.ranks=y.ranks)&&decide (x.digits=y.digits)&&decide (x.ties=y.ties)&&decide (x.over=y.over)&&decide (x.skip=y.skip)
def eqT(x y:Sty):Bool:=decide (x.name=y.name)&&decide (x.precs=y.precs)&&decide (x.conts=y.conts)
def Qa{α:Type}(f:α->α->Bool):List α->List α->Bool
  | [],[]=>true
  | x :: xs,y :: ys=>f x y&&Qa f xs ys
  | _,_=>false
theorem JJ{α:Type}{f:α->α->Bool}:∀ {xs ys:List α},xs.length≠ys.length->Qa f xs ys=false
  | [],[],h=>absurd rfl h
  | [],_ :: _,_=>rfl
  | _ :: _,[],_=>rfl
  | x :: xs,y :: ys,h=>by
   rw[Qa,JJ (by simpa using h),Bool.and_false]
theorem Qb{α:Type}{f:α->α->Bool}(x y:α):∀ (xs ys:List α),xs.length=ys.length->Qa f (xs++[x]) (ys++[y])=(Qa f xs ys&&f x y)
  | [],[],_=>by simp[Qa]
  | [],_ :: _,h=>absurd h (by simp)
  | _ :: _,[],h=>absurd h (by simp)
  | a :: xs,b :: ys,h=>by
   rw[List.cons_append,List.cons_append,Qa,Qa,Qb x y xs ys (by simpa using h),Bool.and_assoc]
theorem Xy{α:Type}{f:α->α->Bool}:∀ {xs ys:List α} {j:Nat} {x y:α},xs[j]? = some x->ys[j]? = some y->f x y=false->Qa f xs ys=false
  | [],_,_,_,_,h,_,_=>by simp at h
  | _ :: _,[],_,_,_,_,h,_=>by simp at h
  | a :: xs,b :: ys,0,x,y,h,k,e=>by
   (have h1:a=x:=by simpa using h);(have m:b=y:=by simpa using k);subst h1 m;rw[Qa,e,Bool.false_and]
  | a :: xs,b :: ys,j+1,x,y,h,k,e=>by
   rw[Qa,Xy (by simpa using h) (by simpa using k) e,Bool.and_false]
def JK(xs ys:List Cst):Bool:=Qa eqC xs ys
def JL(xs ys:List Sty):Bool:=Qa eqT xs ys
theorem CO{xs ys:List Cst}(h:xs.length≠ys.length):JK xs ys=false:=JJ h
theorem CP{xs ys:List Sty}(h:xs.length≠ys.length):JL xs ys=false:=JJ h
theorem Ha(xs ys:List Cst)(x y:Cst)(h:xs.length=ys.length):JK (xs++[x]) (ys++[y])=(JK xs ys&&eqC x y):=Qb x y xs ys h
theorem Hb(xs ys:List Sty)(x y:Sty)(h:xs.length=ys.length):JL (xs++[x]) (ys++[y])=(JL xs ys&&eqT x y):=Qb x y xs ys h
theorem Ng{xs ys:List Cst}{j:Nat}{x y:Cst}(h:xs[j]? = some x)(k:ys[j]? = some y)(_:xs.length=ys.length)(e:eqC x y=false):JK xs ys=false:=Xy h k e
theorem Nh{xs ys:List Sty}{j:Nat}{x y:Sty}(h:xs[j]? = some x)(k:ys[j]? = some y)(_:xs.length=ys.length)(e:eqT x y=false):JL xs ys=false:=Xy h k e
end Lx
theorem JM{w:World}{g:Nat}{t:TypeId}{v0 v1 v2:Value}(h:Arr w g t [v0,v1,v2])(u0 u1 u2:Value):∃Z0 Z1 Z2,w.setCell ⟨g,0,none⟩ u0=Z0/\Z0.setCell ⟨g,1,none⟩ u1=Z1/\Z1.setCell ⟨g,2,none⟩ u2=Z2/\Arr Z2 g t [u0,u1,u2]/\w.grownBy Z2 (some g)/\(∀ (B:Nat) (a:World),Below B a w->B<=g->Below B a Z2)/\w.cell? ⟨g,0,none⟩=some v0/\w.frozen? ⟨g,0,none⟩=false/\Z0.cell? ⟨g,1,none⟩=some v1/\Z0.frozen? ⟨g,1,none⟩=false/\Z1.cell? ⟨g,2,none⟩=some v2/\Z1.frozen? ⟨g,2,none⟩=false:=by
 have y:=h.set 0 u0;have m:=y.set 1 u1;have G:=m.set 2 u2;refine⟨_,_,_,rfl,rfl,rfl,G,qC (qC (qM w g 0 u0) (qM _ g 1 u1)) (qM _ g 2 u2),λB a H hB=>((H.setCell (p:=⟨_,0,none⟩) hB _).setCell (p:=⟨_,1,none⟩) hB _).setCell (p:=⟨_,2,none⟩) hB _,h.cell 0,h.frozen 0,y.cell 1,y.frozen 1,m.cell 2,m.frozen 2⟩
theorem PY(xs ys:List Cst)(ao bo:Option Addr)(n c m d:Nat)(w:World)(h:CstS qU w ao n c xs)(k:CstS qU w bo m d ys) :
    Calls Tryz.prog 50 #[.slice ao n c,.slice bo m d,.func (.func 51) #[] #[]] w λe w'=>e=.returned (.bool (JK xs ys))/\Below w.heap.size w w':=by
 obtain⟨g0,i8⟩:=h.caps;obtain⟨h5,h9⟩:=k.caps;have l1:=h.len;have l2:=k.len;have H1:=jA h;have H2:=jA k;clear h k;by_cases a0:n=m
 . (have a9:((n:Int) != (m:Int))=false:=by rw[a0];simp);subst a0;have Z:=jA l1;have a1:=jA l2;clear l1 l2;go_in;go_wp2_with fail;(go_loopw [17] (λi wr=>∃j:Nat,j<=n/\i=.int .i64 (j:Int)/\Hid (JK (xs.take j) (ys.take j)=true)/\Hid (Below w.heap.size w wr)) (λi _=>n-(intOf i).toNat));(case atStart=>exact⟨0,Nat.zero_le _,rfl,rfl,Below.refl _ _⟩);case round =>
    obtain⟨w1,b1⟩:∃x,x=wr:=⟨_,rfl⟩;subst b1;obtain⟨j,hj,rfl,HE,B⟩:=hrel;by_cases a5:j<n
    . (have a6:(j:Int)<(n:Int):=by omega);obtain⟨x,a,vo,vn,vc,hx,i1,c0,c1,c2,c3,c4,c5,c6,c7,c8,SX⟩:=(CstS.keep H1.o qJ (qD _ B.o)).get j a5;obtain⟨y,b,uo,un,uc,hy,i2,d0,d1,d2,d3,d4,d5,d6,d7,d8,SY⟩:=(CstS.keep H2.o qJ (qD _ B.o)).get j a5;have hx:=jA hx;have hy:=jA hy;obtain⟨KX,a4⟩:∃K,Hid (stg x.name=K):=⟨_,rfl⟩;obtain⟨KY,a8⟩:∃K,Hid (stg y.name=K):=⟨_,rfl⟩;rw[a4.o] at c0;rw[a8.o] at d0;obtain⟨V1,f1,A1,B1,z1⟩:=qG w1 76 [.string ⟨#[]⟩,.slice none 0 0,.int .i64 0,.int .i64 0,.int .i64 0,.int .i64 0,.int .i64 0,.int .i64 0,.int .i64 0];obtain⟨p,hp⟩:=jx3 (w1.heap.size);rw[hp] at A1;obtain⟨k2,h6,l9,e9,e4,k5,j2,g8,H,b2,e6,e0,f5,i9,i0,e2,g2,e3,PA,PG,PL,f9,k0,b4,g3,k6,m1,h8,m3,j0,k4,j1,m4,j5,f4,l3,g6,d9,l5⟩:=JI A1 (.string KX) (.slice vo vn vc) (.int .i64 x.method) (.int .i64 x.seats) (.int .i64 x.ranks) (.int .i64 x.digits) (.int .i64 x.ties) (.int .i64 x.over) (.int .i64 x.skip);have G:Below w1.heap.size w1 H:=PL _ _ B1 (by omega);have g5:=qA d0 G;have h7:=qA d1 G;have i3:=qA d2 G;have i4:=qA d3 G;have j3:=qA d4 G;have h2:=qA d5 G;have g4:=qA d6 G;have l4:=qA d7 G;have b3:=qA d8 G;obtain⟨V2,f2,A2,B2,z2⟩:=qG H 76 [.string ⟨#[]⟩,.slice none 0 0,.int .i64 0,.int .i64 0,.int .i64 0,.int .i64 0,.int .i64 0,.int .i64 0,.int .i64 0];obtain⟨q,hq⟩:=jx3 (H.heap.size);rw[hq] at A2;obtain⟨b9,i7,h1,f7,h0,k7,m2,b8,J,e5,f6,m5,l8,f0,b7,g9,b6,i6,QA,QG,QL,k9,f8,e7,k1,g7,j4,b5,f3,m0,e8,i5,l7,l6,l0,h4,e1,g1,k3⟩:=JI A2 (.string KY) (.slice uo un uc) (.int .i64 y.method) (.int .i64 y.seats) (.int .i64 y.ranks) (.int .i64 y.digits) (.int .i64 y.ties) (.int .i64 y.over) (.int .i64 y.skip);have a2:Below H.heap.size H J:=QL _ _ B2 (by omega);have V:Below w1.heap.size w1 J:=G.trans (a2.mono G.size);have a7:=PA.kept a2;obtain⟨s0,s1,s2,s3,s4,s5,s6,s7,s8⟩:=a7.c9;obtain⟨t0,t1,t2,t3,t4,t5,t6,t7,t8⟩:=QA.c9;have HC:=Nc x y vo uo vn vc un uc J (StrL.below SX V) (StrL.below SY V);obtain⟨R,hR⟩:=jx3 ((eqC x y));have a3:(decide (x.name=y.name)&&decide (x.cands=y.cands)&&decide (x.method=y.method)&&decide (x.seats=y.seats)&&decide (x.ranks=y.ranks)&&decide (x.digits=y.digits)&&decide (x.ties=y.ties)&&decide (x.over=y.over)&&decide (x.skip=y.skip))=R:=hR;rw[a3,a4.o,a8.o] at HC;replace HC:=jA HC;have BQ:Hid (Below w.heap.size w J):=B.o.trans (V.mono B.o.size);clear PA PG PL a7 QA QG QL A1 A2 B1 B2 z1 z2 G a2 V SX SY;clear a3;cases R with
      | true =>
       have b0:Hid (JK (xs.take (j+1)) (ys.take (j+1))=true):=by
        show _=_;rw[qg hx.o,qg hy.o,Ha _ _ _ _ (by rw[List.length_take,List.length_take,Z.o,a1.o]),HE.o,hR];rfl
       clear HE hR;go_wp2_with fail;refine HC.o.mono ?_;rintro e w3 ⟨rfl,B3⟩;have BZ:Hid (Below w.heap.size w w3):=BQ.o.trans (B3.mono BQ.o.size);clear HC B3 BQ;go_wp2_with fail;go_roundw;(case rel=>exact⟨j+1,by omega,by go_num,b0,BZ⟩);case measure=>simp[intOf];omega
      | false =>
       have hD:Hid (JK xs ys=false):=Ng hx.o hy.o (by rw[Z.o,a1.o]) hR;clear HE hR;go_wp2_with fail;refine HC.o.mono ?_;rintro e w3 ⟨rfl,B3⟩;have BZ:Hid (Below w.heap.size w w3):=BQ.o.trans (B3.mono BQ.o.size);clear HC B3 BQ;go_wp2_with fail;go_ret;exact⟨by rw[hD.o];rfl,BZ.o⟩
    . (have a6:¬ (j:Int)<(n:Int):=by omega);have hD:Hid (JK xs ys=true):=by
       have h3:=HE.o;rw[List.take_of_length_le (by have:=Z.o;omega),List.take_of_length_le (by have:=a1.o;omega)] at h3;exact h3
      clear HE;go_wp2_with fail;go_ret;exact⟨by rw[hD.o];rfl,B.o⟩
 . (have a9:((n:Int) != (m:Int))=true:=by simp;omega);have hD:Hid (JK xs ys=false):=CO (by omega);rw[hD.o];clear l1 l2 a0;go_in;go_wp2_with fail;go_ret;exact⟨rfl,Below.refl _ _⟩
theorem PZ(xs ys:List Sty)(ao bo:Option Addr)(n c m d:Nat)(w:World)(h:StyS qU w ao n c xs)(k:StyS qU w bo m d ys) :
    Calls Tryz.prog 52 #[.slice ao n c,.slice bo m d,.func (.func 53) #[] #[]] w λe w'=>e=.returned (.bool (JL xs ys))/\Below w.heap.size w w':=by
 obtain⟨e3,b8⟩:=h.caps;obtain⟨e9,b4⟩:=k.caps;have l1:=h.len;have l2:=k.len;have H1:=jA h;have H2:=jA k;clear h k;by_cases a2:n=m
 . (have a9:((n:Int) != (m:Int))=false:=by rw[a2];simp);subst a2;have Z:=jA l1;have a0:=jA l2;clear l1 l2;go_in;go_wp2_with fail;(go_loopw [17] (λi wr=>∃j:Nat,j<=n/\i=.int .i64 (j:Int)/\Hid (JL (xs.take j) (ys.take j)=true)/\Hid (Below w.heap.size w wr)) (λi _=>n-(intOf i).toNat));(case atStart=>exact⟨0,Nat.zero_le _,rfl,rfl,Below.refl _ _⟩);case round =>
    obtain⟨w1,b1⟩:∃x,x=wr:=⟨_,rfl⟩;subst b1;obtain⟨j,hj,rfl,HE,B⟩:=hrel;by_cases a5:j<n
    . (have a6:(j:Int)<(n:Int):=by omega);obtain⟨x,a,vo,vO,vn,vc,vN,vC,hx,i1,c0,c1,c2,SX,TX⟩:=(StyS.keep H1.o qJ (qD _ B.o)).get j a5;obtain⟨y,b,uo,uO,un,uc,uN,uC,hy,i2,d0,d1,d2,SY,TY⟩:=(StyS.keep H2.o qJ (qD _ B.o)).get j a5;have hx:=jA hx;have hy:=jA hy;obtain⟨KX,a4⟩:∃K,Hid (stg x.name=K):=⟨_,rfl⟩;obtain⟨KY,a8⟩:∃K,Hid (stg y.name=K):=⟨_,rfl⟩;rw[a4.o] at c0;rw[a8.o] at d0;obtain⟨V1,f1,A1,B1,z1⟩:=qG w1 60 [.string ⟨#[]⟩,.slice none 0 0,.slice none 0 0];obtain⟨p,hp⟩:=jx3 (w1.heap.size);rw[hp] at A1;obtain⟨d5,f0,J,b2,d6,c6,PA,PG,PL,e2,d3,b6,e4,d8,e5⟩:=JM A1 (.string KX) (.slice vo vn vc) (.slice vO vN vC);have G:Below w1.heap.size w1 J:=PL _ _ B1 (by omega);have e6:=qA d0 G;have b3:=qA d1 G;have b5:=qA d2 G;obtain⟨V2,f2,A2,B2,z2⟩:=qG J 60 [.string ⟨#[]⟩,.slice none 0 0,.slice none 0 0];obtain⟨q,hq⟩:=jx3 (J.heap.size);rw[hq] at A2;obtain⟨b9,b7,V,c8,e0,e8,QA,QG,QL,d9,e1,d7,d4,e7,c7⟩:=JM A2 (.string KY) (.slice uo un uc) (.slice uO uN uC);have a1:Below J.heap.size J V:=QL _ _ B2 (by omega);have H:Below w1.heap.size w1 V:=G.trans (a1.mono G.size);have a7:=PA.kept a1;obtain⟨s0,s1,s2⟩:=a7.c3;obtain⟨t0,t1,t2⟩:=QA.c3;have HC:=Nd x y vo uo vO uO vn vc un uc vN vC uN uC V (Row.keep SX qJ (qD _ H)) (Row.keep SY qJ (qD _ H)) (Row.keep TX qJ (qD _ H)) (Row.keep TY qJ (qD _ H));obtain⟨R,hR⟩:=jx3 ((eqT x y));have a3:(decide (x.name=y.name)&&decide (x.precs=y.precs)&&decide (x.conts=y.conts))=R:=hR;rw[a3,a4.o,a8.o] at HC;replace HC:=jA HC;have BQ:Hid (Below w.heap.size w V):=B.o.trans (H.mono B.o.size);clear PA PG PL a7 QA QG QL A1 A2 B1 B2 z1 z2 G a1 H SX TX SY TY;clear a3;cases R with
      | true =>
       have b0:Hid (JL (xs.take (j+1)) (ys.take (j+1))=true):=by
        show _=_;rw[qg hx.o,qg hy.o,Hb _ _ _ _ (by rw[List.length_take,List.length_take,Z.o,a0.o]),HE.o,hR];rfl
       clear HE hR;go_wp2_with fail;refine HC.o.mono ?_;rintro e w3 ⟨rfl,B3⟩;have BZ:Hid (Below w.heap.size w w3):=BQ.o.trans (B3.mono BQ.o.size);clear HC B3 BQ;go_wp2_with fail;go_roundw;(case rel=>exact⟨j+1,by omega,by go_num,b0,BZ⟩);case measure=>simp[intOf];omega
      | false =>
       have hD:Hid (JL xs ys=false):=Nh hx.o hy.o (by rw[Z.o,a0.o]) hR;clear HE hR;go_wp2_with fail;refine HC.o.mono ?_;rintro e w3 ⟨rfl,B3⟩;have BZ:Hid (Below w.heap.size w w3):=BQ.o.trans (B3.mono BQ.o.size);clear HC B3 BQ;go_wp2_with fail;go_ret;exact⟨by rw[hD.o];rfl,BZ.o⟩
    . (have a6:¬ (j:Int)<(n:Int):=by omega);have hD:Hid (JL xs ys=true):=by
       have h3:=HE.o;rw[List.take_of_length_le (by have:=Z.o;omega),List.take_of_length_le (by have:=a0.o;omega)] at h3;exact h3
      clear HE;go_wp2_with fail;go_ret;exact⟨by rw[hD.o];rfl,B.o⟩
 . (have a9:((n:Int) != (m:Int))=true:=by simp;omega);have hD:Hid (JL xs ys=false):=CP (by omega);rw[hD.o];clear l1 l2 a2;go_in;go_wp2_with fail;go_ret;exact⟨rfl,Below.refl _ _⟩
